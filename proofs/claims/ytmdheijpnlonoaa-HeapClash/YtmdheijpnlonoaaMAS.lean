import Derived.Test.YtmdheijpnlonoaaMAR
import Derived.KernelRfl
import Derived.Test.YtmdheijpnlonoaaMAI
namespace Go.Proofs.Ytmdheijpnlonoaa
open Go Go.AbsE
set_option linter.unusedSimpArgs false
set_option maxRecDepth 100000
set_option maxHeartbeats 0
set_option linter.unusedVariables false

theorem valid_bad {F : FieldV} (hno : ¬ F.Ok) (hsl rsl lsl : AVal) (h : AH) (A : FieldAt h F hsl rsl lsl) (hb1 : F.hs.length ≤ 40) (hb2 : F.rs.length ≤ 40) (hb3 : F.looks.length ≤ 40) :
    Runs Try.prog 65 [.agg (F.cells hsl rsl lsl)] h (fun en h' => en = .ret (.bool false) ∧ Ext h h') :=
  (valid_is F hsl rsl lsl h A hb1 hb2 hb3).mono fun en h' ⟨r, q, k, e⟩ => by
    cases r with
    | true => exact absurd (k.1 rfl) hno
    | false => exact ⟨q, e⟩
/-- Work on heaps that are not valid is given up. -/
theorem attempt_bad {F : FieldV} (hno : ¬ F.Ok) (hb1 : F.hs.length ≤ 40) (hb2 : F.rs.length ≤ 40) (hb3 : F.looks.length ≤ 40) (hsl rsl lsl : AVal) (h : AH) (A : FieldAt h F hsl rsl lsl) (W : FuncId) (caps : List AVal) :
    Runs Try.prog 34 [.agg (F.cells hsl rsl lsl), .func (.func W) [] caps] h (fun en h' => en = .ret (.int .i64 1) ∧ Ext h h') := by
  have hv := fun h A => valid_bad hno hsl rsl lsl h A hb1 hb2 hb3
  unfold FieldV.cells fieldC at hv ⊢
  refine Runs.intro aFunc34 rfl rfl rfl rfl fun rest => ?_
  refine Go.seq noJ_ok ?_
  refine Go.region noJ_ok rfl ?_
  refine GoR.box rfl rfl rfl rfl rfl rfl fun h0 x0 f0 => ?_
  have e0 := x0
  have := f0.1
  refine GoR.alloc rfl rfl rfl zt35 rfl rfl fun h1 x1 f1 => ?_
  have := e0.1
  have := f0.1
  replace f0 := f0.ext x1
  replace e0 := e0.trans x1
  have := f1.1
  refine GoR.end ?_
  refine Go.seq noJ_ok ?_
  refine Go.region noJ_ok rfl ?_
  refine GoR.op rfl rfl rfl rfl ?_
  have hx0 := x0.1
  have hx1 := x1.1
  refine GoR.defer rfl rfl rfl rfl ?_
  refine GoR.end ?_
  refine Go.seq noJ_ok ?_
  refine Go.region noJ_ok rfl ?_
  refine GoR.op rfl rfl (ld27 rfl f0 rfl) rfl ?_
  refine GoR.call rfl rfl (aOp_callFunc aFunc65 rfl) (hv _ (A.ext e0)) ?_ (by rintro _ _ ⟨q, _⟩; cases q)
  rintro v2 h2 ⟨q, x2⟩
  cases q
  refine ⟨_, rfl, ?_⟩
  replace f1 := f1.ext x2
  replace f0 := f0.ext x2
  replace e0 := e0.trans x2
  refine GoR.op rfl rfl rfl rfl ?_
  refine GoR.callP rfl rfl (aOp_callFunc aFunc55 rfl) (refuse_ok true 1 _) (by rintro _ _ ⟨_, ⟨q, _⟩ | ⟨_, q⟩⟩ <;> cases q) ?_
  rintro chain h9 ⟨rfl, ⟨q, _⟩ | ⟨_, q⟩⟩
  · cases q
  have q := AEnd.pan.inj q
  subst q
  have hx9 := e0.1
  refine attempt_pan rfl f1 fun h' n1 n2 => ⟨rfl, ?_, fun b hb => by rw [n2 b (by omega) (by omega), e0.2 b hb]⟩
  omega
theorem False_bad {F : FieldV} (hno : ¬ F.Ok) (hb1 : F.hs.length ≤ 40) (hb2 : F.rs.length ≤ 40) (hb3 : F.looks.length ≤ 40) (hsl rsl lsl : AVal) (h : AH) (A : FieldAt h F hsl rsl lsl) :
    Runs Try.prog 18 [.agg (F.cells hsl rsl lsl)] h (fun en h' => en = .ret (.tuple [.int .i64 0, .int .i64 0, .int .i64 1]) ∧ Ext h h') := by
  have hat := attempt_bad hno hb1 hb2 hb3 hsl rsl lsl
  unfold FieldV.cells fieldC at hat ⊢
  refine Runs.intro aFunc18 rfl rfl rfl rfl fun rest => ?_
  refine Go.seq noJ_ok ?_
  refine Go.region noJ_ok rfl ?_
  refine GoR.box rfl rfl rfl rfl rfl rfl fun h0 x0 f0 => ?_
  have e0 := x0
  have := f0.1
  refine GoR.alloc rfl rfl rfl zt3 rfl rfl fun h1 x1 f1 => ?_
  have := e0.1
  have := f0.1
  replace f0 := f0.ext x1
  replace e0 := e0.trans x1
  have := f1.1
  refine GoR.alloc rfl rfl rfl zt3 rfl rfl fun h2 x2 f2 => ?_
  have := e0.1
  have := f1.1
  have := f0.1
  replace f1 := f1.ext x2
  replace f0 := f0.ext x2
  replace e0 := e0.trans x2
  have := f2.1
  refine GoR.op rfl rfl rfl rfl ?_
  refine GoR.end ?_
  refine Go.seq noJ_ok ?_
  refine Go.region noJ_ok rfl ?_
  refine GoR.op rfl rfl (ld27 rfl f0 rfl) rfl ?_
  refine GoR.op rfl rfl rfl rfl ?_
  refine GoR.call rfl rfl (aOp_callFunc aFunc34 rfl) (hat _ (A.ext e0) 48 _) ?_ (by rintro _ _ ⟨q, _⟩; cases q)
  rintro v3 h3 ⟨q, x3⟩
  cases q
  refine ⟨_, rfl, ?_⟩
  replace f2 := f2.ext x3
  replace f1 := f1.ext x3
  replace f0 := f0.ext x3
  replace e0 := e0.trans x3
  refine GoR.op rfl rfl rfl rfl ?_
  refine GoR.end ?_
  refine Go.seq noJ_ok ?_
  refine Go.drawnE plan18_0 ?_
  refine GoE.quiet rfl rfl (ld3 rfl f1 rfl) rfl ?_
  refine GoE.quiet rfl rfl (ld3 rfl f2 rfl) rfl ?_
  refine GoE.quiet rfl rfl rfl rfl ?_
  refine GoE.store rfl rfl rfl rfl (dropF_keep (show bit? 1 2 = false from rfl) (dropF_keep (show bit? 1 1 = false from rfl) (dropF_drop (show bit? 1 0 = true from rfl) rfl))) rfl rfl f1 rfl sz3 rfl rfl rfl fun h4 u4 => ?_
  replace f2 := f2.upd u4 (by omega)
  replace f1 := u4.has f1
  replace f0 := f0.upd u4 (by omega)
  first | replace e0 := e0.upd u4 (by omega) | clear e0
  refine ⟨(recheck_cons (h2 := h4) rfl (rfl) (by first | rfl | exact sameA_int _ _ | exact sameA_bool _ | exact sameA_agg2 _ _ | assumption | (simp [sameA, sameAs, eqI_eq]; done)) (recheck_cons (h2 := h4) rfl (ld3 rfl f2 rfl) (by first | rfl | exact sameA_int _ _ | exact sameA_bool _ | exact sameA_agg2 _ _ | assumption | (simp [sameA, sameAs, eqI_eq]; done)) recheck_nil)), ?_⟩
  refine GoE.store rfl rfl rfl rfl (dropF_keep (show bit? 11 2 = false from rfl) (dropF_drop (show bit? 11 1 = true from rfl) rfl)) rfl rfl f2 rfl sz3 rfl rfl rfl fun h5 u5 => ?_
  replace f2 := u5.has f2
  replace f1 := f1.upd u5 (by omega)
  replace f0 := f0.upd u5 (by omega)
  first | replace e0 := e0.upd u5 (by omega) | clear e0
  refine ⟨(recheck_cons (h2 := h5) rfl (rfl) (by first | rfl | exact sameA_int _ _ | exact sameA_bool _ | exact sameA_agg2 _ _ | assumption | (simp [sameA, sameAs, eqI_eq]; done)) recheck_nil), ?_⟩
  refine GoE.quiet rfl rfl rfl rfl ?_
  refine GoE.end rfl ?_
  exact Go.ret noJ_ok (ret_end (aResult_of Try.func18 rfl (aResults_cellC rfl f1 (inCells_one ag3 rfl) (aResults_cellC rfl f2 (inCells_one ag3 rfl) rfl))) ⟨rfl, e0⟩)
theorem Clash_bad {F : FieldV} (hno : ¬ F.Ok) (hb1 : F.hs.length ≤ 40) (hb2 : F.rs.length ≤ 40) (hb3 : F.looks.length ≤ 40) (hsl rsl lsl : AVal) (h : AH) (A : FieldAt h F hsl rsl lsl) :
    Runs Try.prog 19 [.agg (F.cells hsl rsl lsl)] h (fun en h' => en = .ret (.tuple [.int .i64 0, .int .i64 1]) ∧ Ext h h') := by
  have hat := attempt_bad hno hb1 hb2 hb3 hsl rsl lsl
  unfold FieldV.cells fieldC at hat ⊢
  refine Runs.intro aFunc19 rfl rfl rfl rfl fun rest => ?_
  refine Go.seq noJ_ok ?_
  refine Go.region noJ_ok rfl ?_
  refine GoR.box rfl rfl rfl rfl rfl rfl fun h0 x0 f0 => ?_
  have e0 := x0
  have := f0.1
  refine GoR.alloc rfl rfl rfl zt3 rfl rfl fun h1 x1 f1 => ?_
  have := e0.1
  have := f0.1
  replace f0 := f0.ext x1
  replace e0 := e0.trans x1
  have := f1.1
  refine GoR.op rfl rfl rfl rfl ?_
  refine GoR.end ?_
  refine Go.seq noJ_ok ?_
  refine Go.region noJ_ok rfl ?_
  refine GoR.op rfl rfl (ld27 rfl f0 rfl) rfl ?_
  refine GoR.op rfl rfl rfl rfl ?_
  refine GoR.call rfl rfl (aOp_callFunc aFunc34 rfl) (hat _ (A.ext e0) 54 _) ?_ (by rintro _ _ ⟨q, _⟩; cases q)
  rintro v2 h2 ⟨q, x2⟩
  cases q
  refine ⟨_, rfl, ?_⟩
  replace f1 := f1.ext x2
  replace f0 := f0.ext x2
  replace e0 := e0.trans x2
  refine GoR.op rfl rfl rfl rfl ?_
  refine GoR.end ?_
  refine Go.seq noJ_ok ?_
  refine Go.region noJ_ok rfl ?_
  refine GoR.op rfl rfl (ld3 rfl f1 rfl) rfl ?_
  refine GoR.op rfl rfl rfl rfl ?_
  refine GoR.store rfl rfl rfl rfl rfl rfl f1 rfl sz3 rfl rfl rfl fun h3 u3 => ?_
  replace f1 := u3.has f1
  replace f0 := f0.upd u3 (by omega)
  first | replace e0 := e0.upd u3 (by omega) | clear e0
  refine GoR.op rfl rfl rfl rfl ?_
  refine GoR.end ?_
  exact Go.ret noJ_ok (ret_end (aResult_of Try.func19 rfl (aResults_cellC rfl f1 (inCells_one ag3 rfl) rfl)) ⟨rfl, e0⟩)
end Go.Proofs.Ytmdheijpnlonoaa

namespace Go.Proofs.Ytmdheijpnlonoaa
open Go Go.AbsE
set_option linter.unusedSimpArgs false
set_option maxRecDepth 100000
set_option maxHeartbeats 0
set_option linter.unusedVariables false

/-! Sets of looks. -/
theorem bit_nat : ∀ s, s < 32 → ∀ i, i < 5 → bitB (s : Nat) i = s.testBit i := by decide
theorem bit_neg : ∀ s, s < 32 → ∀ i, i < 5 → bitB (-(s : Nat) - 1) i = !s.testBit i := by decide
/-- The looks that are in a set. -/
def onL (b : Nat → Bool) : Nat → List LookV → List LookV
  | _, [] => []
  | k, x :: L => if b k then x :: onL b (k + 1) L else onL b (k + 1) L
theorem onL_congr {b b' : Nat → Bool} : ∀ {L : List LookV} {k : Nat}, (∀ i, k ≤ i → i < k + L.length → b i = b' i) → onL b k L = onL b' k L
  | [], _, _ => rfl
  | x :: L, k, h => by
    have ih := onL_congr (b := b) (b' := b') (L := L) (k := k + 1) fun i h1 h2 => h i (by omega) (by simp only [List.length_cons]; omega)
    have h0 := h k (Nat.le_refl _) (by simp)
    unfold onL
    rw [h0, ih]
theorem wo_on (out : Int) : ∀ (L : List LookV) (k : Nat), wo out k L = onL (fun i => !bitB out i) k L
  | [], _ => rfl
  | x :: L, k => by
    unfold wo onL
    rw [wo_on out L (k + 1)]
    cases bitB out k <;> rfl
theorem onL_all : ∀ (L : List LookV) (k : Nat), onL (fun _ => true) k L = L
  | [], _ => rfl
  | x :: L, k => by
    unfold onL
    rw [onL_all L (k + 1), if_pos rfl]
theorem onL_mem {b : Nat → Bool} : ∀ {k : Nat} {L : List LookV} {x : LookV}, x ∈ onL b k L → x ∈ L
  | _, [], _, h => h
  | k, y :: L, x, h => by
    unfold onL at h
    split at h
    · rcases List.mem_cons.1 h with rfl | h
      · exact List.mem_cons_self
      · exact List.mem_cons_of_mem _ (onL_mem h)
    · exact List.mem_cons_of_mem _ (onL_mem h)
theorem onL_len {b : Nat → Bool} : ∀ {k : Nat} {L : List LookV}, (onL b k L).length ≤ L.length
  | _, [] => Nat.le_refl _
  | k, y :: L => by
    have := onL_len (b := b) (k := k + 1) (L := L)
    unfold onL
    split
    · simp; omega
    · simp; omega
theorem onL_sub {b b' : Nat → Bool} (h : ∀ i, b i = true → b' i = true) : ∀ {k : Nat} {L : List LookV} {x : LookV}, x ∈ onL b k L → x ∈ onL b' k L
  | _, [], _, q => q
  | k, y :: L, x, q => by
    unfold onL at q ⊢
    cases hb : b k with
    | true =>
      rw [hb, if_pos rfl] at q
      rw [h k hb, if_pos rfl]
      rcases List.mem_cons.1 q with rfl | q
      · exact List.mem_cons_self
      · exact List.mem_cons_of_mem _ (onL_sub h q)
    | false =>
      rw [hb, if_neg (by decide)] at q
      have := onL_sub h q
      split
      · exact List.mem_cons_of_mem _ this
      · exact this
/-- Whether there is a truth with the looks of a set alone. -/
def FieldV.canOn (F : FieldV) (b : Nat → Bool) : Bool := (F.withL (onL b 0 F.looks)).canB
theorem canOn_congr {F : FieldV} {b b' : Nat → Bool} (h : ∀ i, i < F.looks.length → b i = b' i) : F.canOn b = F.canOn b' := by
  unfold FieldV.canOn
  rw [onL_congr fun i h1 h2 => h i (by omega)]
theorem canWo_on (F : FieldV) (out : Int) : F.canWo out = F.canOn fun i => !bitB out i := by
  unfold FieldV.canWo FieldV.canOn
  rw [wo_on]
theorem canOn_all (F : FieldV) : F.canOn (fun _ => true) = F.canB := by
  unfold FieldV.canOn
  rw [onL_all]
  rfl
theorem possB_sub {a b c : Int} {t t' : TurfV} (hp : t.p = t'.p) (hlo : t.lo = t'.lo) (hhi : t.hi = t'.hi) (hl : ∀ l, l ∈ t.looks → l ∈ t'.looks) {rs : List Int} (h : possB a b c t' rs = true) : possB a b c t rs = true := by
  unfold possB at h ⊢
  have hall : allC a b c t rs = allC a b c t' rs := by unfold allC; rw [hp, hlo, hhi]
  cases q : rightC a b c t' rs with
  | nil => rw [q] at h; cases h
  | cons x xs =>
    have hx : x ∈ rightC a b c t' rs := by rw [q]; exact List.mem_cons_self
    obtain ⟨h1, h2⟩ := List.mem_filter.1 hx
    have hx2 : x ∈ rightC a b c t rs := by
      refine List.mem_filter.2 ⟨by rw [hall]; exact h1, ?_⟩
      unfold suitsB at h2 ⊢
      rw [List.all_eq_true] at h2 ⊢
      exact fun l hl' => h2 l (hl l hl')
    cases q2 : rightC a b c t rs with
    | nil => rw [q2] at hx2; cases hx2
    | cons y ys => rfl
/-- With fewer looks there is a truth no less. -/
theorem canOn_mono {F : FieldV} {b b' : Nat → Bool} (h : ∀ i, i < F.looks.length → b i = true → b' i = true) (hc : F.canOn b' = true) : F.canOn b = true := by
  have hb : F.canOn b = F.canOn fun i => b i && b' i := canOn_congr fun i hi => by
    cases q : b i with
    | true => rw [h i hi q]; rfl
    | false => rfl
  rw [hb]
  unfold FieldV.canOn at hc ⊢
  rw [canB_iff] at hc ⊢
  obtain ⟨l, hl, k⟩ := hc
  refine ⟨l, hl, fun T hT => ?_⟩
  obtain ⟨i, hi, rfl⟩ := List.mem_mapIdx.1 hT
  have hi' : i < F.hs.length := hi
  have hk : possB F.a F.b F.c (turfAt (onL b' 0 F.looks) i (F.hs[i]'hi')) l = true := k (turfAt (onL b' 0 F.looks) i (F.hs[i]'hi')) (List.mem_mapIdx.2 ⟨i, hi, rfl⟩)
  show possB F.a F.b F.c (turfAt (onL (fun i => b i && b' i) 0 F.looks) i (F.hs[i]'hi')) l = true
  refine possB_sub (t := turfAt (onL (fun i => b i && b' i) 0 F.looks) i (F.hs[i]'hi')) (t' := turfAt (onL b' 0 F.looks) i (F.hs[i]'hi')) rfl rfl rfl (fun x hx => ?_) hk
  obtain ⟨h1, h2⟩ := List.mem_filter.1 hx
  exact List.mem_filter.2 ⟨onL_sub (fun i q => by simp at q; exact q.2) h1, h2⟩
theorem canOn_none {F : FieldV} (O : F.Ok) : F.canOn (fun _ => false) = true := by
  have h0 : ∀ (L : List LookV) (k : Nat), onL (fun _ => false) k L = [] := by
    intro L
    induction L with
    | nil => intro k; rfl
    | cons x L ih => intro k; unfold onL; rw [if_neg (by decide)]; exact ih _
  unfold FieldV.canOn
  rw [h0]
  have O2 : (F.withL []).Ok := O.withL (fun l h => by cases h) (by simp)
  rw [canB_ents O2]
  exact bare_ne O2 rfl
/-- Whether the looks of a set clash. -/
def FieldV.cl (F : FieldV) (t : Nat) : Bool := !F.canOn fun i => t.testBit i
theorem onL_app {b : Nat → Bool} {x : LookV} : ∀ {A : List LookV} {k : Nat}, onL b k (A ++ [x]) = onL b k A ++ (if b (k + A.length) then [x] else [])
  | [], k => by
    show onL b k [x] = [] ++ _
    unfold onL
    cases q : b k with
    | true => rw [if_pos rfl]; simp [q, onL]
    | false => rw [if_neg (by decide)]; simp [q, onL]
  | y :: A, k => by
    have ih := onL_app (b := b) (x := x) (A := A) (k := k + 1)
    rw [List.cons_append]
    conv => lhs; unfold onL
    conv => rhs; unfold onL
    rw [ih, show k + 1 + A.length = k + (y :: A).length by simp only [List.length_cons]; omega]
    cases b k <;> rfl

theorem clash31_ok {F : FieldV} (O : F.Ok) (hsl rsl lsl : AVal) (t : Nat) (ht : t < 32) (bh : Nat) (h : AH) (A : FieldAt h F hsl rsl lsl) (fh : Has h bh (.cells .plain (F.cells hsl rsl lsl) 27)) :
    Runs Try.prog 31 [.int .i64 (t : Nat), .ptr bh 0] h (fun en h' => en = .ret (.bool (F.cl t)) ∧ Ext h h') := by
  have hl3 := A.ls.len
  rw [List.length_map] at hl3
  have hnl := O.nl
  obtain ⟨hs1, hc1⟩ := A.hs.scal
  obtain ⟨hs2, hc2⟩ := A.rs.scal
  obtain ⟨hs3, hc3⟩ := A.ls.scal
  have hsc : scalars [hsl, rsl, .int .i64 F.a, .int .i64 F.b, .int .i64 F.c, .int .i64 F.lim, lsl] = true := by
    unfold scalars
    rw [scal_one hs1]
    simp only [scalars, scal_one hs2, scal_one hs3, cond_true]
    rfl
  have e0 : Ext h h := Ext.refl _
  unfold FieldV.cells fieldC at fh
  have hbh := fh.1
  refine Runs.intro aFunc31 rfl rfl rfl rfl fun rest => ?_
  refine Go.seq noJ_ok ?_
  refine Go.region noJ_ok rfl ?_
  refine GoR.op rfl rfl rfl rfl ?_
  refine GoR.end ?_
  refine Go.seq noJ_ok ?_
  refine Go.region noJ_ok rfl ?_
  refine GoR.op rfl rfl (ld27 rfl fh rfl) rfl ?_
  refine GoR.alloc rfl rfl rfl zt27 rfl rfl fun h0 x0 f0 => ?_
  have := e0.1
  have := fh.1
  replace fh := fh.ext x0
  replace e0 := e0.trans x0
  have := f0.1
  refine GoR.store rfl rfl rfl rfl rfl rfl f0 rfl sz27 rfl hsc rfl fun h1 u1 => ?_
  replace f0 := u1.has f0
  replace fh := fh.upd u1 (by omega)
  first | replace e0 := e0.upd u1 (by omega) | clear e0
  refine GoR.end ?_
  refine Go.seq noJ_ok ?_
  refine Go.region noJ_ok rfl ?_
  refine GoR.op rfl rfl (fa27_4 rfl) rfl ?_
  refine GoR.store rfl rfl rfl rfl rfl rfl f0 rfl sz25 rfl rfl rfl fun h2 u2 => ?_
  replace f0 := u2.has f0
  replace fh := fh.upd u2 (by omega)
  first | replace e0 := e0.upd u2 (by omega) | clear e0
  refine GoR.end ?_
  iterate 2 refine Go.seq noJ_ok ?_
  refine Go.region noJ_ok rfl ?_
  refine GoR.op rfl rfl (fa27_4 rfl) rfl ?_
  refine GoR.op rfl rfl (ld25 rfl fh rfl) rfl ?_
  refine GoR.op rfl rfl (aOp_lenSlice Try.underlying25 rfl hl3) rfl ?_
  refine GoR.op rfl rfl rfl rfl ?_
  refine GoR.end ?_
  refine Go.block noJ_ok ?_
  have hb0 := f0.1
  have hn2 : h2.next = h0.next := by rw [u2.1, u1.1]
  refine Go.loopKeep (fun a : Nat × AVal => [(0, .int .i64 (t : Nat)), (4, .ptr h.next 0), (12, lsl), (13, .int .i64 F.looks.length), (14, .int .i64 (a.1 : Nat))])
    (fun m a h' => m + a.1 = F.looks.length ∧ Ext h h' ∧ h2.next ≤ h'.next ∧ Has h' h.next (.cells .plain [hsl, rsl, .int .i64 F.a, .int .i64 F.b, .int .i64 F.c, .int .i64 F.lim, a.2] 27) ∧ Grow h' 59 4 h2.next a.2 (onL (fun i => t.testBit i) 0 (F.looks.take a.1)).length ((onL (fun i => t.testBit i) 0 (F.looks.take a.1)).flatMap LookV.cells))
    (n := F.looks.length) (0, .nilslice) ⟨rfl, rfl, rfl, rfl, rfl, trivial⟩ ⟨rfl, e0, Nat.le_refl _, f0, Grow.nil _ _ _ _⟩ ?_
  clear e0 f0 fh
  rintro m ⟨i, sl⟩ h10 ⟨hm, e0, hn10, f0, G⟩ again
  dsimp only at hm f0 G ⊢
  by_cases hi : i < F.looks.length
  · obtain ⟨x, hx⟩ : ∃ x, F.looks[i]? = some x := ⟨F.looks[i], by simp [hi]⟩
    obtain ⟨bq, off, q1, q2⟩ := (A.ls.ext e0).at (i := i) (l := LookV.cells x) (by rw [List.getElem?_map, hx]; rfl)
    rw [List.length_map] at q1
    have hap : onL (fun i => t.testBit i) 0 (F.looks.take (i + 1)) = onL (fun i => t.testBit i) 0 (F.looks.take i) ++ (if t.testBit i then [x] else []) := by
      rw [take_succ hx, onL_app, Nat.zero_add, List.length_take, Nat.min_eq_left (by omega)]
    have hbit := bit_nat t ht i (by omega)
    have hlen := onL_len (b := fun i => t.testBit i) (k := 0) (L := F.looks.take i)
    rw [List.length_take] at hlen
    obtain ⟨xh, xd, xlo, xhi⟩ := x
    unfold LookV.cells at q2
    dsimp only at q2
    have e1 : Ext h10 h10 := Ext.refl _
    cases hb : t.testBit i with
    | false =>
      rw [hb] at hbit hap
      rw [if_neg (by decide), List.append_nil] at hap
      have hne : decide (((t : Nat) : Int).fdiv (2 ^ i) % 2 = 1) = false := hbit
      refine Go.seq noJ_ok ?_
      refine Go.region noJ_ok rfl ?_
      refine GoR.op rfl rfl (aOp_lss rfl rfl (r := true) (decide_eq_true (by omega))) rfl ?_
      refine GoR.end ?_
      refine Go.seq noJ_ok ?_
      refine Go.cond noJ_ok (b := true) rfl ?_
      refine Go.code noJ_ok ?_
      refine Go.seq noJ_ok ?_
      refine Go.block noJ_ok ?_
      refine Go.seq noJ_ok ?_
      refine Go.region noJ_ok rfl ?_
      refine GoR.op rfl rfl rfl rfl ?_
      refine GoR.op rfl rfl (aOp_indexAddr Try.underlying25 sz59 rfl q1 rfl (Nat.ble_eq_true_of_le hi)) rfl ?_
      refine GoR.op rfl rfl (aOp_loadE ag59 sz59 rfl (q2.ext e1)) rfl ?_
      refine GoR.alloc rfl rfl rfl zt59 rfl rfl fun h11 x11 f11 => ?_
      have := e0.1
      have := e1.1
      have := f0.1
      replace f0 := f0.ext x11
      replace e0 := e0.trans x11
      replace e1 := e1.trans x11
      have := f11.1
      refine GoR.op rfl rfl rfl rfl ?_
      refine GoR.store rfl rfl rfl rfl rfl rfl f11 rfl sz59 rfl rfl rfl fun h12 u12 => ?_
      replace f11 := u12.has f11
      replace f0 := f0.upd u12 (by omega)
      first | replace e0 := e0.upd u12 (by omega) | clear e0
      first | replace e1 := e1.upd u12 (by omega) | clear e1
      refine GoR.end ?_
      refine Go.seq noJ_ok ?_
      refine Go.region noJ_ok rfl ?_
      iterate 2 refine GoR.op rfl rfl rfl rfl ?_
      refine GoR.op rfl rfl (aOp_shr rfl rfl (by omega) rfl) rfl ?_
      refine GoR.op rfl rfl (aOp_and1 rfl rfl rfl) rfl ?_
      refine GoR.op rfl rfl (aOp_eql rfl rfl hne) rfl ?_
      refine GoR.end ?_
      refine Go.cond noJ_ok (b := false) rfl ?_
      refine Go.code noJ_ok ?_
      refine Go.inBlock noJ_ok ?_
      refine Go.region noJ_ok rfl ?_
      refine GoR.op rfl rfl (aOp_add rfl rfl (by constructor <;> omega) rfl) rfl ?_
      refine GoR.op rfl rfl rfl rfl ?_
      refine GoR.end ?_
      have hx1 := e1.1
      exact again (m - 1) (i + 1, sl) _ _ (by omega) ⟨rfl, rfl, rfl, rfl, rfl, trivial⟩ ⟨by dsimp only; omega, e0, by omega, f0, by dsimp only; rw [hap]; exact G.ext e1⟩
    | true =>
      rw [hb] at hbit hap
      rw [if_pos rfl] at hap
      have hne : decide (((t : Nat) : Int).fdiv (2 ^ i) % 2 = 1) = true := hbit
      refine Go.seq noJ_ok ?_
      refine Go.region noJ_ok rfl ?_
      refine GoR.op rfl rfl (aOp_lss rfl rfl (r := true) (decide_eq_true (by omega))) rfl ?_
      refine GoR.end ?_
      refine Go.seq noJ_ok ?_
      refine Go.cond noJ_ok (b := true) rfl ?_
      refine Go.code noJ_ok ?_
      refine Go.seq noJ_ok ?_
      refine Go.block noJ_ok ?_
      refine Go.seq noJ_ok ?_
      refine Go.region noJ_ok rfl ?_
      refine GoR.op rfl rfl rfl rfl ?_
      refine GoR.op rfl rfl (aOp_indexAddr Try.underlying25 sz59 rfl q1 rfl (Nat.ble_eq_true_of_le hi)) rfl ?_
      refine GoR.op rfl rfl (aOp_loadE ag59 sz59 rfl (q2.ext e1)) rfl ?_
      refine GoR.alloc rfl rfl rfl zt59 rfl rfl fun h11 x11 f11 => ?_
      have := e0.1
      have := e1.1
      have := f0.1
      replace f0 := f0.ext x11
      replace e0 := e0.trans x11
      replace e1 := e1.trans x11
      have := f11.1
      refine GoR.op rfl rfl rfl rfl ?_
      refine GoR.store rfl rfl rfl rfl rfl rfl f11 rfl sz59 rfl rfl rfl fun h12 u12 => ?_
      replace f11 := u12.has f11
      replace f0 := f0.upd u12 (by omega)
      first | replace e0 := e0.upd u12 (by omega) | clear e0
      first | replace e1 := e1.upd u12 (by omega) | clear e1
      refine GoR.end ?_
      refine Go.seq noJ_ok ?_
      refine Go.region noJ_ok rfl ?_
      iterate 2 refine GoR.op rfl rfl rfl rfl ?_
      refine GoR.op rfl rfl (aOp_shr rfl rfl (by omega) rfl) rfl ?_
      refine GoR.op rfl rfl (aOp_and1 rfl rfl rfl) rfl ?_
      refine GoR.op rfl rfl (aOp_eql rfl rfl hne) rfl ?_
      refine GoR.end ?_
      refine Go.cond noJ_ok (b := true) rfl ?_
      refine Go.region noJ_ok rfl ?_
      refine GoR.op rfl rfl (fa27_4 rfl) rfl ?_
      refine GoR.op rfl rfl (ld25 rfl f0 rfl) rfl ?_
      refine GoR.op rfl rfl (ld59 rfl f11 rfl) rfl ?_
      refine GoR.buildSl rfl rfl (ps := [(0, .agg [.int .i64 xh, .int .i64 xd, .int .i64 xlo, .int .i64 xhi])]) (cs := [.int .i64 xh, .int .i64 xd, .int .i64 xlo, .int .i64 xhi]) Try.underlying25 rfl sz59 zt59 rfl rfl rfl rfl fun h13 x13 f13 => ?_
      have := e0.1
      have := e1.1
      have := f11.1
      have := f0.1
      replace f11 := f11.ext x13
      replace f0 := f0.ext x13
      replace e0 := e0.trans x13
      replace e1 := e1.trans x13
      have := f13.1
      have G' := G.ext e1
      have hx1 := e1.1
      refine GoR.append1F (lo := h2.next) (s := sl) rfl rfl rfl Try.underlying25 Try.underlying25 sz59 by59 zt59 rfl rfl rfl rfl f13 rfl rfl G' (by omega) rfl rfl fun s6 h59 y59 g59 => ?_
      have e9 : Ext h h59 := y59.low e0 (fun b q => by have := (grow_own G' q).1; omega)
      have f9 := f0.extF y59 (fun q => by have := (grow_own G' q).1; omega)
      have hy := y59.1
      obtain ⟨hk1, hk2⟩ := grow_scal g59
      have hst1 : Nat.beq s6.cells.length 1 = true := by rw [hk2]; rfl
      have hst2 : scalars s6.cells = true := by rw [hk2]; exact hk1
      have hst3 : splice [hsl, rsl, AVal.int .i64 F.a, .int .i64 F.b, .int .i64 F.c, .int .i64 F.lim, sl] (0 + 6) s6.cells = some [hsl, rsl, AVal.int .i64 F.a, .int .i64 F.b, .int .i64 F.c, .int .i64 F.lim, s6] := by rw [hk2]; rfl
      clear e0 e1 f0 f13 y59
      have e0 := e9
      have f0 := f9
      clear e9 f9
      refine GoR.op rfl rfl (fa27_4 rfl) rfl ?_
      refine GoR.store rfl rfl rfl rfl rfl rfl f0 rfl sz25 hst1 hst2 hst3 fun h60 u60 => ?_
      replace f0 := u60.has f0
      first | replace e0 := e0.upd u60 (by omega) | clear e0
      refine GoR.end ?_
      refine Go.inBlock noJ_ok ?_
      refine Go.region noJ_ok rfl ?_
      refine GoR.op rfl rfl (aOp_add rfl rfl (by constructor <;> omega) rfl) rfl ?_
      refine GoR.op rfl rfl rfl rfl ?_
      refine GoR.end ?_
      have hu := u60.1
      refine again (m - 1) (i + 1, s6) _ _ (by omega) ⟨rfl, rfl, rfl, rfl, rfl, trivial⟩ ⟨by dsimp only; omega, e0, by omega, f0, ?_⟩
      dsimp only
      rw [hap, List.length_append, List.flatMap_append]
      exact (g59.low (by omega)).keep (by omega) fun b hb1 hb2 hb3 => u60.2.2 b (by have := (grow_own g59 hb3).1; omega)
  · have hin : i = F.looks.length := by omega
    subst hin
    rw [List.take_length] at G
    obtain ⟨L, hL⟩ : ∃ L, onL (fun i => t.testBit i) 0 F.looks = L := ⟨_, rfl⟩
    rw [hL] at G
    have O2 : (F.withL L).Ok := by
      rw [← hL]
      exact O.withL (fun l h => onL_mem h) (Nat.le_trans onL_len hnl)
    have hcl : F.cl t = !(F.withL L).canB := by rw [← hL]; rfl
    have hnr : (F.withL L).rs.length = F.rs.length := rfl
    have hslS : SliceOf h10 4 sl (L.map LookV.cells) := by
      have k : Grow h10 59 4 h2.next sl (L.map LookV.cells).length ((L.map LookV.cells).flatten) := by
        rw [List.length_map, ← List.flatMap_def]
        exact G
      exact k.sliceOf (slice_flatten fun l hl => by obtain ⟨_, _, rfl⟩ := List.mem_map.1 hl; rfl)
    have hcells : (F.withL L).cells hsl rsl sl = [hsl, rsl, .int .i64 F.a, .int .i64 F.b, .int .i64 F.c, .int .i64 F.lim, sl] := rfl
    have AA : ∀ h', Ext h10 h' → FieldAt h' (F.withL L) hsl rsl sl := fun h' e => ⟨(A.hs.ext e0).ext e, (A.rs.ext e0).ext e, hslS.ext e⟩
    have e1 : Ext h10 h10 := Ext.refl _
    have hd0 : 0 < (F.withL L).rs.length := by have := O.nr; rw [hnr]; omega
    cases hc : (F.withL L).canB with
    | true =>
      have hra := fun h' A => Rain_yes O2 ((canB_ents O2).1 hc) hsl rsl sl 0 hd0 h' A
      rw [hcells] at hra
      rw [hcl, hc]
      unfold spC at hra
      refine Go.seq noJ_ok ?_
      refine Go.region noJ_ok rfl ?_
      refine GoR.op rfl rfl (aOp_lss rfl rfl (r := false) (decide_eq_false (by omega))) rfl ?_
      refine GoR.end ?_
      refine Go.seq noJ_ok ?_
      refine Go.cond noJ_ok (b := false) rfl ?_
      refine Go.code noJ_ok ?_
      refine Go.seq noJ_ok ?_
      refine Go.region noJ_ok rfl ?_
      refine GoR.op rfl rfl (ld27 rfl f0 rfl) rfl ?_
      refine GoR.call rfl rfl (aOp_callFunc aFunc14 rfl) (hra _ (AA _ e1)) ?_ (by rintro _ _ ⟨q, _⟩; cases q)
      rintro v11 h11 ⟨q, x11⟩
      cases q
      refine ⟨_, rfl, ?_⟩
      replace f0 := f0.ext x11
      replace e0 := e0.trans x11
      replace e1 := e1.trans x11
      iterate 3 refine GoR.op rfl rfl rfl rfl ?_
      refine GoR.alloc rfl rfl rfl zt30 rfl rfl fun h12 x12 f12 => ?_
      have := e0.1
      have := e1.1
      have := f0.1
      replace f0 := f0.ext x12
      replace e0 := e0.trans x12
      replace e1 := e1.trans x12
      have := f12.1
      refine GoR.store rfl rfl rfl rfl rfl rfl f12 rfl sz30 rfl rfl rfl fun h13 u13 => ?_
      replace f12 := u13.has f12
      replace f0 := f0.upd u13 (by omega)
      first | replace e0 := e0.upd u13 (by omega) | clear e0
      first | replace e1 := e1.upd u13 (by omega) | clear e1
      refine GoR.op rfl rfl rfl rfl ?_
      refine GoR.end ?_
      refine Go.seq noJ_ok ?_
      refine Go.region noJ_ok rfl ?_
      refine GoR.op rfl rfl rfl rfl ?_
      refine GoR.op rfl rfl (aOp_eql rfl rfl (r := false) (decide_eq_false (by omega))) rfl ?_
      refine GoR.op rfl rfl rfl rfl ?_
      refine GoR.end ?_
      exact Go.ret noJ_ok (ret_end (aResult_of Try.func31 rfl rfl) ⟨rfl, e0⟩)
    | false =>
      have he : (F.withL L).ents = [] := by
        cases q : (F.withL L).ents with
        | nil => rfl
        | cons x xs =>
          have := (canB_ents O2).2 (by rw [q]; simp)
          rw [hc] at this
          cases this
      have hra := fun h' A => Rain_no O2 he hsl rsl sl 0 hd0 h' A
      rw [hcells] at hra
      rw [hcl, hc]
      refine Go.seq noJ_ok ?_
      refine Go.region noJ_ok rfl ?_
      refine GoR.op rfl rfl (aOp_lss rfl rfl (r := false) (decide_eq_false (by omega))) rfl ?_
      refine GoR.end ?_
      refine Go.seq noJ_ok ?_
      refine Go.cond noJ_ok (b := false) rfl ?_
      refine Go.code noJ_ok ?_
      refine Go.seq noJ_ok ?_
      refine Go.region noJ_ok rfl ?_
      refine GoR.op rfl rfl (ld27 rfl f0 rfl) rfl ?_
      refine GoR.call rfl rfl (aOp_callFunc aFunc14 rfl) (hra _ (AA _ e1)) ?_ (by rintro _ _ ⟨q, _⟩; cases q)
      rintro v11 h11 ⟨q, x11⟩
      cases q
      refine ⟨_, rfl, ?_⟩
      replace f0 := f0.ext x11
      replace e0 := e0.trans x11
      replace e1 := e1.trans x11
      iterate 3 refine GoR.op rfl rfl rfl rfl ?_
      refine GoR.alloc rfl rfl rfl zt30 rfl rfl fun h12 x12 f12 => ?_
      have := e0.1
      have := e1.1
      have := f0.1
      replace f0 := f0.ext x12
      replace e0 := e0.trans x12
      replace e1 := e1.trans x12
      have := f12.1
      refine GoR.store rfl rfl rfl rfl rfl rfl f12 rfl sz30 rfl rfl rfl fun h13 u13 => ?_
      replace f12 := u13.has f12
      replace f0 := f0.upd u13 (by omega)
      first | replace e0 := e0.upd u13 (by omega) | clear e0
      first | replace e1 := e1.upd u13 (by omega) | clear e1
      refine GoR.op rfl rfl rfl rfl ?_
      refine GoR.end ?_
      refine Go.seq noJ_ok ?_
      refine Go.region noJ_ok rfl ?_
      refine GoR.op rfl rfl rfl rfl ?_
      refine GoR.op rfl rfl (aOp_eql rfl rfl (r := true) (decide_eq_true (by omega))) rfl ?_
      refine GoR.op rfl rfl rfl rfl ?_
      refine GoR.end ?_
      exact Go.ret noJ_ok (ret_end (aResult_of Try.func31 rfl rfl) ⟨rfl, e0⟩)

theorem popc_half : ∀ s, s < 32 → popc s = s % 2 + popc (s / 2) := by decide
theorem size32_ok (s : Nat) (hs : s < 32) (h : AH) : Runs Try.prog 32 [.int .i64 (s : Nat)] h (fun en h' => en = .ret (.int .i64 (popc s : Nat)) ∧ Ext h h') := by
  have e0 : Ext h h := Ext.refl _
  refine Runs.intro aFunc32 rfl rfl rfl rfl fun rest => ?_
  refine Go.seq noJ_ok ?_
  refine Go.region noJ_ok rfl ?_
  refine GoR.op rfl rfl rfl rfl ?_
  refine GoR.end ?_
  refine Go.seq noJ_ok ?_
  refine Go.region noJ_ok rfl ?_
  refine GoR.op rfl rfl rfl rfl ?_
  refine GoR.end ?_
  refine Go.seq noJ_ok ?_
  refine Go.block noJ_ok ?_
  refine Go.loopKeep (fun a : Nat × Nat => [(0, .int .i64 (a.1 : Nat)), (3, .int .i64 (a.2 : Nat))]) (fun m a h' => a.1 ≤ m ∧ a.1 < 32 ∧ a.2 + popc a.1 = popc s ∧ Ext h h') (n := s) (s, 0) ⟨rfl, rfl, trivial⟩ ⟨Nat.le_refl _, hs, by simp, e0⟩ ?_
  clear e0
  rintro m ⟨z, n⟩ h2' ⟨hm, hz, hn, e0⟩ again
  dsimp only at hm hz hn ⊢
  have hp5 := popc_le5 s
  have hph := popc_half z hz
  by_cases hz0 : 0 < z
  · have hr : ((z : Nat) : Int).tmod 2 = ((z % 2 : Nat) : Int) := rfl
    have hq : ((z : Nat) : Int).tdiv 2 = ((z / 2 : Nat) : Int) := rfl
    have hsum : ((n : Nat) : Int) + ((z % 2 : Nat) : Int) = ((n + z % 2 : Nat) : Int) := by push_cast; rfl
    have again2 := again (z / 2) (z / 2, n + z % 2)
    dsimp only at again2
    rw [← hsum] at again2
    obtain ⟨zr, hzr⟩ : ∃ zr, ((z % 2 : Nat) : Int) = zr := ⟨_, rfl⟩
    obtain ⟨zq, hzq⟩ : ∃ zq, ((z / 2 : Nat) : Int) = zq := ⟨_, rfl⟩
    rw [hzr] at hr again2
    rw [hzq] at hq again2
    have hzr2 : 0 ≤ zr ∧ zr ≤ 1 := by omega
    have hzq2 : 0 ≤ zq ∧ zq ≤ 16 := by omega
    iterate 2 refine Go.seq noJ_ok ?_
    refine Go.region noJ_ok rfl ?_
    refine GoR.op rfl rfl rfl rfl ?_
    refine GoR.op rfl rfl (aOp_gtr rfl rfl (r := true) (decide_eq_true (by omega))) rfl ?_
    refine GoR.end ?_
    refine Go.cond noJ_ok (b := true) rfl ?_
    refine Go.code noJ_ok ?_
    refine Go.block noJ_ok ?_
    refine Go.region noJ_ok rfl ?_
    iterate 2 refine GoR.op rfl rfl rfl rfl ?_
    refine GoR.op rfl rfl (aOp_rem rfl rfl (by decide) hr) rfl ?_
    refine GoR.op rfl rfl (aOp_add rfl rfl (by constructor <;> omega) rfl) rfl ?_
    refine GoR.op rfl rfl rfl rfl ?_
    refine GoR.op rfl rfl (aOp_quo rfl rfl (by decide) hq (by omega)) rfl ?_
    iterate 2 refine GoR.op rfl rfl rfl rfl ?_
    refine GoR.end ?_
    refine Go.inBlock noJ_ok ?_
    exact again2 _ _ (by omega) ⟨rfl, rfl, trivial⟩ ⟨Nat.le_refl _, by omega, by omega, e0⟩
  · have hz00 : z = 0 := by omega
    subst hz00
    have hp0 : popc 0 = 0 := by decide
    have hns : n = popc s := by omega
    subst hns
    iterate 2 refine Go.seq noJ_ok ?_
    refine Go.region noJ_ok rfl ?_
    refine GoR.op rfl rfl rfl rfl ?_
    refine GoR.op rfl rfl (aOp_gtr rfl rfl (r := false) (decide_eq_false (by omega))) rfl ?_
    refine GoR.end ?_
    refine Go.cond noJ_ok (b := false) rfl ?_
    refine Go.code noJ_ok ?_
    refine Go.seq noJ_ok ?_
    refine Go.region noJ_ok rfl ?_
    iterate 2 refine GoR.op rfl rfl rfl rfl ?_
    refine GoR.end ?_
    exact Go.ret noJ_ok (ret_end (aResult_of Try.func32 rfl rfl) ⟨rfl, e0⟩)
end Go.Proofs.Ytmdheijpnlonoaa

namespace Go.Proofs.Ytmdheijpnlonoaa
open Go Go.AbsE
set_option linter.unusedSimpArgs false
set_option maxRecDepth 100000
set_option maxHeartbeats 0
set_option linter.unusedVariables false

theorem an_lt : ∀ a, a < 32 → ∀ b, b < 32 → andNot a b < 32 ∧ andNot a b ≤ a := by decide +kernel
theorem an_bit : ∀ a, a < 32 → ∀ b, b < 32 → ∀ i, i < 5 → (andNot a b).testBit i = (a.testBit i && !b.testBit i) := by decide +kernel
theorem full_bit : ∀ n, n < 6 → ∀ i, i < n → (2 ^ n - 1).testBit i = true := by decide +kernel
theorem popc_zero : ∀ s, s < 32 → popc s = 0 → s = 0 := by decide +kernel
theorem popc_less : ∀ s, s < 32 → ∀ i, i < 5 → s.testBit i = true → popc (andNot s (2 ^ i)) + 1 = popc s := by decide +kernel
theorem and_bit : ∀ a, a < 32 → ∀ b, b < 32 → a &&& b = 0 → ∀ i, i < 5 → a.testBit i = true → b.testBit i = false := by decide +kernel
theorem pow_lt : ∀ n, n < 6 → ∀ i, i < n → 2 ^ i < 2 ^ n := fun n _ i hi => Nat.pow_lt_pow_right (by omega) hi

/-- What the law needs of what is returned. -/
theorem canWo_cl {F : FieldV} (O : F.Ok) {r : Nat} (hr : r < 2 ^ F.looks.length) : F.cl (andNot (2 ^ F.looks.length - 1) r) = !F.canWo (r : Nat) := by
  have hn := O.nl
  have h32 : 2 ^ F.looks.length ≤ 32 := Nat.pow_le_pow_right (by omega) hn
  unfold FieldV.cl
  rw [canWo_on]
  congr 1
  refine canOn_congr fun i hi => ?_
  rw [an_bit _ (by omega) _ (by omega) i (by omega), full_bit _ (by omega) i hi, bit_nat r (by omega) i (by omega)]
  rfl
theorem canWo_neg {F : FieldV} (O : F.Ok) {s : Nat} (hs : s < 2 ^ F.looks.length) : (!F.canWo (-(s : Nat) - 1)) = F.cl s := by
  have hn := O.nl
  have h32 : 2 ^ F.looks.length ≤ 32 := Nat.pow_le_pow_right (by omega) hn
  unfold FieldV.cl
  rw [canWo_on]
  congr 1
  refine canOn_congr fun i hi => ?_
  rw [bit_neg s (by omega) i (by omega), Bool.not_not]
theorem cl_every {F : FieldV} (O : F.Ok) : F.cl (2 ^ F.looks.length - 1) = !F.canB := by
  have hn := O.nl
  unfold FieldV.cl
  rw [← canOn_all F]
  congr 1
  exact canOn_congr fun i hi => full_bit _ (by omega) i hi
theorem cl_zero {F : FieldV} (O : F.Ok) : F.cl 0 = false := by
  unfold FieldV.cl
  rw [show F.canOn (fun i => Nat.testBit 0 i) = F.canOn (fun _ => false) from canOn_congr fun i hi => Nat.zero_testBit i, canOn_none O]
  rfl
theorem canWo_zero {F : FieldV} (O : F.Ok) : F.canWo ((0 : Nat) : Int) = F.canB := by
  have hn := O.nl
  rw [canWo_on, ← canOn_all F]
  exact canOn_congr fun i hi => by rw [bit_nat 0 (by omega) i (by omega), Nat.zero_testBit]; rfl
theorem false_ex {F : FieldV} (O : F.Ok) : ∃ r, FewR F.looks.length (fun s => F.canWo (s : Nat)) r := by
  have hn := O.nl
  have h32 : 2 ^ F.looks.length ≤ 32 := Nat.pow_le_pow_right (by omega) hn
  have hpos := Nat.two_pow_pos F.looks.length
  refine few_ex hn ⟨2 ^ F.looks.length - 1, by omega, ?_⟩
  rw [canWo_on, ← canOn_none O]
  exact canOn_congr fun i hi => by rw [bit_nat _ (by omega) i (by omega), full_bit _ (by omega) i hi]; rfl
theorem clash_ex {F : FieldV} (O : F.Ok) (hc : F.canB = false) : ∃ q, FewR F.looks.length (fun s => !F.canWo (-(s : Nat) - 1)) q := by
  have hn := O.nl
  have hpos := Nat.two_pow_pos F.looks.length
  refine few_ex hn ⟨2 ^ F.looks.length - 1, by omega, ?_⟩
  show (!F.canWo (-((2 ^ F.looks.length - 1 : Nat) : Int) - 1)) = true
  rw [canWo_neg O (by omega), cl_every O, hc]
  rfl
end Go.Proofs.Ytmdheijpnlonoaa

namespace Go.Proofs.Ytmdheijpnlonoaa
open Go Go.AbsE
set_option linter.unusedSimpArgs false
set_option maxRecDepth 100000
set_option maxHeartbeats 0
set_option linter.unusedVariables false

theorem law8_long (F : FieldV) (hsl rsl lsl : AVal) (n1 n2 n3 : Nat) (hl1 : lenA hsl = some n1) (hl2 : lenA rsl = some n2) (hl3 : lenA lsl = some n3) (hr : decide (40 < n1 ∨ 40 < n2 ∨ 40 < n3) = true) (w : Int) (h : AH) :
    Runs Try.prog 8 [.agg (F.cells hsl rsl lsl), .int .u8 w] h (fun en h' => en = .ret (.bool true) ∧ Ext h h') := by
  have hlo := long_ok F hsl rsl lsl n1 n2 n3 hl1 hl2 hl3 hr
  unfold FieldV.cells fieldC at hlo ⊢
  refine Runs.intro aFunc8 rfl rfl rfl rfl fun rest => ?_
  refine Go.seq noJ_ok ?_
  refine Go.region noJ_ok rfl ?_
  refine GoR.box rfl rfl rfl rfl rfl rfl fun h0 x0 f0 => ?_
  have e0 := x0
  have := f0.1
  refine GoR.op rfl rfl rfl rfl ?_
  refine GoR.end ?_
  iterate 2 refine Go.seq noJ_ok ?_
  refine Go.region noJ_ok rfl ?_
  refine GoR.op rfl rfl (ld27 rfl f0 rfl) rfl ?_
  refine GoR.call rfl rfl (aOp_callFunc aFunc22 rfl) (hlo _) ?_ (by rintro _ _ ⟨q, _⟩; cases q)
  rintro v1 h1 ⟨q, x1⟩
  cases q
  refine ⟨_, rfl, ?_⟩
  replace f0 := f0.ext x1
  replace e0 := e0.trans x1
  refine GoR.end ?_
  refine Go.cond noJ_ok (b := true) rfl ?_
  refine Go.seq noJ_ok ?_
  refine Go.region JA_ok rfl ?_
  refine GoR.jump JA_ok rfl rfl (aOp_callFunc aFunc21 rfl) (v := .bool true) rfl rfl ?_
  refine GoR.op rfl rfl rfl rfl ?_
  refine GoR.end ?_
  exact Go.ret noJ_ok (ret_end (aResult_of Try.func8 rfl rfl) ⟨rfl, e0⟩)
theorem heaps23_not {F : FieldV} (hno : ¬ F.Ok) (hsl rsl lsl : AVal) (h : AH) (A : FieldAt h F hsl rsl lsl) (hb1 : F.hs.length ≤ 40) (hb2 : F.rs.length ≤ 40) (hb3 : F.looks.length ≤ 40) :
    Runs Try.prog 23 [.agg (F.cells hsl rsl lsl)] h (fun en h' => en = .ret (.bool false) ∧ Ext h h') :=
  (heaps23_is F hsl rsl lsl h A hb1 hb2 hb3).mono fun en h' ⟨r, q, k, e⟩ => by
    cases r with
    | true => exact absurd (k.1 rfl) hno
    | false => exact ⟨q, e⟩
theorem heaps23_yes {F : FieldV} (O : F.Ok) (hsl rsl lsl : AVal) (h : AH) (A : FieldAt h F hsl rsl lsl) (hb1 : F.hs.length ≤ 40) (hb2 : F.rs.length ≤ 40) (hb3 : F.looks.length ≤ 40) :
    Runs Try.prog 23 [.agg (F.cells hsl rsl lsl)] h (fun en h' => en = .ret (.bool true) ∧ Ext h h') :=
  (heaps23_is F hsl rsl lsl h A hb1 hb2 hb3).mono fun en h' ⟨r, q, k, e⟩ => by
    cases r with
    | false => exact absurd (k.2 O) (by decide)
    | true => exact ⟨q, e⟩
theorem law8_bad {F : FieldV} (hno : ¬ F.Ok) (hsl rsl lsl : AVal) (h : AH) (A : FieldAt h F hsl rsl lsl) (hb1 : F.hs.length ≤ 40) (hb2 : F.rs.length ≤ 40) (hb3 : F.looks.length ≤ 40) (w : Int) :
    Runs Try.prog 8 [.agg (F.cells hsl rsl lsl), .int .u8 w] h (fun en h' => en = .ret (.bool true) ∧ Ext h h') := by
  have hl1 := A.hs.len
  have hl2 := A.rs.len
  have hl3 := A.ls.len
  rw [List.length_map] at hl1 hl2 hl3
  have hlo := long_ok F hsl rsl lsl _ _ _ hl1 hl2 hl3 (r := false) (decide_eq_false (by omega))
  have hcb := fun h A => Clash_bad hno hb1 hb2 hb3 hsl rsl lsl h A
  have hfb := fun h A => False_bad hno hb1 hb2 hb3 hsl rsl lsl h A
  have hhb := fun h A => heaps23_not hno hsl rsl lsl h A hb1 hb2 hb3
  unfold FieldV.cells fieldC at hlo hcb hfb hhb ⊢
  refine Runs.intro aFunc8 rfl rfl rfl rfl fun rest => ?_
  refine Go.seq noJ_ok ?_
  refine Go.region noJ_ok rfl ?_
  refine GoR.box rfl rfl rfl rfl rfl rfl fun h0 x0 f0 => ?_
  have e0 := x0
  have := f0.1
  refine GoR.op rfl rfl rfl rfl ?_
  refine GoR.end ?_
  iterate 2 refine Go.seq noJ_ok ?_
  refine Go.region noJ_ok rfl ?_
  refine GoR.op rfl rfl (ld27 rfl f0 rfl) rfl ?_
  refine GoR.call rfl rfl (aOp_callFunc aFunc22 rfl) (hlo _) ?_ (by rintro _ _ ⟨q, _⟩; cases q)
  rintro v1 h1 ⟨q, x1⟩
  cases q
  refine ⟨_, rfl, ?_⟩
  replace f0 := f0.ext x1
  replace e0 := e0.trans x1
  refine GoR.end ?_
  refine Go.cond noJ_ok (b := false) rfl ?_
  refine Go.code noJ_ok ?_
  refine Go.seq noJ_ok ?_
  refine Go.region noJ_ok rfl ?_
  refine GoR.op rfl rfl (ld27 rfl f0 rfl) rfl ?_
  refine GoR.call rfl rfl (aOp_callFunc aFunc19 rfl) (hcb _ (A.ext e0)) ?_ (by rintro _ _ ⟨q, _⟩; cases q)
  rintro v2 h2 ⟨q, x2⟩
  cases q
  refine ⟨_, rfl, ?_⟩
  replace f0 := f0.ext x2
  replace e0 := e0.trans x2
  iterate 5 refine GoR.op rfl rfl rfl rfl ?_
  refine GoR.end ?_
  refine Go.seq noJ_ok ?_
  refine Go.region noJ_ok rfl ?_
  refine GoR.op rfl rfl (ld27 rfl f0 rfl) rfl ?_
  refine GoR.call rfl rfl (aOp_callFunc aFunc18 rfl) (hfb _ (A.ext e0)) ?_ (by rintro _ _ ⟨q, _⟩; cases q)
  rintro v3 h3 ⟨q, x3⟩
  cases q
  refine ⟨_, rfl, ?_⟩
  replace f0 := f0.ext x3
  replace e0 := e0.trans x3
  iterate 7 refine GoR.op rfl rfl rfl rfl ?_
  refine GoR.end ?_
  iterate 2 refine Go.seq noJ_ok ?_
  refine Go.region noJ_ok rfl ?_
  refine GoR.op rfl rfl (ld27 rfl f0 rfl) rfl ?_
  refine GoR.call rfl rfl (aOp_callFunc aFunc23 rfl) (hhb _ (A.ext e0)) ?_ (by rintro _ _ ⟨q, _⟩; cases q)
  rintro v4 h4 ⟨q, x4⟩
  cases q
  refine ⟨_, rfl, ?_⟩
  replace f0 := f0.ext x4
  replace e0 := e0.trans x4
  refine GoR.op rfl rfl rfl rfl ?_
  refine GoR.end ?_
  refine Go.cond noJ_ok (b := true) rfl ?_
  refine Go.seq noJ_ok ?_
  refine Go.region JA_ok rfl ?_
  refine GoR.op rfl rfl rfl rfl ?_
  refine GoR.op rfl rfl (aOp_eql rfl rfl (r := true) (decide_eq_true (by omega))) rfl ?_
  iterate 3 refine GoR.op rfl rfl rfl rfl ?_
  refine GoR.op rfl rfl (aOp_eql rfl rfl (r := true) (decide_eq_true (by omega))) rfl ?_
  iterate 3 refine GoR.op rfl rfl rfl rfl ?_
  refine GoR.op rfl rfl (aOp_eql rfl rfl (r := true) (decide_eq_true (by omega))) rfl ?_
  iterate 3 refine GoR.op rfl rfl rfl rfl ?_
  refine GoR.op rfl rfl (aOp_eql rfl rfl (r := true) (decide_eq_true (by omega))) rfl ?_
  iterate 3 refine GoR.op rfl rfl rfl rfl ?_
  refine GoR.op rfl rfl (aOp_eql rfl rfl (r := true) (decide_eq_true (by omega))) rfl ?_
  iterate 2 refine GoR.op rfl rfl rfl rfl ?_
  refine GoR.jump JA_ok rfl rfl (aOp_callFunc aFunc21 rfl) (v := .bool true) rfl rfl ?_
  iterate 2 refine GoR.op rfl rfl rfl rfl ?_
  refine GoR.end ?_
  exact Go.ret noJ_ok (ret_end (aResult_of Try.func8 rfl rfl) ⟨rfl, e0⟩)
theorem law8_free {F : FieldV} (O : F.Ok) (hcB : F.canB = true) (hsl rsl lsl : AVal) (h : AH) (A : FieldAt h F hsl rsl lsl) {w : Nat} (hw : w < 256) :
    Runs Try.prog 8 [.agg (F.cells hsl rsl lsl), .int .u8 (w : Nat)] h (fun en h' => en = .ret (.bool true) ∧ Ext h h') := by
  have hnh := O.nh
  have hnr := O.nr
  have hnl := O.nl
  have hl1 := A.hs.len
  have hl2 := A.rs.len
  have hl3 := A.ls.len
  rw [List.length_map] at hl1 hl2 hl3
  have hlo := long_ok F hsl rsl lsl _ _ _ hl1 hl2 hl3 (r := false) (decide_eq_false (by omega))
  obtain ⟨r, R⟩ := false_ex O
  have hle32 : 2 ^ F.looks.length ≤ 32 := Nat.pow_le_pow_right (by omega) hnl
  have hpos := Nat.two_pow_pos F.looks.length
  have hce := cl_every O
  have hcr := canWo_cl O R.lt
  rw [R.suits] at hcr
  rw [hcB] at hce
  have hr0 := R.least 0 hpos (by rw [canWo_zero O]; exact hcB)
  have hp0 : popc 0 = 0 := by decide
  have hpr : popc r = 0 := by omega
  have hown : ∀ t, t < 2 ^ F.looks.length → F.cl (andNot (2 ^ F.looks.length - 1) t) = !F.canWo (t : Nat) := fun t ht => canWo_cl O ht
  have hrl := R.lt
  have hleast := R.least
  have hcn := fun h A => Clash_no O hcB hsl rsl lsl h A
  have hfo := fun h A => False_ok O R hsl rsl lsl h A
  have hhy := fun h A => heaps23_yes O hsl rsl lsl h A (by omega) (by omega) (by omega)
  obtain ⟨top, htop⟩ : ∃ top, 2 ^ F.looks.length = top := ⟨_, rfl⟩
  have hshl : (1 : Int) * 2 ^ F.looks.length = (top : Nat) := by rw [Int.one_mul, ← htop]; push_cast; rfl
  obtain ⟨ev', hev⟩ : ∃ ev', top - 1 = ev' := ⟨_, rfl⟩
  have hsub : ((top : Nat) : Int) - 1 = (ev' : Nat) := by omega
  obtain ⟨own, hown2⟩ : ∃ own, w &&& ev' = own := ⟨_, rfl⟩
  have hownl : own ≤ ev' := by rw [← hown2]; exact Nat.and_le_right
  rw [htop] at hle32 hpos hce hcr hown hrl hleast
  rw [hev] at hce hcr hown
  obtain ⟨er, her⟩ : ∃ er, andNot ev' r = er := ⟨_, rfl⟩
  obtain ⟨eo, heo⟩ : ∃ eo, andNot ev' own = eo := ⟨_, rfl⟩
  have her32 := (an_lt ev' (by omega) r (by omega)).1
  have heo32 := (an_lt ev' (by omega) own (by omega)).1
  rw [her] at her32 hcr
  rw [heo] at heo32
  have hco := hown own (by omega)
  rw [heo] at hco
  have hlo2 := hleast own (by omega)
  have hc1 := fun h' (A : FieldAt h' F hsl rsl lsl) f => clash31_ok O hsl rsl lsl er her32 h.next h' A f
  have hc2 := fun h' (A : FieldAt h' F hsl rsl lsl) f => clash31_ok O hsl rsl lsl ev' (by omega) h.next h' A f
  have hc3 := fun h' (A : FieldAt h' F hsl rsl lsl) f => clash31_ok O hsl rsl lsl eo heo32 h.next h' A f
  rw [hcr] at hc1
  rw [hce] at hc2
  have hs1 := size32_ok r (by omega)
  have hs2 := size32_ok own (by omega)
  have hp5 := popc_le5 own
  unfold FieldV.cells fieldC at hlo hcn hfo hhy hc1 hc2 hc3 ⊢
  refine Runs.intro aFunc8 rfl rfl rfl rfl fun rest => ?_
  refine Go.seq noJ_ok ?_
  refine Go.region noJ_ok rfl ?_
  refine GoR.box rfl rfl rfl rfl rfl rfl fun h0 x0 f0 => ?_
  have e0 := x0
  have := f0.1
  refine GoR.op rfl rfl rfl rfl ?_
  refine GoR.end ?_
  iterate 2 refine Go.seq noJ_ok ?_
  refine Go.region noJ_ok rfl ?_
  refine GoR.op rfl rfl (ld27 rfl f0 rfl) rfl ?_
  refine GoR.call rfl rfl (aOp_callFunc aFunc22 rfl) (hlo _) ?_ (by rintro _ _ ⟨q, _⟩; cases q)
  rintro v1 h1 ⟨q, x1⟩
  cases q
  refine ⟨_, rfl, ?_⟩
  replace f0 := f0.ext x1
  replace e0 := e0.trans x1
  refine GoR.end ?_
  refine Go.cond noJ_ok (b := false) rfl ?_
  refine Go.code noJ_ok ?_
  refine Go.seq noJ_ok ?_
  refine Go.region noJ_ok rfl ?_
  refine GoR.op rfl rfl (ld27 rfl f0 rfl) rfl ?_
  refine GoR.call rfl rfl (aOp_callFunc aFunc19 rfl) (hcn _ (A.ext e0)) ?_ (by rintro _ _ ⟨q, _⟩; cases q)
  rintro v2 h2 ⟨q, x2⟩
  cases q
  refine ⟨_, rfl, ?_⟩
  replace f0 := f0.ext x2
  replace e0 := e0.trans x2
  iterate 5 refine GoR.op rfl rfl rfl rfl ?_
  refine GoR.end ?_
  refine Go.seq noJ_ok ?_
  refine Go.region noJ_ok rfl ?_
  refine GoR.op rfl rfl (ld27 rfl f0 rfl) rfl ?_
  refine GoR.call rfl rfl (aOp_callFunc aFunc18 rfl) (hfo _ (A.ext e0)) ?_ (by rintro _ _ ⟨q, _⟩; cases q)
  rintro v3 h3 ⟨q, x3⟩
  cases q
  refine ⟨_, rfl, ?_⟩
  replace f0 := f0.ext x3
  replace e0 := e0.trans x3
  iterate 7 refine GoR.op rfl rfl rfl rfl ?_
  refine GoR.end ?_
  iterate 2 refine Go.seq noJ_ok ?_
  refine Go.region noJ_ok rfl ?_
  refine GoR.op rfl rfl (ld27 rfl f0 rfl) rfl ?_
  refine GoR.call rfl rfl (aOp_callFunc aFunc23 rfl) (hhy _ (A.ext e0)) ?_ (by rintro _ _ ⟨q, _⟩; cases q)
  rintro v4 h4 ⟨q, x4⟩
  cases q
  refine ⟨_, rfl, ?_⟩
  replace f0 := f0.ext x4
  replace e0 := e0.trans x4
  refine GoR.op rfl rfl rfl rfl ?_
  refine GoR.end ?_
  refine Go.cond noJ_ok (b := false) rfl ?_
  refine Go.code noJ_ok ?_
  refine Go.seq noJ_ok ?_
  refine Go.region noJ_ok rfl ?_
  iterate 2 refine GoR.op rfl rfl rfl rfl ?_
  refine GoR.end ?_
  refine Go.seq noJ_ok ?_
  refine Go.region noJ_ok rfl ?_
  refine GoR.op rfl rfl (fa27_4 rfl) rfl ?_
  refine GoR.op rfl rfl (ld25 rfl f0 rfl) rfl ?_
  refine GoR.op rfl rfl (aOp_lenSlice Try.underlying25 rfl hl3) rfl ?_
  refine GoR.op rfl rfl (aOp_shl rfl rfl (by omega) hshl (by omega)) rfl ?_
  refine GoR.op rfl rfl (aOp_sub rfl rfl (by constructor <;> omega) hsub) rfl ?_
  iterate 2 refine GoR.op rfl rfl rfl rfl ?_
  refine GoR.end ?_
  refine Go.seq noJ_ok ?_
  refine Go.region noJ_ok rfl ?_
  refine GoR.op rfl rfl rfl rfl ?_
  refine GoR.op rfl rfl (aOp_convU8 rfl Try.underlying5 Try.underlying3 (by omega)) rfl ?_
  refine GoR.op rfl rfl rfl rfl ?_
  refine GoR.op rfl rfl (aOp_andNat rfl rfl (by omega) (by omega) hown2) rfl ?_
  refine GoR.op rfl rfl rfl rfl ?_
  refine GoR.end ?_
  iterate 2 refine Go.seq noJ_ok ?_
  refine Go.region noJ_ok rfl ?_
  refine GoR.op rfl rfl rfl rfl ?_
  refine GoR.op rfl rfl (aOp_neq rfl rfl (r := false) (decide_eq_true (by omega))) rfl ?_
  iterate 2 refine GoR.op rfl rfl rfl rfl ?_
  refine GoR.op rfl rfl (aOp_lss rfl rfl (r := false) (decide_eq_false (by omega))) rfl ?_
  iterate 4 refine GoR.op rfl rfl rfl rfl ?_
  refine GoR.op rfl rfl (aOp_gtr rfl rfl (r := false) (decide_eq_false (by omega))) rfl ?_
  iterate 4 refine GoR.op rfl rfl rfl rfl ?_
  refine GoR.call rfl rfl (aOp_callVal rfl aFunc32 rfl) (hs1 _) ?_ (by rintro _ _ ⟨q, _⟩; cases q)
  rintro v5 h5 ⟨q, x5⟩
  cases q
  refine ⟨_, rfl, ?_⟩
  replace f0 := f0.ext x5
  replace e0 := e0.trans x5
  refine GoR.op rfl rfl rfl rfl ?_
  refine GoR.op rfl rfl (aOp_neq rfl rfl (r := false) (decide_eq_true (by omega))) rfl ?_
  iterate 5 refine GoR.op rfl rfl rfl rfl ?_
  refine GoR.op rfl rfl (aOp_andNot rfl rfl (by omega) her) rfl ?_
  refine GoR.call rfl rfl (aOp_callVal rfl aFunc31 rfl) (hc1 _ (A.ext e0) f0) ?_ (by rintro _ _ ⟨q, _⟩; cases q)
  rintro v6 h6 ⟨q, x6⟩
  cases q
  refine ⟨_, rfl, ?_⟩
  replace f0 := f0.ext x6
  replace e0 := e0.trans x6
  iterate 3 refine GoR.op rfl rfl rfl rfl ?_
  refine GoR.op rfl rfl (aOp_eql rfl rfl (r := true) (decide_eq_true (by omega))) rfl ?_
  refine GoR.op rfl rfl rfl rfl ?_
  refine GoR.op rfl rfl (aOp_eql rfl rfl (r := true) (decide_eq_true (by omega))) rfl ?_
  refine GoR.op rfl rfl (aOp_neqBool rfl rfl Try.underlying4 rfl) rfl ?_
  iterate 3 refine GoR.op rfl rfl rfl rfl ?_
  refine GoR.op rfl rfl (aOp_eql rfl rfl (r := false) (decide_eq_false (by omega))) rfl ?_
  iterate 2 refine GoR.op rfl rfl rfl rfl ?_
  refine GoR.call rfl rfl (aOp_callVal rfl aFunc31 rfl) (hc2 _ (A.ext e0) f0) ?_ (by rintro _ _ ⟨q, _⟩; cases q)
  rintro v7 h7 ⟨q, x7⟩
  cases q
  refine ⟨_, rfl, ?_⟩
  replace f0 := f0.ext x7
  replace e0 := e0.trans x7
  refine GoR.op rfl rfl (aOp_neqBool rfl rfl Try.underlying4 rfl) rfl ?_
  iterate 3 refine GoR.op rfl rfl rfl rfl ?_
  refine GoR.op rfl rfl (aOp_neq rfl rfl (r := true) (decide_eq_false (by omega))) rfl ?_
  iterate 2 refine GoR.op rfl rfl rfl rfl ?_
  refine GoR.op rfl rfl (aOp_neq rfl rfl (r := false) (decide_eq_true (by omega))) rfl ?_
  iterate 2 refine GoR.op rfl rfl rfl rfl ?_
  refine GoR.op rfl rfl (aOp_neq rfl rfl (r := false) (decide_eq_true (by omega))) rfl ?_
  iterate 3 refine GoR.op rfl rfl rfl rfl ?_
  refine GoR.end ?_
  refine Go.cond noJ_ok (b := false) rfl ?_
  refine Go.code noJ_ok ?_
  refine Go.seq noJ_ok (Go.join (fun _ : Unit => [(6, .int .i64 4)]) (fun _ h' => Ext h h') ?_ ?_)
  · intro k' done
    cases hk : F.cl eo with
    | true =>
      rw [hk] at hc3
      refine Go.seq noJ_ok ?_
      refine Go.region noJ_ok rfl ?_
      iterate 3 refine GoR.op rfl rfl rfl rfl ?_
      refine GoR.op rfl rfl (aOp_andNot rfl rfl (by omega) heo) rfl ?_
      refine GoR.call rfl rfl (aOp_callVal rfl aFunc31 rfl) (hc3 _ (A.ext e0) f0) ?_ (by rintro _ _ ⟨q, _⟩; cases q)
      rintro v8 h8 ⟨q, x8⟩
      cases q
      refine ⟨_, rfl, ?_⟩
      replace f0 := f0.ext x8
      replace e0 := e0.trans x8
      iterate 2 refine GoR.op rfl rfl rfl rfl ?_
      iterate 17 refine GoR.skip rfl rfl rfl ?_
      refine GoR.op rfl rfl rfl rfl ?_
      refine GoR.end ?_
      refine Go.cond noJ_ok (b := false) rfl ?_
      refine Go.code noJ_ok ?_
      exact done () _ _ ⟨rfl, trivial⟩ e0
    | false =>
      rw [hk] at hc3 hco
      have hl := hlo2 (by simpa using hco.symm)
      by_cases hpo : popc own = 0
      · refine Go.seq noJ_ok ?_
        refine Go.region noJ_ok rfl ?_
        iterate 3 refine GoR.op rfl rfl rfl rfl ?_
        refine GoR.op rfl rfl (aOp_andNot rfl rfl (by omega) heo) rfl ?_
        refine GoR.call rfl rfl (aOp_callVal rfl aFunc31 rfl) (hc3 _ (A.ext e0) f0) ?_ (by rintro _ _ ⟨q, _⟩; cases q)
        rintro v8 h8 ⟨q, x8⟩
        cases q
        refine ⟨_, rfl, ?_⟩
        replace f0 := f0.ext x8
        replace e0 := e0.trans x8
        iterate 4 refine GoR.op rfl rfl rfl rfl ?_
        refine GoR.call rfl rfl (aOp_callVal rfl aFunc32 rfl) (hs2 _) ?_ (by rintro _ _ ⟨q, _⟩; cases q)
        rintro v9 h9 ⟨q, x9⟩
        cases q
        refine ⟨_, rfl, ?_⟩
        replace f0 := f0.ext x9
        replace e0 := e0.trans x9
        refine GoR.op rfl rfl rfl rfl ?_
        refine GoR.op rfl rfl (aOp_lss rfl rfl (r := false) (decide_eq_false (by omega))) rfl ?_
        iterate 3 refine GoR.op rfl rfl rfl rfl ?_
        refine GoR.call rfl rfl (aOp_callVal rfl aFunc32 rfl) (hs2 _) ?_ (by rintro _ _ ⟨q, _⟩; cases q)
        rintro v10 h10 ⟨q, x10⟩
        cases q
        refine ⟨_, rfl, ?_⟩
        replace f0 := f0.ext x10
        replace e0 := e0.trans x10
        refine GoR.op rfl rfl rfl rfl ?_
        refine GoR.op rfl rfl (aOp_eql rfl rfl (r := true) (decide_eq_true (by omega))) rfl ?_
        iterate 3 refine GoR.op rfl rfl rfl rfl ?_
        refine GoR.op rfl rfl (aOp_lss rfl rfl (r := false) (decide_eq_false (by omega))) rfl ?_
        iterate 3 refine GoR.op rfl rfl rfl rfl ?_
        refine GoR.end ?_
        refine Go.cond noJ_ok (b := false) rfl ?_
        refine Go.code noJ_ok ?_
        exact done () _ _ ⟨rfl, trivial⟩ e0
      · refine Go.seq noJ_ok ?_
        refine Go.region noJ_ok rfl ?_
        iterate 3 refine GoR.op rfl rfl rfl rfl ?_
        refine GoR.op rfl rfl (aOp_andNot rfl rfl (by omega) heo) rfl ?_
        refine GoR.call rfl rfl (aOp_callVal rfl aFunc31 rfl) (hc3 _ (A.ext e0) f0) ?_ (by rintro _ _ ⟨q, _⟩; cases q)
        rintro v8 h8 ⟨q, x8⟩
        cases q
        refine ⟨_, rfl, ?_⟩
        replace f0 := f0.ext x8
        replace e0 := e0.trans x8
        iterate 4 refine GoR.op rfl rfl rfl rfl ?_
        refine GoR.call rfl rfl (aOp_callVal rfl aFunc32 rfl) (hs2 _) ?_ (by rintro _ _ ⟨q, _⟩; cases q)
        rintro v9 h9 ⟨q, x9⟩
        cases q
        refine ⟨_, rfl, ?_⟩
        replace f0 := f0.ext x9
        replace e0 := e0.trans x9
        refine GoR.op rfl rfl rfl rfl ?_
        refine GoR.op rfl rfl (aOp_lss rfl rfl (r := false) (decide_eq_false (by omega))) rfl ?_
        iterate 3 refine GoR.op rfl rfl rfl rfl ?_
        refine GoR.call rfl rfl (aOp_callVal rfl aFunc32 rfl) (hs2 _) ?_ (by rintro _ _ ⟨q, _⟩; cases q)
        rintro v10 h10 ⟨q, x10⟩
        cases q
        refine ⟨_, rfl, ?_⟩
        replace f0 := f0.ext x10
        replace e0 := e0.trans x10
        refine GoR.op rfl rfl rfl rfl ?_
        refine GoR.op rfl rfl (aOp_eql rfl rfl (r := false) (decide_eq_false (by omega))) rfl ?_
        refine GoR.op rfl rfl rfl rfl ?_
        iterate 3 refine GoR.skip rfl rfl rfl ?_
        iterate 3 refine GoR.op rfl rfl rfl rfl ?_
        refine GoR.end ?_
        refine Go.cond noJ_ok (b := false) rfl ?_
        refine Go.code noJ_ok ?_
        exact done () _ _ ⟨rfl, trivial⟩ e0
  clear e0
  rintro ⟨⟩ h60 e0
  iterate 2 refine Go.seq noJ_ok ?_
  refine Go.region noJ_ok rfl ?_
  refine GoR.op rfl rfl rfl rfl ?_
  refine GoR.op rfl rfl (aOp_neq rfl rfl (r := true) (decide_eq_false (by omega))) rfl ?_
  refine GoR.end ?_
  refine Go.cond noJ_ok (b := true) rfl ?_
  refine Go.seq noJ_ok ?_
  refine Go.region JA_ok rfl ?_
  refine GoR.jump JA_ok rfl rfl (aOp_callFunc aFunc21 rfl) (v := .bool true) rfl rfl ?_
  refine GoR.op rfl rfl rfl rfl ?_
  refine GoR.end ?_
  exact Go.ret noJ_ok (ret_end (aResult_of Try.func8 rfl rfl) ⟨rfl, e0⟩)
theorem law8_cl {F : FieldV} (O : F.Ok) (hcB : F.canB = false) (hsl rsl lsl : AVal) (h : AH) (A : FieldAt h F hsl rsl lsl) {w : Nat} (hw : w < 256) :
    Runs Try.prog 8 [.agg (F.cells hsl rsl lsl), .int .u8 (w : Nat)] h (fun en h' => en = .ret (.bool true) ∧ Ext h h') := by
  have hnh := O.nh
  have hnr := O.nr
  have hnl := O.nl
  have hl1 := A.hs.len
  have hl2 := A.rs.len
  have hl3 := A.ls.len
  rw [List.length_map] at hl1 hl2 hl3
  have hlo := long_ok F hsl rsl lsl _ _ _ hl1 hl2 hl3 (r := false) (decide_eq_false (by omega))
  obtain ⟨r, R⟩ := false_ex O
  obtain ⟨q, R2⟩ := clash_ex O hcB
  have hle32 : 2 ^ F.looks.length ≤ 32 := Nat.pow_le_pow_right (by omega) hnl
  have hpos := Nat.two_pow_pos F.looks.length
  have hce := cl_every O
  have hcr := canWo_cl O R.lt
  rw [R.suits] at hcr
  rw [hcB] at hce
  have hrl := R.lt
  have hql := R2.lt
  have hcq : F.cl q = true := by rw [← canWo_neg O hql]; exact R2.suits
  have hpr : popc r ≠ 0 := by
    intro z
    have := popc_zero r (by omega) z
    have h2 := R.suits
    rw [this, canWo_zero O, hcB] at h2
    cases h2
  have hq1 : 1 ≤ q := by
    rcases Nat.eq_zero_or_pos q with z | z
    · rw [z, cl_zero O] at hcq
      cases hcq
    · exact z
  have hqr : q &&& r ≠ 0 := by
    intro z
    have hb := and_bit q (by omega) r (by omega) z
    have hcan : F.canOn (fun i => !r.testBit i) = true := by
      have h2 := R.suits
      rw [canWo_on] at h2
      rw [← h2]
      exact canOn_congr fun i hi => by rw [bit_nat r (by omega) i (by omega)]
    have := canOn_mono (F := F) (b := fun i => q.testBit i) (b' := fun i => !r.testBit i) (fun i hi k => by rw [hb i (by omega) k]; rfl) hcan
    unfold FieldV.cl at hcq
    rw [this] at hcq
    cases hcq
  have hown : ∀ t, t < 2 ^ F.looks.length → F.cl (andNot (2 ^ F.looks.length - 1) t) = !F.canWo (t : Nat) := fun t ht => canWo_cl O ht
  have hleast := R.least
  have hleast2 : ∀ s, s < 2 ^ F.looks.length → F.cl s = true → popc q < popc s ∨ (popc q = popc s ∧ q ≤ s) := fun s hs k => R2.least s hs (by show (!F.canWo (-(s : Nat) - 1)) = true; rw [canWo_neg O hs]; exact k)
  have hpart : ∀ i, i < F.looks.length → q.testBit i = true → F.cl (andNot q (2 ^ i)) = false := by
    intro i hi k
    have h1 := popc_less q (by omega) i (by omega) k
    have h2 := pow_lt _ (by omega) i hi
    have h3 := an_lt q (by omega) (2 ^ i) (by omega)
    cases z : F.cl (andNot q (2 ^ i)) with
    | false => rfl
    | true =>
      have := hleast2 _ (by omega) z
      omega
  have hcn := fun h A => Clash_yes O hcB R2 hsl rsl lsl h A
  have hfo := fun h A => False_ok O R hsl rsl lsl h A
  have hhy := fun h A => heaps23_yes O hsl rsl lsl h A (by omega) (by omega) (by omega)
  obtain ⟨top, htop⟩ : ∃ top, 2 ^ F.looks.length = top := ⟨_, rfl⟩
  have hshl : (1 : Int) * 2 ^ F.looks.length = (top : Nat) := by rw [Int.one_mul, ← htop]; push_cast; rfl
  obtain ⟨ev', hev⟩ : ∃ ev', top - 1 = ev' := ⟨_, rfl⟩
  have hsub : ((top : Nat) : Int) - 1 = (ev' : Nat) := by omega
  obtain ⟨own, hown2⟩ : ∃ own, w &&& ev' = own := ⟨_, rfl⟩
  have hownl : own ≤ ev' := by rw [← hown2]; exact Nat.and_le_right
  rw [htop] at hle32 hpos hce hcr hown hrl hleast hql hleast2
  rw [hev] at hce hcr hown
  obtain ⟨er, her⟩ : ∃ er, andNot ev' r = er := ⟨_, rfl⟩
  obtain ⟨eo, heo⟩ : ∃ eo, andNot ev' own = eo := ⟨_, rfl⟩
  have her32 := (an_lt ev' (by omega) r (by omega)).1
  have heo32 := (an_lt ev' (by omega) own (by omega)).1
  rw [her] at her32 hcr
  rw [heo] at heo32
  have hco := hown own (by omega)
  rw [heo] at hco
  have hlo2 := hleast own (by omega)
  have hlo3 := hleast2 own (by omega)
  obtain ⟨z, hz⟩ : ∃ z, q &&& r = z := ⟨_, rfl⟩
  rw [hz] at hqr
  have hc1 := fun h' (A : FieldAt h' F hsl rsl lsl) f => clash31_ok O hsl rsl lsl er her32 h.next h' A f
  have hc2 := fun h' (A : FieldAt h' F hsl rsl lsl) f => clash31_ok O hsl rsl lsl ev' (by omega) h.next h' A f
  have hc3 := fun h' (A : FieldAt h' F hsl rsl lsl) f => clash31_ok O hsl rsl lsl eo heo32 h.next h' A f
  have hc4 := fun h' (A : FieldAt h' F hsl rsl lsl) f => clash31_ok O hsl rsl lsl q (by omega) h.next h' A f
  have hc5 := fun h' (A : FieldAt h' F hsl rsl lsl) f => clash31_ok O hsl rsl lsl own (by omega) h.next h' A f
  have hc6 := fun i (hi : i < F.looks.length) (k : q.testBit i = true) h' (A : FieldAt h' F hsl rsl lsl) f => by
    have := clash31_ok O hsl rsl lsl (andNot q (2 ^ i)) (an_lt q (by omega) (2 ^ i) (by have := pow_lt _ (by omega) i hi; omega)).1 h.next h' A f
    rw [hpart i hi k] at this
    exact this
  rw [hcr] at hc1
  rw [hce] at hc2
  rw [hcq] at hc4
  have hs1 := size32_ok r (by omega)
  have hs2 := size32_ok own (by omega)
  have hs3 := size32_ok q (by omega)
  have hp5 := popc_le5 own
  have hp6 := popc_le5 q
  have hp7 := popc_le5 r
  unfold FieldV.cells fieldC at hlo hcn hfo hhy hc1 hc2 hc3 hc4 hc5 hc6 ⊢
  refine Runs.intro aFunc8 rfl rfl rfl rfl fun rest => ?_
  refine Go.seq noJ_ok ?_
  refine Go.region noJ_ok rfl ?_
  refine GoR.box rfl rfl rfl rfl rfl rfl fun h0 x0 f0 => ?_
  have e0 := x0
  have := f0.1
  refine GoR.op rfl rfl rfl rfl ?_
  refine GoR.end ?_
  iterate 2 refine Go.seq noJ_ok ?_
  refine Go.region noJ_ok rfl ?_
  refine GoR.op rfl rfl (ld27 rfl f0 rfl) rfl ?_
  refine GoR.call rfl rfl (aOp_callFunc aFunc22 rfl) (hlo _) ?_ (by rintro _ _ ⟨q, _⟩; cases q)
  rintro v1 h1 ⟨q, x1⟩
  cases q
  refine ⟨_, rfl, ?_⟩
  replace f0 := f0.ext x1
  replace e0 := e0.trans x1
  refine GoR.end ?_
  refine Go.cond noJ_ok (b := false) rfl ?_
  refine Go.code noJ_ok ?_
  refine Go.seq noJ_ok ?_
  refine Go.region noJ_ok rfl ?_
  refine GoR.op rfl rfl (ld27 rfl f0 rfl) rfl ?_
  refine GoR.call rfl rfl (aOp_callFunc aFunc19 rfl) (hcn _ (A.ext e0)) ?_ (by rintro _ _ ⟨q, _⟩; cases q)
  rintro v2 h2 ⟨q, x2⟩
  cases q
  refine ⟨_, rfl, ?_⟩
  replace f0 := f0.ext x2
  replace e0 := e0.trans x2
  iterate 5 refine GoR.op rfl rfl rfl rfl ?_
  refine GoR.end ?_
  refine Go.seq noJ_ok ?_
  refine Go.region noJ_ok rfl ?_
  refine GoR.op rfl rfl (ld27 rfl f0 rfl) rfl ?_
  refine GoR.call rfl rfl (aOp_callFunc aFunc18 rfl) (hfo _ (A.ext e0)) ?_ (by rintro _ _ ⟨q, _⟩; cases q)
  rintro v3 h3 ⟨q, x3⟩
  cases q
  refine ⟨_, rfl, ?_⟩
  replace f0 := f0.ext x3
  replace e0 := e0.trans x3
  iterate 7 refine GoR.op rfl rfl rfl rfl ?_
  refine GoR.end ?_
  iterate 2 refine Go.seq noJ_ok ?_
  refine Go.region noJ_ok rfl ?_
  refine GoR.op rfl rfl (ld27 rfl f0 rfl) rfl ?_
  refine GoR.call rfl rfl (aOp_callFunc aFunc23 rfl) (hhy _ (A.ext e0)) ?_ (by rintro _ _ ⟨q, _⟩; cases q)
  rintro v4 h4 ⟨q, x4⟩
  cases q
  refine ⟨_, rfl, ?_⟩
  replace f0 := f0.ext x4
  replace e0 := e0.trans x4
  refine GoR.op rfl rfl rfl rfl ?_
  refine GoR.end ?_
  refine Go.cond noJ_ok (b := false) rfl ?_
  refine Go.code noJ_ok ?_
  refine Go.seq noJ_ok ?_
  refine Go.region noJ_ok rfl ?_
  iterate 2 refine GoR.op rfl rfl rfl rfl ?_
  refine GoR.end ?_
  refine Go.seq noJ_ok ?_
  refine Go.region noJ_ok rfl ?_
  refine GoR.op rfl rfl (fa27_4 rfl) rfl ?_
  refine GoR.op rfl rfl (ld25 rfl f0 rfl) rfl ?_
  refine GoR.op rfl rfl (aOp_lenSlice Try.underlying25 rfl hl3) rfl ?_
  refine GoR.op rfl rfl (aOp_shl rfl rfl (by omega) hshl (by omega)) rfl ?_
  refine GoR.op rfl rfl (aOp_sub rfl rfl (by constructor <;> omega) hsub) rfl ?_
  iterate 2 refine GoR.op rfl rfl rfl rfl ?_
  refine GoR.end ?_
  refine Go.seq noJ_ok ?_
  refine Go.region noJ_ok rfl ?_
  refine GoR.op rfl rfl rfl rfl ?_
  refine GoR.op rfl rfl (aOp_convU8 rfl Try.underlying5 Try.underlying3 (by omega)) rfl ?_
  refine GoR.op rfl rfl rfl rfl ?_
  refine GoR.op rfl rfl (aOp_andNat rfl rfl (by omega) (by omega) hown2) rfl ?_
  refine GoR.op rfl rfl rfl rfl ?_
  refine GoR.end ?_
  iterate 2 refine Go.seq noJ_ok ?_
  refine Go.region noJ_ok rfl ?_
  refine GoR.op rfl rfl rfl rfl ?_
  refine GoR.op rfl rfl (aOp_neq rfl rfl (r := false) (decide_eq_true (by omega))) rfl ?_
  iterate 2 refine GoR.op rfl rfl rfl rfl ?_
  refine GoR.op rfl rfl (aOp_lss rfl rfl (r := false) (decide_eq_false (by omega))) rfl ?_
  iterate 4 refine GoR.op rfl rfl rfl rfl ?_
  refine GoR.op rfl rfl (aOp_gtr rfl rfl (r := false) (decide_eq_false (by omega))) rfl ?_
  iterate 4 refine GoR.op rfl rfl rfl rfl ?_
  refine GoR.call rfl rfl (aOp_callVal rfl aFunc32 rfl) (hs1 _) ?_ (by rintro _ _ ⟨q, _⟩; cases q)
  rintro v5 h5 ⟨q, x5⟩
  cases q
  refine ⟨_, rfl, ?_⟩
  replace f0 := f0.ext x5
  replace e0 := e0.trans x5
  refine GoR.op rfl rfl rfl rfl ?_
  refine GoR.op rfl rfl (aOp_neq rfl rfl (r := false) (decide_eq_true (by omega))) rfl ?_
  iterate 5 refine GoR.op rfl rfl rfl rfl ?_
  refine GoR.op rfl rfl (aOp_andNot rfl rfl (by omega) her) rfl ?_
  refine GoR.call rfl rfl (aOp_callVal rfl aFunc31 rfl) (hc1 _ (A.ext e0) f0) ?_ (by rintro _ _ ⟨q, _⟩; cases q)
  rintro v6 h6 ⟨q, x6⟩
  cases q
  refine ⟨_, rfl, ?_⟩
  replace f0 := f0.ext x6
  replace e0 := e0.trans x6
  iterate 3 refine GoR.op rfl rfl rfl rfl ?_
  refine GoR.op rfl rfl (aOp_eql rfl rfl (r := false) (decide_eq_false (by omega))) rfl ?_
  refine GoR.op rfl rfl rfl rfl ?_
  refine GoR.op rfl rfl (aOp_eql rfl rfl (r := false) (decide_eq_false (by omega))) rfl ?_
  refine GoR.op rfl rfl (aOp_neqBool rfl rfl Try.underlying4 rfl) rfl ?_
  iterate 3 refine GoR.op rfl rfl rfl rfl ?_
  refine GoR.op rfl rfl (aOp_eql rfl rfl (r := true) (decide_eq_true (by omega))) rfl ?_
  iterate 2 refine GoR.op rfl rfl rfl rfl ?_
  refine GoR.call rfl rfl (aOp_callVal rfl aFunc31 rfl) (hc2 _ (A.ext e0) f0) ?_ (by rintro _ _ ⟨q, _⟩; cases q)
  rintro v7 h7 ⟨q, x7⟩
  cases q
  refine ⟨_, rfl, ?_⟩
  replace f0 := f0.ext x7
  replace e0 := e0.trans x7
  refine GoR.op rfl rfl (aOp_neqBool rfl rfl Try.underlying4 rfl) rfl ?_
  iterate 3 refine GoR.op rfl rfl rfl rfl ?_
  refine GoR.op rfl rfl (aOp_neq rfl rfl (r := false) (decide_eq_true (by omega))) rfl ?_
  refine GoR.op rfl rfl rfl rfl ?_
  iterate 6 refine GoR.skip rfl rfl rfl ?_
  iterate 2 refine GoR.op rfl rfl rfl rfl ?_
  refine GoR.end ?_
  refine Go.cond noJ_ok (b := false) rfl ?_
  refine Go.code noJ_ok ?_
  refine Go.seq noJ_ok (Go.join (fun _ : Unit => [(2, .ptr h.next 0), (5, .int .i64 (q : Nat)), (6, .int .i64 0), (8, .int .i64 (r : Nat)), (10, .func (.func 31) [] [.ptr h.next 0]), (11, .int .i64 (ev' : Nat)), (12, .func (.func 32) [] []), (13, .int .i64 (own : Nat))]) (fun _ h' => Ext h h' ∧ Has h' h.next (.cells .plain [hsl, rsl, .int .i64 F.a, .int .i64 F.b, .int .i64 F.c, .int .i64 F.lim, lsl] 27)) ?_ ?_)
  · intro k' done
    cases hk : F.cl eo with
    | true =>
      rw [hk] at hc3
      refine Go.seq noJ_ok ?_
      refine Go.region noJ_ok rfl ?_
      iterate 3 refine GoR.op rfl rfl rfl rfl ?_
      refine GoR.op rfl rfl (aOp_andNot rfl rfl (by omega) heo) rfl ?_
      refine GoR.call rfl rfl (aOp_callVal rfl aFunc31 rfl) (hc3 _ (A.ext e0) f0) ?_ (by rintro _ _ ⟨q, _⟩; cases q)
      rintro v8 h8 ⟨q, x8⟩
      cases q
      refine ⟨_, rfl, ?_⟩
      replace f0 := f0.ext x8
      replace e0 := e0.trans x8
      iterate 2 refine GoR.op rfl rfl rfl rfl ?_
      iterate 17 refine GoR.skip rfl rfl rfl ?_
      refine GoR.op rfl rfl rfl rfl ?_
      refine GoR.end ?_
      refine Go.cond noJ_ok (b := false) rfl ?_
      refine Go.code noJ_ok ?_
      exact done () _ _ ⟨rfl, rfl, rfl, rfl, rfl, rfl, rfl, rfl, trivial⟩ ⟨e0, f0⟩
    | false =>
      rw [hk] at hc3 hco
      have hl := hlo2 (by simpa using hco.symm)
      by_cases hpo : popc own = popc r
      · refine Go.seq noJ_ok ?_
        refine Go.region noJ_ok rfl ?_
        iterate 3 refine GoR.op rfl rfl rfl rfl ?_
        refine GoR.op rfl rfl (aOp_andNot rfl rfl (by omega) heo) rfl ?_
        refine GoR.call rfl rfl (aOp_callVal rfl aFunc31 rfl) (hc3 _ (A.ext e0) f0) ?_ (by rintro _ _ ⟨q, _⟩; cases q)
        rintro v8 h8 ⟨q, x8⟩
        cases q
        refine ⟨_, rfl, ?_⟩
        replace f0 := f0.ext x8
        replace e0 := e0.trans x8
        iterate 4 refine GoR.op rfl rfl rfl rfl ?_
        refine GoR.call rfl rfl (aOp_callVal rfl aFunc32 rfl) (hs2 _) ?_ (by rintro _ _ ⟨q, _⟩; cases q)
        rintro v9 h9 ⟨q, x9⟩
        cases q
        refine ⟨_, rfl, ?_⟩
        replace f0 := f0.ext x9
        replace e0 := e0.trans x9
        refine GoR.op rfl rfl rfl rfl ?_
        refine GoR.op rfl rfl (aOp_lss rfl rfl (r := false) (decide_eq_false (by omega))) rfl ?_
        iterate 3 refine GoR.op rfl rfl rfl rfl ?_
        refine GoR.call rfl rfl (aOp_callVal rfl aFunc32 rfl) (hs2 _) ?_ (by rintro _ _ ⟨q, _⟩; cases q)
        rintro v10 h10 ⟨q, x10⟩
        cases q
        refine ⟨_, rfl, ?_⟩
        replace f0 := f0.ext x10
        replace e0 := e0.trans x10
        refine GoR.op rfl rfl rfl rfl ?_
        refine GoR.op rfl rfl (aOp_eql rfl rfl (r := true) (decide_eq_true (by omega))) rfl ?_
        iterate 3 refine GoR.op rfl rfl rfl rfl ?_
        refine GoR.op rfl rfl (aOp_lss rfl rfl (r := false) (decide_eq_false (by omega))) rfl ?_
        iterate 3 refine GoR.op rfl rfl rfl rfl ?_
        refine GoR.end ?_
        refine Go.cond noJ_ok (b := false) rfl ?_
        refine Go.code noJ_ok ?_
        exact done () _ _ ⟨rfl, rfl, rfl, rfl, rfl, rfl, rfl, rfl, trivial⟩ ⟨e0, f0⟩
      · refine Go.seq noJ_ok ?_
        refine Go.region noJ_ok rfl ?_
        iterate 3 refine GoR.op rfl rfl rfl rfl ?_
        refine GoR.op rfl rfl (aOp_andNot rfl rfl (by omega) heo) rfl ?_
        refine GoR.call rfl rfl (aOp_callVal rfl aFunc31 rfl) (hc3 _ (A.ext e0) f0) ?_ (by rintro _ _ ⟨q, _⟩; cases q)
        rintro v8 h8 ⟨q, x8⟩
        cases q
        refine ⟨_, rfl, ?_⟩
        replace f0 := f0.ext x8
        replace e0 := e0.trans x8
        iterate 4 refine GoR.op rfl rfl rfl rfl ?_
        refine GoR.call rfl rfl (aOp_callVal rfl aFunc32 rfl) (hs2 _) ?_ (by rintro _ _ ⟨q, _⟩; cases q)
        rintro v9 h9 ⟨q, x9⟩
        cases q
        refine ⟨_, rfl, ?_⟩
        replace f0 := f0.ext x9
        replace e0 := e0.trans x9
        refine GoR.op rfl rfl rfl rfl ?_
        refine GoR.op rfl rfl (aOp_lss rfl rfl (r := false) (decide_eq_false (by omega))) rfl ?_
        iterate 3 refine GoR.op rfl rfl rfl rfl ?_
        refine GoR.call rfl rfl (aOp_callVal rfl aFunc32 rfl) (hs2 _) ?_ (by rintro _ _ ⟨q, _⟩; cases q)
        rintro v10 h10 ⟨q, x10⟩
        cases q
        refine ⟨_, rfl, ?_⟩
        replace f0 := f0.ext x10
        replace e0 := e0.trans x10
        refine GoR.op rfl rfl rfl rfl ?_
        refine GoR.op rfl rfl (aOp_eql rfl rfl (r := false) (decide_eq_false (by omega))) rfl ?_
        refine GoR.op rfl rfl rfl rfl ?_
        iterate 3 refine GoR.skip rfl rfl rfl ?_
        iterate 3 refine GoR.op rfl rfl rfl rfl ?_
        refine GoR.end ?_
        refine Go.cond noJ_ok (b := false) rfl ?_
        refine Go.code noJ_ok ?_
        exact done () _ _ ⟨rfl, rfl, rfl, rfl, rfl, rfl, rfl, rfl, trivial⟩ ⟨e0, f0⟩
  clear e0 f0
  rintro ⟨⟩ h60 ⟨e0, f0⟩
  iterate 2 refine Go.seq noJ_ok ?_
  refine Go.region noJ_ok rfl ?_
  refine GoR.op rfl rfl rfl rfl ?_
  refine GoR.op rfl rfl (aOp_neq rfl rfl (r := false) (decide_eq_true (by omega))) rfl ?_
  refine GoR.end ?_
  refine Go.cond noJ_ok (b := false) rfl ?_
  refine Go.code noJ_ok ?_
  iterate 2 refine Go.seq noJ_ok ?_
  refine Go.region noJ_ok rfl ?_
  refine GoR.op rfl rfl rfl rfl ?_
  refine GoR.op rfl rfl (aOp_lss rfl rfl (r := false) (decide_eq_false (by omega))) rfl ?_
  iterate 3 refine GoR.op rfl rfl rfl rfl ?_
  refine GoR.op rfl rfl (aOp_gtr rfl rfl (r := false) (decide_eq_false (by omega))) rfl ?_
  iterate 4 refine GoR.op rfl rfl rfl rfl ?_
  refine GoR.call rfl rfl (aOp_callVal rfl aFunc31 rfl) (hc4 _ (A.ext e0) f0) ?_ (by rintro _ _ ⟨q, _⟩; cases q)
  rintro v61 h61 ⟨q, x61⟩
  cases q
  refine ⟨_, rfl, ?_⟩
  replace f0 := f0.ext x61
  replace e0 := e0.trans x61
  iterate 5 refine GoR.op rfl rfl rfl rfl ?_
  refine GoR.op rfl rfl (aOp_andNat rfl rfl (by omega) (by omega) hz) rfl ?_
  refine GoR.op rfl rfl (aOp_eql rfl rfl (r := false) (decide_eq_false (by omega))) rfl ?_
  refine GoR.op rfl rfl rfl rfl ?_
  refine GoR.end ?_
  refine Go.cond noJ_ok (b := false) rfl ?_
  refine Go.code noJ_ok ?_
  iterate 2 refine Go.seq noJ_ok ?_
  refine Go.region noJ_ok rfl ?_
  refine GoR.op rfl rfl (fa27_4 rfl) rfl ?_
  refine GoR.op rfl rfl (ld25 rfl f0 rfl) rfl ?_
  refine GoR.op rfl rfl (aOp_lenSlice Try.underlying25 rfl hl3) rfl ?_
  refine GoR.op rfl rfl rfl rfl ?_
  refine GoR.end ?_
  refine Go.block noJ_ok ?_
  refine Go.loopKeep (fun i : Nat => [(2, .ptr h.next 0), (5, .int .i64 (q : Nat)), (6, .int .i64 0), (8, .int .i64 (r : Nat)), (10, .func (.func 31) [] [.ptr h.next 0]), (11, .int .i64 (ev' : Nat)), (12, .func (.func 32) [] []), (13, .int .i64 (own : Nat)), (165, .int .i64 F.looks.length), (166, .int .i64 (i : Nat))])
    (fun m i h' => m + i = F.looks.length ∧ Ext h h' ∧ Has h' h.next (.cells .plain [hsl, rsl, .int .i64 F.a, .int .i64 F.b, .int .i64 F.c, .int .i64 F.lim, lsl] 27)) (n := F.looks.length) 0 ⟨rfl, rfl, rfl, rfl, rfl, rfl, rfl, rfl, rfl, rfl, trivial⟩ ⟨rfl, e0, f0⟩ ?_
  clear e0 f0
  rintro m i h70 ⟨hm, e0, f0⟩ again
  by_cases hi : i < F.looks.length
  · have hbit := bit_nat q (by omega) i (by omega)
    have hpw := pow_lt _ (by omega) i hi
    rw [htop] at hpw
    obtain ⟨pw, hpw2⟩ : ∃ pw, 2 ^ i = pw := ⟨_, rfl⟩
    have hshl2 : (1 : Int) * 2 ^ i = (pw : Nat) := by rw [Int.one_mul, ← hpw2]; push_cast; rfl
    cases hb : q.testBit i with
    | false =>
      rw [hb] at hbit
      have hne : decide (((q : Nat) : Int).fdiv (2 ^ i) % 2 = 1) = false := hbit
      refine Go.seq noJ_ok ?_
      refine Go.region noJ_ok rfl ?_
      refine GoR.op rfl rfl (aOp_lss rfl rfl (r := true) (decide_eq_true (by omega))) rfl ?_
      refine GoR.end ?_
      refine Go.seq noJ_ok ?_
      refine Go.cond noJ_ok (b := true) rfl ?_
      refine Go.code noJ_ok ?_
      refine Go.seq noJ_ok ?_
      refine Go.block noJ_ok ?_
      refine Go.seq noJ_ok ?_
      refine Go.region noJ_ok rfl ?_
      iterate 2 refine GoR.op rfl rfl rfl rfl ?_
      refine GoR.end ?_
      refine Go.seq noJ_ok ?_
      refine Go.region noJ_ok rfl ?_
      iterate 2 refine GoR.op rfl rfl rfl rfl ?_
      refine GoR.op rfl rfl (aOp_shr rfl rfl (by omega) rfl) rfl ?_
      refine GoR.op rfl rfl (aOp_and1 rfl rfl rfl) rfl ?_
      refine GoR.op rfl rfl (aOp_eql rfl rfl hne) rfl ?_
      refine GoR.op rfl rfl rfl rfl ?_
      iterate 6 refine GoR.skip rfl rfl rfl ?_
      refine GoR.op rfl rfl rfl rfl ?_
      refine GoR.end ?_
      refine Go.cond noJ_ok (b := false) rfl ?_
      refine Go.code noJ_ok ?_
      refine Go.inBlock noJ_ok ?_
      refine Go.region noJ_ok rfl ?_
      refine GoR.op rfl rfl (aOp_add rfl rfl (by constructor <;> omega) rfl) rfl ?_
      refine GoR.op rfl rfl rfl rfl ?_
      refine GoR.end ?_
      exact again (m - 1) (i + 1) _ _ (by omega) ⟨rfl, rfl, rfl, rfl, rfl, rfl, rfl, rfl, rfl, rfl, trivial⟩ ⟨by omega, e0, f0⟩
    | true =>
      rw [hb] at hbit
      have hne : decide (((q : Nat) : Int).fdiv (2 ^ i) % 2 = 1) = true := hbit
      have hc7 := hc6 i hi hb
      rw [hpw2] at hc7 hpw
      refine Go.seq noJ_ok ?_
      refine Go.region noJ_ok rfl ?_
      refine GoR.op rfl rfl (aOp_lss rfl rfl (r := true) (decide_eq_true (by omega))) rfl ?_
      refine GoR.end ?_
      refine Go.seq noJ_ok ?_
      refine Go.cond noJ_ok (b := true) rfl ?_
      refine Go.code noJ_ok ?_
      refine Go.seq noJ_ok ?_
      refine Go.block noJ_ok ?_
      refine Go.seq noJ_ok ?_
      refine Go.region noJ_ok rfl ?_
      iterate 2 refine GoR.op rfl rfl rfl rfl ?_
      refine GoR.end ?_
      refine Go.seq noJ_ok ?_
      refine Go.region noJ_ok rfl ?_
      iterate 2 refine GoR.op rfl rfl rfl rfl ?_
      refine GoR.op rfl rfl (aOp_shr rfl rfl (by omega) rfl) rfl ?_
      refine GoR.op rfl rfl (aOp_and1 rfl rfl rfl) rfl ?_
      refine GoR.op rfl rfl (aOp_eql rfl rfl hne) rfl ?_
      iterate 4 refine GoR.op rfl rfl rfl rfl ?_
      refine GoR.op rfl rfl (aOp_shl rfl rfl (by omega) hshl2 (by omega)) rfl ?_
      refine GoR.op rfl rfl (aOp_andNot (r := andNot q pw) rfl rfl (by omega) rfl) rfl ?_
      refine GoR.call rfl rfl (aOp_callVal rfl aFunc31 rfl) (hc7 _ (A.ext e0) f0) ?_ (by rintro _ _ ⟨q, _⟩; cases q)
      rintro v71 h71 ⟨q, x71⟩
      cases q
      refine ⟨_, rfl, ?_⟩
      replace f0 := f0.ext x71
      replace e0 := e0.trans x71
      refine GoR.op rfl rfl rfl rfl ?_
      refine GoR.end ?_
      refine Go.cond noJ_ok (b := false) rfl ?_
      refine Go.code noJ_ok ?_
      refine Go.inBlock noJ_ok ?_
      refine Go.region noJ_ok rfl ?_
      refine GoR.op rfl rfl (aOp_add rfl rfl (by constructor <;> omega) rfl) rfl ?_
      refine GoR.op rfl rfl rfl rfl ?_
      refine GoR.end ?_
      exact again (m - 1) (i + 1) _ _ (by omega) ⟨rfl, rfl, rfl, rfl, rfl, rfl, rfl, rfl, rfl, rfl, trivial⟩ ⟨by omega, e0, f0⟩
  · clear again
    cases hk : F.cl own with
    | false =>
      rw [hk] at hc5
      refine Go.seq noJ_ok ?_
      refine Go.region noJ_ok rfl ?_
      refine GoR.op rfl rfl (aOp_lss rfl rfl (r := false) (decide_eq_false (by omega))) rfl ?_
      refine GoR.end ?_
      refine Go.seq noJ_ok ?_
      refine Go.cond noJ_ok (b := false) rfl ?_
      refine Go.code noJ_ok ?_
      refine Go.seq noJ_ok ?_
      refine Go.region JA_ok rfl ?_
      iterate 2 refine GoR.op rfl rfl rfl rfl ?_
      refine GoR.callJ JA_ok rfl rfl (aOp_callVal rfl aFunc31 rfl) rfl (hc5 _ (A.ext e0) f0) ?_ (by rintro _ _ ⟨q, _⟩; cases q)
      rintro v71 h71 ⟨q, x71⟩
      cases q
      refine ⟨_, rfl, ?_⟩
      replace f0 := f0.ext x71
      replace e0 := e0.trans x71
      iterate 2 refine GoR.op rfl rfl rfl rfl ?_
      iterate 7 refine GoR.skip rfl rfl rfl ?_
      iterate 2 refine GoR.op rfl rfl rfl rfl ?_
      iterate 12 refine GoR.skip rfl rfl rfl ?_
      iterate 2 refine GoR.op rfl rfl rfl rfl ?_
      refine GoR.jump JA_ok rfl rfl (aOp_callFunc aFunc21 rfl) (v := .bool true) rfl rfl ?_
      iterate 2 refine GoR.op rfl rfl rfl rfl ?_
      refine GoR.end ?_
      exact Go.ret noJ_ok (ret_end (aResult_of Try.func8 rfl rfl) ⟨rfl, e0⟩)
    | true =>
      rw [hk] at hc5
      have hl := hlo3 hk
      by_cases hpo : popc q = popc own
      · refine Go.seq noJ_ok ?_
        refine Go.region noJ_ok rfl ?_
        refine GoR.op rfl rfl (aOp_lss rfl rfl (r := false) (decide_eq_false (by omega))) rfl ?_
        refine GoR.end ?_
        refine Go.seq noJ_ok ?_
        refine Go.cond noJ_ok (b := false) rfl ?_
        refine Go.code noJ_ok ?_
        refine Go.seq noJ_ok ?_
        refine Go.region JA_ok rfl ?_
        iterate 2 refine GoR.op rfl rfl rfl rfl ?_
        refine GoR.callJ JA_ok rfl rfl (aOp_callVal rfl aFunc31 rfl) rfl (hc5 _ (A.ext e0) f0) ?_ (by rintro _ _ ⟨q, _⟩; cases q)
        rintro v71 h71 ⟨q, x71⟩
        cases q
        refine ⟨_, rfl, ?_⟩
        replace f0 := f0.ext x71
        replace e0 := e0.trans x71
        iterate 4 refine GoR.op rfl rfl rfl rfl ?_
        refine GoR.callJ JA_ok rfl rfl (aOp_callVal rfl aFunc32 rfl) rfl (hs2 _) ?_ (by rintro _ _ ⟨q, _⟩; cases q)
        rintro v72 h72 ⟨q, x72⟩
        cases q
        refine ⟨_, rfl, ?_⟩
        replace f0 := f0.ext x72
        replace e0 := e0.trans x72
        iterate 2 refine GoR.op rfl rfl rfl rfl ?_
        refine GoR.callJ JA_ok rfl rfl (aOp_callVal rfl aFunc32 rfl) rfl (hs3 _) ?_ (by rintro _ _ ⟨q, _⟩; cases q)
        rintro v73 h73 ⟨q, x73⟩
        cases q
        refine ⟨_, rfl, ?_⟩
        replace f0 := f0.ext x73
        replace e0 := e0.trans x73
        refine GoR.op rfl rfl (aOp_gtr rfl rfl (r := false) (decide_eq_false (by omega))) rfl ?_
        iterate 4 refine GoR.op rfl rfl rfl rfl ?_
        refine GoR.callJ JA_ok rfl rfl (aOp_callVal rfl aFunc32 rfl) rfl (hs2 _) ?_ (by rintro _ _ ⟨q, _⟩; cases q)
        rintro v74 h74 ⟨q, x74⟩
        cases q
        refine ⟨_, rfl, ?_⟩
        replace f0 := f0.ext x74
        replace e0 := e0.trans x74
        iterate 2 refine GoR.op rfl rfl rfl rfl ?_
        refine GoR.callJ JA_ok rfl rfl (aOp_callVal rfl aFunc32 rfl) rfl (hs3 _) ?_ (by rintro _ _ ⟨q, _⟩; cases q)
        rintro v75 h75 ⟨q, x75⟩
        cases q
        refine ⟨_, rfl, ?_⟩
        replace f0 := f0.ext x75
        replace e0 := e0.trans x75
        refine GoR.op rfl rfl (aOp_eql rfl rfl (r := true) (decide_eq_true (by omega))) rfl ?_
        iterate 3 refine GoR.op rfl rfl rfl rfl ?_
        refine GoR.op rfl rfl (aOp_geq rfl rfl (r := true) (decide_eq_true (by omega))) rfl ?_
        iterate 3 refine GoR.op rfl rfl rfl rfl ?_
        refine GoR.jump JA_ok rfl rfl (aOp_callFunc aFunc21 rfl) (v := .bool true) rfl rfl ?_
        iterate 2 refine GoR.op rfl rfl rfl rfl ?_
        refine GoR.end ?_
        exact Go.ret noJ_ok (ret_end (aResult_of Try.func8 rfl rfl) ⟨rfl, e0⟩)
      · refine Go.seq noJ_ok ?_
        refine Go.region noJ_ok rfl ?_
        refine GoR.op rfl rfl (aOp_lss rfl rfl (r := false) (decide_eq_false (by omega))) rfl ?_
        refine GoR.end ?_
        refine Go.seq noJ_ok ?_
        refine Go.cond noJ_ok (b := false) rfl ?_
        refine Go.code noJ_ok ?_
        refine Go.seq noJ_ok ?_
        refine Go.region JA_ok rfl ?_
        iterate 2 refine GoR.op rfl rfl rfl rfl ?_
        refine GoR.callJ JA_ok rfl rfl (aOp_callVal rfl aFunc31 rfl) rfl (hc5 _ (A.ext e0) f0) ?_ (by rintro _ _ ⟨q, _⟩; cases q)
        rintro v71 h71 ⟨q, x71⟩
        cases q
        refine ⟨_, rfl, ?_⟩
        replace f0 := f0.ext x71
        replace e0 := e0.trans x71
        iterate 4 refine GoR.op rfl rfl rfl rfl ?_
        refine GoR.callJ JA_ok rfl rfl (aOp_callVal rfl aFunc32 rfl) rfl (hs2 _) ?_ (by rintro _ _ ⟨q, _⟩; cases q)
        rintro v72 h72 ⟨q, x72⟩
        cases q
        refine ⟨_, rfl, ?_⟩
        replace f0 := f0.ext x72
        replace e0 := e0.trans x72
        iterate 2 refine GoR.op rfl rfl rfl rfl ?_
        refine GoR.callJ JA_ok rfl rfl (aOp_callVal rfl aFunc32 rfl) rfl (hs3 _) ?_ (by rintro _ _ ⟨q, _⟩; cases q)
        rintro v73 h73 ⟨q, x73⟩
        cases q
        refine ⟨_, rfl, ?_⟩
        replace f0 := f0.ext x73
        replace e0 := e0.trans x73
        refine GoR.op rfl rfl (aOp_gtr rfl rfl (r := true) (decide_eq_true (by omega))) rfl ?_
        iterate 2 refine GoR.op rfl rfl rfl rfl ?_
        iterate 12 refine GoR.skip rfl rfl rfl ?_
        iterate 2 refine GoR.op rfl rfl rfl rfl ?_
        refine GoR.jump JA_ok rfl rfl (aOp_callFunc aFunc21 rfl) (v := .bool true) rfl rfl ?_
        iterate 2 refine GoR.op rfl rfl rfl rfl ?_
        refine GoR.end ?_
        exact Go.ret noJ_ok (ret_end (aResult_of Try.func8 rfl rfl) ⟨rfl, e0⟩)
end Go.Proofs.Ytmdheijpnlonoaa
