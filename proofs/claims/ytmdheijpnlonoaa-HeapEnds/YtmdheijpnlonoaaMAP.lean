import Derived.Test.YtmdheijpnlonoaaMAO
import Derived.KernelRfl
import Derived.Test.YtmdheijpnlonoaaMAI
namespace Go.Proofs.Ytmdheijpnlonoaa
open Go Go.AbsE
set_option linter.unusedSimpArgs false
set_option maxRecDepth 100000
set_option maxHeartbeats 0
set_option linter.unusedVariables false
def bitB (out : Int) (i : Nat) : Bool := decide (out.fdiv (2 ^ i) % 2 = 1)
def wo (out : Int) : Nat → List LookV → List LookV
  | _, [] => []
  | k, x :: L => if bitB out k then wo out (k + 1) L else x :: wo out (k + 1) L
theorem wo_mem {out : Int} : ∀ {k : Nat} {L : List LookV} {x : LookV}, x ∈ wo out k L → x ∈ L
  | _, [], _, h => h
  | k, y :: L, x, h => by
    unfold wo at h
    split at h
    · exact List.mem_cons_of_mem _ (wo_mem h)
    · rcases List.mem_cons.1 h with rfl | h
      · exact List.mem_cons_self
      · exact List.mem_cons_of_mem _ (wo_mem h)
theorem wo_len {out : Int} : ∀ {k : Nat} {L : List LookV}, (wo out k L).length ≤ L.length
  | _, [] => Nat.le_refl _
  | k, y :: L => by
    have := wo_len (out := out) (k := k + 1) (L := L)
    unfold wo
    split
    · simp; omega
    · simp; omega
def woAt (out : Int) (L : List LookV) (r : Nat) : List LookV := L.take r ++ wo out r (L.drop r)
theorem woAt_len (out : Int) (L : List LookV) {r : Nat} (hr : r ≤ L.length) : r ≤ (woAt out L r).length ∧ (woAt out L r).length ≤ L.length := by
  have := wo_len (out := out) (k := r) (L := L.drop r)
  rw [List.length_drop] at this
  unfold woAt
  rw [List.length_append, List.length_take, Nat.min_eq_left hr]
  omega
theorem woAt_succ (out : Int) (L : List LookV) {i : Nat} (hi : i < L.length) : woAt out L i = if bitB out i then (woAt out L (i + 1)).eraseIdx i else woAt out L (i + 1) := by
  have hd : L.drop i = L[i] :: L.drop (i + 1) := List.drop_eq_getElem_cons hi
  have ht : L.take (i + 1) = L.take i ++ [L[i]] := by rw [List.take_add_one]; simp [hi]
  have hl : (L.take i).length = i := by rw [List.length_take]; omega
  unfold woAt
  rw [hd, ht]
  cases h : bitB out i with
  | true =>
    rw [if_pos rfl]
    conv => lhs; unfold wo
    rw [h, if_pos rfl, List.append_assoc, List.eraseIdx_append_of_length_le (by omega), hl, Nat.sub_self]
    rfl
  | false =>
    rw [if_neg (by decide)]
    conv => lhs; unfold wo
    rw [h, if_neg (by decide), List.append_assoc]
    rfl
theorem without52_ok {F : FieldV} (hn5 : F.looks.length ≤ 5) (hsl rsl lsl : AVal) (out : Int) (h : AH) (A : FieldAt h F hsl rsl lsl) :
    Runs Try.prog 52 [.agg (F.cells hsl rsl lsl), .int .i64 out] h (fun en h' => ∃ s, en = .ret s ∧ Ext h h' ∧ SliceOf h' 4 s ((wo out 0 F.looks).map LookV.cells)) := by
  have hl3 := A.ls.len
  rw [List.length_map] at hl3
  obtain ⟨N, hN⟩ : ∃ N, F.looks.length = N := ⟨_, rfl⟩
  rw [hN] at hl3 hn5
  unfold FieldV.cells fieldC
  refine Runs.intro aFunc52 rfl rfl rfl rfl fun rest => ?_
  refine Go.seq noJ_ok ?_
  refine Go.region noJ_ok rfl ?_
  refine GoR.box rfl rfl rfl rfl rfl rfl fun h0 x0 f0 => ?_
  have e0 := x0
  have := f0.1
  refine GoR.op rfl rfl rfl rfl ?_
  refine GoR.end ?_
  refine Go.seq noJ_ok ?_
  refine Go.region noJ_ok rfl ?_
  refine GoR.op rfl rfl (fa74_4 rfl) rfl ?_
  refine GoR.op rfl rfl (ld25 rfl f0 rfl) rfl ?_
  refine GoR.op rfl rfl (aOp_lenSlice Try.underlying25 rfl hl3) rfl ?_
  refine GoR.makeSl rfl rfl rfl Try.underlying25 rfl rfl sz59 by59 zt59 rfl (Nat.ble_eq_true_of_le (by omega)) rfl rfl fun h8 x8 f8 => ?_
  have := f0.1
  have := e0.1
  replace f0 := f0.ext x8
  replace e0 := e0.trans x8
  refine GoR.op rfl rfl rfl rfl ?_
  refine GoR.end ?_
  refine Go.seq noJ_ok ?_
  refine Go.region noJ_ok rfl ?_
  refine GoR.op rfl rfl rfl rfl ?_
  refine GoR.op rfl rfl (fa74_4 rfl) rfl ?_
  refine GoR.op rfl rfl (ld25 rfl f0 rfl) rfl ?_
  have hsrc := (A.ls.ext e0).src
  rw [List.length_map, hN, ← List.flatMap_def] at hsrc
  refine GoR.copyIn rfl rfl Try.underlying25 sz59 rfl rfl hl3 (Nat.min_self N) hsrc f8 rfl (lk_scal _) (splice_whole (by rw [lk_len, hN]; show (repl _ N).length = _; rw [repl_eq]; simp; rfl)) rfl fun h9 u9 => ?_
  have hb8 := f8.1
  replace f8 := u9.has f8
  replace f0 := f0.upd u9 (by omega)
  replace e0 := e0.upd u9 (by omega)
  refine GoR.end ?_
  iterate 2 refine Go.seq noJ_ok ?_
  refine Go.region noJ_ok rfl ?_
  refine GoR.op rfl rfl rfl rfl ?_
  refine GoR.op rfl rfl (aOp_lenSlice Try.underlying25 rfl (n := N) rfl) rfl ?_
  refine GoR.op rfl rfl (aOp_sub rfl rfl (by constructor <;> omega) rfl) rfl ?_
  refine GoR.op rfl rfl rfl rfl ?_
  refine GoR.end ?_
  refine Go.block noJ_ok ?_
  have hw0 : woAt out F.looks N = F.looks := by
    unfold woAt
    rw [← hN, List.take_length, List.drop_length]
    simp [wo]
  have hbn : h.next < h0.next := by assumption
  refine Go.loopKeep (fun r : Nat => [(1, .int .i64 out), (5, .slice h0.next 0 (woAt out F.looks r).length N), (6, .int .i64 ((r : Nat) - 1))])
    (fun m r h' => m = r ∧ r ≤ N ∧ Ext h h' ∧ ∃ Z, Z.length = (N - (woAt out F.looks r).length) * 4 ∧ Has h' h0.next (.cells .plain ((woAt out F.looks r).flatMap LookV.cells ++ Z) 59))
    (n := N) N ⟨rfl, by rw [hw0, hN]; rfl, rfl, trivial⟩ ⟨rfl, Nat.le_refl _, e0, [], by rw [hw0, hN]; simp, by rw [hw0, List.append_nil]; exact f8⟩ ?_
  clear e0 f8 f0
  rintro m r hh ⟨rfl, hr, e0, Z, hZ, f⟩ again
  by_cases hr0 : m = 0
  · subst hr0
    have hws : woAt out F.looks 0 = wo out 0 F.looks := by unfold woAt; simp
    have hres : SliceOf hh 4 (.slice h0.next 0 (woAt out F.looks 0).length N) ((wo out 0 F.looks).map LookV.cells) := by
      rw [hws] at f ⊢
      refine SliceOf.mk' (by rw [List.length_map]; rfl) (by rw [List.length_map]; rfl) f rfl (fun i l hl => ?_)
      rw [Nat.zero_add, List.flatMap_def]
      exact slice_flatten_app (fun l hl => by obtain ⟨_, _, rfl⟩ := List.mem_map.1 hl; rfl) i l hl
    iterate 2 refine Go.seq noJ_ok ?_
    refine Go.region noJ_ok rfl ?_
    refine GoR.op rfl rfl rfl rfl ?_
    refine GoR.op rfl rfl (aOp_geq rfl rfl (r := false) (decide_eq_false (by omega))) rfl ?_
    refine GoR.end ?_
    refine Go.cond noJ_ok (b := false) rfl ?_
    refine Go.code noJ_ok ?_
    refine Go.seq noJ_ok ?_
    refine Go.region noJ_ok rfl ?_
    iterate 2 refine GoR.op rfl rfl rfl rfl ?_
    refine GoR.end ?_
    exact Go.ret noJ_ok (ret_end (aResult_of Try.func52 rfl rfl) ⟨_, rfl, e0, hres⟩)
  · obtain ⟨i, rfl⟩ : ∃ i, m = i + 1 := ⟨m - 1, by omega⟩
    have hv : ((i + 1 : Nat) : Int) - 1 = (i : Nat) := by omega
    rw [hv]
    have hwl := woAt_len out F.looks (r := i + 1) (by omega)
    have hsucc := woAt_succ out F.looks (i := i) (by omega)
    rw [hN] at hwl
    have hfn := f.1
    cases hb : bitB out i with
    | false =>
      rw [hb, if_neg (by decide)] at hsucc
      have hne : decide (out.fdiv (2 ^ i) % 2 = 1) = false := hb
      iterate 2 refine Go.seq noJ_ok ?_
      refine Go.region noJ_ok rfl ?_
      refine GoR.op rfl rfl rfl rfl ?_
      refine GoR.op rfl rfl (aOp_geq rfl rfl (r := true) (decide_eq_true (by omega))) rfl ?_
      refine GoR.end ?_
      refine Go.cond noJ_ok (b := true) rfl ?_
      refine Go.code noJ_ok ?_
      refine Go.seq noJ_ok ?_
      refine Go.block noJ_ok ?_
      refine Go.seq noJ_ok ?_
      refine Go.region noJ_ok rfl ?_
      iterate 2 refine GoR.op rfl rfl rfl rfl ?_
      refine GoR.op rfl rfl (aOp_shr rfl rfl (by omega) rfl) rfl ?_
      refine GoR.op rfl rfl (aOp_and1 rfl rfl rfl) rfl ?_
      refine GoR.op rfl rfl (aOp_eql rfl rfl hne) rfl ?_
      refine GoR.end ?_
      refine Go.cond noJ_ok (b := false) rfl ?_
      refine Go.code noJ_ok ?_
      refine Go.inBlock noJ_ok ?_
      refine Go.region noJ_ok rfl ?_
      refine GoR.op rfl rfl rfl rfl ?_
      refine GoR.op rfl rfl (aOp_sub rfl rfl (by constructor <;> omega) rfl) rfl ?_
      refine GoR.op rfl rfl rfl rfl ?_
      refine GoR.end ?_
      exact again i i _ _ (by omega) ⟨rfl, by rw [hsucc]; rfl, rfl, trivial⟩ ⟨rfl, by omega, e0, Z, by rw [hsucc]; exact hZ, by rw [hsucc]; exact f⟩
    | true =>
      rw [hb, if_pos rfl] at hsucc
      have hne : decide (out.fdiv (2 ^ i) % 2 = 1) = true := hb
      have hdel := delete81_ok (b := h0.next) (N := N) (i := i) (woAt out F.looks (i + 1)) Z rfl (by omega) (by omega) (by omega) hZ hh f
      rw [← hsucc] at hdel
      have hwi : (woAt out F.looks i).length = (woAt out F.looks (i + 1)).length - 1 := by rw [hsucc, List.length_eraseIdx_of_lt (by omega)]
      rw [← hwi] at hdel
      iterate 2 refine Go.seq noJ_ok ?_
      refine Go.region noJ_ok rfl ?_
      refine GoR.op rfl rfl rfl rfl ?_
      refine GoR.op rfl rfl (aOp_geq rfl rfl (r := true) (decide_eq_true (by omega))) rfl ?_
      refine GoR.end ?_
      refine Go.cond noJ_ok (b := true) rfl ?_
      refine Go.code noJ_ok ?_
      refine Go.seq noJ_ok ?_
      refine Go.block noJ_ok ?_
      refine Go.seq noJ_ok ?_
      refine Go.region noJ_ok rfl ?_
      iterate 2 refine GoR.op rfl rfl rfl rfl ?_
      refine GoR.op rfl rfl (aOp_shr rfl rfl (by omega) rfl) rfl ?_
      refine GoR.op rfl rfl (aOp_and1 rfl rfl rfl) rfl ?_
      refine GoR.op rfl rfl (aOp_eql rfl rfl hne) rfl ?_
      refine GoR.end ?_
      refine Go.cond noJ_ok (b := true) rfl ?_
      refine Go.region noJ_ok rfl ?_
      iterate 3 refine GoR.op rfl rfl rfl rfl ?_
      refine GoR.op rfl rfl (aOp_add rfl rfl (by constructor <;> omega) rfl) rfl ?_
      refine GoR.call rfl rfl (aOp_callFunc aFunc81 rfl) hdel ?_ (by rintro _ _ ⟨q, _⟩; cases q)
      rintro v19 h19 ⟨q, y9, Z', hZ', f9⟩
      cases q
      refine ⟨_, rfl, ?_⟩
      have e9 := y9.low e0 (fun b q => by have : b = h0.next := q; omega)
      have hx := y9.1
      clear e0 f
      refine GoR.op rfl rfl rfl rfl ?_
      refine GoR.end ?_
      refine Go.inBlock noJ_ok ?_
      refine Go.region noJ_ok rfl ?_
      refine GoR.op rfl rfl rfl rfl ?_
      refine GoR.op rfl rfl (aOp_sub rfl rfl (by constructor <;> omega) rfl) rfl ?_
      refine GoR.op rfl rfl rfl rfl ?_
      refine GoR.end ?_
      exact again i i _ _ (by omega) ⟨rfl, rfl, rfl, trivial⟩ ⟨rfl, by omega, e9, Z', hZ', f9⟩
end Go.Proofs.Ytmdheijpnlonoaa

namespace Go.Proofs.Ytmdheijpnlonoaa
open Go Go.AbsE
set_option linter.unusedSimpArgs false
set_option maxRecDepth 100000
set_option maxHeartbeats 0
set_option linter.unusedVariables false
def popc (n : Nat) : Nat := ((List.range 5).filter fun i => n.testBit i).length
noncomputable def entP (n : Nat) : Go.AbsE.Ent := ⟨83, [.int .u64 n], [], .int .i64 (popc n)⟩
noncomputable def entsP : List Go.AbsE.Ent := (List.range 32).map entP
theorem entP_run : ((List.range 32).all fun n => entRun Try.prog noJ 1000000 (entP n)) = true := by kernel_rfl
theorem entsP_ok : ∀ ent, ent ∈ entsP → EntOk Try.prog ent := by
  intro ent h
  obtain ⟨n, hn, rfl⟩ := List.mem_map.1 h
  exact entRun_ok noJ_ok (List.all_eq_true.1 entP_run n hn)
noncomputable def JP : Jump := tblJ entsP
theorem JP_ok : JOk Try.prog JP := tbl_ok entsP_ok
theorem JP_at (h : AH) : ∀ (n : Nat), n < 32 → entFind 83 [.int .u64 n] h entsP = some (.int .i64 (popc n))
  | 0, _ => rfl
  | 1, _ => rfl
  | 2, _ => rfl
  | 3, _ => rfl
  | 4, _ => rfl
  | 5, _ => rfl
  | 6, _ => rfl
  | 7, _ => rfl
  | 8, _ => rfl
  | 9, _ => rfl
  | 10, _ => rfl
  | 11, _ => rfl
  | 12, _ => rfl
  | 13, _ => rfl
  | 14, _ => rfl
  | 15, _ => rfl
  | 16, _ => rfl
  | 17, _ => rfl
  | 18, _ => rfl
  | 19, _ => rfl
  | 20, _ => rfl
  | 21, _ => rfl
  | 22, _ => rfl
  | 23, _ => rfl
  | 24, _ => rfl
  | 25, _ => rfl
  | 26, _ => rfl
  | 27, _ => rfl
  | 28, _ => rfl
  | 29, _ => rfl
  | 30, _ => rfl
  | 31, _ => rfl
  | n + 32, h => absurd h (by omega)
theorem ones53_ok (n : Nat) (hn : n < 32) (h : AH) : Runs Try.prog 53 [.int .u64 n] h (fun en h' => en = .ret (.int .i64 (popc n)) ∧ Ext h h') := by
  have e0 : Ext h h := Ext.refl _
  refine Runs.intro aFunc53 rfl rfl rfl rfl fun rest => ?_
  refine Go.seq noJ_ok ?_
  refine Go.region noJ_ok rfl ?_
  refine GoR.op rfl rfl rfl rfl ?_
  refine GoR.end ?_
  refine Go.seq noJ_ok ?_
  refine Go.cond noJ_ok (b := false) rfl ?_
  refine Go.code noJ_ok ?_
  refine Go.seq noJ_ok ?_
  refine Go.region JP_ok rfl ?_
  refine GoR.op rfl rfl rfl rfl ?_
  refine GoR.jump JP_ok rfl rfl (aOp_callFunc aFunc83 rfl) (v := .int .i64 (popc n)) (JP_at h n hn) rfl ?_
  refine GoR.op rfl rfl rfl rfl ?_
  refine GoR.end ?_
  exact Go.ret noJ_ok (ret_end (aResult_of Try.func53 rfl rfl) ⟨rfl, e0⟩)
end Go.Proofs.Ytmdheijpnlonoaa

namespace Go.Proofs.Ytmdheijpnlonoaa
open Go Go.AbsE
set_option linter.unusedSimpArgs false
set_option maxRecDepth 100000
set_option maxHeartbeats 0
set_option linter.unusedVariables false
structure FewR (of : Nat) (p : Nat → Bool) (r : Nat) : Prop where
  lt : r < 2 ^ of
  suits : p r = true
  least : ∀ s, s < 2 ^ of → p s = true → popc r < popc s ∨ (popc r = popc s ∧ r ≤ s)
theorem popc_le : ∀ of, of < 6 → ∀ r, r < 2 ^ of → popc r ≤ of := by decide
theorem popc_le5 (r : Nat) : popc r ≤ 5 := by
  unfold popc
  exact Nat.le_trans (List.length_filter_le _ _) (by simp)
theorem few_ex {of : Nat} {p : Nat → Bool} (h5 : of ≤ 5) (h : ∃ s, s < 2 ^ of ∧ p s = true) : ∃ r, FewR of p r := by
  have key : ∀ (w s : Nat), popc s * 32 + s ≤ w → s < 2 ^ of → p s = true → ∃ r, FewR of p r := by
    intro w
    induction w with
    | zero =>
      intro s hw hs hp
      refine ⟨s, hs, hp, fun x hx hpx => ?_⟩
      omega
    | succ w ih =>
      intro s hw hs hp
      by_cases hx : ∃ x, x < 2 ^ of ∧ p x = true ∧ ¬ (popc s < popc x ∨ (popc s = popc x ∧ s ≤ x))
      · obtain ⟨x, hx1, hx2, hx3⟩ := hx
        have h32 : 2 ^ of ≤ 32 := Nat.pow_le_pow_right (by omega) h5
        exact ih x (by omega) hx1 hx2
      · exact ⟨s, hs, hp, fun x hx1 hx2 => Classical.byContradiction fun q => hx ⟨x, hx1, hx2, q⟩⟩
  obtain ⟨s, hs, hp⟩ := h
  exact key _ s (Nat.le_refl _) hs hp
theorem fewest49_ok {of : Nat} {p : Nat → Bool} {r : Nat} (h5 : of ≤ 5) (R : FewR of p r) {g : FuncId} {gf : Func} {caps : List AVal} (hfid : aFunc Try.prog g = some gf) (h : AH)
    (hc : ∀ s h', s < 2 ^ of → Ext h h' → Runs Try.prog g ([.int .i64 (s : Nat)] ++ caps) h' (fun en h'' => en = .ret (.bool (p s)) ∧ Ext h' h'')) :
    Runs Try.prog 49 [.int .i64 (of : Nat), .func (.func g) [] caps] h (fun en h' => en = .ret (.int .i64 (r : Nat)) ∧ Ext h h') := by
  have h32 : 2 ^ of ≤ 32 := Nat.pow_le_pow_right (by omega) h5
  have hrp := popc_le of (by omega) r R.lt
  have hRl := R.lt
  have hRs := R.suits
  have e0 : Ext h h := Ext.refl _
  obtain ⟨top, htop⟩ : ∃ top, 2 ^ of = top := ⟨_, rfl⟩
  have hshl : (1 : Int) * 2 ^ of = (top : Nat) := by rw [Int.one_mul, ← htop]; push_cast; rfl
  have hRm := R.least
  rw [htop] at h32 hRl hc hRm
  clear R
  refine Runs.intro aFunc49 rfl rfl rfl rfl fun rest => ?_
  refine Go.seq noJ_ok ?_
  refine Go.region noJ_ok rfl ?_
  refine GoR.op rfl rfl rfl rfl ?_
  refine GoR.end ?_
  iterate 2 refine Go.seq noJ_ok ?_
  refine Go.region noJ_ok rfl ?_
  refine GoR.op rfl rfl rfl rfl ?_
  refine GoR.op rfl rfl (aOp_add rfl rfl (by constructor <;> omega) rfl) rfl ?_
  refine GoR.op rfl rfl rfl rfl ?_
  refine GoR.end ?_
  refine Go.block noJ_ok ?_
  refine Go.loopKeep (fun m : Nat => [(0, .int .i64 (of : Nat)), (1, .func (.func g) [] caps), (8, .int .i64 ((of : Nat) + 1)), (9, .int .i64 (m : Nat))])
    (fun k m h' => k + m = of + 1 ∧ Ext h h' ∧ m ≤ popc r) (n := of + 1) 0 ⟨rfl, rfl, rfl, rfl, trivial⟩ ⟨rfl, e0, Nat.zero_le _⟩ ?_
  clear e0
  rintro k m h1' ⟨hk, e0, hm⟩ again
  refine Go.seq noJ_ok ?_
  refine Go.region noJ_ok rfl ?_
  refine GoR.op rfl rfl (aOp_lss rfl rfl (r := true) (decide_eq_true (by omega))) rfl ?_
  refine GoR.end ?_
  refine Go.seq noJ_ok ?_
  refine Go.cond noJ_ok (b := true) rfl ?_
  refine Go.code noJ_ok ?_
  refine Go.seq noJ_ok ?_
  refine Go.block noJ_ok ?_
  refine Go.seq noJ_ok ?_
  refine Go.region noJ_ok rfl ?_
  iterate 2 refine GoR.op rfl rfl rfl rfl ?_
  refine GoR.end ?_
  refine Go.seq noJ_ok ?_
  refine Go.region noJ_ok rfl ?_
  refine GoR.op rfl rfl rfl rfl ?_
  refine GoR.op rfl rfl (aOp_shl rfl rfl (by omega) hshl (by omega)) rfl ?_
  refine GoR.op rfl rfl rfl rfl ?_
  refine GoR.end ?_
  refine Go.block noJ_ok ?_
  refine Go.loopKeep (fun s : Nat => [(0, .int .i64 (of : Nat)), (1, .func (.func g) [] caps), (5, .int .i64 (m : Nat)), (8, .int .i64 ((of : Nat) + 1)), (9, .int .i64 (m : Nat)), (13, .int .i64 (top : Nat)), (14, .int .i64 (s : Nat))])
    (fun k s h' => k + s = top ∧ Ext h h' ∧ (popc r = m → s ≤ r)) (n := top) 0 ⟨rfl, rfl, rfl, rfl, rfl, rfl, rfl, trivial⟩ ⟨rfl, e0, fun _ => Nat.zero_le _⟩ ?_
  clear e0
  rintro k2 s h2' ⟨hk2, e0, hs⟩ again2
  by_cases hst : s < top
  · have hsc := popc_le5 s
    have hones := ones53_ok s (by omega)
    have hcs := fun h' => hc s h' hst
    by_cases hpm : popc s = m
    · have heq : decide ((popc s : Int) = (m : Nat)) = true := decide_eq_true (by omega)
      cases hps : p s with
      | true =>
        have hl := hRm s hst hps
        have hsr : s = r := by omega
        rw [hps] at hcs
        subst hsr
        refine Go.seq noJ_ok ?_
        refine Go.region noJ_ok rfl ?_
        refine GoR.op rfl rfl (aOp_lss rfl rfl (r := true) (decide_eq_true (by omega))) rfl ?_
        refine GoR.end ?_
        refine Go.seq noJ_ok ?_
        refine Go.cond noJ_ok (b := true) rfl ?_
        refine Go.code noJ_ok ?_
        refine Go.seq noJ_ok ?_
        refine Go.block noJ_ok ?_
        refine Go.seq noJ_ok ?_
        refine Go.region noJ_ok rfl ?_
        iterate 2 refine GoR.op rfl rfl rfl rfl ?_
        refine GoR.end ?_
        refine Go.seq noJ_ok ?_
        refine Go.region noJ_ok rfl ?_
        refine GoR.op rfl rfl rfl rfl ?_
        refine GoR.op rfl rfl (aOp_convU64 rfl Try.underlying3 Try.underlying88 (by omega)) rfl ?_
        refine GoR.call rfl rfl (aOp_callFunc aFunc53 rfl) (hones _) ?_ (by rintro _ _ ⟨q, _⟩; cases q)
        rintro v33 h33 ⟨q, x33⟩
        cases q
        refine ⟨_, rfl, ?_⟩
        replace e0 := e0.trans x33
        refine GoR.op rfl rfl rfl rfl ?_
        refine GoR.op rfl rfl (aOp_eql rfl rfl heq) rfl ?_
        iterate 3 refine GoR.op rfl rfl rfl rfl ?_
        refine GoR.call rfl rfl (aOp_callVal rfl hfid rfl) (hcs _ e0) ?_ (by rintro _ _ ⟨q, _⟩; cases q)
        rintro v34 h34 ⟨q, x34⟩
        cases q
        refine ⟨_, rfl, ?_⟩
        replace e0 := e0.trans x34
        refine GoR.op rfl rfl rfl rfl ?_
        refine GoR.end ?_
        refine Go.cond noJ_ok (b := true) rfl ?_
        refine Go.seq noJ_ok ?_
        refine Go.region noJ_ok rfl ?_
        iterate 2 refine GoR.op rfl rfl rfl rfl ?_
        refine GoR.end ?_
        exact Go.ret noJ_ok (ret_end (aResult_of Try.func49 rfl rfl) ⟨rfl, e0⟩)
      | false =>
        rw [hps] at hcs
        have hne : s ≠ r := by
          intro q
          rw [q, hRs] at hps
          cases hps
        refine Go.seq noJ_ok ?_
        refine Go.region noJ_ok rfl ?_
        refine GoR.op rfl rfl (aOp_lss rfl rfl (r := true) (decide_eq_true (by omega))) rfl ?_
        refine GoR.end ?_
        refine Go.seq noJ_ok ?_
        refine Go.cond noJ_ok (b := true) rfl ?_
        refine Go.code noJ_ok ?_
        refine Go.seq noJ_ok ?_
        refine Go.block noJ_ok ?_
        refine Go.seq noJ_ok ?_
        refine Go.region noJ_ok rfl ?_
        iterate 2 refine GoR.op rfl rfl rfl rfl ?_
        refine GoR.end ?_
        refine Go.seq noJ_ok ?_
        refine Go.region noJ_ok rfl ?_
        refine GoR.op rfl rfl rfl rfl ?_
        refine GoR.op rfl rfl (aOp_convU64 rfl Try.underlying3 Try.underlying88 (by omega)) rfl ?_
        refine GoR.call rfl rfl (aOp_callFunc aFunc53 rfl) (hones _) ?_ (by rintro _ _ ⟨q, _⟩; cases q)
        rintro v33 h33 ⟨q, x33⟩
        cases q
        refine ⟨_, rfl, ?_⟩
        replace e0 := e0.trans x33
        refine GoR.op rfl rfl rfl rfl ?_
        refine GoR.op rfl rfl (aOp_eql rfl rfl heq) rfl ?_
        iterate 3 refine GoR.op rfl rfl rfl rfl ?_
        refine GoR.call rfl rfl (aOp_callVal rfl hfid rfl) (hcs _ e0) ?_ (by rintro _ _ ⟨q, _⟩; cases q)
        rintro v34 h34 ⟨q, x34⟩
        cases q
        refine ⟨_, rfl, ?_⟩
        replace e0 := e0.trans x34
        refine GoR.op rfl rfl rfl rfl ?_
        refine GoR.end ?_
        refine Go.cond noJ_ok (b := false) rfl ?_
        refine Go.code noJ_ok ?_
        refine Go.inBlock noJ_ok ?_
        refine Go.region noJ_ok rfl ?_
        refine GoR.op rfl rfl (aOp_add rfl rfl (by constructor <;> omega) rfl) rfl ?_
        refine GoR.op rfl rfl rfl rfl ?_
        refine GoR.end ?_
        exact again2 (k2 - 1) (s + 1) _ _ (by omega) ⟨rfl, rfl, rfl, rfl, rfl, rfl, rfl, trivial⟩ ⟨by omega, e0, by omega⟩
    · have heq : decide ((popc s : Int) = (m : Nat)) = false := decide_eq_false (by omega)
      have hne : popc r = m → s ≠ r := by
        intro q q2
        subst q2
        exact hpm q
      refine Go.seq noJ_ok ?_
      refine Go.region noJ_ok rfl ?_
      refine GoR.op rfl rfl (aOp_lss rfl rfl (r := true) (decide_eq_true (by omega))) rfl ?_
      refine GoR.end ?_
      refine Go.seq noJ_ok ?_
      refine Go.cond noJ_ok (b := true) rfl ?_
      refine Go.code noJ_ok ?_
      refine Go.seq noJ_ok ?_
      refine Go.block noJ_ok ?_
      refine Go.seq noJ_ok ?_
      refine Go.region noJ_ok rfl ?_
      iterate 2 refine GoR.op rfl rfl rfl rfl ?_
      refine GoR.end ?_
      refine Go.seq noJ_ok ?_
      refine Go.region noJ_ok rfl ?_
      refine GoR.op rfl rfl rfl rfl ?_
      refine GoR.op rfl rfl (aOp_convU64 rfl Try.underlying3 Try.underlying88 (by omega)) rfl ?_
      refine GoR.call rfl rfl (aOp_callFunc aFunc53 rfl) (hones _) ?_ (by rintro _ _ ⟨q, _⟩; cases q)
      rintro v33 h33 ⟨q, x33⟩
      cases q
      refine ⟨_, rfl, ?_⟩
      replace e0 := e0.trans x33
      refine GoR.op rfl rfl rfl rfl ?_
      refine GoR.op rfl rfl (aOp_eql rfl rfl heq) rfl ?_
      refine GoR.op rfl rfl rfl rfl ?_
      iterate 3 refine GoR.skip rfl rfl rfl ?_
      refine GoR.op rfl rfl rfl rfl ?_
      refine GoR.end ?_
      refine Go.cond noJ_ok (b := false) rfl ?_
      refine Go.code noJ_ok ?_
      refine Go.inBlock noJ_ok ?_
      refine Go.region noJ_ok rfl ?_
      refine GoR.op rfl rfl (aOp_add rfl rfl (by constructor <;> omega) rfl) rfl ?_
      refine GoR.op rfl rfl rfl rfl ?_
      refine GoR.end ?_
      exact again2 (k2 - 1) (s + 1) _ _ (by omega) ⟨rfl, rfl, rfl, rfl, rfl, rfl, rfl, trivial⟩ ⟨by omega, e0, by omega⟩
  · have hmr : m < popc r := by
      rcases Nat.lt_or_ge m (popc r) with q | q
      · exact q
      · have := hs (by omega)
        omega
    refine Go.seq noJ_ok ?_
    refine Go.region noJ_ok rfl ?_
    refine GoR.op rfl rfl (aOp_lss rfl rfl (r := false) (decide_eq_false (by omega))) rfl ?_
    refine GoR.end ?_
    refine Go.seq noJ_ok ?_
    refine Go.cond noJ_ok (b := false) rfl ?_
    refine Go.code noJ_ok ?_
    refine Go.inBlock noJ_ok ?_
    refine Go.region noJ_ok rfl ?_
    refine GoR.op rfl rfl (aOp_add rfl rfl (by constructor <;> omega) rfl) rfl ?_
    refine GoR.op rfl rfl rfl rfl ?_
    refine GoR.end ?_
    exact again (k - 1) (m + 1) _ _ (by omega) ⟨rfl, rfl, rfl, rfl, trivial⟩ ⟨by omega, e0, by omega⟩
end Go.Proofs.Ytmdheijpnlonoaa

namespace Go.Proofs.Ytmdheijpnlonoaa
open Go Go.AbsE
set_option linter.unusedSimpArgs false
set_option maxRecDepth 100000
set_option maxHeartbeats 0
set_option linter.unusedVariables false
theorem FieldV.Ok.withL {F : FieldV} (O : F.Ok) {L : List LookV} (hm : ∀ l, l ∈ L → l ∈ F.looks) (hl : L.length ≤ 5) : (F.withL L).Ok := ⟨O.nh, O.h, O.nr, O.r, O.d, O.lim, hl, fun l h => O.l l (hm l h)⟩
theorem wo_ok {F : FieldV} (O : F.Ok) (out : Int) : (F.withL (wo out 0 F.looks)).Ok := O.withL (fun l h => wo_mem h) (Nat.le_trans wo_len O.nl)
def FieldV.canWo (F : FieldV) (out : Int) : Bool := (F.withL (wo out 0 F.looks)).canB
theorem cells_same {F : FieldV} {hsl rsl lsl : AVal} {h : AH} (A : FieldAt h F hsl rsl lsl) : sameA (.agg (F.cells hsl rsl lsl)) (.agg (F.cells hsl rsl lsl)) = true := by
  unfold FieldV.cells fieldC
  simp [sameA, sameAs, eqI_eq, A.hs.same, A.rs.same, A.ls.same]
theorem canOnly_ok {F : FieldV} (O : F.Ok) (hsl rsl lsl : AVal) (s : Nat) (hs : s < 32) (bf : Nat) (h : AH) (A : FieldAt h F hsl rsl lsl) (f0 : Has h bf (.cells .plain (F.cells hsl rsl lsl) 74)) :
    Runs Try.prog 56 [.int .i64 (s : Nat), .ptr bf 0] h (fun en h' => en = .ret (.bool (!F.canWo (-(s : Nat) - 1))) ∧ Ext h h') := by
  have hsm := cells_same A
  obtain ⟨o, ho⟩ : ∃ o : Int, -((s : Nat) : Int) - 1 = o := ⟨_, rfl⟩
  rw [ho]
  have hwo := fun h A => without52_ok (F := F) O.nl hsl rsl lsl o h A
  have hpo := fun s2 h A hL => poss51_ok (F := F) (L := wo o 0 F.looks) (wo_ok O o) hsl rsl lsl s2 h A hL
  have hres : (F.withL (wo o 0 F.looks)).canB = F.canWo o := rfl
  rw [hres] at hpo
  have e0 : Ext h h := Ext.refl _
  unfold FieldV.cells fieldC at f0 hwo hpo hsm
  refine Runs.intro aFunc56 rfl rfl rfl rfl fun rest => ?_
  refine Go.seq noJ_ok ?_
  refine Go.region noJ_ok rfl ?_
  refine GoR.op rfl rfl rfl rfl ?_
  refine GoR.end ?_
  refine Go.seq noJ_ok ?_
  refine Go.drawnE plan56_0 ?_
  iterate 2 refine GoE.quiet rfl rfl (ld74 rfl f0 rfl) rfl ?_
  refine GoE.quiet rfl rfl rfl rfl ?_
  refine GoE.quiet rfl rfl (aOp_xor rfl ho (by omega)) rfl ?_
  refine GoE.call rfl rfl (aOp_callFunc aFunc52 rfl) (hwo _ (A.ext e0)) (dropF_drop (show bit? 14 3 = true from rfl) (dropF_drop (show bit? 14 2 = true from rfl) (dropF_drop (show bit? 14 1 = true from rfl) (dropF_keep (show bit? 14 0 = false from rfl) rfl)))) ?_ (by rintro _ _ ⟨sl, q, _, hsl2⟩; cases q)
  rintro v1 h1 ⟨sl, q, x1, hsl2⟩
  cases q
  have := e0.1
  replace f0 := f0.ext x1
  replace e0 := e0.trans x1
  refine ⟨(recheck_cons (h2 := h1) rfl (ld74 rfl f0 rfl) (by first | rfl | exact sameA_int _ _ | exact sameA_bool _ | exact sameA_agg2 _ _ | assumption | (simp [sameA, sameAs, eqI_eq]; done)) recheck_nil), _, rfl, ?_⟩
  refine GoE.call rfl rfl (aOp_callFunc aFunc51 rfl) (hpo _ _ (A.ext e0) hsl2) (dropF_drop (show bit? 31 0 = true from rfl) rfl) ?_ (by rintro _ _ ⟨q, _⟩; cases q)
  rintro v2 h2 ⟨q, x2⟩
  cases q
  replace f0 := f0.ext x2
  replace e0 := e0.trans x2
  refine ⟨recheck_nil, _, rfl, ?_⟩
  iterate 2 refine GoE.quiet rfl rfl rfl rfl ?_
  refine GoE.end rfl ?_
  exact Go.ret noJ_ok (ret_end (aResult_of Try.func56 rfl rfl) ⟨rfl, e0⟩)
theorem clashB_no {F : FieldV} (O : F.Ok) (hc : F.canB = true) (hsl rsl lsl : AVal) (b1 : Nat) (h : AH) (A : FieldAt h F hsl rsl lsl) (f1 : Has h b1 (.cells .plain [.int .i64 0] 3)) :
    Runs Try.prog 54 [.agg (F.cells hsl rsl lsl), .ptr b1 0] h (fun en h' => en = .pan (refusal 4) ∧ Ext h h') := by
  have hwl : F.withL F.looks = F := rfl
  have hpo := fun h A hL => poss51_ok (F := F) (L := F.looks) O hsl rsl lsl lsl h A hL
  rw [hwl, hc] at hpo
  unfold FieldV.cells fieldC at hpo ⊢
  refine Runs.intro aFunc54 rfl rfl rfl rfl fun rest => ?_
  refine Go.seq noJ_ok ?_
  refine Go.region noJ_ok rfl ?_
  refine GoR.box rfl rfl rfl rfl rfl rfl fun h2 x2 f2 => ?_
  have := f1.1
  replace f1 := f1.ext x2
  have e0 := x2
  have := f2.1
  refine GoR.end ?_
  refine Go.seq noJ_ok ?_
  refine Go.region noJ_ok rfl ?_
  refine GoR.op rfl rfl (ld74 rfl f2 rfl) rfl ?_
  refine GoR.op rfl rfl (fa74_4 rfl) rfl ?_
  refine GoR.op rfl rfl (ld25 rfl f2 rfl) rfl ?_
  refine GoR.call rfl rfl (aOp_callFunc aFunc51 rfl) (hpo _ (A.ext e0) (A.ls.ext e0)) ?_ (by rintro _ _ ⟨q, _⟩; cases q)
  rintro v3 h3 ⟨q, x3⟩
  cases q
  refine ⟨_, rfl, ?_⟩
  replace f2 := f2.ext x3
  replace f1 := f1.ext x3
  replace e0 := e0.trans x3
  refine GoR.callP rfl rfl (aOp_callFunc aFunc55 rfl) (refuse_ok true 4 _) (by rintro _ _ ⟨_, ⟨q, _⟩ | ⟨_, q⟩⟩ <;> cases q) ?_
  rintro chain h9 ⟨rfl, ⟨q, _⟩ | ⟨_, q⟩⟩
  · cases q
  have q := AEnd.pan.inj q
  subst q
  exact FLeft.pan ⟨rfl, e0⟩
theorem clashB_ok {F : FieldV} (O : F.Ok) (hc : F.canB = false) {r : Nat} (R : FewR F.looks.length (fun s => !F.canWo (-(s : Nat) - 1)) r) (hsl rsl lsl : AVal) (b1 : Nat) (h : AH) (A : FieldAt h F hsl rsl lsl) (f1 : Has h b1 (.cells .plain [.int .i64 0] 3)) :
    Runs Try.prog 54 [.agg (F.cells hsl rsl lsl), .ptr b1 0] h (fun en h' => en = .ret (.tuple []) ∧ ExtF (fun b => b = b1) h h' ∧ Has h' b1 (.cells .plain [.int .i64 (r : Nat)] 3)) := by
  have hl3 := A.ls.len
  rw [List.length_map] at hl3
  have hnl := O.nl
  have h32 : 2 ^ F.looks.length ≤ 32 := Nat.pow_le_pow_right (by omega) hnl
  have hwl : F.withL F.looks = F := rfl
  have hpo := fun h A hL => poss51_ok (F := F) (L := F.looks) O hsl rsl lsl lsl h A hL
  rw [hwl, hc] at hpo
  have hfw := fun (bf : Nat) h (A : FieldAt h F hsl rsl lsl) (f0 : Has h bf (.cells .plain (F.cells hsl rsl lsl) 74)) => fewest49_ok (of := F.looks.length) hnl R (g := 56) (caps := [.ptr bf 0]) aFunc56 h (fun s h' hs e => canOnly_ok O hsl rsl lsl s (by omega) bf h' (A.ext e) (f0.ext e))
  have y0 : ExtF (fun b => b = b1) h h := ExtF.of (Ext.refl _)
  have hbr1 := f1.1
  unfold FieldV.cells fieldC at hfw hpo ⊢
  refine Runs.intro aFunc54 rfl rfl rfl rfl fun rest => ?_
  refine Go.seq noJ_ok ?_
  refine Go.region noJ_ok rfl ?_
  refine GoR.box rfl rfl rfl rfl rfl rfl fun h33 x33 f33 => ?_
  have := f1.1
  replace f1 := f1.ext x33
  replace y0 := y0.ext x33
  have e0 := x33
  have := f33.1
  refine GoR.end ?_
  refine Go.seq noJ_ok ?_
  refine Go.region noJ_ok rfl ?_
  refine GoR.op rfl rfl (ld74 rfl f33 rfl) rfl ?_
  refine GoR.op rfl rfl (fa74_4 rfl) rfl ?_
  refine GoR.op rfl rfl (ld25 rfl f33 rfl) rfl ?_
  refine GoR.call rfl rfl (aOp_callFunc aFunc51 rfl) (hpo _ (A.ext e0) (A.ls.ext e0)) ?_ (by rintro _ _ ⟨q, _⟩; cases q)
  rintro v34 h34 ⟨q, x34⟩
  cases q
  refine ⟨_, rfl, ?_⟩
  replace f33 := f33.ext x34
  replace f1 := f1.ext x34
  replace e0 := e0.trans x34
  replace y0 := y0.ext x34
  refine GoR.call rfl rfl (aOp_callFunc aFunc55 rfl) (refuse_no 4 _) ?_ (by rintro _ _ ⟨q, _⟩; cases q)
  rintro v35 h35 ⟨q, x35⟩
  cases q
  refine ⟨_, rfl, ?_⟩
  replace f33 := f33.ext x35
  replace f1 := f1.ext x35
  replace e0 := e0.trans x35
  replace y0 := y0.ext x35
  refine GoR.end ?_
  refine Go.region noJ_ok rfl ?_
  refine GoR.op rfl rfl (fa74_4 rfl) rfl ?_
  refine GoR.op rfl rfl (ld25 rfl f33 rfl) rfl ?_
  refine GoR.op rfl rfl (aOp_lenSlice Try.underlying25 rfl hl3) rfl ?_
  refine GoR.op rfl rfl rfl rfl ?_
  refine GoR.call rfl rfl (aOp_callFunc aFunc49 rfl) (hfw _ _ (A.ext e0) (by assumption)) ?_ (by rintro _ _ ⟨q, _⟩; cases q)
  rintro v36 h36 ⟨q, x36⟩
  cases q
  refine ⟨_, rfl, ?_⟩
  replace f33 := f33.ext x36
  replace f1 := f1.ext x36
  replace e0 := e0.trans x36
  replace y0 := y0.ext x36
  refine GoR.store rfl rfl rfl rfl rfl rfl f1 rfl sz3 rfl rfl rfl fun h37 u37 => ?_
  replace f33 := f33.upd u37 (by omega)
  replace f1 := u37.has f1
  first | replace e0 := e0.upd u37 (by omega) | clear e0
  first | replace y0 := y0.upd u37 (by first | exact .inl rfl | exact .inl (.inl rfl) | exact .inl (.inr rfl) | exact .inl (by assumption) | exact .inr (by omega)) | skip
  refine GoR.end ?_
  exact Go.endL (FLeft.ret (v := .tuple []) (aResult_of Try.func54 rfl rfl) ⟨rfl, y0, f1⟩)
theorem Clash_no {F : FieldV} (O : F.Ok) (hc : F.canB = true) (hsl rsl lsl : AVal) (h : AH) (A : FieldAt h F hsl rsl lsl) :
    Runs Try.prog 19 [.agg (F.cells hsl rsl lsl)] h (fun en h' => en = .ret (.tuple [.int .i64 0, .int .i64 4]) ∧ Ext h h') := by
  have hat := attempt_gives O hsl rsl lsl
  have hB := clashB_no O hc hsl rsl lsl
  unfold FieldV.cells fieldC at hat hB ⊢
  refine Runs.intro aFunc19 rfl rfl rfl rfl fun rest => ?_
  refine Go.seq noJ_ok ?_
  refine Go.region noJ_ok rfl ?_
  refine GoR.box rfl rfl rfl rfl rfl rfl fun h0 x0 f0 => ?_
  have e0 := x0
  have := f0.1
  refine GoR.alloc rfl rfl rfl zt3 rfl rfl fun h1 x1 f1 => ?_
  have := e0.1
  have := f0.1
  replace f0 := f0.ext x1
  replace e0 := e0.trans x1
  have := f1.1
  refine GoR.op rfl rfl rfl rfl ?_
  refine GoR.end ?_
  refine Go.seq noJ_ok ?_
  refine Go.region noJ_ok rfl ?_
  refine GoR.op rfl rfl (ld27 rfl f0 rfl) rfl ?_
  refine GoR.op rfl rfl rfl rfl ?_
  refine GoR.call rfl rfl (aOp_callFunc aFunc34 rfl) (hat _ (A.ext e0) 54 _ aFunc54 _ 4 (fun h' e => hB _ h' ((A.ext e0).ext e) (f1.ext e))) ?_ (by rintro _ _ ⟨q, _⟩; cases q)
  rintro v2 h2 ⟨q, x2⟩
  cases q
  refine ⟨_, rfl, ?_⟩
  replace f1 := f1.ext x2
  replace f0 := f0.ext x2
  replace e0 := e0.trans x2
  refine GoR.op rfl rfl rfl rfl ?_
  refine GoR.end ?_
  refine Go.seq noJ_ok ?_
  refine Go.region noJ_ok rfl ?_
  refine GoR.op rfl rfl (ld3 rfl f1 rfl) rfl ?_
  refine GoR.op rfl rfl rfl rfl ?_
  refine GoR.store rfl rfl rfl rfl rfl rfl f1 rfl sz3 rfl rfl rfl fun h3 u3 => ?_
  replace f1 := u3.has f1
  replace f0 := f0.upd u3 (by omega)
  first | replace e0 := e0.upd u3 (by omega) | clear e0
  refine GoR.op rfl rfl rfl rfl ?_
  refine GoR.end ?_
  exact Go.ret noJ_ok (ret_end (aResult_of Try.func19 rfl (aResults_cellC rfl f1 (inCells_one ag3 rfl) rfl)) ⟨rfl, e0⟩)
theorem Clash_yes {F : FieldV} (O : F.Ok) (hc : F.canB = false) {r : Nat} (R : FewR F.looks.length (fun s => !F.canWo (-(s : Nat) - 1)) r) (hsl rsl lsl : AVal) (h : AH) (A : FieldAt h F hsl rsl lsl) :
    Runs Try.prog 19 [.agg (F.cells hsl rsl lsl)] h (fun en h' => en = .ret (.tuple [.int .i64 (r : Nat), .int .i64 0]) ∧ Ext h h') := by
  have hB := clashB_ok O hc R hsl rsl lsl
  have hat := attempt_does O hsl rsl lsl
  unfold FieldV.cells fieldC at hat hB ⊢
  refine Runs.intro aFunc19 rfl rfl rfl rfl fun rest => ?_
  refine Go.seq noJ_ok ?_
  refine Go.region noJ_ok rfl ?_
  refine GoR.box rfl rfl rfl rfl rfl rfl fun h0 x0 f0 => ?_
  have e0 := x0
  have := f0.1
  refine GoR.alloc rfl rfl rfl zt3 rfl rfl fun h1 x1 f1 => ?_
  have := e0.1
  have := f0.1
  replace f0 := f0.ext x1
  replace e0 := e0.trans x1
  have := f1.1
  refine GoR.op rfl rfl rfl rfl ?_
  refine GoR.end ?_
  refine Go.seq noJ_ok ?_
  refine Go.region noJ_ok rfl ?_
  refine GoR.op rfl rfl (ld27 rfl f0 rfl) rfl ?_
  refine GoR.op rfl rfl rfl rfl ?_
  have hS : ∀ b, (fun b => b = h0.next) b → b < h1.next := fun b q => by have : b = h0.next := q; have := f1.1; omega
  refine GoR.call rfl rfl (aOp_callFunc aFunc34 rfl) (hat _ (A.ext e0) 54 _ aFunc54 _ (fun b => b = h0.next) hS (fun h' => Has h' h0.next (.cells .plain [.int .i64 (r : Nat)] 3)) (fun h4 h' le same t => t.keep le (same _ (hS _ rfl))) (fun h' e => hB _ h' ((A.ext e0).ext e) (f1.ext e))) ?_ (by rintro _ _ ⟨q, _⟩; cases q)
  rintro v9 h9 ⟨q, y9, f8⟩
  cases q
  refine ⟨_, rfl, ?_⟩
  have e9 := y9.low e0 (fun b q => by have : b = h0.next := q; omega)
  clear e0 y9 f1 f0
  refine GoR.op rfl rfl rfl rfl ?_
  refine GoR.end ?_
  refine Go.seq noJ_ok ?_
  refine Go.region noJ_ok rfl ?_
  refine GoR.op rfl rfl (ld3 rfl f8 rfl) rfl ?_
  refine GoR.op rfl rfl rfl rfl ?_
  refine GoR.store rfl rfl rfl rfl rfl rfl f8 rfl sz3 rfl rfl rfl fun h10 u10 => ?_
  replace f8 := u10.has f8
  first | replace e9 := e9.upd u10 (by omega) | clear e9
  refine GoR.op rfl rfl rfl rfl ?_
  refine GoR.end ?_
  exact Go.ret noJ_ok (ret_end (aResult_of Try.func19 rfl (aResults_cellC rfl f8 (inCells_one ag3 rfl) rfl)) ⟨rfl, e9⟩)
theorem canB_iff (F : FieldV) : F.canB = true ↔ ∃ l, F.fell l := by
  unfold FieldV.canB FieldV.fell
  rw [List.any_eq_true]
  constructor
  · rintro ⟨l, hl, k⟩
    exact ⟨l, hl, fun T hT => List.all_eq_true.1 k T hT⟩
  · rintro ⟨l, hl, k⟩
    exact ⟨l, hl, List.all_eq_true.2 k⟩
theorem canB_ents {F : FieldV} (O : F.Ok) : F.canB = true ↔ F.ents ≠ [] := by
  rw [canB_iff]
  exact ⟨fun ⟨l, hl⟩ => fell_ne O hl, ne_fell⟩
end Go.Proofs.Ytmdheijpnlonoaa

namespace Go.Proofs.Ytmdheijpnlonoaa
open Go Go.AbsE
set_option linter.unusedSimpArgs false
set_option maxRecDepth 100000
set_option maxHeartbeats 0
set_option linter.unusedVariables false
def FieldV.rain (F : FieldV) (d : Nat) : Int × Int := joinL (F.ents.map fun x => ((x.2.1[d]?).getD 0, (x.2.1[d]?).getD 0))
theorem rain_at {F : FieldV} (O : F.Ok) {h : AH} {bm : Nat} (f : Has h bm (.map (esOf F.ents) F.ents.length)) (d : Nat) (hd : d < 6) :
    Runs Try.prog 41 [.map bm, .int .i64 d] h (fun en h' => en = .ret (.agg (spC (F.rain d))) ∧ Ext h h') := by
  have := rain_ok (known_at O f) d hd
  have hw : (esOf F.ents).map (rainM (decEn F.ents) d) = F.ents.map fun x => ((x.2.1[d]?).getD 0, (x.2.1[d]?).getD 0) := by
    refine esOf_map _ _ _ fun k x hx => ?_
    unfold rainM decEn
    dsimp only
    rw [hx]
    rfl
  rw [hw] at this
  exact this
theorem rainB_no {F : FieldV} (O : F.Ok) (he : F.ents = []) (hsl rsl lsl : AVal) (d : Nat) (hd : d < F.rs.length) (bd br : Nat) (h : AH) (A : FieldAt h F hsl rsl lsl) (f1 : Has h bd (.cells .plain [.int .i64 d] 3)) :
    Runs Try.prog 40 [.agg (F.cells hsl rsl lsl), .ptr bd 0, .ptr br 0] h (fun en h' => en = .pan (refusal 10) ∧ Ext h h') := by
  have hl2 := A.rs.len
  rw [List.length_map] at hl2
  have hnr := O.nr
  have htr := truths_no O he hsl rsl lsl
  have hn2 := fun h => needDay_ok (F := F) hsl rsl lsl hl2 hnr.2 d hd h
  unfold FieldV.cells fieldC at htr hn2 ⊢
  refine Runs.intro aFunc40 rfl rfl rfl rfl fun rest => ?_
  refine Go.seq noJ_ok ?_
  refine Go.region noJ_ok rfl ?_
  refine GoR.box rfl rfl rfl rfl rfl rfl fun h2 x2 f2 => ?_
  have := f1.1
  replace f1 := f1.ext x2
  have e0 := x2
  have := f2.1
  refine GoR.end ?_
  refine Go.seq noJ_ok ?_
  refine Go.region noJ_ok rfl ?_
  refine GoR.op rfl rfl (ld74 rfl f2 rfl) rfl ?_
  refine GoR.op rfl rfl (ld3 rfl f1 rfl) rfl ?_
  refine GoR.call rfl rfl (aOp_callFunc aFunc37 rfl) (hn2 _) ?_ (by rintro _ _ ⟨q, _⟩; cases q)
  rintro v3 h3 ⟨q, x3⟩
  cases q
  refine ⟨_, rfl, ?_⟩
  replace f2 := f2.ext x3
  replace f1 := f1.ext x3
  replace e0 := e0.trans x3
  refine GoR.end ?_
  refine Go.drawnE plan40_0 ?_
  refine GoE.quiet rfl rfl (ld74 rfl f2 rfl) rfl ?_
  refine GoE.quiet rfl rfl (ld3 rfl f1 rfl) rfl ?_
  refine GoE.callP rfl rfl (aOp_callFunc aFunc38 rfl) (htr _ (A.ext e0)) rfl (by rintro _ _ ⟨q, _⟩; cases q) ?_
  rintro chain h' ⟨q, x⟩
  have q := AEnd.pan.inj q
  subst q
  exact FLeft.pan ⟨rfl, e0.trans x⟩
theorem rainB_ok {F : FieldV} (O : F.Ok) (hne : F.ents ≠ []) (hsl rsl lsl : AVal) (d : Nat) (hd : d < F.rs.length) (bd br : Nat) (h : AH) (A : FieldAt h F hsl rsl lsl)
    (f1 : Has h bd (.cells .plain [.int .i64 d] 3)) (f2 : Has h br (.cells .plain [.int .i64 0, .int .i64 0] 30)) (hbd : bd ≠ br) :
    Runs Try.prog 40 [.agg (F.cells hsl rsl lsl), .ptr bd 0, .ptr br 0] h (fun en h' => en = .ret (.tuple []) ∧ ExtF (fun b => b = br) h h' ∧ Has h' br (.cells .plain (spC (F.rain d)) 30)) := by
  have hl2 := A.rs.len
  rw [List.length_map] at hl2
  have hnr := O.nr
  have htr := truths_yes O hne hsl rsl lsl
  have hn2 := fun h => needDay_ok (F := F) hsl rsl lsl hl2 hnr.2 d hd h
  unfold FieldV.cells fieldC at htr hn2 ⊢
  have y0 : ExtF (fun b => b = br) h h := ExtF.of (Ext.refl _)
  have hbr := f2.1
  refine Runs.intro aFunc40 rfl rfl rfl rfl fun rest => ?_
  refine Go.seq noJ_ok ?_
  refine Go.region noJ_ok rfl ?_
  refine GoR.box rfl rfl rfl rfl rfl rfl fun h3 x3 f3 => ?_
  have := f1.1
  have := f2.1
  replace f1 := f1.ext x3
  replace f2 := f2.ext x3
  replace y0 := y0.ext x3
  have e0 := x3
  have := f3.1
  refine GoR.end ?_
  refine Go.seq noJ_ok ?_
  refine Go.region noJ_ok rfl ?_
  refine GoR.op rfl rfl (ld74 rfl f3 rfl) rfl ?_
  refine GoR.op rfl rfl (ld3 rfl f1 rfl) rfl ?_
  refine GoR.call rfl rfl (aOp_callFunc aFunc37 rfl) (hn2 _) ?_ (by rintro _ _ ⟨q, _⟩; cases q)
  rintro v4 h4 ⟨q, x4⟩
  cases q
  refine ⟨_, rfl, ?_⟩
  replace f3 := f3.ext x4
  replace f1 := f1.ext x4
  replace f2 := f2.ext x4
  replace e0 := e0.trans x4
  replace y0 := y0.ext x4
  refine GoR.end ?_
  refine Go.drawnE plan40_0 ?_
  refine GoE.quiet rfl rfl (ld74 rfl f3 rfl) rfl ?_
  refine GoE.quiet rfl rfl (ld3 rfl f1 rfl) rfl ?_
  refine GoE.call rfl rfl (aOp_callFunc aFunc38 rfl) (htr _ (A.ext e0)) (dropF_keep (show bit? 1 2 = false from rfl) (dropF_drop (show bit? 1 0 = true from rfl) rfl)) ?_ (by rintro _ _ ⟨bm, q, _, hbm, f70⟩; cases q)
  rintro v5 h5 ⟨bm, q, x5, hbm, f70⟩
  cases q
  have := e0.1
  replace f3 := f3.ext x5
  replace f1 := f1.ext x5
  replace f2 := f2.ext x5
  replace e0 := e0.trans x5
  replace y0 := y0.ext x5
  refine ⟨(recheck_cons (h2 := h5) rfl (ld3 rfl f1 rfl) (by first | rfl | exact sameA_int _ _ | exact sameA_bool _ | exact sameA_agg2 _ _ | assumption | (simp [sameA, sameAs, eqI_eq]; done)) recheck_nil), _, rfl, ?_⟩
  refine GoE.call rfl rfl (aOp_callFunc aFunc41 rfl) (rain_at O f70 d (by omega)) (dropF_drop (show bit? 7 2 = true from rfl) rfl) ?_ (by rintro _ _ ⟨q, _⟩; cases q)
  rintro v71 h71 ⟨q, x71⟩
  cases q
  replace f70 := f70.ext x71
  replace f3 := f3.ext x71
  replace f1 := f1.ext x71
  replace f2 := f2.ext x71
  replace e0 := e0.trans x71
  replace y0 := y0.ext x71
  refine ⟨recheck_nil, _, rfl, ?_⟩
  refine GoE.store rfl rfl rfl rfl rfl rfl rfl f2 rfl sz30 rfl rfl rfl fun h72 u72 => ?_
  replace f70 := f70.upd u72 (by omega)
  replace f3 := f3.upd u72 (by omega)
  replace f1 := f1.upd u72 (by omega)
  replace f2 := u72.has f2
  first | replace e0 := e0.upd u72 (by omega) | clear e0
  first | replace y0 := y0.upd u72 (by first | exact .inl rfl | exact .inl (.inl rfl) | exact .inl (.inr rfl) | exact .inl (by assumption) | exact .inr (by omega)) | skip
  refine ⟨recheck_nil, ?_⟩
  refine GoE.end rfl ?_
  exact Go.endL (FLeft.ret (v := .tuple []) (aResult_of Try.func40 rfl rfl) ⟨rfl, y0, f2⟩)
theorem Rain_no {F : FieldV} (O : F.Ok) (he : F.ents = []) (hsl rsl lsl : AVal) (d : Nat) (hd : d < F.rs.length) (h : AH) (A : FieldAt h F hsl rsl lsl) :
    Runs Try.prog 14 [.agg (F.cells hsl rsl lsl), .int .i64 d] h (fun en h' => en = .ret (.tuple [.agg [.int .i64 0, .int .i64 0], .int .i64 10]) ∧ Ext h h') := by
  have hat := attempt_gives O hsl rsl lsl
  have hB := rainB_no O he hsl rsl lsl d hd
  unfold FieldV.cells fieldC at hat hB ⊢
  refine Runs.intro aFunc14 rfl rfl rfl rfl fun rest => ?_
  refine Go.seq noJ_ok ?_
  refine Go.region noJ_ok rfl ?_
  refine GoR.box rfl rfl rfl rfl rfl rfl fun h0 x0 f0 => ?_
  have e0 := x0
  have := f0.1
  refine GoR.box rfl rfl rfl rfl rfl rfl fun h1 x1 f1 => ?_
  have := e0.1
  have := f0.1
  replace f0 := f0.ext x1
  replace e0 := e0.trans x1
  have := f1.1
  refine GoR.alloc rfl rfl rfl zt30 rfl rfl fun h2 x2 f2 => ?_
  have := e0.1
  have := f1.1
  have := f0.1
  replace f1 := f1.ext x2
  replace f0 := f0.ext x2
  replace e0 := e0.trans x2
  have := f2.1
  refine GoR.op rfl rfl rfl rfl ?_
  refine GoR.end ?_
  refine Go.seq noJ_ok ?_
  refine Go.region noJ_ok rfl ?_
  refine GoR.op rfl rfl (ld27 rfl f0 rfl) rfl ?_
  refine GoR.op rfl rfl rfl rfl ?_
  refine GoR.call rfl rfl (aOp_callFunc aFunc34 rfl) (hat _ (A.ext e0) 40 _ aFunc40 _ 10 (fun h' e => hB _ _ h' ((A.ext e0).ext e) (f1.ext e))) ?_ (by rintro _ _ ⟨q, _⟩; cases q)
  rintro v3 h3 ⟨q, x3⟩
  cases q
  refine ⟨_, rfl, ?_⟩
  replace f2 := f2.ext x3
  replace f1 := f1.ext x3
  replace f0 := f0.ext x3
  replace e0 := e0.trans x3
  refine GoR.op rfl rfl rfl rfl ?_
  refine GoR.end ?_
  refine Go.seq noJ_ok ?_
  refine Go.region noJ_ok rfl ?_
  refine GoR.op rfl rfl (ld30 rfl f2 rfl) rfl ?_
  refine GoR.op rfl rfl rfl rfl ?_
  refine GoR.store rfl rfl rfl rfl rfl rfl f2 rfl sz30 rfl rfl rfl fun h4 u4 => ?_
  replace f2 := u4.has f2
  replace f1 := f1.upd u4 (by omega)
  replace f0 := f0.upd u4 (by omega)
  first | replace e0 := e0.upd u4 (by omega) | clear e0
  refine GoR.op rfl rfl rfl rfl ?_
  refine GoR.end ?_
  exact Go.ret noJ_ok (ret_end (aResult_of Try.func14 rfl (aResults_cellC rfl f2 (inCells_agg ag30 sz30 rfl) rfl)) ⟨rfl, e0⟩)
theorem Rain_yes {F : FieldV} (O : F.Ok) (hne : F.ents ≠ []) (hsl rsl lsl : AVal) (d : Nat) (hd : d < F.rs.length) (h : AH) (A : FieldAt h F hsl rsl lsl) :
    Runs Try.prog 14 [.agg (F.cells hsl rsl lsl), .int .i64 d] h (fun en h' => en = .ret (.tuple [.agg (spC (F.rain d)), .int .i64 0]) ∧ Ext h h') := by
  have hB := rainB_ok O hne hsl rsl lsl d hd
  have hat := attempt_does O hsl rsl lsl
  unfold FieldV.cells fieldC at hat hB ⊢
  refine Runs.intro aFunc14 rfl rfl rfl rfl fun rest => ?_
  refine Go.seq noJ_ok ?_
  refine Go.region noJ_ok rfl ?_
  refine GoR.box rfl rfl rfl rfl rfl rfl fun h0 x0 f0 => ?_
  have e0 := x0
  have := f0.1
  refine GoR.box rfl rfl rfl rfl rfl rfl fun h1 x1 f1 => ?_
  have := e0.1
  have := f0.1
  replace f0 := f0.ext x1
  replace e0 := e0.trans x1
  have := f1.1
  refine GoR.alloc rfl rfl rfl zt30 rfl rfl fun h2 x2 f2 => ?_
  have := e0.1
  have := f1.1
  have := f0.1
  replace f1 := f1.ext x2
  replace f0 := f0.ext x2
  replace e0 := e0.trans x2
  have := f2.1
  refine GoR.op rfl rfl rfl rfl ?_
  refine GoR.end ?_
  refine Go.seq noJ_ok ?_
  refine Go.region noJ_ok rfl ?_
  refine GoR.op rfl rfl (ld27 rfl f0 rfl) rfl ?_
  refine GoR.op rfl rfl rfl rfl ?_
  have hS : ∀ b, (fun b => b = h1.next) b → b < h2.next := fun b q => by have : b = h1.next := q; have := f2.1; omega
  refine GoR.call rfl rfl (aOp_callFunc aFunc34 rfl) (hat _ (A.ext e0) 40 _ aFunc40 _ (fun b => b = h1.next) hS (fun h' => Has h' h1.next (.cells .plain (spC (F.rain d)) 30)) (fun h4 h' le same t => t.keep le (same _ (hS _ rfl))) (fun h' e => hB _ _ h' ((A.ext e0).ext e) (f1.ext e) (f2.ext e) (by omega))) ?_ (by rintro _ _ ⟨q, _⟩; cases q)
  rintro v9 h9 ⟨q, y9, f9⟩
  cases q
  refine ⟨_, rfl, ?_⟩
  have e9 := y9.low e0 (fun b q => by have : b = h1.next := q; omega)
  clear e0 y9 f2
  refine GoR.op rfl rfl rfl rfl ?_
  refine GoR.end ?_
  refine Go.seq noJ_ok ?_
  refine Go.region noJ_ok rfl ?_
  refine GoR.op rfl rfl (ld30 rfl f9 rfl) rfl ?_
  refine GoR.op rfl rfl rfl rfl ?_
  refine GoR.store rfl rfl rfl rfl rfl rfl f9 rfl sz30 rfl rfl rfl fun h10 u10 => ?_
  replace f9 := u10.has f9
  first | replace e9 := e9.upd u10 (by omega) | clear e9
  refine GoR.op rfl rfl rfl rfl ?_
  refine GoR.end ?_
  exact Go.ret noJ_ok (ret_end (aResult_of Try.func14 rfl (aResults_cellC rfl f9 (inCells_agg ag30 sz30 rfl) rfl)) ⟨rfl, e9⟩)
end Go.Proofs.Ytmdheijpnlonoaa

namespace Go.Proofs.Ytmdheijpnlonoaa
open Go Go.AbsE
set_option linter.unusedSimpArgs false
set_option maxRecDepth 100000
set_option maxHeartbeats 0
set_option linter.unusedVariables false
def inR : List Int → List (Int × Int) → Prop
  | [], [] => True
  | x :: l, r :: rs => (r.1 ≤ x ∧ x ≤ r.2) ∧ inR l rs
  | _, _ => False
theorem falls_iff : ∀ {rs : List (Int × Int)} {l : List Int}, l ∈ falls rs ↔ inR l rs
  | [], l => by
    cases l with
    | nil => simp [falls, inR]
    | cons x l => simp [falls, inR]
  | r :: rs, l => by
    cases l with
    | nil => simp [falls, inR]
    | cons x l =>
      simp only [falls, List.mem_flatMap, List.mem_map, List.mem_range, inR]
      rw [← falls_iff (rs := rs) (l := l)]
      constructor
      · rintro ⟨k, hk, l', hl', q⟩
        injection q with q1 q2
        subst q1 q2
        exact ⟨by omega, hl'⟩
      · rintro ⟨h1, h2⟩
        refine ⟨(x - r.1).toNat, by omega, l, h2, ?_⟩
        congr 1
        omega
theorem inR_set {c : Int} : ∀ {rs : List (Int × Int)} {l : List Int} {d : Nat} {r : Int × Int}, rs[d]? = some r → r.1 ≤ c → c ≤ r.2 → (inR l (rs.set d (c, c)) ↔ inR l rs ∧ atD l d = c)
  | [], l, d, r, h, _, _ => by simp at h
  | r0 :: rs, l, 0, r, h, h1, h2 => by
    simp at h
    subst h
    cases l with
    | nil => simp [inR]
    | cons x l =>
      simp only [List.set_cons_zero, inR]
      show _ ↔ _ ∧ x = c
      constructor
      · rintro ⟨q, k⟩; exact ⟨⟨by omega, k⟩, by omega⟩
      · rintro ⟨⟨q, k⟩, z⟩; exact ⟨by omega, k⟩
  | r0 :: rs, l, d + 1, r, h, h1, h2 => by
    rw [List.getElem?_cons_succ] at h
    cases l with
    | nil => simp [inR]
    | cons x l =>
      have ih := inR_set (c := c) (rs := rs) (l := l) (d := d) h h1 h2
      simp only [List.set_cons_succ, inR]
      have hat : atD (x :: l) (d + 1) = atD l d := by unfold atD; rw [List.getElem?_cons_succ]
      rw [ih, hat]
      constructor
      · rintro ⟨q, k, z⟩; exact ⟨⟨q, k⟩, z⟩
      · rintro ⟨⟨q, k⟩, z⟩; exact ⟨q, k, z⟩
theorem padF_at {l : List Int} {d : Nat} (hd : d < l.length) : ((padF l)[d]?).getD 0 = atD l d := by
  unfold padF atD
  rw [List.getElem?_append_left hd]
theorem rain_ends {F : FieldV} (O : F.Ok) (hne : F.ents ≠ []) {d : Nat} (hd : d < F.rs.length) :
    (∀ l, F.fell l → (F.rain d).1 ≤ atD l d ∧ atD l d ≤ (F.rain d).2) ∧ (∃ l, F.fell l ∧ (F.rain d).1 = atD l d) ∧ ∃ l, F.fell l ∧ (F.rain d).2 = atD l d := by
  have hg : ∀ x, x ∈ F.ents → Good ((x.2.1[d]?).getD 0, (x.2.1[d]?).getD 0) := by
    intro x hx
    obtain ⟨l, i, T, hl, hT, rfl⟩ := ents_all hx
    have hll := falls_len hl.1
    dsimp only
    rw [padF_at (by omega)]
    have := falls_in O.rains.2 hl.1 _ (atD_mem (c := l) (d := d) (by omega))
    unfold Good
    dsimp only
    omega
  obtain ⟨x0, hx0⟩ := List.exists_mem_of_ne_nil _ hne
  obtain ⟨j1, ⟨p, hp1, _, hp2⟩, q, hq1, _, hq2⟩ := joinL_ends (l := F.ents.map fun x => ((x.2.1[d]?).getD 0, (x.2.1[d]?).getD 0))
    (fun p hp => by obtain ⟨x, hx, rfl⟩ := List.mem_map.1 hp; exact .inr (hg x hx)) ⟨_, List.mem_map.2 ⟨x0, hx0, rfl⟩, hg x0 hx0⟩
  obtain ⟨x1, hx1, rfl⟩ := List.mem_map.1 hp1
  obtain ⟨x2, hx2, rfl⟩ := List.mem_map.1 hq1
  obtain ⟨l1, _, _, hl1, _, rfl⟩ := ents_all hx1
  obtain ⟨l2, _, _, hl2, _, rfl⟩ := ents_all hx2
  have hn1 := falls_len hl1.1
  have hn2 := falls_len hl2.1
  dsimp only at hp2 hq2
  rw [padF_at (by omega)] at hp2 hq2
  refine ⟨fun l hl => ?_, ⟨l1, hl1, hp2⟩, l2, hl2, hq2⟩
  have hts : F.ts.length = F.hs.length := turfsOf_len _ _
  have hnh := O.nh
  have hT0 : F.ts[0]? = some (F.ts[0]'(by omega)) := by simp
  have := j1 _ (List.mem_map.2 ⟨_, fell_ent hl hT0, rfl⟩)
  have hn := falls_len hl.1
  dsimp only at this
  rw [padF_at (by omega)] at this
  exact this
def FieldV.withR (F : FieldV) (d : Nat) (c : Int) : FieldV := ⟨F.hs, F.rs.set d (c, c), F.a, F.b, F.c, F.lim, F.looks⟩
theorem withR_ok {F : FieldV} (O : F.Ok) {d : Nat} {c : Int} (hc : 0 ≤ c ∧ c ≤ 10) : (F.withR d c).Ok := by
  have hlen : (F.withR d c).rs.length = F.rs.length := List.length_set
  refine ⟨O.nh, O.h, by rw [hlen]; exact O.nr, fun r hr => ?_, O.d, O.lim, O.nl, fun l hl => ?_⟩
  · rcases List.mem_or_eq_of_mem_set hr with q | q
    · exact O.r r q
    · subst q; dsimp only; omega
  · rw [hlen]
    exact O.l l hl
theorem withR_fell {F : FieldV} {d : Nat} {c : Int} {r : Int × Int} (hr : F.rs[d]? = some r) (h1 : r.1 ≤ c) (h2 : c ≤ r.2) (l : List Int) : (F.withR d c).fell l ↔ F.fell l ∧ atD l d = c := by
  have h3 : l ∈ falls (F.rs.set d (c, c)) ↔ l ∈ falls F.rs ∧ atD l d = c := by rw [falls_iff, falls_iff, inR_set hr h1 h2]
  constructor
  · rintro ⟨q, k⟩
    obtain ⟨q1, q2⟩ := h3.1 q
    exact ⟨⟨q1, k⟩, q2⟩
  · rintro ⟨⟨q, k⟩, z⟩
    exact ⟨h3.2 ⟨q, z⟩, k⟩
def FieldV.withV (F : FieldV) (i d : Nat) (c : Int) : FieldV := ⟨F.hs, F.rs, F.a, F.b, F.c, F.lim, F.looks ++ [⟨(i : Nat), (d : Nat), c, c⟩]⟩
theorem withV_ok {F : FieldV} (O : F.Ok) {i d : Nat} {c : Int} (hi : i < F.hs.length) (hd : d < F.rs.length) (hc : 0 ≤ c ∧ c ≤ 100) (hn : F.looks.length < 5) : (F.withV i d c).Ok := by
  refine ⟨O.nh, O.h, O.nr, O.r, O.d, O.lim, by show (F.looks ++ [_]).length ≤ 5; simp; omega, fun l hl => ?_⟩
  rcases List.mem_append.1 hl with q | q
  · exact O.l l q
  · have q := List.mem_singleton.1 q
    subst q
    show 0 ≤ ((i : Nat) : Int) ∧ ((i : Nat) : Int) < F.hs.length ∧ 0 ≤ ((d : Nat) : Int) ∧ ((d : Nat) : Int) < F.rs.length ∧ 0 ≤ c ∧ c ≤ c ∧ c ≤ 100
    omega
theorem withV_at {F : FieldV} {i d : Nat} {c : Int} {x : HTurf} (hx : F.hs[i]? = some x) (l : List Int) (y : List Int) :
    y ∈ rightC F.a F.b F.c (turfAt (F.withV i d c).looks i x) l ↔ y ∈ rightC F.a F.b F.c (turfAt F.looks i x) l ∧ atD y d = c := by
  have hf : (F.looks ++ [(⟨(i : Nat), (d : Nat), c, c⟩ : LookV)]).filter (isAt i) = F.looks.filter (isAt i) ++ [⟨(i : Nat), (d : Nat), c, c⟩] := by
    rw [List.filter_append]
    congr 1
    simp [isAt]
  unfold rightC
  rw [List.mem_filter, List.mem_filter]
  show y ∈ allC F.a F.b F.c (turfAt F.looks i x) l ∧ suitsB ((F.looks ++ [(⟨(i : Nat), (d : Nat), c, c⟩ : LookV)]).filter (isAt i)) y = true ↔ _
  rw [hf]
  unfold suitsB
  rw [List.all_append, Bool.and_eq_true]
  have h1 : ([(⟨(i : Nat), (d : Nat), c, c⟩ : LookV)].all (suits1 y)) = true ↔ atD y d = c := by
    simp only [List.all_cons, List.all_nil, Bool.and_true, suits1, Int.toNat_natCast, decide_eq_true_eq]
    constructor
    · intro k; omega
    · intro k; omega
  rw [h1]
  constructor
  · rintro ⟨q1, q2, q3⟩; exact ⟨⟨q1, q2⟩, q3⟩
  · rintro ⟨⟨q1, q2⟩, q3⟩; exact ⟨q1, q2, q3⟩
theorem withV_other {F : FieldV} {i j d : Nat} {c : Int} (h : j ≠ i) (x : HTurf) : turfAt (F.withV i d c).looks j x = turfAt F.looks j x := by
  have hf : (F.looks ++ [(⟨(i : Nat), (d : Nat), c, c⟩ : LookV)]).filter (isAt j) = F.looks.filter (isAt j) := by
    rw [List.filter_append]
    have : ([(⟨(i : Nat), (d : Nat), c, c⟩ : LookV)].filter (isAt j)) = [] := by
      simp [isAt]
      omega
    rw [this, List.append_nil]
  unfold turfAt
  show TurfV.mk _ _ _ ((F.looks ++ [(⟨(i : Nat), (d : Nat), c, c⟩ : LookV)]).filter (isAt j)) = _
  rw [hf]
theorem possB_iff {a b c : Int} {t : TurfV} {rs : List Int} : possB a b c t rs = true ↔ ∃ y, y ∈ rightC a b c t rs := by
  unfold possB
  cases q : rightC a b c t rs with
  | nil => simp
  | cons y ys => simp
theorem withV_fell {F : FieldV} {i d : Nat} {c : Int} {x : HTurf} (hx : F.hs[i]? = some x) (l : List Int) : (F.withV i d c).fell l ↔ F.fell l ∧ ∃ y, y ∈ rightC F.a F.b F.c (turfAt F.looks i x) l ∧ atD y d = c := by
  have hts : ∀ (G : FieldV) (P : TurfV → Prop), (∀ T, T ∈ G.ts → P T) ↔ ∀ (j : Nat) (z : HTurf), G.hs[j]? = some z → P (turfAt G.looks j z) := by
    intro G P
    constructor
    · intro k j z hz
      exact k _ (List.mem_of_getElem? (ts_at hz))
    · intro k T hT
      obtain ⟨j, hj, rfl⟩ := List.mem_mapIdx.1 hT
      exact k j _ (by simp)
  unfold FieldV.fell
  rw [hts, hts]
  show (l ∈ falls F.rs ∧ ∀ (j : Nat) (z : HTurf), F.hs[j]? = some z → possB F.a F.b F.c (turfAt (F.withV i d c).looks j z) l = true) ↔ _
  constructor
  · rintro ⟨q, k⟩
    have ki := k i x hx
    rw [possB_iff] at ki
    obtain ⟨y, hy⟩ := ki
    rw [withV_at hx] at hy
    refine ⟨⟨q, fun j z hz => ?_⟩, y, hy⟩
    by_cases hj : j = i
    · subst hj
      rw [hx] at hz
      cases hz
      exact possB_iff.2 ⟨y, hy.1⟩
    · have := k j z hz
      rw [withV_other hj] at this
      exact this
  · rintro ⟨⟨q, k⟩, y, hy1, hy2⟩
    refine ⟨q, fun j z hz => ?_⟩
    by_cases hj : j = i
    · subst hj
      rw [hx] at hz
      cases hz
      exact possB_iff.2 ⟨y, (withV_at hx l y).2 ⟨hy1, hy2⟩⟩
    · rw [withV_other hj]
      exact k j z hz
theorem withV_ents {F : FieldV} (O : F.Ok) {i d : Nat} {c : Int} (hi : i < F.hs.length) (O2 : (F.withV i d c).Ok) : (F.withV i d c).ents ≠ [] ↔ F.val i d c := by
  have hx : F.hs[i]? = some (F.hs[i]'hi) := by simp
  rw [← canB_ents O2, canB_iff]
  constructor
  · rintro ⟨l, hl⟩
    obtain ⟨h1, y, hy1, hy2⟩ := (withV_fell hx l).1 hl
    exact ⟨l, _, y, h1, ts_at hx, hy1, hy2.symm⟩
  · rintro ⟨l, T, y, h1, hT, hy1, hy2⟩
    rw [ts_at hx] at hT
    cases hT
    exact ⟨l, (withV_fell hx l).2 ⟨h1, y, hy1, hy2.symm⟩⟩
theorem withV_wet {F : FieldV} (O : F.Ok) {i d : Nat} {c : Int} (hi : i < F.hs.length) (hd : d < F.rs.length) (O2 : (F.withV i d c).Ok) (hne : (F.withV i d c).ents ≠ []) : (F.withV i d c).wet (i : Nat) d = (c, c) := by
  have hx : F.hs[i]? = some (F.hs[i]'hi) := by simp
  obtain ⟨_, h1, h2⟩ := wet_ends O2 hne (i := i) (d := d) hi hd
  have key : ∀ v, (F.withV i d c).val i d v → v = c := by
    rintro v ⟨l, T, y, hl, hT, hy, rfl⟩
    have hT2 : (F.withV i d c).ts[i]? = some (turfAt (F.withV i d c).looks i (F.hs[i]'hi)) := ts_at (F := F.withV i d c) hx
    rw [hT2] at hT
    cases hT
    exact ((withV_at hx l y).1 hy).2
  ext
  · exact key _ h1
  · exact key _ h2
theorem withR_ents {F : FieldV} (O : F.Ok) {d : Nat} {c : Int} {r : Int × Int} (hr : F.rs[d]? = some r) (h1 : r.1 ≤ c) (h2 : c ≤ r.2) (O2 : (F.withR d c).Ok) : (F.withR d c).ents ≠ [] ↔ ∃ l, F.fell l ∧ atD l d = c := by
  rw [← canB_ents O2, canB_iff]
  constructor
  · rintro ⟨l, hl⟩; exact ⟨l, (withR_fell hr h1 h2 l).1 hl⟩
  · rintro ⟨l, hl⟩; exact ⟨l, (withR_fell hr h1 h2 l).2 hl⟩
theorem withR_rain {F : FieldV} (O : F.Ok) {d : Nat} {c : Int} {r : Int × Int} (hr : F.rs[d]? = some r) (h1 : r.1 ≤ c) (h2 : c ≤ r.2) (O2 : (F.withR d c).Ok) (hne : (F.withR d c).ents ≠ []) : (F.withR d c).rain d = (c, c) := by
  have hd := (List.getElem?_eq_some_iff.1 hr).1
  have hd2 : d < (F.withR d c).rs.length := by show d < (F.rs.set d (c, c)).length; rw [List.length_set]; exact hd
  obtain ⟨_, ⟨l1, k1, z1⟩, l2, k2, z2⟩ := rain_ends O2 hne hd2
  ext
  · rw [z1]; exact ((withR_fell hr h1 h2 l1).1 k1).2
  · rw [z2]; exact ((withR_fell hr h1 h2 l2).1 k2).2
end Go.Proofs.Ytmdheijpnlonoaa

namespace Go.Proofs.Ytmdheijpnlonoaa
open Go Go.AbsE
set_option linter.unusedSimpArgs false
set_option maxRecDepth 100000
set_option maxHeartbeats 0
set_option linter.unusedVariables false
theorem flds59h : ∃ fs, Try.prog.underlying 59 = some (.struct fs) ∧ placesT Try.prog fs.toList = some [(0, 1), (1, 1), (2, 2)] := ⟨_, Try.underlying59, by kernel_rfl⟩
theorem look29_ok (a b c d : Int) (h : AH) : Runs Try.prog 29 [.int .i64 a, .int .i64 b, .int .i64 c, .int .i64 d] h (fun en h' => en = .ret (.agg [.int .i64 a, .int .i64 b, .int .i64 c, .int .i64 d]) ∧ Ext h h') := by
  obtain ⟨fs59, hu59, pl59⟩ := flds59h
  refine Runs.intro aFunc29 rfl rfl rfl rfl fun rest => ?_
  refine Go.seq noJ_ok ?_
  refine Go.region noJ_ok rfl ?_
  refine GoR.alloc rfl rfl rfl zt59 rfl rfl fun h0 x0 f0 => ?_
  have e0 := x0
  have := f0.1
  refine GoR.end ?_
  refine Go.seq noJ_ok ?_
  refine Go.region noJ_ok rfl ?_
  iterate 4 refine GoR.op rfl rfl rfl rfl ?_
  refine GoR.call rfl rfl (aOp_callFunc aFunc11 rfl) (span11_ok c d _) ?_ (by rintro _ _ ⟨q, _⟩; cases q)
  rintro v1 h1 ⟨q, x1⟩
  cases q
  refine ⟨_, rfl, ?_⟩
  replace f0 := f0.ext x1
  replace e0 := e0.trans x1
  refine GoR.op rfl rfl (aOp_build (ps := [(0, .int .i64 a), (1, .int .i64 b), (2, .agg [.int .i64 c, .int .i64 d])]) (cs := [.int .i64 a, .int .i64 b, .int .i64 c, .int .i64 d]) zt59 hu59 pl59 rfl rfl) rfl ?_
  refine GoR.store rfl rfl rfl rfl rfl rfl f0 rfl sz59 rfl rfl rfl fun h2 u2 => ?_
  replace f0 := u2.has f0
  first | replace e0 := e0.upd u2 (by omega) | clear e0
  refine GoR.end ?_
  exact Go.ret noJ_ok (ret_end (aResult_of Try.func29 rfl (aResults_cell rfl f0 (inCells_agg ag59 sz59 rfl))) ⟨rfl, e0⟩)
theorem inside27_ok (n lo hi : Int) {r : Bool} (hr : decide (lo ≤ n ∧ n ≤ hi) = r) (h : AH) : Runs Try.prog 27 [.int .i64 n, .agg [.int .i64 lo, .int .i64 hi]] h (fun en h' => en = .ret (.bool r) ∧ Ext h h') := by
  by_cases h1 : lo ≤ n
  · by_cases h2 : n ≤ hi
    · have : r = true := by rw [← hr]; exact decide_eq_true ⟨h1, h2⟩
      subst this
      refine Runs.intro aFunc27 rfl rfl rfl rfl fun rest => ?_
      refine Go.seq noJ_ok ?_
      refine Go.region noJ_ok rfl ?_
      refine GoR.box rfl rfl rfl rfl rfl rfl fun h3 x3 f3 => ?_
      have e0 := x3
      have := f3.1
      refine GoR.op rfl rfl rfl rfl ?_
      refine GoR.end ?_
      refine Go.seq noJ_ok ?_
      refine Go.region noJ_ok rfl ?_
      refine GoR.op rfl rfl (fa30_0 rfl) rfl ?_
      refine GoR.op rfl rfl (ld3 rfl f3 rfl) rfl ?_
      refine GoR.op rfl rfl rfl rfl ?_
      refine GoR.op rfl rfl (aOp_leq rfl rfl (r := true) (decide_eq_true (by omega))) rfl ?_
      iterate 2 refine GoR.op rfl rfl rfl rfl ?_
      refine GoR.op rfl rfl (fa30_1 rfl) rfl ?_
      refine GoR.op rfl rfl (ld3 rfl f3 rfl) rfl ?_
      refine GoR.op rfl rfl (aOp_leq rfl rfl (r := true) (decide_eq_true (by omega))) rfl ?_
      iterate 2 refine GoR.op rfl rfl rfl rfl ?_
      refine GoR.end ?_
      exact Go.ret noJ_ok (ret_end (aResult_of Try.func27 rfl rfl) ⟨rfl, e0⟩)
    · have : r = false := by rw [← hr]; exact decide_eq_false (by omega)
      subst this
      refine Runs.intro aFunc27 rfl rfl rfl rfl fun rest => ?_
      refine Go.seq noJ_ok ?_
      refine Go.region noJ_ok rfl ?_
      refine GoR.box rfl rfl rfl rfl rfl rfl fun h3 x3 f3 => ?_
      have e0 := x3
      have := f3.1
      refine GoR.op rfl rfl rfl rfl ?_
      refine GoR.end ?_
      refine Go.seq noJ_ok ?_
      refine Go.region noJ_ok rfl ?_
      refine GoR.op rfl rfl (fa30_0 rfl) rfl ?_
      refine GoR.op rfl rfl (ld3 rfl f3 rfl) rfl ?_
      refine GoR.op rfl rfl rfl rfl ?_
      refine GoR.op rfl rfl (aOp_leq rfl rfl (r := true) (decide_eq_true (by omega))) rfl ?_
      iterate 2 refine GoR.op rfl rfl rfl rfl ?_
      refine GoR.op rfl rfl (fa30_1 rfl) rfl ?_
      refine GoR.op rfl rfl (ld3 rfl f3 rfl) rfl ?_
      refine GoR.op rfl rfl (aOp_leq rfl rfl (r := false) (decide_eq_false (by omega))) rfl ?_
      iterate 2 refine GoR.op rfl rfl rfl rfl ?_
      refine GoR.end ?_
      exact Go.ret noJ_ok (ret_end (aResult_of Try.func27 rfl rfl) ⟨rfl, e0⟩)
  · have : r = false := by rw [← hr]; exact decide_eq_false (by omega)
    subst this
    refine Runs.intro aFunc27 rfl rfl rfl rfl fun rest => ?_
    refine Go.seq noJ_ok ?_
    refine Go.region noJ_ok rfl ?_
    refine GoR.box rfl rfl rfl rfl rfl rfl fun h2 x2 f2 => ?_
    have e0 := x2
    have := f2.1
    refine GoR.op rfl rfl rfl rfl ?_
    refine GoR.end ?_
    refine Go.seq noJ_ok ?_
    refine Go.region noJ_ok rfl ?_
    refine GoR.op rfl rfl (fa30_0 rfl) rfl ?_
    refine GoR.op rfl rfl (ld3 rfl f2 rfl) rfl ?_
    refine GoR.op rfl rfl rfl rfl ?_
    refine GoR.op rfl rfl (aOp_leq rfl rfl (r := false) (decide_eq_false (by omega))) rfl ?_
    refine GoR.op rfl rfl rfl rfl ?_
    iterate 4 refine GoR.skip rfl rfl rfl ?_
    iterate 2 refine GoR.op rfl rfl rfl rfl ?_
    refine GoR.end ?_
    exact Go.ret noJ_ok (ret_end (aResult_of Try.func27 rfl rfl) ⟨rfl, e0⟩)
theorem look_four {L : List LookV} : ∀ l, l ∈ L.map LookV.cells → l.length = 4 := fun l hl => by obtain ⟨_, _, rfl⟩ := List.mem_map.1 hl; rfl
theorem with28_ok {F : FieldV} (hsl rsl lsl : AVal) (x : LookV) (hn : F.looks.length ≤ 40) (h : AH) (A : FieldAt h F hsl rsl lsl) :
    Runs Try.prog 28 [.agg (F.cells hsl rsl lsl), .agg x.cells] h (fun en h' => ∃ s, en = .ret (.agg [hsl, rsl, .int .i64 F.a, .int .i64 F.b, .int .i64 F.c, .int .i64 F.lim, s]) ∧ Ext h h' ∧ SliceOf h' 4 s ((F.looks ++ [x]).map LookV.cells)) := by
  obtain ⟨hs1, hc1⟩ := A.hs.scal
  obtain ⟨hs2, hc2⟩ := A.rs.scal
  obtain ⟨p, o, lo, hi⟩ := x
  unfold LookV.cells FieldV.cells fieldC
  dsimp only
  refine Runs.intro aFunc28 rfl rfl rfl rfl fun rest => ?_
  refine Go.seq noJ_ok (Go.region noJ_ok rfl ?_)
  refine GoR.box rfl rfl rfl rfl rfl rfl fun h1 x1 f1 => ?_
  refine GoR.box rfl rfl rfl rfl rfl rfl fun h2 x2 f2 => ?_
  refine GoR.alloc rfl rfl rfl zt27 rfl rfl fun h3 x3 f3 => ?_
  have a1 := x1.1
  have a2 := x2.1
  have a3 := x3.1
  have l1 := f1.1
  have l2 := f2.1
  have l3 := f3.1
  replace f1 := (f1.ext x2).ext x3
  replace f2 := f2.ext x3
  have x03 := (x1.trans x2).trans x3
  refine GoR.end (Go.seq noJ_ok (Go.drawnE plan28_0 ?_))
  refine GoE.quietX rfl rfl (aOpX_lit (ps := []) Try.underlying25 rfl sz59 zt59 rfl rfl rfl) rfl ?_
  refine GoE.quiet rfl rfl (fa27_4 rfl) rfl ?_
  refine GoE.quiet rfl rfl (ld25 rfl f1 rfl) rfl ?_
  refine GoE.quiet rfl rfl (ld59 rfl f2 rfl) rfl ?_
  refine GoE.quietX rfl rfl (aOpX_lit (ps := [(0, .agg [.int .i64 p, .int .i64 o, .int .i64 lo, .int .i64 hi])]) (cs := [.int .i64 p, .int .i64 o, .int .i64 lo, .int .i64 hi]) Try.underlying25 rfl sz59 zt59 rfl rfl rfl) rfl ?_
  have hm3 := A.ls.ext x03
  refine GoE.copy (L := F.looks.map LookV.cells) rfl rfl Try.underlying25 Try.underlying25 sz59 by59 zt59 rfl rfl rfl rfl hm3 look_four (by rw [List.length_map]; omega)
    (dropF_keep (show bit? 7 5 = false from rfl) (dropF_keep (show bit? 7 4 = false from rfl) (dropF_drop (show bit? 7 2 = true from rfl) (dropF_drop (show bit? 7 1 = true from rfl) (dropF_drop (show bit? 7 0 = true from rfl) rfl))))) rfl rfl fun v4 h4 x4 c4 => ?_
  have f24 := f2.ext x4
  refine ⟨recheck_consX (h2 := h4) rfl (aOpX_lit (ps := [(0, .agg [.int .i64 p, .int .i64 o, .int .i64 lo, .int .i64 hi])]) (cs := [.int .i64 p, .int .i64 o, .int .i64 lo, .int .i64 hi]) Try.underlying25 rfl sz59 zt59 rfl rfl rfl) (by simp [sameA, sameAs, eqI_eq]) (recheck_cons (h2 := h4) rfl (ld59 rfl f24 rfl) (show sameA (.agg [AVal.int .i64 p, .int .i64 o, .int .i64 lo, .int .i64 hi]) (.agg [.int .i64 p, .int .i64 o, .int .i64 lo, .int .i64 hi]) = true by simp [sameA, sameAs, eqI_eq]) recheck_nil), ?_⟩
  refine GoE.copy1 (L := F.looks.map LookV.cells) rfl rfl Try.underlying25 Try.underlying25 sz59 by59 zt59 rfl rfl rfl rfl c4 look_four rfl rfl (by rw [List.length_map]; omega) x4.1 (dropF_drop (show bit? 63 5 = true from rfl) (dropF_drop (show bit? 63 4 = true from rfl) rfl)) rfl rfl fun b5 h5 n5 m5 o5 g5 => ?_
  refine ⟨recheck_nil, ?_⟩
  have a4 := x4.1
  have low : ∀ b, b < h3.next → h5.get b = h3.get b := fun b hb => by rw [o5 b hb, x4.2 b hb]
  have keep : ∀ {b o}, Has h3 b o → Has h5 b o := fun k => ⟨by have := k.1; omega, by rw [low _ k.1]; exact k.2⟩
  refine GoE.quiet rfl rfl (fa27_4 rfl) rfl ?_
  refine GoE.store rfl rfl rfl rfl (dropF_drop (show bit? 255 7 = true from rfl) rfl) rfl rfl (keep f1) rfl sz25 rfl rfl rfl fun h6 u6 => ?_
  refine ⟨recheck_nil, ?_⟩
  have n6 : h6.next = h5.next := u6.1
  refine GoE.end rfl (Go.seq noJ_ok (Go.region noJ_ok rfl ?_))
  refine GoR.op rfl rfl (ld27 rfl (u6.has (keep f1)) rfl) rfl ?_
  have hsc : scalars [hsl, rsl, .int .i64 F.a, .int .i64 F.b, .int .i64 F.c, .int .i64 F.lim, .gsl b5 0 0 ((F.looks.map LookV.cells).length + 1)] = true := by
    unfold scalars
    rw [scal_one hs1]
    simp only [scalars, scal_one hs2, cond_true]
    rfl
  refine GoR.store rfl rfl rfl rfl rfl rfl ((keep f3).upd u6 (by omega)) rfl sz27 rfl hsc rfl fun h7 u7 => ?_
  have n7 : h7.next = h6.next := u7.1
  refine GoR.end (Go.ret noJ_ok (ret_end (aResult_of Try.func28 rfl (aResults_cell rfl (u7.has ((keep f3).upd u6 (by omega))) (inCells_agg ag27 sz27 rfl))) ?_))
  have x07 : Ext h h7 := ⟨by have := x03.1; omega, fun b hb => by rw [u7.2.2 b (by omega), u6.2.2 b (by omega), low b (by omega), x03.2 b hb]⟩
  have g7 := (g5.upd u6 (by have := f1.1; omega)).upd u7 (by omega)
  refine ⟨.gsl b5 0 0 ((F.looks.map LookV.cells).length + 1), rfl, x07, ?_⟩
  have hll : ∀ l, l ∈ F.looks.map LookV.cells ++ [[AVal.int .i64 p, .int .i64 o, .int .i64 lo, .int .i64 hi]] → l.length = 4 := fun l hl => by
    rcases List.mem_append.1 hl with q | q
    · exact look_four l q
    · rw [List.mem_singleton.1 q]; rfl
  have hmap : (F.looks ++ [(⟨p, o, lo, hi⟩ : LookV)]).map LookV.cells = F.looks.map LookV.cells ++ [[AVal.int .i64 p, .int .i64 o, .int .i64 lo, .int .i64 hi]] := by rw [List.map_append]; rfl
  show SliceOf h7 4 _ ((F.looks ++ [(⟨p, o, lo, hi⟩ : LookV)]).map LookV.cells)
  rw [hmap]
  exact SliceOf.mk' rfl rfl g7 (by simp) (fun i l hl => by rw [Nat.zero_add]; exact slice_flatten hll i l hl)
end Go.Proofs.Ytmdheijpnlonoaa
