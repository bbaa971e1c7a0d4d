import Derived.Test.YtmdheijpnlonoaaMAK
import Derived.Test.YtmdheijpnlonoaaMAJ
namespace Go.Proofs.Ytmdheijpnlonoaa
open Go Go.AbsE
set_option linter.unusedSimpArgs false
set_option maxRecDepth 100000
set_option maxHeartbeats 0
set_option linter.unusedVariables false

theorem flat_at {α : Type} {f : Nat → List α} {c : Nat} (hc : ∀ k, (f k).length = c) : ∀ (W : Nat), ((List.range W).flatMap f).length = W * c ∧ ∀ {k n : Nat} {v : α}, k < W → (f k)[n]? = some v → ((List.range W).flatMap f)[k * c + n]? = some v
  | 0 => ⟨by simp, fun h => by omega⟩
  | W + 1 => by
    obtain ⟨h1, h2⟩ := flat_at hc W
    rw [List.range_succ, List.flatMap_append]
    refine ⟨by rw [List.length_append, h1]; simp [hc, Nat.succ_mul], fun {k n v} hk hv => ?_⟩
    have hn : n < c := by
      have := (List.getElem?_eq_some_iff.1 hv).1
      rw [hc] at this
      exact this
    by_cases hkW : k < W
    · have hlt : k * c + n < W * c := by
        have := Nat.mul_le_mul_right c (show k + 1 ≤ W by omega)
        rw [Nat.succ_mul] at this
        omega
      rw [List.getElem?_append_left (by omega)]
      exact h2 hkW hv
    · have : k = W := by omega
      subst this
      rw [List.getElem?_append_right (by omega), h1, Nat.add_sub_cancel_left]
      simpa using hv

/-- All that it can have rained. -/
def falls : List (Int × Int) → List (List Int)
  | [] => [[]]
  | r :: rs => (List.range (r.2 - r.1 + 1).toNat).flatMap fun k : Nat => (falls rs).map fun l => (r.1 + k) :: l
def padF (l : List Int) : List Int := l ++ List.replicate (6 - l.length) 0
def fallI (pre : List Int) (rs : List (Int × Int)) : List (List AVal) := (falls rs).map fun l => i64s (padF (pre ++ l))
theorem fallI_cons (pre : List Int) (r : Int × Int) (rs : List (Int × Int)) : fallI pre (r :: rs) = (List.range (r.2 - r.1 + 1).toNat).flatMap fun k : Nat => fallI (pre ++ [r.1 + k]) rs := by
  unfold fallI
  rw [falls, List.map_flatMap]
  congr 1
  funext k
  rw [List.map_map]
  apply List.map_congr_left
  intro l _
  simp
theorem fallI_len (pre pre' : List Int) (rs : List (Int × Int)) : (fallI pre rs).length = (fallI pre' rs).length := by simp [fallI]
theorem falls_len : ∀ {rs : List (Int × Int)} {l : List Int}, l ∈ falls rs → l.length = rs.length
  | [], l, h => by simp [falls] at h; simp [h]
  | r :: rs, l, h => by
    simp only [falls, List.mem_flatMap, List.mem_map] at h
    obtain ⟨k, _, l', hl, rfl⟩ := h
    simp [falls_len hl]
theorem padF_len {l : List Int} (h : l.length ≤ 6) : (padF l).length = 6 := by unfold padF; rw [List.length_append, List.length_replicate]; omega

theorem padF_zero {pre : List Int} (h : pre.length < 6) : padF pre = padF (pre ++ [0]) := by
  unfold padF
  rw [List.length_append, List.length_singleton, show 6 - pre.length = (6 - (pre.length + 1)) + 1 by omega, List.replicate_succ]
  simp
theorem padF_set {pre : List Int} (h : pre.length < 6) (x v : Int) : splice (i64s (padF (pre ++ [x]))) (0 + pre.length * 1) (AVal.int .i64 v).cells = some (i64s (padF (pre ++ [v]))) := by
  rw [Nat.zero_add, Nat.mul_one]
  show splice _ _ [_] = _
  rw [splice_at (by unfold i64s; rw [List.length_map, padF_len (by simp; omega)]; exact h)]
  unfold i64s padF
  rw [← List.map_set, List.append_assoc, List.append_assoc, List.set_append_right _ _ (Nat.le_refl _), Nat.sub_self]
  simp
theorem fallI_one (pre : List Int) : (fallI pre []).length = 1 := by simp [fallI, falls]

def fieldC (hsl rsl lsl : AVal) (a b c lim : Int) : List AVal := [hsl, rsl, .int .i64 a, .int .i64 b, .int .i64 c, .int .i64 lim, lsl]
structure FallA (bf bk bu : Nat) (hsl rsl lsl : AVal) (a b c lim : Int) (y : AVal) (rs : List (Int × Int)) (h : AH) : Prop where
  f : Has h bf (.cells .plain (fieldC hsl rsl lsl a b c lim) 74)
  y : Has h bk (.cells .plain [y] 131)
  u : Has h bu (.cells .plain [.func (.func 93) [] [.ptr bf 0, .ptr bk 0, .ptr bu 0]] 132)
  s : SliceOf h 2 rsl (rs.map spC)
def Rains (rs : List (Int × Int)) : Prop := rs.length ≤ 6 ∧ ∀ r, r ∈ rs → 0 ≤ r.1 ∧ r.1 ≤ r.2 ∧ r.2 ≤ 10

theorem fall_ok (bf bk bu : Nat) (hsl rsl lsl : AVal) (a b c lim : Int) (y : AVal) (rs0 : List (Int × Int)) (hR : Rains rs0) (base : Nat) (S : Nat → Prop) : ∀ (rs : List (Int × Int)) (pre : List Int) (J E : Nat → AH → Prop) (h : AH),
    rs0.drop pre.length = rs → pre.length ≤ rs0.length → (∀ h', ExtF S h h' → FallA bf bk bu hsl rsl lsl a b c lim y rs0 h') → base ≤ h.next → Tk Try.prog base S y (fallI pre rs) J E → J 0 h →
    Runs Try.prog 93 [.int .i64 pre.length, .agg (i64s (padF pre)), .ptr bf 0, .ptr bk 0, .ptr bu 0] h (fun en h' => ExtF S h h' ∧ ((en = .ret (.bool true) ∧ J (fallI pre rs).length h') ∨ (en = .ret (.bool false) ∧ ∃ k, k < (fallI pre rs).length ∧ E k h')))
  | [], pre, J, E, h, hd, hle, hA, hb, T, j0 => by
    have hpl : pre.length = rs0.length := by
      have := congrArg List.length hd
      simp at this
      omega
    have h6 := hR.1
    obtain ⟨f0, f1, f2, hs⟩ := hA h (ExtF.of (Ext.refl _))
    have hlen := hs.len
    rw [List.length_map] at hlen
    have e0 : Ext h h := Ext.refl _
    have hp6 : (padF pre).length = 6 := padF_len (by omega)
    obtain ⟨w1, w2, w3, w4, w5, w6, hw⟩ := six hp6
    rw [hw]
    unfold fieldC at f0
    have hit : (fallI pre [])[0]? = some (i64s [w1, w2, w3, w4, w5, w6]) := by
      simp [fallI, falls, hw]
    refine Runs.intro aFunc93 rfl rfl rfl rfl fun rest => ?_
    refine Go.seq noJ_ok ?_
    refine Go.region noJ_ok rfl ?_
    refine GoR.box rfl rfl rfl rfl rfl rfl fun h7 x7 f7 => ?_
    have := e0.1
    have := f0.1
    have := f1.1
    have := f2.1
    replace f0 := f0.ext x7
    replace f1 := f1.ext x7
    replace f2 := f2.ext x7
    replace e0 := e0.trans x7
    have := f7.1
    refine GoR.op rfl rfl rfl rfl ?_
    refine GoR.end ?_
    iterate 2 refine Go.seq noJ_ok ?_
    refine Go.region noJ_ok rfl ?_
    refine GoR.op rfl rfl rfl rfl ?_
    refine GoR.op rfl rfl (fa74_1 rfl) rfl ?_
    refine GoR.op rfl rfl (ld23 rfl f0 rfl) rfl ?_
    refine GoR.op rfl rfl (aOp_lenSlice Try.underlying23 rfl hlen) rfl ?_
    refine GoR.op rfl rfl (aOp_eql rfl rfl (r := true) (decide_eq_true (by omega))) rfl ?_
    refine GoR.end ?_
    refine Go.cond noJ_ok (b := true) rfl ?_
    refine Go.seq noJ_ok ?_
    refine Go.region noJ_ok rfl ?_
    refine GoR.op rfl rfl (ld131 rfl f1 rfl) rfl ?_
    refine GoR.op rfl rfl (ld102 rfl f7 rfl) rfl ?_
    obtain ⟨ax, a1, a2, a3⟩ := T.take hit (T.ext j0 e0)
    refine GoR.does rfl rfl (aOp_callY rfl rfl a1) a2 a3 ?_ (by rintro _ _ ⟨_, ⟨q, _⟩ | ⟨q, _⟩⟩ <;> cases q)
    rintro v h8 ⟨x8, ⟨q, j8⟩ | ⟨q, e8⟩⟩
    · cases q
      refine ⟨_, rfl, ?_⟩
      refine GoR.op rfl rfl rfl rfl ?_
      refine GoR.end ?_
      exact Go.ret noJ_ok (ret_end (aResult_of Try.func93 rfl rfl) ⟨(ExtF.of e0).trans (fun _ q => .inl q) x8, .inl ⟨rfl, by rw [fallI_one]; exact j8⟩⟩)
    · cases q
      refine ⟨_, rfl, ?_⟩
      refine GoR.op rfl rfl rfl rfl ?_
      refine GoR.end ?_
      exact Go.ret noJ_ok (ret_end (aResult_of Try.func93 rfl rfl) ⟨(ExtF.of e0).trans (fun _ q => .inl q) x8, .inr ⟨rfl, 0, by rw [fallI_one]; omega, e8⟩⟩)
  | r :: rs, pre, J, E, h, hd, hle, hA, hb, T, j0 => by
    have hget : rs0[pre.length]? = some r := by
      have := congrArg (fun l => l[0]?) hd
      simpa [List.getElem?_drop] using this
    have hlt := (List.getElem?_eq_some_iff.1 hget).1
    have h6 := hR.1
    have hrr := hR.2 r (List.mem_of_getElem? hget)
    have hdrop : rs0.drop (pre.length + 1) = rs := by
      have := congrArg (List.drop 1) hd
      simpa [List.drop_drop] using this
    obtain ⟨f0, f1, f2, hs⟩ := hA h (ExtF.of (Ext.refl _))
    have hlen := hs.len
    rw [List.length_map] at hlen
    have e0 : Ext h h := Ext.refl _
    have hSl : ∀ b, S b → b < h.next := fun b q => T.lt j0 q
    have hi6 : pre.length < 6 := by omega
    obtain ⟨W, hW⟩ : ∃ W, (r.2 - r.1 + 1).toNat = W := ⟨_, rfl⟩
    obtain ⟨c0, hc0⟩ : ∃ c0, (falls rs).length = c0 := ⟨_, rfl⟩
    have hc : ∀ k : Nat, (fallI (pre ++ [r.1 + k]) rs).length = c0 := fun k => by unfold fallI; rw [List.length_map]; exact hc0
    have hfl := flat_at hc W
    have hit : fallI pre (r :: rs) = (List.range W).flatMap fun k : Nat => fallI (pre ++ [r.1 + k]) rs := by rw [fallI_cons, hW]
    rw [hit] at T ⊢
    rw [hfl.1]
    unfold fieldC at f0
    have hbf := f0.1
    have hbk := f1.1
    have hbu := f2.1
    obtain ⟨bq, off, q1, q2⟩ := hs.at (i := pre.length) (l := spC r) (by rw [List.getElem?_map, hget]; rfl)
    rw [List.length_map] at q1
    rw [padF_zero hi6]
    refine Runs.intro aFunc93 rfl rfl rfl rfl fun rest => ?_
    refine Go.seq noJ_ok ?_
    refine Go.region noJ_ok rfl ?_
    refine GoR.box rfl rfl rfl rfl rfl rfl fun h7 x7 f7 => ?_
    have := e0.1
    have := f0.1
    have := f1.1
    have := f2.1
    replace f0 := f0.ext x7
    replace f1 := f1.ext x7
    replace f2 := f2.ext x7
    replace e0 := e0.trans x7
    have := f7.1
    refine GoR.op rfl rfl rfl rfl ?_
    refine GoR.end ?_
    iterate 2 refine Go.seq noJ_ok ?_
    refine Go.region noJ_ok rfl ?_
    refine GoR.op rfl rfl rfl rfl ?_
    refine GoR.op rfl rfl (fa74_1 rfl) rfl ?_
    refine GoR.op rfl rfl (ld23 rfl f0 rfl) rfl ?_
    refine GoR.op rfl rfl (aOp_lenSlice Try.underlying23 rfl hlen) rfl ?_
    refine GoR.op rfl rfl (aOp_eql rfl rfl (r := false) (decide_eq_false (by omega))) rfl ?_
    refine GoR.end ?_
    refine Go.cond noJ_ok (b := false) rfl ?_
    refine Go.code noJ_ok ?_
    iterate 2 refine Go.seq noJ_ok ?_
    refine Go.region noJ_ok rfl ?_
    refine GoR.op rfl rfl (fa74_1 rfl) rfl ?_
    refine GoR.op rfl rfl (ld23 rfl f0 rfl) rfl ?_
    refine GoR.op rfl rfl rfl rfl ?_
    refine GoR.op rfl rfl (aOp_indexAddr Try.underlying23 sz30 rfl q1 rfl (Nat.ble_eq_true_of_le hlt)) rfl ?_
    refine GoR.op rfl rfl (fa30_0 rfl) rfl ?_
    refine GoR.op rfl rfl (aOp_loadE1 (k := 0) ag3 rfl (q2.ext e0) rfl) rfl ?_
    refine GoR.op rfl rfl rfl rfl ?_
    refine GoR.end ?_
    refine Go.block noJ_ok ?_
    have hblt : h.next < h7.next := f7.1
    refine Go.loopKeep (fun a : Nat × Int => [(0, .int .i64 pre.length), (2, .ptr bf 0), (3, .ptr bk 0), (4, .ptr bu 0), (6, .ptr h.next 0), (8, .int .i64 (r.1 + (a.1 : Nat)))])
      (fun m a h' => m + a.1 = W ∧ ExtF S h h' ∧ h.next < h'.next ∧ Has h' h.next (.cells .plain (i64s (padF (pre ++ [a.2]))) 102) ∧ J (a.1 * c0) h') (n := W) (0, 0) ⟨rfl, rfl, rfl, rfl, rfl, (by simp; rfl), trivial⟩ ⟨rfl, ExtF.of e0, hblt, f7, (by rw [Nat.zero_mul]; exact T.ext j0 e0)⟩ ?_
    clear e0 f0 f1 f2 f7 q2
    rintro m ⟨k, x⟩ h8 ⟨hm, y1, hb8, f7, j8⟩ again
    dsimp only at hm f7 j8 ⊢
    have x8 := y1
    obtain ⟨f0, f1, f2, hs8⟩ := hA h8 y1
    unfold fieldC at f0
    have e0 : Ext h8 h8 := Ext.refl _
    have y2 : ExtF (fun b => b = h.next) h8 h8 := ExtF.of e0
    have hy1 := y1.1
    obtain ⟨bq', off', q1', q2⟩ := hs8.at (i := pre.length) (l := spC r) (by rw [List.getElem?_map, hget]; rfl)
    rw [List.length_map] at q1'
    have hnS : ¬ S h.next := fun q => Nat.lt_irrefl _ (hSl _ q)
    by_cases hk : k < W
    · have hk2 : r.1 + k ≤ r.2 := by omega
      have hnf := fun (n : Nat) (v : List AVal) (hv : (fallI (pre ++ [r.1 + (k : Int)]) rs)[n]? = some v) => hfl.2 hk hv
      have hset := padF_set hi6 x (r.1 + k)
      have hl6 : (i64s (padF (pre ++ [r.1 + (k : Int)]))).length = 6 := by unfold i64s; rw [List.length_map]; exact padF_len (by simp; omega)
      clear e0
      iterate 2 refine Go.seq noJ_ok ?_
      refine Go.region noJ_ok rfl ?_
      refine GoR.op rfl rfl rfl rfl ?_
      refine GoR.op rfl rfl (fa74_1 rfl) rfl ?_
      refine GoR.op rfl rfl (ld23 rfl f0 rfl) rfl ?_
      refine GoR.op rfl rfl rfl rfl ?_
      refine GoR.op rfl rfl (aOp_indexAddr Try.underlying23 sz30 rfl q1' rfl (Nat.ble_eq_true_of_le hlt)) rfl ?_
      refine GoR.op rfl rfl (fa30_1 rfl) rfl ?_
      refine GoR.op rfl rfl (aOp_loadE1 (k := 1) ag3 rfl q2 rfl) rfl ?_
      refine GoR.op rfl rfl (aOp_leq rfl rfl (r := true) (decide_eq_true (by omega))) rfl ?_
      refine GoR.end ?_
      refine Go.cond noJ_ok (b := true) rfl ?_
      refine Go.code noJ_ok ?_
      refine Go.seq noJ_ok ?_
      refine Go.block noJ_ok ?_
      refine Go.seq noJ_ok ?_
      refine Go.region noJ_ok rfl ?_
      iterate 2 refine GoR.op rfl rfl rfl rfl ?_
      refine GoR.op rfl rfl (aOp_indexAddrArr Try.underlying102 sz3 rfl rfl (Nat.ble_eq_true_of_le hi6)) rfl ?_
      refine GoR.store rfl rfl rfl rfl rfl rfl f7 rfl sz3 rfl rfl hset fun h9 u9 => ?_
      replace f7 := u9.has f7
      replace f0 := f0.upd u9 (by omega)
      replace f1 := f1.upd u9 (by omega)
      replace f2 := f2.upd u9 (by omega)
      replace y1 := y1.upd u9 (by first | exact .inl rfl | exact .inl (.inl rfl) | exact .inl (.inr rfl) | exact .inl (by assumption) | exact .inr (by omega))
      replace y2 := y2.upd u9 (by first | exact .inl rfl | exact .inl (.inl rfl) | exact .inl (.inr rfl) | exact .inl (by assumption) | exact .inr (by omega))
      refine GoR.end ?_
      refine Go.seq noJ_ok ?_
      refine Go.region noJ_ok rfl ?_
      refine GoR.op rfl rfl (ld132 rfl f2 rfl) rfl ?_
      refine GoR.op rfl rfl rfl rfl ?_
      refine GoR.op rfl rfl (aOp_add rfl rfl (by constructor <;> omega) rfl) rfl ?_
      refine GoR.op rfl rfl (ld102 rfl f7 (slice_all hl6)) rfl ?_
      have hy2 := y2.1
      have hshift := T.shift (sub := fallI (pre ++ [r.1 + (k : Int)]) rs) (k * c0) hnf
      have ih := fall_ok bf bk bu hsl rsl lsl a b c lim y rs0 hR base S rs (pre ++ [r.1 + (k : Int)]) (fun n => J (k * c0 + n)) (fun n => E (k * c0 + n)) h9 (by rw [List.length_append, List.length_singleton]; exact hdrop) (by simp; omega)
        (fun h' x => hA h' (y1.trans (fun _ q => .inl q) x)) (by omega) hshift (T.keepJ j8 hy2 fun b hb' hq => y2.2 b hb' (fun q => by subst q; rcases hq with q | q; omega; exact hnS q))
      rw [show (((pre ++ [r.1 + (k : Int)]).length : Nat) : Int) = (pre.length : Int) + 1 from by simp, hc k] at ih
      refine GoR.call rfl rfl (aOp_callVal rfl aFunc93 rfl) ih ?_ (by rintro _ _ ⟨_, ⟨q, _⟩ | ⟨q, _⟩⟩ <;> cases q)
      rintro v h11 ⟨x11, ⟨q, j11⟩ | ⟨q, n, hn, e11⟩⟩
      · cases q
        refine ⟨_, rfl, ?_⟩
        clear y2
        have hx11 := x11.1
        replace f7 := f7.extF x11 hnS
        clear f0 f1 f2
        refine GoR.op rfl rfl rfl rfl ?_
        refine GoR.end ?_
        refine Go.cond noJ_ok (b := false) rfl ?_
        refine Go.code noJ_ok ?_
        refine Go.inBlock noJ_ok ?_
        refine Go.region noJ_ok rfl ?_
        refine GoR.op rfl rfl rfl rfl ?_
        refine GoR.op rfl rfl (aOp_add rfl rfl (by constructor <;> omega) rfl) rfl ?_
        refine GoR.op rfl rfl rfl rfl ?_
        refine GoR.end ?_
        exact again (m - 1) (k + 1, r.1 + (k : Int)) _ _ (by omega) ⟨rfl, rfl, rfl, rfl, rfl, (by simp [Int.add_assoc]; rfl), trivial⟩ ⟨by dsimp only; omega, y1.trans (fun _ q => .inl q) x11, by omega, f7, by dsimp only; rw [Nat.succ_mul]; exact j11⟩
      · cases q
        refine ⟨_, rfl, ?_⟩
        have hlt2 : k * c0 + n < W * c0 := by
          have := Nat.mul_le_mul_right c0 (show k + 1 ≤ W by omega)
          rw [Nat.succ_mul] at this
          omega
        refine GoR.op rfl rfl rfl rfl ?_
        refine GoR.end ?_
        refine Go.cond noJ_ok (b := true) rfl ?_
        refine Go.seq noJ_ok ?_
        refine Go.region noJ_ok rfl ?_
        refine GoR.op rfl rfl rfl rfl ?_
        refine GoR.end ?_
        exact Go.ret noJ_ok (ret_end (aResult_of Try.func93 rfl rfl) ⟨y1.trans (fun _ q => .inl q) x11, .inr ⟨rfl, _, hlt2, e11⟩⟩)
    · have hk2 : ¬ (r.1 + k ≤ r.2) := by omega
      have hkW : k = W := by omega
      subst hkW
      iterate 2 refine Go.seq noJ_ok ?_
      refine Go.region noJ_ok rfl ?_
      refine GoR.op rfl rfl rfl rfl ?_
      refine GoR.op rfl rfl (fa74_1 rfl) rfl ?_
      refine GoR.op rfl rfl (ld23 rfl f0 rfl) rfl ?_
      refine GoR.op rfl rfl rfl rfl ?_
      refine GoR.op rfl rfl (aOp_indexAddr Try.underlying23 sz30 rfl q1' rfl (Nat.ble_eq_true_of_le hlt)) rfl ?_
      refine GoR.op rfl rfl (fa30_1 rfl) rfl ?_
      refine GoR.op rfl rfl (aOp_loadE1 (k := 1) ag3 rfl q2 rfl) rfl ?_
      refine GoR.op rfl rfl (aOp_leq rfl rfl (r := false) (decide_eq_false (by omega))) rfl ?_
      refine GoR.end ?_
      refine Go.cond noJ_ok (b := false) rfl ?_
      refine Go.code noJ_ok ?_
      refine Go.seq noJ_ok ?_
      refine Go.region noJ_ok rfl ?_
      refine GoR.op rfl rfl rfl rfl ?_
      refine GoR.end ?_
      exact Go.ret noJ_ok (ret_end (aResult_of Try.func93 rfl rfl) ⟨x8, .inl ⟨rfl, j8⟩⟩)

/-- What the rains are made of. -/
structure RainsA (bf : Nat) (hsl rsl lsl : AVal) (a b c lim : Int) (rs : List (Int × Int)) (h : AH) : Prop where
  f : Has h bf (.cells .plain (fieldC hsl rsl lsl a b c lim) 74)
  s : SliceOf h 2 rsl (rs.map spC)

theorem rains1_it (bf : Nat) (hsl rsl lsl : AVal) (a b c lim : Int) (rs : List (Int × Int)) (hR : Rains rs) : Iter Try.prog 92 [] [.ptr bf 0] (fallI [] rs) (RainsA bf hsl rsl lsl a b c lim rs) := by
  intro y base S J E h hyc hys hA hb T j0
  show Runs Try.prog 92 [y, .ptr bf 0] h _
  have e0 : Ext h h := Ext.refl _
  have hSl : ∀ b, S b → b < h.next := fun b q => T.lt j0 q
  obtain ⟨f0, hs⟩ := hA h (ExtF.of e0)
  have hbf := f0.1
  refine Runs.intro aFunc92 rfl rfl rfl rfl fun rest => ?_
  refine Go.seq noJ_ok ?_
  refine Go.region noJ_ok rfl ?_
  refine GoR.box rfl rfl rfl rfl rfl rfl fun h1 x1 f1 => ?_
  have := e0.1
  have := f0.1
  replace f0 := f0.ext x1
  replace e0 := e0.trans x1
  have := f1.1
  refine GoR.end ?_
  refine Go.seq noJ_ok ?_
  refine Go.region noJ_ok rfl ?_
  refine GoR.alloc rfl rfl rfl zt132 rfl rfl fun h2 x2 f2 => ?_
  have := e0.1
  have := f1.1
  have := f0.1
  replace f1 := f1.ext x2
  replace f0 := f0.ext x2
  replace e0 := e0.trans x2
  have := f2.1
  refine GoR.end ?_
  refine Go.seq noJ_ok ?_
  refine Go.region noJ_ok rfl ?_
  refine GoR.op rfl rfl rfl rfl ?_
  refine GoR.store rfl rfl rfl rfl rfl rfl f2 rfl sz132 rfl rfl rfl fun h3 u3 => ?_
  replace f2 := u3.has f2
  replace f1 := f1.upd u3 (by omega)
  replace f0 := f0.upd u3 (by omega)
  replace e0 := e0.upd u3 (by omega)
  refine GoR.end ?_
  refine Go.region noJ_ok rfl ?_
  refine GoR.op rfl rfl (ld132 rfl f2 rfl) rfl ?_
  refine GoR.op rfl rfl rfl rfl ?_
  rw [hyc] at f1
  have hx1 := x1.1
  have hh3 := e0.1
  have hA3 : ∀ h', ExtF S h3 h' → RainsA bf hsl rsl lsl a b c lim rs h' := fun h' x => hA h' ((ExtF.of e0).trans (fun _ q => .inl q) x)
  have ih := fall_ok bf h.next h1.next hsl rsl lsl a b c lim y rs hR base S rs [] J E h3 rfl (Nat.zero_le _) (fun h' x => ⟨(hA3 h' x).f, f1.extF x (fun q => Nat.lt_irrefl _ (hSl _ q)), f2.extF x (fun q => by have := hSl _ q; omega), (hA3 h' x).s⟩) (by omega) T (T.ext j0 e0)
  refine GoR.call rfl rfl (aOp_callVal rfl aFunc93 rfl) ih ?_ (by rintro _ _ ⟨_, ⟨q, _⟩ | ⟨q, _⟩⟩ <;> cases q)
  rintro v h4 ⟨x4, ⟨q, j4⟩ | ⟨q, n, hn, e4⟩⟩
  · cases q
    refine ⟨_, rfl, ?_⟩
    refine GoR.end ?_
    exact Go.endL (FLeft.ret (v := .tuple []) (aResult_of Try.func92 rfl rfl) ⟨rfl, (ExtF.of e0).trans (fun _ q => .inl q) x4, .inl j4⟩)
  · cases q
    refine ⟨_, rfl, ?_⟩
    refine GoR.end ?_
    exact Go.endL (FLeft.ret (v := .tuple []) (aResult_of Try.func92 rfl rfl) ⟨rfl, (ExtF.of e0).trans (fun _ q => .inl q) x4, .inr ⟨n, hn, e4⟩⟩)

theorem rains_ok (hsl rsl lsl : AVal) (a b c lim : Int) (h : AH) :
    Runs Try.prog 68 [.agg (fieldC hsl rsl lsl a b c lim)] h (fun en h' => ∃ bf, en = .ret (.func (.func 92) [] [.ptr bf 0]) ∧ Ext h h' ∧ h.next ≤ bf ∧ Has h' bf (.cells .plain (fieldC hsl rsl lsl a b c lim) 74)) := by
  refine Runs.intro aFunc68 rfl rfl rfl rfl fun rest => ?_
  refine Go.seq noJ_ok ?_
  refine Go.region noJ_ok rfl ?_
  refine GoR.box rfl rfl rfl rfl rfl rfl fun h0 x0 f0 => ?_
  have e0 := x0
  have := f0.1
  refine GoR.op rfl rfl rfl rfl ?_
  refine GoR.end ?_
  refine Go.seq noJ_ok ?_
  refine Go.region noJ_ok rfl ?_
  iterate 2 refine GoR.op rfl rfl rfl rfl ?_
  refine GoR.end ?_
  exact Go.ret noJ_ok (ret_end (aResult_of Try.func68 rfl rfl) ⟨_, rfl, e0, Nat.le_refl _, f0⟩)
end Go.Proofs.Ytmdheijpnlonoaa

namespace Go.Proofs.Ytmdheijpnlonoaa
open Go Go.AbsE
set_option linter.unusedSimpArgs false
set_option maxRecDepth 100000
set_option maxHeartbeats 0
set_option linter.unusedVariables false

theorem idx96_ok {X : Type} (cf : X → List AVal) {fid : FuncId} {caps : List AVal} {fn : Func} (hfid : aFunc Try.prog fid = some fn) (s : AVal) (L : List X) (p : X → Bool) (h : AH) (hs : SliceOf h 4 s (L.map cf)) (hn : L.length ≤ 100)
    (hc : ∀ x h', x ∈ L → Ext h h' → Runs Try.prog fid ([.agg (cf x)] ++ caps) h' (fun en h'' => en = .ret (.bool (p x)) ∧ Ext h' h'')) :
    Runs Try.prog 96 [s, .func (.func fid) [] caps] h (fun en h' => ∃ r : Int, en = .ret (.int .i64 r) ∧ decide (0 ≤ r) = L.any p ∧ Ext h h') := by
  have hlen := hs.len
  rw [List.length_map] at hlen
  have e0 : Ext h h := Ext.refl _
  refine Runs.intro aFunc96 rfl rfl rfl rfl fun rest => ?_
  refine Go.seq noJ_ok ?_
  refine Go.region noJ_ok rfl ?_
  refine GoR.op rfl rfl rfl rfl ?_
  refine GoR.end ?_
  iterate 2 refine Go.seq noJ_ok ?_
  refine Go.region noJ_ok rfl ?_
  refine GoR.op rfl rfl rfl rfl ?_
  refine GoR.op rfl rfl (aOp_lenSlice Try.underlying96 rfl hlen) rfl ?_
  refine GoR.op rfl rfl rfl rfl ?_
  refine GoR.end ?_
  refine Go.block noJ_ok ?_
  refine Go.loopKeep (fun i : Nat => [(0, s), (1, .func (.func fid) [] caps), (7, .int .i64 L.length), (8, .int .i64 (i : Nat))])
    (fun m i h' => m + i = L.length ∧ Ext h h' ∧ (L.take i).any p = false) (n := L.length) 0 ⟨rfl, rfl, rfl, rfl, trivial⟩ ⟨rfl, e0, (by rw [List.take_zero]; rfl)⟩ ?_
  clear e0
  rintro m i h4 ⟨hm, e0, hp⟩ again
  by_cases hi' : i < L.length
  · obtain ⟨x, hx⟩ : ∃ x, L[i]? = some x := ⟨L[i], by simp [hi']⟩
    have hmem := List.mem_of_getElem? hx
    obtain ⟨bq, off, q1, q2⟩ := (hs.ext e0).at (i := i) (l := cf x) (by rw [List.getElem?_map, hx]; rfl)
    rw [List.length_map] at q1
    have hcx := hc x h4 hmem e0
    have hL : L.any p = true ∨ p x = false := by
      cases q : p x with
      | false => exact .inr rfl
      | true => exact .inl (List.any_eq_true.2 ⟨x, hmem, q⟩)
    cases hpx : p x with
    | true =>
      rw [hpx] at hcx hL
      have hany : decide ((0 : Int) ≤ (i : Nat)) = L.any p := by
        rw [hL.resolve_right (by simp)]
        exact decide_eq_true (by omega)
      refine Go.seq noJ_ok ?_
      refine Go.region noJ_ok rfl ?_
      refine GoR.op rfl rfl (aOp_lss rfl rfl (r := true) (decide_eq_true (by omega))) rfl ?_
      refine GoR.end ?_
      refine Go.seq noJ_ok ?_
      refine Go.cond noJ_ok (b := true) rfl ?_
      refine Go.code noJ_ok ?_
      refine Go.seq noJ_ok ?_
      refine Go.block noJ_ok ?_
      refine Go.seq noJ_ok ?_
      refine Go.region noJ_ok rfl ?_
      iterate 2 refine GoR.op rfl rfl rfl rfl ?_
      refine GoR.end ?_
      refine Go.seq noJ_ok ?_
      refine Go.region noJ_ok rfl ?_
      iterate 3 refine GoR.op rfl rfl rfl rfl ?_
      refine GoR.op rfl rfl (aOp_indexAddr Try.underlying96 sz106 rfl q1 rfl (Nat.ble_eq_true_of_le hi')) rfl ?_
      refine GoR.op rfl rfl (aOp_loadE ag106 sz106 rfl q2) rfl ?_
      refine GoR.call rfl rfl (aOp_callVal rfl hfid rfl) (hcx) ?_ (by rintro _ _ ⟨q, _⟩; cases q)
      rintro _ h5 ⟨q, x5⟩
      cases q
      refine ⟨_, rfl, ?_⟩
      replace e0 := e0.trans x5
      refine GoR.end ?_
      refine Go.cond noJ_ok (b := true) rfl ?_
      refine Go.seq noJ_ok ?_
      refine Go.region noJ_ok rfl ?_
      iterate 2 refine GoR.op rfl rfl rfl rfl ?_
      refine GoR.end ?_
      exact Go.ret noJ_ok (ret_end (aResult_of Try.func96 rfl rfl) ⟨_, rfl, hany, e0⟩)
    | false =>
      rw [hpx] at hcx
      refine Go.seq noJ_ok ?_
      refine Go.region noJ_ok rfl ?_
      refine GoR.op rfl rfl (aOp_lss rfl rfl (r := true) (decide_eq_true (by omega))) rfl ?_
      refine GoR.end ?_
      refine Go.seq noJ_ok ?_
      refine Go.cond noJ_ok (b := true) rfl ?_
      refine Go.code noJ_ok ?_
      refine Go.seq noJ_ok ?_
      refine Go.block noJ_ok ?_
      refine Go.seq noJ_ok ?_
      refine Go.region noJ_ok rfl ?_
      iterate 2 refine GoR.op rfl rfl rfl rfl ?_
      refine GoR.end ?_
      refine Go.seq noJ_ok ?_
      refine Go.region noJ_ok rfl ?_
      iterate 3 refine GoR.op rfl rfl rfl rfl ?_
      refine GoR.op rfl rfl (aOp_indexAddr Try.underlying96 sz106 rfl q1 rfl (Nat.ble_eq_true_of_le hi')) rfl ?_
      refine GoR.op rfl rfl (aOp_loadE ag106 sz106 rfl q2) rfl ?_
      refine GoR.call rfl rfl (aOp_callVal rfl hfid rfl) (hcx) ?_ (by rintro _ _ ⟨q, _⟩; cases q)
      rintro _ h5 ⟨q, x5⟩
      cases q
      refine ⟨_, rfl, ?_⟩
      replace e0 := e0.trans x5
      refine GoR.end ?_
      refine Go.cond noJ_ok (b := false) rfl ?_
      refine Go.code noJ_ok ?_
      refine Go.inBlock noJ_ok ?_
      refine Go.region noJ_ok rfl ?_
      refine GoR.op rfl rfl (aOp_add rfl rfl (by constructor <;> omega) rfl) rfl ?_
      refine GoR.op rfl rfl rfl rfl ?_
      refine GoR.end ?_
      exact again (m - 1) (i + 1) _ _ (by omega) ⟨rfl, rfl, rfl, rfl, trivial⟩ ⟨by omega, e0, by rw [List.take_add_one, hx, Option.toList_some, List.any_append, hp]; simp [hpx]⟩
  · rw [List.take_of_length_le (by omega)] at hp
    have hany : decide ((0 : Int) ≤ -1) = L.any p := by rw [hp]; rfl
    refine Go.seq noJ_ok ?_
    refine Go.region noJ_ok rfl ?_
    refine GoR.op rfl rfl (aOp_lss rfl rfl (r := false) (decide_eq_false (by omega))) rfl ?_
    refine GoR.end ?_
    refine Go.seq noJ_ok ?_
    refine Go.cond noJ_ok (b := false) rfl ?_
    refine Go.code noJ_ok ?_
    refine Go.seq noJ_ok ?_
    refine Go.region noJ_ok rfl ?_
    refine GoR.op rfl rfl rfl rfl ?_
    refine GoR.end ?_
    exact Go.ret noJ_ok (ret_end (aResult_of Try.func96 rfl rfl) ⟨_, rfl, hany, e0⟩)

theorem cont72_ok {X : Type} (cf : X → List AVal) {fid : FuncId} {caps : List AVal} {fn : Func} (hfid : aFunc Try.prog fid = some fn) (s : AVal) (L : List X) (p : X → Bool) (h : AH) (hs : SliceOf h 4 s (L.map cf)) (hn : L.length ≤ 100)
    (hc : ∀ x h', x ∈ L → Ext h h' → Runs Try.prog fid ([.agg (cf x)] ++ caps) h' (fun en h'' => en = .ret (.bool (p x)) ∧ Ext h' h'')) :
    Runs Try.prog 72 [s, .func (.func fid) [] caps] h (fun en h' => en = .ret (.bool (L.any p)) ∧ Ext h h') := by
  refine Runs.intro aFunc72 rfl rfl rfl rfl fun rest => ?_
  refine Go.seq noJ_ok ?_
  refine Go.region noJ_ok rfl ?_
  refine GoR.op rfl rfl rfl rfl ?_
  refine GoR.end ?_
  refine Go.seq noJ_ok ?_
  refine Go.region noJ_ok rfl ?_
  iterate 2 refine GoR.op rfl rfl rfl rfl ?_
  refine GoR.call rfl rfl (aOp_callFunc aFunc96 rfl) (idx96_ok cf hfid s L p _ hs hn hc) ?_ (by rintro _ _ ⟨r, q, hr, _⟩; cases q)
  rintro _ h0 ⟨r, q, hr, x0⟩
  cases q
  refine ⟨_, rfl, ?_⟩
  have e0 := x0
  refine GoR.op rfl rfl (aOp_geq rfl rfl hr) rfl ?_
  refine GoR.op rfl rfl rfl rfl ?_
  refine GoR.end ?_
  exact Go.ret noJ_ok (ret_end (aResult_of Try.func72 rfl rfl) ⟨rfl, e0⟩)

theorem idx97_ok {fid : FuncId} {caps : List AVal} {fn : Func} (hfid : aFunc Try.prog fid = some fn) (s : AVal) (L : List Int) (p : Int → Bool) (h : AH) (hs : SliceOf h 1 s (L.map fun x => [AVal.int .i64 x])) (hn : L.length ≤ 100)
    (hc : ∀ x h', x ∈ L → Ext h h' → Runs Try.prog fid ([.int .i64 x] ++ caps) h' (fun en h'' => en = .ret (.bool (p x)) ∧ Ext h' h'')) :
    Runs Try.prog 97 [s, .func (.func fid) [] caps] h (fun en h' => ∃ r : Int, en = .ret (.int .i64 r) ∧ decide (0 ≤ r) = L.any p ∧ Ext h h') := by
  have hlen := hs.len
  rw [List.length_map] at hlen
  have e0 : Ext h h := Ext.refl _
  refine Runs.intro aFunc97 rfl rfl rfl rfl fun rest => ?_
  refine Go.seq noJ_ok ?_
  refine Go.region noJ_ok rfl ?_
  refine GoR.op rfl rfl rfl rfl ?_
  refine GoR.end ?_
  iterate 2 refine Go.seq noJ_ok ?_
  refine Go.region noJ_ok rfl ?_
  refine GoR.op rfl rfl rfl rfl ?_
  refine GoR.op rfl rfl (aOp_lenSlice Try.underlying50 rfl hlen) rfl ?_
  refine GoR.op rfl rfl rfl rfl ?_
  refine GoR.end ?_
  refine Go.block noJ_ok ?_
  refine Go.loopKeep (fun i : Nat => [(0, s), (1, .func (.func fid) [] caps), (7, .int .i64 L.length), (8, .int .i64 (i : Nat))])
    (fun m i h' => m + i = L.length ∧ Ext h h' ∧ (L.take i).any p = false) (n := L.length) 0 ⟨rfl, rfl, rfl, rfl, trivial⟩ ⟨rfl, e0, (by rw [List.take_zero]; rfl)⟩ ?_
  clear e0
  rintro m i h4 ⟨hm, e0, hp⟩ again
  by_cases hi' : i < L.length
  · obtain ⟨x, hx⟩ : ∃ x, L[i]? = some x := ⟨L[i], by simp [hi']⟩
    have hmem := List.mem_of_getElem? hx
    obtain ⟨bq, off, q1, q2⟩ := (hs.ext e0).at (i := i) (l := [AVal.int .i64 x]) (by rw [List.getElem?_map, hx]; rfl)
    rw [List.length_map] at q1
    have hcx := hc x h4 hmem e0
    have hL : L.any p = true ∨ p x = false := by
      cases q : p x with
      | false => exact .inr rfl
      | true => exact .inl (List.any_eq_true.2 ⟨x, hmem, q⟩)
    cases hpx : p x with
    | true =>
      rw [hpx] at hcx hL
      have hany : decide ((0 : Int) ≤ (i : Nat)) = L.any p := by
        rw [hL.resolve_right (by simp)]
        exact decide_eq_true (by omega)
      refine Go.seq noJ_ok ?_
      refine Go.region noJ_ok rfl ?_
      refine GoR.op rfl rfl (aOp_lss rfl rfl (r := true) (decide_eq_true (by omega))) rfl ?_
      refine GoR.end ?_
      refine Go.seq noJ_ok ?_
      refine Go.cond noJ_ok (b := true) rfl ?_
      refine Go.code noJ_ok ?_
      refine Go.seq noJ_ok ?_
      refine Go.block noJ_ok ?_
      refine Go.seq noJ_ok ?_
      refine Go.region noJ_ok rfl ?_
      iterate 2 refine GoR.op rfl rfl rfl rfl ?_
      refine GoR.end ?_
      refine Go.seq noJ_ok ?_
      refine Go.region noJ_ok rfl ?_
      iterate 3 refine GoR.op rfl rfl rfl rfl ?_
      refine GoR.op rfl rfl (aOp_indexAddr Try.underlying50 sz3 rfl q1 rfl (Nat.ble_eq_true_of_le hi')) rfl ?_
      refine GoR.op rfl rfl (aOp_loadE1 (k := 0) ag3 rfl q2 rfl) rfl ?_
      refine GoR.call rfl rfl (aOp_callVal rfl hfid rfl) (hcx) ?_ (by rintro _ _ ⟨q, _⟩; cases q)
      rintro _ h5 ⟨q, x5⟩
      cases q
      refine ⟨_, rfl, ?_⟩
      replace e0 := e0.trans x5
      refine GoR.end ?_
      refine Go.cond noJ_ok (b := true) rfl ?_
      refine Go.seq noJ_ok ?_
      refine Go.region noJ_ok rfl ?_
      iterate 2 refine GoR.op rfl rfl rfl rfl ?_
      refine GoR.end ?_
      exact Go.ret noJ_ok (ret_end (aResult_of Try.func97 rfl rfl) ⟨_, rfl, hany, e0⟩)
    | false =>
      rw [hpx] at hcx
      refine Go.seq noJ_ok ?_
      refine Go.region noJ_ok rfl ?_
      refine GoR.op rfl rfl (aOp_lss rfl rfl (r := true) (decide_eq_true (by omega))) rfl ?_
      refine GoR.end ?_
      refine Go.seq noJ_ok ?_
      refine Go.cond noJ_ok (b := true) rfl ?_
      refine Go.code noJ_ok ?_
      refine Go.seq noJ_ok ?_
      refine Go.block noJ_ok ?_
      refine Go.seq noJ_ok ?_
      refine Go.region noJ_ok rfl ?_
      iterate 2 refine GoR.op rfl rfl rfl rfl ?_
      refine GoR.end ?_
      refine Go.seq noJ_ok ?_
      refine Go.region noJ_ok rfl ?_
      iterate 3 refine GoR.op rfl rfl rfl rfl ?_
      refine GoR.op rfl rfl (aOp_indexAddr Try.underlying50 sz3 rfl q1 rfl (Nat.ble_eq_true_of_le hi')) rfl ?_
      refine GoR.op rfl rfl (aOp_loadE1 (k := 0) ag3 rfl q2 rfl) rfl ?_
      refine GoR.call rfl rfl (aOp_callVal rfl hfid rfl) (hcx) ?_ (by rintro _ _ ⟨q, _⟩; cases q)
      rintro _ h5 ⟨q, x5⟩
      cases q
      refine ⟨_, rfl, ?_⟩
      replace e0 := e0.trans x5
      refine GoR.end ?_
      refine Go.cond noJ_ok (b := false) rfl ?_
      refine Go.code noJ_ok ?_
      refine Go.inBlock noJ_ok ?_
      refine Go.region noJ_ok rfl ?_
      refine GoR.op rfl rfl (aOp_add rfl rfl (by constructor <;> omega) rfl) rfl ?_
      refine GoR.op rfl rfl rfl rfl ?_
      refine GoR.end ?_
      exact again (m - 1) (i + 1) _ _ (by omega) ⟨rfl, rfl, rfl, rfl, trivial⟩ ⟨by omega, e0, by rw [List.take_add_one, hx, Option.toList_some, List.any_append, hp]; simp [hpx]⟩
  · rw [List.take_of_length_le (by omega)] at hp
    have hany : decide ((0 : Int) ≤ -1) = L.any p := by rw [hp]; rfl
    refine Go.seq noJ_ok ?_
    refine Go.region noJ_ok rfl ?_
    refine GoR.op rfl rfl (aOp_lss rfl rfl (r := false) (decide_eq_false (by omega))) rfl ?_
    refine GoR.end ?_
    refine Go.seq noJ_ok ?_
    refine Go.cond noJ_ok (b := false) rfl ?_
    refine Go.code noJ_ok ?_
    refine Go.seq noJ_ok ?_
    refine Go.region noJ_ok rfl ?_
    refine GoR.op rfl rfl rfl rfl ?_
    refine GoR.end ?_
    exact Go.ret noJ_ok (ret_end (aResult_of Try.func97 rfl rfl) ⟨_, rfl, hany, e0⟩)

theorem cont80_ok {fid : FuncId} {caps : List AVal} {fn : Func} (hfid : aFunc Try.prog fid = some fn) (s : AVal) (L : List Int) (p : Int → Bool) (h : AH) (hs : SliceOf h 1 s (L.map fun x => [AVal.int .i64 x])) (hn : L.length ≤ 100)
    (hc : ∀ x h', x ∈ L → Ext h h' → Runs Try.prog fid ([.int .i64 x] ++ caps) h' (fun en h'' => en = .ret (.bool (p x)) ∧ Ext h' h'')) :
    Runs Try.prog 80 [s, .func (.func fid) [] caps] h (fun en h' => en = .ret (.bool (L.any p)) ∧ Ext h h') := by
  refine Runs.intro aFunc80 rfl rfl rfl rfl fun rest => ?_
  refine Go.seq noJ_ok ?_
  refine Go.region noJ_ok rfl ?_
  refine GoR.op rfl rfl rfl rfl ?_
  refine GoR.end ?_
  refine Go.seq noJ_ok ?_
  refine Go.region noJ_ok rfl ?_
  iterate 2 refine GoR.op rfl rfl rfl rfl ?_
  refine GoR.call rfl rfl (aOp_callFunc aFunc97 rfl) (idx97_ok hfid s L p _ hs hn hc) ?_ (by rintro _ _ ⟨r, q, hr, _⟩; cases q)
  rintro _ h0 ⟨r, q, hr, x0⟩
  cases q
  refine ⟨_, rfl, ?_⟩
  have e0 := x0
  refine GoR.op rfl rfl (aOp_geq rfl rfl hr) rfl ?_
  refine GoR.op rfl rfl rfl rfl ?_
  refine GoR.end ?_
  exact Go.ret noJ_ok (ret_end (aResult_of Try.func80 rfl rfl) ⟨rfl, e0⟩)

theorem idx98_ok {X : Type} (cf : X → List AVal) {fid : FuncId} {caps : List AVal} {fn : Func} (hfid : aFunc Try.prog fid = some fn) (s : AVal) (L : List X) (p : X → Bool) (h : AH) (hs : SliceOf h 2 s (L.map cf)) (hn : L.length ≤ 100)
    (hc : ∀ x h', x ∈ L → Ext h h' → Runs Try.prog fid ([.agg (cf x)] ++ caps) h' (fun en h'' => en = .ret (.bool (p x)) ∧ Ext h' h'')) :
    Runs Try.prog 98 [s, .func (.func fid) [] caps] h (fun en h' => ∃ r : Int, en = .ret (.int .i64 r) ∧ decide (0 ≤ r) = L.any p ∧ Ext h h') := by
  have hlen := hs.len
  rw [List.length_map] at hlen
  have e0 : Ext h h := Ext.refl _
  refine Runs.intro aFunc98 rfl rfl rfl rfl fun rest => ?_
  refine Go.seq noJ_ok ?_
  refine Go.region noJ_ok rfl ?_
  refine GoR.op rfl rfl rfl rfl ?_
  refine GoR.end ?_
  iterate 2 refine Go.seq noJ_ok ?_
  refine Go.region noJ_ok rfl ?_
  refine GoR.op rfl rfl rfl rfl ?_
  refine GoR.op rfl rfl (aOp_lenSlice Try.underlying23 rfl hlen) rfl ?_
  refine GoR.op rfl rfl rfl rfl ?_
  refine GoR.end ?_
  refine Go.block noJ_ok ?_
  refine Go.loopKeep (fun i : Nat => [(0, s), (1, .func (.func fid) [] caps), (7, .int .i64 L.length), (8, .int .i64 (i : Nat))])
    (fun m i h' => m + i = L.length ∧ Ext h h' ∧ (L.take i).any p = false) (n := L.length) 0 ⟨rfl, rfl, rfl, rfl, trivial⟩ ⟨rfl, e0, (by rw [List.take_zero]; rfl)⟩ ?_
  clear e0
  rintro m i h4 ⟨hm, e0, hp⟩ again
  by_cases hi' : i < L.length
  · obtain ⟨x, hx⟩ : ∃ x, L[i]? = some x := ⟨L[i], by simp [hi']⟩
    have hmem := List.mem_of_getElem? hx
    obtain ⟨bq, off, q1, q2⟩ := (hs.ext e0).at (i := i) (l := cf x) (by rw [List.getElem?_map, hx]; rfl)
    rw [List.length_map] at q1
    have hcx := hc x h4 hmem e0
    have hL : L.any p = true ∨ p x = false := by
      cases q : p x with
      | false => exact .inr rfl
      | true => exact .inl (List.any_eq_true.2 ⟨x, hmem, q⟩)
    cases hpx : p x with
    | true =>
      rw [hpx] at hcx hL
      have hany : decide ((0 : Int) ≤ (i : Nat)) = L.any p := by
        rw [hL.resolve_right (by simp)]
        exact decide_eq_true (by omega)
      refine Go.seq noJ_ok ?_
      refine Go.region noJ_ok rfl ?_
      refine GoR.op rfl rfl (aOp_lss rfl rfl (r := true) (decide_eq_true (by omega))) rfl ?_
      refine GoR.end ?_
      refine Go.seq noJ_ok ?_
      refine Go.cond noJ_ok (b := true) rfl ?_
      refine Go.code noJ_ok ?_
      refine Go.seq noJ_ok ?_
      refine Go.block noJ_ok ?_
      refine Go.seq noJ_ok ?_
      refine Go.region noJ_ok rfl ?_
      iterate 2 refine GoR.op rfl rfl rfl rfl ?_
      refine GoR.end ?_
      refine Go.seq noJ_ok ?_
      refine Go.region noJ_ok rfl ?_
      iterate 3 refine GoR.op rfl rfl rfl rfl ?_
      refine GoR.op rfl rfl (aOp_indexAddr Try.underlying23 sz30 rfl q1 rfl (Nat.ble_eq_true_of_le hi')) rfl ?_
      refine GoR.op rfl rfl (aOp_loadE ag30 sz30 rfl q2) rfl ?_
      refine GoR.call rfl rfl (aOp_callVal rfl hfid rfl) (hcx) ?_ (by rintro _ _ ⟨q, _⟩; cases q)
      rintro _ h5 ⟨q, x5⟩
      cases q
      refine ⟨_, rfl, ?_⟩
      replace e0 := e0.trans x5
      refine GoR.end ?_
      refine Go.cond noJ_ok (b := true) rfl ?_
      refine Go.seq noJ_ok ?_
      refine Go.region noJ_ok rfl ?_
      iterate 2 refine GoR.op rfl rfl rfl rfl ?_
      refine GoR.end ?_
      exact Go.ret noJ_ok (ret_end (aResult_of Try.func98 rfl rfl) ⟨_, rfl, hany, e0⟩)
    | false =>
      rw [hpx] at hcx
      refine Go.seq noJ_ok ?_
      refine Go.region noJ_ok rfl ?_
      refine GoR.op rfl rfl (aOp_lss rfl rfl (r := true) (decide_eq_true (by omega))) rfl ?_
      refine GoR.end ?_
      refine Go.seq noJ_ok ?_
      refine Go.cond noJ_ok (b := true) rfl ?_
      refine Go.code noJ_ok ?_
      refine Go.seq noJ_ok ?_
      refine Go.block noJ_ok ?_
      refine Go.seq noJ_ok ?_
      refine Go.region noJ_ok rfl ?_
      iterate 2 refine GoR.op rfl rfl rfl rfl ?_
      refine GoR.end ?_
      refine Go.seq noJ_ok ?_
      refine Go.region noJ_ok rfl ?_
      iterate 3 refine GoR.op rfl rfl rfl rfl ?_
      refine GoR.op rfl rfl (aOp_indexAddr Try.underlying23 sz30 rfl q1 rfl (Nat.ble_eq_true_of_le hi')) rfl ?_
      refine GoR.op rfl rfl (aOp_loadE ag30 sz30 rfl q2) rfl ?_
      refine GoR.call rfl rfl (aOp_callVal rfl hfid rfl) (hcx) ?_ (by rintro _ _ ⟨q, _⟩; cases q)
      rintro _ h5 ⟨q, x5⟩
      cases q
      refine ⟨_, rfl, ?_⟩
      replace e0 := e0.trans x5
      refine GoR.end ?_
      refine Go.cond noJ_ok (b := false) rfl ?_
      refine Go.code noJ_ok ?_
      refine Go.inBlock noJ_ok ?_
      refine Go.region noJ_ok rfl ?_
      refine GoR.op rfl rfl (aOp_add rfl rfl (by constructor <;> omega) rfl) rfl ?_
      refine GoR.op rfl rfl rfl rfl ?_
      refine GoR.end ?_
      exact again (m - 1) (i + 1) _ _ (by omega) ⟨rfl, rfl, rfl, rfl, trivial⟩ ⟨by omega, e0, by rw [List.take_add_one, hx, Option.toList_some, List.any_append, hp]; simp [hpx]⟩
  · rw [List.take_of_length_le (by omega)] at hp
    have hany : decide ((0 : Int) ≤ -1) = L.any p := by rw [hp]; rfl
    refine Go.seq noJ_ok ?_
    refine Go.region noJ_ok rfl ?_
    refine GoR.op rfl rfl (aOp_lss rfl rfl (r := false) (decide_eq_false (by omega))) rfl ?_
    refine GoR.end ?_
    refine Go.seq noJ_ok ?_
    refine Go.cond noJ_ok (b := false) rfl ?_
    refine Go.code noJ_ok ?_
    refine Go.seq noJ_ok ?_
    refine Go.region noJ_ok rfl ?_
    refine GoR.op rfl rfl rfl rfl ?_
    refine GoR.end ?_
    exact Go.ret noJ_ok (ret_end (aResult_of Try.func98 rfl rfl) ⟨_, rfl, hany, e0⟩)

theorem cont88_ok {X : Type} (cf : X → List AVal) {fid : FuncId} {caps : List AVal} {fn : Func} (hfid : aFunc Try.prog fid = some fn) (s : AVal) (L : List X) (p : X → Bool) (h : AH) (hs : SliceOf h 2 s (L.map cf)) (hn : L.length ≤ 100)
    (hc : ∀ x h', x ∈ L → Ext h h' → Runs Try.prog fid ([.agg (cf x)] ++ caps) h' (fun en h'' => en = .ret (.bool (p x)) ∧ Ext h' h'')) :
    Runs Try.prog 88 [s, .func (.func fid) [] caps] h (fun en h' => en = .ret (.bool (L.any p)) ∧ Ext h h') := by
  refine Runs.intro aFunc88 rfl rfl rfl rfl fun rest => ?_
  refine Go.seq noJ_ok ?_
  refine Go.region noJ_ok rfl ?_
  refine GoR.op rfl rfl rfl rfl ?_
  refine GoR.end ?_
  refine Go.seq noJ_ok ?_
  refine Go.region noJ_ok rfl ?_
  iterate 2 refine GoR.op rfl rfl rfl rfl ?_
  refine GoR.call rfl rfl (aOp_callFunc aFunc98 rfl) (idx98_ok cf hfid s L p _ hs hn hc) ?_ (by rintro _ _ ⟨r, q, hr, _⟩; cases q)
  rintro _ h0 ⟨r, q, hr, x0⟩
  cases q
  refine ⟨_, rfl, ?_⟩
  have e0 := x0
  refine GoR.op rfl rfl (aOp_geq rfl rfl hr) rfl ?_
  refine GoR.op rfl rfl rfl rfl ?_
  refine GoR.end ?_
  exact Go.ret noJ_ok (ret_end (aResult_of Try.func88 rfl rfl) ⟨rfl, e0⟩)

theorem idx100_ok {X : Type} (cf : X → List AVal) {fid : FuncId} {caps : List AVal} {fn : Func} (hfid : aFunc Try.prog fid = some fn) (s : AVal) (L : List X) (p : X → Bool) (h : AH) (hs : SliceOf h 4 s (L.map cf)) (hn : L.length ≤ 100)
    (hc : ∀ x h', x ∈ L → Ext h h' → Runs Try.prog fid ([.agg (cf x)] ++ caps) h' (fun en h'' => en = .ret (.bool (p x)) ∧ Ext h' h'')) :
    Runs Try.prog 100 [s, .func (.func fid) [] caps] h (fun en h' => ∃ r : Int, en = .ret (.int .i64 r) ∧ decide (0 ≤ r) = L.any p ∧ Ext h h') := by
  have hlen := hs.len
  rw [List.length_map] at hlen
  have e0 : Ext h h := Ext.refl _
  refine Runs.intro aFunc100 rfl rfl rfl rfl fun rest => ?_
  refine Go.seq noJ_ok ?_
  refine Go.region noJ_ok rfl ?_
  refine GoR.op rfl rfl rfl rfl ?_
  refine GoR.end ?_
  iterate 2 refine Go.seq noJ_ok ?_
  refine Go.region noJ_ok rfl ?_
  refine GoR.op rfl rfl rfl rfl ?_
  refine GoR.op rfl rfl (aOp_lenSlice Try.underlying25 rfl hlen) rfl ?_
  refine GoR.op rfl rfl rfl rfl ?_
  refine GoR.end ?_
  refine Go.block noJ_ok ?_
  refine Go.loopKeep (fun i : Nat => [(0, s), (1, .func (.func fid) [] caps), (7, .int .i64 L.length), (8, .int .i64 (i : Nat))])
    (fun m i h' => m + i = L.length ∧ Ext h h' ∧ (L.take i).any p = false) (n := L.length) 0 ⟨rfl, rfl, rfl, rfl, trivial⟩ ⟨rfl, e0, (by rw [List.take_zero]; rfl)⟩ ?_
  clear e0
  rintro m i h4 ⟨hm, e0, hp⟩ again
  by_cases hi' : i < L.length
  · obtain ⟨x, hx⟩ : ∃ x, L[i]? = some x := ⟨L[i], by simp [hi']⟩
    have hmem := List.mem_of_getElem? hx
    obtain ⟨bq, off, q1, q2⟩ := (hs.ext e0).at (i := i) (l := cf x) (by rw [List.getElem?_map, hx]; rfl)
    rw [List.length_map] at q1
    have hcx := hc x h4 hmem e0
    have hL : L.any p = true ∨ p x = false := by
      cases q : p x with
      | false => exact .inr rfl
      | true => exact .inl (List.any_eq_true.2 ⟨x, hmem, q⟩)
    cases hpx : p x with
    | true =>
      rw [hpx] at hcx hL
      have hany : decide ((0 : Int) ≤ (i : Nat)) = L.any p := by
        rw [hL.resolve_right (by simp)]
        exact decide_eq_true (by omega)
      refine Go.seq noJ_ok ?_
      refine Go.region noJ_ok rfl ?_
      refine GoR.op rfl rfl (aOp_lss rfl rfl (r := true) (decide_eq_true (by omega))) rfl ?_
      refine GoR.end ?_
      refine Go.seq noJ_ok ?_
      refine Go.cond noJ_ok (b := true) rfl ?_
      refine Go.code noJ_ok ?_
      refine Go.seq noJ_ok ?_
      refine Go.block noJ_ok ?_
      refine Go.seq noJ_ok ?_
      refine Go.region noJ_ok rfl ?_
      iterate 2 refine GoR.op rfl rfl rfl rfl ?_
      refine GoR.end ?_
      refine Go.seq noJ_ok ?_
      refine Go.region noJ_ok rfl ?_
      iterate 3 refine GoR.op rfl rfl rfl rfl ?_
      refine GoR.op rfl rfl (aOp_indexAddr Try.underlying25 sz59 rfl q1 rfl (Nat.ble_eq_true_of_le hi')) rfl ?_
      refine GoR.op rfl rfl (aOp_loadE ag59 sz59 rfl q2) rfl ?_
      refine GoR.call rfl rfl (aOp_callVal rfl hfid rfl) (hcx) ?_ (by rintro _ _ ⟨q, _⟩; cases q)
      rintro _ h5 ⟨q, x5⟩
      cases q
      refine ⟨_, rfl, ?_⟩
      replace e0 := e0.trans x5
      refine GoR.end ?_
      refine Go.cond noJ_ok (b := true) rfl ?_
      refine Go.seq noJ_ok ?_
      refine Go.region noJ_ok rfl ?_
      iterate 2 refine GoR.op rfl rfl rfl rfl ?_
      refine GoR.end ?_
      exact Go.ret noJ_ok (ret_end (aResult_of Try.func100 rfl rfl) ⟨_, rfl, hany, e0⟩)
    | false =>
      rw [hpx] at hcx
      refine Go.seq noJ_ok ?_
      refine Go.region noJ_ok rfl ?_
      refine GoR.op rfl rfl (aOp_lss rfl rfl (r := true) (decide_eq_true (by omega))) rfl ?_
      refine GoR.end ?_
      refine Go.seq noJ_ok ?_
      refine Go.cond noJ_ok (b := true) rfl ?_
      refine Go.code noJ_ok ?_
      refine Go.seq noJ_ok ?_
      refine Go.block noJ_ok ?_
      refine Go.seq noJ_ok ?_
      refine Go.region noJ_ok rfl ?_
      iterate 2 refine GoR.op rfl rfl rfl rfl ?_
      refine GoR.end ?_
      refine Go.seq noJ_ok ?_
      refine Go.region noJ_ok rfl ?_
      iterate 3 refine GoR.op rfl rfl rfl rfl ?_
      refine GoR.op rfl rfl (aOp_indexAddr Try.underlying25 sz59 rfl q1 rfl (Nat.ble_eq_true_of_le hi')) rfl ?_
      refine GoR.op rfl rfl (aOp_loadE ag59 sz59 rfl q2) rfl ?_
      refine GoR.call rfl rfl (aOp_callVal rfl hfid rfl) (hcx) ?_ (by rintro _ _ ⟨q, _⟩; cases q)
      rintro _ h5 ⟨q, x5⟩
      cases q
      refine ⟨_, rfl, ?_⟩
      replace e0 := e0.trans x5
      refine GoR.end ?_
      refine Go.cond noJ_ok (b := false) rfl ?_
      refine Go.code noJ_ok ?_
      refine Go.inBlock noJ_ok ?_
      refine Go.region noJ_ok rfl ?_
      refine GoR.op rfl rfl (aOp_add rfl rfl (by constructor <;> omega) rfl) rfl ?_
      refine GoR.op rfl rfl rfl rfl ?_
      refine GoR.end ?_
      exact again (m - 1) (i + 1) _ _ (by omega) ⟨rfl, rfl, rfl, rfl, trivial⟩ ⟨by omega, e0, by rw [List.take_add_one, hx, Option.toList_some, List.any_append, hp]; simp [hpx]⟩
  · rw [List.take_of_length_le (by omega)] at hp
    have hany : decide ((0 : Int) ≤ -1) = L.any p := by rw [hp]; rfl
    refine Go.seq noJ_ok ?_
    refine Go.region noJ_ok rfl ?_
    refine GoR.op rfl rfl (aOp_lss rfl rfl (r := false) (decide_eq_false (by omega))) rfl ?_
    refine GoR.end ?_
    refine Go.seq noJ_ok ?_
    refine Go.cond noJ_ok (b := false) rfl ?_
    refine Go.code noJ_ok ?_
    refine Go.seq noJ_ok ?_
    refine Go.region noJ_ok rfl ?_
    refine GoR.op rfl rfl rfl rfl ?_
    refine GoR.end ?_
    exact Go.ret noJ_ok (ret_end (aResult_of Try.func100 rfl rfl) ⟨_, rfl, hany, e0⟩)

theorem cont91_ok {X : Type} (cf : X → List AVal) {fid : FuncId} {caps : List AVal} {fn : Func} (hfid : aFunc Try.prog fid = some fn) (s : AVal) (L : List X) (p : X → Bool) (h : AH) (hs : SliceOf h 4 s (L.map cf)) (hn : L.length ≤ 100)
    (hc : ∀ x h', x ∈ L → Ext h h' → Runs Try.prog fid ([.agg (cf x)] ++ caps) h' (fun en h'' => en = .ret (.bool (p x)) ∧ Ext h' h'')) :
    Runs Try.prog 91 [s, .func (.func fid) [] caps] h (fun en h' => en = .ret (.bool (L.any p)) ∧ Ext h h') := by
  refine Runs.intro aFunc91 rfl rfl rfl rfl fun rest => ?_
  refine Go.seq noJ_ok ?_
  refine Go.region noJ_ok rfl ?_
  refine GoR.op rfl rfl rfl rfl ?_
  refine GoR.end ?_
  refine Go.seq noJ_ok ?_
  refine Go.region noJ_ok rfl ?_
  iterate 2 refine GoR.op rfl rfl rfl rfl ?_
  refine GoR.call rfl rfl (aOp_callFunc aFunc100 rfl) (idx100_ok cf hfid s L p _ hs hn hc) ?_ (by rintro _ _ ⟨r, q, hr, _⟩; cases q)
  rintro _ h0 ⟨r, q, hr, x0⟩
  cases q
  refine ⟨_, rfl, ?_⟩
  have e0 := x0
  refine GoR.op rfl rfl (aOp_geq rfl rfl hr) rfl ?_
  refine GoR.op rfl rfl rfl rfl ?_
  refine GoR.end ?_
  exact Go.ret noJ_ok (ret_end (aResult_of Try.func91 rfl rfl) ⟨rfl, e0⟩)
end Go.Proofs.Ytmdheijpnlonoaa

set_option linter.unusedSimpArgs false
namespace Go.AbsE
open Go
section
variable {P : Program}
theorem pr_eq_array6 {t e : TypeId} {k q : IntKind} (h : P.underlying t = some (.array 6 e)) (he : P.underlying e = some (.int k)) (hs : sizeT P e = some 1) {d : Nat} {a0 a1 a2 a3 a4 a5 b0 b1 b2 b3 b4 b5 : Int} :
    pureRun P (Op.equalIn (d + 2) t (.agg #[.int q a0, .int q a1, .int q a2, .int q a3, .int q a4, .int q a5]) (.agg #[.int q b0, .int q b1, .int q b2, .int q b3, .int q b4, .int q b5])) = some (a0 == b0 && a1 == b1 && a2 == b2 && a3 == b3 && a4 == b4 && a5 == b5) := by
  unfold Op.equalIn
  rw [pureRun_bind, pr_underlying h]
  simp only [Option.bind_some, pureRun_bind, pr_sizeOf hs, Std.Legacy.Range.forIn_eq_forIn_range', Std.Legacy.Range.size, Nat.sub_zero, Nat.add_one_sub_one, Nat.div_one]
  simp only [show List.range' 0 6 = [0, 1, 2, 3, 4, 5] from rfl, List.forIn_cons, List.forIn_nil, pureRun_bind, pureRun_pure, Option.bind_some, Nat.zero_mul, Nat.one_mul, Nat.mul_one,
    pr_part_one he (v := .int q a0) (cs := #[.int q a0, .int q a1, .int q a2, .int q a3, .int q a4, .int q a5]) (off := 0) rfl, pr_part_one he (v := .int q a1) (cs := #[.int q a0, .int q a1, .int q a2, .int q a3, .int q a4, .int q a5]) (off := 1) rfl, pr_part_one he (v := .int q a2) (cs := #[.int q a0, .int q a1, .int q a2, .int q a3, .int q a4, .int q a5]) (off := 2) rfl, pr_part_one he (v := .int q a3) (cs := #[.int q a0, .int q a1, .int q a2, .int q a3, .int q a4, .int q a5]) (off := 3) rfl, pr_part_one he (v := .int q a4) (cs := #[.int q a0, .int q a1, .int q a2, .int q a3, .int q a4, .int q a5]) (off := 4) rfl, pr_part_one he (v := .int q a5) (cs := #[.int q a0, .int q a1, .int q a2, .int q a3, .int q a4, .int q a5]) (off := 5) rfl, pr_part_one he (v := .int q b0) (cs := #[.int q b0, .int q b1, .int q b2, .int q b3, .int q b4, .int q b5]) (off := 0) rfl, pr_part_one he (v := .int q b1) (cs := #[.int q b0, .int q b1, .int q b2, .int q b3, .int q b4, .int q b5]) (off := 1) rfl, pr_part_one he (v := .int q b2) (cs := #[.int q b0, .int q b1, .int q b2, .int q b3, .int q b4, .int q b5]) (off := 2) rfl, pr_part_one he (v := .int q b3) (cs := #[.int q b0, .int q b1, .int q b2, .int q b3, .int q b4, .int q b5]) (off := 3) rfl, pr_part_one he (v := .int q b4) (cs := #[.int q b0, .int q b1, .int q b2, .int q b3, .int q b4, .int q b5]) (off := 4) rfl, pr_part_one he (v := .int q b5) (cs := #[.int q b0, .int q b1, .int q b2, .int q b3, .int q b4, .int q b5]) (off := 5) rfl, pr_eq_int he]
  cases a0 == b0
  · rfl
  simp only [Bool.not_true, Bool.false_eq_true, if_false, pureRun_bind, pureRun_pure, Option.bind_some, pr_part_one he (v := .int q a0) (cs := #[.int q a0, .int q a1, .int q a2, .int q a3, .int q a4, .int q a5]) (off := 0) rfl, pr_part_one he (v := .int q a1) (cs := #[.int q a0, .int q a1, .int q a2, .int q a3, .int q a4, .int q a5]) (off := 1) rfl, pr_part_one he (v := .int q a2) (cs := #[.int q a0, .int q a1, .int q a2, .int q a3, .int q a4, .int q a5]) (off := 2) rfl, pr_part_one he (v := .int q a3) (cs := #[.int q a0, .int q a1, .int q a2, .int q a3, .int q a4, .int q a5]) (off := 3) rfl, pr_part_one he (v := .int q a4) (cs := #[.int q a0, .int q a1, .int q a2, .int q a3, .int q a4, .int q a5]) (off := 4) rfl, pr_part_one he (v := .int q a5) (cs := #[.int q a0, .int q a1, .int q a2, .int q a3, .int q a4, .int q a5]) (off := 5) rfl, pr_part_one he (v := .int q b0) (cs := #[.int q b0, .int q b1, .int q b2, .int q b3, .int q b4, .int q b5]) (off := 0) rfl, pr_part_one he (v := .int q b1) (cs := #[.int q b0, .int q b1, .int q b2, .int q b3, .int q b4, .int q b5]) (off := 1) rfl, pr_part_one he (v := .int q b2) (cs := #[.int q b0, .int q b1, .int q b2, .int q b3, .int q b4, .int q b5]) (off := 2) rfl, pr_part_one he (v := .int q b3) (cs := #[.int q b0, .int q b1, .int q b2, .int q b3, .int q b4, .int q b5]) (off := 3) rfl, pr_part_one he (v := .int q b4) (cs := #[.int q b0, .int q b1, .int q b2, .int q b3, .int q b4, .int q b5]) (off := 4) rfl, pr_part_one he (v := .int q b5) (cs := #[.int q b0, .int q b1, .int q b2, .int q b3, .int q b4, .int q b5]) (off := 5) rfl, pr_eq_int he]
  cases a1 == b1
  · rfl
  simp only [Bool.not_true, Bool.false_eq_true, if_false, pureRun_bind, pureRun_pure, Option.bind_some, pr_part_one he (v := .int q a0) (cs := #[.int q a0, .int q a1, .int q a2, .int q a3, .int q a4, .int q a5]) (off := 0) rfl, pr_part_one he (v := .int q a1) (cs := #[.int q a0, .int q a1, .int q a2, .int q a3, .int q a4, .int q a5]) (off := 1) rfl, pr_part_one he (v := .int q a2) (cs := #[.int q a0, .int q a1, .int q a2, .int q a3, .int q a4, .int q a5]) (off := 2) rfl, pr_part_one he (v := .int q a3) (cs := #[.int q a0, .int q a1, .int q a2, .int q a3, .int q a4, .int q a5]) (off := 3) rfl, pr_part_one he (v := .int q a4) (cs := #[.int q a0, .int q a1, .int q a2, .int q a3, .int q a4, .int q a5]) (off := 4) rfl, pr_part_one he (v := .int q a5) (cs := #[.int q a0, .int q a1, .int q a2, .int q a3, .int q a4, .int q a5]) (off := 5) rfl, pr_part_one he (v := .int q b0) (cs := #[.int q b0, .int q b1, .int q b2, .int q b3, .int q b4, .int q b5]) (off := 0) rfl, pr_part_one he (v := .int q b1) (cs := #[.int q b0, .int q b1, .int q b2, .int q b3, .int q b4, .int q b5]) (off := 1) rfl, pr_part_one he (v := .int q b2) (cs := #[.int q b0, .int q b1, .int q b2, .int q b3, .int q b4, .int q b5]) (off := 2) rfl, pr_part_one he (v := .int q b3) (cs := #[.int q b0, .int q b1, .int q b2, .int q b3, .int q b4, .int q b5]) (off := 3) rfl, pr_part_one he (v := .int q b4) (cs := #[.int q b0, .int q b1, .int q b2, .int q b3, .int q b4, .int q b5]) (off := 4) rfl, pr_part_one he (v := .int q b5) (cs := #[.int q b0, .int q b1, .int q b2, .int q b3, .int q b4, .int q b5]) (off := 5) rfl, pr_eq_int he]
  cases a2 == b2
  · rfl
  simp only [Bool.not_true, Bool.false_eq_true, if_false, pureRun_bind, pureRun_pure, Option.bind_some, pr_part_one he (v := .int q a0) (cs := #[.int q a0, .int q a1, .int q a2, .int q a3, .int q a4, .int q a5]) (off := 0) rfl, pr_part_one he (v := .int q a1) (cs := #[.int q a0, .int q a1, .int q a2, .int q a3, .int q a4, .int q a5]) (off := 1) rfl, pr_part_one he (v := .int q a2) (cs := #[.int q a0, .int q a1, .int q a2, .int q a3, .int q a4, .int q a5]) (off := 2) rfl, pr_part_one he (v := .int q a3) (cs := #[.int q a0, .int q a1, .int q a2, .int q a3, .int q a4, .int q a5]) (off := 3) rfl, pr_part_one he (v := .int q a4) (cs := #[.int q a0, .int q a1, .int q a2, .int q a3, .int q a4, .int q a5]) (off := 4) rfl, pr_part_one he (v := .int q a5) (cs := #[.int q a0, .int q a1, .int q a2, .int q a3, .int q a4, .int q a5]) (off := 5) rfl, pr_part_one he (v := .int q b0) (cs := #[.int q b0, .int q b1, .int q b2, .int q b3, .int q b4, .int q b5]) (off := 0) rfl, pr_part_one he (v := .int q b1) (cs := #[.int q b0, .int q b1, .int q b2, .int q b3, .int q b4, .int q b5]) (off := 1) rfl, pr_part_one he (v := .int q b2) (cs := #[.int q b0, .int q b1, .int q b2, .int q b3, .int q b4, .int q b5]) (off := 2) rfl, pr_part_one he (v := .int q b3) (cs := #[.int q b0, .int q b1, .int q b2, .int q b3, .int q b4, .int q b5]) (off := 3) rfl, pr_part_one he (v := .int q b4) (cs := #[.int q b0, .int q b1, .int q b2, .int q b3, .int q b4, .int q b5]) (off := 4) rfl, pr_part_one he (v := .int q b5) (cs := #[.int q b0, .int q b1, .int q b2, .int q b3, .int q b4, .int q b5]) (off := 5) rfl, pr_eq_int he]
  cases a3 == b3
  · rfl
  simp only [Bool.not_true, Bool.false_eq_true, if_false, pureRun_bind, pureRun_pure, Option.bind_some, pr_part_one he (v := .int q a0) (cs := #[.int q a0, .int q a1, .int q a2, .int q a3, .int q a4, .int q a5]) (off := 0) rfl, pr_part_one he (v := .int q a1) (cs := #[.int q a0, .int q a1, .int q a2, .int q a3, .int q a4, .int q a5]) (off := 1) rfl, pr_part_one he (v := .int q a2) (cs := #[.int q a0, .int q a1, .int q a2, .int q a3, .int q a4, .int q a5]) (off := 2) rfl, pr_part_one he (v := .int q a3) (cs := #[.int q a0, .int q a1, .int q a2, .int q a3, .int q a4, .int q a5]) (off := 3) rfl, pr_part_one he (v := .int q a4) (cs := #[.int q a0, .int q a1, .int q a2, .int q a3, .int q a4, .int q a5]) (off := 4) rfl, pr_part_one he (v := .int q a5) (cs := #[.int q a0, .int q a1, .int q a2, .int q a3, .int q a4, .int q a5]) (off := 5) rfl, pr_part_one he (v := .int q b0) (cs := #[.int q b0, .int q b1, .int q b2, .int q b3, .int q b4, .int q b5]) (off := 0) rfl, pr_part_one he (v := .int q b1) (cs := #[.int q b0, .int q b1, .int q b2, .int q b3, .int q b4, .int q b5]) (off := 1) rfl, pr_part_one he (v := .int q b2) (cs := #[.int q b0, .int q b1, .int q b2, .int q b3, .int q b4, .int q b5]) (off := 2) rfl, pr_part_one he (v := .int q b3) (cs := #[.int q b0, .int q b1, .int q b2, .int q b3, .int q b4, .int q b5]) (off := 3) rfl, pr_part_one he (v := .int q b4) (cs := #[.int q b0, .int q b1, .int q b2, .int q b3, .int q b4, .int q b5]) (off := 4) rfl, pr_part_one he (v := .int q b5) (cs := #[.int q b0, .int q b1, .int q b2, .int q b3, .int q b4, .int q b5]) (off := 5) rfl, pr_eq_int he]
  cases a4 == b4
  · rfl
  simp only [Bool.not_true, Bool.false_eq_true, if_false, pureRun_bind, pureRun_pure, Option.bind_some, pr_part_one he (v := .int q a0) (cs := #[.int q a0, .int q a1, .int q a2, .int q a3, .int q a4, .int q a5]) (off := 0) rfl, pr_part_one he (v := .int q a1) (cs := #[.int q a0, .int q a1, .int q a2, .int q a3, .int q a4, .int q a5]) (off := 1) rfl, pr_part_one he (v := .int q a2) (cs := #[.int q a0, .int q a1, .int q a2, .int q a3, .int q a4, .int q a5]) (off := 2) rfl, pr_part_one he (v := .int q a3) (cs := #[.int q a0, .int q a1, .int q a2, .int q a3, .int q a4, .int q a5]) (off := 3) rfl, pr_part_one he (v := .int q a4) (cs := #[.int q a0, .int q a1, .int q a2, .int q a3, .int q a4, .int q a5]) (off := 4) rfl, pr_part_one he (v := .int q a5) (cs := #[.int q a0, .int q a1, .int q a2, .int q a3, .int q a4, .int q a5]) (off := 5) rfl, pr_part_one he (v := .int q b0) (cs := #[.int q b0, .int q b1, .int q b2, .int q b3, .int q b4, .int q b5]) (off := 0) rfl, pr_part_one he (v := .int q b1) (cs := #[.int q b0, .int q b1, .int q b2, .int q b3, .int q b4, .int q b5]) (off := 1) rfl, pr_part_one he (v := .int q b2) (cs := #[.int q b0, .int q b1, .int q b2, .int q b3, .int q b4, .int q b5]) (off := 2) rfl, pr_part_one he (v := .int q b3) (cs := #[.int q b0, .int q b1, .int q b2, .int q b3, .int q b4, .int q b5]) (off := 3) rfl, pr_part_one he (v := .int q b4) (cs := #[.int q b0, .int q b1, .int q b2, .int q b3, .int q b4, .int q b5]) (off := 4) rfl, pr_part_one he (v := .int q b5) (cs := #[.int q b0, .int q b1, .int q b2, .int q b3, .int q b4, .int q b5]) (off := 5) rfl, pr_eq_int he]
  cases a5 == b5 <;> rfl

/-- Structs of a number and 6 numbers. -/
structure KeyT6 (P : Program) (kt ft at_ et : TypeId) : Prop where
  fs : ∃ f0 f1 : Field, P.underlying kt = some (.struct #[f0, f1]) ∧ f0.name ≠ "_" ∧ f1.name ≠ "_" ∧ f0.type = ft ∧ f1.type = at_ ∧ f0.offset = 0 ∧ f1.offset = 1
  std : P.stoodInHeld kt = false
  f0 : ∃ k, P.underlying ft = some (.int k)
  f1 : P.underlying at_ = some (.array 6 et)
  s1 : sizeT P at_ = some 6
  e : ∃ k, P.underlying et = some (.int k)
  se : sizeT P et = some 1
theorem pr_eq_key6 {kt ft at_ et : TypeId} (K : KeyT6 P kt ft at_ et) {a a0 a1 a2 a3 a4 a5 b b0 b1 b2 b3 b4 b5 : Int} :
    pureRun P (Op.equal kt (keyV a [a0, a1, a2, a3, a4, a5]) (keyV b [b0, b1, b2, b3, b4, b5])) = some (decide ((a, [a0, a1, a2, a3, a4, a5]) = (b, [b0, b1, b2, b3, b4, b5]))) := by
  obtain ⟨⟨f0, f1, hu, n0, n1, t0, t1, o0, o1⟩, hst, ⟨k0, hf0⟩, hf1, hs1, ⟨k1, he⟩, hse⟩ := K
  subst t0 t1
  show pureRun P (Op.equalIn (9999 + 1) kt (.agg #[.int .i64 a, .int .i64 a0, .int .i64 a1, .int .i64 a2, .int .i64 a3, .int .i64 a4, .int .i64 a5]) (.agg #[.int .i64 b, .int .i64 b0, .int .i64 b1, .int .i64 b2, .int .i64 b3, .int .i64 b4, .int .i64 b5])) = _
  unfold Op.equalIn
  rw [pureRun_bind, pr_underlying hu]
  simp only [Option.bind_some, pureRun_bind, pr_program, hst, Bool.false_eq_true, if_false, ← Array.forIn_toList, List.forIn_cons, List.forIn_nil, n0, n1, ne_eq, not_false_eq_true, if_true, pureRun_pure, o0, o1,
    pr_part_one hf0 (v := .int .i64 a) (cs := #[.int .i64 a, .int .i64 a0, .int .i64 a1, .int .i64 a2, .int .i64 a3, .int .i64 a4, .int .i64 a5]) (off := 0) rfl, pr_part_one hf0 (v := .int .i64 b) (cs := #[.int .i64 b, .int .i64 b0, .int .i64 b1, .int .i64 b2, .int .i64 b3, .int .i64 b4, .int .i64 b5]) (off := 0) rfl, pr_eq_int hf0]
  cases h0 : a == b
  · have : a ≠ b := by simpa using h0
    simp [this]
    rfl
  · have : a = b := by simpa using h0
    subst this
    simp only [Bool.not_true, Bool.false_eq_true, if_false, pureRun_bind, pureRun_pure, Option.bind_some, n1, ne_eq, not_false_eq_true, if_true, o1, pr_part_array hf1 hs1]
    have e1 : (#[Value.int .i64 a, .int .i64 a0, .int .i64 a1, .int .i64 a2, .int .i64 a3, .int .i64 a4, .int .i64 a5] : Array Value).extract 1 (1 + 6) = #[.int .i64 a0, .int .i64 a1, .int .i64 a2, .int .i64 a3, .int .i64 a4, .int .i64 a5] := rfl
    have e2 : (#[Value.int .i64 a, .int .i64 b0, .int .i64 b1, .int .i64 b2, .int .i64 b3, .int .i64 b4, .int .i64 b5] : Array Value).extract 1 (1 + 6) = #[.int .i64 b0, .int .i64 b1, .int .i64 b2, .int .i64 b3, .int .i64 b4, .int .i64 b5] := rfl
    rw [e1, e2, pr_eq_array6 (d := 9997) hf1 he hse]
    have : decide ((a, [a0, a1, a2, a3, a4, a5]) = (a, [b0, b1, b2, b3, b4, b5])) = (a0 == b0 && a1 == b1 && a2 == b2 && a3 == b3 && a4 == b4 && a5 == b5) := by
      simp [Bool.and_assoc]
      rfl
    rw [this]
    cases (a0 == b0 && a1 == b1 && a2 == b2 && a3 == b3 && a4 == b4 && a5 == b5) <;> rfl
theorem pr_check_array6 {t e : TypeId} {k q : IntKind} (h : P.underlying t = some (.array 6 e)) (he : P.underlying e = some (.int k)) (hs : sizeT P e = some 1) {d : Nat} {b : Bool} {a0 a1 a2 a3 a4 a5 : Int} :
    pureRun P (Instr.checkKey b (d + 2) t (.agg #[.int q a0, .int q a1, .int q a2, .int q a3, .int q a4, .int q a5])) = some () := by
  unfold Instr.checkKey
  rw [pureRun_bind, pr_underlying h]
  simp only [Option.bind_some, pureRun_bind, pr_sizeOf hs, Std.Legacy.Range.forIn_eq_forIn_range', Std.Legacy.Range.size, Nat.sub_zero, Nat.add_one_sub_one, Nat.div_one]
  simp only [show List.range' 0 6 = [0, 1, 2, 3, 4, 5] from rfl, List.forIn_cons, List.forIn_nil, pureRun_bind, pureRun_pure, Option.bind_some, Nat.zero_mul, Nat.one_mul, Nat.mul_one, pr_sizeOf hs,
    pr_part_one he (v := .int q a0) (cs := #[.int q a0, .int q a1, .int q a2, .int q a3, .int q a4, .int q a5]) (off := 0) rfl, pr_part_one he (v := .int q a1) (cs := #[.int q a0, .int q a1, .int q a2, .int q a3, .int q a4, .int q a5]) (off := 1) rfl, pr_part_one he (v := .int q a2) (cs := #[.int q a0, .int q a1, .int q a2, .int q a3, .int q a4, .int q a5]) (off := 2) rfl, pr_part_one he (v := .int q a3) (cs := #[.int q a0, .int q a1, .int q a2, .int q a3, .int q a4, .int q a5]) (off := 3) rfl, pr_part_one he (v := .int q a4) (cs := #[.int q a0, .int q a1, .int q a2, .int q a3, .int q a4, .int q a5]) (off := 4) rfl, pr_part_one he (v := .int q a5) (cs := #[.int q a0, .int q a1, .int q a2, .int q a3, .int q a4, .int q a5]) (off := 5) rfl, pr_check_int he]
theorem pr_check_key6 {kt ft at_ et : TypeId} (K : KeyT6 P kt ft at_ et) {c : Bool} {a a0 a1 a2 a3 a4 a5 : Int} : pureRun P (Instr.checkKey c 10000 kt (keyV a [a0, a1, a2, a3, a4, a5])) = some () := by
  obtain ⟨⟨f0, f1, hu, n0, n1, t0, t1, o0, o1⟩, hst, ⟨k0, hf0⟩, hf1, hs1, ⟨k1, he⟩, hse⟩ := K
  subst t0 t1
  show pureRun P (Instr.checkKey c (9999 + 1) kt (.agg #[.int .i64 a, .int .i64 a0, .int .i64 a1, .int .i64 a2, .int .i64 a3, .int .i64 a4, .int .i64 a5])) = _
  unfold Instr.checkKey
  rw [pureRun_bind, pr_underlying hu]
  have e1 : (#[Value.int .i64 a, .int .i64 a0, .int .i64 a1, .int .i64 a2, .int .i64 a3, .int .i64 a4, .int .i64 a5] : Array Value).extract 1 (1 + 6) = #[.int .i64 a0, .int .i64 a1, .int .i64 a2, .int .i64 a3, .int .i64 a4, .int .i64 a5] := rfl
  simp only [Option.bind_some, pureRun_bind, ← Array.forIn_toList, List.forIn_cons, List.forIn_nil, n0, n1, ne_eq, not_false_eq_true, if_true, pureRun_pure, o0, o1, pr_part_array hf1 hs1, e1, pr_check_array6 (d := 9997) hf1 he hse,
    pr_part_one hf0 (v := .int .i64 a) (cs := #[.int .i64 a, .int .i64 a0, .int .i64 a1, .int .i64 a2, .int .i64 a3, .int .i64 a4, .int .i64 a5]) (off := 0) rfl, pr_check_int hf0]

theorem len6 {l : List Int} (h : l.length = 6) : ∃ a b c d e f, l = [a, b, c, d, e, f] := by
  match l, h with
  | [a, b, c, d, e, f], _ => exact ⟨a, b, c, d, e, f, rfl⟩
/-- An entry whose key is new comes last. -/
theorem mapSet_new {kt ft at_ et : TypeId} (K : KeyT6 P kt ft at_ et) {a : Int} {l : List Int} (hl : l.length = 6) (v : AVal) (clock : Nat) : ∀ (es : List AMapE), (∀ e, e ∈ es → ∃ b m, e.key = keyV b m ∧ m.length = 6 ∧ (a, l) ≠ (b, m)) →
    aMapSet P kt (keyV a l) v clock es = some (es ++ [⟨keyV a l, v, clock⟩], clock + 1)
  | [], _ => rfl
  | e :: es, h => by
    have ih := mapSet_new K hl v clock es fun x hx => h x (List.mem_cons_of_mem _ hx)
    obtain ⟨b, m, hk, hm, hne⟩ := h e List.mem_cons_self
    unfold aMapSet
    rw [hk]
    have : pureRun P (Op.equal kt (keyV a l) (keyV b m)) = some false := by
      obtain ⟨x0, x1, x2, x3, x4, x5, rfl⟩ := len6 hl
      obtain ⟨y0, y1, y2, y3, y4, y5, rfl⟩ := len6 hm
      rw [pr_eq_key6 K, decide_eq_false hne]
    rw [this, ih]
    rfl
theorem aOp_mapNew {t : Tr AVal} {h : AH} {dst : Option Tmp} {tt : TypeId} {pos : String} {after : Array Edge} {guard : Option (Nat × Bool)} {ty kt vt ft at_ et : TypeId} {x k y : Operand} {b clock : Nat} {es : List AMapE} {a : Int} {l : List Int} {v : AVal}
    (K : KeyT6 P kt ft at_ et) (hu : P.underlying ty = some (.map kt vt)) (hx : ev t x = some (.map b)) (hk : ev t k = some (.agg (.int .i64 a :: l.map fun x => AVal.int .i64 x))) (hy : ev t y = some v) (hl : l.length = 6)
    (hb : Has h b (.map es clock)) (hne : ∀ e, e ∈ es → ∃ b m, e.key = keyV b m ∧ m.length = 6 ∧ (a, l) ≠ (b, m)) :
    ∃ h', aOp P t h ⟨dst, .mapUpdate ty x k y, tt, pos, after, guard⟩ = some (.val undefA h') ∧ Upd h b (.map (es ++ [⟨keyV a l, v, clock⟩]) (clock + 1)) h' := by
  obtain ⟨h', s1, s2⟩ := set_upd h b (.map (es ++ [⟨keyV a l, v, clock⟩]) (clock + 1))
  refine ⟨h', ?_, s2⟩
  show opMapUpdate P t h ty x k y = _
  unfold opMapUpdate
  rw [hu, hx, hk, hy]
  dsimp only
  rw [hb.2, ground_key]
  dsimp only
  have hc : pureRun P (Instr.checkKey false 10000 kt (keyV a l)) = some () := by
    obtain ⟨a0, a1, a2, a3, a4, a5, rfl⟩ := len6 hl
    exact pr_check_key6 K
  rw [hc]
  dsimp only
  rw [mapSet_new K hl v clock es hne]
  dsimp only
  rw [s1]
theorem GoE.mapNew {c : FC} {k : List AItem} {Q : AM → Prop} {all : Array Oper} {pl rest : List DOp} {tf ta : Tr AVal} {facts left : List DFact} {h : AH} {i bef : Nat} {dst : Option Tmp} {tt : TypeId} {pos : String} {after : Array Edge} {guard : Option (Nat × Bool)} {ty kt vt ft at_ et : TypeId} {x kx y : Operand} {b clock : Nat} {es : List AMapE} {a : Int} {l : List Int} {v : AVal}
    (hl : pl = ⟨i, bef, false, ⟨dst, .mapUpdate ty x kx y, tt, pos, after, guard⟩, false⟩ :: rest) (hw : wantedA all ta ⟨dst, .mapUpdate ty x kx y, tt, pos, after, guard⟩ = some true)
    (K : KeyT6 P kt ft at_ et) (hu : P.underlying ty = some (.map kt vt)) (hx : ev ta x = some (.map b)) (hk : ev ta kx = some (.agg (.int .i64 a :: l.map fun x => AVal.int .i64 x))) (hy : ev ta y = some v) (hl6 : l.length = 6)
    (hb : Has h b (.map es clock)) (hne : ∀ e, e ∈ es → ∃ b m, e.key = keyV b m ∧ m.length = 6 ∧ (a, l) ≠ (b, m)) (hleft : dropF bef facts = left) (hd : dst = none)
    (g : ∀ h1, Upd h b (.map (es ++ [⟨keyV a l, v, clock⟩]) (clock + 1)) h1 → recheck P h1 left = true ∧ GoE P c k Q all rest tf left ta h1) : GoE P c k Q all pl tf facts ta h := by
  obtain ⟨h1, q1, q2⟩ := aOp_mapNew (dst := dst) (tt := tt) (pos := pos) (after := after) (guard := guard) K hu hx hk hy hl6 hb hne
  obtain ⟨g1, g2⟩ := g h1 q2
  refine GoE.noisy hl hw q1 hleft g1 ?_ g2
  subst hd
  rfl
theorem aOp_lenMap {t : Tr AVal} {h : AH} {dst : Option Tmp} {tt : TypeId} {pos : String} {after : Array Edge} {guard : Option (Nat × Bool)} {at0 kt vt : TypeId} {x : Operand} {b clock n : Nat} {es : List AMapE} (hu : P.underlying at0 = some (.map kt vt)) (hx : ev t x = some (.map b)) (hb : Has h b (.map es clock)) (hn : es.length = n) :
    aOp P t h ⟨dst, .call ⟨.builtin .len, #[x], #[at0]⟩, tt, pos, after, guard⟩ = some (.val (.int .i64 n) h) := by
  show opCall P t h ⟨.builtin .len, #[x], #[at0]⟩ tt = _
  have he : evs t [x] = some [.map b] := by simp only [evs, mapO, hx]
  simp only [opCall, he, callWith, aBuiltin, hu, hb.2, hn]
theorem GoE.callP {c : FC} {k : List AItem} {Q : AM → Prop} {all : Array Oper} {pl rest : List DOp} {tf ta : Tr AVal} {facts : List DFact} {h : AH} {i bef : Nat} {o : Oper} {lit : Bool} {left : List DFact} {f : FuncId} {args : List AVal} {R : AEnd → AH → Prop} (hl : pl = ⟨i, bef, false, o, lit⟩ :: rest) (hw : wantedA all ta o = some true) (hx : aOpX P lit ta h o = some (.enter f args h)) (hr : Runs P f args h R) (hleft : dropF bef facts = left)
    (hret : ∀ v h', R (.ret v) h' → recheck P h' left = true ∧ ∃ ta', (prepD c.n o).run ta v = some ta' ∧ GoE P c k Q all rest tf left ta' h') (hpan : ∀ chain h', R (.pan chain) h' → FLeft P c (.panicking chain) tf h' Q) :
    GoE P c k Q all pl tf facts ta h := by
  subst hl hleft
  unfold GoE
  rw [runC_cons, hw]
  show GoR P noJ c k Q ((goNoisy P c.n all ⟨i, bef, false, o, lit⟩ rest (runC P c.n all rest)).run tf facts ta h (aOpX P lit ta h o))
  rw [hx]
  show GoR P noJ c k Q (.susp [.waitDrawn all (⟨i, bef, false, o, lit⟩ :: rest) facts ta] tf (.enter f args h))
  obtain ⟨fr, hfr, hrun⟩ := hr
  refine ⟨⟨fr :: c.fr ([.waitDrawn all (⟨i, bef, false, o, lit⟩ :: rest) facts ta] ++ k) tf :: c.rest, h⟩, ?_, ?_⟩
  · show enterJ P _ c.rest f args h none = _
    show one h (_ :: c.rest) (aFrame P f args false) = _
    rw [hfr]
    rfl
  · refine Reach.call noJ_ok ⟨fr, hfr, hrun⟩ hfr (fun v h' hv => ?_) (fun chain h' hq => hpan chain h' hq _)
    obtain ⟨e, ta', q1, q2⟩ := hret v h' hv
    refine ⟨c.fr (.inDrawn all rest (dropF bef facts) ta' :: k) tf, ?_, Go.inDrawn noJ_ok ?_⟩
    · show AFr.finishRun c.fn c.n tf (.waitDrawn all (⟨i, bef, false, o, lit⟩ :: rest) facts ta :: k) c.ds c.dk c.rd v = _
      unfold AFr.finishRun
      simp only [q1]
      rfl
    · unfold againD
      rw [e]
      exact q2
end
end Go.AbsE

namespace Go.Proofs.Ytmdheijpnlonoaa
open Go Go.AbsE
set_option linter.unusedSimpArgs false
set_option maxRecDepth 100000
set_option maxHeartbeats 0
set_option linter.unusedVariables false

structure FieldV where
  hs : List HTurf
  rs : List (Int × Int)
  a : Int
  b : Int
  c : Int
  lim : Int
  looks : List LookV
structure FieldV.Ok (F : FieldV) : Prop where
  nh : 1 ≤ F.hs.length ∧ F.hs.length ≤ 3
  h : ∀ x, x ∈ F.hs → 0 ≤ x.p ∧ x.p ≤ 2 ∧ 0 ≤ x.lo ∧ x.lo ≤ x.hi ∧ x.hi ≤ 100 ∧ x.hi - x.lo ≤ 5
  nr : 1 ≤ F.rs.length ∧ F.rs.length ≤ 6
  r : ∀ r, r ∈ F.rs → 0 ≤ r.1 ∧ r.1 ≤ r.2 ∧ r.2 ≤ 10 ∧ r.2 - r.1 ≤ 3
  d : 0 ≤ F.a ∧ F.a ≤ F.b ∧ F.b ≤ F.c ∧ F.c ≤ 20
  lim : 0 ≤ F.lim ∧ F.lim ≤ 100
  nl : F.looks.length ≤ 5
  l : ∀ l, l ∈ F.looks → 0 ≤ l.heap ∧ l.heap < F.hs.length ∧ 0 ≤ l.day ∧ l.day < F.rs.length ∧ 0 ≤ l.lo ∧ l.lo ≤ l.hi ∧ l.hi ≤ 100
structure FieldAt (h : AH) (F : FieldV) (hsl rsl lsl : AVal) : Prop where
  hs : SliceOf h 3 hsl (F.hs.map HTurf.cells)
  rs : SliceOf h 2 rsl (F.rs.map spC)
  ls : SliceOf h 4 lsl (F.looks.map LookV.cells)
theorem FieldAt.ext {h h' : AH} {F : FieldV} {hsl rsl lsl : AVal} (k : FieldAt h F hsl rsl lsl) (e : Ext h h') : FieldAt h' F hsl rsl lsl := ⟨k.hs.ext e, k.rs.ext e, k.ls.ext e⟩
def FieldV.cells (F : FieldV) (hsl rsl lsl : AVal) : List AVal := fieldC hsl rsl lsl F.a F.b F.c F.lim
def FieldV.ts (F : FieldV) : List TurfV := turfsOf F.hs F.looks
theorem FieldV.Ok.ts {F : FieldV} (O : F.Ok) : ∀ t, t ∈ F.ts → t.Ok := by
  intro t ht
  unfold FieldV.ts turfsOf at ht
  obtain ⟨i, hi, rfl⟩ := List.mem_mapIdx.1 ht
  have := O.h _ (List.getElem_mem hi)
  have hnr := O.nr
  refine ⟨?_, ?_, ?_, ?_⟩
  · show (F.hs[i].p).toNat < 3
    omega
  · show 0 ≤ F.hs[i].lo ∧ F.hs[i].lo ≤ F.hs[i].hi ∧ F.hs[i].hi ≤ 100
    omega
  · intro l hl
    have := O.l l (List.mem_filter.1 hl).1
    omega
  · have := List.length_filter_le (isAt i) F.looks
    have := O.nl
    show (F.looks.filter (isAt i)).length ≤ 100
    omega
theorem FieldV.Ok.rains {F : FieldV} (O : F.Ok) : Rains F.rs := ⟨O.nr.2, fun r hr => by have := O.r r hr; omega⟩
theorem FieldV.Ok.dries {F : FieldV} (O : F.Ok) : Dries F.a F.b F.c := by have := O.d; unfold Dries; omega
theorem falls_in : ∀ {rs : List (Int × Int)} (hr : ∀ r, r ∈ rs → 0 ≤ r.1 ∧ r.1 ≤ r.2 ∧ r.2 ≤ 10) {l : List Int}, l ∈ falls rs → ∀ x, x ∈ l → 0 ≤ x ∧ x ≤ 10
  | [], _, l, h, x, hx => by simp [falls] at h; subst h; cases hx
  | r :: rs, hr, l, h, x, hx => by
    simp only [falls, List.mem_flatMap, List.mem_map, List.mem_range] at h
    obtain ⟨k, hk, l', hl, rfl⟩ := h
    have h1 := hr r (by simp)
    rcases List.mem_cons.1 hx with rfl | hx
    · omega
    · exact falls_in (fun r hr' => hr r (by simp [hr'])) hl x hx
theorem falls_nodup : ∀ (rs : List (Int × Int)), (falls rs).Pairwise (· ≠ ·)
  | [] => by simp [falls]
  | r :: rs => by
    have ih := falls_nodup rs
    rw [falls, List.pairwise_flatMap]
    refine ⟨fun k _ => ?_, ?_⟩
    · rw [List.pairwise_map]
      exact ih.imp fun hne q => hne (by injection q)
    · refine List.Pairwise.imp ?_ List.nodup_range
      intro k k' hne x hx y hy q
      obtain ⟨_, _, rfl⟩ := List.mem_map.1 hx
      obtain ⟨_, _, rfl⟩ := List.mem_map.1 hy
      injection q with q1 q2
      omega

/-- What a map's entry says: a heap, how much it rained, how wet the heap can be. -/
abbrev Ent := Int × List Int × List (Int × Int)
def entsF (F : FieldV) (l : List Int) : List Ent := F.ts.mapIdx fun i t => ((i : Int), padF l, evL F.a F.b F.c t l)
def entsOf (F : FieldV) (l : List Int) : List Ent := if F.ts.any (fun t => !possB F.a F.b F.c t l) then [] else entsF F l
/-- All that is known of heaps. -/
def FieldV.ents (F : FieldV) : List Ent := (falls F.rs).flatMap (entsOf F)
def esOf (l : List Ent) : List AMapE := l.mapIdx fun i x => ⟨keyV x.1 x.2.1, .agg (x.2.2.flatMap spC), i⟩
theorem esOf_app (l : List Ent) (x : Ent) : esOf (l ++ [x]) = esOf l ++ [⟨keyV x.1 x.2.1, .agg (x.2.2.flatMap spC), l.length⟩] := by unfold esOf; rw [List.mapIdx_concat]
theorem esOf_mem {l : List Ent} {e : AMapE} (h : e ∈ esOf l) : ∃ x, l[e.born]? = some x ∧ e.key = keyV x.1 x.2.1 ∧ e.val = .agg (x.2.2.flatMap spC) := by
  obtain ⟨i, hi, rfl⟩ := List.mem_mapIdx.1 h
  exact ⟨l[i], by simp, rfl, rfl⟩
theorem padF_inj {l m : List Int} (h : l.length = m.length) (q : padF l = padF m) : l = m := by
  unfold padF at q
  exact (List.append_inj q h).1
theorem entsF_mem {F : FieldV} {l : List Int} {x : Ent} (h : x ∈ entsF F l) : x.2.1 = padF l := by
  obtain ⟨i, hi, rfl⟩ := List.mem_mapIdx.1 h
  rfl
theorem entsOf_mem {F : FieldV} {l : List Int} {x : Ent} (h : x ∈ entsOf F l) : x ∈ entsF F l := by
  unfold entsOf at h
  split at h
  · cases h
  · exact h

/-- What a refusal panics with. -/
def refusal (code : Int) : List AEntry := [⟨.iface 95 (.int .i64 code), false⟩]
theorem refuse_ok (b : Bool) (code : Int) (h : AH) : Runs Try.prog 55 [.bool b, .int .i64 code] h (fun en h' => h' = h ∧ ((b = false ∧ en = .ret (.tuple [])) ∨ (b = true ∧ en = .pan (refusal code)))) := by
  refine Runs.intro aFunc55 rfl rfl rfl rfl fun rest => ?_
  refine Go.seq noJ_ok (Go.region noJ_ok rfl ?_)
  refine GoR.op rfl rfl rfl rfl ?_
  cases b with
  | false =>
    refine GoR.end (Go.cond noJ_ok (b := false) rfl (Go.code noJ_ok (Go.endL (FLeft.ret (v := .tuple []) ?_ ⟨rfl, .inl ⟨rfl, rfl⟩⟩))))
    exact aResult_of Try.func55 rfl rfl
  | true =>
    refine GoR.end (Go.cond noJ_ok (b := true) rfl (Go.region noJ_ok rfl ?_))
    refine GoR.op rfl rfl rfl rfl ?_
    refine GoR.op rfl rfl rfl rfl ?_
    refine GoR.panic rfl rfl rfl (FLeft.pan ⟨rfl, .inr ⟨rfl, rfl⟩⟩)

theorem imp_ok {a b c : Int} (D : Dries a b c) {t : TurfV} (O : t.Ok) (sl : AVal) (bb n bd : Nat) (rs : List Int) (hn : rs.length = n) (hn6 : n ≤ 6) (hr : ∀ r, r ∈ rs → r ≤ 10) (h : AH)
    (hd : Has h bd (.cells .plain [.slice bb 0 n n] 103)) (hw : Has h bb (.cells .plain (rs.map (wV a b c)) 134)) (hL : SliceOf h 4 sl (t.looks.map LookV.cells)) :
    Runs Try.prog 70 [.agg (t.cells sl), .ptr bd 0] h (fun en h' => en = .ret (.bool (!possB a b c t rs)) ∧ Ext h h') := by
  unfold TurfV.cells
  refine Runs.intro aFunc70 rfl rfl rfl rfl fun rest => ?_
  refine Go.seq noJ_ok ?_
  refine Go.region noJ_ok rfl ?_
  refine GoR.box rfl rfl rfl rfl rfl rfl fun h0 x0 f0 => ?_
  have := hd.1
  have := hw.1
  replace hd := hd.ext x0
  replace hw := hw.ext x0
  have e0 := x0
  have := f0.1
  refine GoR.op rfl rfl rfl rfl ?_
  refine GoR.end ?_
  refine Go.seq noJ_ok ?_
  refine Go.region noJ_ok rfl ?_
  refine GoR.op rfl rfl (ld106 rfl f0 rfl) rfl ?_
  refine GoR.op rfl rfl (ld103 rfl hd rfl) rfl ?_
  refine GoR.call rfl rfl (aOp_callFunc aFunc71 rfl) (possible_ok D O sl bb n rs hn hn6 hr _ hw (hL.ext e0)) ?_ (by rintro _ _ ⟨q, _⟩; cases q)
  rintro _ h1 ⟨q, x1⟩
  cases q
  refine ⟨_, rfl, ?_⟩
  replace f0 := f0.ext x1
  replace hd := hd.ext x1
  replace hw := hw.ext x1
  replace e0 := e0.trans x1
  iterate 2 refine GoR.op rfl rfl rfl rfl ?_
  refine GoR.end ?_
  exact Go.ret noJ_ok (ret_end (aResult_of Try.func70 rfl rfl) ⟨rfl, e0⟩)
end Go.Proofs.Ytmdheijpnlonoaa
