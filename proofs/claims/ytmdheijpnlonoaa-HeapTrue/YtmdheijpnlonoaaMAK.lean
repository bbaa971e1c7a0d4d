import Derived.Test.YtmdheijpnlonoaaMAJ
namespace Go.Proofs.Ytmdheijpnlonoaa
open Go Go.AbsE
set_option linter.unusedSimpArgs false
set_option maxRecDepth 100000
set_option maxHeartbeats 0
set_option linter.unusedVariables false
theorem set_pad {α : Type} (l : List α) (z v : α) {i N : Nat} (hl : l.length = i) (hi : i < N) : (l ++ List.replicate (N - i) z).set i v = (l ++ [v]) ++ List.replicate (N - (i + 1)) z := by
  subst hl
  rw [show N - l.length = (N - (l.length + 1)) + 1 by omega, List.replicate_succ, List.set_append_right _ _ (Nat.le_refl _), Nat.sub_self]
  simp
def ev1 (a b c : Int) (p : Nat) (r w : Int) : Int := if 0 < r then holdV (w + r) else holdV (w - (([a, b, c][p]?).getD 0))
theorem ev1_in (a b c : Int) (p : Nat) (r w : Int) : 0 ≤ ev1 a b c p r w ∧ ev1 a b c p r w ≤ 100 := by unfold ev1; split <;> exact holdV_in _
def scan (a b c : Int) (p : Nat) : List Int → Int → List Int
  | [], _ => []
  | r :: rs, w => ev1 a b c p r w :: scan a b c p rs (ev1 a b c p r w)
def after (a b c : Int) (p : Nat) (rs : List Int) (w : Int) : Int := rs.foldl (fun w r => ev1 a b c p r w) w
theorem scan_len (a b c : Int) (p : Nat) : ∀ (rs : List Int) (w : Int), (scan a b c p rs w).length = rs.length
  | [], _ => rfl
  | r :: rs, w => by simp [scan, scan_len a b c p rs]
theorem scan_app (a b c : Int) (p : Nat) (r : Int) : ∀ (rs : List Int) (w : Int), scan a b c p (rs ++ [r]) w = scan a b c p rs w ++ [ev1 a b c p r (after a b c p rs w)]
  | [], _ => rfl
  | x :: rs, w => by simp only [List.cons_append, scan, scan_app a b c p r rs, after, List.foldl_cons]
theorem after_app (a b c : Int) (p : Nat) (r : Int) (rs : List Int) (w : Int) : after a b c p (rs ++ [r]) w = ev1 a b c p r (after a b c p rs w) := by simp [after]
theorem after_in (a b c : Int) (p : Nat) (rs : List Int) {w : Int} (hw : 0 ≤ w ∧ w ≤ 100) : 0 ≤ after a b c p rs w ∧ after a b c p rs w ≤ 100 := by
  rcases List.eq_nil_or_concat rs with rfl | ⟨l, r, rfl⟩
  · exact hw
  · rw [List.concat_eq_append, after_app]; exact ev1_in _ _ _ _ _ _
theorem scan_bd (a b c : Int) (p : Nat) : ∀ (rs : List Int) (w : Int) (x : Int), x ∈ scan a b c p rs w → 0 ≤ x ∧ x ≤ 100
  | [], _, _, h => by cases h
  | r :: rs, w, x, h => by
    unfold scan at h
    rcases List.mem_cons.1 h with rfl | h
    · exact ev1_in _ _ _ _ _ _
    · exact scan_bd a b c p rs _ x h
def crs (a b c : Int) (p : Nat) (rs : List Int) (w : Int) : List Int := scan a b c p rs w ++ List.replicate (6 - rs.length) 0
theorem crs_len (a b c : Int) (p : Nat) {rs : List Int} (w : Int) (h : rs.length ≤ 6) : (crs a b c p rs w).length = 6 := by
  unfold crs; rw [List.length_append, scan_len, List.length_replicate]; omega
theorem crs_in (a b c : Int) (p : Nat) (rs : List Int) (w : Int) (x : Int) (h : x ∈ crs a b c p rs w) : 0 ≤ x ∧ x ≤ 100 := by
  unfold crs at h
  rcases List.mem_append.1 h with h | h
  · exact scan_bd _ _ _ _ _ _ _ h
  · rw [(List.mem_replicate.1 h).2]; omega
def i64s (l : List Int) : List AVal := l.map (.int .i64)
theorem evening_in (a b c r : Int) (p : Nat) (w : Int) (hp : p < 3) (hd : 0 ≤ a ∧ a ≤ 20 ∧ 0 ≤ b ∧ b ≤ 20 ∧ 0 ≤ c ∧ c ≤ 20) (hr : r ≤ 10) (hw : 0 ≤ w ∧ w ≤ 100) (h : AH) :
    ∃ f args, aInvokeIface Try.prog (wV a b c r) "bogworks/heap.evening" [.int .i64 p, .int .i64 w] h = some (.enter f args h) ∧ Runs Try.prog f args h (fun en h' => en = .ret (.int .i64 (ev1 a b c p r w)) ∧ Ext h h') := by
  unfold wV ev1
  by_cases h0 : 0 < r
  · rw [if_pos h0, if_pos h0]
    exact ⟨122, [.agg [.int .i64 r], .int .i64 p, .int .i64 w], by kernel_rfl, evR_ok r p w ⟨by omega, hr⟩ hw h⟩
  · rw [if_neg h0, if_neg h0]
    obtain ⟨d, hdd, hd0⟩ : ∃ d, [a, b, c][p]? = some d ∧ 0 ≤ d ∧ d ≤ 20 := by
      match p, hp with
      | 0, _ => exact ⟨a, rfl, by omega, by omega⟩
      | 1, _ => exact ⟨b, rfl, by omega, by omega⟩
      | 2, _ => exact ⟨c, rfl, by omega, by omega⟩
    refine ⟨124, [.agg [.int .i64 0, .int .i64 a, .int .i64 b, .int .i64 c], .int .i64 p, .int .i64 w], by kernel_rfl, ?_⟩
    rw [hdd]
    exact evF_ok 0 a b c p hp hdd w hd0 hw h
theorem courses_ok (tv : List AVal) (htv : ∃ p lo hi sl, tv = [.int .i64 p, .int .i64 lo, .int .i64 hi, sl]) (ht : scalars tv = true) (s : AVal) (hs : scalars [s] = true) (hs' : s.cells = [s]) (h : AH) :
    Runs Try.prog 102 [.agg tv, s] h (fun en h' => ∃ b1 b2, en = .ret (.func (.func 106) [] [.ptr b1 0, .ptr b2 0]) ∧ Ext h h' ∧ h.next ≤ b1 ∧ h.next ≤ b2 ∧ Has h' b1 (.cells .plain tv 106) ∧ Has h' b2 (.cells .plain [s] 103)) := by
  obtain ⟨p, lo, hi, sl, rfl⟩ := htv
  refine Runs.intro aFunc102 rfl rfl rfl rfl fun rest => ?_
  refine Go.seq noJ_ok ?_
  refine Go.region noJ_ok rfl ?_
  refine GoR.box rfl rfl rfl rfl rfl rfl fun h0 x0 f0 => ?_
  have e0 := x0
  have := f0.1
  refine GoR.box rfl rfl rfl rfl rfl rfl fun h1 x1 f1 => ?_
  have := e0.1
  have := f0.1
  replace f0 := f0.ext x1
  replace e0 := e0.trans x1
  have := f1.1
  refine GoR.op rfl rfl rfl rfl ?_
  refine GoR.end ?_
  refine Go.seq noJ_ok ?_
  refine Go.region noJ_ok rfl ?_
  iterate 2 refine GoR.op rfl rfl rfl rfl ?_
  refine GoR.end ?_
  exact Go.ret noJ_ok (ret_end (aResult_of Try.func102 rfl rfl) ⟨_, _, rfl, e0, by omega, by omega, f0, (by rw [hs'] at f1; exact f1)⟩)
structure CrsA (b1 b2 bb n : Nat) (tv : List AVal) (ws : List AVal) (h : AH) : Prop where
  t : Has h b1 (.cells .plain tv 106)
  d : Has h b2 (.cells .plain [.slice bb 0 n n] 103)
  w : Has h bb (.cells .plain ws 134)
def crsItems (a b c : Int) (p : Nat) (rs : List Int) (lo : Int) (m : Nat) : List (List AVal) := (List.range m).map fun k : Nat => i64s (crs a b c p rs (lo + k))
theorem crsItems_at (a b c : Int) (p : Nat) (rs : List Int) (lo : Int) {m k : Nat} (h : k < m) : (crsItems a b c p rs lo m)[k]? = some (i64s (crs a b c p rs (lo + k))) := by
  unfold crsItems
  rw [List.getElem?_map, List.getElem?_range h]
  rfl
theorem courses1_it (a b c : Int) (hd : 0 ≤ a ∧ a ≤ 20 ∧ 0 ≤ b ∧ b ≤ 20 ∧ 0 ≤ c ∧ c ≤ 20) (p : Nat) (hp : p < 3) (lo hi : Int) (sl : AVal) (hw : 0 ≤ lo ∧ lo ≤ hi ∧ hi ≤ 100) (b1 b2 bb n : Nat) (rs : List Int) (hn : rs.length = n) (hn6 : n ≤ 6) (hr : ∀ r, r ∈ rs → r ≤ 10) :
    Iter Try.prog 106 [] [.ptr b1 0, .ptr b2 0] (crsItems a b c p rs lo (hi - lo + 1).toNat) (CrsA b1 b2 bb n [.int .i64 p, .int .i64 lo, .int .i64 hi, sl] (rs.map (wV a b c))) := by
  intro y base S J E h hyc hys hA hb T j0
  show Runs Try.prog 106 [y, .ptr b1 0, .ptr b2 0] h _
  obtain ⟨m0, hm0⟩ : ∃ m0, (hi - lo + 1).toNat = m0 := ⟨_, rfl⟩
  have hlen : (crsItems a b c p rs lo m0).length = m0 := by simp [crsItems]
  rw [hm0] at T ⊢
  rw [hlen]
  have e0 : Ext h h := Ext.refl _
  obtain ⟨f0, f1, f2⟩ := hA h (ExtF.of e0)
  refine Runs.intro aFunc106 rfl rfl rfl rfl fun rest => ?_
  refine Go.seq noJ_ok ?_
  refine Go.region noJ_ok rfl ?_
  refine GoR.op rfl rfl (fa106_0 rfl) rfl ?_
  refine GoR.op rfl rfl (fa63_1 rfl) rfl ?_
  refine GoR.op rfl rfl (fa30_0 rfl) rfl ?_
  refine GoR.op rfl rfl (ld3 rfl f0 rfl) rfl ?_
  refine GoR.op rfl rfl rfl rfl ?_
  refine GoR.end ?_
  refine Go.block noJ_ok ?_
  refine Go.loopKeep (fun k : Nat => [(0, y), (1, .ptr b1 0), (2, .ptr b2 0), (4, .int .i64 (lo + k))]) (fun m k h' => m + k = m0 ∧ ExtF S h h' ∧ J k h') (n := m0) 0 ⟨rfl, rfl, rfl, (by simp; rfl), trivial⟩ ⟨rfl, ExtF.of e0, j0⟩ ?_
  clear e0 f0 f1 f2
  rintro m k h1 ⟨hm, x1, j1⟩ again
  obtain ⟨f0, f1, f2⟩ := hA h1 x1
  have e0 : Ext h1 h1 := Ext.refl _
  have hx1 := x1.1
  by_cases hk : k < m0
  · have hk2 : lo + k ≤ hi := by omega
    iterate 2 refine Go.seq noJ_ok ?_
    refine Go.region noJ_ok rfl ?_
    refine GoR.op rfl rfl rfl rfl ?_
    refine GoR.op rfl rfl (fa106_0 rfl) rfl ?_
    refine GoR.op rfl rfl (fa63_1 rfl) rfl ?_
    refine GoR.op rfl rfl (fa30_1 rfl) rfl ?_
    refine GoR.op rfl rfl (ld3 rfl f0 rfl) rfl ?_
    refine GoR.op rfl rfl (aOp_leq rfl rfl (r := true) (decide_eq_true (by omega))) rfl ?_
    refine GoR.end ?_
    refine Go.cond noJ_ok (b := true) rfl ?_
    refine Go.code noJ_ok ?_
    refine Go.seq noJ_ok ?_
    refine Go.block noJ_ok ?_
    refine Go.seq noJ_ok ?_
    refine Go.region noJ_ok rfl ?_
    refine GoR.alloc rfl rfl rfl zt140 rfl rfl fun h3 x3 f3 => ?_
    have := e0.1
    have := f0.1
    have := f1.1
    have := f2.1
    replace f0 := f0.ext x3
    replace f1 := f1.ext x3
    replace f2 := f2.ext x3
    replace e0 := e0.trans x3
    have := f3.1
    refine GoR.end ?_
    refine Go.seq noJ_ok ?_
    refine Go.region noJ_ok rfl ?_
    iterate 2 refine GoR.op rfl rfl rfl rfl ?_
    refine GoR.end ?_
    iterate 2 refine Go.seq noJ_ok ?_
    refine Go.region noJ_ok rfl ?_
    refine GoR.op rfl rfl (ld103 rfl f1 rfl) rfl ?_
    iterate 2 refine GoR.op rfl rfl rfl rfl ?_
    refine GoR.end ?_
    refine Go.block noJ_ok ?_
    refine Go.loopKeep (fun i : Nat => [(0, y), (1, .ptr b1 0), (2, .ptr b2 0), (4, .int .i64 (lo + k)), (5, .ptr h1.next 0), (6, .int .i64 (after a b c p (rs.take i) (lo + k))), (22, .slice bb 0 n n), (23, .int .i64 n), (24, .int .i64 (i : Nat))])
      (fun m i h' => m + i = n ∧ Ext h1 h' ∧ Has h' b1 (.cells .plain [.int .i64 p, .int .i64 lo, .int .i64 hi, sl] 106) ∧ Has h' b2 (.cells .plain [.slice bb 0 n n] 103) ∧ Has h' bb (.cells .plain (rs.map (wV a b c)) 134) ∧ Has h' h1.next (.cells .plain (i64s (scan a b c p (rs.take i) (lo + k) ++ List.replicate (6 - i) 0)) 140))
      (n := n) 0 ⟨rfl, rfl, rfl, rfl, rfl, rfl, rfl, rfl, rfl, trivial⟩ ⟨rfl, e0, f0, f1, f2, (by rw [List.take_zero]; exact f3)⟩ ?_
    clear e0 f0 f1 f2 f3
    rintro q i h4 ⟨hq, e0, f0, f1, f2, f3⟩ again2
    by_cases hi' : i < n
    · obtain ⟨r, hr0⟩ : ∃ r, rs[i]? = some r := ⟨rs[i], by simp [hn, hi']⟩
      have hr1 := hr r (List.mem_of_getElem? hr0)
      have hin := after_in a b c p (rs.take i) (w := lo + k) (by omega)
      have hld : (rs.map (wV a b c))[0 + i * 1]? = some (wV a b c r) := by rw [Nat.zero_add, Nat.mul_one, List.getElem?_map, hr0]; rfl
      have haf : ev1 a b c p r (after a b c p (rs.take i) (lo + k)) = after a b c p (rs.take (i + 1)) (lo + k) := by rw [List.take_add_one, hr0, Option.toList_some, after_app]
      obtain ⟨ff, fargs, hk1, hk2'⟩ := evening_in a b c r p (after a b c p (rs.take i) (lo + k)) hp hd hr1 hin h4
      rw [haf] at hk2'
      have hi6 : i < 6 := by omega
      have hset : splice (i64s (scan a b c p (rs.take i) (lo + k) ++ List.replicate (6 - i) 0)) (0 + i * 1) (AVal.int .i64 (after a b c p (rs.take (i + 1)) (lo + k))).cells = some (i64s (scan a b c p (rs.take (i + 1)) (lo + k) ++ List.replicate (6 - (i + 1)) 0)) := by
        have hl : (scan a b c p (rs.take i) (lo + k)).length = i := by rw [scan_len, List.length_take]; omega
        rw [Nat.zero_add, Nat.mul_one]
        show splice _ _ [_] = _
        rw [splice_at (by simp [i64s, scan_len]; omega)]
        have := set_pad (scan a b c p (rs.take i) (lo + k)) 0 (after a b c p (rs.take (i + 1)) (lo + k)) hl hi6
        rw [← haf, ← scan_app] at this
        rw [List.take_add_one, hr0, Option.toList_some, ← this, haf]
        unfold i64s
        rw [List.map_set]
        rw [List.take_add_one, hr0, Option.toList_some]
      refine Go.seq noJ_ok ?_
      refine Go.region noJ_ok rfl ?_
      refine GoR.op rfl rfl (aOp_lss rfl rfl (r := true) (decide_eq_true (by omega))) rfl ?_
      refine GoR.end ?_
      refine Go.seq noJ_ok ?_
      refine Go.cond noJ_ok (b := true) rfl ?_
      refine Go.code noJ_ok ?_
      refine Go.seq noJ_ok ?_
      refine Go.block noJ_ok ?_
      refine Go.seq noJ_ok ?_
      refine Go.region noJ_ok rfl ?_
      refine GoR.op rfl rfl rfl rfl ?_
      refine GoR.op rfl rfl (aOp_indexAddr Try.underlying103 sz134 rfl rfl rfl (Nat.ble_eq_true_of_le hi')) rfl ?_
      refine GoR.op rfl rfl (ld134 rfl f2 hld) rfl ?_
      iterate 2 refine GoR.op rfl rfl rfl rfl ?_
      refine GoR.end ?_
      refine Go.seq noJ_ok ?_
      refine Go.region noJ_ok rfl ?_
      refine GoR.op rfl rfl rfl rfl ?_
      refine GoR.op rfl rfl (fa106_0 rfl) rfl ?_
      refine GoR.op rfl rfl (fa63_0 rfl) rfl ?_
      refine GoR.op rfl rfl (ld3 rfl f0 rfl) rfl ?_
      refine GoR.op rfl rfl rfl rfl ?_
      refine GoR.call rfl rfl (aOp_invoke rfl rfl (hk1)) (hk2') ?_ (by rintro _ _ ⟨q, _⟩; cases q)
      rintro _ h5 ⟨q, x5⟩
      cases q
      refine ⟨_, rfl, ?_⟩
      replace f0 := f0.ext x5
      replace f1 := f1.ext x5
      replace f2 := f2.ext x5
      replace f3 := f3.ext x5
      replace e0 := e0.trans x5
      refine GoR.op rfl rfl rfl rfl ?_
      refine GoR.end ?_
      refine Go.region noJ_ok rfl ?_
      iterate 2 refine GoR.op rfl rfl rfl rfl ?_
      refine GoR.op rfl rfl (aOp_indexAddrArr Try.underlying140 sz3 rfl rfl (Nat.ble_eq_true_of_le hi6)) rfl ?_
      refine GoR.store rfl rfl rfl rfl rfl rfl f3 rfl sz3 rfl rfl hset fun h6 u6 => ?_
      replace f0 := f0.upd u6 (by omega)
      replace f1 := f1.upd u6 (by omega)
      replace f2 := f2.upd u6 (by omega)
      replace f3 := u6.has f3
      replace e0 := e0.upd u6 (by omega)
      refine GoR.end ?_
      refine Go.inBlock noJ_ok ?_
      refine Go.region noJ_ok rfl ?_
      refine GoR.op rfl rfl (aOp_add rfl rfl (by constructor <;> omega) rfl) rfl ?_
      refine GoR.op rfl rfl rfl rfl ?_
      refine GoR.end ?_
      exact again2 (q - 1) (i + 1) _ _ (by omega) ⟨rfl, rfl, rfl, rfl, rfl, rfl, rfl, rfl, rfl, trivial⟩ ⟨by omega, e0, f0, f1, f2, f3⟩
    · have hin : i = n := by omega
      subst hin
      have hsc : i64s (scan a b c p (rs.take i) (lo + k) ++ List.replicate (6 - i) 0) = i64s (crs a b c p rs (lo + k)) := by
        unfold crs
        rw [List.take_of_length_le (by omega), hn]
      rw [hsc] at f3
      have hl6 : (i64s (crs a b c p rs (lo + k))).length = 6 := by unfold i64s; rw [List.length_map]; exact crs_len a b c p (lo + k) (by omega)
      have hit := crsItems_at a b c p rs lo hk
      obtain ⟨ax, a1, a2, a3⟩ := T.take hit (T.ext j1 e0)
      refine Go.seq noJ_ok ?_
      refine Go.region noJ_ok rfl ?_
      refine GoR.op rfl rfl (aOp_lss rfl rfl (r := false) (decide_eq_false (by omega))) rfl ?_
      refine GoR.end ?_
      refine Go.seq noJ_ok ?_
      refine Go.cond noJ_ok (b := false) rfl ?_
      refine Go.code noJ_ok ?_
      refine Go.seq noJ_ok ?_
      refine Go.region noJ_ok rfl ?_
      refine GoR.op rfl rfl rfl rfl ?_
      refine GoR.op rfl rfl (ld140 rfl f3 (slice_all hl6)) rfl ?_
      refine GoR.does rfl rfl (aOp_callY rfl rfl a1) a2 a3 ?_ (by rintro _ _ ⟨_, ⟨q, _⟩ | ⟨q, _⟩⟩ <;> cases q)
      rintro v h6 ⟨x6, ⟨q, j6⟩ | ⟨q, e6⟩⟩
      · cases q
        refine ⟨_, rfl, ?_⟩
        refine GoR.op rfl rfl rfl rfl ?_
        refine GoR.end ?_
        refine Go.cond noJ_ok (b := false) rfl ?_
        refine Go.code noJ_ok ?_
        refine Go.inBlock noJ_ok ?_
        refine Go.region noJ_ok rfl ?_
        refine GoR.op rfl rfl rfl rfl ?_
        refine GoR.op rfl rfl (aOp_add rfl rfl (by constructor <;> omega) rfl) rfl ?_
        refine GoR.op rfl rfl rfl rfl ?_
        refine GoR.end ?_
        exact again (m - 1) (k + 1) _ _ (by omega) ⟨rfl, rfl, rfl, (by simp [Int.add_assoc]; rfl), trivial⟩ ⟨by omega, (x1.trans (fun _ q => .inl q) (.of e0)).trans (fun _ q => .inl q) x6, j6⟩
      · cases q
        refine ⟨_, rfl, ?_⟩
        refine GoR.op rfl rfl rfl rfl ?_
        refine GoR.end ?_
        refine Go.cond noJ_ok (b := true) rfl ?_
        exact Go.ret noJ_ok (ret_end (aResult_of Try.func106 rfl rfl) ⟨rfl, (x1.trans (fun _ q => .inl q) (.of e0)).trans (fun _ q => .inl q) x6, .inr ⟨k, hk, e6⟩⟩)
  · have hk2 : ¬ (lo + k ≤ hi) := by omega
    iterate 2 refine Go.seq noJ_ok ?_
    refine Go.region noJ_ok rfl ?_
    refine GoR.op rfl rfl rfl rfl ?_
    refine GoR.op rfl rfl (fa106_0 rfl) rfl ?_
    refine GoR.op rfl rfl (fa63_1 rfl) rfl ?_
    refine GoR.op rfl rfl (fa30_1 rfl) rfl ?_
    refine GoR.op rfl rfl (ld3 rfl f0 rfl) rfl ?_
    refine GoR.op rfl rfl (aOp_leq rfl rfl (r := false) (decide_eq_false (by omega))) rfl ?_
    refine GoR.end ?_
    refine Go.cond noJ_ok (b := false) rfl ?_
    refine Go.code noJ_ok ?_
    have : k = m0 := by omega
    subst this
    exact Go.endL (FLeft.ret (v := .tuple []) (aResult_of Try.func106 rfl rfl) ⟨rfl, x1, .inl j1⟩)
end Go.Proofs.Ytmdheijpnlonoaa

namespace Go.Proofs.Ytmdheijpnlonoaa
open Go Go.AbsE
set_option linter.unusedSimpArgs false
set_option maxRecDepth 100000
set_option maxHeartbeats 0
set_option linter.unusedVariables false
structure LookV where
  heap : Int
  day : Int
  lo : Int
  hi : Int
def LookV.cells (l : LookV) : List AVal := [.int .i64 l.heap, .int .i64 l.day, .int .i64 l.lo, .int .i64 l.hi]
def atD (c : List Int) (d : Nat) : Int := (c[d]?).getD 0
def suits1 (c : List Int) (l : LookV) : Bool := decide (l.lo ≤ atD c l.day.toNat ∧ atD c l.day.toNat ≤ l.hi)
def suitsB (L : List LookV) (c : List Int) : Bool := L.all (suits1 c)
theorem suits_ok (p lo hi : Int) (sl : AVal) (L : List LookV) (h : AH) (hL : SliceOf h 4 sl (L.map LookV.cells)) (hd : ∀ l, l ∈ L → 0 ≤ l.day ∧ l.day < 6) (hn : L.length ≤ 100) (c : List Int) (hc : c.length = 6) :
    Runs Try.prog 103 [.agg [.int .i64 p, .int .i64 lo, .int .i64 hi, sl], .agg (i64s c)] h (fun en h' => en = .ret (.bool (suitsB L c)) ∧ Ext h h') := by
  obtain ⟨c1, c2, c3, c4, c5, c6, rfl⟩ := six hc
  have hlen := hL.len
  rw [List.length_map] at hlen
  show Runs Try.prog 103 [_, .agg [.int .i64 c1, .int .i64 c2, .int .i64 c3, .int .i64 c4, .int .i64 c5, .int .i64 c6]] h _
  refine Runs.intro aFunc103 rfl rfl rfl rfl fun rest => ?_
  refine Go.seq noJ_ok ?_
  refine Go.region noJ_ok rfl ?_
  refine GoR.box rfl rfl rfl rfl rfl rfl fun h0 x0 f0 => ?_
  have e0 := x0
  have := f0.1
  refine GoR.box rfl rfl rfl rfl rfl rfl fun h1 x1 f1 => ?_
  have := e0.1
  have := f0.1
  replace f0 := f0.ext x1
  replace e0 := e0.trans x1
  have := f1.1
  refine GoR.op rfl rfl rfl rfl ?_
  refine GoR.end ?_
  iterate 2 refine Go.seq noJ_ok ?_
  refine Go.region noJ_ok rfl ?_
  refine GoR.op rfl rfl (fa106_1 rfl) rfl ?_
  refine GoR.op rfl rfl (ld25 rfl f0 rfl) rfl ?_
  refine GoR.op rfl rfl (aOp_lenSlice Try.underlying25 rfl hlen) rfl ?_
  refine GoR.op rfl rfl rfl rfl ?_
  refine GoR.end ?_
  refine Go.block noJ_ok ?_
  refine Go.loopKeep (fun i : Nat => [(3, .ptr h0.next 0), (8, sl), (9, .int .i64 L.length), (10, .int .i64 (i : Nat))])
    (fun m i h' => m + i = L.length ∧ Ext h h' ∧ suitsB (L.take i) [c1, c2, c3, c4, c5, c6] = true ∧ Has h' h0.next (.cells .plain [.int .i64 c1, .int .i64 c2, .int .i64 c3, .int .i64 c4, .int .i64 c5, .int .i64 c6] 140)) (n := L.length) 0 ⟨rfl, rfl, rfl, rfl, trivial⟩ ⟨rfl, e0, (by rw [List.take_zero]; rfl), f1⟩ ?_
  clear e0 f0 f1
  rintro m i h4 ⟨hm, e0, hs, f0⟩ again
  by_cases hi' : i < L.length
  · obtain ⟨l, hl⟩ : ∃ l, L[i]? = some l := ⟨L[i], by simp [hi']⟩
    obtain ⟨bq, off, q1, q2⟩ := (hL.ext e0).at (i := i) (l := LookV.cells l) (by rw [List.getElem?_map, hl]; rfl)
    rw [List.length_map] at q1
    have hdl := hd l (List.mem_of_getElem? hl)
    have htk : suitsB (L.take (i + 1)) [c1, c2, c3, c4, c5, c6] = suits1 [c1, c2, c3, c4, c5, c6] l := by
      unfold suitsB at hs ⊢
      rw [List.take_add_one, hl, Option.toList_some, List.all_append, hs]
      simp
    have hle := (List.all_eq_true (l := L) (p := suits1 [c1, c2, c3, c4, c5, c6]))
    obtain ⟨lh, ld, ll, lu⟩ := l
    dsimp only at hdl
    obtain ⟨d, rfl⟩ := Int.eq_ofNat_of_zero_le hdl.1
    have hd6 : d < 6 := by omega
    obtain ⟨x, hx⟩ : ∃ x, [c1, c2, c3, c4, c5, c6][d]? = some x := ⟨[c1, c2, c3, c4, c5, c6][d], by simp⟩
    have hld : [AVal.int .i64 c1, .int .i64 c2, .int .i64 c3, .int .i64 c4, .int .i64 c5, .int .i64 c6][0 + d * 1]? = some (.int .i64 x) := by
      have : [AVal.int .i64 c1, .int .i64 c2, .int .i64 c3, .int .i64 c4, .int .i64 c5, .int .i64 c6] = [c1, c2, c3, c4, c5, c6].map (.int .i64) := rfl
      rw [this, List.getElem?_map, Nat.zero_add, Nat.mul_one, hx]
      rfl
    have hs1 : suits1 [c1, c2, c3, c4, c5, c6] ⟨lh, (d : Int), ll, lu⟩ = decide (ll ≤ x ∧ x ≤ lu) := by
      unfold suits1 atD
      rw [Int.toNat_natCast, hx]
      rfl
    unfold LookV.cells at q2
    dsimp only at q2
    cases hb : decide (ll ≤ x ∧ x ≤ lu) with
    | true =>
      refine Go.seq noJ_ok ?_
      refine Go.region noJ_ok rfl ?_
      refine GoR.op rfl rfl (aOp_lss rfl rfl (r := true) (decide_eq_true (by omega))) rfl ?_
      refine GoR.end ?_
      refine Go.seq noJ_ok ?_
      refine Go.cond noJ_ok (b := true) rfl ?_
      refine Go.code noJ_ok ?_
      refine Go.seq noJ_ok ?_
      refine Go.block noJ_ok ?_
      refine Go.seq noJ_ok ?_
      refine Go.region noJ_ok rfl ?_
      refine GoR.op rfl rfl (aOp_indexAddr Try.underlying25 sz59 rfl q1 rfl (Nat.ble_eq_true_of_le hi')) rfl ?_
      refine GoR.op rfl rfl (aOp_loadE ag59 sz59 rfl q2) rfl ?_
      refine GoR.alloc rfl rfl rfl zt59 rfl rfl fun h5 x5 f5 => ?_
      have := e0.1
      have := f0.1
      replace f0 := f0.ext x5
      replace e0 := e0.trans x5
      have := f5.1
      refine GoR.store rfl rfl rfl rfl rfl rfl f5 rfl sz59 rfl rfl rfl fun h6 u6 => ?_
      replace f5 := u6.has f5
      replace f0 := f0.upd u6 (by omega)
      replace e0 := e0.upd u6 (by omega)
      refine GoR.end ?_
      refine Go.seq noJ_ok ?_
      refine Go.drawnE plan103_0 ?_
      refine GoE.quiet rfl rfl (fa59_1 rfl) rfl ?_
      refine GoE.quiet rfl rfl (ld3 rfl f5 rfl) rfl ?_
      refine GoE.quiet rfl rfl (aOp_indexAddrArr Try.underlying140 sz3 rfl rfl (Nat.ble_eq_true_of_le hd6)) rfl ?_
      refine GoE.quiet rfl rfl (ld3 rfl f0 hld) rfl ?_
      refine GoE.quiet rfl rfl (fa59_2 rfl) rfl ?_
      refine GoE.quiet rfl rfl (fa30_0 rfl) rfl ?_
      refine GoE.quiet rfl rfl (ld3 rfl f5 rfl) rfl ?_
      refine GoE.quiet rfl rfl (fa59_2 rfl) rfl ?_
      refine GoE.quiet rfl rfl (fa30_1 rfl) rfl ?_
      refine GoE.quiet rfl rfl (ld3 rfl f5 rfl) rfl ?_
      refine GoE.call rfl rfl (aOp_callFunc aFunc66 rfl) (inside_ok x ll lu hb _) (dropF_drop (show bit? 1023 9 = true from rfl) (dropF_drop (show bit? 1023 8 = true from rfl) (dropF_drop (show bit? 1023 7 = true from rfl) (dropF_drop (show bit? 1023 6 = true from rfl) (dropF_drop (show bit? 1023 5 = true from rfl) (dropF_drop (show bit? 1023 4 = true from rfl) (dropF_drop (show bit? 1023 3 = true from rfl) (dropF_drop (show bit? 1023 2 = true from rfl) (dropF_drop (show bit? 1023 1 = true from rfl) (dropF_drop (show bit? 1023 0 = true from rfl) rfl)))))))))) ?_ (by rintro _ _ ⟨q, _⟩; cases q)
      rintro _ h7 ⟨q, x7⟩
      cases q
      replace f5 := f5.ext x7
      replace f0 := f0.ext x7
      replace e0 := e0.trans x7
      refine ⟨recheck_nil, _, rfl, ?_⟩
      refine GoE.quiet rfl rfl rfl rfl ?_
      refine GoE.end rfl ?_
      refine Go.cond noJ_ok (b := false) rfl ?_
      refine Go.code noJ_ok ?_
      refine Go.inBlock noJ_ok ?_
      refine Go.region noJ_ok rfl ?_
      refine GoR.op rfl rfl (aOp_add rfl rfl (by constructor <;> omega) rfl) rfl ?_
      refine GoR.op rfl rfl rfl rfl ?_
      refine GoR.end ?_
      exact again (m - 1) (i + 1) _ _ (by omega) ⟨rfl, rfl, rfl, rfl, trivial⟩ ⟨by omega, e0, (by rw [htk, hs1, hb]), f0⟩
    | false =>
      have hfin : suitsB L [c1, c2, c3, c4, c5, c6] = false := by
        cases q : suitsB L [c1, c2, c3, c4, c5, c6] with
        | false => rfl
        | true =>
          have := hle.1 q _ (List.mem_of_getElem? hl)
          rw [hs1, hb] at this
          cases this
      rw [hfin]
      refine Go.seq noJ_ok ?_
      refine Go.region noJ_ok rfl ?_
      refine GoR.op rfl rfl (aOp_lss rfl rfl (r := true) (decide_eq_true (by omega))) rfl ?_
      refine GoR.end ?_
      refine Go.seq noJ_ok ?_
      refine Go.cond noJ_ok (b := true) rfl ?_
      refine Go.code noJ_ok ?_
      refine Go.seq noJ_ok ?_
      refine Go.block noJ_ok ?_
      refine Go.seq noJ_ok ?_
      refine Go.region noJ_ok rfl ?_
      refine GoR.op rfl rfl (aOp_indexAddr Try.underlying25 sz59 rfl q1 rfl (Nat.ble_eq_true_of_le hi')) rfl ?_
      refine GoR.op rfl rfl (aOp_loadE ag59 sz59 rfl q2) rfl ?_
      refine GoR.alloc rfl rfl rfl zt59 rfl rfl fun h5 x5 f5 => ?_
      have := e0.1
      have := f0.1
      replace f0 := f0.ext x5
      replace e0 := e0.trans x5
      have := f5.1
      refine GoR.store rfl rfl rfl rfl rfl rfl f5 rfl sz59 rfl rfl rfl fun h6 u6 => ?_
      replace f5 := u6.has f5
      replace f0 := f0.upd u6 (by omega)
      replace e0 := e0.upd u6 (by omega)
      refine GoR.end ?_
      refine Go.seq noJ_ok ?_
      refine Go.drawnE plan103_0 ?_
      refine GoE.quiet rfl rfl (fa59_1 rfl) rfl ?_
      refine GoE.quiet rfl rfl (ld3 rfl f5 rfl) rfl ?_
      refine GoE.quiet rfl rfl (aOp_indexAddrArr Try.underlying140 sz3 rfl rfl (Nat.ble_eq_true_of_le hd6)) rfl ?_
      refine GoE.quiet rfl rfl (ld3 rfl f0 hld) rfl ?_
      refine GoE.quiet rfl rfl (fa59_2 rfl) rfl ?_
      refine GoE.quiet rfl rfl (fa30_0 rfl) rfl ?_
      refine GoE.quiet rfl rfl (ld3 rfl f5 rfl) rfl ?_
      refine GoE.quiet rfl rfl (fa59_2 rfl) rfl ?_
      refine GoE.quiet rfl rfl (fa30_1 rfl) rfl ?_
      refine GoE.quiet rfl rfl (ld3 rfl f5 rfl) rfl ?_
      refine GoE.call rfl rfl (aOp_callFunc aFunc66 rfl) (inside_ok x ll lu hb _) (dropF_drop (show bit? 1023 9 = true from rfl) (dropF_drop (show bit? 1023 8 = true from rfl) (dropF_drop (show bit? 1023 7 = true from rfl) (dropF_drop (show bit? 1023 6 = true from rfl) (dropF_drop (show bit? 1023 5 = true from rfl) (dropF_drop (show bit? 1023 4 = true from rfl) (dropF_drop (show bit? 1023 3 = true from rfl) (dropF_drop (show bit? 1023 2 = true from rfl) (dropF_drop (show bit? 1023 1 = true from rfl) (dropF_drop (show bit? 1023 0 = true from rfl) rfl)))))))))) ?_ (by rintro _ _ ⟨q, _⟩; cases q)
      rintro _ h7 ⟨q, x7⟩
      cases q
      replace f5 := f5.ext x7
      replace f0 := f0.ext x7
      replace e0 := e0.trans x7
      refine ⟨recheck_nil, _, rfl, ?_⟩
      refine GoE.quiet rfl rfl rfl rfl ?_
      refine GoE.end rfl ?_
      refine Go.cond noJ_ok (b := true) rfl ?_
      refine Go.seq noJ_ok ?_
      refine Go.region noJ_ok rfl ?_
      refine GoR.op rfl rfl rfl rfl ?_
      refine GoR.end ?_
      exact Go.ret noJ_ok (ret_end (aResult_of Try.func103 rfl rfl) ⟨rfl, e0⟩)
  · rw [List.take_of_length_le (by omega)] at hs
    rw [hs]
    refine Go.seq noJ_ok ?_
    refine Go.region noJ_ok rfl ?_
    refine GoR.op rfl rfl (aOp_lss rfl rfl (r := false) (decide_eq_false (by omega))) rfl ?_
    refine GoR.end ?_
    refine Go.seq noJ_ok ?_
    refine Go.cond noJ_ok (b := false) rfl ?_
    refine Go.code noJ_ok ?_
    refine Go.seq noJ_ok ?_
    refine Go.region noJ_ok rfl ?_
    refine GoR.op rfl rfl rfl rfl ?_
    refine GoR.end ?_
    exact Go.ret noJ_ok (ret_end (aResult_of Try.func103 rfl rfl) ⟨rfl, e0⟩)
theorem keep_ok (af sf : AVal) (ha : af.cells = [af]) (hs : sf.cells = [sf]) (h : AH) :
    Runs Try.prog 101 [af, sf] h (fun en h' => ∃ b3 b4, en = .ret (.func (.func 105) [] [.ptr b3 0, .ptr b4 0]) ∧ Ext h h' ∧ h.next ≤ b3 ∧ h.next ≤ b4 ∧ Has h' b3 (.cells .plain [af] 137) ∧ Has h' b4 (.cells .plain [sf] 150)) := by
  refine Runs.intro aFunc101 rfl rfl rfl rfl fun rest => ?_
  refine Go.seq noJ_ok ?_
  refine Go.region noJ_ok rfl ?_
  refine GoR.box rfl rfl rfl rfl rfl rfl fun h0 x0 f0 => ?_
  have e0 := x0
  have := f0.1
  refine GoR.box rfl rfl rfl rfl rfl rfl fun h1 x1 f1 => ?_
  have := e0.1
  have := f0.1
  replace f0 := f0.ext x1
  replace e0 := e0.trans x1
  have := f1.1
  refine GoR.op rfl rfl rfl rfl ?_
  refine GoR.end ?_
  refine Go.seq noJ_ok ?_
  refine Go.region noJ_ok rfl ?_
  iterate 2 refine GoR.op rfl rfl rfl rfl ?_
  refine GoR.end ?_
  exact Go.ret noJ_ok (ret_end (aResult_of Try.func101 rfl rfl) ⟨_, _, rfl, e0, by omega, by omega, (by rw [ha] at f0; exact f0), (by rw [hs] at f1; exact f1)⟩)
def cntP (p : List AVal → Bool) (items : List (List AVal)) (j : Nat) : Nat := ((items.take j).filter p).length
theorem cntP_succ {p : List AVal → Bool} {items : List (List AVal)} {j : Nat} {x : List AVal} (h : items[j]? = some x) : cntP p items (j + 1) = cntP p items j + (if p x then 1 else 0) := by
  unfold cntP
  rw [List.take_add_one, h, Option.toList_some, List.filter_append, List.length_append]
  cases q : p x <;> simp [q]
theorem cntP_at {p : List AVal → Bool} {x : List AVal} : ∀ {items : List (List AVal)} {j : Nat}, items[j]? = some x → p x = true → (items.filter p)[cntP p items j]? = some x
  | [], _, h, _ => by simp at h
  | y :: l, 0, h, hp => by
    simp only [List.getElem?_cons_zero] at h
    cases h
    unfold cntP
    rw [List.take_zero, List.filter_nil, List.length_nil, List.filter_cons_of_pos hp]
    rfl
  | y :: l, j + 1, h, hp => by
    have ih := cntP_at (items := l) (j := j) (by simpa using h) hp
    unfold cntP at ih ⊢
    rw [List.take_succ_cons]
    cases q : p y with
    | true => rw [List.filter_cons_of_pos q, List.filter_cons_of_pos q, List.length_cons, List.getElem?_cons_succ]; exact ih
    | false => rw [List.filter_cons_of_neg (by simp [q]), List.filter_cons_of_neg (by simp [q])]; exact ih
theorem cntP_all (p : List AVal → Bool) (items : List (List AVal)) : cntP p items items.length = (items.filter p).length := by unfold cntP; rw [List.take_length]
theorem cntP_le (p : List AVal → Bool) (items : List (List AVal)) {j : Nat} (hj : j < items.length) {x : List AVal} (h : items[j]? = some x) (hp : p x = true) : cntP p items j < (items.filter p).length := (List.getElem?_eq_some_iff.1 (cntP_at h hp)).1
structure KeepA (A : AH → Prop) (af sf : AVal) (b3 b4 : Nat) (h : AH) : Prop where
  a : A h
  af : Has h b3 (.cells .plain [af] 137)
  sf : Has h b4 (.cells .plain [sf] 150)
theorem keep1_it {g : FuncId} {gf : Func} {first cap : List AVal} {items : List (List AVal)} {A : AH → Prop} (hg : aFunc Try.prog g = some gf) (it : Iter Try.prog g first cap items A) (tv : List AVal) (p : List AVal → Bool)
    (hit : ∀ x, x ∈ items → x.length = 6 ∧ scalars x = true) (hs : ∀ x h, x ∈ items → A h → Runs Try.prog 103 [.agg tv, .agg x] h (fun en h' => en = .ret (.bool (p x)) ∧ Ext h h')) (hAe : ∀ h h', A h → Ext h h' → A h') (b3 b4 : Nat) :
    Iter Try.prog 105 [] [.ptr b3 0, .ptr b4 0] (items.filter p) (KeepA A (.func (.func g) first cap) (.func (.func 103) [.agg tv] []) b3 b4) := by
  intro y base S J E h hyc hys hA hb T j0
  show Runs Try.prog 105 [y, .ptr b3 0, .ptr b4 0] h _
  have e0 : Ext h h := Ext.refl _
  obtain ⟨aa, f0, f1⟩ := hA h (ExtF.of e0)
  refine Runs.intro aFunc105 rfl rfl rfl rfl fun rest => ?_
  refine Go.seq noJ_ok ?_
  refine Go.region noJ_ok rfl ?_
  refine GoR.box rfl rfl rfl rfl rfl rfl fun h2 x2 f2 => ?_
  have := e0.1
  have := f0.1
  have := f1.1
  replace f0 := f0.ext x2
  replace f1 := f1.ext x2
  replace e0 := e0.trans x2
  have := f2.1
  refine GoR.end ?_
  refine Go.seq noJ_ok ?_
  refine Go.region noJ_ok rfl ?_
  refine GoR.op rfl rfl (ld137 rfl f0 rfl) rfl ?_
  refine GoR.end ?_
  refine Go.block noJ_ok ?_
  rw [hyc] at f2
  have hSl : ∀ b, S b → b < h.next := fun b q => T.lt j0 q
  have hA2 : ∀ h', ExtF S h2 h' → KeepA A (.func (.func g) first cap) (.func (.func 103) [.agg tv] []) b3 b4 h' := fun h' x => hA h' (ExtF.trans (.of e0) (fun _ q => .inl q) x)
  refine Go.rangeTk (items := items) (A := A) S (fun j hh => J (cntP p items j) hh) (fun c hh => c = .ret ∧ ∃ k, k < (items.filter p).length ∧ E k hh) rfl hg Try.func105 it (fun b q => by have := hSl b q; omega) (fun h' x => (hA2 h' x).a) (T.ext j0 e0) ?_ ?_ ?_ ?_ ?_
  · rintro k h1 h3 j hn hk
    exact T.keepJ j hn fun b hb hq => hk b (by rcases hq with q | q; omega; have := hSl b q; omega)
  · rintro c h1 h3 ⟨q, k, hk, e⟩ hn hk'
    exact ⟨q, k, hk, T.keepE e hn fun b hb hq => hk' b (by rcases hq with q | q; omega; have := hSl b q; omega)⟩
  · rintro j item hj
    refine ⟨_, rfl, ?_⟩
    rintro hh lb r0 fr rest' Q' ij x1 hlb fl hready contT contF
    have hnS : ¬ S h.next := fun q => Nat.lt_irrefl _ (hSl _ q)
    have hbN := f2.1
    obtain ⟨aa', f0', f1'⟩ := hA2 hh x1
    replace f2 := f2.extF x1 hnS
    have hmem := List.mem_of_getElem? hj
    obtain ⟨hl6, hsc⟩ := hit item hmem
    have hx1 := x1.1
    have hb3 := f0.1
    have hb4 := f1.1
    have hb2 := f2.1
    have hbl := fl.1
    have hh2 := e0.1
    have hht : h.next < h2.next := by assumption
    clear f0 f1 e0 aa
    have e0 : Ext hh hh := Ext.refl _
    have hst1 : Nat.beq item.length 6 = true := by rw [hl6]; rfl
    have hst2 : splice [AVal.int .i64 0, .int .i64 0, .int .i64 0, .int .i64 0, .int .i64 0, .int .i64 0] 0 item = some item := splice_whole (by rw [hl6]; rfl)
    refine Go.region noJ_ok rfl ?_
    refine GoR.alloc rfl rfl rfl zt140 rfl rfl fun h3 x3 f3 => ?_
    have := e0.1
    have := fl.1
    have := f0'.1
    have := f1'.1
    have := f2.1
    replace fl := fl.ext x3
    replace f0' := f0'.ext x3
    replace f1' := f1'.ext x3
    replace f2 := f2.ext x3
    replace e0 := e0.trans x3
    have := f3.1
    refine GoR.store rfl rfl rfl rfl rfl rfl f3 rfl sz140 hst1 hsc hst2 fun h4 u4 => ?_
    replace f3 := u4.has f3
    replace fl := fl.upd u4 (by omega)
    replace f0' := f0'.upd u4 (by omega)
    replace f1' := f1'.upd u4 (by omega)
    replace f2 := f2.upd u4 (by omega)
    replace e0 := e0.upd u4 (by omega)
    refine GoR.end ?_
    refine Go.beginRound fl hready fun h5 u5 => ?_
    have g0 := f0'.upd u5 (by omega)
    have g1 := f1'.upd u5 (by omega)
    have g2 := f2.upd u5 (by omega)
    have g3 := f3.upd u5 (by omega)
    have g4 := u5.has fl
    have hn5 : hh.next ≤ h5.next := by rw [u5.1]; exact e0.1
    have hs5 : ∀ b, b < hh.next → b ≠ lb → h5.get b = hh.get b := fun b hb hne => by rw [u5.2.2 b hne, e0.2 b hb]
    have HA : A h5 := (hA2 h5 ⟨by omega, fun b hb hnS' => by rw [hs5 b (by omega) (by omega), x1.2 b hb hnS']⟩).a
    clear e0 f0' f1' f2 f3 fl
    have e0 : Ext h5 h5 := Ext.refl _
    have hJ' : ∀ h9, Ext h5 h9 → J (cntP p items j) h9 := fun h9 x9 => T.keepJ ij (by have := x9.1; omega) fun b hb hq => by
      have hbb : b < h.next := by
        rcases hq with q | q
        · omega
        · exact hSl b q
      rw [x9.2 b (by omega), hs5 b (by omega) (by omega)]
    have hX' : ∀ h9, Ext h5 h9 → ExtF (fun b => S b ∨ b = lb) hh h9 := fun h9 x9 => ⟨by have := x9.1; omega, fun b hb hnn => by rw [x9.2 b (by omega), hs5 b hb fun q => hnn (.inr q)]⟩
    have hsuit := hs item h5 hmem HA
    cases hp : p item with
    | false =>
      rw [hp] at hsuit
      refine Go.block noJ_ok ?_
      refine Go.seq noJ_ok ?_
      refine Go.region noJ_ok rfl ?_
      refine GoR.op rfl rfl (ld150 rfl g1 rfl) rfl ?_
      refine GoR.op rfl rfl (ld140 rfl g3 (slice_all hl6)) rfl ?_
      refine GoR.call rfl rfl (aOp_callVal rfl aFunc103 rfl) (hsuit) ?_ (by rintro _ _ ⟨q, _⟩; cases q)
      rintro _ h6 ⟨q, x6⟩
      cases q
      refine ⟨_, rfl, ?_⟩
      replace g0 := g0.ext x6
      replace g1 := g1.ext x6
      replace g2 := g2.ext x6
      replace g3 := g3.ext x6
      replace g4 := g4.ext x6
      replace e0 := e0.trans x6
      refine GoR.op rfl rfl rfl rfl ?_
      iterate 4 refine GoR.skip rfl rfl rfl ?_
      refine GoR.op rfl rfl rfl rfl ?_
      refine GoR.end ?_
      refine Go.cond noJ_ok (b := false) rfl ?_
      refine Go.code noJ_ok ?_
      refine Go.inBlock noJ_ok ?_
      exact contT _ _ (by rw [cntP_succ hj, hp]; exact hJ' _ e0) (hX' _ e0) g4
    | true =>
      rw [hp] at hsuit
      refine Go.block noJ_ok ?_
      refine Go.seq noJ_ok ?_
      refine Go.region noJ_ok rfl ?_
      refine GoR.op rfl rfl (ld150 rfl g1 rfl) rfl ?_
      refine GoR.op rfl rfl (ld140 rfl g3 (slice_all hl6)) rfl ?_
      refine GoR.call rfl rfl (aOp_callVal rfl aFunc103 rfl) (hsuit) ?_ (by rintro _ _ ⟨q, _⟩; cases q)
      rintro _ h6 ⟨q, x6⟩
      cases q
      refine ⟨_, rfl, ?_⟩
      replace g0 := g0.ext x6
      replace g1 := g1.ext x6
      replace g2 := g2.ext x6
      replace g3 := g3.ext x6
      replace g4 := g4.ext x6
      replace e0 := e0.trans x6
      refine GoR.op rfl rfl rfl rfl ?_
      refine GoR.op rfl rfl (ld150 rfl g2 rfl) rfl ?_
      refine GoR.op rfl rfl (ld140 rfl g3 (slice_all hl6)) rfl ?_
      have hlbS : ¬ S lb := fun q => by have := hSl _ q; omega
      obtain ⟨ax, a1, a2, a3⟩ := T.take (cntP_at hj hp) (hJ' _ e0)
      refine GoR.does rfl rfl (aOp_callY rfl rfl a1) a2 a3 ?_ (by rintro _ _ ⟨_, ⟨q, _⟩ | ⟨q, _⟩⟩ <;> cases q)
      rintro v h8 ⟨x8, ⟨q, j8⟩ | ⟨q, e8⟩⟩
      · cases q
        refine ⟨_, rfl, ?_⟩
        iterate 2 refine GoR.op rfl rfl rfl rfl ?_
        refine GoR.end ?_
        refine Go.cond noJ_ok (b := false) rfl ?_
        refine Go.code noJ_ok ?_
        refine Go.inBlock noJ_ok ?_
        exact contT _ _ (by rw [cntP_succ hj, hp]; exact j8) ((hX' _ e0).trans (fun _ q => .inl (.inl q)) x8) (g4.extF x8 hlbS)
      · cases q
        refine ⟨_, rfl, ?_⟩
        iterate 2 refine GoR.op rfl rfl rfl rfl ?_
        refine GoR.end ?_
        refine Go.cond noJ_ok (b := true) rfl ?_
        exact contF _ _ _ _ (.inl rfl) ⟨rfl, _, cntP_le p items (List.getElem?_eq_some_iff.1 hj).1 hj hp, e8⟩ ((hX' _ e0).trans (fun _ q => .inl (.inl q)) x8) (g4.extF x8 hlbS)
  · intro d h3 x3 hd hdd ij
    have hx3 := x3.1
    have hh2 := e0.1
    refine Go.inBlock noJ_ok ?_
    refine Go.endC hdd fun h9 u9 => ⟨aResult_of Try.func105 rfl rfl, rfl, ⟨by rw [u9.1]; omega, fun b hb hnn => by rw [u9.2.2 b (by omega), x3.2 b (by omega) hnn, e0.2 b hb]⟩, .inl ?_⟩
    rw [cntP_all] at ij
    exact T.keepJ ij (by rw [u9.1]; exact Nat.le_refl _) fun b hb hq => u9.2.2 b (by rcases hq with q | q; omega; have := hSl b q; omega)
  · rintro c d h3 x3 hd hdd ⟨rfl, k, hk, e⟩
    have hx3 := x3.1
    have hh2 := e0.1
    refine Go.retC hdd fun h9 u9 => ⟨aResult_of Try.func105 rfl rfl, rfl, ⟨by rw [u9.1]; omega, fun b hb hnn => by rw [u9.2.2 b (by omega), x3.2 b (by omega) hnn, e0.2 b hb]⟩, .inr ⟨k, hk, ?_⟩⟩
    exact T.keepE e (by rw [u9.1]; exact Nat.le_refl _) fun b hb hq => u9.2.2 b (by rcases hq with q | q; omega; have := hSl b q; omega)
end Go.Proofs.Ytmdheijpnlonoaa

namespace Go.Proofs.Ytmdheijpnlonoaa
open Go Go.AbsE
set_option linter.unusedSimpArgs false
set_option maxRecDepth 100000
set_option maxHeartbeats 0
set_option linter.unusedVariables false
structure TurfV where
  p : Nat
  lo : Int
  hi : Int
  looks : List LookV
def TurfV.cells (t : TurfV) (sl : AVal) : List AVal := [.int .i64 t.p, .int .i64 t.lo, .int .i64 t.hi, sl]
structure TurfV.Ok (t : TurfV) : Prop where
  p : t.p < 3
  w : 0 ≤ t.lo ∧ t.lo ≤ t.hi ∧ t.hi ≤ 100
  d : ∀ l, l ∈ t.looks → 0 ≤ l.day ∧ l.day < 6
  n : t.looks.length ≤ 100
def Dries (a b c : Int) : Prop := 0 ≤ a ∧ a ≤ 20 ∧ 0 ≤ b ∧ b ≤ 20 ∧ 0 ≤ c ∧ c ≤ 20
def allC (a b c : Int) (t : TurfV) (rs : List Int) : List (List Int) := (List.range (t.hi - t.lo + 1).toNat).map fun k : Nat => crs a b c t.p rs (t.lo + k)
def rightC (a b c : Int) (t : TurfV) (rs : List Int) : List (List Int) := (allC a b c t rs).filter (suitsB t.looks)
def dec (l : List AVal) : List Int := l.map fun | .int _ n => n | _ => 0
theorem dec_i64s (c : List Int) : dec (i64s c) = c := by
  unfold dec i64s
  rw [List.map_map]
  conv => rhs; rw [← List.map_id c]
  rfl
theorem rightC_items (a b c : Int) (t : TurfV) (rs : List Int) : (crsItems a b c t.p rs t.lo (t.hi - t.lo + 1).toNat).filter (fun x => suitsB t.looks (dec x)) = (rightC a b c t rs).map i64s := by
  have : crsItems a b c t.p rs t.lo (t.hi - t.lo + 1).toNat = (allC a b c t rs).map i64s := by
    unfold crsItems allC
    rw [List.map_map]
    rfl
  rw [this, List.filter_map]
  congr 1
  unfold rightC
  congr 1
  funext x
  simp [dec_i64s]
theorem rightC_len {a b c : Int} {t : TurfV} {rs : List Int} (hn : rs.length ≤ 6) {x : List Int} (hx : x ∈ rightC a b c t rs) : x.length = 6 := by
  obtain ⟨k, _, rfl⟩ := List.mem_map.1 (List.mem_filter.1 hx).1
  exact crs_len _ _ _ _ _ hn
theorem rightC_in {a b c : Int} {t : TurfV} {rs : List Int} {x : List Int} (hx : x ∈ rightC a b c t rs) : ∀ n, n ∈ x → 0 ≤ n ∧ n ≤ 100 := by
  obtain ⟨k, _, rfl⟩ := List.mem_map.1 (List.mem_filter.1 hx).1
  exact crs_in _ _ _ _ _ _
theorem scal_i64s : ∀ l : List Int, scalars (i64s l) = true
  | [] => rfl
  | x :: l => by
    have := scal_i64s l
    unfold i64s at this ⊢
    simp only [List.map_cons, scalars, this, Bool.and_true]
    rfl
def RightIs (a b c : Int) (t : TurfV) (sl : AVal) (bb : Nat) (rs : List Int) (h h' : AH) (en : AEnd) : Prop :=
  ∃ cap A, en = .ret (.func (.func 105) [] cap) ∧ Ext h h' ∧ Iter Try.prog 105 [] cap ((rightC a b c t rs).map i64s) A ∧
    ∀ h2, Has h2 bb (.cells .plain (rs.map (wV a b c)) 134) → SliceOf h2 4 sl (t.looks.map LookV.cells) → h'.next ≤ h2.next → (∀ b, h.next ≤ b → b < h'.next → h2.get b = h'.get b) → A h2
theorem right_ok {a b c : Int} (D : Dries a b c) {t : TurfV} (O : t.Ok) (sl : AVal) (bb n : Nat) (rs : List Int) (hn : rs.length = n) (hn6 : n ≤ 6) (hr : ∀ r, r ∈ rs → r ≤ 10) (h : AH)
    (hw : Has h bb (.cells .plain (rs.map (wV a b c)) 134)) (hL : SliceOf h 4 sl (t.looks.map LookV.cells)) :
    Runs Try.prog 95 [.agg (t.cells sl), .slice bb 0 n n] h (fun en h' => RightIs a b c t sl bb rs h h' en) := by
  obtain ⟨hsl1, hsl2⟩ := hL.scal
  have hsl3 := SliceOf.same hL
  have hsc : scalars (t.cells sl) = true := by
    unfold TurfV.cells
    simp only [scalars, Bool.and_true] at hsl1 ⊢
    simp only [hsl1, Bool.and_true]
    rfl
  have hsm : sameA (.agg (t.cells sl)) (.agg (t.cells sl)) = true := by
    unfold TurfV.cells
    simp [sameA, sameAs, eqI_eq, hsl3]
  have hsm2 : sameA (.func (.func 103) [.agg (t.cells sl)] []) (.func (.func 103) [.agg (t.cells sl)] []) = true := by
    unfold TurfV.cells
    simp [sameA, sameAs, eqI_eq, hsl3]
  have hbb := hw.1
  unfold TurfV.cells
  refine Runs.intro aFunc95 rfl rfl rfl rfl fun rest => ?_
  refine Go.seq noJ_ok ?_
  refine Go.region noJ_ok rfl ?_
  refine GoR.box rfl rfl rfl rfl rfl rfl fun h0 x0 f0 => ?_
  have := hw.1
  replace hw := hw.ext x0
  have e0 := x0
  have := f0.1
  refine GoR.op rfl rfl rfl rfl ?_
  refine GoR.end ?_
  refine Go.seq noJ_ok ?_
  refine Go.drawnE plan95_0 ?_
  refine GoE.quiet rfl rfl (ld106 rfl f0 rfl) rfl ?_
  refine GoE.quiet rfl rfl rfl rfl ?_
  refine GoE.quiet rfl rfl (ld106 rfl f0 rfl) rfl ?_
  refine GoE.quiet rfl rfl rfl rfl ?_
  refine GoE.call rfl rfl (aOp_callFunc aFunc102 rfl) (courses_ok (t.cells sl) ⟨_, _, _, _, rfl⟩ hsc (.slice bb 0 n n) rfl rfl _) (dropF_keep (show bit? 3 4 = false from rfl) (dropF_keep (show bit? 3 3 = false from rfl) (dropF_drop (show bit? 3 1 = true from rfl) (dropF_drop (show bit? 3 0 = true from rfl) rfl)))) ?_ (by rintro _ _ ⟨c1, c2, q, _, g1, g2, f21, f22⟩; cases q)
  rintro _ h1 ⟨c1, c2, q, x1, g1, g2, f21, f22⟩
  cases q
  replace f0 := f0.ext x1
  replace hw := hw.ext x1
  replace e0 := e0.trans x1
  refine ⟨(recheck_cons (h2 := h1) rfl (rfl) (by first | rfl | exact sameA_int _ _ | exact sameA_bool _ | exact sameA_agg2 _ _ | assumption | (simp [sameA, sameAs, eqI_eq]; done)) (recheck_cons (h2 := h1) rfl (ld106 rfl f0 rfl) (by first | rfl | exact sameA_int _ _ | exact sameA_bool _ | exact sameA_agg2 _ _ | assumption | (simp [sameA, sameAs, eqI_eq]; done)) recheck_nil)), _, rfl, ?_⟩
  refine GoE.call rfl rfl (aOp_callFunc aFunc101 rfl) (keep_ok (.func (.func 106) [] [.ptr c1 0, .ptr c2 0]) (.func (.func 103) [.agg (t.cells sl)] []) rfl rfl _) (dropF_drop (show bit? 31 4 = true from rfl) (dropF_drop (show bit? 31 3 = true from rfl) rfl)) ?_ (by rintro _ _ ⟨c3, c4, q, _, g3, g4, f31, f32⟩; cases q)
  rintro _ h23 ⟨c3, c4, q, x23, g3, g4, f31, f32⟩
  cases q
  replace f21 := f21.ext x23
  replace f22 := f22.ext x23
  replace f0 := f0.ext x23
  replace hw := hw.ext x23
  replace e0 := e0.trans x23
  refine ⟨recheck_nil, _, rfl, ?_⟩
  refine GoE.quiet rfl rfl rfl rfl ?_
  refine GoE.end rfl ?_
  refine Go.ret noJ_ok (ret_end (aResult_of Try.func95 rfl rfl) ⟨[.ptr c3 0, .ptr c4 0], KeepA (fun h => CrsA c1 c2 bb n (t.cells sl) (rs.map (wV a b c)) h ∧ SliceOf h 4 sl (t.looks.map LookV.cells)) (.func (.func 106) [] [.ptr c1 0, .ptr c2 0]) (.func (.func 103) [.agg (t.cells sl)] []) c3 c4, rfl, e0, ?_, ?_⟩)
  · have := keep1_it aFunc106 (Iter.mono (A' := fun h => CrsA c1 c2 bb n (t.cells sl) (rs.map (wV a b c)) h ∧ SliceOf h 4 sl (t.looks.map LookV.cells)) (courses1_it a b c D t.p O.p t.lo t.hi sl O.w c1 c2 bb n rs hn hn6 hr) fun h k => k.1) (t.cells sl) (fun x => suitsB t.looks (dec x)) ?_ ?_ ?_ c3 c4
    · rw [rightC_items] at this
      exact this
    · intro x hx
      obtain ⟨k, _, rfl⟩ := List.mem_map.1 hx
      refine ⟨by unfold i64s; rw [List.length_map]; exact crs_len _ _ _ _ _ (by omega), scal_i64s _⟩
    · intro x h' hx hA
      obtain ⟨k, _, rfl⟩ := List.mem_map.1 hx
      rw [dec_i64s]
      exact suits_ok t.p t.lo t.hi sl t.looks h' hA.2 O.d O.n _ (crs_len _ _ _ _ _ (by omega))
    · intro h1 h2 hA e
      exact ⟨⟨hA.1.t.ext e, hA.1.d.ext e, hA.1.w.ext e⟩, hA.2.ext e⟩
  · intro h2 hw2 hL2 hn2 hs2
    have q0 := x0.1
    have q1 := x1.1
    have q2 := x23.1
    exact ⟨⟨⟨f21.fresh (by omega) hn2 hs2, f22.fresh (by omega) hn2 hs2, hw2⟩, hL2⟩, f31.fresh (by omega) hn2 hs2, f32.fresh (by omega) hn2 hs2⟩
def possB (a b c : Int) (t : TurfV) (rs : List Int) : Bool := !(rightC a b c t rs).isEmpty
theorem possible_ok {a b c : Int} (D : Dries a b c) {t : TurfV} (O : t.Ok) (sl : AVal) (bb n : Nat) (rs : List Int) (hn : rs.length = n) (hn6 : n ≤ 6) (hr : ∀ r, r ∈ rs → r ≤ 10) (h : AH)
    (hw : Has h bb (.cells .plain (rs.map (wV a b c)) 134)) (hL : SliceOf h 4 sl (t.looks.map LookV.cells)) :
    Runs Try.prog 71 [.agg (t.cells sl), .slice bb 0 n n] h (fun en h' => en = .ret (.bool (possB a b c t rs)) ∧ Ext h h') := by
  have hbb := hw.1
  refine Runs.intro aFunc71 rfl rfl rfl rfl fun rest => ?_
  refine Go.seq noJ_ok ?_
  refine Go.region noJ_ok rfl ?_
  refine GoR.box rfl rfl rfl rfl rfl rfl fun h0 x0 f0 => ?_
  have := hw.1
  replace hw := hw.ext x0
  have e0 := x0
  have := f0.1
  refine GoR.alloc rfl rfl rfl zt4 rfl rfl fun h1 x1 f1 => ?_
  have := e0.1
  have := f0.1
  have := hw.1
  replace f0 := f0.ext x1
  replace hw := hw.ext x1
  replace e0 := e0.trans x1
  have := f1.1
  refine GoR.end ?_
  iterate 2 refine Go.seq noJ_ok ?_
  refine Go.region noJ_ok rfl ?_
  refine GoR.op rfl rfl (ld106 rfl f0 rfl) rfl ?_
  refine GoR.op rfl rfl rfl rfl ?_
  refine GoR.call rfl rfl (aOp_callFunc aFunc95 rfl) (right_ok D O sl bb n rs hn hn6 hr _ (hw) (hL.ext e0)) ?_ (by rintro _ _ ⟨cap, A, q, _, hit, hA⟩; cases q)
  rintro _ h2 ⟨cap, A, q, x2, hit, hA⟩
  cases q
  refine ⟨_, rfl, ?_⟩
  replace f1 := f1.ext x2
  replace f0 := f0.ext x2
  replace hw := hw.ext x2
  replace e0 := e0.trans x2
  refine GoR.end ?_
  refine Go.block noJ_ok ?_
  have hx0 := x0.1
  have hx1 := x1.1
  have hx2 := x2.1
  have hbb2 : bb < h.next := by assumption
  have hlt1 := f1.1
  have hw0 := (hw : Has h2 bb _)
  refine Go.rangeTk (items := (rightC a b c t rs).map i64s) (A := A) (fun b => b = h0.next) (fun j hh => j = 0 ∧ Has hh h0.next (.cells .plain [.bool false] 4)) (fun c' hh => c' = .ret ∧ rightC a b c t rs ≠ [] ∧ Has hh h0.next (.cells .plain [.bool true] 4))
    rfl aFunc105 Try.func71 hit (fun b q => by omega) (fun h' x => hA h' (hw0.extF x (by omega)) (hL.ext (x.low e0 (fun b q => by omega))) x.1 (fun b hb1 hb2 => x.2 b hb2 (by omega))) ⟨rfl, f1⟩ ?_ ?_ ?_ ?_ ?_
  · rintro k p1 p2 ⟨q, f⟩ hn' hk
    exact ⟨q, f.keep hn' (hk _ hlt1)⟩
  · rintro k p1 p2 ⟨q, q2, f⟩ hn' hk
    exact ⟨q, q2, f.keep hn' (hk _ hlt1)⟩
  · rintro j item hj
    refine ⟨_, rfl, ?_⟩
    rintro hh lb r0 fr rest' Q' ⟨rfl, f⟩ x5 hlb fl hready contT contF
    have hne : rightC a b c t rs ≠ [] := fun q => by rw [q] at hj; simp at hj
    have hx5 := x5.1
    have hfl := fl.1
    refine Go.code noJ_ok ?_
    refine Go.beginRound fl hready fun h5 u5 => ?_
    replace f := f.upd u5 (by omega)
    replace fl := u5.has fl
    have e7 : Ext h h5 := Ext.upd (x5.low e0 (fun b q => by omega)) u5 (by omega)
    refine Go.block noJ_ok ?_
    refine Go.seq noJ_ok ?_
    refine Go.region noJ_ok rfl ?_
    refine GoR.store rfl rfl rfl rfl rfl rfl f rfl sz4 rfl rfl rfl fun h6 u6 => ?_
    replace f := u6.has f
    replace fl := fl.upd u6 (by omega)
    replace e7 := e7.upd u6 (by omega)
    refine GoR.end ?_
    refine contF _ _ _ _ (.inl rfl) ⟨rfl, hne, f⟩ ⟨?_, fun b hb hnn => ?_⟩ fl
    · rw [u6.1, u5.1]; exact Nat.le_refl _
    · rw [u6.2.2 b (fun q => hnn (.inl q)), u5.2.2 b (fun q => hnn (.inr q))]
  · rintro d h3 x3 hd hdd ⟨hl0, f⟩
    have e7 : Ext h h3 := x3.low e0 (fun b q => by omega)
    have hx3 := x3.1
    refine Go.inBlock noJ_ok ?_
    refine Go.seq noJ_ok ?_
    refine Go.region noJ_ok rfl ?_
    refine GoR.store rfl rfl rfl rfl rfl rfl f rfl sz4 rfl rfl rfl fun h4 u4 => ?_
    replace hdd := hdd.upd u4 (by omega)
    replace f := u4.has f
    replace e7 := e7.upd u4 (by omega)
    refine GoR.end ?_
    have hp : possB a b c t rs = false := by
      unfold possB
      rw [List.length_map] at hl0
      rw [List.length_eq_zero_iff.1 hl0]
      rfl
    rw [hp]
    exact Go.retC hdd fun h9 u9 => ⟨aResult_of Try.func71 rfl (aResults_cell rfl (f.upd u9 (by omega)) (inCells_one ag4 rfl)), rfl, e7.upd u9 (by omega)⟩
  · rintro c' d h3 x3 hd hdd ⟨rfl, hne, f⟩
    have e7 : Ext h h3 := x3.low e0 (fun b q => by omega)
    have hx3 := x3.1
    have hp : possB a b c t rs = true := by
      unfold possB
      cases q : rightC a b c t rs with
      | nil => exact absurd q hne
      | cons _ _ => rfl
    rw [hp]
    exact Go.retC hdd fun h9 u9 => ⟨aResult_of Try.func71 rfl (aResults_cell rfl (f.upd u9 (by omega)) (inCells_one ag4 rfl)), rfl, e7.upd u9 (by omega)⟩
end Go.Proofs.Ytmdheijpnlonoaa

namespace Go.Proofs.Ytmdheijpnlonoaa
open Go Go.AbsE
set_option linter.unusedSimpArgs false
set_option maxRecDepth 100000
set_option maxHeartbeats 0
set_option linter.unusedVariables false
theorem range_set {α : Type} (f : Nat → α) {i m : Nat} (v : α) : ((List.range m).map f).set i v = (List.range m).map fun d => if d = i then v else f d := by
  apply List.ext_getElem?
  intro j
  rw [List.getElem?_set]
  simp only [List.length_map, List.length_range, List.getElem?_map]
  by_cases hij : i = j
  · subst hij
    by_cases hm : i < m
    · simp [hm]
    · simp [hm, List.getElem?_range]
  · rw [if_neg hij]
    by_cases hm : j < m
    · simp [List.getElem?_range hm, show ¬ j = i from fun q => hij q.symm]
    · simp [hm]
theorem range_at {α : Type} (f : Nat → α) {i m : Nat} (hi : i < m) : ((List.range m).map f)[i]? = some (f i) := by
  rw [List.getElem?_map, List.getElem?_range hi]; rfl
def noE : Int × Int := (0, 0)
def stepE (n : Nat) (c : List Int) (st : List (Int × Int)) : List (Int × Int) := (List.range 6).map fun d => if d < n then joinL [(st[d]?).getD noE, (atD c d, atD c d)] else (st[d]?).getD noE
def startE (n : Nat) : List (Int × Int) := (List.range 6).map fun d => if d < n then noSp else noE
theorem stepE_len (n : Nat) (c : List Int) (st : List (Int × Int)) : (stepE n c st).length = 6 := by simp [stepE]
theorem stepE_set {i : Nat} (hi : i < 6) (c : List Int) (st : List (Int × Int)) : (stepE i c st).set i (joinL [(st[i]?).getD noE, (atD c i, atD c i)]) = stepE (i + 1) c st := by
  unfold stepE
  rw [range_set]
  apply List.map_congr_left
  intro d _
  by_cases h1 : d = i
  · subst h1; rw [if_pos rfl, if_pos (by omega)]
  · rw [if_neg h1]
    by_cases h2 : d < i
    · rw [if_pos h2, if_pos (by omega)]
    · rw [if_neg h2, if_neg (by omega)]
theorem stepE_at {i : Nat} (hi : i < 6) (c : List Int) (st : List (Int × Int)) : (stepE i c st)[i]? = some ((st[i]?).getD noE) := by
  unfold stepE
  rw [range_at _ hi, if_neg (Nat.lt_irrefl _)]
theorem startE_set {i : Nat} : (startE i).set i noSp = startE (i + 1) := by
  unfold startE
  rw [range_set]
  apply List.map_congr_left
  intro d _
  by_cases h1 : d = i
  · subst h1; rw [if_pos rfl, if_pos (by omega)]
  · rw [if_neg h1]
    by_cases h2 : d < i
    · rw [if_pos h2, if_pos (by omega)]
    · rw [if_neg h2, if_neg (by omega)]
theorem stepE_zero (c : List Int) {st : List (Int × Int)} (h : st.length = 6) : stepE 0 c st = st := by
  obtain ⟨a, b, c', d, e, f, rfl⟩ := six h
  rfl
theorem splice_two {v : Int × Int} : ∀ {l : List (Int × Int)} {d : Nat}, d < l.length → splice (l.flatMap spC) (0 + d * 2) (spC v) = some ((l.set d v).flatMap spC)
  | [], _, h => by simp at h
  | x :: l, 0, _ => by
    show splice (AVal.int .i64 x.1 :: .int .i64 x.2 :: l.flatMap spC) 0 [.int .i64 v.1, .int .i64 v.2] = _
    cases hq : l.flatMap spC with
    | nil => simp [splice, List.flatMap_cons, spC, hq]
    | cons y ys => simp [splice, List.flatMap_cons, spC, hq]
  | x :: l, d + 1, h => by
    have ih := splice_two (v := v) (l := l) (d := d) (by simpa using h)
    rw [show 0 + (d + 1) * 2 = (0 + d * 2) + 1 + 1 by omega]
    show splice (AVal.int .i64 x.1 :: .int .i64 x.2 :: l.flatMap spC) (0 + d * 2 + 1 + 1) (spC v) = _
    simp only [splice, ih]
    rfl
def evL (a b c : Int) (t : TurfV) (rs : List Int) : List (Int × Int) := (rightC a b c t rs).foldl (fun st x => stepE rs.length x st) (startE rs.length)
theorem fold_len (n : Nat) : ∀ (l : List (List Int)) (st : List (Int × Int)), st.length = 6 → (l.foldl (fun st x => stepE n x st) st).length = 6
  | [], _, h => h
  | x :: l, _, h => fold_len n l _ (stepE_len _ _ _)
theorem startE_len (n : Nat) : (startE n).length = 6 := by simp [startE]
theorem evL_len (a b c : Int) (t : TurfV) (rs : List Int) : (evL a b c t rs).length = 6 := fold_len _ _ _ (startE_len _)
theorem evenings_ok {a b c : Int} (D : Dries a b c) {t : TurfV} (O : t.Ok) (sl : AVal) (bb n : Nat) (rs : List Int) (hn : rs.length = n) (hn6 : n ≤ 6) (hr : ∀ r, r ∈ rs → r ≤ 10) (h : AH)
    (hw : Has h bb (.cells .plain (rs.map (wV a b c)) 134)) (hL : SliceOf h 4 sl (t.looks.map LookV.cells)) :
    Runs Try.prog 73 [.agg (t.cells sl), .slice bb 0 n n] h (fun en h' => en = .ret (.agg ((evL a b c t rs).flatMap spC)) ∧ Ext h h') := by
  have hbb := hw.1
  have hwf : ∀ h', Ext h h' → Has h' bb (.cells .plain (rs.map (wV a b c)) 134) := fun h' e => hw.ext e
  clear hw
  refine Runs.intro aFunc73 rfl rfl rfl rfl fun rest => ?_
  refine Go.seq noJ_ok ?_
  refine Go.region noJ_ok rfl ?_
  refine GoR.box rfl rfl rfl rfl rfl rfl fun h0 x0 f0 => ?_
  have e0 := x0
  have := f0.1
  refine GoR.box rfl rfl rfl rfl rfl rfl fun h1 x1 f1 => ?_
  have := e0.1
  have := f0.1
  replace f0 := f0.ext x1
  replace e0 := e0.trans x1
  have := f1.1
  refine GoR.alloc rfl rfl rfl zt111 rfl rfl fun h2 x2 f2 => ?_
  have := e0.1
  have := f1.1
  have := f0.1
  replace f1 := f1.ext x2
  replace f0 := f0.ext x2
  replace e0 := e0.trans x2
  have := f2.1
  refine GoR.end ?_
  iterate 2 refine Go.seq noJ_ok ?_
  refine Go.region noJ_ok rfl ?_
  refine GoR.op rfl rfl (ld103 rfl f1 rfl) rfl ?_
  iterate 2 refine GoR.op rfl rfl rfl rfl ?_
  refine GoR.end ?_
  refine Go.block noJ_ok ?_
  have hx0 := x0.1
  have hx1 := x1.1
  have hx2 := x2.1
  refine Go.loopKeep (fun i : Nat => [(2, .ptr h.next 0), (3, .ptr h0.next 0), (4, .ptr h1.next 0), (9, .int .i64 n), (10, .int .i64 (i : Nat))])
    (fun m i h' => m + i = n ∧ Ext h h' ∧ Has h' h.next (.cells .plain (t.cells sl) 106) ∧ Has h' h0.next (.cells .plain [.slice bb 0 n n] 103) ∧ Has h' h1.next (.cells .plain ((startE i).flatMap spC) 111))
    (n := n) 0 ⟨rfl, rfl, rfl, rfl, rfl, trivial⟩ ⟨rfl, e0, f0, f1, f2⟩ ?_
  clear e0 f0 f1 f2
  rintro m i h5 ⟨hm, e0, f0, f1, f2⟩ again
  by_cases hi' : i < n
  · have hi6 : i < 6 := by omega
    have hsp : splice ((startE i).flatMap spC) (0 + i * 2) (AVal.agg (spC (joinL []))).cells = some ((startE (i + 1)).flatMap spC) := by
      rw [← startE_set]
      exact splice_two (by rw [startE_len]; omega)
    refine Go.seq noJ_ok ?_
    refine Go.region noJ_ok rfl ?_
    refine GoR.op rfl rfl (aOp_lss rfl rfl (r := true) (decide_eq_true (by omega))) rfl ?_
    refine GoR.end ?_
    refine Go.seq noJ_ok ?_
    refine Go.cond noJ_ok (b := true) rfl ?_
    refine Go.code noJ_ok ?_
    refine Go.seq noJ_ok ?_
    refine Go.block noJ_ok ?_
    refine Go.seq noJ_ok ?_
    refine Go.region noJ_ok rfl ?_
    iterate 2 refine GoR.op rfl rfl rfl rfl ?_
    refine GoR.end ?_
    refine Go.region noJ_ok rfl ?_
    refine GoR.op rfl rfl rfl rfl ?_
    refine GoR.call rfl rfl (aOp_callFunc aFunc76 rfl) (join_ok [] .nilslice _ .nil (by decide)) ?_ (by rintro _ _ ⟨q, _⟩; cases q)
    rintro _ h6 ⟨q, x6⟩
    cases q
    refine ⟨_, rfl, ?_⟩
    replace f0 := f0.ext x6
    replace f1 := f1.ext x6
    replace f2 := f2.ext x6
    replace e0 := e0.trans x6
    refine GoR.op rfl rfl (aOp_indexAddrArr Try.underlying111 sz30 rfl rfl (Nat.ble_eq_true_of_le hi6)) rfl ?_
    refine GoR.store rfl rfl rfl rfl rfl rfl f2 rfl sz30 rfl rfl hsp fun h7 u7 => ?_
    replace f0 := f0.upd u7 (by omega)
    replace f1 := f1.upd u7 (by omega)
    replace f2 := u7.has f2
    replace e0 := e0.upd u7 (by omega)
    refine GoR.end ?_
    refine Go.inBlock noJ_ok ?_
    refine Go.region noJ_ok rfl ?_
    refine GoR.op rfl rfl (aOp_add rfl rfl (by constructor <;> omega) rfl) rfl ?_
    refine GoR.op rfl rfl rfl rfl ?_
    refine GoR.end ?_
    exact again (m - 1) (i + 1) _ _ (by omega) ⟨rfl, rfl, rfl, rfl, rfl, trivial⟩ ⟨by omega, e0, f0, f1, f2⟩
  · have hin : i = n := by omega
    subst hin
    have hl5 := f2.1
    refine Go.seq noJ_ok ?_
    refine Go.region noJ_ok rfl ?_
    refine GoR.op rfl rfl (aOp_lss rfl rfl (r := false) (decide_eq_false (by omega))) rfl ?_
    refine GoR.end ?_
    refine Go.seq noJ_ok ?_
    refine Go.cond noJ_ok (b := false) rfl ?_
    refine Go.code noJ_ok ?_
    iterate 2 refine Go.seq noJ_ok ?_
    refine Go.region noJ_ok rfl ?_
    refine GoR.op rfl rfl (ld106 rfl f0 rfl) rfl ?_
    refine GoR.op rfl rfl (ld103 rfl f1 rfl) rfl ?_
    refine GoR.call rfl rfl (aOp_callFunc aFunc95 rfl) (right_ok D O sl bb i rs hn hn6 hr _ (hwf _ e0) (hL.ext e0)) ?_ (by rintro _ _ ⟨cap, A, q, _, hit, hA⟩; cases q)
    rintro _ h6 ⟨cap, A, q, x6, hit, hA⟩
    cases q
    refine ⟨_, rfl, ?_⟩
    replace f0 := f0.ext x6
    replace f2 := f2.ext x6
    replace f1 := f1.ext x6
    replace e0 := e0.trans x6
    refine GoR.end ?_
    refine Go.block noJ_ok ?_
    have hx6 := x6.1
    have hlt2 := f2.1
    have he0 := e0.1
    refine Go.rangeTk (items := (rightC a b c t rs).map i64s) (A := A) (fun b => b = h1.next) (fun j hh => Has hh h1.next (.cells .plain ((((rightC a b c t rs).take j).foldl (fun st x => stepE i x st) (startE i)).flatMap spC) 111)) (fun _ _ => False)
      rfl aFunc105 Try.func73 hit (fun b q => by omega) (fun h' x => hA h' (hwf _ (x.low e0 (fun b q => by omega))) (hL.ext (x.low e0 (fun b q => by omega))) x.1 (fun b hb1 hb2 => x.2 b hb2 (by omega))) (by rw [List.take_zero]; exact f2) ?_ ?_ ?_ ?_ ?_
    · rintro k p1 p2 f hn' hk
      exact f.keep hn' (hk _ hlt2)
    · rintro _ _ _ q _ _
      exact q.elim
    · rintro j item hj
      refine ⟨_, rfl, ?_⟩
      rintro hh lb r0 fr rest' Q' f x7 hlb fl hready contT contF
      obtain ⟨x, hx, rfl⟩ : ∃ x, (rightC a b c t rs)[j]? = some x ∧ i64s x = item := by
        rw [List.getElem?_map] at hj
        cases q : (rightC a b c t rs)[j]? with
        | none => rw [q] at hj; cases hj
        | some x => rw [q] at hj; exact ⟨x, rfl, Option.some.inj hj⟩
      have hxl : x.length = 6 := rightC_len (by omega) (List.mem_of_getElem? hx)
      obtain ⟨st, hst⟩ : ∃ st, ((rightC a b c t rs).take j).foldl (fun st x => stepE i x st) (startE i) = st := ⟨_, rfl⟩
      have hstl : st.length = 6 := by rw [← hst]; exact fold_len _ _ _ (startE_len _)
      have hnext : ((rightC a b c t rs).take (j + 1)).foldl (fun st x => stepE i x st) (startE i) = stepE i x st := by
        rw [List.take_add_one, hx, Option.toList_some, List.foldl_append, hst]
        rfl
      rw [hst] at f
      have hx7 := x7.1
      have hfl := fl.1
      replace f1 := f1.extF x7 (by omega)
      have e9 : Ext h hh := x7.low e0 (fun b q => by omega)
      have he9 := e9.1
      have y0 : ExtF (fun b => b = h1.next ∨ b = lb) hh hh := ExtF.of (Ext.refl _)
      have hst1 : Nat.beq (i64s x).length 6 = true := by unfold i64s; rw [List.length_map, hxl]; rfl
      have hst2 : splice [AVal.int .i64 0, .int .i64 0, .int .i64 0, .int .i64 0, .int .i64 0, .int .i64 0] 0 (i64s x) = some (i64s x) := splice_whole (by unfold i64s; rw [List.length_map, hxl]; rfl)
      clear e0 f0 f2
      refine Go.region noJ_ok rfl ?_
      refine GoR.alloc rfl rfl rfl zt140 rfl rfl fun h8 x8 f8 => ?_
      have := e9.1
      have := fl.1
      have := f.1
      have := f1.1
      replace fl := fl.ext x8
      replace f := f.ext x8
      replace f1 := f1.ext x8
      replace e9 := e9.trans x8
      replace y0 := y0.ext x8
      have := f8.1
      refine GoR.store rfl rfl rfl rfl rfl rfl f8 rfl sz140 hst1 (scal_i64s x) hst2 fun h9 u9 => ?_
      replace f8 := u9.has f8
      replace fl := fl.upd u9 (by omega)
      replace f := f.upd u9 (by omega)
      replace f1 := f1.upd u9 (by omega)
      replace e9 := e9.upd u9 (by omega)
      replace y0 := y0.upd u9 (by first | exact .inl rfl | exact .inl (.inl rfl) | exact .inl (.inr rfl) | exact .inl (by assumption) | exact .inr (by omega))
      refine GoR.end ?_
      refine Go.beginRound fl hready fun h9 u9 => ?_
      replace f := f.upd u9 (by omega)
      replace f1 := f1.upd u9 (by omega)
      have f3 := (by assumption : Has _ hh.next (.cells .plain (i64s x) 140)).upd u9 (by omega)
      replace fl := u9.has fl
      replace e9 := e9.upd u9 (by omega)
      replace y0 := y0.upd u9 (.inl (.inr rfl))
      refine Go.block noJ_ok ?_
      refine Go.seq noJ_ok ?_
      refine Go.region noJ_ok rfl ?_
      refine GoR.op rfl rfl (ld103 rfl f1 rfl) rfl ?_
      iterate 2 refine GoR.op rfl rfl rfl rfl ?_
      refine GoR.end ?_
      refine Go.block noJ_ok ?_
      refine Go.loopKeep (fun q : Nat => [(3, .ptr h0.next 0), (4, .ptr h1.next 0), (6, .ptr hh.next 0), (22, .int .i64 i), (23, .int .i64 (q : Nat))])
        (fun m q h' => m + q = i ∧ Ext h h' ∧ ExtF (fun b => b = h1.next ∨ b = lb) hh h' ∧ Has h' h0.next (.cells .plain [.slice bb 0 i i] 103) ∧ Has h' h1.next (.cells .plain ((stepE q x st).flatMap spC) 111) ∧ Has h' hh.next (.cells .plain (i64s x) 140) ∧ Has h' lb (.loop { r0 with state := .busy }))
        (n := i) 0 ⟨rfl, rfl, rfl, rfl, rfl, trivial⟩ ⟨rfl, e9, y0, f1, (by rw [stepE_zero x hstl]; exact f), f3, fl⟩ ?_
      clear e9 y0 f1 f f3 fl
      rintro m q h11 ⟨hm, e0, y0, f0, f1, f2, f3⟩ again
      by_cases hi' : q < i
      · have hq6 : q < 6 := by omega
        have hat := stepE_at hq6 x st
        have hsl := slice_flatMap (f := spC) (fun _ => rfl) hat
        have hld : (i64s x)[0 + q * 1]? = some (.int .i64 (atD x q)) := by
          unfold i64s atD
          have : x[q]? = some (x[q]'(by omega)) := by simp
          rw [List.getElem?_map, Nat.zero_add, Nat.mul_one, this]
          rfl
        have hsp : splice ((stepE q x st).flatMap spC) (0 + q * 2) (AVal.agg (spC (joinL [(st[q]?).getD noE, (atD x q, atD x q)]))).cells = some ((stepE (q + 1) x st).flatMap spC) := by
          rw [← stepE_set hq6]
          exact splice_two (by rw [stepE_len]; exact hq6)
        generalize hz : (st[q]?).getD noE = z at hsl hsp
        refine Go.seq noJ_ok ?_
        refine Go.region noJ_ok rfl ?_
        refine GoR.op rfl rfl (aOp_lss rfl rfl (r := true) (decide_eq_true (by omega))) rfl ?_
        refine GoR.end ?_
        refine Go.seq noJ_ok ?_
        refine Go.cond noJ_ok (b := true) rfl ?_
        refine Go.code noJ_ok ?_
        refine Go.seq noJ_ok ?_
        refine Go.block noJ_ok ?_
        refine Go.seq noJ_ok ?_
        refine Go.region noJ_ok rfl ?_
        iterate 2 refine GoR.op rfl rfl rfl rfl ?_
        refine GoR.end ?_
        refine Go.drawnE plan73_0 ?_
        iterate 2 refine GoE.quiet rfl rfl rfl rfl ?_
        refine GoE.quiet rfl rfl (aOp_indexAddrArr Try.underlying111 sz30 rfl rfl (Nat.ble_eq_true_of_le hq6)) rfl ?_
        refine GoE.quiet rfl rfl (ld30 rfl f1 (by rw [Nat.zero_add]; exact hsl)) rfl ?_
        refine GoE.quiet rfl rfl rfl rfl ?_
        refine GoE.quiet rfl rfl (aOp_indexAddrArr Try.underlying140 sz3 rfl rfl (Nat.ble_eq_true_of_le hq6)) rfl ?_
        refine GoE.quiet rfl rfl (ld3 rfl f2 hld) rfl ?_
        refine GoE.call rfl rfl (aOp_callFunc aFunc78 rfl) (one_ok (atD x q) _) (dropF_drop (show bit? 112 6 = true from rfl) (dropF_drop (show bit? 112 5 = true from rfl) (dropF_drop (show bit? 112 4 = true from rfl) (dropF_keep (show bit? 112 3 = false from rfl) (dropF_keep (show bit? 112 2 = false from rfl) (dropF_keep (show bit? 112 1 = false from rfl) (dropF_keep (show bit? 112 0 = false from rfl) rfl))))))) ?_ (by rintro _ _ ⟨q, _⟩; cases q)
        rintro _ h12 ⟨q, x12⟩
        cases q
        replace f0 := f0.ext x12
        replace f1 := f1.ext x12
        replace f2 := f2.ext x12
        replace f3 := f3.ext x12
        replace e0 := e0.trans x12
        replace y0 := y0.ext x12
        refine ⟨(recheck_cons (h2 := h12) rfl (ld30 rfl f1 (by rw [Nat.zero_add]; exact hsl)) (by first | rfl | exact sameA_int _ _ | exact sameA_bool _ | exact sameA_agg2 _ _ | assumption | (simp [sameA, sameAs, eqI_eq]; done)) (recheck_cons (h2 := h12) rfl (aOp_indexAddrArr Try.underlying111 sz30 rfl rfl (Nat.ble_eq_true_of_le hq6)) (by first | rfl | exact sameA_int _ _ | exact sameA_bool _ | exact sameA_agg2 _ _ | assumption | (simp [sameA, sameAs, eqI_eq]; done)) (recheck_cons (h2 := h12) rfl (rfl) (by first | rfl | exact sameA_int _ _ | exact sameA_bool _ | exact sameA_agg2 _ _ | assumption | (simp [sameA, sameAs, eqI_eq]; done)) (recheck_cons (h2 := h12) rfl (rfl) (by first | rfl | exact sameA_int _ _ | exact sameA_bool _ | exact sameA_agg2 _ _ | assumption | (simp [sameA, sameAs, eqI_eq]; done)) recheck_nil)))), _, rfl, ?_⟩
        refine GoE.buildSl rfl rfl (ps := [(0, .agg (spC z)), (1, .agg (spC (atD x q, atD x q)))]) (cs := spC z ++ spC (atD x q, atD x q)) Try.underlying23 rfl sz30 zt30 rfl rfl rfl (dropF_drop (show bit? 254 3 = true from rfl) (dropF_drop (show bit? 254 2 = true from rfl) (dropF_drop (show bit? 254 1 = true from rfl) (dropF_keep (show bit? 254 0 = false from rfl) rfl)))) rfl fun h13 x13 f13 => ?_
        have := e0.1
        have := f0.1
        have := f1.1
        have := f2.1
        have := f3.1
        replace f0 := f0.ext x13
        replace f1 := f1.ext x13
        replace f2 := f2.ext x13
        replace f3 := f3.ext x13
        replace e0 := e0.trans x13
        replace y0 := y0.ext x13
        have := f13.1
        refine ⟨(recheck_cons (h2 := h13) rfl (rfl) (by first | rfl | exact sameA_int _ _ | exact sameA_bool _ | exact sameA_agg2 _ _ | assumption | (simp [sameA, sameAs, eqI_eq]; done)) recheck_nil), ?_⟩
        refine GoE.call rfl rfl (aOp_callFunc aFunc76 rfl) (join_ok [z, (atD x q, atD x q)] _ _ (sl2 (by assumption)) (by simp)) (dropF_keep (show bit? 510 0 = false from rfl) rfl) ?_ (by rintro _ _ ⟨q, _⟩; cases q)
        rintro _ h14 ⟨q, x14⟩
        cases q
        replace f13 := f13.ext x14
        replace f0 := f0.ext x14
        replace f1 := f1.ext x14
        replace f2 := f2.ext x14
        replace f3 := f3.ext x14
        replace e0 := e0.trans x14
        replace y0 := y0.ext x14
        refine ⟨(recheck_cons (h2 := h14) rfl (rfl) (by first | rfl | exact sameA_int _ _ | exact sameA_bool _ | exact sameA_agg2 _ _ | assumption | (simp [sameA, sameAs, eqI_eq]; done)) recheck_nil), _, rfl, ?_⟩
        refine GoE.quiet rfl rfl (aOp_indexAddrArr Try.underlying111 sz30 rfl rfl (Nat.ble_eq_true_of_le hq6)) rfl ?_
        refine GoE.store rfl rfl rfl rfl (dropF_drop (show bit? 2047 10 = true from rfl) (dropF_drop (show bit? 2047 0 = true from rfl) rfl)) rfl rfl f1 rfl sz30 rfl rfl hsp fun h15 u15 => ?_
        replace f13 := f13.upd u15 (by omega)
        replace f0 := f0.upd u15 (by omega)
        replace f1 := u15.has f1
        replace f2 := f2.upd u15 (by omega)
        replace f3 := f3.upd u15 (by omega)
        replace e0 := e0.upd u15 (by omega)
        replace y0 := y0.upd u15 (by first | exact .inl rfl | exact .inl (.inl rfl) | exact .inl (.inr rfl) | exact .inl (by assumption) | exact .inr (by omega))
        refine ⟨recheck_nil, ?_⟩
        refine GoE.end rfl ?_
        refine Go.inBlock noJ_ok ?_
        refine Go.region noJ_ok rfl ?_
        refine GoR.op rfl rfl (aOp_add rfl rfl (by constructor <;> omega) rfl) rfl ?_
        refine GoR.op rfl rfl rfl rfl ?_
        refine GoR.end ?_
        exact again (m - 1) (q + 1) _ _ (by omega) ⟨rfl, rfl, rfl, rfl, rfl, trivial⟩ ⟨by omega, e0, y0, f0, f1, f2, f3⟩
      · have hqi : q = i := by omega
        subst hqi
        refine Go.seq noJ_ok ?_
        refine Go.region noJ_ok rfl ?_
        refine GoR.op rfl rfl (aOp_lss rfl rfl (r := false) (decide_eq_false (by omega))) rfl ?_
        refine GoR.end ?_
        refine Go.seq noJ_ok ?_
        refine Go.cond noJ_ok (b := false) rfl ?_
        refine Go.code noJ_ok ?_
        refine Go.inBlock noJ_ok ?_
        exact contT _ _ (by rw [hnext]; exact f1) y0 f3
    · intro d h7 x7 hd hdd f
      have hx7 := x7.1
      have e9 : Ext h h7 := x7.low e0 (fun b q => by omega)
      have hlen : ((rightC a b c t rs).map i64s).length = (rightC a b c t rs).length := List.length_map ..
      rw [hlen, List.take_length] at f
      have hev : (rightC a b c t rs).foldl (fun st x => stepE i x st) (startE i) = evL a b c t rs := by unfold evL; rw [hn]
      rw [hev] at f
      have hl6 := evL_len a b c t rs
      obtain ⟨w1, w2, w3, w4, w5, w6, hw6⟩ := six hl6
      rw [hw6] at f ⊢
      clear e0 f0 f1 f2
      refine Go.inBlock noJ_ok ?_
      refine Go.seq noJ_ok ?_
      refine Go.region noJ_ok rfl ?_
      refine GoR.op rfl rfl (ld111 rfl f rfl) rfl ?_
      refine GoR.store rfl rfl rfl rfl rfl rfl f rfl sz111 rfl rfl rfl fun h8 u8 => ?_
      replace hdd := hdd.upd u8 (by omega)
      replace f := u8.has f
      replace e9 := e9.upd u8 (by omega)
      refine GoR.end ?_
      exact Go.retC hdd fun h9 u9 => ⟨aResult_of Try.func73 rfl (aResults_cell rfl (f.upd u9 (by omega)) (inCells_agg ag111 sz111 rfl)), rfl, e9.upd u9 (by omega)⟩
    · rintro c' d h3 x3 hd hdd q
      exact q.elim
end Go.Proofs.Ytmdheijpnlonoaa
