import Derived.Test.YtkcimfopboelaaaGreatMAL
import Derived.Test.YtkcimfopboelaaaGreatMAG
import Derived.Test.YtkcimfopboelaaaGreatMAH
namespace Go.Proofs.YtkcimfopboelaaaGreat
open Go Go.AbsE
set_option linter.unusedSimpArgs false
set_option maxRecDepth 100000
set_option maxHeartbeats 0
set_option linter.unusedVariables false
theorem padZ_len {l : List Int} (h : l.length ≤ 10) : (padZ l).length = 10 := by unfold padZ; rw [List.length_append, List.length_replicate]; omega
theorem padZ_put {pre : List Int} (h : pre.length < 10) (v : Int) : (padZ pre).set pre.length v = padZ (pre ++ [v]) := by
 unfold padZ
 rw [List.set_append_right _ _ (Nat.le_refl _), Nat.sub_self, List.append_assoc, show 10 - pre.length = (10 - (pre ++ [v]).length) + 1 by simp; omega, List.replicate_succ]
 simp
theorem with_ok {pre : List Int} (hp : pre.length < 10) {v : Int} {h : AH} : Runs Tryz.prog 135 [.agg (haulC (padZ pre) pre.length), .int .i64 v] h (fun en h' => en = .ret (.agg (haulC (padZ (pre ++ [v])) ((pre ++ [v]).length : Nat))) ∧ Ext h h') := by
 have hl := padZ_len (l := pre) (by omega)
 have hl2 := padZ_len (l := pre ++ [v]) (by simp; omega)
 have ka := haulC_len hl (pre.length : Int)
 have hln : (haulC (padZ pre) (pre.length : Int))[10]? = some (.int .i64 (pre.length : Nat)) := by
  rw [haulC_ints]
  unfold i64s
  rw [List.getElem?_map, List.getElem?_append_right (by omega), hl]
  rfl
 have hs1 : splice (haulC (padZ pre) (pre.length : Int)) (0 + 0 + pre.length * 1) (AVal.int .i64 v).cells = some (haulC (padZ (pre ++ [v])) (pre.length : Int)) := by
  show splice _ _ [_] = _
  rw [splice_at (by rw [ka]; omega)]
  congr 1
  rw [haulC_ints, haulC_ints, ← padZ_put hp]
  unfold i64s
  rw [show 0 + 0 + pre.length * 1 = pre.length by omega, ← List.map_set, List.set_append_left _ _ (by omega)]
 have hln2 : (haulC (padZ (pre ++ [v])) (pre.length : Int))[10]? = some (.int .i64 (pre.length : Nat)) := by
  rw [haulC_ints]
  unfold i64s
  rw [List.getElem?_map, List.getElem?_append_right (by omega), hl2]
  rfl
 have kb := haulC_len hl2 (pre.length : Int)
 have hs2 : splice (haulC (padZ (pre ++ [v])) (pre.length : Int)) (0 + 10) (AVal.int .i64 ((pre.length : Int) + 1)).cells = some (haulC (padZ (pre ++ [v])) ((pre ++ [v]).length : Nat)) := by
  show splice _ _ [_] = _
  rw [splice_at (by rw [kb]; omega)]
  congr 1
  rw [haulC_ints, haulC_ints]
  unfold i64s
  rw [← List.map_set, List.set_append_right _ _ (by omega), hl2]
  simp
 have kc := haulC_len hl2 (((pre ++ [v]).length : Nat) : Int)
 have hsc := haulC_scal (padZ (pre ++ [v])) (((pre ++ [v]).length : Nat) : Int)
 have e0 : Ext h h := Ext.refl _
 refine Runs.intro aFunc135 rfl rfl rfl rfl fun rest => ?_
 refine Go.seq noJ_ok ?_
 refine Go.region noJ_ok rfl ?_
 refine GoR.box rfl rfl rfl rfl rfl rfl fun h0 x0 f0 => ?_
 have := e0.1
 replace e0 := e0.trans x0
 have := f0.1
 refine GoR.alloc rfl rfl rfl zt126 rfl rfl fun h1 x1 f1 => ?_
 have := e0.1
 have := f0.1
 replace f0 := f0.ext x1
 replace e0 := e0.trans x1
 have := f1.1
 refine GoR.end ?_
 refine Go.seq noJ_ok ?_
 refine Go.region noJ_ok rfl ?_
 refine GoR.op rfl rfl (fa126_1 rfl) rfl ?_
 refine GoR.op rfl rfl (ld3 rfl f0 hln) rfl ?_
 refine GoR.op rfl rfl rfl rfl ?_
 refine GoR.op rfl rfl (fa126_0 rfl) rfl ?_
 refine GoR.op rfl rfl (aOp_indexAddrArr (i := pre.length) Tryz.underlying85 sz3 rfl rfl (Nat.ble_eq_true_of_le (by omega))) rfl ?_
 refine GoR.store rfl rfl rfl rfl rfl rfl f0 rfl sz3 rfl rfl hs1 fun h2 u2 => ?_
 replace f1 := f1.upd u2 (by omega)
 replace f0 := u2.has f0
 replace e0 := e0.upd u2 (by omega)
 refine GoR.end ?_
 refine Go.seq noJ_ok ?_
 refine Go.region noJ_ok rfl ?_
 refine GoR.op rfl rfl (fa126_1 rfl) rfl ?_
 refine GoR.op rfl rfl (ld3 rfl f0 hln2) rfl ?_
 refine GoR.op rfl rfl (aOp_add rfl rfl (by constructor <;> omega) rfl) rfl ?_
 refine GoR.op rfl rfl (fa126_1 rfl) rfl ?_
 refine GoR.store rfl rfl rfl rfl rfl rfl f0 rfl sz3 rfl rfl hs2 fun h3 u3 => ?_
 replace f1 := f1.upd u3 (by omega)
 replace f0 := u3.has f0
 replace e0 := e0.upd u3 (by omega)
 refine GoR.end ?_
 refine Go.seq noJ_ok ?_
 refine Go.region noJ_ok rfl ?_
 refine GoR.op rfl rfl (ld126 rfl f0 (slice_all kc)) rfl ?_
 refine GoR.store rfl rfl rfl rfl rfl rfl f1 rfl sz126 (beq_len kc) hsc (splice_whole kc.symm) fun h4 u4 => ?_
 replace f1 := u4.has f1
 replace e0 := e0.upd u4 (by omega)
 refine GoR.end ?_
 exact Go.ret noJ_ok (ret_end (aResult_of Tryz.func135 rfl (aResults_c rfl f1 (inCells_agg ag126 sz126 (slice_all kc)) rfl)) ⟨rfl, e0⟩)
def haulI (pre : List Int) (es : List EV) : List (List AVal) := (haulsV es).map fun l => haulC (padZ (pre ++ l)) ((pre ++ l).length : Nat)
theorem haulI_cons (pre : List Int) (e : EV) (es : List EV) : haulI pre (e :: es) = (List.range (e.hi - e.lo + 1).toNat).flatMap fun k : Nat => haulI (pre ++ [e.lo + k]) es := by
 unfold haulI
 rw [haulsV, List.map_flatMap]
 unfold upto
 rw [List.flatMap_map]
 congr 1
 funext k
 rw [List.map_map]
 apply List.map_congr_left
 intro l _
 simp
theorem flat_at {α : Type} {f : Nat → List α} {c : Nat} (hc : ∀ k, (f k).length = c) : ∀ (W : Nat), ((List.range W).flatMap f).length = W * c ∧ ∀ {k n : Nat} {v : α}, k < W → (f k)[n]? = some v → ((List.range W).flatMap f)[k * c + n]? = some v
 | 0 => ⟨by simp, fun h => by omega⟩
 | W + 1 => by
  obtain ⟨h1, h2⟩ := flat_at hc W
  rw [List.range_succ, List.flatMap_append]
  refine ⟨by rw [List.length_append, h1]; simp [hc, Nat.succ_mul], fun {k n v} hk hv => ?_⟩
  have hn : n < c := by
   have := (List.getElem?_eq_some_iff.1 hv).1
   rw [hc] at this
   exact this
  by_cases hkW : k < W
  ·have hlt : k * c + n < W * c := by
    have := Nat.mul_le_mul_right c (show k + 1 ≤ W by omega)
    rw [Nat.succ_mul] at this
    omega
   rw [List.getElem?_append_left (by omega)]
   exact h2 hkW hv
  ·have : k = W := by omega
   subst this
   rw [List.getElem?_append_right (by omega), h1, Nat.add_sub_cancel_left]
   simpa using hv
structure CarryA (R : RoadV) (lo : Nat) (gp ge : AVal) (bf bk bu : Nat) (y : AVal) (h : AH) : Prop where
 f : Has h bf (.cells .plain [gp, ge] 77)
 y : Has h bk (.cells .plain [y] 167)
 u : Has h bu (.cells .plain [.func (.func 134) [] [.ptr bf 0, .ptr bk 0, .ptr bu 0]] 167)
 A : GroundAt h R lo gp ge
theorem carry_ok {R : RoadV} (O : R.Ok) (lo : Nat) (gp ge : AVal) (bf bk bu : Nat) (y : AVal) (base : Nat) : ∀ (es : List EV) (pre : List Int) (J E : Nat → AH → (Nat → Prop) → Prop) (h : AH) (F : Nat → Prop),
  R.es.drop pre.length = es → pre.length ≤ R.es.length → (∀ h', ExtF F h h' → CarryA R lo gp ge bf bk bu y h') → base ≤ h.next → Takes Tryz.prog base y (haulI pre es) J E → J 0 h F →
  Runs Tryz.prog 134 [.agg (haulC (padZ pre) pre.length), .ptr bf 0, .ptr bk 0, .ptr bu 0] h (fun en h' => ExtF F h h' ∧ ∃ F', (∀ b, F' b → F b ∨ h.next ≤ b) ∧ ((en = .ret (.bool true) ∧ J (haulI pre es).length h' F') ∨ (en = .ret (.bool false) ∧ ∃ k, k < (haulI pre es).length ∧ E k h' F')))
 | [], pre, J, E, h, F, hd, hle, hA, hb, T, j0 => by
  have hpl : pre.length = R.es.length := by
   have := congrArg List.length hd
   simp at this
   omega
  have hne := O.ne
  obtain ⟨f0, f1, f2, ga⟩ := hA h (ExtF.of (Ext.refl _))
  have hlen := ga.esl.len
  rw [List.length_map] at hlen
  have e0 : Ext h h := Ext.refl _
  have hl := padZ_len (l := pre) (by omega)
  have ka := haulC_len hl (pre.length : Int)
  have hln : (haulC (padZ pre) (pre.length : Int))[10]? = some (.int .i64 (pre.length : Nat)) := by
   rw [haulC_ints]
   unfold i64s
   rw [List.getElem?_map, List.getElem?_append_right (by omega), hl]
   rfl
  have kd : (haulI pre []).length = 1 := by simp [haulI, haulsV]
  have hit : (haulI pre [])[0]? = some (haulC (padZ pre) (pre.length : Nat)) := by simp [haulI, haulsV]
  refine Runs.intro aFunc134 rfl rfl rfl rfl fun rest => ?_
  refine Go.seq noJ_ok ?_
  refine Go.region noJ_ok rfl ?_
  refine GoR.box rfl rfl rfl rfl rfl rfl fun h3 x3 f3 => ?_
  have := e0.1
  have := f0.1
  have := f1.1
  have := f2.1
  replace f0 := f0.ext x3
  replace f1 := f1.ext x3
  replace f2 := f2.ext x3
  replace e0 := e0.trans x3
  have := f3.1
  refine GoR.op rfl rfl rfl rfl ?_
  refine GoR.end ?_
  iterate 2 refine Go.seq noJ_ok ?_
  refine Go.region noJ_ok rfl ?_
  refine GoR.op rfl rfl (fa126_1 rfl) rfl ?_
  refine GoR.op rfl rfl (ld3 rfl f3 hln) rfl ?_
  refine GoR.op rfl rfl (fa77_1 rfl) rfl ?_
  refine GoR.op rfl rfl (ld75 rfl f0 rfl) rfl ?_
  refine GoR.op rfl rfl (aOp_lenSlice Tryz.underlying75 rfl (by assumption)) rfl ?_
  refine GoR.op rfl rfl (aOp_eql rfl rfl (r := true) (decide_eq_true (by omega))) rfl ?_
  refine GoR.end ?_
  refine Go.cond noJ_ok (b := true) rfl ?_
  refine Go.seq noJ_ok ?_
  refine Go.region noJ_ok rfl ?_
  refine GoR.op rfl rfl (ld167 rfl f1 rfl) rfl ?_
  refine GoR.op rfl rfl (ld126 rfl f3 (slice_all ka)) rfl ?_
  obtain ⟨ax, a1, a2, a3⟩ := T.take hit (T.ext j0 e0)
  have hx3 := e0.1
  refine GoR.does rfl rfl (aOp_callY rfl rfl a1) a2 a3 ?_ (by rintro _ _ ⟨_, _, _, ⟨q, _⟩ | ⟨q, _⟩⟩ <;> cases q)
  rintro v h8 ⟨x8, F', hF', ⟨q, j8⟩ | ⟨q, e8⟩⟩
  ·cases q
   refine ⟨_, rfl, ?_⟩
   refine GoR.op rfl rfl rfl rfl ?_
   refine GoR.end ?_
   exact Go.ret noJ_ok (ret_end (aResult_of Tryz.func134 rfl rfl) ⟨(ExtF.of e0).trans (fun _ q => .inl q) x8, F', fun b q => (hF' b q).elim .inl fun q => .inr (by omega), .inl ⟨rfl, by rw [kd]; exact j8⟩⟩)
  ·cases q
   refine ⟨_, rfl, ?_⟩
   refine GoR.op rfl rfl rfl rfl ?_
   refine GoR.end ?_
   exact Go.ret noJ_ok (ret_end (aResult_of Tryz.func134 rfl rfl) ⟨(ExtF.of e0).trans (fun _ q => .inl q) x8, F', fun b q => (hF' b q).elim .inl fun q => .inr (by omega), .inr ⟨rfl, 0, by rw [kd]; omega, e8⟩⟩)
 | e :: es, pre, J, E, h, F, hd, hle, hA, hb, T, j0 => by
  have hget : R.es[pre.length]? = some e := by
   have := congrArg (fun l => l[0]?) hd
   simpa [List.getElem?_drop] using this
  have hlt := (List.getElem?_eq_some_iff.1 hget).1
  have hne := O.ne
  have heO := O.e e (List.mem_of_getElem? hget)
  have hdrop : R.es.drop (pre.length + 1) = es := by
   have := congrArg (List.drop 1) hd
   simpa [List.drop_drop] using this
  obtain ⟨f0, f1, f2, ga⟩ := hA h (ExtF.of (Ext.refl _))
  have hlen := ga.esl.len
  rw [List.length_map] at hlen
  have e0 : Ext h h := Ext.refl _
  have hSl : ∀ b, F b → b < h.next := fun b q => T.ltJ j0 q
  have hl := padZ_len (l := pre) (by omega)
  have ka := haulC_len hl (pre.length : Int)
  have hln : (haulC (padZ pre) (pre.length : Int))[10]? = some (.int .i64 (pre.length : Nat)) := by
   rw [haulC_ints]
   unfold i64s
   rw [List.getElem?_map, List.getElem?_append_right (by omega), hl]
   rfl
  obtain ⟨W, hW⟩ : ∃ W, (e.hi - e.lo + 1).toNat = W := ⟨_, rfl⟩
  obtain ⟨c0, hc0⟩ : ∃ c0, (haulsV es).length = c0 := ⟨_, rfl⟩
  have hc : ∀ k : Nat, (haulI (pre ++ [e.lo + k]) es).length = c0 := fun k => by unfold haulI; rw [List.length_map]; exact hc0
  have hfl := flat_at hc W
  have hit : haulI pre (e :: es) = (List.range W).flatMap fun k : Nat => haulI (pre ++ [e.lo + k]) es := by rw [haulI_cons, hW]
  rw [hit] at T ⊢
  rw [hfl.1]
  have hbf := f0.1
  have hbk := f1.1
  have hbu := f2.1
  obtain ⟨bq, off, q1, q2⟩ := ga.esl.at (i := pre.length) (l := [evC e]) (by rw [List.getElem?_map, hget]; rfl)
  rw [List.length_map] at q1
  have hlo : 0 ≤ e.lo ∧ e.hi ≤ 60 ∧ e.hi ≤ e.lo + 2 ∧ e.lo ≤ e.hi := by
   unfold EV.lo EV.hi
   split <;> rcases heO with q | q | q <;> omega
  have k1 := fun h => loads_at heO h
  obtain ⟨ev, hev⟩ : ∃ ev, evC e = ev := ⟨_, rfl⟩
  rw [hev] at k1 q2
  refine Runs.intro aFunc134 rfl rfl rfl rfl fun rest => ?_
  refine Go.seq noJ_ok ?_
  refine Go.region noJ_ok rfl ?_
  refine GoR.box rfl rfl rfl rfl rfl rfl fun h3 x3 f3 => ?_
  have := e0.1
  have := f0.1
  have := f1.1
  have := f2.1
  replace f0 := f0.ext x3
  replace f1 := f1.ext x3
  replace f2 := f2.ext x3
  replace e0 := e0.trans x3
  have := f3.1
  refine GoR.op rfl rfl rfl rfl ?_
  refine GoR.end ?_
  iterate 2 refine Go.seq noJ_ok ?_
  refine Go.region noJ_ok rfl ?_
  refine GoR.op rfl rfl (fa126_1 rfl) rfl ?_
  refine GoR.op rfl rfl (ld3 rfl f3 hln) rfl ?_
  refine GoR.op rfl rfl (fa77_1 rfl) rfl ?_
  refine GoR.op rfl rfl (ld75 rfl f0 rfl) rfl ?_
  refine GoR.op rfl rfl (aOp_lenSlice Tryz.underlying75 rfl (by assumption)) rfl ?_
  refine GoR.op rfl rfl (aOp_eql rfl rfl (r := false) (decide_eq_false (by omega))) rfl ?_
  refine GoR.end ?_
  refine Go.cond noJ_ok (b := false) rfl ?_
  refine Go.code noJ_ok ?_
  refine Go.seq noJ_ok ?_
  refine Go.region noJ_ok rfl ?_
  refine GoR.op rfl rfl (fa77_1 rfl) rfl ?_
  refine GoR.op rfl rfl (ld75 rfl f0 rfl) rfl ?_
  refine GoR.op rfl rfl (fa126_1 rfl) rfl ?_
  refine GoR.op rfl rfl (ld3 rfl f3 hln) rfl ?_
  refine GoR.op rfl rfl (aOp_indexAddr (i := pre.length) Tryz.underlying75 sz169 rfl (by assumption) rfl (Nat.ble_eq_true_of_le (by omega))) rfl ?_
  refine GoR.op rfl rfl ((aOp_loadE1 (k := 0) ag169 rfl (q2.ext e0) rfl)) rfl ?_
  obtain ⟨ff, fargs, k1, k2⟩ := k1 h3
  refine GoR.call rfl rfl (aOp_invoke rfl rfl (k1)) (k2) ?_ (by rintro _ _ ⟨q, _⟩; cases q)
  rintro _ h4 ⟨q, x4⟩
  cases q
  refine ⟨_, rfl, ?_⟩
  replace f3 := f3.ext x4
  replace f0 := f0.ext x4
  replace f1 := f1.ext x4
  replace f2 := f2.ext x4
  replace e0 := e0.trans x4
  refine GoR.alloc rfl rfl rfl zt29 rfl rfl fun h5 x5 f5 => ?_
  have := e0.1
  have := f3.1
  have := f0.1
  have := f1.1
  have := f2.1
  replace f3 := f3.ext x5
  replace f0 := f0.ext x5
  replace f1 := f1.ext x5
  replace f2 := f2.ext x5
  replace e0 := e0.trans x5
  have := f5.1
  refine GoR.store rfl rfl rfl rfl rfl rfl f5 rfl sz29 rfl rfl rfl fun h6 u6 => ?_
  replace f5 := u6.has f5
  replace f3 := f3.upd u6 (by omega)
  replace f0 := f0.upd u6 (by omega)
  replace f1 := f1.upd u6 (by omega)
  replace f2 := f2.upd u6 (by omega)
  replace e0 := e0.upd u6 (by omega)
  refine GoR.end ?_
  iterate 2 refine Go.seq noJ_ok ?_
  refine Go.region noJ_ok rfl ?_
  refine GoR.op rfl rfl (fa29_0 rfl) rfl ?_
  refine GoR.op rfl rfl (ld3 rfl f5 rfl) rfl ?_
  refine GoR.op rfl rfl rfl rfl ?_
  refine GoR.end ?_
  refine Go.block noJ_ok ?_
  have hx4 := e0.1
  have hb3 := f3.1
  have hb5 := f5.1
  have hn4 : h.next < h4.next := by omega
  refine Go.loopKeep (fun a : Nat × (Nat → Prop) => [(1, .ptr bf 0), (2, .ptr bk 0), (3, .ptr bu 0), (4, .ptr h.next 0), (6, .ptr h4.next 0), (7, .int .i64 (e.lo + (a.1 : Nat)))])
   (fun m a h' => m + a.1 = W ∧ ExtF F h h' ∧ (∀ b, a.2 b → F b ∨ h.next ≤ b) ∧ ¬ a.2 h.next ∧ ¬ a.2 h4.next ∧ Has h' h.next (.cells .plain (haulC (padZ pre) pre.length) 126) ∧ Has h' h4.next (.cells .plain [.int .i64 e.lo, .int .i64 e.hi] 29) ∧ J (a.1 * c0) h' a.2) (n := W) (0, F)
   ⟨rfl, rfl, rfl, rfl, rfl, (by simp; rfl), trivial⟩ ⟨rfl, ExtF.of e0, fun b q => .inl q, fun q => by have := hSl _ q; omega, fun q => by have := hSl _ q; omega, f3, f5, (by rw [Nat.zero_mul]; exact T.ext j0 e0)⟩ ?_
  clear e0 f0 f1 f2 f3 f5 q2 ga
  rintro m ⟨k, G⟩ h8 ⟨hm, y1, hG, hnG, hnG4, f3, f5, j8⟩ again
  dsimp only at hm hG hnG hnG4 j8 ⊢
  obtain ⟨f0, f1, f2, ga⟩ := hA h8 y1
  have e0 : Ext h8 h8 := Ext.refl _
  have hy1 := y1.1
  have hb3 := f3.1
  have hb5 := f5.1
  by_cases hk : k < W
  ·have hnf := fun (n : Nat) (v : List AVal) (hv : (haulI (pre ++ [e.lo + (k : Int)]) es)[n]? = some v) => hfl.2 hk hv
   have kb := haulC_len (padZ_len (l := pre ++ [e.lo + (k : Int)]) (by simp; omega)) (((pre ++ [e.lo + (k : Int)]).length : Nat) : Int)
   have ks : sameA (.agg (haulC (padZ pre) (pre.length : Int))) (.agg (haulC (padZ pre) (pre.length : Int))) = true := by rw [haulC_ints]; exact same_ints _
   have kt : sameA (.func (.func 134) [] [.ptr bf 0, .ptr bk 0, .ptr bu 0]) (.func (.func 134) [] [.ptr bf 0, .ptr bk 0, .ptr bu 0]) = true := by simp [sameA, sameAs, eqI_eq]
   iterate 2 refine Go.seq noJ_ok ?_
   refine Go.region noJ_ok rfl ?_
   refine GoR.op rfl rfl rfl rfl ?_
   refine GoR.op rfl rfl (fa29_1 rfl) rfl ?_
   refine GoR.op rfl rfl (ld3 rfl f5 rfl) rfl ?_
   refine GoR.op rfl rfl (aOp_leq rfl rfl (r := true) (decide_eq_true (by omega))) rfl ?_
   refine GoR.end ?_
   refine Go.cond noJ_ok (b := true) rfl ?_
   refine Go.code noJ_ok ?_
   refine Go.seq noJ_ok ?_
   refine Go.block noJ_ok ?_
   refine Go.seq noJ_ok ?_
   refine Go.drawnE plan134_0 ?_
   refine GoE.quiet rfl rfl (ld167 rfl f2 rfl) rfl ?_
   refine GoE.quiet rfl rfl (ld126 rfl f3 (slice_all ka)) rfl ?_
   refine GoE.quiet rfl rfl rfl rfl ?_
   refine GoE.call rfl rfl (aOp_callFunc aFunc135 rfl) (with_ok (by omega)) (dropF_drop (show bit? 6 2 = true from rfl) (dropF_drop (show bit? 6 1 = true from rfl) (dropF_keep (show bit? 6 0 = false from rfl) rfl))) ?_ (by rintro _ _ ⟨q, _⟩; cases q)
   rintro v9 h9 ⟨q, x9⟩
   cases q
   replace f3 := f3.ext x9
   replace f5 := f5.ext x9
   replace f2 := f2.ext x9
   replace e0 := e0.trans x9
   replace y1 := y1.ext x9
   refine ⟨(rck (h2 := h9) rfl (ld167 rfl f2 rfl) recheck_nil), _, rfl, ?_⟩
   have hhx9 := e0.1
   have hshift := T.shift (sub := haulI (pre ++ [e.lo + (k : Int)]) es) (k * c0) hnf
   have ih := carry_ok O lo gp ge bf bk bu y base es (pre ++ [e.lo + (k : Int)]) (fun n => J (k * c0 + n)) (fun n => E (k * c0 + n)) h9 G (by rw [List.length_append, List.length_singleton]; exact hdrop) (by simp; omega)
    (fun h' x => hA h' (y1.trans hG x)) (by omega) hshift (T.ext j8 e0)
   rw [hc k] at ih
   refine GoE.call rfl rfl (aOp_callVal rfl aFunc134 rfl) ih (dropF_drop (show bit? 15 0 = true from rfl) rfl) ?_ (by rintro _ _ ⟨_, _, _, ⟨q, _⟩ | ⟨q, _⟩⟩ <;> cases q)
   rintro v h11 ⟨x11, G', hG', ⟨q, j11⟩ | ⟨q, n, hn, e11⟩⟩
   ·cases q
    refine ⟨recheck_nil, _, rfl, ?_⟩
    have hx11 := x11.1
    replace f3 := f3.extF x11 hnG
    replace f5 := f5.extF x11 hnG4
    clear f0 f1 f2 e0
    refine GoE.quiet rfl rfl rfl rfl ?_
    refine GoE.end rfl ?_
    refine Go.cond noJ_ok (b := false) rfl ?_
    refine Go.code noJ_ok ?_
    refine Go.inBlock noJ_ok ?_
    refine Go.region noJ_ok rfl ?_
    refine GoR.op rfl rfl rfl rfl ?_
    refine GoR.op rfl rfl (aOp_add rfl rfl (by constructor <;> omega) rfl) rfl ?_
    refine GoR.op rfl rfl rfl rfl ?_
    refine GoR.end ?_
    exact again (m - 1) (k + 1, G') _ _ (by omega) ⟨rfl, rfl, rfl, rfl, rfl, (by simp [Int.add_assoc]; rfl), trivial⟩ ⟨by dsimp only; omega, y1.trans hG x11, fun b q => (hG' b q).elim (hG b) fun q => .inr (by omega), fun q => (hG' _ q).elim hnG fun q => by omega, fun q => (hG' _ q).elim hnG4 fun q => by omega, f3, f5, by dsimp only; rw [Nat.succ_mul]; exact j11⟩
   ·cases q
    refine ⟨recheck_nil, _, rfl, ?_⟩
    have hx11 := x11.1
    have hlt2 : k * c0 + n < W * c0 := by
     have := Nat.mul_le_mul_right c0 (show k + 1 ≤ W by omega)
     rw [Nat.succ_mul] at this
     omega
    clear f0 f1 f2 f3 f5 e0
    refine GoE.quiet rfl rfl rfl rfl ?_
    refine GoE.end rfl ?_
    refine Go.cond noJ_ok (b := true) rfl ?_
    refine Go.seq noJ_ok ?_
    refine Go.region noJ_ok rfl ?_
    refine GoR.op rfl rfl rfl rfl ?_
    refine GoR.end ?_
    exact Go.ret noJ_ok (ret_end (aResult_of Tryz.func134 rfl rfl) ⟨y1.trans hG x11, G', fun b q => (hG' b q).elim (hG b) fun q => .inr (by omega), .inr ⟨rfl, _, hlt2, e11⟩⟩)
  ·have hkW : k = W := by omega
   subst hkW
   clear e0
   iterate 2 refine Go.seq noJ_ok ?_
   refine Go.region noJ_ok rfl ?_
   refine GoR.op rfl rfl rfl rfl ?_
   refine GoR.op rfl rfl (fa29_1 rfl) rfl ?_
   refine GoR.op rfl rfl (ld3 rfl f5 rfl) rfl ?_
   refine GoR.op rfl rfl (aOp_leq rfl rfl (r := false) (decide_eq_false (by omega))) rfl ?_
   refine GoR.end ?_
   refine Go.cond noJ_ok (b := false) rfl ?_
   refine Go.code noJ_ok ?_
   refine Go.seq noJ_ok ?_
   refine Go.region noJ_ok rfl ?_
   refine GoR.op rfl rfl rfl rfl ?_
   refine GoR.end ?_
   exact Go.ret noJ_ok (ret_end (aResult_of Tryz.func134 rfl rfl) ⟨y1, G, hG, .inl ⟨rfl, j8⟩⟩)
structure HaulsA (R : RoadV) (lo : Nat) (gp ge : AVal) (bf : Nat) (h : AH) : Prop where
 f : Has h bf (.cells .plain [gp, ge] 77)
 A : GroundAt h R lo gp ge
theorem hauls1_it {R : RoadV} (O : R.Ok) (lo : Nat) (gp ge : AVal) (bf : Nat) : IterF Tryz.prog 133 [] [.ptr bf 0] (haulI [] R.es) (HaulsA R lo gp ge bf) := by
 intro y base J E h F hyc hys hA hb T j0
 show Runs Tryz.prog 133 [y, .ptr bf 0] h _
 have e0 : Ext h h := Ext.refl _
 have hSl : ∀ b, F b → b < h.next := fun b q => T.ltJ j0 q
 obtain ⟨f0, ga⟩ := hA h (ExtF.of e0)
 have hbf := f0.1
 refine Runs.intro aFunc133 rfl rfl rfl rfl fun rest => ?_
 refine Go.seq noJ_ok ?_
 refine Go.region noJ_ok rfl ?_
 refine GoR.box rfl rfl rfl rfl rfl rfl fun h1 x1 f1 => ?_
 have := e0.1
 have := f0.1
 replace f0 := f0.ext x1
 replace e0 := e0.trans x1
 have := f1.1
 refine GoR.end ?_
 refine Go.seq noJ_ok ?_
 refine Go.region noJ_ok rfl ?_
 refine GoR.alloc rfl rfl rfl zt167 rfl rfl fun h2 x2 f2 => ?_
 have := e0.1
 have := f1.1
 have := f0.1
 replace f1 := f1.ext x2
 replace e0 := e0.trans x2
 have := f2.1
 refine GoR.end ?_
 refine Go.seq noJ_ok ?_
 refine Go.region noJ_ok rfl ?_
 refine GoR.op rfl rfl rfl rfl ?_
 refine GoR.store rfl rfl rfl rfl rfl rfl f2 rfl sz167 rfl rfl rfl fun h3 u3 => ?_
 replace f2 := u3.has f2
 replace f1 := f1.upd u3 (by omega)
 replace e0 := e0.upd u3 (by omega)
 refine GoR.end ?_
 refine Go.region noJ_ok rfl ?_
 refine GoR.op rfl rfl (ld167 rfl f2 rfl) rfl ?_
 refine GoR.op rfl rfl (aOp_build (ps := []) (cs := haulC (padZ []) (([] : List Int).length : Nat)) zt126 hu126 pl126 rfl rfl) rfl ?_
 rw [hyc] at f1
 have hb1 := f1.1
 have hb2 := f2.1
 have hx := e0.1
 have ih := carry_ok O lo gp ge bf h.next h1.next y base R.es [] J E h3 F rfl (by simp) (fun h' x => by
  have z := hA h' ((ExtF.of e0).trans (fun _ q => .inl q) x)
  exact ⟨z.f, f1.extF x (fun q => by have := hSl _ q; omega), f2.extF x (fun q => by have := hSl _ q; omega), z.A⟩) (by omega) T (T.ext j0 e0)
 refine GoR.call rfl rfl (aOp_callVal rfl aFunc134 rfl) ih ?_ (by rintro _ _ ⟨_, _, _, ⟨q, _⟩ | ⟨q, _⟩⟩ <;> cases q)
 rintro v h11 ⟨x11, G', hG', ⟨q, j11⟩ | ⟨q, n, hn, e11⟩⟩
 ·cases q
  refine ⟨_, rfl, ?_⟩
  refine GoR.end ?_
  exact Go.endL (FLeft.ret (v := .tuple []) (aResult_of Tryz.func133 rfl rfl) ⟨rfl, (ExtF.of e0).trans (fun _ q => .inl q) x11, G', fun b q => (hG' b q).elim .inl fun q => .inr (by omega), .inl j11⟩)
 ·cases q
  refine ⟨_, rfl, ?_⟩
  refine GoR.end ?_
  exact Go.endL (FLeft.ret (v := .tuple []) (aResult_of Tryz.func133 rfl rfl) ⟨rfl, (ExtF.of e0).trans (fun _ q => .inl q) x11, G', fun b q => (hG' b q).elim .inl fun q => .inr (by omega), .inr ⟨n, hn, e11⟩⟩)
theorem hauls_ok {R : RoadV} {lo : Nat} {gp ge : AVal} {h : AH} (A : GroundAt h R lo gp ge) : Runs Tryz.prog 97 [.agg [gp, ge]] h (fun en h' => ∃ bf, en = .ret (.func (.func 133) [] [.ptr bf 0]) ∧ Ext h h' ∧ HaulsA R lo gp ge bf h' ∧ h.next ≤ bf) := by
 have e0 : Ext h h := Ext.refl _
 refine Runs.intro aFunc97 rfl rfl rfl rfl fun rest => ?_
 refine Go.seq noJ_ok ?_
 refine Go.region noJ_ok rfl ?_
 refine GoR.box rfl rfl rfl rfl rfl rfl fun h0 x0 f0 => ?_
 have := e0.1
 replace e0 := e0.trans x0
 have := f0.1
 refine GoR.op rfl rfl rfl rfl ?_
 refine GoR.end ?_
 refine Go.seq noJ_ok ?_
 refine Go.region noJ_ok rfl ?_
 iterate 2 refine GoR.op rfl rfl rfl rfl ?_
 refine GoR.end ?_
 exact Go.ret noJ_ok (ret_end (aResult_of Tryz.func97 rfl rfl) ⟨_, rfl, e0, ⟨f0, A.ext e0⟩, by omega⟩)
end Go.Proofs.YtkcimfopboelaaaGreat

namespace Go.Proofs.YtkcimfopboelaaaGreat
open Go Go.AbsE
set_option linter.unusedSimpArgs false
set_option maxRecDepth 100000
set_option maxHeartbeats 0
set_option linter.unusedVariables false
theorem zip_pad {es : List EV} {l : List Int} (h : l.length = es.length) : es.zip (padZ l) = es.zip l := by
 unfold padZ
 have : es.zip (l ++ List.replicate (10 - l.length) 0) = (es ++ []).zip (l ++ List.replicate (10 - l.length) 0) := by rw [List.append_nil]
 rw [this, List.zip_append h.symm]
 simp
theorem fates_pad {es : List EV} {l : List Int} (h : l.length = es.length) (i : Int) (p : PV) : fatesV es i p (padZ l) = fatesV es i p l := by
 unfold fatesV fateV
 rw [zip_pad h]
theorem loads_pad {R : RoadV} (O : R.Ok) {l : List Int} (h : l ∈ haulsV R.es) : LoadsOk R.es (padZ l) := by
 obtain ⟨h1, h2⟩ := mem_hauls.1 h
 intro i e k he hk
 have hlt := (List.getElem?_eq_some_iff.1 he).1
 unfold padZ at hk
 rw [List.getElem?_append_left (by omega)] at hk
 exact h2 i e k he hk
theorem haul_at {es : List EV} {j : Nat} {item : List AVal} (h : (haulI [] es)[j]? = some item) : ∃ l, (haulsV es)[j]? = some l ∧ haulC (padZ l) (l.length : Nat) = item := by
 unfold haulI at h
 rw [List.getElem?_map] at h
 cases q : (haulsV es)[j]? with
 | none => rw [q] at h; cases h
 | some l => rw [q] at h; exact ⟨l, rfl, Option.some.inj h⟩
theorem can_take {R : RoadV} {l : List Int} {i : Nat} : (∀ k p, k < i → R.ps[k]? = some p → (fatesV R.es k p l).isEmpty = false) → i = R.ps.length → R.can l = true := by
 intro h hi
 refine can_iff.2 fun k p hp => ?_
 have := h k p (by rw [hi]; exact (List.getElem?_eq_some_iff.1 hp).1) hp
 cases q : fatesV R.es k p l with
 | nil => rw [q] at this; cases this
 | cons f r => exact ⟨f, List.mem_cons_self⟩
theorem can_not {R : RoadV} {l : List Int} {i : Nat} {p : PV} (hp : R.ps[i]? = some p) (h : (fatesV R.es i p l).isEmpty = true) : R.can l = false := by
 cases q : R.can l with
 | false => rfl
 | true =>
  obtain ⟨f, hf⟩ := can_iff.1 q i p hp
  cases q2 : fatesV R.es i p l with
  | nil => rw [q2] at hf; simp at hf
  | cons a b => rw [q2] at h; cases h
theorem possible_iff {R : RoadV} : R.possible = (haulsV R.es).any R.can := by
 unfold RoadV.possible RoadV.hs
 induction haulsV R.es with
 | nil => rfl
 | cons a l ih =>
  rw [List.filter_cons, List.any_cons]
  cases q : R.can a with
  | true => rfl
  | false => simpa using ih
theorem possible_ok {R : RoadV} (O : R.Ok) {lo : Nat} {gp ge : AVal} {h : AH} (A : GroundAt h R lo gp ge) : Runs Tryz.prog 120 [.agg [gp, ge]] h (fun en h' => en = .ret (.bool R.possible) ∧ Ext h h') := by
 have hnp := O.np
 have hne := O.ne
 have hlenP := A.psl.len
 rw [List.length_map] at hlenP
 have e0 : Ext h h := Ext.refl _
 refine Runs.intro aFunc120 rfl rfl rfl rfl fun rest => ?_
 refine Go.seq noJ_ok ?_
 refine Go.region noJ_ok rfl ?_
 refine GoR.box rfl rfl rfl rfl rfl rfl fun h0 x0 f0 => ?_
 have := e0.1
 replace e0 := e0.trans x0
 have := f0.1
 refine GoR.op rfl rfl rfl rfl ?_
 refine GoR.end ?_
 refine Go.scope noJ_ok ?_
 refine Go.seq noJ_ok ?_
 refine Go.region noJ_ok rfl ?_
 refine GoR.alloc rfl rfl rfl zt4 rfl rfl fun h1 x1 f1 => ?_
 have := e0.1
 have := f0.1
 replace f0 := f0.ext x1
 replace e0 := e0.trans x1
 have := f1.1
 refine GoR.store rfl rfl rfl rfl rfl rfl f1 rfl sz4 rfl rfl rfl fun h2 u2 => ?_
 replace f1 := u2.has f1
 replace f0 := f0.upd u2 (by omega)
 replace e0 := e0.upd u2 (by omega)
 refine GoR.end ?_
 refine Go.seq noJ_ok ?_
 refine Go.label noJ_ok ?_
 iterate 2 refine Go.seq noJ_ok ?_
 refine Go.region noJ_ok rfl ?_
 refine GoR.op rfl rfl (ld77 rfl f0 rfl) rfl ?_
 refine GoR.call rfl rfl (aOp_callFunc aFunc97 rfl) (hauls_ok (A.ext e0)) ?_ (by rintro _ _ ⟨bf, q, _, HA, l1⟩; cases q)
 rintro v3 h3 ⟨bf, q, x3, HA, l1⟩
 cases q
 refine ⟨_, rfl, ?_⟩
 have := e0.1
 replace f1 := f1.ext x3
 replace f0 := f0.ext x3
 replace e0 := e0.trans x3
 refine GoR.end ?_
 refine Go.block noJ_ok ?_
 have hb0 := f0.1
 have hb1 := f1.1
 have hx0 := e0.1
 have hn1 : h.next < h0.next := by omega
 have hu2 := u2.1
 have eF : ∀ {hh}, ExtF (fun b => b = h0.next) h3 hh → Ext h hh := fun x => x.low e0 fun b q => by omega
 have g0 := f0
 refine Go.rangeF (items := haulI [] R.es) (A := HaulsA R lo gp ge bf) (fun b => b = h0.next) (fun j hh G => ((haulsV R.es).take j).any R.can = false ∧ Has hh h0.next (.cells .plain [.bool false] 4) ∧ ∀ b, G b ↔ b = h0.next) (fun c hh G => c = .exit 0 ∧ R.possible = true ∧ Has hh h0.next (.cells .plain [.bool true] 4) ∧ ∀ b, G b ↔ b = h0.next)
  rfl aFunc133 Tryz.func120 (hauls1_it O lo gp ge bf) ?_ ⟨rfl, f1, fun b => Iff.rfl⟩ ?_ ?_ ?_ ?_ ?_ ?_ ?_
 ·intro h' x
  exact ⟨HA.f.extF x (by omega), A.ext (eF x)⟩
 ·rintro k hh G b ⟨_, f, hG⟩ q
  rw [(hG b).1 q]
  exact f.1
 ·rintro c hh G b ⟨_, _, f, hG⟩ q
  rw [(hG b).1 q]
  exact f.1
 ·rintro k h4 h5 G ⟨q, f, hG⟩ hn hk
  exact ⟨q, f.keep hn (hk _ f.1 (.inr ((hG _).2 rfl))), hG⟩
 ·rintro c h4 h5 G ⟨q, z, f, hG⟩ hn hk
  exact ⟨q, z, f.keep hn (hk _ f.1 (.inr ((hG _).2 rfl))), hG⟩
 ·rintro j item hj
  refine ⟨_, rfl, ?_⟩
  rintro hh G lb r0 fr rest' Q' ⟨hno, f2, hG⟩ x1 hsub hnl hlb fl hready contT contF
  obtain ⟨l, hl, rfl⟩ := haul_at hj
  have hlm := List.mem_of_getElem? hl
  have hll := hauls_len hlm
  have hw := padZ_len (l := l) (by omega)
  have ka := haulC_len hw (l.length : Int)
  have kb := haulC_scal (padZ l) (l.length : Int)
  have hnx : ((haulsV R.es).take (j + 1)).any R.can = R.can l := by
   rw [List.take_add_one, hl, Option.toList_some, List.any_append, hno]
   simp
  have hx1 := x1.1
  have hfl := fl.1
  replace f0 := f0.extF x1 (by omega)
  have GA := A.ext (eF x1)
  have y9 : ExtF (fun b => G b ∨ b = lb) hh hh := ExtF.of (Ext.refl _)
  have e9 : Ext hh hh := Ext.refl _
  clear e0 f1
  refine Go.region noJ_ok rfl ?_
  refine GoR.alloc rfl rfl rfl zt126 rfl rfl fun h4 x4 f4 => ?_
  have := e9.1
  have := f2.1
  have := fl.1
  have := f0.1
  replace f2 := f2.ext x4
  replace fl := fl.ext x4
  replace f0 := f0.ext x4
  replace y9 := y9.ext x4
  have := f4.1
  refine GoR.store rfl rfl rfl rfl rfl rfl f4 rfl sz126 (beq_len ka) kb (splice_whole ka.symm) fun h5 u5 => ?_
  replace f4 := u5.has f4
  replace f2 := f2.upd u5 (by omega)
  replace fl := fl.upd u5 (by omega)
  replace f0 := f0.upd u5 (by omega)
  replace y9 := y9.upd u5 (.inr (by omega))
  refine GoR.end ?_
  refine Go.beginRound fl hready fun h15 u15 => ?_
  replace f0 := f0.upd u15 (by omega)
  replace f2 := f2.upd u15 (by omega)
  replace f4 := f4.upd u15 (by omega)
  replace fl := u15.has fl
  replace y9 := y9.upd u15 (.inl (.inr rfl))
  have hy9 := y9.1
  have GB : GroundAt h15 R lo gp ge := A.ext (eF (x1.trans (fun b q => by rcases q with q | q; exact .inl ((hG b).1 q); exact .inr (by omega)) y9))
  clear e9
  have e0 : Ext h15 h15 := Ext.refl _
  refine Go.block noJ_ok ?_
  iterate 2 refine Go.seq noJ_ok ?_
  refine Go.region noJ_ok rfl ?_
  refine GoR.op rfl rfl (fa77_0 rfl) rfl ?_
  refine GoR.op rfl rfl (ld74 rfl f0 rfl) rfl ?_
  refine GoR.op rfl rfl (aOp_lenSlice Tryz.underlying74 rfl (by assumption)) rfl ?_
  refine GoR.op rfl rfl rfl rfl ?_
  refine GoR.end ?_
  refine Go.block noJ_ok ?_
  have hb4 := f4.1
  have hb2 := f2.1
  have hbl := fl.1
  have hb0' := f0.1
  refine Go.loopKeep (fun i : Nat => [(1, .ptr h.next 0), (3, .ptr h0.next 0), (4, .ptr hh.next 0), (11, .int .i64 R.ps.length), (12, .int .i64 (i : Nat))])
   (fun m i h' => m + i = R.ps.length ∧ (∀ k p, k < i → R.ps[k]? = some p → (fatesV R.es k p l).isEmpty = false) ∧ Ext h15 h' ∧ Has h' h.next (.cells .plain [gp, ge] 77) ∧ Has h' h0.next (.cells .plain [.bool false] 4) ∧ Has h' hh.next (.cells .plain (haulC (padZ l) l.length) 126) ∧ Has h' lb (.loop { r0 with state := .busy }))
   (n := R.ps.length) 0 ⟨rfl, rfl, rfl, rfl, rfl, trivial⟩ ⟨rfl, fun k p q => by omega, e0, f0, f2, f4, fl⟩ ?_
  clear e0 f0 f2 f4 fl
  rintro m i hc ⟨hm, hk, e0, f0, f2, f4, fl⟩ again
  have hce := e0.1
  by_cases hi : i < R.ps.length
  ·obtain ⟨p, hp⟩ : ∃ p, R.ps[i]? = some p := ⟨R.ps[i], by simp [hi]⟩
   have hcan := fun h A => can_ok O (lo := lo) (gp := gp) (ge := ge) hp hw (loads_pad O hlm) (n := (l.length : Int)) (h := h) A
   rw [fates_pad hll] at hcan
   cases hem : (fatesV R.es i p l).isEmpty with
   | true =>
    rw [hem] at hcan
    refine Go.seq noJ_ok ?_
    refine Go.region noJ_ok rfl ?_
    refine GoR.op rfl rfl (aOp_lss rfl rfl (r := true) (decide_eq_true (by omega))) rfl ?_
    refine GoR.end ?_
    refine Go.seq noJ_ok ?_
    refine Go.cond noJ_ok (b := true) rfl ?_
    refine Go.code noJ_ok ?_
    refine Go.seq noJ_ok ?_
    refine Go.block noJ_ok ?_
    refine Go.seq noJ_ok ?_
    refine Go.region noJ_ok rfl ?_
    iterate 2 refine GoR.op rfl rfl rfl rfl ?_
    refine GoR.end ?_
    refine Go.seq noJ_ok ?_
    refine Go.region noJ_ok rfl ?_
    refine GoR.op rfl rfl (ld77 rfl f0 rfl) rfl ?_
    refine GoR.op rfl rfl rfl rfl ?_
    refine GoR.op rfl rfl (ld126 rfl f4 (slice_all ka)) rfl ?_
    refine GoR.call rfl rfl (aOp_callFunc aFunc146 rfl) (hcan _ (GB.ext e0)) ?_ (by rintro _ _ ⟨q, _⟩; cases q)
    rintro v16 h16 ⟨q, x16⟩
    cases q
    refine ⟨_, rfl, ?_⟩
    replace f0 := f0.ext x16
    replace f2 := f2.ext x16
    replace f4 := f4.ext x16
    replace fl := fl.ext x16
    replace e0 := e0.trans x16
    refine GoR.op rfl rfl rfl rfl ?_
    refine GoR.end ?_
    refine Go.cond noJ_ok (b := true) rfl ?_
    refine Go.code noJ_ok ?_
    exact contT _ _ G ⟨by rw [hnx, can_not hp hem], f2, hG⟩ (fun b q => .inl q) (y9.ext e0) fl
   | false =>
    rw [hem] at hcan
    refine Go.seq noJ_ok ?_
    refine Go.region noJ_ok rfl ?_
    refine GoR.op rfl rfl (aOp_lss rfl rfl (r := true) (decide_eq_true (by omega))) rfl ?_
    refine GoR.end ?_
    refine Go.seq noJ_ok ?_
    refine Go.cond noJ_ok (b := true) rfl ?_
    refine Go.code noJ_ok ?_
    refine Go.seq noJ_ok ?_
    refine Go.block noJ_ok ?_
    refine Go.seq noJ_ok ?_
    refine Go.region noJ_ok rfl ?_
    iterate 2 refine GoR.op rfl rfl rfl rfl ?_
    refine GoR.end ?_
    refine Go.seq noJ_ok ?_
    refine Go.region noJ_ok rfl ?_
    refine GoR.op rfl rfl (ld77 rfl f0 rfl) rfl ?_
    refine GoR.op rfl rfl rfl rfl ?_
    refine GoR.op rfl rfl (ld126 rfl f4 (slice_all ka)) rfl ?_
    refine GoR.call rfl rfl (aOp_callFunc aFunc146 rfl) (hcan _ (GB.ext e0)) ?_ (by rintro _ _ ⟨q, _⟩; cases q)
    rintro v16 h16 ⟨q, x16⟩
    cases q
    refine ⟨_, rfl, ?_⟩
    replace f0 := f0.ext x16
    replace f2 := f2.ext x16
    replace f4 := f4.ext x16
    replace fl := fl.ext x16
    replace e0 := e0.trans x16
    refine GoR.op rfl rfl rfl rfl ?_
    refine GoR.end ?_
    refine Go.cond noJ_ok (b := false) rfl ?_
    refine Go.code noJ_ok ?_
    refine Go.inBlock noJ_ok ?_
    refine Go.region noJ_ok rfl ?_
    refine GoR.op rfl rfl (aOp_add rfl rfl (by constructor <;> omega) rfl) rfl ?_
    refine GoR.op rfl rfl rfl rfl ?_
    refine GoR.end ?_
    exact again (m - 1) (i + 1) _ _ (by omega) ⟨rfl, rfl, rfl, rfl, rfl, trivial⟩ ⟨by omega, fun k p' q hp' => by
     by_cases z : k = i
     ·subst z; rw [hp] at hp'; cases hp'; exact hem
     ·exact hk k p' (by omega) hp', e0, f0, f2, f4, fl⟩
  ·have hcan := can_take hk (by omega)
   have hpos : R.possible = true := by rw [possible_iff]; exact List.any_eq_true.2 ⟨l, hlm, hcan⟩
   have z9 := y9.ext e0
   refine Go.seq noJ_ok ?_
   refine Go.region noJ_ok rfl ?_
   refine GoR.op rfl rfl (aOp_lss rfl rfl (r := false) (decide_eq_false (by omega))) rfl ?_
   refine GoR.end ?_
   refine Go.seq noJ_ok ?_
   refine Go.cond noJ_ok (b := false) rfl ?_
   refine Go.code noJ_ok ?_
   refine Go.seq noJ_ok ?_
   refine Go.region noJ_ok rfl ?_
   refine GoR.store rfl rfl rfl rfl rfl rfl f2 rfl sz4 rfl rfl rfl fun h16 u16 => ?_
   replace f2 := u16.has f2
   replace fl := fl.upd u16 (by omega)
   clear e0
   refine GoR.end ?_
   exact contF _ _ _ _ G (.inr ⟨0, rfl, rfl⟩) ⟨rfl, hpos, f2, hG⟩ (fun b q => .inl q) (z9.upd u16 (.inl (.inl ((hG _).2 rfl)))) fl
 ·rintro d h30 G x30 hG hnd hd hdd ⟨hno, f, _⟩
  have e9 := eF x30
  have hx30 := x30.1
  have hz : R.possible = false := by
   have hlq : (haulI [] R.es).length = (haulsV R.es).length := by simp [haulI]
   rw [hlq, List.take_length] at hno
   rw [possible_iff]
   exact hno
  rw [hz]
  clear e0 f0 f1
  refine Go.inBlock noJ_ok ?_
  refine Go.seq noJ_ok ?_
  refine Go.region noJ_ok rfl ?_
  refine GoR.op rfl rfl (ld4 rfl f rfl) rfl ?_
  refine GoR.op rfl rfl rfl rfl ?_
  refine GoR.end ?_
  exact Go.retC hdd fun h9 u9 => ⟨aResult_of Tryz.func120 rfl rfl, rfl, e9.upd u9 (by omega)⟩
 ·rintro c d h30 G x30 hG hnd hd hdd ⟨rfl, hz, f, hG'⟩
  have e9 := eF x30
  have hx30 := x30.1
  rw [hz]
  clear e0 f0 f1
  refine Go.code noJ_ok ?_
  refine Go.seq noJ_ok ?_
  refine Go.region noJ_ok rfl ?_
  refine GoR.op rfl rfl (ld4 rfl f rfl) rfl ?_
  refine GoR.op rfl rfl rfl rfl ?_
  refine GoR.end ?_
  exact Go.retC hdd fun h9 u9 => ⟨aResult_of Tryz.func120 rfl rfl, rfl, e9.upd u9 (by omega)⟩
end Go.Proofs.YtkcimfopboelaaaGreat

set_option linter.unusedSimpArgs false
namespace Go.AbsE
open Go
section
variable {P : Program}
end
end Go.AbsE

set_option linter.unusedSimpArgs false
namespace Go.AbsE
open Go
section
variable {P : Program}
def esN (L : List (List Int × AVal)) : List AMapE := L.mapIdx fun i x => ⟨.agg (vints x.1), x.2, i⟩
theorem esN_app (L : List (List Int × AVal)) (x : List Int × AVal) : esN (L ++ [x]) = esN L ++ [⟨.agg (vints x.1), x.2, L.length⟩] := by unfold esN; rw [List.mapIdx_concat]
theorem esN_len (L : List (List Int × AVal)) : (esN L).length = L.length := by simp [esN]
theorem esN_at {L : List (List Int × AVal)} {en : AMapE} (h : en ∈ esN L) : ∃ i x, L[i]? = some x ∧ en = ⟨.agg (vints x.1), x.2, i⟩ := by
 unfold esN at h
 obtain ⟨i, hi, rfl⟩ := List.mem_mapIdx.1 h
 exact ⟨i, L[i], by simp [hi], rfl⟩
theorem esN_born {L : List (List Int × AVal)} : ∀ en, en ∈ esN L → en.born < L.length := by
 intro en h
 obtain ⟨i, x, hx, rfl⟩ := esN_at h
 exact (List.getElem?_eq_some_iff.1 hx).1
theorem esN_dist (L : List (List Int × AVal)) : (esN L).Pairwise fun a b => a.born ≠ b.born := by
 unfold esN
 rw [List.pairwise_iff_getElem]
 intro i j hi hj hij
 rw [List.getElem_mapIdx, List.getElem_mapIdx]
 dsimp only
 omega
theorem mapSetN_new {kt : TypeId} {N : Nat} (K : KeyN P kt N) {k : List Int} (hk : k.length = N) (v : AVal) (clock : Nat) : ∀ (es : List AMapE), (∀ e, e ∈ es → ∃ m, e.key = .agg (vints m) ∧ m.length = N ∧ k ≠ m) →
  aMapSet P kt (.agg (vints k)) v clock es = some (es ++ [⟨.agg (vints k), v, clock⟩], clock + 1)
 | [], _ => rfl
 | e :: es, h => by
  have ih := mapSetN_new K hk v clock es fun x hx => h x (List.mem_cons_of_mem _ hx)
  obtain ⟨m, hm, hml, hne⟩ := h e List.mem_cons_self
  unfold aMapSet
  rw [hm, pr_eq_keyN K hk hml, decide_eq_false hne, ih]
  rfl
theorem aOp_mapNewN {t : Tr AVal} {h : AH} {dst : Option Tmp} {tt : TypeId} {pos : String} {after : Array Edge} {guard : Option (Nat × Bool)} {ty kt vt : TypeId} {N : Nat} {x k y : Operand} {b : Nat} {L : List (List Int × AVal)} {key : List Int} {v : AVal}
  (K : KeyN P kt N) (hu : P.underlying ty = some (.map kt vt)) (hx : ev t x = some (.map b)) (hk : ev t k = some (.agg (i64s key))) (hy : ev t y = some v) (h4 : key.length = N)
  (hb : Has h b (.map (esN L) L.length)) (hl : ∀ x, x ∈ L → x.1.length = N ∧ key ≠ x.1) :
  ∃ h', aOp P t h ⟨dst, .mapUpdate ty x k y, tt, pos, after, guard⟩ = some (.val undefA h') ∧ Upd h b (.map (esN (L ++ [(key, v)])) (L ++ [(key, v)]).length) h' := by
 obtain ⟨h', s1, s2⟩ := set_upd h b (.map (esN (L ++ [(key, v)])) (L ++ [(key, v)]).length)
 refine ⟨h', ?_, s2⟩
 show opMapUpdate P t h ty x k y = _
 unfold opMapUpdate
 rw [hu, hx, hk, hy]
 dsimp only
 rw [hb.2, ground_vints]
 dsimp only
 rw [pr_check_keyN K h4]
 dsimp only
 rw [mapSetN_new K h4 v L.length (esN L) (fun e he => by
  obtain ⟨i, x, hx, rfl⟩ := esN_at he
  exact ⟨x.1, rfl, hl x (List.mem_of_getElem? hx)⟩)]
 rw [esN_app, List.length_append] at s1
 dsimp only
 show (match h.set b (some (ABlk.map (esN L ++ [⟨.agg (vints key), v, L.length⟩]) (L.length + 1))) with | some h => some (ANext.val undefA h) | none => none) = _
 rw [show h.set b (some (ABlk.map (esN L ++ [⟨.agg (vints key), v, L.length⟩]) (L.length + 1))) = some h' from s1]
theorem GoR.mapNewN {J : Jump} {c : FC} {k : List AItem} {Q : AM → Prop} {all : Array Oper} {l : List Oper} {dst : Option Tmp} {tt : TypeId} {pos : String} {after : Array Edge} {guard : Option (Nat × Bool)} {rest : List Oper} {i : Nat} {t : Tr AVal} {h : AH} {ty kt vt : TypeId} {N : Nat} {x kx y : Operand} {b : Nat} {L : List (List Int × AVal)} {key : List Int} {v : AVal}
  (hl : l = ⟨dst, .mapUpdate ty x kx y, tt, pos, after, guard⟩ :: rest) (hw : wantedA all t ⟨dst, .mapUpdate ty x kx y, tt, pos, after, guard⟩ = some true) (K : KeyN P kt N) (hu : P.underlying ty = some (.map kt vt)) (hd : dst = none)
  (hx : ev t x = some (.map b)) (hk : ev t kx = some (.agg (i64s key))) (hy : ev t y = some v) (h4 : key.length = N) (hb : Has h b (.map (esN L) L.length)) (hn : ∀ x, x ∈ L → x.1.length = N ∧ key ≠ x.1)
  (g : ∀ h1, Upd h b (.map (esN (L ++ [(key, v)])) (L ++ [(key, v)]).length) h1 → GoR P J c k Q (runOps P c.n all rest (i + 1) t h1)) : GoR P J c k Q (runOps P c.n all l i t h) := by
 obtain ⟨h1, q1, q2⟩ := aOp_mapNewN (dst := dst) (tt := tt) (pos := pos) (after := after) (guard := guard) K hu hx hk hy h4 hb hn
 refine GoR.op hl hw q1 ?_ (g h1 q2)
 unfold prepD
 rw [show (⟨dst, .mapUpdate ty x kx y, tt, pos, after, guard⟩ : Oper).dst = none from hd]
theorem absS_ints : ∀ l : List Int, mapO absS (l.map fun x => Value.int .i64 x) = some (l.map fun x => AVal.int .i64 x)
 | [] => rfl
 | x :: l => by simp only [List.map_cons, mapO, absS, absS_ints l]
theorem absV_vints (l : List Int) : absV (.agg (vints l)) = some (.agg (i64s l)) := by
 have := absS_ints l
 unfold absV vints i64s
 simp only [this]
theorem perm_pick {es vs rs : List AMapE} {en : AMapE} (hp : (vs ++ rs).Perm es) (hen : en ∈ es) (hnew : en.born ∉ vs.map AMapE.born) : ∃ ra rb, rs = ra ++ en :: rb ∧ ((vs ++ [en]) ++ (ra ++ rb)).Perm es := by
 have hmem : en ∈ rs := by
  rcases List.mem_append.1 (hp.mem_iff.2 hen) with q | q
  ·exact absurd (List.mem_map.2 ⟨en, q, rfl⟩) hnew
  ·exact q
 obtain ⟨ra, rb, rfl⟩ := List.append_of_mem hmem
 refine ⟨ra, rb, rfl, List.Perm.trans ?_ hp⟩
 simp only [List.append_assoc, List.singleton_append]
 exact List.Perm.append_left _ List.perm_middle.symm
theorem perm_over {es vs rs : List AMapE} (hp : (vs ++ rs).Perm es) (hd : es.Pairwise fun a b => a.born ≠ b.born) (hall : ∀ en, en ∈ es → en.born ∈ vs.map AMapE.born) : rs = [] := by
 have hdist : (vs ++ rs).Pairwise fun a b => a.born ≠ b.born := (hp.symm.pairwise_iff (fun h => h.symm)).1 hd
 cases rs with
 | nil => rfl
 | cons x rs =>
  exfalso
  have hx : x ∈ es := hp.mem_iff.1 (by simp)
  obtain ⟨y, hy, hyb⟩ := List.mem_map.1 (hall x hx)
  rw [List.pairwise_append] at hdist
  exact hdist.2.2 y hy x (by simp) hyb
end
end Go.AbsE

namespace Go.Proofs.YtkcimfopboelaaaGreat
open Go Go.AbsE
set_option linter.unusedSimpArgs false
set_option maxRecDepth 100000
set_option maxHeartbeats 0
set_option linter.unusedVariables false
def keyL (l : List Int) : List Int := padZ l ++ [(l.length : Int)]
theorem keyL_len {l : List Int} (h : l.length ≤ 10) : (keyL l).length = 11 := by unfold keyL; rw [List.length_append, padZ_len h]; rfl
theorem keyL_inj {l m : List Int} (h : l.length = m.length) (q : keyL l = keyL m) : l = m := by
 unfold keyL padZ at q
 rw [List.append_assoc, List.append_assoc] at q
 exact (List.append_inj q h).1
theorem haulC_key (l : List Int) : haulC (padZ l) (l.length : Nat) = i64s (keyL l) := haulC_ints _ _
theorem hauls_nodup : ∀ (es : List EV), (haulsV es).Pairwise (· ≠ ·)
 | [] => by simp [haulsV]
 | e :: es => by
  have ih := hauls_nodup es
  unfold haulsV upto
  rw [List.flatMap_map, List.pairwise_flatMap]
  refine ⟨fun k _ => ?_, ?_⟩
  ·rw [List.pairwise_map]
   exact ih.imp fun hne q => hne (by injection q)
  ·refine List.Pairwise.imp ?_ List.nodup_range
   intro k k' hne x hx y hy q
   obtain ⟨_, _, rfl⟩ := List.mem_map.1 hx
   obtain ⟨_, _, rfl⟩ := List.mem_map.1 hy
   injection q with q1 q2
   omega
theorem key126 : KeyN Tryz.prog 126 11 where
 fs := ⟨_, Tryz.underlying126, .cons (n := 10) ⟨by decide, .inr ⟨sz85, _, _, Tryz.underlying85, Tryz.underlying3, sz3⟩⟩ rfl (.cons (n := 1) ⟨by decide, .inl ⟨rfl, _, Tryz.underlying3⟩⟩ rfl (.nil _))⟩
 std := by kernel_rfl
def Parts (h : AH) (G : Nat → Prop) (lo : Nat) (v : AVal) (fs : List (List Ft)) : Prop :=
 ∃ sls : List AVal, sls.length = fs.length ∧ Grow h 120 1 lo v fs.length sls ∧ (∀ b, v = .gsl b 0 0 fs.length → G b) ∧
  ∀ (k : Nat) sl f, sls[k]? = some sl → fs[k]? = some f → Grow h 87 14 lo sl f.length (f.flatMap Ft.cells) ∧ ∀ b, sl = .gsl b 0 0 f.length → G b
theorem Parts.keep {h h' : AH} {G : Nat → Prop} {lo : Nat} {v : AVal} {fs : List (List Ft)} (k : Parts h G lo v fs) (hn : h.next ≤ h'.next) (he : ∀ b, b < h.next → G b → h'.get b = h.get b) : Parts h' G lo v fs := by
 obtain ⟨sls, h1, h2, h3, h4⟩ := k
 exact ⟨sls, h1, h2.keep hn (fun b b1 b2 q => he b b2 (h3 b q)), h3, fun k sl f q1 q2 => ⟨(h4 k sl f q1 q2).1.keep hn (fun b b1 b2 q => he b b2 ((h4 k sl f q1 q2).2 b q)), (h4 k sl f q1 q2).2⟩⟩
theorem grow_blk {h : AH} {el : TypeId} {sz lo : Nat} {s : AVal} {n : Nat} {cs : List AVal} (k : Grow h el sz lo s n cs) {b : Nat} (hs : s = .gsl b 0 0 n) : Has h b (.cells .grow cs el) := by
 rcases k.2 with ⟨z, _⟩ | ⟨_, b', _, z, f⟩
 ·rw [z] at hs; cases hs
 ·rw [z] at hs; cases hs; exact f
theorem Parts.keepM {h h' : AH} {G : Nat → Prop} {lo : Nat} {v : AVal} {fs : List (List Ft)} (k : Parts h G lo v fs) (hn : h.next ≤ h'.next) {bm : Nat} {es : List AMapE} {cl : Nat} (fm : Has h bm (.map es cl)) (he : ∀ b, b < h.next → G b → b ≠ bm → h'.get b = h.get b) : Parts h' G lo v fs := by
 obtain ⟨sls, h1, h2, h3, h4⟩ := k
 have ne : ∀ {el : TypeId} {sz n : Nat} {s : AVal} {cs : List AVal}, Grow h el sz lo s n cs → ∀ b, s = .gsl b 0 0 n → b ≠ bm := fun g b q z => by
  subst z
  have := (grow_blk g q).2.symm.trans fm.2
  cases this
 exact ⟨sls, h1, h2.keep hn (fun b b1 b2 q => he b b2 (h3 b q) (ne h2 b q)), h3, fun k sl f q1 q2 => ⟨(h4 k sl f q1 q2).1.keep hn (fun b b1 b2 q => he b b2 ((h4 k sl f q1 q2).2 b q) (ne (h4 k sl f q1 q2).1 b q)), (h4 k sl f q1 q2).2⟩⟩
theorem Parts.mono {h : AH} {G G' : Nat → Prop} {lo : Nat} {v : AVal} {fs : List (List Ft)} (k : Parts h G lo v fs) (hG : ∀ b, G b → G' b) : Parts h G' lo v fs := by
 obtain ⟨sls, h1, h2, h3, h4⟩ := k
 exact ⟨sls, h1, h2, fun b q => hG b (h3 b q), fun k sl f q1 q2 => ⟨(h4 k sl f q1 q2).1, fun b q => hG b ((h4 k sl f q1 q2).2 b q)⟩⟩
def KnownIn (R : RoadV) (h : AH) (G : Nat → Prop) (lo bm : Nat) (hs : List (List Int)) : Prop :=
 ∃ L : List (List Int × AVal), L.map (fun x => x.1) = hs.map keyL ∧ Has h bm (.map (esN L) L.length) ∧ G bm ∧ ∀ (i : Nat) l x, hs[i]? = some l → L[i]? = some x → Parts h G lo x.2 (R.fates l)
theorem KnownIn.keep {R : RoadV} {h h' : AH} {G : Nat → Prop} {lo bm : Nat} {hs : List (List Int)} (k : KnownIn R h G lo bm hs) (hn : h.next ≤ h'.next) (he : ∀ b, b < h.next → G b → h'.get b = h.get b) : KnownIn R h' G lo bm hs := by
 obtain ⟨L, h1, h2, h3, h4⟩ := k
 exact ⟨L, h1, h2.keep hn (he _ h2.1 h3), h3, fun i l x q1 q2 => (h4 i l x q1 q2).keep hn he⟩
theorem KnownIn.mono {R : RoadV} {h : AH} {G G' : Nat → Prop} {lo bm : Nat} {hs : List (List Int)} (k : KnownIn R h G lo bm hs) (hG : ∀ b, G b → G' b) : KnownIn R h G' lo bm hs := by
 obtain ⟨L, h1, h2, h3, h4⟩ := k
 exact ⟨L, h1, h2, hG _ h3, fun i l x q1 q2 => (h4 i l x q1 q2).mono hG⟩
theorem empty96_ok {sl : AVal} {n : Nat} (hl : lenA sl = some n) {h : AH} : Runs Tryz.prog 96 [sl] h (fun en h' => en = .ret (.bool (decide (n = 0))) ∧ Ext h h') := by
 by_cases q : n = 0
 ·rw [decide_eq_true q]
  have e0 : Ext h h := Ext.refl _
  refine Runs.intro aFunc96 rfl rfl rfl rfl fun rest => ?_
  refine Go.seq noJ_ok ?_
  refine Go.region noJ_ok rfl ?_
  refine GoR.op rfl rfl rfl rfl ?_
  refine GoR.end ?_
  refine Go.seq noJ_ok ?_
  refine Go.region noJ_ok rfl ?_
  refine GoR.op rfl rfl rfl rfl ?_
  refine GoR.op rfl rfl (aOp_lenSlice Tryz.underlying120 rfl (by assumption)) rfl ?_
  refine GoR.op rfl rfl (aOp_eql rfl rfl (r := true) (decide_eq_true (by omega))) rfl ?_
  refine GoR.op rfl rfl rfl rfl ?_
  refine GoR.end ?_
  exact Go.ret noJ_ok (ret_end (aResult_of Tryz.func96 rfl rfl) ⟨rfl, e0⟩)
 ·rw [decide_eq_false q]
  have e0 : Ext h h := Ext.refl _
  refine Runs.intro aFunc96 rfl rfl rfl rfl fun rest => ?_
  refine Go.seq noJ_ok ?_
  refine Go.region noJ_ok rfl ?_
  refine GoR.op rfl rfl rfl rfl ?_
  refine GoR.end ?_
  refine Go.seq noJ_ok ?_
  refine Go.region noJ_ok rfl ?_
  refine GoR.op rfl rfl rfl rfl ?_
  refine GoR.op rfl rfl (aOp_lenSlice Tryz.underlying120 rfl (by assumption)) rfl ?_
  refine GoR.op rfl rfl (aOp_eql rfl rfl (r := false) (decide_eq_false (by omega))) rfl ?_
  refine GoR.op rfl rfl rfl rfl ?_
  refine GoR.end ?_
  exact Go.ret noJ_ok (ret_end (aResult_of Tryz.func96 rfl rfl) ⟨rfl, e0⟩)
theorem fillV {v z : AVal} (hv : v.cells = [v]) : aFillA (fun i => some (i * 1, 1)) (repl [z] 1) [(0, v)] = some [v] := by
 show (match some (0 * 1, 1) with | some (off, size) => cond (Nat.beq v.cells.length size) (match splice [z] off v.cells with | some cs => some cs | none => none) none | none => none) = some [v]
 rw [hv]
 rfl
theorem len_empty {α : Type} (l : List α) : decide (l.length = 0) = l.isEmpty := by cases l <;> simp
theorem flat_one {α β : Type} (f : α → β) : ∀ l : List α, (l.flatMap fun x => [f x]) = l.map f
 | [] => rfl
 | x :: l => by rw [List.flatMap_cons, flat_one f l]; rfl
theorem zip_fst {α β : Type} : ∀ {l : List α} {m : List β}, l.length = m.length → (l.zip m).map (fun x => x.1) = l
 | [], [], _ => rfl
 | [], _ :: _, h => by simp at h
 | _ :: _, [], h => by simp at h
 | a :: l, b :: m, h => by rw [List.zip_cons_cons, List.map_cons, zip_fst (by simpa using h)]
theorem zip_any {α β : Type} {p : β → Bool} : ∀ {l : List α} {m : List β}, l.length = m.length → (l.zip m).any (fun x => p x.2) = m.any p
 | [], [], _ => rfl
 | [], _ :: _, h => by simp at h
 | _ :: _, [], h => by simp at h
 | a :: l, b :: m, h => by rw [List.zip_cons_cons, List.any_cons, List.any_cons, zip_any (by simpa using h)]
theorem can_any {R : RoadV} {l : List Int} : (R.fates l).any (fun f => f.isEmpty) = !R.can l := by
 unfold RoadV.can
 rw [← any_not]
 simp
theorem truths_ok {R : RoadV} (O : R.Ok) {lo : Nat} {gp ge : AVal} {h : AH} (A : GroundAt h R lo gp ge) : Runs Tryz.prog 52 [.agg [gp, ge]] h (fun en h' => Ext h h' ∧ ((R.possible = true ∧ ∃ bm, en = .ret (.map bm) ∧ h.next ≤ bm ∧ KnownIn R h' (fun b => h.next ≤ b) h.next bm R.hs) ∨ (R.possible = false ∧ en = .pan (refusal 10)))) := by
 have hnp := O.np
 have hne := O.ne
 have hlenP := A.psl.len
 rw [List.length_map] at hlenP
 have e0 : Ext h h := Ext.refl _
 refine Runs.intro aFunc52 rfl rfl rfl rfl fun rest => ?_
 refine Go.seq noJ_ok ?_
 refine Go.region noJ_ok rfl ?_
 refine GoR.box rfl rfl rfl rfl rfl rfl fun h0 x0 f0 => ?_
 have := e0.1
 replace e0 := e0.trans x0
 have := f0.1
 refine GoR.op rfl rfl rfl rfl ?_
 refine GoR.end ?_
 refine Go.seq noJ_ok ?_
 refine Go.region noJ_ok rfl ?_
 refine GoR.makeMap rfl rfl rfl rfl rfl fun h1 x1 f1 => ?_
 have := e0.1
 have := f0.1
 replace f0 := f0.ext x1
 replace e0 := e0.trans x1
 have := f1.1
 refine GoR.alloc rfl rfl rfl zt80 rfl rfl fun h2 x2 f2 => ?_
 have := e0.1
 have := f1.1
 have := f0.1
 replace f1 := f1.ext x2
 replace f0 := f0.ext x2
 replace e0 := e0.trans x2
 have := f2.1
 refine GoR.store rfl rfl rfl rfl rfl rfl f2 rfl sz80 rfl rfl rfl fun h3 u3 => ?_
 replace f2 := u3.has f2
 replace f1 := f1.upd u3 (by omega)
 replace f0 := f0.upd u3 (by omega)
 replace e0 := e0.upd u3 (by omega)
 refine GoR.end ?_
 refine Go.seq noJ_ok ?_
 refine Go.region noJ_ok rfl ?_
 refine GoR.alloc rfl rfl rfl zt121 rfl rfl fun h4 x4 f4 => ?_
 have := e0.1
 have := f2.1
 have := f1.1
 have := f0.1
 replace f2 := f2.ext x4
 replace f1 := f1.ext x4
 replace f0 := f0.ext x4
 replace e0 := e0.trans x4
 have := f4.1
 refine GoR.store rfl rfl rfl rfl rfl rfl f4 rfl sz121 rfl rfl rfl fun h5 u5 => ?_
 replace f4 := u5.has f4
 replace f2 := f2.upd u5 (by omega)
 replace f1 := f1.upd u5 (by omega)
 replace f0 := f0.upd u5 (by omega)
 replace e0 := e0.upd u5 (by omega)
 refine GoR.end ?_
 iterate 2 refine Go.seq noJ_ok ?_
 refine Go.region noJ_ok rfl ?_
 refine GoR.op rfl rfl (ld77 rfl f0 rfl) rfl ?_
 refine GoR.call rfl rfl (aOp_callFunc aFunc97 rfl) (hauls_ok (A.ext e0)) ?_ (by rintro _ _ ⟨bf, q, _, HA, l1⟩; cases q)
 rintro v6 h6 ⟨bf, q, x6, HA, l1⟩
 cases q
 refine ⟨_, rfl, ?_⟩
 have := e0.1
 replace f4 := f4.ext x6
 replace f2 := f2.ext x6
 replace f1 := f1.ext x6
 replace f0 := f0.ext x6
 replace e0 := e0.trans x6
 refine GoR.end ?_
 refine Go.block noJ_ok ?_
 have hb0 := f0.1
 have hb1 := f1.1
 have hb2 := f2.1
 have hb4 := f4.1
 have hx0 := e0.1
 have hn1 : h.next < h0.next := by omega
 have hn2 : h0.next < h1.next := by omega
 have hu3 := u3.1
 have hn3 : h1.next < h3.next := by omega
 have hu5 := u5.1
 have hn5 : h3.next < h5.next := by omega
 have eF : ∀ {hh}, ExtF (fun b => b = h0.next) h6 hh → Ext h hh := fun x => x.low e0 fun b q => by omega
 refine Go.rangeF (items := haulI [] R.es) (A := HaulsA R lo gp ge bf) (fun b => b = h0.next) (fun j hh G => KnownIn R hh G h.next h0.next (((haulsV R.es).take j).filter R.can) ∧ ∀ b, G b → h.next ≤ b ∧ b < hh.next ∧ (b < h6.next → b = h0.next)) (fun c hh G => False)
  rfl aFunc133 Tryz.func52 (hauls1_it O lo gp ge bf) ?_ ⟨⟨[], rfl, f1, rfl, fun i l x q => by simp at q⟩, fun b q => by subst q; exact ⟨by omega, hb1, fun _ => rfl⟩⟩ ?_ (fun _ _ _ _ q => q.elim) ?_ (fun _ _ _ _ q => q.elim) ?_ ?_ (fun _ _ _ _ _ _ _ _ _ q => q.elim)
 ·intro h' x
  exact ⟨HA.f.extF x (by omega), A.ext (eF x)⟩
 ·rintro k hh G b ⟨_, hG⟩ q
  exact (hG b q).2.1
 ·rintro k h8 h9 G ⟨K, hG⟩ hn hk
  exact ⟨K.keep hn fun b b1 b2 => hk b b1 (.inr b2), fun b q => ⟨(hG b q).1, by have := (hG b q).2.1; omega, (hG b q).2.2⟩⟩
 ·rintro j item hj
  refine ⟨_, rfl, ?_⟩
  rintro hh G lb r0 fr rest' Q' ⟨K, hG⟩ x1 hsub hnl hlb fl hready contT contF
  obtain ⟨l, hl, rfl⟩ := haul_at hj
  have hlm := List.mem_of_getElem? hl
  have hll := hauls_len hlm
  have hw := padZ_len (l := l) (by omega)
  have ka := haulC_len hw (l.length : Int)
  have kb := haulC_scal (padZ l) (l.length : Int)
  have hnx : ((haulsV R.es).take (j + 1)).filter R.can = ((haulsV R.es).take j).filter R.can ++ (if R.can l = true then [l] else []) := by
   rw [List.take_add_one, hl, Option.toList_some, List.filter_append]
   congr 1
   cases q : R.can l <;> simp [List.filter_cons, q]
  have hx1 := x1.1
  have hfl := fl.1
  replace f0 := f0.extF x1 (by omega)
  replace f2 := f2.extF x1 (by omega)
  replace f4 := f4.extF x1 (by omega)
  have GA := A.ext (eF x1)
  have y9 : ExtF (fun b => G b ∨ b = lb) hh hh := ExtF.of (Ext.refl _)
  have e9 : Ext hh hh := Ext.refl _
  clear e0 f1
  refine Go.region noJ_ok rfl ?_
  refine GoR.alloc rfl rfl rfl zt126 rfl rfl fun h7 x7 f7 => ?_
  have := e9.1
  have := fl.1
  have := f0.1
  have := f2.1
  have := f4.1
  replace fl := fl.ext x7
  replace f0 := f0.ext x7
  replace f2 := f2.ext x7
  replace f4 := f4.ext x7
  replace e9 := e9.trans x7
  replace y9 := y9.ext x7
  have := f7.1
  refine GoR.store rfl rfl rfl rfl rfl rfl f7 rfl sz126 (beq_len ka) kb (splice_whole ka.symm) fun h8 u8 => ?_
  replace f7 := u8.has f7
  replace fl := fl.upd u8 (by omega)
  replace f0 := f0.upd u8 (by omega)
  replace f2 := f2.upd u8 (by omega)
  replace f4 := f4.upd u8 (by omega)
  replace e9 := e9.upd u8 (by omega)
  replace y9 := y9.upd u8 (.inr (by omega))
  refine GoR.end ?_
  refine Go.beginRound fl hready fun h15 u15 => ?_
  replace f0 := f0.upd u15 (by omega)
  replace f2 := f2.upd u15 (by omega)
  replace f4 := f4.upd u15 (by omega)
  replace f7 := f7.upd u15 (by omega)
  replace fl := u15.has fl
  replace y9 := y9.upd u15 (.inl (.inr rfl))
  have hy9 := y9.1
  have hn15 : h15.next = h8.next := u15.1
  have hlb6 : h6.next ≤ lb := hlb
  have GB : GroundAt h15 R lo gp ge := A.ext (eF (x1.trans (fun b q => by
   rcases q with q | q
   ·by_cases z : b < h6.next
    ·exact .inl ((hG b q).2.2 z)
    ·exact .inr (by omega)
   ·exact .inr (by omega)) y9))
  have K15 := K.keep (h' := h15) (by omega) (fun b b1 b2 => by rw [u15.2.2 b (fun z => hnl (by rw [← z]; exact b2)), e9.2 b b1])
  clear e9
  have e0 : Ext h15 h15 := Ext.refl _
  refine Go.block noJ_ok ?_
  refine Go.seq noJ_ok ?_
  refine Go.region noJ_ok rfl ?_
  refine GoR.op rfl rfl rfl rfl ?_
  refine GoR.end ?_
  iterate 2 refine Go.seq noJ_ok ?_
  refine Go.region noJ_ok rfl ?_
  refine GoR.op rfl rfl (fa77_0 rfl) rfl ?_
  refine GoR.op rfl rfl (ld74 rfl f0 rfl) rfl ?_
  refine GoR.op rfl rfl (aOp_lenSlice Tryz.underlying74 rfl (by assumption)) rfl ?_
  refine GoR.op rfl rfl rfl rfl ?_
  refine GoR.end ?_
  refine Go.block noJ_ok ?_
  have hb0' := f0.1
  have hb2' := f2.1
  have hb4' := f4.1
  have hb7' := f7.1
  have hbl' := fl.1
  have hfl2 := fates_len R l
  refine Go.loopKeep (fun a : Nat × AVal × List AVal => [(1, .ptr h.next 0), (3, .ptr h1.next 0), (4, .ptr h3.next 0), (5, .ptr hh.next 0), (6, a.2.1), (14, .int .i64 R.ps.length), (15, .int .i64 (a.1 : Nat))])
   (fun m a h' => m + a.1 = R.ps.length ∧ a.2.2.length = a.1 ∧ Ext h15 h' ∧ Grow h' 120 1 h15.next a.2.1 a.1 a.2.2 ∧ (∀ (k : Nat) sl f, a.2.2[k]? = some sl → (R.fates l)[k]? = some f → Grow h' 87 14 h15.next sl f.length (f.flatMap Ft.cells)) ∧ Has h' h.next (.cells .plain [gp, ge] 77) ∧ Has h' h1.next (.cells .plain [.map h0.next] 80) ∧ Has h' h3.next (.cells .plain [.func (.func 96) [] []] 121) ∧ Has h' hh.next (.cells .plain (haulC (padZ l) l.length) 126) ∧ Has h' lb (.loop { r0 with state := .busy }))
   (n := R.ps.length) (0, .nilslice, []) ⟨rfl, rfl, rfl, rfl, rfl, rfl, rfl, trivial⟩ ⟨rfl, rfl, e0, Grow.nil _ _ _ _, fun k sl f q => by simp at q, f0, f2, f4, f7, fl⟩ ?_
  clear e0 f0 f2 f4 f7 fl
  rintro m ⟨i, s, sls⟩ hc ⟨hm, hsl, e0, gr, grs, f0, f2, f4, f7, fl⟩ again
  dsimp only at hm hsl gr grs ⊢
  have hce := e0.1
  have GC := GB.ext e0
  have e9 : Ext hc hc := Ext.refl _
  by_cases hi : i < R.ps.length
  ·obtain ⟨p, hp⟩ : ∃ p, R.ps[i]? = some p := ⟨R.ps[i], by simp [hi]⟩
   have hpO := O.p p (List.mem_of_getElem? hp)
   have hfi := fates_at (R := R) (ls := l) hp
   refine Go.seq noJ_ok ?_
   refine Go.region noJ_ok rfl ?_
   refine GoR.op rfl rfl (aOp_lss rfl rfl (r := true) (decide_eq_true (by omega))) rfl ?_
   refine GoR.end ?_
   refine Go.seq noJ_ok ?_
   refine Go.cond noJ_ok (b := true) rfl ?_
   refine Go.code noJ_ok ?_
   refine Go.seq noJ_ok ?_
   refine Go.block noJ_ok ?_
   refine Go.seq noJ_ok ?_
   refine Go.region noJ_ok rfl ?_
   iterate 2 refine GoR.op rfl rfl rfl rfl ?_
   refine GoR.end ?_
   refine Go.region noJ_ok rfl ?_
   refine GoR.op rfl rfl rfl rfl ?_
   refine GoR.op rfl rfl (ld77 rfl f0 rfl) rfl ?_
   refine GoR.op rfl rfl rfl rfl ?_
   refine GoR.op rfl rfl (ld126 rfl f7 (slice_all ka)) rfl ?_
   refine GoR.call rfl rfl (aOp_callFunc aFunc99 rfl) (fates_ok (part := (i : Int)) (w := padZ l) (n := (l.length : Int)) (GC.ext e9)) ?_ (by rintro _ _ ⟨bg, bp, bh, q, _, FA, l1, l2, l3⟩; cases q)
   rintro v16 h16 ⟨bg, bp, bh, q, x16, FA, l1, l2, l3⟩
   cases q
   refine ⟨_, rfl, ?_⟩
   have := e0.1
   have := e9.1
   replace f0 := f0.ext x16
   replace f2 := f2.ext x16
   replace f4 := f4.ext x16
   replace f7 := f7.ext x16
   replace fl := fl.ext x16
   replace e0 := e0.trans x16
   replace e9 := e9.trans x16
   refine GoR.call rfl rfl (aOp_callFunc aFunc98 rfl) (collect_ok aFunc137 (fates1_it O hp hw (loads_pad O hlm) (l.length : Int) bg bp bh) (fates_fit O) (Nat.le_trans (fates_few hpO) (by decide)) (fun h' x => ⟨FA.g.ext x, FA.p.ext x, FA.w.ext x, FA.A.ext x⟩)) ?_ (by rintro _ _ ⟨s9, q, _, _⟩; cases q)
   rintro v17 h17 ⟨s9, q, x17, f17⟩
   cases q
   refine ⟨_, rfl, ?_⟩
   have := e0.1
   have := e9.1
   replace f0 := f0.ext x17
   replace f2 := f2.ext x17
   replace f4 := f4.ext x17
   replace f7 := f7.ext x17
   replace fl := fl.ext x17
   replace e0 := e0.trans x17
   replace e9 := e9.trans x17
   rw [fates_pad hll] at f17
   have hs17 := grow_scal f17
   refine GoR.buildSl rfl rfl (ps := [(0, v17)]) (cs := [v17]) Tryz.underlying127 rfl sz120 zt120 rfl rfl (fillV hs17.2) rfl fun h18 x18 f18 => ?_
   have hx18 := x18.1
   have hx16 := x16.1
   have hx17 := x17.1
   have G18 : Grow h18 120 1 h15.next s i sls := gr.ext (e9.trans x18)
   refine GoR.append1F rfl rfl rfl Tryz.underlying127 Tryz.underlying127 sz120 by120 zt120 rfl rfl rfl rfl f18 rfl hs17.1 G18 (by omega) rfl rfl fun s19 h19 y19 g19 => ?_
   have hy19 := y19.1
   have x0' : Ext h15 h18 := e0.trans x18
   have hx15 := x0'.1
   replace f0 := (f0.ext x18).extF y19 (fun q => by have := (grow_own G18 q).1; omega)
   replace f2 := (f2.ext x18).extF y19 (fun q => by have := (grow_own G18 q).1; omega)
   replace f4 := (f4.ext x18).extF y19 (fun q => by have := (grow_own G18 q).1; omega)
   replace f7 := (f7.ext x18).extF y19 (fun q => by have := (grow_own G18 q).1; omega)
   replace fl := (fl.ext x18).extF y19 (fun q => by have := (grow_own G18 q).1; omega)
   have z19 : Ext h15 h19 := y19.low x0' (fun b q => (grow_own G18 q).1)
   have sep : ∀ {n : Nat} {sl : AVal} {cs : List AVal} {lo' : Nat}, Grow h18 87 14 lo' sl n cs → ∀ b, sl = .gsl b 0 0 n → s ≠ .gsl b 0 0 i := fun gs b q1 q2 => by
    rcases gs.2 with ⟨z, _⟩ | ⟨_, b', _, z, fz⟩
    ·rw [z] at q1; cases q1
    ·rw [z] at q1
     cases q1
     rcases G18.2 with ⟨z2, _⟩ | ⟨_, b2, _, z2, fz2⟩
     ·rw [z2] at q2; cases q2
     ·rw [z2] at q2
      cases q2
      have := fz.2.symm.trans fz2.2
      cases this
   clear e0 e9 f18
   refine GoR.op rfl rfl rfl rfl ?_
   refine GoR.end ?_
   refine Go.inBlock noJ_ok ?_
   refine Go.region noJ_ok rfl ?_
   refine GoR.op rfl rfl (aOp_add rfl rfl (by constructor <;> omega) rfl) rfl ?_
   refine GoR.op rfl rfl rfl rfl ?_
   refine GoR.end ?_
   refine again (m - 1) (i + 1, s19, sls ++ [v17]) _ _ (by omega) ⟨rfl, rfl, rfl, rfl, rfl, rfl, rfl, trivial⟩ ⟨by dsimp only; omega, by dsimp only; rw [List.length_append, hsl]; rfl, z19, g19.low (by omega), ?_, f0, f2, f4, f7, fl⟩
   intro k sl f q1 q2
   dsimp only at q1
   have keep : ∀ {n : Nat} {sl : AVal} {cs : List AVal}, Grow h18 87 14 h15.next sl n cs → Grow h19 87 14 h15.next sl n cs := fun gs => gs.keep hy19 fun b b1 b2 q => y19.2 b b2 (sep gs b q)
   by_cases z : k < i
   ·rw [List.getElem?_append_left (by omega)] at q1
    exact keep ((grs k sl f q1 q2).ext (x16.trans (x17.trans x18)))
   ·have zk : k = i := by
     have := (List.getElem?_eq_some_iff.1 q1).1
     rw [List.length_append, hsl] at this
     simp at this
     omega
    subst zk
    rw [List.getElem?_append_right (by omega), hsl, Nat.sub_self] at q1
    cases q1
    rw [hfi] at q2
    cases q2
    exact keep ((f17.ext x18).low (by omega))
  ·have hin : i = R.ps.length := by omega
   subst hin
   have hzl : sls.length = (R.fates l).length := by rw [hsl, hfl2]
   have hsz : SliceOf hc 1 s ((sls.zip (R.fates l)).map fun x => [x.1]) := grow_slice (f := fun x : AVal × List Ft => [x.1]) (sz := 1) (fun _ => rfl) (by rw [List.length_zip, ← hzl, Nat.min_self, hsl]) (by rw [flat_one, zip_fst hzl]; exact gr)
   have hco : ∀ (h9 : AH), SliceOf h9 1 s ((sls.zip (R.fates l)).map fun x => [x.1]) → Runs Tryz.prog 100 [s, .func (.func 96) [] []] h9 (fun en h' => en = .ret (.bool ((sls.zip (R.fates l)).any fun x => x.2.isEmpty)) ∧ Ext h9 h') := fun h9 A9 => cont100_ok (fun x : AVal × List Ft => x.1) (caps := []) aFunc96 (fun x => x.2.isEmpty) A9 (by rw [List.length_zip, ← hzl, Nat.min_self, hsl]; omega) (fun x h' hx e => by
    obtain ⟨k, hk⟩ := List.mem_iff_getElem?.1 hx
    obtain ⟨k1, k2⟩ := List.getElem?_zip_eq_some.1 hk
    have := empty96_ok (h := h') (grow_len (grs k _ _ k1 k2))
    rw [len_empty] at this
    exact this)
   rw [zip_any (p := fun f : List Ft => f.isEmpty) hzl, can_any] at hco
   cases hcan : R.can l with
   | false =>
    rw [hcan] at hco hnx
    rw [if_neg (by simp), List.append_nil] at hnx
    refine Go.seq noJ_ok ?_
    refine Go.region noJ_ok rfl ?_
    refine GoR.op rfl rfl (aOp_lss rfl rfl (r := false) (decide_eq_false (by omega))) rfl ?_
    refine GoR.end ?_
    refine Go.seq noJ_ok ?_
    refine Go.cond noJ_ok (b := false) rfl ?_
    refine Go.code noJ_ok ?_
    refine Go.seq noJ_ok ?_
    refine Go.region noJ_ok rfl ?_
    refine GoR.op rfl rfl rfl rfl ?_
    refine GoR.op rfl rfl (ld121 rfl f4 rfl) rfl ?_
    refine GoR.call rfl rfl (aOp_callFunc aFunc100 rfl) (hco _ hsz) ?_ (by rintro _ _ ⟨q, _⟩; cases q)
    rintro v16 h16 ⟨q, x16⟩
    cases q
    refine ⟨_, rfl, ?_⟩
    replace f2 := f2.ext x16
    replace f4 := f4.ext x16
    replace f7 := f7.ext x16
    replace fl := fl.ext x16
    replace e0 := e0.trans x16
    replace e9 := e9.trans x16
    refine GoR.op rfl rfl rfl rfl ?_
    refine GoR.end ?_
    refine Go.cond noJ_ok (b := false) rfl ?_
    refine Go.code noJ_ok ?_
    refine Go.inBlock noJ_ok ?_
    exact contT _ _ G ⟨by rw [hnx]; exact K15.keep (e0.1) (fun b b1 b2 => e0.2 b b1), fun b q => ⟨(hG b q).1, by have := (hG b q).2.1; have := e0.1; omega, (hG b q).2.2⟩⟩ (fun b q => .inl q) (y9.ext e0) fl
   | true =>
    rw [hcan] at hco hnx
    rw [if_pos rfl] at hnx
    refine Go.seq noJ_ok ?_
    refine Go.region noJ_ok rfl ?_
    refine GoR.op rfl rfl (aOp_lss rfl rfl (r := false) (decide_eq_false (by omega))) rfl ?_
    refine GoR.end ?_
    refine Go.seq noJ_ok ?_
    refine Go.cond noJ_ok (b := false) rfl ?_
    refine Go.code noJ_ok ?_
    refine Go.seq noJ_ok ?_
    refine Go.region noJ_ok rfl ?_
    refine GoR.op rfl rfl rfl rfl ?_
    refine GoR.op rfl rfl (ld121 rfl f4 rfl) rfl ?_
    refine GoR.call rfl rfl (aOp_callFunc aFunc100 rfl) (hco _ hsz) ?_ (by rintro _ _ ⟨q, _⟩; cases q)
    rintro v16 h16 ⟨q, x16⟩
    cases q
    refine ⟨_, rfl, ?_⟩
    replace f2 := f2.ext x16
    replace f7 := f7.ext x16
    replace fl := fl.ext x16
    replace e0 := e0.trans x16
    replace e9 := e9.trans x16
    refine GoR.op rfl rfl rfl rfl ?_
    refine GoR.end ?_
    refine Go.cond noJ_ok (b := true) rfl ?_
    refine Go.region noJ_ok rfl ?_
    refine GoR.op rfl rfl (ld80 rfl f2 rfl) rfl ?_
    refine GoR.op rfl rfl (ld126 rfl f7 (slice_all ka)) rfl ?_
    refine GoR.op rfl rfl rfl rfl ?_
    have z9 := y9.ext e0
    have hx16 := e0.1
    have n16 := e9.1
    obtain ⟨L, k1, k2, k3, k4⟩ := K15.keep hx16 (fun b b1 b2 => e0.2 b b1)
    have hLk : ∀ x, x ∈ L → x.1.length = 11 ∧ keyL l ≠ x.1 := by
     intro x hx
     have hxm : x.1 ∈ (((haulsV R.es).take j).filter R.can).map keyL := by
      rw [← k1]
      exact List.mem_map.2 ⟨x, hx, rfl⟩
     obtain ⟨l', hl', hxl⟩ := List.mem_map.1 hxm
     have hl't := (List.mem_filter.1 hl').1
     have hl'm := List.mem_of_mem_take hl't
     have hl'l := hauls_len hl'm
     rw [← hxl]
     refine ⟨keyL_len (by omega), fun q => ?_⟩
     have := keyL_inj (by omega) q
     subst this
     obtain ⟨j', hj', hjl⟩ := List.mem_take_iff_getElem.1 hl't
     have hjlt := (List.getElem?_eq_some_iff.1 hl).1
     have hjj := (List.getElem?_eq_some_iff.1 hl).2
     have := (List.pairwise_iff_getElem.1 (hauls_nodup R.es)) j' j (by omega) hjlt (by omega)
     exact this (by rw [hjl, hjj])
    refine GoR.mapNewN rfl rfl key126 Tryz.underlying80 rfl rfl (key := keyL l) (by rw [← haulC_key]; rfl) rfl (keyL_len (by omega)) k2 hLk fun h17 u17 => ?_
    have hn17 : h17.next = h16.next := u17.1
    have hkm := k2.1
    have bk : ∀ b, h15.next ≤ b → h17.get b = h16.get b := fun b q => u17.2.2 b (fun z => by have := (hG _ k3).2.1; omega)
    have keep17 : ∀ {el : TypeId} {sz n : Nat} {v : AVal} {cs : List AVal}, Grow hc el sz h15.next v n cs → Grow h17 el sz h15.next v n cs := fun gs => (gs.ext e9).keep (by rw [hn17]; exact Nat.le_refl _) fun b b1 b2 q => bk b b1
    have up : ∀ {el : TypeId} {sz n : Nat} {v : AVal} {cs : List AVal}, Grow h17 el sz h15.next v n cs → ∀ b, v = .gsl b 0 0 n → G b ∨ (hh.next ≤ b ∧ b < h17.next) := fun gs b q => by
     have := grow_own gs q
     exact .inr (by omega)
    replace fl := fl.upd u17 (fun z => hnl (by rw [z]; exact k3))
    refine GoR.end ?_
    refine Go.inBlock noJ_ok ?_
    refine contT _ _ (fun b => G b ∨ (hh.next ≤ b ∧ b < h17.next)) ⟨⟨L ++ [(keyL l, s)], ?_, u17.has k2, .inl k3, ?_⟩, ?_⟩ ?_ (z9.upd u17 (.inl (.inl k3))) fl
    ·rw [hnx, List.map_append, List.map_append, k1]
     rfl
    ·intro i l' x q1 q2
     rw [hnx] at q1
     have hLl : L.length = (((haulsV R.es).take j).filter R.can).length := by
      have := congrArg List.length k1
      simpa using this
     by_cases z : i < L.length
     ·rw [List.getElem?_append_left (by omega)] at q1 q2
      exact ((k4 i l' x q1 q2).keepM (by rw [hn17]; exact Nat.le_refl _) k2 (fun b b1 b2 b3 => u17.2.2 b b3)).mono fun b q => .inl q
     ·have zi : i = L.length := by
       have := (List.getElem?_eq_some_iff.1 q2).1
       rw [List.length_append] at this
       simp at this
       omega
      subst zi
      rw [List.getElem?_append_right (by omega), Nat.sub_self] at q2
      rw [List.getElem?_append_right (by omega), hLl, Nat.sub_self] at q1
      cases q1
      cases q2
      have g17 := keep17 gr
      exact ⟨sls, hzl, by rw [hfl2]; exact g17.low (by omega), fun b q => up g17 b (by rw [← hfl2]; exact q), fun k sl f q1 q2 => ⟨(keep17 (grs k sl f q1 q2)).low (by omega), up (keep17 (grs k sl f q1 q2))⟩⟩
    ·rintro b (q | q)
     ·have := hG b q
      exact ⟨this.1, by omega, this.2.2⟩
     ·exact ⟨by omega, q.2, fun z => by omega⟩
    ·rintro b (q | q)
     ·exact .inl q
     ·exact .inr q.1
 ·rintro d h30 G x30 hGs hnd hd hdd ⟨K, hG⟩
  have e9 := eF x30
  have hx30 := x30.1
  have hlq : (haulI [] R.es).length = (haulsV R.es).length := by simp [haulI]
  rw [hlq, List.take_length] at K
  replace f2 := f2.extF x30 (by omega)
  have KK : KnownIn R h30 G h.next h0.next R.hs := K
  obtain ⟨L, k1, k2, k3, k4⟩ := K
  have hLl : L.length = R.hs.length := by
   have := congrArg List.length k1
   rw [List.length_map, List.length_map] at this
   exact this
  clear e0 f0 f1 f4
  cases hp : R.possible with
  | true =>
   have hne : R.hs ≠ [] := by
    intro q
    unfold RoadV.possible at hp
    rw [q] at hp
    cases hp
   have hlen0 : decide (((esN L).length : Int) = 0) = false := decide_eq_false (by
    rw [esN_len, hLl]
    intro z
    have : R.hs.length = 0 := by omega
    exact hne (List.length_eq_zero_iff.1 this))
   refine Go.inBlock noJ_ok ?_
   refine Go.seq noJ_ok ?_
   refine Go.region noJ_ok rfl ?_
   refine GoR.op rfl rfl (ld80 rfl f2 rfl) rfl ?_
   refine GoR.op rfl rfl (aOp_lenMap Tryz.underlying80 rfl k2 rfl) rfl ?_
   refine GoR.op rfl rfl (aOp_eql rfl rfl hlen0) rfl ?_
   refine GoR.call rfl rfl (aOp_callFunc aFunc91 rfl) (refuse_no _ _) ?_ (by rintro _ _ ⟨q, _⟩; cases q)
   rintro v31 h31 ⟨q, x31⟩
   cases q
   refine ⟨_, rfl, ?_⟩
   replace hdd := hdd.ext x31
   replace f2 := f2.ext x31
   replace k2 := k2.ext x31
   replace e9 := e9.trans x31
   refine GoR.end ?_
   refine Go.seq noJ_ok ?_
   refine Go.region noJ_ok rfl ?_
   refine GoR.op rfl rfl (ld80 rfl f2 rfl) rfl ?_
   refine GoR.op rfl rfl rfl rfl ?_
   refine GoR.end ?_
   have hx31 := x31.1
   exact Go.retC hdd fun h9 u9 => ⟨aResult_of Tryz.func52 rfl rfl, e9.upd u9 (by omega), .inl ⟨rfl, h0.next, rfl, by omega, (KK.keep (h' := h9) (by rw [u9.1]; exact hx31) (fun b b1 b2 => by rw [u9.2.2 b (fun z => hnd (by rw [← z]; exact b2)), x31.2 b b1])).mono fun b q => (hG b q).1⟩⟩
  | false =>
   have hnil : R.hs = [] := by
    unfold RoadV.possible at hp
    cases q : R.hs with
    | nil => rfl
    | cons a b => rw [q] at hp; cases hp
   have hlen0 : decide (((esN L).length : Int) = 0) = true := decide_eq_true (by
    rw [esN_len, hLl, hnil]
    rfl)
   refine Go.inBlock noJ_ok ?_
   refine Go.seq noJ_ok ?_
   refine Go.region noJ_ok rfl ?_
   refine GoR.op rfl rfl (ld80 rfl f2 rfl) rfl ?_
   refine GoR.op rfl rfl (aOp_lenMap Tryz.underlying80 rfl k2 rfl) rfl ?_
   refine GoR.op rfl rfl (aOp_eql rfl rfl hlen0) rfl ?_
   refine GoR.callP rfl rfl (aOp_callFunc aFunc91 rfl) (refuse_ok true 10 _) (by rintro _ _ ⟨_, ⟨q, _⟩ | ⟨_, q⟩⟩ <;> cases q) ?_
   rintro chain h9 ⟨rfl, ⟨q, _⟩ | ⟨_, q⟩⟩
   ·cases q
   have q := AEnd.pan.inj q
   subst q
   exact FLeft.collected (fun q => by cases q) hdd fun h' u => FLeft.pan ⟨e9.upd u (by omega), .inr ⟨rfl, rfl⟩⟩
end Go.Proofs.YtkcimfopboelaaaGreat

set_option linter.unusedSimpArgs false
namespace Go.AbsE
open Go
section
variable {P : Program}
structure TakesV (P : Program) (base : Nat) (y : AVal) (items : List AVal) (J E : Nat → AH → (Nat → Prop) → Prop) : Prop where
 ltJ : ∀ {k h F b}, J k h F → F b → b < h.next
 keepJ : ∀ {k h F h'}, J k h F → h.next ≤ h'.next → (∀ b, b < h.next → (b < base ∨ F b) → h'.get b = h.get b) → J k h' F
 ltE : ∀ {k h F b}, E k h F → F b → b < h.next
 keepE : ∀ {k h F h'}, E k h F → h.next ≤ h'.next → (∀ b, b < h.next → (b < base ∨ F b) → h'.get b = h.get b) → E k h' F
 take : ∀ {k item h F}, items[k]? = some item → J k h F → ∃ x, callY P y [item] h = some x ∧ (∀ v h', x ≠ .val v h') ∧
  Does P x (fun en h' => ExtF F h h' ∧ ∃ F', (∀ b, F' b → F b ∨ h.next ≤ b) ∧ ((en = .ret (.bool true) ∧ J (k + 1) h' F') ∨ (en = .ret (.bool false) ∧ E k h' F')))
theorem TakesV.ext {base : Nat} {y : AVal} {items : List AVal} {J E : Nat → AH → (Nat → Prop) → Prop} (T : TakesV P base y items J E) {k : Nat} {h h' : AH} {F : Nat → Prop} (j : J k h F) (e : Ext h h') : J k h' F := T.keepJ j e.1 fun b hb _ => e.2 b hb
theorem TakesV.keep {base : Nat} {y : AVal} {items : List AVal} {J E : Nat → AH → (Nat → Prop) → Prop} (T : TakesV P base y items J E) {k : Nat} {h h' : AH} {F : Nat → Prop} (j : J k h F) (hn : h.next ≤ h'.next) (he : ∀ b, b < h.next → (b < base ∨ F b) → h'.get b = h.get b) : J k h' F := T.keepJ j hn he
theorem TakesV.shift {base : Nat} {y : AVal} {items sub : List AVal} {J E : Nat → AH → (Nat → Prop) → Prop} (T : TakesV P base y items J E) (o : Nat) (hs : ∀ (n : Nat) v, sub[n]? = some v → items[o + n]? = some v) :
  TakesV P base y sub (fun n => J (o + n)) (fun n => E (o + n)) where
 ltJ := fun j => T.ltJ j
 keepJ := fun j => T.keepJ j
 ltE := fun j => T.ltE j
 keepE := fun j => T.keepE j
 take := fun h j => T.take (hs _ _ h) j
def IterV (P : Program) (g : FuncId) (first cap : List AVal) (items : List AVal) (A : AH → Prop) : Prop :=
 ∀ (y : AVal) (base : Nat) (J E : Nat → AH → (Nat → Prop) → Prop) (h : AH) (F : Nat → Prop), y.cells = [y] → scalars [y] = true → (∀ h', ExtF F h h' → A h') → base ≤ h.next → TakesV P base y items J E → J 0 h F → Runs P g (first ++ [y] ++ cap) h (IterFR F J E items.length h)
theorem IterV.mono {g : FuncId} {first cap : List AVal} {items : List AVal} {A A' : AH → Prop} (k : IterV P g first cap items A) (hA : ∀ h, A' h → A h) : IterV P g first cap items A' :=
 fun y base J E h F hyc hys hA' => k y base J E h F hyc hys fun h' x => hA h' (hA' h' x)
theorem Go.rangeV {fn n : Nat} {ds : List ADef} {dk : Bool} {rst : List AFr} {k : List AItem} {Q : AM → Prop} {t : Tr AVal} {h : AH} {x : Operand} {params : Array Tmp} {assign body : Code} {g : FuncId} {gf fnr : Func} {first cap : List AVal}
  {items : List AVal} {A : AH → Prop} (F0 : Nat → Prop) (Inv : Nat → AH → (Nat → Prop) → Prop) (Fin : Code → AH → (Nat → Prop) → Prop)
  (hx : ev t x = some (.func (.func g) first cap)) (hg : aFunc P g = some gf) (hfn : P.funcs[fn]? = some fnr) (it : IterV P g first cap items A)
  (hA : ∀ h', ExtF F0 h h' → A h') (hI : Inv 0 h F0)
  (lI : ∀ k hh F b, Inv k hh F → F b → b < hh.next) (lF : ∀ c hh F b, Fin c hh F → F b → b < hh.next)
  (kI : ∀ k h1 h2 F, Inv k h1 F → h1.next ≤ h2.next → (∀ b, b < h1.next → (b < h.next ∨ F b) → h2.get b = h1.get b) → Inv k h2 F)
  (kF : ∀ c h1 h2 F, Fin c h1 F → h1.next ≤ h2.next → (∀ b, b < h1.next → (b < h.next ∨ F b) → h2.get b = h1.get b) → Fin c h2 F)
  (bd : ∀ (j : Nat) item, items[j]? = some item → ∃ t1, putArgs t n params.toList [item] = some t1 ∧ ∀ (hh : AH) (F : Nat → Prop) (lb : Nat) (r0 : ALoop) (fr : AFr) (rest : List AFr) (Q' : AM → Prop), Inv j hh F → ExtF F0 h hh → (∀ b, F b → F0 b ∨ h.next ≤ b) → ¬ F lb → h.next ≤ lb → Has hh lb (.loop r0) → r0.state = .ready →
   (∀ tt h' F', Inv (j + 1) h' F' → (∀ b, F' b → F b ∨ hh.next ≤ b) → ExtF (fun b => F b ∨ b = lb) hh h' → Has h' lb (.loop { r0 with state := .busy }) → Go P ⟨fn, n, [], false, some lb, fr :: rest⟩ [] tt h' Q') →
   (∀ c tt h' kk F', (c = .ret ∨ ∃ id, c = .exit id ∧ exitA id kk = none) → Fin c h' F' → (∀ b, F' b → F b ∨ hh.next ≤ b) → ExtF (fun b => F b ∨ b = lb) hh h' → Has h' lb (.loop { r0 with state := .busy }) → Go P ⟨fn, n, [], false, some lb, fr :: rest⟩ (.code c :: kk) tt h' Q') →
   Go P ⟨fn, n, [], false, some lb, fr :: rest⟩ [.code assign, .beginRound, .code body] t1 hh Q')
  (nx : ∀ d h3 F, ExtF F0 h h3 → (∀ b, F b → F0 b ∨ h.next ≤ b) → ¬ F d → h.next ≤ d → Has h3 d (.deferred (some [])) → Inv items.length h3 F → Go P ⟨fn, n, .collected d :: ds, dk, none, rst⟩ k t h3 Q)
  (fx : ∀ c d h3 F, ExtF F0 h h3 → (∀ b, F b → F0 b ∨ h.next ≤ b) → ¬ F d → h.next ≤ d → Has h3 d (.deferred (some [])) → Fin c h3 F → Go P ⟨fn, n, .collected d :: ds, dk, none, rst⟩ (.code c :: k) t h3 Q) :
  Go P ⟨fn, n, ds, dk, none, rst⟩ (.code (.rangeFunc x params assign body) :: k) t h Q := by
 refine Go.rangeFunc hx hg fun d lb h2 hd hlb e2 fd fl => ?_
 obtain ⟨r0, hr0, fl⟩ : ∃ r0 : ALoop, r0 = _ ∧ Has h2 lb (.loop r0) := ⟨_, rfl, fl⟩
 have n2 := e2.1
 have nl := fl.1
 have nd := fd.1
 have hF0 : ∀ b, F0 b → b < h.next := fun b q => lI _ _ _ _ hI q
 let Agree : AH → Prop := fun hh => h2.next ≤ hh.next ∧ ∀ b, b < h2.next → ¬ F0 b → b ≠ lb → hh.get b = h2.get b
 let Sub : (Nat → Prop) → Prop := fun F => ∀ b, F b → F0 b ∨ h2.next ≤ b
 let J : Nat → AH → (Nat → Prop) → Prop := fun j hh G => ∃ F, (∀ b, G b ↔ (F b ∨ b = lb)) ∧ Sub F ∧ Inv j hh F ∧ Agree hh ∧ Has hh lb (.loop r0)
 let E : Nat → AH → (Nat → Prop) → Prop := fun j hh G => ∃ F, (∀ b, G b ↔ (F b ∨ b = lb)) ∧ Sub F ∧ ∃ c, Fin c hh F ∧ Agree hh ∧ Has hh lb (.loop { r0 with state := .done, pending := some c })
 have hsub : ∀ {hh}, Agree hh → ExtF F0 h hh := fun {hh} a => ⟨by have := a.1; omega, fun b hb hn => by rw [a.2 b (by omega) hn (by omega), e2.2 b hb]⟩
 have hd' : ∀ {hh}, Agree hh → Has hh d (.deferred (some [])) := fun {hh} a => ⟨by have := a.1; omega, by rw [a.2 d nd (fun q => by have := hF0 d q; omega) (by omega)]; exact fd.2⟩
 have agU : ∀ {h1 h3 : AH} {o : ABlk}, Agree h1 → Upd h1 lb o h3 → Agree h3 := fun a u => ⟨by rw [u.1]; exact a.1, fun b hb h1 h2 => by rw [u.2.2 b h2]; exact a.2 b hb h1 h2⟩
 have low : ∀ {F}, Sub F → ∀ b, F b → F0 b ∨ h.next ≤ b := fun s b q => (s b q).elim .inl fun q => .inr (by omega)
 have nlb : ∀ {F}, Sub F → ¬ F lb := fun s q => (s lb q).elim (fun q => by have := hF0 _ q; omega) fun q => by omega
 have nd' : ∀ {F}, Sub F → ¬ F d := fun s q => (s d q).elim (fun q => by have := hF0 _ q; omega) fun q => by omega
 have tk : TakesV P h2.next (.yield lb) items J E := by
  refine ⟨?_, ?_, ?_, ?_, ?_⟩
  ·rintro j hh G b ⟨F, hG, s, i, a, f⟩ q
   rcases (hG b).1 q with q | rfl
   ·exact lI _ _ _ _ i q
   ·exact f.1
  ·rintro j hh G h' ⟨F, hG, s, i, a, f⟩ hn he
   have := a.1
   refine ⟨F, hG, s, kI _ _ _ _ i hn fun b hb q => he b hb (q.elim (fun q => .inl (by omega)) fun q => .inr ((hG b).2 (.inl q))), ⟨by omega, fun b hb h1 h2' => by rw [he b (by omega) (.inl hb)]; exact a.2 b hb h1 h2'⟩, ⟨by have := f.1; omega, by rw [he lb f.1 (.inr ((hG lb).2 (.inr rfl)))]; exact f.2⟩⟩
  ·rintro j hh G b ⟨F, hG, s, c, i, a, f⟩ q
   rcases (hG b).1 q with q | rfl
   ·exact lF _ _ _ _ i q
   ·exact f.1
  ·rintro j hh G h' ⟨F, hG, s, c, i, a, f⟩ hn he
   have := a.1
   refine ⟨F, hG, s, c, kF _ _ _ _ i hn fun b hb q => he b hb (q.elim (fun q => .inl (by omega)) fun q => .inr ((hG b).2 (.inl q))), ⟨by omega, fun b hb h1 h2' => by rw [he b (by omega) (.inl hb)]; exact a.2 b hb h1 h2'⟩, ⟨by have := f.1; omega, by rw [he lb f.1 (.inr ((hG lb).2 (.inr rfl)))]; exact f.2⟩⟩
  ·rintro j item hh G hit ⟨F, hG, s, i, a, f⟩
   obtain ⟨t1, p1, p2⟩ := bd j item hit
   refine ⟨_, rfl, (fun _ _ q => by cases q), ?_⟩
   subst hr0
   refine Does.round f p1 hfn fun fr rest Q' hr hpn => ?_
   have hGx : ∀ {h'}, ExtF (fun b => F b ∨ b = lb) hh h' → ExtF G hh h' := fun x' => ⟨x'.1, fun b hb hn => x'.2 b hb fun q => hn ((hG b).2 q)⟩
   have hlt2 : h2.next ≤ hh.next := a.1
   have ag : ∀ {h'}, ExtF (fun b => F b ∨ b = lb) hh h' → Agree h' := fun x' => ⟨by have := a.1; have := x'.1; omega, fun b hb h1 h2' => by
    rw [x'.2 b (by have := a.1; omega) (fun q => q.elim (fun q => (s b q).elim h1 fun q => by omega) h2')]
    exact a.2 b hb h1 h2'⟩
   have sub' : ∀ {F' : Nat → Prop}, (∀ b, F' b → F b ∨ hh.next ≤ b) → Sub F' := fun q b hb => (q b hb).elim (s b) fun q => .inr (by omega)
   have upx : ∀ {h' h''} {o : ABlk}, ExtF (fun b => F b ∨ b = lb) hh h' → Upd h' lb o h'' → ExtF (fun b => F b ∨ b = lb) hh h'' := fun x' u => ⟨by rw [u.1]; exact x'.1, fun b hb hn => by rw [u.2.2 b (fun q => hn (.inr q))]; exact x'.2 b hb hn⟩
   have own : ∀ {F' : Nat → Prop}, (∀ b, F' b → F b ∨ hh.next ≤ b) → ∀ b, (F' b ∨ b = lb) → G b ∨ hh.next ≤ b := fun q b z => z.elim (fun z => (q b z).elim (fun z => .inl ((hG b).2 (.inl z))) .inr) fun z => .inl ((hG b).2 (.inr z))
   refine p2 hh F lb _ fr rest Q' i (hsub a) (low s) (nlb s) (by omega) f rfl ?_ ?_
   ·intro tt h' F' i' so x' f'
    refine Go.roundEnd f' fun h'' u => ?_
    refine hr (.bool true) h'' ⟨hGx (upx x' u), fun b => F' b ∨ b = lb, own so, .inl ⟨rfl, F', fun b => Iff.rfl, sub' so, kI _ _ _ _ i' (by rw [u.1]; exact Nat.le_refl _) (fun b hb q => u.2.2 b (fun z => by subst z; exact q.elim (fun q => by omega) (nlb (sub' so)))), agU (ag x') u, u.has f'⟩⟩
   ·intro c tt h' kk F' hc i' so x' f'
    have fin : ∀ h'', Upd h' lb (.loop { state := .done, pending := some c, fn := fn, n := n, tmps := t, params := params.toList, assign := assign, body := body, defers := d }) h'' → ∃ fr', fr.finish (.bool false) = some fr' ∧ Reach P ⟨fr' :: rest, h''⟩ Q' := by
     intro h'' u
     exact hr (.bool false) h'' ⟨hGx (upx x' u), fun b => F' b ∨ b = lb, own so, .inr ⟨rfl, F', fun b => Iff.rfl, sub' so, c, kF _ _ _ _ i' (by rw [u.1]; exact Nat.le_refl _) (fun b hb q => u.2.2 b (fun z => by subst z; exact q.elim (fun q => by omega) (nlb (sub' so)))), agU (ag x') u, u.has f'⟩⟩
    rcases hc with rfl | ⟨id, rfl, hk⟩
    ·exact Go.roundRet f' fin
    ·exact Go.roundExit f' hk fin
 have ag2 : Agree h2 := ⟨Nat.le_refl _, fun _ _ _ _ => rfl⟩
 have s0 : Sub F0 := fun b q => .inl q
 have i2 : Inv 0 h2 F0 := kI _ _ _ _ hI n2 (fun b hb _ => e2.2 b hb)
 refine ⟨IterFR (fun b => F0 b ∨ b = lb) J E items.length h2, it (.yield lb) h2.next J E h2 (fun b => F0 b ∨ b = lb) rfl rfl (fun h' x => hA h' ⟨by have := x.1; omega, fun b hb hn => by rw [x.2 b (by omega) (fun q => q.elim hn (fun q => by omega)), e2.2 b hb]⟩) (Nat.le_refl _) tk ⟨F0, fun b => Iff.rfl, s0, i2, ag2, fl⟩, (fun chain h' q => by cases q.1), ?_⟩
 rintro v h' ⟨q, x', G, hGG, j | ⟨kk, hk, j⟩⟩
 ·obtain ⟨F, hG, s, i, a, f⟩ := j
  refine ⟨r0, f, by rw [hr0]; exact (fun q => by cases q), fun h3 u => ?_⟩
  have hp : r0.pending = none := by rw [hr0]
  rw [hp]
  exact nx d h3 F (hsub (agU a u)) (low s) (nd' s) (by omega) (hd' (agU a u)) (kI _ _ _ _ i (by rw [u.1]; exact Nat.le_refl _) (fun b hb q => u.2.2 b (fun z => by subst z; exact q.elim (fun q => by omega) (nlb s))))
 ·obtain ⟨F, hG, s, c, i, a, f⟩ := j
  refine ⟨_, f, (fun q => by cases q), fun h3 u => ?_⟩
  exact fx c d h3 F (hsub (agU a u)) (low s) (nd' s) (by omega) (hd' (agU a u)) (kF _ _ _ _ i (by rw [u.1]; exact Nat.le_refl _) (fun b hb q => u.2.2 b (fun z => by subst z; exact q.elim (fun q => by omega) (nlb s))))
end
end Go.AbsE
