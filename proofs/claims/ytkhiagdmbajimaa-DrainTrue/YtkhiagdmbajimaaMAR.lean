import Derived.Test.YtkhiagdmbajimaaMAQ
import Derived.Test.YtkhiagdmbajimaaMAH
import Derived.KernelRfl
namespace Go.Proofs.Ytkhiagdmbajimaa
open Go Go.AbsE
set_option linter.unusedSimpArgs false
set_option maxRecDepth 100000
set_option maxHeartbeats 0
set_option linter.unusedVariables false
def sgn (n r : Nat) : Int := if r = n then -1 else (r : Int)
def sgnC (c : List Nat) : List Int := c.map (sgn c.length)
theorem IsNext.congr {J J' : Nat → Bool} {l : List Int} {n a r : Nat} (h : IsNext J l n a r) (hJ : ∀ b, b < n → J' b = J b) : IsNext J' l n a r := by
 rcases h.h with ⟨h1, h2⟩ | ⟨h1, h2, h3, h4⟩
 ·exact ⟨.inl ⟨h1, fun b hb k => h2 b hb ((hJ b hb) ▸ k)⟩⟩
 ·exact ⟨.inr ⟨h1, h2, (hJ r h1).trans h3, fun b hb k => h4 b hb ((hJ b hb) ▸ k)⟩⟩
theorem next_start (l : List Int) (n a : Nat) : IsNext (fun _ => false) l n a n := ⟨.inl ⟨rfl, fun b _ k => by cases k⟩⟩
theorem next_high {J : Nat → Bool} {l : List Int} {n a r o : Nat} (h : IsNext J l n a r) (ho : lv l a ≤ lv l o) : IsNext (fun x => J x || decide (x = o)) l n a r := by
 rcases h.h with ⟨h1, h2⟩ | ⟨h1, h2, h3, h4⟩
 ·refine ⟨.inl ⟨h1, fun b hb k => ?_⟩⟩
  rcases Bool.or_eq_true _ _ |>.mp k with k | k
  ·exact h2 b hb k
  ·rw [of_decide_eq_true k]; exact ho
 ·refine ⟨.inr ⟨h1, h2, by rw [h3]; rfl, fun b hb k hlt => ?_⟩⟩
  rcases Bool.or_eq_true _ _ |>.mp k with k | k
  ·exact h4 b hb k hlt
  ·rw [of_decide_eq_true k] at hlt; omega
theorem next_take {J : Nat → Bool} {l : List Int} {n a r o : Nat} (h : IsNext J l n a r) (hn : o < n) (ho : lv l o < lv l a) (hr : r = n ∨ lv l o < lv l r ∨ (lv l o = lv l r ∧ o ≤ r)) : IsNext (fun x => J x || decide (x = o)) l n a o := by
 refine ⟨.inr ⟨hn, ho, by simp, fun b hb k hlt => ?_⟩⟩
 rcases Bool.or_eq_true _ _ |>.mp k with k | k
 ·rcases h.h with ⟨h1, h2⟩ | ⟨h1, h2, h3, h4⟩
  ·have := h2 b hb k; omega
  ·have := h4 b hb k hlt
   omega
 ·rw [of_decide_eq_true k]; exact .inr ⟨rfl, Nat.le_refl _⟩
theorem next_keep {J : Nat → Bool} {l : List Int} {n a r o : Nat} (h : IsNext J l n a r) (hr : r < n) (ho : lv l r < lv l o ∨ (lv l r = lv l o ∧ r ≤ o)) : IsNext (fun x => J x || decide (x = o)) l n a r := by
 rcases h.h with ⟨h1, h2⟩ | ⟨h1, h2, h3, h4⟩
 ·omega
 ·refine ⟨.inr ⟨h1, h2, by rw [h3]; rfl, fun b hb k hlt => ?_⟩⟩
  rcases Bool.or_eq_true _ _ |>.mp k with k | k
  ·exact h4 b hb k hlt
  ·rw [of_decide_eq_true k]; exact ho
def jp (D : DrainV) (st a i x : Nat) : Bool := (openV st 0 (D.ds.take i)).any fun w => joinsV w a x
theorem jp_all (D : DrainV) (st a x : Nat) : jp D st a D.ds.length x = D.J st a x := by unfold jp DrainV.J; rw [List.take_length]
theorem jp_skip {D : DrainV} {st a i : Nat} {w : Int × Int} (hw : D.ds[i]? = some w) (h : st.testBit i = true ∨ ∀ x, joinsV w a x = false) (x : Nat) : jp D st a (i + 1) x = jp D st a i x := by
 unfold jp
 rw [open_take hw, List.any_append]
 rcases h with h | h
 ·rw [if_pos h]; simp
 ·split <;> simp [h]
theorem jp_step {D : DrainV} {st a i o : Nat} {w : Int × Int} (hw : D.ds[i]? = some w) (hb : st.testBit i = false) (h : ∀ x, joinsV w a x = decide (x = o)) (x : Nat) : jp D st a (i + 1) x = (jp D st a i x || decide (x = o)) := by
 unfold jp
 rw [open_take hw, hb, if_neg (by decide), List.any_append, List.any_cons, List.any_nil, h, Bool.or_false]
theorem joins_a {a y : Nat} (h : a ≠ y) (x : Nat) : joinsV ((a : Int), (y : Int)) a x = decide (x = y) := by
 unfold joinsV
 dsimp only
 by_cases q : x = y
 ·subst q; simp
 ·have h1 : ¬ (y : Int) = (x : Int) := by omega
  have h2 : ¬ (y : Int) = (a : Int) := by omega
  simp [h1, h2, q]
theorem joins_b {a y : Nat} (h : y ≠ a) (x : Nat) : joinsV ((y : Int), (a : Int)) a x = decide (x = y) := by
 unfold joinsV
 dsimp only
 by_cases q : x = y
 ·subst q; simp
 ·have h1 : ¬ (y : Int) = (x : Int) := by omega
  have h2 : ¬ (y : Int) = (a : Int) := by omega
  simp [h1, h2, q]
theorem joins_no {u v a : Nat} (h1 : u ≠ a) (h2 : v ≠ a) (x : Nat) : joinsV ((u : Int), (v : Int)) a x = false := by
 unfold joinsV
 dsimp only
 have h3 : ¬ (u : Int) = (a : Int) := by omega
 have h4 : ¬ (v : Int) = (a : Int) := by omega
 simp [h3, h4]
theorem sgn_n (n : Nat) : sgn n n = -1 := if_pos rfl
theorem sgn_lt {n r : Nat} (h : r < n) : sgn n r = (r : Int) := if_neg (by omega)
theorem courses26_ok {D : DrainV} (O : D.Ok) {b d r s ls : AVal} {l : List Int} (hl : l.length = D.bs.length) {st : Nat} {h : AH} (A : DrainAt h D b d r s) (S : SliceOf h 1 ls (l.map fun x => [AVal.int .i64 x])) :
  Runs Try.prog 26 [.agg (dC b d r s), ls, .int .i64 (st : Nat)] h (fun en h' => ∃ sl, en = .ret sl ∧ Ext h h' ∧ Grow h' 3 1 h.next sl D.bs.length (i64s (sgnC (D.course st l)))) := by
 have hnb := O.nb
 have hnd := O.nd
 have hl2 := A.ds.len
 have hll := S.len
 rw [List.length_map] at hl2 hll;rw [hl] at hll
 have hsm := A.same
 have hsd := A.ds.same
 have hss := S.same
 have hlat : ∀ {k : Nat}, k < D.bs.length → ∃ bq off, aSlElems ls = some (bq, off, D.bs.length) ∧ CellsAt h bq (off + k * 1) 1 [.int .i64 (lv l k)] := fun {k} hk => by
  have hkl : l[k]? = some (lv l k) := by unfold lv; simp [hl, hk]
  obtain ⟨bq, off, q1, q2⟩ := S.at (i := k) (l := [.int .i64 (lv l k)]) (by rw [List.getElem?_map, hkl]; rfl)
  rw [List.length_map, hl] at q1;exact ⟨bq, off, q1, q2⟩
 have hcl := course_len D st l
 unfold dC at *
 have e0 : Ext h h := Ext.refl _
 refine Runs.intro aFunc26 rfl rfl rfl rfl fun rest => ?_;apply gS;refine gR rfl ?_;refine GoR.box rfl rfl rfl rfl rfl rfl fun h0 x0 f0 => ?_;have := e0.1;replace e0 := e0.trans x0;have := f0.1;refine gP ?_;apply gE;iterate 2 apply gS
 refine gR rfl ?_;refine gP ?_;refine gO rfl rfl (aOp_lenSlice Try.underlying47 rfl hll) rfl ?_;refine gP ?_;apply gE;refine Go.block noJ_ok ?_
 refine Go.loopKeep (fun a : Nat × AVal => [(1, ls), (2, .int .i64 (st : Nat)), (3, .ptr h.next 0), (6, a.2), (12, ls), (13, .int .i64 D.bs.length), (14, .int .i64 (a.1 : Nat))])
  (fun m a h' => m + a.1 = D.bs.length ∧ h0.next ≤ h'.next ∧ Ext h h' ∧ Has h' h.next (.cells .plain [b, d, r, s] 29) ∧ Grow h' 3 1 h0.next a.2 a.1 (i64s ((sgnC (D.course st l)).take a.1))) (n := D.bs.length) (0, .nilslice) ⟨rfl, rfl, rfl, rfl, rfl, rfl, rfl, trivial⟩ ⟨rfl, Nat.le_refl _, e0, f0, Grow.nil _ _ _ _⟩ ?_
 have hh0 : h.next < h0.next := by omega
 clear e0 f0;rintro m ⟨a, rsl⟩ h10 ⟨hm, hn10, e0, f0, G⟩ again
 dsimp only at hm G ⊢
 have hn0 := f0.1
 by_cases ha : a < D.bs.length
 ·obtain ⟨bq, oq, u1, ua⟩ := hlat ha
  have hlin := fun {k : Nat} (hk : k < D.bs.length) => hlat hk
  apply gS;refine gR rfl ?_;refine gO rfl rfl (kLT rfl rfl) rfl ?_;apply gE;apply gS;refine gC (b := true) rfl ?_;refine gD ?_;apply gS;refine Go.block noJ_ok ?_;apply gS;refine gR rfl ?_;iterate 2 refine gP ?_
  apply gE;apply gS;refine gR rfl ?_;refine gP ?_;apply gE;iterate 2 apply gS
  refine gR rfl ?_;refine gO rfl rfl (fa29_1 rfl) rfl ?_;refine gO rfl rfl (ld26 rfl f0 rfl) rfl ?_;refine gO rfl rfl (aOp_lenSlice Try.underlying26 rfl hl2) rfl ?_;refine gP ?_;apply gE;refine Go.block noJ_ok ?_
  have e5 : Ext h10 h10 := Ext.refl _
  refine Go.loopKeep (fun z : Nat × Nat => [(1, ls), (2, .int .i64 (st : Nat)), (3, .ptr h.next 0), (6, rsl), (7, .int .i64 (a : Nat)), (8, .int .i64 (sgn D.bs.length z.2)), (12, ls), (13, .int .i64 D.bs.length), (14, .int .i64 (a : Nat)), (18, d), (19, .int .i64 D.ds.length), (20, .int .i64 (z.1 : Nat))])
   (fun m z h' => m + z.1 = D.ds.length ∧ Ext h h' ∧ Ext h10 h' ∧ Has h' h.next (.cells .plain [b, d, r, s] 29) ∧ IsNext (jp D st a z.1) l D.bs.length a z.2) (n := D.ds.length) (0, D.bs.length) ⟨rfl, rfl, rfl, rfl, rfl, by show _ = some (AVal.int .i64 (sgn D.bs.length D.bs.length)); rw [sgn_n]; rfl, rfl, rfl, rfl, rfl, rfl, rfl, trivial⟩ ⟨by simp, e0, e5, f0, next_start l _ a⟩ ?_
  clear e0 e5 f0;rintro m2 ⟨i, o⟩ h20 ⟨hm2, e0, e5, f0, N⟩ again2
  dsimp only at hm2 N ⊢
  by_cases hi : i < D.ds.length
  ·obtain ⟨⟨wa, wb⟩, hw⟩ : ∃ w, D.ds[i]? = some w := ⟨D.ds[i], by simp [hi]⟩
   have hwo := O.d _ (List.mem_of_getElem? hw)
   unfold PairOk at hwo
   dsimp only at hwo
   obtain ⟨x, rfl⟩ := Int.eq_ofNat_of_zero_le hwo.1.1
   obtain ⟨y, rfl⟩ := Int.eq_ofNat_of_zero_le hwo.2.1.1
   obtain ⟨bw, ow, t1, t2⟩ := A.ds.at (i := i) (l := spC ((x : Int), (y : Int))) (by rw [List.getElem?_map, hw]; rfl)
   rw [List.length_map] at t1
   unfold spC at t2
   dsimp only at t2
   have hbit := bit_int st i
   have hor : o ≤ D.bs.length := by rcases N.h with ⟨q, _⟩ | ⟨q, _⟩ <;> omega
   obtain ⟨la, hla⟩ : ∃ z, lv l a = z := ⟨_, rfl⟩
   have ua' := ua
   rw [hla] at ua'
   by_cases c1 : x = a
   ·subst c1
    cases hb : st.testBit i with
    | true =>
     rw [hb] at hbit;apply gS;refine gR rfl ?_;refine gO rfl rfl (kLT rfl rfl) rfl ?_;apply gE;apply gS;refine gC (b := true) rfl ?_;refine gD ?_;apply gS;refine Go.block noJ_ok ?_;apply gS;refine gR rfl ?_;refine gP ?_;refine gO rfl rfl (aOp_indexAddr (i := i) Try.underlying26 sz32 rfl t1 rfl (Nat.ble_eq_true_of_le hi)) rfl ?_;refine gO rfl rfl (aOp_loadE ag32 sz32 rfl (t2.ext e0)) rfl ?_;refine GoR.alloc rfl rfl rfl zt32 rfl rfl fun h21 x21 f21 => ?_;have := e0.1;have := e5.1;have := f0.1;replace f0 := f0.ext x21;replace e0 := e0.trans x21;replace e5 := e5.trans x21;have := f21.1;refine gP ?_;refine GoR.store rfl rfl rfl rfl rfl rfl f21 rfl sz32 rfl rfl rfl fun h22 u22 => ?_;replace f21 := u22.has f21;replace f0 := f0.upd u22 (by omega);replace e0 := e0.upd u22 (by omega);replace e5 := e5.upd u22 (by omega);apply gE;apply gS;refine gR rfl ?_;refine gO rfl rfl (fa32_0 rfl) rfl ?_;refine gO rfl rfl (ld3 rfl f21 rfl) rfl ?_;refine gP ?_;apply gE;iterate 2 apply gS
     refine gR rfl ?_;refine gO rfl rfl (fa32_0 rfl) rfl ?_;refine gO rfl rfl (ld3 rfl f21 rfl) rfl ?_;refine gP ?_;refine gO rfl rfl (kET rfl rfl) rfl ?_;apply gE;refine gC (b := true) rfl ?_;refine gR rfl ?_;refine gO rfl rfl (fa32_1 rfl) rfl ?_;refine gO rfl rfl (ld3 rfl f21 rfl) rfl ?_;refine gP ?_;apply gE;iterate 2 apply gS
     refine Go.drawnE plan26_0 ?_;refine gQ rfl rfl (fa32_0 rfl) rfl ?_;refine gQ rfl rfl (ld3 rfl f21 rfl) rfl ?_;refine gQ rfl rfl rfl rfl ?_;refine gQ rfl rfl (kXF rfl rfl) rfl ?_;refine gQ rfl rfl rfl rfl ?_;iterate 4 refine GoE.skip rfl rfl rfl ?_
     iterate 4 refine gQ rfl rfl rfl rfl ?_
     refine gQ rfl rfl (aOp_shr rfl rfl (by omega) rfl) rfl ?_;refine gQ rfl rfl (aOp_and1 rfl rfl rfl) rfl ?_;refine gQ rfl rfl (aOp_eql rfl rfl hbit) rfl ?_;iterate 2 refine gQ rfl rfl rfl rfl ?_
     iterate 9 refine GoE.skip rfl rfl rfl ?_
     refine gQ rfl rfl rfl rfl ?_;refine GoE.end rfl ?_;refine gC (b := true) rfl ?_;refine gD ?_;refine gR rfl ?_;refine gO rfl rfl (aA rfl rfl) rfl ?_;refine gP ?_;apply gE;exact again2 (m2 - 1) (i + 1, o) _ _ (by omega) ⟨rfl, rfl, rfl, rfl, rfl, rfl, rfl, rfl, rfl, rfl, rfl, rfl, trivial⟩ ⟨by dsimp only; omega, e0, e5, f0, N.congr fun x _ => jp_skip hw (.inl hb) x⟩
    | false =>
     rw [hb] at hbit
     have hJ := jp_step hw hb (o := y) (joins_a (by omega))
     obtain ⟨b2, o2, v1, v2⟩ := hlin (k := y) (by omega)
     cases u1.symm.trans v1
     obtain ⟨lo, hlo⟩ : ∃ z, lv l y = z := ⟨_, rfl⟩
     rw [hlo] at v2
     by_cases c3 : la ≤ lo
     ·apply gS;refine gR rfl ?_;refine gO rfl rfl (kLT rfl rfl) rfl ?_;apply gE;apply gS;refine gC (b := true) rfl ?_;refine gD ?_;apply gS;refine Go.block noJ_ok ?_;apply gS;refine gR rfl ?_;refine gP ?_;refine gO rfl rfl (aOp_indexAddr (i := i) Try.underlying26 sz32 rfl t1 rfl (Nat.ble_eq_true_of_le hi)) rfl ?_;refine gO rfl rfl (aOp_loadE ag32 sz32 rfl (t2.ext e0)) rfl ?_;refine GoR.alloc rfl rfl rfl zt32 rfl rfl fun h21 x21 f21 => ?_;have := e0.1;have := e5.1;have := f0.1;replace f0 := f0.ext x21;replace e0 := e0.trans x21;replace e5 := e5.trans x21;have := f21.1;refine gP ?_;refine GoR.store rfl rfl rfl rfl rfl rfl f21 rfl sz32 rfl rfl rfl fun h22 u22 => ?_;replace f21 := u22.has f21;replace f0 := f0.upd u22 (by omega);replace e0 := e0.upd u22 (by omega);replace e5 := e5.upd u22 (by omega);apply gE;apply gS;refine gR rfl ?_;refine gO rfl rfl (fa32_0 rfl) rfl ?_;refine gO rfl rfl (ld3 rfl f21 rfl) rfl ?_;refine gP ?_;apply gE;iterate 2 apply gS
      refine gR rfl ?_;refine gO rfl rfl (fa32_0 rfl) rfl ?_;refine gO rfl rfl (ld3 rfl f21 rfl) rfl ?_;refine gP ?_;refine gO rfl rfl (kET rfl rfl) rfl ?_;apply gE;refine gC (b := true) rfl ?_;refine gR rfl ?_;refine gO rfl rfl (fa32_1 rfl) rfl ?_;refine gO rfl rfl (ld3 rfl f21 rfl) rfl ?_;refine gP ?_;apply gE;iterate 2 apply gS
      refine Go.drawnE plan26_0 ?_;refine gQ rfl rfl (fa32_0 rfl) rfl ?_;refine gQ rfl rfl (ld3 rfl f21 rfl) rfl ?_;refine gQ rfl rfl rfl rfl ?_;refine gQ rfl rfl (kXF rfl rfl) rfl ?_;refine gQ rfl rfl rfl rfl ?_;iterate 4 refine GoE.skip rfl rfl rfl ?_
      iterate 4 refine gQ rfl rfl rfl rfl ?_
      refine gQ rfl rfl (aOp_shr rfl rfl (by omega) rfl) rfl ?_;refine gQ rfl rfl (aOp_and1 rfl rfl rfl) rfl ?_;refine gQ rfl rfl (aOp_eql rfl rfl hbit) rfl ?_;iterate 4 refine gQ rfl rfl rfl rfl ?_
      refine gQ rfl rfl (aOp_indexAddr (i := y) Try.underlying47 sz3 rfl u1 rfl (Nat.ble_eq_true_of_le (by omega))) rfl ?_;refine gQ rfl rfl ((aOp_loadE1 (k := 0) ag3 rfl (v2.ext e0) rfl)) rfl ?_;iterate 2 refine gQ rfl rfl rfl rfl ?_
      refine gQ rfl rfl (aOp_indexAddr (i := x) Try.underlying47 sz3 rfl u1 rfl (Nat.ble_eq_true_of_le (by omega))) rfl ?_;refine gQ rfl rfl ((aOp_loadE1 (k := 0) ag3 rfl (ua'.ext e0) rfl)) rfl ?_;refine gQ rfl rfl (kNT rfl rfl) rfl ?_;refine gQ rfl rfl rfl rfl ?_;refine GoE.end rfl ?_;refine gC (b := true) rfl ?_;refine gD ?_;refine gR rfl ?_;refine gO rfl rfl (aA rfl rfl) rfl ?_;refine gP ?_;apply gE;exact again2 (m2 - 1) (i + 1, o) _ _ (by omega) ⟨rfl, rfl, rfl, rfl, rfl, rfl, rfl, rfl, rfl, rfl, rfl, rfl, trivial⟩ ⟨by dsimp only; omega, e0, e5, f0, (next_high N (by first | omega | (dsimp only; omega))).congr fun x _ => hJ x⟩
     ·by_cases c4 : o = D.bs.length
      ·have hs : sgn D.bs.length o = -1 := by rw [c4]; exact sgn_n _
       rw [hs];apply gS;refine gR rfl ?_;refine gO rfl rfl (kLT rfl rfl) rfl ?_;apply gE;apply gS;refine gC (b := true) rfl ?_;refine gD ?_;apply gS;refine Go.block noJ_ok ?_;apply gS;refine gR rfl ?_;refine gP ?_;refine gO rfl rfl (aOp_indexAddr (i := i) Try.underlying26 sz32 rfl t1 rfl (Nat.ble_eq_true_of_le hi)) rfl ?_;refine gO rfl rfl (aOp_loadE ag32 sz32 rfl (t2.ext e0)) rfl ?_;refine GoR.alloc rfl rfl rfl zt32 rfl rfl fun h21 x21 f21 => ?_;have := e0.1;have := e5.1;have := f0.1;replace f0 := f0.ext x21;replace e0 := e0.trans x21;replace e5 := e5.trans x21;have := f21.1;refine gP ?_;refine GoR.store rfl rfl rfl rfl rfl rfl f21 rfl sz32 rfl rfl rfl fun h22 u22 => ?_;replace f21 := u22.has f21;replace f0 := f0.upd u22 (by omega);replace e0 := e0.upd u22 (by omega);replace e5 := e5.upd u22 (by omega);apply gE;apply gS;refine gR rfl ?_;refine gO rfl rfl (fa32_0 rfl) rfl ?_;refine gO rfl rfl (ld3 rfl f21 rfl) rfl ?_;refine gP ?_;apply gE;iterate 2 apply gS
       refine gR rfl ?_;refine gO rfl rfl (fa32_0 rfl) rfl ?_;refine gO rfl rfl (ld3 rfl f21 rfl) rfl ?_;refine gP ?_;refine gO rfl rfl (kET rfl rfl) rfl ?_;apply gE;refine gC (b := true) rfl ?_;refine gR rfl ?_;refine gO rfl rfl (fa32_1 rfl) rfl ?_;refine gO rfl rfl (ld3 rfl f21 rfl) rfl ?_;refine gP ?_;apply gE;iterate 2 apply gS
       refine Go.drawnE plan26_0 ?_;refine gQ rfl rfl (fa32_0 rfl) rfl ?_;refine gQ rfl rfl (ld3 rfl f21 rfl) rfl ?_;refine gQ rfl rfl rfl rfl ?_;refine gQ rfl rfl (kXF rfl rfl) rfl ?_;refine gQ rfl rfl rfl rfl ?_;iterate 4 refine GoE.skip rfl rfl rfl ?_
       iterate 4 refine gQ rfl rfl rfl rfl ?_
       refine gQ rfl rfl (aOp_shr rfl rfl (by omega) rfl) rfl ?_;refine gQ rfl rfl (aOp_and1 rfl rfl rfl) rfl ?_;refine gQ rfl rfl (aOp_eql rfl rfl hbit) rfl ?_;iterate 4 refine gQ rfl rfl rfl rfl ?_
       refine gQ rfl rfl (aOp_indexAddr (i := y) Try.underlying47 sz3 rfl u1 rfl (Nat.ble_eq_true_of_le (by omega))) rfl ?_;refine gQ rfl rfl ((aOp_loadE1 (k := 0) ag3 rfl (v2.ext e0) rfl)) rfl ?_;iterate 2 refine gQ rfl rfl rfl rfl ?_
       refine gQ rfl rfl (aOp_indexAddr (i := x) Try.underlying47 sz3 rfl u1 rfl (Nat.ble_eq_true_of_le (by omega))) rfl ?_;refine gQ rfl rfl ((aOp_loadE1 (k := 0) ag3 rfl (ua'.ext e0) rfl)) rfl ?_;refine gQ rfl rfl (kNF rfl rfl) rfl ?_;refine gQ rfl rfl rfl rfl ?_;refine GoE.end rfl ?_;refine gC (b := false) rfl ?_;refine gD ?_;apply gS;refine Go.drawnE plan26_1 ?_;refine gQ rfl rfl rfl rfl ?_;refine gQ rfl rfl (kLT rfl rfl) rfl ?_;refine gQ rfl rfl rfl rfl ?_;iterate 9 refine GoE.skip rfl rfl rfl ?_
       iterate 2 refine gQ rfl rfl rfl rfl ?_
       iterate 14 refine GoE.skip rfl rfl rfl ?_
       refine gQ rfl rfl rfl rfl ?_;refine GoE.end rfl ?_;refine gC (b := true) rfl ?_;refine gR rfl ?_;iterate 2 refine gP ?_
       apply gE;refine Go.inBlock noJ_ok ?_;refine gR rfl ?_;refine gO rfl rfl (aA rfl rfl) rfl ?_;refine gP ?_;apply gE;exact again2 (m2 - 1) (i + 1, y) _ _ (by omega) ⟨rfl, rfl, rfl, rfl, rfl, by show _ = some (AVal.int .i64 (sgn D.bs.length y)); rw [sgn_lt (by omega)]; rfl, rfl, rfl, rfl, rfl, rfl, rfl, trivial⟩ ⟨by dsimp only; omega, e0, e5, f0, (next_take N (by first | omega | (dsimp only; omega)) (by first | omega | (dsimp only; omega)) (.inl c4)).congr fun x _ => hJ x⟩
      ·have hs : sgn D.bs.length o = (o : Int) := sgn_lt (by omega)
       rw [hs]
       obtain ⟨b3, o3, x1, x2⟩ := hlin (k := o) (by omega)
       cases u1.symm.trans x1
       obtain ⟨lr, hlr⟩ : ∃ z, lv l o = z := ⟨_, rfl⟩
       rw [hlr] at x2
       by_cases c5 : lo < lr
       ·apply gS;refine gR rfl ?_;refine gO rfl rfl (kLT rfl rfl) rfl ?_;apply gE;apply gS;refine gC (b := true) rfl ?_;refine gD ?_;apply gS;refine Go.block noJ_ok ?_;apply gS;refine gR rfl ?_;refine gP ?_;refine gO rfl rfl (aOp_indexAddr (i := i) Try.underlying26 sz32 rfl t1 rfl (Nat.ble_eq_true_of_le hi)) rfl ?_;refine gO rfl rfl (aOp_loadE ag32 sz32 rfl (t2.ext e0)) rfl ?_;refine GoR.alloc rfl rfl rfl zt32 rfl rfl fun h21 x21 f21 => ?_;have := e0.1;have := e5.1;have := f0.1;replace f0 := f0.ext x21;replace e0 := e0.trans x21;replace e5 := e5.trans x21;have := f21.1;refine gP ?_;refine GoR.store rfl rfl rfl rfl rfl rfl f21 rfl sz32 rfl rfl rfl fun h22 u22 => ?_;replace f21 := u22.has f21;replace f0 := f0.upd u22 (by omega);replace e0 := e0.upd u22 (by omega);replace e5 := e5.upd u22 (by omega);apply gE;apply gS;refine gR rfl ?_;refine gO rfl rfl (fa32_0 rfl) rfl ?_;refine gO rfl rfl (ld3 rfl f21 rfl) rfl ?_;refine gP ?_;apply gE;iterate 2 apply gS
        refine gR rfl ?_;refine gO rfl rfl (fa32_0 rfl) rfl ?_;refine gO rfl rfl (ld3 rfl f21 rfl) rfl ?_;refine gP ?_;refine gO rfl rfl (kET rfl rfl) rfl ?_;apply gE;refine gC (b := true) rfl ?_;refine gR rfl ?_;refine gO rfl rfl (fa32_1 rfl) rfl ?_;refine gO rfl rfl (ld3 rfl f21 rfl) rfl ?_;refine gP ?_;apply gE;iterate 2 apply gS
        refine Go.drawnE plan26_0 ?_;refine gQ rfl rfl (fa32_0 rfl) rfl ?_;refine gQ rfl rfl (ld3 rfl f21 rfl) rfl ?_;refine gQ rfl rfl rfl rfl ?_;refine gQ rfl rfl (kXF rfl rfl) rfl ?_;refine gQ rfl rfl rfl rfl ?_;iterate 4 refine GoE.skip rfl rfl rfl ?_
        iterate 4 refine gQ rfl rfl rfl rfl ?_
        refine gQ rfl rfl (aOp_shr rfl rfl (by omega) rfl) rfl ?_;refine gQ rfl rfl (aOp_and1 rfl rfl rfl) rfl ?_;refine gQ rfl rfl (aOp_eql rfl rfl hbit) rfl ?_;iterate 4 refine gQ rfl rfl rfl rfl ?_
        refine gQ rfl rfl (aOp_indexAddr (i := y) Try.underlying47 sz3 rfl u1 rfl (Nat.ble_eq_true_of_le (by omega))) rfl ?_;refine gQ rfl rfl ((aOp_loadE1 (k := 0) ag3 rfl (v2.ext e0) rfl)) rfl ?_;iterate 2 refine gQ rfl rfl rfl rfl ?_
        refine gQ rfl rfl (aOp_indexAddr (i := x) Try.underlying47 sz3 rfl u1 rfl (Nat.ble_eq_true_of_le (by omega))) rfl ?_;refine gQ rfl rfl ((aOp_loadE1 (k := 0) ag3 rfl (ua'.ext e0) rfl)) rfl ?_;refine gQ rfl rfl (kNF rfl rfl) rfl ?_;refine gQ rfl rfl rfl rfl ?_;refine GoE.end rfl ?_;refine gC (b := false) rfl ?_;refine gD ?_;apply gS;refine Go.drawnE plan26_1 ?_;refine gQ rfl rfl rfl rfl ?_;refine gQ rfl rfl (kLF rfl rfl) rfl ?_;iterate 3 refine gQ rfl rfl rfl rfl ?_
        refine gQ rfl rfl (aOp_indexAddr (i := y) Try.underlying47 sz3 rfl u1 rfl (Nat.ble_eq_true_of_le (by omega))) rfl ?_;refine gQ rfl rfl ((aOp_loadE1 (k := 0) ag3 rfl (v2.ext e0) rfl)) rfl ?_;iterate 2 refine gQ rfl rfl rfl rfl ?_
        refine gQ rfl rfl (aOp_indexAddr (i := o) Try.underlying47 sz3 rfl u1 rfl (Nat.ble_eq_true_of_le (by omega))) rfl ?_;refine gQ rfl rfl ((aOp_loadE1 (k := 0) ag3 rfl (x2.ext e0) rfl)) rfl ?_;refine gQ rfl rfl (kLT rfl rfl) rfl ?_;iterate 2 refine gQ rfl rfl rfl rfl ?_
        iterate 14 refine GoE.skip rfl rfl rfl ?_
        refine gQ rfl rfl rfl rfl ?_;refine GoE.end rfl ?_;refine gC (b := true) rfl ?_;refine gR rfl ?_;iterate 2 refine gP ?_
        apply gE;refine Go.inBlock noJ_ok ?_;refine gR rfl ?_;refine gO rfl rfl (aA rfl rfl) rfl ?_;refine gP ?_;apply gE;exact again2 (m2 - 1) (i + 1, y) _ _ (by omega) ⟨rfl, rfl, rfl, rfl, rfl, by show _ = some (AVal.int .i64 (sgn D.bs.length y)); rw [sgn_lt (by omega)]; rfl, rfl, rfl, rfl, rfl, rfl, rfl, trivial⟩ ⟨by dsimp only; omega, e0, e5, f0, (next_take N (by first | omega | (dsimp only; omega)) (by first | omega | (dsimp only; omega)) (.inr (.inl (by first | omega | (dsimp only; omega))))).congr fun x _ => hJ x⟩
       ·by_cases c6 : lo = lr
        ·by_cases c7 : y < o
         ·apply gS;refine gR rfl ?_;refine gO rfl rfl (kLT rfl rfl) rfl ?_;apply gE;apply gS;refine gC (b := true) rfl ?_;refine gD ?_;apply gS;refine Go.block noJ_ok ?_;apply gS;refine gR rfl ?_;refine gP ?_;refine gO rfl rfl (aOp_indexAddr (i := i) Try.underlying26 sz32 rfl t1 rfl (Nat.ble_eq_true_of_le hi)) rfl ?_;refine gO rfl rfl (aOp_loadE ag32 sz32 rfl (t2.ext e0)) rfl ?_;refine GoR.alloc rfl rfl rfl zt32 rfl rfl fun h21 x21 f21 => ?_;have := e0.1;have := e5.1;have := f0.1;replace f0 := f0.ext x21;replace e0 := e0.trans x21;replace e5 := e5.trans x21;have := f21.1;refine gP ?_;refine GoR.store rfl rfl rfl rfl rfl rfl f21 rfl sz32 rfl rfl rfl fun h22 u22 => ?_;replace f21 := u22.has f21;replace f0 := f0.upd u22 (by omega);replace e0 := e0.upd u22 (by omega);replace e5 := e5.upd u22 (by omega);apply gE;apply gS;refine gR rfl ?_;refine gO rfl rfl (fa32_0 rfl) rfl ?_;refine gO rfl rfl (ld3 rfl f21 rfl) rfl ?_;refine gP ?_;apply gE;iterate 2 apply gS
          refine gR rfl ?_;refine gO rfl rfl (fa32_0 rfl) rfl ?_;refine gO rfl rfl (ld3 rfl f21 rfl) rfl ?_;refine gP ?_;refine gO rfl rfl (kET rfl rfl) rfl ?_;apply gE;refine gC (b := true) rfl ?_;refine gR rfl ?_;refine gO rfl rfl (fa32_1 rfl) rfl ?_;refine gO rfl rfl (ld3 rfl f21 rfl) rfl ?_;refine gP ?_;apply gE;iterate 2 apply gS
          refine Go.drawnE plan26_0 ?_;refine gQ rfl rfl (fa32_0 rfl) rfl ?_;refine gQ rfl rfl (ld3 rfl f21 rfl) rfl ?_;refine gQ rfl rfl rfl rfl ?_;refine gQ rfl rfl (kXF rfl rfl) rfl ?_;refine gQ rfl rfl rfl rfl ?_;iterate 4 refine GoE.skip rfl rfl rfl ?_
          iterate 4 refine gQ rfl rfl rfl rfl ?_
          refine gQ rfl rfl (aOp_shr rfl rfl (by omega) rfl) rfl ?_;refine gQ rfl rfl (aOp_and1 rfl rfl rfl) rfl ?_;refine gQ rfl rfl (aOp_eql rfl rfl hbit) rfl ?_;iterate 4 refine gQ rfl rfl rfl rfl ?_
          refine gQ rfl rfl (aOp_indexAddr (i := y) Try.underlying47 sz3 rfl u1 rfl (Nat.ble_eq_true_of_le (by omega))) rfl ?_;refine gQ rfl rfl ((aOp_loadE1 (k := 0) ag3 rfl (v2.ext e0) rfl)) rfl ?_;iterate 2 refine gQ rfl rfl rfl rfl ?_
          refine gQ rfl rfl (aOp_indexAddr (i := x) Try.underlying47 sz3 rfl u1 rfl (Nat.ble_eq_true_of_le (by omega))) rfl ?_;refine gQ rfl rfl ((aOp_loadE1 (k := 0) ag3 rfl (ua'.ext e0) rfl)) rfl ?_;refine gQ rfl rfl (kNF rfl rfl) rfl ?_;refine gQ rfl rfl rfl rfl ?_;refine GoE.end rfl ?_;refine gC (b := false) rfl ?_;refine gD ?_;apply gS;refine Go.drawnE plan26_1 ?_;refine gQ rfl rfl rfl rfl ?_;refine gQ rfl rfl (kLF rfl rfl) rfl ?_;iterate 3 refine gQ rfl rfl rfl rfl ?_
          refine gQ rfl rfl (aOp_indexAddr (i := y) Try.underlying47 sz3 rfl u1 rfl (Nat.ble_eq_true_of_le (by omega))) rfl ?_;refine gQ rfl rfl ((aOp_loadE1 (k := 0) ag3 rfl (v2.ext e0) rfl)) rfl ?_;iterate 2 refine gQ rfl rfl rfl rfl ?_
          refine gQ rfl rfl (aOp_indexAddr (i := o) Try.underlying47 sz3 rfl u1 rfl (Nat.ble_eq_true_of_le (by omega))) rfl ?_;refine gQ rfl rfl ((aOp_loadE1 (k := 0) ag3 rfl (x2.ext e0) rfl)) rfl ?_;refine gQ rfl rfl (kLF rfl rfl) rfl ?_;iterate 4 refine gQ rfl rfl rfl rfl ?_
          refine gQ rfl rfl (aOp_indexAddr (i := y) Try.underlying47 sz3 rfl u1 rfl (Nat.ble_eq_true_of_le (by omega))) rfl ?_;refine gQ rfl rfl ((aOp_loadE1 (k := 0) ag3 rfl (v2.ext e0) rfl)) rfl ?_;iterate 2 refine gQ rfl rfl rfl rfl ?_
          refine gQ rfl rfl (aOp_indexAddr (i := o) Try.underlying47 sz3 rfl u1 rfl (Nat.ble_eq_true_of_le (by omega))) rfl ?_;refine gQ rfl rfl ((aOp_loadE1 (k := 0) ag3 rfl (x2.ext e0) rfl)) rfl ?_;refine gQ rfl rfl (kET rfl rfl) rfl ?_;iterate 3 refine gQ rfl rfl rfl rfl ?_
          refine gQ rfl rfl (kLT rfl rfl) rfl ?_;iterate 2 refine gQ rfl rfl rfl rfl ?_
          refine GoE.end rfl ?_;refine gC (b := true) rfl ?_;refine gR rfl ?_;iterate 2 refine gP ?_
          apply gE;refine Go.inBlock noJ_ok ?_;refine gR rfl ?_;refine gO rfl rfl (aA rfl rfl) rfl ?_;refine gP ?_;apply gE;exact again2 (m2 - 1) (i + 1, y) _ _ (by omega) ⟨rfl, rfl, rfl, rfl, rfl, by show _ = some (AVal.int .i64 (sgn D.bs.length y)); rw [sgn_lt (by omega)]; rfl, rfl, rfl, rfl, rfl, rfl, rfl, trivial⟩ ⟨by dsimp only; omega, e0, e5, f0, (next_take N (by first | omega | (dsimp only; omega)) (by first | omega | (dsimp only; omega)) (.inr (.inr (by first | omega | (dsimp only; omega))))).congr fun x _ => hJ x⟩
         ·apply gS;refine gR rfl ?_;refine gO rfl rfl (kLT rfl rfl) rfl ?_;apply gE;apply gS;refine gC (b := true) rfl ?_;refine gD ?_;apply gS;refine Go.block noJ_ok ?_;apply gS;refine gR rfl ?_;refine gP ?_;refine gO rfl rfl (aOp_indexAddr (i := i) Try.underlying26 sz32 rfl t1 rfl (Nat.ble_eq_true_of_le hi)) rfl ?_;refine gO rfl rfl (aOp_loadE ag32 sz32 rfl (t2.ext e0)) rfl ?_;refine GoR.alloc rfl rfl rfl zt32 rfl rfl fun h21 x21 f21 => ?_;have := e0.1;have := e5.1;have := f0.1;replace f0 := f0.ext x21;replace e0 := e0.trans x21;replace e5 := e5.trans x21;have := f21.1;refine gP ?_;refine GoR.store rfl rfl rfl rfl rfl rfl f21 rfl sz32 rfl rfl rfl fun h22 u22 => ?_;replace f21 := u22.has f21;replace f0 := f0.upd u22 (by omega);replace e0 := e0.upd u22 (by omega);replace e5 := e5.upd u22 (by omega);apply gE;apply gS;refine gR rfl ?_;refine gO rfl rfl (fa32_0 rfl) rfl ?_;refine gO rfl rfl (ld3 rfl f21 rfl) rfl ?_;refine gP ?_;apply gE;iterate 2 apply gS
          refine gR rfl ?_;refine gO rfl rfl (fa32_0 rfl) rfl ?_;refine gO rfl rfl (ld3 rfl f21 rfl) rfl ?_;refine gP ?_;refine gO rfl rfl (kET rfl rfl) rfl ?_;apply gE;refine gC (b := true) rfl ?_;refine gR rfl ?_;refine gO rfl rfl (fa32_1 rfl) rfl ?_;refine gO rfl rfl (ld3 rfl f21 rfl) rfl ?_;refine gP ?_;apply gE;iterate 2 apply gS
          refine Go.drawnE plan26_0 ?_;refine gQ rfl rfl (fa32_0 rfl) rfl ?_;refine gQ rfl rfl (ld3 rfl f21 rfl) rfl ?_;refine gQ rfl rfl rfl rfl ?_;refine gQ rfl rfl (kXF rfl rfl) rfl ?_;refine gQ rfl rfl rfl rfl ?_;iterate 4 refine GoE.skip rfl rfl rfl ?_
          iterate 4 refine gQ rfl rfl rfl rfl ?_
          refine gQ rfl rfl (aOp_shr rfl rfl (by omega) rfl) rfl ?_;refine gQ rfl rfl (aOp_and1 rfl rfl rfl) rfl ?_;refine gQ rfl rfl (aOp_eql rfl rfl hbit) rfl ?_;iterate 4 refine gQ rfl rfl rfl rfl ?_
          refine gQ rfl rfl (aOp_indexAddr (i := y) Try.underlying47 sz3 rfl u1 rfl (Nat.ble_eq_true_of_le (by omega))) rfl ?_;refine gQ rfl rfl ((aOp_loadE1 (k := 0) ag3 rfl (v2.ext e0) rfl)) rfl ?_;iterate 2 refine gQ rfl rfl rfl rfl ?_
          refine gQ rfl rfl (aOp_indexAddr (i := x) Try.underlying47 sz3 rfl u1 rfl (Nat.ble_eq_true_of_le (by omega))) rfl ?_;refine gQ rfl rfl ((aOp_loadE1 (k := 0) ag3 rfl (ua'.ext e0) rfl)) rfl ?_;refine gQ rfl rfl (kNF rfl rfl) rfl ?_;refine gQ rfl rfl rfl rfl ?_;refine GoE.end rfl ?_;refine gC (b := false) rfl ?_;refine gD ?_;apply gS;refine Go.drawnE plan26_1 ?_;refine gQ rfl rfl rfl rfl ?_;refine gQ rfl rfl (kLF rfl rfl) rfl ?_;iterate 3 refine gQ rfl rfl rfl rfl ?_
          refine gQ rfl rfl (aOp_indexAddr (i := y) Try.underlying47 sz3 rfl u1 rfl (Nat.ble_eq_true_of_le (by omega))) rfl ?_;refine gQ rfl rfl ((aOp_loadE1 (k := 0) ag3 rfl (v2.ext e0) rfl)) rfl ?_;iterate 2 refine gQ rfl rfl rfl rfl ?_
          refine gQ rfl rfl (aOp_indexAddr (i := o) Try.underlying47 sz3 rfl u1 rfl (Nat.ble_eq_true_of_le (by omega))) rfl ?_;refine gQ rfl rfl ((aOp_loadE1 (k := 0) ag3 rfl (x2.ext e0) rfl)) rfl ?_;refine gQ rfl rfl (kLF rfl rfl) rfl ?_;iterate 4 refine gQ rfl rfl rfl rfl ?_
          refine gQ rfl rfl (aOp_indexAddr (i := y) Try.underlying47 sz3 rfl u1 rfl (Nat.ble_eq_true_of_le (by omega))) rfl ?_;refine gQ rfl rfl ((aOp_loadE1 (k := 0) ag3 rfl (v2.ext e0) rfl)) rfl ?_;iterate 2 refine gQ rfl rfl rfl rfl ?_
          refine gQ rfl rfl (aOp_indexAddr (i := o) Try.underlying47 sz3 rfl u1 rfl (Nat.ble_eq_true_of_le (by omega))) rfl ?_;refine gQ rfl rfl ((aOp_loadE1 (k := 0) ag3 rfl (x2.ext e0) rfl)) rfl ?_;refine gQ rfl rfl (kET rfl rfl) rfl ?_;iterate 3 refine gQ rfl rfl rfl rfl ?_
          refine gQ rfl rfl (kLF rfl rfl) rfl ?_;iterate 2 refine gQ rfl rfl rfl rfl ?_
          refine GoE.end rfl ?_;refine gC (b := false) rfl ?_;refine gD ?_;refine Go.inBlock noJ_ok ?_;refine gR rfl ?_;refine gO rfl rfl (aA rfl rfl) rfl ?_;refine gP ?_;apply gE;exact again2 (m2 - 1) (i + 1, o) _ _ (by omega) ⟨rfl, rfl, rfl, rfl, rfl, by show _ = some (AVal.int .i64 (sgn D.bs.length o)); rw [hs]; rfl, rfl, rfl, rfl, rfl, rfl, rfl, trivial⟩ ⟨by dsimp only; omega, e0, e5, f0, (next_keep N (by first | omega | (dsimp only; omega)) (by first | omega | (dsimp only; omega))).congr fun x _ => hJ x⟩
        ·apply gS;refine gR rfl ?_;refine gO rfl rfl (kLT rfl rfl) rfl ?_;apply gE;apply gS;refine gC (b := true) rfl ?_;refine gD ?_;apply gS;refine Go.block noJ_ok ?_;apply gS;refine gR rfl ?_;refine gP ?_;refine gO rfl rfl (aOp_indexAddr (i := i) Try.underlying26 sz32 rfl t1 rfl (Nat.ble_eq_true_of_le hi)) rfl ?_;refine gO rfl rfl (aOp_loadE ag32 sz32 rfl (t2.ext e0)) rfl ?_;refine GoR.alloc rfl rfl rfl zt32 rfl rfl fun h21 x21 f21 => ?_;have := e0.1;have := e5.1;have := f0.1;replace f0 := f0.ext x21;replace e0 := e0.trans x21;replace e5 := e5.trans x21;have := f21.1;refine gP ?_;refine GoR.store rfl rfl rfl rfl rfl rfl f21 rfl sz32 rfl rfl rfl fun h22 u22 => ?_;replace f21 := u22.has f21;replace f0 := f0.upd u22 (by omega);replace e0 := e0.upd u22 (by omega);replace e5 := e5.upd u22 (by omega);apply gE;apply gS;refine gR rfl ?_;refine gO rfl rfl (fa32_0 rfl) rfl ?_;refine gO rfl rfl (ld3 rfl f21 rfl) rfl ?_;refine gP ?_;apply gE;iterate 2 apply gS
         refine gR rfl ?_;refine gO rfl rfl (fa32_0 rfl) rfl ?_;refine gO rfl rfl (ld3 rfl f21 rfl) rfl ?_;refine gP ?_;refine gO rfl rfl (kET rfl rfl) rfl ?_;apply gE;refine gC (b := true) rfl ?_;refine gR rfl ?_;refine gO rfl rfl (fa32_1 rfl) rfl ?_;refine gO rfl rfl (ld3 rfl f21 rfl) rfl ?_;refine gP ?_;apply gE;iterate 2 apply gS
         refine Go.drawnE plan26_0 ?_;refine gQ rfl rfl (fa32_0 rfl) rfl ?_;refine gQ rfl rfl (ld3 rfl f21 rfl) rfl ?_;refine gQ rfl rfl rfl rfl ?_;refine gQ rfl rfl (kXF rfl rfl) rfl ?_;refine gQ rfl rfl rfl rfl ?_;iterate 4 refine GoE.skip rfl rfl rfl ?_
         iterate 4 refine gQ rfl rfl rfl rfl ?_
         refine gQ rfl rfl (aOp_shr rfl rfl (by omega) rfl) rfl ?_;refine gQ rfl rfl (aOp_and1 rfl rfl rfl) rfl ?_;refine gQ rfl rfl (aOp_eql rfl rfl hbit) rfl ?_;iterate 4 refine gQ rfl rfl rfl rfl ?_
         refine gQ rfl rfl (aOp_indexAddr (i := y) Try.underlying47 sz3 rfl u1 rfl (Nat.ble_eq_true_of_le (by omega))) rfl ?_;refine gQ rfl rfl ((aOp_loadE1 (k := 0) ag3 rfl (v2.ext e0) rfl)) rfl ?_;iterate 2 refine gQ rfl rfl rfl rfl ?_
         refine gQ rfl rfl (aOp_indexAddr (i := x) Try.underlying47 sz3 rfl u1 rfl (Nat.ble_eq_true_of_le (by omega))) rfl ?_;refine gQ rfl rfl ((aOp_loadE1 (k := 0) ag3 rfl (ua'.ext e0) rfl)) rfl ?_;refine gQ rfl rfl (kNF rfl rfl) rfl ?_;refine gQ rfl rfl rfl rfl ?_;refine GoE.end rfl ?_;refine gC (b := false) rfl ?_;refine gD ?_;apply gS;refine Go.drawnE plan26_1 ?_;refine gQ rfl rfl rfl rfl ?_;refine gQ rfl rfl (kLF rfl rfl) rfl ?_;iterate 3 refine gQ rfl rfl rfl rfl ?_
         refine gQ rfl rfl (aOp_indexAddr (i := y) Try.underlying47 sz3 rfl u1 rfl (Nat.ble_eq_true_of_le (by omega))) rfl ?_;refine gQ rfl rfl ((aOp_loadE1 (k := 0) ag3 rfl (v2.ext e0) rfl)) rfl ?_;iterate 2 refine gQ rfl rfl rfl rfl ?_
         refine gQ rfl rfl (aOp_indexAddr (i := o) Try.underlying47 sz3 rfl u1 rfl (Nat.ble_eq_true_of_le (by omega))) rfl ?_;refine gQ rfl rfl ((aOp_loadE1 (k := 0) ag3 rfl (x2.ext e0) rfl)) rfl ?_;refine gQ rfl rfl (kLF rfl rfl) rfl ?_;iterate 4 refine gQ rfl rfl rfl rfl ?_
         refine gQ rfl rfl (aOp_indexAddr (i := y) Try.underlying47 sz3 rfl u1 rfl (Nat.ble_eq_true_of_le (by omega))) rfl ?_;refine gQ rfl rfl ((aOp_loadE1 (k := 0) ag3 rfl (v2.ext e0) rfl)) rfl ?_;iterate 2 refine gQ rfl rfl rfl rfl ?_
         refine gQ rfl rfl (aOp_indexAddr (i := o) Try.underlying47 sz3 rfl u1 rfl (Nat.ble_eq_true_of_le (by omega))) rfl ?_;refine gQ rfl rfl ((aOp_loadE1 (k := 0) ag3 rfl (x2.ext e0) rfl)) rfl ?_;refine gQ rfl rfl (kEF rfl rfl) rfl ?_;refine gQ rfl rfl rfl rfl ?_;iterate 3 refine GoE.skip rfl rfl rfl ?_
         iterate 2 refine gQ rfl rfl rfl rfl ?_
         refine GoE.end rfl ?_;refine gC (b := false) rfl ?_;refine gD ?_;refine Go.inBlock noJ_ok ?_;refine gR rfl ?_;refine gO rfl rfl (aA rfl rfl) rfl ?_;refine gP ?_;apply gE;exact again2 (m2 - 1) (i + 1, o) _ _ (by omega) ⟨rfl, rfl, rfl, rfl, rfl, by show _ = some (AVal.int .i64 (sgn D.bs.length o)); rw [hs]; rfl, rfl, rfl, rfl, rfl, rfl, rfl, trivial⟩ ⟨by dsimp only; omega, e0, e5, f0, (next_keep N (by first | omega | (dsimp only; omega)) (by first | omega | (dsimp only; omega))).congr fun x _ => hJ x⟩
   ·by_cases c2 : y = a
    ·subst c2
     cases hb : st.testBit i with
     | true =>
      rw [hb] at hbit;apply gS;refine gR rfl ?_;refine gO rfl rfl (kLT rfl rfl) rfl ?_;apply gE;apply gS;refine gC (b := true) rfl ?_;refine gD ?_;apply gS;refine Go.block noJ_ok ?_;apply gS;refine gR rfl ?_;refine gP ?_;refine gO rfl rfl (aOp_indexAddr (i := i) Try.underlying26 sz32 rfl t1 rfl (Nat.ble_eq_true_of_le hi)) rfl ?_;refine gO rfl rfl (aOp_loadE ag32 sz32 rfl (t2.ext e0)) rfl ?_;refine GoR.alloc rfl rfl rfl zt32 rfl rfl fun h21 x21 f21 => ?_;have := e0.1;have := e5.1;have := f0.1;replace f0 := f0.ext x21;replace e0 := e0.trans x21;replace e5 := e5.trans x21;have := f21.1;refine gP ?_;refine GoR.store rfl rfl rfl rfl rfl rfl f21 rfl sz32 rfl rfl rfl fun h22 u22 => ?_;replace f21 := u22.has f21;replace f0 := f0.upd u22 (by omega);replace e0 := e0.upd u22 (by omega);replace e5 := e5.upd u22 (by omega);apply gE;apply gS;refine gR rfl ?_;refine gO rfl rfl (fa32_0 rfl) rfl ?_;refine gO rfl rfl (ld3 rfl f21 rfl) rfl ?_;refine gP ?_;apply gE;iterate 2 apply gS
      refine gR rfl ?_;refine gO rfl rfl (fa32_0 rfl) rfl ?_;refine gO rfl rfl (ld3 rfl f21 rfl) rfl ?_;refine gP ?_;refine gO rfl rfl (kEF rfl rfl) rfl ?_;apply gE;refine gC (b := false) rfl ?_;refine gD ?_;iterate 2 apply gS
      refine Go.drawnE plan26_0 ?_;refine gQ rfl rfl (fa32_0 rfl) rfl ?_;refine gQ rfl rfl (ld3 rfl f21 rfl) rfl ?_;refine gQ rfl rfl rfl rfl ?_;refine gQ rfl rfl (kXT rfl rfl) rfl ?_;refine gQ rfl rfl rfl rfl ?_;refine gQ rfl rfl (fa32_1 rfl) rfl ?_;refine gQ rfl rfl (ld3 rfl f21 rfl) rfl ?_;refine gQ rfl rfl rfl rfl ?_;refine gQ rfl rfl (kXF rfl rfl) rfl ?_;iterate 4 refine gQ rfl rfl rfl rfl ?_
      refine gQ rfl rfl (aOp_shr rfl rfl (by omega) rfl) rfl ?_;refine gQ rfl rfl (aOp_and1 rfl rfl rfl) rfl ?_;refine gQ rfl rfl (aOp_eql rfl rfl hbit) rfl ?_;iterate 2 refine gQ rfl rfl rfl rfl ?_
      iterate 9 refine GoE.skip rfl rfl rfl ?_
      refine gQ rfl rfl rfl rfl ?_;refine GoE.end rfl ?_;refine gC (b := true) rfl ?_;refine gD ?_;refine gR rfl ?_;refine gO rfl rfl (aA rfl rfl) rfl ?_;refine gP ?_;apply gE;exact again2 (m2 - 1) (i + 1, o) _ _ (by omega) ⟨rfl, rfl, rfl, rfl, rfl, rfl, rfl, rfl, rfl, rfl, rfl, rfl, trivial⟩ ⟨by dsimp only; omega, e0, e5, f0, N.congr fun x _ => jp_skip hw (.inl hb) x⟩
     | false =>
      rw [hb] at hbit
      have hJ := jp_step hw hb (o := x) (joins_b (by omega))
      obtain ⟨b2, o2, v1, v2⟩ := hlin (k := x) (by omega)
      cases u1.symm.trans v1
      obtain ⟨lo, hlo⟩ : ∃ z, lv l x = z := ⟨_, rfl⟩
      rw [hlo] at v2
      by_cases c3 : la ≤ lo
      ·apply gS;refine gR rfl ?_;refine gO rfl rfl (kLT rfl rfl) rfl ?_;apply gE;apply gS;refine gC (b := true) rfl ?_;refine gD ?_;apply gS;refine Go.block noJ_ok ?_;apply gS;refine gR rfl ?_;refine gP ?_;refine gO rfl rfl (aOp_indexAddr (i := i) Try.underlying26 sz32 rfl t1 rfl (Nat.ble_eq_true_of_le hi)) rfl ?_;refine gO rfl rfl (aOp_loadE ag32 sz32 rfl (t2.ext e0)) rfl ?_;refine GoR.alloc rfl rfl rfl zt32 rfl rfl fun h21 x21 f21 => ?_;have := e0.1;have := e5.1;have := f0.1;replace f0 := f0.ext x21;replace e0 := e0.trans x21;replace e5 := e5.trans x21;have := f21.1;refine gP ?_;refine GoR.store rfl rfl rfl rfl rfl rfl f21 rfl sz32 rfl rfl rfl fun h22 u22 => ?_;replace f21 := u22.has f21;replace f0 := f0.upd u22 (by omega);replace e0 := e0.upd u22 (by omega);replace e5 := e5.upd u22 (by omega);apply gE;apply gS;refine gR rfl ?_;refine gO rfl rfl (fa32_0 rfl) rfl ?_;refine gO rfl rfl (ld3 rfl f21 rfl) rfl ?_;refine gP ?_;apply gE;iterate 2 apply gS
       refine gR rfl ?_;refine gO rfl rfl (fa32_0 rfl) rfl ?_;refine gO rfl rfl (ld3 rfl f21 rfl) rfl ?_;refine gP ?_;refine gO rfl rfl (kEF rfl rfl) rfl ?_;apply gE;refine gC (b := false) rfl ?_;refine gD ?_;iterate 2 apply gS
       refine Go.drawnE plan26_0 ?_;refine gQ rfl rfl (fa32_0 rfl) rfl ?_;refine gQ rfl rfl (ld3 rfl f21 rfl) rfl ?_;refine gQ rfl rfl rfl rfl ?_;refine gQ rfl rfl (kXT rfl rfl) rfl ?_;refine gQ rfl rfl rfl rfl ?_;refine gQ rfl rfl (fa32_1 rfl) rfl ?_;refine gQ rfl rfl (ld3 rfl f21 rfl) rfl ?_;refine gQ rfl rfl rfl rfl ?_;refine gQ rfl rfl (kXF rfl rfl) rfl ?_;iterate 4 refine gQ rfl rfl rfl rfl ?_
       refine gQ rfl rfl (aOp_shr rfl rfl (by omega) rfl) rfl ?_;refine gQ rfl rfl (aOp_and1 rfl rfl rfl) rfl ?_;refine gQ rfl rfl (aOp_eql rfl rfl hbit) rfl ?_;iterate 4 refine gQ rfl rfl rfl rfl ?_
       refine gQ rfl rfl (aOp_indexAddr (i := x) Try.underlying47 sz3 rfl u1 rfl (Nat.ble_eq_true_of_le (by omega))) rfl ?_;refine gQ rfl rfl ((aOp_loadE1 (k := 0) ag3 rfl (v2.ext e0) rfl)) rfl ?_;iterate 2 refine gQ rfl rfl rfl rfl ?_
       refine gQ rfl rfl (aOp_indexAddr (i := y) Try.underlying47 sz3 rfl u1 rfl (Nat.ble_eq_true_of_le (by omega))) rfl ?_;refine gQ rfl rfl ((aOp_loadE1 (k := 0) ag3 rfl (ua'.ext e0) rfl)) rfl ?_;refine gQ rfl rfl (kNT rfl rfl) rfl ?_;refine gQ rfl rfl rfl rfl ?_;refine GoE.end rfl ?_;refine gC (b := true) rfl ?_;refine gD ?_;refine gR rfl ?_;refine gO rfl rfl (aA rfl rfl) rfl ?_;refine gP ?_;apply gE;exact again2 (m2 - 1) (i + 1, o) _ _ (by omega) ⟨rfl, rfl, rfl, rfl, rfl, rfl, rfl, rfl, rfl, rfl, rfl, rfl, trivial⟩ ⟨by dsimp only; omega, e0, e5, f0, (next_high N (by first | omega | (dsimp only; omega))).congr fun x _ => hJ x⟩
      ·by_cases c4 : o = D.bs.length
       ·have hs : sgn D.bs.length o = -1 := by rw [c4]; exact sgn_n _
        rw [hs];apply gS;refine gR rfl ?_;refine gO rfl rfl (kLT rfl rfl) rfl ?_;apply gE;apply gS;refine gC (b := true) rfl ?_;refine gD ?_;apply gS;refine Go.block noJ_ok ?_;apply gS;refine gR rfl ?_;refine gP ?_;refine gO rfl rfl (aOp_indexAddr (i := i) Try.underlying26 sz32 rfl t1 rfl (Nat.ble_eq_true_of_le hi)) rfl ?_;refine gO rfl rfl (aOp_loadE ag32 sz32 rfl (t2.ext e0)) rfl ?_;refine GoR.alloc rfl rfl rfl zt32 rfl rfl fun h21 x21 f21 => ?_;have := e0.1;have := e5.1;have := f0.1;replace f0 := f0.ext x21;replace e0 := e0.trans x21;replace e5 := e5.trans x21;have := f21.1;refine gP ?_;refine GoR.store rfl rfl rfl rfl rfl rfl f21 rfl sz32 rfl rfl rfl fun h22 u22 => ?_;replace f21 := u22.has f21;replace f0 := f0.upd u22 (by omega);replace e0 := e0.upd u22 (by omega);replace e5 := e5.upd u22 (by omega);apply gE;apply gS;refine gR rfl ?_;refine gO rfl rfl (fa32_0 rfl) rfl ?_;refine gO rfl rfl (ld3 rfl f21 rfl) rfl ?_;refine gP ?_;apply gE;iterate 2 apply gS
        refine gR rfl ?_;refine gO rfl rfl (fa32_0 rfl) rfl ?_;refine gO rfl rfl (ld3 rfl f21 rfl) rfl ?_;refine gP ?_;refine gO rfl rfl (kEF rfl rfl) rfl ?_;apply gE;refine gC (b := false) rfl ?_;refine gD ?_;iterate 2 apply gS
        refine Go.drawnE plan26_0 ?_;refine gQ rfl rfl (fa32_0 rfl) rfl ?_;refine gQ rfl rfl (ld3 rfl f21 rfl) rfl ?_;refine gQ rfl rfl rfl rfl ?_;refine gQ rfl rfl (kXT rfl rfl) rfl ?_;refine gQ rfl rfl rfl rfl ?_;refine gQ rfl rfl (fa32_1 rfl) rfl ?_;refine gQ rfl rfl (ld3 rfl f21 rfl) rfl ?_;refine gQ rfl rfl rfl rfl ?_;refine gQ rfl rfl (kXF rfl rfl) rfl ?_;iterate 4 refine gQ rfl rfl rfl rfl ?_
        refine gQ rfl rfl (aOp_shr rfl rfl (by omega) rfl) rfl ?_;refine gQ rfl rfl (aOp_and1 rfl rfl rfl) rfl ?_;refine gQ rfl rfl (aOp_eql rfl rfl hbit) rfl ?_;iterate 4 refine gQ rfl rfl rfl rfl ?_
        refine gQ rfl rfl (aOp_indexAddr (i := x) Try.underlying47 sz3 rfl u1 rfl (Nat.ble_eq_true_of_le (by omega))) rfl ?_;refine gQ rfl rfl ((aOp_loadE1 (k := 0) ag3 rfl (v2.ext e0) rfl)) rfl ?_;iterate 2 refine gQ rfl rfl rfl rfl ?_
        refine gQ rfl rfl (aOp_indexAddr (i := y) Try.underlying47 sz3 rfl u1 rfl (Nat.ble_eq_true_of_le (by omega))) rfl ?_;refine gQ rfl rfl ((aOp_loadE1 (k := 0) ag3 rfl (ua'.ext e0) rfl)) rfl ?_;refine gQ rfl rfl (kNF rfl rfl) rfl ?_;refine gQ rfl rfl rfl rfl ?_;refine GoE.end rfl ?_;refine gC (b := false) rfl ?_;refine gD ?_;apply gS;refine Go.drawnE plan26_1 ?_;refine gQ rfl rfl rfl rfl ?_;refine gQ rfl rfl (kLT rfl rfl) rfl ?_;refine gQ rfl rfl rfl rfl ?_;iterate 9 refine GoE.skip rfl rfl rfl ?_
        iterate 2 refine gQ rfl rfl rfl rfl ?_
        iterate 14 refine GoE.skip rfl rfl rfl ?_
        refine gQ rfl rfl rfl rfl ?_;refine GoE.end rfl ?_;refine gC (b := true) rfl ?_;refine gR rfl ?_;iterate 2 refine gP ?_
        apply gE;refine Go.inBlock noJ_ok ?_;refine gR rfl ?_;refine gO rfl rfl (aA rfl rfl) rfl ?_;refine gP ?_;apply gE;exact again2 (m2 - 1) (i + 1, x) _ _ (by omega) ⟨rfl, rfl, rfl, rfl, rfl, by show _ = some (AVal.int .i64 (sgn D.bs.length x)); rw [sgn_lt (by omega)]; rfl, rfl, rfl, rfl, rfl, rfl, rfl, trivial⟩ ⟨by dsimp only; omega, e0, e5, f0, (next_take N (by first | omega | (dsimp only; omega)) (by first | omega | (dsimp only; omega)) (.inl c4)).congr fun x _ => hJ x⟩
       ·have hs : sgn D.bs.length o = (o : Int) := sgn_lt (by omega)
        rw [hs]
        obtain ⟨b3, o3, x1, x2⟩ := hlin (k := o) (by omega)
        cases u1.symm.trans x1
        obtain ⟨lr, hlr⟩ : ∃ z, lv l o = z := ⟨_, rfl⟩
        rw [hlr] at x2
        by_cases c5 : lo < lr
        ·apply gS;refine gR rfl ?_;refine gO rfl rfl (kLT rfl rfl) rfl ?_;apply gE;apply gS;refine gC (b := true) rfl ?_;refine gD ?_;apply gS;refine Go.block noJ_ok ?_;apply gS;refine gR rfl ?_;refine gP ?_;refine gO rfl rfl (aOp_indexAddr (i := i) Try.underlying26 sz32 rfl t1 rfl (Nat.ble_eq_true_of_le hi)) rfl ?_;refine gO rfl rfl (aOp_loadE ag32 sz32 rfl (t2.ext e0)) rfl ?_;refine GoR.alloc rfl rfl rfl zt32 rfl rfl fun h21 x21 f21 => ?_;have := e0.1;have := e5.1;have := f0.1;replace f0 := f0.ext x21;replace e0 := e0.trans x21;replace e5 := e5.trans x21;have := f21.1;refine gP ?_;refine GoR.store rfl rfl rfl rfl rfl rfl f21 rfl sz32 rfl rfl rfl fun h22 u22 => ?_;replace f21 := u22.has f21;replace f0 := f0.upd u22 (by omega);replace e0 := e0.upd u22 (by omega);replace e5 := e5.upd u22 (by omega);apply gE;apply gS;refine gR rfl ?_;refine gO rfl rfl (fa32_0 rfl) rfl ?_;refine gO rfl rfl (ld3 rfl f21 rfl) rfl ?_;refine gP ?_;apply gE;iterate 2 apply gS
         refine gR rfl ?_;refine gO rfl rfl (fa32_0 rfl) rfl ?_;refine gO rfl rfl (ld3 rfl f21 rfl) rfl ?_;refine gP ?_;refine gO rfl rfl (kEF rfl rfl) rfl ?_;apply gE;refine gC (b := false) rfl ?_;refine gD ?_;iterate 2 apply gS
         refine Go.drawnE plan26_0 ?_;refine gQ rfl rfl (fa32_0 rfl) rfl ?_;refine gQ rfl rfl (ld3 rfl f21 rfl) rfl ?_;refine gQ rfl rfl rfl rfl ?_;refine gQ rfl rfl (kXT rfl rfl) rfl ?_;refine gQ rfl rfl rfl rfl ?_;refine gQ rfl rfl (fa32_1 rfl) rfl ?_;refine gQ rfl rfl (ld3 rfl f21 rfl) rfl ?_;refine gQ rfl rfl rfl rfl ?_;refine gQ rfl rfl (kXF rfl rfl) rfl ?_;iterate 4 refine gQ rfl rfl rfl rfl ?_
         refine gQ rfl rfl (aOp_shr rfl rfl (by omega) rfl) rfl ?_;refine gQ rfl rfl (aOp_and1 rfl rfl rfl) rfl ?_;refine gQ rfl rfl (aOp_eql rfl rfl hbit) rfl ?_;iterate 4 refine gQ rfl rfl rfl rfl ?_
         refine gQ rfl rfl (aOp_indexAddr (i := x) Try.underlying47 sz3 rfl u1 rfl (Nat.ble_eq_true_of_le (by omega))) rfl ?_;refine gQ rfl rfl ((aOp_loadE1 (k := 0) ag3 rfl (v2.ext e0) rfl)) rfl ?_;iterate 2 refine gQ rfl rfl rfl rfl ?_
         refine gQ rfl rfl (aOp_indexAddr (i := y) Try.underlying47 sz3 rfl u1 rfl (Nat.ble_eq_true_of_le (by omega))) rfl ?_;refine gQ rfl rfl ((aOp_loadE1 (k := 0) ag3 rfl (ua'.ext e0) rfl)) rfl ?_;refine gQ rfl rfl (kNF rfl rfl) rfl ?_;refine gQ rfl rfl rfl rfl ?_;refine GoE.end rfl ?_;refine gC (b := false) rfl ?_;refine gD ?_;apply gS;refine Go.drawnE plan26_1 ?_;refine gQ rfl rfl rfl rfl ?_;refine gQ rfl rfl (kLF rfl rfl) rfl ?_;iterate 3 refine gQ rfl rfl rfl rfl ?_
         refine gQ rfl rfl (aOp_indexAddr (i := x) Try.underlying47 sz3 rfl u1 rfl (Nat.ble_eq_true_of_le (by omega))) rfl ?_;refine gQ rfl rfl ((aOp_loadE1 (k := 0) ag3 rfl (v2.ext e0) rfl)) rfl ?_;iterate 2 refine gQ rfl rfl rfl rfl ?_
         refine gQ rfl rfl (aOp_indexAddr (i := o) Try.underlying47 sz3 rfl u1 rfl (Nat.ble_eq_true_of_le (by omega))) rfl ?_;refine gQ rfl rfl ((aOp_loadE1 (k := 0) ag3 rfl (x2.ext e0) rfl)) rfl ?_;refine gQ rfl rfl (kLT rfl rfl) rfl ?_;iterate 2 refine gQ rfl rfl rfl rfl ?_
         iterate 14 refine GoE.skip rfl rfl rfl ?_
         refine gQ rfl rfl rfl rfl ?_;refine GoE.end rfl ?_;refine gC (b := true) rfl ?_;refine gR rfl ?_;iterate 2 refine gP ?_
         apply gE;refine Go.inBlock noJ_ok ?_;refine gR rfl ?_;refine gO rfl rfl (aA rfl rfl) rfl ?_;refine gP ?_;apply gE;exact again2 (m2 - 1) (i + 1, x) _ _ (by omega) ⟨rfl, rfl, rfl, rfl, rfl, by show _ = some (AVal.int .i64 (sgn D.bs.length x)); rw [sgn_lt (by omega)]; rfl, rfl, rfl, rfl, rfl, rfl, rfl, trivial⟩ ⟨by dsimp only; omega, e0, e5, f0, (next_take N (by first | omega | (dsimp only; omega)) (by first | omega | (dsimp only; omega)) (.inr (.inl (by first | omega | (dsimp only; omega))))).congr fun x _ => hJ x⟩
        ·by_cases c6 : lo = lr
         ·by_cases c7 : x < o
          ·apply gS;refine gR rfl ?_;refine gO rfl rfl (kLT rfl rfl) rfl ?_;apply gE;apply gS;refine gC (b := true) rfl ?_;refine gD ?_;apply gS;refine Go.block noJ_ok ?_;apply gS;refine gR rfl ?_;refine gP ?_;refine gO rfl rfl (aOp_indexAddr (i := i) Try.underlying26 sz32 rfl t1 rfl (Nat.ble_eq_true_of_le hi)) rfl ?_;refine gO rfl rfl (aOp_loadE ag32 sz32 rfl (t2.ext e0)) rfl ?_;refine GoR.alloc rfl rfl rfl zt32 rfl rfl fun h21 x21 f21 => ?_;have := e0.1;have := e5.1;have := f0.1;replace f0 := f0.ext x21;replace e0 := e0.trans x21;replace e5 := e5.trans x21;have := f21.1;refine gP ?_;refine GoR.store rfl rfl rfl rfl rfl rfl f21 rfl sz32 rfl rfl rfl fun h22 u22 => ?_;replace f21 := u22.has f21;replace f0 := f0.upd u22 (by omega);replace e0 := e0.upd u22 (by omega);replace e5 := e5.upd u22 (by omega);apply gE;apply gS;refine gR rfl ?_;refine gO rfl rfl (fa32_0 rfl) rfl ?_;refine gO rfl rfl (ld3 rfl f21 rfl) rfl ?_;refine gP ?_;apply gE;iterate 2 apply gS
           refine gR rfl ?_;refine gO rfl rfl (fa32_0 rfl) rfl ?_;refine gO rfl rfl (ld3 rfl f21 rfl) rfl ?_;refine gP ?_;refine gO rfl rfl (kEF rfl rfl) rfl ?_;apply gE;refine gC (b := false) rfl ?_;refine gD ?_;iterate 2 apply gS
           refine Go.drawnE plan26_0 ?_;refine gQ rfl rfl (fa32_0 rfl) rfl ?_;refine gQ rfl rfl (ld3 rfl f21 rfl) rfl ?_;refine gQ rfl rfl rfl rfl ?_;refine gQ rfl rfl (kXT rfl rfl) rfl ?_;refine gQ rfl rfl rfl rfl ?_;refine gQ rfl rfl (fa32_1 rfl) rfl ?_;refine gQ rfl rfl (ld3 rfl f21 rfl) rfl ?_;refine gQ rfl rfl rfl rfl ?_;refine gQ rfl rfl (kXF rfl rfl) rfl ?_;iterate 4 refine gQ rfl rfl rfl rfl ?_
           refine gQ rfl rfl (aOp_shr rfl rfl (by omega) rfl) rfl ?_;refine gQ rfl rfl (aOp_and1 rfl rfl rfl) rfl ?_;refine gQ rfl rfl (aOp_eql rfl rfl hbit) rfl ?_;iterate 4 refine gQ rfl rfl rfl rfl ?_
           refine gQ rfl rfl (aOp_indexAddr (i := x) Try.underlying47 sz3 rfl u1 rfl (Nat.ble_eq_true_of_le (by omega))) rfl ?_;refine gQ rfl rfl ((aOp_loadE1 (k := 0) ag3 rfl (v2.ext e0) rfl)) rfl ?_;iterate 2 refine gQ rfl rfl rfl rfl ?_
           refine gQ rfl rfl (aOp_indexAddr (i := y) Try.underlying47 sz3 rfl u1 rfl (Nat.ble_eq_true_of_le (by omega))) rfl ?_;refine gQ rfl rfl ((aOp_loadE1 (k := 0) ag3 rfl (ua'.ext e0) rfl)) rfl ?_;refine gQ rfl rfl (kNF rfl rfl) rfl ?_;refine gQ rfl rfl rfl rfl ?_;refine GoE.end rfl ?_;refine gC (b := false) rfl ?_;refine gD ?_;apply gS;refine Go.drawnE plan26_1 ?_;refine gQ rfl rfl rfl rfl ?_;refine gQ rfl rfl (kLF rfl rfl) rfl ?_;iterate 3 refine gQ rfl rfl rfl rfl ?_
           refine gQ rfl rfl (aOp_indexAddr (i := x) Try.underlying47 sz3 rfl u1 rfl (Nat.ble_eq_true_of_le (by omega))) rfl ?_;refine gQ rfl rfl ((aOp_loadE1 (k := 0) ag3 rfl (v2.ext e0) rfl)) rfl ?_;iterate 2 refine gQ rfl rfl rfl rfl ?_
           refine gQ rfl rfl (aOp_indexAddr (i := o) Try.underlying47 sz3 rfl u1 rfl (Nat.ble_eq_true_of_le (by omega))) rfl ?_;refine gQ rfl rfl ((aOp_loadE1 (k := 0) ag3 rfl (x2.ext e0) rfl)) rfl ?_;refine gQ rfl rfl (kLF rfl rfl) rfl ?_;iterate 4 refine gQ rfl rfl rfl rfl ?_
           refine gQ rfl rfl (aOp_indexAddr (i := x) Try.underlying47 sz3 rfl u1 rfl (Nat.ble_eq_true_of_le (by omega))) rfl ?_;refine gQ rfl rfl ((aOp_loadE1 (k := 0) ag3 rfl (v2.ext e0) rfl)) rfl ?_;iterate 2 refine gQ rfl rfl rfl rfl ?_
           refine gQ rfl rfl (aOp_indexAddr (i := o) Try.underlying47 sz3 rfl u1 rfl (Nat.ble_eq_true_of_le (by omega))) rfl ?_;refine gQ rfl rfl ((aOp_loadE1 (k := 0) ag3 rfl (x2.ext e0) rfl)) rfl ?_;refine gQ rfl rfl (kET rfl rfl) rfl ?_;iterate 3 refine gQ rfl rfl rfl rfl ?_
           refine gQ rfl rfl (kLT rfl rfl) rfl ?_;iterate 2 refine gQ rfl rfl rfl rfl ?_
           refine GoE.end rfl ?_;refine gC (b := true) rfl ?_;refine gR rfl ?_;iterate 2 refine gP ?_
           apply gE;refine Go.inBlock noJ_ok ?_;refine gR rfl ?_;refine gO rfl rfl (aA rfl rfl) rfl ?_;refine gP ?_;apply gE;exact again2 (m2 - 1) (i + 1, x) _ _ (by omega) ⟨rfl, rfl, rfl, rfl, rfl, by show _ = some (AVal.int .i64 (sgn D.bs.length x)); rw [sgn_lt (by omega)]; rfl, rfl, rfl, rfl, rfl, rfl, rfl, trivial⟩ ⟨by dsimp only; omega, e0, e5, f0, (next_take N (by first | omega | (dsimp only; omega)) (by first | omega | (dsimp only; omega)) (.inr (.inr (by first | omega | (dsimp only; omega))))).congr fun x _ => hJ x⟩
          ·apply gS;refine gR rfl ?_;refine gO rfl rfl (kLT rfl rfl) rfl ?_;apply gE;apply gS;refine gC (b := true) rfl ?_;refine gD ?_;apply gS;refine Go.block noJ_ok ?_;apply gS;refine gR rfl ?_;refine gP ?_;refine gO rfl rfl (aOp_indexAddr (i := i) Try.underlying26 sz32 rfl t1 rfl (Nat.ble_eq_true_of_le hi)) rfl ?_;refine gO rfl rfl (aOp_loadE ag32 sz32 rfl (t2.ext e0)) rfl ?_;refine GoR.alloc rfl rfl rfl zt32 rfl rfl fun h21 x21 f21 => ?_;have := e0.1;have := e5.1;have := f0.1;replace f0 := f0.ext x21;replace e0 := e0.trans x21;replace e5 := e5.trans x21;have := f21.1;refine gP ?_;refine GoR.store rfl rfl rfl rfl rfl rfl f21 rfl sz32 rfl rfl rfl fun h22 u22 => ?_;replace f21 := u22.has f21;replace f0 := f0.upd u22 (by omega);replace e0 := e0.upd u22 (by omega);replace e5 := e5.upd u22 (by omega);apply gE;apply gS;refine gR rfl ?_;refine gO rfl rfl (fa32_0 rfl) rfl ?_;refine gO rfl rfl (ld3 rfl f21 rfl) rfl ?_;refine gP ?_;apply gE;iterate 2 apply gS
           refine gR rfl ?_;refine gO rfl rfl (fa32_0 rfl) rfl ?_;refine gO rfl rfl (ld3 rfl f21 rfl) rfl ?_;refine gP ?_;refine gO rfl rfl (kEF rfl rfl) rfl ?_;apply gE;refine gC (b := false) rfl ?_;refine gD ?_;iterate 2 apply gS
           refine Go.drawnE plan26_0 ?_;refine gQ rfl rfl (fa32_0 rfl) rfl ?_;refine gQ rfl rfl (ld3 rfl f21 rfl) rfl ?_;refine gQ rfl rfl rfl rfl ?_;refine gQ rfl rfl (kXT rfl rfl) rfl ?_;refine gQ rfl rfl rfl rfl ?_;refine gQ rfl rfl (fa32_1 rfl) rfl ?_;refine gQ rfl rfl (ld3 rfl f21 rfl) rfl ?_;refine gQ rfl rfl rfl rfl ?_;refine gQ rfl rfl (kXF rfl rfl) rfl ?_;iterate 4 refine gQ rfl rfl rfl rfl ?_
           refine gQ rfl rfl (aOp_shr rfl rfl (by omega) rfl) rfl ?_;refine gQ rfl rfl (aOp_and1 rfl rfl rfl) rfl ?_;refine gQ rfl rfl (aOp_eql rfl rfl hbit) rfl ?_;iterate 4 refine gQ rfl rfl rfl rfl ?_
           refine gQ rfl rfl (aOp_indexAddr (i := x) Try.underlying47 sz3 rfl u1 rfl (Nat.ble_eq_true_of_le (by omega))) rfl ?_;refine gQ rfl rfl ((aOp_loadE1 (k := 0) ag3 rfl (v2.ext e0) rfl)) rfl ?_;iterate 2 refine gQ rfl rfl rfl rfl ?_
           refine gQ rfl rfl (aOp_indexAddr (i := y) Try.underlying47 sz3 rfl u1 rfl (Nat.ble_eq_true_of_le (by omega))) rfl ?_;refine gQ rfl rfl ((aOp_loadE1 (k := 0) ag3 rfl (ua'.ext e0) rfl)) rfl ?_;refine gQ rfl rfl (kNF rfl rfl) rfl ?_;refine gQ rfl rfl rfl rfl ?_;refine GoE.end rfl ?_;refine gC (b := false) rfl ?_;refine gD ?_;apply gS;refine Go.drawnE plan26_1 ?_;refine gQ rfl rfl rfl rfl ?_;refine gQ rfl rfl (kLF rfl rfl) rfl ?_;iterate 3 refine gQ rfl rfl rfl rfl ?_
           refine gQ rfl rfl (aOp_indexAddr (i := x) Try.underlying47 sz3 rfl u1 rfl (Nat.ble_eq_true_of_le (by omega))) rfl ?_;refine gQ rfl rfl ((aOp_loadE1 (k := 0) ag3 rfl (v2.ext e0) rfl)) rfl ?_;iterate 2 refine gQ rfl rfl rfl rfl ?_
           refine gQ rfl rfl (aOp_indexAddr (i := o) Try.underlying47 sz3 rfl u1 rfl (Nat.ble_eq_true_of_le (by omega))) rfl ?_;refine gQ rfl rfl ((aOp_loadE1 (k := 0) ag3 rfl (x2.ext e0) rfl)) rfl ?_;refine gQ rfl rfl (kLF rfl rfl) rfl ?_;iterate 4 refine gQ rfl rfl rfl rfl ?_
           refine gQ rfl rfl (aOp_indexAddr (i := x) Try.underlying47 sz3 rfl u1 rfl (Nat.ble_eq_true_of_le (by omega))) rfl ?_;refine gQ rfl rfl ((aOp_loadE1 (k := 0) ag3 rfl (v2.ext e0) rfl)) rfl ?_;iterate 2 refine gQ rfl rfl rfl rfl ?_
           refine gQ rfl rfl (aOp_indexAddr (i := o) Try.underlying47 sz3 rfl u1 rfl (Nat.ble_eq_true_of_le (by omega))) rfl ?_;refine gQ rfl rfl ((aOp_loadE1 (k := 0) ag3 rfl (x2.ext e0) rfl)) rfl ?_;refine gQ rfl rfl (kET rfl rfl) rfl ?_;iterate 3 refine gQ rfl rfl rfl rfl ?_
           refine gQ rfl rfl (kLF rfl rfl) rfl ?_;iterate 2 refine gQ rfl rfl rfl rfl ?_
           refine GoE.end rfl ?_;refine gC (b := false) rfl ?_;refine gD ?_;refine Go.inBlock noJ_ok ?_;refine gR rfl ?_;refine gO rfl rfl (aA rfl rfl) rfl ?_;refine gP ?_;apply gE;exact again2 (m2 - 1) (i + 1, o) _ _ (by omega) ⟨rfl, rfl, rfl, rfl, rfl, by show _ = some (AVal.int .i64 (sgn D.bs.length o)); rw [hs]; rfl, rfl, rfl, rfl, rfl, rfl, rfl, trivial⟩ ⟨by dsimp only; omega, e0, e5, f0, (next_keep N (by first | omega | (dsimp only; omega)) (by first | omega | (dsimp only; omega))).congr fun x _ => hJ x⟩
         ·apply gS;refine gR rfl ?_;refine gO rfl rfl (kLT rfl rfl) rfl ?_;apply gE;apply gS;refine gC (b := true) rfl ?_;refine gD ?_;apply gS;refine Go.block noJ_ok ?_;apply gS;refine gR rfl ?_;refine gP ?_;refine gO rfl rfl (aOp_indexAddr (i := i) Try.underlying26 sz32 rfl t1 rfl (Nat.ble_eq_true_of_le hi)) rfl ?_;refine gO rfl rfl (aOp_loadE ag32 sz32 rfl (t2.ext e0)) rfl ?_;refine GoR.alloc rfl rfl rfl zt32 rfl rfl fun h21 x21 f21 => ?_;have := e0.1;have := e5.1;have := f0.1;replace f0 := f0.ext x21;replace e0 := e0.trans x21;replace e5 := e5.trans x21;have := f21.1;refine gP ?_;refine GoR.store rfl rfl rfl rfl rfl rfl f21 rfl sz32 rfl rfl rfl fun h22 u22 => ?_;replace f21 := u22.has f21;replace f0 := f0.upd u22 (by omega);replace e0 := e0.upd u22 (by omega);replace e5 := e5.upd u22 (by omega);apply gE;apply gS;refine gR rfl ?_;refine gO rfl rfl (fa32_0 rfl) rfl ?_;refine gO rfl rfl (ld3 rfl f21 rfl) rfl ?_;refine gP ?_;apply gE;iterate 2 apply gS
          refine gR rfl ?_;refine gO rfl rfl (fa32_0 rfl) rfl ?_;refine gO rfl rfl (ld3 rfl f21 rfl) rfl ?_;refine gP ?_;refine gO rfl rfl (kEF rfl rfl) rfl ?_;apply gE;refine gC (b := false) rfl ?_;refine gD ?_;iterate 2 apply gS
          refine Go.drawnE plan26_0 ?_;refine gQ rfl rfl (fa32_0 rfl) rfl ?_;refine gQ rfl rfl (ld3 rfl f21 rfl) rfl ?_;refine gQ rfl rfl rfl rfl ?_;refine gQ rfl rfl (kXT rfl rfl) rfl ?_;refine gQ rfl rfl rfl rfl ?_;refine gQ rfl rfl (fa32_1 rfl) rfl ?_;refine gQ rfl rfl (ld3 rfl f21 rfl) rfl ?_;refine gQ rfl rfl rfl rfl ?_;refine gQ rfl rfl (kXF rfl rfl) rfl ?_;iterate 4 refine gQ rfl rfl rfl rfl ?_
          refine gQ rfl rfl (aOp_shr rfl rfl (by omega) rfl) rfl ?_;refine gQ rfl rfl (aOp_and1 rfl rfl rfl) rfl ?_;refine gQ rfl rfl (aOp_eql rfl rfl hbit) rfl ?_;iterate 4 refine gQ rfl rfl rfl rfl ?_
          refine gQ rfl rfl (aOp_indexAddr (i := x) Try.underlying47 sz3 rfl u1 rfl (Nat.ble_eq_true_of_le (by omega))) rfl ?_;refine gQ rfl rfl ((aOp_loadE1 (k := 0) ag3 rfl (v2.ext e0) rfl)) rfl ?_;iterate 2 refine gQ rfl rfl rfl rfl ?_
          refine gQ rfl rfl (aOp_indexAddr (i := y) Try.underlying47 sz3 rfl u1 rfl (Nat.ble_eq_true_of_le (by omega))) rfl ?_;refine gQ rfl rfl ((aOp_loadE1 (k := 0) ag3 rfl (ua'.ext e0) rfl)) rfl ?_;refine gQ rfl rfl (kNF rfl rfl) rfl ?_;refine gQ rfl rfl rfl rfl ?_;refine GoE.end rfl ?_;refine gC (b := false) rfl ?_;refine gD ?_;apply gS;refine Go.drawnE plan26_1 ?_;refine gQ rfl rfl rfl rfl ?_;refine gQ rfl rfl (kLF rfl rfl) rfl ?_;iterate 3 refine gQ rfl rfl rfl rfl ?_
          refine gQ rfl rfl (aOp_indexAddr (i := x) Try.underlying47 sz3 rfl u1 rfl (Nat.ble_eq_true_of_le (by omega))) rfl ?_;refine gQ rfl rfl ((aOp_loadE1 (k := 0) ag3 rfl (v2.ext e0) rfl)) rfl ?_;iterate 2 refine gQ rfl rfl rfl rfl ?_
          refine gQ rfl rfl (aOp_indexAddr (i := o) Try.underlying47 sz3 rfl u1 rfl (Nat.ble_eq_true_of_le (by omega))) rfl ?_;refine gQ rfl rfl ((aOp_loadE1 (k := 0) ag3 rfl (x2.ext e0) rfl)) rfl ?_;refine gQ rfl rfl (kLF rfl rfl) rfl ?_;iterate 4 refine gQ rfl rfl rfl rfl ?_
          refine gQ rfl rfl (aOp_indexAddr (i := x) Try.underlying47 sz3 rfl u1 rfl (Nat.ble_eq_true_of_le (by omega))) rfl ?_;refine gQ rfl rfl ((aOp_loadE1 (k := 0) ag3 rfl (v2.ext e0) rfl)) rfl ?_;iterate 2 refine gQ rfl rfl rfl rfl ?_
          refine gQ rfl rfl (aOp_indexAddr (i := o) Try.underlying47 sz3 rfl u1 rfl (Nat.ble_eq_true_of_le (by omega))) rfl ?_;refine gQ rfl rfl ((aOp_loadE1 (k := 0) ag3 rfl (x2.ext e0) rfl)) rfl ?_;refine gQ rfl rfl (kEF rfl rfl) rfl ?_;refine gQ rfl rfl rfl rfl ?_;iterate 3 refine GoE.skip rfl rfl rfl ?_
          iterate 2 refine gQ rfl rfl rfl rfl ?_
          refine GoE.end rfl ?_;refine gC (b := false) rfl ?_;refine gD ?_;refine Go.inBlock noJ_ok ?_;refine gR rfl ?_;refine gO rfl rfl (aA rfl rfl) rfl ?_;refine gP ?_;apply gE;exact again2 (m2 - 1) (i + 1, o) _ _ (by omega) ⟨rfl, rfl, rfl, rfl, rfl, by show _ = some (AVal.int .i64 (sgn D.bs.length o)); rw [hs]; rfl, rfl, rfl, rfl, rfl, rfl, rfl, trivial⟩ ⟨by dsimp only; omega, e0, e5, f0, (next_keep N (by first | omega | (dsimp only; omega)) (by first | omega | (dsimp only; omega))).congr fun x _ => hJ x⟩
    ·apply gS;refine gR rfl ?_;refine gO rfl rfl (kLT rfl rfl) rfl ?_;apply gE;apply gS;refine gC (b := true) rfl ?_;refine gD ?_;apply gS;refine Go.block noJ_ok ?_;apply gS;refine gR rfl ?_;refine gP ?_;refine gO rfl rfl (aOp_indexAddr (i := i) Try.underlying26 sz32 rfl t1 rfl (Nat.ble_eq_true_of_le hi)) rfl ?_;refine gO rfl rfl (aOp_loadE ag32 sz32 rfl (t2.ext e0)) rfl ?_;refine GoR.alloc rfl rfl rfl zt32 rfl rfl fun h21 x21 f21 => ?_;have := e0.1;have := e5.1;have := f0.1;replace f0 := f0.ext x21;replace e0 := e0.trans x21;replace e5 := e5.trans x21;have := f21.1;refine gP ?_;refine GoR.store rfl rfl rfl rfl rfl rfl f21 rfl sz32 rfl rfl rfl fun h22 u22 => ?_;replace f21 := u22.has f21;replace f0 := f0.upd u22 (by omega);replace e0 := e0.upd u22 (by omega);replace e5 := e5.upd u22 (by omega);apply gE;apply gS;refine gR rfl ?_;refine gO rfl rfl (fa32_0 rfl) rfl ?_;refine gO rfl rfl (ld3 rfl f21 rfl) rfl ?_;refine gP ?_;apply gE;iterate 2 apply gS
     refine gR rfl ?_;refine gO rfl rfl (fa32_0 rfl) rfl ?_;refine gO rfl rfl (ld3 rfl f21 rfl) rfl ?_;refine gP ?_;refine gO rfl rfl (kEF rfl rfl) rfl ?_;apply gE;refine gC (b := false) rfl ?_;refine gD ?_;iterate 2 apply gS
     refine Go.drawnE plan26_0 ?_;refine gQ rfl rfl (fa32_0 rfl) rfl ?_;refine gQ rfl rfl (ld3 rfl f21 rfl) rfl ?_;refine gQ rfl rfl rfl rfl ?_;refine gQ rfl rfl (kXT rfl rfl) rfl ?_;refine gQ rfl rfl rfl rfl ?_;refine gQ rfl rfl (fa32_1 rfl) rfl ?_;refine gQ rfl rfl (ld3 rfl f21 rfl) rfl ?_;refine gQ rfl rfl rfl rfl ?_;refine gQ rfl rfl (kXT rfl rfl) rfl ?_;iterate 2 refine gQ rfl rfl rfl rfl ?_
     iterate 5 refine GoE.skip rfl rfl rfl ?_
     iterate 2 refine gQ rfl rfl rfl rfl ?_
     iterate 9 refine GoE.skip rfl rfl rfl ?_
     refine gQ rfl rfl rfl rfl ?_;refine GoE.end rfl ?_;refine gC (b := true) rfl ?_;refine gD ?_;refine gR rfl ?_;refine gO rfl rfl (aA rfl rfl) rfl ?_;refine gP ?_;apply gE;exact again2 (m2 - 1) (i + 1, o) _ _ (by omega) ⟨rfl, rfl, rfl, rfl, rfl, rfl, rfl, rfl, rfl, rfl, rfl, rfl, trivial⟩ ⟨by dsimp only; omega, e0, e5, f0, N.congr fun z _ => jp_skip hw (.inr (joins_no c1 c2)) z⟩
  ·have hid : i = D.ds.length := by omega
   subst hid
   have hoe : o = lowV (D.J st a) l D.bs.length a := (N.congr (J' := D.J st a) fun x _ => (jp_all D st a x).symm).uniq (low_is _ _ _ _)
   have hca := course_at (D := D) (s := st) (l := l) ha
   have hsg : (sgnC (D.course st l)).take (a + 1) = (sgnC (D.course st l)).take a ++ [sgn D.bs.length o] := by
    have : (sgnC (D.course st l))[a]? = some (sgn D.bs.length o) := by unfold sgnC; rw [List.getElem?_map, hca, hcl, ← hoe]; rfl
    rw [List.take_add_one, this]
    rfl
   obtain ⟨sg, hsgn⟩ : ∃ z, sgn D.bs.length o = z := ⟨_, rfl⟩
   rw [hsgn] at hsg ⊢;clear again2;apply gS;refine gR rfl ?_;refine gO rfl rfl (kLF rfl rfl) rfl ?_;apply gE;apply gS;refine gC (b := false) rfl ?_;refine gD ?_;refine gR rfl ?_;iterate 2 refine gP ?_
   refine GoR.buildSl rfl rfl (ps := [(0, .int .i64 sg)]) (cs := [.int .i64 sg]) Try.underlying47 rfl sz3 zt3 rfl rfl rfl rfl fun h21 x21 f21 => ?_;have := e0.1;have := e5.1;have := f0.1;replace f0 := f0.ext x21;replace e0 := e0.trans x21;replace e5 := e5.trans x21;have := f21.1
   have G' := G.ext e5
   have hx5 := e5.1
   refine GoR.append1F (lo := h0.next) (s := rsl) rfl rfl rfl Try.underlying47 Try.underlying47 sz3 by3 zt3 rfl rfl rfl rfl f21 rfl rfl G' (by omega) rfl rfl fun s6 h59 y59 g59 => ?_
   have e9 : Ext h h59 := y59.low e0 (fun b q => by have := (grow_own G' q).1; omega)
   have f9 := f0.extF y59 (fun q => by have := (grow_own G' q).1; omega)
   have hy := y59.1
   have hf21 := f21.1
   clear e0 e5 f0 f21 y59
   have e0 := e9
   have f0 := f9
   clear e9 f9;refine gP ?_;apply gE;refine Go.inBlock noJ_ok ?_;refine gR rfl ?_;refine gO rfl rfl (aA rfl rfl) rfl ?_;refine gP ?_;apply gE;refine again (m - 1) (a + 1, s6) _ _ (by omega) ⟨rfl, rfl, rfl, rfl, rfl, rfl, rfl, trivial⟩ ⟨by dsimp only; omega, by omega, e0, f0, ?_⟩
   dsimp only
   have hi6 : i64s ((sgnC (D.course st l)).take a ++ [sg]) = i64s ((sgnC (D.course st l)).take a) ++ [.int .i64 sg] := by unfold i64s; rw [List.map_append]; rfl
   rw [hsg, hi6];exact g59.low (by omega)
 ·rw [List.take_of_length_le (by unfold sgnC; rw [List.length_map, hcl]; omega)] at G;rw [show a = D.bs.length by omega] at G;apply gS;refine gR rfl ?_;refine gO rfl rfl (kLF rfl rfl) rfl ?_;apply gE;apply gS;refine gC (b := false) rfl ?_;refine gD ?_;apply gS;refine gR rfl ?_;iterate 2 refine gP ?_
  apply gE;exact gV (ret_end (aResult_of Try.func26 rfl rfl) ⟨rsl, rfl, e0, G.low (by omega)⟩)
end Go.Proofs.Ytkhiagdmbajimaa

namespace Go.Proofs.Ytkhiagdmbajimaa
open Go Go.AbsE
set_option linter.unusedSimpArgs false
set_option maxRecDepth 100000
set_option maxHeartbeats 0
set_option linter.unusedVariables false
def sumI (l : List Int) : Int := l.foldr (· + ·) 0
theorem sumI_in {l : List Int} (h : ∀ x, x ∈ l → 0 ≤ x ∧ x ≤ 20) : 0 ≤ sumI l ∧ sumI l ≤ l.length * 20 := by
 induction l with
 | nil => exact ⟨Int.le_refl _, Int.le_refl _⟩
 | cons x l ih =>
  have h1 := h x (by simp)
  have h2 := ih fun y hy => h y (by simp [hy])
  show 0 ≤ x + sumI l ∧ x + sumI l ≤ _
  rw [List.length_cons]
  omega
def wat (c : List Nat) (ys : List Int) (a : Nat) : Int := sumI ((treeV c 21 a).map (lv ys))
def watL (c : List Nat) (ys : List Int) : List Int := (List.range c.length).map (wat c ys)
def acc (c : List Nat) (ys : List Int) (b a : Nat) : Int := sumI (((treeV c 21 a).filter fun x => decide (x < b)).map (lv ys))
theorem acc_zero (c : List Nat) (ys : List Int) (a : Nat) : acc c ys 0 a = 0 := by
 unfold acc
 rw [List.filter_eq_nil_iff.2 (fun x _ => by simp)]
 rfl
theorem sum_step (ys : List Int) (b : Nat) : ∀ {L : List Nat}, L.Nodup → sumI ((L.filter fun x => decide (x < b + 1)).map (lv ys)) = sumI ((L.filter fun x => decide (x < b)).map (lv ys)) + (if b ∈ L then lv ys b else 0)
 | [], _ => by simp [sumI]
 | x :: L, hn => by
  obtain ⟨h1, h2⟩ := List.nodup_cons.1 hn
  have ih := sum_step ys b h2
  by_cases q : x < b
  ·rw [List.filter_cons_of_pos (by simp; omega), List.filter_cons_of_pos (by simpa using q), List.map_cons, List.map_cons]
   show lv ys x + sumI _ = lv ys x + sumI _ + _
   have e : (b ∈ x :: L) = (b ∈ L) := by
    apply propext;rw [List.mem_cons]
    constructor
    ·rintro (q2 | q2)
     ·omega
     ·exact q2
    ·exact .inr
   rw [ih]
   simp only [e]
   omega
  ·by_cases q2 : x = b
   ·subst q2;rw [List.filter_cons_of_pos (by simp), List.filter_cons_of_neg (by simp), List.map_cons]
    show lv ys x + sumI _ = _
    rw [ih, if_neg h1, if_pos (by simp)]
    omega
   ·rw [List.filter_cons_of_neg (by simp; omega), List.filter_cons_of_neg (by simpa using q)]
    have e : (b ∈ x :: L) = (b ∈ L) := by
     apply propext;rw [List.mem_cons]
     constructor
     ·rintro (q3 | q3)
      ·omega
      ·exact q3
     ·exact .inr
    rw [ih]
    simp only [e]
theorem acc_succ {l : List Int} {c : List Nat} (d : Down l c) (ys : List Int) {a b : Nat} (ha : a < c.length) : acc c ys (b + 1) a = acc c ys b a + (if b ∈ treeV c 21 a then lv ys b else 0) := by
 unfold acc
 exact sum_step ys b (tree_nodup d 100 ha (by have := d.lo a ha; omega))
theorem acc_all {c : List Nat} (ys : List Int) {a : Nat} (ha : a < c.length) : acc c ys c.length a = wat c ys a := by
 unfold acc wat
 rw [List.filter_eq_self.2 (fun x hx => by simpa using tree_lt ha hx)]
def cur (c : List Nat) (ys : List Int) (b k a : Nat) : Int := acc c ys b a + (if b ∈ treeV c 21 a ∧ (c.length ≤ k ∨ ¬ k ∈ treeV c 21 a) then lv ys b else 0)
def curW (c : List Nat) (ys : List Int) (b k : Nat) : List Int := (List.range c.length).map (cur c ys b k)
def accW (c : List Nat) (ys : List Int) (b : Nat) : List Int := (List.range c.length).map (acc c ys b)
theorem cur_start {l : List Int} {c : List Nat} (d : Down l c) (ys : List Int) {b : Nat} (hb : b < c.length) : curW c ys b b = accW c ys b := by
 unfold curW accW
 refine List.map_congr_left fun a ha => ?_
 have ha := List.mem_range.1 ha
 unfold cur
 rw [if_neg ?_, Int.add_zero];rintro ⟨h1, h2 | h2⟩
 ·omega
 ·exact h2 h1
theorem cur_end {l : List Int} {c : List Nat} (d : Down l c) (ys : List Int) {b : Nat} : curW c ys b c.length = accW c ys (b + 1) := by
 unfold curW accW
 refine List.map_congr_left fun a ha => ?_
 have ha := List.mem_range.1 ha
 unfold cur
 rw [acc_succ d ys ha]
 simp
theorem cur_next {l : List Int} {c : List Nat} (d : Down l c) (ys : List Int) {b k : Nat} (hb : b < c.length) (hk : k < c.length) (hc : Comes c k b) : (curW c ys b k).set k (cur c ys b k k + lv ys b) = curW c ys b (nx c k) := by
 apply List.ext_getElem?
 intro a
 unfold curW
 by_cases ha : a < c.length
 ·rw [List.getElem?_set, List.getElem?_map, List.getElem?_map, List.getElem?_range ha, List.length_map, List.length_range]
  by_cases q : k = a
  ·subst q;rw [if_pos rfl, if_pos hk]
   show some _ = some _
   congr 1
   have hm : b ∈ treeV c 21 k := (mem_tree d hk).2 hc
   have hkk : k ∈ treeV c 21 k := (mem_tree d hk).2 (.here hk)
   have hz : c.length ≤ nx c k ∨ ¬ nx c k ∈ treeV c 21 k := by
    by_cases z : nx c k < c.length
    ·refine .inr fun h => ?_
     have h1 := ((mem_tree d hk).1 h).lv_le d
     have h2 := d.lt k hk z
     omega
    ·exact .inl (by omega)
   have hno : ¬ (b ∈ treeV c 21 k ∧ (c.length ≤ k ∨ ¬ k ∈ treeV c 21 k)) := by
    rintro ⟨_, h | h⟩
    ·omega
    ·exact h hkk
   unfold cur
   rw [if_neg hno, if_pos ⟨hm, hz⟩, Int.add_zero]
  ·rw [if_neg q]
   show some _ = some _
   congr 1
   unfold cur
   congr 1
   have e : (b ∈ treeV c 21 a ∧ (c.length ≤ k ∨ ¬ k ∈ treeV c 21 a)) ↔ (b ∈ treeV c 21 a ∧ (c.length ≤ nx c k ∨ ¬ nx c k ∈ treeV c 21 a)) := by
    constructor
    ·rintro ⟨h1, h2⟩;refine ⟨h1, ?_⟩
     rcases h2 with h2 | h2
     ·omega
     ·by_cases z : nx c k < c.length
      ·refine .inr fun h => h2 ?_;exact (mem_tree d ha).2 (.next hk ((mem_tree d ha).1 h))
      ·exact .inl (by omega)
    ·rintro ⟨h1, h2⟩;refine ⟨h1, .inr fun h => ?_⟩
     have h3 := (mem_tree d ha).1 h
     cases h3 with
     | here _ => exact q rfl
     | next _ h4 =>
      rcases h2 with h2 | h2
      ·have := h4.lt.2; omega
      ·exact h2 ((mem_tree d ha).2 h4)
   by_cases z : (b ∈ treeV c 21 a ∧ (c.length ≤ k ∨ ¬ k ∈ treeV c 21 a))
   ·rw [if_pos z, if_pos (e.1 z)]
   ·rw [if_neg z, if_neg (fun w => z (e.2 w))]
 ·rw [List.getElem?_eq_none (by rw [List.length_set, List.length_map, List.length_range]; omega), List.getElem?_eq_none (by rw [List.length_map, List.length_range]; omega)]
theorem acc_in {l : List Int} {c : List Nat} (d : Down l c) {ys : List Int} (hy : ∀ b, 0 ≤ lv ys b ∧ lv ys b ≤ 20) {a b : Nat} (ha : a < c.length) (hc : c.length ≤ 5) : 0 ≤ acc c ys b a ∧ acc c ys b a ≤ 100 := by
 unfold acc
 have h1 := sumI_in (l := (((treeV c 21 a).filter fun x => decide (x < b)).map (lv ys))) fun x hx => by
  obtain ⟨z, _, rfl⟩ := List.mem_map.1 hx
  exact hy z
 rw [List.length_map] at h1
 have h2 := List.length_filter_le (fun x => decide (x < b)) (treeV c 21 a)
 have h3 := path_len d ha
 omega
theorem water_wat (D : DrainV) (c : List Nat) (a : Nat) : D.water c a = (wat c (D.bs.map fun b => b.yl) a, wat c (D.bs.map fun b => b.yh) a) := by
 have hy : ∀ b, D.yield b = (lv (D.bs.map fun b => b.yl) b, lv (D.bs.map fun b => b.yh) b) := fun b => by
  unfold DrainV.yield lv
  rw [List.getElem?_map, List.getElem?_map]
  cases D.bs[b]? <;> rfl
 unfold DrainV.water wat
 induction treeV c 21 a with
 | nil => rfl
 | cons x l ih =>
  rw [List.map_cons, List.map_cons, List.map_cons, sum_cons, hy, ih]
  rfl
theorem waters27_ok {l : List Int} {c : List Nat} (dn : Down l c) (hc : 1 ≤ c.length ∧ c.length ≤ 5) {ys : List Int} (hyl : ys.length = c.length) (hy : ∀ b, 0 ≤ lv ys b ∧ lv ys b ≤ 20) {sn sy : AVal} {h : AH} (S : SliceOf h 1 sn ((sgnC c).map fun x => [AVal.int .i64 x])) (Y : SliceOf h 1 sy (ys.map fun x => [AVal.int .i64 x])) :
  Runs Try.prog 27 [sn, sy] h (fun en h' => ∃ bt, en = .ret (.slice bt 0 c.length c.length) ∧ Ext h h' ∧ h.next ≤ bt ∧ Has h' bt (.cells .plain (i64s (watL c ys)) 3)) := by
 have hl1 := S.len
 have hl2 := Y.len
 rw [List.length_map] at hl1 hl2;rw [show (sgnC c).length = c.length by unfold sgnC; rw [List.length_map]] at hl1;rw [hyl] at hl2
 have hs1 := S.same
 have hs2 := Y.same
 obtain ⟨n, hn⟩ : ∃ n, c.length = n := ⟨_, rfl⟩
 rw [hn] at hl1 hl2 hc ⊢
 have hz : repl [AVal.int .i64 0] n = i64s (accW c ys 0) := by
  rw [repl_ints]
  congr 1
  unfold accW
  rw [hn];apply List.ext_getElem?
  intro i
  rw [List.getElem?_map]
  by_cases hi : i < n
  ·rw [List.getElem?_range hi, List.getElem?_replicate, if_pos hi]
   show _ = some (acc c ys 0 i)
   rw [acc_zero]
  ·rw [List.getElem?_eq_none (by simp; omega), List.getElem?_eq_none (by simp; omega)]
   rfl
 have hfin : accW c ys n = watL c ys := by
  unfold accW watL
  refine List.map_congr_left fun a ha => ?_
  rw [← hn, acc_all ys (List.mem_range.1 ha)]
 have e0 : Ext h h := Ext.refl _
 refine Runs.intro aFunc27 rfl rfl rfl rfl fun rest => ?_;apply gS;refine gR rfl ?_;refine gP ?_;apply gE;apply gS;refine gR rfl ?_;refine gP ?_;refine gO rfl rfl (aOp_lenSlice Try.underlying47 rfl hl1) rfl ?_;refine GoR.makeSl rfl rfl rfl Try.underlying47 rfl rfl sz3 by3 zt3 rfl (Nat.ble_eq_true_of_le (by omega)) rfl rfl fun h0 x0 f0 => ?_;have := e0.1;replace e0 := e0.trans x0;have := f0.1;refine gP ?_;apply gE;iterate 2 apply gS
 refine gR rfl ?_;refine gP ?_;refine gO rfl rfl (aOp_lenSlice Try.underlying47 rfl hl2) rfl ?_;refine gP ?_;apply gE;refine Go.block noJ_ok ?_
 have hz0 : (repl (AVal.int .i64 0).cells n) = i64s (accW c ys 0) := hz
 rw [hz0] at f0
 refine Go.loopKeep (fun b : Nat => [(0, sn), (5, .slice h.next 0 n n), (12, sy), (13, .int .i64 n), (14, .int .i64 (b : Nat))])
  (fun m b h' => m + b = n ∧ Ext h h' ∧ Has h' h.next (.cells .plain (i64s (accW c ys b)) 3)) (n := n) 0 ⟨rfl, rfl, rfl, rfl, rfl, trivial⟩ ⟨rfl, e0, f0⟩ ?_
 clear e0 f0;rintro m b h10 ⟨hm, e0, f0⟩ again
 by_cases hb : b < n
 ·have hyb : ys[b]? = some (lv ys b) := by unfold lv; simp [hyl, hn, hb]
  obtain ⟨bq, oq, u1, u2⟩ := Y.at (i := b) (l := [.int .i64 (lv ys b)]) (by rw [List.getElem?_map, hyb]; rfl)
  rw [List.length_map, hyl, hn] at u1
  have hyr := hy b
  obtain ⟨yb, hyv⟩ : ∃ z, lv ys b = z := ⟨_, rfl⟩
  have hyv' := hyv
  rw [hyv] at u2 hyr
  rw [← cur_start dn ys (b := b) (by omega)] at f0
  have hlob := dn.lo b (by omega)
  apply gS;refine gR rfl ?_;refine gO rfl rfl (kLT rfl rfl) rfl ?_;apply gE;apply gS;refine gC (b := true) rfl ?_;refine gD ?_;apply gS;refine Go.block noJ_ok ?_;apply gS;refine gR rfl ?_;refine gP ?_;refine gO rfl rfl (aOp_indexAddr (i := b) Try.underlying47 sz3 rfl u1 rfl (Nat.ble_eq_true_of_le (by omega))) rfl ?_;refine gO rfl rfl ((aOp_loadE1 (k := 0) ag3 rfl (u2.ext e0) rfl)) rfl ?_;iterate 2 refine gP ?_
  apply gE;apply gS;refine gR rfl ?_;iterate 2 refine gP ?_
  apply gE;refine Go.block noJ_ok ?_
  refine Go.loopKeep (fun k : Nat => [(0, sn), (5, .slice h.next 0 n n), (7, .int .i64 yb), (8, .int .i64 (sgn n k)), (12, sy), (13, .int .i64 n), (14, .int .i64 (b : Nat))])
   (fun m k h' => m = (if k < n then (lv l k).toNat + 1 else 0) ∧ k ≤ n ∧ (k < n → Comes c k b) ∧ Ext h h' ∧ Has h' h.next (.cells .plain (i64s (curW c ys b k)) 3)) (n := (lv l b).toNat + 1) b ⟨rfl, rfl, rfl, by show _ = some (AVal.int .i64 (sgn n b)); rw [sgn_lt hb]; rfl, rfl, rfl, rfl, trivial⟩ ⟨by rw [if_pos hb], by omega, fun _ => .here (by omega), e0, f0⟩ ?_
  clear e0 f0;rintro m2 k h20 ⟨hm2, hkn, hck, e0, f0⟩ again2
  by_cases hk : k < n
  ·rw [sgn_lt hk]
   have hcm := hck hk
   have hnx := cur_next dn ys (b := b) (k := k) (by omega) (by omega) hcm
   have hle := dn.le k (by omega)
   have hsk : (sgnC c)[k]? = some (sgn n (nx c k)) := by
    unfold sgnC
    rw [List.getElem?_map, hn]
    have : c[k]? = some (nx c k) := by unfold nx; simp [hn, hk]
    rw [this]
    rfl
   obtain ⟨bs, os, v1, v2⟩ := S.at (i := k) (l := [.int .i64 (sgn n (nx c k))]) (by rw [List.getElem?_map, hsk]; rfl)
   rw [List.length_map, show (sgnC c).length = n by unfold sgnC; rw [List.length_map, hn]] at v1
   have hcl : (curW c ys b k).length = n := by unfold curW; simp [hn]
   have hgk : (curW c ys b k)[k]? = some (cur c ys b k k) := by
    unfold curW
    rw [List.getElem?_map, List.getElem?_range (by omega)]
    rfl
   have hga := i64s_at hgk
   have hsp := splice_int (l := curW c ys b k) (i := k) (by omega) (cur c ys b k k + yb)
   rw [← hyv, hnx] at hsp
   have hacc := acc_in dn hy (a := k) (b := b) (by omega) (by omega)
   have hcur : cur c ys b k k = acc c ys b k := by
    unfold cur
    have hkk : k ∈ treeV c 21 k := (mem_tree dn (by omega)).2 (.here (by omega))
    rw [if_neg, Int.add_zero];rintro ⟨_, h | h⟩
    ·omega
    ·exact h hkk
   obtain ⟨cv, hcv⟩ : ∃ z, cur c ys b k k = z := ⟨_, rfl⟩
   rw [hyv] at hsp;rw [hcv] at hsp hga hcur
   have hq7 : aSlElems (.slice h.next 0 n n) = some (h.next, 0, n) := rfl
   iterate 2 apply gS
   refine gR rfl ?_;refine gP ?_;refine gO rfl rfl (kNT rfl rfl) rfl ?_;apply gE;refine gC (b := true) rfl ?_;refine gD ?_;apply gS;refine Go.block noJ_ok ?_;refine gR rfl ?_;iterate 2 refine gP ?_
   refine gO rfl rfl (aOp_indexAddr (i := k) Try.underlying47 sz3 rfl hq7 rfl (Nat.ble_eq_true_of_le (by omega))) rfl ?_;refine gO rfl rfl (ld3 rfl f0 hga) rfl ?_;refine gP ?_;refine gO rfl rfl (aA rfl rfl) rfl ?_;refine gO rfl rfl (aOp_indexAddr (i := k) Try.underlying47 sz3 rfl hq7 rfl (Nat.ble_eq_true_of_le (by omega))) rfl ?_;refine GoR.store rfl rfl rfl rfl rfl rfl f0 rfl sz3 rfl rfl hsp fun h21 u21 => ?_;replace f0 := u21.has f0;replace e0 := e0.upd u21 (by omega);apply gE;refine Go.inBlock noJ_ok ?_;refine gR rfl ?_;iterate 2 refine gP ?_
   refine gO rfl rfl (aOp_indexAddr (i := k) Try.underlying47 sz3 rfl v1 rfl (Nat.ble_eq_true_of_le (by omega))) rfl ?_;refine gO rfl rfl ((aOp_loadE1 (k := 0) ag3 rfl (v2.ext e0) rfl)) rfl ?_;refine gP ?_;apply gE;rw [hn] at hle;refine again2 (if nx c k < n then (lv l (nx c k)).toNat + 1 else 0) (nx c k) _ _ ?_ ⟨rfl, rfl, rfl, rfl, rfl, rfl, rfl, trivial⟩ ⟨rfl, hle, fun z => Comes.trans (.next (by omega) (.here (by omega))) hcm, e0, f0⟩;rw [hm2, if_pos hk]
   split
   ·rename_i z
    have h1 := dn.lt k (by omega) (by omega)
    have h2 := dn.lo (nx c k) (by omega)
    omega
   ·omega
  ·have hkn2 : k = n := by omega
   subst hkn2;rw [sgn_n]
   have hce := cur_end dn ys (b := b)
   rw [hn] at hce;rw [hce] at f0;iterate 2 apply gS
   refine gR rfl ?_;refine gP ?_;refine gO rfl rfl (aOp_geq rfl rfl (r := false) rfl) rfl ?_;apply gE;refine gC (b := false) rfl ?_;refine gD ?_;refine Go.inBlock noJ_ok ?_;refine gR rfl ?_;refine gO rfl rfl (aA rfl rfl) rfl ?_;refine gP ?_;apply gE;exact again (m - 1) (b + 1) _ _ (by omega) ⟨rfl, rfl, rfl, rfl, rfl, trivial⟩ ⟨by omega, e0, f0⟩
 ·rw [show b = n by omega, hfin] at f0;apply gS;refine gR rfl ?_;refine gO rfl rfl (kLF rfl rfl) rfl ?_;apply gE;apply gS;refine gC (b := false) rfl ?_;refine gD ?_;apply gS;refine gR rfl ?_;iterate 2 refine gP ?_
  apply gE;exact gV (ret_end (aResult_of Try.func27 rfl rfl) ⟨h.next, rfl, e0, Nat.le_refl _, f0⟩)
end Go.Proofs.Ytkhiagdmbajimaa

namespace Go.Proofs.Ytkhiagdmbajimaa
open Go Go.AbsE
set_option linter.unusedSimpArgs false
set_option maxRecDepth 100000
set_option maxHeartbeats 0
set_option linter.unusedVariables false
theorem ints_slice {h : AH} {el : TypeId} {lo : Nat} {s : AVal} {l : List Int} {n : Nat} (hn : l.length = n) (G : Grow h el 1 lo s n (i64s l)) : SliceOf h 1 s (l.map fun x => [AVal.int .i64 x]) := nums_sl hn G
structure Pre (D : DrainV) (p : List Int) : Prop where
 le : p.length ≤ D.bs.length
 va : ∀ (i : Nat) (b : BkV) (x : Int), D.bs[i]? = some b → p[i]? = some x → b.ll ≤ x ∧ x ≤ b.lh
theorem Pre.nil (D : DrainV) : Pre D [] := ⟨by simp, fun i b x _ h => by cases h⟩
theorem Pre.snoc {D : DrainV} {p : List Int} (k : Pre D p) {b : BkV} (hb : D.bs[p.length]? = some b) {x : Int} (hx : b.ll ≤ x ∧ x ≤ b.lh) : Pre D (p ++ [x]) := by
 have hl := (List.getElem?_eq_some_iff.1 hb).1
 refine ⟨by rw [List.length_append]; simp; omega, fun i b' y h1 h2 => ?_⟩
 by_cases hi : i < p.length
 ·rw [List.getElem?_append_left hi] at h2;exact k.va i b' y h1 h2
 ·rw [List.getElem?_append_right (by omega)] at h2
  have h3 := (List.getElem?_eq_some_iff.1 h2).1
  have hip : i = p.length := by simp at h3; omega
  subst hip;rw [Nat.sub_self] at h2;cases h2;rw [hb] at h1;cases h1;exact hx
theorem Pre.full {D : DrainV} {p : List Int} (k : Pre D p) (h : p.length = D.bs.length) : p ∈ levsV D.bs := mem_levs h k.va
theorem courses26_e {D : DrainV} (O : D.Ok) {b d r s ls : AVal} {l : List Int} (hl : l.length = D.bs.length) {st : Nat} {h : AH} (A : DrainAt h D b d r s) (S : SliceOf h 1 ls (l.map fun x => [AVal.int .i64 x])) :
  Runs Try.prog 26 [.agg (dC b d r s), ls, .int .i64 (st : Nat)] h (fun en h' => ∃ sl, en = .ret sl ∧ Ext h h' ∧ Grow h' 3 1 h.next sl D.bs.length (i64s (sgnC (D.course st l))) ∧ Ext h' h') :=
 (courses26_ok O hl A S).mono fun en h' ⟨sl, q, e, G⟩ => ⟨sl, q, e, G, Ext.refl h'⟩
section
variable {D : DrainV} {b d r s : AVal} {g : AH} {F : FuncId} {fF : Func} {caps : List AVal} {S : Nat → Prop} {Inv : List (List Int) → AH → Prop} {B2 B3 B4 : Nat}
end
end Go.Proofs.Ytkhiagdmbajimaa

namespace Go.Proofs.Ytkhiagdmbajimaa
open Go Go.AbsE
set_option linter.unusedSimpArgs false
set_option maxRecDepth 100000
set_option maxHeartbeats 0
set_option linter.unusedVariables false
def highs (D : DrainV) : List Int := D.bs.map fun b => b.yh
def lows (D : DrainV) : List Int := D.bs.map fun b => b.yl
theorem highs_in {D : DrainV} (O : D.Ok) (b : Nat) : 0 ≤ lv (highs D) b ∧ lv (highs D) b ≤ 20 := by
 unfold highs lv
 rw [List.getElem?_map]
 cases q : D.bs[b]? with
 | none => simp
 | some x =>
  have := (O.b x (List.mem_of_getElem? q)).2
  show 0 ≤ x.yh ∧ x.yh ≤ 20
  omega
theorem lows_in {D : DrainV} (O : D.Ok) (b : Nat) : 0 ≤ lv (lows D) b ∧ lv (lows D) b ≤ 20 := by
 unfold lows lv
 rw [List.getElem?_map]
 cases q : D.bs[b]? with
 | none => simp
 | some x =>
  have := (O.b x (List.mem_of_getElem? q)).2
  show 0 ≤ x.yl ∧ x.yl ≤ 20
  omega
def okR (D : DrainV) (st : Nat) (l : List Int) : Bool := !(D.rs.any (D.can (D.course st l)))
def okS (D : DrainV) (st : Nat) : Bool := D.truths.all (okR D st)
theorem keeps_two (D : DrainV) (st : Nat) : decide (D.keeps D.truths (D.course st) = 2) = okS D st := by
 unfold DrainV.keeps okS okR
 split
 ·rename_i h
  rw [h]
  rfl
 ·rename_i h
  rw [Bool.not_eq_true] at h;rw [h]
  split <;> rfl
theorem sgnC_at {D : DrainV} {st : Nat} {l : List Int} {a : Nat} (ha : a < D.bs.length) : (sgnC (D.course st l))[a]? = some (sgn D.bs.length (nx (D.course st l) a)) := by
 have hcl := course_len D st l
 unfold sgnC
 rw [List.getElem?_map, hcl]
 have : (D.course st l)[a]? = some (nx (D.course st l) a) := by unfold nx; simp [hcl, ha]
 rw [this]
 rfl
theorem watL_at {c : List Nat} {ys : List Int} {a : Nat} (ha : a < c.length) : (watL c ys)[a]? = some (wat c ys a) := by
 unfold watL
 rw [List.getElem?_map, List.getElem?_range ha]
 rfl
theorem can_is {D : DrainV} {c : List Nat} {o t : Nat} {m : Int} (hm : 0 ≤ m) : D.can c ⟨(o : Int), (t : Int), m⟩ = decide (nx c o = t ∧ m < wat c (highs D) o) := by
 unfold DrainV.can DrainV.straight
 dsimp only
 rw [Int.toNat_natCast, Int.toNat_natCast, water_wat]
 by_cases q : nx c o = t
 ·rw [if_pos q]
  show decide (m < wat c (highs D) o) = _
  simp [q]
 ·rw [if_neg q, decide_eq_false (by dsimp only; omega), decide_eq_false (fun w => q w.1)]
theorem waters27_e {l : List Int} {c : List Nat} (dn : Down l c) (hc : 1 ≤ c.length ∧ c.length ≤ 5) {ys : List Int} (hyl : ys.length = c.length) (hy : ∀ b, 0 ≤ lv ys b ∧ lv ys b ≤ 20) {sn sy : AVal} {h : AH} (S : SliceOf h 1 sn ((sgnC c).map fun x => [AVal.int .i64 x])) (Y : SliceOf h 1 sy (ys.map fun x => [AVal.int .i64 x])) :
  Runs Try.prog 27 [sn, sy] h (fun en h' => ∃ bt, en = .ret (.slice bt 0 c.length c.length) ∧ Ext h h' ∧ h.next ≤ bt ∧ Has h' bt (.cells .plain (i64s (watL c ys)) 3)) := waters27_ok dn hc hyl hy S Y
end Go.Proofs.Ytkhiagdmbajimaa

namespace Go.Proofs.Ytkhiagdmbajimaa
open Go Go.AbsE
set_option linter.unusedSimpArgs false
set_option maxRecDepth 100000
set_option maxHeartbeats 0
set_option linter.unusedVariables false
theorem open_none {s : Nat} : ∀ {L : List (Int × Int)} {i : Nat}, (∀ j, j < L.length → s.testBit (i + j) = true) → openV s i L = []
 | [], _, _ => rfl
 | l :: L, i, h => by
  unfold openV
  rw [if_pos (by have := h 0 (by simp); rwa [Nat.add_zero] at this)]
  exact open_none fun j hj => by
   have := h (j + 1) (by simpa using hj)
   rwa [show i + (j + 1) = i + 1 + j by omega] at this
theorem all_stopped {D : DrainV} (O : D.Ok) : okS D (2 ^ D.ds.length - 1) = true := by
 unfold okS
 rw [List.all_eq_true]
 intro l hl
 have hmem := (List.mem_filter.1 hl).1
 have hJ : ∀ a x, D.J (2 ^ D.ds.length - 1) a x = false := fun a x => by
  unfold DrainV.J
  rw [open_none fun j hj => by rw [Nat.zero_add, Nat.testBit_two_pow_sub_one]; exact decide_eq_true hj]
  rfl
 unfold okR
 rw [Bool.not_eq_true', List.any_eq_false]
 intro r hr
 have hro := O.r r hr
 obtain ⟨ro, rt, rm⟩ := r
 unfold RtV.Ok PairOk at hro
 dsimp only at hro
 obtain ⟨o, rfl⟩ := Int.eq_ofNat_of_zero_le hro.1.1.1
 obtain ⟨t, rfl⟩ := Int.eq_ofNat_of_zero_le hro.1.2.1.1
 rw [can_is hro.2.1, decide_eq_false]
 ·decide
 rintro ⟨h1, _⟩;rw [nx_course (by omega)] at h1
 rcases (low_is (D.J (2 ^ D.ds.length - 1) o) l D.bs.length o).h with ⟨q, _⟩ | ⟨_, _, q, _⟩
 ·omega
 ·rw [hJ] at q;cases q
theorem stop_ex {D : DrainV} (O : D.Ok) : stopV D < 2 ^ D.ds.length ∧ okS D (stopV D) = true ∧ ∀ s, s < 2 ^ D.ds.length → okS D s = true → popc (stopV D) < popc s ∨ (popc (stopV D) = popc s ∧ stopV D ≤ s) := by
 have hn := O.nd
 have hal : 2 ^ D.ds.length - 1 < 2 ^ D.ds.length := by have := Nat.two_pow_pos D.ds.length; omega
 cases q : (subs D.ds.length).find? fun st => decide (D.keeps D.truths (D.course st) = 2) with
 | none =>
  rw [List.find?_eq_none] at q
  have := q _ (in_subs hn hal)
  rw [keeps_two, all_stopped O] at this;exact absurd rfl this
 | some c =>
  have hs : stopV D = c := by unfold stopV; rw [q]; rfl
  rw [hs]
  obtain ⟨m1, m2, m3⟩ := subs_first q
  rw [keeps_two] at m2;exact ⟨(mem_subs2.1 m1).1, m2, fun s h1 h2 => m3 s (in_subs hn h1) (by rw [keeps_two]; exact h2)⟩
theorem stopR_is {D : DrainV} (O : D.Ok) : D.stopR = D.tr (((popc (stopV D) : Nat) : Int), ((stopV D : Nat) : Int)) zSp := DrainV.ok_yes O
theorem breaksR_is {D : DrainV} (O : D.Ok) : D.breaksR = D.tr (((D.surely : Nat) : Int), ((D.perhaps : Nat) : Int)) zSp := DrainV.ok_yes O
end Go.Proofs.Ytkhiagdmbajimaa

namespace Go.Proofs.Ytkhiagdmbajimaa
open Go Go.AbsE
set_option linter.unusedSimpArgs false
set_option maxRecDepth 100000
set_option maxHeartbeats 0
set_option linter.unusedVariables false
end Go.Proofs.Ytkhiagdmbajimaa

namespace Go.Proofs.Ytkhiagdmbajimaa
open Go Go.AbsE
set_option linter.unusedSimpArgs false
set_option maxRecDepth 100000
set_option maxHeartbeats 0
set_option linter.unusedVariables false
end Go.Proofs.Ytkhiagdmbajimaa

namespace Go.Proofs.Ytkhiagdmbajimaa
open Go Go.AbsE
set_option linter.unusedSimpArgs false
set_option maxRecDepth 100000
set_option maxHeartbeats 0
set_option linter.unusedVariables false
theorem foldJ_hi {m : Int} : ∀ (l : List (Int × Int)) (a : Int × Int), (l.foldl joinP a).2 ≤ m ↔ a.2 ≤ m ∧ ∀ p, p ∈ l → p.2 ≤ m := by
 intro l
 induction l with
 | nil => intro a; simp
 | cons x l ih =>
  intro a
  rw [List.foldl_cons, ih]
  show max a.2 x.2 ≤ m ∧ _ ↔ _
  constructor
  ·rintro ⟨h1, h2⟩;refine ⟨by omega, fun p hp => ?_⟩
   rcases List.mem_cons.1 hp with rfl | hp
   ·omega
   ·exact h2 p hp
  ·rintro ⟨h1, h2⟩
   have := h2 x (by simp)
   exact ⟨by omega, fun p hp => h2 p (by simp [hp])⟩
theorem foldJ_lo {m : Int} : ∀ (l : List (Int × Int)) (a : Int × Int), m ≤ (l.foldl joinP a).1 ↔ m ≤ a.1 ∧ ∀ p, p ∈ l → m ≤ p.1 := by
 intro l
 induction l with
 | nil => intro a; simp
 | cons x l ih =>
  intro a
  rw [List.foldl_cons, ih]
  show m ≤ min a.1 x.1 ∧ _ ↔ _
  constructor
  ·rintro ⟨h1, h2⟩;refine ⟨by omega, fun p hp => ?_⟩
   rcases List.mem_cons.1 hp with rfl | hp
   ·omega
   ·exact h2 p hp
  ·rintro ⟨h1, h2⟩
   have := h2 x (by simp)
   exact ⟨by omega, fun p hp => h2 p (by simp [hp])⟩
theorem water_pair {D : DrainV} (c : List Nat) (a : Nat) : D.water c a = (wat c (lows D) a, wat c (highs D) a) := water_wat D c a
end Go.Proofs.Ytkhiagdmbajimaa

namespace Go.Proofs.Ytkhiagdmbajimaa
open Go Go.AbsE
set_option linter.unusedSimpArgs false
set_option maxRecDepth 100000
set_option maxHeartbeats 0
set_option linter.unusedVariables false
end Go.Proofs.Ytkhiagdmbajimaa

set_option linter.unusedSimpArgs false
set_option linter.unusedVariables false
namespace Go.AbsE
open Go
section
variable {P : Program} {t : Tr AVal} {h : AH} {dst : Option Tmp} {tt : TypeId} {pos : String} {after : Array Edge} {guard : Option (Nat × Bool)} {x y : Operand}
variable {c : FC} {k : List AItem} {Q : AM → Prop} {J : Jump} {all : Array Oper} {l lrest : List Oper} {i d : Nat}
def CopR (h : AH) (el eb : TypeId) (b lo : Nat) (v : AVal) (L : List (List AVal)) : Prop := (L = [] ∧ v = .slice b 0 0 0 ∧ Has h b (.cells .plain [] eb)) ∨ (0 < L.length ∧ ∃ B, lo ≤ B ∧ v = .gsl B 0 0 L.length ∧ Has h B (.cells .grow L.flatten el))
theorem CopR.ext {h h' : AH} {el eb : TypeId} {b lo : Nat} {v : AVal} {L : List (List AVal)} (k : CopR h el eb b lo v L) (e : Ext h h') : CopR h' el eb b lo v L := by
 rcases k with ⟨k1, k2, k3⟩ | ⟨k, b, k1, k2, k3⟩
 ·exact .inl ⟨k1, k2, k3.ext e⟩
 ·exact .inr ⟨k, b, k1, k2, k3.ext e⟩
end
end Go.AbsE
