import Derived.Test.YtmimdgjehnhnoaaMAS
import Derived.Test.YtmimdgjehnhnoaaMAG
import Derived.Deep.Slices
import Derived.Lib.SmallJoins
import Derived.Carry
import Derived.Test.YtmimdgjehnhnoaaMAQ
import Derived.Laws.IdiomArrays
import Derived.Test.YtmimdgjehnhnoaaRows
import Derived.WalkKit
import Derived.ProofKit
import Derived.OpenShut
namespace Go.Proofs.Ytmimdgjehnhnoaa
open Go Go.AbsE
set_option linter.unusedSimpArgs false
set_option maxRecDepth 100000
set_option maxHeartbeats 0
set_option linter.unusedVariables false
def pickV (st : Option Pl) (y : Pl) : Option Pl := match st with | none => some y | some x => if y.c < x.c then some y else some x
theorem fold_filter {P : Pl → Bool} : ∀ (l : List Pl) (st : Option Pl), l.foldl (stepV P) st = (l.filter P).foldl pickV st
 | [], _ => rfl
 | y :: l, st => by
  rw [List.foldl_cons, fold_filter l]
  cases hy : P y with
  | true =>
   rw [List.filter_cons_of_pos hy, List.foldl_cons]
   congr 1
   unfold stepV pickV
   rw [if_pos hy]
   cases st <;> rfl
  | false =>
   rw [List.filter_cons_of_neg (by rw [hy]; simp)]
   congr 1
   unfold stepV
   rw [if_neg (by rw [hy]; simp)]
theorem soon_pick {F : FootV} {i : Nat} : F.soon true i = (F.sureL i).foldl pickV none := by
 unfold FootV.soon firstV FootV.sureL
 exact fold_filter _ _
theorem sure_ord {F : FootV} {i : Nat} : ∀ p, p ∈ F.sureL i → p.Ord F.rs.length := fun p hp => whole_ord (List.mem_filter.1 hp).1
theorem sure_len {F : FootV} (O : F.Ok) {i : Nat} : (F.sureL i).length < 100000 := by
 have hnr := O.nr
 have := itA_len (n := F.rs.length) (by omega) F.rs.length
 have h2 : (F.sureL i).length ≤ (wholeL F.rs.length).length := List.length_filter_le _ _
 have h3 : (wholeL F.rs.length).length = (itA F.rs.length F.rs.length).length := rfl
 omega
theorem pls_open {h : AH} {s : AVal} {L : List Pl} (S : SliceOf h 3 s (L.map Pl.cells)) (hl : 0 < L.length) : ∃ b o, aSlElems s = some (b, o, L.length) ∧ lenA s = some L.length ∧ sameA s s = true ∧ ∀ k p, L[k]? = some p → CellsAt h b (o + k * 3) 3 [.int .i64 p.a, .int .i64 p.b, .int .i64 p.c] := by
 obtain ⟨b, o, r1, r2⟩ := S.at (i := 0) (l := Pl.cells L[0]) (by rw [List.getElem?_map, List.getElem?_eq_getElem hl]; rfl)
 have hlen := S.len
 rw [List.length_map] at r1 hlen;refine ⟨b, o, r1, hlen, S.same, fun k p hk => ?_⟩
 obtain ⟨b2, o2, r3, r4⟩ := S.at (i := k) (l := Pl.cells p) (by rw [List.getElem?_map, hk]; rfl)
 rw [List.length_map, r1] at r3;cases r3;exact r4
theorem Soonest19_ok {F : FootV} {rsl hsl : AVal} {h : AH} (A : FootAt h F rsl hsl) (hb1 : F.rs.length ≤ 40) (hb2 : F.hs.length ≤ 40) (i : Int) :
  Runs Try.prog 19 [.agg (F.cells rsl hsl), .int .i64 i] h (fun en h' => en = .ret (.tuple [.agg (F.soonR i).1.cells, .int .i64 (F.soonR i).2]) ∧ Ext h h') := by
 have s1 := same_cells F A
 unfold FootV.cells at s1
 have hH := fun h A => Heap49_ok (F := F) (h := h) (rsl := rsl) (hsl := hsl) A hb2 i
 have hC := fun h A b r hr => check48_ok (F := F) (h := h) (rsl := rsl) (hsl := hsl) A hb1 hb2 b (r := r) hr
 have hS := fun O h A i' hi => sure60_ok (F := F) O (h := h) (rsl := rsl) (hsl := hsl) A (i := i') hi
 unfold FootV.soonR
 unfold FootV.cells at hH hC hS
 unfold FootV.cells
 by_cases c1 : 0 ≤ i ∧ i ≤ (F.hs.length : Int) - 1
 ·rw [decide_eq_true c1] at hH
  by_cases O : F.Ok
  ·rw [if_pos O, if_pos c1]
   obtain ⟨i', rfl⟩ := Int.eq_ofNat_of_zero_le c1.1
   rw [Int.toNat_natCast, soon_pick]
   have hSl := sure_len O (i := i')
   have hSo := sure_ord (F := F) (i := i')
   have hS2 := fun h A => hS O h A i' (by omega)
   obtain ⟨L, hL⟩ : ∃ L, F.sureL i' = L := ⟨_, rfl⟩
   rw [hL] at hSl hSo hS2 ⊢
   have hc := fun h A => hC h A true 0 (by rw [if_pos O, if_pos rfl])
   cases L with
   | nil =>
    have e0 : Ext h h := Ext.refl _
    refine Runs.intro aFunc19 rfl rfl rfl rfl fun rest => ?_;apply gS;refine gR rfl ?_;refine GoR.box rfl rfl rfl rfl rfl rfl fun h0 x0 f0 => ?_;have := e0.1;replace e0 := e0.trans x0;have := f0.1;refine GoR.alloc rfl rfl rfl zt27 rfl rfl fun h1 x1 f1 => ?_;have := e0.1;have := f0.1;replace f0 := f0.ext x1;replace e0 := e0.trans x1;have := f1.1;refine gP ?_;apply gE;apply gS;refine Go.drawnE plan19_0 ?_;iterate 2 refine gQ rfl rfl (ld26 rfl f0 rfl) rfl ?_
    refine gQ rfl rfl rfl rfl ?_;refine GoE.call rfl rfl (aCF aFunc49 rfl) (hH _ (A.ext e0)) (dD 6 2 (dD 6 1 (dK 6 0 rfl))) ?_ np;rintro v2 h2 ⟨q, x2⟩;cases q;replace f1 := f1.ext x2;replace f0 := f0.ext x2;replace e0 := e0.trans x2;refine ⟨(rck (h2 := h2) rfl (ld26 rfl f0 rfl) recheck_nil), _, rfl, ?_⟩;refine GoE.call rfl rfl (aCF aFunc48 rfl) (hc _ (A.ext e0)) (dD 15 0 rfl) ?_ np;rintro v3 h3 ⟨q, x3⟩;cases q;replace f1 := f1.ext x3;replace f0 := f0.ext x3;replace e0 := e0.trans x3;refine ⟨recheck_nil, _, rfl, ?_⟩;refine gQ rfl rfl rfl rfl ?_;refine GoE.end rfl ?_;iterate 2 apply gS
    refine gR rfl ?_;refine gP ?_;refine gO rfl rfl (kXF rfl rfl) rfl ?_;apply gE;refine gC (b := false) rfl ?_;refine gD ?_;apply gS;refine gR rfl ?_;refine gO rfl rfl (ld26 rfl f0 rfl) rfl ?_;refine gP ?_;refine GoR.call rfl rfl (aCF aFunc60 rfl) (hS2 _ (A.ext e0)) ?_ (by rintro _ _ ⟨sw, q, _, SW, e9⟩; cases q);rintro v4 h4 ⟨sw, q, x4, SW, e9⟩;cases q;refine ⟨_, rfl, ?_⟩;have := e0.1;replace f1 := f1.ext x4;replace f0 := f0.ext x4;replace e0 := e0.trans x4;refine gP ?_;apply gE;iterate 2 apply gS
    refine gR rfl ?_;refine gP ?_;refine gO rfl rfl (aOp_lenSlice Try.underlying40 rfl SW.len) rfl ?_;refine gO rfl rfl (aOp_eql rfl rfl (r := true) (decide_eq_true (by simp))) rfl ?_;apply gE;refine gC (b := true) rfl ?_;apply gS;refine gR rfl ?_;refine gO rfl rfl (aOp_buildArr zt27 Try.underlying27 sz3 rfl rfl) rfl ?_;refine GoR.store rfl rfl rfl rfl rfl rfl f1 rfl sz27 rfl rfl rfl fun h5 u5 => ?_;replace f1 := u5.has f1;replace f0 := f0.upd u5 (by omega);clear e9;replace e0 := e0.upd u5 (by omega);refine gP ?_;apply gE;exact gV (ret_end (aResult_of Try.func19 rfl (aResults_c rfl f1 (inCells_agg ag27 sz27 rfl) rfl)) ⟨rfl, e0⟩)
   | cons x0 L0 =>
    obtain ⟨L, hLL⟩ : ∃ L, x0 :: L0 = L := ⟨_, rfl⟩
    have hx0 : L[0]? = some x0 := by rw [← hLL]; rfl
    have hl0 : 0 < L.length := by rw [← hLL]; exact Nat.succ_pos _
    rw [hLL] at hSl hSo hS2 ⊢
    have hS3 := fun h A => (hS2 h A).mono (R' := fun en h' => ∃ s b o, en = .ret s ∧ Ext h h' ∧ aSlElems s = some (b, o, L.length) ∧ lenA s = some L.length ∧ sameA s s = true ∧ (∀ k p, L[k]? = some p → CellsAt h' b (o + k * 3) 3 [.int .i64 p.a, .int .i64 p.b, .int .i64 p.c]) ∧ Ext h' h') fun en h' ⟨s, q, x, S, e⟩ => by
     obtain ⟨b, o, z1, z2, z3, z4⟩ := pls_open S hl0
     exact ⟨s, b, o, q, x, z1, z2, z3, z4, e⟩
    have e0 : Ext h h := Ext.refl _
    refine Runs.intro aFunc19 rfl rfl rfl rfl fun rest => ?_;apply gS;refine gR rfl ?_;refine GoR.box rfl rfl rfl rfl rfl rfl fun h1 x1 f1 => ?_;have := e0.1;replace e0 := e0.trans x1;have := f1.1;refine GoR.alloc rfl rfl rfl zt27 rfl rfl fun h2 x2 f2 => ?_;have := e0.1;have := f1.1;replace f1 := f1.ext x2;replace e0 := e0.trans x2;have := f2.1;refine gP ?_;apply gE;apply gS;refine Go.drawnE plan19_0 ?_;iterate 2 refine gQ rfl rfl (ld26 rfl f1 rfl) rfl ?_
    refine gQ rfl rfl rfl rfl ?_;refine GoE.call rfl rfl (aCF aFunc49 rfl) (hH _ (A.ext e0)) (dD 6 2 (dD 6 1 (dK 6 0 rfl))) ?_ np;rintro v3 h3 ⟨q, x3⟩;cases q;replace f2 := f2.ext x3;replace f1 := f1.ext x3;replace e0 := e0.trans x3;refine ⟨(rck (h2 := h3) rfl (ld26 rfl f1 rfl) recheck_nil), _, rfl, ?_⟩;refine GoE.call rfl rfl (aCF aFunc48 rfl) (hc _ (A.ext e0)) (dD 15 0 rfl) ?_ np;rintro v4 h4 ⟨q, x4⟩;cases q;replace f2 := f2.ext x4;replace f1 := f1.ext x4;replace e0 := e0.trans x4;refine ⟨recheck_nil, _, rfl, ?_⟩;refine gQ rfl rfl rfl rfl ?_;refine GoE.end rfl ?_;iterate 2 apply gS
    refine gR rfl ?_;refine gP ?_;refine gO rfl rfl (kXF rfl rfl) rfl ?_;apply gE;refine gC (b := false) rfl ?_;refine gD ?_;apply gS;refine gR rfl ?_;refine gO rfl rfl (ld26 rfl f1 rfl) rfl ?_;refine gP ?_;refine GoR.call rfl rfl (aCF aFunc60 rfl) (hS3 _ (A.ext e0)) ?_ (by rintro _ _ ⟨sw, bw, ow, q, _, r1, r2, r3, r4, e9⟩; cases q);rintro v5 h5 ⟨sw, bw, ow, q, x5, r1, r2, r3, r4, e9⟩;cases q;refine ⟨_, rfl, ?_⟩;have := e0.1;replace f2 := f2.ext x5;replace f1 := f1.ext x5;replace e0 := e0.trans x5;refine gP ?_;apply gE;iterate 2 apply gS
    refine gR rfl ?_;refine gP ?_;refine gO rfl rfl (aOp_lenSlice Try.underlying40 rfl r2) rfl ?_;refine gO rfl rfl (kEF rfl rfl) rfl ?_;apply gE;refine gC (b := false) rfl ?_;refine gD ?_;apply gS;refine gR rfl ?_;refine gP ?_;refine gO rfl rfl (aOp_indexAddr (i := 0) Try.underlying40 sz27 rfl r1 rfl (Nat.ble_eq_true_of_le hl0)) rfl ?_;refine gO rfl rfl (aOp_loadE ag27 sz27 rfl ((r4 0 x0 hx0).ext e9)) rfl ?_;refine GoR.alloc rfl rfl rfl zt27 rfl rfl fun h6 x6 f6 => ?_;have := e9.1;have := e0.1;have := f2.1;have := f1.1;replace f2 := f2.ext x6;replace f1 := f1.ext x6;replace e9 := e9.trans x6;replace e0 := e0.trans x6;have := f6.1;refine GoR.store rfl rfl rfl rfl rfl rfl f6 rfl sz27 rfl rfl rfl fun h7 u7 => ?_;replace f6 := u7.has f6;replace f2 := f2.upd u7 (by omega);replace f1 := f1.upd u7 (by omega);replace e9 := e9.upd u7 (by omega);replace e0 := e0.upd u7 (by omega);apply gE;iterate 2 apply gS
    refine gR rfl ?_;refine gP ?_;apply gE;refine Go.block noJ_ok ?_
    have m0 : h1.next < h5.next := by omega
    have m1 : h1.next < h7.next := f2.1
    refine Go.loopKeep (fun a : Nat × Pl => [(4, .ptr h1.next 0), (7, v5), (8, .ptr h5.next 0), (9, .int .i64 (a.1 : Nat))])
     (fun m a h' => m + a.1 = L.length ∧ Ext h h' ∧ Ext h5 h' ∧ Has h' h1.next (.cells .plain [.int .i64 0, .int .i64 0, .int .i64 0] 27) ∧ Has h' h5.next (.cells .plain [.int .i64 a.2.a, .int .i64 a.2.b, .int .i64 a.2.c] 27) ∧ ((L.take a.1).foldl pickV none = some a.2 ∨ (a.1 = 0 ∧ a.2 = x0)))
     (n := L.length) (0, x0) ⟨rfl, rfl, rfl, rfl, trivial⟩ ⟨rfl, e0, e9, f2, f6, .inr ⟨rfl, rfl⟩⟩ ?_
    have m2 : h.next ≤ h1.next := by omega
    clear e0 e9 f2 f6 f1;rintro m ⟨k, x⟩ h10 ⟨hm, e0, e9, f0, f1, hx⟩ again
    dsimp only at hm f1 hx ⊢
    have n0 := f0.1
    have n1 := f1.1
    by_cases hk : k < L.length
    ·obtain ⟨p, hp⟩ : ∃ p, L[k]? = some p := ⟨L[k], by simp [hk]⟩
     have hcell := r4 k p hp
     have hnx : (L.take (k + 1)).foldl pickV none = some (if p.c < x.c then p else x) := by
      rw [take_next hp, List.foldl_append]
      rcases hx with hx | ⟨rfl, rfl⟩
      ·rw [hx]
       show (if p.c < x.c then some p else some x) = _
       split <;> rfl
      ·rw [hx0] at hp;cases hp;rw [if_neg (by omega)]
       rfl
     by_cases c2 : p.c < x.c
     ·rw [if_pos c2] at hnx;iterate 2 apply gS
      refine gR rfl ?_;iterate 2 refine gP ?_
      refine gO rfl rfl (aOp_lenSlice Try.underlying40 rfl r2) rfl ?_;refine gO rfl rfl (kLT rfl rfl) rfl ?_;apply gE;refine gC (b := true) rfl ?_;refine gD ?_;apply gS;refine Go.block noJ_ok ?_;apply gS;refine Go.drawnE plan19_1 ?_;iterate 2 refine gQ rfl rfl rfl rfl ?_
      refine gQ rfl rfl (aOp_indexAddr (i := k) Try.underlying40 sz27 rfl r1 rfl (Nat.ble_eq_true_of_le hk)) rfl ?_;refine gQ rfl rfl (aOp_indexAddrArr (i := 2) Try.underlying27 sz3 rfl rfl rfl) rfl ?_;refine gQ rfl rfl (aOp_loadE1 (k := 2) ag3 rfl (hcell.ext e9) rfl) rfl ?_;refine gQ rfl rfl (aOp_indexAddrArr (i := 2) Try.underlying27 sz3 rfl rfl rfl) rfl ?_;refine gQ rfl rfl (ld3 rfl f1 rfl) rfl ?_;refine gQ rfl rfl (kLT rfl rfl) rfl ?_;refine GoE.end rfl ?_;refine gC (b := true) rfl ?_;refine gR rfl ?_;iterate 2 refine gP ?_
      refine gO rfl rfl (aOp_indexAddr (i := k) Try.underlying40 sz27 rfl r1 rfl (Nat.ble_eq_true_of_le hk)) rfl ?_;refine gO rfl rfl (aOp_loadE ag27 sz27 rfl (hcell.ext e9)) rfl ?_;refine GoR.store rfl rfl rfl rfl rfl rfl f1 rfl sz27 rfl rfl rfl fun h11 u11 => ?_;replace f0 := f0.upd u11 (by omega);replace f1 := u11.has f1;replace e0 := e0.upd u11 (by omega);replace e9 := e9.upd u11 (by omega);apply gE;refine Go.inBlock noJ_ok ?_;refine gR rfl ?_;refine gP ?_;refine gO rfl rfl (aA rfl rfl) rfl ?_;refine gP ?_;apply gE;exact again (m - 1) (k + 1, p) _ _ (by omega) ⟨rfl, rfl, rfl, rfl, trivial⟩ ⟨by dsimp only; omega, e0, e9, f0, f1, .inl hnx⟩
     ·rw [if_neg c2] at hnx;iterate 2 apply gS
      refine gR rfl ?_;iterate 2 refine gP ?_
      refine gO rfl rfl (aOp_lenSlice Try.underlying40 rfl r2) rfl ?_;refine gO rfl rfl (kLT rfl rfl) rfl ?_;apply gE;refine gC (b := true) rfl ?_;refine gD ?_;apply gS;refine Go.block noJ_ok ?_;apply gS;refine Go.drawnE plan19_1 ?_;iterate 2 refine gQ rfl rfl rfl rfl ?_
      refine gQ rfl rfl (aOp_indexAddr (i := k) Try.underlying40 sz27 rfl r1 rfl (Nat.ble_eq_true_of_le hk)) rfl ?_;refine gQ rfl rfl (aOp_indexAddrArr (i := 2) Try.underlying27 sz3 rfl rfl rfl) rfl ?_;refine gQ rfl rfl (aOp_loadE1 (k := 2) ag3 rfl (hcell.ext e9) rfl) rfl ?_;refine gQ rfl rfl (aOp_indexAddrArr (i := 2) Try.underlying27 sz3 rfl rfl rfl) rfl ?_;refine gQ rfl rfl (ld3 rfl f1 rfl) rfl ?_;refine gQ rfl rfl (kLF rfl rfl) rfl ?_;refine GoE.end rfl ?_;refine gC (b := false) rfl ?_;refine gD ?_;refine Go.inBlock noJ_ok ?_;refine gR rfl ?_;refine gP ?_;refine gO rfl rfl (aA rfl rfl) rfl ?_;refine gP ?_;apply gE;exact again (m - 1) (k + 1, x) _ _ (by omega) ⟨rfl, rfl, rfl, rfl, trivial⟩ ⟨by dsimp only; omega, e0, e9, f0, f1, .inl hnx⟩
    ·have hkn : k = L.length := by omega
     have hf : L.foldl pickV none = some x := by
      rcases hx with hx | ⟨q, _⟩
      ·rw [hkn, List.take_length] at hx;exact hx
      ·omega
     rw [hf];iterate 2 apply gS
     refine gR rfl ?_;iterate 2 refine gP ?_
     refine gO rfl rfl (aOp_lenSlice Try.underlying40 rfl r2) rfl ?_;refine gO rfl rfl (kLF rfl rfl) rfl ?_;apply gE;refine gC (b := false) rfl ?_;refine gD ?_;apply gS;refine gR rfl ?_;refine gO rfl rfl (ld27 rfl f1 rfl) rfl ?_;refine GoR.store rfl rfl rfl rfl rfl rfl f0 rfl sz27 rfl rfl rfl fun h11 u11 => ?_;replace f0 := u11.has f0;replace e0 := e0.upd u11 (by omega);clear e9;refine gP ?_;apply gE;exact gV (ret_end (aResult_of Try.func19 rfl (aResults_c rfl f0 (inCells_agg ag27 sz27 rfl) rfl)) ⟨rfl, e0⟩)
  ·rw [if_neg O]
   have hc := fun h A => hC h A true 1 (by rw [if_neg O])
   have e0 : Ext h h := Ext.refl _
   refine Runs.intro aFunc19 rfl rfl rfl rfl fun rest => ?_;apply gS;refine gR rfl ?_;refine GoR.box rfl rfl rfl rfl rfl rfl fun h0 x0 f0 => ?_;have := e0.1;replace e0 := e0.trans x0;have := f0.1;refine GoR.alloc rfl rfl rfl zt27 rfl rfl fun h1 x1 f1 => ?_;have := e0.1;have := f0.1;replace f0 := f0.ext x1;replace e0 := e0.trans x1;have := f1.1;refine gP ?_;apply gE;apply gS;refine Go.drawnE plan19_0 ?_;iterate 2 refine gQ rfl rfl (ld26 rfl f0 rfl) rfl ?_
   refine gQ rfl rfl rfl rfl ?_;refine GoE.call rfl rfl (aCF aFunc49 rfl) (hH _ (A.ext e0)) (dD 6 2 (dD 6 1 (dK 6 0 rfl))) ?_ np;rintro v2 h2 ⟨q, x2⟩;cases q;replace f1 := f1.ext x2;replace f0 := f0.ext x2;replace e0 := e0.trans x2;refine ⟨(rck (h2 := h2) rfl (ld26 rfl f0 rfl) recheck_nil), _, rfl, ?_⟩;refine GoE.call rfl rfl (aCF aFunc48 rfl) (hc _ (A.ext e0)) (dD 15 0 rfl) ?_ np;rintro v3 h3 ⟨q, x3⟩;cases q;replace f1 := f1.ext x3;replace e0 := e0.trans x3;refine ⟨recheck_nil, _, rfl, ?_⟩;refine gQ rfl rfl rfl rfl ?_;refine GoE.end rfl ?_;iterate 2 apply gS
   refine gR rfl ?_;refine gP ?_;refine gO rfl rfl (kXT rfl rfl) rfl ?_;apply gE;refine gC (b := true) rfl ?_;apply gS;refine gR rfl ?_;refine gO rfl rfl (aOp_buildArr zt27 Try.underlying27 sz3 rfl rfl) rfl ?_;refine gP ?_;refine GoR.store rfl rfl rfl rfl rfl rfl f1 rfl sz27 rfl rfl rfl fun h4 u4 => ?_;replace f1 := u4.has f1;replace e0 := e0.upd u4 (by omega);refine gP ?_;apply gE;exact gV (ret_end (aResult_of Try.func19 rfl (aResults_c rfl f1 (inCells_agg ag27 sz27 rfl) rfl)) ⟨rfl, e0⟩)
 ·rw [decide_eq_false c1] at hH
  by_cases O : F.Ok
  ·rw [if_pos O, if_neg c1]
   have hc := fun h A => hC h A false 2 (by rw [if_pos O, if_neg (by simp)])
   have e0 : Ext h h := Ext.refl _
   refine Runs.intro aFunc19 rfl rfl rfl rfl fun rest => ?_;apply gS;refine gR rfl ?_;refine GoR.box rfl rfl rfl rfl rfl rfl fun h0 x0 f0 => ?_;have := e0.1;replace e0 := e0.trans x0;have := f0.1;refine GoR.alloc rfl rfl rfl zt27 rfl rfl fun h1 x1 f1 => ?_;have := e0.1;have := f0.1;replace f0 := f0.ext x1;replace e0 := e0.trans x1;have := f1.1;refine gP ?_;apply gE;apply gS;refine Go.drawnE plan19_0 ?_;iterate 2 refine gQ rfl rfl (ld26 rfl f0 rfl) rfl ?_
   refine gQ rfl rfl rfl rfl ?_;refine GoE.call rfl rfl (aCF aFunc49 rfl) (hH _ (A.ext e0)) (dD 6 2 (dD 6 1 (dK 6 0 rfl))) ?_ np;rintro v2 h2 ⟨q, x2⟩;cases q;replace f1 := f1.ext x2;replace f0 := f0.ext x2;replace e0 := e0.trans x2;refine ⟨(rck (h2 := h2) rfl (ld26 rfl f0 rfl) recheck_nil), _, rfl, ?_⟩;refine GoE.call rfl rfl (aCF aFunc48 rfl) (hc _ (A.ext e0)) (dD 15 0 rfl) ?_ np;rintro v3 h3 ⟨q, x3⟩;cases q;replace f1 := f1.ext x3;replace e0 := e0.trans x3;refine ⟨recheck_nil, _, rfl, ?_⟩;refine gQ rfl rfl rfl rfl ?_;refine GoE.end rfl ?_;iterate 2 apply gS
   refine gR rfl ?_;refine gP ?_;refine gO rfl rfl (kXT rfl rfl) rfl ?_;apply gE;refine gC (b := true) rfl ?_;apply gS;refine gR rfl ?_;refine gO rfl rfl (aOp_buildArr zt27 Try.underlying27 sz3 rfl rfl) rfl ?_;refine gP ?_;refine GoR.store rfl rfl rfl rfl rfl rfl f1 rfl sz27 rfl rfl rfl fun h4 u4 => ?_;replace f1 := u4.has f1;replace e0 := e0.upd u4 (by omega);refine gP ?_;apply gE;exact gV (ret_end (aResult_of Try.func19 rfl (aResults_c rfl f1 (inCells_agg ag27 sz27 rfl) rfl)) ⟨rfl, e0⟩)
  ·rw [if_neg O]
   have hc := fun h A => hC h A false 1 (by rw [if_neg O])
   have e0 : Ext h h := Ext.refl _
   refine Runs.intro aFunc19 rfl rfl rfl rfl fun rest => ?_;apply gS;refine gR rfl ?_;refine GoR.box rfl rfl rfl rfl rfl rfl fun h0 x0 f0 => ?_;have := e0.1;replace e0 := e0.trans x0;have := f0.1;refine GoR.alloc rfl rfl rfl zt27 rfl rfl fun h1 x1 f1 => ?_;have := e0.1;have := f0.1;replace f0 := f0.ext x1;replace e0 := e0.trans x1;have := f1.1;refine gP ?_;apply gE;apply gS;refine Go.drawnE plan19_0 ?_;iterate 2 refine gQ rfl rfl (ld26 rfl f0 rfl) rfl ?_
   refine gQ rfl rfl rfl rfl ?_;refine GoE.call rfl rfl (aCF aFunc49 rfl) (hH _ (A.ext e0)) (dD 6 2 (dD 6 1 (dK 6 0 rfl))) ?_ np;rintro v2 h2 ⟨q, x2⟩;cases q;replace f1 := f1.ext x2;replace f0 := f0.ext x2;replace e0 := e0.trans x2;refine ⟨(rck (h2 := h2) rfl (ld26 rfl f0 rfl) recheck_nil), _, rfl, ?_⟩;refine GoE.call rfl rfl (aCF aFunc48 rfl) (hc _ (A.ext e0)) (dD 15 0 rfl) ?_ np;rintro v3 h3 ⟨q, x3⟩;cases q;replace f1 := f1.ext x3;replace e0 := e0.trans x3;refine ⟨recheck_nil, _, rfl, ?_⟩;refine gQ rfl rfl rfl rfl ?_;refine GoE.end rfl ?_;iterate 2 apply gS
   refine gR rfl ?_;refine gP ?_;refine gO rfl rfl (kXT rfl rfl) rfl ?_;apply gE;refine gC (b := true) rfl ?_;apply gS;refine gR rfl ?_;refine gO rfl rfl (aOp_buildArr zt27 Try.underlying27 sz3 rfl rfl) rfl ?_;refine gP ?_;refine GoR.store rfl rfl rfl rfl rfl rfl f1 rfl sz27 rfl rfl rfl fun h4 u4 => ?_;replace f1 := u4.has f1;replace e0 := e0.upd u4 (by omega);refine gP ?_;apply gE;exact gV (ret_end (aResult_of Try.func19 rfl (aResults_c rfl f1 (inCells_agg ag27 sz27 rfl) rfl)) ⟨rfl, e0⟩)
end Go.Proofs.Ytmimdgjehnhnoaa

namespace Go.Proofs.Ytmimdgjehnhnoaa
open Go Go.AbsE
set_option linter.unusedSimpArgs false
set_option maxRecDepth 100000
set_option maxHeartbeats 0
set_option linter.unusedVariables false
theorem law3 {F : FootV} {rsl hsl : AVal} {h : AH} (A : FootAt h F rsl hsl) (i : Int) (p : Pl) (d : Int) :
  Runs Try.prog 3 [.agg (F.cells rsl hsl), .int .i64 i, .agg p.cells, .int .i64 d] h (fun en h' => en = .ret (.bool true) ∧ Ext h h') := by
 have hl1 := A.rs.len
 have hl2 := A.hs.len
 rw [List.length_map] at hl1 hl2
 by_cases c : 40 < F.rs.length ∨ 40 < F.hs.length ∨ 40 < 0
 ·have hf := fun h => far_ok (F := F) (rsl := rsl) (hsl := hsl) (s := .nilslice) (n3 := 0) (h := h) hl1 hl2 rfl (decide_eq_true c)
  unfold FootV.cells Pl.cells
  unfold FootV.cells at hf
  have e0 : Ext h h := Ext.refl _
  refine Runs.intro aFunc3 rfl rfl rfl rfl fun rest => ?_;apply gS;refine gR rfl ?_;refine GoR.box rfl rfl rfl rfl rfl rfl fun h0 x0 f0 => ?_;replace e0 := e0.trans x0;refine GoR.box rfl rfl rfl rfl rfl rfl fun h1 x1 f1 => ?_;replace f0 := f0.ext x1;replace e0 := e0.trans x1;refine gP ?_;apply gE;iterate 2 apply gS
  refine gR rfl ?_;refine gO rfl rfl (ld26 rfl f0 rfl) rfl ?_;refine GoR.call rfl rfl (aCF aFunc12 rfl) (hf _) ?_ np;rintro v2 h2 ⟨q, x2⟩;cases q;refine ⟨_, rfl, ?_⟩;replace e0 := e0.trans x2;apply gE;refine gC (b := true) rfl ?_;apply gS;refine gR rfl ?_;refine GoR.call rfl rfl (aCF aFunc13 rfl) (awake_ok) ?_ np;rintro v3 h3 ⟨q, x3⟩;cases q;refine ⟨_, rfl, ?_⟩;replace e0 := e0.trans x3;refine gP ?_;apply gE;exact gW Try.func3 rfl rfl ⟨rfl, e0⟩
 ·have hf := fun h => far_ok (F := F) (rsl := rsl) (hsl := hsl) (s := .nilslice) (n3 := 0) (h := h) hl1 hl2 rfl (decide_eq_false c)
  have hb1 : F.rs.length ≤ 40 := by omega
  have hb2 : F.hs.length ≤ 40 := by omega
  have h14 := fun h A => Wet_ok (F := F) (h := h) (rsl := rsl) (hsl := hsl) A hb1 hb2 i p d
  have h15 := fun h A => Wet15_ok (F := F) (h := h) (rsl := rsl) (hsl := hsl) A hb1 hb2 i p d
  have h16 := fun h A => Can_ok (F := F) (h := h) (rsl := rsl) (hsl := hsl) A hb1 hb2 i p
  have h17 := fun h A => Can17_ok (F := F) (h := h) (rsl := rsl) (hsl := hsl) A hb1 hb2 i p
  have h18 := fun h A => Soonest_ok (F := F) (h := h) (rsl := rsl) (hsl := hsl) A hb1 hb2 i
  have h19 := fun h A => Soonest19_ok (F := F) (h := h) (rsl := rsl) (hsl := hsl) A hb1 hb2 i
  obtain ⟨⟨⟨x, y⟩, e⟩, hw⟩ : ∃ t, F.wetR i p d = t := ⟨_, rfl⟩
  obtain ⟨⟨a, b⟩, hc⟩ : ∃ t, F.canR i p = t := ⟨_, rfl⟩
  obtain ⟨⟨s, g⟩, hs⟩ : ∃ t, F.soonR i = t := ⟨_, rfl⟩
  rw [hw] at h14 h15;rw [hc] at h16 h17;rw [hs] at h18 h19
  dsimp only at h14 h15 h16 h17 h18 h19
  unfold FootV.cells at hf
  unfold FootV.cells Pl.cells at h14 h15 h16 h17 h18 h19
  unfold spC at h14 h15
  unfold FootV.cells Pl.cells
  have e0 : Ext h h := Ext.refl _
  refine Runs.intro aFunc3 rfl rfl rfl rfl fun rest => ?_;apply gS;refine gR rfl ?_;refine GoR.box rfl rfl rfl rfl rfl rfl fun h20 x20 f20 => ?_;have := e0.1;replace e0 := e0.trans x20;have := f20.1;refine GoR.box rfl rfl rfl rfl rfl rfl fun h21 x21 f21 => ?_;have := e0.1;have := f20.1;replace f20 := f20.ext x21;replace e0 := e0.trans x21;have := f21.1;refine gP ?_;apply gE;iterate 2 apply gS
  refine gR rfl ?_;refine gO rfl rfl (ld26 rfl f20 rfl) rfl ?_;refine GoR.call rfl rfl (aCF aFunc12 rfl) (hf _) ?_ np;rintro v22 h22 ⟨q, x22⟩;cases q;refine ⟨_, rfl, ?_⟩;replace f21 := f21.ext x22;replace f20 := f20.ext x22;replace e0 := e0.trans x22;apply gE;refine gC (b := false) rfl ?_;refine gD ?_;apply gS;refine gR rfl ?_;refine gO rfl rfl (ld26 rfl f20 rfl) rfl ?_;refine gP ?_;refine gO rfl rfl (ld27 rfl f21 rfl) rfl ?_;refine gP ?_;refine GoR.call rfl rfl (aCF aFunc14 rfl) (h14 _ (A.ext e0)) ?_ np;rintro v23 h23 ⟨q, x23⟩;cases q;refine ⟨_, rfl, ?_⟩;replace f21 := f21.ext x23;replace f20 := f20.ext x23;replace e0 := e0.trans x23;iterate 3 refine gP ?_
  refine GoR.alloc rfl rfl rfl zt31 rfl rfl fun h24 x24 f24 => ?_;have := e0.1;have := f21.1;have := f20.1;replace f21 := f21.ext x24;replace f20 := f20.ext x24;replace e0 := e0.trans x24;have := f24.1;refine GoR.store rfl rfl rfl rfl rfl rfl f24 rfl sz31 rfl rfl rfl fun h25 u25 => ?_;replace f24 := u25.has f24;replace f21 := f21.upd u25 (by omega);replace f20 := f20.upd u25 (by omega);replace e0 := e0.upd u25 (by omega);refine gP ?_;apply gE;apply gS;refine gR rfl ?_;refine gO rfl rfl (ld26 rfl f20 rfl) rfl ?_;refine gP ?_;refine gO rfl rfl (ld27 rfl f21 rfl) rfl ?_;refine gP ?_;refine GoR.call rfl rfl (aCF aFunc15 rfl) (h15 _ (A.ext e0)) ?_ np;rintro v26 h26 ⟨q, x26⟩;cases q;refine ⟨_, rfl, ?_⟩;replace f24 := f24.ext x26;replace f21 := f21.ext x26;replace f20 := f20.ext x26;replace e0 := e0.trans x26;iterate 3 refine gP ?_
  refine GoR.alloc rfl rfl rfl zt31 rfl rfl fun h27 x27 f27 => ?_;have := e0.1;have := f24.1;have := f21.1;have := f20.1;replace f24 := f24.ext x27;replace f21 := f21.ext x27;replace f20 := f20.ext x27;replace e0 := e0.trans x27;have := f27.1;refine GoR.store rfl rfl rfl rfl rfl rfl f27 rfl sz31 rfl rfl rfl fun h28 u28 => ?_;replace f27 := u28.has f27;replace f24 := f24.upd u28 (by omega);replace f21 := f21.upd u28 (by omega);replace f20 := f20.upd u28 (by omega);replace e0 := e0.upd u28 (by omega);refine gP ?_;apply gE;apply gS;refine gR rfl ?_;refine gO rfl rfl (ld26 rfl f20 rfl) rfl ?_;refine gP ?_;refine gO rfl rfl (ld27 rfl f21 rfl) rfl ?_;refine GoR.call rfl rfl (aCF aFunc16 rfl) (h16 _ (A.ext e0)) ?_ np;rintro v29 h29 ⟨q, x29⟩;cases q;refine ⟨_, rfl, ?_⟩;replace f27 := f27.ext x29;replace f24 := f24.ext x29;replace f21 := f21.ext x29;replace f20 := f20.ext x29;replace e0 := e0.trans x29;iterate 5 refine gP ?_
  apply gE;apply gS;refine gR rfl ?_;refine gO rfl rfl (ld26 rfl f20 rfl) rfl ?_;refine gP ?_;refine gO rfl rfl (ld27 rfl f21 rfl) rfl ?_;refine GoR.call rfl rfl (aCF aFunc17 rfl) (h17 _ (A.ext e0)) ?_ np;rintro v30 h30 ⟨q, x30⟩;cases q;refine ⟨_, rfl, ?_⟩;replace f27 := f27.ext x30;replace f24 := f24.ext x30;replace f21 := f21.ext x30;replace f20 := f20.ext x30;replace e0 := e0.trans x30;iterate 5 refine gP ?_
  apply gE;apply gS;refine gR rfl ?_;refine gO rfl rfl (ld26 rfl f20 rfl) rfl ?_;refine gP ?_;refine GoR.call rfl rfl (aCF aFunc18 rfl) (h18 _ (A.ext e0)) ?_ np;rintro v31 h31 ⟨q, x31⟩;cases q;refine ⟨_, rfl, ?_⟩;replace f27 := f27.ext x31;replace f24 := f24.ext x31;replace f21 := f21.ext x31;replace f20 := f20.ext x31;replace e0 := e0.trans x31;iterate 3 refine gP ?_
  refine GoR.alloc rfl rfl rfl zt27 rfl rfl fun h32 x32 f32 => ?_;have := e0.1;have := f27.1;have := f24.1;have := f21.1;have := f20.1;replace f27 := f27.ext x32;replace f24 := f24.ext x32;replace f21 := f21.ext x32;replace f20 := f20.ext x32;replace e0 := e0.trans x32;have := f32.1;refine GoR.store rfl rfl rfl rfl rfl rfl f32 rfl sz27 rfl rfl rfl fun h33 u33 => ?_;replace f32 := u33.has f32;replace f27 := f27.upd u33 (by omega);replace f24 := f24.upd u33 (by omega);replace f21 := f21.upd u33 (by omega);replace f20 := f20.upd u33 (by omega);replace e0 := e0.upd u33 (by omega);refine gP ?_;apply gE;apply gS;refine gR rfl ?_;refine gO rfl rfl (ld26 rfl f20 rfl) rfl ?_;refine gP ?_;refine GoR.call rfl rfl (aCF aFunc19 rfl) (h19 _ (A.ext e0)) ?_ np;rintro v34 h34 ⟨q, x34⟩;cases q;refine ⟨_, rfl, ?_⟩;replace f32 := f32.ext x34;replace f27 := f27.ext x34;replace f24 := f24.ext x34;replace f21 := f21.ext x34;replace f20 := f20.ext x34;replace e0 := e0.trans x34;iterate 3 refine gP ?_
  refine GoR.alloc rfl rfl rfl zt27 rfl rfl fun h35 x35 f35 => ?_;have := e0.1;have := f32.1;have := f27.1;have := f24.1;have := f21.1;have := f20.1;replace f32 := f32.ext x35;replace f27 := f27.ext x35;replace f24 := f24.ext x35;replace e0 := e0.trans x35;have := f35.1;refine GoR.store rfl rfl rfl rfl rfl rfl f35 rfl sz27 rfl rfl rfl fun h36 u36 => ?_;replace f35 := u36.has f35;replace f32 := f32.upd u36 (by omega);replace f27 := f27.upd u36 (by omega);replace f24 := f24.upd u36 (by omega);replace e0 := e0.upd u36 (by omega);refine gP ?_;apply gE;apply gS;refine gR rfl ?_;refine gO rfl rfl (ld31 rfl f24 rfl) rfl ?_;refine gO rfl rfl (ld31 rfl f27 rfl) rfl ?_;refine gO rfl rfl (aOp_eqlSpan spanT31 rfl rfl (r := true) (by simp)) rfl ?_;iterate 3 refine gP ?_
  refine gO rfl rfl (kET rfl rfl) rfl ?_;iterate 4 refine gP ?_
  refine gO rfl rfl (kET rfl rfl) rfl ?_;iterate 4 refine gP ?_
  refine gO rfl rfl (kET rfl rfl) rfl ?_;iterate 2 refine gP ?_
  refine gO rfl rfl (ld27 rfl f32 rfl) rfl ?_;refine gO rfl rfl (ld27 rfl f35 rfl) rfl ?_;refine gO rfl rfl (aOp_eqlArr (a := [s.a, s.b, s.c]) (b := [s.a, s.b, s.c]) (r := true) Try.underlying27 Try.underlying3 sz3 eqG27 rfl rfl rfl rfl (by simp)) rfl ?_;iterate 4 refine gP ?_
  refine gO rfl rfl (kET rfl rfl) rfl ?_;iterate 2 refine gP ?_
  refine GoR.call rfl rfl (aCF aFunc13 rfl) (awake_ok) ?_ np;rintro v37 h37 ⟨q, x37⟩;cases q;refine ⟨_, rfl, ?_⟩;replace e0 := e0.trans x37;iterate 2 refine gP ?_
  apply gE;exact gW Try.func3 rfl rfl ⟨rfl, e0⟩
end Go.Proofs.Ytmimdgjehnhnoaa

namespace Go.AbsE
open Go Go.RowKit
section
variable {P : Program}
theorem HR.openWin {e : Env} {h : AH} {W : World} (r : HR P (Base.all W) e h W) {B lo : Nat} {PRE CS junk : List Value} {el : TypeId} {fr : Nat × Nat} {cs : List AVal} (hB : W.heap[B]? = some (.cells (PRE ++ (CS ++ junk)).toArray el fr)) (hp : PRE.length = lo) (hv : ∀ e, VRs e cs CS) :
  ∃ e' h', Env.le e e' ∧ HR P (Base.all W) e' h' W ∧ Ext h h' ∧ e' h.next = some (B, 0) ∧ Has h' h.next (.win lo cs) := by
 obtain ⟨h', k⟩ := new_some h (.win lo cs)
 obtain ⟨_, x1, x2⟩ := new_ext k
 obtain ⟨n1, n2, n3⟩ := AH.get_new k
 have hle := Env.le_ext (x := (B, 0)) r.fresh
 have hlt := (Array.getElem?_eq_some_iff.1 hB).1
 refine ⟨e.ext h.next (B, 0), h', hle, ?_, x1, Env.ext_same _ _ _, x2⟩
 refine { dom := ?_, blk := ?_, inj := ?_, imm := ?_, os := r.os, tape := r.tape, output := r.output, size := r.size, old := r.old, young := r.young }
 ·intro b' x kx
  rw [Env.ext_at] at kx
  by_cases hb' : b' = h.next
  ·omega
  ·rw [if_neg hb'] at kx; have := r.dom _ _ kx; omega
 ·intro b' o' kx
  rw [n3] at kx
  by_cases hb' : b' = h.next
  ·rw [if_pos hb'] at kx
   cases kx
   subst hb'
   exact ⟨B, 0, _, Env.ext_same _ _ _, (fun q => by cases q), hB, .win (hv _) hp⟩
  ·rw [if_neg hb'] at kx
   obtain ⟨B', c', O', k1, k2, k3, k4⟩ := r.blk _ _ kx
   exact ⟨B', c', O', hle.1 _ _ k1, k2, k3, k4.mono hle⟩
 ·intro b1 b2 B1 c1 c2 o1 o2 k1 k2 hro e1 e2
  rw [n3] at k1 k2
  rw [Env.ext_at] at e1 e2
  by_cases q1 : b1 = h.next
  ·rw [if_pos q1] at k1; cases k1; cases hro
  ·rw [if_neg q1] at k1 e1
   by_cases q2 : b2 = h.next
   ·rw [if_pos q2] at e2
    cases e2
    obtain ⟨B', c', O', j1, j2, _, _⟩ := r.blk _ _ k1
    rw [e1] at j1
    cases j1
    exact absurd hlt (j2 hro)
   ·rw [if_neg q2] at k2 e2
    exact r.inj _ _ _ _ _ _ _ k1 k2 hro e1 e2
 ·intro B1 CS' hi
  obtain ⟨i1, i2⟩ := r.imm B1 CS' hi
  refine ⟨i1, fun b' o' c' kx hro ke => ?_⟩
  rw [n3] at kx
  rw [Env.ext_at] at ke
  by_cases q : b' = h.next
  ·rw [if_pos q] at kx; cases kx; cases hro
  ·rw [if_neg q] at kx ke; exact i2 b' o' c' kx hro ke
end
end Go.AbsE

namespace Go.AbsE
open Go Go.RowKit
section
variable {P : Program}
theorem VRs.kinds {K : Type} {va : K → AVal} {vv : K → Value} (hvr : ∀ e x, VR e (va x) (vv x)) {e : Env} : ∀ l : List K, VRs e (l.map fun x => va x) (l.map fun x => vv x) := by
 intro l
 induction l with
 | nil => exact .nil
 | cons a l ih => exact .cons (hvr _ _) ih
theorem rowsG_eq {K : Type} {vv : K → Value} {C : List Value} {off sz : Nat} : ∀ (len : Nat) (f : Nat → List K), (∀ i, i < len → (f i).length = sz ∧ ∀ k n, (f i)[k]? = some n → C[off + i * sz + k]? = some (vv n)) →
  (C.drop off).take (len * sz) = (((List.range len).map f).flatten).map fun x => vv x := by
 intro len
 induction len with
 | zero => intro f _; simp
 | succ len ih =>
  intro f hf
  have h1 := ih f fun i hi => hf i (by omega)
  obtain ⟨l1, l2⟩ := hf len (by omega)
  rw [Nat.add_mul, Nat.one_mul, List.take_add, h1, List.range_succ, List.map_append, List.flatten_append, List.map_append]
  congr 1
  simp only [List.map_cons, List.map_nil, List.flatten_cons, List.flatten_nil, List.append_nil]
  rw [List.drop_drop]
  refine List.ext_getElem? fun k => ?_
  rw [List.getElem?_take, List.getElem?_drop, List.getElem?_map]
  by_cases hk : k < sz
  ·rw [if_pos hk]
   obtain ⟨n, hn⟩ : ∃ n, (f len)[k]? = some n := ⟨(f len)[k]'(by omega), by simp⟩
   rw [hn]
   exact l2 k n hn
  ·rw [if_neg hk]
   have : (f len)[k]? = none := by simp; omega
   rw [this]
   rfl
end
end Go.AbsE

namespace Go.AbsE
open Go Go.RowKit
section
variable {P : Program}
theorem HR.openRowsC {K : Type} (va : K → AVal) (vv : K → Value) (hvr : ∀ e x, VR e (va x) (vv x)) {e : Env} {h : AH} {W : World} (r : HR P (Base.all W) e h W) {a : Addr} {len cap sz : Nat} {C : Array Value} {el : TypeId} {fr : Nat × Nat} (hB : W.heap[a.block]? = some (.cells C el fr)) (hspot : a.spot = none) (f : Nat → List K)
  (hf : ∀ i, i < len → (f i).length = sz ∧ ∀ k n, (f i)[k]? = some n → W.cell? (a.add (i * sz + k)) = some (vv n)) :
  ∃ e' h' s, Env.le e e' ∧ HR P (Base.all W) e' h' W ∧ Ext h h' ∧ VR e' s (.slice (some a) len cap) ∧ SliceOf h' sz s (((List.range len).map f).map fun l => l.map fun x => va x) ∧ sameA s s = true ∧ ∃ b o, s = .slice b o len cap := by
 obtain ⟨B, off, spot⟩ := a
 dsimp only at hB hspot
 subst hspot
 have hcell : ∀ i, i < len → (f i).length = sz ∧ ∀ k n, (f i)[k]? = some n → C.toList[off + i * sz + k]? = some (vv n) := fun i hi => by
  obtain ⟨h1, h2⟩ := hf i hi
  refine ⟨h1, fun k n hn => ?_⟩
  have := h2 k n hn
  have e1 := addr_add B off (i * sz + k)
  rw [e1] at this
  unfold World.cell? at this
  rw [hB] at this
  simp only [Option.isSome_none, Bool.false_eq_true, if_false] at this
  rw [Array.getElem?_toList, Nat.add_assoc]
  exact this
 have hrows := rowsG_eq len f hcell
 let R := (List.range len).map f
 have hRl : ∀ l, l ∈ R → l.length = sz := fun l hl => by
  obtain ⟨i, hi, rfl⟩ := List.mem_map.1 hl
  exact (hf i (List.mem_range.1 hi)).1
 have hRlen : R.length = len := by simp [R]
 have hlen : (C.toList.drop off).take (len * sz) = (R.flatten).map fun x => vv x := hrows
 have hfl : R.flatten.length = len * sz := by
  have : ∀ {L : List (List K)}, (∀ l, l ∈ L → l.length = sz) → L.flatten.length = L.length * sz := by
   intro L
   induction L with
   | nil => intro _; simp
   | cons a L ih => intro h; simp only [List.flatten_cons, List.length_append, h a (by simp), ih fun l q => h l (by simp [q]), List.length_cons, Nat.add_mul]; omega
  rw [this hRl, hRlen]
 by_cases h0 : len * sz = 0
 ·-- nothing of it is read
  obtain ⟨e', h', k1, k2, k3, k4, k5⟩ := r.openWin (B := B) (lo := 0) (PRE := []) (CS := []) (junk := C.toList) (el := el) (fr := fr) (cs := []) (by simpa using hB) rfl (fun _ => .nil)
  refine ⟨e', h', .slice h.next off len cap, k1, k2, k3, .slice k4, .mk rfl rfl k5.1 (by simp) (fun l hl => ?_) ?_, by simp [sameA], _, _, rfl⟩
  ·obtain ⟨x, hx, rfl⟩ := List.mem_map.1 hl
   rw [List.length_map]
   exact hRl x hx
  ·have hnil : R.flatten = [] := List.eq_nil_of_length_eq_zero (by omega)
   unfold loadCells
   rw [k5.2]
   have e1 : ((R.map fun l => l.map fun x => va x).length * sz) = 0 := by rw [List.length_map, hRlen]; exact h0
   have e2 : (R.map fun l => l.map fun x => va x).flatten = [] := by rw [← List.map_flatten, hnil]; rfl
   show cond (Nat.ble 0 off) (slice? [] (off - 0) ((R.map fun l => l.map fun x => va x).length * sz)) none = some _
   rw [e1, e2, show Nat.ble 0 off = true from Nat.ble_eq_true_of_le (Nat.zero_le _)]
   simp [slice?]
 ·have hle : off + len * sz ≤ C.toList.length := by
   have : ((C.toList.drop off).take (len * sz)).length = len * sz := by rw [hlen, List.length_map, hfl]
   rw [List.length_take, List.length_drop] at this
   omega
  have hC : C = (C.toList.take off ++ ((R.flatten.map fun x => vv x) ++ C.toList.drop (off + len * sz))).toArray := by
   rw [← hlen]
   have : C.toList.take off ++ ((C.toList.drop off).take (len * sz) ++ C.toList.drop (off + len * sz)) = C.toList := by
    rw [← List.drop_drop, List.take_append_drop, List.take_append_drop]
   rw [this]
  obtain ⟨e', h', k1, k2, k3, k4, k5⟩ := r.openWin (B := B) (lo := off) (PRE := C.toList.take off) (CS := R.flatten.map fun x => vv x) (junk := C.toList.drop (off + len * sz)) (el := el) (fr := fr) (cs := R.flatten.map fun x => va x) (by rw [← hC]; exact hB) (by rw [List.length_take]; omega) (fun _ => VRs.kinds hvr _)
  refine ⟨e', h', .slice h.next off len cap, k1, k2, k3, .slice k4, .mk rfl rfl k5.1 (by simp) (fun l hl => ?_) ?_, by simp [sameA], _, _, rfl⟩
  ·obtain ⟨x, hx, rfl⟩ := List.mem_map.1 hl
   rw [List.length_map]
   exact hRl x hx
  ·unfold loadCells
   rw [k5.2]
   have e1 : ((R.map fun l => l.map fun x => va x).length * sz) = len * sz := by rw [List.length_map, hRlen]
   have e2 : (R.map fun l => l.map fun x => va x).flatten = R.flatten.map fun x => va x := by rw [← List.map_flatten]
   show cond (Nat.ble off off) (slice? (R.flatten.map fun x => va x) (off - off) ((R.map fun l => l.map fun x => va x).length * sz)) none = some _
   rw [e1, e2, show Nat.ble off off = true from Nat.ble_eq_true_of_le (Nat.le_refl _), Nat.sub_self]
   exact slice_all (by rw [List.length_map, hfl])
end
end Go.AbsE

namespace Go.Proofs.Ytmimdgjehnhnoaa
open Go Go.AbsE Go.ChangeShapes Go.WideShapes Go.ChangeAt Go.RowKit
set_option linter.unusedSimpArgs false
set_option maxRecDepth 100000
set_option linter.unusedVariables false
theorem cells26 : Try.prog.cellsOf 26 = 9 := by kernel_rfl
theorem cells3 : Try.prog.cellsOf 3 = 1 := by kernel_rfl
theorem cells72 : Try.prog.cellsOf 72 = 3 := by kernel_rfl
theorem cells31 : Try.prog.cellsOf 31 = 2 := by kernel_rfl
theorem cells22 : Try.prog.cellsOf 22 = 1 := by kernel_rfl
theorem cells23 : Try.prog.cellsOf 23 = 3 := by kernel_rfl
theorem cells24 : Try.prog.cellsOf 24 = 1 := by kernel_rfl
theorem cells27 : Try.prog.cellsOf 27 = 3 := by kernel_rfl
theorem ctypes26 : Try.prog.cellTypes Try.prog.depth 26 = some [22, 3, 3, 3, 3, 3, 3, 3, 24] := by kernel_rfl
theorem laidOut : laidOutB Try.prog = true := by kernel_rfl
def inI64 (n : Int) : Prop := -9223372036854775808 ≤ n ∧ n ≤ 9223372036854775807
theorem wf_in {n : Int} (h : (Lit.int .i64 n).wf = true) : inI64 n := by
 simp only [Lit.wf, Bool.and_eq_true, decide_eq_true_eq] at h
 have h1 : IntKind.i64.min = -9223372036854775808 := by decide
 have h2 : IntKind.i64.max = 9223372036854775807 := by decide
 rw [h1, h2] at h
 constructor <;> omega
variable {H : Type} {enc : TypeId × Value → H} {W : World} {base : Nat} {spare : Nat → Bool} {held : Bool}
theorem int_row {n : Nat} {cs : List Value} {x : DataW H × List MemPlace} (h : DataW.trod enc Try.prog W base spare held n 3 cs = some x) : ∃ a : Int, cs = [.int .i64 a] ∧ inI64 a := by
 obtain ⟨a, h1, _, h3⟩ := DataW.trod_int Try.underlying3 h
 exact ⟨a, h1, wf_in h3⟩
theorem span_row {n : Nat} {cs : List Value} {x : DataW H × List MemPlace} (h : DataW.trod enc Try.prog W base spare held n 31 cs = some x) : ∃ a b : Int, cs = [.int .i64 a, .int .i64 b] := by
 obtain ⟨y0, y1, k, _, hl, h0, h1⟩ := ChangeShapes.trod_struct2 Try.underlying31 h
 rw [cells31] at hl
 dsimp only at h0 h1
 rw [cells3] at h0 h1
 obtain ⟨a, ha, _⟩ := int_row h0
 obtain ⟨b, hb, _⟩ := int_row h1
 match cs, hl with
 | [c0, c1], _ =>
  simp at ha hb
  exact ⟨a, b, by rw [ha, hb]⟩
theorem rain_row {n : Nat} {cs : List Value} {x : DataW H × List MemPlace} (h : DataW.trod enc Try.prog W base spare held n 31 cs = some x) : ∃ r : List Int, r.length = 2 ∧ cs = r.map fun x => Value.int .i64 x := by
 obtain ⟨a, b, q⟩ := span_row h
 exact ⟨[a, b], rfl, q⟩
theorem heap_row {n : Nat} {cs : List Value} {x : DataW H × List MemPlace} (h : DataW.trod enc Try.prog W base spare held n 72 cs = some x) : ∃ r : List Int, r.length = 3 ∧ cs = r.map fun x => Value.int .i64 x := by
 obtain ⟨y0, y1, k, _, hl, h0, h1⟩ := ChangeShapes.trod_struct2 Try.underlying72 h
 rw [cells72] at hl
 dsimp only at h0 h1
 rw [cells31] at h0
 rw [cells3] at h1
 obtain ⟨a, b, ha⟩ := span_row h0
 obtain ⟨c, hc, _⟩ := int_row h1
 match cs, hl with
 | [c0, c1, c2], _ =>
  simp at ha hc
  exact ⟨[a, b, c], rfl, by rw [ha.1, ha.2, hc]; rfl⟩
theorem slice_okw {t el : TypeId} {a : Addr} {len cap : Nat} {bs : Nat} (ht : Try.prog.underlying t = some (.slice el)) (h : Cell.okWide Try.prog W .any bs t (.slice (some a) len cap)) : a.spot = none ∧ ∃ C e fr, W.heap[a.block]? = some (.cells C e fr) := by
 unfold Cell.okWide at h
 rw [ht] at h
 dsimp only at h
 unfold Cell.ok at h
 rw [ht] at h
 dsimp only at h
 obtain ⟨_, _, _, h2, row, n, h3, _⟩ := h
 refine ⟨h2, ?_⟩
 unfold World.shape? at h3
 split at h3
 ·rename_i c e fr hq
  exact ⟨c, e, fr, hq⟩
 ·cases h3
theorem rows_of {t el : TypeId} {sz fuel : Nat} {c : Value} {y : DataW H × List MemPlace} {bs : Nat} (ht : Try.prog.underlying t = some (.slice el)) (hsz : Try.prog.cellsOf el = sz)
  (hrow : ∀ {n : Nat} {cs : List Value} {x : DataW H × List MemPlace}, DataW.trod enc Try.prog W 0 (fun _ => true) true n el cs = some x → ∃ r : List Int, r.length = sz ∧ cs = r.map fun x => Value.int .i64 x)
  (h : DataW.trod enc Try.prog W 0 (fun _ => true) true fuel t [c] = some y) (hok : Cell.okWide Try.prog W .any bs t c) {e : Env} {hh : AH} (r : HR Try.prog (Base.all W) e hh W) :
  ∃ e' h' s, ∃ R : List (List Int), Env.le e e' ∧ HR Try.prog (Base.all W) e' h' W ∧ Ext hh h' ∧ VR e' s c ∧ (∀ l, l ∈ R → l.length = sz) ∧ SliceOf h' sz s (R.map fun l => l.map fun x => AVal.int .i64 x) ∧ Cut Try.prog h' sz s R.length := by
 rcases Deep.open_slice ht h with ⟨hcs, _⟩ | ⟨a, len, cap, m, n, D, Pl, hcs, _, hl, _, hmm, _, hx⟩
 ·simp at hcs
  subst hcs
  exact ⟨e, hh, .nilslice, [], Env.le_refl e, r, Ext.refl _, .nilslice, (fun _ q => by cases q), .nil, .nil⟩
 ·simp at hcs
  subst hcs
  obtain ⟨hs, C, el', fr, hB⟩ := slice_okw ht hok
  have hm : m = cap := by simpa using hmm
  have each : ∀ i, ∃ rr : List Int, i < len → rr.length = sz ∧ ∀ k n, rr[k]? = some n → W.cell? (a.add (i * sz + k)) = some (.int .i64 n) := by
   intro i
   by_cases hi : i < len
   ·obtain ⟨cs', h1, h2⟩ := hx i (by omega)
    obtain ⟨rr, hr1, hr2⟩ := hrow h2
    rw [hsz] at h1
    obtain ⟨_, hlen, hc⟩ := World.cells?_some h1
    refine ⟨rr, fun _ => ⟨hr1, fun k n hk => ?_⟩⟩
    have hkl := (List.getElem?_eq_some_iff.1 hk).1
    have := hc k (by omega)
    obtain ⟨B, off, spot⟩ := a
    dsimp only at hs
    subst hs
    rw [addr_add, addr_add] at this
    rw [addr_add, ← Nat.add_assoc, this, hr2, List.getElem?_map, hk]
    rfl
   ·exact ⟨[], fun q => absurd q hi⟩
  obtain ⟨f, hf⟩ := Classical.axiomOfChoice each
  obtain ⟨e', h', s, k1, k2, k3, k4, k5, _, b, o, rfl⟩ := r.openRowsC (fun x => AVal.int .i64 x) (fun x => Value.int .i64 x) (fun _ _ => .int _ _) (cap := cap) (len := len) (sz := sz) hB hs f hf
  exact ⟨e', h', _, (List.range len).map f, k1, k2, k3, k4, fun l hl => by
   obtain ⟨i, hi, rfl⟩ := List.mem_map.1 hl
   exact (hf i (List.mem_range.1 hi)).1, k5, by rw [List.length_map, List.length_range]; exact .sl hl⟩
def toH : List Int → HF
 | [a, b, c] => ⟨a, b, c⟩
 | _ => ⟨0, 0, 0⟩
def toR : List Int → Int × Int
 | [a, b] => (a, b)
 | _ => (0, 0)
theorem hs_eq {R : List (List Int)} (h : ∀ l, l ∈ R → l.length = 3) : (R.map fun l => l.map fun x => AVal.int .i64 x) = (R.map toH).map HF.cells := by
 rw [List.map_map]
 refine List.map_congr_left fun l hl => ?_
 match l, h l hl with
 | [a, b, c], _ => rfl
theorem rs_eq {R : List (List Int)} (h : ∀ l, l ∈ R → l.length = 2) : (R.map fun l => l.map fun x => AVal.int .i64 x) = (R.map toR).map spC := by
 rw [List.map_map]
 refine List.map_congr_left fun l hl => ?_
 match l, h l hl with
 | [a, b], _ => rfl
theorem array9 {α : Type} {cs : Array α} (h : cs.size = 9) : ∃ c0 c1 c2 c3 c4 c5 c6 c7 c8, cs = #[c0, c1, c2, c3, c4, c5, c6, c7, c8] := by
 obtain ⟨l⟩ := cs
 match l, h with
 | [c0, c1, c2, c3, c4, c5, c6, c7, c8], _ => exact ⟨c0, c1, c2, c3, c4, c5, c6, c7, c8, rfl⟩
theorem list5 {α : Type} {l : List α} (h : l.length = 5) : ∃ c0 c1 c2 c3 c4, l = [c0, c1, c2, c3, c4] := by
 match l, h with
 | [c0, c1, c2, c3, c4], _ => exact ⟨c0, c1, c2, c3, c4, rfl⟩
theorem foot_of {bs : Nat} {v : Value} {d : DataW H} {p : List MemPlace} (hv : Value.okWide Try.prog W .any bs 26 v) (h : DataW.Trod enc Try.prog W 0 (fun _ => true) true 26 v d p) {e : Env} {hh : AH} (r : HR Try.prog (Base.all W) e hh W) :
  ∃ e' h' F rsl hsl, Env.le e e' ∧ HR Try.prog (Base.all W) e' h' W ∧ Ext hh h' ∧ VR e' (.agg (FootV.cells F rsl hsl)) v ∧ FootAt h' F rsl hsl := by
 have hv2 := hv
 obtain ⟨cs, rfl, hsz⟩ := okWide_struct Try.underlying26 hv
 obtain ⟨c0, c1, c2, c3, c4, c5, c6, c7, c8, rfl⟩ := array9 (hsz.trans cells26)
 obtain ⟨fuel, hf⟩ := h
 obtain ⟨xs, n, _, _, hl, hlen, hfl⟩ := DataW.trod_struct Try.underlying26 hf
 obtain ⟨y0, y1, y2, y3, y4, rfl⟩ := list5 hlen
 have t0 : DataW.trod enc Try.prog W 0 (fun _ => true) true n 22 [c0] = some y0 := by
  have this : DataW.trod enc Try.prog W 0 (fun _ => true) true n 22 (([c0, c1, c2, c3, c4, c5, c6, c7, c8].drop 0).take (Try.prog.cellsOf 22)) = [y0, y1, y2, y3, y4][0]? := hfl 0 _ rfl
  rw [cells22] at this
  exact this
 have t1 : DataW.trod enc Try.prog W 0 (fun _ => true) true n 3 [c1] = some y1 := by
  have this : DataW.trod enc Try.prog W 0 (fun _ => true) true n 3 (([c0, c1, c2, c3, c4, c5, c6, c7, c8].drop 1).take (Try.prog.cellsOf 3)) = [y0, y1, y2, y3, y4][1]? := hfl 1 _ rfl
  rw [cells3] at this
  exact this
 have t2 : DataW.trod enc Try.prog W 0 (fun _ => true) true n 23 [c2, c3, c4] = some y2 := by
  have this : DataW.trod enc Try.prog W 0 (fun _ => true) true n 23 (([c0, c1, c2, c3, c4, c5, c6, c7, c8].drop 2).take (Try.prog.cellsOf 23)) = [y0, y1, y2, y3, y4][2]? := hfl 2 _ rfl
  rw [cells23] at this
  exact this
 have t3 : DataW.trod enc Try.prog W 0 (fun _ => true) true n 23 [c5, c6, c7] = some y3 := by
  have this : DataW.trod enc Try.prog W 0 (fun _ => true) true n 23 (([c0, c1, c2, c3, c4, c5, c6, c7, c8].drop 5).take (Try.prog.cellsOf 23)) = [y0, y1, y2, y3, y4][3]? := hfl 3 _ rfl
  rw [cells23] at this
  exact this
 have t4 : DataW.trod enc Try.prog W 0 (fun _ => true) true n 24 [c8] = some y4 := by
  have this : DataW.trod enc Try.prog W 0 (fun _ => true) true n 24 (([c0, c1, c2, c3, c4, c5, c6, c7, c8].drop 8).take (Try.prog.cellsOf 24)) = [y0, y1, y2, y3, y4][4]? := hfl 4 _ rfl
  rw [cells24] at this
  exact this
 obtain ⟨z0, z1, z2, n2, _, g0, g1, g2⟩ := trod_array3 Try.underlying23 cells3 t2
 obtain ⟨da, e2, _⟩ := int_row g0
 obtain ⟨db, e3, _⟩ := int_row g1
 obtain ⟨dc, e4, _⟩ := int_row g2
 obtain ⟨z3, z4, z5, n3, _, g3, g4, g5⟩ := trod_array3 Try.underlying23 cells3 t3
 obtain ⟨dd, e5, _⟩ := int_row g3
 obtain ⟨de, e6, _⟩ := int_row g4
 obtain ⟨df, e7, _⟩ := int_row g5
 obtain ⟨men, e1, _⟩ := int_row t1
 simp at e1 e2 e3 e4 e5 e6 e7
 subst e1 e2 e3 e4 e5 e6 e7
 unfold Value.okWide at hv2
 rw [Try.underlying26] at hv2
 obtain ⟨cs, hcs, _, ts, hts, _, hrow⟩ := hv2
 injection hcs with hcs
 subst hcs
 rw [ctypes26] at hts
 cases hts
 obtain ⟨u0, hu0, ok0⟩ := hrow 0 c0 rfl
 obtain ⟨u8, hu8, ok8⟩ := hrow 8 c8 rfl
 cases hu0
 cases hu8
 obtain ⟨ea, ha, s0, R0, a1, a2, a3, a4, a5, a6, a7⟩ := rows_of Try.underlying22 cells31 rain_row t0 ok0 r
 obtain ⟨eb, hb, s1, R1, b1, b2, b3, b4, b5, b6, b7⟩ := rows_of Try.underlying24 cells72 heap_row t4 ok8 a2
 rw [rs_eq a5] at a6
 rw [hs_eq b5] at b6
 refine ⟨eb, hb, ⟨R0.map toR, men, da, db, dc, dd, de, df, R1.map toH⟩, s0, s1, Env.le_trans a1 b1, b2, a3.trans b3, ?_, ⟨a6.ext b3, b6, by show Cut _ _ _ _ (R1.map toH).length; rw [List.length_map]; exact b7⟩⟩
 exact .agg (CS := [_, _, _, _, _, _, _, _, _]) (.cons (a4.mono b1) (.cons (.int _ _) (.cons (.int _ _) (.cons (.int _ _) (.cons (.int _ _) (.cons (.int _ _) (.cons (.int _ _) (.cons (.int _ _) (.cons b4 .nil)))))))))
end Go.Proofs.Ytmimdgjehnhnoaa

namespace Go.Proofs.Ytmimdgjehnhnoaa
open Go Go.AbsE Go.ChangeShapes Go.WideShapes Go.ChangeAt Go.RowKit
set_option linter.unusedSimpArgs false
set_option maxRecDepth 100000
set_option linter.unusedVariables false
section
variable {H : Type} {enc : TypeId × Value → H} {W : World} {base : Nat} {spare : Nat → Bool} {held : Bool}
end
end Go.Proofs.Ytmimdgjehnhnoaa

namespace Go.Proofs.Ytmimdgjehnhnoaa
open Go Go.AbsE Go.ChangeShapes Go.WideShapes Go.ChangeAt Go.RowKit
set_option linter.unusedSimpArgs false
set_option maxRecDepth 100000
set_option linter.unusedVariables false
section
variable {H : Type} {enc : TypeId × Value → H} {W : World} {base : Nat} {spare : Nat → Bool} {held : Bool}
theorem array3 {α : Type} {cs : Array α} (h : cs.size = 3) : ∃ c0 c1 c2, cs = #[c0, c1, c2] := by
 obtain ⟨l⟩ := cs
 match l, h with
 | [a, b, c], _ => exact ⟨a, b, c, rfl⟩
theorem plan_of {bs : Nat} {v : Value} {d : DataW H} {p : List MemPlace} (hv : Value.okWide Try.prog W .any bs 27 v) (h : DataW.Trod enc Try.prog W 0 (fun _ => true) true 27 v d p) : ∃ q : Pl, v = .agg #[.int .i64 q.a, .int .i64 q.b, .int .i64 q.c] := by
 unfold Value.okWide at hv
 rw [Try.underlying27] at hv
 obtain ⟨cs, rfl, hsz, hrest⟩ := hv
 obtain ⟨c0, c1, c2, rfl⟩ := array3 (hsz.trans cells27)
 obtain ⟨fuel, hf⟩ := h
 obtain ⟨z0, z1, z2, n2, _, g0, g1, g2⟩ := trod_array3 Try.underlying27 cells3 hf
 obtain ⟨da, e2, _⟩ := int_row g0
 obtain ⟨db, e3, _⟩ := int_row g1
 obtain ⟨dc, e4, _⟩ := int_row g2
 simp at e2 e3 e4
 subst e2 e3 e4
 exact ⟨⟨da, db, dc⟩, rfl⟩
end
end Go.Proofs.Ytmimdgjehnhnoaa
