import Derived.Test.YtobhkdgcciolmaaGreatMAP
import Derived.Test.YtobhkdgcciolmaaGreatMAI
import Derived.Test.YtobhkdgcciolmaaGreatMAF
namespace Go.Proofs.YtobhkdgcciolmaaGreat
open Go Go.AbsE
set_option linter.unusedSimpArgs false
set_option maxRecDepth 100000
set_option maxHeartbeats 0
set_option linter.unusedVariables false
theorem Built_ok {C : ClampV} {p e : AVal} {h : AH} (A : ClampAt h C p e) (B : ClampB C) (a : Int) :
  Runs Tryz.prog 13 [.agg (C.cells p e), .int .i64 a] h (fun en h' => en = .ret (.tuple [.agg (spC (C.builtR a).1), .int .i64 (C.builtR a).2]) ∧ Ext h h') := by
 by_cases O : C.Ok
 ·have hB := fun {h' : AH} {gp ge : AVal} {b0 br : Nat} (A' : YardAt h' C gp ge) => builtB0_ok O (gp := gp) (ge := ge) (a := a) (h := h') (b0 := b0) (br := br) A'
  unfold ClampV.builtR
  rw [ClampV.ok_yes O]
  obtain ⟨RES, hR⟩ : ∃ RES, C.clampQ a (C.tr (C.first a.toNat) zSp) zSp = RES := ⟨_, rfl⟩
  rw [hR] at hB ⊢
  obtain ⟨⟨r1, r2⟩, c⟩ := RES
  dsimp only at hB ⊢
  have hsm := A.same
  unfold ClampV.cells at hsm ⊢
  try unfold spC at *
  have e0 : Ext h h := Ext.refl _
  refine Runs.intro aFunc13 rfl rfl rfl rfl fun rest => ?_;apply gS;refine gR rfl ?_;refine GoR.box rfl rfl rfl rfl rfl rfl fun h0 x0 f0 => ?_;have := e0.1;replace e0 := e0.trans x0;have := f0.1;refine GoR.box rfl rfl rfl rfl rfl rfl fun h1 x1 f1 => ?_;have := e0.1;have := f0.1;replace f0 := f0.ext x1;replace e0 := e0.trans x1;have := f1.1;refine GoR.alloc rfl rfl rfl zt24 rfl rfl fun h2 x2 f2 => ?_;have := e0.1;have := f1.1;have := f0.1;replace f1 := f1.ext x2;replace f0 := f0.ext x2;replace e0 := e0.trans x2;have := f2.1;refine gP ?_;apply gE;apply gS;refine gR rfl ?_;refine gO rfl rfl (ld27 rfl f0 rfl) rfl ?_;refine gP ?_;refine GoR.call rfl rfl (aCF aFunc45 rfl) (attempt_one O p e _ (A.ext e0) 46 _ aFunc46 _ (by simp [sameA, sameAs, eqI_eq]) h1.next (by omega) [.int .i64 r1, .int .i64 r2] 24 c fun h' gp ge e A' => hB A' (f1.ext e) (f2.ext e) (by omega)) ?_ np;rintro v9 h9 ⟨q, y9, f9⟩;cases q;refine ⟨_, rfl, ?_⟩
  have z9 := y9.low e0 (fun b q => by omega)
  clear e0 y9 f2
  have e0 := z9
  refine gP ?_;apply gE;apply gS;refine gR rfl ?_;refine gO rfl rfl (ld24 rfl f9 rfl) rfl ?_;refine gP ?_;refine GoR.store rfl rfl rfl rfl rfl rfl f9 rfl sz24 rfl rfl rfl fun h10 u10 => ?_;replace f9 := u10.has f9;replace e0 := e0.upd u10 (by omega);refine gP ?_;apply gE;exact gV (ret_end (aResult_of Tryz.func13 rfl (aResults_c rfl f9 (inCells_agg ag24 sz24 rfl) rfl)) ⟨rfl, e0⟩)
 ·have hr : C.builtR a = (zSp, 1) := ClampV.ok_no O
  rw [hr]
  have hbd := fun h A => attempt_bad O B p e h A 46
  try unfold zSp at *
  unfold ClampV.cells at *
  try unfold spC at *
  have e0 : Ext h h := Ext.refl _
  refine Runs.intro aFunc13 rfl rfl rfl rfl fun rest => ?_;apply gS;refine gR rfl ?_;refine GoR.box rfl rfl rfl rfl rfl rfl fun h0 x0 f0 => ?_;have := e0.1;replace e0 := e0.trans x0;have := f0.1;refine GoR.box rfl rfl rfl rfl rfl rfl fun h1 x1 f1 => ?_;have := e0.1;have := f0.1;replace f0 := f0.ext x1;replace e0 := e0.trans x1;have := f1.1;refine GoR.alloc rfl rfl rfl zt24 rfl rfl fun h2 x2 f2 => ?_;have := e0.1;have := f1.1;have := f0.1;replace f0 := f0.ext x2;replace e0 := e0.trans x2;have := f2.1;refine gP ?_;apply gE;apply gS;refine gR rfl ?_;refine gO rfl rfl (ld27 rfl f0 rfl) rfl ?_;refine gP ?_;refine GoR.call rfl rfl (aCF aFunc45 rfl) (hbd _ (A.ext e0) _) ?_ np;rintro v3 h3 ⟨q, x3⟩;cases q;refine ⟨_, rfl, ?_⟩;replace f2 := f2.ext x3;replace e0 := e0.trans x3;refine gP ?_;apply gE;apply gS;refine gR rfl ?_;refine gO rfl rfl (ld24 rfl f2 rfl) rfl ?_;refine gP ?_;refine GoR.store rfl rfl rfl rfl rfl rfl f2 rfl sz24 rfl rfl rfl fun h4 u4 => ?_;replace f2 := u4.has f2;replace e0 := e0.upd u4 (by omega);refine gP ?_;apply gE;exact gV (ret_end (aResult_of Tryz.func13 rfl (aResults_c rfl f2 (inCells_agg ag24 sz24 rfl) rfl)) ⟨rfl, e0⟩)
theorem Has_ok {C : ClampV} {p e : AVal} {h : AH} (A : ClampAt h C p e) (B : ClampB C) (a : Int) :
  Runs Tryz.prog 15 [.agg (C.cells p e), .int .i64 a] h (fun en h' => en = .ret (.tuple [.agg (spC (C.hasR a).1), .int .i64 (C.hasR a).2]) ∧ Ext h h') := by
 by_cases O : C.Ok
 ·have hB := fun {h' : AH} {gp ge : AVal} {b0 br : Nat} (A' : YardAt h' C gp ge) => hasB0_ok O (gp := gp) (ge := ge) (a := a) (h := h') (b0 := b0) (br := br) A'
  unfold ClampV.hasR
  rw [ClampV.ok_yes O]
  obtain ⟨RES, hR⟩ : ∃ RES, C.clampQ a (C.tr (C.left a.toNat) zSp) zSp = RES := ⟨_, rfl⟩
  rw [hR] at hB ⊢
  obtain ⟨⟨r1, r2⟩, c⟩ := RES
  dsimp only at hB ⊢
  have hsm := A.same
  unfold ClampV.cells at hsm ⊢
  try unfold spC at *
  have e0 : Ext h h := Ext.refl _
  refine Runs.intro aFunc15 rfl rfl rfl rfl fun rest => ?_;apply gS;refine gR rfl ?_;refine GoR.box rfl rfl rfl rfl rfl rfl fun h0 x0 f0 => ?_;have := e0.1;replace e0 := e0.trans x0;have := f0.1;refine GoR.box rfl rfl rfl rfl rfl rfl fun h1 x1 f1 => ?_;have := e0.1;have := f0.1;replace f0 := f0.ext x1;replace e0 := e0.trans x1;have := f1.1;refine GoR.alloc rfl rfl rfl zt24 rfl rfl fun h2 x2 f2 => ?_;have := e0.1;have := f1.1;have := f0.1;replace f1 := f1.ext x2;replace f0 := f0.ext x2;replace e0 := e0.trans x2;have := f2.1;refine gP ?_;apply gE;apply gS;refine gR rfl ?_;refine gO rfl rfl (ld27 rfl f0 rfl) rfl ?_;refine gP ?_;refine GoR.call rfl rfl (aCF aFunc45 rfl) (attempt_one O p e _ (A.ext e0) 53 _ aFunc53 _ (by simp [sameA, sameAs, eqI_eq]) h1.next (by omega) [.int .i64 r1, .int .i64 r2] 24 c fun h' gp ge e A' => hB A' (f1.ext e) (f2.ext e) (by omega)) ?_ np;rintro v9 h9 ⟨q, y9, f9⟩;cases q;refine ⟨_, rfl, ?_⟩
  have z9 := y9.low e0 (fun b q => by omega)
  clear e0 y9 f2
  have e0 := z9
  refine gP ?_;apply gE;apply gS;refine gR rfl ?_;refine gO rfl rfl (ld24 rfl f9 rfl) rfl ?_;refine gP ?_;refine GoR.store rfl rfl rfl rfl rfl rfl f9 rfl sz24 rfl rfl rfl fun h10 u10 => ?_;replace f9 := u10.has f9;replace e0 := e0.upd u10 (by omega);refine gP ?_;apply gE;exact gV (ret_end (aResult_of Tryz.func15 rfl (aResults_c rfl f9 (inCells_agg ag24 sz24 rfl) rfl)) ⟨rfl, e0⟩)
 ·have hr : C.hasR a = (zSp, 1) := ClampV.ok_no O
  rw [hr]
  have hbd := fun h A => attempt_bad O B p e h A 53
  try unfold zSp at *
  unfold ClampV.cells at *
  try unfold spC at *
  have e0 : Ext h h := Ext.refl _
  refine Runs.intro aFunc15 rfl rfl rfl rfl fun rest => ?_;apply gS;refine gR rfl ?_;refine GoR.box rfl rfl rfl rfl rfl rfl fun h0 x0 f0 => ?_;have := e0.1;replace e0 := e0.trans x0;have := f0.1;refine GoR.box rfl rfl rfl rfl rfl rfl fun h1 x1 f1 => ?_;have := e0.1;have := f0.1;replace f0 := f0.ext x1;replace e0 := e0.trans x1;have := f1.1;refine GoR.alloc rfl rfl rfl zt24 rfl rfl fun h2 x2 f2 => ?_;have := e0.1;have := f1.1;have := f0.1;replace f0 := f0.ext x2;replace e0 := e0.trans x2;have := f2.1;refine gP ?_;apply gE;apply gS;refine gR rfl ?_;refine gO rfl rfl (ld27 rfl f0 rfl) rfl ?_;refine gP ?_;refine GoR.call rfl rfl (aCF aFunc45 rfl) (hbd _ (A.ext e0) _) ?_ np;rintro v3 h3 ⟨q, x3⟩;cases q;refine ⟨_, rfl, ?_⟩;replace f2 := f2.ext x3;replace e0 := e0.trans x3;refine gP ?_;apply gE;apply gS;refine gR rfl ?_;refine gO rfl rfl (ld24 rfl f2 rfl) rfl ?_;refine gP ?_;refine GoR.store rfl rfl rfl rfl rfl rfl f2 rfl sz24 rfl rfl rfl fun h4 u4 => ?_;replace f2 := u4.has f2;replace e0 := e0.upd u4 (by omega);refine gP ?_;apply gE;exact gV (ret_end (aResult_of Tryz.func15 rfl (aResults_c rfl f2 (inCells_agg ag24 sz24 rfl) rfl)) ⟨rfl, e0⟩)
theorem Sold_ok {C : ClampV} {p e : AVal} {h : AH} (A : ClampAt h C p e) (B : ClampB C) (a : Int) :
  Runs Tryz.prog 17 [.agg (C.cells p e), .int .i64 a] h (fun en h' => en = .ret (.tuple [.agg (spC (C.soldR a).1), .int .i64 (C.soldR a).2]) ∧ Ext h h') := by
 by_cases O : C.Ok
 ·have hB := fun {h' : AH} {gp ge : AVal} {b0 br : Nat} (A' : YardAt h' C gp ge) => soldB0_ok O (gp := gp) (ge := ge) (a := a) (h := h') (b0 := b0) (br := br) A'
  unfold ClampV.soldR
  rw [ClampV.ok_yes O]
  obtain ⟨RES, hR⟩ : ∃ RES, C.clampQ a (C.tr (C.sold a.toNat) zSp) zSp = RES := ⟨_, rfl⟩
  rw [hR] at hB ⊢
  obtain ⟨⟨r1, r2⟩, c⟩ := RES
  dsimp only at hB ⊢
  have hsm := A.same
  unfold ClampV.cells at hsm ⊢
  try unfold spC at *
  have e0 : Ext h h := Ext.refl _
  refine Runs.intro aFunc17 rfl rfl rfl rfl fun rest => ?_;apply gS;refine gR rfl ?_;refine GoR.box rfl rfl rfl rfl rfl rfl fun h0 x0 f0 => ?_;have := e0.1;replace e0 := e0.trans x0;have := f0.1;refine GoR.box rfl rfl rfl rfl rfl rfl fun h1 x1 f1 => ?_;have := e0.1;have := f0.1;replace f0 := f0.ext x1;replace e0 := e0.trans x1;have := f1.1;refine GoR.alloc rfl rfl rfl zt24 rfl rfl fun h2 x2 f2 => ?_;have := e0.1;have := f1.1;have := f0.1;replace f1 := f1.ext x2;replace f0 := f0.ext x2;replace e0 := e0.trans x2;have := f2.1;refine gP ?_;apply gE;apply gS;refine gR rfl ?_;refine gO rfl rfl (ld27 rfl f0 rfl) rfl ?_;refine gP ?_;refine GoR.call rfl rfl (aCF aFunc45 rfl) (attempt_one O p e _ (A.ext e0) 56 _ aFunc56 _ (by simp [sameA, sameAs, eqI_eq]) h1.next (by omega) [.int .i64 r1, .int .i64 r2] 24 c fun h' gp ge e A' => hB A' (f1.ext e) (f2.ext e) (by omega)) ?_ np;rintro v9 h9 ⟨q, y9, f9⟩;cases q;refine ⟨_, rfl, ?_⟩
  have z9 := y9.low e0 (fun b q => by omega)
  clear e0 y9 f2
  have e0 := z9
  refine gP ?_;apply gE;apply gS;refine gR rfl ?_;refine gO rfl rfl (ld24 rfl f9 rfl) rfl ?_;refine gP ?_;refine GoR.store rfl rfl rfl rfl rfl rfl f9 rfl sz24 rfl rfl rfl fun h10 u10 => ?_;replace f9 := u10.has f9;replace e0 := e0.upd u10 (by omega);refine gP ?_;apply gE;exact gV (ret_end (aResult_of Tryz.func17 rfl (aResults_c rfl f9 (inCells_agg ag24 sz24 rfl) rfl)) ⟨rfl, e0⟩)
 ·have hr : C.soldR a = (zSp, 1) := ClampV.ok_no O
  rw [hr]
  have hbd := fun h A => attempt_bad O B p e h A 56
  try unfold zSp at *
  unfold ClampV.cells at *
  try unfold spC at *
  have e0 : Ext h h := Ext.refl _
  refine Runs.intro aFunc17 rfl rfl rfl rfl fun rest => ?_;apply gS;refine gR rfl ?_;refine GoR.box rfl rfl rfl rfl rfl rfl fun h0 x0 f0 => ?_;have := e0.1;replace e0 := e0.trans x0;have := f0.1;refine GoR.box rfl rfl rfl rfl rfl rfl fun h1 x1 f1 => ?_;have := e0.1;have := f0.1;replace f0 := f0.ext x1;replace e0 := e0.trans x1;have := f1.1;refine GoR.alloc rfl rfl rfl zt24 rfl rfl fun h2 x2 f2 => ?_;have := e0.1;have := f1.1;have := f0.1;replace f0 := f0.ext x2;replace e0 := e0.trans x2;have := f2.1;refine gP ?_;apply gE;apply gS;refine gR rfl ?_;refine gO rfl rfl (ld27 rfl f0 rfl) rfl ?_;refine gP ?_;refine GoR.call rfl rfl (aCF aFunc45 rfl) (hbd _ (A.ext e0) _) ?_ np;rintro v3 h3 ⟨q, x3⟩;cases q;refine ⟨_, rfl, ?_⟩;replace f2 := f2.ext x3;replace e0 := e0.trans x3;refine gP ?_;apply gE;apply gS;refine gR rfl ?_;refine gO rfl rfl (ld24 rfl f2 rfl) rfl ?_;refine gP ?_;refine GoR.store rfl rfl rfl rfl rfl rfl f2 rfl sz24 rfl rfl rfl fun h4 u4 => ?_;replace f2 := u4.has f2;replace e0 := e0.upd u4 (by omega);refine gP ?_;apply gE;exact gV (ret_end (aResult_of Tryz.func17 rfl (aResults_c rfl f2 (inCells_agg ag24 sz24 rfl) rfl)) ⟨rfl, e0⟩)
theorem All_ok {C : ClampV} {p e : AVal} {h : AH} (A : ClampAt h C p e) (B : ClampB C) :
  Runs Tryz.prog 19 [.agg (C.cells p e)] h (fun en h' => en = .ret (.tuple [.agg (spC (C.allR).1), .int .i64 (C.allR).2]) ∧ Ext h h') := by
 by_cases O : C.Ok
 ·have hB := fun {h' : AH} {gp ge : AVal} {br : Nat} (A' : YardAt h' C gp ge) => allB0_ok O (gp := gp) (ge := ge) (h := h') (br := br) A'
  unfold ClampV.allR
  rw [ClampV.ok_yes O]
  obtain ⟨RES, hR⟩ : ∃ RES, C.tr (C.total C.all) zSp = RES := ⟨_, rfl⟩
  rw [hR] at hB ⊢
  obtain ⟨⟨r1, r2⟩, c⟩ := RES
  dsimp only at hB ⊢
  have hsm := A.same
  unfold ClampV.cells at hsm ⊢
  try unfold spC at *
  have e0 : Ext h h := Ext.refl _
  refine Runs.intro aFunc19 rfl rfl rfl rfl fun rest => ?_;apply gS;refine gR rfl ?_;refine GoR.box rfl rfl rfl rfl rfl rfl fun h0 x0 f0 => ?_;have := e0.1;replace e0 := e0.trans x0;have := f0.1;refine GoR.alloc rfl rfl rfl zt24 rfl rfl fun h1 x1 f1 => ?_;have := e0.1;have := f0.1;replace f0 := f0.ext x1;replace e0 := e0.trans x1;have := f1.1;refine gP ?_;apply gE;apply gS;refine gR rfl ?_;refine gO rfl rfl (ld27 rfl f0 rfl) rfl ?_;refine gP ?_;refine GoR.call rfl rfl (aCF aFunc45 rfl) (attempt_one O p e _ (A.ext e0) 58 _ aFunc58 _ (by simp [sameA, sameAs, eqI_eq]) h0.next (by omega) [.int .i64 r1, .int .i64 r2] 24 c fun h' gp ge e A' => hB A' (f1.ext e)) ?_ np;rintro v9 h9 ⟨q, y9, f9⟩;cases q;refine ⟨_, rfl, ?_⟩
  have z9 := y9.low e0 (fun b q => by omega)
  clear e0 y9 f1
  have e0 := z9
  refine gP ?_;apply gE;apply gS;refine gR rfl ?_;refine gO rfl rfl (ld24 rfl f9 rfl) rfl ?_;refine gP ?_;refine GoR.store rfl rfl rfl rfl rfl rfl f9 rfl sz24 rfl rfl rfl fun h10 u10 => ?_;replace f9 := u10.has f9;replace e0 := e0.upd u10 (by omega);refine gP ?_;apply gE;exact gV (ret_end (aResult_of Tryz.func19 rfl (aResults_c rfl f9 (inCells_agg ag24 sz24 rfl) rfl)) ⟨rfl, e0⟩)
 ·have hr : C.allR = (zSp, 1) := ClampV.ok_no O
  rw [hr]
  have hbd := fun h A => attempt_bad O B p e h A 58
  try unfold zSp at *
  unfold ClampV.cells at *
  try unfold spC at *
  have e0 : Ext h h := Ext.refl _
  refine Runs.intro aFunc19 rfl rfl rfl rfl fun rest => ?_;apply gS;refine gR rfl ?_;refine GoR.box rfl rfl rfl rfl rfl rfl fun h0 x0 f0 => ?_;have := e0.1;replace e0 := e0.trans x0;have := f0.1;refine GoR.alloc rfl rfl rfl zt24 rfl rfl fun h1 x1 f1 => ?_;have := e0.1;have := f0.1;replace f0 := f0.ext x1;replace e0 := e0.trans x1;have := f1.1;refine gP ?_;apply gE;apply gS;refine gR rfl ?_;refine gO rfl rfl (ld27 rfl f0 rfl) rfl ?_;refine gP ?_;refine GoR.call rfl rfl (aCF aFunc45 rfl) (hbd _ (A.ext e0) _) ?_ np;rintro v2 h2 ⟨q, x2⟩;cases q;refine ⟨_, rfl, ?_⟩;replace f1 := f1.ext x2;replace e0 := e0.trans x2;refine gP ?_;apply gE;apply gS;refine gR rfl ?_;refine gO rfl rfl (ld24 rfl f1 rfl) rfl ?_;refine gP ?_;refine GoR.store rfl rfl rfl rfl rfl rfl f1 rfl sz24 rfl rfl rfl fun h3 u3 => ?_;replace f1 := u3.has f1;replace e0 := e0.upd u3 (by omega);refine gP ?_;apply gE;exact gV (ret_end (aResult_of Tryz.func19 rfl (aResults_c rfl f1 (inCells_agg ag24 sz24 rfl) rfl)) ⟨rfl, e0⟩)
theorem Enough_ok {C : ClampV} {p e : AVal} {h : AH} (A : ClampAt h C p e) (B : ClampB C) (a m : Int) :
  Runs Tryz.prog 21 [.agg (C.cells p e), .int .i64 a, .int .i64 m] h (fun en h' => en = .ret (.tuple [.int .i64 (C.enoughR a m).1, .int .i64 (C.enoughR a m).2]) ∧ Ext h h') := by
 by_cases O : C.Ok
 ·have hB := fun {h' : AH} {gp ge : AVal} {b0 b1 br : Nat} (A' : YardAt h' C gp ge) => enoughB0_ok O (gp := gp) (ge := ge) (a := a) (m := m) (h := h') (b0 := b0) (b1 := b1) (br := br) A'
  unfold ClampV.enoughR
  rw [ClampV.ok_yes O]
  obtain ⟨RES, hR⟩ : ∃ RES, C.clampQ a (sodsQ m (C.tr (reachV (C.left a.toNat) m) 0) 0) 0 = RES := ⟨_, rfl⟩
  rw [hR] at hB ⊢
  obtain ⟨r1, c⟩ := RES
  dsimp only at hB ⊢
  have hsm := A.same
  unfold ClampV.cells at hsm ⊢
  try unfold spC at *
  have e0 : Ext h h := Ext.refl _
  refine Runs.intro aFunc21 rfl rfl rfl rfl fun rest => ?_;apply gS;refine gR rfl ?_;refine GoR.box rfl rfl rfl rfl rfl rfl fun h0 x0 f0 => ?_;have := e0.1;replace e0 := e0.trans x0;have := f0.1;refine GoR.box rfl rfl rfl rfl rfl rfl fun h1 x1 f1 => ?_;have := e0.1;have := f0.1;replace f0 := f0.ext x1;replace e0 := e0.trans x1;have := f1.1;refine GoR.box rfl rfl rfl rfl rfl rfl fun h2 x2 f2 => ?_;have := e0.1;have := f1.1;have := f0.1;replace f1 := f1.ext x2;replace f0 := f0.ext x2;replace e0 := e0.trans x2;have := f2.1;refine GoR.alloc rfl rfl rfl zt3 rfl rfl fun h3 x3 f3 => ?_;have := e0.1;have := f2.1;have := f1.1;have := f0.1;replace f2 := f2.ext x3;replace f1 := f1.ext x3;replace f0 := f0.ext x3;replace e0 := e0.trans x3;have := f3.1;refine gP ?_;apply gE;apply gS;refine gR rfl ?_;refine gO rfl rfl (ld27 rfl f0 rfl) rfl ?_;refine gP ?_;refine GoR.call rfl rfl (aCF aFunc45 rfl) (attempt_one O p e _ (A.ext e0) 63 _ aFunc63 _ (by simp [sameA, sameAs, eqI_eq]) h2.next (by omega) [.int .i64 r1] 3 c fun h' gp ge e A' => hB A' (f1.ext e) (f2.ext e) (f3.ext e) (by omega) (by omega)) ?_ np;rintro v9 h9 ⟨q, y9, f9⟩;cases q;refine ⟨_, rfl, ?_⟩
  have z9 := y9.low e0 (fun b q => by omega)
  clear e0 y9 f3
  have e0 := z9
  refine gP ?_;apply gE;apply gS;refine gR rfl ?_;refine gO rfl rfl (ld3 rfl f9 rfl) rfl ?_;refine gP ?_;refine GoR.store rfl rfl rfl rfl rfl rfl f9 rfl sz3 rfl rfl rfl fun h10 u10 => ?_;replace f9 := u10.has f9;replace e0 := e0.upd u10 (by omega);refine gP ?_;apply gE;exact gV (ret_end (aResult_of Tryz.func21 rfl (aResults_c rfl f9 (inCells_one ag3 rfl) rfl)) ⟨rfl, e0⟩)
 ·have hr : C.enoughR a m = (0, 1) := ClampV.ok_no O
  rw [hr]
  have hbd := fun h A => attempt_bad O B p e h A 63
  try unfold zSp at *
  unfold ClampV.cells at *
  try unfold spC at *
  have e0 : Ext h h := Ext.refl _
  refine Runs.intro aFunc21 rfl rfl rfl rfl fun rest => ?_;apply gS;refine gR rfl ?_;refine GoR.box rfl rfl rfl rfl rfl rfl fun h0 x0 f0 => ?_;have := e0.1;replace e0 := e0.trans x0;have := f0.1;refine GoR.box rfl rfl rfl rfl rfl rfl fun h1 x1 f1 => ?_;have := e0.1;have := f0.1;replace f0 := f0.ext x1;replace e0 := e0.trans x1;have := f1.1;refine GoR.box rfl rfl rfl rfl rfl rfl fun h2 x2 f2 => ?_;have := e0.1;have := f1.1;have := f0.1;replace f1 := f1.ext x2;replace f0 := f0.ext x2;replace e0 := e0.trans x2;have := f2.1;refine GoR.alloc rfl rfl rfl zt3 rfl rfl fun h3 x3 f3 => ?_;have := e0.1;have := f2.1;have := f1.1;have := f0.1;replace f0 := f0.ext x3;replace e0 := e0.trans x3;have := f3.1;refine gP ?_;apply gE;apply gS;refine gR rfl ?_;refine gO rfl rfl (ld27 rfl f0 rfl) rfl ?_;refine gP ?_;refine GoR.call rfl rfl (aCF aFunc45 rfl) (hbd _ (A.ext e0) _) ?_ np;rintro v4 h4 ⟨q, x4⟩;cases q;refine ⟨_, rfl, ?_⟩;replace f3 := f3.ext x4;replace e0 := e0.trans x4;refine gP ?_;apply gE;apply gS;refine gR rfl ?_;refine gO rfl rfl (ld3 rfl f3 rfl) rfl ?_;refine gP ?_;refine GoR.store rfl rfl rfl rfl rfl rfl f3 rfl sz3 rfl rfl rfl fun h5 u5 => ?_;replace f3 := u5.has f3;replace e0 := e0.upd u5 (by omega);refine gP ?_;apply gE;exact gV (ret_end (aResult_of Tryz.func21 rfl (aResults_c rfl f3 (inCells_one ag3 rfl) rfl)) ⟨rfl, e0⟩)
theorem Empty_ok {C : ClampV} {p e : AVal} {h : AH} (A : ClampAt h C p e) (B : ClampB C) :
  Runs Tryz.prog 23 [.agg (C.cells p e)] h (fun en h' => en = .ret (.tuple [.int .i64 (C.emptyR).1.1, .int .i64 (C.emptyR).1.2, .int .i64 (C.emptyR).2]) ∧ Ext h h') := by
 by_cases O : C.Ok
 ·have hB := fun {h' : AH} {gp ge : AVal} {br bs : Nat} (A' : YardAt h' C gp ge) => emptyB0_ok O (gp := gp) (ge := ge) (h := h') (br := br) (bs := bs) A'
  unfold ClampV.emptyR
  rw [ClampV.ok_yes O]
  obtain ⟨RES, hR⟩ : ∃ RES, C.tr (((C.gone : Nat) : Int), ((C.low : Nat) : Int)) zSp = RES := ⟨_, rfl⟩
  rw [hR] at hB ⊢
  obtain ⟨⟨r1, r2⟩, c⟩ := RES
  dsimp only at hB ⊢
  have hsm := A.same
  unfold ClampV.cells at hsm ⊢
  try unfold spC at *
  have e0 : Ext h h := Ext.refl _
  refine Runs.intro aFunc23 rfl rfl rfl rfl fun rest => ?_;apply gS;refine gR rfl ?_;refine GoR.box rfl rfl rfl rfl rfl rfl fun h0 x0 f0 => ?_;have := e0.1;replace e0 := e0.trans x0;have := f0.1;refine GoR.alloc rfl rfl rfl zt3 rfl rfl fun h1 x1 f1 => ?_;have := e0.1;have := f0.1;replace f0 := f0.ext x1;replace e0 := e0.trans x1;have := f1.1;refine GoR.alloc rfl rfl rfl zt3 rfl rfl fun h2 x2 f2 => ?_;have := e0.1;have := f1.1;have := f0.1;replace f1 := f1.ext x2;replace f0 := f0.ext x2;replace e0 := e0.trans x2;have := f2.1;refine gP ?_;apply gE;apply gS;refine gR rfl ?_;refine gO rfl rfl (ld27 rfl f0 rfl) rfl ?_;refine gP ?_;refine GoR.call rfl rfl (aCF aFunc45 rfl) (attempt_two O p e _ (A.ext e0) 68 _ aFunc68 _ (by simp [sameA, sameAs, eqI_eq]) h0.next h1.next (by omega) (by omega) [.int .i64 r1] [.int .i64 r2] 3 3 c fun h' gp ge e A' => hB A' (f1.ext e) (f2.ext e) (by omega)) ?_ np;rintro v9 h9 ⟨q, y9, f9, f10⟩;cases q;refine ⟨_, rfl, ?_⟩
  have z9 := y9.low e0 (fun b q => by rcases q with q | q <;> omega)
  clear e0 y9 f1 f2
  have e0 := z9
  refine gP ?_;apply gE;apply gS;refine Go.drawnE plan23_0 ?_;refine gQ rfl rfl (ld3 rfl f9 rfl) rfl ?_;refine gQ rfl rfl (ld3 rfl f10 rfl) rfl ?_;refine gQ rfl rfl rfl rfl ?_;refine GoE.store rfl rfl rfl rfl (dK 1 2 (dK 1 1 (dD 1 0 rfl))) rfl rfl f9 rfl sz3 rfl rfl rfl fun h11 u11 => ?_;replace f9 := u11.has f9;replace f10 := f10.upd u11 (by omega);replace e0 := e0.upd u11 (by omega);refine ⟨(rck (h2 := h11) rfl (rfl) (rck (h2 := h11) rfl (ld3 rfl f10 rfl) recheck_nil)), ?_⟩;refine GoE.store rfl rfl rfl rfl (dK 11 2 (dD 11 1 rfl)) rfl rfl f10 rfl sz3 rfl rfl rfl fun h12 u12 => ?_;replace f9 := f9.upd u12 (by omega);replace f10 := u12.has f10;replace e0 := e0.upd u12 (by omega);refine ⟨(rck (h2 := h12) rfl (rfl) recheck_nil), ?_⟩;refine gQ rfl rfl rfl rfl ?_;refine GoE.end rfl ?_;exact gV (ret_end (aResult_of Tryz.func23 rfl (aResults_c rfl f9 (inCells_one ag3 rfl) (aResults_c rfl f10 (inCells_one ag3 rfl) rfl))) ⟨rfl, e0⟩)
 ·have hr : C.emptyR = (zSp, 1) := ClampV.ok_no O
  rw [hr]
  have hbd := fun h A => attempt_bad O B p e h A 68
  try unfold zSp at *
  unfold ClampV.cells at *
  try unfold spC at *
  have e0 : Ext h h := Ext.refl _
  refine Runs.intro aFunc23 rfl rfl rfl rfl fun rest => ?_;apply gS;refine gR rfl ?_;refine GoR.box rfl rfl rfl rfl rfl rfl fun h0 x0 f0 => ?_;have := e0.1;replace e0 := e0.trans x0;have := f0.1;refine GoR.alloc rfl rfl rfl zt3 rfl rfl fun h1 x1 f1 => ?_;have := e0.1;have := f0.1;replace f0 := f0.ext x1;replace e0 := e0.trans x1;have := f1.1;refine GoR.alloc rfl rfl rfl zt3 rfl rfl fun h2 x2 f2 => ?_;have := e0.1;have := f1.1;have := f0.1;replace f1 := f1.ext x2;replace f0 := f0.ext x2;replace e0 := e0.trans x2;have := f2.1;refine gP ?_;apply gE;apply gS;refine gR rfl ?_;refine gO rfl rfl (ld27 rfl f0 rfl) rfl ?_;refine gP ?_;refine GoR.call rfl rfl (aCF aFunc45 rfl) (hbd _ (A.ext e0) _) ?_ np;rintro v3 h3 ⟨q, x3⟩;cases q;refine ⟨_, rfl, ?_⟩;replace f2 := f2.ext x3;replace f1 := f1.ext x3;replace e0 := e0.trans x3;refine gP ?_;apply gE;apply gS;refine Go.drawnE plan23_0 ?_;refine gQ rfl rfl (ld3 rfl f1 rfl) rfl ?_;refine gQ rfl rfl (ld3 rfl f2 rfl) rfl ?_;refine gQ rfl rfl rfl rfl ?_;refine GoE.store rfl rfl rfl rfl (dK 1 2 (dK 1 1 (dD 1 0 rfl))) rfl rfl f1 rfl sz3 rfl rfl rfl fun h4 u4 => ?_;replace f2 := f2.upd u4 (by omega);replace f1 := u4.has f1;replace e0 := e0.upd u4 (by omega);refine ⟨(rck (h2 := h4) rfl (rfl) (rck (h2 := h4) rfl (ld3 rfl f2 rfl) recheck_nil)), ?_⟩;refine GoE.store rfl rfl rfl rfl (dK 11 2 (dD 11 1 rfl)) rfl rfl f2 rfl sz3 rfl rfl rfl fun h5 u5 => ?_;replace f2 := u5.has f2;replace f1 := f1.upd u5 (by omega);replace e0 := e0.upd u5 (by omega);refine ⟨(rck (h2 := h5) rfl (rfl) recheck_nil), ?_⟩;refine gQ rfl rfl rfl rfl ?_;refine GoE.end rfl ?_;exact gV (ret_end (aResult_of Tryz.func23 rfl (aResults_c rfl f1 (inCells_one ag3 rfl) (aResults_c rfl f2 (inCells_one ag3 rfl) rfl))) ⟨rfl, e0⟩)
theorem Share_ok {C : ClampV} {p e : AVal} {h : AH} (A : ClampAt h C p e) (B : ClampB C) (m : Int) :
  Runs Tryz.prog 25 [.agg (C.cells p e), .int .i64 m] h (fun en h' => en = .ret (.tuple [.int .i64 (C.shareR m).1, .int .i64 (C.shareR m).2]) ∧ Ext h h') := by
 by_cases O : C.Ok
 ·have hB := fun {h' : AH} {gp ge : AVal} {b0 br : Nat} (A' : YardAt h' C gp ge) => shareB0_ok O (gp := gp) (ge := ge) (m := m) (h := h') (b0 := b0) (br := br) A'
  unfold ClampV.shareR
  rw [ClampV.ok_yes O]
  obtain ⟨RES, hR⟩ : ∃ RES, sodsQ m (C.shareQ m) 0 = RES := ⟨_, rfl⟩
  rw [hR] at hB ⊢
  obtain ⟨r1, c⟩ := RES
  dsimp only at hB ⊢
  have hsm := A.same
  unfold ClampV.cells at hsm ⊢
  try unfold spC at *
  have e0 : Ext h h := Ext.refl _
  refine Runs.intro aFunc25 rfl rfl rfl rfl fun rest => ?_;apply gS;refine gR rfl ?_;refine GoR.box rfl rfl rfl rfl rfl rfl fun h0 x0 f0 => ?_;have := e0.1;replace e0 := e0.trans x0;have := f0.1;refine GoR.box rfl rfl rfl rfl rfl rfl fun h1 x1 f1 => ?_;have := e0.1;have := f0.1;replace f0 := f0.ext x1;replace e0 := e0.trans x1;have := f1.1;refine GoR.alloc rfl rfl rfl zt3 rfl rfl fun h2 x2 f2 => ?_;have := e0.1;have := f1.1;have := f0.1;replace f1 := f1.ext x2;replace f0 := f0.ext x2;replace e0 := e0.trans x2;have := f2.1;refine gP ?_;apply gE;apply gS;refine gR rfl ?_;refine gO rfl rfl (ld27 rfl f0 rfl) rfl ?_;refine gP ?_;refine GoR.call rfl rfl (aCF aFunc45 rfl) (attempt_one O p e _ (A.ext e0) 70 _ aFunc70 _ (by simp [sameA, sameAs, eqI_eq]) h1.next (by omega) [.int .i64 r1] 3 c fun h' gp ge e A' => hB A' (f1.ext e) (f2.ext e) (by omega)) ?_ np;rintro v9 h9 ⟨q, y9, f9⟩;cases q;refine ⟨_, rfl, ?_⟩
  have z9 := y9.low e0 (fun b q => by omega)
  clear e0 y9 f2
  have e0 := z9
  refine gP ?_;apply gE;apply gS;refine gR rfl ?_;refine gO rfl rfl (ld3 rfl f9 rfl) rfl ?_;refine gP ?_;refine GoR.store rfl rfl rfl rfl rfl rfl f9 rfl sz3 rfl rfl rfl fun h10 u10 => ?_;replace f9 := u10.has f9;replace e0 := e0.upd u10 (by omega);refine gP ?_;apply gE;exact gV (ret_end (aResult_of Tryz.func25 rfl (aResults_c rfl f9 (inCells_one ag3 rfl) rfl)) ⟨rfl, e0⟩)
 ·have hr : C.shareR m = (0, 1) := ClampV.ok_no O
  rw [hr]
  have hbd := fun h A => attempt_bad O B p e h A 70
  try unfold zSp at *
  unfold ClampV.cells at *
  try unfold spC at *
  have e0 : Ext h h := Ext.refl _
  refine Runs.intro aFunc25 rfl rfl rfl rfl fun rest => ?_;apply gS;refine gR rfl ?_;refine GoR.box rfl rfl rfl rfl rfl rfl fun h0 x0 f0 => ?_;have := e0.1;replace e0 := e0.trans x0;have := f0.1;refine GoR.box rfl rfl rfl rfl rfl rfl fun h1 x1 f1 => ?_;have := e0.1;have := f0.1;replace f0 := f0.ext x1;replace e0 := e0.trans x1;have := f1.1;refine GoR.alloc rfl rfl rfl zt3 rfl rfl fun h2 x2 f2 => ?_;have := e0.1;have := f1.1;have := f0.1;replace f0 := f0.ext x2;replace e0 := e0.trans x2;have := f2.1;refine gP ?_;apply gE;apply gS;refine gR rfl ?_;refine gO rfl rfl (ld27 rfl f0 rfl) rfl ?_;refine gP ?_;refine GoR.call rfl rfl (aCF aFunc45 rfl) (hbd _ (A.ext e0) _) ?_ np;rintro v3 h3 ⟨q, x3⟩;cases q;refine ⟨_, rfl, ?_⟩;replace f2 := f2.ext x3;replace e0 := e0.trans x3;refine gP ?_;apply gE;apply gS;refine gR rfl ?_;refine gO rfl rfl (ld3 rfl f2 rfl) rfl ?_;refine gP ?_;refine GoR.store rfl rfl rfl rfl rfl rfl f2 rfl sz3 rfl rfl rfl fun h4 u4 => ?_;replace f2 := u4.has f2;replace e0 := e0.upd u4 (by omega);refine gP ?_;apply gE;exact gV (ret_end (aResult_of Tryz.func25 rfl (aResults_c rfl f2 (inCells_one ag3 rfl) rfl)) ⟨rfl, e0⟩)
theorem Clash_ok {C : ClampV} {p e : AVal} {h : AH} (A : ClampAt h C p e) (B : ClampB C) :
  Runs Tryz.prog 27 [.agg (C.cells p e)] h (fun en h' => en = .ret (.tuple [.int .i64 (C.clashR).1, .int .i64 (C.clashR).2]) ∧ Ext h h') := by
 by_cases O : C.Ok
 ·have hB := fun {h' : AH} {gp ge : AVal} {br : Nat} (A' : YardAt h' C gp ge) => clashB0_ok O (gp := gp) (ge := ge) (h := h') (br := br) A'
  unfold ClampV.clashR
  rw [ClampV.ok_yes O]
  obtain ⟨RES, hR⟩ : ∃ RES, C.clashQ = RES := ⟨_, rfl⟩
  rw [hR] at hB ⊢
  obtain ⟨r1, c⟩ := RES
  dsimp only at hB ⊢
  have hsm := A.same
  unfold ClampV.cells at hsm ⊢
  try unfold spC at *
  have e0 : Ext h h := Ext.refl _
  refine Runs.intro aFunc27 rfl rfl rfl rfl fun rest => ?_;apply gS;refine gR rfl ?_;refine GoR.box rfl rfl rfl rfl rfl rfl fun h0 x0 f0 => ?_;have := e0.1;replace e0 := e0.trans x0;have := f0.1;refine GoR.alloc rfl rfl rfl zt3 rfl rfl fun h1 x1 f1 => ?_;have := e0.1;have := f0.1;replace f0 := f0.ext x1;replace e0 := e0.trans x1;have := f1.1;refine gP ?_;apply gE;apply gS;refine gR rfl ?_;refine gO rfl rfl (ld27 rfl f0 rfl) rfl ?_;refine gP ?_;refine GoR.call rfl rfl (aCF aFunc45 rfl) (attempt_one O p e _ (A.ext e0) 72 _ aFunc72 _ (by simp [sameA, sameAs, eqI_eq]) h0.next (by omega) [.int .i64 r1] 3 c fun h' gp ge e A' => hB A' (f1.ext e)) ?_ np;rintro v9 h9 ⟨q, y9, f9⟩;cases q;refine ⟨_, rfl, ?_⟩
  have z9 := y9.low e0 (fun b q => by omega)
  clear e0 y9 f1
  have e0 := z9
  refine gP ?_;apply gE;apply gS;refine gR rfl ?_;refine gO rfl rfl (ld3 rfl f9 rfl) rfl ?_;refine gP ?_;refine GoR.store rfl rfl rfl rfl rfl rfl f9 rfl sz3 rfl rfl rfl fun h10 u10 => ?_;replace f9 := u10.has f9;replace e0 := e0.upd u10 (by omega);refine gP ?_;apply gE;exact gV (ret_end (aResult_of Tryz.func27 rfl (aResults_c rfl f9 (inCells_one ag3 rfl) rfl)) ⟨rfl, e0⟩)
 ·have hr : C.clashR = (0, 1) := ClampV.ok_no O
  rw [hr]
  have hbd := fun h A => attempt_bad O B p e h A 72
  try unfold zSp at *
  unfold ClampV.cells at *
  try unfold spC at *
  have e0 : Ext h h := Ext.refl _
  refine Runs.intro aFunc27 rfl rfl rfl rfl fun rest => ?_;apply gS;refine gR rfl ?_;refine GoR.box rfl rfl rfl rfl rfl rfl fun h0 x0 f0 => ?_;have := e0.1;replace e0 := e0.trans x0;have := f0.1;refine GoR.alloc rfl rfl rfl zt3 rfl rfl fun h1 x1 f1 => ?_;have := e0.1;have := f0.1;replace f0 := f0.ext x1;replace e0 := e0.trans x1;have := f1.1;refine gP ?_;apply gE;apply gS;refine gR rfl ?_;refine gO rfl rfl (ld27 rfl f0 rfl) rfl ?_;refine gP ?_;refine GoR.call rfl rfl (aCF aFunc45 rfl) (hbd _ (A.ext e0) _) ?_ np;rintro v2 h2 ⟨q, x2⟩;cases q;refine ⟨_, rfl, ?_⟩;replace f1 := f1.ext x2;replace e0 := e0.trans x2;refine gP ?_;apply gE;apply gS;refine gR rfl ?_;refine gO rfl rfl (ld3 rfl f1 rfl) rfl ?_;refine gP ?_;refine GoR.store rfl rfl rfl rfl rfl rfl f1 rfl sz3 rfl rfl rfl fun h3 u3 => ?_;replace f1 := u3.has f1;replace e0 := e0.upd u3 (by omega);refine gP ?_;apply gE;exact gV (ret_end (aResult_of Tryz.func27 rfl (aResults_c rfl f1 (inCells_one ag3 rfl) rfl)) ⟨rfl, e0⟩)
end Go.Proofs.YtobhkdgcciolmaaGreat

set_option linter.unusedSimpArgs false
namespace Go.AbsE
open Go
section
variable {P : Program} {t : Tr AVal} {h : AH} {dst : Option Tmp} {ty tt : TypeId} {pos : String} {after : Array Edge} {guard : Option (Nat × Bool)} {x y : Operand}
theorem slice_all0 {α : Type} {l : List α} {n : Nat} (h : l.length = n) : slice? l 0 n = some l := slice_all h
theorem aOp_appendFull {el el2 eb t1 t2 : TypeId} {sz bytes b len : Nat} {z s : AVal} {g0 : Kd} {Lx L : List (List AVal)} (hu1 : P.underlying t1 = some (.slice el)) (hu2 : P.underlying t2 = some (.slice el2)) (hs : sizeT P el = some sz) (hby : bytesT P el = some bytes) (hz : zeroT P el = some z) (hzl : Nat.beq z.cells.length sz = true) (hsz : Nat.blt 0 sz = true)
  (hx : ev t x = some (.slice b 0 len len)) (hb : Has h b (.cells g0 Lx.flatten eb)) (hg : g0.isRo = false) (hlx : Lx.length = len) (hzx : ∀ l, l ∈ Lx → l.length = sz) (hy : ev t y = some s) (hsl : SliceOf h sz s L) (hzL : ∀ l, l ∈ L → l.length = sz) (hroom : (len + L.length + 300) * 2 * (bytes + 1) < 281474976710656) :
  ∃ s' h1, aOp P t h ⟨dst, .call ⟨.builtin .append, #[x, y], #[t1, t2]⟩, tt, pos, after, guard⟩ = some (.val s' h1) ∧ Ext h h1 ∧ FreshS b h1 sz s' (Lx ++ L) := by
 subst hlx
 have hfx := flatten_len hzx
 by_cases hL : L = []
 ·subst hL
  obtain ⟨h1, q1, q2⟩ := aOp_appendIn (P := P) (t := t) (h := h) (dst := dst) (tt := tt) (pos := pos) (after := after) (guard := guard) (x := x) (y := y) (cap := Lx.length) (m := Lx.length) (new := []) (cs' := Lx.flatten) (cs := Lx.flatten) hu1 hu2 hs hby hz hzl hsz hx hy hsl.len (by rw [hsl.src]; rfl) rfl (by simp) (by simpa using hroom) hb hg rfl (by
   rw [Nat.zero_add, ← hfx]
   have : splice Lx.flatten Lx.flatten.length [] = some (Lx.flatten.take Lx.flatten.length ++ [] ++ Lx.flatten.drop (Lx.flatten.length + ([] : List AVal).length)) := splice_eq (by simp)
   rw [this]
   simp)
  refine ⟨_, h1, q1, ⟨by rw [q2.1]; exact Nat.le_refl _, fun c hc => ?_⟩, ?_⟩
  ·by_cases z : c = b
   ·subst z; rw [q2.2.1, hb.2]
   ·exact q2.2.2 c z
  ·rw [List.append_nil]
   intro h' hn he
   have hb1 := q2.has hb
   refine SliceOf.mk' rfl rfl (hb1.fresh (Nat.le_refl b) hn he) rfl fun i l hl => ?_
   rw [Nat.zero_add]
   exact slice_flatten hzx i l hl
 ·have hL0 : 0 < L.length := List.length_pos_iff.2 hL
  obtain ⟨h1, q⟩ := new_some h (.cells .grow (Lx ++ L).flatten el)
  obtain ⟨_, q2, q3⟩ := new_ext q
  refine ⟨.gsl h.next 0 0 (Lx.length + L.length), h1, ?_, q2, ?_⟩
  ·show opCall P t h ⟨.builtin .append, #[x, y], #[t1, t2]⟩ tt = _
   have he : evs t [x, y] = some [.slice b 0 Lx.length Lx.length, s] := by simp only [evs, mapO, hx, hy]
   have hlt : Nat.blt ((Lx.length + L.length + 300) * 2 * (bytes + 1)) 281474976710656 = true := Nat.ble_eq_true_of_le hroom
   have hold : srcCells h sz Lx.length (.slice b 0 Lx.length Lx.length) = some Lx.flatten := by
    show AbsE.loadCells h b 0 (Lx.length * sz) = _
    unfold AbsE.loadCells
    rw [hb.2]
    exact slice_all0 hfx
   have hle : Nat.ble (Lx.length + L.length) Lx.length = false := by
    cases q : Nat.ble (Lx.length + L.length) Lx.length with
    | false => rfl
    | true => have := Nat.le_of_ble_eq_true q; omega
   have ha : aAppend P h t1 t2 (.slice b 0 Lx.length Lx.length) s = some (.val (.gsl h.next 0 0 (Lx.length + L.length)) h1) := by
    unfold aAppend
    rw [hu1, hu2]
    simp only [hs, hby, hz, show lenA (.slice b 0 Lx.length Lx.length) = some Lx.length from rfl, hsl.len, hsl.src, hlt, hsz, hzl, cond_true]
    unfold appSlice
    rw [hle, hold]
    simp only [cond_false]
    unfold growNew
    rw [← List.flatten_append, q]
   simp only [opCall, he, callWith, aBuiltin, ha]
  ·intro h' hn he
   refine SliceOf.mk' rfl rfl (q3.fresh (Nat.le_of_lt hb.1) hn he) (by rw [List.length_append]) fun i l hl => ?_
   rw [Nat.zero_add]
   refine slice_flatten (fun l hl => ?_) i l hl
   rcases List.mem_append.1 hl with hl | hl
   ·exact hzx l hl
   ·exact hzL l hl
variable {c : FC} {k : List AItem} {Q : AM → Prop} {J : Jump} {all : Array Oper} {l lrest : List Oper} {i d : Nat}
theorem GoR.appendFull {el el2 eb t1 t2 : TypeId} {sz bytes b len : Nat} {z s : AVal} {g0 : Kd} {Lx L : List (List AVal)} (hl : l = ⟨dst, .call ⟨.builtin .append, #[x, y], #[t1, t2]⟩, tt, pos, after, guard⟩ :: lrest) (hw : wantedA all t ⟨dst, .call ⟨.builtin .append, #[x, y], #[t1, t2]⟩, tt, pos, after, guard⟩ = some true)
  (hu1 : P.underlying t1 = some (.slice el)) (hu2 : P.underlying t2 = some (.slice el2)) (hs : sizeT P el = some sz) (hby : bytesT P el = some bytes) (hz : zeroT P el = some z) (hzl : Nat.beq z.cells.length sz = true) (hsz : Nat.blt 0 sz = true)
  (hx : ev t x = some (.slice b 0 len len)) (hb : Has h b (.cells g0 Lx.flatten eb)) (hg : g0.isRo = false) (hlx : Lx.length = len) (hzx : ∀ l, l ∈ Lx → l.length = sz) (hy : ev t y = some s) (hsl : SliceOf h sz s L) (hzL : ∀ l, l ∈ L → l.length = sz) (hroom : (len + L.length + 300) * 2 * (bytes + 1) < 281474976710656) (hd : dst = some d) (hdn : Nat.blt d c.n = true)
  (g : ∀ s' h1, Ext h h1 → FreshS b h1 sz s' (Lx ++ L) → GoR P J c k Q (runOps P c.n all lrest (i + 1) (t.put (pth d) (some s')) h1)) : GoR P J c k Q (runOps P c.n all l i t h) := by
 obtain ⟨s', h1, q1, q2, q3⟩ := aOp_appendFull (P := P) (dst := dst) (tt := tt) (pos := pos) (after := after) (guard := guard) hu1 hu2 hs hby hz hzl hsz hx hb hg hlx hzx hy hsl hzL hroom
 refine GoR.op hl hw q1 ?_ (g s' h1 q2 q3)
 unfold prepD
 rw [show (⟨dst, .call ⟨.builtin .append, #[x, y], #[t1, t2]⟩, tt, pos, after, guard⟩ : Oper).dst = some d from hd]
 simp only [hdn, cond_true]
 rw [Tr.mkPut_eq]
end
end Go.AbsE

namespace Go.Proofs.YtobhkdgcciolmaaGreat
open Go Go.AbsE
set_option linter.unusedSimpArgs false
set_option maxRecDepth 100000
set_option maxHeartbeats 0
set_option linter.unusedVariables false
theorem long29_ok {C : ClampV} {p e : AVal} {h : AH} (A : ClampAt h C p e) (hb1 : C.ps.length < 9223372036854775808) (hb2 : C.es.length < 9223372036854775808) : Runs Tryz.prog 29 [.agg (C.cells p e)] h (fun en h' => en = .ret (.bool (decide (40 < max C.ps.length C.es.length))) ∧ Ext h h') := by
 have hl1 := A.ps.len
 have hl2 := A.es.len
 rw [List.length_map] at hl1 hl2
 unfold ClampV.cells
 by_cases q : 40 < max C.ps.length C.es.length
 ·rw [decide_eq_true q]
  have e0 : Ext h h := Ext.refl _
  refine Runs.intro aFunc29 rfl rfl rfl rfl fun rest => ?_;apply gS;refine gR rfl ?_;refine GoR.box rfl rfl rfl rfl rfl rfl fun h0 x0 f0 => ?_;replace e0 := e0.trans x0;refine gP ?_;apply gE;apply gS;refine gR rfl ?_;refine gO rfl rfl (fa27_0 rfl) rfl ?_;refine gO rfl rfl (ld22 rfl f0 rfl) rfl ?_;refine gO rfl rfl (aOp_lenSlice Tryz.underlying22 rfl hl1) rfl ?_;refine gO rfl rfl (fa27_2 rfl) rfl ?_;refine gO rfl rfl (ld25 rfl f0 rfl) rfl ?_;refine gO rfl rfl (aOp_lenSlice Tryz.underlying25 rfl hl2) rfl ?_;refine gO rfl rfl (aOp_max2 rfl rfl (joinP_max (C.ps.length : Int) (C.es.length : Int))) rfl ?_;refine gO rfl rfl (kGT rfl rfl) rfl ?_;refine gP ?_;apply gE;exact gW Tryz.func29 rfl rfl ⟨rfl, e0⟩
 ·rw [decide_eq_false q]
  have e0 : Ext h h := Ext.refl _
  refine Runs.intro aFunc29 rfl rfl rfl rfl fun rest => ?_;apply gS;refine gR rfl ?_;refine GoR.box rfl rfl rfl rfl rfl rfl fun h0 x0 f0 => ?_;replace e0 := e0.trans x0;refine gP ?_;apply gE;apply gS;refine gR rfl ?_;refine gO rfl rfl (fa27_0 rfl) rfl ?_;refine gO rfl rfl (ld22 rfl f0 rfl) rfl ?_;refine gO rfl rfl (aOp_lenSlice Tryz.underlying22 rfl hl1) rfl ?_;refine gO rfl rfl (fa27_2 rfl) rfl ?_;refine gO rfl rfl (ld25 rfl f0 rfl) rfl ?_;refine gO rfl rfl (aOp_lenSlice Tryz.underlying25 rfl hl2) rfl ?_;refine gO rfl rfl (aOp_max2 rfl rfl (joinP_max (C.ps.length : Int) (C.es.length : Int))) rfl ?_;refine gO rfl rfl (kGF rfl rfl) rfl ?_;refine gP ?_;apply gE;exact gW Tryz.func29 rfl rfl ⟨rfl, e0⟩
theorem in79_ok {n a b : Int} {h : AH} : Runs Tryz.prog 79 [.int .i64 n, .int .i64 a, .int .i64 b] h (fun en h' => en = .ret (.bool (decide (a ≤ n ∧ n ≤ b))) ∧ Ext h h') := by
 have e0 : Ext h h := Ext.refl _
 refine Runs.intro aFunc79 rfl rfl rfl rfl fun rest => ?_;apply gS;refine gR rfl ?_;refine gP ?_;apply gE;apply gS;refine gR rfl ?_;iterate 2 refine gP ?_
 by_cases hs0 : (a : Int) ≤ n
 ·refine gO rfl rfl (kMT rfl rfl) rfl ?_;iterate 3 refine gP ?_
  by_cases hs1 : (n : Int) ≤ b
  ·refine gO rfl rfl (kMT rfl rfl) rfl ?_;iterate 2 refine gP ?_
   apply gE;exact gV (ret_end (aResult_of Tryz.func79 rfl rfl) ⟨ret_true (by omega), e0⟩)
  ·refine gO rfl rfl (kMF rfl rfl) rfl ?_;iterate 2 refine gP ?_
   apply gE;exact gV (ret_end (aResult_of Tryz.func79 rfl rfl) ⟨ret_false (by omega), e0⟩)
 ·refine gO rfl rfl (kMF rfl rfl) rfl ?_;refine gP ?_;iterate 3 refine GoR.skip rfl rfl rfl ?_
  iterate 2 refine gP ?_
  apply gE;exact gV (ret_end (aResult_of Tryz.func79 rfl rfl) ⟨ret_false (by omega), e0⟩)
theorem in79_is {n a b : Int} {r : Bool} (hr : decide (a ≤ n ∧ n ≤ b) = r) {h : AH} : Runs Tryz.prog 79 [.int .i64 n, .int .i64 a, .int .i64 b] h (fun en h' => en = .ret (.bool r) ∧ Ext h h') := by
 rw [← hr]
 exact in79_ok
theorem span80_ok {lo hi a b w : Int} (ha : 0 ≤ a) (hb : b ≤ 100000) {h : AH} : Runs Tryz.prog 80 [.agg [.int .i64 lo, .int .i64 hi], .int .i64 a, .int .i64 b, .int .i64 w] h (fun en h' => en = .ret (.bool (decide ((lo ≤ hi ∧ a ≤ lo ∧ hi ≤ b) ∧ hi - lo ≤ w))) ∧ Ext h h') := by
 have e0 : Ext h h := Ext.refl _
 refine Runs.intro aFunc80 rfl rfl rfl rfl fun rest => ?_;apply gS;refine gR rfl ?_;refine GoR.box rfl rfl rfl rfl rfl rfl fun h0 x0 f0 => ?_;have := e0.1;replace e0 := e0.trans x0;have := f0.1;refine gP ?_;apply gE;apply gS;refine gR rfl ?_;refine gP ?_;refine gO rfl rfl (fa24_0 rfl) rfl ?_;refine gO rfl rfl (ld3 rfl f0 rfl) rfl ?_
 by_cases hs0 : (a : Int) ≤ lo
 ·refine gO rfl rfl (kMT rfl rfl) rfl ?_;refine gP ?_;refine gO rfl rfl (fa24_0 rfl) rfl ?_;refine gO rfl rfl (ld3 rfl f0 rfl) rfl ?_;refine gO rfl rfl (fa24_1 rfl) rfl ?_;refine gO rfl rfl (ld3 rfl f0 rfl) rfl ?_
  by_cases hs1 : (lo : Int) ≤ hi
  ·refine gO rfl rfl (kMT rfl rfl) rfl ?_;iterate 2 refine gP ?_
   refine gO rfl rfl (fa24_1 rfl) rfl ?_;refine gO rfl rfl (ld3 rfl f0 rfl) rfl ?_;refine gP ?_
   by_cases hs2 : (hi : Int) ≤ b
   ·refine gO rfl rfl (kMT rfl rfl) rfl ?_;iterate 2 refine gP ?_
    refine gO rfl rfl (fa24_1 rfl) rfl ?_;refine gO rfl rfl (ld3 rfl f0 rfl) rfl ?_;refine gO rfl rfl (fa24_0 rfl) rfl ?_;refine gO rfl rfl (ld3 rfl f0 rfl) rfl ?_;refine gO rfl rfl (aS rfl rfl) rfl ?_;refine gP ?_
    by_cases hs3 : (hi - lo : Int) ≤ w
    ·refine gO rfl rfl (kMT rfl rfl) rfl ?_;iterate 2 refine gP ?_
     apply gE;exact gV (ret_end (aResult_of Tryz.func80 rfl rfl) ⟨ret_true (by omega), e0⟩)
    ·refine gO rfl rfl (kMF rfl rfl) rfl ?_;iterate 2 refine gP ?_
     apply gE;exact gV (ret_end (aResult_of Tryz.func80 rfl rfl) ⟨ret_false (by omega), e0⟩)
   ·refine gO rfl rfl (kMF rfl rfl) rfl ?_;iterate 2 refine gP ?_
    iterate 7 refine GoR.skip rfl rfl rfl ?_
    iterate 2 refine gP ?_
    apply gE;exact gV (ret_end (aResult_of Tryz.func80 rfl rfl) ⟨ret_false (by omega), e0⟩)
  ·refine gO rfl rfl (kMF rfl rfl) rfl ?_;iterate 2 refine gP ?_
   iterate 4 refine GoR.skip rfl rfl rfl ?_
   iterate 2 refine gP ?_
   iterate 7 refine GoR.skip rfl rfl rfl ?_
   iterate 2 refine gP ?_
   apply gE;exact gV (ret_end (aResult_of Tryz.func80 rfl rfl) ⟨ret_false (by omega), e0⟩)
 ·refine gO rfl rfl (kMF rfl rfl) rfl ?_;refine gP ?_;iterate 5 refine GoR.skip rfl rfl rfl ?_
  iterate 2 refine gP ?_
  iterate 4 refine GoR.skip rfl rfl rfl ?_
  iterate 2 refine gP ?_
  iterate 7 refine GoR.skip rfl rfl rfl ?_
  iterate 2 refine gP ?_
  apply gE;exact gV (ret_end (aResult_of Tryz.func80 rfl rfl) ⟨ret_false (by omega), e0⟩)
theorem span80_is {lo hi a b w : Int} (ha : 0 ≤ a) (hb : b ≤ 100000) {r : Bool} (hr : decide ((lo ≤ hi ∧ a ≤ lo ∧ hi ≤ b) ∧ hi - lo ≤ w) = r) {h : AH} : Runs Tryz.prog 80 [.agg [.int .i64 lo, .int .i64 hi], .int .i64 a, .int .i64 b, .int .i64 w] h (fun en h' => en = .ret (.bool r) ∧ Ext h h') := by
 rw [← hr]
 exact span80_ok ha hb
theorem Pile51_ok {C : ClampV} {p e : AVal} {n : Int} {h : AH} (A : ClampAt h C p e) (B : ClampB C) : Runs Tryz.prog 51 [.agg (C.cells p e), .int .i64 n] h (fun en h' => en = .ret (.bool (decide (0 ≤ n ∧ n ≤ (C.ps.length : Int) - 1))) ∧ Ext h h') := by
 have hl1 := A.ps.len
 rw [List.length_map] at hl1
 have := B.p
 unfold ClampV.cells
 have e0 : Ext h h := Ext.refl _
 refine Runs.intro aFunc51 rfl rfl rfl rfl fun rest => ?_;apply gS;refine gR rfl ?_;refine GoR.box rfl rfl rfl rfl rfl rfl fun h0 x0 f0 => ?_;replace e0 := e0.trans x0;refine gP ?_;apply gE;apply gS;refine gR rfl ?_;refine gP ?_;refine gO rfl rfl (fa27_0 rfl) rfl ?_;refine gO rfl rfl (ld22 rfl f0 rfl) rfl ?_;refine gO rfl rfl (aOp_lenSlice Tryz.underlying22 rfl hl1) rfl ?_;refine gO rfl rfl (aS rfl rfl) rfl ?_;refine GoR.call rfl rfl (aCF aFunc79 rfl) (in79_ok) ?_ np;rintro v1 h1 ⟨q, x1⟩;cases q;refine ⟨_, rfl, ?_⟩;replace e0 := e0.trans x1;refine gP ?_;apply gE;exact gW Tryz.func51 rfl rfl ⟨rfl, e0⟩
theorem Pile51_is {C : ClampV} {p e : AVal} {n : Int} {h : AH} (A : ClampAt h C p e) (B : ClampB C) {r : Bool} (hr : decide (0 ≤ n ∧ n ≤ (C.ps.length : Int) - 1) = r) : Runs Tryz.prog 51 [.agg (C.cells p e), .int .i64 n] h (fun en h' => en = .ret (.bool r) ∧ Ext h h') := by
 rw [← hr]
 exact Pile51_ok A B
theorem event81_ok {C : ClampV} {p e : AVal} {x : EV} {h : AH} (A : ClampAt h C p e) (B : ClampB C) : Runs Tryz.prog 81 [.agg (C.cells p e), .agg x.cells] h (fun en h' => en = .ret (.bool (decide (x.Ok C.ps.length))) ∧ Ext h h') := by
 have hp := fun {h'} A r hr => Pile51_is (C := C) (p := p) (e := e) (n := x.cl) (h := h') A B (r := r) hr
 unfold EV.cells ClampV.cells at *
 by_cases q1 : 0 ≤ x.cl ∧ x.cl ≤ (C.ps.length : Int) - 1
 ·by_cases k0 : x.kind = 0
  ·have : decide (x.Ok C.ps.length) = decide ((x.lo ≤ x.hi ∧ 0 ≤ x.lo ∧ x.hi ≤ 5000) ∧ x.hi - x.lo ≤ 3) := by
    rw [decide_eq_decide]
    unfold EV.Ok
    omega
   rw [this]
   have e0 : Ext h h := Ext.refl _
   refine Runs.intro aFunc81 rfl rfl rfl rfl fun rest => ?_;apply gS;refine gR rfl ?_;refine GoR.box rfl rfl rfl rfl rfl rfl fun h0 x0 f0 => ?_;replace e0 := e0.trans x0;refine GoR.box rfl rfl rfl rfl rfl rfl fun h1 x1 f1 => ?_;replace f0 := f0.ext x1;replace e0 := e0.trans x1;refine gP ?_;apply gE;iterate 2 apply gS
   refine gR rfl ?_;refine gO rfl rfl (ld27 rfl f0 rfl) rfl ?_;refine gO rfl rfl (fa53_1 rfl) rfl ?_;refine gO rfl rfl (ld3 rfl f1 rfl) rfl ?_;refine GoR.call rfl rfl (aCF aFunc51 rfl) (hp (A.ext e0) true (decide_eq_true q1)) ?_ np;rintro v2 h2 ⟨q, x2⟩;cases q;refine ⟨_, rfl, ?_⟩;replace f1 := f1.ext x2;replace e0 := e0.trans x2;refine gP ?_;apply gE;refine gC (b := false) rfl ?_;refine gD ?_;iterate 2 apply gS
   refine gR rfl ?_;refine gO rfl rfl (fa53_0 rfl) rfl ?_;refine gO rfl rfl (ld3 rfl f1 rfl) rfl ?_;apply gE;refine Go.block noJ_ok ?_;apply gS;refine gR rfl ?_;refine gO rfl rfl (kET rfl rfl) rfl ?_;refine gP ?_;apply gE;refine gC (b := true) rfl ?_;apply gS;refine gR rfl ?_;refine gO rfl rfl (fa53_2 rfl) rfl ?_;refine gO rfl rfl (ld24 rfl f1 rfl) rfl ?_;refine GoR.call rfl rfl (aCF aFunc80 rfl) (span80_ok (by omega) (by omega)) ?_ np;rintro v3 h3 ⟨q, x3⟩;cases q;refine ⟨_, rfl, ?_⟩;replace e0 := e0.trans x3;refine gP ?_;apply gE;exact gW Tryz.func81 rfl rfl ⟨rfl, e0⟩
  ·by_cases k1 : x.kind = 1
   ·have : decide (x.Ok C.ps.length) = decide ((x.lo ≤ x.hi ∧ 0 ≤ x.lo ∧ x.hi ≤ 5000) ∧ x.hi - x.lo ≤ 5000) := by
     rw [decide_eq_decide]
     unfold EV.Ok
     omega
    rw [this]
    have e0 : Ext h h := Ext.refl _
    refine Runs.intro aFunc81 rfl rfl rfl rfl fun rest => ?_;apply gS;refine gR rfl ?_;refine GoR.box rfl rfl rfl rfl rfl rfl fun h0 x0 f0 => ?_;replace e0 := e0.trans x0;refine GoR.box rfl rfl rfl rfl rfl rfl fun h1 x1 f1 => ?_;replace f0 := f0.ext x1;replace e0 := e0.trans x1;refine gP ?_;apply gE;iterate 2 apply gS
    refine gR rfl ?_;refine gO rfl rfl (ld27 rfl f0 rfl) rfl ?_;refine gO rfl rfl (fa53_1 rfl) rfl ?_;refine gO rfl rfl (ld3 rfl f1 rfl) rfl ?_;refine GoR.call rfl rfl (aCF aFunc51 rfl) (hp (A.ext e0) true (decide_eq_true q1)) ?_ np;rintro v2 h2 ⟨q, x2⟩;cases q;refine ⟨_, rfl, ?_⟩;replace f1 := f1.ext x2;replace e0 := e0.trans x2;refine gP ?_;apply gE;refine gC (b := false) rfl ?_;refine gD ?_;iterate 2 apply gS
    refine gR rfl ?_;refine gO rfl rfl (fa53_0 rfl) rfl ?_;refine gO rfl rfl (ld3 rfl f1 rfl) rfl ?_;apply gE;refine Go.block noJ_ok ?_;apply gS;refine gR rfl ?_;refine gO rfl rfl (kEF rfl rfl) rfl ?_;refine gP ?_;apply gE;refine gC (b := false) rfl ?_;apply gS;refine gR rfl ?_;refine gO rfl rfl (kET rfl rfl) rfl ?_;refine gP ?_;apply gE;refine gC (b := true) rfl ?_;apply gS;refine gR rfl ?_;refine gO rfl rfl (fa53_2 rfl) rfl ?_;refine gO rfl rfl (ld24 rfl f1 rfl) rfl ?_;refine GoR.call rfl rfl (aCF aFunc80 rfl) (span80_ok (by omega) (by omega)) ?_ np;rintro v3 h3 ⟨q, x3⟩;cases q;refine ⟨_, rfl, ?_⟩;replace e0 := e0.trans x3;refine gP ?_;apply gE;exact gW Tryz.func81 rfl rfl ⟨rfl, e0⟩
   ·rw [decide_eq_false (p := x.Ok C.ps.length) (fun w => by unfold EV.Ok at w; omega)]
    have e0 : Ext h h := Ext.refl _
    refine Runs.intro aFunc81 rfl rfl rfl rfl fun rest => ?_;apply gS;refine gR rfl ?_;refine GoR.box rfl rfl rfl rfl rfl rfl fun h0 x0 f0 => ?_;replace e0 := e0.trans x0;refine GoR.box rfl rfl rfl rfl rfl rfl fun h1 x1 f1 => ?_;replace f0 := f0.ext x1;replace e0 := e0.trans x1;refine gP ?_;apply gE;iterate 2 apply gS
    refine gR rfl ?_;refine gO rfl rfl (ld27 rfl f0 rfl) rfl ?_;refine gO rfl rfl (fa53_1 rfl) rfl ?_;refine gO rfl rfl (ld3 rfl f1 rfl) rfl ?_;refine GoR.call rfl rfl (aCF aFunc51 rfl) (hp (A.ext e0) true (decide_eq_true q1)) ?_ np;rintro v2 h2 ⟨q, x2⟩;cases q;refine ⟨_, rfl, ?_⟩;replace f1 := f1.ext x2;replace e0 := e0.trans x2;refine gP ?_;apply gE;refine gC (b := false) rfl ?_;refine gD ?_;iterate 2 apply gS
    refine gR rfl ?_;refine gO rfl rfl (fa53_0 rfl) rfl ?_;refine gO rfl rfl (ld3 rfl f1 rfl) rfl ?_;apply gE;refine Go.block noJ_ok ?_;apply gS;refine gR rfl ?_;refine gO rfl rfl (kEF rfl rfl) rfl ?_;refine gP ?_;apply gE;refine gC (b := false) rfl ?_;apply gS;refine gR rfl ?_;refine gO rfl rfl (kEF rfl rfl) rfl ?_;refine gP ?_;apply gE;refine gC (b := false) rfl ?_;refine gD ?_;refine Go.inBlock noJ_ok ?_;apply gS;refine gR rfl ?_;refine gP ?_;apply gE;exact gW Tryz.func81 rfl rfl ⟨rfl, e0⟩
 ·rw [decide_eq_false (p := x.Ok C.ps.length) (fun w => q1 w.1)]
  have e0 : Ext h h := Ext.refl _
  refine Runs.intro aFunc81 rfl rfl rfl rfl fun rest => ?_;apply gS;refine gR rfl ?_;refine GoR.box rfl rfl rfl rfl rfl rfl fun h0 x0 f0 => ?_;replace e0 := e0.trans x0;refine GoR.box rfl rfl rfl rfl rfl rfl fun h1 x1 f1 => ?_;replace f0 := f0.ext x1;replace e0 := e0.trans x1;refine gP ?_;apply gE;iterate 2 apply gS
  refine gR rfl ?_;refine gO rfl rfl (ld27 rfl f0 rfl) rfl ?_;refine gO rfl rfl (fa53_1 rfl) rfl ?_;refine gO rfl rfl (ld3 rfl f1 rfl) rfl ?_;refine GoR.call rfl rfl (aCF aFunc51 rfl) (hp (A.ext e0) false (decide_eq_false q1)) ?_ np;rintro v2 h2 ⟨q, x2⟩;cases q;refine ⟨_, rfl, ?_⟩;replace e0 := e0.trans x2;refine gP ?_;apply gE;refine gC (b := true) rfl ?_;apply gS;refine gR rfl ?_;refine gP ?_;apply gE;exact gW Tryz.func81 rfl rfl ⟨rfl, e0⟩
theorem Clamp30_ok {C : ClampV} {p e : AVal} {h : AH} (A : ClampAt h C p e) (B : ClampB C) : Runs Tryz.prog 30 [.agg (C.cells p e)] h (fun en h' => en = .ret (.bool (decide C.Ok)) ∧ Ext h h') := by
 have hl1 := A.ps.len
 have hl2 := A.es.len
 rw [List.length_map] at hl1 hl2
 have hb1 := B.p
 have hb2 := B.e
 have hsm := A.same
 have hev := fun {h'} x A => event81_ok (C := C) (p := p) (e := e) (x := x) (h := h') A B
 unfold ClampV.cells EV.cells at *
 by_cases q0 : 1 ≤ C.ps.length ∧ C.ps.length ≤ 4
 ·by_cases q1 : (C.pl ≤ C.ph ∧ 1 ≤ C.pl ∧ C.ph ≤ 5) ∧ C.ph - C.pl ≤ 2
  ·by_cases q2 : C.es.length ≤ 6
   ·have e0 : Ext h h := Ext.refl _
    refine Runs.intro aFunc30 rfl rfl rfl rfl fun rest => ?_;apply gS;refine gR rfl ?_;refine GoR.box rfl rfl rfl rfl rfl rfl fun h0 x0 f0 => ?_;have := e0.1;replace e0 := e0.trans x0;have := f0.1;refine gP ?_;apply gE;iterate 2 apply gS
    refine gR rfl ?_;refine gO rfl rfl (fa27_0 rfl) rfl ?_;refine gO rfl rfl (ld22 rfl f0 rfl) rfl ?_;refine gO rfl rfl (aOp_lenSlice Tryz.underlying22 rfl hl1) rfl ?_;refine GoR.call rfl rfl (aCF aFunc79 rfl) (in79_is (r := true) (dt (by omega))) ?_ np;rintro v1 h1 ⟨q, x1⟩;cases q;refine ⟨_, rfl, ?_⟩;replace f0 := f0.ext x1;replace e0 := e0.trans x1;iterate 2 refine gP ?_
    refine gO rfl rfl (fa27_1 rfl) rfl ?_;refine gO rfl rfl (ld24 rfl f0 rfl) rfl ?_;refine GoR.call rfl rfl (aCF aFunc80 rfl) (span80_is (by omega) (by omega) (r := true) (decide_eq_true q1)) ?_ np;rintro v2 h2 ⟨q, x2⟩;cases q;refine ⟨_, rfl, ?_⟩;replace f0 := f0.ext x2;replace e0 := e0.trans x2;iterate 3 refine gP ?_
    refine gO rfl rfl (fa27_2 rfl) rfl ?_;refine gO rfl rfl (ld25 rfl f0 rfl) rfl ?_;refine gO rfl rfl (aOp_lenSlice Tryz.underlying25 rfl hl2) rfl ?_;refine gO rfl rfl (kGF rfl rfl) rfl ?_;refine gP ?_;apply gE;refine gC (b := false) rfl ?_;refine gD ?_;iterate 2 apply gS
    refine gR rfl ?_;refine gP ?_;apply gE;refine Go.block noJ_ok ?_
    have hb0 := f0.1
    refine Go.loopKeep (fun i : Nat => [(1, .ptr h.next 0), (3, .int .i64 (i : Nat))]) (fun m i h' => m + i = C.ps.length ∧ Ext h h' ∧ Has h' h.next (.cells .plain [p, .int .i64 C.pl, .int .i64 C.ph, e] 27) ∧ ∀ x, x ∈ C.ps.take i → x.Ok) (n := C.ps.length) 0 ⟨rfl, rfl, trivial⟩ ⟨rfl, e0, f0, fun p hp => by simp at hp⟩ ?_;clear e0 f0;rintro m i hc ⟨hm, e0, f0, hok⟩ again
    have hce := e0.1
    have hb0 := f0.1
    by_cases hi : i < C.ps.length
    ·obtain ⟨x, hx⟩ : ∃ x, C.ps[i]? = some x := ⟨C.ps[i], by simp [hi]⟩
     have hxm := List.mem_of_getElem? hx
     obtain ⟨bq, off, u1, u2⟩ := A.ps.at (i := i) (l := PV.cells x) (by rw [List.getElem?_map, hx]; rfl)
     rw [List.length_map] at u1
     unfold PV.cells at u2
     by_cases c1 : FeetOk x.ll x.lh
     ·by_cases c2 : FeetOk x.wl x.wh
      ·by_cases c3 : FeetOk x.hl x.hh
       ·have hxO : x.Ok := ⟨c1, c2, c3⟩
        unfold FeetOk at c1 c2 c3
        iterate 2 apply gS
        refine gR rfl ?_;refine gP ?_;refine gO rfl rfl (fa27_0 rfl) rfl ?_;refine gO rfl rfl (ld22 rfl f0 rfl) rfl ?_;refine gO rfl rfl (aOp_lenSlice Tryz.underlying22 rfl hl1) rfl ?_;refine gO rfl rfl (kLT rfl rfl) rfl ?_;apply gE;refine gC (b := true) rfl ?_;refine gD ?_;apply gS;refine Go.block noJ_ok ?_;apply gS;refine gR rfl ?_;refine gO rfl rfl (fa27_0 rfl) rfl ?_;refine gO rfl rfl (ld22 rfl f0 rfl) rfl ?_;refine gP ?_;refine gO rfl rfl (aOp_indexAddr (i := i) Tryz.underlying22 sz58 rfl u1 rfl (Nat.ble_eq_true_of_le hi)) rfl ?_;refine gO rfl rfl (aOp_loadE ag58 sz58 rfl (u2.ext (by assumption))) rfl ?_;refine GoR.alloc rfl rfl rfl zt58 rfl rfl fun h3 x3 f3 => ?_;have := e0.1;have := f0.1;replace f0 := f0.ext x3;replace e0 := e0.trans x3;have := f3.1;refine GoR.store rfl rfl rfl rfl rfl rfl f3 rfl sz58 rfl rfl rfl fun h4 u4 => ?_;replace f3 := u4.has f3;replace f0 := f0.upd u4 (by omega);replace e0 := e0.upd u4 (by omega);apply gE;apply gS;refine gR rfl ?_;refine gO rfl rfl (fa58_0 rfl) rfl ?_;refine gO rfl rfl (ld24 rfl f3 rfl) rfl ?_;refine GoR.call rfl rfl (aCF aFunc80 rfl) (span80_is (by omega) (by omega) (r := true) (decide_eq_true (by assumption))) ?_ np;rintro v5 h5 ⟨q, x5⟩;cases q;refine ⟨_, rfl, ?_⟩;replace f3 := f3.ext x5;replace f0 := f0.ext x5;replace e0 := e0.trans x5;iterate 2 refine gP ?_
        refine gO rfl rfl (fa58_1 rfl) rfl ?_;refine gO rfl rfl (ld24 rfl f3 rfl) rfl ?_;refine GoR.call rfl rfl (aCF aFunc80 rfl) (span80_is (by omega) (by omega) (r := true) (decide_eq_true (by assumption))) ?_ np;rintro v6 h6 ⟨q, x6⟩;cases q;refine ⟨_, rfl, ?_⟩;replace f3 := f3.ext x6;replace f0 := f0.ext x6;replace e0 := e0.trans x6;iterate 3 refine gP ?_
        refine gO rfl rfl (fa58_2 rfl) rfl ?_;refine gO rfl rfl (ld24 rfl f3 rfl) rfl ?_;refine GoR.call rfl rfl (aCF aFunc80 rfl) (span80_is (by omega) (by omega) (r := true) (decide_eq_true (by assumption))) ?_ np;rintro v7 h7 ⟨q, x7⟩;cases q;refine ⟨_, rfl, ?_⟩;replace f0 := f0.ext x7;replace e0 := e0.trans x7;iterate 2 refine gP ?_
        apply gE;refine gC (b := false) rfl ?_;refine gD ?_;refine Go.inBlock noJ_ok ?_;refine gR rfl ?_;refine gP ?_;refine gO rfl rfl (aA rfl rfl) rfl ?_;refine gP ?_;apply gE;refine again (m - 1) (i + 1) _ _ (by omega) ⟨rfl, rfl, trivial⟩ ⟨by omega, e0, f0, fun x' hx' => ?_⟩;rw [List.take_add_one, hx, Option.toList_some, List.mem_append, List.mem_singleton] at hx'
        rcases hx' with hx' | rfl
        ·exact hok x' hx'
        ·exact hxO
       ·rw [show decide C.Ok = false from decide_eq_false fun O => c3 (O.p x hxm).2.2]
        unfold FeetOk at c1 c2 c3
        iterate 2 apply gS
        refine gR rfl ?_;refine gP ?_;refine gO rfl rfl (fa27_0 rfl) rfl ?_;refine gO rfl rfl (ld22 rfl f0 rfl) rfl ?_;refine gO rfl rfl (aOp_lenSlice Tryz.underlying22 rfl hl1) rfl ?_;refine gO rfl rfl (kLT rfl rfl) rfl ?_;apply gE;refine gC (b := true) rfl ?_;refine gD ?_;apply gS;refine Go.block noJ_ok ?_;apply gS;refine gR rfl ?_;refine gO rfl rfl (fa27_0 rfl) rfl ?_;refine gO rfl rfl (ld22 rfl f0 rfl) rfl ?_;refine gP ?_;refine gO rfl rfl (aOp_indexAddr (i := i) Tryz.underlying22 sz58 rfl u1 rfl (Nat.ble_eq_true_of_le hi)) rfl ?_;refine gO rfl rfl (aOp_loadE ag58 sz58 rfl (u2.ext (by assumption))) rfl ?_;refine GoR.alloc rfl rfl rfl zt58 rfl rfl fun h3 x3 f3 => ?_;have := e0.1;have := f0.1;replace f0 := f0.ext x3;replace e0 := e0.trans x3;have := f3.1;refine GoR.store rfl rfl rfl rfl rfl rfl f3 rfl sz58 rfl rfl rfl fun h4 u4 => ?_;replace f3 := u4.has f3;replace f0 := f0.upd u4 (by omega);replace e0 := e0.upd u4 (by omega);apply gE;apply gS;refine gR rfl ?_;refine gO rfl rfl (fa58_0 rfl) rfl ?_;refine gO rfl rfl (ld24 rfl f3 rfl) rfl ?_;refine GoR.call rfl rfl (aCF aFunc80 rfl) (span80_is (by omega) (by omega) (r := true) (decide_eq_true (by assumption))) ?_ np;rintro v5 h5 ⟨q, x5⟩;cases q;refine ⟨_, rfl, ?_⟩;replace f3 := f3.ext x5;replace f0 := f0.ext x5;replace e0 := e0.trans x5;iterate 2 refine gP ?_
        refine gO rfl rfl (fa58_1 rfl) rfl ?_;refine gO rfl rfl (ld24 rfl f3 rfl) rfl ?_;refine GoR.call rfl rfl (aCF aFunc80 rfl) (span80_is (by omega) (by omega) (r := true) (decide_eq_true (by assumption))) ?_ np;rintro v6 h6 ⟨q, x6⟩;cases q;refine ⟨_, rfl, ?_⟩;replace f3 := f3.ext x6;replace f0 := f0.ext x6;replace e0 := e0.trans x6;iterate 3 refine gP ?_
        refine gO rfl rfl (fa58_2 rfl) rfl ?_;refine gO rfl rfl (ld24 rfl f3 rfl) rfl ?_;refine GoR.call rfl rfl (aCF aFunc80 rfl) (span80_is (by omega) (by omega) (r := false) (decide_eq_false (by assumption))) ?_ np;rintro v7 h7 ⟨q, x7⟩;cases q;refine ⟨_, rfl, ?_⟩;replace e0 := e0.trans x7;iterate 2 refine gP ?_
        apply gE;refine gC (b := true) rfl ?_;apply gS;refine gR rfl ?_;refine gP ?_;apply gE;exact gW Tryz.func30 rfl rfl ⟨rfl, e0⟩
      ·rw [show decide C.Ok = false from decide_eq_false fun O => c2 (O.p x hxm).2.1]
       unfold FeetOk at c1 c2
       iterate 2 apply gS
       refine gR rfl ?_;refine gP ?_;refine gO rfl rfl (fa27_0 rfl) rfl ?_;refine gO rfl rfl (ld22 rfl f0 rfl) rfl ?_;refine gO rfl rfl (aOp_lenSlice Tryz.underlying22 rfl hl1) rfl ?_;refine gO rfl rfl (kLT rfl rfl) rfl ?_;apply gE;refine gC (b := true) rfl ?_;refine gD ?_;apply gS;refine Go.block noJ_ok ?_;apply gS;refine gR rfl ?_;refine gO rfl rfl (fa27_0 rfl) rfl ?_;refine gO rfl rfl (ld22 rfl f0 rfl) rfl ?_;refine gP ?_;refine gO rfl rfl (aOp_indexAddr (i := i) Tryz.underlying22 sz58 rfl u1 rfl (Nat.ble_eq_true_of_le hi)) rfl ?_;refine gO rfl rfl (aOp_loadE ag58 sz58 rfl (u2.ext (by assumption))) rfl ?_;refine GoR.alloc rfl rfl rfl zt58 rfl rfl fun h3 x3 f3 => ?_;have := e0.1;have := f0.1;replace f0 := f0.ext x3;replace e0 := e0.trans x3;have := f3.1;refine GoR.store rfl rfl rfl rfl rfl rfl f3 rfl sz58 rfl rfl rfl fun h4 u4 => ?_;replace f3 := u4.has f3;replace f0 := f0.upd u4 (by omega);replace e0 := e0.upd u4 (by omega);apply gE;apply gS;refine gR rfl ?_;refine gO rfl rfl (fa58_0 rfl) rfl ?_;refine gO rfl rfl (ld24 rfl f3 rfl) rfl ?_;refine GoR.call rfl rfl (aCF aFunc80 rfl) (span80_is (by omega) (by omega) (r := true) (decide_eq_true (by assumption))) ?_ np;rintro v5 h5 ⟨q, x5⟩;cases q;refine ⟨_, rfl, ?_⟩;replace f3 := f3.ext x5;replace f0 := f0.ext x5;replace e0 := e0.trans x5;iterate 2 refine gP ?_
       refine gO rfl rfl (fa58_1 rfl) rfl ?_;refine gO rfl rfl (ld24 rfl f3 rfl) rfl ?_;refine GoR.call rfl rfl (aCF aFunc80 rfl) (span80_is (by omega) (by omega) (r := false) (decide_eq_false (by assumption))) ?_ np;rintro v6 h6 ⟨q, x6⟩;cases q;refine ⟨_, rfl, ?_⟩;replace e0 := e0.trans x6;iterate 3 refine gP ?_
       iterate 4 refine GoR.skip rfl rfl rfl ?_
       refine gP ?_;apply gE;refine gC (b := true) rfl ?_;apply gS;refine gR rfl ?_;refine gP ?_;apply gE;exact gW Tryz.func30 rfl rfl ⟨rfl, e0⟩
     ·rw [show decide C.Ok = false from decide_eq_false fun O => c1 (O.p x hxm).1]
      unfold FeetOk at c1
      iterate 2 apply gS
      refine gR rfl ?_;refine gP ?_;refine gO rfl rfl (fa27_0 rfl) rfl ?_;refine gO rfl rfl (ld22 rfl f0 rfl) rfl ?_;refine gO rfl rfl (aOp_lenSlice Tryz.underlying22 rfl hl1) rfl ?_;refine gO rfl rfl (kLT rfl rfl) rfl ?_;apply gE;refine gC (b := true) rfl ?_;refine gD ?_;apply gS;refine Go.block noJ_ok ?_;apply gS;refine gR rfl ?_;refine gO rfl rfl (fa27_0 rfl) rfl ?_;refine gO rfl rfl (ld22 rfl f0 rfl) rfl ?_;refine gP ?_;refine gO rfl rfl (aOp_indexAddr (i := i) Tryz.underlying22 sz58 rfl u1 rfl (Nat.ble_eq_true_of_le hi)) rfl ?_;refine gO rfl rfl (aOp_loadE ag58 sz58 rfl (u2.ext (by assumption))) rfl ?_;refine GoR.alloc rfl rfl rfl zt58 rfl rfl fun h3 x3 f3 => ?_;have := e0.1;have := f0.1;replace f0 := f0.ext x3;replace e0 := e0.trans x3;have := f3.1;refine GoR.store rfl rfl rfl rfl rfl rfl f3 rfl sz58 rfl rfl rfl fun h4 u4 => ?_;replace f3 := u4.has f3;replace f0 := f0.upd u4 (by omega);replace e0 := e0.upd u4 (by omega);apply gE;apply gS;refine gR rfl ?_;refine gO rfl rfl (fa58_0 rfl) rfl ?_;refine gO rfl rfl (ld24 rfl f3 rfl) rfl ?_;refine GoR.call rfl rfl (aCF aFunc80 rfl) (span80_is (by omega) (by omega) (r := false) (decide_eq_false (by assumption))) ?_ np;rintro v5 h5 ⟨q, x5⟩;cases q;refine ⟨_, rfl, ?_⟩;replace e0 := e0.trans x5;iterate 2 refine gP ?_
      iterate 4 refine GoR.skip rfl rfl rfl ?_
      iterate 2 refine gP ?_
      iterate 4 refine GoR.skip rfl rfl rfl ?_
      refine gP ?_;apply gE;refine gC (b := true) rfl ?_;apply gS;refine gR rfl ?_;refine gP ?_;apply gE;exact gW Tryz.func30 rfl rfl ⟨rfl, e0⟩
    ·rw [List.take_of_length_le (by omega)] at hok;iterate 2 apply gS
     refine gR rfl ?_;refine gP ?_;refine gO rfl rfl (fa27_0 rfl) rfl ?_;refine gO rfl rfl (ld22 rfl f0 rfl) rfl ?_;refine gO rfl rfl (aOp_lenSlice Tryz.underlying22 rfl hl1) rfl ?_;refine gO rfl rfl (kLF rfl rfl) rfl ?_;apply gE;refine gC (b := false) rfl ?_;refine gD ?_;iterate 2 apply gS
     refine gR rfl ?_;refine gP ?_;apply gE;refine Go.block noJ_ok ?_;refine Go.loopKeep (fun i : Nat => [(1, .ptr h.next 0), (5, .int .i64 (i : Nat))]) (fun m i h' => m + i = C.es.length ∧ Ext h h' ∧ Has h' h.next (.cells .plain [p, .int .i64 C.pl, .int .i64 C.ph, e] 27) ∧ ∀ x, x ∈ C.es.take i → x.Ok C.ps.length) (n := C.es.length) 0 ⟨rfl, rfl, trivial⟩ ⟨rfl, e0, f0, fun p hp => by simp at hp⟩ ?_;clear e0 f0 again;rintro m i hc ⟨hm, e0, f0, hok2⟩ again
     have hce := e0.1
     have hb0 := f0.1
     by_cases hi : i < C.es.length
     ·obtain ⟨x, hx⟩ : ∃ x, C.es[i]? = some x := ⟨C.es[i], by simp [hi]⟩
      have hxm := List.mem_of_getElem? hx
      obtain ⟨bq, off, u1, u2⟩ := A.es.at (i := i) (l := EV.cells x) (by rw [List.getElem?_map, hx]; rfl)
      rw [List.length_map] at u1
      unfold EV.cells at u2
      have hevx := fun {h'} A => hev (h' := h') x A
      by_cases c1 : x.Ok C.ps.length
      ·rw [decide_eq_true c1] at hevx;iterate 2 apply gS
       refine gR rfl ?_;refine gP ?_;refine gO rfl rfl (fa27_2 rfl) rfl ?_;refine gO rfl rfl (ld25 rfl f0 rfl) rfl ?_;refine gO rfl rfl (aOp_lenSlice Tryz.underlying25 rfl hl2) rfl ?_;refine gO rfl rfl (kLT rfl rfl) rfl ?_;apply gE;refine gC (b := true) rfl ?_;refine gD ?_;apply gS;refine Go.block noJ_ok ?_;apply gS;refine Go.drawnE plan30_0 ?_;refine gQ rfl rfl (ld27 rfl f0 rfl) rfl ?_;refine gQ rfl rfl (fa27_2 rfl) rfl ?_;refine gQ rfl rfl (ld25 rfl f0 rfl) rfl ?_;refine gQ rfl rfl rfl rfl ?_;refine gQ rfl rfl (aOp_indexAddr (i := i) Tryz.underlying25 sz53 rfl u1 rfl (Nat.ble_eq_true_of_le hi)) rfl ?_;refine gQ rfl rfl (aOp_loadE ag53 sz53 rfl (u2.ext (by assumption))) rfl ?_;refine GoE.call rfl rfl (aCF aFunc81 rfl) (hevx (A.ext e0)) (dD 63 5 (dD 63 4 (dD 63 3 (dD 63 2 (dD 63 1 (dD 63 0 rfl)))))) ?_ np;rintro v3 h3 ⟨q, x3⟩;cases q;replace f0 := f0.ext x3;replace e0 := e0.trans x3;refine ⟨recheck_nil, _, rfl, ?_⟩;refine gQ rfl rfl rfl rfl ?_;refine GoE.end rfl ?_;refine gC (b := false) rfl ?_;refine gD ?_;refine Go.inBlock noJ_ok ?_;refine gR rfl ?_;refine gP ?_;refine gO rfl rfl (aA rfl rfl) rfl ?_;refine gP ?_;apply gE;refine again (m - 1) (i + 1) _ _ (by omega) ⟨rfl, rfl, trivial⟩ ⟨by omega, e0, f0, fun x' hx' => ?_⟩;rw [List.take_add_one, hx, Option.toList_some, List.mem_append, List.mem_singleton] at hx'
       rcases hx' with hx' | rfl
       ·exact hok2 x' hx'
       ·exact c1
      ·rw [decide_eq_false c1] at hevx;rw [show decide C.Ok = false from decide_eq_false fun O => c1 (O.e x hxm)];iterate 2 apply gS
       refine gR rfl ?_;refine gP ?_;refine gO rfl rfl (fa27_2 rfl) rfl ?_;refine gO rfl rfl (ld25 rfl f0 rfl) rfl ?_;refine gO rfl rfl (aOp_lenSlice Tryz.underlying25 rfl hl2) rfl ?_;refine gO rfl rfl (kLT rfl rfl) rfl ?_;apply gE;refine gC (b := true) rfl ?_;refine gD ?_;apply gS;refine Go.block noJ_ok ?_;apply gS;refine Go.drawnE plan30_0 ?_;refine gQ rfl rfl (ld27 rfl f0 rfl) rfl ?_;refine gQ rfl rfl (fa27_2 rfl) rfl ?_;refine gQ rfl rfl (ld25 rfl f0 rfl) rfl ?_;refine gQ rfl rfl rfl rfl ?_;refine gQ rfl rfl (aOp_indexAddr (i := i) Tryz.underlying25 sz53 rfl u1 rfl (Nat.ble_eq_true_of_le hi)) rfl ?_;refine gQ rfl rfl (aOp_loadE ag53 sz53 rfl (u2.ext (by assumption))) rfl ?_;refine GoE.call rfl rfl (aCF aFunc81 rfl) (hevx (A.ext e0)) (dD 63 5 (dD 63 4 (dD 63 3 (dD 63 2 (dD 63 1 (dD 63 0 rfl)))))) ?_ np;rintro v3 h3 ⟨q, x3⟩;cases q;replace e0 := e0.trans x3;refine ⟨recheck_nil, _, rfl, ?_⟩;refine gQ rfl rfl rfl rfl ?_;refine GoE.end rfl ?_;refine gC (b := true) rfl ?_;apply gS;refine gR rfl ?_;refine gP ?_;apply gE;exact gW Tryz.func30 rfl rfl ⟨rfl, e0⟩
     ·rw [List.take_of_length_le (by omega)] at hok2;rw [show decide C.Ok = true from decide_eq_true ⟨q0, hok, q1, q2, hok2⟩];iterate 2 apply gS
      refine gR rfl ?_;refine gP ?_;refine gO rfl rfl (fa27_2 rfl) rfl ?_;refine gO rfl rfl (ld25 rfl f0 rfl) rfl ?_;refine gO rfl rfl (aOp_lenSlice Tryz.underlying25 rfl hl2) rfl ?_;refine gO rfl rfl (kLF rfl rfl) rfl ?_;apply gE;refine gC (b := false) rfl ?_;refine gD ?_;apply gS;refine gR rfl ?_;refine gP ?_;apply gE;exact gW Tryz.func30 rfl rfl ⟨rfl, e0⟩
   ·rw [show decide C.Ok = false from decide_eq_false fun O => q2 O.ne]
    have e0 : Ext h h := Ext.refl _
    refine Runs.intro aFunc30 rfl rfl rfl rfl fun rest => ?_;apply gS;refine gR rfl ?_;refine GoR.box rfl rfl rfl rfl rfl rfl fun h0 x0 f0 => ?_;replace e0 := e0.trans x0;refine gP ?_;apply gE;iterate 2 apply gS
    refine gR rfl ?_;refine gO rfl rfl (fa27_0 rfl) rfl ?_;refine gO rfl rfl (ld22 rfl f0 rfl) rfl ?_;refine gO rfl rfl (aOp_lenSlice Tryz.underlying22 rfl hl1) rfl ?_;refine GoR.call rfl rfl (aCF aFunc79 rfl) (in79_is (r := true) (dt (by omega))) ?_ np;rintro v1 h1 ⟨q, x1⟩;cases q;refine ⟨_, rfl, ?_⟩;replace f0 := f0.ext x1;replace e0 := e0.trans x1;iterate 2 refine gP ?_
    refine gO rfl rfl (fa27_1 rfl) rfl ?_;refine gO rfl rfl (ld24 rfl f0 rfl) rfl ?_;refine GoR.call rfl rfl (aCF aFunc80 rfl) (span80_is (by omega) (by omega) (r := true) (decide_eq_true q1)) ?_ np;rintro v2 h2 ⟨q, x2⟩;cases q;refine ⟨_, rfl, ?_⟩;replace f0 := f0.ext x2;replace e0 := e0.trans x2;iterate 3 refine gP ?_
    refine gO rfl rfl (fa27_2 rfl) rfl ?_;refine gO rfl rfl (ld25 rfl f0 rfl) rfl ?_;refine gO rfl rfl (aOp_lenSlice Tryz.underlying25 rfl hl2) rfl ?_;refine gO rfl rfl (kGT rfl rfl) rfl ?_;refine gP ?_;apply gE;refine gC (b := true) rfl ?_;apply gS;refine gR rfl ?_;refine gP ?_;apply gE;exact gW Tryz.func30 rfl rfl ⟨rfl, e0⟩
  ·rw [show decide C.Ok = false from decide_eq_false fun O => q1 O.k]
   have e0 : Ext h h := Ext.refl _
   refine Runs.intro aFunc30 rfl rfl rfl rfl fun rest => ?_;apply gS;refine gR rfl ?_;refine GoR.box rfl rfl rfl rfl rfl rfl fun h0 x0 f0 => ?_;replace e0 := e0.trans x0;refine gP ?_;apply gE;iterate 2 apply gS
   refine gR rfl ?_;refine gO rfl rfl (fa27_0 rfl) rfl ?_;refine gO rfl rfl (ld22 rfl f0 rfl) rfl ?_;refine gO rfl rfl (aOp_lenSlice Tryz.underlying22 rfl hl1) rfl ?_;refine GoR.call rfl rfl (aCF aFunc79 rfl) (in79_is (r := true) (dt (by omega))) ?_ np;rintro v1 h1 ⟨q, x1⟩;cases q;refine ⟨_, rfl, ?_⟩;replace f0 := f0.ext x1;replace e0 := e0.trans x1;iterate 2 refine gP ?_
   refine gO rfl rfl (fa27_1 rfl) rfl ?_;refine gO rfl rfl (ld24 rfl f0 rfl) rfl ?_;refine GoR.call rfl rfl (aCF aFunc80 rfl) (span80_is (by omega) (by omega) (r := false) (decide_eq_false q1)) ?_ np;rintro v2 h2 ⟨q, x2⟩;cases q;refine ⟨_, rfl, ?_⟩;replace e0 := e0.trans x2;iterate 3 refine gP ?_
   iterate 4 refine GoR.skip rfl rfl rfl ?_
   refine gP ?_;apply gE;refine gC (b := true) rfl ?_;apply gS;refine gR rfl ?_;refine gP ?_;apply gE;exact gW Tryz.func30 rfl rfl ⟨rfl, e0⟩
 ·rw [show decide C.Ok = false from decide_eq_false fun O => q0 O.np]
  have e0 : Ext h h := Ext.refl _
  refine Runs.intro aFunc30 rfl rfl rfl rfl fun rest => ?_;apply gS;refine gR rfl ?_;refine GoR.box rfl rfl rfl rfl rfl rfl fun h0 x0 f0 => ?_;replace e0 := e0.trans x0;refine gP ?_;apply gE;iterate 2 apply gS
  refine gR rfl ?_;refine gO rfl rfl (fa27_0 rfl) rfl ?_;refine gO rfl rfl (ld22 rfl f0 rfl) rfl ?_;refine gO rfl rfl (aOp_lenSlice Tryz.underlying22 rfl hl1) rfl ?_;refine GoR.call rfl rfl (aCF aFunc79 rfl) (in79_is (r := false) (df (by omega))) ?_ np;rintro v1 h1 ⟨q, x1⟩;cases q;refine ⟨_, rfl, ?_⟩;replace e0 := e0.trans x1;iterate 2 refine gP ?_
  iterate 4 refine GoR.skip rfl rfl rfl ?_
  iterate 2 refine gP ?_
  iterate 4 refine GoR.skip rfl rfl rfl ?_
  refine gP ?_;apply gE;refine gC (b := true) rfl ?_;apply gS;refine gR rfl ?_;refine gP ?_;apply gE;exact gW Tryz.func30 rfl rfl ⟨rfl, e0⟩
theorem span36_ok {a b : Int} {h : AH} : Runs Tryz.prog 36 [.int .i64 a, .int .i64 b] h (fun en h' => en = .ret (.agg [.int .i64 a, .int .i64 b]) ∧ Ext h h') := by
 have e0 : Ext h h := Ext.refl _
 refine Runs.intro aFunc36 rfl rfl rfl rfl fun rest => ?_;apply gS;refine gR rfl ?_;refine GoR.alloc rfl rfl rfl zt24 rfl rfl fun h0 x0 f0 => ?_;have := e0.1;replace e0 := e0.trans x0;have := f0.1;apply gE;apply gS;refine gR rfl ?_;iterate 2 refine gP ?_
 refine gO rfl rfl (aOp_build zt24 hu24 pl24 rfl rfl) rfl ?_;refine GoR.store rfl rfl rfl rfl rfl rfl f0 rfl sz24 rfl rfl rfl fun h1 u1 => ?_;replace f0 := u1.has f0;replace e0 := e0.upd u1 (by omega);apply gE;exact gV (ret_end (aResult_of Tryz.func36 rfl (aResults_cell rfl f0 (inCells_agg ag24 sz24 rfl))) ⟨rfl, e0⟩)
theorem count35_ok {c a b : Int} {h : AH} : Runs Tryz.prog 35 [.int .i64 c, .int .i64 a, .int .i64 b] h (fun en h' => en = .ret (.agg [.int .i64 1, .int .i64 c, .int .i64 a, .int .i64 b]) ∧ Ext h h') := by
 have e0 : Ext h h := Ext.refl _
 refine Runs.intro aFunc35 rfl rfl rfl rfl fun rest => ?_;apply gS;refine gR rfl ?_;refine GoR.alloc rfl rfl rfl zt53 rfl rfl fun h0 x0 f0 => ?_;have := e0.1;replace e0 := e0.trans x0;have := f0.1;apply gE;apply gS;refine gR rfl ?_;iterate 3 refine gP ?_
 refine GoR.call rfl rfl (aCF aFunc36 rfl) (span36_ok) ?_ np;rintro v1 h1 ⟨q, x1⟩;cases q;refine ⟨_, rfl, ?_⟩;replace f0 := f0.ext x1;replace e0 := e0.trans x1;refine gO rfl rfl (aOp_build zt53 hu53 pl53 rfl rfl) rfl ?_;refine GoR.store rfl rfl rfl rfl rfl rfl f0 rfl sz53 rfl rfl rfl fun h2 u2 => ?_;replace f0 := u2.has f0;replace e0 := e0.upd u2 (by omega);apply gE;exact gV (ret_end (aResult_of Tryz.func35 rfl (aResults_cell rfl f0 (inCells_agg ag53 sz53 rfl))) ⟨rfl, e0⟩)
theorem sale41_ok {c a b : Int} {h : AH} : Runs Tryz.prog 41 [.int .i64 c, .int .i64 a, .int .i64 b] h (fun en h' => en = .ret (.agg [.int .i64 0, .int .i64 c, .int .i64 a, .int .i64 b]) ∧ Ext h h') := by
 have e0 : Ext h h := Ext.refl _
 refine Runs.intro aFunc41 rfl rfl rfl rfl fun rest => ?_;apply gS;refine gR rfl ?_;refine GoR.alloc rfl rfl rfl zt53 rfl rfl fun h0 x0 f0 => ?_;have := e0.1;replace e0 := e0.trans x0;have := f0.1;apply gE;apply gS;refine gR rfl ?_;iterate 3 refine gP ?_
 refine GoR.call rfl rfl (aCF aFunc36 rfl) (span36_ok) ?_ np;rintro v1 h1 ⟨q, x1⟩;cases q;refine ⟨_, rfl, ?_⟩;replace f0 := f0.ext x1;replace e0 := e0.trans x1;refine gO rfl rfl (aOp_build (ps := [(1, .int .i64 c), (2, .agg [.int .i64 a, .int .i64 b])]) (cs := [.int .i64 0, .int .i64 c, .int .i64 a, .int .i64 b]) zt53 hu53 pl53 rfl rfl) rfl ?_;refine GoR.store rfl rfl rfl rfl rfl rfl f0 rfl sz53 rfl rfl rfl fun h2 u2 => ?_;replace f0 := u2.has f0;replace e0 := e0.upd u2 (by omega);apply gE;exact gV (ret_end (aResult_of Tryz.func41 rfl (aResults_cell rfl f0 (inCells_agg ag53 sz53 rfl))) ⟨rfl, e0⟩)
theorem pile83_ok {l w a b : Int} {h : AH} : Runs Tryz.prog 83 [.int .i64 l, .int .i64 w, .int .i64 a, .int .i64 b] h (fun en h' => en = .ret (.agg [.int .i64 l, .int .i64 l, .int .i64 w, .int .i64 w, .int .i64 a, .int .i64 b]) ∧ Ext h h') := by
 have e0 : Ext h h := Ext.refl _
 refine Runs.intro aFunc83 rfl rfl rfl rfl fun rest => ?_;apply gS;refine gR rfl ?_;refine GoR.alloc rfl rfl rfl zt58 rfl rfl fun h0 x0 f0 => ?_;have := e0.1;replace e0 := e0.trans x0;have := f0.1;apply gE;apply gS;refine gR rfl ?_;iterate 2 refine gP ?_
 refine GoR.call rfl rfl (aCF aFunc36 rfl) (span36_ok) ?_ np;rintro v1 h1 ⟨q, x1⟩;cases q;refine ⟨_, rfl, ?_⟩;replace f0 := f0.ext x1;replace e0 := e0.trans x1;iterate 2 refine gP ?_
 refine GoR.call rfl rfl (aCF aFunc36 rfl) (span36_ok) ?_ np;rintro v2 h2 ⟨q, x2⟩;cases q;refine ⟨_, rfl, ?_⟩;replace f0 := f0.ext x2;replace e0 := e0.trans x2;iterate 2 refine gP ?_
 refine GoR.call rfl rfl (aCF aFunc36 rfl) (span36_ok) ?_ np;rintro v3 h3 ⟨q, x3⟩;cases q;refine ⟨_, rfl, ?_⟩;replace f0 := f0.ext x3;replace e0 := e0.trans x3;refine gO rfl rfl (aOp_build zt58 hu58 pl58 rfl rfl) rfl ?_;refine GoR.store rfl rfl rfl rfl rfl rfl f0 rfl sz58 rfl rfl rfl fun h4 u4 => ?_;replace f0 := u4.has f0;replace e0 := e0.upd u4 (by omega);apply gE;exact gV (ret_end (aResult_of Tryz.func83 rfl (aResults_cell rfl f0 (inCells_agg ag58 sz58 rfl))) ⟨rfl, e0⟩)
end Go.Proofs.YtobhkdgcciolmaaGreat
