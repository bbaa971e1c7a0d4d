import Derived.Test.YtobhkdgcciolmaaMAO
import Derived.Test.YtobhkdgcciolmaaMAI
import Derived.Test.YtobhkdgcciolmaaMAF
import Derived.KernelRfl
namespace Go.Proofs.Ytobhkdgcciolmaa
open Go Go.AbsE
set_option linter.unusedSimpArgs false
set_option maxRecDepth 100000
set_option maxHeartbeats 0
set_option linter.unusedVariables false
theorem Built_ok {C : ClampV} {p e : AVal} {h : AH} (A : ClampAt h C p e) (B : ClampB C) (a : Int) :
  Runs Try.prog 4 [.agg (C.cells p e), .int .i64 a] h (fun en h' => en = .ret (.tuple [.agg (spC (C.builtR a).1), .int .i64 (C.builtR a).2]) ∧ Ext h h') := by
 by_cases O : C.Ok
 ·have hB := fun {h' : AH} {gp ge : AVal} {b0 br : Nat} (A' : YardAt h' C gp ge) => builtB0_ok O (gp := gp) (ge := ge) (a := a) (h := h') (b0 := b0) (br := br) A'
  unfold ClampV.builtR
  rw [ClampV.ok_yes O]
  obtain ⟨RES, hR⟩ : ∃ RES, C.clampQ a (C.tr (C.first a.toNat) zSp) zSp = RES := ⟨_, rfl⟩
  rw [hR] at hB ⊢
  obtain ⟨⟨r1, r2⟩, c⟩ := RES
  dsimp only at hB ⊢
  have hsm := A.same
  unfold ClampV.cells at hsm ⊢
  try unfold spC at *
  have e0 : Ext h h := Ext.refl _
  refine Runs.intro aFunc4 rfl rfl rfl rfl fun rest => ?_;apply gS;refine gR rfl ?_;refine GoR.box rfl rfl rfl rfl rfl rfl fun h0 x0 f0 => ?_;have := e0.1;replace e0 := e0.trans x0;have := f0.1;refine GoR.box rfl rfl rfl rfl rfl rfl fun h1 x1 f1 => ?_;have := e0.1;have := f0.1;replace f0 := f0.ext x1;replace e0 := e0.trans x1;have := f1.1;refine GoR.alloc rfl rfl rfl zt23 rfl rfl fun h2 x2 f2 => ?_;have := e0.1;have := f1.1;have := f0.1;replace f1 := f1.ext x2;replace f0 := f0.ext x2;replace e0 := e0.trans x2;have := f2.1;refine gP ?_;apply gE;apply gS;refine gR rfl ?_;refine gO rfl rfl (ld30 rfl f0 rfl) rfl ?_;refine gP ?_;refine GoR.call rfl rfl (aCF aFunc15 rfl) (attempt_one O p e _ (A.ext e0) 16 _ aFunc16 _ (by simp [sameA, sameAs, eqI_eq]) h1.next (by omega) [.int .i64 r1, .int .i64 r2] 23 c fun h' gp ge e A' => hB A' (f1.ext e) (f2.ext e) (by omega)) ?_ np;rintro v9 h9 ⟨q, y9, f9⟩;cases q;refine ⟨_, rfl, ?_⟩
  have z9 := y9.low e0 (fun b q => by omega)
  clear e0 y9 f2
  have e0 := z9
  refine gP ?_;apply gE;apply gS;refine gR rfl ?_;refine gO rfl rfl (ld23 rfl f9 rfl) rfl ?_;refine gP ?_;refine GoR.store rfl rfl rfl rfl rfl rfl f9 rfl sz23 rfl rfl rfl fun h10 u10 => ?_;replace f9 := u10.has f9;replace e0 := e0.upd u10 (by omega);refine gP ?_;apply gE;exact gV (ret_end (aResult_of Try.func4 rfl (aResults_c rfl f9 (inCells_agg ag23 sz23 rfl) rfl)) ⟨rfl, e0⟩)
 ·have hr : C.builtR a = (zSp, 1) := ClampV.ok_no O
  rw [hr]
  have hbd := fun h A => attempt_bad O B p e h A 16
  try unfold zSp at *
  unfold ClampV.cells at *
  try unfold spC at *
  have e0 : Ext h h := Ext.refl _
  refine Runs.intro aFunc4 rfl rfl rfl rfl fun rest => ?_;apply gS;refine gR rfl ?_;refine GoR.box rfl rfl rfl rfl rfl rfl fun h0 x0 f0 => ?_;have := e0.1;replace e0 := e0.trans x0;have := f0.1;refine GoR.box rfl rfl rfl rfl rfl rfl fun h1 x1 f1 => ?_;have := e0.1;have := f0.1;replace f0 := f0.ext x1;replace e0 := e0.trans x1;have := f1.1;refine GoR.alloc rfl rfl rfl zt23 rfl rfl fun h2 x2 f2 => ?_;have := e0.1;have := f1.1;have := f0.1;replace f0 := f0.ext x2;replace e0 := e0.trans x2;have := f2.1;refine gP ?_;apply gE;apply gS;refine gR rfl ?_;refine gO rfl rfl (ld30 rfl f0 rfl) rfl ?_;refine gP ?_;refine GoR.call rfl rfl (aCF aFunc15 rfl) (hbd _ (A.ext e0) _) ?_ np;rintro v3 h3 ⟨q, x3⟩;cases q;refine ⟨_, rfl, ?_⟩;replace f2 := f2.ext x3;replace e0 := e0.trans x3;refine gP ?_;apply gE;apply gS;refine gR rfl ?_;refine gO rfl rfl (ld23 rfl f2 rfl) rfl ?_;refine gP ?_;refine GoR.store rfl rfl rfl rfl rfl rfl f2 rfl sz23 rfl rfl rfl fun h4 u4 => ?_;replace f2 := u4.has f2;replace e0 := e0.upd u4 (by omega);refine gP ?_;apply gE;exact gV (ret_end (aResult_of Try.func4 rfl (aResults_c rfl f2 (inCells_agg ag23 sz23 rfl) rfl)) ⟨rfl, e0⟩)
theorem Has_ok {C : ClampV} {p e : AVal} {h : AH} (A : ClampAt h C p e) (B : ClampB C) (a : Int) :
  Runs Try.prog 6 [.agg (C.cells p e), .int .i64 a] h (fun en h' => en = .ret (.tuple [.agg (spC (C.hasR a).1), .int .i64 (C.hasR a).2]) ∧ Ext h h') := by
 by_cases O : C.Ok
 ·have hB := fun {h' : AH} {gp ge : AVal} {b0 br : Nat} (A' : YardAt h' C gp ge) => hasB0_ok O (gp := gp) (ge := ge) (a := a) (h := h') (b0 := b0) (br := br) A'
  unfold ClampV.hasR
  rw [ClampV.ok_yes O]
  obtain ⟨RES, hR⟩ : ∃ RES, C.clampQ a (C.tr (C.left a.toNat) zSp) zSp = RES := ⟨_, rfl⟩
  rw [hR] at hB ⊢
  obtain ⟨⟨r1, r2⟩, c⟩ := RES
  dsimp only at hB ⊢
  have hsm := A.same
  unfold ClampV.cells at hsm ⊢
  try unfold spC at *
  have e0 : Ext h h := Ext.refl _
  refine Runs.intro aFunc6 rfl rfl rfl rfl fun rest => ?_;apply gS;refine gR rfl ?_;refine GoR.box rfl rfl rfl rfl rfl rfl fun h0 x0 f0 => ?_;have := e0.1;replace e0 := e0.trans x0;have := f0.1;refine GoR.box rfl rfl rfl rfl rfl rfl fun h1 x1 f1 => ?_;have := e0.1;have := f0.1;replace f0 := f0.ext x1;replace e0 := e0.trans x1;have := f1.1;refine GoR.alloc rfl rfl rfl zt23 rfl rfl fun h2 x2 f2 => ?_;have := e0.1;have := f1.1;have := f0.1;replace f1 := f1.ext x2;replace f0 := f0.ext x2;replace e0 := e0.trans x2;have := f2.1;refine gP ?_;apply gE;apply gS;refine gR rfl ?_;refine gO rfl rfl (ld30 rfl f0 rfl) rfl ?_;refine gP ?_;refine GoR.call rfl rfl (aCF aFunc15 rfl) (attempt_one O p e _ (A.ext e0) 23 _ aFunc23 _ (by simp [sameA, sameAs, eqI_eq]) h1.next (by omega) [.int .i64 r1, .int .i64 r2] 23 c fun h' gp ge e A' => hB A' (f1.ext e) (f2.ext e) (by omega)) ?_ np;rintro v9 h9 ⟨q, y9, f9⟩;cases q;refine ⟨_, rfl, ?_⟩
  have z9 := y9.low e0 (fun b q => by omega)
  clear e0 y9 f2
  have e0 := z9
  refine gP ?_;apply gE;apply gS;refine gR rfl ?_;refine gO rfl rfl (ld23 rfl f9 rfl) rfl ?_;refine gP ?_;refine GoR.store rfl rfl rfl rfl rfl rfl f9 rfl sz23 rfl rfl rfl fun h10 u10 => ?_;replace f9 := u10.has f9;replace e0 := e0.upd u10 (by omega);refine gP ?_;apply gE;exact gV (ret_end (aResult_of Try.func6 rfl (aResults_c rfl f9 (inCells_agg ag23 sz23 rfl) rfl)) ⟨rfl, e0⟩)
 ·have hr : C.hasR a = (zSp, 1) := ClampV.ok_no O
  rw [hr]
  have hbd := fun h A => attempt_bad O B p e h A 23
  try unfold zSp at *
  unfold ClampV.cells at *
  try unfold spC at *
  have e0 : Ext h h := Ext.refl _
  refine Runs.intro aFunc6 rfl rfl rfl rfl fun rest => ?_;apply gS;refine gR rfl ?_;refine GoR.box rfl rfl rfl rfl rfl rfl fun h0 x0 f0 => ?_;have := e0.1;replace e0 := e0.trans x0;have := f0.1;refine GoR.box rfl rfl rfl rfl rfl rfl fun h1 x1 f1 => ?_;have := e0.1;have := f0.1;replace f0 := f0.ext x1;replace e0 := e0.trans x1;have := f1.1;refine GoR.alloc rfl rfl rfl zt23 rfl rfl fun h2 x2 f2 => ?_;have := e0.1;have := f1.1;have := f0.1;replace f0 := f0.ext x2;replace e0 := e0.trans x2;have := f2.1;refine gP ?_;apply gE;apply gS;refine gR rfl ?_;refine gO rfl rfl (ld30 rfl f0 rfl) rfl ?_;refine gP ?_;refine GoR.call rfl rfl (aCF aFunc15 rfl) (hbd _ (A.ext e0) _) ?_ np;rintro v3 h3 ⟨q, x3⟩;cases q;refine ⟨_, rfl, ?_⟩;replace f2 := f2.ext x3;replace e0 := e0.trans x3;refine gP ?_;apply gE;apply gS;refine gR rfl ?_;refine gO rfl rfl (ld23 rfl f2 rfl) rfl ?_;refine gP ?_;refine GoR.store rfl rfl rfl rfl rfl rfl f2 rfl sz23 rfl rfl rfl fun h4 u4 => ?_;replace f2 := u4.has f2;replace e0 := e0.upd u4 (by omega);refine gP ?_;apply gE;exact gV (ret_end (aResult_of Try.func6 rfl (aResults_c rfl f2 (inCells_agg ag23 sz23 rfl) rfl)) ⟨rfl, e0⟩)
theorem Sold_ok {C : ClampV} {p e : AVal} {h : AH} (A : ClampAt h C p e) (B : ClampB C) (a : Int) :
  Runs Try.prog 7 [.agg (C.cells p e), .int .i64 a] h (fun en h' => en = .ret (.tuple [.agg (spC (C.soldR a).1), .int .i64 (C.soldR a).2]) ∧ Ext h h') := by
 by_cases O : C.Ok
 ·have hB := fun {h' : AH} {gp ge : AVal} {b0 br : Nat} (A' : YardAt h' C gp ge) => soldB0_ok O (gp := gp) (ge := ge) (a := a) (h := h') (b0 := b0) (br := br) A'
  unfold ClampV.soldR
  rw [ClampV.ok_yes O]
  obtain ⟨RES, hR⟩ : ∃ RES, C.clampQ a (C.tr (C.sold a.toNat) zSp) zSp = RES := ⟨_, rfl⟩
  rw [hR] at hB ⊢
  obtain ⟨⟨r1, r2⟩, c⟩ := RES
  dsimp only at hB ⊢
  have hsm := A.same
  unfold ClampV.cells at hsm ⊢
  try unfold spC at *
  have e0 : Ext h h := Ext.refl _
  refine Runs.intro aFunc7 rfl rfl rfl rfl fun rest => ?_;apply gS;refine gR rfl ?_;refine GoR.box rfl rfl rfl rfl rfl rfl fun h0 x0 f0 => ?_;have := e0.1;replace e0 := e0.trans x0;have := f0.1;refine GoR.box rfl rfl rfl rfl rfl rfl fun h1 x1 f1 => ?_;have := e0.1;have := f0.1;replace f0 := f0.ext x1;replace e0 := e0.trans x1;have := f1.1;refine GoR.alloc rfl rfl rfl zt23 rfl rfl fun h2 x2 f2 => ?_;have := e0.1;have := f1.1;have := f0.1;replace f1 := f1.ext x2;replace f0 := f0.ext x2;replace e0 := e0.trans x2;have := f2.1;refine gP ?_;apply gE;apply gS;refine gR rfl ?_;refine gO rfl rfl (ld30 rfl f0 rfl) rfl ?_;refine gP ?_;refine GoR.call rfl rfl (aCF aFunc15 rfl) (attempt_one O p e _ (A.ext e0) 25 _ aFunc25 _ (by simp [sameA, sameAs, eqI_eq]) h1.next (by omega) [.int .i64 r1, .int .i64 r2] 23 c fun h' gp ge e A' => hB A' (f1.ext e) (f2.ext e) (by omega)) ?_ np;rintro v9 h9 ⟨q, y9, f9⟩;cases q;refine ⟨_, rfl, ?_⟩
  have z9 := y9.low e0 (fun b q => by omega)
  clear e0 y9 f2
  have e0 := z9
  refine gP ?_;apply gE;apply gS;refine gR rfl ?_;refine gO rfl rfl (ld23 rfl f9 rfl) rfl ?_;refine gP ?_;refine GoR.store rfl rfl rfl rfl rfl rfl f9 rfl sz23 rfl rfl rfl fun h10 u10 => ?_;replace f9 := u10.has f9;replace e0 := e0.upd u10 (by omega);refine gP ?_;apply gE;exact gV (ret_end (aResult_of Try.func7 rfl (aResults_c rfl f9 (inCells_agg ag23 sz23 rfl) rfl)) ⟨rfl, e0⟩)
 ·have hr : C.soldR a = (zSp, 1) := ClampV.ok_no O
  rw [hr]
  have hbd := fun h A => attempt_bad O B p e h A 25
  try unfold zSp at *
  unfold ClampV.cells at *
  try unfold spC at *
  have e0 : Ext h h := Ext.refl _
  refine Runs.intro aFunc7 rfl rfl rfl rfl fun rest => ?_;apply gS;refine gR rfl ?_;refine GoR.box rfl rfl rfl rfl rfl rfl fun h0 x0 f0 => ?_;have := e0.1;replace e0 := e0.trans x0;have := f0.1;refine GoR.box rfl rfl rfl rfl rfl rfl fun h1 x1 f1 => ?_;have := e0.1;have := f0.1;replace f0 := f0.ext x1;replace e0 := e0.trans x1;have := f1.1;refine GoR.alloc rfl rfl rfl zt23 rfl rfl fun h2 x2 f2 => ?_;have := e0.1;have := f1.1;have := f0.1;replace f0 := f0.ext x2;replace e0 := e0.trans x2;have := f2.1;refine gP ?_;apply gE;apply gS;refine gR rfl ?_;refine gO rfl rfl (ld30 rfl f0 rfl) rfl ?_;refine gP ?_;refine GoR.call rfl rfl (aCF aFunc15 rfl) (hbd _ (A.ext e0) _) ?_ np;rintro v3 h3 ⟨q, x3⟩;cases q;refine ⟨_, rfl, ?_⟩;replace f2 := f2.ext x3;replace e0 := e0.trans x3;refine gP ?_;apply gE;apply gS;refine gR rfl ?_;refine gO rfl rfl (ld23 rfl f2 rfl) rfl ?_;refine gP ?_;refine GoR.store rfl rfl rfl rfl rfl rfl f2 rfl sz23 rfl rfl rfl fun h4 u4 => ?_;replace f2 := u4.has f2;replace e0 := e0.upd u4 (by omega);refine gP ?_;apply gE;exact gV (ret_end (aResult_of Try.func7 rfl (aResults_c rfl f2 (inCells_agg ag23 sz23 rfl) rfl)) ⟨rfl, e0⟩)
theorem All_ok {C : ClampV} {p e : AVal} {h : AH} (A : ClampAt h C p e) (B : ClampB C) :
  Runs Try.prog 34 [.agg (C.cells p e)] h (fun en h' => en = .ret (.tuple [.agg (spC (C.allR).1), .int .i64 (C.allR).2]) ∧ Ext h h') := by
 by_cases O : C.Ok
 ·have hB := fun {h' : AH} {gp ge : AVal} {br : Nat} (A' : YardAt h' C gp ge) => allB0_ok O (gp := gp) (ge := ge) (h := h') (br := br) A'
  unfold ClampV.allR
  rw [ClampV.ok_yes O]
  obtain ⟨RES, hR⟩ : ∃ RES, C.tr (C.total C.all) zSp = RES := ⟨_, rfl⟩
  rw [hR] at hB ⊢
  obtain ⟨⟨r1, r2⟩, c⟩ := RES
  dsimp only at hB ⊢
  have hsm := A.same
  unfold ClampV.cells at hsm ⊢
  try unfold spC at *
  have e0 : Ext h h := Ext.refl _
  refine Runs.intro aFunc34 rfl rfl rfl rfl fun rest => ?_;apply gS;refine gR rfl ?_;refine GoR.box rfl rfl rfl rfl rfl rfl fun h0 x0 f0 => ?_;have := e0.1;replace e0 := e0.trans x0;have := f0.1;refine GoR.alloc rfl rfl rfl zt23 rfl rfl fun h1 x1 f1 => ?_;have := e0.1;have := f0.1;replace f0 := f0.ext x1;replace e0 := e0.trans x1;have := f1.1;refine gP ?_;apply gE;apply gS;refine gR rfl ?_;refine gO rfl rfl (ld30 rfl f0 rfl) rfl ?_;refine gP ?_;refine GoR.call rfl rfl (aCF aFunc15 rfl) (attempt_one O p e _ (A.ext e0) 59 _ aFunc59 _ (by simp [sameA, sameAs, eqI_eq]) h0.next (by omega) [.int .i64 r1, .int .i64 r2] 23 c fun h' gp ge e A' => hB A' (f1.ext e)) ?_ np;rintro v9 h9 ⟨q, y9, f9⟩;cases q;refine ⟨_, rfl, ?_⟩
  have z9 := y9.low e0 (fun b q => by omega)
  clear e0 y9 f1
  have e0 := z9
  refine gP ?_;apply gE;apply gS;refine gR rfl ?_;refine gO rfl rfl (ld23 rfl f9 rfl) rfl ?_;refine gP ?_;refine GoR.store rfl rfl rfl rfl rfl rfl f9 rfl sz23 rfl rfl rfl fun h10 u10 => ?_;replace f9 := u10.has f9;replace e0 := e0.upd u10 (by omega);refine gP ?_;apply gE;exact gV (ret_end (aResult_of Try.func34 rfl (aResults_c rfl f9 (inCells_agg ag23 sz23 rfl) rfl)) ⟨rfl, e0⟩)
 ·have hr : C.allR = (zSp, 1) := ClampV.ok_no O
  rw [hr]
  have hbd := fun h A => attempt_bad O B p e h A 59
  try unfold zSp at *
  unfold ClampV.cells at *
  try unfold spC at *
  have e0 : Ext h h := Ext.refl _
  refine Runs.intro aFunc34 rfl rfl rfl rfl fun rest => ?_;apply gS;refine gR rfl ?_;refine GoR.box rfl rfl rfl rfl rfl rfl fun h0 x0 f0 => ?_;have := e0.1;replace e0 := e0.trans x0;have := f0.1;refine GoR.alloc rfl rfl rfl zt23 rfl rfl fun h1 x1 f1 => ?_;have := e0.1;have := f0.1;replace f0 := f0.ext x1;replace e0 := e0.trans x1;have := f1.1;refine gP ?_;apply gE;apply gS;refine gR rfl ?_;refine gO rfl rfl (ld30 rfl f0 rfl) rfl ?_;refine gP ?_;refine GoR.call rfl rfl (aCF aFunc15 rfl) (hbd _ (A.ext e0) _) ?_ np;rintro v2 h2 ⟨q, x2⟩;cases q;refine ⟨_, rfl, ?_⟩;replace f1 := f1.ext x2;replace e0 := e0.trans x2;refine gP ?_;apply gE;apply gS;refine gR rfl ?_;refine gO rfl rfl (ld23 rfl f1 rfl) rfl ?_;refine gP ?_;refine GoR.store rfl rfl rfl rfl rfl rfl f1 rfl sz23 rfl rfl rfl fun h3 u3 => ?_;replace f1 := u3.has f1;replace e0 := e0.upd u3 (by omega);refine gP ?_;apply gE;exact gV (ret_end (aResult_of Try.func34 rfl (aResults_c rfl f1 (inCells_agg ag23 sz23 rfl) rfl)) ⟨rfl, e0⟩)
theorem Enough_ok {C : ClampV} {p e : AVal} {h : AH} (A : ClampAt h C p e) (B : ClampB C) (a m : Int) :
  Runs Try.prog 8 [.agg (C.cells p e), .int .i64 a, .int .i64 m] h (fun en h' => en = .ret (.tuple [.int .i64 (C.enoughR a m).1, .int .i64 (C.enoughR a m).2]) ∧ Ext h h') := by
 by_cases O : C.Ok
 ·have hB := fun {h' : AH} {gp ge : AVal} {b0 b1 br : Nat} (A' : YardAt h' C gp ge) => enoughB0_ok O (gp := gp) (ge := ge) (a := a) (m := m) (h := h') (b0 := b0) (b1 := b1) (br := br) A'
  unfold ClampV.enoughR
  rw [ClampV.ok_yes O]
  obtain ⟨RES, hR⟩ : ∃ RES, C.clampQ a (sodsQ m (C.tr (reachV (C.left a.toNat) m) 0) 0) 0 = RES := ⟨_, rfl⟩
  rw [hR] at hB ⊢
  obtain ⟨r1, c⟩ := RES
  dsimp only at hB ⊢
  have hsm := A.same
  unfold ClampV.cells at hsm ⊢
  try unfold spC at *
  have e0 : Ext h h := Ext.refl _
  refine Runs.intro aFunc8 rfl rfl rfl rfl fun rest => ?_;apply gS;refine gR rfl ?_;refine GoR.box rfl rfl rfl rfl rfl rfl fun h0 x0 f0 => ?_;have := e0.1;replace e0 := e0.trans x0;have := f0.1;refine GoR.box rfl rfl rfl rfl rfl rfl fun h1 x1 f1 => ?_;have := e0.1;have := f0.1;replace f0 := f0.ext x1;replace e0 := e0.trans x1;have := f1.1;refine GoR.box rfl rfl rfl rfl rfl rfl fun h2 x2 f2 => ?_;have := e0.1;have := f1.1;have := f0.1;replace f1 := f1.ext x2;replace f0 := f0.ext x2;replace e0 := e0.trans x2;have := f2.1;refine GoR.alloc rfl rfl rfl zt3 rfl rfl fun h3 x3 f3 => ?_;have := e0.1;have := f2.1;have := f1.1;have := f0.1;replace f2 := f2.ext x3;replace f1 := f1.ext x3;replace f0 := f0.ext x3;replace e0 := e0.trans x3;have := f3.1;refine gP ?_;apply gE;apply gS;refine gR rfl ?_;refine gO rfl rfl (ld30 rfl f0 rfl) rfl ?_;refine gP ?_;refine GoR.call rfl rfl (aCF aFunc15 rfl) (attempt_one O p e _ (A.ext e0) 27 _ aFunc27 _ (by simp [sameA, sameAs, eqI_eq]) h2.next (by omega) [.int .i64 r1] 3 c fun h' gp ge e A' => hB A' (f1.ext e) (f2.ext e) (f3.ext e) (by omega) (by omega)) ?_ np;rintro v9 h9 ⟨q, y9, f9⟩;cases q;refine ⟨_, rfl, ?_⟩
  have z9 := y9.low e0 (fun b q => by omega)
  clear e0 y9 f3
  have e0 := z9
  refine gP ?_;apply gE;apply gS;refine gR rfl ?_;refine gO rfl rfl (ld3 rfl f9 rfl) rfl ?_;refine gP ?_;refine GoR.store rfl rfl rfl rfl rfl rfl f9 rfl sz3 rfl rfl rfl fun h10 u10 => ?_;replace f9 := u10.has f9;replace e0 := e0.upd u10 (by omega);refine gP ?_;apply gE;exact gV (ret_end (aResult_of Try.func8 rfl (aResults_c rfl f9 (inCells_one ag3 rfl) rfl)) ⟨rfl, e0⟩)
 ·have hr : C.enoughR a m = (0, 1) := ClampV.ok_no O
  rw [hr]
  have hbd := fun h A => attempt_bad O B p e h A 27
  try unfold zSp at *
  unfold ClampV.cells at *
  try unfold spC at *
  have e0 : Ext h h := Ext.refl _
  refine Runs.intro aFunc8 rfl rfl rfl rfl fun rest => ?_;apply gS;refine gR rfl ?_;refine GoR.box rfl rfl rfl rfl rfl rfl fun h0 x0 f0 => ?_;have := e0.1;replace e0 := e0.trans x0;have := f0.1;refine GoR.box rfl rfl rfl rfl rfl rfl fun h1 x1 f1 => ?_;have := e0.1;have := f0.1;replace f0 := f0.ext x1;replace e0 := e0.trans x1;have := f1.1;refine GoR.box rfl rfl rfl rfl rfl rfl fun h2 x2 f2 => ?_;have := e0.1;have := f1.1;have := f0.1;replace f1 := f1.ext x2;replace f0 := f0.ext x2;replace e0 := e0.trans x2;have := f2.1;refine GoR.alloc rfl rfl rfl zt3 rfl rfl fun h3 x3 f3 => ?_;have := e0.1;have := f2.1;have := f1.1;have := f0.1;replace f0 := f0.ext x3;replace e0 := e0.trans x3;have := f3.1;refine gP ?_;apply gE;apply gS;refine gR rfl ?_;refine gO rfl rfl (ld30 rfl f0 rfl) rfl ?_;refine gP ?_;refine GoR.call rfl rfl (aCF aFunc15 rfl) (hbd _ (A.ext e0) _) ?_ np;rintro v4 h4 ⟨q, x4⟩;cases q;refine ⟨_, rfl, ?_⟩;replace f3 := f3.ext x4;replace e0 := e0.trans x4;refine gP ?_;apply gE;apply gS;refine gR rfl ?_;refine gO rfl rfl (ld3 rfl f3 rfl) rfl ?_;refine gP ?_;refine GoR.store rfl rfl rfl rfl rfl rfl f3 rfl sz3 rfl rfl rfl fun h5 u5 => ?_;replace f3 := u5.has f3;replace e0 := e0.upd u5 (by omega);refine gP ?_;apply gE;exact gV (ret_end (aResult_of Try.func8 rfl (aResults_c rfl f3 (inCells_one ag3 rfl) rfl)) ⟨rfl, e0⟩)
theorem Empty_ok {C : ClampV} {p e : AVal} {h : AH} (A : ClampAt h C p e) (B : ClampB C) :
  Runs Try.prog 35 [.agg (C.cells p e)] h (fun en h' => en = .ret (.tuple [.int .i64 (C.emptyR).1.1, .int .i64 (C.emptyR).1.2, .int .i64 (C.emptyR).2]) ∧ Ext h h') := by
 by_cases O : C.Ok
 ·have hB := fun {h' : AH} {gp ge : AVal} {br bs : Nat} (A' : YardAt h' C gp ge) => emptyB0_ok O (gp := gp) (ge := ge) (h := h') (br := br) (bs := bs) A'
  unfold ClampV.emptyR
  rw [ClampV.ok_yes O]
  obtain ⟨RES, hR⟩ : ∃ RES, C.tr (((C.gone : Nat) : Int), ((C.low : Nat) : Int)) zSp = RES := ⟨_, rfl⟩
  rw [hR] at hB ⊢
  obtain ⟨⟨r1, r2⟩, c⟩ := RES
  dsimp only at hB ⊢
  have hsm := A.same
  unfold ClampV.cells at hsm ⊢
  try unfold spC at *
  have e0 : Ext h h := Ext.refl _
  refine Runs.intro aFunc35 rfl rfl rfl rfl fun rest => ?_;apply gS;refine gR rfl ?_;refine GoR.box rfl rfl rfl rfl rfl rfl fun h0 x0 f0 => ?_;have := e0.1;replace e0 := e0.trans x0;have := f0.1;refine GoR.alloc rfl rfl rfl zt3 rfl rfl fun h1 x1 f1 => ?_;have := e0.1;have := f0.1;replace f0 := f0.ext x1;replace e0 := e0.trans x1;have := f1.1;refine GoR.alloc rfl rfl rfl zt3 rfl rfl fun h2 x2 f2 => ?_;have := e0.1;have := f1.1;have := f0.1;replace f1 := f1.ext x2;replace f0 := f0.ext x2;replace e0 := e0.trans x2;have := f2.1;refine gP ?_;apply gE;apply gS;refine gR rfl ?_;refine gO rfl rfl (ld30 rfl f0 rfl) rfl ?_;refine gP ?_;refine GoR.call rfl rfl (aCF aFunc15 rfl) (attempt_two O p e _ (A.ext e0) 60 _ aFunc60 _ (by simp [sameA, sameAs, eqI_eq]) h0.next h1.next (by omega) (by omega) [.int .i64 r1] [.int .i64 r2] 3 3 c fun h' gp ge e A' => hB A' (f1.ext e) (f2.ext e) (by omega)) ?_ np;rintro v9 h9 ⟨q, y9, f9, f10⟩;cases q;refine ⟨_, rfl, ?_⟩
  have z9 := y9.low e0 (fun b q => by rcases q with q | q <;> omega)
  clear e0 y9 f1 f2
  have e0 := z9
  refine gP ?_;apply gE;apply gS;refine Go.drawnE plan35_0 ?_;refine gQ rfl rfl (ld3 rfl f9 rfl) rfl ?_;refine gQ rfl rfl (ld3 rfl f10 rfl) rfl ?_;refine gQ rfl rfl rfl rfl ?_;refine GoE.store rfl rfl rfl rfl (dK 1 2 (dK 1 1 (dD 1 0 rfl))) rfl rfl f9 rfl sz3 rfl rfl rfl fun h11 u11 => ?_;replace f9 := u11.has f9;replace f10 := f10.upd u11 (by omega);replace e0 := e0.upd u11 (by omega);refine ⟨(rck (h2 := h11) rfl (rfl) (rck (h2 := h11) rfl (ld3 rfl f10 rfl) recheck_nil)), ?_⟩;refine GoE.store rfl rfl rfl rfl (dK 11 2 (dD 11 1 rfl)) rfl rfl f10 rfl sz3 rfl rfl rfl fun h12 u12 => ?_;replace f9 := f9.upd u12 (by omega);replace f10 := u12.has f10;replace e0 := e0.upd u12 (by omega);refine ⟨(rck (h2 := h12) rfl (rfl) recheck_nil), ?_⟩;refine gQ rfl rfl rfl rfl ?_;refine GoE.end rfl ?_;exact gV (ret_end (aResult_of Try.func35 rfl (aResults_c rfl f9 (inCells_one ag3 rfl) (aResults_c rfl f10 (inCells_one ag3 rfl) rfl))) ⟨rfl, e0⟩)
 ·have hr : C.emptyR = (zSp, 1) := ClampV.ok_no O
  rw [hr]
  have hbd := fun h A => attempt_bad O B p e h A 60
  try unfold zSp at *
  unfold ClampV.cells at *
  try unfold spC at *
  have e0 : Ext h h := Ext.refl _
  refine Runs.intro aFunc35 rfl rfl rfl rfl fun rest => ?_;apply gS;refine gR rfl ?_;refine GoR.box rfl rfl rfl rfl rfl rfl fun h0 x0 f0 => ?_;have := e0.1;replace e0 := e0.trans x0;have := f0.1;refine GoR.alloc rfl rfl rfl zt3 rfl rfl fun h1 x1 f1 => ?_;have := e0.1;have := f0.1;replace f0 := f0.ext x1;replace e0 := e0.trans x1;have := f1.1;refine GoR.alloc rfl rfl rfl zt3 rfl rfl fun h2 x2 f2 => ?_;have := e0.1;have := f1.1;have := f0.1;replace f1 := f1.ext x2;replace f0 := f0.ext x2;replace e0 := e0.trans x2;have := f2.1;refine gP ?_;apply gE;apply gS;refine gR rfl ?_;refine gO rfl rfl (ld30 rfl f0 rfl) rfl ?_;refine gP ?_;refine GoR.call rfl rfl (aCF aFunc15 rfl) (hbd _ (A.ext e0) _) ?_ np;rintro v3 h3 ⟨q, x3⟩;cases q;refine ⟨_, rfl, ?_⟩;replace f2 := f2.ext x3;replace f1 := f1.ext x3;replace e0 := e0.trans x3;refine gP ?_;apply gE;apply gS;refine Go.drawnE plan35_0 ?_;refine gQ rfl rfl (ld3 rfl f1 rfl) rfl ?_;refine gQ rfl rfl (ld3 rfl f2 rfl) rfl ?_;refine gQ rfl rfl rfl rfl ?_;refine GoE.store rfl rfl rfl rfl (dK 1 2 (dK 1 1 (dD 1 0 rfl))) rfl rfl f1 rfl sz3 rfl rfl rfl fun h4 u4 => ?_;replace f2 := f2.upd u4 (by omega);replace f1 := u4.has f1;replace e0 := e0.upd u4 (by omega);refine ⟨(rck (h2 := h4) rfl (rfl) (rck (h2 := h4) rfl (ld3 rfl f2 rfl) recheck_nil)), ?_⟩;refine GoE.store rfl rfl rfl rfl (dK 11 2 (dD 11 1 rfl)) rfl rfl f2 rfl sz3 rfl rfl rfl fun h5 u5 => ?_;replace f2 := u5.has f2;replace f1 := f1.upd u5 (by omega);replace e0 := e0.upd u5 (by omega);refine ⟨(rck (h2 := h5) rfl (rfl) recheck_nil), ?_⟩;refine gQ rfl rfl rfl rfl ?_;refine GoE.end rfl ?_;exact gV (ret_end (aResult_of Try.func35 rfl (aResults_c rfl f1 (inCells_one ag3 rfl) (aResults_c rfl f2 (inCells_one ag3 rfl) rfl))) ⟨rfl, e0⟩)
theorem Share_ok {C : ClampV} {p e : AVal} {h : AH} (A : ClampAt h C p e) (B : ClampB C) (m : Int) :
  Runs Try.prog 9 [.agg (C.cells p e), .int .i64 m] h (fun en h' => en = .ret (.tuple [.int .i64 (C.shareR m).1, .int .i64 (C.shareR m).2]) ∧ Ext h h') := by
 by_cases O : C.Ok
 ·have hB := fun {h' : AH} {gp ge : AVal} {b0 br : Nat} (A' : YardAt h' C gp ge) => shareB0_ok O (gp := gp) (ge := ge) (m := m) (h := h') (b0 := b0) (br := br) A'
  unfold ClampV.shareR
  rw [ClampV.ok_yes O]
  obtain ⟨RES, hR⟩ : ∃ RES, sodsQ m (C.shareQ m) 0 = RES := ⟨_, rfl⟩
  rw [hR] at hB ⊢
  obtain ⟨r1, c⟩ := RES
  dsimp only at hB ⊢
  have hsm := A.same
  unfold ClampV.cells at hsm ⊢
  try unfold spC at *
  have e0 : Ext h h := Ext.refl _
  refine Runs.intro aFunc9 rfl rfl rfl rfl fun rest => ?_;apply gS;refine gR rfl ?_;refine GoR.box rfl rfl rfl rfl rfl rfl fun h0 x0 f0 => ?_;have := e0.1;replace e0 := e0.trans x0;have := f0.1;refine GoR.box rfl rfl rfl rfl rfl rfl fun h1 x1 f1 => ?_;have := e0.1;have := f0.1;replace f0 := f0.ext x1;replace e0 := e0.trans x1;have := f1.1;refine GoR.alloc rfl rfl rfl zt3 rfl rfl fun h2 x2 f2 => ?_;have := e0.1;have := f1.1;have := f0.1;replace f1 := f1.ext x2;replace f0 := f0.ext x2;replace e0 := e0.trans x2;have := f2.1;refine gP ?_;apply gE;apply gS;refine gR rfl ?_;refine gO rfl rfl (ld30 rfl f0 rfl) rfl ?_;refine gP ?_;refine GoR.call rfl rfl (aCF aFunc15 rfl) (attempt_one O p e _ (A.ext e0) 30 _ aFunc30 _ (by simp [sameA, sameAs, eqI_eq]) h1.next (by omega) [.int .i64 r1] 3 c fun h' gp ge e A' => hB A' (f1.ext e) (f2.ext e) (by omega)) ?_ np;rintro v9 h9 ⟨q, y9, f9⟩;cases q;refine ⟨_, rfl, ?_⟩
  have z9 := y9.low e0 (fun b q => by omega)
  clear e0 y9 f2
  have e0 := z9
  refine gP ?_;apply gE;apply gS;refine gR rfl ?_;refine gO rfl rfl (ld3 rfl f9 rfl) rfl ?_;refine gP ?_;refine GoR.store rfl rfl rfl rfl rfl rfl f9 rfl sz3 rfl rfl rfl fun h10 u10 => ?_;replace f9 := u10.has f9;replace e0 := e0.upd u10 (by omega);refine gP ?_;apply gE;exact gV (ret_end (aResult_of Try.func9 rfl (aResults_c rfl f9 (inCells_one ag3 rfl) rfl)) ⟨rfl, e0⟩)
 ·have hr : C.shareR m = (0, 1) := ClampV.ok_no O
  rw [hr]
  have hbd := fun h A => attempt_bad O B p e h A 30
  try unfold zSp at *
  unfold ClampV.cells at *
  try unfold spC at *
  have e0 : Ext h h := Ext.refl _
  refine Runs.intro aFunc9 rfl rfl rfl rfl fun rest => ?_;apply gS;refine gR rfl ?_;refine GoR.box rfl rfl rfl rfl rfl rfl fun h0 x0 f0 => ?_;have := e0.1;replace e0 := e0.trans x0;have := f0.1;refine GoR.box rfl rfl rfl rfl rfl rfl fun h1 x1 f1 => ?_;have := e0.1;have := f0.1;replace f0 := f0.ext x1;replace e0 := e0.trans x1;have := f1.1;refine GoR.alloc rfl rfl rfl zt3 rfl rfl fun h2 x2 f2 => ?_;have := e0.1;have := f1.1;have := f0.1;replace f0 := f0.ext x2;replace e0 := e0.trans x2;have := f2.1;refine gP ?_;apply gE;apply gS;refine gR rfl ?_;refine gO rfl rfl (ld30 rfl f0 rfl) rfl ?_;refine gP ?_;refine GoR.call rfl rfl (aCF aFunc15 rfl) (hbd _ (A.ext e0) _) ?_ np;rintro v3 h3 ⟨q, x3⟩;cases q;refine ⟨_, rfl, ?_⟩;replace f2 := f2.ext x3;replace e0 := e0.trans x3;refine gP ?_;apply gE;apply gS;refine gR rfl ?_;refine gO rfl rfl (ld3 rfl f2 rfl) rfl ?_;refine gP ?_;refine GoR.store rfl rfl rfl rfl rfl rfl f2 rfl sz3 rfl rfl rfl fun h4 u4 => ?_;replace f2 := u4.has f2;replace e0 := e0.upd u4 (by omega);refine gP ?_;apply gE;exact gV (ret_end (aResult_of Try.func9 rfl (aResults_c rfl f2 (inCells_one ag3 rfl) rfl)) ⟨rfl, e0⟩)
theorem Clash_ok {C : ClampV} {p e : AVal} {h : AH} (A : ClampAt h C p e) (B : ClampB C) :
  Runs Try.prog 10 [.agg (C.cells p e)] h (fun en h' => en = .ret (.tuple [.int .i64 (C.clashR).1, .int .i64 (C.clashR).2]) ∧ Ext h h') := by
 by_cases O : C.Ok
 ·have hB := fun {h' : AH} {gp ge : AVal} {br : Nat} (A' : YardAt h' C gp ge) => clashB0_ok O (gp := gp) (ge := ge) (h := h') (br := br) A'
  unfold ClampV.clashR
  rw [ClampV.ok_yes O]
  obtain ⟨RES, hR⟩ : ∃ RES, C.clashQ = RES := ⟨_, rfl⟩
  rw [hR] at hB ⊢
  obtain ⟨r1, c⟩ := RES
  dsimp only at hB ⊢
  have hsm := A.same
  unfold ClampV.cells at hsm ⊢
  try unfold spC at *
  have e0 : Ext h h := Ext.refl _
  refine Runs.intro aFunc10 rfl rfl rfl rfl fun rest => ?_;apply gS;refine gR rfl ?_;refine GoR.box rfl rfl rfl rfl rfl rfl fun h0 x0 f0 => ?_;have := e0.1;replace e0 := e0.trans x0;have := f0.1;refine GoR.alloc rfl rfl rfl zt3 rfl rfl fun h1 x1 f1 => ?_;have := e0.1;have := f0.1;replace f0 := f0.ext x1;replace e0 := e0.trans x1;have := f1.1;refine gP ?_;apply gE;apply gS;refine gR rfl ?_;refine gO rfl rfl (ld30 rfl f0 rfl) rfl ?_;refine gP ?_;refine GoR.call rfl rfl (aCF aFunc15 rfl) (attempt_one O p e _ (A.ext e0) 32 _ aFunc32 _ (by simp [sameA, sameAs, eqI_eq]) h0.next (by omega) [.int .i64 r1] 3 c fun h' gp ge e A' => hB A' (f1.ext e)) ?_ np;rintro v9 h9 ⟨q, y9, f9⟩;cases q;refine ⟨_, rfl, ?_⟩
  have z9 := y9.low e0 (fun b q => by omega)
  clear e0 y9 f1
  have e0 := z9
  refine gP ?_;apply gE;apply gS;refine gR rfl ?_;refine gO rfl rfl (ld3 rfl f9 rfl) rfl ?_;refine gP ?_;refine GoR.store rfl rfl rfl rfl rfl rfl f9 rfl sz3 rfl rfl rfl fun h10 u10 => ?_;replace f9 := u10.has f9;replace e0 := e0.upd u10 (by omega);refine gP ?_;apply gE;exact gV (ret_end (aResult_of Try.func10 rfl (aResults_c rfl f9 (inCells_one ag3 rfl) rfl)) ⟨rfl, e0⟩)
 ·have hr : C.clashR = (0, 1) := ClampV.ok_no O
  rw [hr]
  have hbd := fun h A => attempt_bad O B p e h A 32
  try unfold zSp at *
  unfold ClampV.cells at *
  try unfold spC at *
  have e0 : Ext h h := Ext.refl _
  refine Runs.intro aFunc10 rfl rfl rfl rfl fun rest => ?_;apply gS;refine gR rfl ?_;refine GoR.box rfl rfl rfl rfl rfl rfl fun h0 x0 f0 => ?_;have := e0.1;replace e0 := e0.trans x0;have := f0.1;refine GoR.alloc rfl rfl rfl zt3 rfl rfl fun h1 x1 f1 => ?_;have := e0.1;have := f0.1;replace f0 := f0.ext x1;replace e0 := e0.trans x1;have := f1.1;refine gP ?_;apply gE;apply gS;refine gR rfl ?_;refine gO rfl rfl (ld30 rfl f0 rfl) rfl ?_;refine gP ?_;refine GoR.call rfl rfl (aCF aFunc15 rfl) (hbd _ (A.ext e0) _) ?_ np;rintro v2 h2 ⟨q, x2⟩;cases q;refine ⟨_, rfl, ?_⟩;replace f1 := f1.ext x2;replace e0 := e0.trans x2;refine gP ?_;apply gE;apply gS;refine gR rfl ?_;refine gO rfl rfl (ld3 rfl f1 rfl) rfl ?_;refine gP ?_;refine GoR.store rfl rfl rfl rfl rfl rfl f1 rfl sz3 rfl rfl rfl fun h3 u3 => ?_;replace f1 := u3.has f1;replace e0 := e0.upd u3 (by omega);refine gP ?_;apply gE;exact gV (ret_end (aResult_of Try.func10 rfl (aResults_c rfl f1 (inCells_one ag3 rfl) rfl)) ⟨rfl, e0⟩)
end Go.Proofs.Ytobhkdgcciolmaa

set_option linter.unusedSimpArgs false
namespace Go.AbsE
open Go
section
variable {P : Program} {t : Tr AVal} {h : AH} {dst : Option Tmp} {ty tt : TypeId} {pos : String} {after : Array Edge} {guard : Option (Nat × Bool)} {x y : Operand}
theorem slice_all0 {α : Type} {l : List α} {n : Nat} (h : l.length = n) : slice? l 0 n = some l := slice_all h
theorem aOp_appendFull {el el2 eb t1 t2 : TypeId} {sz bytes b len : Nat} {z s : AVal} {g0 : Kd} {Lx L : List (List AVal)} (hu1 : P.underlying t1 = some (.slice el)) (hu2 : P.underlying t2 = some (.slice el2)) (hs : sizeT P el = some sz) (hby : bytesT P el = some bytes) (hz : zeroT P el = some z) (hzl : Nat.beq z.cells.length sz = true) (hsz : Nat.blt 0 sz = true)
  (hx : ev t x = some (.slice b 0 len len)) (hb : Has h b (.cells g0 Lx.flatten eb)) (hg : g0.isRo = false) (hlx : Lx.length = len) (hzx : ∀ l, l ∈ Lx → l.length = sz) (hy : ev t y = some s) (hsl : SliceOf h sz s L) (hzL : ∀ l, l ∈ L → l.length = sz) (hroom : (len + L.length + 300) * 2 * (bytes + 1) < 281474976710656) :
  ∃ s' h1, aOp P t h ⟨dst, .call ⟨.builtin .append, #[x, y], #[t1, t2]⟩, tt, pos, after, guard⟩ = some (.val s' h1) ∧ Ext h h1 ∧ FreshS b h1 sz s' (Lx ++ L) := by
 subst hlx
 have hfx := flatten_len hzx
 by_cases hL : L = []
 ·subst hL
  obtain ⟨h1, q1, q2⟩ := aOp_appendIn (P := P) (t := t) (h := h) (dst := dst) (tt := tt) (pos := pos) (after := after) (guard := guard) (x := x) (y := y) (cap := Lx.length) (m := Lx.length) (new := []) (cs' := Lx.flatten) (cs := Lx.flatten) hu1 hu2 hs hby hz hzl hsz hx hy hsl.len (by rw [hsl.src]; rfl) rfl (by simp) (by simpa using hroom) hb hg rfl (by
   rw [Nat.zero_add, ← hfx]
   have : splice Lx.flatten Lx.flatten.length [] = some (Lx.flatten.take Lx.flatten.length ++ [] ++ Lx.flatten.drop (Lx.flatten.length + ([] : List AVal).length)) := splice_eq (by simp)
   rw [this]
   simp)
  refine ⟨_, h1, q1, ⟨by rw [q2.1]; exact Nat.le_refl _, fun c hc => ?_⟩, ?_⟩
  ·by_cases z : c = b
   ·subst z; rw [q2.2.1, hb.2]
   ·exact q2.2.2 c z
  ·rw [List.append_nil]
   intro h' hn he
   have hb1 := q2.has hb
   refine SliceOf.mk' rfl rfl (hb1.fresh (Nat.le_refl b) hn he) rfl fun i l hl => ?_
   rw [Nat.zero_add]
   exact slice_flatten hzx i l hl
 ·have hL0 : 0 < L.length := List.length_pos_iff.2 hL
  obtain ⟨h1, q⟩ := new_some h (.cells .grow (Lx ++ L).flatten el)
  obtain ⟨_, q2, q3⟩ := new_ext q
  refine ⟨.gsl h.next 0 0 (Lx.length + L.length), h1, ?_, q2, ?_⟩
  ·show opCall P t h ⟨.builtin .append, #[x, y], #[t1, t2]⟩ tt = _
   have he : evs t [x, y] = some [.slice b 0 Lx.length Lx.length, s] := by simp only [evs, mapO, hx, hy]
   have hlt : Nat.blt ((Lx.length + L.length + 300) * 2 * (bytes + 1)) 281474976710656 = true := Nat.ble_eq_true_of_le hroom
   have hold : srcCells h sz Lx.length (.slice b 0 Lx.length Lx.length) = some Lx.flatten := by
    show AbsE.loadCells h b 0 (Lx.length * sz) = _
    unfold AbsE.loadCells
    rw [hb.2]
    exact slice_all0 hfx
   have hle : Nat.ble (Lx.length + L.length) Lx.length = false := by
    cases q : Nat.ble (Lx.length + L.length) Lx.length with
    | false => rfl
    | true => have := Nat.le_of_ble_eq_true q; omega
   have ha : aAppend P h t1 t2 (.slice b 0 Lx.length Lx.length) s = some (.val (.gsl h.next 0 0 (Lx.length + L.length)) h1) := by
    unfold aAppend
    rw [hu1, hu2]
    simp only [hs, hby, hz, show lenA (.slice b 0 Lx.length Lx.length) = some Lx.length from rfl, hsl.len, hsl.src, hlt, hsz, hzl, cond_true]
    unfold appSlice
    rw [hle, hold]
    simp only [cond_false]
    unfold growNew
    rw [← List.flatten_append, q]
   simp only [opCall, he, callWith, aBuiltin, ha]
  ·intro h' hn he
   refine SliceOf.mk' rfl rfl (q3.fresh (Nat.le_of_lt hb.1) hn he) (by rw [List.length_append]) fun i l hl => ?_
   rw [Nat.zero_add]
   refine slice_flatten (fun l hl => ?_) i l hl
   rcases List.mem_append.1 hl with hl | hl
   ·exact hzx l hl
   ·exact hzL l hl
variable {c : FC} {k : List AItem} {Q : AM → Prop} {J : Jump} {all : Array Oper} {l lrest : List Oper} {i d : Nat}
theorem GoR.appendFull {el el2 eb t1 t2 : TypeId} {sz bytes b len : Nat} {z s : AVal} {g0 : Kd} {Lx L : List (List AVal)} (hl : l = ⟨dst, .call ⟨.builtin .append, #[x, y], #[t1, t2]⟩, tt, pos, after, guard⟩ :: lrest) (hw : wantedA all t ⟨dst, .call ⟨.builtin .append, #[x, y], #[t1, t2]⟩, tt, pos, after, guard⟩ = some true)
  (hu1 : P.underlying t1 = some (.slice el)) (hu2 : P.underlying t2 = some (.slice el2)) (hs : sizeT P el = some sz) (hby : bytesT P el = some bytes) (hz : zeroT P el = some z) (hzl : Nat.beq z.cells.length sz = true) (hsz : Nat.blt 0 sz = true)
  (hx : ev t x = some (.slice b 0 len len)) (hb : Has h b (.cells g0 Lx.flatten eb)) (hg : g0.isRo = false) (hlx : Lx.length = len) (hzx : ∀ l, l ∈ Lx → l.length = sz) (hy : ev t y = some s) (hsl : SliceOf h sz s L) (hzL : ∀ l, l ∈ L → l.length = sz) (hroom : (len + L.length + 300) * 2 * (bytes + 1) < 281474976710656) (hd : dst = some d) (hdn : Nat.blt d c.n = true)
  (g : ∀ s' h1, Ext h h1 → FreshS b h1 sz s' (Lx ++ L) → GoR P J c k Q (runOps P c.n all lrest (i + 1) (t.put (pth d) (some s')) h1)) : GoR P J c k Q (runOps P c.n all l i t h) := by
 obtain ⟨s', h1, q1, q2, q3⟩ := aOp_appendFull (P := P) (dst := dst) (tt := tt) (pos := pos) (after := after) (guard := guard) hu1 hu2 hs hby hz hzl hsz hx hb hg hlx hzx hy hsl hzL hroom
 refine GoR.op hl hw q1 ?_ (g s' h1 q2 q3)
 unfold prepD
 rw [show (⟨dst, .call ⟨.builtin .append, #[x, y], #[t1, t2]⟩, tt, pos, after, guard⟩ : Oper).dst = some d from hd]
 simp only [hdn, cond_true]
 rw [Tr.mkPut_eq]
end
end Go.AbsE

namespace Go.Proofs.Ytobhkdgcciolmaa
open Go Go.AbsE
set_option linter.unusedSimpArgs false
set_option maxRecDepth 100000
set_option maxHeartbeats 0
set_option linter.unusedVariables false
theorem span36_ok {a b : Int} {h : AH} : Runs Try.prog 14 [.int .i64 a, .int .i64 b] h (fun en h' => en = .ret (.agg [.int .i64 a, .int .i64 b]) ∧ Ext h h') := by
 have e0 : Ext h h := Ext.refl _
 refine Runs.intro aFunc14 rfl rfl rfl rfl fun rest => ?_;apply gS;refine gR rfl ?_;refine GoR.alloc rfl rfl rfl zt23 rfl rfl fun h0 x0 f0 => ?_;have := e0.1;replace e0 := e0.trans x0;have := f0.1;apply gE;apply gS;refine gR rfl ?_;iterate 2 refine gP ?_
 refine gO rfl rfl (aOp_build zt23 hu23 pl23 rfl rfl) rfl ?_;refine GoR.store rfl rfl rfl rfl rfl rfl f0 rfl sz23 rfl rfl rfl fun h1 u1 => ?_;replace f0 := u1.has f0;replace e0 := e0.upd u1 (by omega);apply gE;exact gV (ret_end (aResult_of Try.func14 rfl (aResults_cell rfl f0 (inCells_agg ag23 sz23 rfl))) ⟨rfl, e0⟩)
theorem count35_ok {c a b : Int} {h : AH} : Runs Try.prog 22 [.int .i64 c, .int .i64 a, .int .i64 b] h (fun en h' => en = .ret (.agg [.int .i64 1, .int .i64 c, .int .i64 a, .int .i64 b]) ∧ Ext h h') := by
 have e0 : Ext h h := Ext.refl _
 refine Runs.intro aFunc22 rfl rfl rfl rfl fun rest => ?_;apply gS;refine gR rfl ?_;refine GoR.alloc rfl rfl rfl zt55 rfl rfl fun h0 x0 f0 => ?_;have := e0.1;replace e0 := e0.trans x0;have := f0.1;apply gE;apply gS;refine gR rfl ?_;iterate 3 refine gP ?_
 refine GoR.call rfl rfl (aCF aFunc14 rfl) (span36_ok) ?_ np;rintro v1 h1 ⟨q, x1⟩;cases q;refine ⟨_, rfl, ?_⟩;replace f0 := f0.ext x1;replace e0 := e0.trans x1;refine gO rfl rfl (aOp_build zt55 hu55 pl55 rfl rfl) rfl ?_;refine GoR.store rfl rfl rfl rfl rfl rfl f0 rfl sz55 rfl rfl rfl fun h2 u2 => ?_;replace f0 := u2.has f0;replace e0 := e0.upd u2 (by omega);apply gE;exact gV (ret_end (aResult_of Try.func22 rfl (aResults_cell rfl f0 (inCells_agg ag55 sz55 rfl))) ⟨rfl, e0⟩)
theorem sale41_ok {c a b : Int} {h : AH} : Runs Try.prog 21 [.int .i64 c, .int .i64 a, .int .i64 b] h (fun en h' => en = .ret (.agg [.int .i64 0, .int .i64 c, .int .i64 a, .int .i64 b]) ∧ Ext h h') := by
 have e0 : Ext h h := Ext.refl _
 refine Runs.intro aFunc21 rfl rfl rfl rfl fun rest => ?_;apply gS;refine gR rfl ?_;refine GoR.alloc rfl rfl rfl zt55 rfl rfl fun h0 x0 f0 => ?_;have := e0.1;replace e0 := e0.trans x0;have := f0.1;apply gE;apply gS;refine gR rfl ?_;iterate 3 refine gP ?_
 refine GoR.call rfl rfl (aCF aFunc14 rfl) (span36_ok) ?_ np;rintro v1 h1 ⟨q, x1⟩;cases q;refine ⟨_, rfl, ?_⟩;replace f0 := f0.ext x1;replace e0 := e0.trans x1;refine gO rfl rfl (aOp_build (ps := [(1, .int .i64 c), (2, .agg [.int .i64 a, .int .i64 b])]) (cs := [.int .i64 0, .int .i64 c, .int .i64 a, .int .i64 b]) zt55 hu55 pl55 rfl rfl) rfl ?_;refine GoR.store rfl rfl rfl rfl rfl rfl f0 rfl sz55 rfl rfl rfl fun h2 u2 => ?_;replace f0 := u2.has f0;replace e0 := e0.upd u2 (by omega);apply gE;exact gV (ret_end (aResult_of Try.func21 rfl (aResults_cell rfl f0 (inCells_agg ag55 sz55 rfl))) ⟨rfl, e0⟩)
theorem pile83_ok {l w a b : Int} {h : AH} : Runs Try.prog 20 [.int .i64 l, .int .i64 w, .int .i64 a, .int .i64 b] h (fun en h' => en = .ret (.agg [.int .i64 l, .int .i64 l, .int .i64 w, .int .i64 w, .int .i64 a, .int .i64 b]) ∧ Ext h h') := by
 have e0 : Ext h h := Ext.refl _
 refine Runs.intro aFunc20 rfl rfl rfl rfl fun rest => ?_;apply gS;refine gR rfl ?_;refine GoR.alloc rfl rfl rfl zt52 rfl rfl fun h0 x0 f0 => ?_;have := e0.1;replace e0 := e0.trans x0;have := f0.1;apply gE;apply gS;refine gR rfl ?_;iterate 2 refine gP ?_
 refine GoR.call rfl rfl (aCF aFunc14 rfl) (span36_ok) ?_ np;rintro v1 h1 ⟨q, x1⟩;cases q;refine ⟨_, rfl, ?_⟩;replace f0 := f0.ext x1;replace e0 := e0.trans x1;iterate 2 refine gP ?_
 refine GoR.call rfl rfl (aCF aFunc14 rfl) (span36_ok) ?_ np;rintro v2 h2 ⟨q, x2⟩;cases q;refine ⟨_, rfl, ?_⟩;replace f0 := f0.ext x2;replace e0 := e0.trans x2;iterate 2 refine gP ?_
 refine GoR.call rfl rfl (aCF aFunc14 rfl) (span36_ok) ?_ np;rintro v3 h3 ⟨q, x3⟩;cases q;refine ⟨_, rfl, ?_⟩;replace f0 := f0.ext x3;replace e0 := e0.trans x3;refine gO rfl rfl (aOp_build zt52 hu52 pl52 rfl rfl) rfl ?_;refine GoR.store rfl rfl rfl rfl rfl rfl f0 rfl sz52 rfl rfl rfl fun h4 u4 => ?_;replace f0 := u4.has f0;replace e0 := e0.upd u4 (by omega);apply gE;exact gV (ret_end (aResult_of Try.func20 rfl (aResults_cell rfl f0 (inCells_agg ag52 sz52 rfl))) ⟨rfl, e0⟩)
end Go.Proofs.Ytobhkdgcciolmaa

namespace Go.Proofs.Ytobhkdgcciolmaa
open Go Go.AbsE
set_option linter.unusedSimpArgs false
set_option maxRecDepth 100000
set_option maxHeartbeats 0
set_option linter.unusedVariables false
def sampleV (E : List EV) : ClampV := ⟨[⟨3, 3, 2, 2, 1, 2⟩, ⟨2, 2, 2, 2, 2, 2⟩], 4, 5, [⟨0, 0, 10, 12⟩, ⟨1, 1, 30, 33⟩] ++ E⟩
def k1 : EV := ⟨1, 0, 13, 36⟩
def k2 : EV := ⟨1, 0, 12, 12⟩
theorem pv_len (p : PV) : (PV.cells p).length = 6 := rfl
theorem ev_len (p : EV) : (EV.cells p).length = 4 := rfl
theorem evs_four {L : List EV} : ∀ l, l ∈ L.map EV.cells → l.length = 4 := fun l hl => by
 obtain ⟨e, _, rfl⟩ := List.mem_map.1 hl
 rfl
theorem pvs_slice {h : AH} {b n : Nat} {g : Kd} {el : TypeId} {L : List PV} (hn : L.length = n) (f : Has h b (.cells g (L.flatMap PV.cells) el)) : SliceOf h 6 (.slice b 0 n n) (L.map PV.cells) :=
 SliceOf.mk' rfl rfl f (by rw [List.length_map, hn]) fun i v q => by rw [Nat.zero_add]; exact flatten_at pv_len i v q
theorem evs_slice {h : AH} {b n : Nat} {g : Kd} {el : TypeId} {L : List EV} (hn : L.length = n) (f : Has h b (.cells g (L.flatMap EV.cells) el)) : SliceOf h 4 (.slice b 0 n n) (L.map EV.cells) :=
 SliceOf.mk' rfl rfl f (by rw [List.length_map, hn]) fun i v q => by rw [Nat.zero_add]; exact flatten_at ev_len i v q
theorem scal_app {a b : List AVal} (ha : scalars a = true) (hb : scalars b = true) : scalars (a ++ b) = true := by
 induction a with
 | nil => exact hb
 | cons x a ih =>
  show cond (scalar x) (scalars (a ++ b)) false = true
  have h1 : cond (scalar x) (scalars a) false = true := ha
  cases q : scalar x with
  | true => rw [q] at h1; exact ih h1
  | false => rw [q] at h1; cases h1
theorem ClampAt.scal {C : ClampV} {p e : AVal} {h : AH} (A : ClampAt h C p e) : scalars (C.cells p e) = true :=
 scal_app (a := [p]) A.ps.scal.1 (scal_app (a := [.int .i64 C.pl, .int .i64 C.ph]) rfl A.es.scal.1)
def ClampNew (lo : Nat) (h : AH) (C : ClampV) (p e : AVal) : Prop := FreshS lo h 6 p (C.ps.map PV.cells) ∧ FreshS lo h 4 e (C.es.map EV.cells)
theorem ClampNew.at {lo : Nat} {h : AH} {C : ClampV} {p e : AVal} (k : ClampNew lo h C p e) : ClampAt h C p e := ⟨k.1.self, k.2.self⟩
theorem ClampNew.upd {lo n : Nat} {B : ABlk} {h h' : AH} {C : ClampV} {p e : AVal} (k : ClampNew lo h C p e) (u : Upd h n B h') (hn : n < lo) : ClampNew lo h' C p e :=
 ⟨k.1.on (Nat.le_of_eq u.1.symm) fun b b1 _ => u.2.2 b (by omega), k.2.on (Nat.le_of_eq u.1.symm) fun b b1 _ => u.2.2 b (by omega)⟩
theorem fresh_pvs {lo : Nat} {h : AH} {b n : Nat} {g : Kd} {el : TypeId} {L : List PV} (hn : L.length = n) (hb : lo ≤ b) (f : Has h b (.cells g (L.flatMap PV.cells) el)) : FreshS lo h 6 (.slice b 0 n n) (L.map PV.cells) := fun h' hl he => pvs_slice hn ⟨Nat.lt_of_lt_of_le f.1 hl, by rw [he b hb f.1]; exact f.2⟩
theorem sample_ok {E : List EV} {s : AVal} {h : AH} (hs : SliceOf h 4 s (E.map EV.cells)) (hn : E.length ≤ 100) : Runs Try.prog 5 [s] h (fun en h' => ∃ p e, en = .ret (.agg ((sampleV E).cells p e)) ∧ Ext h h' ∧ ClampNew h.next h' (sampleV E) p e ∧ Ext h' h') := by
 unfold ClampV.cells
 have e0 : Ext h h := Ext.refl _
 refine Runs.intro aFunc5 rfl rfl rfl rfl fun rest => ?_;apply gS;refine gR rfl ?_;refine GoR.alloc rfl rfl rfl zt30 rfl rfl fun h0 x0 f0 => ?_;have := e0.1;replace e0 := e0.trans x0;have := f0.1;apply gE;apply gS;refine gR rfl ?_;refine GoR.call rfl rfl (aCF aFunc20 rfl) (pile83_ok) ?_ np;rintro v1 h1 ⟨q, x1⟩;cases q;refine ⟨_, rfl, ?_⟩;replace f0 := f0.ext x1;replace e0 := e0.trans x1;refine GoR.call rfl rfl (aCF aFunc20 rfl) (pile83_ok) ?_ np;rintro v2 h2 ⟨q, x2⟩;cases q;refine ⟨_, rfl, ?_⟩;replace f0 := f0.ext x2;replace e0 := e0.trans x2;refine GoR.buildSl rfl rfl (ps := [(0, .agg [.int .i64 3, .int .i64 3, .int .i64 2, .int .i64 2, .int .i64 1, .int .i64 2]), (1, .agg [.int .i64 2, .int .i64 2, .int .i64 2, .int .i64 2, .int .i64 2, .int .i64 2])]) (cs := ([⟨3, 3, 2, 2, 1, 2⟩, ⟨2, 2, 2, 2, 2, 2⟩] : List PV).flatMap PV.cells) Try.underlying27 rfl sz52 zt52 rfl rfl rfl rfl fun h3 x3 f3 => ?_;have := e0.1;have := f0.1;replace f0 := f0.ext x3;replace e0 := e0.trans x3;have := f3.1;refine GoR.call rfl rfl (aCF aFunc14 rfl) (span36_ok) ?_ np;rintro v4 h4 ⟨q, x4⟩;cases q;refine ⟨_, rfl, ?_⟩;replace f3 := f3.ext x4;replace f0 := f0.ext x4;replace e0 := e0.trans x4;refine GoR.call rfl rfl (aCF aFunc21 rfl) (sale41_ok) ?_ np;rintro v5 h5 ⟨q, x5⟩;cases q;refine ⟨_, rfl, ?_⟩;replace f3 := f3.ext x5;replace f0 := f0.ext x5;replace e0 := e0.trans x5;refine GoR.call rfl rfl (aCF aFunc22 rfl) (count35_ok) ?_ np;rintro v6 h6 ⟨q, x6⟩;cases q;refine ⟨_, rfl, ?_⟩;replace f3 := f3.ext x6;replace f0 := f0.ext x6;replace e0 := e0.trans x6;refine GoR.buildSl rfl rfl (ps := [(0, .agg [.int .i64 0, .int .i64 0, .int .i64 10, .int .i64 12]), (1, .agg [.int .i64 1, .int .i64 1, .int .i64 30, .int .i64 33])]) (cs := (([⟨0, 0, 10, 12⟩, ⟨1, 1, 30, 33⟩] : List EV).map EV.cells).flatten) Try.underlying28 rfl sz55 zt55 rfl rfl rfl rfl fun h7 x7 f7 => ?_;have := e0.1;have := f3.1;have := f0.1;replace f3 := f3.ext x7;replace f0 := f0.ext x7;replace e0 := e0.trans x7;have := f7.1;refine gP ?_
 have hb0 := f0.1
 have hsl := hs.ext e0
 have hb3 := f3.1
 have hb7 := f7.1
 have hn1 : h.next < h2.next := by omega
 have hn2 : h2.next < h6.next := by omega
 refine GoR.appendFull (Lx := ([⟨0, 0, 10, 12⟩, ⟨1, 1, 30, 33⟩] : List EV).map EV.cells) rfl rfl Try.underlying28 Try.underlying28 sz55 by55 zt55 rfl rfl rfl f7 rfl rfl evs_four rfl hsl evs_four (by rw [List.length_map]; omega) rfl rfl fun s11 h11 x11 S11 => ?_;replace f0 := f0.ext x11;replace f3 := f3.ext x11;replace e0 := e0.trans x11
 rw [← List.map_append] at S11
 have hs11 := S11.self.scal
 have hx11 := x11.1
 have RN : ClampNew (h.next + 1) h11 (sampleV E) (.slice h2.next 0 2 2) s11 := ⟨fresh_pvs (L := [⟨3, 3, 2, 2, 1, 2⟩, ⟨2, 2, 2, 2, 2, 2⟩]) rfl (by omega) f3, fun h' hl he => S11 h' hl fun b b1 b2 => he b (by omega) b2⟩
 have hsc : scalars [.slice h2.next 0 2 2, .int .i64 4, .int .i64 5, s11] = true := scal_app (a := [.slice h2.next 0 2 2, .int .i64 4, .int .i64 5]) rfl hs11.1
 clear f7;refine gO rfl rfl (aOp_build (ps := [(0, .slice h2.next 0 2 2), (1, .agg [.int .i64 4, .int .i64 5]), (2, s11)]) (cs := [.slice h2.next 0 2 2, .int .i64 4, .int .i64 5, s11]) zt30 hu30 pl30 rfl (by simp [aFillA, hs11.2, cells_agg, splice]; rfl)) rfl ?_;refine GoR.store rfl rfl rfl rfl rfl rfl f0 rfl sz30 rfl hsc rfl fun h12 u12 => ?_;replace f0 := u12.has f0;replace e0 := e0.upd u12 (by omega);apply gE
 have hr := RN.upd u12 (Nat.lt_succ_self _)
 exact gV (ret_end (aResult_of Try.func5 rfl (aResults_cell rfl f0 (inCells_agg ag30 sz30 rfl))) ⟨_, _, rfl, e0, ⟨fun h' hl he => hr.1 h' hl fun b b1 b2 => he b (by omega) b2, fun h' hl he => hr.2 h' hl fun b b1 b2 => he b (by omega) b2⟩, Ext.refl _⟩)
theorem nil_ok {h : AH} : Runs Try.prog 5 [.nilslice] h (fun en h' => ∃ p e, en = .ret (.agg ((sampleV []).cells p e)) ∧ Ext h h' ∧ ClampAt h' (sampleV []) p e ∧ Ext h' h') :=
 (sample_ok (E := []) .nil (by decide)).mono fun en h' ⟨p, e, q, x, N, y⟩ => ⟨p, e, q, x, N.at, y⟩
theorem counted_ok {h : AH} : Runs Try.prog 11 [] h (fun en h' => ∃ p e, en = .ret (.agg ((sampleV [k1]).cells p e)) ∧ Ext h h' ∧ ClampAt h' (sampleV [k1]) p e ∧ Ext h' h') := by
 have hsa := fun {s h'} S => sample_ok (E := [k1]) (s := s) (h := h') S (by decide)
 unfold ClampV.cells at hsa ⊢
 have e0 : Ext h h := Ext.refl _
 refine Runs.intro aFunc11 rfl rfl rfl rfl fun rest => ?_;apply gS;refine gR rfl ?_;refine GoR.alloc rfl rfl rfl zt30 rfl rfl fun h0 x0 f0 => ?_;have := e0.1;replace e0 := e0.trans x0;have := f0.1;apply gE;apply gS;refine gR rfl ?_;refine GoR.call rfl rfl (aCF aFunc22 rfl) (count35_ok) ?_ np;rintro v1 h1 ⟨q, x1⟩;cases q;refine ⟨_, rfl, ?_⟩;replace f0 := f0.ext x1;replace e0 := e0.trans x1;refine GoR.buildSl rfl rfl (ps := [(0, .agg [.int .i64 1, .int .i64 0, .int .i64 13, .int .i64 36])]) (cs := [k1].flatMap EV.cells) Try.underlying28 rfl sz55 zt55 rfl rfl rfl rfl fun h2 x2 f2 => ?_;have := e0.1;have := f0.1;replace f0 := f0.ext x2;replace e0 := e0.trans x2;have := f2.1;refine GoR.call rfl rfl (aCF aFunc5 rfl) (hsa (evs_slice (L := [k1]) rfl (by assumption))) ?_ (by rintro _ _ ⟨p, e, q, _, RA, e9⟩; cases q);rintro v3 h3 ⟨p, e, q, x3, RA, e9⟩;cases q;refine ⟨_, rfl, ?_⟩;have := e0.1;replace f2 := f2.ext x3;replace f0 := f0.ext x3;replace e0 := e0.trans x3;refine GoR.store rfl rfl rfl rfl rfl rfl f0 rfl sz30 rfl RA.at.scal rfl fun h4 u4 => ?_;replace f2 := f2.upd u4 (by omega);replace f0 := u4.has f0;clear e9;replace e0 := e0.upd u4 (by omega);apply gE;exact gV (ret_end (aResult_of Try.func11 rfl (aResults_cell rfl f0 (inCells_agg ag30 sz30 rfl))) ⟨_, _, rfl, e0, (RA.upd (by assumption) (by omega)).at, Ext.refl _⟩)
theorem clash_ok {h : AH} : Runs Try.prog 12 [] h (fun en h' => ∃ p e, en = .ret (.agg ((sampleV [k1, k2]).cells p e)) ∧ Ext h h' ∧ ClampAt h' (sampleV [k1, k2]) p e ∧ Ext h' h') := by
 have hsa := fun {s h'} S => sample_ok (E := [k1, k2]) (s := s) (h := h') S (by decide)
 unfold ClampV.cells at hsa ⊢
 have e0 : Ext h h := Ext.refl _
 refine Runs.intro aFunc12 rfl rfl rfl rfl fun rest => ?_;apply gS;refine gR rfl ?_;refine GoR.alloc rfl rfl rfl zt30 rfl rfl fun h0 x0 f0 => ?_;have := e0.1;replace e0 := e0.trans x0;have := f0.1;apply gE;apply gS;refine gR rfl ?_;refine GoR.call rfl rfl (aCF aFunc22 rfl) (count35_ok) ?_ np;rintro v1 h1 ⟨q, x1⟩;cases q;refine ⟨_, rfl, ?_⟩;replace f0 := f0.ext x1;replace e0 := e0.trans x1;refine GoR.call rfl rfl (aCF aFunc22 rfl) (count35_ok) ?_ np;rintro v2 h2 ⟨q, x2⟩;cases q;refine ⟨_, rfl, ?_⟩;replace f0 := f0.ext x2;replace e0 := e0.trans x2;refine GoR.buildSl rfl rfl (ps := [(0, .agg [.int .i64 1, .int .i64 0, .int .i64 13, .int .i64 36]), (1, .agg [.int .i64 1, .int .i64 0, .int .i64 12, .int .i64 12])]) (cs := [k1, k2].flatMap EV.cells) Try.underlying28 rfl sz55 zt55 rfl rfl rfl rfl fun h3 x3 f3 => ?_;have := e0.1;have := f0.1;replace f0 := f0.ext x3;replace e0 := e0.trans x3;have := f3.1;refine GoR.call rfl rfl (aCF aFunc5 rfl) (hsa (evs_slice (L := [k1, k2]) rfl (by assumption))) ?_ (by rintro _ _ ⟨p, e, q, _, RA, e9⟩; cases q);rintro v4 h4 ⟨p, e, q, x4, RA, e9⟩;cases q;refine ⟨_, rfl, ?_⟩;have := e0.1;replace f3 := f3.ext x4;replace f0 := f0.ext x4;replace e0 := e0.trans x4;refine GoR.store rfl rfl rfl rfl rfl rfl f0 rfl sz30 rfl RA.at.scal rfl fun h5 u5 => ?_;replace f3 := f3.upd u5 (by omega);replace f0 := u5.has f0;clear e9;replace e0 := e0.upd u5 (by omega);apply gE;exact gV (ret_end (aResult_of Try.func12 rfl (aResults_cell rfl f0 (inCells_agg ag30 sz30 rfl))) ⟨_, _, rfl, e0, (RA.upd (by assumption) (by omega)).at, Ext.refl _⟩)
theorem spanT23 : SpanT Try.prog 23 := ⟨⟨_, _, Try.underlying23, by decide, by decide, rfl, rfl, ⟨_, Try.underlying3⟩, ⟨_, Try.underlying3⟩⟩, by kernel_rfl, by kernel_rfl⟩
theorem v0 : (sampleV []).builtR 0 = ((24, 48), 0) := by decide +kernel
theorem cv0 {h : AH} {p e : AVal} (A : ClampAt h (sampleV []) p e) : Runs Try.prog 4 [.agg ((sampleV []).cells p e), .int .i64 0] h (fun en h' => en = .ret (.tuple [.agg [.int .i64 24, .int .i64 48], .int .i64 0]) ∧ Ext h h') := by
 have q := Built_ok A ⟨by decide, by decide⟩ 0
 rw [v0] at q;exact q
theorem v1 : (sampleV [k1]).hasR 0 = ((13, 36), 0) := by decide +kernel
theorem cv1 {h : AH} {p e : AVal} (A : ClampAt h (sampleV [k1]) p e) : Runs Try.prog 6 [.agg ((sampleV [k1]).cells p e), .int .i64 0] h (fun en h' => en = .ret (.tuple [.agg [.int .i64 13, .int .i64 36], .int .i64 0]) ∧ Ext h h') := by
 have q := Has_ok A ⟨by decide, by decide⟩ 0
 rw [v1] at q;exact q
theorem v2 : (sampleV []).soldR 0 = ((10, 12), 0) := by decide +kernel
theorem cv2 {h : AH} {p e : AVal} (A : ClampAt h (sampleV []) p e) : Runs Try.prog 7 [.agg ((sampleV []).cells p e), .int .i64 0] h (fun en h' => en = .ret (.tuple [.agg [.int .i64 10, .int .i64 12], .int .i64 0]) ∧ Ext h h') := by
 have q := Sold_ok A ⟨by decide, by decide⟩ 0
 rw [v2] at q;exact q
theorem v3 : (sampleV []).allR = ((44, 70), 0) := by decide +kernel
theorem cv3 {h : AH} {p e : AVal} (A : ClampAt h (sampleV []) p e) : Runs Try.prog 34 [.agg ((sampleV []).cells p e)] h (fun en h' => en = .ret (.tuple [.agg [.int .i64 44, .int .i64 70], .int .i64 0]) ∧ Ext h h') := by
 have q := All_ok A ⟨by decide, by decide⟩
 rw [v3] at q;exact q
theorem v4 : (sampleV []).enoughR 0 20 = (1, 0) := by decide +kernel
theorem cv4 {h : AH} {p e : AVal} (A : ClampAt h (sampleV []) p e) : Runs Try.prog 8 [.agg ((sampleV []).cells p e), .int .i64 0, .int .i64 20] h (fun en h' => en = .ret (.tuple [.int .i64 1, .int .i64 0]) ∧ Ext h h') := by
 have q := Enough_ok A ⟨by decide, by decide⟩ 0 20
 rw [v4] at q;exact q
theorem v5 : (sampleV []).emptyR = ((0, 0), 0) := by decide +kernel
theorem cv5 {h : AH} {p e : AVal} (A : ClampAt h (sampleV []) p e) : Runs Try.prog 35 [.agg ((sampleV []).cells p e)] h (fun en h' => en = .ret (.tuple [.int .i64 0, .int .i64 0, .int .i64 0]) ∧ Ext h h') := by
 have q := Empty_ok A ⟨by decide, by decide⟩
 rw [v5] at q;exact q
theorem v6 : (sampleV []).shareR 40 = (3, 0) := by decide +kernel
theorem cv6 {h : AH} {p e : AVal} (A : ClampAt h (sampleV []) p e) : Runs Try.prog 9 [.agg ((sampleV []).cells p e), .int .i64 40] h (fun en h' => en = .ret (.tuple [.int .i64 3, .int .i64 0]) ∧ Ext h h') := by
 have q := Share_ok A ⟨by decide, by decide⟩ 40
 rw [v6] at q;exact q
theorem v7 : (sampleV [k1, k2]).clashR = (12, 0) := by decide +kernel
theorem cv7 {h : AH} {p e : AVal} (A : ClampAt h (sampleV [k1, k2]) p e) : Runs Try.prog 10 [.agg ((sampleV [k1, k2]).cells p e)] h (fun en h' => en = .ret (.tuple [.int .i64 12, .int .i64 0]) ∧ Ext h h') := by
 have q := Clash_ok A ⟨by decide, by decide⟩
 rw [v7] at q;exact q
theorem alive_ok {h : AH} : Runs Try.prog 13 [] h (fun en h' => en = .ret (.bool true) ∧ Ext h h') := by
 have e0 : Ext h h := Ext.refl _
 refine Runs.intro aFunc13 rfl rfl rfl rfl fun rest => ?_;apply gS;refine gR rfl ?_;refine gP ?_;apply gE;apply gS;refine gR rfl ?_;refine GoR.call rfl rfl (aCF aFunc5 rfl) (nil_ok) ?_ (by rintro _ _ ⟨p0, q0, q, _, A0, _⟩; cases q);rintro v0 h0 ⟨p0, q0, q, x0, A0, _⟩;cases q;refine ⟨_, rfl, ?_⟩;have := e0.1;replace e0 := e0.trans x0;refine GoR.call rfl rfl (aCF aFunc4 rfl) (cv0 A0) ?_ np;rintro v1 h1 ⟨q, x1⟩;cases q;refine ⟨_, rfl, ?_⟩;replace e0 := e0.trans x1;iterate 3 refine gP ?_
 refine GoR.alloc rfl rfl rfl zt23 rfl rfl fun h2 x2 f2 => ?_;have := e0.1;replace e0 := e0.trans x2;have := f2.1;refine GoR.store rfl rfl rfl rfl rfl rfl f2 rfl sz23 rfl rfl rfl fun h3 u3 => ?_;replace f2 := u3.has f2;replace e0 := e0.upd u3 (by omega);refine gP ?_;apply gE;apply gS;refine gR rfl ?_;refine GoR.call rfl rfl (aCF aFunc11 rfl) (counted_ok) ?_ (by rintro _ _ ⟨p1, q1, q, _, A1, _⟩; cases q);rintro v4 h4 ⟨p1, q1, q, x4, A1, _⟩;cases q;refine ⟨_, rfl, ?_⟩;have := e0.1;replace f2 := f2.ext x4;replace e0 := e0.trans x4;refine GoR.call rfl rfl (aCF aFunc6 rfl) (cv1 A1) ?_ np;rintro v5 h5 ⟨q, x5⟩;cases q;refine ⟨_, rfl, ?_⟩;replace f2 := f2.ext x5;replace e0 := e0.trans x5;iterate 3 refine gP ?_
 refine GoR.alloc rfl rfl rfl zt23 rfl rfl fun h6 x6 f6 => ?_;have := e0.1;have := f2.1;replace f2 := f2.ext x6;replace e0 := e0.trans x6;have := f6.1;refine GoR.store rfl rfl rfl rfl rfl rfl f6 rfl sz23 rfl rfl rfl fun h7 u7 => ?_;replace f6 := u7.has f6;replace f2 := f2.upd u7 (by omega);replace e0 := e0.upd u7 (by omega);refine gP ?_;apply gE;apply gS;refine gR rfl ?_;refine GoR.call rfl rfl (aCF aFunc5 rfl) (nil_ok) ?_ (by rintro _ _ ⟨p0, q0, q, _, A0, _⟩; cases q);rintro v8 h8 ⟨p0, q0, q, x8, A0, _⟩;cases q;refine ⟨_, rfl, ?_⟩;have := e0.1;replace f6 := f6.ext x8;replace f2 := f2.ext x8;replace e0 := e0.trans x8;refine GoR.call rfl rfl (aCF aFunc7 rfl) (cv2 A0) ?_ np;rintro v9 h9 ⟨q, x9⟩;cases q;refine ⟨_, rfl, ?_⟩;replace f6 := f6.ext x9;replace f2 := f2.ext x9;replace e0 := e0.trans x9;iterate 3 refine gP ?_
 refine GoR.alloc rfl rfl rfl zt23 rfl rfl fun h10 x10 f10 => ?_;have := e0.1;have := f6.1;have := f2.1;replace f6 := f6.ext x10;replace f2 := f2.ext x10;replace e0 := e0.trans x10;have := f10.1;refine GoR.store rfl rfl rfl rfl rfl rfl f10 rfl sz23 rfl rfl rfl fun h11 u11 => ?_;replace f10 := u11.has f10;replace f6 := f6.upd u11 (by omega);replace f2 := f2.upd u11 (by omega);replace e0 := e0.upd u11 (by omega);refine gP ?_;apply gE;apply gS;refine gR rfl ?_;refine GoR.call rfl rfl (aCF aFunc5 rfl) (nil_ok) ?_ (by rintro _ _ ⟨p0, q0, q, _, A0, _⟩; cases q);rintro v12 h12 ⟨p0, q0, q, x12, A0, _⟩;cases q;refine ⟨_, rfl, ?_⟩;have := e0.1;replace f10 := f10.ext x12;replace f6 := f6.ext x12;replace f2 := f2.ext x12;replace e0 := e0.trans x12;refine GoR.call rfl rfl (aCF aFunc34 rfl) (cv3 A0) ?_ np;rintro v13 h13 ⟨q, x13⟩;cases q;refine ⟨_, rfl, ?_⟩;replace f10 := f10.ext x13;replace f6 := f6.ext x13;replace f2 := f2.ext x13;replace e0 := e0.trans x13;iterate 3 refine gP ?_
 refine GoR.alloc rfl rfl rfl zt23 rfl rfl fun h14 x14 f14 => ?_;have := e0.1;have := f10.1;have := f6.1;have := f2.1;replace f10 := f10.ext x14;replace f6 := f6.ext x14;replace f2 := f2.ext x14;replace e0 := e0.trans x14;have := f14.1;refine GoR.store rfl rfl rfl rfl rfl rfl f14 rfl sz23 rfl rfl rfl fun h15 u15 => ?_;replace f14 := u15.has f14;replace f10 := f10.upd u15 (by omega);replace f6 := f6.upd u15 (by omega);replace f2 := f2.upd u15 (by omega);replace e0 := e0.upd u15 (by omega);refine gP ?_;apply gE;apply gS;refine gR rfl ?_;refine GoR.call rfl rfl (aCF aFunc5 rfl) (nil_ok) ?_ (by rintro _ _ ⟨p0, q0, q, _, A0, _⟩; cases q);rintro v16 h16 ⟨p0, q0, q, x16, A0, _⟩;cases q;refine ⟨_, rfl, ?_⟩;have := e0.1;replace f14 := f14.ext x16;replace f10 := f10.ext x16;replace f6 := f6.ext x16;replace f2 := f2.ext x16;replace e0 := e0.trans x16;refine GoR.call rfl rfl (aCF aFunc8 rfl) (cv4 A0) ?_ np;rintro v17 h17 ⟨q, x17⟩;cases q;refine ⟨_, rfl, ?_⟩;replace f14 := f14.ext x17;replace f10 := f10.ext x17;replace f6 := f6.ext x17;replace f2 := f2.ext x17;replace e0 := e0.trans x17;iterate 5 refine gP ?_
 apply gE;apply gS;refine gR rfl ?_;refine GoR.call rfl rfl (aCF aFunc5 rfl) (nil_ok) ?_ (by rintro _ _ ⟨p0, q0, q, _, A0, _⟩; cases q);rintro v18 h18 ⟨p0, q0, q, x18, A0, _⟩;cases q;refine ⟨_, rfl, ?_⟩;have := e0.1;replace f14 := f14.ext x18;replace f10 := f10.ext x18;replace f6 := f6.ext x18;replace f2 := f2.ext x18;replace e0 := e0.trans x18;refine GoR.call rfl rfl (aCF aFunc35 rfl) (cv5 A0) ?_ np;rintro v19 h19 ⟨q, x19⟩;cases q;refine ⟨_, rfl, ?_⟩;replace f14 := f14.ext x19;replace f10 := f10.ext x19;replace f6 := f6.ext x19;replace f2 := f2.ext x19;replace e0 := e0.trans x19;iterate 7 refine gP ?_
 apply gE;apply gS;refine gR rfl ?_;refine GoR.call rfl rfl (aCF aFunc5 rfl) (nil_ok) ?_ (by rintro _ _ ⟨p0, q0, q, _, A0, _⟩; cases q);rintro v20 h20 ⟨p0, q0, q, x20, A0, _⟩;cases q;refine ⟨_, rfl, ?_⟩;have := e0.1;replace f14 := f14.ext x20;replace f10 := f10.ext x20;replace f6 := f6.ext x20;replace f2 := f2.ext x20;replace e0 := e0.trans x20;refine GoR.call rfl rfl (aCF aFunc9 rfl) (cv6 A0) ?_ np;rintro v21 h21 ⟨q, x21⟩;cases q;refine ⟨_, rfl, ?_⟩;replace f14 := f14.ext x21;replace f10 := f10.ext x21;replace f6 := f6.ext x21;replace f2 := f2.ext x21;replace e0 := e0.trans x21;iterate 5 refine gP ?_
 apply gE;apply gS;refine gR rfl ?_;refine GoR.call rfl rfl (aCF aFunc12 rfl) (clash_ok) ?_ (by rintro _ _ ⟨p2, q2, q, _, A2, _⟩; cases q);rintro v22 h22 ⟨p2, q2, q, x22, A2, _⟩;cases q;refine ⟨_, rfl, ?_⟩;have := e0.1;replace f14 := f14.ext x22;replace f10 := f10.ext x22;replace f6 := f6.ext x22;replace f2 := f2.ext x22;replace e0 := e0.trans x22;refine GoR.call rfl rfl (aCF aFunc10 rfl) (cv7 A2) ?_ np;rintro v23 h23 ⟨q, x23⟩;cases q;refine ⟨_, rfl, ?_⟩;replace f14 := f14.ext x23;replace f10 := f10.ext x23;replace f6 := f6.ext x23;replace f2 := f2.ext x23;replace e0 := e0.trans x23;iterate 5 refine gP ?_
 apply gE;apply gS;refine Go.drawnE plan13_0 ?_;refine gQ rfl rfl (ld23 rfl f2 rfl) rfl ?_;refine GoE.call rfl rfl (aCF aFunc14 rfl) (span36_ok) (dK 0 0 rfl) ?_ np;rintro v24 h24 ⟨q, x24⟩;cases q;replace f14 := f14.ext x24;replace f10 := f10.ext x24;replace f6 := f6.ext x24;replace f2 := f2.ext x24;replace e0 := e0.trans x24;refine ⟨(rck (h2 := h24) rfl (ld23 rfl f2 rfl) recheck_nil), _, rfl, ?_⟩;refine gQ rfl rfl (aOp_eqlSpan spanT23 rfl rfl rfl) rfl ?_;iterate 2 refine gQ rfl rfl rfl rfl ?_
 refine gQ rfl rfl (kET rfl rfl) rfl ?_;iterate 2 refine gQ rfl rfl rfl rfl ?_
 refine gQ rfl rfl (ld23 rfl f6 rfl) rfl ?_;refine GoE.call rfl rfl (aCF aFunc14 rfl) (span36_ok) (dK 255 8 (dD 255 7 (dD 255 6 (dD 255 5 (dD 255 4 (dD 255 3 (dD 255 2 (dD 255 0 rfl)))))))) ?_ np;rintro v25 h25 ⟨q, x25⟩;cases q;replace f14 := f14.ext x25;replace f10 := f10.ext x25;replace f6 := f6.ext x25;replace e0 := e0.trans x25;refine ⟨(rck (h2 := h25) rfl (ld23 rfl f6 rfl) recheck_nil), _, rfl, ?_⟩;refine gQ rfl rfl (aOp_eqlSpan spanT23 rfl rfl rfl) rfl ?_;iterate 3 refine gQ rfl rfl rfl rfl ?_
 refine gQ rfl rfl (kET rfl rfl) rfl ?_;iterate 2 refine gQ rfl rfl rfl rfl ?_
 refine gQ rfl rfl (ld23 rfl f10 rfl) rfl ?_;refine GoE.call rfl rfl (aCF aFunc14 rfl) (span36_ok) (dK 131071 17 (dD 131071 16 (dD 131071 15 (dD 131071 14 (dD 131071 13 (dD 131071 12 (dD 131071 11 (dD 131071 10 (dD 131071 8 rfl))))))))) ?_ np;rintro v26 h26 ⟨q, x26⟩;cases q;replace f14 := f14.ext x26;replace f10 := f10.ext x26;replace e0 := e0.trans x26;refine ⟨(rck (h2 := h26) rfl (ld23 rfl f10 rfl) recheck_nil), _, rfl, ?_⟩;refine gQ rfl rfl (aOp_eqlSpan spanT23 rfl rfl rfl) rfl ?_;iterate 3 refine gQ rfl rfl rfl rfl ?_
 refine gQ rfl rfl (kET rfl rfl) rfl ?_;iterate 2 refine gQ rfl rfl rfl rfl ?_
 refine gQ rfl rfl (ld23 rfl f14 rfl) rfl ?_;refine GoE.call rfl rfl (aCF aFunc14 rfl) (span36_ok) (dK 67108863 26 (dD 67108863 25 (dD 67108863 24 (dD 67108863 23 (dD 67108863 22 (dD 67108863 21 (dD 67108863 20 (dD 67108863 19 (dD 67108863 17 rfl))))))))) ?_ np;rintro v27 h27 ⟨q, x27⟩;cases q;replace f14 := f14.ext x27;replace e0 := e0.trans x27;refine ⟨(rck (h2 := h27) rfl (ld23 rfl f14 rfl) recheck_nil), _, rfl, ?_⟩;refine gQ rfl rfl (aOp_eqlSpan spanT23 rfl rfl rfl) rfl ?_;iterate 3 refine gQ rfl rfl rfl rfl ?_
 refine gQ rfl rfl (kET rfl rfl) rfl ?_;iterate 3 refine gQ rfl rfl rfl rfl ?_
 refine gQ rfl rfl (kET rfl rfl) rfl ?_;iterate 3 refine gQ rfl rfl rfl rfl ?_
 refine gQ rfl rfl (kET rfl rfl) rfl ?_;iterate 3 refine gQ rfl rfl rfl rfl ?_
 refine gQ rfl rfl (kET rfl rfl) rfl ?_;iterate 3 refine gQ rfl rfl rfl rfl ?_
 refine gQ rfl rfl (kET rfl rfl) rfl ?_;iterate 3 refine gQ rfl rfl rfl rfl ?_
 refine gQ rfl rfl (kET rfl rfl) rfl ?_;iterate 3 refine gQ rfl rfl rfl rfl ?_
 refine gQ rfl rfl (kET rfl rfl) rfl ?_;iterate 3 refine gQ rfl rfl rfl rfl ?_
 refine gQ rfl rfl (kET rfl rfl) rfl ?_;iterate 3 refine gQ rfl rfl rfl rfl ?_
 refine gQ rfl rfl (kET rfl rfl) rfl ?_;iterate 3 refine gQ rfl rfl rfl rfl ?_
 refine gQ rfl rfl (kET rfl rfl) rfl ?_;iterate 2 refine gQ rfl rfl rfl rfl ?_
 refine GoE.end rfl ?_;exact gW Try.func13 rfl rfl ⟨rfl, e0⟩
end Go.Proofs.Ytobhkdgcciolmaa

namespace Go.Proofs.Ytobhkdgcciolmaa
open Go Go.AbsE
set_option linter.unusedSimpArgs false
set_option maxRecDepth 100000
set_option maxHeartbeats 0
set_option linter.unusedVariables false
theorem w0 : (sampleV []).builtR 1 = ((32, 32), 0) := by decide +kernel
theorem cw0 {h : AH} {p e : AVal} (A : ClampAt h (sampleV []) p e) : Runs Try.prog 4 [.agg ((sampleV []).cells p e), .int .i64 1] h (fun en h' => en = .ret (.tuple [.agg [.int .i64 32, .int .i64 32], .int .i64 0]) ∧ Ext h h') := by
 have q := Built_ok A ⟨by decide, by decide⟩ 1
 rw [w0] at q;exact q
theorem w1 : (sampleV []).hasR 0 = ((12, 38), 0) := by decide +kernel
theorem cw1 {h : AH} {p e : AVal} (A : ClampAt h (sampleV []) p e) : Runs Try.prog 6 [.agg ((sampleV []).cells p e), .int .i64 0] h (fun en h' => en = .ret (.tuple [.agg [.int .i64 12, .int .i64 38], .int .i64 0]) ∧ Ext h h') := by
 have q := Has_ok A ⟨by decide, by decide⟩ 0
 rw [w1] at q;exact q
theorem w2 : (sampleV []).hasR 1 = ((32, 32), 0) := by decide +kernel
theorem cw2 {h : AH} {p e : AVal} (A : ClampAt h (sampleV []) p e) : Runs Try.prog 6 [.agg ((sampleV []).cells p e), .int .i64 1] h (fun en h' => en = .ret (.tuple [.agg [.int .i64 32, .int .i64 32], .int .i64 0]) ∧ Ext h h') := by
 have q := Has_ok A ⟨by decide, by decide⟩ 1
 rw [w2] at q;exact q
theorem w3 : (sampleV []).soldR 1 = ((0, 0), 0) := by decide +kernel
theorem cw3 {h : AH} {p e : AVal} (A : ClampAt h (sampleV []) p e) : Runs Try.prog 7 [.agg ((sampleV []).cells p e), .int .i64 1] h (fun en h' => en = .ret (.tuple [.agg [.int .i64 0, .int .i64 0], .int .i64 0]) ∧ Ext h h') := by
 have q := Sold_ok A ⟨by decide, by decide⟩ 1
 rw [w3] at q;exact q
theorem w4 : (sampleV []).enoughR 0 12 = (2, 0) := by decide +kernel
theorem cw4 {h : AH} {p e : AVal} (A : ClampAt h (sampleV []) p e) : Runs Try.prog 8 [.agg ((sampleV []).cells p e), .int .i64 0, .int .i64 12] h (fun en h' => en = .ret (.tuple [.int .i64 2, .int .i64 0]) ∧ Ext h h') := by
 have q := Enough_ok A ⟨by decide, by decide⟩ 0 12
 rw [w4] at q;exact q
theorem w5 : (sampleV []).enoughR 0 39 = (0, 0) := by decide +kernel
theorem cw5 {h : AH} {p e : AVal} (A : ClampAt h (sampleV []) p e) : Runs Try.prog 8 [.agg ((sampleV []).cells p e), .int .i64 0, .int .i64 39] h (fun en h' => en = .ret (.tuple [.int .i64 0, .int .i64 0]) ∧ Ext h h') := by
 have q := Enough_ok A ⟨by decide, by decide⟩ 0 39
 rw [w5] at q;exact q
theorem w6 : (sampleV []).shareR 30 = (2, 0) := by decide +kernel
theorem cw6 {h : AH} {p e : AVal} (A : ClampAt h (sampleV []) p e) : Runs Try.prog 9 [.agg ((sampleV []).cells p e), .int .i64 30] h (fun en h' => en = .ret (.tuple [.int .i64 2, .int .i64 0]) ∧ Ext h h') := by
 have q := Share_ok A ⟨by decide, by decide⟩ 30
 rw [w6] at q;exact q
theorem w7 : (sampleV []).shareR 50 = (0, 4) := by decide +kernel
theorem cw7 {h : AH} {p e : AVal} (A : ClampAt h (sampleV []) p e) : Runs Try.prog 9 [.agg ((sampleV []).cells p e), .int .i64 50] h (fun en h' => en = .ret (.tuple [.int .i64 0, .int .i64 4]) ∧ Ext h h') := by
 have q := Share_ok A ⟨by decide, by decide⟩ 50
 rw [w7] at q;exact q
theorem w8 : (sampleV []).shareR 0 = (0, 0) := by decide +kernel
theorem cw8 {h : AH} {p e : AVal} (A : ClampAt h (sampleV []) p e) : Runs Try.prog 9 [.agg ((sampleV []).cells p e), .int .i64 0] h (fun en h' => en = .ret (.tuple [.int .i64 0, .int .i64 0]) ∧ Ext h h') := by
 have q := Share_ok A ⟨by decide, by decide⟩ 0
 rw [w8] at q;exact q
theorem w9 : (sampleV [k1]).clashR  = (0, 4) := by decide +kernel
theorem cw9 {h : AH} {p e : AVal} (A : ClampAt h (sampleV [k1]) p e) : Runs Try.prog 10 [.agg ((sampleV [k1]).cells p e)] h (fun en h' => en = .ret (.tuple [.int .i64 0, .int .i64 4]) ∧ Ext h h') := by
 have q := Clash_ok A ⟨by decide, by decide⟩
 rw [w9] at q;exact q
theorem wa : (sampleV [k1, k2]).hasR 0 = ((0, 0), 10) := by decide +kernel
theorem cwa {h : AH} {p e : AVal} (A : ClampAt h (sampleV [k1, k2]) p e) : Runs Try.prog 6 [.agg ((sampleV [k1, k2]).cells p e), .int .i64 0] h (fun en h' => en = .ret (.tuple [.agg [.int .i64 0, .int .i64 0], .int .i64 10]) ∧ Ext h h') := by
 have q := Has_ok A ⟨by decide, by decide⟩ 0
 rw [wa] at q;exact q
theorem law3 {h : AH} : Runs Try.prog 3 [] h (fun en h' => en = .ret (.bool true) ∧ Ext h h') := by
 have e0 : Ext h h := Ext.refl _
 refine Runs.intro aFunc3 rfl rfl rfl rfl fun rest => ?_;apply gS;refine gR rfl ?_;refine gP ?_;apply gE;apply gS;refine gR rfl ?_;refine GoR.call rfl rfl (aCF aFunc5 rfl) (nil_ok) ?_ (by rintro _ _ ⟨p0, q0, q, _, A0, _⟩; cases q);rintro v0 h0 ⟨p0, q0, q, x0, A0, _⟩;cases q;refine ⟨_, rfl, ?_⟩;have := e0.1;replace e0 := e0.trans x0;refine GoR.call rfl rfl (aCF aFunc4 rfl) (cw0 A0) ?_ np;rintro v1 h1 ⟨q, x1⟩;cases q;refine ⟨_, rfl, ?_⟩;replace e0 := e0.trans x1;iterate 3 refine gP ?_
 refine GoR.alloc rfl rfl rfl zt23 rfl rfl fun h2 x2 f2 => ?_;have := e0.1;replace e0 := e0.trans x2;have := f2.1;refine GoR.store rfl rfl rfl rfl rfl rfl f2 rfl sz23 rfl rfl rfl fun h3 u3 => ?_;replace f2 := u3.has f2;replace e0 := e0.upd u3 (by omega);refine gP ?_;apply gE;apply gS;refine gR rfl ?_;refine GoR.call rfl rfl (aCF aFunc5 rfl) (nil_ok) ?_ (by rintro _ _ ⟨p0, q0, q, _, A0, _⟩; cases q);rintro v4 h4 ⟨p0, q0, q, x4, A0, _⟩;cases q;refine ⟨_, rfl, ?_⟩;have := e0.1;replace f2 := f2.ext x4;replace e0 := e0.trans x4;refine GoR.call rfl rfl (aCF aFunc6 rfl) (cw1 A0) ?_ np;rintro v5 h5 ⟨q, x5⟩;cases q;refine ⟨_, rfl, ?_⟩;replace f2 := f2.ext x5;replace e0 := e0.trans x5;iterate 3 refine gP ?_
 refine GoR.alloc rfl rfl rfl zt23 rfl rfl fun h6 x6 f6 => ?_;have := e0.1;have := f2.1;replace f2 := f2.ext x6;replace e0 := e0.trans x6;have := f6.1;refine GoR.store rfl rfl rfl rfl rfl rfl f6 rfl sz23 rfl rfl rfl fun h7 u7 => ?_;replace f6 := u7.has f6;replace f2 := f2.upd u7 (by omega);replace e0 := e0.upd u7 (by omega);refine gP ?_;apply gE;apply gS;refine gR rfl ?_;refine GoR.call rfl rfl (aCF aFunc5 rfl) (nil_ok) ?_ (by rintro _ _ ⟨p0, q0, q, _, A0, _⟩; cases q);rintro v8 h8 ⟨p0, q0, q, x8, A0, _⟩;cases q;refine ⟨_, rfl, ?_⟩;have := e0.1;replace f6 := f6.ext x8;replace f2 := f2.ext x8;replace e0 := e0.trans x8;refine GoR.call rfl rfl (aCF aFunc6 rfl) (cw2 A0) ?_ np;rintro v9 h9 ⟨q, x9⟩;cases q;refine ⟨_, rfl, ?_⟩;replace f6 := f6.ext x9;replace f2 := f2.ext x9;replace e0 := e0.trans x9;iterate 3 refine gP ?_
 refine GoR.alloc rfl rfl rfl zt23 rfl rfl fun h10 x10 f10 => ?_;have := e0.1;have := f6.1;have := f2.1;replace f6 := f6.ext x10;replace f2 := f2.ext x10;replace e0 := e0.trans x10;have := f10.1;refine GoR.store rfl rfl rfl rfl rfl rfl f10 rfl sz23 rfl rfl rfl fun h11 u11 => ?_;replace f10 := u11.has f10;replace f6 := f6.upd u11 (by omega);replace f2 := f2.upd u11 (by omega);replace e0 := e0.upd u11 (by omega);refine gP ?_;apply gE;apply gS;refine gR rfl ?_;refine GoR.call rfl rfl (aCF aFunc5 rfl) (nil_ok) ?_ (by rintro _ _ ⟨p0, q0, q, _, A0, _⟩; cases q);rintro v12 h12 ⟨p0, q0, q, x12, A0, _⟩;cases q;refine ⟨_, rfl, ?_⟩;have := e0.1;replace f10 := f10.ext x12;replace f6 := f6.ext x12;replace f2 := f2.ext x12;replace e0 := e0.trans x12;refine GoR.call rfl rfl (aCF aFunc7 rfl) (cw3 A0) ?_ np;rintro v13 h13 ⟨q, x13⟩;cases q;refine ⟨_, rfl, ?_⟩;replace f10 := f10.ext x13;replace f6 := f6.ext x13;replace f2 := f2.ext x13;replace e0 := e0.trans x13;iterate 3 refine gP ?_
 refine GoR.alloc rfl rfl rfl zt23 rfl rfl fun h14 x14 f14 => ?_;have := e0.1;have := f10.1;have := f6.1;have := f2.1;replace f10 := f10.ext x14;replace f6 := f6.ext x14;replace f2 := f2.ext x14;replace e0 := e0.trans x14;have := f14.1;refine GoR.store rfl rfl rfl rfl rfl rfl f14 rfl sz23 rfl rfl rfl fun h15 u15 => ?_;replace f14 := u15.has f14;replace f10 := f10.upd u15 (by omega);replace f6 := f6.upd u15 (by omega);replace f2 := f2.upd u15 (by omega);replace e0 := e0.upd u15 (by omega);refine gP ?_;apply gE;apply gS;refine gR rfl ?_;refine GoR.call rfl rfl (aCF aFunc5 rfl) (nil_ok) ?_ (by rintro _ _ ⟨p0, q0, q, _, A0, _⟩; cases q);rintro v16 h16 ⟨p0, q0, q, x16, A0, _⟩;cases q;refine ⟨_, rfl, ?_⟩;have := e0.1;replace f14 := f14.ext x16;replace f10 := f10.ext x16;replace f6 := f6.ext x16;replace f2 := f2.ext x16;replace e0 := e0.trans x16;refine GoR.call rfl rfl (aCF aFunc8 rfl) (cw4 A0) ?_ np;rintro v17 h17 ⟨q, x17⟩;cases q;refine ⟨_, rfl, ?_⟩;replace f14 := f14.ext x17;replace f10 := f10.ext x17;replace f6 := f6.ext x17;replace f2 := f2.ext x17;replace e0 := e0.trans x17;iterate 5 refine gP ?_
 apply gE;apply gS;refine gR rfl ?_;refine GoR.call rfl rfl (aCF aFunc5 rfl) (nil_ok) ?_ (by rintro _ _ ⟨p0, q0, q, _, A0, _⟩; cases q);rintro v18 h18 ⟨p0, q0, q, x18, A0, _⟩;cases q;refine ⟨_, rfl, ?_⟩;have := e0.1;replace f14 := f14.ext x18;replace f10 := f10.ext x18;replace f6 := f6.ext x18;replace f2 := f2.ext x18;replace e0 := e0.trans x18;refine GoR.call rfl rfl (aCF aFunc8 rfl) (cw5 A0) ?_ np;rintro v19 h19 ⟨q, x19⟩;cases q;refine ⟨_, rfl, ?_⟩;replace f14 := f14.ext x19;replace f10 := f10.ext x19;replace f6 := f6.ext x19;replace f2 := f2.ext x19;replace e0 := e0.trans x19;iterate 5 refine gP ?_
 apply gE;apply gS;refine gR rfl ?_;refine GoR.call rfl rfl (aCF aFunc5 rfl) (nil_ok) ?_ (by rintro _ _ ⟨p0, q0, q, _, A0, _⟩; cases q);rintro v20 h20 ⟨p0, q0, q, x20, A0, _⟩;cases q;refine ⟨_, rfl, ?_⟩;have := e0.1;replace f14 := f14.ext x20;replace f10 := f10.ext x20;replace f6 := f6.ext x20;replace f2 := f2.ext x20;replace e0 := e0.trans x20;refine GoR.call rfl rfl (aCF aFunc9 rfl) (cw6 A0) ?_ np;rintro v21 h21 ⟨q, x21⟩;cases q;refine ⟨_, rfl, ?_⟩;replace f14 := f14.ext x21;replace f10 := f10.ext x21;replace f6 := f6.ext x21;replace f2 := f2.ext x21;replace e0 := e0.trans x21;iterate 5 refine gP ?_
 apply gE;apply gS;refine gR rfl ?_;refine GoR.call rfl rfl (aCF aFunc5 rfl) (nil_ok) ?_ (by rintro _ _ ⟨p0, q0, q, _, A0, _⟩; cases q);rintro v22 h22 ⟨p0, q0, q, x22, A0, _⟩;cases q;refine ⟨_, rfl, ?_⟩;have := e0.1;replace f14 := f14.ext x22;replace f10 := f10.ext x22;replace f6 := f6.ext x22;replace f2 := f2.ext x22;replace e0 := e0.trans x22;refine GoR.call rfl rfl (aCF aFunc9 rfl) (cw7 A0) ?_ np;rintro v23 h23 ⟨q, x23⟩;cases q;refine ⟨_, rfl, ?_⟩;replace f14 := f14.ext x23;replace f10 := f10.ext x23;replace f6 := f6.ext x23;replace f2 := f2.ext x23;replace e0 := e0.trans x23;iterate 5 refine gP ?_
 apply gE;apply gS;refine gR rfl ?_;refine GoR.call rfl rfl (aCF aFunc5 rfl) (nil_ok) ?_ (by rintro _ _ ⟨p0, q0, q, _, A0, _⟩; cases q);rintro v24 h24 ⟨p0, q0, q, x24, A0, _⟩;cases q;refine ⟨_, rfl, ?_⟩;have := e0.1;replace f14 := f14.ext x24;replace f10 := f10.ext x24;replace f6 := f6.ext x24;replace f2 := f2.ext x24;replace e0 := e0.trans x24;refine GoR.call rfl rfl (aCF aFunc9 rfl) (cw8 A0) ?_ np;rintro v25 h25 ⟨q, x25⟩;cases q;refine ⟨_, rfl, ?_⟩;replace f14 := f14.ext x25;replace f10 := f10.ext x25;replace f6 := f6.ext x25;replace f2 := f2.ext x25;replace e0 := e0.trans x25;iterate 5 refine gP ?_
 apply gE;apply gS;refine gR rfl ?_;refine GoR.call rfl rfl (aCF aFunc11 rfl) (counted_ok) ?_ (by rintro _ _ ⟨p1, q1, q, _, A1, _⟩; cases q);rintro v26 h26 ⟨p1, q1, q, x26, A1, _⟩;cases q;refine ⟨_, rfl, ?_⟩;have := e0.1;replace f14 := f14.ext x26;replace f10 := f10.ext x26;replace f6 := f6.ext x26;replace f2 := f2.ext x26;replace e0 := e0.trans x26;refine GoR.call rfl rfl (aCF aFunc10 rfl) (cw9 A1) ?_ np;rintro v27 h27 ⟨q, x27⟩;cases q;refine ⟨_, rfl, ?_⟩;replace f14 := f14.ext x27;replace f10 := f10.ext x27;replace f6 := f6.ext x27;replace f2 := f2.ext x27;replace e0 := e0.trans x27;iterate 5 refine gP ?_
 apply gE;apply gS;refine gR rfl ?_;refine GoR.call rfl rfl (aCF aFunc12 rfl) (clash_ok) ?_ (by rintro _ _ ⟨p2, q2, q, _, A2, _⟩; cases q);rintro v28 h28 ⟨p2, q2, q, x28, A2, _⟩;cases q;refine ⟨_, rfl, ?_⟩;have := e0.1;replace f14 := f14.ext x28;replace f10 := f10.ext x28;replace f6 := f6.ext x28;replace f2 := f2.ext x28;replace e0 := e0.trans x28;refine GoR.call rfl rfl (aCF aFunc6 rfl) (cwa A2) ?_ np;rintro v29 h29 ⟨q, x29⟩;cases q;refine ⟨_, rfl, ?_⟩;replace f14 := f14.ext x29;replace f10 := f10.ext x29;replace f6 := f6.ext x29;replace f2 := f2.ext x29;replace e0 := e0.trans x29;iterate 3 refine gP ?_
 refine GoR.alloc rfl rfl rfl zt23 rfl rfl fun h30 x30 f30 => ?_;have := e0.1;have := f14.1;have := f10.1;have := f6.1;have := f2.1;replace f14 := f14.ext x30;replace f10 := f10.ext x30;replace f6 := f6.ext x30;replace f2 := f2.ext x30;replace e0 := e0.trans x30;have := f30.1;refine GoR.store rfl rfl rfl rfl rfl rfl f30 rfl sz23 rfl rfl rfl fun h31 u31 => ?_;replace f14 := f14.upd u31 (by omega);replace f10 := f10.upd u31 (by omega);replace f6 := f6.upd u31 (by omega);replace f2 := f2.upd u31 (by omega);replace e0 := e0.upd u31 (by omega);refine gP ?_;apply gE;apply gS;refine Go.drawnE plan3_0 ?_;refine gQ rfl rfl rfl rfl ?_;refine GoE.call rfl rfl (aCF aFunc13 rfl) (alive_ok) (dD 1 0 rfl) ?_ np;rintro v32 h32 ⟨q, x32⟩;cases q;replace f14 := f14.ext x32;replace f10 := f10.ext x32;replace f6 := f6.ext x32;replace f2 := f2.ext x32;replace e0 := e0.trans x32;refine ⟨recheck_nil, _, rfl, ?_⟩;iterate 2 refine gQ rfl rfl rfl rfl ?_
 refine gQ rfl rfl (ld23 rfl f2 rfl) rfl ?_;refine GoE.call rfl rfl (aCF aFunc14 rfl) (span36_ok) (dK 15 4 (dD 15 3 (dD 15 2 rfl))) ?_ np;rintro v33 h33 ⟨q, x33⟩;cases q;replace f14 := f14.ext x33;replace f10 := f10.ext x33;replace f6 := f6.ext x33;replace f2 := f2.ext x33;replace e0 := e0.trans x33;refine ⟨(rck (h2 := h33) rfl (ld23 rfl f2 rfl) recheck_nil), _, rfl, ?_⟩;refine gQ rfl rfl (aOp_eqlSpan spanT23 rfl rfl rfl) rfl ?_;iterate 3 refine gQ rfl rfl rfl rfl ?_
 refine gQ rfl rfl (kET rfl rfl) rfl ?_;iterate 2 refine gQ rfl rfl rfl rfl ?_
 refine gQ rfl rfl (ld23 rfl f6 rfl) rfl ?_;refine GoE.call rfl rfl (aCF aFunc14 rfl) (span36_ok) (dK 8191 13 (dD 8191 12 (dD 8191 11 (dD 8191 10 (dD 8191 9 (dD 8191 8 (dD 8191 7 (dD 8191 6 (dD 8191 4 rfl))))))))) ?_ np;rintro v34 h34 ⟨q, x34⟩;cases q;replace f14 := f14.ext x34;replace f10 := f10.ext x34;replace f6 := f6.ext x34;replace e0 := e0.trans x34;refine ⟨(rck (h2 := h34) rfl (ld23 rfl f6 rfl) recheck_nil), _, rfl, ?_⟩;refine gQ rfl rfl (aOp_eqlSpan spanT23 rfl rfl rfl) rfl ?_;iterate 3 refine gQ rfl rfl rfl rfl ?_
 refine gQ rfl rfl (kET rfl rfl) rfl ?_;iterate 2 refine gQ rfl rfl rfl rfl ?_
 refine gQ rfl rfl (ld23 rfl f10 rfl) rfl ?_;refine GoE.call rfl rfl (aCF aFunc14 rfl) (span36_ok) (dK 4194303 22 (dD 4194303 21 (dD 4194303 20 (dD 4194303 19 (dD 4194303 18 (dD 4194303 17 (dD 4194303 16 (dD 4194303 15 (dD 4194303 13 rfl))))))))) ?_ np;rintro v35 h35 ⟨q, x35⟩;cases q;replace f14 := f14.ext x35;replace f10 := f10.ext x35;replace e0 := e0.trans x35;refine ⟨(rck (h2 := h35) rfl (ld23 rfl f10 rfl) recheck_nil), _, rfl, ?_⟩;refine gQ rfl rfl (aOp_eqlSpan spanT23 rfl rfl rfl) rfl ?_;iterate 3 refine gQ rfl rfl rfl rfl ?_
 refine gQ rfl rfl (kET rfl rfl) rfl ?_;iterate 2 refine gQ rfl rfl rfl rfl ?_
 refine gQ rfl rfl (ld23 rfl f14 rfl) rfl ?_;refine GoE.call rfl rfl (aCF aFunc14 rfl) (span36_ok) (dK 2147483647 31 (dD 2147483647 30 (dD 2147483647 29 (dD 2147483647 28 (dD 2147483647 27 (dD 2147483647 26 (dD 2147483647 25 (dD 2147483647 24 (dD 2147483647 22 rfl))))))))) ?_ np;rintro v36 h36 ⟨q, x36⟩;cases q;replace f14 := f14.ext x36;replace e0 := e0.trans x36;refine ⟨(rck (h2 := h36) rfl (ld23 rfl f14 rfl) recheck_nil), _, rfl, ?_⟩;refine gQ rfl rfl (aOp_eqlSpan spanT23 rfl rfl rfl) rfl ?_;iterate 3 refine gQ rfl rfl rfl rfl ?_
 refine gQ rfl rfl (kET rfl rfl) rfl ?_;iterate 3 refine gQ rfl rfl rfl rfl ?_
 refine gQ rfl rfl (kET rfl rfl) rfl ?_;iterate 3 refine gQ rfl rfl rfl rfl ?_
 refine gQ rfl rfl (kET rfl rfl) rfl ?_;iterate 3 refine gQ rfl rfl rfl rfl ?_
 refine gQ rfl rfl (kET rfl rfl) rfl ?_;iterate 3 refine gQ rfl rfl rfl rfl ?_
 refine gQ rfl rfl (kET rfl rfl) rfl ?_;iterate 3 refine gQ rfl rfl rfl rfl ?_
 refine gQ rfl rfl (kET rfl rfl) rfl ?_;iterate 3 refine gQ rfl rfl rfl rfl ?_
 refine gQ rfl rfl (kET rfl rfl) rfl ?_;iterate 3 refine gQ rfl rfl rfl rfl ?_
 refine gQ rfl rfl (kET rfl rfl) rfl ?_;iterate 3 refine gQ rfl rfl rfl rfl ?_
 refine gQ rfl rfl (kET rfl rfl) rfl ?_;iterate 3 refine gQ rfl rfl rfl rfl ?_
 refine gQ rfl rfl (kET rfl rfl) rfl ?_;iterate 3 refine gQ rfl rfl rfl rfl ?_
 refine gQ rfl rfl (kET rfl rfl) rfl ?_;iterate 3 refine gQ rfl rfl rfl rfl ?_
 refine gQ rfl rfl (kET rfl rfl) rfl ?_;iterate 2 refine gQ rfl rfl rfl rfl ?_
 refine GoE.end rfl ?_;exact gW Try.func3 rfl rfl ⟨rfl, e0⟩
end Go.Proofs.Ytobhkdgcciolmaa
