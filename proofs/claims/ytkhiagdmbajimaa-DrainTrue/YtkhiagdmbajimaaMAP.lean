import Derived.Test.YtkhiagdmbajimaaMAO
namespace Go.Proofs.Ytkhiagdmbajimaa
open Go Go.AbsE
set_option linter.unusedSimpArgs false
set_option maxRecDepth 100000
set_option maxHeartbeats 0
set_option linter.unusedVariables false
theorem attempt_one {D : DrainV} (O : D.Ok) (b d r s : AVal) (h : AH) (A : DrainAt h D b d r s) (W : FuncId) (fW : Func) (hfid : aFunc Try.prog W = some fW) (caps : List AVal) (hsm : sameA (.func (.func W) [] caps) (.func (.func W) [] caps) = true) (br : Nat) (hb : br < h.next) (cs : List AVal) (el : TypeId) (code : Int)
  (hbody : ∀ h', Ext h h' → DrainAt h' D b d r s → Runs Try.prog W ([.agg (dC b d r s)] ++ caps) h' (fun en h'' => ExtF (fun b => b = br) h' h'' ∧ Has h'' br (.cells .plain cs el) ∧ ((code = 0 ∧ en = .ret (.tuple [])) ∨ en = .pan (refusal code)))) :
  Runs Try.prog 37 [.agg (dC b d r s), .func (.func W) [] caps] h (fun en h' => en = .ret (.int .i64 code) ∧ ExtF (fun b => b = br) h h' ∧ Has h' br (.cells .plain cs el)) :=
 attempt_is O b d r s h A W fW hfid caps hsm (fun b => b = br) (fun _ q => q ▸ hb) (fun h' => Has h' br (.cells .plain cs el)) (fun h2 h' le same f => f.keep le (same br hb)) code fun h' e => hbody h' e (A.ext e)
theorem attempt_two {D : DrainV} (O : D.Ok) (b d r s : AVal) (h : AH) (A : DrainAt h D b d r s) (W : FuncId) (fW : Func) (hfid : aFunc Try.prog W = some fW) (caps : List AVal) (hsm : sameA (.func (.func W) [] caps) (.func (.func W) [] caps) = true) (br bs : Nat) (hb : br < h.next) (hs : bs < h.next) (cs cs' : List AVal) (el el' : TypeId) (code : Int)
  (hbody : ∀ h', Ext h h' → DrainAt h' D b d r s → Runs Try.prog W ([.agg (dC b d r s)] ++ caps) h' (fun en h'' => ExtF (fun b => b = br ∨ b = bs) h' h'' ∧ (Has h'' br (.cells .plain cs el) ∧ Has h'' bs (.cells .plain cs' el')) ∧ ((code = 0 ∧ en = .ret (.tuple [])) ∨ en = .pan (refusal code)))) :
  Runs Try.prog 37 [.agg (dC b d r s), .func (.func W) [] caps] h (fun en h' => en = .ret (.int .i64 code) ∧ ExtF (fun b => b = br ∨ b = bs) h h' ∧ (Has h' br (.cells .plain cs el) ∧ Has h' bs (.cells .plain cs' el'))) :=
 attempt_is O b d r s h A W fW hfid caps hsm (fun b => b = br ∨ b = bs) (fun _ q => by rcases q with rfl | rfl <;> assumption) (fun h' => Has h' br (.cells .plain cs el) ∧ Has h' bs (.cells .plain cs' el')) (fun h2 h' le same f => ⟨f.1.keep le (same br hb), f.2.keep le (same bs hs)⟩) code fun h' e => hbody h' e (A.ext e)
theorem Next_ok {D : DrainV} {b d r s : AVal} {h : AH} (A : DrainAt h D b d r s) (B : DrainB D) (a : Int) :
  Runs Try.prog 10 [.agg (dC b d r s), .int .i64 a] h (fun en h' => en = .ret (.tuple [.int .i64 (D.nextR a).1, .int .i64 (D.nextR a).2]) ∧ Ext h h') := by
 by_cases O : D.Ok
 ·have hB := fun {h' : AH} {b0 br : Nat} (A' : DrainAt h' D b d r s) => nextB0_ok O (b := b) (d := d) (r := r) (s := s) (a := a) (h := h') (b0 := b0) (br := br) A'
  unfold DrainV.nextR
  rw [DrainV.ok_yes O]
  obtain ⟨RES, hR⟩ : ∃ RES, D.bankQ a (D.tr ((D.nexts a.toNat : Nat) : Int) 0) 0 = RES := ⟨_, rfl⟩
  rw [hR] at hB ⊢
  obtain ⟨r1, c⟩ := RES
  dsimp only at hB ⊢
  have hsm := A.same
  unfold dC at *
  try unfold spC at *
  have e0 : Ext h h := Ext.refl _
  refine Runs.intro aFunc10 rfl rfl rfl rfl fun rest => ?_;apply gS;refine gR rfl ?_;refine GoR.box rfl rfl rfl rfl rfl rfl fun h0 x0 f0 => ?_;have := e0.1;replace e0 := e0.trans x0;have := f0.1;refine GoR.box rfl rfl rfl rfl rfl rfl fun h1 x1 f1 => ?_;have := e0.1;have := f0.1;replace f0 := f0.ext x1;replace e0 := e0.trans x1;have := f1.1;refine GoR.alloc rfl rfl rfl zt3 rfl rfl fun h2 x2 f2 => ?_;have := e0.1;have := f1.1;have := f0.1;replace f1 := f1.ext x2;replace f0 := f0.ext x2;replace e0 := e0.trans x2;have := f2.1;refine gP ?_;apply gE;apply gS;refine gR rfl ?_;refine gO rfl rfl (ld29 rfl f0 rfl) rfl ?_;refine gP ?_;refine GoR.call rfl rfl (aCF aFunc37 rfl) (attempt_one O b d r s _ (A.ext e0) 38 _ aFunc38 _ (by simp [sameA, sameAs, eqI_eq]) h1.next (by omega) [.int .i64 r1] 3 c fun h' e A' => hB A' (f1.ext e) (f2.ext e) (by omega)) ?_ np;rintro v9 h9 ⟨q, y9, f9⟩;cases q;refine ⟨_, rfl, ?_⟩
  have z9 := y9.low e0 (fun b q => by omega)
  clear e0 y9 f2
  have e0 := z9
  refine gP ?_;apply gE;apply gS;refine gR rfl ?_;refine gO rfl rfl (ld3 rfl f9 rfl) rfl ?_;refine gP ?_;refine GoR.store rfl rfl rfl rfl rfl rfl f9 rfl sz3 rfl rfl rfl fun h10 u10 => ?_;replace f9 := u10.has f9;replace e0 := e0.upd u10 (by omega);refine gP ?_;apply gE;exact gV (ret_end (aResult_of Try.func10 rfl (aResults_c rfl f9 (inCells_one ag3 rfl) rfl)) ⟨rfl, e0⟩)
 ·have hr : D.nextR a = (0, 1) := DrainV.ok_no O
  rw [hr]
  have hbd := fun h A => attempt_bad O B b d r s h A 38
  try unfold zSp at *
  unfold dC at *
  try unfold spC at *
  have e0 : Ext h h := Ext.refl _
  refine Runs.intro aFunc10 rfl rfl rfl rfl fun rest => ?_;apply gS;refine gR rfl ?_;refine GoR.box rfl rfl rfl rfl rfl rfl fun h0 x0 f0 => ?_;have := e0.1;replace e0 := e0.trans x0;have := f0.1;refine GoR.box rfl rfl rfl rfl rfl rfl fun h1 x1 f1 => ?_;have := e0.1;have := f0.1;replace f0 := f0.ext x1;replace e0 := e0.trans x1;have := f1.1;refine GoR.alloc rfl rfl rfl zt3 rfl rfl fun h2 x2 f2 => ?_;have := e0.1;have := f1.1;have := f0.1;replace f0 := f0.ext x2;replace e0 := e0.trans x2;have := f2.1;refine gP ?_;apply gE;apply gS;refine gR rfl ?_;refine gO rfl rfl (ld29 rfl f0 rfl) rfl ?_;refine gP ?_;refine GoR.call rfl rfl (aCF aFunc37 rfl) (hbd _ (A.ext e0) _) ?_ np;rintro v3 h3 ⟨q, x3⟩;cases q;refine ⟨_, rfl, ?_⟩;replace f2 := f2.ext x3;replace e0 := e0.trans x3;refine gP ?_;apply gE;apply gS;refine gR rfl ?_;refine gO rfl rfl (ld3 rfl f2 rfl) rfl ?_;refine gP ?_;refine GoR.store rfl rfl rfl rfl rfl rfl f2 rfl sz3 rfl rfl rfl fun h4 u4 => ?_;replace f2 := u4.has f2;replace e0 := e0.upd u4 (by omega);refine gP ?_;apply gE;exact gV (ret_end (aResult_of Try.func10 rfl (aResults_c rfl f2 (inCells_one ag3 rfl) rfl)) ⟨rfl, e0⟩)
theorem Ends_ok {D : DrainV} {b d r s : AVal} {h : AH} (A : DrainAt h D b d r s) (B : DrainB D) (a : Int) :
  Runs Try.prog 13 [.agg (dC b d r s), .int .i64 a] h (fun en h' => en = .ret (.tuple [.int .i64 (D.endsR a).1, .int .i64 (D.endsR a).2]) ∧ Ext h h') := by
 by_cases O : D.Ok
 ·have hB := fun {h' : AH} {b0 br : Nat} (A' : DrainAt h' D b d r s) => endsB0_ok O (b := b) (d := d) (r := r) (s := s) (a := a) (h := h') (b0 := b0) (br := br) A'
  unfold DrainV.endsR
  rw [DrainV.ok_yes O]
  obtain ⟨RES, hR⟩ : ∃ RES, D.bankQ a (D.tr ((D.endsS a.toNat : Nat) : Int) 0) 0 = RES := ⟨_, rfl⟩
  rw [hR] at hB ⊢
  obtain ⟨r1, c⟩ := RES
  dsimp only at hB ⊢
  have hsm := A.same
  unfold dC at *
  try unfold spC at *
  have e0 : Ext h h := Ext.refl _
  refine Runs.intro aFunc13 rfl rfl rfl rfl fun rest => ?_;apply gS;refine gR rfl ?_;refine GoR.box rfl rfl rfl rfl rfl rfl fun h0 x0 f0 => ?_;have := e0.1;replace e0 := e0.trans x0;have := f0.1;refine GoR.box rfl rfl rfl rfl rfl rfl fun h1 x1 f1 => ?_;have := e0.1;have := f0.1;replace f0 := f0.ext x1;replace e0 := e0.trans x1;have := f1.1;refine GoR.alloc rfl rfl rfl zt3 rfl rfl fun h2 x2 f2 => ?_;have := e0.1;have := f1.1;have := f0.1;replace f1 := f1.ext x2;replace f0 := f0.ext x2;replace e0 := e0.trans x2;have := f2.1;refine gP ?_;apply gE;apply gS;refine gR rfl ?_;refine gO rfl rfl (ld29 rfl f0 rfl) rfl ?_;refine gP ?_;refine GoR.call rfl rfl (aCF aFunc37 rfl) (attempt_one O b d r s _ (A.ext e0) 44 _ aFunc44 _ (by simp [sameA, sameAs, eqI_eq]) h1.next (by omega) [.int .i64 r1] 3 c fun h' e A' => hB A' (f1.ext e) (f2.ext e) (by omega)) ?_ np;rintro v9 h9 ⟨q, y9, f9⟩;cases q;refine ⟨_, rfl, ?_⟩
  have z9 := y9.low e0 (fun b q => by omega)
  clear e0 y9 f2
  have e0 := z9
  refine gP ?_;apply gE;apply gS;refine gR rfl ?_;refine gO rfl rfl (ld3 rfl f9 rfl) rfl ?_;refine gP ?_;refine GoR.store rfl rfl rfl rfl rfl rfl f9 rfl sz3 rfl rfl rfl fun h10 u10 => ?_;replace f9 := u10.has f9;replace e0 := e0.upd u10 (by omega);refine gP ?_;apply gE;exact gV (ret_end (aResult_of Try.func13 rfl (aResults_c rfl f9 (inCells_one ag3 rfl) rfl)) ⟨rfl, e0⟩)
 ·have hr : D.endsR a = (0, 1) := DrainV.ok_no O
  rw [hr]
  have hbd := fun h A => attempt_bad O B b d r s h A 44
  try unfold zSp at *
  unfold dC at *
  try unfold spC at *
  have e0 : Ext h h := Ext.refl _
  refine Runs.intro aFunc13 rfl rfl rfl rfl fun rest => ?_;apply gS;refine gR rfl ?_;refine GoR.box rfl rfl rfl rfl rfl rfl fun h0 x0 f0 => ?_;have := e0.1;replace e0 := e0.trans x0;have := f0.1;refine GoR.box rfl rfl rfl rfl rfl rfl fun h1 x1 f1 => ?_;have := e0.1;have := f0.1;replace f0 := f0.ext x1;replace e0 := e0.trans x1;have := f1.1;refine GoR.alloc rfl rfl rfl zt3 rfl rfl fun h2 x2 f2 => ?_;have := e0.1;have := f1.1;have := f0.1;replace f0 := f0.ext x2;replace e0 := e0.trans x2;have := f2.1;refine gP ?_;apply gE;apply gS;refine gR rfl ?_;refine gO rfl rfl (ld29 rfl f0 rfl) rfl ?_;refine gP ?_;refine GoR.call rfl rfl (aCF aFunc37 rfl) (hbd _ (A.ext e0) _) ?_ np;rintro v3 h3 ⟨q, x3⟩;cases q;refine ⟨_, rfl, ?_⟩;replace f2 := f2.ext x3;replace e0 := e0.trans x3;refine gP ?_;apply gE;apply gS;refine gR rfl ?_;refine gO rfl rfl (ld3 rfl f2 rfl) rfl ?_;refine gP ?_;refine GoR.store rfl rfl rfl rfl rfl rfl f2 rfl sz3 rfl rfl rfl fun h4 u4 => ?_;replace f2 := u4.has f2;replace e0 := e0.upd u4 (by omega);refine gP ?_;apply gE;exact gV (ret_end (aResult_of Try.func13 rfl (aResults_c rfl f2 (inCells_one ag3 rfl) rfl)) ⟨rfl, e0⟩)
theorem Water_ok {D : DrainV} {b d r s : AVal} {h : AH} (A : DrainAt h D b d r s) (B : DrainB D) (a : Int) :
  Runs Try.prog 14 [.agg (dC b d r s), .int .i64 a] h (fun en h' => en = .ret (.tuple [.agg (spC (D.waterR a).1), .int .i64 (D.waterR a).2]) ∧ Ext h h') := by
 by_cases O : D.Ok
 ·have hB := fun {h' : AH} {b0 br : Nat} (A' : DrainAt h' D b d r s) => waterB0_ok O (b := b) (d := d) (r := r) (s := s) (a := a) (h := h') (b0 := b0) (br := br) A'
  unfold DrainV.waterR
  rw [DrainV.ok_yes O]
  obtain ⟨RES, hR⟩ : ∃ RES, D.bankQ a (D.tr (D.waters a.toNat) zSp) zSp = RES := ⟨_, rfl⟩
  rw [hR] at hB ⊢
  obtain ⟨⟨r1, r2⟩, c⟩ := RES
  dsimp only at hB ⊢
  have hsm := A.same
  unfold dC at *
  try unfold spC at *
  have e0 : Ext h h := Ext.refl _
  refine Runs.intro aFunc14 rfl rfl rfl rfl fun rest => ?_;apply gS;refine gR rfl ?_;refine GoR.box rfl rfl rfl rfl rfl rfl fun h0 x0 f0 => ?_;have := e0.1;replace e0 := e0.trans x0;have := f0.1;refine GoR.box rfl rfl rfl rfl rfl rfl fun h1 x1 f1 => ?_;have := e0.1;have := f0.1;replace f0 := f0.ext x1;replace e0 := e0.trans x1;have := f1.1;refine GoR.alloc rfl rfl rfl zt35 rfl rfl fun h2 x2 f2 => ?_;have := e0.1;have := f1.1;have := f0.1;replace f1 := f1.ext x2;replace f0 := f0.ext x2;replace e0 := e0.trans x2;have := f2.1;refine gP ?_;apply gE;apply gS;refine gR rfl ?_;refine gO rfl rfl (ld29 rfl f0 rfl) rfl ?_;refine gP ?_;refine GoR.call rfl rfl (aCF aFunc37 rfl) (attempt_one O b d r s _ (A.ext e0) 46 _ aFunc46 _ (by simp [sameA, sameAs, eqI_eq]) h1.next (by omega) [.int .i64 r1, .int .i64 r2] 35 c fun h' e A' => hB A' (f1.ext e) (f2.ext e) (by omega)) ?_ np;rintro v9 h9 ⟨q, y9, f9⟩;cases q;refine ⟨_, rfl, ?_⟩
  have z9 := y9.low e0 (fun b q => by omega)
  clear e0 y9 f2
  have e0 := z9
  refine gP ?_;apply gE;apply gS;refine gR rfl ?_;refine gO rfl rfl (ld35 rfl f9 rfl) rfl ?_;refine gP ?_;refine GoR.store rfl rfl rfl rfl rfl rfl f9 rfl sz35 rfl rfl rfl fun h10 u10 => ?_;replace f9 := u10.has f9;replace e0 := e0.upd u10 (by omega);refine gP ?_;apply gE;exact gV (ret_end (aResult_of Try.func14 rfl (aResults_c rfl f9 (inCells_agg ag35 sz35 rfl) rfl)) ⟨rfl, e0⟩)
 ·have hr : D.waterR a = (zSp, 1) := DrainV.ok_no O
  rw [hr]
  have hbd := fun h A => attempt_bad O B b d r s h A 46
  try unfold zSp at *
  unfold dC at *
  try unfold spC at *
  have e0 : Ext h h := Ext.refl _
  refine Runs.intro aFunc14 rfl rfl rfl rfl fun rest => ?_;apply gS;refine gR rfl ?_;refine GoR.box rfl rfl rfl rfl rfl rfl fun h0 x0 f0 => ?_;have := e0.1;replace e0 := e0.trans x0;have := f0.1;refine GoR.box rfl rfl rfl rfl rfl rfl fun h1 x1 f1 => ?_;have := e0.1;have := f0.1;replace f0 := f0.ext x1;replace e0 := e0.trans x1;have := f1.1;refine GoR.alloc rfl rfl rfl zt35 rfl rfl fun h2 x2 f2 => ?_;have := e0.1;have := f1.1;have := f0.1;replace f0 := f0.ext x2;replace e0 := e0.trans x2;have := f2.1;refine gP ?_;apply gE;apply gS;refine gR rfl ?_;refine gO rfl rfl (ld29 rfl f0 rfl) rfl ?_;refine gP ?_;refine GoR.call rfl rfl (aCF aFunc37 rfl) (hbd _ (A.ext e0) _) ?_ np;rintro v3 h3 ⟨q, x3⟩;cases q;refine ⟨_, rfl, ?_⟩;replace f2 := f2.ext x3;replace e0 := e0.trans x3;refine gP ?_;apply gE;apply gS;refine gR rfl ?_;refine gO rfl rfl (ld35 rfl f2 rfl) rfl ?_;refine gP ?_;refine GoR.store rfl rfl rfl rfl rfl rfl f2 rfl sz35 rfl rfl rfl fun h4 u4 => ?_;replace f2 := u4.has f2;replace e0 := e0.upd u4 (by omega);refine gP ?_;apply gE;exact gV (ret_end (aResult_of Try.func14 rfl (aResults_c rfl f2 (inCells_agg ag35 sz35 rfl) rfl)) ⟨rfl, e0⟩)
theorem Flow_ok {D : DrainV} {b d r s : AVal} {h : AH} (A : DrainAt h D b d r s) (B : DrainB D) (x y : Int) :
  Runs Try.prog 15 [.agg (dC b d r s), .int .i64 x, .int .i64 y] h (fun en h' => en = .ret (.tuple [.agg (spC (D.flowR x y).1), .int .i64 (D.flowR x y).2]) ∧ Ext h h') := by
 by_cases O : D.Ok
 ·have hB := fun {h' : AH} {b0 b1 br : Nat} (A' : DrainAt h' D b d r s) => flowB0_ok O (b := b) (d := d) (r := r) (s := s) (x := x) (y := y) (h := h') (b0 := b0) (b1 := b1) (br := br) A'
  unfold DrainV.flowR
  rw [DrainV.ok_yes O]
  obtain ⟨RES, hR⟩ : ∃ RES, D.pairQ x y (D.tr (D.flow x.toNat y.toNat) zSp) zSp = RES := ⟨_, rfl⟩
  rw [hR] at hB ⊢
  obtain ⟨⟨r1, r2⟩, c⟩ := RES
  dsimp only at hB ⊢
  have hsm := A.same
  unfold dC at *
  try unfold spC at *
  have e0 : Ext h h := Ext.refl _
  refine Runs.intro aFunc15 rfl rfl rfl rfl fun rest => ?_;apply gS;refine gR rfl ?_;refine GoR.box rfl rfl rfl rfl rfl rfl fun h0 x0 f0 => ?_;have := e0.1;replace e0 := e0.trans x0;have := f0.1;refine GoR.box rfl rfl rfl rfl rfl rfl fun h1 x1 f1 => ?_;have := e0.1;have := f0.1;replace f0 := f0.ext x1;replace e0 := e0.trans x1;have := f1.1;refine GoR.box rfl rfl rfl rfl rfl rfl fun h2 x2 f2 => ?_;have := e0.1;have := f1.1;have := f0.1;replace f1 := f1.ext x2;replace f0 := f0.ext x2;replace e0 := e0.trans x2;have := f2.1;refine GoR.alloc rfl rfl rfl zt35 rfl rfl fun h3 x3 f3 => ?_;have := e0.1;have := f2.1;have := f1.1;have := f0.1;replace f2 := f2.ext x3;replace f1 := f1.ext x3;replace f0 := f0.ext x3;replace e0 := e0.trans x3;have := f3.1;refine gP ?_;apply gE;apply gS;refine gR rfl ?_;refine gO rfl rfl (ld29 rfl f0 rfl) rfl ?_;refine gP ?_;refine GoR.call rfl rfl (aCF aFunc37 rfl) (attempt_one O b d r s _ (A.ext e0) 50 _ aFunc50 _ (by simp [sameA, sameAs, eqI_eq]) h2.next (by omega) [.int .i64 r1, .int .i64 r2] 35 c fun h' e A' => hB A' (f1.ext e) (f2.ext e) (f3.ext e) (by omega) (by omega)) ?_ np;rintro v9 h9 ⟨q, y9, f9⟩;cases q;refine ⟨_, rfl, ?_⟩
  have z9 := y9.low e0 (fun b q => by omega)
  clear e0 y9 f3
  have e0 := z9
  refine gP ?_;apply gE;apply gS;refine gR rfl ?_;refine gO rfl rfl (ld35 rfl f9 rfl) rfl ?_;refine gP ?_;refine GoR.store rfl rfl rfl rfl rfl rfl f9 rfl sz35 rfl rfl rfl fun h10 u10 => ?_;replace f9 := u10.has f9;replace e0 := e0.upd u10 (by omega);refine gP ?_;apply gE;exact gV (ret_end (aResult_of Try.func15 rfl (aResults_c rfl f9 (inCells_agg ag35 sz35 rfl) rfl)) ⟨rfl, e0⟩)
 ·have hr : D.flowR x y = (zSp, 1) := DrainV.ok_no O
  rw [hr]
  have hbd := fun h A => attempt_bad O B b d r s h A 50
  try unfold zSp at *
  unfold dC at *
  try unfold spC at *
  have e0 : Ext h h := Ext.refl _
  refine Runs.intro aFunc15 rfl rfl rfl rfl fun rest => ?_;apply gS;refine gR rfl ?_;refine GoR.box rfl rfl rfl rfl rfl rfl fun h0 x0 f0 => ?_;have := e0.1;replace e0 := e0.trans x0;have := f0.1;refine GoR.box rfl rfl rfl rfl rfl rfl fun h1 x1 f1 => ?_;have := e0.1;have := f0.1;replace f0 := f0.ext x1;replace e0 := e0.trans x1;have := f1.1;refine GoR.box rfl rfl rfl rfl rfl rfl fun h2 x2 f2 => ?_;have := e0.1;have := f1.1;have := f0.1;replace f1 := f1.ext x2;replace f0 := f0.ext x2;replace e0 := e0.trans x2;have := f2.1;refine GoR.alloc rfl rfl rfl zt35 rfl rfl fun h3 x3 f3 => ?_;have := e0.1;have := f2.1;have := f1.1;have := f0.1;replace f0 := f0.ext x3;replace e0 := e0.trans x3;have := f3.1;refine gP ?_;apply gE;apply gS;refine gR rfl ?_;refine gO rfl rfl (ld29 rfl f0 rfl) rfl ?_;refine gP ?_;refine GoR.call rfl rfl (aCF aFunc37 rfl) (hbd _ (A.ext e0) _) ?_ np;rintro v4 h4 ⟨q, x4⟩;cases q;refine ⟨_, rfl, ?_⟩;replace f3 := f3.ext x4;replace e0 := e0.trans x4;refine gP ?_;apply gE;apply gS;refine gR rfl ?_;refine gO rfl rfl (ld35 rfl f3 rfl) rfl ?_;refine gP ?_;refine GoR.store rfl rfl rfl rfl rfl rfl f3 rfl sz35 rfl rfl rfl fun h5 u5 => ?_;replace f3 := u5.has f3;replace e0 := e0.upd u5 (by omega);refine gP ?_;apply gE;exact gV (ret_end (aResult_of Try.func15 rfl (aResults_c rfl f3 (inCells_agg ag35 sz35 rfl) rfl)) ⟨rfl, e0⟩)
theorem Breaks_ok {D : DrainV} {b d r s : AVal} {h : AH} (A : DrainAt h D b d r s) (B : DrainB D) :
  Runs Try.prog 16 [.agg (dC b d r s)] h (fun en h' => en = .ret (.tuple [.int .i64 (D.breaksR).1.1, .int .i64 (D.breaksR).1.2, .int .i64 (D.breaksR).2]) ∧ Ext h h') := by
 by_cases O : D.Ok
 ·have hB := fun {h' : AH} {br bs : Nat} (A' : DrainAt h' D b d r s) => breaksB0_ok O (b := b) (d := d) (r := r) (s := s) (h := h') (br := br) (bs := bs) A'
  unfold DrainV.breaksR
  rw [DrainV.ok_yes O]
  obtain ⟨RES, hR⟩ : ∃ RES, D.tr (((D.surely : Nat) : Int), ((D.perhaps : Nat) : Int)) zSp = RES := ⟨_, rfl⟩
  rw [hR] at hB ⊢
  obtain ⟨⟨r1, r2⟩, c⟩ := RES
  dsimp only at hB ⊢
  have hsm := A.same
  unfold dC at *
  try unfold spC at *
  have e0 : Ext h h := Ext.refl _
  refine Runs.intro aFunc16 rfl rfl rfl rfl fun rest => ?_;apply gS;refine gR rfl ?_;refine GoR.box rfl rfl rfl rfl rfl rfl fun h0 x0 f0 => ?_;have := e0.1;replace e0 := e0.trans x0;have := f0.1;refine GoR.alloc rfl rfl rfl zt3 rfl rfl fun h1 x1 f1 => ?_;have := e0.1;have := f0.1;replace f0 := f0.ext x1;replace e0 := e0.trans x1;have := f1.1;refine GoR.alloc rfl rfl rfl zt3 rfl rfl fun h2 x2 f2 => ?_;have := e0.1;have := f1.1;have := f0.1;replace f1 := f1.ext x2;replace f0 := f0.ext x2;replace e0 := e0.trans x2;have := f2.1;refine gP ?_;apply gE;apply gS;refine gR rfl ?_;refine gO rfl rfl (ld29 rfl f0 rfl) rfl ?_;refine gP ?_;refine GoR.call rfl rfl (aCF aFunc37 rfl) (attempt_two O b d r s _ (A.ext e0) 53 _ aFunc53 _ (by simp [sameA, sameAs, eqI_eq]) h0.next h1.next (by omega) (by omega) [.int .i64 r1] [.int .i64 r2] 3 3 c fun h' e A' => hB A' (f1.ext e) (f2.ext e) (by omega)) ?_ np;rintro v9 h9 ⟨q, y9, f9, f10⟩;cases q;refine ⟨_, rfl, ?_⟩
  have z9 := y9.low e0 (fun b q => by rcases q with q | q <;> omega)
  clear e0 y9 f1 f2
  have e0 := z9
  refine gP ?_;apply gE;apply gS;refine Go.drawnE plan16_0 ?_;refine gQ rfl rfl (ld3 rfl f9 rfl) rfl ?_;refine gQ rfl rfl (ld3 rfl f10 rfl) rfl ?_;refine gQ rfl rfl rfl rfl ?_;refine GoE.store rfl rfl rfl rfl (dK 1 2 (dK 1 1 (dD 1 0 rfl))) rfl rfl f9 rfl sz3 rfl rfl rfl fun h11 u11 => ?_;replace f9 := u11.has f9;replace f10 := f10.upd u11 (by omega);replace e0 := e0.upd u11 (by omega);refine ⟨(rck (h2 := h11) rfl (rfl) (rck (h2 := h11) rfl (ld3 rfl f10 rfl) recheck_nil)), ?_⟩;refine GoE.store rfl rfl rfl rfl (dK 11 2 (dD 11 1 rfl)) rfl rfl f10 rfl sz3 rfl rfl rfl fun h12 u12 => ?_;replace f9 := f9.upd u12 (by omega);replace f10 := u12.has f10;replace e0 := e0.upd u12 (by omega);refine ⟨(rck (h2 := h12) rfl (rfl) recheck_nil), ?_⟩;refine gQ rfl rfl rfl rfl ?_;refine GoE.end rfl ?_;exact gV (ret_end (aResult_of Try.func16 rfl (aResults_c rfl f9 (inCells_one ag3 rfl) (aResults_c rfl f10 (inCells_one ag3 rfl) rfl))) ⟨rfl, e0⟩)
 ·have hr : D.breaksR = (zSp, 1) := DrainV.ok_no O
  rw [hr]
  have hbd := fun h A => attempt_bad O B b d r s h A 53
  try unfold zSp at *
  unfold dC at *
  try unfold spC at *
  have e0 : Ext h h := Ext.refl _
  refine Runs.intro aFunc16 rfl rfl rfl rfl fun rest => ?_;apply gS;refine gR rfl ?_;refine GoR.box rfl rfl rfl rfl rfl rfl fun h0 x0 f0 => ?_;have := e0.1;replace e0 := e0.trans x0;have := f0.1;refine GoR.alloc rfl rfl rfl zt3 rfl rfl fun h1 x1 f1 => ?_;have := e0.1;have := f0.1;replace f0 := f0.ext x1;replace e0 := e0.trans x1;have := f1.1;refine GoR.alloc rfl rfl rfl zt3 rfl rfl fun h2 x2 f2 => ?_;have := e0.1;have := f1.1;have := f0.1;replace f1 := f1.ext x2;replace f0 := f0.ext x2;replace e0 := e0.trans x2;have := f2.1;refine gP ?_;apply gE;apply gS;refine gR rfl ?_;refine gO rfl rfl (ld29 rfl f0 rfl) rfl ?_;refine gP ?_;refine GoR.call rfl rfl (aCF aFunc37 rfl) (hbd _ (A.ext e0) _) ?_ np;rintro v3 h3 ⟨q, x3⟩;cases q;refine ⟨_, rfl, ?_⟩;replace f2 := f2.ext x3;replace f1 := f1.ext x3;replace e0 := e0.trans x3;refine gP ?_;apply gE;apply gS;refine Go.drawnE plan16_0 ?_;refine gQ rfl rfl (ld3 rfl f1 rfl) rfl ?_;refine gQ rfl rfl (ld3 rfl f2 rfl) rfl ?_;refine gQ rfl rfl rfl rfl ?_;refine GoE.store rfl rfl rfl rfl (dK 1 2 (dK 1 1 (dD 1 0 rfl))) rfl rfl f1 rfl sz3 rfl rfl rfl fun h4 u4 => ?_;replace f2 := f2.upd u4 (by omega);replace f1 := u4.has f1;replace e0 := e0.upd u4 (by omega);refine ⟨(rck (h2 := h4) rfl (rfl) (rck (h2 := h4) rfl (ld3 rfl f2 rfl) recheck_nil)), ?_⟩;refine GoE.store rfl rfl rfl rfl (dK 11 2 (dD 11 1 rfl)) rfl rfl f2 rfl sz3 rfl rfl rfl fun h5 u5 => ?_;replace f2 := u5.has f2;replace f1 := f1.upd u5 (by omega);replace e0 := e0.upd u5 (by omega);refine ⟨(rck (h2 := h5) rfl (rfl) recheck_nil), ?_⟩;refine gQ rfl rfl rfl rfl ?_;refine GoE.end rfl ?_;exact gV (ret_end (aResult_of Try.func16 rfl (aResults_c rfl f1 (inCells_one ag3 rfl) (aResults_c rfl f2 (inCells_one ag3 rfl) rfl))) ⟨rfl, e0⟩)
theorem Dig_ok {D : DrainV} {b d r s : AVal} {h : AH} (A : DrainAt h D b d r s) (B : DrainB D) (x y : Int) :
  Runs Try.prog 17 [.agg (dC b d r s), .int .i64 x, .int .i64 y] h (fun en h' => en = .ret (.tuple [.int .i64 (D.digR x y).1, .int .i64 (D.digR x y).2]) ∧ Ext h h') := by
 by_cases O : D.Ok
 ·have hB := fun {h' : AH} {b0 b1 br : Nat} (A' : DrainAt h' D b d r s) => digB0_ok O (b := b) (d := d) (r := r) (s := s) (x := x) (y := y) (h := h') (b0 := b0) (b1 := b1) (br := br) A'
  unfold DrainV.digR
  rw [DrainV.ok_yes O]
  obtain ⟨RES, hR⟩ : ∃ RES, D.pairQ x y (D.digQ x.toNat y.toNat) 0 = RES := ⟨_, rfl⟩
  rw [hR] at hB ⊢
  obtain ⟨r1, c⟩ := RES
  dsimp only at hB ⊢
  have hsm := A.same
  unfold dC at *
  try unfold spC at *
  have e0 : Ext h h := Ext.refl _
  refine Runs.intro aFunc17 rfl rfl rfl rfl fun rest => ?_;apply gS;refine gR rfl ?_;refine GoR.box rfl rfl rfl rfl rfl rfl fun h0 x0 f0 => ?_;have := e0.1;replace e0 := e0.trans x0;have := f0.1;refine GoR.box rfl rfl rfl rfl rfl rfl fun h1 x1 f1 => ?_;have := e0.1;have := f0.1;replace f0 := f0.ext x1;replace e0 := e0.trans x1;have := f1.1;refine GoR.box rfl rfl rfl rfl rfl rfl fun h2 x2 f2 => ?_;have := e0.1;have := f1.1;have := f0.1;replace f1 := f1.ext x2;replace f0 := f0.ext x2;replace e0 := e0.trans x2;have := f2.1;refine GoR.alloc rfl rfl rfl zt3 rfl rfl fun h3 x3 f3 => ?_;have := e0.1;have := f2.1;have := f1.1;have := f0.1;replace f2 := f2.ext x3;replace f1 := f1.ext x3;replace f0 := f0.ext x3;replace e0 := e0.trans x3;have := f3.1;refine gP ?_;apply gE;apply gS;refine gR rfl ?_;refine gO rfl rfl (ld29 rfl f0 rfl) rfl ?_;refine gP ?_;refine GoR.call rfl rfl (aCF aFunc37 rfl) (attempt_one O b d r s _ (A.ext e0) 55 _ aFunc55 _ (by simp [sameA, sameAs, eqI_eq]) h2.next (by omega) [.int .i64 r1] 3 c fun h' e A' => hB A' (f1.ext e) (f2.ext e) (f3.ext e) (by omega) (by omega)) ?_ np;rintro v9 h9 ⟨q, y9, f9⟩;cases q;refine ⟨_, rfl, ?_⟩
  have z9 := y9.low e0 (fun b q => by omega)
  clear e0 y9 f3
  have e0 := z9
  refine gP ?_;apply gE;apply gS;refine gR rfl ?_;refine gO rfl rfl (ld3 rfl f9 rfl) rfl ?_;refine gP ?_;refine GoR.store rfl rfl rfl rfl rfl rfl f9 rfl sz3 rfl rfl rfl fun h10 u10 => ?_;replace f9 := u10.has f9;replace e0 := e0.upd u10 (by omega);refine gP ?_;apply gE;exact gV (ret_end (aResult_of Try.func17 rfl (aResults_c rfl f9 (inCells_one ag3 rfl) rfl)) ⟨rfl, e0⟩)
 ·have hr : D.digR x y = (0, 1) := DrainV.ok_no O
  rw [hr]
  have hbd := fun h A => attempt_bad O B b d r s h A 55
  try unfold zSp at *
  unfold dC at *
  try unfold spC at *
  have e0 : Ext h h := Ext.refl _
  refine Runs.intro aFunc17 rfl rfl rfl rfl fun rest => ?_;apply gS;refine gR rfl ?_;refine GoR.box rfl rfl rfl rfl rfl rfl fun h0 x0 f0 => ?_;have := e0.1;replace e0 := e0.trans x0;have := f0.1;refine GoR.box rfl rfl rfl rfl rfl rfl fun h1 x1 f1 => ?_;have := e0.1;have := f0.1;replace f0 := f0.ext x1;replace e0 := e0.trans x1;have := f1.1;refine GoR.box rfl rfl rfl rfl rfl rfl fun h2 x2 f2 => ?_;have := e0.1;have := f1.1;have := f0.1;replace f1 := f1.ext x2;replace f0 := f0.ext x2;replace e0 := e0.trans x2;have := f2.1;refine GoR.alloc rfl rfl rfl zt3 rfl rfl fun h3 x3 f3 => ?_;have := e0.1;have := f2.1;have := f1.1;have := f0.1;replace f0 := f0.ext x3;replace e0 := e0.trans x3;have := f3.1;refine gP ?_;apply gE;apply gS;refine gR rfl ?_;refine gO rfl rfl (ld29 rfl f0 rfl) rfl ?_;refine gP ?_;refine GoR.call rfl rfl (aCF aFunc37 rfl) (hbd _ (A.ext e0) _) ?_ np;rintro v4 h4 ⟨q, x4⟩;cases q;refine ⟨_, rfl, ?_⟩;replace f3 := f3.ext x4;replace e0 := e0.trans x4;refine gP ?_;apply gE;apply gS;refine gR rfl ?_;refine gO rfl rfl (ld3 rfl f3 rfl) rfl ?_;refine gP ?_;refine GoR.store rfl rfl rfl rfl rfl rfl f3 rfl sz3 rfl rfl rfl fun h5 u5 => ?_;replace f3 := u5.has f3;replace e0 := e0.upd u5 (by omega);refine gP ?_;apply gE;exact gV (ret_end (aResult_of Try.func17 rfl (aResults_c rfl f3 (inCells_one ag3 rfl) rfl)) ⟨rfl, e0⟩)
theorem Stop_ok {D : DrainV} {b d r s : AVal} {h : AH} (A : DrainAt h D b d r s) (B : DrainB D) :
  Runs Try.prog 18 [.agg (dC b d r s)] h (fun en h' => en = .ret (.tuple [.int .i64 (D.stopR).1.1, .int .i64 (D.stopR).1.2, .int .i64 (D.stopR).2]) ∧ Ext h h') := by
 by_cases O : D.Ok
 ·have hB := fun {h' : AH} {br bs : Nat} (A' : DrainAt h' D b d r s) => stopB0_ok O (b := b) (d := d) (r := r) (s := s) (h := h') (br := br) (bs := bs) A'
  unfold DrainV.stopR
  rw [DrainV.ok_yes O]
  obtain ⟨RES, hR⟩ : ∃ RES, D.tr (((popc (stopV D) : Nat) : Int), ((stopV D : Nat) : Int)) zSp = RES := ⟨_, rfl⟩
  rw [hR] at hB ⊢
  obtain ⟨⟨r1, r2⟩, c⟩ := RES
  dsimp only at hB ⊢
  have hsm := A.same
  unfold dC at *
  try unfold spC at *
  have e0 : Ext h h := Ext.refl _
  refine Runs.intro aFunc18 rfl rfl rfl rfl fun rest => ?_;apply gS;refine gR rfl ?_;refine GoR.box rfl rfl rfl rfl rfl rfl fun h0 x0 f0 => ?_;have := e0.1;replace e0 := e0.trans x0;have := f0.1;refine GoR.alloc rfl rfl rfl zt3 rfl rfl fun h1 x1 f1 => ?_;have := e0.1;have := f0.1;replace f0 := f0.ext x1;replace e0 := e0.trans x1;have := f1.1;refine GoR.alloc rfl rfl rfl zt3 rfl rfl fun h2 x2 f2 => ?_;have := e0.1;have := f1.1;have := f0.1;replace f1 := f1.ext x2;replace f0 := f0.ext x2;replace e0 := e0.trans x2;have := f2.1;refine gP ?_;apply gE;apply gS;refine gR rfl ?_;refine gO rfl rfl (ld29 rfl f0 rfl) rfl ?_;refine gP ?_;refine GoR.call rfl rfl (aCF aFunc37 rfl) (attempt_two O b d r s _ (A.ext e0) 57 _ aFunc57 _ (by simp [sameA, sameAs, eqI_eq]) h0.next h1.next (by omega) (by omega) [.int .i64 r1] [.int .i64 r2] 3 3 c fun h' e A' => hB A' (f1.ext e) (f2.ext e) (by omega)) ?_ np;rintro v9 h9 ⟨q, y9, f9, f10⟩;cases q;refine ⟨_, rfl, ?_⟩
  have z9 := y9.low e0 (fun b q => by rcases q with q | q <;> omega)
  clear e0 y9 f1 f2
  have e0 := z9
  refine gP ?_;apply gE;apply gS;refine Go.drawnE plan18_0 ?_;refine gQ rfl rfl (ld3 rfl f9 rfl) rfl ?_;refine gQ rfl rfl (ld3 rfl f10 rfl) rfl ?_;refine gQ rfl rfl rfl rfl ?_;refine GoE.store rfl rfl rfl rfl (dK 1 2 (dK 1 1 (dD 1 0 rfl))) rfl rfl f9 rfl sz3 rfl rfl rfl fun h11 u11 => ?_;replace f9 := u11.has f9;replace f10 := f10.upd u11 (by omega);replace e0 := e0.upd u11 (by omega);refine ⟨(rck (h2 := h11) rfl (rfl) (rck (h2 := h11) rfl (ld3 rfl f10 rfl) recheck_nil)), ?_⟩;refine GoE.store rfl rfl rfl rfl (dK 11 2 (dD 11 1 rfl)) rfl rfl f10 rfl sz3 rfl rfl rfl fun h12 u12 => ?_;replace f9 := f9.upd u12 (by omega);replace f10 := u12.has f10;replace e0 := e0.upd u12 (by omega);refine ⟨(rck (h2 := h12) rfl (rfl) recheck_nil), ?_⟩;refine gQ rfl rfl rfl rfl ?_;refine GoE.end rfl ?_;exact gV (ret_end (aResult_of Try.func18 rfl (aResults_c rfl f9 (inCells_one ag3 rfl) (aResults_c rfl f10 (inCells_one ag3 rfl) rfl))) ⟨rfl, e0⟩)
 ·have hr : D.stopR = (zSp, 1) := DrainV.ok_no O
  rw [hr]
  have hbd := fun h A => attempt_bad O B b d r s h A 57
  try unfold zSp at *
  unfold dC at *
  try unfold spC at *
  have e0 : Ext h h := Ext.refl _
  refine Runs.intro aFunc18 rfl rfl rfl rfl fun rest => ?_;apply gS;refine gR rfl ?_;refine GoR.box rfl rfl rfl rfl rfl rfl fun h0 x0 f0 => ?_;have := e0.1;replace e0 := e0.trans x0;have := f0.1;refine GoR.alloc rfl rfl rfl zt3 rfl rfl fun h1 x1 f1 => ?_;have := e0.1;have := f0.1;replace f0 := f0.ext x1;replace e0 := e0.trans x1;have := f1.1;refine GoR.alloc rfl rfl rfl zt3 rfl rfl fun h2 x2 f2 => ?_;have := e0.1;have := f1.1;have := f0.1;replace f1 := f1.ext x2;replace f0 := f0.ext x2;replace e0 := e0.trans x2;have := f2.1;refine gP ?_;apply gE;apply gS;refine gR rfl ?_;refine gO rfl rfl (ld29 rfl f0 rfl) rfl ?_;refine gP ?_;refine GoR.call rfl rfl (aCF aFunc37 rfl) (hbd _ (A.ext e0) _) ?_ np;rintro v3 h3 ⟨q, x3⟩;cases q;refine ⟨_, rfl, ?_⟩;replace f2 := f2.ext x3;replace f1 := f1.ext x3;replace e0 := e0.trans x3;refine gP ?_;apply gE;apply gS;refine Go.drawnE plan18_0 ?_;refine gQ rfl rfl (ld3 rfl f1 rfl) rfl ?_;refine gQ rfl rfl (ld3 rfl f2 rfl) rfl ?_;refine gQ rfl rfl rfl rfl ?_;refine GoE.store rfl rfl rfl rfl (dK 1 2 (dK 1 1 (dD 1 0 rfl))) rfl rfl f1 rfl sz3 rfl rfl rfl fun h4 u4 => ?_;replace f2 := f2.upd u4 (by omega);replace f1 := u4.has f1;replace e0 := e0.upd u4 (by omega);refine ⟨(rck (h2 := h4) rfl (rfl) (rck (h2 := h4) rfl (ld3 rfl f2 rfl) recheck_nil)), ?_⟩;refine GoE.store rfl rfl rfl rfl (dK 11 2 (dD 11 1 rfl)) rfl rfl f2 rfl sz3 rfl rfl rfl fun h5 u5 => ?_;replace f2 := u5.has f2;replace f1 := f1.upd u5 (by omega);replace e0 := e0.upd u5 (by omega);refine ⟨(rck (h2 := h5) rfl (rfl) recheck_nil), ?_⟩;refine gQ rfl rfl rfl rfl ?_;refine GoE.end rfl ?_;exact gV (ret_end (aResult_of Try.func18 rfl (aResults_c rfl f1 (inCells_one ag3 rfl) (aResults_c rfl f2 (inCells_one ag3 rfl) rfl))) ⟨rfl, e0⟩)
theorem Clash_ok {D : DrainV} {b d r s : AVal} {h : AH} (A : DrainAt h D b d r s) (B : DrainB D) :
  Runs Try.prog 19 [.agg (dC b d r s)] h (fun en h' => en = .ret (.tuple [.int .i64 (D.clashR).1, .int .i64 (D.clashR).2]) ∧ Ext h h') := by
 by_cases O : D.Ok
 ·have hB := fun {h' : AH} {br : Nat} (A' : DrainAt h' D b d r s) => clashB0_ok O (b := b) (d := d) (r := r) (s := s) (h := h') (br := br) A'
  unfold DrainV.clashR
  rw [DrainV.ok_yes O]
  obtain ⟨RES, hR⟩ : ∃ RES, D.clashQ = RES := ⟨_, rfl⟩
  rw [hR] at hB ⊢
  obtain ⟨r1, c⟩ := RES
  dsimp only at hB ⊢
  have hsm := A.same
  unfold dC at *
  try unfold spC at *
  have e0 : Ext h h := Ext.refl _
  refine Runs.intro aFunc19 rfl rfl rfl rfl fun rest => ?_;apply gS;refine gR rfl ?_;refine GoR.box rfl rfl rfl rfl rfl rfl fun h0 x0 f0 => ?_;have := e0.1;replace e0 := e0.trans x0;have := f0.1;refine GoR.alloc rfl rfl rfl zt3 rfl rfl fun h1 x1 f1 => ?_;have := e0.1;have := f0.1;replace f0 := f0.ext x1;replace e0 := e0.trans x1;have := f1.1;refine gP ?_;apply gE;apply gS;refine gR rfl ?_;refine gO rfl rfl (ld29 rfl f0 rfl) rfl ?_;refine gP ?_;refine GoR.call rfl rfl (aCF aFunc37 rfl) (attempt_one O b d r s _ (A.ext e0) 59 _ aFunc59 _ (by simp [sameA, sameAs, eqI_eq]) h0.next (by omega) [.int .i64 r1] 3 c fun h' e A' => hB A' (f1.ext e)) ?_ np;rintro v9 h9 ⟨q, y9, f9⟩;cases q;refine ⟨_, rfl, ?_⟩
  have z9 := y9.low e0 (fun b q => by omega)
  clear e0 y9 f1
  have e0 := z9
  refine gP ?_;apply gE;apply gS;refine gR rfl ?_;refine gO rfl rfl (ld3 rfl f9 rfl) rfl ?_;refine gP ?_;refine GoR.store rfl rfl rfl rfl rfl rfl f9 rfl sz3 rfl rfl rfl fun h10 u10 => ?_;replace f9 := u10.has f9;replace e0 := e0.upd u10 (by omega);refine gP ?_;apply gE;exact gV (ret_end (aResult_of Try.func19 rfl (aResults_c rfl f9 (inCells_one ag3 rfl) rfl)) ⟨rfl, e0⟩)
 ·have hr : D.clashR = (0, 1) := DrainV.ok_no O
  rw [hr]
  have hbd := fun h A => attempt_bad O B b d r s h A 59
  try unfold zSp at *
  unfold dC at *
  try unfold spC at *
  have e0 : Ext h h := Ext.refl _
  refine Runs.intro aFunc19 rfl rfl rfl rfl fun rest => ?_;apply gS;refine gR rfl ?_;refine GoR.box rfl rfl rfl rfl rfl rfl fun h0 x0 f0 => ?_;have := e0.1;replace e0 := e0.trans x0;have := f0.1;refine GoR.alloc rfl rfl rfl zt3 rfl rfl fun h1 x1 f1 => ?_;have := e0.1;have := f0.1;replace f0 := f0.ext x1;replace e0 := e0.trans x1;have := f1.1;refine gP ?_;apply gE;apply gS;refine gR rfl ?_;refine gO rfl rfl (ld29 rfl f0 rfl) rfl ?_;refine gP ?_;refine GoR.call rfl rfl (aCF aFunc37 rfl) (hbd _ (A.ext e0) _) ?_ np;rintro v2 h2 ⟨q, x2⟩;cases q;refine ⟨_, rfl, ?_⟩;replace f1 := f1.ext x2;replace e0 := e0.trans x2;refine gP ?_;apply gE;apply gS;refine gR rfl ?_;refine gO rfl rfl (ld3 rfl f1 rfl) rfl ?_;refine gP ?_;refine GoR.store rfl rfl rfl rfl rfl rfl f1 rfl sz3 rfl rfl rfl fun h3 u3 => ?_;replace f1 := u3.has f1;replace e0 := e0.upd u3 (by omega);refine gP ?_;apply gE;exact gV (ret_end (aResult_of Try.func19 rfl (aResults_c rfl f1 (inCells_one ag3 rfl) rfl)) ⟨rfl, e0⟩)
end Go.Proofs.Ytkhiagdmbajimaa
