import Derived.Test.YteibheeleeengaaMAP
namespace Go.Proofs.Yteibheeleeengaa
open Go Go.AbsE
set_option linter.unusedSimpArgs false
set_option maxRecDepth 100000
set_option maxHeartbeats 0
set_option linter.unusedVariables false
theorem attempt_one {C : CutV} (O : C.Ok) (r b l : AVal) (h : AH) (A : CutAt h C r b l) (W : FuncId) (fW : Func) (hfid : aFunc Try.prog W = some fW) (caps : List AVal) (hsm : sameA (.func (.func W) [] caps) (.func (.func W) [] caps) = true) (br : Nat) (hb : br < h.next) (cs : List AVal) (el : TypeId) (code : Int)
  (hbody : ∀ h', Ext h h' → CutAt h' C r b l → Runs Try.prog W ([.agg (C.cells r b l)] ++ caps) h' (fun en h'' => ExtF (fun b => b = br) h' h'' ∧ Has h'' br (.cells .plain cs el) ∧ ((code = 0 ∧ en = .ret (.tuple [])) ∨ en = .pan (refusal code)))) :
  Runs Try.prog 32 [.agg (C.cells r b l), .func (.func W) [] caps] h (fun en h' => en = .ret (.int .i64 code) ∧ ExtF (fun b => b = br) h h' ∧ Has h' br (.cells .plain cs el)) :=
 attempt_is O r b l h A W fW hfid caps hsm (fun b => b = br) (fun _ q => q ▸ hb) (fun h' => Has h' br (.cells .plain cs el)) (fun h2 h' le same f => f.keep le (same br hb)) code fun h' e => hbody h' e (A.ext e)
theorem attempt_two {C : CutV} (O : C.Ok) (r b l : AVal) (h : AH) (A : CutAt h C r b l) (W : FuncId) (fW : Func) (hfid : aFunc Try.prog W = some fW) (caps : List AVal) (hsm : sameA (.func (.func W) [] caps) (.func (.func W) [] caps) = true) (br bs : Nat) (hb : br < h.next) (hs : bs < h.next) (cs cs' : List AVal) (el el' : TypeId) (code : Int)
  (hbody : ∀ h', Ext h h' → CutAt h' C r b l → Runs Try.prog W ([.agg (C.cells r b l)] ++ caps) h' (fun en h'' => ExtF (fun b => b = br ∨ b = bs) h' h'' ∧ (Has h'' br (.cells .plain cs el) ∧ Has h'' bs (.cells .plain cs' el')) ∧ ((code = 0 ∧ en = .ret (.tuple [])) ∨ en = .pan (refusal code)))) :
  Runs Try.prog 32 [.agg (C.cells r b l), .func (.func W) [] caps] h (fun en h' => en = .ret (.int .i64 code) ∧ ExtF (fun b => b = br ∨ b = bs) h h' ∧ (Has h' br (.cells .plain cs el) ∧ Has h' bs (.cells .plain cs' el'))) :=
 attempt_is O r b l h A W fW hfid caps hsm (fun b => b = br ∨ b = bs) (fun _ q => by rcases q with rfl | rfl <;> assumption) (fun h' => Has h' br (.cells .plain cs el) ∧ Has h' bs (.cells .plain cs' el')) (fun h2 h' le same f => ⟨f.1.keep le (same br hb), f.2.keep le (same bs hs)⟩) code fun h' e => hbody h' e (A.ext e)
theorem Depth_ok {C : CutV} {r b l : AVal} {h : AH} (A : CutAt h C r b l) (hl1 : C.rs.length ≤ 40) (hl2 : C.bs.length ≤ 40) (hl3 : C.ls.length ≤ 40) (day : Int) :
  Runs Try.prog 17 [.agg (C.cells r b l), .int .i64 day] h (fun en h' => en = .ret (.tuple [.agg (spC (C.depthR day).1), .int .i64 (C.depthR day).2]) ∧ Ext h h') := by
 by_cases O : C.Ok
 ·have hB := fun {h' : AH} {b0 br : Nat} (A' : CutAt h' C r b l) => depthB_ok O (r := r) (b := b) (l := l) (day := day) (h := h')  (b0 := b0) (br := br) A'
  unfold CutV.depthR
  rw [CutV.ok_yes O]
  obtain ⟨RES, hR⟩ : ∃ RES, C.dayQ day (C.tr (C.at day.toNat) zSp) zSp = RES := ⟨_, rfl⟩
  rw [hR] at hB ⊢
  obtain ⟨⟨r1, r2⟩, c⟩ := RES
  dsimp only at hB ⊢
  have hsm := A.same
  unfold CutV.cells at *
  try unfold spC at *
  have e0 : Ext h h := Ext.refl _
  refine Runs.intro aFunc17 rfl rfl rfl rfl fun rest => ?_;apply gS;refine gR rfl ?_;refine GoR.box rfl rfl rfl rfl rfl rfl fun h0 x0 f0 => ?_;have := e0.1;replace e0 := e0.trans x0;have := f0.1;refine GoR.box rfl rfl rfl rfl rfl rfl fun h1 x1 f1 => ?_;have := e0.1;have := f0.1;replace f0 := f0.ext x1;replace e0 := e0.trans x1;have := f1.1;refine GoR.alloc rfl rfl rfl zt23 rfl rfl fun h2 x2 f2 => ?_;have := e0.1;have := f1.1;have := f0.1;replace f1 := f1.ext x2;replace f0 := f0.ext x2;replace e0 := e0.trans x2;have := f2.1;refine gP ?_;apply gE;apply gS;refine gR rfl ?_;refine gO rfl rfl (ld28 rfl f0 rfl) rfl ?_;refine gP ?_;refine GoR.call rfl rfl (aCF aFunc32 rfl) (attempt_one O r b l _ (A.ext e0) 38 _ aFunc38 _ (by simp [sameA, sameAs, eqI_eq]) h1.next (by omega) [.int .i64 r1, .int .i64 r2] 23 c fun h' e A' => hB A' (f1.ext e) (f2.ext e) (by omega)) ?_ np;rintro v9 h9 ⟨q, y9, f9⟩;cases q;refine ⟨_, rfl, ?_⟩
  have z9 := y9.low e0 (fun b q => by omega)
  clear e0 y9 f2
  have e0 := z9
  refine gP ?_;apply gE;apply gS;refine gR rfl ?_;refine gO rfl rfl (ld23 rfl f9 rfl) rfl ?_;refine gP ?_;refine GoR.store rfl rfl rfl rfl rfl rfl f9 rfl sz23 rfl rfl rfl fun h10 u10 => ?_;replace f9 := u10.has f9;replace e0 := e0.upd u10 (by omega);refine gP ?_;apply gE;exact gV (ret_end (aResult_of Try.func17 rfl (aResults_c rfl f9 (inCells_agg ag23 sz23 rfl) rfl)) ⟨rfl, e0⟩)
 ·have hr : C.depthR day = (zSp, 1) := CutV.ok_no O
  rw [hr]
  have hbd := fun h A => attempt_bad O hl1 hl2 hl3 r b l h A 38
  unfold CutV.cells at *
  try unfold spC at *
  have e0 : Ext h h := Ext.refl _
  refine Runs.intro aFunc17 rfl rfl rfl rfl fun rest => ?_;apply gS;refine gR rfl ?_;refine GoR.box rfl rfl rfl rfl rfl rfl fun h0 x0 f0 => ?_;have := e0.1;replace e0 := e0.trans x0;have := f0.1;refine GoR.box rfl rfl rfl rfl rfl rfl fun h1 x1 f1 => ?_;have := e0.1;have := f0.1;replace f0 := f0.ext x1;replace e0 := e0.trans x1;have := f1.1;refine GoR.alloc rfl rfl rfl zt23 rfl rfl fun h2 x2 f2 => ?_;have := e0.1;have := f1.1;have := f0.1;replace f0 := f0.ext x2;replace e0 := e0.trans x2;have := f2.1;refine gP ?_;apply gE;apply gS;refine gR rfl ?_;refine gO rfl rfl (ld28 rfl f0 rfl) rfl ?_;refine gP ?_;refine GoR.call rfl rfl (aCF aFunc32 rfl) (hbd _ (A.ext e0) _) ?_ np;rintro v3 h3 ⟨q, x3⟩;cases q;refine ⟨_, rfl, ?_⟩;replace f2 := f2.ext x3;replace e0 := e0.trans x3;refine gP ?_;apply gE;apply gS;refine gR rfl ?_;refine gO rfl rfl (ld23 rfl f2 rfl) rfl ?_;refine gP ?_;refine GoR.store rfl rfl rfl rfl rfl rfl f2 rfl sz23 rfl rfl rfl fun h4 u4 => ?_;replace f2 := u4.has f2;replace e0 := e0.upd u4 (by omega);refine gP ?_;apply gE;exact gV (ret_end (aResult_of Try.func17 rfl (aResults_c rfl f2 (inCells_agg ag23 sz23 rfl) rfl)) ⟨rfl, e0⟩)
theorem Leak_ok {C : CutV} {r b l : AVal} {h : AH} (A : CutAt h C r b l) (hl1 : C.rs.length ≤ 40) (hl2 : C.bs.length ≤ 40) (hl3 : C.ls.length ≤ 40) :
  Runs Try.prog 15 [.agg (C.cells r b l)] h (fun en h' => en = .ret (.tuple [.agg (spC (C.leakR).1), .int .i64 (C.leakR).2]) ∧ Ext h h') := by
 by_cases O : C.Ok
 ·have hB := fun {h' : AH} {br : Nat} (A' : CutAt h' C r b l) => leakB_ok O (r := r) (b := b) (l := l) (h := h')  (br := br) A'
  unfold CutV.leakR
  rw [CutV.ok_yes O]
  obtain ⟨RES, hR⟩ : ∃ RES, C.tr (joinL (C.truths.map leakK)) zSp = RES := ⟨_, rfl⟩
  rw [hR] at hB ⊢
  obtain ⟨⟨r1, r2⟩, c⟩ := RES
  dsimp only at hB ⊢
  have hsm := A.same
  unfold CutV.cells at *
  try unfold spC at *
  have e0 : Ext h h := Ext.refl _
  refine Runs.intro aFunc15 rfl rfl rfl rfl fun rest => ?_;apply gS;refine gR rfl ?_;refine GoR.box rfl rfl rfl rfl rfl rfl fun h0 x0 f0 => ?_;have := e0.1;replace e0 := e0.trans x0;have := f0.1;refine GoR.alloc rfl rfl rfl zt23 rfl rfl fun h1 x1 f1 => ?_;have := e0.1;have := f0.1;replace f0 := f0.ext x1;replace e0 := e0.trans x1;have := f1.1;refine gP ?_;apply gE;apply gS;refine gR rfl ?_;refine gO rfl rfl (ld28 rfl f0 rfl) rfl ?_;refine gP ?_;refine GoR.call rfl rfl (aCF aFunc32 rfl) (attempt_one O r b l _ (A.ext e0) 35 _ aFunc35 _ (by simp [sameA, sameAs, eqI_eq]) h0.next (by omega) [.int .i64 r1, .int .i64 r2] 23 c fun h' e A' => hB A' (f1.ext e)) ?_ np;rintro v9 h9 ⟨q, y9, f9⟩;cases q;refine ⟨_, rfl, ?_⟩
  have z9 := y9.low e0 (fun b q => by omega)
  clear e0 y9 f1
  have e0 := z9
  refine gP ?_;apply gE;apply gS;refine gR rfl ?_;refine gO rfl rfl (ld23 rfl f9 rfl) rfl ?_;refine gP ?_;refine GoR.store rfl rfl rfl rfl rfl rfl f9 rfl sz23 rfl rfl rfl fun h10 u10 => ?_;replace f9 := u10.has f9;replace e0 := e0.upd u10 (by omega);refine gP ?_;apply gE;exact gV (ret_end (aResult_of Try.func15 rfl (aResults_c rfl f9 (inCells_agg ag23 sz23 rfl) rfl)) ⟨rfl, e0⟩)
 ·have hr : C.leakR = (zSp, 1) := CutV.ok_no O
  rw [hr]
  have hbd := fun h A => attempt_bad O hl1 hl2 hl3 r b l h A 35
  unfold CutV.cells at *
  try unfold spC at *
  have e0 : Ext h h := Ext.refl _
  refine Runs.intro aFunc15 rfl rfl rfl rfl fun rest => ?_;apply gS;refine gR rfl ?_;refine GoR.box rfl rfl rfl rfl rfl rfl fun h0 x0 f0 => ?_;have := e0.1;replace e0 := e0.trans x0;have := f0.1;refine GoR.alloc rfl rfl rfl zt23 rfl rfl fun h1 x1 f1 => ?_;have := e0.1;have := f0.1;replace f0 := f0.ext x1;replace e0 := e0.trans x1;have := f1.1;refine gP ?_;apply gE;apply gS;refine gR rfl ?_;refine gO rfl rfl (ld28 rfl f0 rfl) rfl ?_;refine gP ?_;refine GoR.call rfl rfl (aCF aFunc32 rfl) (hbd _ (A.ext e0) _) ?_ np;rintro v2 h2 ⟨q, x2⟩;cases q;refine ⟨_, rfl, ?_⟩;replace f1 := f1.ext x2;replace e0 := e0.trans x2;refine gP ?_;apply gE;apply gS;refine gR rfl ?_;refine gO rfl rfl (ld23 rfl f1 rfl) rfl ?_;refine gP ?_;refine GoR.store rfl rfl rfl rfl rfl rfl f1 rfl sz23 rfl rfl rfl fun h3 u3 => ?_;replace f1 := u3.has f1;replace e0 := e0.upd u3 (by omega);refine gP ?_;apply gE;exact gV (ret_end (aResult_of Try.func15 rfl (aResults_c rfl f1 (inCells_agg ag23 sz23 rfl) rfl)) ⟨rfl, e0⟩)
theorem Floats_ok {C : CutV} {r b l : AVal} {h : AH} (A : CutAt h C r b l) (hl1 : C.rs.length ≤ 40) (hl2 : C.bs.length ≤ 40) (hl3 : C.ls.length ≤ 40) (boat loads day : Int) :
  Runs Try.prog 22 [.agg (C.cells r b l), .int .i64 boat, .int .i64 loads, .int .i64 day] h (fun en h' => en = .ret (.tuple [.int .i64 (C.floatsR boat loads day).1, .int .i64 (C.floatsR boat loads day).2]) ∧ Ext h h') := by
 by_cases O : C.Ok
 ·have hB := fun {h' : AH} {b0 b1 b2 br : Nat} (A' : CutAt h' C r b l) => floatsB_ok O (r := r) (b := b) (l := l) (boat := boat) (loads := loads) (day := day) (h := h')  (b0 := b0) (b1 := b1) (b2 := b2) (br := br) A'
  unfold CutV.floatsR
  rw [CutV.ok_yes O]
  obtain ⟨RES, hR⟩ : ∃ RES, C.boatQ boat (fun x => loadQ x loads (C.dayQ day (C.tr (floatsV (C.at day.toNat) (x.needs loads)) 0) 0) 0) 0 = RES := ⟨_, rfl⟩
  rw [hR] at hB ⊢
  obtain ⟨r1, c⟩ := RES
  dsimp only at hB ⊢
  have hsm := A.same
  unfold CutV.cells at *
  try unfold spC at *
  have e0 : Ext h h := Ext.refl _
  refine Runs.intro aFunc22 rfl rfl rfl rfl fun rest => ?_;apply gS;refine gR rfl ?_;refine GoR.box rfl rfl rfl rfl rfl rfl fun h0 x0 f0 => ?_;have := e0.1;replace e0 := e0.trans x0;have := f0.1;refine GoR.box rfl rfl rfl rfl rfl rfl fun h1 x1 f1 => ?_;have := e0.1;have := f0.1;replace f0 := f0.ext x1;replace e0 := e0.trans x1;have := f1.1;refine GoR.box rfl rfl rfl rfl rfl rfl fun h2 x2 f2 => ?_;have := e0.1;have := f1.1;have := f0.1;replace f1 := f1.ext x2;replace f0 := f0.ext x2;replace e0 := e0.trans x2;have := f2.1;refine GoR.box rfl rfl rfl rfl rfl rfl fun h3 x3 f3 => ?_;have := e0.1;have := f2.1;have := f1.1;have := f0.1;replace f2 := f2.ext x3;replace f1 := f1.ext x3;replace f0 := f0.ext x3;replace e0 := e0.trans x3;have := f3.1;refine GoR.alloc rfl rfl rfl zt3 rfl rfl fun h4 x4 f4 => ?_;have := e0.1;have := f3.1;have := f2.1;have := f1.1;have := f0.1;replace f3 := f3.ext x4;replace f2 := f2.ext x4;replace f1 := f1.ext x4;replace f0 := f0.ext x4;replace e0 := e0.trans x4;have := f4.1;refine gP ?_;apply gE;apply gS;refine gR rfl ?_;refine gO rfl rfl (ld28 rfl f0 rfl) rfl ?_;refine gP ?_;refine GoR.call rfl rfl (aCF aFunc32 rfl) (attempt_one O r b l _ (A.ext e0) 53 _ aFunc53 _ (by simp [sameA, sameAs, eqI_eq]) h3.next (by omega) [.int .i64 r1] 3 c fun h' e A' => hB A' (f1.ext e) (f2.ext e) (f3.ext e) (f4.ext e) (by omega) (by omega) (by omega)) ?_ np;rintro v9 h9 ⟨q, y9, f9⟩;cases q;refine ⟨_, rfl, ?_⟩
  have z9 := y9.low e0 (fun b q => by omega)
  clear e0 y9 f4
  have e0 := z9
  refine gP ?_;apply gE;apply gS;refine gR rfl ?_;refine gO rfl rfl (ld3 rfl f9 rfl) rfl ?_;refine gP ?_;refine GoR.store rfl rfl rfl rfl rfl rfl f9 rfl sz3 rfl rfl rfl fun h10 u10 => ?_;replace f9 := u10.has f9;replace e0 := e0.upd u10 (by omega);refine gP ?_;apply gE;exact gV (ret_end (aResult_of Try.func22 rfl (aResults_c rfl f9 (inCells_one ag3 rfl) rfl)) ⟨rfl, e0⟩)
 ·have hr : C.floatsR boat loads day = (0, 1) := CutV.ok_no O
  rw [hr]
  have hbd := fun h A => attempt_bad O hl1 hl2 hl3 r b l h A 53
  unfold CutV.cells at *
  try unfold spC at *
  have e0 : Ext h h := Ext.refl _
  refine Runs.intro aFunc22 rfl rfl rfl rfl fun rest => ?_;apply gS;refine gR rfl ?_;refine GoR.box rfl rfl rfl rfl rfl rfl fun h0 x0 f0 => ?_;have := e0.1;replace e0 := e0.trans x0;have := f0.1;refine GoR.box rfl rfl rfl rfl rfl rfl fun h1 x1 f1 => ?_;have := e0.1;have := f0.1;replace f0 := f0.ext x1;replace e0 := e0.trans x1;have := f1.1;refine GoR.box rfl rfl rfl rfl rfl rfl fun h2 x2 f2 => ?_;have := e0.1;have := f1.1;have := f0.1;replace f1 := f1.ext x2;replace f0 := f0.ext x2;replace e0 := e0.trans x2;have := f2.1;refine GoR.box rfl rfl rfl rfl rfl rfl fun h3 x3 f3 => ?_;have := e0.1;have := f2.1;have := f1.1;have := f0.1;replace f2 := f2.ext x3;replace f1 := f1.ext x3;replace f0 := f0.ext x3;replace e0 := e0.trans x3;have := f3.1;refine GoR.alloc rfl rfl rfl zt3 rfl rfl fun h4 x4 f4 => ?_;have := e0.1;have := f3.1;have := f2.1;have := f1.1;have := f0.1;replace f0 := f0.ext x4;replace e0 := e0.trans x4;have := f4.1;refine gP ?_;apply gE;apply gS;refine gR rfl ?_;refine gO rfl rfl (ld28 rfl f0 rfl) rfl ?_;refine gP ?_;refine GoR.call rfl rfl (aCF aFunc32 rfl) (hbd _ (A.ext e0) _) ?_ np;rintro v5 h5 ⟨q, x5⟩;cases q;refine ⟨_, rfl, ?_⟩;replace f4 := f4.ext x5;replace e0 := e0.trans x5;refine gP ?_;apply gE;apply gS;refine gR rfl ?_;refine gO rfl rfl (ld3 rfl f4 rfl) rfl ?_;refine gP ?_;refine GoR.store rfl rfl rfl rfl rfl rfl f4 rfl sz3 rfl rfl rfl fun h6 u6 => ?_;replace f4 := u6.has f4;replace e0 := e0.upd u6 (by omega);refine gP ?_;apply gE;exact gV (ret_end (aResult_of Try.func22 rfl (aResults_c rfl f4 (inCells_one ag3 rfl) rfl)) ⟨rfl, e0⟩)
theorem Loads_ok {C : CutV} {r b l : AVal} {h : AH} (A : CutAt h C r b l) (hl1 : C.rs.length ≤ 40) (hl2 : C.bs.length ≤ 40) (hl3 : C.ls.length ≤ 40) (boat day : Int) :
  Runs Try.prog 26 [.agg (C.cells r b l), .int .i64 boat, .int .i64 day] h (fun en h' => en = .ret (.tuple [.int .i64 (C.loadsR boat day).1.1, .int .i64 (C.loadsR boat day).1.2, .int .i64 (C.loadsR boat day).2]) ∧ Ext h h') := by
 by_cases O : C.Ok
 ·have hB := fun {h' : AH} {b0 b1 br bs : Nat} (A' : CutAt h' C r b l) => loadsB_ok O (r := r) (b := b) (l := l) (boat := boat) (day := day) (h := h')  (b0 := b0) (b1 := b1) (br := br) (bs := bs) A'
  unfold CutV.loadsR
  rw [CutV.ok_yes O]
  obtain ⟨RES, hR⟩ : ∃ RES, C.boatQ boat (fun x => C.dayQ day (C.tr (mostV x (surelyV (C.at day.toNat)), mostV x (perhapsV (C.at day.toNat))) zSp) zSp) zSp = RES := ⟨_, rfl⟩
  rw [hR] at hB ⊢
  obtain ⟨⟨r1, r2⟩, c⟩ := RES
  dsimp only at hB ⊢
  have hsm := A.same
  unfold CutV.cells at *
  try unfold spC at *
  have e0 : Ext h h := Ext.refl _
  refine Runs.intro aFunc26 rfl rfl rfl rfl fun rest => ?_;apply gS;refine gR rfl ?_;refine GoR.box rfl rfl rfl rfl rfl rfl fun h0 x0 f0 => ?_;have := e0.1;replace e0 := e0.trans x0;have := f0.1;refine GoR.box rfl rfl rfl rfl rfl rfl fun h1 x1 f1 => ?_;have := e0.1;have := f0.1;replace f0 := f0.ext x1;replace e0 := e0.trans x1;have := f1.1;refine GoR.box rfl rfl rfl rfl rfl rfl fun h2 x2 f2 => ?_;have := e0.1;have := f1.1;have := f0.1;replace f1 := f1.ext x2;replace f0 := f0.ext x2;replace e0 := e0.trans x2;have := f2.1;refine GoR.alloc rfl rfl rfl zt3 rfl rfl fun h3 x3 f3 => ?_;have := e0.1;have := f2.1;have := f1.1;have := f0.1;replace f2 := f2.ext x3;replace f1 := f1.ext x3;replace f0 := f0.ext x3;replace e0 := e0.trans x3;have := f3.1;refine GoR.alloc rfl rfl rfl zt3 rfl rfl fun h4 x4 f4 => ?_;have := e0.1;have := f3.1;have := f2.1;have := f1.1;have := f0.1;replace f3 := f3.ext x4;replace f2 := f2.ext x4;replace f1 := f1.ext x4;replace f0 := f0.ext x4;replace e0 := e0.trans x4;have := f4.1;refine gP ?_;apply gE;apply gS;refine gR rfl ?_;refine gO rfl rfl (ld28 rfl f0 rfl) rfl ?_;refine gP ?_;refine GoR.call rfl rfl (aCF aFunc32 rfl) (attempt_two O r b l _ (A.ext e0) 57 _ aFunc57 _ (by simp [sameA, sameAs, eqI_eq]) h2.next h3.next (by omega) (by omega) [.int .i64 r1] [.int .i64 r2] 3 3 c fun h' e A' => hB A' (f1.ext e) (f2.ext e) (f3.ext e) (f4.ext e) (by omega) (by omega) (by omega) (by omega) (by omega)) ?_ np;rintro v9 h9 ⟨q, y9, f9, g9⟩;cases q;refine ⟨_, rfl, ?_⟩
  have z9 := y9.low e0 (fun b q => by omega)
  clear e0 y9 f3 f4
  have e0 := z9
  refine gP ?_;apply gE;apply gS;refine Go.drawnE plan26_0 ?_;refine gQ rfl rfl (ld3 rfl f9 rfl) rfl ?_;refine gQ rfl rfl (ld3 rfl g9 rfl) rfl ?_;refine gQ rfl rfl rfl rfl ?_;refine GoE.store rfl rfl rfl rfl (dK 1 2 (dK 1 1 (dD 1 0 rfl))) rfl rfl f9 rfl sz3 rfl rfl rfl fun h10 u10 => ?_;replace f9 := u10.has f9;replace g9 := g9.upd u10 (by omega);replace e0 := e0.upd u10 (by omega);refine ⟨(rck (h2 := h10) rfl (rfl) (rck (h2 := h10) rfl (ld3 rfl g9 rfl) recheck_nil)), ?_⟩;refine GoE.store rfl rfl rfl rfl (dK 11 2 (dD 11 1 rfl)) rfl rfl g9 rfl sz3 rfl rfl rfl fun h11 u11 => ?_;replace f9 := f9.upd u11 (by omega);replace g9 := u11.has g9;replace e0 := e0.upd u11 (by omega);refine ⟨(rck (h2 := h11) rfl (rfl) recheck_nil), ?_⟩;refine gQ rfl rfl rfl rfl ?_;refine GoE.end rfl ?_;exact gV (ret_end (aResult_of Try.func26 rfl (aResults_c rfl f9 (inCells_one ag3 rfl) (aResults_c rfl g9 (inCells_one ag3 rfl) rfl))) ⟨rfl, e0⟩)
 ·have hr : C.loadsR boat day = (zSp, 1) := CutV.ok_no O
  rw [hr]
  have hbd := fun h A => attempt_bad O hl1 hl2 hl3 r b l h A 57
  unfold CutV.cells at *
  try unfold spC at *
  have e0 : Ext h h := Ext.refl _
  refine Runs.intro aFunc26 rfl rfl rfl rfl fun rest => ?_;apply gS;refine gR rfl ?_;refine GoR.box rfl rfl rfl rfl rfl rfl fun h0 x0 f0 => ?_;have := e0.1;replace e0 := e0.trans x0;have := f0.1;refine GoR.box rfl rfl rfl rfl rfl rfl fun h1 x1 f1 => ?_;have := e0.1;have := f0.1;replace f0 := f0.ext x1;replace e0 := e0.trans x1;have := f1.1;refine GoR.box rfl rfl rfl rfl rfl rfl fun h2 x2 f2 => ?_;have := e0.1;have := f1.1;have := f0.1;replace f1 := f1.ext x2;replace f0 := f0.ext x2;replace e0 := e0.trans x2;have := f2.1;refine GoR.alloc rfl rfl rfl zt3 rfl rfl fun h3 x3 f3 => ?_;have := e0.1;have := f2.1;have := f1.1;have := f0.1;replace f2 := f2.ext x3;replace f1 := f1.ext x3;replace f0 := f0.ext x3;replace e0 := e0.trans x3;have := f3.1;refine GoR.alloc rfl rfl rfl zt3 rfl rfl fun h4 x4 f4 => ?_;have := e0.1;have := f3.1;have := f2.1;have := f1.1;have := f0.1;replace f3 := f3.ext x4;replace f0 := f0.ext x4;replace e0 := e0.trans x4;have := f4.1;refine gP ?_;apply gE;apply gS;refine gR rfl ?_;refine gO rfl rfl (ld28 rfl f0 rfl) rfl ?_;refine gP ?_;refine GoR.call rfl rfl (aCF aFunc32 rfl) (hbd _ (A.ext e0) _) ?_ np;rintro v5 h5 ⟨q, x5⟩;cases q;refine ⟨_, rfl, ?_⟩;replace f4 := f4.ext x5;replace f3 := f3.ext x5;replace e0 := e0.trans x5;refine gP ?_;apply gE;apply gS;refine Go.drawnE plan26_0 ?_;refine gQ rfl rfl (ld3 rfl f3 rfl) rfl ?_;refine gQ rfl rfl (ld3 rfl f4 rfl) rfl ?_;refine gQ rfl rfl rfl rfl ?_;refine GoE.store rfl rfl rfl rfl (dK 1 2 (dK 1 1 (dD 1 0 rfl))) rfl rfl f3 rfl sz3 rfl rfl rfl fun h6 u6 => ?_;replace f4 := f4.upd u6 (by omega);replace f3 := u6.has f3;replace e0 := e0.upd u6 (by omega);refine ⟨(rck (h2 := h6) rfl (rfl) (rck (h2 := h6) rfl (ld3 rfl f4 rfl) recheck_nil)), ?_⟩;refine GoE.store rfl rfl rfl rfl (dK 11 2 (dD 11 1 rfl)) rfl rfl f4 rfl sz3 rfl rfl rfl fun h7 u7 => ?_;replace f4 := u7.has f4;replace f3 := f3.upd u7 (by omega);replace e0 := e0.upd u7 (by omega);refine ⟨(rck (h2 := h7) rfl (rfl) recheck_nil), ?_⟩;refine gQ rfl rfl rfl rfl ?_;refine GoE.end rfl ?_;exact gV (ret_end (aResult_of Try.func26 rfl (aResults_c rfl f3 (inCells_one ag3 rfl) (aResults_c rfl f4 (inCells_one ag3 rfl) rfl))) ⟨rfl, e0⟩)
theorem Days_ok {C : CutV} {r b l : AVal} {h : AH} (A : CutAt h C r b l) (hl1 : C.rs.length ≤ 40) (hl2 : C.bs.length ≤ 40) (hl3 : C.ls.length ≤ 40) (boat loads : Int) :
  Runs Try.prog 18 [.agg (C.cells r b l), .int .i64 boat, .int .i64 loads] h (fun en h' => en = .ret (.tuple [.int .i64 (C.daysR boat loads).1.1, .int .i64 (C.daysR boat loads).1.2, .int .i64 (C.daysR boat loads).2]) ∧ Ext h h') := by
 by_cases O : C.Ok
 ·have hB := fun {h' : AH} {b0 b1 br bs : Nat} (A' : CutAt h' C r b l) => daysB_ok O (r := r) (b := b) (l := l) (boat := boat) (loads := loads) (h := h')  (b0 := b0) (b1 := b1) (br := br) (bs := bs) A'
  unfold CutV.daysR
  rw [CutV.ok_yes O]
  obtain ⟨RES, hR⟩ : ∃ RES, C.boatQ boat (fun x => loadQ x loads (C.tr (((C.bits surelyV (x.needs loads) : Nat) : Int), ((C.bits perhapsV (x.needs loads) : Nat) : Int)) zSp) zSp) zSp = RES := ⟨_, rfl⟩
  rw [hR] at hB ⊢
  obtain ⟨⟨r1, r2⟩, c⟩ := RES
  dsimp only at hB ⊢
  have hsm := A.same
  unfold CutV.cells at *
  try unfold spC at *
  have e0 : Ext h h := Ext.refl _
  refine Runs.intro aFunc18 rfl rfl rfl rfl fun rest => ?_;apply gS;refine gR rfl ?_;refine GoR.box rfl rfl rfl rfl rfl rfl fun h0 x0 f0 => ?_;have := e0.1;replace e0 := e0.trans x0;have := f0.1;refine GoR.box rfl rfl rfl rfl rfl rfl fun h1 x1 f1 => ?_;have := e0.1;have := f0.1;replace f0 := f0.ext x1;replace e0 := e0.trans x1;have := f1.1;refine GoR.box rfl rfl rfl rfl rfl rfl fun h2 x2 f2 => ?_;have := e0.1;have := f1.1;have := f0.1;replace f1 := f1.ext x2;replace f0 := f0.ext x2;replace e0 := e0.trans x2;have := f2.1;refine GoR.alloc rfl rfl rfl zt3 rfl rfl fun h3 x3 f3 => ?_;have := e0.1;have := f2.1;have := f1.1;have := f0.1;replace f2 := f2.ext x3;replace f1 := f1.ext x3;replace f0 := f0.ext x3;replace e0 := e0.trans x3;have := f3.1;refine GoR.alloc rfl rfl rfl zt3 rfl rfl fun h4 x4 f4 => ?_;have := e0.1;have := f3.1;have := f2.1;have := f1.1;have := f0.1;replace f3 := f3.ext x4;replace f2 := f2.ext x4;replace f1 := f1.ext x4;replace f0 := f0.ext x4;replace e0 := e0.trans x4;have := f4.1;refine gP ?_;apply gE;apply gS;refine gR rfl ?_;refine gO rfl rfl (ld28 rfl f0 rfl) rfl ?_;refine gP ?_;refine GoR.call rfl rfl (aCF aFunc32 rfl) (attempt_two O r b l _ (A.ext e0) 41 _ aFunc41 _ (by simp [sameA, sameAs, eqI_eq]) h2.next h3.next (by omega) (by omega) [.int .i64 r1] [.int .i64 r2] 3 3 c fun h' e A' => hB A' (f1.ext e) (f2.ext e) (f3.ext e) (f4.ext e) (by omega) (by omega) (by omega) (by omega) (by omega)) ?_ np;rintro v9 h9 ⟨q, y9, f9, g9⟩;cases q;refine ⟨_, rfl, ?_⟩
  have z9 := y9.low e0 (fun b q => by omega)
  clear e0 y9 f3 f4
  have e0 := z9
  refine gP ?_;apply gE;apply gS;refine Go.drawnE plan18_0 ?_;refine gQ rfl rfl (ld3 rfl f9 rfl) rfl ?_;refine gQ rfl rfl (ld3 rfl g9 rfl) rfl ?_;refine gQ rfl rfl rfl rfl ?_;refine GoE.store rfl rfl rfl rfl (dK 1 2 (dK 1 1 (dD 1 0 rfl))) rfl rfl f9 rfl sz3 rfl rfl rfl fun h10 u10 => ?_;replace f9 := u10.has f9;replace g9 := g9.upd u10 (by omega);replace e0 := e0.upd u10 (by omega);refine ⟨(rck (h2 := h10) rfl (rfl) (rck (h2 := h10) rfl (ld3 rfl g9 rfl) recheck_nil)), ?_⟩;refine GoE.store rfl rfl rfl rfl (dK 11 2 (dD 11 1 rfl)) rfl rfl g9 rfl sz3 rfl rfl rfl fun h11 u11 => ?_;replace f9 := f9.upd u11 (by omega);replace g9 := u11.has g9;replace e0 := e0.upd u11 (by omega);refine ⟨(rck (h2 := h11) rfl (rfl) recheck_nil), ?_⟩;refine gQ rfl rfl rfl rfl ?_;refine GoE.end rfl ?_;exact gV (ret_end (aResult_of Try.func18 rfl (aResults_c rfl f9 (inCells_one ag3 rfl) (aResults_c rfl g9 (inCells_one ag3 rfl) rfl))) ⟨rfl, e0⟩)
 ·have hr : C.daysR boat loads = (zSp, 1) := CutV.ok_no O
  rw [hr]
  have hbd := fun h A => attempt_bad O hl1 hl2 hl3 r b l h A 41
  unfold CutV.cells at *
  try unfold spC at *
  have e0 : Ext h h := Ext.refl _
  refine Runs.intro aFunc18 rfl rfl rfl rfl fun rest => ?_;apply gS;refine gR rfl ?_;refine GoR.box rfl rfl rfl rfl rfl rfl fun h0 x0 f0 => ?_;have := e0.1;replace e0 := e0.trans x0;have := f0.1;refine GoR.box rfl rfl rfl rfl rfl rfl fun h1 x1 f1 => ?_;have := e0.1;have := f0.1;replace f0 := f0.ext x1;replace e0 := e0.trans x1;have := f1.1;refine GoR.box rfl rfl rfl rfl rfl rfl fun h2 x2 f2 => ?_;have := e0.1;have := f1.1;have := f0.1;replace f1 := f1.ext x2;replace f0 := f0.ext x2;replace e0 := e0.trans x2;have := f2.1;refine GoR.alloc rfl rfl rfl zt3 rfl rfl fun h3 x3 f3 => ?_;have := e0.1;have := f2.1;have := f1.1;have := f0.1;replace f2 := f2.ext x3;replace f1 := f1.ext x3;replace f0 := f0.ext x3;replace e0 := e0.trans x3;have := f3.1;refine GoR.alloc rfl rfl rfl zt3 rfl rfl fun h4 x4 f4 => ?_;have := e0.1;have := f3.1;have := f2.1;have := f1.1;have := f0.1;replace f3 := f3.ext x4;replace f0 := f0.ext x4;replace e0 := e0.trans x4;have := f4.1;refine gP ?_;apply gE;apply gS;refine gR rfl ?_;refine gO rfl rfl (ld28 rfl f0 rfl) rfl ?_;refine gP ?_;refine GoR.call rfl rfl (aCF aFunc32 rfl) (hbd _ (A.ext e0) _) ?_ np;rintro v5 h5 ⟨q, x5⟩;cases q;refine ⟨_, rfl, ?_⟩;replace f4 := f4.ext x5;replace f3 := f3.ext x5;replace e0 := e0.trans x5;refine gP ?_;apply gE;apply gS;refine Go.drawnE plan18_0 ?_;refine gQ rfl rfl (ld3 rfl f3 rfl) rfl ?_;refine gQ rfl rfl (ld3 rfl f4 rfl) rfl ?_;refine gQ rfl rfl rfl rfl ?_;refine GoE.store rfl rfl rfl rfl (dK 1 2 (dK 1 1 (dD 1 0 rfl))) rfl rfl f3 rfl sz3 rfl rfl rfl fun h6 u6 => ?_;replace f4 := f4.upd u6 (by omega);replace f3 := u6.has f3;replace e0 := e0.upd u6 (by omega);refine ⟨(rck (h2 := h6) rfl (rfl) (rck (h2 := h6) rfl (ld3 rfl f4 rfl) recheck_nil)), ?_⟩;refine GoE.store rfl rfl rfl rfl (dK 11 2 (dD 11 1 rfl)) rfl rfl f4 rfl sz3 rfl rfl rfl fun h7 u7 => ?_;replace f4 := u7.has f4;replace f3 := f3.upd u7 (by omega);replace e0 := e0.upd u7 (by omega);refine ⟨(rck (h2 := h7) rfl (rfl) recheck_nil), ?_⟩;refine gQ rfl rfl rfl rfl ?_;refine GoE.end rfl ?_;exact gV (ret_end (aResult_of Try.func18 rfl (aResults_c rfl f3 (inCells_one ag3 rfl) (aResults_c rfl f4 (inCells_one ag3 rfl) rfl))) ⟨rfl, e0⟩)
theorem Until_ok {C : CutV} {r b l : AVal} {h : AH} (A : CutAt h C r b l) (hl1 : C.rs.length ≤ 40) (hl2 : C.bs.length ≤ 40) (hl3 : C.ls.length ≤ 40) (boat loads day : Int) :
  Runs Try.prog 19 [.agg (C.cells r b l), .int .i64 boat, .int .i64 loads, .int .i64 day] h (fun en h' => en = .ret (.tuple [.int .i64 (C.untilR boat loads day).1, .int .i64 (C.untilR boat loads day).2]) ∧ Ext h h') := by
 by_cases O : C.Ok
 ·have hB := fun {h' : AH} {b0 b1 b2 br : Nat} (A' : CutAt h' C r b l) => untilB_ok O (r := r) (b := b) (l := l) (boat := boat) (loads := loads) (day := day) (h := h')  (b0 := b0) (b1 := b1) (b2 := b2) (br := br) A'
  unfold CutV.untilR
  rw [CutV.ok_yes O]
  obtain ⟨RES, hR⟩ : ∃ RES, C.boatQ boat (fun x => loadQ x loads (C.dayQ day (C.untilQ (x.needs loads) day) 0) 0) 0 = RES := ⟨_, rfl⟩
  rw [hR] at hB ⊢
  obtain ⟨r1, c⟩ := RES
  dsimp only at hB ⊢
  have hsm := A.same
  unfold CutV.cells at *
  try unfold spC at *
  have e0 : Ext h h := Ext.refl _
  refine Runs.intro aFunc19 rfl rfl rfl rfl fun rest => ?_;apply gS;refine gR rfl ?_;refine GoR.box rfl rfl rfl rfl rfl rfl fun h0 x0 f0 => ?_;have := e0.1;replace e0 := e0.trans x0;have := f0.1;refine GoR.box rfl rfl rfl rfl rfl rfl fun h1 x1 f1 => ?_;have := e0.1;have := f0.1;replace f0 := f0.ext x1;replace e0 := e0.trans x1;have := f1.1;refine GoR.box rfl rfl rfl rfl rfl rfl fun h2 x2 f2 => ?_;have := e0.1;have := f1.1;have := f0.1;replace f1 := f1.ext x2;replace f0 := f0.ext x2;replace e0 := e0.trans x2;have := f2.1;refine GoR.box rfl rfl rfl rfl rfl rfl fun h3 x3 f3 => ?_;have := e0.1;have := f2.1;have := f1.1;have := f0.1;replace f2 := f2.ext x3;replace f1 := f1.ext x3;replace f0 := f0.ext x3;replace e0 := e0.trans x3;have := f3.1;refine GoR.alloc rfl rfl rfl zt3 rfl rfl fun h4 x4 f4 => ?_;have := e0.1;have := f3.1;have := f2.1;have := f1.1;have := f0.1;replace f3 := f3.ext x4;replace f2 := f2.ext x4;replace f1 := f1.ext x4;replace f0 := f0.ext x4;replace e0 := e0.trans x4;have := f4.1;refine gP ?_;apply gE;apply gS;refine gR rfl ?_;refine gO rfl rfl (ld28 rfl f0 rfl) rfl ?_;refine gP ?_;refine GoR.call rfl rfl (aCF aFunc32 rfl) (attempt_one O r b l _ (A.ext e0) 48 _ aFunc48 _ (by simp [sameA, sameAs, eqI_eq]) h3.next (by omega) [.int .i64 r1] 3 c fun h' e A' => hB A' (f1.ext e) (f2.ext e) (f3.ext e) (f4.ext e) (by omega) (by omega) (by omega)) ?_ np;rintro v9 h9 ⟨q, y9, f9⟩;cases q;refine ⟨_, rfl, ?_⟩
  have z9 := y9.low e0 (fun b q => by omega)
  clear e0 y9 f4
  have e0 := z9
  refine gP ?_;apply gE;apply gS;refine gR rfl ?_;refine gO rfl rfl (ld3 rfl f9 rfl) rfl ?_;refine gP ?_;refine GoR.store rfl rfl rfl rfl rfl rfl f9 rfl sz3 rfl rfl rfl fun h10 u10 => ?_;replace f9 := u10.has f9;replace e0 := e0.upd u10 (by omega);refine gP ?_;apply gE;exact gV (ret_end (aResult_of Try.func19 rfl (aResults_c rfl f9 (inCells_one ag3 rfl) rfl)) ⟨rfl, e0⟩)
 ·have hr : C.untilR boat loads day = (0, 1) := CutV.ok_no O
  rw [hr]
  have hbd := fun h A => attempt_bad O hl1 hl2 hl3 r b l h A 48
  unfold CutV.cells at *
  try unfold spC at *
  have e0 : Ext h h := Ext.refl _
  refine Runs.intro aFunc19 rfl rfl rfl rfl fun rest => ?_;apply gS;refine gR rfl ?_;refine GoR.box rfl rfl rfl rfl rfl rfl fun h0 x0 f0 => ?_;have := e0.1;replace e0 := e0.trans x0;have := f0.1;refine GoR.box rfl rfl rfl rfl rfl rfl fun h1 x1 f1 => ?_;have := e0.1;have := f0.1;replace f0 := f0.ext x1;replace e0 := e0.trans x1;have := f1.1;refine GoR.box rfl rfl rfl rfl rfl rfl fun h2 x2 f2 => ?_;have := e0.1;have := f1.1;have := f0.1;replace f1 := f1.ext x2;replace f0 := f0.ext x2;replace e0 := e0.trans x2;have := f2.1;refine GoR.box rfl rfl rfl rfl rfl rfl fun h3 x3 f3 => ?_;have := e0.1;have := f2.1;have := f1.1;have := f0.1;replace f2 := f2.ext x3;replace f1 := f1.ext x3;replace f0 := f0.ext x3;replace e0 := e0.trans x3;have := f3.1;refine GoR.alloc rfl rfl rfl zt3 rfl rfl fun h4 x4 f4 => ?_;have := e0.1;have := f3.1;have := f2.1;have := f1.1;have := f0.1;replace f0 := f0.ext x4;replace e0 := e0.trans x4;have := f4.1;refine gP ?_;apply gE;apply gS;refine gR rfl ?_;refine gO rfl rfl (ld28 rfl f0 rfl) rfl ?_;refine gP ?_;refine GoR.call rfl rfl (aCF aFunc32 rfl) (hbd _ (A.ext e0) _) ?_ np;rintro v5 h5 ⟨q, x5⟩;cases q;refine ⟨_, rfl, ?_⟩;replace f4 := f4.ext x5;replace e0 := e0.trans x5;refine gP ?_;apply gE;apply gS;refine gR rfl ?_;refine gO rfl rfl (ld3 rfl f4 rfl) rfl ?_;refine gP ?_;refine GoR.store rfl rfl rfl rfl rfl rfl f4 rfl sz3 rfl rfl rfl fun h6 u6 => ?_;replace f4 := u6.has f4;replace e0 := e0.upd u6 (by omega);refine gP ?_;apply gE;exact gV (ret_end (aResult_of Try.func19 rfl (aResults_c rfl f4 (inCells_one ag3 rfl) rfl)) ⟨rfl, e0⟩)
theorem Together_ok {C : CutV} {r b l : AVal} {h : AH} (A : CutAt h C r b l) (hl1 : C.rs.length ≤ 40) (hl2 : C.bs.length ≤ 40) (hl3 : C.ls.length ≤ 40) (day : Int) :
  Runs Try.prog 23 [.agg (C.cells r b l), .int .i64 day] h (fun en h' => en = .ret (.tuple [.int .i64 (C.togetherR day).1, .int .i64 (C.togetherR day).2]) ∧ Ext h h') := by
 by_cases O : C.Ok
 ·have hB := fun {h' : AH} {b0 br : Nat} (A' : CutAt h' C r b l) => togetherB_ok O (r := r) (b := b) (l := l) (day := day) (h := h')  (b0 := b0) (br := br) A'
  unfold CutV.togetherR
  rw [CutV.ok_yes O]
  obtain ⟨RES, hR⟩ : ∃ RES, C.dayQ day (C.tr (C.togetherV day.toNat) 0) 0 = RES := ⟨_, rfl⟩
  rw [hR] at hB ⊢
  obtain ⟨r1, c⟩ := RES
  dsimp only at hB ⊢
  have hsm := A.same
  unfold CutV.cells at *
  try unfold spC at *
  have e0 : Ext h h := Ext.refl _
  refine Runs.intro aFunc23 rfl rfl rfl rfl fun rest => ?_;apply gS;refine gR rfl ?_;refine GoR.box rfl rfl rfl rfl rfl rfl fun h0 x0 f0 => ?_;have := e0.1;replace e0 := e0.trans x0;have := f0.1;refine GoR.box rfl rfl rfl rfl rfl rfl fun h1 x1 f1 => ?_;have := e0.1;have := f0.1;replace f0 := f0.ext x1;replace e0 := e0.trans x1;have := f1.1;refine GoR.alloc rfl rfl rfl zt3 rfl rfl fun h2 x2 f2 => ?_;have := e0.1;have := f1.1;have := f0.1;replace f1 := f1.ext x2;replace f0 := f0.ext x2;replace e0 := e0.trans x2;have := f2.1;refine gP ?_;apply gE;apply gS;refine gR rfl ?_;refine gO rfl rfl (ld28 rfl f0 rfl) rfl ?_;refine gP ?_;refine GoR.call rfl rfl (aCF aFunc32 rfl) (attempt_one O r b l _ (A.ext e0) 55 _ aFunc55 _ (by simp [sameA, sameAs, eqI_eq]) h1.next (by omega) [.int .i64 r1] 3 c fun h' e A' => hB A' (f1.ext e) (f2.ext e) (by omega)) ?_ np;rintro v9 h9 ⟨q, y9, f9⟩;cases q;refine ⟨_, rfl, ?_⟩
  have z9 := y9.low e0 (fun b q => by omega)
  clear e0 y9 f2
  have e0 := z9
  refine gP ?_;apply gE;apply gS;refine gR rfl ?_;refine gO rfl rfl (ld3 rfl f9 rfl) rfl ?_;refine gP ?_;refine GoR.store rfl rfl rfl rfl rfl rfl f9 rfl sz3 rfl rfl rfl fun h10 u10 => ?_;replace f9 := u10.has f9;replace e0 := e0.upd u10 (by omega);refine gP ?_;apply gE;exact gV (ret_end (aResult_of Try.func23 rfl (aResults_c rfl f9 (inCells_one ag3 rfl) rfl)) ⟨rfl, e0⟩)
 ·have hr : C.togetherR day = (0, 1) := CutV.ok_no O
  rw [hr]
  have hbd := fun h A => attempt_bad O hl1 hl2 hl3 r b l h A 55
  unfold CutV.cells at *
  try unfold spC at *
  have e0 : Ext h h := Ext.refl _
  refine Runs.intro aFunc23 rfl rfl rfl rfl fun rest => ?_;apply gS;refine gR rfl ?_;refine GoR.box rfl rfl rfl rfl rfl rfl fun h0 x0 f0 => ?_;have := e0.1;replace e0 := e0.trans x0;have := f0.1;refine GoR.box rfl rfl rfl rfl rfl rfl fun h1 x1 f1 => ?_;have := e0.1;have := f0.1;replace f0 := f0.ext x1;replace e0 := e0.trans x1;have := f1.1;refine GoR.alloc rfl rfl rfl zt3 rfl rfl fun h2 x2 f2 => ?_;have := e0.1;have := f1.1;have := f0.1;replace f0 := f0.ext x2;replace e0 := e0.trans x2;have := f2.1;refine gP ?_;apply gE;apply gS;refine gR rfl ?_;refine gO rfl rfl (ld28 rfl f0 rfl) rfl ?_;refine gP ?_;refine GoR.call rfl rfl (aCF aFunc32 rfl) (hbd _ (A.ext e0) _) ?_ np;rintro v3 h3 ⟨q, x3⟩;cases q;refine ⟨_, rfl, ?_⟩;replace f2 := f2.ext x3;replace e0 := e0.trans x3;refine gP ?_;apply gE;apply gS;refine gR rfl ?_;refine gO rfl rfl (ld3 rfl f2 rfl) rfl ?_;refine gP ?_;refine GoR.store rfl rfl rfl rfl rfl rfl f2 rfl sz3 rfl rfl rfl fun h4 u4 => ?_;replace f2 := u4.has f2;replace e0 := e0.upd u4 (by omega);refine gP ?_;apply gE;exact gV (ret_end (aResult_of Try.func23 rfl (aResults_c rfl f2 (inCells_one ag3 rfl) rfl)) ⟨rfl, e0⟩)
theorem Clash_ok {C : CutV} {r b l : AVal} {h : AH} (A : CutAt h C r b l) (hl1 : C.rs.length ≤ 40) (hl2 : C.bs.length ≤ 40) (hl3 : C.ls.length ≤ 40) :
  Runs Try.prog 14 [.agg (C.cells r b l)] h (fun en h' => en = .ret (.tuple [.int .i64 (C.clashR).1, .int .i64 (C.clashR).2]) ∧ Ext h h') := by
 by_cases O : C.Ok
 ·have hB := fun {h' : AH} {br : Nat} (A' : CutAt h' C r b l) => clashB_ok O (r := r) (b := b) (l := l) (h := h')  (br := br) A'
  unfold CutV.clashR
  rw [CutV.ok_yes O]
  obtain ⟨RES, hR⟩ : ∃ RES, C.clashQ = RES := ⟨_, rfl⟩
  rw [hR] at hB ⊢
  obtain ⟨r1, c⟩ := RES
  dsimp only at hB ⊢
  have hsm := A.same
  unfold CutV.cells at *
  try unfold spC at *
  have e0 : Ext h h := Ext.refl _
  refine Runs.intro aFunc14 rfl rfl rfl rfl fun rest => ?_;apply gS;refine gR rfl ?_;refine GoR.box rfl rfl rfl rfl rfl rfl fun h0 x0 f0 => ?_;have := e0.1;replace e0 := e0.trans x0;have := f0.1;refine GoR.alloc rfl rfl rfl zt3 rfl rfl fun h1 x1 f1 => ?_;have := e0.1;have := f0.1;replace f0 := f0.ext x1;replace e0 := e0.trans x1;have := f1.1;refine gP ?_;apply gE;apply gS;refine gR rfl ?_;refine gO rfl rfl (ld28 rfl f0 rfl) rfl ?_;refine gP ?_;refine GoR.call rfl rfl (aCF aFunc32 rfl) (attempt_one O r b l _ (A.ext e0) 33 _ aFunc33 _ (by simp [sameA, sameAs, eqI_eq]) h0.next (by omega) [.int .i64 r1] 3 c fun h' e A' => hB A' (f1.ext e)) ?_ np;rintro v9 h9 ⟨q, y9, f9⟩;cases q;refine ⟨_, rfl, ?_⟩
  have z9 := y9.low e0 (fun b q => by omega)
  clear e0 y9 f1
  have e0 := z9
  refine gP ?_;apply gE;apply gS;refine gR rfl ?_;refine gO rfl rfl (ld3 rfl f9 rfl) rfl ?_;refine gP ?_;refine GoR.store rfl rfl rfl rfl rfl rfl f9 rfl sz3 rfl rfl rfl fun h10 u10 => ?_;replace f9 := u10.has f9;replace e0 := e0.upd u10 (by omega);refine gP ?_;apply gE;exact gV (ret_end (aResult_of Try.func14 rfl (aResults_c rfl f9 (inCells_one ag3 rfl) rfl)) ⟨rfl, e0⟩)
 ·have hr : C.clashR = (0, 1) := CutV.ok_no O
  rw [hr]
  have hbd := fun h A => attempt_bad O hl1 hl2 hl3 r b l h A 33
  unfold CutV.cells at *
  try unfold spC at *
  have e0 : Ext h h := Ext.refl _
  refine Runs.intro aFunc14 rfl rfl rfl rfl fun rest => ?_;apply gS;refine gR rfl ?_;refine GoR.box rfl rfl rfl rfl rfl rfl fun h0 x0 f0 => ?_;have := e0.1;replace e0 := e0.trans x0;have := f0.1;refine GoR.alloc rfl rfl rfl zt3 rfl rfl fun h1 x1 f1 => ?_;have := e0.1;have := f0.1;replace f0 := f0.ext x1;replace e0 := e0.trans x1;have := f1.1;refine gP ?_;apply gE;apply gS;refine gR rfl ?_;refine gO rfl rfl (ld28 rfl f0 rfl) rfl ?_;refine gP ?_;refine GoR.call rfl rfl (aCF aFunc32 rfl) (hbd _ (A.ext e0) _) ?_ np;rintro v2 h2 ⟨q, x2⟩;cases q;refine ⟨_, rfl, ?_⟩;replace f1 := f1.ext x2;replace e0 := e0.trans x2;refine gP ?_;apply gE;apply gS;refine gR rfl ?_;refine gO rfl rfl (ld3 rfl f1 rfl) rfl ?_;refine gP ?_;refine GoR.store rfl rfl rfl rfl rfl rfl f1 rfl sz3 rfl rfl rfl fun h3 u3 => ?_;replace f1 := u3.has f1;replace e0 := e0.upd u3 (by omega);refine gP ?_;apply gE;exact gV (ret_end (aResult_of Try.func14 rfl (aResults_c rfl f1 (inCells_one ag3 rfl) rfl)) ⟨rfl, e0⟩)
end Go.Proofs.Yteibheeleeengaa
