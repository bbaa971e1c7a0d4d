import Derived.Test.YtobhkdgcciolmaaGreatMAQ
import Derived.Test.YtobhkdgcciolmaaGreatMAI
namespace Go.Proofs.YtobhkdgcciolmaaGreat
open Go Go.AbsE
set_option linter.unusedSimpArgs false
set_option maxRecDepth 100000
set_option maxHeartbeats 0
set_option linter.unusedVariables false
theorem law7_bad {C : ClampV} {sp se : AVal} {h : AH} (A : ClampAt h C sp se) (hb : C.ps.length < 9223372036854775808 ∧ C.es.length < 9223372036854775808) (O : ¬ C.Ok) : Runs Tryz.prog 7 [.agg (C.cells sp se)] h (fun en h' => en = .ret (.bool true) ∧ Ext h h') := by
 have hL := fun {h'} (e : Ext h h') => long29_ok (A.ext e) hb.1 hb.2
 by_cases hs : C.ps.length ≤ 40 ∧ C.es.length ≤ 40
 ·rw [decide_eq_false (by omega)] at hL
  have hR := fun {h'} (e : Ext h h') => Clamp30_ok (A.ext e) ⟨hs.1, hs.2⟩
  rw [decide_eq_false O] at hR
  unfold ClampV.cells at *
  have e0 : Ext h h := Ext.refl _
  refine Runs.intro aFunc7 rfl rfl rfl rfl fun rest => ?_;apply gS;refine gR rfl ?_;refine GoR.box rfl rfl rfl rfl rfl rfl fun h0 x0 f0 => ?_;replace e0 := e0.trans x0;refine gP ?_;apply gE;iterate 2 apply gS
  refine gR rfl ?_;refine gO rfl rfl (ld27 rfl f0 rfl) rfl ?_;refine GoR.call rfl rfl (aCF aFunc29 rfl) (hL e0) ?_ np;rintro v1 h1 ⟨q, x1⟩;cases q;refine ⟨_, rfl, ?_⟩;replace f0 := f0.ext x1;replace e0 := e0.trans x1;refine gP ?_;refine gO rfl rfl (ld27 rfl f0 rfl) rfl ?_;refine GoR.call rfl rfl (aCF aFunc30 rfl) (hR e0) ?_ np;rintro v2 h2 ⟨q, x2⟩;cases q;refine ⟨_, rfl, ?_⟩;replace e0 := e0.trans x2;iterate 2 refine gP ?_
  apply gE;refine gC (b := true) rfl ?_;apply gS;refine gR rfl ?_;refine GoR.call rfl rfl (aCF aFunc12 rfl) (alive_ok) ?_ np;rintro v3 h3 ⟨q, x3⟩;cases q;refine ⟨_, rfl, ?_⟩;replace e0 := e0.trans x3;refine gP ?_;apply gE;exact gW Tryz.func7 rfl rfl ⟨rfl, e0⟩
 ·rw [decide_eq_true (by omega)] at hL
  unfold ClampV.cells at *
  have e0 : Ext h h := Ext.refl _
  refine Runs.intro aFunc7 rfl rfl rfl rfl fun rest => ?_;apply gS;refine gR rfl ?_;refine GoR.box rfl rfl rfl rfl rfl rfl fun h0 x0 f0 => ?_;replace e0 := e0.trans x0;refine gP ?_;apply gE;iterate 2 apply gS
  refine gR rfl ?_;refine gO rfl rfl (ld27 rfl f0 rfl) rfl ?_;refine GoR.call rfl rfl (aCF aFunc29 rfl) (hL e0) ?_ np;rintro v1 h1 ⟨q, x1⟩;cases q;refine ⟨_, rfl, ?_⟩;replace e0 := e0.trans x1;refine gP ?_;iterate 3 refine GoR.skip rfl rfl rfl ?_
  refine gP ?_;apply gE;refine gC (b := true) rfl ?_;apply gS;refine gR rfl ?_;refine GoR.call rfl rfl (aCF aFunc12 rfl) (alive_ok) ?_ np;rintro v2 h2 ⟨q, x2⟩;cases q;refine ⟨_, rfl, ?_⟩;replace e0 := e0.trans x2;refine gP ?_;apply gE;exact gW Tryz.func7 rfl rfl ⟨rfl, e0⟩
theorem law7_no {C : ClampV} {sp se : AVal} {h : AH} (A : ClampAt h C sp se) (O : C.Ok) (hp : C.possible = false) : Runs Tryz.prog 7 [.agg (C.cells sp se)] h (fun en h' => en = .ret (.bool true) ∧ Ext h h') := by
 have hnp := O.np
 have hne := O.ne
 have B : ClampB C := O.B
 have hL := fun {h'} (e : Ext h h') => long29_ok (A.ext e) (by omega) (by omega)
 rw [decide_eq_false (by omega)] at hL
 have hR := fun {h'} (e : Ext h h') => Clamp30_ok (A.ext e) B
 rw [decide_eq_true O] at hR
 have hl1 := A.ps.len
 rw [List.length_map] at hl1
 have hA := fun {h'} (e : Ext h h') => All_ok (A.ext e) B
 rw [allR_is O, ClampV.tr_no hp] at hA
 have hH := fun {h'} (e : Ext h h') {i : Nat} (hi : i < C.ps.length) => Has_ok (A.ext e) B (i : Nat)
 have hH2 : ∀ i : Nat, i < C.ps.length → C.hasR (i : Nat) = ((0, 0), 10) := fun i hi => by rw [hasR_is O hi, ClampV.tr_no hp]; rfl
 unfold spC zSp at *
 dsimp only at hA
 have hcells : C.cells sp se = [sp, .int .i64 C.pl, .int .i64 C.ph, se] := rfl
 rw [hcells] at *
 have hH1 := fun {h' i} (e : Ext h h') (hi : i < C.ps.length) => hH e hi
 have e0 : Ext h h := Ext.refl _
 refine Runs.intro aFunc7 rfl rfl rfl rfl fun rest => ?_;apply gS;refine gR rfl ?_;refine GoR.box rfl rfl rfl rfl rfl rfl fun h0 x0 f0 => ?_;have := e0.1;replace e0 := e0.trans x0;have := f0.1;refine gP ?_;apply gE;iterate 2 apply gS
 refine gR rfl ?_;refine gO rfl rfl (ld27 rfl f0 rfl) rfl ?_;refine GoR.call rfl rfl (aCF aFunc29 rfl) (hL e0) ?_ np;rintro v1 h1 ⟨q, x1⟩;cases q;refine ⟨_, rfl, ?_⟩;replace f0 := f0.ext x1;replace e0 := e0.trans x1;refine gP ?_;refine gO rfl rfl (ld27 rfl f0 rfl) rfl ?_;refine GoR.call rfl rfl (aCF aFunc30 rfl) (hR e0) ?_ np;rintro v2 h2 ⟨q, x2⟩;cases q;refine ⟨_, rfl, ?_⟩;replace f0 := f0.ext x2;replace e0 := e0.trans x2;iterate 2 refine gP ?_
 apply gE;refine gC (b := false) rfl ?_;refine gD ?_;apply gS;refine gR rfl ?_;refine gO rfl rfl (ld27 rfl f0 rfl) rfl ?_;refine GoR.call rfl rfl (aCF aFunc19 rfl) (hA e0) ?_ np;rintro v3 h3 ⟨q, x3⟩;cases q;refine ⟨_, rfl, ?_⟩;replace f0 := f0.ext x3;replace e0 := e0.trans x3;iterate 3 refine gP ?_
 refine GoR.alloc rfl rfl rfl zt24 rfl rfl fun h4 x4 f4 => ?_;have := e0.1;have := f0.1;replace f0 := f0.ext x4;replace e0 := e0.trans x4;have := f4.1;refine GoR.store rfl rfl rfl rfl rfl rfl f4 rfl sz24 rfl rfl rfl fun h5 u5 => ?_;replace f4 := u5.has f4;replace f0 := f0.upd u5 (by omega);replace e0 := e0.upd u5 (by omega);refine gP ?_;apply gE;apply gS;refine gR rfl ?_;iterate 2 refine gP ?_
 apply gE;iterate 2 apply gS
 refine gR rfl ?_;refine gO rfl rfl (fa27_0 rfl) rfl ?_;refine gO rfl rfl (ld22 rfl f0 rfl) rfl ?_;refine gO rfl rfl (aOp_lenSlice Tryz.underlying22 rfl hl1) rfl ?_;refine gP ?_;apply gE;refine Go.block noJ_ok ?_;refine Go.loopKeep (fun j : Nat => [(1, .ptr h.next 0), (3, .ptr h3.next 0), (4, .int .i64 10), (5, .int .i64 (0)), (6, .int .i64 (0)), (35, sp), (36, .int .i64 C.ps.length), (37, .int .i64 (j : Nat))]) (fun m j h' => m + j = C.ps.length ∧ Ext h h' ∧ Has h' h.next (.cells .plain [sp, .int .i64 C.pl, .int .i64 C.ph, se] 27) ∧ Has h' h3.next (.cells .plain [.int .i64 0, .int .i64 0] 24)) (n := C.ps.length) 0 ⟨rfl, rfl, rfl, rfl, rfl, rfl, rfl, rfl, trivial⟩ ⟨rfl, e0, f0, f4⟩ ?_;clear e0 f0 f4;rintro m j h30 ⟨hm, e0, f0, f4⟩ again
 by_cases hj : j < C.ps.length
 ·have hHj := fun {h'} (e : Ext h h') => hH e hj
  rw [hH2 j hj] at hHj
  dsimp only at hHj
  apply gS;refine gR rfl ?_;refine gO rfl rfl (kLT rfl rfl) rfl ?_;apply gE;apply gS;refine gC (b := true) rfl ?_;refine gD ?_;apply gS;refine Go.block noJ_ok ?_;apply gS;refine gR rfl ?_;iterate 2 refine gP ?_
  apply gE;apply gS;refine gR rfl ?_;refine gO rfl rfl (ld27 rfl f0 rfl) rfl ?_;refine gP ?_;refine GoR.call rfl rfl (aCF aFunc15 rfl) (hHj e0) ?_ np;rintro v31 h31 ⟨q, x31⟩;cases q;refine ⟨_, rfl, ?_⟩;replace f0 := f0.ext x31;replace f4 := f4.ext x31;replace e0 := e0.trans x31;iterate 3 refine gP ?_
  refine GoR.alloc rfl rfl rfl zt24 rfl rfl fun h32 x32 f32 => ?_;have := e0.1;have := f0.1;have := f4.1;replace f0 := f0.ext x32;replace f4 := f4.ext x32;replace e0 := e0.trans x32;have := f32.1;refine GoR.store rfl rfl rfl rfl rfl rfl f32 rfl sz24 rfl rfl rfl fun h33 u33 => ?_;replace f32 := u33.has f32;replace f0 := f0.upd u33 (by omega);replace f4 := f4.upd u33 (by omega);replace e0 := e0.upd u33 (by omega);refine gP ?_;apply gE;iterate 2 apply gS
  refine gR rfl ?_;iterate 2 refine gP ?_
  refine gO rfl rfl (kXF rfl rfl) rfl ?_;apply gE;refine gC (b := false) rfl ?_;refine gD ?_;refine Go.drawnE plan7_0 ?_;refine gQ rfl rfl rfl rfl ?_;refine gQ rfl rfl (fa24_0 rfl) rfl ?_;refine gQ rfl rfl (ld3 rfl f32 rfl) rfl ?_;refine gQ rfl rfl (aA rfl rfl) rfl ?_;refine gQ rfl rfl rfl rfl ?_;refine gQ rfl rfl (fa24_1 rfl) rfl ?_;refine gQ rfl rfl (ld3 rfl f32 rfl) rfl ?_;refine gQ rfl rfl (aA rfl rfl) rfl ?_;iterate 2 refine gQ rfl rfl rfl rfl ?_
  refine GoE.end rfl ?_;refine Go.inBlock noJ_ok ?_;refine gR rfl ?_;refine gO rfl rfl (aA rfl rfl) rfl ?_;refine gP ?_;apply gE;exact again (m - 1) (j + 1) _ _ (by omega) ⟨rfl, rfl, rfl, rfl, rfl, rfl, rfl, rfl, trivial⟩ ⟨by omega, e0, f0, f4⟩
 ·apply gS;refine gR rfl ?_;refine gO rfl rfl (kLF rfl rfl) rfl ?_;apply gE;apply gS;refine gC (b := false) rfl ?_;refine gD ?_;iterate 2 apply gS
  refine gR rfl ?_;refine gP ?_;refine gO rfl rfl (kXT rfl rfl) rfl ?_;apply gE;refine gC (b := true) rfl ?_;apply gS;refine gR rfl ?_;refine gP ?_;refine gO rfl rfl (kET rfl rfl) rfl ?_;refine gP ?_;refine gO rfl rfl (ld24 rfl f4 rfl) rfl ?_;refine gO rfl rfl (aOp_build (ps := []) (cs := [.int .i64 0, .int .i64 0]) zt24 hu24 pl24 rfl rfl) rfl ?_;refine gO rfl rfl (aOp_eqlSpan spanT24 rfl rfl rfl) rfl ?_;iterate 2 refine gP ?_
  refine GoR.call rfl rfl (aCF aFunc12 rfl) (alive_ok) ?_ np;rintro v31 h31 ⟨q, x31⟩;cases q;refine ⟨_, rfl, ?_⟩;replace e0 := e0.trans x31;iterate 2 refine gP ?_
  apply gE;exact gW Tryz.func7 rfl rfl ⟨rfl, e0⟩
theorem sumTo_in {f : Nat → Int} (h : ∀ i, 0 ≤ f i ∧ f i ≤ 5000) : ∀ n : Nat, 0 ≤ sumTo f n ∧ sumTo f n ≤ 5000 * (n : Int)
 | 0 => by
  unfold sumTo
  omega
 | n + 1 => by
  have := sumTo_in h n
  have := h n
  unfold sumTo
  omega
theorem law7_yes {C : ClampV} {sp se : AVal} {h : AH} (A : ClampAt h C sp se) (O : C.Ok) (hp : C.possible = true) : Runs Tryz.prog 7 [.agg (C.cells sp se)] h (fun en h' => en = .ret (.bool true) ∧ Ext h h') := by
 have hnp := O.np
 have hne := O.ne
 have B : ClampB C := O.B
 have hL := fun {h'} (e : Ext h h') => long29_ok (A.ext e) (by omega) (by omega)
 rw [decide_eq_false (by omega)] at hL
 have hR := fun {h'} (e : Ext h h') => Clamp30_ok (A.ext e) B
 rw [decide_eq_true O] at hR
 have hl1 := A.ps.len
 rw [List.length_map] at hl1
 have hA := fun {h'} (e : Ext h h') => All_ok (A.ext e) B
 rw [allR_is O, ClampV.tr_yes hp] at hA
 have hH := fun {h'} (e : Ext h h') {i : Nat} (hi : i < C.ps.length) => Has_ok (A.ext e) B (i : Nat)
 have hH2 : ∀ i : Nat, i < C.ps.length → C.hasR (i : Nat) = (C.left i, 0) := fun i hi => by rw [hasR_is O hi, ClampV.tr_yes hp]
 obtain ⟨sh, hsh, hshl⟩ := share_all O hp
 have hin := total_in O hp C.all
 have hall := all_in O hp
 have hkn := all_known O hp
 have hS1 := fun {h'} (e : Ext h h') => Share_ok (A.ext e) B (C.total C.all).1
 have hS2 := fun {h'} (e : Ext h h') => Share_ok (A.ext e) B ((C.total C.all).1 + 1)
 rw [hsh] at hS1
 have hmore := share_more O hp (n := (C.total C.all).1 + 1)
 obtain ⟨T, hT⟩ : ∃ T, C.total C.all = T := ⟨_, rfl⟩
 rw [hT] at hA hin hall hkn hS1 hS2 hmore
 obtain ⟨w2, m2, hx2⟩ : ∃ a b, C.shareR (T.1 + 1) = (a, b) := ⟨_, _, rfl⟩
 rw [hx2] at hS2
 have hm2 : T.1 < 20000 → m2 = 4 := fun q => by
  have := hmore (by omega)
  rw [hx2] at this;exact (Prod.mk.inj this).2
 have hshr0 : ((sh : Nat) : Int).fdiv (2 ^ C.ps.length) = 0 := by
  rw [Int.fdiv_eq_ediv_of_nonneg _ (Int.pow_nonneg (by omega))];refine Int.ediv_eq_zero_of_lt (by omega) ?_
  exact_mod_cast hshl
 unfold spC at *
 dsimp only at hA hS1 hS2
 have hcells : C.cells sp se = [sp, .int .i64 C.pl, .int .i64 C.ph, se] := rfl
 rw [hcells] at *
 have e0 : Ext h h := Ext.refl _
 refine Runs.intro aFunc7 rfl rfl rfl rfl fun rest => ?_;apply gS;refine gR rfl ?_;refine GoR.box rfl rfl rfl rfl rfl rfl fun h0 x0 f0 => ?_;have := e0.1;replace e0 := e0.trans x0;have := f0.1;refine gP ?_;apply gE;iterate 2 apply gS
 refine gR rfl ?_;refine gO rfl rfl (ld27 rfl f0 rfl) rfl ?_;refine GoR.call rfl rfl (aCF aFunc29 rfl) (hL e0) ?_ np;rintro v1 h1 ⟨q, x1⟩;cases q;refine ⟨_, rfl, ?_⟩;replace f0 := f0.ext x1;replace e0 := e0.trans x1;refine gP ?_;refine gO rfl rfl (ld27 rfl f0 rfl) rfl ?_;refine GoR.call rfl rfl (aCF aFunc30 rfl) (hR e0) ?_ np;rintro v2 h2 ⟨q, x2⟩;cases q;refine ⟨_, rfl, ?_⟩;replace f0 := f0.ext x2;replace e0 := e0.trans x2;iterate 2 refine gP ?_
 apply gE;refine gC (b := false) rfl ?_;refine gD ?_;apply gS;refine gR rfl ?_;refine gO rfl rfl (ld27 rfl f0 rfl) rfl ?_;refine GoR.call rfl rfl (aCF aFunc19 rfl) (hA e0) ?_ np;rintro v3 h3 ⟨q, x3⟩;cases q;refine ⟨_, rfl, ?_⟩;replace f0 := f0.ext x3;replace e0 := e0.trans x3;iterate 3 refine gP ?_
 refine GoR.alloc rfl rfl rfl zt24 rfl rfl fun h4 x4 f4 => ?_;have := e0.1;have := f0.1;replace f0 := f0.ext x4;replace e0 := e0.trans x4;have := f4.1;refine GoR.store rfl rfl rfl rfl rfl rfl f4 rfl sz24 rfl rfl rfl fun h5 u5 => ?_;replace f4 := u5.has f4;replace f0 := f0.upd u5 (by omega);replace e0 := e0.upd u5 (by omega);refine gP ?_;apply gE;apply gS;refine gR rfl ?_;iterate 2 refine gP ?_
 apply gE;iterate 2 apply gS
 refine gR rfl ?_;refine gO rfl rfl (fa27_0 rfl) rfl ?_;refine gO rfl rfl (ld22 rfl f0 rfl) rfl ?_;refine gO rfl rfl (aOp_lenSlice Tryz.underlying22 rfl hl1) rfl ?_;refine gP ?_;apply gE;refine Go.block noJ_ok ?_;refine Go.loopKeep (fun j : Nat => [(1, .ptr h.next 0), (3, .ptr h3.next 0), (4, .int .i64 0), (5, .int .i64 (sumTo (fun i => (C.left i).1) j)), (6, .int .i64 (sumTo (fun i => (C.left i).2) j)), (35, sp), (36, .int .i64 C.ps.length), (37, .int .i64 (j : Nat))]) (fun m j h' => m + j = C.ps.length ∧ Ext h h' ∧ Has h' h.next (.cells .plain [sp, .int .i64 C.pl, .int .i64 C.ph, se] 27) ∧ Has h' h3.next (.cells .plain [.int .i64 T.1, .int .i64 T.2] 24)) (n := C.ps.length) 0 ⟨rfl, rfl, rfl, rfl, rfl, rfl, rfl, rfl, trivial⟩ ⟨rfl, e0, f0, f4⟩ ?_;clear e0 f0 f4;rintro m j h30 ⟨hm, e0, f0, f4⟩ again
 by_cases hj : j < C.ps.length
 ·have hHj := fun {h'} (e : Ext h h') => hH e hj
  rw [hH2 j hj] at hHj
  dsimp only at hHj
  have b1 := sumTo_in (f := fun i => (C.left i).1) (fun i => by have := left_in O hp i; omega) j
  have b2 := sumTo_in (f := fun i => (C.left i).2) (fun i => by have := left_in O hp i; omega) j
  have b3 := left_in O hp j
  apply gS;refine gR rfl ?_;refine gO rfl rfl (kLT rfl rfl) rfl ?_;apply gE;apply gS;refine gC (b := true) rfl ?_;refine gD ?_;apply gS;refine Go.block noJ_ok ?_;apply gS;refine gR rfl ?_;iterate 2 refine gP ?_
  apply gE;apply gS;refine gR rfl ?_;refine gO rfl rfl (ld27 rfl f0 rfl) rfl ?_;refine gP ?_;refine GoR.call rfl rfl (aCF aFunc15 rfl) (hHj e0) ?_ np;rintro v31 h31 ⟨q, x31⟩;cases q;refine ⟨_, rfl, ?_⟩;replace f0 := f0.ext x31;replace f4 := f4.ext x31;replace e0 := e0.trans x31;iterate 3 refine gP ?_
  refine GoR.alloc rfl rfl rfl zt24 rfl rfl fun h32 x32 f32 => ?_;have := e0.1;have := f0.1;have := f4.1;replace f0 := f0.ext x32;replace f4 := f4.ext x32;replace e0 := e0.trans x32;have := f32.1;refine GoR.store rfl rfl rfl rfl rfl rfl f32 rfl sz24 rfl rfl rfl fun h33 u33 => ?_;replace f32 := u33.has f32;replace f0 := f0.upd u33 (by omega);replace f4 := f4.upd u33 (by omega);replace e0 := e0.upd u33 (by omega);refine gP ?_;apply gE;iterate 2 apply gS
  refine gR rfl ?_;iterate 2 refine gP ?_
  refine gO rfl rfl (kXF rfl rfl) rfl ?_;apply gE;refine gC (b := false) rfl ?_;refine gD ?_;refine Go.drawnE plan7_0 ?_;refine gQ rfl rfl rfl rfl ?_;refine gQ rfl rfl (fa24_0 rfl) rfl ?_;refine gQ rfl rfl (ld3 rfl f32 rfl) rfl ?_;refine gQ rfl rfl (aA rfl rfl) rfl ?_;refine gQ rfl rfl rfl rfl ?_;refine gQ rfl rfl (fa24_1 rfl) rfl ?_;refine gQ rfl rfl (ld3 rfl f32 rfl) rfl ?_;refine gQ rfl rfl (aA rfl rfl) rfl ?_;iterate 2 refine gQ rfl rfl rfl rfl ?_
  refine GoE.end rfl ?_;refine Go.inBlock noJ_ok ?_;refine gR rfl ?_;refine gO rfl rfl (aA rfl rfl) rfl ?_;refine gP ?_;apply gE;exact again (m - 1) (j + 1) _ _ (by omega) ⟨rfl, rfl, rfl, rfl, rfl, rfl, rfl, rfl, trivial⟩ ⟨by omega, e0, f0, f4⟩
 ·have hj4 : j = C.ps.length := by omega
  subst hj4
  obtain ⟨S1, hS1e⟩ : ∃ S, sumTo (fun i => (C.left i).1) C.ps.length = S := ⟨_, rfl⟩
  obtain ⟨S2, hS2e⟩ : ∃ S, sumTo (fun i => (C.left i).2) C.ps.length = S := ⟨_, rfl⟩
  rw [hS1e, hS2e] at hall hkn;rw [hS1e, hS2e];apply gS;refine gR rfl ?_;refine gO rfl rfl (kLF rfl rfl) rfl ?_;apply gE;apply gS;refine gC (b := false) rfl ?_;refine gD ?_;iterate 2 apply gS
  refine gR rfl ?_;refine gP ?_;refine gO rfl rfl (kXF rfl rfl) rfl ?_;apply gE;refine gC (b := false) rfl ?_;refine gD ?_;apply gS;refine Go.join (fun _ : Unit => [(1, .ptr h.next 0), (3, .ptr h3.next 0)]) (fun _ h' => Ext h h' ∧ Has h' h.next (.cells .plain [sp, .int .i64 C.pl, .int .i64 C.ph, se] 27) ∧ Has h' h3.next (.cells .plain [.int .i64 T.1, .int .i64 T.2] 24)) ?_ ?_
  ·intro k' done
   by_cases hk : C.pl = C.ph
   ·have hT2 := hkn hk
    have hT3 : T.1 = S1 := by rw [hT2]
    have hT4 : T.2 = S2 := by rw [hT2]
    apply gS;refine Go.drawnE plan7_1 ?_;refine gQ rfl rfl (fa24_0 rfl) rfl ?_;refine gQ rfl rfl (ld3 rfl f4 rfl) rfl ?_;refine gQ rfl rfl (fa24_1 rfl) rfl ?_;refine gQ rfl rfl (ld3 rfl f4 rfl) rfl ?_;refine gQ rfl rfl (kGF rfl rfl) rfl ?_;refine gQ rfl rfl rfl rfl ?_;refine gQ rfl rfl (fa24_0 rfl) rfl ?_;refine gQ rfl rfl (ld3 rfl f4 rfl) rfl ?_;refine gQ rfl rfl rfl rfl ?_;refine gQ rfl rfl (kLF rfl rfl) rfl ?_;iterate 2 refine gQ rfl rfl rfl rfl ?_
    refine gQ rfl rfl (fa24_1 rfl) rfl ?_;refine gQ rfl rfl (ld3 rfl f4 rfl) rfl ?_;refine gQ rfl rfl rfl rfl ?_;refine gQ rfl rfl (kGF rfl rfl) rfl ?_;iterate 2 refine gQ rfl rfl rfl rfl ?_
    refine gQ rfl rfl (fa27_1 rfl) rfl ?_;refine gQ rfl rfl (fa24_0 rfl) rfl ?_;refine gQ rfl rfl (ld3 rfl f0 rfl) rfl ?_;refine gQ rfl rfl (fa27_1 rfl) rfl ?_;refine gQ rfl rfl (fa24_1 rfl) rfl ?_;refine gQ rfl rfl (ld3 rfl f0 rfl) rfl ?_;refine gQ rfl rfl (kET rfl rfl) rfl ?_;refine gQ rfl rfl rfl rfl ?_;refine gQ rfl rfl (ld24 rfl f4 rfl) rfl ?_;iterate 2 refine gQ rfl rfl rfl rfl ?_
    refine GoE.call rfl rfl (aCF aFunc36 rfl) (span36_ok) (dD 469762047 28 (dD 469762047 27 (dK 469762047 26 (dD 469762047 25 (dD 469762047 24 (dD 469762047 23 (dD 469762047 22 (dD 469762047 21 (dD 469762047 20 (dD 469762047 19 (dD 469762047 18 (dD 469762047 17 (dD 469762047 16 (dD 469762047 15 (dD 469762047 14 (dD 469762047 13 (dD 469762047 12 (dD 469762047 11 (dD 469762047 10 (dD 469762047 9 (dD 469762047 8 (dD 469762047 7 (dD 469762047 6 (dD 469762047 5 (dD 469762047 4 (dD 469762047 3 (dD 469762047 2 (dD 469762047 1 (dD 469762047 0 rfl))))))))))))))))))))))))))))) ?_ np;rintro v31 h31 ⟨q, x31⟩;cases q;replace f0 := f0.ext x31;replace f4 := f4.ext x31;replace e0 := e0.trans x31;refine ⟨(rck (h2 := h31) rfl (ld24 rfl f4 rfl) recheck_nil), _, rfl, ?_⟩;refine gQ rfl rfl (aOp_neqSpan spanT24 rfl rfl (r := false) (by simp [hT3, hT4])) rfl ?_;iterate 2 refine gQ rfl rfl rfl rfl ?_
    refine GoE.end rfl ?_;refine gC (b := false) rfl ?_;refine gD ?_;exact done () _ _ ⟨rfl, rfl, trivial⟩ ⟨e0, f0, f4⟩
   ·apply gS;refine Go.drawnE plan7_1 ?_;refine gQ rfl rfl (fa24_0 rfl) rfl ?_;refine gQ rfl rfl (ld3 rfl f4 rfl) rfl ?_;refine gQ rfl rfl (fa24_1 rfl) rfl ?_;refine gQ rfl rfl (ld3 rfl f4 rfl) rfl ?_;refine gQ rfl rfl (kGF rfl rfl) rfl ?_;refine gQ rfl rfl rfl rfl ?_;refine gQ rfl rfl (fa24_0 rfl) rfl ?_;refine gQ rfl rfl (ld3 rfl f4 rfl) rfl ?_;refine gQ rfl rfl rfl rfl ?_;refine gQ rfl rfl (kLF rfl rfl) rfl ?_;iterate 2 refine gQ rfl rfl rfl rfl ?_
    refine gQ rfl rfl (fa24_1 rfl) rfl ?_;refine gQ rfl rfl (ld3 rfl f4 rfl) rfl ?_;refine gQ rfl rfl rfl rfl ?_;refine gQ rfl rfl (kGF rfl rfl) rfl ?_;iterate 2 refine gQ rfl rfl rfl rfl ?_
    refine gQ rfl rfl (fa27_1 rfl) rfl ?_;refine gQ rfl rfl (fa24_0 rfl) rfl ?_;refine gQ rfl rfl (ld3 rfl f0 rfl) rfl ?_;refine gQ rfl rfl (fa27_1 rfl) rfl ?_;refine gQ rfl rfl (fa24_1 rfl) rfl ?_;refine gQ rfl rfl (ld3 rfl f0 rfl) rfl ?_;refine gQ rfl rfl (kEF rfl rfl) rfl ?_;refine gQ rfl rfl rfl rfl ?_;iterate 5 refine GoE.skip rfl rfl rfl ?_
    iterate 2 refine gQ rfl rfl rfl rfl ?_
    refine GoE.end rfl ?_;refine gC (b := false) rfl ?_;refine gD ?_;exact done () _ _ ⟨rfl, rfl, trivial⟩ ⟨e0, f0, f4⟩
  clear e0 f0 f4;rintro _ h31 ⟨e0, f0, f4⟩;apply gS;refine gR rfl ?_;refine gO rfl rfl (ld27 rfl f0 rfl) rfl ?_;refine gO rfl rfl (fa24_0 rfl) rfl ?_;refine gO rfl rfl (ld3 rfl f4 rfl) rfl ?_;refine GoR.call rfl rfl (aCF aFunc25 rfl) (hS1 e0) ?_ np;rintro v32 h32 ⟨q, x32⟩;cases q;refine ⟨_, rfl, ?_⟩;replace f0 := f0.ext x32;replace f4 := f4.ext x32;replace e0 := e0.trans x32;iterate 5 refine gP ?_
  apply gE;apply gS;refine gR rfl ?_;refine gO rfl rfl (ld27 rfl f0 rfl) rfl ?_;refine gO rfl rfl (fa24_0 rfl) rfl ?_;refine gO rfl rfl (ld3 rfl f4 rfl) rfl ?_;refine gO rfl rfl (aA rfl rfl) rfl ?_;refine GoR.call rfl rfl (aCF aFunc25 rfl) (hS2 e0) ?_ np;rintro v33 h33 ⟨q, x33⟩;cases q;refine ⟨_, rfl, ?_⟩;replace f0 := f0.ext x33;replace f4 := f4.ext x33;replace e0 := e0.trans x33;iterate 5 refine gP ?_
  apply gE;apply gS;refine Go.join (fun _ : Unit => [(1, .ptr h.next 0)]) (fun _ h' => Ext h h' ∧ Has h' h.next (.cells .plain [sp, .int .i64 C.pl, .int .i64 C.ph, se] 27)) ?_ ?_
  ·intro k' done
   by_cases hT20 : T.1 < 20000
   ·have hm4 := hm2 hT20
    subst hm4;apply gS;refine gR rfl ?_;refine gP ?_;refine gO rfl rfl (kXF rfl rfl) rfl ?_;iterate 2 refine gP ?_
    refine gO rfl rfl (kLF rfl rfl) rfl ?_;iterate 3 refine gP ?_
    refine gO rfl rfl (fa27_0 rfl) rfl ?_;refine gO rfl rfl (ld22 rfl f0 rfl) rfl ?_;refine gO rfl rfl (aOp_lenSlice Tryz.underlying22 rfl hl1) rfl ?_;refine gO rfl rfl (aOp_shr rfl rfl (by omega) hshr0) rfl ?_;refine gO rfl rfl (kXF rfl rfl) rfl ?_;iterate 2 refine gP ?_
    refine gO rfl rfl (fa24_0 rfl) rfl ?_;refine gO rfl rfl (ld3 rfl f4 rfl) rfl ?_;refine gO rfl rfl (kLT rfl rfl) rfl ?_;iterate 2 refine gP ?_
    refine gO rfl rfl (kXF rfl rfl) rfl ?_;iterate 2 refine gP ?_
    apply gE;refine gC (b := false) rfl ?_;refine gD ?_;exact done () _ _ ⟨rfl, trivial⟩ ⟨e0, f0⟩
   ·apply gS;refine gR rfl ?_;refine gP ?_;refine gO rfl rfl (kXF rfl rfl) rfl ?_;iterate 2 refine gP ?_
    refine gO rfl rfl (kLF rfl rfl) rfl ?_;iterate 3 refine gP ?_
    refine gO rfl rfl (fa27_0 rfl) rfl ?_;refine gO rfl rfl (ld22 rfl f0 rfl) rfl ?_;refine gO rfl rfl (aOp_lenSlice Tryz.underlying22 rfl hl1) rfl ?_;refine gO rfl rfl (aOp_shr rfl rfl (by omega) hshr0) rfl ?_;refine gO rfl rfl (kXF rfl rfl) rfl ?_;iterate 2 refine gP ?_
    refine gO rfl rfl (fa24_0 rfl) rfl ?_;refine gO rfl rfl (ld3 rfl f4 rfl) rfl ?_;refine gO rfl rfl (kLF rfl rfl) rfl ?_;refine gP ?_;iterate 2 refine GoR.skip rfl rfl rfl ?_
    iterate 2 refine gP ?_
    apply gE;refine gC (b := false) rfl ?_;refine gD ?_;exact done () _ _ ⟨rfl, trivial⟩ ⟨e0, f0⟩
  clear e0 f0 f4 hA hS1 hS2 hR hL;rintro _ h40 ⟨e0, f0⟩
  have hsc : scalars [sp, .int .i64 C.pl, .int .i64 C.ph, se] = true := A.scal
  have hsc0 : scalars [sp, .int .i64 C.pl, .int .i64 C.ph, .nilslice] = true := scal_app (a := [sp, .int .i64 C.pl, .int .i64 C.ph]) (scal_app (a := [sp]) A.ps.scal.1 rfl) rfl
  apply gS;refine gR rfl ?_;refine gO rfl rfl (ld27 rfl f0 rfl) rfl ?_;refine GoR.alloc rfl rfl rfl zt27 rfl rfl fun h41 x41 f41 => ?_;have := e0.1;have := f0.1;replace f0 := f0.ext x41;replace e0 := e0.trans x41;have := f41.1;refine GoR.store rfl rfl rfl rfl rfl rfl f41 rfl sz27 rfl hsc rfl fun h42 u42 => ?_;replace f41 := u42.has f41;replace f0 := f0.upd u42 (by omega);replace e0 := e0.upd u42 (by omega);apply gE;apply gS;refine gR rfl ?_;refine gO rfl rfl (fa27_2 rfl) rfl ?_;refine GoR.store rfl rfl rfl rfl rfl rfl f41 rfl sz25 rfl rfl rfl fun h43 u43 => ?_;replace f41 := u43.has f41;replace f0 := f0.upd u43 (by omega);replace e0 := e0.upd u43 (by omega);apply gE;iterate 2 apply gS
  refine gR rfl ?_;refine gO rfl rfl (fa27_0 rfl) rfl ?_;refine gO rfl rfl (ld22 rfl f0 rfl) rfl ?_;refine gO rfl rfl (aOp_lenSlice Tryz.underlying22 rfl hl1) rfl ?_;refine gP ?_;apply gE;refine Go.block noJ_ok ?_;refine Go.loopKeep (fun j : Nat => [(1, .ptr h.next 0), (14, .ptr h40.next 0), (144, sp), (145, .int .i64 C.ps.length), (146, .int .i64 (j : Nat))]) (fun m j h' => m + j = C.ps.length ∧ Ext h h' ∧ Has h' h.next (.cells .plain [sp, .int .i64 C.pl, .int .i64 C.ph, se] 27) ∧ Has h' h40.next (.cells .plain [sp, .int .i64 C.pl, .int .i64 C.ph, .nilslice] 27)) (n := C.ps.length) 0 ⟨rfl, rfl, rfl, rfl, rfl, trivial⟩ ⟨rfl, e0, f0, f41⟩ ?_;clear e0 f0 f41;rintro m j h60 ⟨hm, e0, f0, f41⟩ again
  by_cases hj : j < C.ps.length
  ·obtain ⟨x, hx⟩ : ∃ x, C.ps[j]? = some x := ⟨C.ps[j], by simp [hj]⟩
   obtain ⟨bq, off, q1, q2⟩ := (A.ps.ext e0).at (i := j) (l := PV.cells x) (by rw [List.getElem?_map, hx]; rfl)
   rw [List.length_map] at q1
   obtain ⟨z1, z2, z3⟩ := bare_is O hx
   have OB := bare_ok O
   have hjb : j < C.bare.ps.length := hj
   have hAB := fun {h'} (e : Ext h h') => (⟨A.ps.ext e, .nil⟩ : ClampAt h' C.bare sp .nilslice)
   have hBu := fun {h'} (e : Ext h h') => Built_ok (hAB e) OB.B (j : Nat)
   have hHa := fun {h'} (e : Ext h h') => Has_ok (hAB e) OB.B (j : Nat)
   rw [builtR_is OB hjb, ClampV.tr_yes z1, z3] at hBu;rw [hasR_is OB hjb, ClampV.tr_yes z1, z2, z3] at hHa
   have hpo := O.p x (List.mem_of_getElem? hx)
   have hkk := O.k
   obtain ⟨ll, lh, wl, wh, hl, hh⟩ := x
   obtain ⟨⟨⟨o1, o2, o3⟩, _⟩, ⟨⟨o4, o5, o6⟩, _⟩, ⟨o7, o8, o9⟩, _⟩ := hpo
   unfold PV.cells at q2
   unfold ClampV.cells spC at hBu hHa
   dsimp only at q2 hBu hHa o1 o2 o3 o4 o5 o6 o7 o8 o9
   have a1 := mul_in (a := ll) (b := wl) (A := 10) (B := 10) (by omega) (by omega)
   have a2 := mul_in (a := ll * wl) (b := hl) (A := 10 * 10) (B := 10) a1 (by omega)
   have a3 := mul_in (a := ll * wl * hl) (b := C.pl) (A := 10 * 10 * 10) (B := 5) a2 (by omega)
   have a4 := mul_in (a := lh) (b := wh) (A := 10) (B := 10) (by omega) (by omega)
   have a5 := mul_in (a := lh * wh) (b := hh) (A := 10 * 10) (B := 10) a4 (by omega)
   have a6 := mul_in (a := lh * wh * hh) (b := C.ph) (A := 10 * 10 * 10) (B := 5) a5 (by omega)
   have e1 : Ext h60 h60 := Ext.refl _
   apply gS;refine gR rfl ?_;refine gO rfl rfl (kLT rfl rfl) rfl ?_;apply gE;apply gS;refine gC (b := true) rfl ?_;refine gD ?_;apply gS;refine Go.block noJ_ok ?_;apply gS;refine gR rfl ?_;iterate 2 refine gP ?_
   apply gE;apply gS;refine gR rfl ?_;refine gO rfl rfl (ld27 rfl f41 rfl) rfl ?_;refine gP ?_;refine GoR.call rfl rfl (aCF aFunc13 rfl) (hBu e0) ?_ np;rintro v61 h61 ⟨q, x61⟩;cases q;refine ⟨_, rfl, ?_⟩;replace f0 := f0.ext x61;replace f41 := f41.ext x61;replace e0 := e0.trans x61;replace e1 := e1.trans x61;iterate 3 refine gP ?_
   refine GoR.alloc rfl rfl rfl zt24 rfl rfl fun h62 x62 f62 => ?_;have := e0.1;have := e1.1;have := f0.1;have := f41.1;replace f0 := f0.ext x62;replace f41 := f41.ext x62;replace e0 := e0.trans x62;replace e1 := e1.trans x62;have := f62.1;refine GoR.store rfl rfl rfl rfl rfl rfl f62 rfl sz24 rfl rfl rfl fun h63 u63 => ?_;replace f62 := u63.has f62;replace f0 := f0.upd u63 (by omega);replace f41 := f41.upd u63 (by omega);replace e0 := e0.upd u63 (by omega);replace e1 := e1.upd u63 (by omega);refine gP ?_;apply gE;apply gS;refine gR rfl ?_;refine gO rfl rfl (ld27 rfl f41 rfl) rfl ?_;refine gP ?_;refine GoR.call rfl rfl (aCF aFunc15 rfl) (hHa e0) ?_ np;rintro v64 h64 ⟨q, x64⟩;cases q;refine ⟨_, rfl, ?_⟩;replace f62 := f62.ext x64;replace f0 := f0.ext x64;replace f41 := f41.ext x64;replace e0 := e0.trans x64;replace e1 := e1.trans x64;iterate 3 refine gP ?_
   refine GoR.alloc rfl rfl rfl zt24 rfl rfl fun h65 x65 f65 => ?_;have := e0.1;have := e1.1;have := f62.1;have := f0.1;have := f41.1;replace f62 := f62.ext x65;replace f0 := f0.ext x65;replace f41 := f41.ext x65;replace e0 := e0.trans x65;replace e1 := e1.trans x65;have := f65.1;refine GoR.store rfl rfl rfl rfl rfl rfl f65 rfl sz24 rfl rfl rfl fun h66 u66 => ?_;replace f65 := u66.has f65;replace f62 := f62.upd u66 (by omega);replace f0 := f0.upd u66 (by omega);replace f41 := f41.upd u66 (by omega);replace e0 := e0.upd u66 (by omega);replace e1 := e1.upd u66 (by omega);refine gP ?_;apply gE;apply gS;refine gR rfl ?_;refine gO rfl rfl (fa27_0 rfl) rfl ?_;refine gO rfl rfl (ld22 rfl f0 rfl) rfl ?_;refine gP ?_;refine gO rfl rfl (aOp_indexAddr Tryz.underlying22 sz58 rfl q1 rfl (Nat.ble_eq_true_of_le hj)) rfl ?_;refine gO rfl rfl (aOp_loadE ag58 sz58 rfl (q2.ext e1)) rfl ?_;refine GoR.alloc rfl rfl rfl zt58 rfl rfl fun h67 x67 f67 => ?_;have := e0.1;have := e1.1;have := f65.1;have := f62.1;have := f0.1;have := f41.1;replace f65 := f65.ext x67;replace f62 := f62.ext x67;replace f0 := f0.ext x67;replace f41 := f41.ext x67;replace e0 := e0.trans x67;have := f67.1;refine GoR.store rfl rfl rfl rfl rfl rfl f67 rfl sz58 rfl rfl rfl fun h68 u68 => ?_;replace f67 := u68.has f67;replace f65 := f65.upd u68 (by omega);replace f62 := f62.upd u68 (by omega);replace f0 := f0.upd u68 (by omega);replace f41 := f41.upd u68 (by omega);replace e0 := e0.upd u68 (by omega);apply gE;apply gS;refine Go.drawnE plan7_2 ?_;refine gQ rfl rfl rfl rfl ?_;refine gQ rfl rfl (kXF rfl rfl) rfl ?_;iterate 2 refine gQ rfl rfl rfl rfl ?_
   refine gQ rfl rfl (kXF rfl rfl) rfl ?_;iterate 2 refine gQ rfl rfl rfl rfl ?_
   refine gQ rfl rfl (ld24 rfl f62 rfl) rfl ?_;refine gQ rfl rfl (ld24 rfl f65 rfl) rfl ?_;refine gQ rfl rfl (aOp_neqSpan spanT24 rfl rfl (r := false) (by simp)) rfl ?_;iterate 2 refine gQ rfl rfl rfl rfl ?_
   refine gQ rfl rfl (ld24 rfl f62 rfl) rfl ?_;refine gQ rfl rfl (fa58_0 rfl) rfl ?_;refine gQ rfl rfl (fa24_0 rfl) rfl ?_;refine gQ rfl rfl (ld3 rfl f67 rfl) rfl ?_;refine gQ rfl rfl (fa58_1 rfl) rfl ?_;refine gQ rfl rfl (fa24_0 rfl) rfl ?_;refine gQ rfl rfl (ld3 rfl f67 rfl) rfl ?_;refine gQ rfl rfl (aOp_mul rfl rfl rfl (by constructor <;> omega)) rfl ?_;refine gQ rfl rfl (fa58_2 rfl) rfl ?_;refine gQ rfl rfl (fa24_0 rfl) rfl ?_;refine gQ rfl rfl (ld3 rfl f67 rfl) rfl ?_;refine gQ rfl rfl (aOp_mul rfl rfl rfl (by constructor <;> omega)) rfl ?_;refine gQ rfl rfl (fa27_1 rfl) rfl ?_;refine gQ rfl rfl (fa24_0 rfl) rfl ?_;refine gQ rfl rfl (ld3 rfl f0 rfl) rfl ?_;refine gQ rfl rfl (aOp_mul rfl rfl rfl (by constructor <;> omega)) rfl ?_;refine gQ rfl rfl (fa58_0 rfl) rfl ?_;refine gQ rfl rfl (fa24_1 rfl) rfl ?_;refine gQ rfl rfl (ld3 rfl f67 rfl) rfl ?_;refine gQ rfl rfl (fa58_1 rfl) rfl ?_;refine gQ rfl rfl (fa24_1 rfl) rfl ?_;refine gQ rfl rfl (ld3 rfl f67 rfl) rfl ?_;refine gQ rfl rfl (aOp_mul rfl rfl rfl (by constructor <;> omega)) rfl ?_;refine gQ rfl rfl (fa58_2 rfl) rfl ?_;refine gQ rfl rfl (fa24_1 rfl) rfl ?_;refine gQ rfl rfl (ld3 rfl f67 rfl) rfl ?_;refine gQ rfl rfl (aOp_mul rfl rfl rfl (by constructor <;> omega)) rfl ?_;refine gQ rfl rfl (fa27_1 rfl) rfl ?_;refine gQ rfl rfl (fa24_1 rfl) rfl ?_;refine gQ rfl rfl (ld3 rfl f0 rfl) rfl ?_;refine gQ rfl rfl (aOp_mul rfl rfl rfl (by constructor <;> omega)) rfl ?_;refine GoE.call rfl rfl (aCF aFunc36 rfl) (span36_ok) (dD 8796093018111 42 (dD 8796093018111 41 (dD 8796093018111 40 (dD 8796093018111 39 (dD 8796093018111 38 (dD 8796093018111 37 (dD 8796093018111 36 (dD 8796093018111 35 (dD 8796093018111 34 (dD 8796093018111 33 (dD 8796093018111 32 (dD 8796093018111 31 (dD 8796093018111 30 (dD 8796093018111 29 (dD 8796093018111 28 (dD 8796093018111 27 (dD 8796093018111 26 (dD 8796093018111 25 (dD 8796093018111 24 (dD 8796093018111 23 (dD 8796093018111 22 (dD 8796093018111 21 (dD 8796093018111 20 (dD 8796093018111 19 (dD 8796093018111 18 (dD 8796093018111 17 (dD 8796093018111 16 (dD 8796093018111 15 (dD 8796093018111 14 (dD 8796093018111 13 (dK 8796093018111 12 (dD 8796093018111 11 (dD 8796093018111 10 (dD 8796093018111 9 (dD 8796093018111 8 (dD 8796093018111 7 (dD 8796093018111 6 (dD 8796093018111 5 (dD 8796093018111 4 (dD 8796093018111 3 (dD 8796093018111 2 (dD 8796093018111 1 (dD 8796093018111 0 rfl))))))))))))))))))))))))))))))))))))))))))) ?_ np;rintro v69 h69 ⟨q, x69⟩;cases q;replace f62 := f62.ext x69;replace f0 := f0.ext x69;replace f41 := f41.ext x69;replace e0 := e0.trans x69;refine ⟨(rck (h2 := h69) rfl (ld24 rfl f62 rfl) recheck_nil), _, rfl, ?_⟩;refine gQ rfl rfl (aOp_neqSpan spanT24 rfl rfl (r := false) (by simp)) rfl ?_;refine gQ rfl rfl rfl rfl ?_;refine GoE.end rfl ?_;refine gC (b := false) rfl ?_;refine gD ?_;refine Go.inBlock noJ_ok ?_;refine gR rfl ?_;refine gO rfl rfl (aA rfl rfl) rfl ?_;refine gP ?_;apply gE;exact again (m - 1) (j + 1) _ _ (by omega) ⟨rfl, rfl, rfl, rfl, rfl, trivial⟩ ⟨by omega, e0, f0, f41⟩
  ·apply gS;refine gR rfl ?_;refine gO rfl rfl (kLF rfl rfl) rfl ?_;apply gE;apply gS;refine gC (b := false) rfl ?_;refine gD ?_;apply gS;refine gR rfl ?_;refine GoR.call rfl rfl (aCF aFunc12 rfl) (alive_ok) ?_ np;rintro v61 h61 ⟨q, x61⟩;cases q;refine ⟨_, rfl, ?_⟩;replace e0 := e0.trans x61;refine gP ?_;apply gE;exact gW Tryz.func7 rfl rfl ⟨rfl, e0⟩
theorem law7 {C : ClampV} {sp se : AVal} {h : AH} (A : ClampAt h C sp se) (hb : C.ps.length < 9223372036854775808 ∧ C.es.length < 9223372036854775808) : Runs Tryz.prog 7 [.agg (C.cells sp se)] h (fun en h' => en = .ret (.bool true) ∧ Ext h h') := by
 by_cases O : C.Ok
 ·cases hp : C.possible with
  | true => exact law7_yes A O hp
  | false => exact law7_no A O hp
 ·exact law7_bad A hb O
end Go.Proofs.YtobhkdgcciolmaaGreat
