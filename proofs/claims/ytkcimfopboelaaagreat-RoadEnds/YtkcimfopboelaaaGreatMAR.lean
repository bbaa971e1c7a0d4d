import Derived.Test.YtkcimfopboelaaaGreatMAQ
import Derived.Test.YtkcimfopboelaaaGreatMAG
import Derived.Deep.Slices
import Derived.Lib.SmallJoins
import Derived.Carry
import Derived.Laws.IdiomArrays
import Derived.Test.YtkcimfopboelaaaGreatRows
import Derived.WalkKit
import Derived.ProofKit
import Derived.OpenShut
namespace Go.Proofs.YtkcimfopboelaaaGreat
open Go Go.AbsE
set_option linter.unusedSimpArgs false
set_option maxRecDepth 100000
set_option maxHeartbeats 0
set_option linter.unusedVariables false
theorem inside39_is {n lo hi : Int} {r : Bool} (hr : decide (lo ≤ n ∧ n ≤ hi) = r) {h : AH} : Runs Tryz.prog 39 [.int .i64 n, .agg [.int .i64 lo, .int .i64 hi]] h (fun en h' => en = .ret (.bool r) ∧ Ext h h') := by
 subst hr
 have e0 : Ext h h := Ext.refl _
 refine Runs.intro aFunc39 rfl rfl rfl rfl fun rest => ?_;apply gS;refine gR rfl ?_;refine GoR.box rfl rfl rfl rfl rfl rfl fun h0 x0 f0 => ?_;have := e0.1;replace e0 := e0.trans x0;have := f0.1;refine gP ?_;apply gE;apply gS;refine gR rfl ?_;refine gO rfl rfl (fa29_0 rfl) rfl ?_;refine gO rfl rfl (ld3 rfl f0 rfl) rfl ?_;refine gP ?_
 by_cases hs0 : (lo : Int) ≤ n
 ·refine gO rfl rfl (kMT rfl rfl) rfl ?_;iterate 2 refine gP ?_
  refine gO rfl rfl (fa29_1 rfl) rfl ?_;refine gO rfl rfl (ld3 rfl f0 rfl) rfl ?_
  by_cases hs1 : (n : Int) ≤ hi
  ·refine gO rfl rfl (kMT rfl rfl) rfl ?_;iterate 2 refine gP ?_
   apply gE;exact gV (ret_end (aResult_of Tryz.func39 rfl rfl) ⟨ret_true (by omega), e0⟩)
  ·refine gO rfl rfl (kMF rfl rfl) rfl ?_;iterate 2 refine gP ?_
   apply gE;exact gV (ret_end (aResult_of Tryz.func39 rfl rfl) ⟨ret_false (by omega), e0⟩)
 ·refine gO rfl rfl (kMF rfl rfl) rfl ?_;refine gP ?_;iterate 4 refine GoR.skip rfl rfl rfl ?_
  iterate 2 refine gP ?_
  apply gE;exact gV (ret_end (aResult_of Tryz.func39 rfl rfl) ⟨ret_false (by omega), e0⟩)
theorem sinksR_is {R : RoadV} (O : R.Ok) {i : Nat} (hi : i < R.ps.length) {l : Int} (hl : 0 ≤ l ∧ l ≤ 60) : R.sinksR i l = if R.possible = true then (spreadV R.known i (fun f => f.x.sinks l), 0) else (zSp, 10) := by
 unfold RoadV.sinksR
 rw [if_pos O, if_pos (by omega), if_pos hl, Int.toNat_natCast]
theorem sinksR_far {R : RoadV} (O : R.Ok) (l : Int) : R.sinksR (R.ps.length : Nat) l = ((0, 0), 2) := by
 unfold RoadV.sinksR
 rw [if_pos O, if_neg (by omega)]
 rfl
theorem bearsR_far {R : RoadV} (O : R.Ok) : R.bearsR 61 = (0, 2) := by
 unfold RoadV.bearsR
 rw [if_pos O, if_neg (by omega)]
theorem restR_far {R : RoadV} (O : R.Ok) : R.restR (-1) = (0, 2) := by
 unfold RoadV.restR
 rw [if_pos O, if_neg (by omega)]
theorem heightR_far {R : RoadV} (O : R.Ok) : R.heightR 0 (R.es.length : Nat) = ((0, 0), 2) := by
 have := O.np
 unfold RoadV.heightR
 rw [if_pos O, if_pos (by omega), if_neg (by omega)]
 rfl
theorem law7_bad {R : RoadV} {sp se : AVal} {h : AH} (A : RoadAt h R sp se) (hb : R.ps.length < 9223372036854775808 ∧ R.es.length < 9223372036854775808) {w1 w2 : Int} (O : ¬ R.Ok) : Runs Tryz.prog 7 [.agg [sp, se], .int .u8 w1, .int .u8 w2] h (fun en h' => en = .ret (.bool true) ∧ Ext h h') := by
 have hL := fun {h'} (e : Ext h h') => long13_ok (A.ext e) hb
 by_cases hs : R.ps.length ≤ 40 ∧ R.es.length ≤ 40
 ·rw [decide_eq_false (by simpa using hs)] at hL
  have hR := fun {h'} (e : Ext h h') => Road36_ok (A.ext e) hs.1 hs.2
  rw [decide_eq_false O] at hR
  have hMo := fun {h'} (e : Ext h h') => Most_ok (A.ext e) hs.1 hs.2
  have hCl := fun {h'} (e : Ext h h') => Clash_ok (A.ext e) hs.1 hs.2
  rw [show R.mostR = (0, 1) from by unfold RoadV.mostR; rw [if_neg O]] at hMo;rw [show R.clashR = (0, 1) from by unfold RoadV.clashR; rw [if_neg O]] at hCl
  have e0 : Ext h h := Ext.refl _
  refine Runs.intro aFunc7 rfl rfl rfl rfl fun rest => ?_;apply gS;refine gR rfl ?_;refine GoR.box rfl rfl rfl rfl rfl rfl fun h0 x0 f0 => ?_;replace e0 := e0.trans x0;refine gP ?_;apply gE;iterate 2 apply gS
  refine gR rfl ?_;refine gO rfl rfl (ld25 rfl f0 rfl) rfl ?_;refine GoR.call rfl rfl (aCF aFunc13 rfl) (hL e0) ?_ np;rintro v1 h1 ⟨q, x1⟩;cases q;refine ⟨_, rfl, ?_⟩;replace f0 := f0.ext x1;replace e0 := e0.trans x1;apply gE;refine gC (b := false) rfl ?_;refine gD ?_;iterate 2 apply gS
  refine gR rfl ?_;refine gO rfl rfl (ld25 rfl f0 rfl) rfl ?_;refine GoR.call rfl rfl (aCF aFunc36 rfl) (hR e0) ?_ np;rintro v2 h2 ⟨q, x2⟩;cases q;refine ⟨_, rfl, ?_⟩;replace f0 := f0.ext x2;replace e0 := e0.trans x2;refine gP ?_;apply gE;refine gC (b := true) rfl ?_;apply gS;refine gR rfl ?_;refine gO rfl rfl (ld25 rfl f0 rfl) rfl ?_;refine GoR.call rfl rfl (aCF aFunc24 rfl) (hMo e0) ?_ np;rintro v3 h3 ⟨q, x3⟩;cases q;refine ⟨_, rfl, ?_⟩;replace f0 := f0.ext x3;replace e0 := e0.trans x3;iterate 5 refine gP ?_
  apply gE;apply gS;refine gR rfl ?_;refine gO rfl rfl (ld25 rfl f0 rfl) rfl ?_;refine GoR.call rfl rfl (aCF aFunc30 rfl) (hCl e0) ?_ np;rintro v4 h4 ⟨q, x4⟩;cases q;refine ⟨_, rfl, ?_⟩;replace e0 := e0.trans x4;iterate 5 refine gP ?_
  apply gE;apply gS;refine gR rfl ?_;refine gP ?_;refine gO rfl rfl (kET rfl rfl) rfl ?_;iterate 3 refine gP ?_
  refine gO rfl rfl (kET rfl rfl) rfl ?_;iterate 3 refine gP ?_
  refine gO rfl rfl (kET rfl rfl) rfl ?_;iterate 2 refine gP ?_
  refine GoR.call rfl rfl (aCF aFunc14 rfl) (alive_ok) ?_ np;rintro v5 h5 ⟨q, x5⟩;cases q;refine ⟨_, rfl, ?_⟩;replace e0 := e0.trans x5;iterate 2 refine gP ?_
  apply gE;exact gW Tryz.func7 rfl rfl ⟨rfl, e0⟩
 ·rw [decide_eq_true (by simpa using hs)] at hL
  have e0 : Ext h h := Ext.refl _
  refine Runs.intro aFunc7 rfl rfl rfl rfl fun rest => ?_;apply gS;refine gR rfl ?_;refine GoR.box rfl rfl rfl rfl rfl rfl fun h0 x0 f0 => ?_;replace e0 := e0.trans x0;refine gP ?_;apply gE;iterate 2 apply gS
  refine gR rfl ?_;refine gO rfl rfl (ld25 rfl f0 rfl) rfl ?_;refine GoR.call rfl rfl (aCF aFunc13 rfl) (hL e0) ?_ np;rintro v1 h1 ⟨q, x1⟩;cases q;refine ⟨_, rfl, ?_⟩;replace e0 := e0.trans x1;apply gE;refine gC (b := true) rfl ?_;apply gS;refine gR rfl ?_;refine GoR.call rfl rfl (aCF aFunc14 rfl) (alive_ok) ?_ np;rintro v2 h2 ⟨q, x2⟩;cases q;refine ⟨_, rfl, ?_⟩;replace e0 := e0.trans x2;refine gP ?_;apply gE;exact gW Tryz.func7 rfl rfl ⟨rfl, e0⟩
theorem law7_ok {R : RoadV} {sp se : AVal} {h : AH} (A : RoadAt h R sp se) (O : R.Ok) {a b : Nat} (ha : a < 256) (hb' : b < 256) : Runs Tryz.prog 7 [.agg [sp, se], .int .u8 a, .int .u8 b] h (fun en h' => en = .ret (.bool true) ∧ Ext h h') := by
 have hnp := O.np
 have hne := O.ne
 have hs : R.ps.length ≤ 40 ∧ R.es.length ≤ 40 := by omega
 have hL := fun {h'} (e : Ext h h') => long13_ok (A.ext e) (by omega)
 rw [decide_eq_false (by simpa using hs)] at hL
 have hR := fun {h'} (e : Ext h h') => Road36_ok (A.ext e) hs.1 hs.2
 rw [decide_eq_true O] at hR
 have hl1 := A.ps.len
 have hl2 := A.es.len
 rw [List.length_map] at hl1 hl2
 obtain ⟨k, hk⟩ : ∃ k, a % R.ps.length = k := ⟨_, rfl⟩
 have hkl : k < R.ps.length := by rw [← hk]; exact Nat.mod_lt _ (by omega)
 obtain ⟨l, hl⟩ : ∃ l, b % 60 = l := ⟨_, rfl⟩
 have hll : l < 60 := by rw [← hl]; exact Nat.mod_lt _ (by omega)
 have hS1 := fun {h'} (e : Ext h h') => Sinks_ok (A.ext e) hs.1 hs.2 (k : Nat) (l : Nat)
 have hS2 := fun {h'} (e : Ext h h') => Sinks_ok (A.ext e) hs.1 hs.2 (k : Nat) ((l : Nat) + 1)
 have hS3 := fun {h'} (e : Ext h h') => Sinks_ok (A.ext e) hs.1 hs.2 (R.ps.length : Nat) 0
 have hB := fun {h'} (e : Ext h h') => Bears_ok (A.ext e) hs.1 hs.2 61
 have hRe := fun {h'} (e : Ext h h') => Rest_ok (A.ext e) hs.1 hs.2 (-1)
 have hH0 := fun {h'} (e : Ext h h') => Height_ok (A.ext e) hs.1 hs.2 0 (R.es.length : Nat)
 have hCl := fun {h'} (e : Ext h h') => Clash_ok (A.ext e) hs.1 hs.2
 rw [sinksR_far O] at hS3;rw [bearsR_far O] at hB;rw [restR_far O] at hRe;rw [heightR_far O] at hH0;rw [sinksR_is O hkl (by omega)] at hS1 hS2
 cases hp : R.possible with
 | false =>
  rw [if_neg (by rw [hp]; decide)] at hS1 hS2;rw [show R.clashR = (R.clashI.getD 0, 0) from by unfold RoadV.clashR; rw [if_pos O, if_neg (by rw [hp]; decide)]] at hCl
  have e0 : Ext h h := Ext.refl _
  refine Runs.intro aFunc7 rfl rfl rfl rfl fun rest => ?_;apply gS;refine gR rfl ?_;refine GoR.box rfl rfl rfl rfl rfl rfl fun h0 x0 f0 => ?_;have := e0.1;replace e0 := e0.trans x0;have := f0.1;refine gP ?_;apply gE;iterate 2 apply gS
  refine gR rfl ?_;refine gO rfl rfl (ld25 rfl f0 rfl) rfl ?_;refine GoR.call rfl rfl (aCF aFunc13 rfl) (hL e0) ?_ np;rintro v1 h1 ⟨q, x1⟩;cases q;refine ⟨_, rfl, ?_⟩;replace f0 := f0.ext x1;replace e0 := e0.trans x1;apply gE;refine gC (b := false) rfl ?_;refine gD ?_;iterate 2 apply gS
  refine gR rfl ?_;refine gO rfl rfl (ld25 rfl f0 rfl) rfl ?_;refine GoR.call rfl rfl (aCF aFunc36 rfl) (hR e0) ?_ np;rintro v2 h2 ⟨q, x2⟩;cases q;refine ⟨_, rfl, ?_⟩;replace f0 := f0.ext x2;replace e0 := e0.trans x2;refine gP ?_;apply gE;refine gC (b := false) rfl ?_;refine gD ?_;apply gS;refine gR rfl ?_;refine gP ?_;refine gO rfl rfl (aOp_convU8 rfl Tryz.underlying5 Tryz.underlying3 (by omega)) rfl ?_;refine gO rfl rfl (fa25_0 rfl) rfl ?_;refine gO rfl rfl (ld22 rfl f0 rfl) rfl ?_;refine gO rfl rfl (aOp_lenSlice Tryz.underlying22 rfl hl1) rfl ?_;refine gO rfl rfl (aOp_rem (r := ((k : Nat) : Int)) rfl rfl (by omega) (by rw [← hk]; rfl)) rfl ?_;refine gP ?_;refine gO rfl rfl (aOp_convU8 rfl Tryz.underlying5 Tryz.underlying3 (by omega)) rfl ?_;refine gO rfl rfl (aOp_rem (r := ((l : Nat) : Int)) rfl rfl (by omega) (by rw [← hl]; rfl)) rfl ?_;iterate 2 refine gP ?_
  apply gE;apply gS;refine gR rfl ?_;refine gO rfl rfl (ld25 rfl f0 rfl) rfl ?_;iterate 2 refine gP ?_
  refine GoR.call rfl rfl (aCF aFunc17 rfl) (hS1 e0) ?_ np;rintro v3 h3 ⟨q, x3⟩;cases q;refine ⟨_, rfl, ?_⟩;replace f0 := f0.ext x3;replace e0 := e0.trans x3;iterate 3 refine gP ?_
  refine GoR.alloc rfl rfl rfl zt29 rfl rfl fun h4 x4 f4 => ?_;have := e0.1;have := f0.1;replace f0 := f0.ext x4;replace e0 := e0.trans x4;have := f4.1;refine GoR.store rfl rfl rfl rfl rfl rfl f4 rfl sz29 rfl rfl rfl fun h5 u5 => ?_;replace f4 := u5.has f4;replace f0 := f0.upd u5 (by omega);replace e0 := e0.upd u5 (by omega);refine gP ?_;apply gE;apply gS;refine gR rfl ?_;refine gO rfl rfl (ld25 rfl f0 rfl) rfl ?_;iterate 2 refine gP ?_
  refine gO rfl rfl (aA rfl rfl) rfl ?_;refine GoR.call rfl rfl (aCF aFunc17 rfl) (hS2 e0) ?_ np;rintro v6 h6 ⟨q, x6⟩;cases q;refine ⟨_, rfl, ?_⟩;replace f4 := f4.ext x6;replace f0 := f0.ext x6;replace e0 := e0.trans x6;iterate 3 refine gP ?_
  refine GoR.alloc rfl rfl rfl zt29 rfl rfl fun h7 x7 f7 => ?_;have := e0.1;have := f4.1;have := f0.1;replace f4 := f4.ext x7;replace f0 := f0.ext x7;replace e0 := e0.trans x7;have := f7.1;refine GoR.store rfl rfl rfl rfl rfl rfl f7 rfl sz29 rfl rfl rfl fun h8 u8 => ?_;replace f7 := u8.has f7;replace f4 := f4.upd u8 (by omega);replace f0 := f0.upd u8 (by omega);replace e0 := e0.upd u8 (by omega);refine gP ?_;apply gE;apply gS;refine gR rfl ?_;refine gO rfl rfl (ld25 rfl f0 rfl) rfl ?_;refine gO rfl rfl (fa25_0 rfl) rfl ?_;refine gO rfl rfl (ld22 rfl f0 rfl) rfl ?_;refine gO rfl rfl (aOp_lenSlice Tryz.underlying22 rfl hl1) rfl ?_;refine GoR.call rfl rfl (aCF aFunc17 rfl) (hS3 e0) ?_ np;rintro v9 h9 ⟨q, x9⟩;cases q;refine ⟨_, rfl, ?_⟩;replace f7 := f7.ext x9;replace f4 := f4.ext x9;replace f0 := f0.ext x9;replace e0 := e0.trans x9;iterate 3 refine gP ?_
  refine GoR.alloc rfl rfl rfl zt29 rfl rfl fun h10 x10 f10 => ?_;have := e0.1;have := f7.1;have := f4.1;have := f0.1;replace f7 := f7.ext x10;replace f4 := f4.ext x10;replace f0 := f0.ext x10;replace e0 := e0.trans x10;have := f10.1;refine GoR.store rfl rfl rfl rfl rfl rfl f10 rfl sz29 rfl rfl rfl fun h11 u11 => ?_;replace f10 := u11.has f10;replace f7 := f7.upd u11 (by omega);replace f4 := f4.upd u11 (by omega);replace f0 := f0.upd u11 (by omega);replace e0 := e0.upd u11 (by omega);refine gP ?_;apply gE;apply gS;refine gR rfl ?_;refine gO rfl rfl (ld25 rfl f0 rfl) rfl ?_;refine GoR.call rfl rfl (aCF aFunc19 rfl) (hB e0) ?_ np;rintro v12 h12 ⟨q, x12⟩;cases q;refine ⟨_, rfl, ?_⟩;replace f10 := f10.ext x12;replace f7 := f7.ext x12;replace f4 := f4.ext x12;replace f0 := f0.ext x12;replace e0 := e0.trans x12;iterate 5 refine gP ?_
  apply gE;apply gS;refine gR rfl ?_;refine gO rfl rfl (ld25 rfl f0 rfl) rfl ?_;refine GoR.call rfl rfl (aCF aFunc26 rfl) (hRe e0) ?_ np;rintro v13 h13 ⟨q, x13⟩;cases q;refine ⟨_, rfl, ?_⟩;replace f10 := f10.ext x13;replace f7 := f7.ext x13;replace f4 := f4.ext x13;replace f0 := f0.ext x13;replace e0 := e0.trans x13;iterate 5 refine gP ?_
  apply gE;apply gS;refine gR rfl ?_;refine gO rfl rfl (ld25 rfl f0 rfl) rfl ?_;refine gO rfl rfl (fa25_1 rfl) rfl ?_;refine gO rfl rfl (ld23 rfl f0 rfl) rfl ?_;refine gO rfl rfl (aOp_lenSlice Tryz.underlying23 rfl hl2) rfl ?_;refine GoR.call rfl rfl (aCF aFunc15 rfl) (hH0 e0) ?_ np;rintro v14 h14 ⟨q, x14⟩;cases q;refine ⟨_, rfl, ?_⟩;replace f10 := f10.ext x14;replace f7 := f7.ext x14;replace f4 := f4.ext x14;replace f0 := f0.ext x14;replace e0 := e0.trans x14;iterate 3 refine gP ?_
  refine GoR.alloc rfl rfl rfl zt29 rfl rfl fun h15 x15 f15 => ?_;have := e0.1;have := f10.1;have := f7.1;have := f4.1;have := f0.1;replace f10 := f10.ext x15;replace f7 := f7.ext x15;replace f4 := f4.ext x15;replace f0 := f0.ext x15;replace e0 := e0.trans x15;have := f15.1;refine GoR.store rfl rfl rfl rfl rfl rfl f15 rfl sz29 rfl rfl rfl fun h16 u16 => ?_;replace f15 := u16.has f15;replace f10 := f10.upd u16 (by omega);replace f7 := f7.upd u16 (by omega);replace f4 := f4.upd u16 (by omega);replace f0 := f0.upd u16 (by omega);replace e0 := e0.upd u16 (by omega);refine gP ?_;apply gE;apply gS;refine gR rfl ?_;refine gO rfl rfl (ld25 rfl f0 rfl) rfl ?_;refine GoR.call rfl rfl (aCF aFunc30 rfl) (hCl e0) ?_ np;rintro v17 h17 ⟨q, x17⟩;cases q;refine ⟨_, rfl, ?_⟩;replace f15 := f15.ext x17;replace f10 := f10.ext x17;replace f7 := f7.ext x17;replace f4 := f4.ext x17;replace f0 := f0.ext x17;replace e0 := e0.trans x17;iterate 5 refine gP ?_
  apply gE;iterate 2 apply gS
  refine gR rfl ?_;iterate 2 refine gP ?_
  refine gO rfl rfl (kXF rfl rfl) rfl ?_;iterate 2 refine gP ?_
  refine gO rfl rfl (kXF rfl rfl) rfl ?_;iterate 4 refine gP ?_
  refine gO rfl rfl (kXF rfl rfl) rfl ?_;iterate 4 refine gP ?_
  refine gO rfl rfl (kXF rfl rfl) rfl ?_;iterate 4 refine gP ?_
  refine gO rfl rfl (kXF rfl rfl) rfl ?_;iterate 3 refine gP ?_
  refine gO rfl rfl (kEF rfl rfl) rfl ?_;refine gP ?_;refine gO rfl rfl (kEF rfl rfl) rfl ?_;refine gO rfl rfl (aOp_neqBool (r := false) rfl rfl Tryz.underlying4 rfl) rfl ?_;refine gP ?_;apply gE;refine gC (b := false) rfl ?_;refine gD ?_;iterate 2 apply gS
  refine gR rfl ?_;refine gP ?_;refine gO rfl rfl (kXT rfl rfl) rfl ?_;apply gE;refine gC (b := true) rfl ?_;apply gS;refine gR rfl ?_;refine gP ?_;refine gO rfl rfl (kET rfl rfl) rfl ?_;refine gP ?_;refine gO rfl rfl (ld29 rfl f4 rfl) rfl ?_;refine gO rfl rfl (aOp_build (ps := []) (cs := [.int .i64 0, .int .i64 0]) zt29 hu29 pl29 rfl rfl) rfl ?_;refine gO rfl rfl (aOp_eqlSpan spanT29 rfl rfl (r := true) rfl) rfl ?_;iterate 2 refine gP ?_
  refine gO rfl rfl (ld29 rfl f7 rfl) rfl ?_;refine gO rfl rfl (aOp_build (ps := []) (cs := [.int .i64 0, .int .i64 0]) zt29 hu29 pl29 rfl rfl) rfl ?_;refine gO rfl rfl (aOp_eqlSpan spanT29 rfl rfl (r := true) rfl) rfl ?_;iterate 2 refine gP ?_
  refine GoR.call rfl rfl (aCF aFunc14 rfl) (alive_ok) ?_ np;rintro v18 h18 ⟨q, x18⟩;cases q;refine ⟨_, rfl, ?_⟩;replace f15 := f15.ext x18;replace f10 := f10.ext x18;replace f7 := f7.ext x18;replace f4 := f4.ext x18;replace f0 := f0.ext x18;replace e0 := e0.trans x18;iterate 2 refine gP ?_
  apply gE;exact gW Tryz.func7 rfl rfl ⟨rfl, e0⟩
 | true =>
  rw [if_pos hp] at hS1 hS2;rw [show R.clashR = (0, 4) from by unfold RoadV.clashR; rw [if_pos O, if_pos hp]] at hCl
  obtain ⟨S, hS⟩ : ∃ S, (spreadV R.known k fun f => f.x.sinks (l : Int)) = S := ⟨_, rfl⟩
  obtain ⟨T, hT⟩ : ∃ T, (spreadV R.known k fun f => f.x.sinks ((l : Int) + 1)) = T := ⟨_, rfl⟩
  obtain ⟨q1, ⟨g1, q2, q3⟩, g2, q4, q5⟩ := sinks_ends O hp hkl (load := (l : Int)) (by omega)
  obtain ⟨q6, ⟨g3, q7, q8⟩, g4, q9, q10⟩ := sinks_ends O hp hkl (load := (l : Int) + 1) (by omega)
  rw [hS] at q1 q3 q5;rw [hT] at q6 q8 q10
  have hmon : ∀ f, f ∈ atPart R.known k → 0 ≤ f.x.sinks (l : Int) ∧ f.x.sinks (l : Int) ≤ f.x.sinks ((l : Int) + 1) ∧ (l = 0 → f.x.sinks (l : Int) = 0) := fun f hf => by
   have hx := (known_small O hf).1.s
   refine ⟨sinks_nonneg (by omega) hx.1, sinks_mono (by omega) (by omega) hx.1, fun z => ?_⟩;subst z;exact sinks_zero hx.1
  have S1 : S.1 ≤ S.2 := by have := q1 g1 q2; omega
  have S2 : S.1 ≤ T.1 := by
   have a1 := q1 g3 q7
   have a2 := hmon g3 q7
   omega
  have S3 : S.2 ≤ T.2 := by
   have a1 := q6 g2 q4
   have a2 := hmon g2 q4
   omega
  have S4 : 0 ≤ S.1 := by have := hmon g1 q2; omega
  have S6 : S.2 ≤ 60 := by
   have a1 : sinksV (l : Int) g2.x.stiff ≤ (l : Int) := sinks_le (by omega) (known_small O q4).1.s.1
   have a2 : sinksV (l : Int) g2.x.stiff = S.2 := q5
   omega
  have S5 : l = 0 → S = (0, 0) := fun z => Prod.ext (by rw [← q3, (hmon g1 q2).2.2 z]) (by rw [← q5, (hmon g2 q4).2.2 z])
  rw [hS] at hS1;rw [hT] at hS2
  dsimp only at hS1 hS2
  have e0 : Ext h h := Ext.refl _
  refine Runs.intro aFunc7 rfl rfl rfl rfl fun rest => ?_;apply gS;refine gR rfl ?_;refine GoR.box rfl rfl rfl rfl rfl rfl fun h0 x0 f0 => ?_;have := e0.1;replace e0 := e0.trans x0;have := f0.1;refine gP ?_;apply gE;iterate 2 apply gS
  refine gR rfl ?_;refine gO rfl rfl (ld25 rfl f0 rfl) rfl ?_;refine GoR.call rfl rfl (aCF aFunc13 rfl) (hL e0) ?_ np;rintro v1 h1 ⟨q, x1⟩;cases q;refine ⟨_, rfl, ?_⟩;replace f0 := f0.ext x1;replace e0 := e0.trans x1;apply gE;refine gC (b := false) rfl ?_;refine gD ?_;iterate 2 apply gS
  refine gR rfl ?_;refine gO rfl rfl (ld25 rfl f0 rfl) rfl ?_;refine GoR.call rfl rfl (aCF aFunc36 rfl) (hR e0) ?_ np;rintro v2 h2 ⟨q, x2⟩;cases q;refine ⟨_, rfl, ?_⟩;replace f0 := f0.ext x2;replace e0 := e0.trans x2;refine gP ?_;apply gE;refine gC (b := false) rfl ?_;refine gD ?_;apply gS;refine gR rfl ?_;refine gP ?_;refine gO rfl rfl (aOp_convU8 rfl Tryz.underlying5 Tryz.underlying3 (by omega)) rfl ?_;refine gO rfl rfl (fa25_0 rfl) rfl ?_;refine gO rfl rfl (ld22 rfl f0 rfl) rfl ?_;refine gO rfl rfl (aOp_lenSlice Tryz.underlying22 rfl hl1) rfl ?_;refine gO rfl rfl (aOp_rem (r := ((k : Nat) : Int)) rfl rfl (by omega) (by rw [← hk]; rfl)) rfl ?_;refine gP ?_;refine gO rfl rfl (aOp_convU8 rfl Tryz.underlying5 Tryz.underlying3 (by omega)) rfl ?_;refine gO rfl rfl (aOp_rem (r := ((l : Nat) : Int)) rfl rfl (by omega) (by rw [← hl]; rfl)) rfl ?_;iterate 2 refine gP ?_
  apply gE;apply gS;refine gR rfl ?_;refine gO rfl rfl (ld25 rfl f0 rfl) rfl ?_;iterate 2 refine gP ?_
  refine GoR.call rfl rfl (aCF aFunc17 rfl) (hS1 e0) ?_ np;rintro v3 h3 ⟨q, x3⟩;cases q;refine ⟨_, rfl, ?_⟩;replace f0 := f0.ext x3;replace e0 := e0.trans x3;iterate 3 refine gP ?_
  refine GoR.alloc rfl rfl rfl zt29 rfl rfl fun h4 x4 f4 => ?_;have := e0.1;have := f0.1;replace f0 := f0.ext x4;replace e0 := e0.trans x4;have := f4.1;refine GoR.store rfl rfl rfl rfl rfl rfl f4 rfl sz29 rfl rfl rfl fun h5 u5 => ?_;replace f4 := u5.has f4;replace f0 := f0.upd u5 (by omega);replace e0 := e0.upd u5 (by omega);refine gP ?_;apply gE;apply gS;refine gR rfl ?_;refine gO rfl rfl (ld25 rfl f0 rfl) rfl ?_;iterate 2 refine gP ?_
  refine gO rfl rfl (aA rfl rfl) rfl ?_;refine GoR.call rfl rfl (aCF aFunc17 rfl) (hS2 e0) ?_ np;rintro v6 h6 ⟨q, x6⟩;cases q;refine ⟨_, rfl, ?_⟩;replace f4 := f4.ext x6;replace f0 := f0.ext x6;replace e0 := e0.trans x6;iterate 3 refine gP ?_
  refine GoR.alloc rfl rfl rfl zt29 rfl rfl fun h7 x7 f7 => ?_;have := e0.1;have := f4.1;have := f0.1;replace f4 := f4.ext x7;replace f0 := f0.ext x7;replace e0 := e0.trans x7;have := f7.1;refine GoR.store rfl rfl rfl rfl rfl rfl f7 rfl sz29 rfl rfl rfl fun h8 u8 => ?_;replace f7 := u8.has f7;replace f4 := f4.upd u8 (by omega);replace f0 := f0.upd u8 (by omega);replace e0 := e0.upd u8 (by omega);refine gP ?_;apply gE;apply gS;refine gR rfl ?_;refine gO rfl rfl (ld25 rfl f0 rfl) rfl ?_;refine gO rfl rfl (fa25_0 rfl) rfl ?_;refine gO rfl rfl (ld22 rfl f0 rfl) rfl ?_;refine gO rfl rfl (aOp_lenSlice Tryz.underlying22 rfl hl1) rfl ?_;refine GoR.call rfl rfl (aCF aFunc17 rfl) (hS3 e0) ?_ np;rintro v9 h9 ⟨q, x9⟩;cases q;refine ⟨_, rfl, ?_⟩;replace f7 := f7.ext x9;replace f4 := f4.ext x9;replace f0 := f0.ext x9;replace e0 := e0.trans x9;iterate 3 refine gP ?_
  refine GoR.alloc rfl rfl rfl zt29 rfl rfl fun h10 x10 f10 => ?_;have := e0.1;have := f7.1;have := f4.1;have := f0.1;replace f7 := f7.ext x10;replace f4 := f4.ext x10;replace f0 := f0.ext x10;replace e0 := e0.trans x10;have := f10.1;refine GoR.store rfl rfl rfl rfl rfl rfl f10 rfl sz29 rfl rfl rfl fun h11 u11 => ?_;replace f10 := u11.has f10;replace f7 := f7.upd u11 (by omega);replace f4 := f4.upd u11 (by omega);replace f0 := f0.upd u11 (by omega);replace e0 := e0.upd u11 (by omega);refine gP ?_;apply gE;apply gS;refine gR rfl ?_;refine gO rfl rfl (ld25 rfl f0 rfl) rfl ?_;refine GoR.call rfl rfl (aCF aFunc19 rfl) (hB e0) ?_ np;rintro v12 h12 ⟨q, x12⟩;cases q;refine ⟨_, rfl, ?_⟩;replace f10 := f10.ext x12;replace f7 := f7.ext x12;replace f4 := f4.ext x12;replace f0 := f0.ext x12;replace e0 := e0.trans x12;iterate 5 refine gP ?_
  apply gE;apply gS;refine gR rfl ?_;refine gO rfl rfl (ld25 rfl f0 rfl) rfl ?_;refine GoR.call rfl rfl (aCF aFunc26 rfl) (hRe e0) ?_ np;rintro v13 h13 ⟨q, x13⟩;cases q;refine ⟨_, rfl, ?_⟩;replace f10 := f10.ext x13;replace f7 := f7.ext x13;replace f4 := f4.ext x13;replace f0 := f0.ext x13;replace e0 := e0.trans x13;iterate 5 refine gP ?_
  apply gE;apply gS;refine gR rfl ?_;refine gO rfl rfl (ld25 rfl f0 rfl) rfl ?_;refine gO rfl rfl (fa25_1 rfl) rfl ?_;refine gO rfl rfl (ld23 rfl f0 rfl) rfl ?_;refine gO rfl rfl (aOp_lenSlice Tryz.underlying23 rfl hl2) rfl ?_;refine GoR.call rfl rfl (aCF aFunc15 rfl) (hH0 e0) ?_ np;rintro v14 h14 ⟨q, x14⟩;cases q;refine ⟨_, rfl, ?_⟩;replace f10 := f10.ext x14;replace f7 := f7.ext x14;replace f4 := f4.ext x14;replace f0 := f0.ext x14;replace e0 := e0.trans x14;iterate 3 refine gP ?_
  refine GoR.alloc rfl rfl rfl zt29 rfl rfl fun h15 x15 f15 => ?_;have := e0.1;have := f10.1;have := f7.1;have := f4.1;have := f0.1;replace f10 := f10.ext x15;replace f7 := f7.ext x15;replace f4 := f4.ext x15;replace f0 := f0.ext x15;replace e0 := e0.trans x15;have := f15.1;refine GoR.store rfl rfl rfl rfl rfl rfl f15 rfl sz29 rfl rfl rfl fun h16 u16 => ?_;replace f15 := u16.has f15;replace f10 := f10.upd u16 (by omega);replace f7 := f7.upd u16 (by omega);replace f4 := f4.upd u16 (by omega);replace f0 := f0.upd u16 (by omega);replace e0 := e0.upd u16 (by omega);refine gP ?_;apply gE;apply gS;refine gR rfl ?_;refine gO rfl rfl (ld25 rfl f0 rfl) rfl ?_;refine GoR.call rfl rfl (aCF aFunc30 rfl) (hCl e0) ?_ np;rintro v17 h17 ⟨q, x17⟩;cases q;refine ⟨_, rfl, ?_⟩;replace f15 := f15.ext x17;replace f10 := f10.ext x17;replace f7 := f7.ext x17;replace f4 := f4.ext x17;replace f0 := f0.ext x17;replace e0 := e0.trans x17;iterate 5 refine gP ?_
  apply gE;iterate 2 apply gS
  refine gR rfl ?_;iterate 2 refine gP ?_
  refine gO rfl rfl (kXF rfl rfl) rfl ?_;iterate 2 refine gP ?_
  refine gO rfl rfl (kXF rfl rfl) rfl ?_;iterate 4 refine gP ?_
  refine gO rfl rfl (kXF rfl rfl) rfl ?_;iterate 4 refine gP ?_
  refine gO rfl rfl (kXF rfl rfl) rfl ?_;iterate 4 refine gP ?_
  refine gO rfl rfl (kXF rfl rfl) rfl ?_;iterate 3 refine gP ?_
  refine gO rfl rfl (kET rfl rfl) rfl ?_;refine gP ?_;refine gO rfl rfl (kET rfl rfl) rfl ?_;refine gO rfl rfl (aOp_neqBool (r := false) rfl rfl Tryz.underlying4 rfl) rfl ?_;refine gP ?_;apply gE;refine gC (b := false) rfl ?_;refine gD ?_;iterate 2 apply gS
  refine gR rfl ?_;refine gP ?_;refine gO rfl rfl (kXF rfl rfl) rfl ?_;apply gE;refine gC (b := false) rfl ?_;refine gD ?_;refine Go.seq noJ_ok (Go.join (fun b : Nat => [(3, .ptr h.next 0), (11, .int .i64 (k : Nat)), (12, .int .i64 (l : Nat)), (13, .ptr b 0)]) (fun b h' => Ext h h' ∧ Has h' h.next (.cells .plain [sp, se] 25) ∧ Has h' b (.cells .plain [.int .i64 S.1, .int .i64 S.2] 29)) ?_ ?_)
  ·intro k' done
   by_cases l0 : l = 0
   ·have hSz := S5 l0
    subst l0;subst hSz;apply gS;refine Go.drawnE plan7_0 ?_;refine gQ rfl rfl (fa29_0 rfl) rfl ?_;refine gQ rfl rfl (ld3 rfl f4 rfl) rfl ?_;refine gQ rfl rfl (fa29_1 rfl) rfl ?_;refine gQ rfl rfl (ld3 rfl f4 rfl) rfl ?_;refine gQ rfl rfl (kGF rfl rfl) rfl ?_;refine gQ rfl rfl rfl rfl ?_;refine gQ rfl rfl (fa29_0 rfl) rfl ?_;refine gQ rfl rfl (ld3 rfl f7 rfl) rfl ?_;refine gQ rfl rfl (fa29_0 rfl) rfl ?_;refine gQ rfl rfl (ld3 rfl f4 rfl) rfl ?_;refine gQ rfl rfl (kLF rfl rfl) rfl ?_;iterate 2 refine gQ rfl rfl rfl rfl ?_
    refine gQ rfl rfl (fa29_1 rfl) rfl ?_;refine gQ rfl rfl (ld3 rfl f7 rfl) rfl ?_;refine gQ rfl rfl (fa29_1 rfl) rfl ?_;refine gQ rfl rfl (ld3 rfl f4 rfl) rfl ?_;refine gQ rfl rfl (kLF rfl rfl) rfl ?_;iterate 2 refine gQ rfl rfl rfl rfl ?_
    refine gQ rfl rfl (fa29_0 rfl) rfl ?_;refine gQ rfl rfl (ld3 rfl f4 rfl) rfl ?_;refine gQ rfl rfl (kLF rfl rfl) rfl ?_;iterate 3 refine gQ rfl rfl rfl rfl ?_
    refine gQ rfl rfl (kET rfl rfl) rfl ?_;refine gQ rfl rfl rfl rfl ?_;refine gQ rfl rfl (ld29 rfl f4 rfl) rfl ?_;refine GoE.call rfl rfl (aCF aFunc33 rfl) (span33_ok) (dK 268435455 28 (dD 268435455 27 (dD 268435455 26 (dD 268435455 25 (dD 268435455 24 (dD 268435455 23 (dD 268435455 22 (dD 268435455 21 (dD 268435455 20 (dD 268435455 19 (dD 268435455 18 (dD 268435455 17 (dD 268435455 16 (dD 268435455 15 (dD 268435455 14 (dD 268435455 13 (dD 268435455 12 (dD 268435455 11 (dD 268435455 10 (dD 268435455 9 (dD 268435455 8 (dD 268435455 7 (dD 268435455 6 (dD 268435455 5 (dD 268435455 4 (dD 268435455 3 (dD 268435455 2 (dD 268435455 1 (dD 268435455 0 rfl))))))))))))))))))))))))))))) ?_ np;rintro v18 h18 ⟨q, x18⟩;cases q;replace f15 := f15.ext x18;replace f10 := f10.ext x18;replace f7 := f7.ext x18;replace f0 := f0.ext x18;replace f4 := f4.ext x18;replace e0 := e0.trans x18;refine ⟨(rck (h2 := h18) rfl (ld29 rfl f4 rfl) recheck_nil), _, rfl, ?_⟩;refine gQ rfl rfl (aOp_neqSpan spanT29 rfl rfl (r := false) rfl) rfl ?_;iterate 2 refine gQ rfl rfl rfl rfl ?_
    refine GoE.end rfl ?_;refine gC (b := false) rfl ?_;refine gD ?_;exact done _ _ _ ⟨rfl, rfl, rfl, rfl, trivial⟩ ⟨e0, f0, by assumption⟩
   ·apply gS;refine Go.drawnE plan7_0 ?_;refine gQ rfl rfl (fa29_0 rfl) rfl ?_;refine gQ rfl rfl (ld3 rfl f4 rfl) rfl ?_;refine gQ rfl rfl (fa29_1 rfl) rfl ?_;refine gQ rfl rfl (ld3 rfl f4 rfl) rfl ?_;refine gQ rfl rfl (kGF rfl rfl) rfl ?_;refine gQ rfl rfl rfl rfl ?_;refine gQ rfl rfl (fa29_0 rfl) rfl ?_;refine gQ rfl rfl (ld3 rfl f7 rfl) rfl ?_;refine gQ rfl rfl (fa29_0 rfl) rfl ?_;refine gQ rfl rfl (ld3 rfl f4 rfl) rfl ?_;refine gQ rfl rfl (kLF rfl rfl) rfl ?_;iterate 2 refine gQ rfl rfl rfl rfl ?_
    refine gQ rfl rfl (fa29_1 rfl) rfl ?_;refine gQ rfl rfl (ld3 rfl f7 rfl) rfl ?_;refine gQ rfl rfl (fa29_1 rfl) rfl ?_;refine gQ rfl rfl (ld3 rfl f4 rfl) rfl ?_;refine gQ rfl rfl (kLF rfl rfl) rfl ?_;iterate 2 refine gQ rfl rfl rfl rfl ?_
    refine gQ rfl rfl (fa29_0 rfl) rfl ?_;refine gQ rfl rfl (ld3 rfl f4 rfl) rfl ?_;refine gQ rfl rfl (kLF rfl rfl) rfl ?_;iterate 3 refine gQ rfl rfl rfl rfl ?_
    refine gQ rfl rfl (kEF rfl rfl) rfl ?_;refine gQ rfl rfl rfl rfl ?_;iterate 3 refine GoE.skip rfl rfl rfl ?_
    iterate 2 refine gQ rfl rfl rfl rfl ?_
    refine GoE.end rfl ?_;refine gC (b := false) rfl ?_;refine gD ?_;exact done _ _ _ ⟨rfl, rfl, rfl, rfl, trivial⟩ ⟨e0, f0, by assumption⟩
  ·clear e0 f0 f4 f7 f10 f15;rintro b13 h1 ⟨e0, f0, f4⟩
   by_cases hz : R.es.length = 0
   ·rw [hz] at hl2;iterate 2 apply gS
    refine gR rfl ?_;refine gO rfl rfl (fa25_1 rfl) rfl ?_;refine gO rfl rfl (ld23 rfl f0 rfl) rfl ?_;refine gO rfl rfl (aOp_lenSlice Tryz.underlying23 rfl hl2) rfl ?_;refine gO rfl rfl (kET rfl rfl) rfl ?_;refine gP ?_;iterate 4 refine GoR.skip rfl rfl rfl ?_
    refine gP ?_;apply gE;refine gC (b := true) rfl ?_;apply gS;refine gR rfl ?_;refine GoR.call rfl rfl (aCF aFunc14 rfl) (alive_ok) ?_ np;rintro v18 h18 ⟨q, x18⟩;cases q;refine ⟨_, rfl, ?_⟩;replace e0 := e0.trans x18;refine gP ?_;apply gE;exact gW Tryz.func7 rfl rfl ⟨rfl, e0⟩
   ·by_cases hten : R.es.length = 10
    ·rw [hten] at hl2;iterate 2 apply gS
     refine gR rfl ?_;refine gO rfl rfl (fa25_1 rfl) rfl ?_;refine gO rfl rfl (ld23 rfl f0 rfl) rfl ?_;refine gO rfl rfl (aOp_lenSlice Tryz.underlying23 rfl hl2) rfl ?_;refine gO rfl rfl (kEF rfl rfl) rfl ?_;refine gP ?_;refine gO rfl rfl (fa25_1 rfl) rfl ?_;refine gO rfl rfl (ld23 rfl f0 rfl) rfl ?_;refine gO rfl rfl (aOp_lenSlice Tryz.underlying23 rfl hl2) rfl ?_;refine gO rfl rfl (kET rfl rfl) rfl ?_;refine gP ?_;apply gE;refine gC (b := true) rfl ?_;apply gS;refine gR rfl ?_;refine GoR.call rfl rfl (aCF aFunc14 rfl) (alive_ok) ?_ np;rintro v18 h18 ⟨q, x18⟩;cases q;refine ⟨_, rfl, ?_⟩;replace e0 := e0.trans x18;refine gP ?_;apply gE;exact gW Tryz.func7 rfl rfl ⟨rfl, e0⟩
    ·have hne0 : R.es ≠ [] := fun q => hz (by rw [q]; rfl)
     have hlast : (R.es.length : Int) - 1 = ((R.es.length - 1 : Nat) : Int) := by omega
     obtain ⟨C, hC⟩ : ∃ C, (spreadV R.known k fun f => (f.hs[R.es.length - 1]?).getD 0) = C := ⟨_, rfl⟩
     obtain ⟨c1, ⟨cf, c2, c3⟩, cg, c4, c5⟩ := high_ends O hp hkl (R.es.length - 1)
     rw [hC] at c1 c3 c5
     have hcb : ∀ f, f ∈ atPart R.known k → (f.hs[R.es.length - 1]?).getD 0 = f.x.height ∧ -600 ≤ f.x.height ∧ f.x.height ≤ 60 := fun f hf => by
      have hx := (known_small O hf).1
      have := hx.h
      have := hx.f
      exact ⟨last_at hne0 hf, by omega, by omega⟩
     have C1 : C.1 ≤ C.2 := by have := c1 cf c2; omega
     have C2 : -600 ≤ C.1 ∧ C.2 ≤ 60 := by
      have a1 := hcb cf c2
      have a2 := hcb cg c4
      omega
     have hH := fun {h'} (e : Ext h h') => Height_ok (A.ext e) hs.1 hs.2 (k : Nat) ((R.es.length : Int) - 1)
     rw [show R.heightR (k : Nat) ((R.es.length : Int) - 1) = (C, 0) from by rw [hlast, heightR_is O hkl (by omega), if_pos hp, hC]] at hH
     dsimp only at hH
     obtain ⟨O3, D, hD, D1, D2, D3, D4⟩ := pass_height O hp hne0 hten hkl (l := (l : Int)) (by omega)
     rw [hC, hS] at D1 D2 D3 D4
     have hlk : ∀ n, (n = C.1 - 1 ∨ n = C.1 ∨ n = C.2 ∨ n = C.2 + 1) → ∃ (r : Bool) (m : Int) (o : Int × Int), decide (C.1 ≤ n ∧ n ≤ C.2) = r ∧ (R.plus (mkLook k n n)).Ok ∧ (R.plus (mkLook k n n)).heightR (k : Nat) ((R.es.length : Int) - 1) = (o, m) ∧ ((r = true ∧ m = 0 ∧ o = (n, n)) ∨ (r = false ∧ m = 10)) := fun n hn => by
      obtain ⟨O2, y1, y2⟩ := look_height O hne0 hten hkl (n := n) (by omega)
      by_cases hin : ∃ f, f ∈ atPart R.known k ∧ f.x.height = n
      ·obtain ⟨f, z1, z2⟩ := hin
       have := c1 f z1
       have := hcb f z1
       exact ⟨true, 0, (n, n), decide_eq_true (by omega), O2, by rw [hlast]; exact y1 ⟨f, z1, z2⟩, .inl ⟨rfl, rfl, rfl⟩⟩
      ·have hno : ¬ (C.1 ≤ n ∧ n ≤ C.2) := fun q => by
        rcases hn with w | w | w | w
        ·omega
        ·exact hin ⟨cf, c2, by have := hcb cf c2; omega⟩
        ·exact hin ⟨cg, c4, by have := hcb cg c4; omega⟩
        ·omega
       exact ⟨false, 10, (0, 0), decide_eq_false hno, O2, by rw [hlast]; exact y2 hin, .inr ⟨rfl, rfl⟩⟩
     have hsm := same_two A.ps.same A.es.same
     have hpl : ∀ e, (R.plus e).es.length ≤ 40 := fun e => by
      have : (R.plus e).es.length = R.es.length + 1 := by
       show (R.es ++ [e]).length = _
       rw [List.length_append]
       rfl
      omega
     iterate 2 apply gS
     refine gR rfl ?_;refine gO rfl rfl (fa25_1 rfl) rfl ?_;refine gO rfl rfl (ld23 rfl f0 rfl) rfl ?_;refine gO rfl rfl (aOp_lenSlice Tryz.underlying23 rfl hl2) rfl ?_;refine gO rfl rfl (kEF rfl rfl) rfl ?_;refine gP ?_;refine gO rfl rfl (fa25_1 rfl) rfl ?_;refine gO rfl rfl (ld23 rfl f0 rfl) rfl ?_;refine gO rfl rfl (aOp_lenSlice Tryz.underlying23 rfl hl2) rfl ?_;refine gO rfl rfl (kEF rfl rfl) rfl ?_;refine gP ?_;apply gE;refine gC (b := false) rfl ?_;refine gD ?_;apply gS;refine gR rfl ?_;refine gO rfl rfl (fa25_1 rfl) rfl ?_;refine gO rfl rfl (ld23 rfl f0 rfl) rfl ?_;refine gO rfl rfl (aOp_lenSlice Tryz.underlying23 rfl hl2) rfl ?_;refine gO rfl rfl (aS rfl rfl) rfl ?_;refine gP ?_;apply gE;apply gS;refine gR rfl ?_;refine gO rfl rfl (ld25 rfl f0 rfl) rfl ?_;iterate 2 refine gP ?_
     refine GoR.call rfl rfl (aCF aFunc15 rfl) (hH e0) ?_ np;rintro v18 h18 ⟨q, x18⟩;cases q;refine ⟨_, rfl, ?_⟩;replace f0 := f0.ext x18;replace f4 := f4.ext x18;replace e0 := e0.trans x18;iterate 3 refine gP ?_
     refine GoR.alloc rfl rfl rfl zt29 rfl rfl fun h19 x19 f19 => ?_;have := e0.1;have := f0.1;have := f4.1;replace f0 := f0.ext x19;replace f4 := f4.ext x19;replace e0 := e0.trans x19;have := f19.1;refine GoR.store rfl rfl rfl rfl rfl rfl f19 rfl sz29 rfl rfl rfl fun h20 u20 => ?_;replace f19 := u20.has f19;replace f0 := f0.upd u20 (by omega);replace f4 := f4.upd u20 (by omega);replace e0 := e0.upd u20 (by omega);refine gP ?_;apply gE;iterate 2 apply gS
     refine gR rfl ?_;refine gP ?_;refine gO rfl rfl (kXF rfl rfl) rfl ?_;refine gP ?_;refine gO rfl rfl (fa29_0 rfl) rfl ?_;refine gO rfl rfl (ld3 rfl f19 rfl) rfl ?_;refine gO rfl rfl (fa29_1 rfl) rfl ?_;refine gO rfl rfl (ld3 rfl f19 rfl) rfl ?_;refine gO rfl rfl (kGF rfl rfl) rfl ?_;refine gP ?_;apply gE;refine gC (b := false) rfl ?_;refine gD ?_;iterate 2 apply gS
     refine gR rfl ?_;refine gO rfl rfl (fa29_0 rfl) rfl ?_;refine gO rfl rfl (ld3 rfl f19 rfl) rfl ?_;refine gO rfl rfl (aS rfl rfl) rfl ?_;refine gO rfl rfl (fa29_0 rfl) rfl ?_;refine gO rfl rfl (ld3 rfl f19 rfl) rfl ?_;refine gO rfl rfl (fa29_1 rfl) rfl ?_;refine gO rfl rfl (ld3 rfl f19 rfl) rfl ?_;refine gO rfl rfl (fa29_1 rfl) rfl ?_;refine gO rfl rfl (ld3 rfl f19 rfl) rfl ?_;refine gO rfl rfl (aA rfl rfl) rfl ?_;refine GoR.buildSl rfl rfl (ps := [(0, .int .i64 (C.1 - 1)), (1, .int .i64 C.1), (2, .int .i64 C.2), (3, .int .i64 (C.2 + 1))]) (cs := [.int .i64 (C.1 - 1), .int .i64 C.1, .int .i64 C.2, .int .i64 (C.2 + 1)]) Tryz.underlying52 rfl sz3 zt3 rfl rfl rfl rfl fun h21 x21 f21 => ?_;have := e0.1;have := f19.1;have := f0.1;have := f4.1;replace f19 := f19.ext x21;replace f0 := f0.ext x21;replace f4 := f4.ext x21;replace e0 := e0.trans x21;have := f21.1;iterate 2 refine gP ?_
     apply gE;refine Go.block noJ_ok ?_;refine Go.loopKeep (fun j : Nat => [(3, .ptr h.next 0), (11, .int .i64 (k : Nat)), (12, .int .i64 (l : Nat)), (13, .ptr b13 0), (27, .int .i64 ((R.es.length : Int) - 1)), (28, .ptr h18.next 0), (241, .slice h20.next 0 4 4), (242, .int .i64 4), (243, .int .i64 (j : Nat))]) (fun m j h' => m + j = 4 ∧ Ext h h' ∧ Has h' h.next (.cells .plain [sp, se] 25) ∧ Has h' b13 (.cells .plain [.int .i64 S.1, .int .i64 S.2] 29) ∧ Has h' h18.next (.cells .plain [.int .i64 C.1, .int .i64 C.2] 29) ∧ Has h' h20.next (.cells .plain [.int .i64 (C.1 - 1), .int .i64 C.1, .int .i64 C.2, .int .i64 (C.2 + 1)] 3)) (n := 4) 0 ⟨rfl, rfl, rfl, rfl, rfl, rfl, rfl, rfl, rfl, trivial⟩ ⟨rfl, e0, f0, f4, f19, f21⟩ ?_;clear e0 f0 f4 f19 f21;rintro m j h30 ⟨hm, e0, f0, f4, f19, f21⟩ again
     by_cases hj : j < 4
     ·obtain ⟨n, hn, hn2⟩ : ∃ n, ([C.1 - 1, C.1, C.2, C.2 + 1] : List Int)[j]? = some n ∧ (n = C.1 - 1 ∨ n = C.1 ∨ n = C.2 ∨ n = C.2 + 1) := by
       match j, hj with
       | 0, _ => exact ⟨_, rfl, .inl rfl⟩
       | 1, _ => exact ⟨_, rfl, .inr (.inl rfl)⟩
       | 2, _ => exact ⟨_, rfl, .inr (.inr (.inl rfl))⟩
       | 3, _ => exact ⟨_, rfl, .inr (.inr (.inr rfl))⟩
      obtain ⟨r, mc, o, r1, O2, r2, r3⟩ := hlk n hn2
      have hval : ([AVal.int .i64 (C.1 - 1), .int .i64 C.1, .int .i64 C.2, .int .i64 (C.2 + 1)] : List AVal)[0 + j * 1]? = some (.int .i64 n) := by
       match j, hj, hn with
       | 0, _, hn => cases hn; rfl
       | 1, _, hn => cases hn; rfl
       | 2, _, hn => cases hn; rfl
       | 3, _, hn => cases hn; rfl
      have hLk := fun {h' s} (A' : RoadAt h' (R.plus (mkLook k n n)) sp s) => Height_ok A' hs.1 (hpl _) (k : Nat) ((R.es.length : Int) - 1)
      rw [r2] at hLk
      dsimp only at hLk
      have hAt := fun {h1 h2 : AH} {s : AVal} {lo : Nat} (F : FreshS lo h1 7 s ((R.es ++ [mkLook k n n]).map EV.cells)) (e : Ext h h2) (e' : Ext h1 h2) => (⟨A.ps.ext e, F.self.ext e'⟩ : RoadAt h2 (R.plus (mkLook k n n)) sp s)
      have hlc := fun {h9} => look42_ok (p := (k : Nat)) (a := n) (b := n) (h := h9)
      unfold mkLook EV.cells at hlc
      dsimp only at hlc
      apply gS;refine gR rfl ?_;refine gO rfl rfl (kLT rfl rfl) rfl ?_;apply gE;apply gS;refine gC (b := true) rfl ?_;refine gD ?_;apply gS;refine Go.block noJ_ok ?_;apply gS;refine gR rfl ?_;refine gO rfl rfl (aOp_indexAddr (i := j) Tryz.underlying52 sz3 rfl rfl rfl (Nat.ble_eq_true_of_le hj)) rfl ?_;refine gO rfl rfl (ld3 rfl f21 hval) rfl ?_;refine gP ?_
      have hsT : sameA (.tuple [.agg (spC o), .int .i64 mc]) (.tuple [.agg (spC o), .int .i64 mc]) = true := by simp [sameA, sameAs, spC, eqI_eq]
      have hsO : sameA (.agg (spC o)) (.agg (spC o)) = true := by simp [sameA, sameAs, spC, eqI_eq]
      refine Go.seq noJ_ok (Go.join (fun b : Nat => [(3, .ptr h.next 0), (11, .int .i64 (k : Nat)), (12, .int .i64 (l : Nat)), (13, .ptr b13 0), (27, .int .i64 ((R.es.length : Int) - 1)), (28, .ptr h18.next 0), (241, .slice h20.next 0 4 4), (242, .int .i64 4), (243, .int .i64 (j : Nat)), (31, .int .i64 n), (32, .ptr b 0), (33, .int .i64 mc)]) (fun b h' => Ext h h' ∧ Has h' h.next (.cells .plain [sp, se] 25) ∧ Has h' b13 (.cells .plain [.int .i64 S.1, .int .i64 S.2] 29) ∧ Has h' h18.next (.cells .plain [.int .i64 C.1, .int .i64 C.2] 29) ∧ Has h' h20.next (.cells .plain [.int .i64 (C.1 - 1), .int .i64 C.1, .int .i64 C.2, .int .i64 (C.2 + 1)] 3) ∧ Has h' b (.cells .plain [.int .i64 o.1, .int .i64 o.2] 29)) ?_ ?_)
      ·intro k' done
       refine altsE30 ?_ ?_ ?_ ?_
       ·intro pl hpl
        rw [plE30_4_5_8_12] at hpl;cases hpl;refine gQ rfl rfl (ld25 rfl f0 rfl) rfl ?_;iterate 5 refine gQ rfl rfl rfl rfl ?_
        refine GoE.call rfl rfl (aCF aFunc42 rfl) (hlc) (dK 14 7 (dK 14 6 (dD 14 3 (dD 14 2 (dD 14 1 (dK 14 0 rfl)))))) ?_ np;rintro v31 h31 ⟨q, x31⟩;cases q;replace f0 := f0.ext x31;replace f4 := f4.ext x31;replace f19 := f19.ext x31;replace f21 := f21.ext x31;replace e0 := e0.trans x31;refine ⟨(rck (h2 := h31) rfl (rfl) (rck (h2 := h31) rfl (rfl) (rck (h2 := h31) rfl (ld25 rfl f0 rfl) recheck_nil))), _, rfl, ?_⟩;refine GoE.call rfl rfl (aCF aFunc41 rfl) (with41_ok (mkLook k n n) (A.ext e0) hs.2) (dK 31 7 (dK 31 6 (dD 31 0 rfl))) ?_ (by rintro _ _ ⟨s, q, _, FS, e9⟩; cases q);rintro v32 h32 ⟨s, q, x32, FS, e9⟩;cases q;have := e0.1;have := f0.1;have := f4.1;have := f19.1;have := f21.1;replace f0 := f0.ext x32;replace f4 := f4.ext x32;replace f19 := f19.ext x32;replace f21 := f21.ext x32;replace e0 := e0.trans x32;refine ⟨(rck (h2 := h32) rfl (rfl) (rck (h2 := h32) rfl (rfl) recheck_nil)), _, rfl, ?_⟩;refine GoE.call rfl rfl (aCF aFunc15 rfl) (hLk (hAt FS e0 e9)) (dD 255 7 (dD 255 6 rfl)) ?_ np;rintro v33 h33 ⟨q, x33⟩;cases q;replace f0 := f0.ext x33;replace f4 := f4.ext x33;replace f19 := f19.ext x33;replace f21 := f21.ext x33;replace e9 := e9.trans x33;replace e0 := e0.trans x33;refine ⟨recheck_nil, _, rfl, ?_⟩;iterate 3 refine gQ rfl rfl rfl rfl ?_
        refine GoE.alloc rfl rfl zt29 (dK 511 11 (dK 511 10 (dK 511 9 rfl))) rfl rfl fun h34 x34 f34 => ?_;have := e9.1;have := e0.1;have := f0.1;have := f4.1;have := f19.1;have := f21.1;replace f0 := f0.ext x34;replace f4 := f4.ext x34;replace f19 := f19.ext x34;replace f21 := f21.ext x34;replace e9 := e9.trans x34;replace e0 := e0.trans x34;have := f34.1;refine ⟨(rck (h2 := h34) rfl (rfl) (rck (h2 := h34) rfl (rfl) (rck (h2 := h34) rfl (rfl) recheck_nil))), ?_⟩;refine GoE.store rfl rfl rfl rfl (dK 6143 11 (dD 6143 10 (dD 6143 9 rfl))) rfl rfl f34 rfl sz29 rfl rfl rfl fun h35 u35 => ?_;replace f34 := u35.has f34;replace f0 := f0.upd u35 (by omega);replace f4 := f4.upd u35 (by omega);replace f19 := f19.upd u35 (by omega);replace f21 := f21.upd u35 (by omega);replace e9 := e9.upd u35 (by omega);replace e0 := e0.upd u35 (by omega);refine ⟨(rck (h2 := h35) rfl (rfl) recheck_nil), ?_⟩;refine gQ rfl rfl rfl rfl ?_;refine GoE.end rfl ?_;exact done _ _ _ ⟨rfl, rfl, rfl, rfl, rfl, rfl, rfl, rfl, rfl, rfl, rfl, rfl, trivial⟩ ⟨e0, f0, f4, f19, f21, by assumption⟩
       ·intro pl hpl
        rw [plE30_4_5_12_8] at hpl;cases hpl;refine gQ rfl rfl (ld25 rfl f0 rfl) rfl ?_;iterate 5 refine gQ rfl rfl rfl rfl ?_
        refine GoE.call rfl rfl (aCF aFunc42 rfl) (hlc) (dK 14 7 (dK 14 6 (dD 14 3 (dD 14 2 (dD 14 1 (dK 14 0 rfl)))))) ?_ np;rintro v31 h31 ⟨q, x31⟩;cases q;replace f0 := f0.ext x31;replace f4 := f4.ext x31;replace f19 := f19.ext x31;replace f21 := f21.ext x31;replace e0 := e0.trans x31;refine ⟨(rck (h2 := h31) rfl (rfl) (rck (h2 := h31) rfl (rfl) (rck (h2 := h31) rfl (ld25 rfl f0 rfl) recheck_nil))), _, rfl, ?_⟩;refine GoE.call rfl rfl (aCF aFunc41 rfl) (with41_ok (mkLook k n n) (A.ext e0) hs.2) (dK 31 7 (dK 31 6 (dD 31 0 rfl))) ?_ (by rintro _ _ ⟨s, q, _, FS, e9⟩; cases q);rintro v32 h32 ⟨s, q, x32, FS, e9⟩;cases q;have := e0.1;have := f0.1;have := f4.1;have := f19.1;have := f21.1;replace f0 := f0.ext x32;replace f4 := f4.ext x32;replace f19 := f19.ext x32;replace f21 := f21.ext x32;replace e0 := e0.trans x32;refine ⟨(rck (h2 := h32) rfl (rfl) (rck (h2 := h32) rfl (rfl) recheck_nil)), _, rfl, ?_⟩;refine GoE.alloc rfl rfl zt29 (dK 63 7 (dK 63 6 rfl)) rfl rfl fun h33 x33 f33 => ?_;have := e9.1;have := e0.1;have := f0.1;have := f4.1;have := f19.1;have := f21.1;replace f0 := f0.ext x33;replace f4 := f4.ext x33;replace f19 := f19.ext x33;replace f21 := f21.ext x33;replace e9 := e9.trans x33;replace e0 := e0.trans x33;have := f33.1;refine ⟨(rck (h2 := h33) rfl (rfl) (rck (h2 := h33) rfl (rfl) recheck_nil)), ?_⟩;refine GoE.call rfl rfl (aCF aFunc15 rfl) (hLk (hAt FS e0 e9)) (dD 4351 7 (dD 4351 6 rfl)) ?_ np;rintro v34 h34 ⟨q, x34⟩;cases q;replace f33 := f33.ext x34;replace f0 := f0.ext x34;replace f4 := f4.ext x34;replace f19 := f19.ext x34;replace f21 := f21.ext x34;replace e9 := e9.trans x34;replace e0 := e0.trans x34;refine ⟨recheck_nil, _, rfl, ?_⟩;iterate 3 refine gQ rfl rfl rfl rfl ?_
        refine GoE.store rfl rfl rfl rfl (dK 6143 11 (dD 6143 10 (dD 6143 9 rfl))) rfl rfl f33 rfl sz29 rfl rfl rfl fun h35 u35 => ?_;replace f33 := u35.has f33;replace f0 := f0.upd u35 (by omega);replace f4 := f4.upd u35 (by omega);replace f19 := f19.upd u35 (by omega);replace f21 := f21.upd u35 (by omega);replace e9 := e9.upd u35 (by omega);replace e0 := e0.upd u35 (by omega);refine ⟨(rck (h2 := h35) rfl (rfl) recheck_nil), ?_⟩;refine gQ rfl rfl rfl rfl ?_;refine GoE.end rfl ?_;exact done _ _ _ ⟨rfl, rfl, rfl, rfl, rfl, rfl, rfl, rfl, rfl, rfl, rfl, rfl, trivial⟩ ⟨e0, f0, f4, f19, f21, by assumption⟩
       ·intro pl hpl
        rw [plE30_4_12_5_8] at hpl;cases hpl;refine gQ rfl rfl (ld25 rfl f0 rfl) rfl ?_;iterate 5 refine gQ rfl rfl rfl rfl ?_
        refine GoE.call rfl rfl (aCF aFunc42 rfl) (hlc) (dK 14 7 (dK 14 6 (dD 14 3 (dD 14 2 (dD 14 1 (dK 14 0 rfl)))))) ?_ np;rintro v31 h31 ⟨q, x31⟩;cases q;replace f0 := f0.ext x31;replace f4 := f4.ext x31;replace f19 := f19.ext x31;replace f21 := f21.ext x31;replace e0 := e0.trans x31;refine ⟨(rck (h2 := h31) rfl (rfl) (rck (h2 := h31) rfl (rfl) (rck (h2 := h31) rfl (ld25 rfl f0 rfl) recheck_nil))), _, rfl, ?_⟩;refine GoE.alloc rfl rfl zt29 (dK 30 7 (dK 30 6 (dK 30 0 rfl))) rfl rfl fun h32 x32 f32 => ?_;have := e0.1;have := f0.1;have := f4.1;have := f19.1;have := f21.1;replace f0 := f0.ext x32;replace f4 := f4.ext x32;replace f19 := f19.ext x32;replace f21 := f21.ext x32;replace e0 := e0.trans x32;have := f32.1;refine ⟨(rck (h2 := h32) rfl (rfl) (rck (h2 := h32) rfl (rfl) (rck (h2 := h32) rfl (ld25 rfl f0 rfl) recheck_nil))), ?_⟩;refine GoE.call rfl rfl (aCF aFunc41 rfl) (with41_ok (mkLook k n n) (A.ext e0) hs.2) (dK 4127 7 (dK 4127 6 (dD 4127 0 rfl))) ?_ (by rintro _ _ ⟨s, q, _, FS, e9⟩; cases q);rintro v33 h33 ⟨s, q, x33, FS, e9⟩;cases q;have := e0.1;have := f32.1;have := f0.1;have := f4.1;have := f19.1;have := f21.1;replace f32 := f32.ext x33;replace f0 := f0.ext x33;replace f4 := f4.ext x33;replace f19 := f19.ext x33;replace f21 := f21.ext x33;replace e0 := e0.trans x33;refine ⟨(rck (h2 := h33) rfl (rfl) (rck (h2 := h33) rfl (rfl) recheck_nil)), _, rfl, ?_⟩;refine GoE.call rfl rfl (aCF aFunc15 rfl) (hLk (hAt FS e0 e9)) (dD 4351 7 (dD 4351 6 rfl)) ?_ np;rintro v34 h34 ⟨q, x34⟩;cases q;replace f32 := f32.ext x34;replace f0 := f0.ext x34;replace f4 := f4.ext x34;replace f19 := f19.ext x34;replace f21 := f21.ext x34;replace e9 := e9.trans x34;replace e0 := e0.trans x34;refine ⟨recheck_nil, _, rfl, ?_⟩;iterate 3 refine gQ rfl rfl rfl rfl ?_
        refine GoE.store rfl rfl rfl rfl (dK 6143 11 (dD 6143 10 (dD 6143 9 rfl))) rfl rfl f32 rfl sz29 rfl rfl rfl fun h35 u35 => ?_;replace f32 := u35.has f32;replace f0 := f0.upd u35 (by omega);replace f4 := f4.upd u35 (by omega);replace f19 := f19.upd u35 (by omega);replace f21 := f21.upd u35 (by omega);clear e9;replace e0 := e0.upd u35 (by omega);refine ⟨(rck (h2 := h35) rfl (rfl) recheck_nil), ?_⟩;refine gQ rfl rfl rfl rfl ?_;refine GoE.end rfl ?_;exact done _ _ _ ⟨rfl, rfl, rfl, rfl, rfl, rfl, rfl, rfl, rfl, rfl, rfl, rfl, trivial⟩ ⟨e0, f0, f4, f19, f21, by assumption⟩
       ·intro pl hpl
        rw [plE30_12_4_5_8] at hpl;cases hpl;refine gQ rfl rfl (ld25 rfl f0 rfl) rfl ?_;iterate 5 refine gQ rfl rfl rfl rfl ?_
        refine GoE.alloc rfl rfl zt29 (dK 0 7 (dK 0 6 (dK 0 3 (dK 0 2 (dK 0 1 (dK 0 0 rfl)))))) rfl rfl fun h31 x31 f31 => ?_;have := e0.1;have := f0.1;have := f4.1;have := f19.1;have := f21.1;replace f0 := f0.ext x31;replace f4 := f4.ext x31;replace f19 := f19.ext x31;replace f21 := f21.ext x31;replace e0 := e0.trans x31;have := f31.1;refine ⟨(rck (h2 := h31) rfl (rfl) (rck (h2 := h31) rfl (rfl) (rck (h2 := h31) rfl (rfl) (rck (h2 := h31) rfl (rfl) (rck (h2 := h31) rfl (rfl) (rck (h2 := h31) rfl (ld25 rfl f0 rfl) recheck_nil)))))), ?_⟩;refine GoE.call rfl rfl (aCF aFunc42 rfl) (hlc) (dK 4110 7 (dK 4110 6 (dD 4110 3 (dD 4110 2 (dD 4110 1 (dK 4110 0 rfl)))))) ?_ np;rintro v32 h32 ⟨q, x32⟩;cases q;replace f31 := f31.ext x32;replace f0 := f0.ext x32;replace f4 := f4.ext x32;replace f19 := f19.ext x32;replace f21 := f21.ext x32;replace e0 := e0.trans x32;refine ⟨(rck (h2 := h32) rfl (rfl) (rck (h2 := h32) rfl (rfl) (rck (h2 := h32) rfl (ld25 rfl f0 rfl) recheck_nil))), _, rfl, ?_⟩;refine GoE.call rfl rfl (aCF aFunc41 rfl) (with41_ok (mkLook k n n) (A.ext e0) hs.2) (dK 4127 7 (dK 4127 6 (dD 4127 0 rfl))) ?_ (by rintro _ _ ⟨s, q, _, FS, e9⟩; cases q);rintro v33 h33 ⟨s, q, x33, FS, e9⟩;cases q;have := e0.1;have := f31.1;have := f0.1;have := f4.1;have := f19.1;have := f21.1;replace f31 := f31.ext x33;replace f0 := f0.ext x33;replace f4 := f4.ext x33;replace f19 := f19.ext x33;replace f21 := f21.ext x33;replace e0 := e0.trans x33;refine ⟨(rck (h2 := h33) rfl (rfl) (rck (h2 := h33) rfl (rfl) recheck_nil)), _, rfl, ?_⟩;refine GoE.call rfl rfl (aCF aFunc15 rfl) (hLk (hAt FS e0 e9)) (dD 4351 7 (dD 4351 6 rfl)) ?_ np;rintro v34 h34 ⟨q, x34⟩;cases q;replace f31 := f31.ext x34;replace f0 := f0.ext x34;replace f4 := f4.ext x34;replace f19 := f19.ext x34;replace f21 := f21.ext x34;replace e9 := e9.trans x34;replace e0 := e0.trans x34;refine ⟨recheck_nil, _, rfl, ?_⟩;iterate 3 refine gQ rfl rfl rfl rfl ?_
        refine GoE.store rfl rfl rfl rfl (dK 6143 11 (dD 6143 10 (dD 6143 9 rfl))) rfl rfl f31 rfl sz29 rfl rfl rfl fun h35 u35 => ?_;replace f31 := u35.has f31;replace f0 := f0.upd u35 (by omega);replace f4 := f4.upd u35 (by omega);replace f19 := f19.upd u35 (by omega);replace f21 := f21.upd u35 (by omega);clear e9;replace e0 := e0.upd u35 (by omega);refine ⟨(rck (h2 := h35) rfl (rfl) recheck_nil), ?_⟩;refine gQ rfl rfl rfl rfl ?_;refine GoE.end rfl ?_;exact done _ _ _ ⟨rfl, rfl, rfl, rfl, rfl, rfl, rfl, rfl, rfl, rfl, rfl, rfl, trivial⟩ ⟨e0, f0, f4, f19, f21, by assumption⟩
      ·clear e0 f0 f4 f19 f21;rintro b32 h40 ⟨e0, f0, f4, f19, f21, f33⟩
       rcases r3 with ⟨rfl, rfl, rfl⟩ | ⟨rfl, rfl⟩
       ·apply gS;refine Go.drawnE plan7_2 ?_;refine gQ rfl rfl rfl rfl ?_;refine gQ rfl rfl (kXF rfl rfl) rfl ?_;refine gQ rfl rfl rfl rfl ?_;iterate 2 refine GoE.skip rfl rfl rfl ?_
        iterate 3 refine gQ rfl rfl rfl rfl ?_
        refine gQ rfl rfl (kET rfl rfl) rfl ?_;refine gQ rfl rfl rfl rfl ?_;refine gQ rfl rfl (ld29 rfl f19 rfl) rfl ?_;refine GoE.call rfl rfl (aCF aFunc39 rfl) (inside39_is r1) (dD 1663 10 (dD 1663 9 (dK 1663 8 (dK 1663 7 (dD 1663 6 (dD 1663 5 (dD 1663 2 (dD 1663 1 (dD 1663 0 rfl))))))))) ?_ np;rintro v41 h41 ⟨q, x41⟩;cases q;replace f0 := f0.ext x41;replace f4 := f4.ext x41;replace f19 := f19.ext x41;replace f21 := f21.ext x41;replace f33 := f33.ext x41;replace e0 := e0.trans x41;refine ⟨(rck (h2 := h41) rfl (kET rfl rfl) (rck (h2 := h41) rfl (rfl) recheck_nil)), _, rfl, ?_⟩;refine gQ rfl rfl (aOp_neqBool (r := false) rfl rfl Tryz.underlying4 rfl) rfl ?_;iterate 3 refine gQ rfl rfl rfl rfl ?_
        refine gQ rfl rfl (kET rfl rfl) rfl ?_;refine gQ rfl rfl rfl rfl ?_;refine gQ rfl rfl (ld29 rfl f33 rfl) rfl ?_;iterate 2 refine gQ rfl rfl rfl rfl ?_
        refine GoE.call rfl rfl (aCF aFunc33 rfl) (span33_ok) (dD 1835007 20 (dD 1835007 19 (dK 1835007 18 (dD 1835007 17 (dD 1835007 16 (dD 1835007 15 (dD 1835007 14 (dD 1835007 13 (dD 1835007 12 (dD 1835007 8 (dD 1835007 7 rfl))))))))))) ?_ np;rintro v42 h42 ⟨q, x42⟩;cases q;replace f0 := f0.ext x42;replace f4 := f4.ext x42;replace f19 := f19.ext x42;replace f21 := f21.ext x42;replace f33 := f33.ext x42;replace e0 := e0.trans x42;refine ⟨(rck (h2 := h42) rfl (ld29 rfl f33 rfl) recheck_nil), _, rfl, ?_⟩;refine gQ rfl rfl (aOp_neqSpan spanT29 rfl rfl (r := false) (by simp)) rfl ?_;iterate 2 refine gQ rfl rfl rfl rfl ?_
        refine GoE.end rfl ?_;refine gC (b := false) rfl ?_;refine gD ?_;refine Go.inBlock noJ_ok ?_;refine gR rfl ?_;refine gO rfl rfl (aA rfl rfl) rfl ?_;refine gP ?_;apply gE;exact again (m - 1) (j + 1) _ _ (by omega) ⟨rfl, rfl, rfl, rfl, rfl, rfl, rfl, rfl, rfl, trivial⟩ ⟨by omega, e0, f0, f4, f19, f21⟩
       ·apply gS;refine Go.drawnE plan7_2 ?_;refine gQ rfl rfl rfl rfl ?_;refine gQ rfl rfl (kXT rfl rfl) rfl ?_;iterate 2 refine gQ rfl rfl rfl rfl ?_
        refine gQ rfl rfl (kXF rfl rfl) rfl ?_;iterate 3 refine gQ rfl rfl rfl rfl ?_
        refine gQ rfl rfl (kEF rfl rfl) rfl ?_;refine gQ rfl rfl rfl rfl ?_;refine gQ rfl rfl (ld29 rfl f19 rfl) rfl ?_;refine GoE.call rfl rfl (aCF aFunc39 rfl) (inside39_is r1) (dD 1663 10 (dD 1663 9 (dK 1663 8 (dK 1663 7 (dD 1663 6 (dD 1663 5 (dD 1663 4 (dD 1663 3 (dD 1663 2 (dD 1663 1 (dD 1663 0 rfl))))))))))) ?_ np;rintro v41 h41 ⟨q, x41⟩;cases q;replace f0 := f0.ext x41;replace f4 := f4.ext x41;replace f19 := f19.ext x41;replace f21 := f21.ext x41;replace e0 := e0.trans x41;refine ⟨(rck (h2 := h41) rfl (kEF rfl rfl) (rck (h2 := h41) rfl (rfl) recheck_nil)), _, rfl, ?_⟩;refine gQ rfl rfl (aOp_neqBool (r := false) rfl rfl Tryz.underlying4 rfl) rfl ?_;iterate 3 refine gQ rfl rfl rfl rfl ?_
        refine gQ rfl rfl (kEF rfl rfl) rfl ?_;refine gQ rfl rfl rfl rfl ?_;iterate 5 refine GoE.skip rfl rfl rfl ?_
        iterate 2 refine gQ rfl rfl rfl rfl ?_
        refine GoE.end rfl ?_;refine gC (b := false) rfl ?_;refine gD ?_;refine Go.inBlock noJ_ok ?_;refine gR rfl ?_;refine gO rfl rfl (aA rfl rfl) rfl ?_;refine gP ?_;apply gE;exact again (m - 1) (j + 1) _ _ (by omega) ⟨rfl, rfl, rfl, rfl, rfl, rfl, rfl, rfl, rfl, trivial⟩ ⟨by omega, e0, f0, f4, f19, f21⟩
     ·have hj4 : j = 4 := by omega
      subst hj4
      have hHd := fun {h' s} (A' : RoadAt h' (R.plus (mkPass l l)) sp s) => Height_ok A' hs.1 (hpl _) (k : Nat) ((R.es.length : Int) - 1 + 1)
      rw [show (R.plus (mkPass l l)).heightR (k : Nat) ((R.es.length : Int) - 1 + 1) = (D, 0) from by rw [← hD]; congr 1; omega] at hHd
      dsimp only at hHd
      have hAd := fun {h1 h2 : AH} {s : AVal} {lo : Nat} (F : FreshS lo h1 7 s ((R.es ++ [mkPass l l]).map EV.cells)) (e : Ext h h2) (e' : Ext h1 h2) => (⟨A.ps.ext e, F.self.ext e'⟩ : RoadAt h2 (R.plus (mkPass l l)) sp s)
      have hpc := fun {h9} => pass43_ok (a := (l : Int)) (b := (l : Int)) (h := h9)
      unfold mkPass EV.cells at hpc
      dsimp only at hpc
      apply gS;refine gR rfl ?_;refine gO rfl rfl (kLF rfl rfl) rfl ?_;apply gE;apply gS;refine gC (b := false) rfl ?_;refine gD ?_
      have hsT : sameA (.tuple [.agg (spC D), .int .i64 0]) (.tuple [.agg (spC D), .int .i64 0]) = true := by simp [sameA, sameAs, spC, eqI_eq]
      have hsO : sameA (.agg (spC D)) (.agg (spC D)) = true := by simp [sameA, sameAs, spC, eqI_eq]
      refine Go.seq noJ_ok (Go.join (fun b : Nat => [(3, .ptr h.next 0), (11, .int .i64 (k : Nat)), (12, .int .i64 (l : Nat)), (13, .ptr b13 0), (28, .ptr h18.next 0), (34, .ptr b 0), (35, .int .i64 0)]) (fun b h' => Ext h h' ∧ Has h' h.next (.cells .plain [sp, se] 25) ∧ Has h' b13 (.cells .plain [.int .i64 S.1, .int .i64 S.2] 29) ∧ Has h' h18.next (.cells .plain [.int .i64 C.1, .int .i64 C.2] 29) ∧ Has h' b (.cells .plain [.int .i64 D.1, .int .i64 D.2] 29)) ?_ ?_)
      ·intro k' done
       refine altsE34 ?_ ?_ ?_ ?_
       ·intro pl hpl
        rw [plE34_3_4_8_12] at hpl;cases hpl;refine gQ rfl rfl (ld25 rfl f0 rfl) rfl ?_;iterate 4 refine gQ rfl rfl rfl rfl ?_
        refine gQ rfl rfl (aA rfl rfl) rfl ?_;refine GoE.call rfl rfl (aCF aFunc43 rfl) (hpc) (dK 6 7 (dK 6 6 (dK 6 5 (dD 6 2 (dD 6 1 (dK 6 0 rfl)))))) ?_ np;rintro v31 h31 ⟨q, x31⟩;cases q;replace f0 := f0.ext x31;replace f4 := f4.ext x31;replace f19 := f19.ext x31;replace f21 := f21.ext x31;replace e0 := e0.trans x31;refine ⟨(rck (h2 := h31) rfl (aA rfl rfl) (rck (h2 := h31) rfl (rfl) (rck (h2 := h31) rfl (rfl) (rck (h2 := h31) rfl (ld25 rfl f0 rfl) recheck_nil)))), _, rfl, ?_⟩;refine GoE.call rfl rfl (aCF aFunc41 rfl) (with41_ok (mkPass l l) (A.ext e0) hs.2) (dK 15 7 (dK 15 6 (dK 15 5 (dD 15 0 rfl)))) ?_ (by rintro _ _ ⟨s, q, _, FS, e9⟩; cases q);rintro v32 h32 ⟨s, q, x32, FS, e9⟩;cases q;have := e0.1;have := f0.1;have := f4.1;have := f19.1;have := f21.1;replace f0 := f0.ext x32;replace f4 := f4.ext x32;replace f19 := f19.ext x32;replace f21 := f21.ext x32;replace e0 := e0.trans x32;refine ⟨(rck (h2 := h32) rfl (aA rfl rfl) (rck (h2 := h32) rfl (rfl) (rck (h2 := h32) rfl (rfl) recheck_nil))), _, rfl, ?_⟩;refine GoE.call rfl rfl (aCF aFunc15 rfl) (hHd (hAd FS e0 e9)) (dD 255 7 (dD 255 6 (dD 255 5 rfl))) ?_ np;rintro v33 h33 ⟨q, x33⟩;cases q;replace f0 := f0.ext x33;replace f4 := f4.ext x33;replace f19 := f19.ext x33;replace f21 := f21.ext x33;replace e9 := e9.trans x33;replace e0 := e0.trans x33;refine ⟨recheck_nil, _, rfl, ?_⟩;iterate 3 refine gQ rfl rfl rfl rfl ?_
        refine GoE.alloc rfl rfl zt29 (dK 511 11 (dK 511 10 (dK 511 9 rfl))) rfl rfl fun h34 x34 f34 => ?_;have := e9.1;have := e0.1;have := f0.1;have := f4.1;have := f19.1;have := f21.1;replace f0 := f0.ext x34;replace f4 := f4.ext x34;replace f19 := f19.ext x34;replace f21 := f21.ext x34;replace e9 := e9.trans x34;replace e0 := e0.trans x34;have := f34.1;refine ⟨(rck (h2 := h34) rfl (rfl) (rck (h2 := h34) rfl (rfl) (rck (h2 := h34) rfl (rfl) recheck_nil))), ?_⟩;refine GoE.store rfl rfl rfl rfl (dK 6143 11 (dD 6143 10 (dD 6143 9 rfl))) rfl rfl f34 rfl sz29 rfl rfl rfl fun h35 u35 => ?_;replace f34 := u35.has f34;replace f0 := f0.upd u35 (by omega);replace f4 := f4.upd u35 (by omega);replace f19 := f19.upd u35 (by omega);replace f21 := f21.upd u35 (by omega);replace e9 := e9.upd u35 (by omega);replace e0 := e0.upd u35 (by omega);refine ⟨(rck (h2 := h35) rfl (rfl) recheck_nil), ?_⟩;refine gQ rfl rfl rfl rfl ?_;refine GoE.end rfl ?_;exact done _ _ _ ⟨rfl, rfl, rfl, rfl, rfl, rfl, rfl, trivial⟩ ⟨e0, f0, f4, f19, by assumption⟩
       ·intro pl hpl
        rw [plE34_3_4_12_8] at hpl;cases hpl;refine gQ rfl rfl (ld25 rfl f0 rfl) rfl ?_;iterate 4 refine gQ rfl rfl rfl rfl ?_
        refine gQ rfl rfl (aA rfl rfl) rfl ?_;refine GoE.call rfl rfl (aCF aFunc43 rfl) (hpc) (dK 6 7 (dK 6 6 (dK 6 5 (dD 6 2 (dD 6 1 (dK 6 0 rfl)))))) ?_ np;rintro v31 h31 ⟨q, x31⟩;cases q;replace f0 := f0.ext x31;replace f4 := f4.ext x31;replace f19 := f19.ext x31;replace f21 := f21.ext x31;replace e0 := e0.trans x31;refine ⟨(rck (h2 := h31) rfl (aA rfl rfl) (rck (h2 := h31) rfl (rfl) (rck (h2 := h31) rfl (rfl) (rck (h2 := h31) rfl (ld25 rfl f0 rfl) recheck_nil)))), _, rfl, ?_⟩;refine GoE.call rfl rfl (aCF aFunc41 rfl) (with41_ok (mkPass l l) (A.ext e0) hs.2) (dK 15 7 (dK 15 6 (dK 15 5 (dD 15 0 rfl)))) ?_ (by rintro _ _ ⟨s, q, _, FS, e9⟩; cases q);rintro v32 h32 ⟨s, q, x32, FS, e9⟩;cases q;have := e0.1;have := f0.1;have := f4.1;have := f19.1;have := f21.1;replace f0 := f0.ext x32;replace f4 := f4.ext x32;replace f19 := f19.ext x32;replace f21 := f21.ext x32;replace e0 := e0.trans x32;refine ⟨(rck (h2 := h32) rfl (aA rfl rfl) (rck (h2 := h32) rfl (rfl) (rck (h2 := h32) rfl (rfl) recheck_nil))), _, rfl, ?_⟩;refine GoE.alloc rfl rfl zt29 (dK 31 7 (dK 31 6 (dK 31 5 rfl))) rfl rfl fun h33 x33 f33 => ?_;have := e9.1;have := e0.1;have := f0.1;have := f4.1;have := f19.1;have := f21.1;replace f0 := f0.ext x33;replace f4 := f4.ext x33;replace f19 := f19.ext x33;replace f21 := f21.ext x33;replace e9 := e9.trans x33;replace e0 := e0.trans x33;have := f33.1;refine ⟨(rck (h2 := h33) rfl (aA rfl rfl) (rck (h2 := h33) rfl (rfl) (rck (h2 := h33) rfl (rfl) recheck_nil))), ?_⟩;refine GoE.call rfl rfl (aCF aFunc15 rfl) (hHd (hAd FS e0 e9)) (dD 4351 7 (dD 4351 6 (dD 4351 5 rfl))) ?_ np;rintro v34 h34 ⟨q, x34⟩;cases q;replace f33 := f33.ext x34;replace f0 := f0.ext x34;replace f4 := f4.ext x34;replace f19 := f19.ext x34;replace f21 := f21.ext x34;replace e9 := e9.trans x34;replace e0 := e0.trans x34;refine ⟨recheck_nil, _, rfl, ?_⟩;iterate 3 refine gQ rfl rfl rfl rfl ?_
        refine GoE.store rfl rfl rfl rfl (dK 6143 11 (dD 6143 10 (dD 6143 9 rfl))) rfl rfl f33 rfl sz29 rfl rfl rfl fun h35 u35 => ?_;replace f33 := u35.has f33;replace f0 := f0.upd u35 (by omega);replace f4 := f4.upd u35 (by omega);replace f19 := f19.upd u35 (by omega);replace f21 := f21.upd u35 (by omega);replace e9 := e9.upd u35 (by omega);replace e0 := e0.upd u35 (by omega);refine ⟨(rck (h2 := h35) rfl (rfl) recheck_nil), ?_⟩;refine gQ rfl rfl rfl rfl ?_;refine GoE.end rfl ?_;exact done _ _ _ ⟨rfl, rfl, rfl, rfl, rfl, rfl, rfl, trivial⟩ ⟨e0, f0, f4, f19, by assumption⟩
       ·intro pl hpl
        rw [plE34_3_12_4_8] at hpl;cases hpl;refine gQ rfl rfl (ld25 rfl f0 rfl) rfl ?_;iterate 4 refine gQ rfl rfl rfl rfl ?_
        refine gQ rfl rfl (aA rfl rfl) rfl ?_;refine GoE.call rfl rfl (aCF aFunc43 rfl) (hpc) (dK 6 7 (dK 6 6 (dK 6 5 (dD 6 2 (dD 6 1 (dK 6 0 rfl)))))) ?_ np;rintro v31 h31 ⟨q, x31⟩;cases q;replace f0 := f0.ext x31;replace f4 := f4.ext x31;replace f19 := f19.ext x31;replace f21 := f21.ext x31;replace e0 := e0.trans x31;refine ⟨(rck (h2 := h31) rfl (aA rfl rfl) (rck (h2 := h31) rfl (rfl) (rck (h2 := h31) rfl (rfl) (rck (h2 := h31) rfl (ld25 rfl f0 rfl) recheck_nil)))), _, rfl, ?_⟩;refine GoE.alloc rfl rfl zt29 (dK 14 7 (dK 14 6 (dK 14 5 (dK 14 0 rfl)))) rfl rfl fun h32 x32 f32 => ?_;have := e0.1;have := f0.1;have := f4.1;have := f19.1;have := f21.1;replace f0 := f0.ext x32;replace f4 := f4.ext x32;replace f19 := f19.ext x32;replace f21 := f21.ext x32;replace e0 := e0.trans x32;have := f32.1;refine ⟨(rck (h2 := h32) rfl (aA rfl rfl) (rck (h2 := h32) rfl (rfl) (rck (h2 := h32) rfl (rfl) (rck (h2 := h32) rfl (ld25 rfl f0 rfl) recheck_nil)))), ?_⟩;refine GoE.call rfl rfl (aCF aFunc41 rfl) (with41_ok (mkPass l l) (A.ext e0) hs.2) (dK 4111 7 (dK 4111 6 (dK 4111 5 (dD 4111 0 rfl)))) ?_ (by rintro _ _ ⟨s, q, _, FS, e9⟩; cases q);rintro v33 h33 ⟨s, q, x33, FS, e9⟩;cases q;have := e0.1;have := f32.1;have := f0.1;have := f4.1;have := f19.1;have := f21.1;replace f32 := f32.ext x33;replace f0 := f0.ext x33;replace f4 := f4.ext x33;replace f19 := f19.ext x33;replace f21 := f21.ext x33;replace e0 := e0.trans x33;refine ⟨(rck (h2 := h33) rfl (aA rfl rfl) (rck (h2 := h33) rfl (rfl) (rck (h2 := h33) rfl (rfl) recheck_nil))), _, rfl, ?_⟩;refine GoE.call rfl rfl (aCF aFunc15 rfl) (hHd (hAd FS e0 e9)) (dD 4351 7 (dD 4351 6 (dD 4351 5 rfl))) ?_ np;rintro v34 h34 ⟨q, x34⟩;cases q;replace f32 := f32.ext x34;replace f0 := f0.ext x34;replace f4 := f4.ext x34;replace f19 := f19.ext x34;replace f21 := f21.ext x34;replace e9 := e9.trans x34;replace e0 := e0.trans x34;refine ⟨recheck_nil, _, rfl, ?_⟩;iterate 3 refine gQ rfl rfl rfl rfl ?_
        refine GoE.store rfl rfl rfl rfl (dK 6143 11 (dD 6143 10 (dD 6143 9 rfl))) rfl rfl f32 rfl sz29 rfl rfl rfl fun h35 u35 => ?_;replace f32 := u35.has f32;replace f0 := f0.upd u35 (by omega);replace f4 := f4.upd u35 (by omega);replace f19 := f19.upd u35 (by omega);replace f21 := f21.upd u35 (by omega);clear e9;replace e0 := e0.upd u35 (by omega);refine ⟨(rck (h2 := h35) rfl (rfl) recheck_nil), ?_⟩;refine gQ rfl rfl rfl rfl ?_;refine GoE.end rfl ?_;exact done _ _ _ ⟨rfl, rfl, rfl, rfl, rfl, rfl, rfl, trivial⟩ ⟨e0, f0, f4, f19, by assumption⟩
       ·intro pl hpl
        rw [plE34_12_3_4_8] at hpl;cases hpl;refine gQ rfl rfl (ld25 rfl f0 rfl) rfl ?_;iterate 4 refine gQ rfl rfl rfl rfl ?_
        refine gQ rfl rfl (aA rfl rfl) rfl ?_;refine GoE.alloc rfl rfl zt29 (dK 0 7 (dK 0 6 (dK 0 5 (dK 0 2 (dK 0 1 (dK 0 0 rfl)))))) rfl rfl fun h31 x31 f31 => ?_;have := e0.1;have := f0.1;have := f4.1;have := f19.1;have := f21.1;replace f0 := f0.ext x31;replace f4 := f4.ext x31;replace f19 := f19.ext x31;replace f21 := f21.ext x31;replace e0 := e0.trans x31;have := f31.1;refine ⟨(rck (h2 := h31) rfl (aA rfl rfl) (rck (h2 := h31) rfl (rfl) (rck (h2 := h31) rfl (rfl) (rck (h2 := h31) rfl (rfl) (rck (h2 := h31) rfl (rfl) (rck (h2 := h31) rfl (ld25 rfl f0 rfl) recheck_nil)))))), ?_⟩;refine GoE.call rfl rfl (aCF aFunc43 rfl) (hpc) (dK 4102 7 (dK 4102 6 (dK 4102 5 (dD 4102 2 (dD 4102 1 (dK 4102 0 rfl)))))) ?_ np;rintro v32 h32 ⟨q, x32⟩;cases q;replace f31 := f31.ext x32;replace f0 := f0.ext x32;replace f4 := f4.ext x32;replace f19 := f19.ext x32;replace f21 := f21.ext x32;replace e0 := e0.trans x32;refine ⟨(rck (h2 := h32) rfl (aA rfl rfl) (rck (h2 := h32) rfl (rfl) (rck (h2 := h32) rfl (rfl) (rck (h2 := h32) rfl (ld25 rfl f0 rfl) recheck_nil)))), _, rfl, ?_⟩;refine GoE.call rfl rfl (aCF aFunc41 rfl) (with41_ok (mkPass l l) (A.ext e0) hs.2) (dK 4111 7 (dK 4111 6 (dK 4111 5 (dD 4111 0 rfl)))) ?_ (by rintro _ _ ⟨s, q, _, FS, e9⟩; cases q);rintro v33 h33 ⟨s, q, x33, FS, e9⟩;cases q;have := e0.1;have := f31.1;have := f0.1;have := f4.1;have := f19.1;have := f21.1;replace f31 := f31.ext x33;replace f0 := f0.ext x33;replace f4 := f4.ext x33;replace f19 := f19.ext x33;replace f21 := f21.ext x33;replace e0 := e0.trans x33;refine ⟨(rck (h2 := h33) rfl (aA rfl rfl) (rck (h2 := h33) rfl (rfl) (rck (h2 := h33) rfl (rfl) recheck_nil))), _, rfl, ?_⟩;refine GoE.call rfl rfl (aCF aFunc15 rfl) (hHd (hAd FS e0 e9)) (dD 4351 7 (dD 4351 6 (dD 4351 5 rfl))) ?_ np;rintro v34 h34 ⟨q, x34⟩;cases q;replace f31 := f31.ext x34;replace f0 := f0.ext x34;replace f4 := f4.ext x34;replace f19 := f19.ext x34;replace f21 := f21.ext x34;replace e9 := e9.trans x34;replace e0 := e0.trans x34;refine ⟨recheck_nil, _, rfl, ?_⟩;iterate 3 refine gQ rfl rfl rfl rfl ?_
        refine GoE.store rfl rfl rfl rfl (dK 6143 11 (dD 6143 10 (dD 6143 9 rfl))) rfl rfl f31 rfl sz29 rfl rfl rfl fun h35 u35 => ?_;replace f31 := u35.has f31;replace f0 := f0.upd u35 (by omega);replace f4 := f4.upd u35 (by omega);replace f19 := f19.upd u35 (by omega);replace f21 := f21.upd u35 (by omega);clear e9;replace e0 := e0.upd u35 (by omega);refine ⟨(rck (h2 := h35) rfl (rfl) recheck_nil), ?_⟩;refine gQ rfl rfl rfl rfl ?_;refine GoE.end rfl ?_;exact done _ _ _ ⟨rfl, rfl, rfl, rfl, rfl, rfl, rfl, trivial⟩ ⟨e0, f0, f4, f19, by assumption⟩
      ·clear e0 f0 f4 f19 f21;rintro b34 h50 ⟨e0, f0, f4, f19, f34⟩;apply gS;refine gR rfl ?_;refine gP ?_;refine gO rfl rfl (kET rfl rfl) rfl ?_;refine gP ?_;refine gO rfl rfl (fa29_0 rfl) rfl ?_;refine gO rfl rfl (ld3 rfl f34 rfl) rfl ?_;refine gO rfl rfl (fa29_0 rfl) rfl ?_;refine gO rfl rfl (ld3 rfl f19 rfl) rfl ?_;refine gO rfl rfl (fa29_1 rfl) rfl ?_;refine gO rfl rfl (ld3 rfl f4 rfl) rfl ?_;refine gO rfl rfl (aS rfl rfl) rfl ?_;refine gO rfl rfl (kNT rfl rfl) rfl ?_;iterate 2 refine gP ?_
       refine gO rfl rfl (fa29_0 rfl) rfl ?_;refine gO rfl rfl (ld3 rfl f34 rfl) rfl ?_;refine gO rfl rfl (fa29_0 rfl) rfl ?_;refine gO rfl rfl (ld3 rfl f19 rfl) rfl ?_;refine gO rfl rfl (fa29_0 rfl) rfl ?_;refine gO rfl rfl (ld3 rfl f4 rfl) rfl ?_;refine gO rfl rfl (aS rfl rfl) rfl ?_;refine gO rfl rfl (kMT rfl rfl) rfl ?_;iterate 2 refine gP ?_
       refine gO rfl rfl (fa29_1 rfl) rfl ?_;refine gO rfl rfl (ld3 rfl f34 rfl) rfl ?_;refine gO rfl rfl (fa29_1 rfl) rfl ?_;refine gO rfl rfl (ld3 rfl f19 rfl) rfl ?_;refine gO rfl rfl (fa29_1 rfl) rfl ?_;refine gO rfl rfl (ld3 rfl f4 rfl) rfl ?_;refine gO rfl rfl (aS rfl rfl) rfl ?_;refine gO rfl rfl (kNT rfl rfl) rfl ?_;iterate 2 refine gP ?_
       refine gO rfl rfl (fa29_1 rfl) rfl ?_;refine gO rfl rfl (ld3 rfl f34 rfl) rfl ?_;refine gO rfl rfl (fa29_1 rfl) rfl ?_;refine gO rfl rfl (ld3 rfl f19 rfl) rfl ?_;refine gO rfl rfl (fa29_0 rfl) rfl ?_;refine gO rfl rfl (ld3 rfl f4 rfl) rfl ?_;refine gO rfl rfl (aS rfl rfl) rfl ?_;refine gO rfl rfl (kMT rfl rfl) rfl ?_;iterate 2 refine gP ?_
       refine GoR.call rfl rfl (aCF aFunc14 rfl) (alive_ok) ?_ np;rintro v51 h51 ⟨q, x51⟩;cases q;refine ⟨_, rfl, ?_⟩;replace e0 := e0.trans x51;iterate 2 refine gP ?_
       apply gE;exact gW Tryz.func7 rfl rfl ⟨rfl, e0⟩
theorem law7 {R : RoadV} {sp se : AVal} {h : AH} (A : RoadAt h R sp se) (hb : R.ps.length < 9223372036854775808 ∧ R.es.length < 9223372036854775808) {w1 w2 : Int} (h1 : 0 ≤ w1 ∧ w1 < 256) (h2 : 0 ≤ w2 ∧ w2 < 256) : Runs Tryz.prog 7 [.agg [sp, se], .int .u8 w1, .int .u8 w2] h (fun en h' => en = .ret (.bool true) ∧ Ext h h') := by
 by_cases O : R.Ok
 ·have := law7_ok A O (a := w1.toNat) (b := w2.toNat) (by omega) (by omega)
  rw [Int.toNat_of_nonneg h1.1, Int.toNat_of_nonneg h2.1] at this;exact this
 ·exact law7_bad A hb O
end Go.Proofs.YtkcimfopboelaaaGreat

namespace Go.AbsE
open Go Go.RowKit
section
variable {P : Program}
theorem HR.openWin {e : Env} {h : AH} {W : World} (r : HR P (Base.all W) e h W) {B lo : Nat} {PRE CS junk : List Value} {el : TypeId} {fr : Nat × Nat} {cs : List AVal} (hB : W.heap[B]? = some (.cells (PRE ++ (CS ++ junk)).toArray el fr)) (hp : PRE.length = lo) (hv : ∀ e, VRs e cs CS) :
  ∃ e' h', Env.le e e' ∧ HR P (Base.all W) e' h' W ∧ Ext h h' ∧ e' h.next = some (B, 0) ∧ Has h' h.next (.win lo cs) := by
 obtain ⟨h', k⟩ := new_some h (.win lo cs)
 obtain ⟨_, x1, x2⟩ := new_ext k
 obtain ⟨n1, n2, n3⟩ := AH.get_new k
 have hle := Env.le_ext (x := (B, 0)) r.fresh
 have hlt := (Array.getElem?_eq_some_iff.1 hB).1
 refine ⟨e.ext h.next (B, 0), h', hle, ?_, x1, Env.ext_same _ _ _, x2⟩
 refine { dom := ?_, blk := ?_, inj := ?_, imm := ?_, os := r.os, tape := r.tape, output := r.output, size := r.size, old := r.old, young := r.young }
 ·intro b' x kx
  rw [Env.ext_at] at kx
  by_cases hb' : b' = h.next
  ·omega
  ·rw [if_neg hb'] at kx; have := r.dom _ _ kx; omega
 ·intro b' o' kx
  rw [n3] at kx
  by_cases hb' : b' = h.next
  ·rw [if_pos hb'] at kx
   cases kx
   subst hb'
   exact ⟨B, 0, _, Env.ext_same _ _ _, (fun q => by cases q), hB, .win (hv _) hp⟩
  ·rw [if_neg hb'] at kx
   obtain ⟨B', c', O', k1, k2, k3, k4⟩ := r.blk _ _ kx
   exact ⟨B', c', O', hle.1 _ _ k1, k2, k3, k4.mono hle⟩
 ·intro b1 b2 B1 c1 c2 o1 o2 k1 k2 hro e1 e2
  rw [n3] at k1 k2
  rw [Env.ext_at] at e1 e2
  by_cases q1 : b1 = h.next
  ·rw [if_pos q1] at k1; cases k1; cases hro
  ·rw [if_neg q1] at k1 e1
   by_cases q2 : b2 = h.next
   ·rw [if_pos q2] at e2
    cases e2
    obtain ⟨B', c', O', j1, j2, _, _⟩ := r.blk _ _ k1
    rw [e1] at j1
    cases j1
    exact absurd hlt (j2 hro)
   ·rw [if_neg q2] at k2 e2
    exact r.inj _ _ _ _ _ _ _ k1 k2 hro e1 e2
 ·intro B1 CS' hi
  obtain ⟨i1, i2⟩ := r.imm B1 CS' hi
  refine ⟨i1, fun b' o' c' kx hro ke => ?_⟩
  rw [n3] at kx
  rw [Env.ext_at] at ke
  by_cases q : b' = h.next
  ·rw [if_pos q] at kx; cases kx; cases hro
  ·rw [if_neg q] at kx ke; exact i2 b' o' c' kx hro ke
end
end Go.AbsE

namespace Go.AbsE
open Go Go.RowKit
section
variable {P : Program}
theorem VRs.kinds {K : Type} {va : K → AVal} {vv : K → Value} (hvr : ∀ e x, VR e (va x) (vv x)) {e : Env} : ∀ l : List K, VRs e (l.map fun x => va x) (l.map fun x => vv x) := by
 intro l
 induction l with
 | nil => exact .nil
 | cons a l ih => exact .cons (hvr _ _) ih
theorem rowsG_eq {K : Type} {vv : K → Value} {C : List Value} {off sz : Nat} : ∀ (len : Nat) (f : Nat → List K), (∀ i, i < len → (f i).length = sz ∧ ∀ k n, (f i)[k]? = some n → C[off + i * sz + k]? = some (vv n)) →
  (C.drop off).take (len * sz) = (((List.range len).map f).flatten).map fun x => vv x := by
 intro len
 induction len with
 | zero => intro f _; simp
 | succ len ih =>
  intro f hf
  have h1 := ih f fun i hi => hf i (by omega)
  obtain ⟨l1, l2⟩ := hf len (by omega)
  rw [Nat.add_mul, Nat.one_mul, List.take_add, h1, List.range_succ, List.map_append, List.flatten_append, List.map_append]
  congr 1
  simp only [List.map_cons, List.map_nil, List.flatten_cons, List.flatten_nil, List.append_nil]
  rw [List.drop_drop]
  refine List.ext_getElem? fun k => ?_
  rw [List.getElem?_take, List.getElem?_drop, List.getElem?_map]
  by_cases hk : k < sz
  ·rw [if_pos hk]
   obtain ⟨n, hn⟩ : ∃ n, (f len)[k]? = some n := ⟨(f len)[k]'(by omega), by simp⟩
   rw [hn]
   exact l2 k n hn
  ·rw [if_neg hk]
   have : (f len)[k]? = none := by simp; omega
   rw [this]
   rfl
end
end Go.AbsE

namespace Go.AbsE
open Go Go.RowKit
section
variable {P : Program}
theorem HR.openRowsC {K : Type} (va : K → AVal) (vv : K → Value) (hvr : ∀ e x, VR e (va x) (vv x)) {e : Env} {h : AH} {W : World} (r : HR P (Base.all W) e h W) {a : Addr} {len cap sz : Nat} {C : Array Value} {el : TypeId} {fr : Nat × Nat} (hB : W.heap[a.block]? = some (.cells C el fr)) (hspot : a.spot = none) (f : Nat → List K)
  (hf : ∀ i, i < len → (f i).length = sz ∧ ∀ k n, (f i)[k]? = some n → W.cell? (a.add (i * sz + k)) = some (vv n)) :
  ∃ e' h' s, Env.le e e' ∧ HR P (Base.all W) e' h' W ∧ Ext h h' ∧ VR e' s (.slice (some a) len cap) ∧ SliceOf h' sz s (((List.range len).map f).map fun l => l.map fun x => va x) ∧ sameA s s = true ∧ ∃ b o, s = .slice b o len cap := by
 obtain ⟨B, off, spot⟩ := a
 dsimp only at hB hspot
 subst hspot
 have hcell : ∀ i, i < len → (f i).length = sz ∧ ∀ k n, (f i)[k]? = some n → C.toList[off + i * sz + k]? = some (vv n) := fun i hi => by
  obtain ⟨h1, h2⟩ := hf i hi
  refine ⟨h1, fun k n hn => ?_⟩
  have := h2 k n hn
  have e1 := addr_add B off (i * sz + k)
  rw [e1] at this
  unfold World.cell? at this
  rw [hB] at this
  simp only [Option.isSome_none, Bool.false_eq_true, if_false] at this
  rw [Array.getElem?_toList, Nat.add_assoc]
  exact this
 have hrows := rowsG_eq len f hcell
 let R := (List.range len).map f
 have hRl : ∀ l, l ∈ R → l.length = sz := fun l hl => by
  obtain ⟨i, hi, rfl⟩ := List.mem_map.1 hl
  exact (hf i (List.mem_range.1 hi)).1
 have hRlen : R.length = len := by simp [R]
 have hlen : (C.toList.drop off).take (len * sz) = (R.flatten).map fun x => vv x := hrows
 have hfl : R.flatten.length = len * sz := by
  have : ∀ {L : List (List K)}, (∀ l, l ∈ L → l.length = sz) → L.flatten.length = L.length * sz := by
   intro L
   induction L with
   | nil => intro _; simp
   | cons a L ih => intro h; simp only [List.flatten_cons, List.length_append, h a (by simp), ih fun l q => h l (by simp [q]), List.length_cons, Nat.add_mul]; omega
  rw [this hRl, hRlen]
 by_cases h0 : len * sz = 0
 ·-- nothing of it is read
  obtain ⟨e', h', k1, k2, k3, k4, k5⟩ := r.openWin (B := B) (lo := 0) (PRE := []) (CS := []) (junk := C.toList) (el := el) (fr := fr) (cs := []) (by simpa using hB) rfl (fun _ => .nil)
  refine ⟨e', h', .slice h.next off len cap, k1, k2, k3, .slice k4, .mk rfl rfl k5.1 (by simp) (fun l hl => ?_) ?_, by simp [sameA], _, _, rfl⟩
  ·obtain ⟨x, hx, rfl⟩ := List.mem_map.1 hl
   rw [List.length_map]
   exact hRl x hx
  ·have hnil : R.flatten = [] := List.eq_nil_of_length_eq_zero (by omega)
   unfold loadCells
   rw [k5.2]
   have e1 : ((R.map fun l => l.map fun x => va x).length * sz) = 0 := by rw [List.length_map, hRlen]; exact h0
   have e2 : (R.map fun l => l.map fun x => va x).flatten = [] := by rw [← List.map_flatten, hnil]; rfl
   show cond (Nat.ble 0 off) (slice? [] (off - 0) ((R.map fun l => l.map fun x => va x).length * sz)) none = some _
   rw [e1, e2, show Nat.ble 0 off = true from Nat.ble_eq_true_of_le (Nat.zero_le _)]
   simp [slice?]
 ·have hle : off + len * sz ≤ C.toList.length := by
   have : ((C.toList.drop off).take (len * sz)).length = len * sz := by rw [hlen, List.length_map, hfl]
   rw [List.length_take, List.length_drop] at this
   omega
  have hC : C = (C.toList.take off ++ ((R.flatten.map fun x => vv x) ++ C.toList.drop (off + len * sz))).toArray := by
   rw [← hlen]
   have : C.toList.take off ++ ((C.toList.drop off).take (len * sz) ++ C.toList.drop (off + len * sz)) = C.toList := by
    rw [← List.drop_drop, List.take_append_drop, List.take_append_drop]
   rw [this]
  obtain ⟨e', h', k1, k2, k3, k4, k5⟩ := r.openWin (B := B) (lo := off) (PRE := C.toList.take off) (CS := R.flatten.map fun x => vv x) (junk := C.toList.drop (off + len * sz)) (el := el) (fr := fr) (cs := R.flatten.map fun x => va x) (by rw [← hC]; exact hB) (by rw [List.length_take]; omega) (fun _ => VRs.kinds hvr _)
  refine ⟨e', h', .slice h.next off len cap, k1, k2, k3, .slice k4, .mk rfl rfl k5.1 (by simp) (fun l hl => ?_) ?_, by simp [sameA], _, _, rfl⟩
  ·obtain ⟨x, hx, rfl⟩ := List.mem_map.1 hl
   rw [List.length_map]
   exact hRl x hx
  ·unfold loadCells
   rw [k5.2]
   have e1 : ((R.map fun l => l.map fun x => va x).length * sz) = len * sz := by rw [List.length_map, hRlen]
   have e2 : (R.map fun l => l.map fun x => va x).flatten = R.flatten.map fun x => va x := by rw [← List.map_flatten]
   show cond (Nat.ble off off) (slice? (R.flatten.map fun x => va x) (off - off) ((R.map fun l => l.map fun x => va x).length * sz)) none = some _
   rw [e1, e2, show Nat.ble off off = true from Nat.ble_eq_true_of_le (Nat.le_refl _), Nat.sub_self]
   exact slice_all (by rw [List.length_map, hfl])
end
end Go.AbsE

namespace Go.Proofs.YtkcimfopboelaaaGreat
open Go Go.AbsE Go.ChangeShapes Go.WideShapes Go.ChangeAt Go.RowKit
set_option linter.unusedSimpArgs false
set_option maxRecDepth 100000
set_option linter.unusedVariables false
theorem cells25 : Tryz.prog.cellsOf 25 = 2 := by kernel_rfl
theorem cells3 : Tryz.prog.cellsOf 3 = 1 := by kernel_rfl
theorem cells29 : Tryz.prog.cellsOf 29 = 2 := by kernel_rfl
theorem cells58 : Tryz.prog.cellsOf 58 = 7 := by kernel_rfl
theorem cells62 : Tryz.prog.cellsOf 62 = 7 := by kernel_rfl
theorem cells22 : Tryz.prog.cellsOf 22 = 1 := by kernel_rfl
theorem cells23 : Tryz.prog.cellsOf 23 = 1 := by kernel_rfl
theorem ctypes25 : Tryz.prog.cellTypes Tryz.prog.depth 25 = some [22, 23] := by kernel_rfl
theorem laidOut : laidOutB Tryz.prog = true := by kernel_rfl
def inI64 (n : Int) : Prop := -9223372036854775808 ≤ n ∧ n ≤ 9223372036854775807
theorem wf_in {n : Int} (h : (Lit.int .i64 n).wf = true) : inI64 n := by
 simp only [Lit.wf, Bool.and_eq_true, decide_eq_true_eq] at h
 have h1 : IntKind.i64.min = -9223372036854775808 := by decide
 have h2 : IntKind.i64.max = 9223372036854775807 := by decide
 rw [h1, h2] at h
 constructor <;> omega
variable {H : Type} {enc : TypeId × Value → H} {W : World} {base : Nat} {spare : Nat → Bool} {held : Bool}
theorem int_row {n : Nat} {cs : List Value} {x : DataW H × List MemPlace} (h : DataW.trod enc Tryz.prog W base spare held n 3 cs = some x) : ∃ a : Int, cs = [.int .i64 a] ∧ inI64 a := by
 obtain ⟨a, h1, _, h3⟩ := DataW.trod_int Tryz.underlying3 h
 exact ⟨a, h1, wf_in h3⟩
theorem span_row {n : Nat} {cs : List Value} {x : DataW H × List MemPlace} (h : DataW.trod enc Tryz.prog W base spare held n 29 cs = some x) : ∃ a b : Int, cs = [.int .i64 a, .int .i64 b] := by
 obtain ⟨y0, y1, k, _, hl, h0, h1⟩ := ChangeShapes.trod_struct2 Tryz.underlying29 h
 rw [cells29] at hl
 dsimp only at h0 h1
 rw [cells3] at h0 h1
 obtain ⟨a, ha, _⟩ := int_row h0
 obtain ⟨b, hb, _⟩ := int_row h1
 match cs, hl with
 | [c0, c1], _ =>
  simp at ha hb
  exact ⟨a, b, by rw [ha, hb]⟩
theorem list4 {α : Type} {l : List α} (h : l.length = 4) : ∃ c0 c1 c2 c3, l = [c0, c1, c2, c3] := by
 match l, h with
 | [c0, c1, c2, c3], _ => exact ⟨c0, c1, c2, c3, rfl⟩
theorem list5 {α : Type} {l : List α} (h : l.length = 5) : ∃ c0 c1 c2 c3 c4, l = [c0, c1, c2, c3, c4] := by
 match l, h with
 | [c0, c1, c2, c3, c4], _ => exact ⟨c0, c1, c2, c3, c4, rfl⟩
theorem list7 {α : Type} {l : List α} (h : l.length = 7) : ∃ c0 c1 c2 c3 c4 c5 c6, l = [c0, c1, c2, c3, c4, c5, c6] := by
 match l, h with
 | [c0, c1, c2, c3, c4, c5, c6], _ => exact ⟨c0, c1, c2, c3, c4, c5, c6, rfl⟩
theorem part_row {n : Nat} {cs : List Value} {x : DataW H × List MemPlace} (h : DataW.trod enc Tryz.prog W base spare held n 58 cs = some x) : ∃ r : List Int, r.length = 7 ∧ cs = r.map fun x => Value.int .i64 x := by
 obtain ⟨xs, m, _, _, hl, hlen, hfl⟩ := DataW.trod_struct Tryz.underlying58 h
 rw [cells58] at hl
 obtain ⟨c0, c1, c2, c3, c4, c5, c6, rfl⟩ := list7 hl
 obtain ⟨y0, y1, y2, y3, rfl⟩ := list4 hlen
 have t0 : DataW.trod enc Tryz.prog W base spare held m 29 [c0, c1] = some y0 := by
  have this : DataW.trod enc Tryz.prog W base spare held m 29 (([c0, c1, c2, c3, c4, c5, c6].drop 0).take (Tryz.prog.cellsOf 29)) = [y0, y1, y2, y3][0]? := hfl 0 _ rfl
  rw [cells29] at this;exact this
 have t1 : DataW.trod enc Tryz.prog W base spare held m 29 [c2, c3] = some y1 := by
  have this : DataW.trod enc Tryz.prog W base spare held m 29 (([c0, c1, c2, c3, c4, c5, c6].drop 2).take (Tryz.prog.cellsOf 29)) = [y0, y1, y2, y3][1]? := hfl 1 _ rfl
  rw [cells29] at this;exact this
 have t2 : DataW.trod enc Tryz.prog W base spare held m 29 [c4, c5] = some y2 := by
  have this : DataW.trod enc Tryz.prog W base spare held m 29 (([c0, c1, c2, c3, c4, c5, c6].drop 4).take (Tryz.prog.cellsOf 29)) = [y0, y1, y2, y3][2]? := hfl 2 _ rfl
  rw [cells29] at this;exact this
 have t3 : DataW.trod enc Tryz.prog W base spare held m 3 [c6] = some y3 := by
  have this : DataW.trod enc Tryz.prog W base spare held m 3 (([c0, c1, c2, c3, c4, c5, c6].drop 6).take (Tryz.prog.cellsOf 3)) = [y0, y1, y2, y3][3]? := hfl 3 _ rfl
  rw [cells3] at this;exact this
 obtain ⟨a0, a1, e0⟩ := span_row t0
 obtain ⟨a2, a3, e1⟩ := span_row t1
 obtain ⟨a4, a5, e2⟩ := span_row t2
 obtain ⟨a6, e3, _⟩ := int_row t3
 simp at e0 e1 e2 e3
 exact ⟨[a0, a1, a2, a3, a4, a5, a6], rfl, by rw [e0.1, e0.2, e1.1, e1.2, e2.1, e2.2, e3]; rfl⟩
theorem event_row {n : Nat} {cs : List Value} {x : DataW H × List MemPlace} (h : DataW.trod enc Tryz.prog W base spare held n 62 cs = some x) : ∃ r : List Int, r.length = 7 ∧ cs = r.map fun x => Value.int .i64 x := by
 obtain ⟨xs, m, _, _, hl, hlen, hfl⟩ := DataW.trod_struct Tryz.underlying62 h
 rw [cells62] at hl
 obtain ⟨c0, c1, c2, c3, c4, c5, c6, rfl⟩ := list7 hl
 obtain ⟨y0, y1, y2, y3, y4, rfl⟩ := list5 hlen
 have t0 : DataW.trod enc Tryz.prog W base spare held m 3 [c0] = some y0 := by
  have this : DataW.trod enc Tryz.prog W base spare held m 3 (([c0, c1, c2, c3, c4, c5, c6].drop 0).take (Tryz.prog.cellsOf 3)) = [y0, y1, y2, y3, y4][0]? := hfl 0 _ rfl
  rw [cells3] at this;exact this
 have t1 : DataW.trod enc Tryz.prog W base spare held m 29 [c1, c2] = some y1 := by
  have this : DataW.trod enc Tryz.prog W base spare held m 29 (([c0, c1, c2, c3, c4, c5, c6].drop 1).take (Tryz.prog.cellsOf 29)) = [y0, y1, y2, y3, y4][1]? := hfl 1 _ rfl
  rw [cells29] at this;exact this
 have t2 : DataW.trod enc Tryz.prog W base spare held m 3 [c3] = some y2 := by
  have this : DataW.trod enc Tryz.prog W base spare held m 3 (([c0, c1, c2, c3, c4, c5, c6].drop 3).take (Tryz.prog.cellsOf 3)) = [y0, y1, y2, y3, y4][2]? := hfl 2 _ rfl
  rw [cells3] at this;exact this
 have t3 : DataW.trod enc Tryz.prog W base spare held m 3 [c4] = some y3 := by
  have this : DataW.trod enc Tryz.prog W base spare held m 3 (([c0, c1, c2, c3, c4, c5, c6].drop 4).take (Tryz.prog.cellsOf 3)) = [y0, y1, y2, y3, y4][3]? := hfl 3 _ rfl
  rw [cells3] at this;exact this
 have t4 : DataW.trod enc Tryz.prog W base spare held m 29 [c5, c6] = some y4 := by
  have this : DataW.trod enc Tryz.prog W base spare held m 29 (([c0, c1, c2, c3, c4, c5, c6].drop 5).take (Tryz.prog.cellsOf 29)) = [y0, y1, y2, y3, y4][4]? := hfl 4 _ rfl
  rw [cells29] at this;exact this
 obtain ⟨a0, e0, _⟩ := int_row t0
 obtain ⟨a1, a2, e1⟩ := span_row t1
 obtain ⟨a3, e2, _⟩ := int_row t2
 obtain ⟨a4, e3, _⟩ := int_row t3
 obtain ⟨a5, a6, e4⟩ := span_row t4
 simp at e0 e1 e2 e3 e4
 exact ⟨[a0, a1, a2, a3, a4, a5, a6], rfl, by rw [e0, e1.1, e1.2, e2, e3, e4.1, e4.2]; rfl⟩
theorem slice_okw {t el : TypeId} {a : Addr} {len cap : Nat} {bs : Nat} (ht : Tryz.prog.underlying t = some (.slice el)) (h : Cell.okWide Tryz.prog W .any bs t (.slice (some a) len cap)) : a.spot = none ∧ ∃ C e fr, W.heap[a.block]? = some (.cells C e fr) := by
 unfold Cell.okWide at h
 rw [ht] at h
 dsimp only at h
 unfold Cell.ok at h
 rw [ht] at h
 dsimp only at h
 obtain ⟨_, _, _, h2, row, n, h3, _⟩ := h
 refine ⟨h2, ?_⟩
 unfold World.shape? at h3
 split at h3
 ·rename_i c e fr hq
  exact ⟨c, e, fr, hq⟩
 ·cases h3
theorem slice_cap {t el : TypeId} {a : Addr} {len cap : Nat} {bs : Nat} (ht : Tryz.prog.underlying t = some (.slice el)) (h : Cell.okWide Tryz.prog W .any bs t (.slice (some a) len cap)) : len < 9223372036854775808 := by
 unfold Cell.okWide at h
 rw [ht] at h
 dsimp only at h
 unfold Cell.ok at h
 rw [ht] at h
 dsimp only at h
 obtain ⟨h1, h2, _⟩ := h
 have : IntKind.i64.max = 9223372036854775807 := by decide
 rw [this] at h2
 omega
theorem rows_of {t el : TypeId} {sz fuel : Nat} {c : Value} {y : DataW H × List MemPlace} {bs : Nat} (ht : Tryz.prog.underlying t = some (.slice el)) (hsz : Tryz.prog.cellsOf el = sz)
  (hrow : ∀ {n : Nat} {cs : List Value} {x : DataW H × List MemPlace}, DataW.trod enc Tryz.prog W 0 (fun _ => true) true n el cs = some x → ∃ r : List Int, r.length = sz ∧ cs = r.map fun x => Value.int .i64 x)
  (h : DataW.trod enc Tryz.prog W 0 (fun _ => true) true fuel t [c] = some y) (hok : Cell.okWide Tryz.prog W .any bs t c) {e : Env} {hh : AH} (r : HR Tryz.prog (Base.all W) e hh W) :
  ∃ e' h' s, ∃ R : List (List Int), Env.le e e' ∧ HR Tryz.prog (Base.all W) e' h' W ∧ Ext hh h' ∧ VR e' s c ∧ (∀ l, l ∈ R → l.length = sz) ∧ SliceOf h' sz s (R.map fun l => l.map fun x => AVal.int .i64 x) ∧ R.length < 9223372036854775808 := by
 rcases Deep.open_slice ht h with ⟨hcs, _⟩ | ⟨a, len, cap, m, n, D, Pl, hcs, _, hl, _, hmm, _, hx⟩
 ·simp at hcs
  subst hcs;exact ⟨e, hh, .nilslice, [], Env.le_refl e, r, Ext.refl _, .nilslice, (fun _ q => by cases q), .nil, by decide⟩
 ·simp at hcs
  subst hcs
  obtain ⟨hs, C, el', fr, hB⟩ := slice_okw ht hok
  have hcap := slice_cap ht hok
  have hm : m = cap := by simpa using hmm
  have each : ∀ i, ∃ rr : List Int, i < len → rr.length = sz ∧ ∀ k n, rr[k]? = some n → W.cell? (a.add (i * sz + k)) = some (.int .i64 n) := by
   intro i
   by_cases hi : i < len
   ·obtain ⟨cs', h1, h2⟩ := hx i (by omega)
    obtain ⟨rr, hr1, hr2⟩ := hrow h2
    rw [hsz] at h1
    obtain ⟨_, hlen, hc⟩ := World.cells?_some h1
    refine ⟨rr, fun _ => ⟨hr1, fun k n hk => ?_⟩⟩
    have hkl := (List.getElem?_eq_some_iff.1 hk).1
    have := hc k (by omega)
    obtain ⟨B, off, spot⟩ := a
    dsimp only at hs
    subst hs;rw [addr_add, addr_add] at this;rw [addr_add, ← Nat.add_assoc, this, hr2, List.getElem?_map, hk]
    rfl
   ·exact ⟨[], fun q => absurd q hi⟩
  obtain ⟨f, hf⟩ := Classical.axiomOfChoice each
  obtain ⟨e', h', s, k1, k2, k3, k4, k5, _, b, o, rfl⟩ := r.openRowsC (fun x => AVal.int .i64 x) (fun x => Value.int .i64 x) (fun _ _ => .int _ _) (cap := cap) (len := len) (sz := sz) hB hs f hf
  exact ⟨e', h', _, (List.range len).map f, k1, k2, k3, k4, fun l hl => by
   obtain ⟨i, hi, rfl⟩ := List.mem_map.1 hl
   exact (hf i (List.mem_range.1 hi)).1, k5, by rw [List.length_map, List.length_range]; exact hcap⟩
def toP : List Int → PV
 | [a, b, c, d, e, f, g] => ⟨a, b, c, d, e, f, g⟩
 | _ => ⟨0, 0, 0, 0, 0, 0, 0⟩
def toE : List Int → EV
 | [a, b, c, d, e, f, g] => ⟨a, b, c, d, e, f, g⟩
 | _ => ⟨0, 0, 0, 0, 0, 0, 0⟩
theorem ps_eq {R : List (List Int)} (h : ∀ l, l ∈ R → l.length = 7) : (R.map fun l => l.map fun x => AVal.int .i64 x) = (R.map toP).map PV.cells := by
 rw [List.map_map];refine List.map_congr_left fun l hl => ?_
 match l, h l hl with
 | [a, b, c, d, e, f, g], _ => rfl
theorem es_eq {R : List (List Int)} (h : ∀ l, l ∈ R → l.length = 7) : (R.map fun l => l.map fun x => AVal.int .i64 x) = (R.map toE).map EV.cells := by
 rw [List.map_map];refine List.map_congr_left fun l hl => ?_
 match l, h l hl with
 | [a, b, c, d, e, f, g], _ => rfl
theorem array2 {α : Type} {cs : Array α} (h : cs.size = 2) : ∃ c0 c1, cs = #[c0, c1] := by
 obtain ⟨l⟩ := cs
 match l, h with
 | [c0, c1], _ => exact ⟨c0, c1, rfl⟩
theorem road_of {bs : Nat} {v : Value} {d : DataW H} {p : List MemPlace} (hv : Value.okWide Tryz.prog W .any bs 25 v) (h : DataW.Trod enc Tryz.prog W 0 (fun _ => true) true 25 v d p) {e : Env} {hh : AH} (r : HR Tryz.prog (Base.all W) e hh W) :
  ∃ e' h' R sp se, Env.le e e' ∧ HR Tryz.prog (Base.all W) e' h' W ∧ Ext hh h' ∧ VR e' (.agg [sp, se]) v ∧ RoadAt h' R sp se ∧ R.ps.length < 9223372036854775808 ∧ R.es.length < 9223372036854775808 := by
 have hv2 := hv
 obtain ⟨cs, rfl, hsz⟩ := okWide_struct Tryz.underlying25 hv
 obtain ⟨c0, c1, rfl⟩ := array2 (hsz.trans cells25)
 obtain ⟨fuel, hf⟩ := h
 obtain ⟨y0, y1, n, _, hl, t0, t1⟩ := ChangeShapes.trod_struct2 Tryz.underlying25 hf
 dsimp only at t0 t1
 rw [cells22] at t0;rw [cells23] at t1
 unfold Value.okWide at hv2
 rw [Tryz.underlying25] at hv2
 obtain ⟨cs, hcs, _, ts, hts, _, hrow⟩ := hv2
 injection hcs with hcs
 subst hcs;rw [ctypes25] at hts;cases hts
 obtain ⟨u0, hu0, ok0⟩ := hrow 0 c0 rfl
 obtain ⟨u1, hu1, ok1⟩ := hrow 1 c1 rfl
 cases hu0;cases hu1
 obtain ⟨ea, ha, s0, R0, a1, a2, a3, a4, a5, a6, a7⟩ := rows_of Tryz.underlying22 cells58 part_row t0 ok0 r
 obtain ⟨eb, hb, s1, R1, b1, b2, b3, b4, b5, b6, b7⟩ := rows_of Tryz.underlying23 cells62 event_row t1 ok1 a2
 rw [ps_eq a5] at a6;rw [es_eq b5] at b6;refine ⟨eb, hb, ⟨R0.map toP, R1.map toE⟩, s0, s1, Env.le_trans a1 b1, b2, a3.trans b3, ?_, ⟨a6.ext b3, b6⟩, by simpa using a7, by simpa using b7⟩;exact .agg (CS := [_, _]) (.cons (a4.mono b1) (.cons b4 .nil))
end Go.Proofs.YtkcimfopboelaaaGreat
