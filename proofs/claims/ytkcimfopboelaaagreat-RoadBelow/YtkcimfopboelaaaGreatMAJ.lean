import Derived.Test.YtkcimfopboelaaaGreatMAF
import Derived.Test.YtkcimfopboelaaaGreatChecked
import Derived.KernelRfl
import Derived.Test.YtkcimfopboelaaaGreatMAH
import Derived.Test.YtkcimfopboelaaaGreatMAI
import Derived.Test.YtkcimfopboelaaaGreatMAG
namespace Go.Proofs.YtkcimfopboelaaaGreat
open Go Go.AbsE
theorem plan10_0 : plan (((drawnOps Tryz.f10)[0]?).getD #[]) = some (mkPlan (((drawnOps Tryz.f10)[0]?).getD #[]).toList [(0, 0, true, false), (1, 1, true, false), (2, 0, true, false), (3, 4, true, false), (4, 12, true, false),   (5, 31, true, false), (6, 0, true, false), (7, 64, true, false), (8, 192, true, false), (9, 448, true, false),   (10, 63, true, false), (11, 2047, true, false)]) := by kernel_rfl
theorem plan10_1 : plan (((drawnOps Tryz.f10)[1]?).getD #[]) = some (mkPlan (((drawnOps Tryz.f10)[1]?).getD #[]).toList [(0, 0, true, false), (1, 1, true, false), (2, 3, true, false), (3, 7, true, false), (4, 15, true, false),   (5, 31, true, false), (6, 0, true, false), (7, 67, true, false), (8, 195, true, false), (9, 451, true, false),   (10, 963, true, false), (11, 1987, true, false), (12, 255, true, false), (13, 8191, true, false)]) := by kernel_rfl
theorem plan10_2 : plan (((drawnOps Tryz.f10)[2]?).getD #[]) = some (mkPlan (((drawnOps Tryz.f10)[2]?).getD #[]).toList [(0, 0, true, false), (1, 1, true, false), (2, 0, true, false), (3, 4, false, false), (4, 12, true, true),   (5, 31, false, false), (6, 63, true, false), (7, 127, false, false)]) := by kernel_rfl
theorem plan10_3 : plan (((drawnOps Tryz.f10)[3]?).getD #[]) = some (mkPlan (((drawnOps Tryz.f10)[3]?).getD #[]).toList [(0, 0, true, false), (1, 1, true, false), (2, 0, true, false), (3, 4, true, false), (4, 0, true, false),   (5, 16, true, false), (6, 60, true, false), (7, 127, false, false), (8, 255, true, false), (9, 511, false, false)]) := by kernel_rfl
theorem plan14_0 : plan (((drawnOps Tryz.f14)[0]?).getD #[]) = some (mkPlan (((drawnOps Tryz.f14)[0]?).getD #[]).toList [(0, 0, true, false), (1, 0, false, false), (2, 3, true, false), (3, 7, true, false), (4, 15, true, false),   (5, 31, true, false), (6, 63, true, false), (7, 127, true, false), (8, 255, true, false), (9, 255, false, false),   (10, 1023, true, false), (11, 2047, true, false), (12, 4095, true, false), (13, 8191, true, false),   (14, 16383, true, false), (15, 32767, true, false), (16, 65535, true, false), (17, 131071, true, false),   (18, 262143, true, false), (19, 524287, true, false), (20, 1048575, true, false), (21, 2097151, true, false),   (22, 4194303, true, false), (23, 8388607, true, false), (24, 16777215, true, false), (25, 33554431, true, false),   (26, 67108863, true, false), (27, 134217727, true, false), (28, 268435455, true, false), (29, 536870911, true, false),   (30, 1073741823, true, false), (31, 2147483647, true, false), (32, 4294967295, true, false),   (33, 8589934591, true, false), (34, 17179869183, true, false), (35, 34359738367, true, false),   (36, 68719476735, true, false), (37, 137438953471, true, false), (38, 274877906943, true, false),   (39, 549755813887, true, false), (40, 1099511627775, true, false), (41, 2199023255551, true, false),   (42, 4398046511103, true, false), (43, 8796093022207, true, false), (44, 17592186044415, true, false),   (45, 35184372088831, true, false), (46, 70368744177663, true, false), (47, 140737488355327, true, false),   (48, 281474976710655, true, false), (49, 562949953421311, true, false), (50, 1125899906842623, true, false),   (51, 2251799813685247, true, false), (52, 4503599627370495, true, false), (53, 9007199254740991, true, false),   (54, 18014398509481983, true, false), (55, 36028797018963967, true, false), (56, 72057594037927935, true, false),   (57, 144115188075855871, true, false), (58, 288230376151711743, true, false), (59, 576460752303423487, true, false),   (60, 1152921504606846975, true, false), (61, 2305843009213693951, true, false),   (62, 4611686018427387903, true, false), (63, 9223372036854775807, true, false),   (64, 18446744073709551615, true, false), (65, 36893488147419103231, true, false),   (66, 73786976294838206463, true, false), (67, 147573952589676412927, true, false),   (68, 295147905179352825855, true, false)]) := by kernel_rfl
theorem plan21_0 : plan (((drawnOps Tryz.f21)[0]?).getD #[]) = some (mkPlan (((drawnOps Tryz.f21)[0]?).getD #[]).toList [(0, 0, true, false), (1, 0, true, false), (2, 0, true, false), (3, 1, false, false), (4, 11, false, false),   (5, 31, true, false)]) := by kernel_rfl
theorem plan48_0 : plan (((drawnOps Tryz.f48)[0]?).getD #[]) = some (mkPlan (((drawnOps Tryz.f48)[0]?).getD #[]).toList [(0, 0, true, false), (1, 0, true, false), (2, 2, true, false), (4, 0, true, false), (5, 16, true, false),   (3, 6, false, false), (6, 62, false, false), (7, 126, true, false), (8, 255, false, false)]) := by kernel_rfl
theorem plan49_0 : plan (((drawnOps Tryz.f49)[0]?).getD #[]) = some (mkPlan (((drawnOps Tryz.f49)[0]?).getD #[]).toList [(0, 0, true, false), (2, 0, true, false), (3, 0, true, false), (1, 1, false, false), (4, 15, false, false),   (5, 31, false, false)]) := by kernel_rfl
theorem plan53_0 : plan (((drawnOps Tryz.f53)[0]?).getD #[]) = some (mkPlan (((drawnOps Tryz.f53)[0]?).getD #[]).toList [(0, 0, true, false), (1, 0, true, false), (2, 0, true, false), (3, 6, false, false), (4, 14, false, false),   (5, 31, false, false), (6, 63, false, false), (7, 127, false, false)]) := by kernel_rfl
theorem plan59_0 : plan (((drawnOps Tryz.f59)[0]?).getD #[]) = some (mkPlan (((drawnOps Tryz.f59)[0]?).getD #[]).toList [(0, 0, true, false), (2, 0, true, false), (3, 0, true, false), (1, 1, false, false), (4, 15, false, false),   (5, 31, false, false)]) := by kernel_rfl
theorem plan66_0 : plan (((drawnOps Tryz.f66)[0]?).getD #[]) = some (mkPlan (((drawnOps Tryz.f66)[0]?).getD #[]).toList [(0, 0, true, false), (2, 0, true, false), (1, 1, false, false), (3, 7, false, false), (4, 15, false, false)]) := by kernel_rfl
theorem plan75_0 : plan (((drawnOps Tryz.f75)[0]?).getD #[]) = some (mkPlan (((drawnOps Tryz.f75)[0]?).getD #[]).toList [(0, 0, true, false), (2, 0, true, false), (1, 1, false, false), (3, 7, false, false), (4, 15, false, false)]) := by kernel_rfl
theorem plan115_0 : plan (((drawnOps Tryz.f115)[0]?).getD #[]) = some (mkPlan (((drawnOps Tryz.f115)[0]?).getD #[]).toList [(0, 0, true, false), (1, 1, true, false), (2, 0, true, false), (4, 0, true, false), (3, 7, false, false),   (5, 31, false, false), (6, 63, true, false)]) := by kernel_rfl
theorem plan134_0 : plan (((drawnOps Tryz.f134)[0]?).getD #[]) = some (mkPlan (((drawnOps Tryz.f134)[0]?).getD #[]).toList [(0, 0, true, false), (1, 0, true, false), (2, 0, true, false), (3, 6, false, false), (4, 15, false, false),   (5, 31, true, false)]) := by kernel_rfl
theorem plan139_0 : plan (((drawnOps Tryz.f139)[0]?).getD #[]) = some (mkPlan (((drawnOps Tryz.f139)[0]?).getD #[]).toList [(0, 0, true, false), (1, 0, true, false), (2, 0, true, false), (3, 0, true, false), (4, 12, true, false),   (5, 28, true, false), (6, 1, true, false), (7, 65, true, false), (8, 193, true, false), (9, 511, false, false),   (10, 1023, false, false)]) := by kernel_rfl
theorem plan141_0 : plan (((drawnOps Tryz.f141)[0]?).getD #[]) = some (mkPlan (((drawnOps Tryz.f141)[0]?).getD #[]).toList [(0, 0, true, false), (1, 1, true, false), (2, 0, true, false), (3, 0, true, false), (4, 12, false, false),   (5, 31, true, false), (6, 63, true, false), (7, 127, false, false)]) := by kernel_rfl
theorem plan149_0 : plan (((drawnOps Tryz.f149)[0]?).getD #[]) = some (mkPlan (((drawnOps Tryz.f149)[0]?).getD #[]).toList [(0, 0, true, false), (1, 0, true, false), (2, 3, true, false), (3, 0, true, false), (4, 0, true, false),   (5, 24, true, false), (6, 63, false, false), (7, 127, true, false)]) := by kernel_rfl
end Go.Proofs.YtkcimfopboelaaaGreat

namespace Go.Proofs.YtkcimfopboelaaaGreat
open Go Go.AbsE
set_option linter.unusedSimpArgs false
set_option maxRecDepth 100000
set_option maxHeartbeats 0
set_option linter.unusedVariables false
theorem inside_ok {n a b : Int} {h : AH} : Runs Tryz.prog 95 [.int .i64 n, .int .i64 a, .int .i64 b] h (fun en h' => en = .ret (.bool (decide (a ≤ n ∧ n ≤ b))) ∧ Ext h h') := by
 have e0 : Ext h h := Ext.refl _
 refine Runs.intro aFunc95 rfl rfl rfl rfl fun rest => ?_;apply gS;refine gR rfl ?_;refine gP ?_;apply gE;apply gS;refine gR rfl ?_;iterate 2 refine gP ?_
 by_cases hs0 : (a : Int) ≤ n
 ·refine gO rfl rfl (kMT rfl rfl) rfl ?_;iterate 3 refine gP ?_
  by_cases hs1 : (n : Int) ≤ b
  ·refine gO rfl rfl (kMT rfl rfl) rfl ?_;iterate 2 refine gP ?_
   apply gE;exact gV (ret_end (aResult_of Tryz.func95 rfl rfl) ⟨ret_true (by omega), e0⟩)
  ·refine gO rfl rfl (kMF rfl rfl) rfl ?_;iterate 2 refine gP ?_
   apply gE;exact gV (ret_end (aResult_of Tryz.func95 rfl rfl) ⟨ret_false (by omega), e0⟩)
 ·refine gO rfl rfl (kMF rfl rfl) rfl ?_;refine gP ?_;iterate 3 refine GoR.skip rfl rfl rfl ?_
  iterate 2 refine gP ?_
  apply gE;exact gV (ret_end (aResult_of Tryz.func95 rfl rfl) ⟨ret_false (by omega), e0⟩)
theorem inside_is {n a b : Int} {r : Bool} (hr : decide (a ≤ n ∧ n ≤ b) = r) {h : AH} : Runs Tryz.prog 95 [.int .i64 n, .int .i64 a, .int .i64 b] h (fun en h' => en = .ret (.bool r) ∧ Ext h h') := by
 rw [← hr]
 exact inside_ok
theorem within_ok {lo hi a b : Int} {h : AH} : Runs Tryz.prog 152 [.agg [.int .i64 lo, .int .i64 hi], .int .i64 a, .int .i64 b] h (fun en h' => en = .ret (.bool (decide (lo ≤ hi ∧ a ≤ lo ∧ hi ≤ b))) ∧ Ext h h') := by
 have e0 : Ext h h := Ext.refl _
 refine Runs.intro aFunc152 rfl rfl rfl rfl fun rest => ?_;apply gS;refine gR rfl ?_;refine GoR.box rfl rfl rfl rfl rfl rfl fun h0 x0 f0 => ?_;have := e0.1;replace e0 := e0.trans x0;have := f0.1;refine gP ?_;apply gE;apply gS;refine gR rfl ?_;refine gO rfl rfl (fa29_0 rfl) rfl ?_;refine gO rfl rfl (ld3 rfl f0 rfl) rfl ?_;refine gO rfl rfl (fa29_1 rfl) rfl ?_;refine gO rfl rfl (ld3 rfl f0 rfl) rfl ?_
 by_cases hs0 : (lo : Int) ≤ hi
 ·refine gO rfl rfl (kMT rfl rfl) rfl ?_;iterate 2 refine gP ?_
  refine gO rfl rfl (fa29_0 rfl) rfl ?_;refine gO rfl rfl (ld3 rfl f0 rfl) rfl ?_
  by_cases hs1 : (a : Int) ≤ lo
  ·refine gO rfl rfl (kMT rfl rfl) rfl ?_;iterate 2 refine gP ?_
   refine gO rfl rfl (fa29_1 rfl) rfl ?_;refine gO rfl rfl (ld3 rfl f0 rfl) rfl ?_;refine gP ?_
   by_cases hs2 : (hi : Int) ≤ b
   ·refine gO rfl rfl (kMT rfl rfl) rfl ?_;iterate 2 refine gP ?_
    apply gE;exact gV (ret_end (aResult_of Tryz.func152 rfl rfl) ⟨ret_true (by omega), e0⟩)
   ·refine gO rfl rfl (kMF rfl rfl) rfl ?_;iterate 2 refine gP ?_
    apply gE;exact gV (ret_end (aResult_of Tryz.func152 rfl rfl) ⟨ret_false (by omega), e0⟩)
  ·refine gO rfl rfl (kMF rfl rfl) rfl ?_;iterate 2 refine gP ?_
   iterate 4 refine GoR.skip rfl rfl rfl ?_
   iterate 2 refine gP ?_
   apply gE;exact gV (ret_end (aResult_of Tryz.func152 rfl rfl) ⟨ret_false (by omega), e0⟩)
 ·refine gO rfl rfl (kMF rfl rfl) rfl ?_;refine gP ?_;iterate 4 refine GoR.skip rfl rfl rfl ?_
  iterate 2 refine gP ?_
  iterate 4 refine GoR.skip rfl rfl rfl ?_
  iterate 2 refine gP ?_
  apply gE;exact gV (ret_end (aResult_of Tryz.func152 rfl rfl) ⟨ret_false (by omega), e0⟩)
theorem within_is {lo hi a b : Int} {r : Bool} (hr : decide (lo ≤ hi ∧ a ≤ lo ∧ hi ≤ b) = r) {h : AH} : Runs Tryz.prog 152 [.agg [.int .i64 lo, .int .i64 hi], .int .i64 a, .int .i64 b] h (fun en h' => en = .ret (.bool r) ∧ Ext h h') := by
 rw [← hr]
 exact within_ok
theorem narrow_ok {lo hi a b : Int} (ha : 0 ≤ a) (hb : b ≤ 1000) {h : AH} : Runs Tryz.prog 151 [.agg [.int .i64 lo, .int .i64 hi], .int .i64 a, .int .i64 b] h (fun en h' => en = .ret (.bool (decide (a ≤ lo ∧ lo ≤ hi ∧ hi ≤ b ∧ hi - lo ≤ 2))) ∧ Ext h h') := by
 by_cases hw : lo ≤ hi ∧ a ≤ lo ∧ hi ≤ b
 ·have e0 : Ext h h := Ext.refl _
  refine Runs.intro aFunc151 rfl rfl rfl rfl fun rest => ?_;apply gS;refine gR rfl ?_;refine GoR.box rfl rfl rfl rfl rfl rfl fun h0 x0 f0 => ?_;have := e0.1;replace e0 := e0.trans x0;have := f0.1;refine gP ?_;apply gE;apply gS;refine gR rfl ?_;refine gO rfl rfl (ld29 rfl f0 rfl) rfl ?_;iterate 2 refine gP ?_
  refine GoR.call rfl rfl (aCF aFunc152 rfl) (within_is (r := true) (decide_eq_true hw)) ?_ np;rintro v1 h1 ⟨q, x1⟩;cases q;refine ⟨_, rfl, ?_⟩;replace f0 := f0.ext x1;replace e0 := e0.trans x1;refine gP ?_;refine gO rfl rfl (fa29_1 rfl) rfl ?_;refine gO rfl rfl (ld3 rfl f0 rfl) rfl ?_;refine gO rfl rfl (fa29_0 rfl) rfl ?_;refine gO rfl rfl (ld3 rfl f0 rfl) rfl ?_;refine gO rfl rfl (aS rfl rfl) rfl ?_
  by_cases hs0 : (hi - lo : Int) ≤ (2 : Int)
  ·refine gO rfl rfl (kMT rfl rfl) rfl ?_;iterate 2 refine gP ?_
   apply gE;exact gV (ret_end (aResult_of Tryz.func151 rfl rfl) ⟨ret_true (by omega), e0⟩)
  ·refine gO rfl rfl (kMF rfl rfl) rfl ?_;iterate 2 refine gP ?_
   apply gE;exact gV (ret_end (aResult_of Tryz.func151 rfl rfl) ⟨ret_false (by omega), e0⟩)
 ·have e0 : Ext h h := Ext.refl _
  refine Runs.intro aFunc151 rfl rfl rfl rfl fun rest => ?_;apply gS;refine gR rfl ?_;refine GoR.box rfl rfl rfl rfl rfl rfl fun h0 x0 f0 => ?_;have := e0.1;replace e0 := e0.trans x0;have := f0.1;refine gP ?_;apply gE;apply gS;refine gR rfl ?_;refine gO rfl rfl (ld29 rfl f0 rfl) rfl ?_;iterate 2 refine gP ?_
  refine GoR.call rfl rfl (aCF aFunc152 rfl) (within_is (r := false) (decide_eq_false hw)) ?_ np;rintro v1 h1 ⟨q, x1⟩;cases q;refine ⟨_, rfl, ?_⟩;replace e0 := e0.trans x1;refine gP ?_;iterate 6 refine GoR.skip rfl rfl rfl ?_
  iterate 2 refine gP ?_
  apply gE;exact gV (ret_end (aResult_of Tryz.func151 rfl rfl) ⟨ret_false (by omega), e0⟩)
theorem narrow_is {lo hi a b : Int} (ha : 0 ≤ a) (hb : b ≤ 1000) {r : Bool} (hr : decide (a ≤ lo ∧ lo ≤ hi ∧ hi ≤ b ∧ hi - lo ≤ 2) = r) {h : AH} : Runs Tryz.prog 151 [.agg [.int .i64 lo, .int .i64 hi], .int .i64 a, .int .i64 b] h (fun en h' => en = .ret (.bool r) ∧ Ext h h') := by
 rw [← hr]
 exact narrow_ok ha hb
theorem sinks_ok {x : Pc} {load : Int} (h1 : 0 ≤ load ∧ load ≤ 1000) (h2 : 1 ≤ x.stiff ∧ x.stiff ≤ 10) {h : AH} : Runs Tryz.prog 62 [.agg x.cells, .int .i64 load] h (fun en h' => en = .ret (.int .i64 (x.sinks load)) ∧ Ext h h') := by
 have := sinks_nonneg h1.1 h2.1
 have := sinks_le h1.1 h2.1
 unfold Pc.cells
 have e0 : Ext h h := Ext.refl _
 refine Runs.intro aFunc62 rfl rfl rfl rfl fun rest => ?_;apply gS;refine gR rfl ?_;refine GoR.box rfl rfl rfl rfl rfl rfl fun h3 x3 f3 => ?_;replace e0 := e0.trans x3;refine gP ?_;apply gE;apply gS;refine gR rfl ?_;refine gP ?_;refine gO rfl rfl (fa84_1 rfl) rfl ?_;refine gO rfl rfl (ld3 rfl f3 rfl) rfl ?_;refine gO rfl rfl (aA rfl rfl) rfl ?_;refine gO rfl rfl (aS rfl rfl) rfl ?_;refine gO rfl rfl (fa84_1 rfl) rfl ?_;refine gO rfl rfl (ld3 rfl f3 rfl) rfl ?_;refine gO rfl rfl (aOp_quo rfl rfl (by omega) rfl (by unfold sinksV at *; omega)) rfl ?_;refine gP ?_;apply gE;exact gW Tryz.func62 rfl rfl ⟨rfl, e0⟩
theorem pressed_ok {x : Pc} {load : Int} (h1 : 0 ≤ load ∧ load ≤ 1000) (h2 : 1 ≤ x.stiff ∧ x.stiff ≤ 10) (h3 : -10000 ≤ x.height ∧ x.height ≤ 1000) {h : AH} : Runs Tryz.prog 141 [.agg x.cells, .int .i64 load] h (fun en h' => en = .ret (.agg (x.pressed load).cells) ∧ Ext h h') := by
 have := sinks_nonneg h1.1 h2.1
 have := sinks_le h1.1 h2.1
 have hs := fun h => sinks_ok (x := x) h1 h2 (h := h)
 unfold Pc.cells Pc.sinks at *
 have e0 : Ext h h := Ext.refl _
 refine Runs.intro aFunc141 rfl rfl rfl rfl fun rest => ?_;apply gS;refine gR rfl ?_;refine GoR.box rfl rfl rfl rfl rfl rfl fun h4 x4 f4 => ?_;have := e0.1;replace e0 := e0.trans x4;have := f4.1;refine GoR.alloc rfl rfl rfl zt84 rfl rfl fun h5 x5 f5 => ?_;have := e0.1;have := f4.1;replace f4 := f4.ext x5;replace e0 := e0.trans x5;have := f5.1;apply gE;apply gS;refine Go.drawnE plan141_0 ?_;refine gQ rfl rfl (fa84_0 rfl) rfl ?_;refine gQ rfl rfl (ld3 rfl f4 rfl) rfl ?_;refine gQ rfl rfl (ld84 rfl f4 rfl) rfl ?_;refine gQ rfl rfl rfl rfl ?_;refine GoE.call rfl rfl (aCF aFunc62 rfl) (hs _) (dD 12 3 (dD 12 2 (dK 12 1 (dK 12 0 rfl)))) ?_ np;rintro v6 h6 ⟨q, x6⟩;cases q;replace f5 := f5.ext x6;replace f4 := f4.ext x6;replace e0 := e0.trans x6;refine ⟨(rck (h2 := h6) rfl (ld3 rfl f4 rfl) (rck (h2 := h6) rfl (fa84_0 rfl) recheck_nil)), _, rfl, ?_⟩;refine gQ rfl rfl (aS rfl rfl) rfl ?_;refine gQ rfl rfl (fa84_0 rfl) rfl ?_;refine GoE.store rfl rfl rfl rfl (dD 127 6 (dD 127 5 (dD 127 1 (dD 127 0 rfl)))) rfl rfl f4 rfl sz3 rfl rfl rfl fun h7 u7 => ?_;replace f5 := f5.upd u7 (by omega);replace f4 := u7.has f4;replace e0 := e0.upd u7 (by omega);refine ⟨recheck_nil, ?_⟩;refine GoE.end rfl ?_;apply gS;refine gR rfl ?_;refine gO rfl rfl (ld84 rfl f4 rfl) rfl ?_;refine GoR.store rfl rfl rfl rfl rfl rfl f5 rfl sz84 rfl rfl rfl fun h8 u8 => ?_;replace f5 := u8.has f5;replace e0 := e0.upd u8 (by omega);apply gE;exact gV (ret_end (aResult_of Tryz.func141 rfl (aResults_cell rfl f5 (inCells_agg ag84 sz84 rfl))) ⟨rfl, e0⟩)
theorem rested_ok {x : Pc} {days : Int} (h1 : 0 ≤ days ∧ days ≤ 1000) (h2 : 0 ≤ x.rise ∧ x.rise ≤ 5) (h3 : -10000 ≤ x.height ∧ x.height ≤ 1000) {h : AH} : Runs Tryz.prog 116 [.agg x.cells, .int .i64 days] h (fun en h' => en = .ret (.agg (x.rested days).cells) ∧ Ext h h') := by
 have := mul_small h1 h2
 unfold Pc.cells Pc.rested
 have e0 : Ext h h := Ext.refl _
 refine Runs.intro aFunc116 rfl rfl rfl rfl fun rest => ?_;apply gS;refine gR rfl ?_;refine GoR.box rfl rfl rfl rfl rfl rfl fun h4 x4 f4 => ?_;have := e0.1;replace e0 := e0.trans x4;have := f4.1;refine GoR.alloc rfl rfl rfl zt84 rfl rfl fun h5 x5 f5 => ?_;have := e0.1;have := f4.1;replace f4 := f4.ext x5;replace e0 := e0.trans x5;have := f5.1;apply gE;apply gS;refine gR rfl ?_;refine gO rfl rfl (fa84_0 rfl) rfl ?_;refine gO rfl rfl (ld3 rfl f4 rfl) rfl ?_;refine gP ?_;refine gO rfl rfl (fa84_2 rfl) rfl ?_;refine gO rfl rfl (ld3 rfl f4 rfl) rfl ?_;refine gO rfl rfl (aOp_mul rfl rfl rfl (by omega)) rfl ?_;refine gO rfl rfl (aA rfl rfl) rfl ?_;refine gO rfl rfl (fa84_3 rfl) rfl ?_;refine gO rfl rfl (ld3 rfl f4 rfl) rfl ?_;refine gO rfl rfl (aOp_min2 rfl rfl (r := min (x.height + days * x.rise) x.full) (by split <;> omega)) rfl ?_;refine gO rfl rfl (fa84_0 rfl) rfl ?_;refine GoR.store rfl rfl rfl rfl rfl rfl f4 rfl sz3 rfl rfl rfl fun h6 u6 => ?_;replace f5 := f5.upd u6 (by omega);replace f4 := u6.has f4;replace e0 := e0.upd u6 (by omega);apply gE;apply gS;refine gR rfl ?_;refine gO rfl rfl (ld84 rfl f4 rfl) rfl ?_;refine GoR.store rfl rfl rfl rfl rfl rfl f5 rfl sz84 rfl rfl rfl fun h7 u7 => ?_;replace f5 := u7.has f5;replace e0 := e0.upd u7 (by omega);apply gE;exact gV (ret_end (aResult_of Tryz.func116 rfl (aResults_cell rfl f5 (inCells_agg ag84 sz84 rfl))) ⟨rfl, e0⟩)
theorem bears_ok {x : Pc} {load : Int} (h1 : 0 ≤ load ∧ load ≤ 1000) (h2 : 1 ≤ x.stiff ∧ x.stiff ≤ 10) (h3 : -10000 ≤ x.height ∧ x.height ≤ 1000) {h : AH} : Runs Tryz.prog 104 [.agg x.cells, .int .i64 load] h (fun en h' => en = .ret (.bool (x.bears load)) ∧ Ext h h') := by
 have hp := fun h => pressed_ok (x := x) h1 h2 h3 (h := h)
 unfold Pc.bears
 unfold Pc.cells at *
 have e0 : Ext h h := Ext.refl _
 refine Runs.intro aFunc104 rfl rfl rfl rfl fun rest => ?_;apply gS;refine gR rfl ?_;refine GoR.box rfl rfl rfl rfl rfl rfl fun h4 x4 f4 => ?_;have := e0.1;replace e0 := e0.trans x4;have := f4.1;refine gP ?_;apply gE;apply gS;refine gR rfl ?_;refine gO rfl rfl (ld84 rfl f4 rfl) rfl ?_;refine gP ?_;refine GoR.call rfl rfl (aCF aFunc141 rfl) (hp _) ?_ np;rintro v5 h5 ⟨q, x5⟩;cases q;refine ⟨_, rfl, ?_⟩;replace e0 := e0.trans x5;refine gO rfl rfl (fd84_0 rfl rfl) rfl ?_
 by_cases hs0 : ((0 : Int) : Int) ≤ (x.pressed load).height
 ·refine gO rfl rfl (kNT rfl rfl) rfl ?_;refine gP ?_;apply gE;exact gV (ret_end (aResult_of Tryz.func104 rfl rfl) ⟨ret_true (by omega), e0⟩)
 ·refine gO rfl rfl (kNF rfl rfl) rfl ?_;refine gP ?_;apply gE;exact gV (ret_end (aResult_of Tryz.func104 rfl rfl) ⟨ret_false (by omega), e0⟩)
theorem one_ok {n : Int} {h : AH} : Runs Tryz.prog 102 [.int .i64 n] h (fun en h' => en = .ret (.agg (spC (n, n))) ∧ Ext h h') := by
 have e0 : Ext h h := Ext.refl _
 refine Runs.intro aFunc102 rfl rfl rfl rfl fun rest => ?_;apply gS;refine gR rfl ?_;refine GoR.alloc rfl rfl rfl zt29 rfl rfl fun h0 x0 f0 => ?_;have := e0.1;replace e0 := e0.trans x0;have := f0.1;apply gE;apply gS;refine gR rfl ?_;iterate 2 refine gP ?_
 refine gO rfl rfl (aOp_build zt29 hu29 pl29 rfl rfl) rfl ?_;refine GoR.store rfl rfl rfl rfl rfl rfl f0 rfl sz29 rfl rfl rfl fun h1 u1 => ?_;replace f0 := u1.has f0;replace e0 := e0.upd u1 (by omega);apply gE;exact gV (ret_end (aResult_of Tryz.func102 rfl (aResults_cell rfl f0 (inCells_agg ag29 sz29 rfl))) ⟨rfl, e0⟩)
end Go.Proofs.YtkcimfopboelaaaGreat

namespace Go.Proofs.YtkcimfopboelaaaGreat
open Go Go.AbsE
set_option linter.unusedSimpArgs false
set_option maxRecDepth 100000
set_option maxHeartbeats 0
set_option linter.unusedVariables false
theorem idx_some {α : Type} {L : List α} {p : α → Bool} {i : Nat} {x : α} (hx : L[i]? = some x) (hp : p x = true) (hn : ∀ y, y ∈ L.take i → p y = false) : L.findIdx? p = some i := by
 have hlt := (List.getElem?_eq_some_iff.1 hx).1
 have hv := (List.getElem?_eq_some_iff.1 hx).2
 refine List.findIdx?_eq_some_iff_getElem.2 ⟨hlt, by rw [hv]; exact hp, fun j hj => ?_⟩;rw [hn _ (List.mem_take_iff_getElem.2 ⟨j, by omega, rfl⟩)]
 simp
theorem take_no {α : Type} {L : List α} {p : α → Bool} {i : Nat} {x : α} (hx : L[i]? = some x) (hp : p x = false) (hn : ∀ y, y ∈ L.take i → p y = false) : ∀ y, y ∈ L.take (i + 1) → p y = false := by
 intro y hy
 rw [List.take_add_one, hx, Option.toList_some, List.mem_append, List.mem_singleton] at hy
 rcases hy with hy | rfl
 ·exact hn y hy
 ·exact hp
theorem idx_any {α : Type} (L : List α) (p : α → Bool) : decide ((0 : Int) ≤ (match L.findIdx? p with | some i => (i : Int) | none => -1)) = L.any p := by
 cases q : L.findIdx? p with
 | none =>
  rw [List.findIdx?_eq_none_iff] at q;rw [List.any_eq_false.2 (fun x hx => by rw [q x hx]; simp)]
  rfl
 | some i =>
  rw [List.findIdx?_eq_some_iff_getElem] at q
  obtain ⟨hlt, hp, _⟩ := q
  rw [List.any_eq_true.2 ⟨_, List.getElem_mem hlt, hp⟩];exact decide_eq_true (Int.natCast_nonneg i)
def Ft.cells (f : Ft) : List AVal := f.x.cells ++ i64s (f.hs ++ List.replicate (10 - f.hs.length) 0)
theorem idx153_at {fid : FuncId} {caps : List AVal} {fn : Func} (hfid : aFunc Tryz.prog fid = some fn) {s : AVal} {L : List PV} (p : PV → Bool) {h : AH} (hs : SliceOf h 7 s (L.map PV.cells)) (hn : L.length ≤ 200)
  (hc : ∀ x h', x ∈ L → Ext h h' → Runs Tryz.prog fid ([.agg (PV.cells x)] ++ caps) h' (fun en h'' => en = .ret (.bool (p x)) ∧ Ext h' h'')) :
  Runs Tryz.prog 153 [s, .func (.func fid) [] caps] h (fun en h' => en = .ret (.int .i64 (match L.findIdx? p with | some i => (i : Int) | none => -1)) ∧ Ext h h') := by
 have hlen := hs.len
 rw [List.length_map] at hlen
 have e0 : Ext h h := Ext.refl _
 refine Runs.intro aFunc153 rfl rfl rfl rfl fun rest => ?_;apply gS;refine gR rfl ?_;refine gP ?_;apply gE;iterate 2 apply gS
 refine gR rfl ?_;refine gP ?_;refine gO rfl rfl (aOp_lenSlice Tryz.underlying74 rfl (by assumption)) rfl ?_;refine gP ?_;apply gE;refine Go.block noJ_ok ?_
 refine Go.loopKeep (fun i : Nat => [(0, s), (1, .func (.func fid) [] caps), (7, .int .i64 L.length), (8, .int .i64 (i : Nat))])
  (fun m i h' => m + i = L.length ∧ Ext h h' ∧ ∀ x, x ∈ L.take i → p x = false) (n := L.length) 0 ⟨rfl, rfl, rfl, rfl, trivial⟩ ⟨rfl, e0, (by intro x hx; simp at hx)⟩ ?_
 clear e0;rintro m i h4 ⟨hm, e0, hp⟩ again
 by_cases hi' : i < L.length
 ·obtain ⟨x, hx⟩ : ∃ x, L[i]? = some x := ⟨L[i], by simp [hi']⟩
  have hmem := List.mem_of_getElem? hx
  obtain ⟨bq, off, q1, q2⟩ := hs.at (i := i) (l := PV.cells x) (by rw [List.getElem?_map, hx]; rfl)
  rw [List.length_map] at q1
  have hcx := hc x h4 hmem e0
  cases hpx : p x with
  | true =>
   rw [hpx] at hcx
   have hany := idx_some hx hpx hp
   rw [hany];apply gS;refine gR rfl ?_;refine gO rfl rfl (kLT rfl rfl) rfl ?_;apply gE;apply gS;refine gC (b := true) rfl ?_;refine gD ?_;apply gS;refine Go.block noJ_ok ?_;apply gS;refine gR rfl ?_;iterate 2 refine gP ?_
   apply gE;apply gS;refine gR rfl ?_;iterate 3 refine gP ?_
   refine gO rfl rfl (aOp_indexAddr (i := i) Tryz.underlying74 sz157 rfl (by assumption) rfl (Nat.ble_eq_true_of_le (by omega))) rfl ?_;refine gO rfl rfl (aOp_loadE ag157 sz157 rfl (q2.ext e0)) rfl ?_;refine GoR.call rfl rfl (aOp_callVal rfl hfid rfl) (hcx) ?_ np;rintro v5 h5 ⟨q, x5⟩;cases q;refine ⟨_, rfl, ?_⟩;replace e0 := e0.trans x5;apply gE;refine gC (b := true) rfl ?_;apply gS;refine gR rfl ?_;iterate 2 refine gP ?_
   apply gE;exact gW Tryz.func153 rfl rfl ⟨rfl, e0⟩
  | false =>
   rw [hpx] at hcx;apply gS;refine gR rfl ?_;refine gO rfl rfl (kLT rfl rfl) rfl ?_;apply gE;apply gS;refine gC (b := true) rfl ?_;refine gD ?_;apply gS;refine Go.block noJ_ok ?_;apply gS;refine gR rfl ?_;iterate 2 refine gP ?_
   apply gE;apply gS;refine gR rfl ?_;iterate 3 refine gP ?_
   refine gO rfl rfl (aOp_indexAddr (i := i) Tryz.underlying74 sz157 rfl (by assumption) rfl (Nat.ble_eq_true_of_le (by omega))) rfl ?_;refine gO rfl rfl (aOp_loadE ag157 sz157 rfl (q2.ext e0)) rfl ?_;refine GoR.call rfl rfl (aOp_callVal rfl hfid rfl) (hcx) ?_ np;rintro v5 h5 ⟨q, x5⟩;cases q;refine ⟨_, rfl, ?_⟩;replace e0 := e0.trans x5;apply gE;refine gC (b := false) rfl ?_;refine gD ?_;refine Go.inBlock noJ_ok ?_;refine gR rfl ?_;refine gO rfl rfl (aA rfl rfl) rfl ?_;refine gP ?_;apply gE;exact again (m - 1) (i + 1) _ _ (by omega) ⟨rfl, rfl, rfl, rfl, trivial⟩ ⟨by omega, e0, take_no hx hpx hp⟩
 ·rw [List.take_of_length_le (by omega)] at hp;rw [List.findIdx?_eq_none_iff.2 hp];apply gS;refine gR rfl ?_;refine gO rfl rfl (kLF rfl rfl) rfl ?_;apply gE;apply gS;refine gC (b := false) rfl ?_;refine gD ?_;apply gS;refine gR rfl ?_;refine gP ?_;apply gE;exact gW Tryz.func153 rfl rfl ⟨rfl, e0⟩
theorem cont129_ok {fid : FuncId} {caps : List AVal} {fn : Func} (hfid : aFunc Tryz.prog fid = some fn) {s : AVal} {L : List PV} (p : PV → Bool) {h : AH} (hs : SliceOf h 7 s (L.map PV.cells)) (hn : L.length ≤ 200)
  (hc : ∀ x h', x ∈ L → Ext h h' → Runs Tryz.prog fid ([.agg (PV.cells x)] ++ caps) h' (fun en h'' => en = .ret (.bool (p x)) ∧ Ext h' h'')) :
  Runs Tryz.prog 129 [s, .func (.func fid) [] caps] h (fun en h' => en = .ret (.bool (L.any p)) ∧ Ext h h') := by
 have e0 : Ext h h := Ext.refl _
 refine Runs.intro aFunc129 rfl rfl rfl rfl fun rest => ?_;apply gS;refine gR rfl ?_;refine gP ?_;apply gE;apply gS;refine gR rfl ?_;iterate 2 refine gP ?_
 refine GoR.call rfl rfl (aCF aFunc153 rfl) (idx153_at hfid p hs hn hc) ?_ np;rintro v0 h0 ⟨q, x0⟩;cases q;refine ⟨_, rfl, ?_⟩;replace e0 := e0.trans x0;refine gO rfl rfl (aOp_geq rfl rfl (idx_any L p)) rfl ?_;refine gP ?_;apply gE;exact gW Tryz.func129 rfl rfl ⟨rfl, e0⟩
theorem idx154_at {fid : FuncId} {caps : List AVal} {fn : Func} (hfid : aFunc Tryz.prog fid = some fn) {s : AVal} {L : List EV} (p : EV → Bool) {h : AH} (hs : SliceOf h 7 s (L.map EV.cells)) (hn : L.length ≤ 200)
  (hc : ∀ x h', x ∈ L → Ext h h' → Runs Tryz.prog fid ([.agg (EV.cells x)] ++ caps) h' (fun en h'' => en = .ret (.bool (p x)) ∧ Ext h' h'')) :
  Runs Tryz.prog 154 [s, .func (.func fid) [] caps] h (fun en h' => en = .ret (.int .i64 (match L.findIdx? p with | some i => (i : Int) | none => -1)) ∧ Ext h h') := by
 have hlen := hs.len
 rw [List.length_map] at hlen
 have e0 : Ext h h := Ext.refl _
 refine Runs.intro aFunc154 rfl rfl rfl rfl fun rest => ?_;apply gS;refine gR rfl ?_;refine gP ?_;apply gE;iterate 2 apply gS
 refine gR rfl ?_;refine gP ?_;refine gO rfl rfl (aOp_lenSlice Tryz.underlying23 rfl (by assumption)) rfl ?_;refine gP ?_;apply gE;refine Go.block noJ_ok ?_
 refine Go.loopKeep (fun i : Nat => [(0, s), (1, .func (.func fid) [] caps), (7, .int .i64 L.length), (8, .int .i64 (i : Nat))])
  (fun m i h' => m + i = L.length ∧ Ext h h' ∧ ∀ x, x ∈ L.take i → p x = false) (n := L.length) 0 ⟨rfl, rfl, rfl, rfl, trivial⟩ ⟨rfl, e0, (by intro x hx; simp at hx)⟩ ?_
 clear e0;rintro m i h4 ⟨hm, e0, hp⟩ again
 by_cases hi' : i < L.length
 ·obtain ⟨x, hx⟩ : ∃ x, L[i]? = some x := ⟨L[i], by simp [hi']⟩
  have hmem := List.mem_of_getElem? hx
  obtain ⟨bq, off, q1, q2⟩ := hs.at (i := i) (l := EV.cells x) (by rw [List.getElem?_map, hx]; rfl)
  rw [List.length_map] at q1
  have hcx := hc x h4 hmem e0
  cases hpx : p x with
  | true =>
   rw [hpx] at hcx
   have hany := idx_some hx hpx hp
   rw [hany];apply gS;refine gR rfl ?_;refine gO rfl rfl (kLT rfl rfl) rfl ?_;apply gE;apply gS;refine gC (b := true) rfl ?_;refine gD ?_;apply gS;refine Go.block noJ_ok ?_;apply gS;refine gR rfl ?_;iterate 2 refine gP ?_
   apply gE;apply gS;refine gR rfl ?_;iterate 3 refine gP ?_
   refine gO rfl rfl (aOp_indexAddr (i := i) Tryz.underlying23 sz62 rfl (by assumption) rfl (Nat.ble_eq_true_of_le (by omega))) rfl ?_;refine gO rfl rfl (aOp_loadE ag62 sz62 rfl (q2.ext e0)) rfl ?_;refine GoR.call rfl rfl (aOp_callVal rfl hfid rfl) (hcx) ?_ np;rintro v5 h5 ⟨q, x5⟩;cases q;refine ⟨_, rfl, ?_⟩;replace e0 := e0.trans x5;apply gE;refine gC (b := true) rfl ?_;apply gS;refine gR rfl ?_;iterate 2 refine gP ?_
   apply gE;exact gW Tryz.func154 rfl rfl ⟨rfl, e0⟩
  | false =>
   rw [hpx] at hcx;apply gS;refine gR rfl ?_;refine gO rfl rfl (kLT rfl rfl) rfl ?_;apply gE;apply gS;refine gC (b := true) rfl ?_;refine gD ?_;apply gS;refine Go.block noJ_ok ?_;apply gS;refine gR rfl ?_;iterate 2 refine gP ?_
   apply gE;apply gS;refine gR rfl ?_;iterate 3 refine gP ?_
   refine gO rfl rfl (aOp_indexAddr (i := i) Tryz.underlying23 sz62 rfl (by assumption) rfl (Nat.ble_eq_true_of_le (by omega))) rfl ?_;refine gO rfl rfl (aOp_loadE ag62 sz62 rfl (q2.ext e0)) rfl ?_;refine GoR.call rfl rfl (aOp_callVal rfl hfid rfl) (hcx) ?_ np;rintro v5 h5 ⟨q, x5⟩;cases q;refine ⟨_, rfl, ?_⟩;replace e0 := e0.trans x5;apply gE;refine gC (b := false) rfl ?_;refine gD ?_;refine Go.inBlock noJ_ok ?_;refine gR rfl ?_;refine gO rfl rfl (aA rfl rfl) rfl ?_;refine gP ?_;apply gE;exact again (m - 1) (i + 1) _ _ (by omega) ⟨rfl, rfl, rfl, rfl, trivial⟩ ⟨by omega, e0, take_no hx hpx hp⟩
 ·rw [List.take_of_length_le (by omega)] at hp;rw [List.findIdx?_eq_none_iff.2 hp];apply gS;refine gR rfl ?_;refine gO rfl rfl (kLF rfl rfl) rfl ?_;apply gE;apply gS;refine gC (b := false) rfl ?_;refine gD ?_;apply gS;refine gR rfl ?_;refine gP ?_;apply gE;exact gW Tryz.func154 rfl rfl ⟨rfl, e0⟩
theorem cont131_ok {fid : FuncId} {caps : List AVal} {fn : Func} (hfid : aFunc Tryz.prog fid = some fn) {s : AVal} {L : List EV} (p : EV → Bool) {h : AH} (hs : SliceOf h 7 s (L.map EV.cells)) (hn : L.length ≤ 200)
  (hc : ∀ x h', x ∈ L → Ext h h' → Runs Tryz.prog fid ([.agg (EV.cells x)] ++ caps) h' (fun en h'' => en = .ret (.bool (p x)) ∧ Ext h' h'')) :
  Runs Tryz.prog 131 [s, .func (.func fid) [] caps] h (fun en h' => en = .ret (.bool (L.any p)) ∧ Ext h h') := by
 have e0 : Ext h h := Ext.refl _
 refine Runs.intro aFunc131 rfl rfl rfl rfl fun rest => ?_;apply gS;refine gR rfl ?_;refine gP ?_;apply gE;apply gS;refine gR rfl ?_;iterate 2 refine gP ?_
 refine GoR.call rfl rfl (aCF aFunc154 rfl) (idx154_at hfid p hs hn hc) ?_ np;rintro v0 h0 ⟨q, x0⟩;cases q;refine ⟨_, rfl, ?_⟩;replace e0 := e0.trans x0;refine gO rfl rfl (aOp_geq rfl rfl (idx_any L p)) rfl ?_;refine gP ?_;apply gE;exact gW Tryz.func131 rfl rfl ⟨rfl, e0⟩
theorem idx155_at {fid : FuncId} {caps : List AVal} {fn : Func} (hfid : aFunc Tryz.prog fid = some fn) {s : AVal} {L : List Ft} (p : Ft → Bool) {h : AH} (hs : SliceOf h 14 s (L.map Ft.cells)) (hn : L.length ≤ 200)
  (hc : ∀ x h', x ∈ L → Ext h h' → Runs Tryz.prog fid ([.agg (Ft.cells x)] ++ caps) h' (fun en h'' => en = .ret (.bool (p x)) ∧ Ext h' h'')) :
  Runs Tryz.prog 155 [s, .func (.func fid) [] caps] h (fun en h' => en = .ret (.int .i64 (match L.findIdx? p with | some i => (i : Int) | none => -1)) ∧ Ext h h') := by
 have hlen := hs.len
 rw [List.length_map] at hlen
 have e0 : Ext h h := Ext.refl _
 refine Runs.intro aFunc155 rfl rfl rfl rfl fun rest => ?_;apply gS;refine gR rfl ?_;refine gP ?_;apply gE;iterate 2 apply gS
 refine gR rfl ?_;refine gP ?_;refine gO rfl rfl (aOp_lenSlice Tryz.underlying120 rfl (by assumption)) rfl ?_;refine gP ?_;apply gE;refine Go.block noJ_ok ?_
 refine Go.loopKeep (fun i : Nat => [(0, s), (1, .func (.func fid) [] caps), (7, .int .i64 L.length), (8, .int .i64 (i : Nat))])
  (fun m i h' => m + i = L.length ∧ Ext h h' ∧ ∀ x, x ∈ L.take i → p x = false) (n := L.length) 0 ⟨rfl, rfl, rfl, rfl, trivial⟩ ⟨rfl, e0, (by intro x hx; simp at hx)⟩ ?_
 clear e0;rintro m i h4 ⟨hm, e0, hp⟩ again
 by_cases hi' : i < L.length
 ·obtain ⟨x, hx⟩ : ∃ x, L[i]? = some x := ⟨L[i], by simp [hi']⟩
  have hmem := List.mem_of_getElem? hx
  obtain ⟨bq, off, q1, q2⟩ := hs.at (i := i) (l := Ft.cells x) (by rw [List.getElem?_map, hx]; rfl)
  rw [List.length_map] at q1
  have hcx := hc x h4 hmem e0
  cases hpx : p x with
  | true =>
   rw [hpx] at hcx
   have hany := idx_some hx hpx hp
   rw [hany];apply gS;refine gR rfl ?_;refine gO rfl rfl (kLT rfl rfl) rfl ?_;apply gE;apply gS;refine gC (b := true) rfl ?_;refine gD ?_;apply gS;refine Go.block noJ_ok ?_;apply gS;refine gR rfl ?_;iterate 2 refine gP ?_
   apply gE;apply gS;refine gR rfl ?_;iterate 3 refine gP ?_
   refine gO rfl rfl (aOp_indexAddr (i := i) Tryz.underlying120 sz87 rfl (by assumption) rfl (Nat.ble_eq_true_of_le (by omega))) rfl ?_;refine gO rfl rfl (aOp_loadE ag87 sz87 rfl (q2.ext e0)) rfl ?_;refine GoR.call rfl rfl (aOp_callVal rfl hfid rfl) (hcx) ?_ np;rintro v5 h5 ⟨q, x5⟩;cases q;refine ⟨_, rfl, ?_⟩;replace e0 := e0.trans x5;apply gE;refine gC (b := true) rfl ?_;apply gS;refine gR rfl ?_;iterate 2 refine gP ?_
   apply gE;exact gW Tryz.func155 rfl rfl ⟨rfl, e0⟩
  | false =>
   rw [hpx] at hcx;apply gS;refine gR rfl ?_;refine gO rfl rfl (kLT rfl rfl) rfl ?_;apply gE;apply gS;refine gC (b := true) rfl ?_;refine gD ?_;apply gS;refine Go.block noJ_ok ?_;apply gS;refine gR rfl ?_;iterate 2 refine gP ?_
   apply gE;apply gS;refine gR rfl ?_;iterate 3 refine gP ?_
   refine gO rfl rfl (aOp_indexAddr (i := i) Tryz.underlying120 sz87 rfl (by assumption) rfl (Nat.ble_eq_true_of_le (by omega))) rfl ?_;refine gO rfl rfl (aOp_loadE ag87 sz87 rfl (q2.ext e0)) rfl ?_;refine GoR.call rfl rfl (aOp_callVal rfl hfid rfl) (hcx) ?_ np;rintro v5 h5 ⟨q, x5⟩;cases q;refine ⟨_, rfl, ?_⟩;replace e0 := e0.trans x5;apply gE;refine gC (b := false) rfl ?_;refine gD ?_;refine Go.inBlock noJ_ok ?_;refine gR rfl ?_;refine gO rfl rfl (aA rfl rfl) rfl ?_;refine gP ?_;apply gE;exact again (m - 1) (i + 1) _ _ (by omega) ⟨rfl, rfl, rfl, rfl, trivial⟩ ⟨by omega, e0, take_no hx hpx hp⟩
 ·rw [List.take_of_length_le (by omega)] at hp;rw [List.findIdx?_eq_none_iff.2 hp];apply gS;refine gR rfl ?_;refine gO rfl rfl (kLF rfl rfl) rfl ?_;apply gE;apply gS;refine gC (b := false) rfl ?_;refine gD ?_;apply gS;refine gR rfl ?_;refine gP ?_;apply gE;exact gW Tryz.func155 rfl rfl ⟨rfl, e0⟩
theorem cont143_ok {fid : FuncId} {caps : List AVal} {fn : Func} (hfid : aFunc Tryz.prog fid = some fn) {s : AVal} {L : List Ft} (p : Ft → Bool) {h : AH} (hs : SliceOf h 14 s (L.map Ft.cells)) (hn : L.length ≤ 200)
  (hc : ∀ x h', x ∈ L → Ext h h' → Runs Tryz.prog fid ([.agg (Ft.cells x)] ++ caps) h' (fun en h'' => en = .ret (.bool (p x)) ∧ Ext h' h'')) :
  Runs Tryz.prog 143 [s, .func (.func fid) [] caps] h (fun en h' => en = .ret (.bool (L.any p)) ∧ Ext h h') := by
 have e0 : Ext h h := Ext.refl _
 refine Runs.intro aFunc143 rfl rfl rfl rfl fun rest => ?_;apply gS;refine gR rfl ?_;refine gP ?_;apply gE;apply gS;refine gR rfl ?_;iterate 2 refine gP ?_
 refine GoR.call rfl rfl (aCF aFunc155 rfl) (idx155_at hfid p hs hn hc) ?_ np;rintro v0 h0 ⟨q, x0⟩;cases q;refine ⟨_, rfl, ?_⟩;replace e0 := e0.trans x0;refine gO rfl rfl (aOp_geq rfl rfl (idx_any L p)) rfl ?_;refine gP ?_;apply gE;exact gW Tryz.func143 rfl rfl ⟨rfl, e0⟩
theorem idx140_at {X : Type} (vf : X → AVal) {fid : FuncId} {caps : List AVal} {fn : Func} (hfid : aFunc Tryz.prog fid = some fn) {s : AVal} {L : List X} (p : X → Bool) {h : AH} (hs : SliceOf h 1 s (L.map (fun x => [vf x]))) (hn : L.length ≤ 200)
  (hc : ∀ x h', x ∈ L → Ext h h' → Runs Tryz.prog fid ([vf x] ++ caps) h' (fun en h'' => en = .ret (.bool (p x)) ∧ Ext h' h'')) :
  Runs Tryz.prog 140 [s, .func (.func fid) [] caps] h (fun en h' => en = .ret (.int .i64 (match L.findIdx? p with | some i => (i : Int) | none => -1)) ∧ Ext h h') := by
 have hlen := hs.len
 rw [List.length_map] at hlen
 have e0 : Ext h h := Ext.refl _
 refine Runs.intro aFunc140 rfl rfl rfl rfl fun rest => ?_;apply gS;refine gR rfl ?_;refine gP ?_;apply gE;iterate 2 apply gS
 refine gR rfl ?_;refine gP ?_;refine gO rfl rfl (aOp_lenSlice Tryz.underlying127 rfl (by assumption)) rfl ?_;refine gP ?_;apply gE;refine Go.block noJ_ok ?_
 refine Go.loopKeep (fun i : Nat => [(0, s), (1, .func (.func fid) [] caps), (7, .int .i64 L.length), (8, .int .i64 (i : Nat))])
  (fun m i h' => m + i = L.length ∧ Ext h h' ∧ ∀ x, x ∈ L.take i → p x = false) (n := L.length) 0 ⟨rfl, rfl, rfl, rfl, trivial⟩ ⟨rfl, e0, (by intro x hx; simp at hx)⟩ ?_
 clear e0;rintro m i h4 ⟨hm, e0, hp⟩ again
 by_cases hi' : i < L.length
 ·obtain ⟨x, hx⟩ : ∃ x, L[i]? = some x := ⟨L[i], by simp [hi']⟩
  have hmem := List.mem_of_getElem? hx
  obtain ⟨bq, off, q1, q2⟩ := hs.at (i := i) (l := [vf x]) (by rw [List.getElem?_map, hx]; rfl)
  rw [List.length_map] at q1
  have hcx := hc x h4 hmem e0
  cases hpx : p x with
  | true =>
   rw [hpx] at hcx
   have hany := idx_some hx hpx hp
   rw [hany];apply gS;refine gR rfl ?_;refine gO rfl rfl (kLT rfl rfl) rfl ?_;apply gE;apply gS;refine gC (b := true) rfl ?_;refine gD ?_;apply gS;refine Go.block noJ_ok ?_;apply gS;refine gR rfl ?_;iterate 2 refine gP ?_
   apply gE;apply gS;refine gR rfl ?_;iterate 3 refine gP ?_
   refine gO rfl rfl (aOp_indexAddr (i := i) Tryz.underlying127 sz120 rfl (by assumption) rfl (Nat.ble_eq_true_of_le (by omega))) rfl ?_;refine gO rfl rfl (aOp_loadE1 (k := 0) ag120 rfl (q2.ext e0) rfl) rfl ?_;refine GoR.call rfl rfl (aOp_callVal rfl hfid rfl) (hcx) ?_ np;rintro v5 h5 ⟨q, x5⟩;cases q;refine ⟨_, rfl, ?_⟩;replace e0 := e0.trans x5;apply gE;refine gC (b := true) rfl ?_;apply gS;refine gR rfl ?_;iterate 2 refine gP ?_
   apply gE;exact gW Tryz.func140 rfl rfl ⟨rfl, e0⟩
  | false =>
   rw [hpx] at hcx;apply gS;refine gR rfl ?_;refine gO rfl rfl (kLT rfl rfl) rfl ?_;apply gE;apply gS;refine gC (b := true) rfl ?_;refine gD ?_;apply gS;refine Go.block noJ_ok ?_;apply gS;refine gR rfl ?_;iterate 2 refine gP ?_
   apply gE;apply gS;refine gR rfl ?_;iterate 3 refine gP ?_
   refine gO rfl rfl (aOp_indexAddr (i := i) Tryz.underlying127 sz120 rfl (by assumption) rfl (Nat.ble_eq_true_of_le (by omega))) rfl ?_;refine gO rfl rfl (aOp_loadE1 (k := 0) ag120 rfl (q2.ext e0) rfl) rfl ?_;refine GoR.call rfl rfl (aOp_callVal rfl hfid rfl) (hcx) ?_ np;rintro v5 h5 ⟨q, x5⟩;cases q;refine ⟨_, rfl, ?_⟩;replace e0 := e0.trans x5;apply gE;refine gC (b := false) rfl ?_;refine gD ?_;refine Go.inBlock noJ_ok ?_;refine gR rfl ?_;refine gO rfl rfl (aA rfl rfl) rfl ?_;refine gP ?_;apply gE;exact again (m - 1) (i + 1) _ _ (by omega) ⟨rfl, rfl, rfl, rfl, trivial⟩ ⟨by omega, e0, take_no hx hpx hp⟩
 ·rw [List.take_of_length_le (by omega)] at hp;rw [List.findIdx?_eq_none_iff.2 hp];apply gS;refine gR rfl ?_;refine gO rfl rfl (kLF rfl rfl) rfl ?_;apply gE;apply gS;refine gC (b := false) rfl ?_;refine gD ?_;apply gS;refine gR rfl ?_;refine gP ?_;apply gE;exact gW Tryz.func140 rfl rfl ⟨rfl, e0⟩
theorem cont100_ok {X : Type} (vf : X → AVal) {fid : FuncId} {caps : List AVal} {fn : Func} (hfid : aFunc Tryz.prog fid = some fn) {s : AVal} {L : List X} (p : X → Bool) {h : AH} (hs : SliceOf h 1 s (L.map (fun x => [vf x]))) (hn : L.length ≤ 200)
  (hc : ∀ x h', x ∈ L → Ext h h' → Runs Tryz.prog fid ([vf x] ++ caps) h' (fun en h'' => en = .ret (.bool (p x)) ∧ Ext h' h'')) :
  Runs Tryz.prog 100 [s, .func (.func fid) [] caps] h (fun en h' => en = .ret (.bool (L.any p)) ∧ Ext h h') := by
 have e0 : Ext h h := Ext.refl _
 refine Runs.intro aFunc100 rfl rfl rfl rfl fun rest => ?_;apply gS;refine gR rfl ?_;refine gP ?_;apply gE;apply gS;refine gR rfl ?_;iterate 2 refine gP ?_
 refine GoR.call rfl rfl (aCF aFunc140 rfl) (idx140_at vf hfid p hs hn hc) ?_ np;rintro v0 h0 ⟨q, x0⟩;cases q;refine ⟨_, rfl, ?_⟩;replace e0 := e0.trans x0;refine gO rfl rfl (aOp_geq rfl rfl (idx_any L p)) rfl ?_;refine gP ?_;apply gE;exact gW Tryz.func100 rfl rfl ⟨rfl, e0⟩
theorem idx118_at {fid : FuncId} {caps : List AVal} {fn : Func} (hfid : aFunc Tryz.prog fid = some fn) {s : AVal} {L : List (Int × Int)} (p : (Int × Int) → Bool) {h : AH} (hs : SliceOf h 2 s (L.map spC)) (hn : L.length ≤ 200)
  (hc : ∀ x h', x ∈ L → Ext h h' → Runs Tryz.prog fid ([.agg (spC x)] ++ caps) h' (fun en h'' => en = .ret (.bool (p x)) ∧ Ext h' h'')) :
  Runs Tryz.prog 118 [s, .func (.func fid) [] caps] h (fun en h' => en = .ret (.int .i64 (match L.findIdx? p with | some i => (i : Int) | none => -1)) ∧ Ext h h') := by
 have hlen := hs.len
 rw [List.length_map] at hlen
 have e0 : Ext h h := Ext.refl _
 refine Runs.intro aFunc118 rfl rfl rfl rfl fun rest => ?_;apply gS;refine gR rfl ?_;refine gP ?_;apply gE;iterate 2 apply gS
 refine gR rfl ?_;refine gP ?_;refine gO rfl rfl (aOp_lenSlice Tryz.underlying147 rfl (by assumption)) rfl ?_;refine gP ?_;apply gE;refine Go.block noJ_ok ?_
 refine Go.loopKeep (fun i : Nat => [(0, s), (1, .func (.func fid) [] caps), (7, .int .i64 L.length), (8, .int .i64 (i : Nat))])
  (fun m i h' => m + i = L.length ∧ Ext h h' ∧ ∀ x, x ∈ L.take i → p x = false) (n := L.length) 0 ⟨rfl, rfl, rfl, rfl, trivial⟩ ⟨rfl, e0, (by intro x hx; simp at hx)⟩ ?_
 clear e0;rintro m i h4 ⟨hm, e0, hp⟩ again
 by_cases hi' : i < L.length
 ·obtain ⟨x, hx⟩ : ∃ x, L[i]? = some x := ⟨L[i], by simp [hi']⟩
  have hmem := List.mem_of_getElem? hx
  obtain ⟨bq, off, q1, q2⟩ := hs.at (i := i) (l := spC x) (by rw [List.getElem?_map, hx]; rfl)
  rw [List.length_map] at q1
  have hcx := hc x h4 hmem e0
  cases hpx : p x with
  | true =>
   rw [hpx] at hcx
   have hany := idx_some hx hpx hp
   rw [hany];apply gS;refine gR rfl ?_;refine gO rfl rfl (kLT rfl rfl) rfl ?_;apply gE;apply gS;refine gC (b := true) rfl ?_;refine gD ?_;apply gS;refine Go.block noJ_ok ?_;apply gS;refine gR rfl ?_;iterate 2 refine gP ?_
   apply gE;apply gS;refine gR rfl ?_;iterate 3 refine gP ?_
   refine gO rfl rfl (aOp_indexAddr (i := i) Tryz.underlying147 sz29 rfl (by assumption) rfl (Nat.ble_eq_true_of_le (by omega))) rfl ?_;refine gO rfl rfl (aOp_loadE ag29 sz29 rfl (q2.ext e0)) rfl ?_;refine GoR.call rfl rfl (aOp_callVal rfl hfid rfl) (hcx) ?_ np;rintro v5 h5 ⟨q, x5⟩;cases q;refine ⟨_, rfl, ?_⟩;replace e0 := e0.trans x5;apply gE;refine gC (b := true) rfl ?_;apply gS;refine gR rfl ?_;iterate 2 refine gP ?_
   apply gE;exact gW Tryz.func118 rfl rfl ⟨rfl, e0⟩
  | false =>
   rw [hpx] at hcx;apply gS;refine gR rfl ?_;refine gO rfl rfl (kLT rfl rfl) rfl ?_;apply gE;apply gS;refine gC (b := true) rfl ?_;refine gD ?_;apply gS;refine Go.block noJ_ok ?_;apply gS;refine gR rfl ?_;iterate 2 refine gP ?_
   apply gE;apply gS;refine gR rfl ?_;iterate 3 refine gP ?_
   refine gO rfl rfl (aOp_indexAddr (i := i) Tryz.underlying147 sz29 rfl (by assumption) rfl (Nat.ble_eq_true_of_le (by omega))) rfl ?_;refine gO rfl rfl (aOp_loadE ag29 sz29 rfl (q2.ext e0)) rfl ?_;refine GoR.call rfl rfl (aOp_callVal rfl hfid rfl) (hcx) ?_ np;rintro v5 h5 ⟨q, x5⟩;cases q;refine ⟨_, rfl, ?_⟩;replace e0 := e0.trans x5;apply gE;refine gC (b := false) rfl ?_;refine gD ?_;refine Go.inBlock noJ_ok ?_;refine gR rfl ?_;refine gO rfl rfl (aA rfl rfl) rfl ?_;refine gP ?_;apply gE;exact again (m - 1) (i + 1) _ _ (by omega) ⟨rfl, rfl, rfl, rfl, trivial⟩ ⟨by omega, e0, take_no hx hpx hp⟩
 ·rw [List.take_of_length_le (by omega)] at hp;rw [List.findIdx?_eq_none_iff.2 hp];apply gS;refine gR rfl ?_;refine gO rfl rfl (kLF rfl rfl) rfl ?_;apply gE;apply gS;refine gC (b := false) rfl ?_;refine gD ?_;apply gS;refine gR rfl ?_;refine gP ?_;apply gE;exact gW Tryz.func118 rfl rfl ⟨rfl, e0⟩
end Go.Proofs.YtkcimfopboelaaaGreat

namespace Go.Proofs.YtkcimfopboelaaaGreat
open Go Go.AbsE
set_option linter.unusedSimpArgs false
set_option maxRecDepth 100000
set_option maxHeartbeats 0
set_option linter.unusedVariables false
theorem grow_len {h : AH} {el : TypeId} {sz lo : Nat} {s : AVal} {n : Nat} {cs : List AVal} (k : Grow h el sz lo s n cs) : lenA s = some n := by
 rcases k.2 with ⟨rfl, rfl⟩ | ⟨_, b, _, rfl, _⟩
 ·rfl
 ·rfl
theorem flatten_at {α : Type} {f : α → List AVal} {sz : Nat} (hf : ∀ p, (f p).length = sz) {l : List α} : ∀ i v, (l.map f)[i]? = some v → slice? (l.flatMap f) (i * sz) sz = some v := fun i v q => flat_slice (f := f) (sz := sz) hf q
theorem grow_slice {α : Type} {f : α → List AVal} {sz : Nat} (hf : ∀ p, (f p).length = sz) {h : AH} {el : TypeId} {lo n : Nat} {s : AVal} {l : List α} (hn : l.length = n) (G : Grow h el sz lo s n (l.flatMap f)) : SliceOf h sz s (l.map f) := by
 subst hn;exact Grow.sliceOf (L := l.map f) (by rw [List.length_map]; exact G) (flatten_at hf)
theorem take_flat {α β : Type} {L : List α} {i : Nat} {x : α} (f : α → List β) (hx : L[i]? = some x) : (L.take (i + 1)).flatMap f = (L.take i).flatMap f ++ f x := by
 rw [List.take_add_one, hx, Option.toList_some, List.flatMap_append]
 simp
theorem pv_len (p : PV) : (PV.cells p).length = 7 := rfl
theorem ev_len (p : EV) : (EV.cells p).length = 7 := rfl
theorem partsOf_ok {s : AVal} {L : List PV} {h : AH} (hs : SliceOf h 7 s (L.map PV.cells)) (hn : L.length ≤ 100) :
  Runs Tryz.prog 93 [s] h (fun en h' => ∃ r, en = .ret r ∧ Ext h h' ∧ Grow h' 157 7 h.next r L.length (L.flatMap PV.cells)) := by
 have hlen := hs.len
 rw [List.length_map] at hlen
 have e0 : Ext h h := Ext.refl _
 refine Runs.intro aFunc93 rfl rfl rfl rfl fun rest => ?_;apply gS;refine gR rfl ?_;refine gP ?_;apply gE;apply gS;refine gR rfl ?_;refine gP ?_;apply gE;iterate 2 apply gS
 refine gR rfl ?_;refine gP ?_;refine gO rfl rfl (aOp_lenSlice Tryz.underlying22 rfl (by assumption)) rfl ?_;refine gP ?_;apply gE;refine Go.block noJ_ok ?_
 refine Go.loopKeep (fun a : Nat × AVal => [(3, a.2), (6, s), (7, .int .i64 L.length), (8, .int .i64 (a.1 : Nat))])
  (fun m a h' => m + a.1 = L.length ∧ Ext h h' ∧ Grow h' 157 7 h.next a.2 a.1 ((L.take a.1).flatMap PV.cells)) (n := L.length) (0, .nilslice) ⟨rfl, rfl, rfl, rfl, trivial⟩ ⟨rfl, e0, Grow.nil _ _ _ _⟩ ?_
 clear e0;rintro m ⟨i, r⟩ h4 ⟨hm, e0, G⟩ again
 dsimp only at hm G ⊢
 have e9 : Ext h4 h4 := Ext.refl _
 by_cases hi' : i < L.length
 ·obtain ⟨x, hx⟩ : ∃ x, L[i]? = some x := ⟨L[i], by simp [hi']⟩
  obtain ⟨bq, off, q1, q2⟩ := hs.at (i := i) (l := PV.cells x) (by rw [List.getElem?_map, hx]; rfl)
  rw [List.length_map] at q1
  have hnx := take_flat PV.cells hx
  unfold PV.cells at q2
  apply gS;refine gR rfl ?_;refine gO rfl rfl (kLT rfl rfl) rfl ?_;apply gE;apply gS;refine gC (b := true) rfl ?_;refine gD ?_;apply gS;refine Go.block noJ_ok ?_;apply gS;refine gR rfl ?_;refine gO rfl rfl (aOp_indexAddr (i := i) Tryz.underlying22 sz58 rfl (by assumption) rfl (Nat.ble_eq_true_of_le (by omega))) rfl ?_;refine gO rfl rfl (aOp_loadE ag58 sz58 rfl (q2.ext (by assumption))) rfl ?_;refine GoR.alloc rfl rfl rfl zt58 rfl rfl fun h5 x5 f5 => ?_;have := e0.1;have := e9.1;replace e0 := e0.trans x5;replace e9 := e9.trans x5;have := f5.1;refine GoR.store rfl rfl rfl rfl rfl rfl f5 rfl sz58 rfl rfl rfl fun h6 u6 => ?_;replace f5 := u6.has f5;replace e0 := e0.upd u6 (by omega);replace e9 := e9.upd u6 (by omega);apply gE;refine gR rfl ?_;refine gP ?_;refine gO rfl rfl (ld58 rfl f5 rfl) rfl ?_;refine GoR.buildSl rfl rfl (ps := [(0, .agg x.cells)]) (cs := x.cells) Tryz.underlying74 rfl sz157 zt157 rfl rfl rfl rfl fun h7 x7 f7 => ?_;have := e0.1;have := e9.1;have := f5.1;replace f5 := f5.ext x7;replace e0 := e0.trans x7;replace e9 := e9.trans x7;have := f7.1;refine GoR.append1F rfl rfl rfl Tryz.underlying74 Tryz.underlying74 sz157 by157 zt157 rfl rfl rfl rfl f7 rfl rfl (G.ext e9) (by omega) rfl rfl fun s8 h8 y8 g8 => ?_;have := f7.1;have := f5.1;have := e0.1;have := e9.1;clear f7;clear f5;replace e0 := y8.low e0 (fun b q => by have := (grow_own (G.ext e9) q).1; omega);clear e9;have := y8.1;refine gP ?_;apply gE;refine Go.inBlock noJ_ok ?_;refine gR rfl ?_;refine gO rfl rfl (aA rfl rfl) rfl ?_;refine gP ?_;apply gE;exact again (m - 1) (i + 1, s8) _ _ (by omega) ⟨rfl, rfl, rfl, rfl, trivial⟩ ⟨by dsimp only; omega, e0, by dsimp only; rw [hnx]; exact g8.low (by have := e0.1; omega)⟩
 ·have hin : i = L.length := by omega
  rw [hin, List.take_length] at G;apply gS;refine gR rfl ?_;refine gO rfl rfl (kLF rfl rfl) rfl ?_;apply gE;apply gS;refine gC (b := false) rfl ?_;refine gD ?_;apply gS;refine gR rfl ?_;iterate 2 refine gP ?_
  apply gE;exact gV (ret_end (aResult_of Tryz.func93 rfl rfl) ⟨_, rfl, e0, G⟩)
def evC (e : EV) : AVal := if e.kind = 0 then .iface 162 (.agg [.int .i64 e.ll, .int .i64 e.lh]) else if e.kind = 1 then .iface 164 (.agg [.int .i64 e.days]) else .iface 166 (.agg [.int .i64 0, .int .i64 e.part, .int .i64 e.wl, .int .i64 e.wh])
theorem eventsOf_ok {s : AVal} {L : List EV} {h : AH} (hs : SliceOf h 7 s (L.map EV.cells)) (hn : L.length ≤ 100) (hk : ∀ e, e ∈ L → e.kind = 0 ∨ e.kind = 1 ∨ e.kind = 2) :
  Runs Tryz.prog 94 [s] h (fun en h' => ∃ r, en = .ret r ∧ Ext h h' ∧ Grow h' 169 1 h.next r L.length (L.flatMap fun e => [evC e])) := by
 have hlen := hs.len
 rw [List.length_map] at hlen
 have e0 : Ext h h := Ext.refl _
 refine Runs.intro aFunc94 rfl rfl rfl rfl fun rest => ?_;apply gS;refine gR rfl ?_;refine gP ?_;apply gE;apply gS;refine gR rfl ?_;refine gP ?_;apply gE;iterate 2 apply gS
 refine gR rfl ?_;refine gP ?_;refine gO rfl rfl (aOp_lenSlice Tryz.underlying23 rfl (by assumption)) rfl ?_;refine gP ?_;apply gE;refine Go.block noJ_ok ?_
 refine Go.loopKeep (fun a : Nat × AVal => [(3, a.2), (6, s), (7, .int .i64 L.length), (8, .int .i64 (a.1 : Nat))])
  (fun m a h' => m + a.1 = L.length ∧ Ext h h' ∧ Grow h' 169 1 h.next a.2 a.1 ((L.take a.1).flatMap fun e => [evC e])) (n := L.length) (0, .nilslice) ⟨rfl, rfl, rfl, rfl, trivial⟩ ⟨rfl, e0, Grow.nil _ _ _ _⟩ ?_
 clear e0;rintro m ⟨i, r⟩ h4 ⟨hm, e0, G⟩ again
 dsimp only at hm G ⊢
 have e9 : Ext h4 h4 := Ext.refl _
 by_cases hi' : i < L.length
 ·obtain ⟨x, hx⟩ : ∃ x, L[i]? = some x := ⟨L[i], by simp [hi']⟩
  obtain ⟨bq, off, q1, q2⟩ := hs.at (i := i) (l := EV.cells x) (by rw [List.getElem?_map, hx]; rfl)
  rw [List.length_map] at q1
  have hnx := take_flat (fun e => [evC e]) hx
  have hkx := hk x (List.mem_of_getElem? hx)
  unfold EV.cells at q2
  by_cases k0 : x.kind = 0
  ·have hv : evC x = .iface 162 (.agg [.int .i64 x.ll, .int .i64 x.lh]) := if_pos k0
   rw [hv] at hnx;apply gS;refine gR rfl ?_;refine gO rfl rfl (kLT rfl rfl) rfl ?_;apply gE;apply gS;refine gC (b := true) rfl ?_;refine gD ?_;apply gS;refine Go.block noJ_ok ?_;apply gS;refine gR rfl ?_;refine gO rfl rfl (aOp_indexAddr (i := i) Tryz.underlying23 sz62 rfl (by assumption) rfl (Nat.ble_eq_true_of_le (by omega))) rfl ?_;refine gO rfl rfl (aOp_loadE ag62 sz62 rfl (q2.ext (by assumption))) rfl ?_;refine GoR.alloc rfl rfl rfl zt62 rfl rfl fun h5 x5 f5 => ?_;have := e0.1;have := e9.1;replace e0 := e0.trans x5;replace e9 := e9.trans x5;have := f5.1;refine GoR.store rfl rfl rfl rfl rfl rfl f5 rfl sz62 rfl rfl rfl fun h6 u6 => ?_;replace f5 := u6.has f5;replace e0 := e0.upd u6 (by omega);replace e9 := e9.upd u6 (by omega);apply gE;apply gS;refine gR rfl ?_;refine gO rfl rfl (fa62_0 rfl) rfl ?_;refine gO rfl rfl (ld3 rfl f5 rfl) rfl ?_;apply gE;refine Go.block noJ_ok ?_;apply gS;refine gR rfl ?_;refine gO rfl rfl (kET rfl rfl) rfl ?_;refine gP ?_;apply gE;refine gC (b := true) rfl ?_;refine gR rfl ?_;refine gP ?_;refine gO rfl rfl (fa62_1 rfl) rfl ?_;refine gO rfl rfl (ld29 rfl f5 rfl) rfl ?_;refine gO rfl rfl (aOp_build zt162 hu162 pl162 rfl rfl) rfl ?_;refine gP ?_;refine GoR.buildSl rfl rfl (ps := [(0, .iface 162 (.agg [.int .i64 x.ll, .int .i64 x.lh]))]) (cs := [.iface 162 (.agg [.int .i64 x.ll, .int .i64 x.lh])]) Tryz.underlying75 rfl sz169 zt169 rfl rfl rfl rfl fun h7 x7 f7 => ?_;have := e0.1;have := e9.1;have := f5.1;replace f5 := f5.ext x7;replace e0 := e0.trans x7;replace e9 := e9.trans x7;have := f7.1;refine GoR.append1F rfl rfl rfl Tryz.underlying75 Tryz.underlying75 sz169 by169 zt169 rfl rfl rfl rfl f7 rfl rfl (G.ext e9) (by omega) rfl rfl fun s8 h8 y8 g8 => ?_;have := f7.1;have := f5.1;have := e0.1;have := e9.1;clear f7;clear f5;replace e0 := y8.low e0 (fun b q => by have := (grow_own (G.ext e9) q).1; omega);clear e9;have := y8.1;refine gP ?_;apply gE;iterate 2 refine Go.inBlock noJ_ok ?_
   refine gR rfl ?_;refine gO rfl rfl (aA rfl rfl) rfl ?_;refine gP ?_;apply gE;exact again (m - 1) (i + 1, s8) _ _ (by omega) ⟨rfl, rfl, rfl, rfl, trivial⟩ ⟨by dsimp only; omega, e0, by dsimp only; rw [hnx]; exact g8.low (by have := e0.1; omega)⟩
  ·by_cases k1 : x.kind = 1
   ·have hv : evC x = .iface 164 (.agg [.int .i64 x.days]) := by unfold evC; rw [if_neg k0, if_pos k1]
    rw [hv] at hnx;apply gS;refine gR rfl ?_;refine gO rfl rfl (kLT rfl rfl) rfl ?_;apply gE;apply gS;refine gC (b := true) rfl ?_;refine gD ?_;apply gS;refine Go.block noJ_ok ?_;apply gS;refine gR rfl ?_;refine gO rfl rfl (aOp_indexAddr (i := i) Tryz.underlying23 sz62 rfl (by assumption) rfl (Nat.ble_eq_true_of_le (by omega))) rfl ?_;refine gO rfl rfl (aOp_loadE ag62 sz62 rfl (q2.ext (by assumption))) rfl ?_;refine GoR.alloc rfl rfl rfl zt62 rfl rfl fun h5 x5 f5 => ?_;have := e0.1;have := e9.1;replace e0 := e0.trans x5;replace e9 := e9.trans x5;have := f5.1;refine GoR.store rfl rfl rfl rfl rfl rfl f5 rfl sz62 rfl rfl rfl fun h6 u6 => ?_;replace f5 := u6.has f5;replace e0 := e0.upd u6 (by omega);replace e9 := e9.upd u6 (by omega);apply gE;apply gS;refine gR rfl ?_;refine gO rfl rfl (fa62_0 rfl) rfl ?_;refine gO rfl rfl (ld3 rfl f5 rfl) rfl ?_;apply gE;refine Go.block noJ_ok ?_;apply gS;refine gR rfl ?_;refine gO rfl rfl (kEF rfl rfl) rfl ?_;refine gP ?_;apply gE;refine gC (b := false) rfl ?_;apply gS;refine gR rfl ?_;refine gO rfl rfl (kET rfl rfl) rfl ?_;refine gP ?_;apply gE;refine gC (b := true) rfl ?_;refine gR rfl ?_;refine gP ?_;refine gO rfl rfl (fa62_2 rfl) rfl ?_;refine gO rfl rfl (ld3 rfl f5 rfl) rfl ?_;refine gO rfl rfl (aOp_build zt164 hu164 pl164 rfl rfl) rfl ?_;refine gP ?_;refine GoR.buildSl rfl rfl (ps := [(0, .iface 164 (.agg [.int .i64 x.days]))]) (cs := [.iface 164 (.agg [.int .i64 x.days])]) Tryz.underlying75 rfl sz169 zt169 rfl rfl rfl rfl fun h7 x7 f7 => ?_;have := e0.1;have := e9.1;have := f5.1;replace f5 := f5.ext x7;replace e0 := e0.trans x7;replace e9 := e9.trans x7;have := f7.1;refine GoR.append1F rfl rfl rfl Tryz.underlying75 Tryz.underlying75 sz169 by169 zt169 rfl rfl rfl rfl f7 rfl rfl (G.ext e9) (by omega) rfl rfl fun s8 h8 y8 g8 => ?_;have := f7.1;have := f5.1;have := e0.1;have := e9.1;clear f7;clear f5;replace e0 := y8.low e0 (fun b q => by have := (grow_own (G.ext e9) q).1; omega);clear e9;have := y8.1;refine gP ?_;apply gE;iterate 2 refine Go.inBlock noJ_ok ?_
    refine gR rfl ?_;refine gO rfl rfl (aA rfl rfl) rfl ?_;refine gP ?_;apply gE;exact again (m - 1) (i + 1, s8) _ _ (by omega) ⟨rfl, rfl, rfl, rfl, trivial⟩ ⟨by dsimp only; omega, e0, by dsimp only; rw [hnx]; exact g8.low (by have := e0.1; omega)⟩
   ·have k2 : x.kind = 2 := by omega
    have hv : evC x = .iface 166 (.agg [.int .i64 0, .int .i64 x.part, .int .i64 x.wl, .int .i64 x.wh]) := by unfold evC; rw [if_neg k0, if_neg k1]
    rw [hv] at hnx;apply gS;refine gR rfl ?_;refine gO rfl rfl (kLT rfl rfl) rfl ?_;apply gE;apply gS;refine gC (b := true) rfl ?_;refine gD ?_;apply gS;refine Go.block noJ_ok ?_;apply gS;refine gR rfl ?_;refine gO rfl rfl (aOp_indexAddr (i := i) Tryz.underlying23 sz62 rfl (by assumption) rfl (Nat.ble_eq_true_of_le (by omega))) rfl ?_;refine gO rfl rfl (aOp_loadE ag62 sz62 rfl (q2.ext (by assumption))) rfl ?_;refine GoR.alloc rfl rfl rfl zt62 rfl rfl fun h5 x5 f5 => ?_;have := e0.1;have := e9.1;replace e0 := e0.trans x5;replace e9 := e9.trans x5;have := f5.1;refine GoR.store rfl rfl rfl rfl rfl rfl f5 rfl sz62 rfl rfl rfl fun h6 u6 => ?_;replace f5 := u6.has f5;replace e0 := e0.upd u6 (by omega);replace e9 := e9.upd u6 (by omega);apply gE;apply gS;refine gR rfl ?_;refine gO rfl rfl (fa62_0 rfl) rfl ?_;refine gO rfl rfl (ld3 rfl f5 rfl) rfl ?_;apply gE;refine Go.block noJ_ok ?_;apply gS;refine gR rfl ?_;refine gO rfl rfl (kEF rfl rfl) rfl ?_;refine gP ?_;apply gE;refine gC (b := false) rfl ?_;apply gS;refine gR rfl ?_;refine gO rfl rfl (kEF rfl rfl) rfl ?_;refine gP ?_;apply gE;refine gC (b := false) rfl ?_;apply gS;refine gR rfl ?_;refine gO rfl rfl (kET rfl rfl) rfl ?_;refine gP ?_;apply gE;refine gC (b := true) rfl ?_;refine gR rfl ?_;refine gP ?_;refine gO rfl rfl (fa62_3 rfl) rfl ?_;refine gO rfl rfl (ld3 rfl f5 rfl) rfl ?_;refine gO rfl rfl (fa62_4 rfl) rfl ?_;refine gO rfl rfl (ld29 rfl f5 rfl) rfl ?_;refine gO rfl rfl (aOp_build (ps := [(1, .int .i64 x.part), (2, .agg [.int .i64 x.wl, .int .i64 x.wh])]) (cs := [.int .i64 0, .int .i64 x.part, .int .i64 x.wl, .int .i64 x.wh]) zt166 hu166 pl166 rfl rfl) rfl ?_;refine gP ?_;refine GoR.buildSl rfl rfl (ps := [(0, .iface 166 (.agg [.int .i64 0, .int .i64 x.part, .int .i64 x.wl, .int .i64 x.wh]))]) (cs := [.iface 166 (.agg [.int .i64 0, .int .i64 x.part, .int .i64 x.wl, .int .i64 x.wh])]) Tryz.underlying75 rfl sz169 zt169 rfl rfl rfl rfl fun h7 x7 f7 => ?_;have := e0.1;have := e9.1;have := f5.1;replace f5 := f5.ext x7;replace e0 := e0.trans x7;replace e9 := e9.trans x7;have := f7.1;refine GoR.append1F rfl rfl rfl Tryz.underlying75 Tryz.underlying75 sz169 by169 zt169 rfl rfl rfl rfl f7 rfl rfl (G.ext e9) (by omega) rfl rfl fun s8 h8 y8 g8 => ?_;have := f7.1;have := f5.1;have := e0.1;have := e9.1;clear f7;clear f5;replace e0 := y8.low e0 (fun b q => by have := (grow_own (G.ext e9) q).1; omega);clear e9;have := y8.1;refine gP ?_;apply gE;iterate 2 refine Go.inBlock noJ_ok ?_
    refine gR rfl ?_;refine gO rfl rfl (aA rfl rfl) rfl ?_;refine gP ?_;apply gE;exact again (m - 1) (i + 1, s8) _ _ (by omega) ⟨rfl, rfl, rfl, rfl, trivial⟩ ⟨by dsimp only; omega, e0, by dsimp only; rw [hnx]; exact g8.low (by have := e0.1; omega)⟩
 ·have hin : i = L.length := by omega
  rw [hin, List.take_length] at G;apply gS;refine gR rfl ?_;refine gO rfl rfl (kLF rfl rfl) rfl ?_;apply gE;apply gS;refine gC (b := false) rfl ?_;refine gD ?_;apply gS;refine gR rfl ?_;iterate 2 refine gP ?_
  apply gE;exact gV (ret_end (aResult_of Tryz.func94 rfl rfl) ⟨_, rfl, e0, G⟩)
theorem bad_ok (p : PV) (h : AH) : Runs Tryz.prog 130 [.agg (PV.cells p)] h (fun en h' => en = .ret (.bool (!decide p.Ok)) ∧ Ext h h') := by
 unfold PV.cells
 by_cases h1 : 0 ≤ p.full ∧ p.full ≤ 60
 ·by_cases h2 : 0 ≤ p.hl ∧ p.hl ≤ p.hh ∧ p.hh ≤ p.full ∧ p.hh - p.hl ≤ 2
  ·by_cases h3 : 1 ≤ p.sl ∧ p.sl ≤ p.sh ∧ p.sh ≤ 10 ∧ p.sh - p.sl ≤ 2
   ·by_cases h4 : 0 ≤ p.rl ∧ p.rl ≤ p.rh ∧ p.rh ≤ 5 ∧ p.rh - p.rl ≤ 2
    ·rw [show decide p.Ok = true from decide_eq_true ⟨h1, h2, h3, h4⟩]
     have e0 : Ext h h := Ext.refl _
     refine Runs.intro aFunc130 rfl rfl rfl rfl fun rest => ?_;apply gS;refine gR rfl ?_;refine GoR.box rfl rfl rfl rfl rfl rfl fun h5 x5 f5 => ?_;replace e0 := e0.trans x5;refine gP ?_;apply gE;apply gS;refine gR rfl ?_;refine gO rfl rfl (fa157_3 rfl) rfl ?_;refine gO rfl rfl (ld3 rfl f5 rfl) rfl ?_;refine GoR.call rfl rfl (aCF aFunc95 rfl) (inside_is (r := true) (decide_eq_true h1)) ?_ np;rintro v6 h6 ⟨q, x6⟩;cases q;refine ⟨_, rfl, ?_⟩;replace f5 := f5.ext x6;replace e0 := e0.trans x6;iterate 2 refine gP ?_
     refine gO rfl rfl (fa157_0 rfl) rfl ?_;refine gO rfl rfl (ld29 rfl f5 rfl) rfl ?_;refine gO rfl rfl (fa157_3 rfl) rfl ?_;refine gO rfl rfl (ld3 rfl f5 rfl) rfl ?_;refine GoR.call rfl rfl (aCF aFunc151 rfl) (narrow_is (by omega) (by omega) (r := true) (decide_eq_true h2)) ?_ np;rintro v7 h7 ⟨q, x7⟩;cases q;refine ⟨_, rfl, ?_⟩;replace f5 := f5.ext x7;replace e0 := e0.trans x7;iterate 3 refine gP ?_
     refine gO rfl rfl (fa157_1 rfl) rfl ?_;refine gO rfl rfl (ld29 rfl f5 rfl) rfl ?_;refine GoR.call rfl rfl (aCF aFunc151 rfl) (narrow_is (by omega) (by omega) (r := true) (decide_eq_true h3)) ?_ np;rintro v8 h8 ⟨q, x8⟩;cases q;refine ⟨_, rfl, ?_⟩;replace f5 := f5.ext x8;replace e0 := e0.trans x8;iterate 3 refine gP ?_
     refine gO rfl rfl (fa157_2 rfl) rfl ?_;refine gO rfl rfl (ld29 rfl f5 rfl) rfl ?_;refine GoR.call rfl rfl (aCF aFunc151 rfl) (narrow_is (by omega) (by omega) (r := true) (decide_eq_true h4)) ?_ np;rintro v9 h9 ⟨q, x9⟩;cases q;refine ⟨_, rfl, ?_⟩;replace e0 := e0.trans x9;iterate 3 refine gP ?_
     apply gE;exact gW Tryz.func130 rfl rfl ⟨rfl, e0⟩
    ·rw [show decide p.Ok = false from decide_eq_false (fun q => h4 q.2.2.2)]
     have e0 : Ext h h := Ext.refl _
     refine Runs.intro aFunc130 rfl rfl rfl rfl fun rest => ?_;apply gS;refine gR rfl ?_;refine GoR.box rfl rfl rfl rfl rfl rfl fun h5 x5 f5 => ?_;replace e0 := e0.trans x5;refine gP ?_;apply gE;apply gS;refine gR rfl ?_;refine gO rfl rfl (fa157_3 rfl) rfl ?_;refine gO rfl rfl (ld3 rfl f5 rfl) rfl ?_;refine GoR.call rfl rfl (aCF aFunc95 rfl) (inside_is (r := true) (decide_eq_true h1)) ?_ np;rintro v6 h6 ⟨q, x6⟩;cases q;refine ⟨_, rfl, ?_⟩;replace f5 := f5.ext x6;replace e0 := e0.trans x6;iterate 2 refine gP ?_
     refine gO rfl rfl (fa157_0 rfl) rfl ?_;refine gO rfl rfl (ld29 rfl f5 rfl) rfl ?_;refine gO rfl rfl (fa157_3 rfl) rfl ?_;refine gO rfl rfl (ld3 rfl f5 rfl) rfl ?_;refine GoR.call rfl rfl (aCF aFunc151 rfl) (narrow_is (by omega) (by omega) (r := true) (decide_eq_true h2)) ?_ np;rintro v7 h7 ⟨q, x7⟩;cases q;refine ⟨_, rfl, ?_⟩;replace f5 := f5.ext x7;replace e0 := e0.trans x7;iterate 3 refine gP ?_
     refine gO rfl rfl (fa157_1 rfl) rfl ?_;refine gO rfl rfl (ld29 rfl f5 rfl) rfl ?_;refine GoR.call rfl rfl (aCF aFunc151 rfl) (narrow_is (by omega) (by omega) (r := true) (decide_eq_true h3)) ?_ np;rintro v8 h8 ⟨q, x8⟩;cases q;refine ⟨_, rfl, ?_⟩;replace f5 := f5.ext x8;replace e0 := e0.trans x8;iterate 3 refine gP ?_
     refine gO rfl rfl (fa157_2 rfl) rfl ?_;refine gO rfl rfl (ld29 rfl f5 rfl) rfl ?_;refine GoR.call rfl rfl (aCF aFunc151 rfl) (narrow_is (by omega) (by omega) (r := false) (decide_eq_false h4)) ?_ np;rintro v9 h9 ⟨q, x9⟩;cases q;refine ⟨_, rfl, ?_⟩;replace e0 := e0.trans x9;iterate 3 refine gP ?_
     apply gE;exact gW Tryz.func130 rfl rfl ⟨rfl, e0⟩
   ·rw [show decide p.Ok = false from decide_eq_false (fun q => h3 q.2.2.1)]
    have e0 : Ext h h := Ext.refl _
    refine Runs.intro aFunc130 rfl rfl rfl rfl fun rest => ?_;apply gS;refine gR rfl ?_;refine GoR.box rfl rfl rfl rfl rfl rfl fun h4 x4 f4 => ?_;replace e0 := e0.trans x4;refine gP ?_;apply gE;apply gS;refine gR rfl ?_;refine gO rfl rfl (fa157_3 rfl) rfl ?_;refine gO rfl rfl (ld3 rfl f4 rfl) rfl ?_;refine GoR.call rfl rfl (aCF aFunc95 rfl) (inside_is (r := true) (decide_eq_true h1)) ?_ np;rintro v5 h5 ⟨q, x5⟩;cases q;refine ⟨_, rfl, ?_⟩;replace f4 := f4.ext x5;replace e0 := e0.trans x5;iterate 2 refine gP ?_
    refine gO rfl rfl (fa157_0 rfl) rfl ?_;refine gO rfl rfl (ld29 rfl f4 rfl) rfl ?_;refine gO rfl rfl (fa157_3 rfl) rfl ?_;refine gO rfl rfl (ld3 rfl f4 rfl) rfl ?_;refine GoR.call rfl rfl (aCF aFunc151 rfl) (narrow_is (by omega) (by omega) (r := true) (decide_eq_true h2)) ?_ np;rintro v6 h6 ⟨q, x6⟩;cases q;refine ⟨_, rfl, ?_⟩;replace f4 := f4.ext x6;replace e0 := e0.trans x6;iterate 3 refine gP ?_
    refine gO rfl rfl (fa157_1 rfl) rfl ?_;refine gO rfl rfl (ld29 rfl f4 rfl) rfl ?_;refine GoR.call rfl rfl (aCF aFunc151 rfl) (narrow_is (by omega) (by omega) (r := false) (decide_eq_false h3)) ?_ np;rintro v7 h7 ⟨q, x7⟩;cases q;refine ⟨_, rfl, ?_⟩;replace e0 := e0.trans x7;iterate 3 refine gP ?_
    iterate 4 refine GoR.skip rfl rfl rfl ?_
    iterate 2 refine gP ?_
    apply gE;exact gW Tryz.func130 rfl rfl ⟨rfl, e0⟩
  ·rw [show decide p.Ok = false from decide_eq_false (fun q => h2 q.2.1)]
   have e0 : Ext h h := Ext.refl _
   refine Runs.intro aFunc130 rfl rfl rfl rfl fun rest => ?_;apply gS;refine gR rfl ?_;refine GoR.box rfl rfl rfl rfl rfl rfl fun h3 x3 f3 => ?_;replace e0 := e0.trans x3;refine gP ?_;apply gE;apply gS;refine gR rfl ?_;refine gO rfl rfl (fa157_3 rfl) rfl ?_;refine gO rfl rfl (ld3 rfl f3 rfl) rfl ?_;refine GoR.call rfl rfl (aCF aFunc95 rfl) (inside_is (r := true) (decide_eq_true h1)) ?_ np;rintro v4 h4 ⟨q, x4⟩;cases q;refine ⟨_, rfl, ?_⟩;replace f3 := f3.ext x4;replace e0 := e0.trans x4;iterate 2 refine gP ?_
   refine gO rfl rfl (fa157_0 rfl) rfl ?_;refine gO rfl rfl (ld29 rfl f3 rfl) rfl ?_;refine gO rfl rfl (fa157_3 rfl) rfl ?_;refine gO rfl rfl (ld3 rfl f3 rfl) rfl ?_;refine GoR.call rfl rfl (aCF aFunc151 rfl) (narrow_is (by omega) (by omega) (r := false) (decide_eq_false h2)) ?_ np;rintro v5 h5 ⟨q, x5⟩;cases q;refine ⟨_, rfl, ?_⟩;replace e0 := e0.trans x5;iterate 3 refine gP ?_
   iterate 4 refine GoR.skip rfl rfl rfl ?_
   iterate 2 refine gP ?_
   iterate 4 refine GoR.skip rfl rfl rfl ?_
   iterate 2 refine gP ?_
   apply gE;exact gW Tryz.func130 rfl rfl ⟨rfl, e0⟩
 ·rw [show decide p.Ok = false from decide_eq_false (fun q => h1 q.1)]
  have e0 : Ext h h := Ext.refl _
  refine Runs.intro aFunc130 rfl rfl rfl rfl fun rest => ?_;apply gS;refine gR rfl ?_;refine GoR.box rfl rfl rfl rfl rfl rfl fun h2 x2 f2 => ?_;replace e0 := e0.trans x2;refine gP ?_;apply gE;apply gS;refine gR rfl ?_;refine gO rfl rfl (fa157_3 rfl) rfl ?_;refine gO rfl rfl (ld3 rfl f2 rfl) rfl ?_;refine GoR.call rfl rfl (aCF aFunc95 rfl) (inside_is (r := false) (decide_eq_false h1)) ?_ np;rintro v3 h3 ⟨q, x3⟩;cases q;refine ⟨_, rfl, ?_⟩;replace e0 := e0.trans x3;iterate 2 refine gP ?_
  iterate 6 refine GoR.skip rfl rfl rfl ?_
  iterate 2 refine gP ?_
  iterate 4 refine GoR.skip rfl rfl rfl ?_
  iterate 2 refine gP ?_
  iterate 4 refine GoR.skip rfl rfl rfl ?_
  iterate 2 refine gP ?_
  apply gE;exact gW Tryz.func130 rfl rfl ⟨rfl, e0⟩
theorem validEvent_ok (e : EV) {n : Int} (hn : 0 ≤ n ∧ n ≤ 1000) (h : AH) : Runs Tryz.prog 128 [.agg (EV.cells e), .int .i64 n] h (fun en h' => en = .ret (.bool (decide (e.Ok n))) ∧ Ext h h') := by
 unfold EV.cells
 by_cases k0 : e.kind = 0
 ·have hq : decide (e.Ok n) = decide (0 ≤ e.ll ∧ e.ll ≤ e.lh ∧ e.lh ≤ 60 ∧ e.lh - e.ll ≤ 2) := decide_eq_decide.2 (by unfold EV.Ok; omega)
  rw [hq]
  have e0 : Ext h h := Ext.refl _
  refine Runs.intro aFunc128 rfl rfl rfl rfl fun rest => ?_;apply gS;refine gR rfl ?_;refine GoR.box rfl rfl rfl rfl rfl rfl fun h0 x0 f0 => ?_;replace e0 := e0.trans x0;refine gP ?_;apply gE;iterate 2 apply gS
  refine gR rfl ?_;refine gO rfl rfl (fa62_0 rfl) rfl ?_;refine gO rfl rfl (ld3 rfl f0 rfl) rfl ?_;apply gE;refine Go.block noJ_ok ?_;apply gS;refine gR rfl ?_;refine gO rfl rfl (kET rfl rfl) rfl ?_;refine gP ?_;apply gE;refine gC (b := true) rfl ?_;apply gS;refine gR rfl ?_;refine gO rfl rfl (fa62_1 rfl) rfl ?_;refine gO rfl rfl (ld29 rfl f0 rfl) rfl ?_;refine GoR.call rfl rfl (aCF aFunc151 rfl) (narrow_ok (by omega) (by omega)) ?_ np;rintro v1 h1 ⟨q, x1⟩;cases q;refine ⟨_, rfl, ?_⟩;replace e0 := e0.trans x1;refine gP ?_;apply gE;exact gW Tryz.func128 rfl rfl ⟨rfl, e0⟩
 ·by_cases k1 : e.kind = 1
  ·have hq : decide (e.Ok n) = decide (1 ≤ e.days ∧ e.days ≤ 10) := decide_eq_decide.2 (by unfold EV.Ok; omega)
   rw [hq]
   have e0 : Ext h h := Ext.refl _
   refine Runs.intro aFunc128 rfl rfl rfl rfl fun rest => ?_;apply gS;refine gR rfl ?_;refine GoR.box rfl rfl rfl rfl rfl rfl fun h0 x0 f0 => ?_;replace e0 := e0.trans x0;refine gP ?_;apply gE;iterate 2 apply gS
   refine gR rfl ?_;refine gO rfl rfl (fa62_0 rfl) rfl ?_;refine gO rfl rfl (ld3 rfl f0 rfl) rfl ?_;apply gE;refine Go.block noJ_ok ?_;apply gS;refine gR rfl ?_;refine gO rfl rfl (kEF rfl rfl) rfl ?_;refine gP ?_;apply gE;refine gC (b := false) rfl ?_;apply gS;refine gR rfl ?_;refine gO rfl rfl (kET rfl rfl) rfl ?_;refine gP ?_;apply gE;refine gC (b := true) rfl ?_;apply gS;refine gR rfl ?_;refine gO rfl rfl (fa62_2 rfl) rfl ?_;refine gO rfl rfl (ld3 rfl f0 rfl) rfl ?_;refine GoR.call rfl rfl (aCF aFunc95 rfl) (inside_ok) ?_ np;rintro v1 h1 ⟨q, x1⟩;cases q;refine ⟨_, rfl, ?_⟩;replace e0 := e0.trans x1;refine gP ?_;apply gE;exact gW Tryz.func128 rfl rfl ⟨rfl, e0⟩
  ·by_cases k2 : e.kind = 2
   ·by_cases k3 : 0 ≤ e.part ∧ e.part ≤ n - 1
    ·have hq : decide (e.Ok n) = decide (e.wl ≤ e.wh ∧ -1000 ≤ e.wl ∧ e.wh ≤ 1000) := decide_eq_decide.2 (by unfold EV.Ok; omega)
     rw [hq]
     have e0 : Ext h h := Ext.refl _
     refine Runs.intro aFunc128 rfl rfl rfl rfl fun rest => ?_;apply gS;refine gR rfl ?_;refine GoR.box rfl rfl rfl rfl rfl rfl fun h0 x0 f0 => ?_;replace e0 := e0.trans x0;refine gP ?_;apply gE;iterate 2 apply gS
     refine gR rfl ?_;refine gO rfl rfl (fa62_0 rfl) rfl ?_;refine gO rfl rfl (ld3 rfl f0 rfl) rfl ?_;apply gE;refine Go.block noJ_ok ?_;apply gS;refine gR rfl ?_;refine gO rfl rfl (kEF rfl rfl) rfl ?_;refine gP ?_;apply gE;refine gC (b := false) rfl ?_;apply gS;refine gR rfl ?_;refine gO rfl rfl (kEF rfl rfl) rfl ?_;refine gP ?_;apply gE;refine gC (b := false) rfl ?_;apply gS;refine gR rfl ?_;refine gO rfl rfl (kET rfl rfl) rfl ?_;refine gP ?_;apply gE;refine gC (b := true) rfl ?_;apply gS;refine gR rfl ?_;refine gO rfl rfl (fa62_3 rfl) rfl ?_;refine gO rfl rfl (ld3 rfl f0 rfl) rfl ?_;refine gP ?_;refine gO rfl rfl (aS rfl rfl) rfl ?_;refine GoR.call rfl rfl (aCF aFunc95 rfl) (inside_is (r := true) (decide_eq_true k3)) ?_ np;rintro v1 h1 ⟨q, x1⟩;cases q;refine ⟨_, rfl, ?_⟩;replace f0 := f0.ext x1;replace e0 := e0.trans x1;refine gP ?_;refine gO rfl rfl (fa62_4 rfl) rfl ?_;refine gO rfl rfl (ld29 rfl f0 rfl) rfl ?_;refine GoR.call rfl rfl (aCF aFunc152 rfl) (within_ok) ?_ np;rintro v2 h2 ⟨q, x2⟩;cases q;refine ⟨_, rfl, ?_⟩;replace e0 := e0.trans x2;iterate 2 refine gP ?_
     apply gE;exact gW Tryz.func128 rfl rfl ⟨rfl, e0⟩
    ·rw [show decide (e.Ok n) = false from decide_eq_false (by unfold EV.Ok; omega)]
     have e0 : Ext h h := Ext.refl _
     refine Runs.intro aFunc128 rfl rfl rfl rfl fun rest => ?_;apply gS;refine gR rfl ?_;refine GoR.box rfl rfl rfl rfl rfl rfl fun h0 x0 f0 => ?_;replace e0 := e0.trans x0;refine gP ?_;apply gE;iterate 2 apply gS
     refine gR rfl ?_;refine gO rfl rfl (fa62_0 rfl) rfl ?_;refine gO rfl rfl (ld3 rfl f0 rfl) rfl ?_;apply gE;refine Go.block noJ_ok ?_;apply gS;refine gR rfl ?_;refine gO rfl rfl (kEF rfl rfl) rfl ?_;refine gP ?_;apply gE;refine gC (b := false) rfl ?_;apply gS;refine gR rfl ?_;refine gO rfl rfl (kEF rfl rfl) rfl ?_;refine gP ?_;apply gE;refine gC (b := false) rfl ?_;apply gS;refine gR rfl ?_;refine gO rfl rfl (kET rfl rfl) rfl ?_;refine gP ?_;apply gE;refine gC (b := true) rfl ?_;apply gS;refine gR rfl ?_;refine gO rfl rfl (fa62_3 rfl) rfl ?_;refine gO rfl rfl (ld3 rfl f0 rfl) rfl ?_;refine gP ?_;refine gO rfl rfl (aS rfl rfl) rfl ?_;refine GoR.call rfl rfl (aCF aFunc95 rfl) (inside_is (r := false) (decide_eq_false k3)) ?_ np;rintro v1 h1 ⟨q, x1⟩;cases q;refine ⟨_, rfl, ?_⟩;replace e0 := e0.trans x1;refine gP ?_;iterate 3 refine GoR.skip rfl rfl rfl ?_
     iterate 2 refine gP ?_
     apply gE;exact gW Tryz.func128 rfl rfl ⟨rfl, e0⟩
   ·rw [show decide (e.Ok n) = false from decide_eq_false (by unfold EV.Ok; omega)]
    have e0 : Ext h h := Ext.refl _
    refine Runs.intro aFunc128 rfl rfl rfl rfl fun rest => ?_;apply gS;refine gR rfl ?_;refine GoR.box rfl rfl rfl rfl rfl rfl fun h0 x0 f0 => ?_;replace e0 := e0.trans x0;refine gP ?_;apply gE;iterate 2 apply gS
    refine gR rfl ?_;refine gO rfl rfl (fa62_0 rfl) rfl ?_;refine gO rfl rfl (ld3 rfl f0 rfl) rfl ?_;apply gE;refine Go.block noJ_ok ?_;apply gS;refine gR rfl ?_;refine gO rfl rfl (kEF rfl rfl) rfl ?_;refine gP ?_;apply gE;refine gC (b := false) rfl ?_;apply gS;refine gR rfl ?_;refine gO rfl rfl (kEF rfl rfl) rfl ?_;refine gP ?_;apply gE;refine gC (b := false) rfl ?_;apply gS;refine gR rfl ?_;refine gO rfl rfl (kEF rfl rfl) rfl ?_;refine gP ?_;apply gE;refine gC (b := false) rfl ?_;refine gD ?_;refine Go.inBlock noJ_ok ?_;apply gS;refine gR rfl ?_;refine gP ?_;apply gE;exact gW Tryz.func128 rfl rfl ⟨rfl, e0⟩
theorem doubts_ok {s : AVal} {L : List EV} {h : AH} (hs : SliceOf h 7 s (L.map EV.cells)) (hn : L.length ≤ 100) : Runs Tryz.prog 132 [s] h (fun en h' => en = .ret (.int .i64 (doubtsV L)) ∧ Ext h h') := by
 have hlen := hs.len
 rw [List.length_map] at hlen
 have e0 : Ext h h := Ext.refl _
 refine Runs.intro aFunc132 rfl rfl rfl rfl fun rest => ?_;apply gS;refine gR rfl ?_;refine gP ?_;apply gE;apply gS;refine gR rfl ?_;refine gP ?_;apply gE;iterate 2 apply gS
 refine gR rfl ?_;refine gP ?_;refine gO rfl rfl (aOp_lenSlice Tryz.underlying23 rfl (by assumption)) rfl ?_;refine gP ?_;apply gE;refine Go.block noJ_ok ?_
 refine Go.loopKeep (fun a : Nat => [(3, .int .i64 (doubtsV (L.take a))), (6, s), (7, .int .i64 L.length), (8, .int .i64 (a : Nat))])
  (fun m a h' => m + a = L.length ∧ Ext h h') (n := L.length) 0 ⟨rfl, rfl, rfl, rfl, trivial⟩ ⟨rfl, e0⟩ ?_
 clear e0;rintro m i h4 ⟨hm, e0⟩ again
 by_cases hi' : i < L.length
 ·obtain ⟨x, hx⟩ : ∃ x, L[i]? = some x := ⟨L[i], by simp [hi']⟩
  obtain ⟨bq, off, q1, q2⟩ := hs.at (i := i) (l := EV.cells x) (by rw [List.getElem?_map, hx]; rfl)
  rw [List.length_map] at q1
  have hle : doubtsV (L.take i) ≤ i := by
   unfold doubtsV
   have := List.length_filter_le EV.doubt (L.take i)
   rw [List.length_take] at this
   omega
  have hnx : doubtsV (L.take (i + 1)) = doubtsV (L.take i) + (if x.kind = 0 ∧ x.ll ≠ x.lh then 1 else 0) := by
   unfold doubtsV
   rw [List.take_add_one, hx, Option.toList_some, List.filter_append, List.length_append]
   congr 1
   by_cases q : x.kind = 0 ∧ x.ll ≠ x.lh
   ·rw [if_pos q, show List.filter EV.doubt [x] = [x] from by rw [List.filter_cons, show EV.doubt x = true from decide_eq_true q]; rfl]; rfl
   ·rw [if_neg q, show List.filter EV.doubt [x] = [] from by rw [List.filter_cons, show EV.doubt x = false from decide_eq_false q]; rfl]; rfl
  generalize hd : doubtsV (L.take i) = d at *
  unfold EV.cells at q2
  by_cases k0 : x.kind = 0
  ·by_cases k1 : x.ll = x.lh
   ·rw [if_neg (by simp [k1]), Nat.add_zero] at hnx;apply gS;refine gR rfl ?_;refine gO rfl rfl (kLT rfl rfl) rfl ?_;apply gE;apply gS;refine gC (b := true) rfl ?_;refine gD ?_;apply gS;refine Go.block noJ_ok ?_;apply gS;refine gR rfl ?_;refine gO rfl rfl (aOp_indexAddr (i := i) Tryz.underlying23 sz62 rfl (by assumption) rfl (Nat.ble_eq_true_of_le (by omega))) rfl ?_;refine gO rfl rfl (aOp_loadE ag62 sz62 rfl (q2.ext (by assumption))) rfl ?_;refine GoR.alloc rfl rfl rfl zt62 rfl rfl fun h5 x5 f5 => ?_;have := e0.1;replace e0 := e0.trans x5;have := f5.1;refine GoR.store rfl rfl rfl rfl rfl rfl f5 rfl sz62 rfl rfl rfl fun h6 u6 => ?_;replace f5 := u6.has f5;replace e0 := e0.upd u6 (by omega);apply gE;apply gS;refine gR rfl ?_;refine gO rfl rfl (fa62_0 rfl) rfl ?_;refine gO rfl rfl (ld3 rfl f5 rfl) rfl ?_;refine gO rfl rfl (kET rfl rfl) rfl ?_;refine gP ?_;refine gO rfl rfl (fa62_1 rfl) rfl ?_;refine gO rfl rfl (fa29_0 rfl) rfl ?_;refine gO rfl rfl (ld3 rfl f5 rfl) rfl ?_;refine gO rfl rfl (fa62_1 rfl) rfl ?_;refine gO rfl rfl (fa29_1 rfl) rfl ?_;refine gO rfl rfl (ld3 rfl f5 rfl) rfl ?_;refine gO rfl rfl (kXF rfl rfl) rfl ?_;refine gP ?_;apply gE;refine gC (b := false) rfl ?_;refine gD ?_;refine Go.inBlock noJ_ok ?_;refine gR rfl ?_;refine gO rfl rfl (aA rfl rfl) rfl ?_;refine gP ?_;apply gE;exact again (m - 1) (i + 1) _ _ (by omega) ⟨by rw [hnx]; rfl, rfl, rfl, rfl, trivial⟩ ⟨by omega, e0⟩
   ·rw [if_pos ⟨k0, k1⟩] at hnx;apply gS;refine gR rfl ?_;refine gO rfl rfl (kLT rfl rfl) rfl ?_;apply gE;apply gS;refine gC (b := true) rfl ?_;refine gD ?_;apply gS;refine Go.block noJ_ok ?_;apply gS;refine gR rfl ?_;refine gO rfl rfl (aOp_indexAddr (i := i) Tryz.underlying23 sz62 rfl (by assumption) rfl (Nat.ble_eq_true_of_le (by omega))) rfl ?_;refine gO rfl rfl (aOp_loadE ag62 sz62 rfl (q2.ext (by assumption))) rfl ?_;refine GoR.alloc rfl rfl rfl zt62 rfl rfl fun h5 x5 f5 => ?_;have := e0.1;replace e0 := e0.trans x5;have := f5.1;refine GoR.store rfl rfl rfl rfl rfl rfl f5 rfl sz62 rfl rfl rfl fun h6 u6 => ?_;replace f5 := u6.has f5;replace e0 := e0.upd u6 (by omega);apply gE;apply gS;refine gR rfl ?_;refine gO rfl rfl (fa62_0 rfl) rfl ?_;refine gO rfl rfl (ld3 rfl f5 rfl) rfl ?_;refine gO rfl rfl (kET rfl rfl) rfl ?_;refine gP ?_;refine gO rfl rfl (fa62_1 rfl) rfl ?_;refine gO rfl rfl (fa29_0 rfl) rfl ?_;refine gO rfl rfl (ld3 rfl f5 rfl) rfl ?_;refine gO rfl rfl (fa62_1 rfl) rfl ?_;refine gO rfl rfl (fa29_1 rfl) rfl ?_;refine gO rfl rfl (ld3 rfl f5 rfl) rfl ?_;refine gO rfl rfl (kXT rfl rfl) rfl ?_;refine gP ?_;apply gE;refine gC (b := true) rfl ?_;refine gR rfl ?_;refine gP ?_;refine gO rfl rfl (aA rfl rfl) rfl ?_;refine gP ?_;apply gE;refine Go.inBlock noJ_ok ?_;refine gR rfl ?_;refine gO rfl rfl (aA rfl rfl) rfl ?_;refine gP ?_;apply gE;exact again (m - 1) (i + 1) _ _ (by omega) ⟨by rw [hnx]; rfl, rfl, rfl, rfl, trivial⟩ ⟨by omega, e0⟩
  ·rw [if_neg (by simp [k0]), Nat.add_zero] at hnx;apply gS;refine gR rfl ?_;refine gO rfl rfl (kLT rfl rfl) rfl ?_;apply gE;apply gS;refine gC (b := true) rfl ?_;refine gD ?_;apply gS;refine Go.block noJ_ok ?_;apply gS;refine gR rfl ?_;refine gO rfl rfl (aOp_indexAddr (i := i) Tryz.underlying23 sz62 rfl (by assumption) rfl (Nat.ble_eq_true_of_le (by omega))) rfl ?_;refine gO rfl rfl (aOp_loadE ag62 sz62 rfl (q2.ext (by assumption))) rfl ?_;refine GoR.alloc rfl rfl rfl zt62 rfl rfl fun h5 x5 f5 => ?_;have := e0.1;replace e0 := e0.trans x5;have := f5.1;refine GoR.store rfl rfl rfl rfl rfl rfl f5 rfl sz62 rfl rfl rfl fun h6 u6 => ?_;replace f5 := u6.has f5;replace e0 := e0.upd u6 (by omega);apply gE;apply gS;refine gR rfl ?_;refine gO rfl rfl (fa62_0 rfl) rfl ?_;refine gO rfl rfl (ld3 rfl f5 rfl) rfl ?_;refine gO rfl rfl (kEF rfl rfl) rfl ?_;refine gP ?_;iterate 7 refine GoR.skip rfl rfl rfl ?_
   refine gP ?_;apply gE;refine gC (b := false) rfl ?_;refine gD ?_;refine Go.inBlock noJ_ok ?_;refine gR rfl ?_;refine gO rfl rfl (aA rfl rfl) rfl ?_;refine gP ?_;apply gE;exact again (m - 1) (i + 1) _ _ (by omega) ⟨by rw [hnx]; rfl, rfl, rfl, rfl, trivial⟩ ⟨by omega, e0⟩
 ·have hin : i = L.length := by omega
  rw [hin, List.take_length];apply gS;refine gR rfl ?_;refine gO rfl rfl (kLF rfl rfl) rfl ?_;apply gE;apply gS;refine gC (b := false) rfl ?_;refine gD ?_;apply gS;refine gR rfl ?_;iterate 2 refine gP ?_
  apply gE;exact gW Tryz.func132 rfl rfl ⟨rfl, e0⟩
end Go.Proofs.YtkcimfopboelaaaGreat
