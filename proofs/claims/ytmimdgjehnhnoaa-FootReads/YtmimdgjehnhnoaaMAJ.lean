import Derived.Test.YtmimdgjehnhnoaaMAF
import Derived.Test.YtmimdgjehnhnoaaChecked
import Derived.KernelRfl
import Derived.Test.YtmimdgjehnhnoaaMAH
import Derived.Test.YtmimdgjehnhnoaaMAI
namespace Go.Proofs.Ytmimdgjehnhnoaa
open Go Go.AbsE
theorem plan13_0 : plan (((drawnOps Try.f13)[0]?).getD #[]) = some (mkPlan (((drawnOps Try.f13)[0]?).getD #[]).toList [(0, 0, true, false), (1, 0, false, false), (2, 3, true, false), (3, 7, true, false), (4, 15, true, false),   (5, 31, true, false), (6, 63, true, false), (7, 127, true, false), (8, 255, true, false), (9, 511, true, false),   (10, 1023, true, false), (11, 2047, true, false), (12, 4095, true, false), (13, 8191, true, false),   (14, 16383, true, false), (15, 32767, true, false), (16, 65535, true, false), (17, 65535, true, false),   (18, 262143, true, false), (19, 524287, true, false), (20, 1048575, true, false), (21, 2097151, true, false),   (22, 4194303, true, false), (23, 8388607, true, false), (24, 16777215, true, false), (25, 33554431, true, false),   (26, 67108863, true, false), (27, 134217727, true, false), (28, 268435455, true, false), (29, 536870911, true, false),   (30, 1073741823, true, false), (31, 2147483647, true, false), (32, 4294967295, true, false),   (33, 8589934591, true, false), (34, 17179869183, true, false), (35, 34359738367, true, false),   (36, 68719476735, true, false), (37, 137438953471, true, false), (38, 274877906943, true, false),   (39, 549755813887, true, false), (40, 1099511627775, true, false), (41, 2199023255551, true, false),   (42, 4398046511103, true, false), (43, 8796093022207, true, false), (44, 17592186044415, true, false),   (45, 35184372088831, true, false), (46, 70368744177663, true, false), (47, 140737488355327, true, false),   (48, 281474976710655, true, false), (49, 562949953421311, true, false), (50, 1125899906842623, true, false),   (51, 2251799813685247, true, false)]) := by kernel_rfl
theorem plan15_0 : plan (((drawnOps Try.f15)[0]?).getD #[]) = some (mkPlan (((drawnOps Try.f15)[0]?).getD #[]).toList [(0, 0, true, false), (1, 0, true, false), (2, 0, true, false), (3, 6, false, false), (4, 14, true, false),   (5, 30, true, false), (6, 30, true, false), (7, 126, false, false), (8, 254, true, false), (9, 510, true, false),   (10, 1022, true, false), (11, 1022, true, false), (12, 4094, false, false), (13, 8190, true, false),   (14, 16383, false, false), (15, 32767, true, false)]) := by kernel_rfl
theorem plan15_1 : plan (((drawnOps Try.f15)[1]?).getD #[]) = some (mkPlan (((drawnOps Try.f15)[1]?).getD #[]).toList [(0, 0, true, false), (1, 0, true, false), (2, 0, true, false), (3, 0, true, false), (5, 0, true, false),   (6, 0, true, false), (7, 0, true, false), (8, 0, true, false), (4, 15, false, false), (9, 511, false, false),   (10, 1023, true, false), (11, 2047, false, false), (12, 4095, true, false)]) := by kernel_rfl
theorem plan17_0 : plan (((drawnOps Try.f17)[0]?).getD #[]) = some (mkPlan (((drawnOps Try.f17)[0]?).getD #[]).toList [(0, 0, true, false), (1, 0, true, false), (2, 0, true, false), (3, 6, false, false), (4, 14, true, false),   (5, 30, true, false), (6, 30, true, false), (7, 126, false, false), (8, 254, true, false), (9, 511, false, false),   (10, 1023, true, false)]) := by kernel_rfl
theorem plan19_0 : plan (((drawnOps Try.f19)[0]?).getD #[]) = some (mkPlan (((drawnOps Try.f19)[0]?).getD #[]).toList [(0, 0, true, false), (1, 0, true, false), (2, 0, true, false), (3, 6, false, false), (4, 15, false, false),   (5, 31, true, false)]) := by kernel_rfl
theorem plan19_1 : plan (((drawnOps Try.f19)[1]?).getD #[]) = some (mkPlan (((drawnOps Try.f19)[1]?).getD #[]).toList [(0, 0, true, false), (1, 0, true, false), (2, 3, true, false), (3, 7, true, false), (4, 15, true, false),   (5, 0, true, false), (6, 32, true, false), (7, 127, true, false)]) := by kernel_rfl
theorem plan20_0 : plan (((drawnOps Try.f20)[0]?).getD #[]) = some (mkPlan (((drawnOps Try.f20)[0]?).getD #[]).toList [(0, 0, true, false), (1, 0, true, false), (2, 0, true, false), (3, 1, false, false), (4, 11, false, false),   (5, 31, true, false)]) := by kernel_rfl
theorem plan22_0 : plan (((drawnOps Try.f22)[0]?).getD #[]) = some (mkPlan (((drawnOps Try.f22)[0]?).getD #[]).toList [(0, 0, true, false), (1, 0, true, false), (2, 0, true, false), (3, 0, true, false), (4, 1, false, false),   (5, 19, false, false), (6, 55, false, false), (7, 127, true, false)]) := by kernel_rfl
theorem plan34_0 : plan (((drawnOps Try.f34)[0]?).getD #[]) = some (mkPlan (((drawnOps Try.f34)[0]?).getD #[]).toList [(0, 0, true, false), (1, 0, true, false), (2, 0, true, false), (3, 1, false, false), (4, 11, false, false),   (5, 31, true, false)]) := by kernel_rfl
theorem plan38_0 : plan (((drawnOps Try.f38)[0]?).getD #[]) = some (mkPlan (((drawnOps Try.f38)[0]?).getD #[]).toList [(0, 0, true, false), (1, 0, true, false), (2, 0, true, false), (3, 1, false, false), (4, 11, false, false),   (5, 31, true, false)]) := by kernel_rfl
theorem plan40_0 : plan (((drawnOps Try.f40)[0]?).getD #[]) = some (mkPlan (((drawnOps Try.f40)[0]?).getD #[]).toList [(0, 0, true, false), (1, 0, true, false), (2, 3, true, false), (3, 7, true, false), (4, 0, true, false),   (5, 0, true, false), (6, 48, true, false), (7, 112, true, false), (8, 255, true, false)]) := by kernel_rfl
theorem plan47_0 : plan (((drawnOps Try.f47)[0]?).getD #[]) = some (mkPlan (((drawnOps Try.f47)[0]?).getD #[]).toList [(0, 0, true, false), (1, 0, true, false), (3, 0, true, false), (4, 0, true, false), (6, 0, true, false),   (8, 0, true, false), (9, 0, true, false), (11, 0, true, false), (12, 0, true, false), (14, 0, true, false),   (2, 2, false, false), (5, 31, false, false), (7, 127, true, false), (10, 575, false, false), (13, 7999, false, false),   (15, 32575, true, false), (16, 65535, true, false), (17, 131071, false, false)]) := by kernel_rfl
theorem plan51_0 : plan (((drawnOps Try.f51)[0]?).getD #[]) = some (mkPlan (((drawnOps Try.f51)[0]?).getD #[]).toList [(0, 0, true, false), (1, 0, true, false), (2, 2, true, false), (3, 0, true, false), (4, 14, true, false),   (5, 30, true, false), (6, 62, true, false), (7, 127, true, false), (8, 0, true, false), (9, 0, true, false),   (11, 0, true, false), (10, 768, false, false), (12, 3840, true, false), (13, 7936, true, false),   (14, 16383, true, false), (15, 32767, true, false), (16, 65535, true, false)]) := by kernel_rfl
theorem plan52_0 : plan (((drawnOps Try.f52)[0]?).getD #[]) = some (mkPlan (((drawnOps Try.f52)[0]?).getD #[]).toList [(0, 0, true, false), (1, 0, true, false), (2, 2, true, false), (3, 0, true, false), (4, 14, true, false),   (5, 30, true, false), (6, 62, true, false), (7, 127, true, false), (8, 0, true, false), (9, 0, true, false),   (11, 0, true, false), (10, 768, false, false), (12, 3840, true, false), (13, 7936, true, false),   (14, 16383, true, false), (15, 32767, true, false), (16, 65535, true, false)]) := by kernel_rfl
theorem plan54_0 : plan (((drawnOps Try.f54)[0]?).getD #[]) = some (mkPlan (((drawnOps Try.f54)[0]?).getD #[]).toList [(0, 0, true, false), (1, 0, true, false), (3, 0, true, false), (4, 0, true, false), (2, 2, false, false),   (5, 31, false, false), (6, 63, true, false)]) := by kernel_rfl
theorem plan54_1 : plan (((drawnOps Try.f54)[1]?).getD #[]) = some (mkPlan (((drawnOps Try.f54)[1]?).getD #[]).toList [(0, 0, true, false), (1, 0, true, false), (3, 0, true, false), (4, 0, true, false), (2, 2, false, false),   (5, 31, false, false), (6, 63, true, false)]) := by kernel_rfl
theorem plan60_0 : plan (((drawnOps Try.f60)[0]?).getD #[]) = some (mkPlan (((drawnOps Try.f60)[0]?).getD #[]).toList [(0, 0, true, false), (1, 0, true, false), (2, 0, true, false), (3, 0, true, false), (4, 12, true, false),   (5, 28, true, false), (6, 63, false, false), (7, 127, true, false)]) := by kernel_rfl
theorem plan61_0 : plan (((drawnOps Try.f61)[0]?).getD #[]) = some (mkPlan (((drawnOps Try.f61)[0]?).getD #[]).toList [(0, 0, true, false), (1, 0, true, false), (4, 0, true, false), (5, 0, true, false), (2, 2, false, false),   (3, 7, false, false), (6, 47, false, false), (7, 127, false, false), (8, 255, false, false), (9, 511, false, false)]) := by kernel_rfl
theorem plan72_0 : plan (((drawnOps Try.f72)[0]?).getD #[]) = some (mkPlan (((drawnOps Try.f72)[0]?).getD #[]).toList [(0, 0, true, false), (1, 1, true, false), (2, 3, true, false), (3, 0, true, false), (4, 8, true, false),   (5, 24, true, false), (6, 56, true, false), (7, 127, false, false), (8, 255, true, false)]) := by kernel_rfl
theorem plan73_0 : plan (((drawnOps Try.f73)[0]?).getD #[]) = some (mkPlan (((drawnOps Try.f73)[0]?).getD #[]).toList [(0, 0, true, false), (1, 1, true, false), (2, 3, true, false), (3, 7, true, false), (4, 15, true, false),   (5, 31, true, false), (6, 63, true, false), (7, 127, true, false), (8, 255, true, false), (9, 511, true, false),   (10, 1023, true, false), (11, 2047, true, false), (12, 4095, true, false), (13, 8191, true, false),   (14, 16383, true, false), (15, 32767, true, false), (16, 65535, true, false), (17, 131071, true, false),   (18, 262143, true, false), (19, 32767, true, false), (20, 557055, true, false), (21, 1605631, true, false),   (22, 4194303, true, false), (23, 8388607, true, false), (24, 16777215, true, false), (25, 33554431, true, false)]) := by kernel_rfl
theorem plan76_0 : plan (((drawnOps Try.f76)[0]?).getD #[]) = some (mkPlan (((drawnOps Try.f76)[0]?).getD #[]).toList [(0, 0, true, false), (1, 1, true, false), (2, 0, true, false), (3, 4, true, false), (4, 3, false, false),   (5, 31, false, false)]) := by kernel_rfl
theorem plan85_0 : plan (((drawnOps Try.f85)[0]?).getD #[]) = some (mkPlan (((drawnOps Try.f85)[0]?).getD #[]).toList [(0, 0, true, false), (1, 0, true, false), (2, 3, true, false), (3, 7, true, false), (4, 0, true, false),   (5, 31, true, false)]) := by kernel_rfl
theorem plan85_1 : plan (((drawnOps Try.f85)[1]?).getD #[]) = some (mkPlan (((drawnOps Try.f85)[1]?).getD #[]).toList [(0, 0, true, false), (1, 1, true, false), (2, 0, true, false), (3, 0, true, false), (4, 8, true, false),   (5, 24, true, false), (6, 0, true, false), (7, 0, true, false), (9, 0, true, false), (8, 192, false, false),   (10, 1020, false, false), (11, 2047, true, false), (12, 4095, false, false)]) := by kernel_rfl
theorem plan87_0 : plan (((drawnOps Try.f87)[0]?).getD #[]) = some (mkPlan (((drawnOps Try.f87)[0]?).getD #[]).toList [(0, 0, true, false), (1, 0, true, false), (2, 0, true, false), (3, 0, true, false), (4, 12, false, false),   (5, 31, false, false), (6, 63, true, false)]) := by kernel_rfl
theorem plan88_0 : plan (((drawnOps Try.f88)[0]?).getD #[]) = some (mkPlan (((drawnOps Try.f88)[0]?).getD #[]).toList [(0, 0, true, false), (1, 1, true, false), (2, 3, true, false), (3, 7, true, false), (4, 15, true, false),   (5, 31, true, false), (6, 31, true, false), (7, 31, true, false), (8, 31, true, false), (9, 287, true, false),   (10, 799, true, false), (12, 31, true, false), (13, 31, true, false), (14, 12319, true, false),   (15, 28703, true, false), (11, 2047, false, false), (16, 65535, true, false), (17, 131071, true, false),   (18, 262143, true, false)]) := by kernel_rfl
theorem plan89_0 : plan (((drawnOps Try.f89)[0]?).getD #[]) = some (mkPlan (((drawnOps Try.f89)[0]?).getD #[]).toList [(0, 0, true, false), (1, 1, true, false), (2, 3, true, false), (3, 7, true, false), (4, 15, true, false),   (5, 31, true, false), (6, 31, true, false), (7, 31, true, false), (8, 31, true, false), (9, 287, true, false),   (10, 799, true, false), (12, 31, true, false), (13, 31, true, false), (14, 12319, true, false),   (15, 28703, true, false), (11, 2047, false, false), (16, 65535, true, false), (17, 131071, true, false),   (18, 262143, true, false)]) := by kernel_rfl
theorem plan90_0 : plan (((drawnOps Try.f90)[0]?).getD #[]) = some (mkPlan (((drawnOps Try.f90)[0]?).getD #[]).toList [(0, 0, true, false), (1, 0, true, false), (2, 1, false, false), (3, 7, false, false)]) := by kernel_rfl
theorem plan95_1 : plan (((drawnOps Try.f95)[1]?).getD #[]) = some (mkPlan (((drawnOps Try.f95)[1]?).getD #[]).toList [(0, 0, true, false), (1, 0, true, false), (3, 0, true, false), (4, 8, true, false), (5, 0, true, false),   (7, 0, true, false), (8, 0, true, false), (9, 0, true, false), (2, 2, false, false), (6, 63, false, false),   (10, 895, false, false), (11, 2047, false, false), (12, 4095, true, false), (13, 8191, true, false)]) := by kernel_rfl
theorem plan95_2 : plan (((drawnOps Try.f95)[2]?).getD #[]) = some (mkPlan (((drawnOps Try.f95)[2]?).getD #[]).toList [(0, 0, true, false), (1, 0, true, false), (2, 3, true, false), (3, 7, true, false), (4, 0, true, false),   (5, 16, true, false), (6, 63, true, false), (7, 127, true, false)]) := by kernel_rfl
theorem plan100_1 : plan (((drawnOps Try.f100)[1]?).getD #[]) = some (mkPlan (((drawnOps Try.f100)[1]?).getD #[]).toList [(0, 0, true, false), (1, 0, true, false), (2, 0, true, false), (3, 4, true, false), (4, 15, false, false),   (5, 31, true, false), (6, 63, true, false), (7, 63, true, false), (9, 63, true, false), (10, 575, true, false),   (11, 63, true, false), (8, 191, false, false), (12, 4095, false, false), (13, 8191, true, false),   (14, 16383, true, false), (15, 32767, true, false)]) := by kernel_rfl
theorem plan102_0 : plan (((drawnOps Try.f102)[0]?).getD #[]) = some (mkPlan (((drawnOps Try.f102)[0]?).getD #[]).toList [(0, 0, true, false), (1, 1, true, false), (2, 0, true, false), (3, 4, true, false), (4, 15, false, false)]) := by kernel_rfl
end Go.Proofs.Ytmimdgjehnhnoaa

namespace Go.Proofs.Ytmimdgjehnhnoaa
open Go Go.AbsE
set_option linter.unusedSimpArgs false
set_option maxRecDepth 100000
set_option maxHeartbeats 0
set_option linter.unusedVariables false
structure Pl where
 a : Int
 b : Int
 c : Int
deriving DecidableEq
def Pl.cells (p : Pl) : List AVal := [.int .i64 p.a, .int .i64 p.b, .int .i64 p.c]
theorem inside_ok {n a b : Int} {h : AH} : Runs Try.prog 83 [.int .i64 n, .int .i64 a, .int .i64 b] h (fun en h' => en = .ret (.bool (decide (a ≤ n ∧ n ≤ b))) ∧ Ext h h') := by
 have e0 : Ext h h := Ext.refl _
 refine Runs.intro aFunc83 rfl rfl rfl rfl fun rest => ?_;apply gS;refine gR rfl ?_;refine gP ?_;apply gE;apply gS;refine gR rfl ?_;iterate 2 refine gP ?_
 by_cases hs0 : (a : Int) ≤ n
 ·refine gO rfl rfl (kMT rfl rfl) rfl ?_;iterate 3 refine gP ?_
  by_cases hs1 : (n : Int) ≤ b
  ·refine gO rfl rfl (kMT rfl rfl) rfl ?_;iterate 2 refine gP ?_
   apply gE;exact gV (ret_end (aResult_of Try.func83 rfl rfl) ⟨ret_true (by omega), e0⟩)
  ·refine gO rfl rfl (kMF rfl rfl) rfl ?_;iterate 2 refine gP ?_
   apply gE;exact gV (ret_end (aResult_of Try.func83 rfl rfl) ⟨ret_false (by omega), e0⟩)
 ·refine gO rfl rfl (kMF rfl rfl) rfl ?_;refine gP ?_;iterate 3 refine GoR.skip rfl rfl rfl ?_
  iterate 2 refine gP ?_
  apply gE;exact gV (ret_end (aResult_of Try.func83 rfl rfl) ⟨ret_false (by omega), e0⟩)
theorem inside_is {n a b : Int} {r : Bool} (hr : decide (a ≤ n ∧ n ≤ b) = r) {h : AH} : Runs Try.prog 83 [.int .i64 n, .int .i64 a, .int .i64 b] h (fun en h' => en = .ret (.bool r) ∧ Ext h h') := by
 rw [← hr]
 exact inside_ok
theorem isDay_is {n d : Int} {r : Bool} (hd : 0 ≤ d ∧ d ≤ 1000) (hr : decide (0 ≤ n ∧ n ≤ d - 1) = r) {h : AH} : Runs Try.prog 94 [.int .i64 n, .int .i64 d] h (fun en h' => en = .ret (.bool r) ∧ Ext h h') := by
 have e0 : Ext h h := Ext.refl _
 refine Runs.intro aFunc94 rfl rfl rfl rfl fun rest => ?_;apply gS;refine gR rfl ?_;refine gP ?_;apply gE;apply gS;refine gR rfl ?_;iterate 2 refine gP ?_
 refine gO rfl rfl (aS rfl rfl) rfl ?_;refine GoR.call rfl rfl (aCF aFunc83 rfl) (inside_is hr) ?_ np;rintro v0 h0 ⟨q, x0⟩;cases q;refine ⟨_, rfl, ?_⟩;replace e0 := e0.trans x0;refine gP ?_;apply gE;exact gW Try.func94 rfl rfl ⟨rfl, e0⟩
theorem isDay_ok {n d : Int} (hd : 0 ≤ d ∧ d ≤ 1000) {h : AH} : Runs Try.prog 94 [.int .i64 n, .int .i64 d] h (fun en h' => en = .ret (.bool (decide (0 ≤ n ∧ n ≤ d - 1))) ∧ Ext h h') := isDay_is hd rfl
theorem within_ok {lo hi a b : Int} {h : AH} : Runs Try.prog 107 [.agg [.int .i64 lo, .int .i64 hi], .int .i64 a, .int .i64 b] h (fun en h' => en = .ret (.bool (decide (lo ≤ hi ∧ a ≤ lo ∧ hi ≤ b))) ∧ Ext h h') := by
 have e0 : Ext h h := Ext.refl _
 refine Runs.intro aFunc107 rfl rfl rfl rfl fun rest => ?_;apply gS;refine gR rfl ?_;refine GoR.box rfl rfl rfl rfl rfl rfl fun h0 x0 f0 => ?_;replace e0 := e0.trans x0;refine gP ?_;apply gE;apply gS;refine gR rfl ?_;refine gO rfl rfl (fa31_0 rfl) rfl ?_;refine gO rfl rfl (ld3 rfl f0 rfl) rfl ?_;refine gO rfl rfl (fa31_1 rfl) rfl ?_;refine gO rfl rfl (ld3 rfl f0 rfl) rfl ?_
 by_cases hs0 : (lo : Int) ≤ hi
 ·refine gO rfl rfl (kMT rfl rfl) rfl ?_;iterate 2 refine gP ?_
  refine gO rfl rfl (fa31_0 rfl) rfl ?_;refine gO rfl rfl (ld3 rfl f0 rfl) rfl ?_
  by_cases hs1 : (a : Int) ≤ lo
  ·refine gO rfl rfl (kMT rfl rfl) rfl ?_;iterate 2 refine gP ?_
   refine gO rfl rfl (fa31_1 rfl) rfl ?_;refine gO rfl rfl (ld3 rfl f0 rfl) rfl ?_;refine gP ?_
   by_cases hs2 : (hi : Int) ≤ b
   ·refine gO rfl rfl (kMT rfl rfl) rfl ?_;iterate 2 refine gP ?_
    apply gE;exact gV (ret_end (aResult_of Try.func107 rfl rfl) ⟨ret_true (by omega), e0⟩)
   ·refine gO rfl rfl (kMF rfl rfl) rfl ?_;iterate 2 refine gP ?_
    apply gE;exact gV (ret_end (aResult_of Try.func107 rfl rfl) ⟨ret_false (by omega), e0⟩)
  ·refine gO rfl rfl (kMF rfl rfl) rfl ?_;iterate 2 refine gP ?_
   iterate 4 refine GoR.skip rfl rfl rfl ?_
   iterate 2 refine gP ?_
   apply gE;exact gV (ret_end (aResult_of Try.func107 rfl rfl) ⟨ret_false (by omega), e0⟩)
 ·refine gO rfl rfl (kMF rfl rfl) rfl ?_;refine gP ?_;iterate 4 refine GoR.skip rfl rfl rfl ?_
  iterate 2 refine gP ?_
  iterate 4 refine GoR.skip rfl rfl rfl ?_
  iterate 2 refine gP ?_
  apply gE;exact gV (ret_end (aResult_of Try.func107 rfl rfl) ⟨ret_false (by omega), e0⟩)
theorem bears_ok {w n : Int} {h : AH} : Runs Try.prog 125 [.int .i64 w, .int .i64 n] h (fun en h' => en = .ret (.bool (decide (n ≤ w))) ∧ Ext h h') := by
 have e0 : Ext h h := Ext.refl _
 refine Runs.intro aFunc125 rfl rfl rfl rfl fun rest => ?_;apply gS;refine gR rfl ?_;refine gP ?_;apply gE;apply gS;refine gR rfl ?_;iterate 2 refine gP ?_
 by_cases hs0 : (n : Int) ≤ w
 ·refine gO rfl rfl (kMT rfl rfl) rfl ?_;refine gP ?_;apply gE;exact gV (ret_end (aResult_of Try.func125 rfl rfl) ⟨ret_true (by omega), e0⟩)
 ·refine gO rfl rfl (kMF rfl rfl) rfl ?_;refine gP ?_;apply gE;exact gV (ret_end (aResult_of Try.func125 rfl rfl) ⟨ret_false (by omega), e0⟩)
theorem covered_ok {w a b : Int} {h : AH} : Runs Try.prog 114 [.int .i64 w, .int .i64 a, .int .i64 b] h (fun en h' => en = .ret (.int .i64 w) ∧ Ext h h') := by
 have e0 : Ext h h := Ext.refl _
 refine Runs.intro aFunc114 rfl rfl rfl rfl fun rest => ?_;apply gS;refine gR rfl ?_;refine gP ?_;apply gE;apply gS;refine gR rfl ?_;iterate 2 refine gP ?_
 apply gE;exact gW Try.func114 rfl rfl ⟨rfl, e0⟩
theorem spread_ok {w a b : Int} (hw : 0 ≤ w ∧ w ≤ 1000) (ha : 0 ≤ a ∧ a ≤ 1000) (hb : 0 ≤ b ∧ b ≤ 1000) {h : AH} : Runs Try.prog 116 [.int .i64 w, .int .i64 a, .int .i64 b] h (fun en h' => en = .ret (.int .i64 (max 0 (w + (a - b)))) ∧ Ext h h') := by
 have e0 : Ext h h := Ext.refl _
 refine Runs.intro aFunc116 rfl rfl rfl rfl fun rest => ?_;apply gS;refine gR rfl ?_;refine gP ?_;apply gE;apply gS;refine gR rfl ?_;iterate 3 refine gP ?_
 refine gO rfl rfl (aS rfl rfl) rfl ?_;refine gO rfl rfl (aA rfl rfl) rfl ?_;refine gO rfl rfl (aOp_max2 rfl rfl rfl) rfl ?_;refine gP ?_;apply gE;exact gV (ret_end (aResult_of Try.func116 rfl rfl) ⟨ret_int (by split <;> omega), e0⟩)
theorem noSteps_ok {h : AH} : Runs Try.prog 101 [] h (fun en h' => en = .ret (.agg (Pl.cells ⟨-1, -1, -1⟩)) ∧ Ext h h') := by
 have e0 : Ext h h := Ext.refl _
 refine Runs.intro aFunc101 rfl rfl rfl rfl fun rest => ?_;apply gS;refine gR rfl ?_;refine GoR.alloc rfl rfl rfl zt83 rfl rfl fun h0 x0 f0 => ?_;have := e0.1;replace e0 := e0.trans x0;have := f0.1;apply gE;apply gS;refine gR rfl ?_;refine gO rfl rfl (aOp_buildArr zt83 Try.underlying83 sz3 rfl rfl) rfl ?_;refine GoR.store rfl rfl rfl rfl rfl rfl f0 rfl sz83 rfl rfl rfl fun h1 u1 => ?_;replace f0 := u1.has f0
 first | replace e0 := e0.upd u1 (by omega) | clear e0
 apply gE;exact gV (ret_end (aResult_of Try.func101 rfl (aResults_cell rfl f0 (inCells_agg ag83 sz83 rfl))) ⟨rfl, e0⟩)
def doneV (p : Pl) (by_ : Int) : Int := (if 0 ≤ p.a ∧ p.a ≤ by_ then 1 else 0) + (if 0 ≤ p.b ∧ p.b ≤ by_ then 1 else 0) + (if 0 ≤ p.c ∧ p.c ≤ by_ then 1 else 0)
theorem done_ok {a b c d : Int} {h : AH} : Runs Try.prog 115 [.agg [.int .i64 a, .int .i64 b, .int .i64 c], .int .i64 d] h (fun en h' => en = .ret (.int .i64 (doneV ⟨a, b, c⟩ d)) ∧ Ext h h') := by
 unfold doneV
 have e0 : Ext h h := Ext.refl _
 refine Runs.intro aFunc115 rfl rfl rfl rfl fun rest => ?_;apply gS;refine gR rfl ?_;refine GoR.box rfl rfl rfl rfl rfl rfl fun h0 x0 f0 => ?_;replace e0 := e0.trans x0;refine gP ?_;apply gE;apply gS;refine gR rfl ?_;refine gP ?_;apply gE;iterate 2 apply gS
 refine gR rfl ?_;refine gO rfl rfl (ld83 rfl f0 rfl) rfl ?_;refine gP ?_;apply gE;refine Go.block noJ_ok ?_;refine Go.loop noJ_ok ?_;apply gS;refine gR rfl ?_;refine gO rfl rfl (kLT rfl rfl) rfl ?_;apply gE;apply gS;refine gC (b := true) rfl ?_;refine gD ?_;apply gS;refine Go.block noJ_ok ?_;apply gS;refine gR rfl ?_;refine gO rfl rfl (aOp_indexArr (i := 0) Try.underlying83 sz3 rfl rfl rfl (partT_one ag3 rfl)) rfl ?_;refine gP ?_;apply gE;apply gS;refine gR rfl ?_;iterate 2 refine gP ?_
 refine GoR.call rfl rfl (aCF aFunc83 rfl) (inside_ok) ?_ np;rintro v1 h1 ⟨q, x1⟩;cases q;refine ⟨_, rfl, ?_⟩;replace f0 := f0.ext x1;replace e0 := e0.trans x1;apply gE
 by_cases hs0 : 0 ≤ a ∧ a ≤ d
 ·rw [decide_eq_true hs0];refine gC (b := true) rfl ?_;refine gR rfl ?_;refine gP ?_;refine gO rfl rfl (aA rfl rfl) rfl ?_;refine gP ?_;apply gE;refine Go.inBlock noJ_ok ?_;refine gR rfl ?_;refine gO rfl rfl (aA rfl rfl) rfl ?_;refine gP ?_;apply gE;refine Go.inLoop noJ_ok ?_;apply gS;refine gR rfl ?_;refine gO rfl rfl (kLT rfl rfl) rfl ?_;apply gE;apply gS;refine gC (b := true) rfl ?_;refine gD ?_;apply gS;refine Go.block noJ_ok ?_;apply gS;refine gR rfl ?_;refine gO rfl rfl (aOp_indexArr (i := 1) Try.underlying83 sz3 rfl rfl rfl (partT_one ag3 rfl)) rfl ?_;refine gP ?_;apply gE;apply gS;refine gR rfl ?_;iterate 2 refine gP ?_
  refine GoR.call rfl rfl (aCF aFunc83 rfl) (inside_ok) ?_ np;rintro v2 h2 ⟨q, x2⟩;cases q;refine ⟨_, rfl, ?_⟩;replace f0 := f0.ext x2;replace e0 := e0.trans x2;apply gE
  by_cases hs1 : 0 ≤ b ∧ b ≤ d
  ·rw [decide_eq_true hs1];refine gC (b := true) rfl ?_;refine gR rfl ?_;refine gP ?_;refine gO rfl rfl (aA rfl rfl) rfl ?_;refine gP ?_;apply gE;refine Go.inBlock noJ_ok ?_;refine gR rfl ?_;refine gO rfl rfl (aA rfl rfl) rfl ?_;refine gP ?_;apply gE;refine Go.inLoop noJ_ok ?_;apply gS;refine gR rfl ?_;refine gO rfl rfl (kLT rfl rfl) rfl ?_;apply gE;apply gS;refine gC (b := true) rfl ?_;refine gD ?_;apply gS;refine Go.block noJ_ok ?_;apply gS;refine gR rfl ?_;refine gO rfl rfl (aOp_indexArr (i := 2) Try.underlying83 sz3 rfl rfl rfl (partT_one ag3 rfl)) rfl ?_;refine gP ?_;apply gE;apply gS;refine gR rfl ?_;iterate 2 refine gP ?_
   refine GoR.call rfl rfl (aCF aFunc83 rfl) (inside_ok) ?_ np;rintro v3 h3 ⟨q, x3⟩;cases q;refine ⟨_, rfl, ?_⟩;replace f0 := f0.ext x3;replace e0 := e0.trans x3;apply gE
   by_cases hs2 : 0 ≤ c ∧ c ≤ d
   ·rw [decide_eq_true hs2];refine gC (b := true) rfl ?_;refine gR rfl ?_;refine gP ?_;refine gO rfl rfl (aA rfl rfl) rfl ?_;refine gP ?_;apply gE;refine Go.inBlock noJ_ok ?_;refine gR rfl ?_;refine gO rfl rfl (aA rfl rfl) rfl ?_;refine gP ?_;apply gE;refine Go.inLoop noJ_ok ?_;apply gS;refine gR rfl ?_;refine gO rfl rfl (kLF rfl rfl) rfl ?_;apply gE;apply gS;refine gC (b := false) rfl ?_;refine gD ?_;apply gS;refine gR rfl ?_;iterate 2 refine gP ?_
    apply gE;exact gV (ret_end (aResult_of Try.func115 rfl rfl) ⟨ret_int (by dsimp only; simp only [*]; decide), e0⟩)
   ·rw [decide_eq_false hs2];refine gC (b := false) rfl ?_;refine gD ?_;refine Go.inBlock noJ_ok ?_;refine gR rfl ?_;refine gO rfl rfl (aA rfl rfl) rfl ?_;refine gP ?_;apply gE;refine Go.inLoop noJ_ok ?_;apply gS;refine gR rfl ?_;refine gO rfl rfl (kLF rfl rfl) rfl ?_;apply gE;apply gS;refine gC (b := false) rfl ?_;refine gD ?_;apply gS;refine gR rfl ?_;iterate 2 refine gP ?_
    apply gE;exact gV (ret_end (aResult_of Try.func115 rfl rfl) ⟨ret_int (by dsimp only; simp only [*]; decide), e0⟩)
  ·rw [decide_eq_false hs1];refine gC (b := false) rfl ?_;refine gD ?_;refine Go.inBlock noJ_ok ?_;refine gR rfl ?_;refine gO rfl rfl (aA rfl rfl) rfl ?_;refine gP ?_;apply gE;refine Go.inLoop noJ_ok ?_;apply gS;refine gR rfl ?_;refine gO rfl rfl (kLT rfl rfl) rfl ?_;apply gE;apply gS;refine gC (b := true) rfl ?_;refine gD ?_;apply gS;refine Go.block noJ_ok ?_;apply gS;refine gR rfl ?_;refine gO rfl rfl (aOp_indexArr (i := 2) Try.underlying83 sz3 rfl rfl rfl (partT_one ag3 rfl)) rfl ?_;refine gP ?_;apply gE;apply gS;refine gR rfl ?_;iterate 2 refine gP ?_
   refine GoR.call rfl rfl (aCF aFunc83 rfl) (inside_ok) ?_ np;rintro v3 h3 ⟨q, x3⟩;cases q;refine ⟨_, rfl, ?_⟩;replace f0 := f0.ext x3;replace e0 := e0.trans x3;apply gE
   by_cases hs2 : 0 ≤ c ∧ c ≤ d
   ·rw [decide_eq_true hs2];refine gC (b := true) rfl ?_;refine gR rfl ?_;refine gP ?_;refine gO rfl rfl (aA rfl rfl) rfl ?_;refine gP ?_;apply gE;refine Go.inBlock noJ_ok ?_;refine gR rfl ?_;refine gO rfl rfl (aA rfl rfl) rfl ?_;refine gP ?_;apply gE;refine Go.inLoop noJ_ok ?_;apply gS;refine gR rfl ?_;refine gO rfl rfl (kLF rfl rfl) rfl ?_;apply gE;apply gS;refine gC (b := false) rfl ?_;refine gD ?_;apply gS;refine gR rfl ?_;iterate 2 refine gP ?_
    apply gE;exact gV (ret_end (aResult_of Try.func115 rfl rfl) ⟨ret_int (by dsimp only; simp only [*]; decide), e0⟩)
   ·rw [decide_eq_false hs2];refine gC (b := false) rfl ?_;refine gD ?_;refine Go.inBlock noJ_ok ?_;refine gR rfl ?_;refine gO rfl rfl (aA rfl rfl) rfl ?_;refine gP ?_;apply gE;refine Go.inLoop noJ_ok ?_;apply gS;refine gR rfl ?_;refine gO rfl rfl (kLF rfl rfl) rfl ?_;apply gE;apply gS;refine gC (b := false) rfl ?_;refine gD ?_;apply gS;refine gR rfl ?_;iterate 2 refine gP ?_
    apply gE;exact gV (ret_end (aResult_of Try.func115 rfl rfl) ⟨ret_int (by dsimp only; simp only [*]; decide), e0⟩)
 ·rw [decide_eq_false hs0];refine gC (b := false) rfl ?_;refine gD ?_;refine Go.inBlock noJ_ok ?_;refine gR rfl ?_;refine gO rfl rfl (aA rfl rfl) rfl ?_;refine gP ?_;apply gE;refine Go.inLoop noJ_ok ?_;apply gS;refine gR rfl ?_;refine gO rfl rfl (kLT rfl rfl) rfl ?_;apply gE;apply gS;refine gC (b := true) rfl ?_;refine gD ?_;apply gS;refine Go.block noJ_ok ?_;apply gS;refine gR rfl ?_;refine gO rfl rfl (aOp_indexArr (i := 1) Try.underlying83 sz3 rfl rfl rfl (partT_one ag3 rfl)) rfl ?_;refine gP ?_;apply gE;apply gS;refine gR rfl ?_;iterate 2 refine gP ?_
  refine GoR.call rfl rfl (aCF aFunc83 rfl) (inside_ok) ?_ np;rintro v2 h2 ⟨q, x2⟩;cases q;refine ⟨_, rfl, ?_⟩;replace f0 := f0.ext x2;replace e0 := e0.trans x2;apply gE
  by_cases hs1 : 0 ≤ b ∧ b ≤ d
  ·rw [decide_eq_true hs1];refine gC (b := true) rfl ?_;refine gR rfl ?_;refine gP ?_;refine gO rfl rfl (aA rfl rfl) rfl ?_;refine gP ?_;apply gE;refine Go.inBlock noJ_ok ?_;refine gR rfl ?_;refine gO rfl rfl (aA rfl rfl) rfl ?_;refine gP ?_;apply gE;refine Go.inLoop noJ_ok ?_;apply gS;refine gR rfl ?_;refine gO rfl rfl (kLT rfl rfl) rfl ?_;apply gE;apply gS;refine gC (b := true) rfl ?_;refine gD ?_;apply gS;refine Go.block noJ_ok ?_;apply gS;refine gR rfl ?_;refine gO rfl rfl (aOp_indexArr (i := 2) Try.underlying83 sz3 rfl rfl rfl (partT_one ag3 rfl)) rfl ?_;refine gP ?_;apply gE;apply gS;refine gR rfl ?_;iterate 2 refine gP ?_
   refine GoR.call rfl rfl (aCF aFunc83 rfl) (inside_ok) ?_ np;rintro v3 h3 ⟨q, x3⟩;cases q;refine ⟨_, rfl, ?_⟩;replace f0 := f0.ext x3;replace e0 := e0.trans x3;apply gE
   by_cases hs2 : 0 ≤ c ∧ c ≤ d
   ·rw [decide_eq_true hs2];refine gC (b := true) rfl ?_;refine gR rfl ?_;refine gP ?_;refine gO rfl rfl (aA rfl rfl) rfl ?_;refine gP ?_;apply gE;refine Go.inBlock noJ_ok ?_;refine gR rfl ?_;refine gO rfl rfl (aA rfl rfl) rfl ?_;refine gP ?_;apply gE;refine Go.inLoop noJ_ok ?_;apply gS;refine gR rfl ?_;refine gO rfl rfl (kLF rfl rfl) rfl ?_;apply gE;apply gS;refine gC (b := false) rfl ?_;refine gD ?_;apply gS;refine gR rfl ?_;iterate 2 refine gP ?_
    apply gE;exact gV (ret_end (aResult_of Try.func115 rfl rfl) ⟨ret_int (by dsimp only; simp only [*]; decide), e0⟩)
   ·rw [decide_eq_false hs2];refine gC (b := false) rfl ?_;refine gD ?_;refine Go.inBlock noJ_ok ?_;refine gR rfl ?_;refine gO rfl rfl (aA rfl rfl) rfl ?_;refine gP ?_;apply gE;refine Go.inLoop noJ_ok ?_;apply gS;refine gR rfl ?_;refine gO rfl rfl (kLF rfl rfl) rfl ?_;apply gE;apply gS;refine gC (b := false) rfl ?_;refine gD ?_;apply gS;refine gR rfl ?_;iterate 2 refine gP ?_
    apply gE;exact gV (ret_end (aResult_of Try.func115 rfl rfl) ⟨ret_int (by dsimp only; simp only [*]; decide), e0⟩)
  ·rw [decide_eq_false hs1];refine gC (b := false) rfl ?_;refine gD ?_;refine Go.inBlock noJ_ok ?_;refine gR rfl ?_;refine gO rfl rfl (aA rfl rfl) rfl ?_;refine gP ?_;apply gE;refine Go.inLoop noJ_ok ?_;apply gS;refine gR rfl ?_;refine gO rfl rfl (kLT rfl rfl) rfl ?_;apply gE;apply gS;refine gC (b := true) rfl ?_;refine gD ?_;apply gS;refine Go.block noJ_ok ?_;apply gS;refine gR rfl ?_;refine gO rfl rfl (aOp_indexArr (i := 2) Try.underlying83 sz3 rfl rfl rfl (partT_one ag3 rfl)) rfl ?_;refine gP ?_;apply gE;apply gS;refine gR rfl ?_;iterate 2 refine gP ?_
   refine GoR.call rfl rfl (aCF aFunc83 rfl) (inside_ok) ?_ np;rintro v3 h3 ⟨q, x3⟩;cases q;refine ⟨_, rfl, ?_⟩;replace f0 := f0.ext x3;replace e0 := e0.trans x3;apply gE
   by_cases hs2 : 0 ≤ c ∧ c ≤ d
   ·rw [decide_eq_true hs2];refine gC (b := true) rfl ?_;refine gR rfl ?_;refine gP ?_;refine gO rfl rfl (aA rfl rfl) rfl ?_;refine gP ?_;apply gE;refine Go.inBlock noJ_ok ?_;refine gR rfl ?_;refine gO rfl rfl (aA rfl rfl) rfl ?_;refine gP ?_;apply gE;refine Go.inLoop noJ_ok ?_;apply gS;refine gR rfl ?_;refine gO rfl rfl (kLF rfl rfl) rfl ?_;apply gE;apply gS;refine gC (b := false) rfl ?_;refine gD ?_;apply gS;refine gR rfl ?_;iterate 2 refine gP ?_
    apply gE;exact gV (ret_end (aResult_of Try.func115 rfl rfl) ⟨ret_int (by dsimp only; simp only [*]; decide), e0⟩)
   ·rw [decide_eq_false hs2];refine gC (b := false) rfl ?_;refine gD ?_;refine Go.inBlock noJ_ok ?_;refine gR rfl ?_;refine gO rfl rfl (aA rfl rfl) rfl ?_;refine gP ?_;apply gE;refine Go.inLoop noJ_ok ?_;apply gS;refine gR rfl ?_;refine gO rfl rfl (kLF rfl rfl) rfl ?_;apply gE;apply gS;refine gC (b := false) rfl ?_;refine gD ?_;apply gS;refine gR rfl ?_;iterate 2 refine gP ?_
    apply gE;exact gV (ret_end (aResult_of Try.func115 rfl rfl) ⟨ret_int (by dsimp only; simp only [*]; decide), e0⟩)
end Go.Proofs.Ytmimdgjehnhnoaa

namespace Go.Proofs.Ytmimdgjehnhnoaa
open Go Go.AbsE
set_option linter.unusedSimpArgs false
set_option maxRecDepth 100000
set_option maxHeartbeats 0
set_option linter.unusedVariables false
def spC (p : Int × Int) : List AVal := [.int .i64 p.1, .int .i64 p.2]
structure HF where
 lo : Int
 hi : Int
 sods : Int
def HF.cells (x : HF) : List AVal := [.int .i64 x.lo, .int .i64 x.hi, .int .i64 x.sods]
structure FootV where
 rs : List (Int × Int)
 men : Int
 l0 : Int
 l1 : Int
 l2 : Int
 d0 : Int
 d1 : Int
 d2 : Int
 hs : List HF
structure FootV.Ok (F : FootV) : Prop where
 nr : 1 ≤ F.rs.length ∧ F.rs.length ≤ 8
 r : ∀ r, r ∈ F.rs → 0 ≤ r.1 ∧ r.1 ≤ r.2 ∧ r.2 ≤ 10
 men : 0 ≤ F.men ∧ F.men ≤ 3
 l0 : 0 ≤ F.l0 ∧ F.l0 ≤ 60
 l1 : 0 ≤ F.l1 ∧ F.l1 ≤ 60
 l2 : 0 ≤ F.l2 ∧ F.l2 ≤ 60
 d0 : 0 ≤ F.d0 ∧ F.d0 ≤ 10
 d1 : 0 ≤ F.d1 ∧ F.d1 ≤ 10
 d2 : 0 ≤ F.d2 ∧ F.d2 ≤ 10
 nh : F.hs.length ≤ 3
 h : ∀ x, x ∈ F.hs → 0 ≤ x.lo ∧ x.lo ≤ x.hi ∧ x.hi ≤ 60 ∧ 0 ≤ x.sods ∧ x.sods ≤ 500
structure FootAt (h : AH) (F : FootV) (rsl hsl : AVal) : Prop where
 rs : SliceOf h 2 rsl (F.rs.map spC)
 hs : SliceOf h 3 hsl (F.hs.map HF.cells)
 c : Cut Try.prog h 3 hsl F.hs.length
theorem FootAt.ext {h h' : AH} {F : FootV} {rsl hsl : AVal} (k : FootAt h F rsl hsl) (e : Ext h h') : FootAt h' F rsl hsl := ⟨k.rs.ext e, k.hs.ext e, k.c.ext e⟩
def FootV.cells (F : FootV) (rsl hsl : AVal) : List AVal := [rsl, .int .i64 F.men, .int .i64 F.l0, .int .i64 F.l1, .int .i64 F.l2, .int .i64 F.d0, .int .i64 F.d1, .int .i64 F.d2, hsl]
theorem idx122_ok {fid : FuncId} {caps : List AVal} {fn : Func} (hfid : aFunc Try.prog fid = some fn) {s : AVal} {L : List (Int × Int)} (p : (Int × Int) → Bool) {h : AH} (hs : SliceOf h 2 s (L.map spC)) (hn : L.length ≤ 100)
  (hc : ∀ x h', x ∈ L → Ext h h' → Runs Try.prog fid ([.agg (spC x)] ++ caps) h' (fun en h'' => en = .ret (.bool (p x)) ∧ Ext h' h'')) :
  Runs Try.prog 122 [s, .func (.func fid) [] caps] h (fun en h' => ∃ r : Int, en = .ret (.int .i64 r) ∧ decide (0 ≤ r) = L.any p ∧ Ext h h') := by
 have hlen := hs.len
 rw [List.length_map] at hlen
 have e0 : Ext h h := Ext.refl _
 refine Runs.intro aFunc122 rfl rfl rfl rfl fun rest => ?_;apply gS;refine gR rfl ?_;refine gP ?_;apply gE;iterate 2 apply gS
 refine gR rfl ?_;refine gP ?_;refine gO rfl rfl (aOp_lenSlice Try.underlying22 rfl (by assumption)) rfl ?_;refine gP ?_;apply gE;refine Go.block noJ_ok ?_
 refine Go.loopKeep (fun i : Nat => [(0, s), (1, .func (.func fid) [] caps), (7, .int .i64 L.length), (8, .int .i64 (i : Nat))])
  (fun m i h' => m + i = L.length ∧ Ext h h' ∧ (L.take i).any p = false) (n := L.length) 0 ⟨rfl, rfl, rfl, rfl, trivial⟩ ⟨rfl, e0, (by rw [List.take_zero]; rfl)⟩ ?_
 clear e0;rintro m i h4 ⟨hm, e0, hp⟩ again
 by_cases hi' : i < L.length
 ·obtain ⟨x, hx⟩ : ∃ x, L[i]? = some x := ⟨L[i], by simp [hi']⟩
  have hmem := List.mem_of_getElem? hx
  obtain ⟨bq, off, q1, q2⟩ := hs.at (i := i) (l := spC x) (by rw [List.getElem?_map, hx]; rfl)
  rw [List.length_map] at q1
  have hcx := hc x h4 hmem e0
  cases hpx : p x with
  | true =>
   rw [hpx] at hcx
   have hany : decide ((0 : Int) ≤ (i : Nat)) = L.any p := by
    rw [List.any_eq_true.2 ⟨x, hmem, hpx⟩];exact decide_eq_true (by omega)
   apply gS;refine gR rfl ?_;refine gO rfl rfl (kLT rfl rfl) rfl ?_;apply gE;apply gS;refine gC (b := true) rfl ?_;refine gD ?_;apply gS;refine Go.block noJ_ok ?_;apply gS;refine gR rfl ?_;iterate 2 refine gP ?_
   apply gE;apply gS;refine gR rfl ?_;iterate 3 refine gP ?_
   refine gO rfl rfl (aOp_indexAddr (i := i) Try.underlying22 sz31 rfl (by assumption) rfl (Nat.ble_eq_true_of_le (by omega))) rfl ?_;refine gO rfl rfl (aOp_loadE ag31 sz31 rfl (q2.ext e0)) rfl ?_;refine GoR.call rfl rfl (aOp_callVal rfl hfid rfl) (hcx) ?_ np;rintro v5 h5 ⟨q, x5⟩;cases q;refine ⟨_, rfl, ?_⟩;replace e0 := e0.trans x5;apply gE;refine gC (b := true) rfl ?_;apply gS;refine gR rfl ?_;iterate 2 refine gP ?_
   apply gE;exact gV (ret_end (aResult_of Try.func122 rfl rfl) ⟨_, rfl, hany, e0⟩)
  | false =>
   rw [hpx] at hcx;apply gS;refine gR rfl ?_;refine gO rfl rfl (kLT rfl rfl) rfl ?_;apply gE;apply gS;refine gC (b := true) rfl ?_;refine gD ?_;apply gS;refine Go.block noJ_ok ?_;apply gS;refine gR rfl ?_;iterate 2 refine gP ?_
   apply gE;apply gS;refine gR rfl ?_;iterate 3 refine gP ?_
   refine gO rfl rfl (aOp_indexAddr (i := i) Try.underlying22 sz31 rfl (by assumption) rfl (Nat.ble_eq_true_of_le (by omega))) rfl ?_;refine gO rfl rfl (aOp_loadE ag31 sz31 rfl (q2.ext e0)) rfl ?_;refine GoR.call rfl rfl (aOp_callVal rfl hfid rfl) (hcx) ?_ np;rintro v5 h5 ⟨q, x5⟩;cases q;refine ⟨_, rfl, ?_⟩;replace e0 := e0.trans x5;apply gE;refine gC (b := false) rfl ?_;refine gD ?_;refine Go.inBlock noJ_ok ?_;refine gR rfl ?_;refine gO rfl rfl (aA rfl rfl) rfl ?_;refine gP ?_;apply gE;exact again (m - 1) (i + 1) _ _ (by omega) ⟨rfl, rfl, rfl, rfl, trivial⟩ ⟨by omega, e0, by rw [List.take_add_one, hx, Option.toList_some, List.any_append, hp]; simp [hpx]⟩
 ·rw [List.take_of_length_le (by omega)] at hp
  have hany : decide ((0 : Int) ≤ -1) = L.any p := by rw [hp]; rfl
  apply gS;refine gR rfl ?_;refine gO rfl rfl (kLF rfl rfl) rfl ?_;apply gE;apply gS;refine gC (b := false) rfl ?_;refine gD ?_;apply gS;refine gR rfl ?_;refine gP ?_;apply gE;exact gV (ret_end (aResult_of Try.func122 rfl rfl) ⟨_, rfl, hany, e0⟩)
theorem cont111_ok {fid : FuncId} {caps : List AVal} {fn : Func} (hfid : aFunc Try.prog fid = some fn) {s : AVal} {L : List (Int × Int)} (p : (Int × Int) → Bool) {h : AH} (hs : SliceOf h 2 s (L.map spC)) (hn : L.length ≤ 100)
  (hc : ∀ x h', x ∈ L → Ext h h' → Runs Try.prog fid ([.agg (spC x)] ++ caps) h' (fun en h'' => en = .ret (.bool (p x)) ∧ Ext h' h'')) :
  Runs Try.prog 111 [s, .func (.func fid) [] caps] h (fun en h' => en = .ret (.bool (L.any p)) ∧ Ext h h') := by
 have e0 : Ext h h := Ext.refl _
 refine Runs.intro aFunc111 rfl rfl rfl rfl fun rest => ?_;apply gS;refine gR rfl ?_;refine gP ?_;apply gE;apply gS;refine gR rfl ?_;iterate 2 refine gP ?_
 refine GoR.call rfl rfl (aCF aFunc122 rfl) (idx122_ok hfid p hs hn hc) ?_ (by rintro _ _ ⟨r, q, hr, _⟩; cases q);rintro v0 h0 ⟨r, q, hr, x0⟩;cases q;refine ⟨_, rfl, ?_⟩;replace e0 := e0.trans x0;refine gO rfl rfl (aOp_geq rfl rfl hr) rfl ?_;refine gP ?_;apply gE;exact gW Try.func111 rfl rfl ⟨rfl, e0⟩
theorem idx123_ok {fid : FuncId} {caps : List AVal} {fn : Func} (hfid : aFunc Try.prog fid = some fn) {s : AVal} {L : List Int} (p : Int → Bool) {h : AH} (hs : SliceOf h 1 s (L.map (fun x => [AVal.int .i64 x]))) (hn : L.length ≤ 100)
  (hc : ∀ x h', x ∈ L → Ext h h' → Runs Try.prog fid ([.int .i64 x] ++ caps) h' (fun en h'' => en = .ret (.bool (p x)) ∧ Ext h' h'')) :
  Runs Try.prog 123 [s, .func (.func fid) [] caps] h (fun en h' => ∃ r : Int, en = .ret (.int .i64 r) ∧ decide (0 ≤ r) = L.any p ∧ Ext h h') := by
 have hlen := hs.len
 rw [List.length_map] at hlen
 have e0 : Ext h h := Ext.refl _
 refine Runs.intro aFunc123 rfl rfl rfl rfl fun rest => ?_;apply gS;refine gR rfl ?_;refine gP ?_;apply gE;iterate 2 apply gS
 refine gR rfl ?_;refine gP ?_;refine gO rfl rfl (aOp_lenSlice Try.underlying49 rfl (by assumption)) rfl ?_;refine gP ?_;apply gE;refine Go.block noJ_ok ?_
 refine Go.loopKeep (fun i : Nat => [(0, s), (1, .func (.func fid) [] caps), (7, .int .i64 L.length), (8, .int .i64 (i : Nat))])
  (fun m i h' => m + i = L.length ∧ Ext h h' ∧ (L.take i).any p = false) (n := L.length) 0 ⟨rfl, rfl, rfl, rfl, trivial⟩ ⟨rfl, e0, (by rw [List.take_zero]; rfl)⟩ ?_
 clear e0;rintro m i h4 ⟨hm, e0, hp⟩ again
 by_cases hi' : i < L.length
 ·obtain ⟨x, hx⟩ : ∃ x, L[i]? = some x := ⟨L[i], by simp [hi']⟩
  have hmem := List.mem_of_getElem? hx
  obtain ⟨bq, off, q1, q2⟩ := hs.at (i := i) (l := [AVal.int .i64 x]) (by rw [List.getElem?_map, hx]; rfl)
  rw [List.length_map] at q1
  have hcx := hc x h4 hmem e0
  cases hpx : p x with
  | true =>
   rw [hpx] at hcx
   have hany : decide ((0 : Int) ≤ (i : Nat)) = L.any p := by
    rw [List.any_eq_true.2 ⟨x, hmem, hpx⟩];exact decide_eq_true (by omega)
   apply gS;refine gR rfl ?_;refine gO rfl rfl (kLT rfl rfl) rfl ?_;apply gE;apply gS;refine gC (b := true) rfl ?_;refine gD ?_;apply gS;refine Go.block noJ_ok ?_;apply gS;refine gR rfl ?_;iterate 2 refine gP ?_
   apply gE;apply gS;refine gR rfl ?_;iterate 3 refine gP ?_
   refine gO rfl rfl (aOp_indexAddr (i := i) Try.underlying49 sz3 rfl (by assumption) rfl (Nat.ble_eq_true_of_le (by omega))) rfl ?_;refine gO rfl rfl (aOp_loadE1 (k := 0) ag3 rfl (q2.ext e0) rfl) rfl ?_;refine GoR.call rfl rfl (aOp_callVal rfl hfid rfl) (hcx) ?_ np;rintro v5 h5 ⟨q, x5⟩;cases q;refine ⟨_, rfl, ?_⟩;replace e0 := e0.trans x5;apply gE;refine gC (b := true) rfl ?_;apply gS;refine gR rfl ?_;iterate 2 refine gP ?_
   apply gE;exact gV (ret_end (aResult_of Try.func123 rfl rfl) ⟨_, rfl, hany, e0⟩)
  | false =>
   rw [hpx] at hcx;apply gS;refine gR rfl ?_;refine gO rfl rfl (kLT rfl rfl) rfl ?_;apply gE;apply gS;refine gC (b := true) rfl ?_;refine gD ?_;apply gS;refine Go.block noJ_ok ?_;apply gS;refine gR rfl ?_;iterate 2 refine gP ?_
   apply gE;apply gS;refine gR rfl ?_;iterate 3 refine gP ?_
   refine gO rfl rfl (aOp_indexAddr (i := i) Try.underlying49 sz3 rfl (by assumption) rfl (Nat.ble_eq_true_of_le (by omega))) rfl ?_;refine gO rfl rfl (aOp_loadE1 (k := 0) ag3 rfl (q2.ext e0) rfl) rfl ?_;refine GoR.call rfl rfl (aOp_callVal rfl hfid rfl) (hcx) ?_ np;rintro v5 h5 ⟨q, x5⟩;cases q;refine ⟨_, rfl, ?_⟩;replace e0 := e0.trans x5;apply gE;refine gC (b := false) rfl ?_;refine gD ?_;refine Go.inBlock noJ_ok ?_;refine gR rfl ?_;refine gO rfl rfl (aA rfl rfl) rfl ?_;refine gP ?_;apply gE;exact again (m - 1) (i + 1) _ _ (by omega) ⟨rfl, rfl, rfl, rfl, trivial⟩ ⟨by omega, e0, by rw [List.take_add_one, hx, Option.toList_some, List.any_append, hp]; simp [hpx]⟩
 ·rw [List.take_of_length_le (by omega)] at hp
  have hany : decide ((0 : Int) ≤ -1) = L.any p := by rw [hp]; rfl
  apply gS;refine gR rfl ?_;refine gO rfl rfl (kLF rfl rfl) rfl ?_;apply gE;apply gS;refine gC (b := false) rfl ?_;refine gD ?_;apply gS;refine gR rfl ?_;refine gP ?_;apply gE;exact gV (ret_end (aResult_of Try.func123 rfl rfl) ⟨_, rfl, hany, e0⟩)
theorem cont112_ok {fid : FuncId} {caps : List AVal} {fn : Func} (hfid : aFunc Try.prog fid = some fn) {s : AVal} {L : List Int} (p : Int → Bool) {h : AH} (hs : SliceOf h 1 s (L.map (fun x => [AVal.int .i64 x]))) (hn : L.length ≤ 100)
  (hc : ∀ x h', x ∈ L → Ext h h' → Runs Try.prog fid ([.int .i64 x] ++ caps) h' (fun en h'' => en = .ret (.bool (p x)) ∧ Ext h' h'')) :
  Runs Try.prog 112 [s, .func (.func fid) [] caps] h (fun en h' => en = .ret (.bool (L.any p)) ∧ Ext h h') := by
 have e0 : Ext h h := Ext.refl _
 refine Runs.intro aFunc112 rfl rfl rfl rfl fun rest => ?_;apply gS;refine gR rfl ?_;refine gP ?_;apply gE;apply gS;refine gR rfl ?_;iterate 2 refine gP ?_
 refine GoR.call rfl rfl (aCF aFunc123 rfl) (idx123_ok hfid p hs hn hc) ?_ (by rintro _ _ ⟨r, q, hr, _⟩; cases q);rintro v0 h0 ⟨r, q, hr, x0⟩;cases q;refine ⟨_, rfl, ?_⟩;replace e0 := e0.trans x0;refine gO rfl rfl (aOp_geq rfl rfl hr) rfl ?_;refine gP ?_;apply gE;exact gW Try.func112 rfl rfl ⟨rfl, e0⟩
theorem idx124_ok {fid : FuncId} {caps : List AVal} {fn : Func} (hfid : aFunc Try.prog fid = some fn) {s : AVal} {L : List HF} (p : HF → Bool) {h : AH} (hs : SliceOf h 3 s (L.map HF.cells)) (hn : L.length ≤ 100)
  (hc : ∀ x h', x ∈ L → Ext h h' → Runs Try.prog fid ([.agg (HF.cells x)] ++ caps) h' (fun en h'' => en = .ret (.bool (p x)) ∧ Ext h' h'')) :
  Runs Try.prog 124 [s, .func (.func fid) [] caps] h (fun en h' => ∃ r : Int, en = .ret (.int .i64 r) ∧ decide (0 ≤ r) = L.any p ∧ Ext h h') := by
 have hlen := hs.len
 rw [List.length_map] at hlen
 have e0 : Ext h h := Ext.refl _
 refine Runs.intro aFunc124 rfl rfl rfl rfl fun rest => ?_;apply gS;refine gR rfl ?_;refine gP ?_;apply gE;iterate 2 apply gS
 refine gR rfl ?_;refine gP ?_;refine gO rfl rfl (aOp_lenSlice Try.underlying24 rfl (by assumption)) rfl ?_;refine gP ?_;apply gE;refine Go.block noJ_ok ?_
 refine Go.loopKeep (fun i : Nat => [(0, s), (1, .func (.func fid) [] caps), (7, .int .i64 L.length), (8, .int .i64 (i : Nat))])
  (fun m i h' => m + i = L.length ∧ Ext h h' ∧ (L.take i).any p = false) (n := L.length) 0 ⟨rfl, rfl, rfl, rfl, trivial⟩ ⟨rfl, e0, (by rw [List.take_zero]; rfl)⟩ ?_
 clear e0;rintro m i h4 ⟨hm, e0, hp⟩ again
 by_cases hi' : i < L.length
 ·obtain ⟨x, hx⟩ : ∃ x, L[i]? = some x := ⟨L[i], by simp [hi']⟩
  have hmem := List.mem_of_getElem? hx
  obtain ⟨bq, off, q1, q2⟩ := hs.at (i := i) (l := HF.cells x) (by rw [List.getElem?_map, hx]; rfl)
  rw [List.length_map] at q1
  have hcx := hc x h4 hmem e0
  cases hpx : p x with
  | true =>
   rw [hpx] at hcx
   have hany : decide ((0 : Int) ≤ (i : Nat)) = L.any p := by
    rw [List.any_eq_true.2 ⟨x, hmem, hpx⟩];exact decide_eq_true (by omega)
   apply gS;refine gR rfl ?_;refine gO rfl rfl (kLT rfl rfl) rfl ?_;apply gE;apply gS;refine gC (b := true) rfl ?_;refine gD ?_;apply gS;refine Go.block noJ_ok ?_;apply gS;refine gR rfl ?_;iterate 2 refine gP ?_
   apply gE;apply gS;refine gR rfl ?_;iterate 3 refine gP ?_
   refine gO rfl rfl (aOp_indexAddr (i := i) Try.underlying24 sz72 rfl (by assumption) rfl (Nat.ble_eq_true_of_le (by omega))) rfl ?_;refine gO rfl rfl (aOp_loadE ag72 sz72 rfl (q2.ext e0)) rfl ?_;refine GoR.call rfl rfl (aOp_callVal rfl hfid rfl) (hcx) ?_ np;rintro v5 h5 ⟨q, x5⟩;cases q;refine ⟨_, rfl, ?_⟩;replace e0 := e0.trans x5;apply gE;refine gC (b := true) rfl ?_;apply gS;refine gR rfl ?_;iterate 2 refine gP ?_
   apply gE;exact gV (ret_end (aResult_of Try.func124 rfl rfl) ⟨_, rfl, hany, e0⟩)
  | false =>
   rw [hpx] at hcx;apply gS;refine gR rfl ?_;refine gO rfl rfl (kLT rfl rfl) rfl ?_;apply gE;apply gS;refine gC (b := true) rfl ?_;refine gD ?_;apply gS;refine Go.block noJ_ok ?_;apply gS;refine gR rfl ?_;iterate 2 refine gP ?_
   apply gE;apply gS;refine gR rfl ?_;iterate 3 refine gP ?_
   refine gO rfl rfl (aOp_indexAddr (i := i) Try.underlying24 sz72 rfl (by assumption) rfl (Nat.ble_eq_true_of_le (by omega))) rfl ?_;refine gO rfl rfl (aOp_loadE ag72 sz72 rfl (q2.ext e0)) rfl ?_;refine GoR.call rfl rfl (aOp_callVal rfl hfid rfl) (hcx) ?_ np;rintro v5 h5 ⟨q, x5⟩;cases q;refine ⟨_, rfl, ?_⟩;replace e0 := e0.trans x5;apply gE;refine gC (b := false) rfl ?_;refine gD ?_;refine Go.inBlock noJ_ok ?_;refine gR rfl ?_;refine gO rfl rfl (aA rfl rfl) rfl ?_;refine gP ?_;apply gE;exact again (m - 1) (i + 1) _ _ (by omega) ⟨rfl, rfl, rfl, rfl, trivial⟩ ⟨by omega, e0, by rw [List.take_add_one, hx, Option.toList_some, List.any_append, hp]; simp [hpx]⟩
 ·rw [List.take_of_length_le (by omega)] at hp
  have hany : decide ((0 : Int) ≤ -1) = L.any p := by rw [hp]; rfl
  apply gS;refine gR rfl ?_;refine gO rfl rfl (kLF rfl rfl) rfl ?_;apply gE;apply gS;refine gC (b := false) rfl ?_;refine gD ?_;apply gS;refine gR rfl ?_;refine gP ?_;apply gE;exact gV (ret_end (aResult_of Try.func124 rfl rfl) ⟨_, rfl, hany, e0⟩)
theorem cont113_ok {fid : FuncId} {caps : List AVal} {fn : Func} (hfid : aFunc Try.prog fid = some fn) {s : AVal} {L : List HF} (p : HF → Bool) {h : AH} (hs : SliceOf h 3 s (L.map HF.cells)) (hn : L.length ≤ 100)
  (hc : ∀ x h', x ∈ L → Ext h h' → Runs Try.prog fid ([.agg (HF.cells x)] ++ caps) h' (fun en h'' => en = .ret (.bool (p x)) ∧ Ext h' h'')) :
  Runs Try.prog 113 [s, .func (.func fid) [] caps] h (fun en h' => en = .ret (.bool (L.any p)) ∧ Ext h h') := by
 have e0 : Ext h h := Ext.refl _
 refine Runs.intro aFunc113 rfl rfl rfl rfl fun rest => ?_;apply gS;refine gR rfl ?_;refine gP ?_;apply gE;apply gS;refine gR rfl ?_;iterate 2 refine gP ?_
 refine GoR.call rfl rfl (aCF aFunc124 rfl) (idx124_ok hfid p hs hn hc) ?_ (by rintro _ _ ⟨r, q, hr, _⟩; cases q);rintro v0 h0 ⟨r, q, hr, x0⟩;cases q;refine ⟨_, rfl, ?_⟩;replace e0 := e0.trans x0;refine gO rfl rfl (aOp_geq rfl rfl hr) rfl ?_;refine gP ?_;apply gE;exact gW Try.func113 rfl rfl ⟨rfl, e0⟩
def badR (r : Int × Int) : Bool := !decide (r.1 ≤ r.2 ∧ 0 ≤ r.1 ∧ r.2 ≤ 10)
def badL (x : Int) : Bool := !decide (0 ≤ x ∧ x ≤ 60)
def badD (x : Int) : Bool := !decide (0 ≤ x ∧ x ≤ 10)
def badH (x : HF) : Bool := !decide (x.lo ≤ x.hi ∧ 0 ≤ x.lo ∧ x.hi ≤ 60) || !decide (0 ≤ x.sods ∧ x.sods ≤ 500)
theorem badR_ok (r : Int × Int) (h : AH) : Runs Try.prog 106 [.agg (spC r)] h (fun en h' => en = .ret (.bool (badR r)) ∧ Ext h h') := by
 unfold spC badR
 have e0 : Ext h h := Ext.refl _
 refine Runs.intro aFunc106 rfl rfl rfl rfl fun rest => ?_;apply gS;refine gR rfl ?_;refine GoR.box rfl rfl rfl rfl rfl rfl fun h0 x0 f0 => ?_;replace e0 := e0.trans x0;refine gP ?_;apply gE;apply gS;refine gR rfl ?_;refine gO rfl rfl (ld31 rfl f0 rfl) rfl ?_;refine GoR.call rfl rfl (aCF aFunc107 rfl) (within_ok) ?_ np;rintro v1 h1 ⟨q, x1⟩;cases q;refine ⟨_, rfl, ?_⟩;replace e0 := e0.trans x1;iterate 2 refine gP ?_
 apply gE;exact gW Try.func106 rfl rfl ⟨rfl, e0⟩
theorem badL_ok (x : Int) (h : AH) : Runs Try.prog 108 [.int .i64 x] h (fun en h' => en = .ret (.bool (badL x)) ∧ Ext h h') := by
 unfold badL
 have e0 : Ext h h := Ext.refl _
 refine Runs.intro aFunc108 rfl rfl rfl rfl fun rest => ?_;apply gS;refine gR rfl ?_;refine gP ?_;apply gE;apply gS;refine gR rfl ?_;refine gP ?_;refine GoR.call rfl rfl (aCF aFunc83 rfl) (inside_ok) ?_ np;rintro v0 h0 ⟨q, x0⟩;cases q;refine ⟨_, rfl, ?_⟩;replace e0 := e0.trans x0;iterate 2 refine gP ?_
 apply gE;exact gW Try.func108 rfl rfl ⟨rfl, e0⟩
theorem badD_ok (x : Int) (h : AH) : Runs Try.prog 109 [.int .i64 x] h (fun en h' => en = .ret (.bool (badD x)) ∧ Ext h h') := by
 unfold badD
 have e0 : Ext h h := Ext.refl _
 refine Runs.intro aFunc109 rfl rfl rfl rfl fun rest => ?_;apply gS;refine gR rfl ?_;refine gP ?_;apply gE;apply gS;refine gR rfl ?_;refine gP ?_;refine GoR.call rfl rfl (aCF aFunc83 rfl) (inside_ok) ?_ np;rintro v0 h0 ⟨q, x0⟩;cases q;refine ⟨_, rfl, ?_⟩;replace e0 := e0.trans x0;iterate 2 refine gP ?_
 apply gE;exact gW Try.func109 rfl rfl ⟨rfl, e0⟩
theorem badH_ok (x : HF) (h : AH) : Runs Try.prog 110 [.agg (HF.cells x)] h (fun en h' => en = .ret (.bool (badH x)) ∧ Ext h h') := by
 unfold HF.cells badH
 have e0 : Ext h h := Ext.refl _
 refine Runs.intro aFunc110 rfl rfl rfl rfl fun rest => ?_;apply gS;refine gR rfl ?_;refine GoR.box rfl rfl rfl rfl rfl rfl fun h0 x0 f0 => ?_;replace e0 := e0.trans x0;refine gP ?_;apply gE;apply gS;refine gR rfl ?_;refine gO rfl rfl (fa72_0 rfl) rfl ?_;refine gO rfl rfl (ld31 rfl f0 rfl) rfl ?_;refine GoR.call rfl rfl (aCF aFunc107 rfl) (within_ok) ?_ np;rintro v1 h1 ⟨q, x1⟩;cases q;refine ⟨_, rfl, ?_⟩;replace f0 := f0.ext x1;replace e0 := e0.trans x1;iterate 2 refine gP ?_
 by_cases hs0 : x.lo ≤ x.hi ∧ (0 : Int) ≤ x.lo ∧ x.hi ≤ (60 : Int)
 ·rw [decide_eq_true hs0];refine gO rfl rfl (fa72_1 rfl) rfl ?_;refine gO rfl rfl (ld3 rfl f0 rfl) rfl ?_;refine GoR.call rfl rfl (aCF aFunc83 rfl) (inside_ok) ?_ np;rintro v2 h2 ⟨q, x2⟩;cases q;refine ⟨_, rfl, ?_⟩;replace e0 := e0.trans x2;iterate 3 refine gP ?_
  apply gE;exact gW Try.func110 rfl rfl ⟨rfl, e0⟩
 ·rw [decide_eq_false hs0];iterate 4 refine GoR.skip rfl rfl rfl ?_
  iterate 2 refine gP ?_
  apply gE;exact gW Try.func110 rfl rfl ⟨rfl, e0⟩
def FootV.okB (F : FootV) : Bool := decide (1 ≤ (F.rs.length : Int) ∧ (F.rs.length : Int) ≤ 8) && !(F.rs.any badR) && decide (0 ≤ F.men ∧ F.men ≤ 3) && !([F.l0, F.l1, F.l2].any badL) && !([F.d0, F.d1, F.d2].any badD) && decide ((F.hs.length : Int) ≤ 3) && !(F.hs.any badH)
theorem okB_iff (F : FootV) : F.okB = true ↔ F.Ok := by
 unfold FootV.okB
 simp only [Bool.and_eq_true, Bool.not_eq_true', decide_eq_true_eq, List.any_eq_false, badR, badL, badD, badH, Bool.not_eq_true', Bool.not_eq_false', Bool.or_eq_true, not_or, List.mem_cons, List.not_mem_nil, or_false, forall_eq_or_imp, forall_eq]
 constructor
 ·rintro ⟨⟨⟨⟨⟨⟨a, b⟩, c⟩, d1, d2, d3⟩, e1, e2, e3⟩, f⟩, g⟩;refine ⟨by omega, fun r hr => ?_, c, ?_, ?_, ?_, ?_, ?_, ?_, by omega, fun x hx => ?_⟩
  ·have := b r hr
   simp at this
   omega
  all_goals first | (simp at d1 d2 d3 e1 e2 e3; omega) | skip
  have := g x hx
  simp at this
  omega
 ·intro O
  refine ⟨⟨⟨⟨⟨⟨by have := O.nr; omega, fun r hr => ?_⟩, O.men⟩, ?_, ?_, ?_⟩, ?_, ?_, ?_⟩, by have := O.nh; omega⟩, fun x hx => ?_⟩
  ·have := O.r r hr
   simp
   omega
  ·have := O.l0; simp; omega
  ·have := O.l1; simp; omega
  ·have := O.l2; simp; omega
  ·have := O.d0; simp; omega
  ·have := O.d1; simp; omega
  ·have := O.d2; simp; omega
  ·have := O.h x hx
   simp
   omega
theorem valid_ok {F : FootV} {rsl hsl : AVal} {h : AH} (A : FootAt h F rsl hsl) (hb1 : F.rs.length ≤ 40) (hb2 : F.hs.length ≤ 40) :
  Runs Try.prog 82 [.agg (F.cells rsl hsl)] h (fun en h' => en = .ret (.bool F.okB) ∧ Ext h h') := by
 have hl1 := A.rs.len
 have hl2 := A.hs.len
 rw [List.length_map] at hl1 hl2
 have hcr : ∀ h', Ext h h' → Runs Try.prog 111 [rsl, .func (.func 106) [] []] h' (fun en h'' => en = .ret (.bool (F.rs.any badR)) ∧ Ext h' h'') := fun h' e =>
  cont111_ok (caps := []) aFunc106 badR (A.rs.ext e) (by omega) fun x h' hx e => badR_ok x h'
 have hch : ∀ h', Ext h h' → Runs Try.prog 113 [hsl, .func (.func 110) [] []] h' (fun en h'' => en = .ret (.bool (F.hs.any badH)) ∧ Ext h' h'') := fun h' e =>
  cont113_ok (caps := []) aFunc110 badH (A.hs.ext e) (by omega) fun x h' hx e => badH_ok x h'
 have hsd : ∀ h', Has h' h.next (.cells .plain [rsl, .int .i64 F.men, .int .i64 F.l0, .int .i64 F.l1, .int .i64 F.l2, .int .i64 F.d0, .int .i64 F.d1, .int .i64 F.d2, hsl] 26) → SliceOf h' 1 (.slice h.next 2 3 3) ([F.l0, F.l1, F.l2].map fun x => [AVal.int .i64 x]) ∧ SliceOf h' 1 (.slice h.next 5 3 3) ([F.d0, F.d1, F.d2].map fun x => [AVal.int .i64 x]) := fun h' f => ⟨SliceOf.mk' rfl rfl f rfl (fun i l hl => by
  match i, hl with
  | 0, hl => cases hl; rfl
  | 1, hl => cases hl; rfl
  | 2, hl => cases hl; rfl), SliceOf.mk' rfl rfl f rfl (fun i l hl => by
  match i, hl with
  | 0, hl => cases hl; rfl
  | 1, hl => cases hl; rfl
  | 2, hl => cases hl; rfl)⟩
 have hcl : ∀ h', Has h' h.next (.cells .plain [rsl, .int .i64 F.men, .int .i64 F.l0, .int .i64 F.l1, .int .i64 F.l2, .int .i64 F.d0, .int .i64 F.d1, .int .i64 F.d2, hsl] 26) → Runs Try.prog 112 [.slice h.next 2 3 3, .func (.func 108) [] []] h' (fun en h'' => en = .ret (.bool ([F.l0, F.l1, F.l2].any badL)) ∧ Ext h' h'') := fun h' f =>
  cont112_ok (caps := []) aFunc108 badL (hsd h' f).1 (by simp) fun x h' hx e => badL_ok x h'
 have hcd : ∀ h', Has h' h.next (.cells .plain [rsl, .int .i64 F.men, .int .i64 F.l0, .int .i64 F.l1, .int .i64 F.l2, .int .i64 F.d0, .int .i64 F.d1, .int .i64 F.d2, hsl] 26) → Runs Try.prog 112 [.slice h.next 5 3 3, .func (.func 109) [] []] h' (fun en h'' => en = .ret (.bool ([F.d0, F.d1, F.d2].any badD)) ∧ Ext h' h'') := fun h' f =>
  cont112_ok (caps := []) aFunc109 badD (hsd h' f).2 (by simp) fun x h' hx e => badD_ok x h'
 unfold FootV.cells FootV.okB
 have e0 : Ext h h := Ext.refl _
 refine Runs.intro aFunc82 rfl rfl rfl rfl fun rest => ?_;apply gS;refine gR rfl ?_;refine GoR.box rfl rfl rfl rfl rfl rfl fun h0 x0 f0 => ?_;replace e0 := e0.trans x0;refine gP ?_;apply gE;apply gS;refine gR rfl ?_;refine gP ?_;apply gE;apply gS;refine gR rfl ?_;refine gP ?_;apply gE;apply gS;refine gR rfl ?_;refine gP ?_;apply gE;apply gS;refine gR rfl ?_;refine gP ?_;apply gE;apply gS;refine gR rfl ?_;refine gO rfl rfl (fa26_0 rfl) rfl ?_;refine gO rfl rfl (ld22 rfl f0 rfl) rfl ?_;refine gO rfl rfl (aOp_lenSlice Try.underlying22 rfl (by assumption)) rfl ?_;refine GoR.call rfl rfl (aCF aFunc83 rfl) (inside_ok) ?_ np;rintro v1 h1 ⟨q, x1⟩;cases q;refine ⟨_, rfl, ?_⟩;replace f0 := f0.ext x1;replace e0 := e0.trans x1;refine gP ?_
 by_cases hs0 : (1 : Int) ≤ (↑F.rs.length : Int) ∧ (↑F.rs.length : Int) ≤ (8 : Int)
 ·rw [decide_eq_true hs0];refine gO rfl rfl (fa26_0 rfl) rfl ?_;refine gO rfl rfl (ld22 rfl f0 rfl) rfl ?_;refine gP ?_;refine GoR.call rfl rfl (aCF aFunc111 rfl) (hcr _ e0) ?_ np;rintro v2 h2 ⟨q, x2⟩;cases q;refine ⟨_, rfl, ?_⟩;replace f0 := f0.ext x2;replace e0 := e0.trans x2;iterate 3 refine gP ?_
  cases hs1 : F.rs.any badR
  ·refine gO rfl rfl (fa26_1 rfl) rfl ?_;refine gO rfl rfl (ld3 rfl f0 rfl) rfl ?_;refine GoR.call rfl rfl (aCF aFunc83 rfl) (inside_ok) ?_ np;rintro v3 h3 ⟨q, x3⟩;cases q;refine ⟨_, rfl, ?_⟩;replace f0 := f0.ext x3;replace e0 := e0.trans x3;iterate 2 refine gP ?_
   by_cases hs2 : (0 : Int) ≤ F.men ∧ F.men ≤ (3 : Int)
   ·rw [decide_eq_true hs2];refine gO rfl rfl (fa26_2 rfl) rfl ?_;iterate 2 refine gP ?_
    refine GoR.call rfl rfl (aCF aFunc112 rfl) (hcl _ f0) ?_ np;rintro v4 h4 ⟨q, x4⟩;cases q;refine ⟨_, rfl, ?_⟩;replace f0 := f0.ext x4;replace e0 := e0.trans x4;iterate 3 refine gP ?_
    cases hs3 : [F.l0, F.l1, F.l2].any badL
    ·refine gO rfl rfl (fa26_3 rfl) rfl ?_;iterate 2 refine gP ?_
     refine GoR.call rfl rfl (aCF aFunc112 rfl) (hcd _ f0) ?_ np;rintro v5 h5 ⟨q, x5⟩;cases q;refine ⟨_, rfl, ?_⟩;replace f0 := f0.ext x5;replace e0 := e0.trans x5;iterate 3 refine gP ?_
     cases hs4 : [F.d0, F.d1, F.d2].any badD
     ·refine gO rfl rfl (fa26_4 rfl) rfl ?_;refine gO rfl rfl (ld24 rfl f0 rfl) rfl ?_;refine gO rfl rfl (aOp_lenSlice Try.underlying24 rfl (by assumption)) rfl ?_
      by_cases hs5 : ((↑F.hs.length : Int) : Int) ≤ (3 : Int)
      ·refine gO rfl rfl (kMT rfl rfl) rfl ?_;iterate 2 refine gP ?_
       refine gO rfl rfl (fa26_4 rfl) rfl ?_;refine gO rfl rfl (ld24 rfl f0 rfl) rfl ?_;refine gP ?_;refine GoR.call rfl rfl (aCF aFunc113 rfl) (hch _ e0) ?_ np;rintro v6 h6 ⟨q, x6⟩;cases q;refine ⟨_, rfl, ?_⟩;replace f0 := f0.ext x6;replace e0 := e0.trans x6;iterate 3 refine gP ?_
       apply gE;exact gV (ret_end (aResult_of Try.func82 rfl rfl) ⟨congrArg (fun b => AEnd.ret (AVal.bool b)) (by simp only [*]; rfl), e0⟩)
      ·refine gO rfl rfl (kMF rfl rfl) rfl ?_;iterate 2 refine gP ?_
       iterate 5 refine GoR.skip rfl rfl rfl ?_
       iterate 2 refine gP ?_
       apply gE;exact gV (ret_end (aResult_of Try.func82 rfl rfl) ⟨congrArg (fun b => AEnd.ret (AVal.bool b)) (by simp only [*]; rfl), e0⟩)
     ·iterate 4 refine GoR.skip rfl rfl rfl ?_
      iterate 2 refine gP ?_
      iterate 5 refine GoR.skip rfl rfl rfl ?_
      iterate 2 refine gP ?_
      apply gE;exact gW Try.func82 rfl rfl ⟨rfl, e0⟩
    ·iterate 5 refine GoR.skip rfl rfl rfl ?_
     iterate 2 refine gP ?_
     iterate 4 refine GoR.skip rfl rfl rfl ?_
     iterate 2 refine gP ?_
     iterate 5 refine GoR.skip rfl rfl rfl ?_
     iterate 2 refine gP ?_
     apply gE;exact gW Try.func82 rfl rfl ⟨rfl, e0⟩
   ·rw [decide_eq_false hs2];iterate 5 refine GoR.skip rfl rfl rfl ?_
    iterate 2 refine gP ?_
    iterate 5 refine GoR.skip rfl rfl rfl ?_
    iterate 2 refine gP ?_
    iterate 4 refine GoR.skip rfl rfl rfl ?_
    iterate 2 refine gP ?_
    iterate 5 refine GoR.skip rfl rfl rfl ?_
    iterate 2 refine gP ?_
    apply gE;exact gW Try.func82 rfl rfl ⟨rfl, e0⟩
  ·iterate 3 refine GoR.skip rfl rfl rfl ?_
   iterate 2 refine gP ?_
   iterate 5 refine GoR.skip rfl rfl rfl ?_
   iterate 2 refine gP ?_
   iterate 5 refine GoR.skip rfl rfl rfl ?_
   iterate 2 refine gP ?_
   iterate 4 refine GoR.skip rfl rfl rfl ?_
   iterate 2 refine gP ?_
   iterate 5 refine GoR.skip rfl rfl rfl ?_
   iterate 2 refine gP ?_
   apply gE;exact gW Try.func82 rfl rfl ⟨rfl, e0⟩
 ·rw [decide_eq_false hs0];iterate 5 refine GoR.skip rfl rfl rfl ?_
  iterate 2 refine gP ?_
  iterate 3 refine GoR.skip rfl rfl rfl ?_
  iterate 2 refine gP ?_
  iterate 5 refine GoR.skip rfl rfl rfl ?_
  iterate 2 refine gP ?_
  iterate 5 refine GoR.skip rfl rfl rfl ?_
  iterate 2 refine gP ?_
  iterate 4 refine GoR.skip rfl rfl rfl ?_
  iterate 2 refine gP ?_
  iterate 5 refine GoR.skip rfl rfl rfl ?_
  iterate 2 refine gP ?_
  apply gE;exact gW Try.func82 rfl rfl ⟨rfl, e0⟩
end Go.Proofs.Ytmimdgjehnhnoaa
