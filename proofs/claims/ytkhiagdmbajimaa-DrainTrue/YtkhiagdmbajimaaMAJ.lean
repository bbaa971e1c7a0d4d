import Derived.Test.YtkhiagdmbajimaaMAF
import Derived.Test.YtkhiagdmbajimaaChecked
import Derived.KernelRfl
import Derived.Test.YtkhiagdmbajimaaMAH
import Derived.Test.YtkhiagdmbajimaaMAI
import Derived.Test.YtkhiagdmbajimaaMAG
namespace Go.Proofs.Ytkhiagdmbajimaa
open Go Go.AbsE
theorem plan4_1 : plan (((drawnOps Try.f4)[1]?).getD #[]) = some (mkPlan (((drawnOps Try.f4)[1]?).getD #[]).toList [(0, 0, true, false), (1, 0, true, false), (2, 0, true, false), (3, 0, true, false), (4, 12, true, false),   (5, 28, true, false), (6, 62, true, false), (7, 1, true, false), (8, 255, true, false)]) := by kernel_rfl
theorem plan4_2 : plan (((drawnOps Try.f4)[2]?).getD #[]) = some (mkPlan (((drawnOps Try.f4)[2]?).getD #[]).toList [(0, 0, true, false), (1, 1, true, false), (2, 3, true, false), (3, 7, true, false), (4, 15, true, false),   (5, 31, true, false), (6, 63, true, false), (7, 127, true, false), (8, 255, true, false), (9, 511, true, false),   (10, 1023, true, false), (11, 2047, true, false), (12, 2047, true, false), (13, 8191, true, false),   (14, 16383, true, false), (15, 32767, true, false), (16, 65535, true, false), (17, 131071, true, false),   (18, 262143, true, false), (19, 262143, true, false), (20, 786431, true, false), (21, 2097151, true, false),   (22, 4194303, true, false), (23, 8388607, true, false), (24, 16777215, true, false), (25, 33554431, true, false),   (26, 33554431, true, false), (27, 134217727, true, false), (28, 268435455, true, false), (29, 536870911, true, false),   (30, 1073741823, true, false), (31, 2147483647, true, false), (32, 4294967295, true, false),   (33, 4294967295, true, false), (34, 17179869183, true, false), (35, 34359738367, true, false),   (36, 68719476735, true, false), (37, 137438953471, true, false), (38, 274877906943, true, false),   (39, 274877906943, true, false), (40, 1099511627775, true, false), (41, 2199023255551, true, false),   (42, 274877906943, true, false), (43, 8796093022207, false, false), (44, 17592186044415, true, false),   (45, 35184372088831, true, false)]) := by kernel_rfl
theorem plan4_3 : plan (((drawnOps Try.f4)[3]?).getD #[]) = some (mkPlan (((drawnOps Try.f4)[3]?).getD #[]).toList [(0, 0, true, false), (1, 0, true, false), (2, 2, true, false), (3, 7, true, false), (4, 15, true, false),   (5, 0, true, false), (6, 32, true, false), (7, 127, true, false), (8, 255, true, false), (9, 511, true, false),   (10, 511, true, false), (11, 1535, true, false), (12, 4095, true, false), (13, 8191, true, false),   (14, 511, true, false), (15, 16895, true, false), (16, 65535, true, false), (17, 131071, true, false),   (18, 262143, true, false)]) := by kernel_rfl
theorem plan4_4 : plan (((drawnOps Try.f4)[4]?).getD #[]) = some (mkPlan (((drawnOps Try.f4)[4]?).getD #[]).toList [(0, 0, true, false), (1, 1, true, false), (2, 3, true, false), (3, 3, true, false), (4, 15, true, false),   (5, 31, true, false), (6, 63, true, false), (7, 127, true, false), (8, 255, true, false), (9, 511, true, false),   (10, 1023, true, false), (11, 2047, true, false), (12, 4095, true, false), (13, 4095, true, false),   (14, 16383, true, false), (15, 32767, true, false), (16, 65535, true, false), (17, 131071, true, false),   (18, 262143, true, false), (19, 524287, true, false), (20, 1048575, true, false), (21, 1048575, true, false),   (22, 3145727, true, false), (23, 8388607, true, false), (24, 16777215, true, false), (25, 1048575, true, false),   (26, 34603007, true, false), (27, 134217727, true, false), (28, 268435455, true, false), (29, 536870911, true, false),   (30, 536870911, true, false), (31, 1610612735, true, false), (32, 4294967295, true, false),   (33, 8589934591, true, false), (34, 536870911, true, false), (35, 17716740095, true, false),   (36, 68719476735, true, false), (37, 137438953471, true, false), (38, 274877906943, true, false)]) := by kernel_rfl
theorem plan16_0 : plan (((drawnOps Try.f16)[0]?).getD #[]) = some (mkPlan (((drawnOps Try.f16)[0]?).getD #[]).toList [(0, 0, true, false), (1, 0, true, false), (2, 0, true, false), (3, 1, false, false), (4, 11, false, false),   (5, 31, true, false)]) := by kernel_rfl
theorem plan18_0 : plan (((drawnOps Try.f18)[0]?).getD #[]) = some (mkPlan (((drawnOps Try.f18)[0]?).getD #[]).toList [(0, 0, true, false), (1, 0, true, false), (2, 0, true, false), (3, 1, false, false), (4, 11, false, false),   (5, 31, true, false)]) := by kernel_rfl
theorem plan20_0 : plan (((drawnOps Try.f20)[0]?).getD #[]) = some (mkPlan (((drawnOps Try.f20)[0]?).getD #[]).toList [(0, 0, true, false), (1, 1, true, false), (2, 3, true, false), (3, 7, true, false), (4, 15, true, false),   (5, 31, true, false), (6, 63, true, false), (7, 127, true, false), (8, 255, true, false), (9, 511, true, false),   (10, 1023, true, false), (11, 2047, true, false), (12, 4095, true, false), (13, 8191, true, false),   (14, 16383, true, false), (15, 32767, true, false), (16, 32767, false, false), (17, 131071, true, false),   (18, 262143, true, false), (19, 524287, true, false), (20, 1048575, true, false), (21, 2097151, true, false),   (22, 4194303, true, false), (23, 8388607, true, false), (24, 16777215, true, false), (25, 16777215, false, false),   (26, 67108863, true, false), (27, 134217727, true, false), (28, 268435455, true, false), (29, 536870911, true, false),   (30, 1073741823, true, false), (31, 2147483647, true, false), (32, 4294967295, true, false),   (33, 8589934591, true, false), (34, 17179869183, true, false), (35, 34359738367, true, false),   (36, 68719476735, true, false), (37, 137438953471, true, false), (38, 274877906943, true, false),   (39, 549755813887, true, false), (40, 1099511627775, true, false), (41, 2199023255551, true, false),   (42, 4398046511103, true, false), (43, 8796093022207, true, false), (44, 17592186044415, true, false),   (45, 35184372088831, true, false), (46, 70368744177663, true, false), (47, 140737488355327, true, false),   (48, 281474976710655, true, false), (49, 562949953421311, true, false), (50, 1125899906842623, true, false),   (51, 2251799813685247, true, false), (52, 4503599627370495, true, false), (53, 9007199254740991, true, false),   (54, 18014398509481983, true, false), (55, 36028797018963967, true, false), (56, 72057594037927935, true, false),   (57, 144115188075855871, true, false), (58, 288230376151711743, true, false), (59, 576460752303423487, true, false),   (60, 1152921504606846975, true, false), (61, 2305843009213693951, true, false),   (62, 4611686018427387903, true, false), (63, 9223372036854775807, true, false),   (64, 18446744073709551615, true, false), (65, 36893488147419103231, true, false),   (66, 73786976294838206463, true, false), (67, 147573952589676412927, true, false),   (68, 295147905179352825855, true, false), (69, 590295810358705651711, true, false),   (70, 1180591620717411303423, true, false), (71, 2361183241434822606847, true, false),   (72, 4722366482869645213695, true, false)]) := by kernel_rfl
theorem plan23_0 : plan (((drawnOps Try.f23)[0]?).getD #[]) = some (mkPlan (((drawnOps Try.f23)[0]?).getD #[]).toList [(0, 0, true, false), (1, 0, true, false), (2, 2, true, false), (3, 0, true, false), (4, 14, true, false),   (5, 30, true, false), (6, 62, true, false), (7, 0, true, false), (8, 128, true, false), (9, 0, true, false),   (10, 896, true, false), (11, 1920, true, false), (12, 3968, true, false), (13, 8191, false, false),   (14, 16383, true, false)]) := by kernel_rfl
theorem plan23_1 : plan (((drawnOps Try.f23)[1]?).getD #[]) = some (mkPlan (((drawnOps Try.f23)[1]?).getD #[]).toList [(0, 0, true, false), (1, 0, true, false), (2, 2, true, false), (3, 0, true, false), (4, 14, true, false),   (5, 30, true, false), (6, 62, true, false), (7, 0, true, false), (8, 128, true, false), (9, 0, true, false),   (10, 896, true, false), (11, 1920, true, false), (12, 3968, true, false), (13, 8191, false, false),   (14, 16383, true, false)]) := by kernel_rfl
theorem plan24_0 : plan (((drawnOps Try.f24)[0]?).getD #[]) = some (mkPlan (((drawnOps Try.f24)[0]?).getD #[]).toList [(0, 0, true, false), (1, 0, true, false), (2, 0, true, false), (3, 4, true, false), (7, 0, true, false),   (8, 0, true, false), (9, 0, true, false), (10, 512, true, false), (4, 14, false, false), (5, 30, true, true),   (6, 63, false, false), (11, 1919, false, false), (12, 3967, true, true), (13, 8191, false, false),   (14, 16383, true, false), (15, 32767, true, false)]) := by kernel_rfl
theorem plan24_1 : plan (((drawnOps Try.f24)[1]?).getD #[]) = some (mkPlan (((drawnOps Try.f24)[1]?).getD #[]).toList [(0, 0, true, false), (1, 1, true, false), (2, 0, true, false), (3, 0, true, false), (4, 0, true, false),   (5, 24, true, false), (6, 56, true, false), (7, 124, false, false), (8, 252, true, true), (9, 511, false, false),   (10, 1023, true, false), (11, 2047, false, false)]) := by kernel_rfl
theorem plan26_0 : plan (((drawnOps Try.f26)[0]?).getD #[]) = some (mkPlan (((drawnOps Try.f26)[0]?).getD #[]).toList [(0, 0, true, false), (1, 1, true, false), (2, 0, true, false), (3, 7, true, false), (4, 15, true, false),   (5, 31, true, false), (6, 63, true, false), (7, 31, true, false), (8, 255, true, false), (9, 511, true, false),   (10, 1023, true, false), (11, 2047, true, false), (12, 2047, true, false), (13, 8191, true, false),   (14, 16383, true, false), (15, 32767, true, false), (16, 65535, true, false), (17, 131071, true, false),   (18, 262143, true, false), (19, 262143, true, false), (20, 1048575, true, false), (21, 2097151, true, false),   (22, 262143, true, false), (23, 262143, true, false), (24, 12845055, true, false), (25, 29622271, true, false),   (26, 67108863, true, false), (27, 134217727, true, false)]) := by kernel_rfl
theorem plan26_1 : plan (((drawnOps Try.f26)[1]?).getD #[]) = some (mkPlan (((drawnOps Try.f26)[1]?).getD #[]).toList [(0, 0, true, false), (1, 1, true, false), (2, 3, true, false), (3, 7, true, false), (4, 7, true, false),   (5, 31, true, false), (6, 63, true, false), (7, 7, true, false), (8, 7, true, false), (9, 391, true, false),   (10, 903, true, false), (11, 2047, true, false), (12, 4095, true, false), (13, 8191, true, false),   (14, 16383, true, false), (15, 16383, true, false), (16, 65535, true, false), (17, 131071, true, false),   (18, 16383, true, false), (19, 16383, true, false), (20, 802815, true, false), (21, 1851391, true, false),   (22, 4194303, true, false), (23, 8388607, true, false), (24, 16777215, true, false), (25, 16777215, true, false),   (26, 67108863, true, false), (27, 134217727, true, false), (28, 268435455, true, false)]) := by kernel_rfl
theorem plan38_0 : plan (((drawnOps Try.f38)[0]?).getD #[]) = some (mkPlan (((drawnOps Try.f38)[0]?).getD #[]).toList [(0, 0, true, false), (2, 0, true, false), (1, 1, false, false), (3, 7, false, false), (4, 15, false, false)]) := by kernel_rfl
theorem plan40_0 : plan (((drawnOps Try.f40)[0]?).getD #[]) = some (mkPlan (((drawnOps Try.f40)[0]?).getD #[]).toList [(0, 0, true, false), (1, 0, true, false), (2, 2, true, false), (3, 6, true, false), (4, 14, true, false),   (5, 30, true, false), (6, 63, false, false), (7, 127, true, false)]) := by kernel_rfl
theorem plan44_0 : plan (((drawnOps Try.f44)[0]?).getD #[]) = some (mkPlan (((drawnOps Try.f44)[0]?).getD #[]).toList [(0, 0, true, false), (2, 0, true, false), (1, 1, false, false), (3, 7, false, false), (4, 15, false, false)]) := by kernel_rfl
theorem plan45_0 : plan (((drawnOps Try.f45)[0]?).getD #[]) = some (mkPlan (((drawnOps Try.f45)[0]?).getD #[]).toList [(0, 0, true, false), (1, 0, true, false), (3, 0, true, false), (4, 8, true, false), (5, 24, true, false),   (2, 3, false, false), (6, 63, true, false)]) := by kernel_rfl
theorem plan50_0 : plan (((drawnOps Try.f50)[0]?).getD #[]) = some (mkPlan (((drawnOps Try.f50)[0]?).getD #[]).toList [(0, 0, true, false), (2, 0, true, false), (3, 0, true, false), (1, 1, false, false), (4, 15, false, false),   (5, 31, false, false)]) := by kernel_rfl
theorem plan56_0 : plan (((drawnOps Try.f56)[0]?).getD #[]) = some (mkPlan (((drawnOps Try.f56)[0]?).getD #[]).toList [(0, 0, true, false), (2, 0, true, false), (3, 4, true, false), (4, 12, true, false), (1, 1, false, false),   (5, 3, true, false), (6, 63, true, false)]) := by kernel_rfl
theorem plan64_0 : plan (((drawnOps Try.f64)[0]?).getD #[]) = some (mkPlan (((drawnOps Try.f64)[0]?).getD #[]).toList [(0, 0, true, false), (1, 1, true, false), (2, 0, true, false), (3, 0, true, false), (4, 0, true, false),   (5, 16, true, false), (6, 56, true, false), (7, 124, true, false), (8, 252, true, false), (9, 508, true, false),   (10, 0, true, false), (11, 1024, true, false), (12, 4092, true, false), (13, 0, true, false), (14, 8192, true, false),   (15, 0, true, false), (16, 32768, true, false), (17, 122880, true, false), (18, 253952, true, false),   (19, 524284, true, false), (20, 1048575, true, false), (21, 2097151, true, false)]) := by kernel_rfl
theorem plan70_1 : plan (((drawnOps Try.f70)[1]?).getD #[]) = some (mkPlan (((drawnOps Try.f70)[1]?).getD #[]).toList [(0, 0, true, false), (1, 0, true, false), (2, 3, false, false), (3, 7, true, false), (4, 15, true, false),   (5, 15, true, false), (6, 47, true, false), (8, 15, true, false), (9, 271, true, false), (7, 127, false, false),   (10, 1023, true, false), (11, 2047, true, false)]) := by kernel_rfl
theorem plan71_0 : plan (((drawnOps Try.f71)[0]?).getD #[]) = some (mkPlan (((drawnOps Try.f71)[0]?).getD #[]).toList [(0, 0, true, false), (1, 0, true, false), (2, 2, true, false), (3, 0, true, false), (4, 14, true, false),   (5, 30, true, false), (6, 62, true, false), (7, 126, true, true), (8, 255, false, false), (9, 511, false, false)]) := by kernel_rfl
theorem plan79_0 : plan (((drawnOps Try.f79)[0]?).getD #[]) = some (mkPlan (((drawnOps Try.f79)[0]?).getD #[]).toList [(0, 0, true, false), (1, 0, true, false), (2, 0, true, false), (4, 0, true, false), (3, 4, false, false),   (5, 28, true, false), (6, 60, true, false), (7, 127, false, false), (8, 255, true, false), (9, 511, true, false)]) := by kernel_rfl
theorem plan91_1 : plan (((drawnOps Try.f91)[1]?).getD #[]) = some (mkPlan (((drawnOps Try.f91)[1]?).getD #[]).toList [(0, 0, true, false), (1, 1, true, false), (2, 0, true, false), (3, 0, true, false), (4, 0, true, false),   (5, 0, true, false), (6, 0, true, false), (7, 120, false, false), (8, 255, true, false), (9, 511, false, false)]) := by kernel_rfl
theorem plan93_0 : plan (((drawnOps Try.f93)[0]?).getD #[]) = some (mkPlan (((drawnOps Try.f93)[0]?).getD #[]).toList [(0, 0, true, false), (1, 0, true, false), (2, 2, true, false), (3, 0, true, false), (4, 8, true, false),   (7, 0, true, false), (8, 128, true, false), (5, 31, false, false), (6, 63, true, false), (9, 511, true, false),   (10, 1023, true, false)]) := by kernel_rfl
theorem plan94_0 : plan (((drawnOps Try.f94)[0]?).getD #[]) = some (mkPlan (((drawnOps Try.f94)[0]?).getD #[]).toList [(0, 0, true, false), (1, 0, true, false), (2, 2, true, false), (3, 0, true, false), (4, 8, true, false),   (7, 0, true, false), (8, 128, true, false), (5, 31, false, false), (6, 63, true, false), (9, 511, true, false),   (10, 1023, true, false)]) := by kernel_rfl
theorem plan102_0 : plan (((drawnOps Try.f102)[0]?).getD #[]) = some (mkPlan (((drawnOps Try.f102)[0]?).getD #[]).toList [(0, 0, true, false), (1, 0, true, false), (2, 1, true, false), (3, 5, true, false), (4, 15, true, false),   (5, 31, true, false), (6, 0, true, false), (7, 64, true, false), (8, 192, true, false), (9, 511, true, false)]) := by kernel_rfl
theorem plan102_1 : plan (((drawnOps Try.f102)[1]?).getD #[]) = some (mkPlan (((drawnOps Try.f102)[1]?).getD #[]).toList [(0, 0, true, false), (1, 0, true, false), (2, 1, true, false), (3, 5, true, false), (4, 15, true, false),   (5, 31, true, false), (6, 63, true, false), (7, 1, true, false), (8, 129, true, false), (9, 511, true, false),   (10, 1023, false, false)]) := by kernel_rfl
theorem plan102_2 : plan (((drawnOps Try.f102)[2]?).getD #[]) = some (mkPlan (((drawnOps Try.f102)[2]?).getD #[]).toList [(0, 0, true, false), (1, 0, true, false), (2, 0, true, false), (3, 4, true, false), (4, 12, true, false),   (5, 1, true, false), (6, 33, true, false), (7, 127, true, false), (8, 255, false, false)]) := by kernel_rfl
theorem plan103_0 : plan (((drawnOps Try.f103)[0]?).getD #[]) = some (mkPlan (((drawnOps Try.f103)[0]?).getD #[]).toList [(0, 0, true, false), (1, 1, true, false), (2, 3, true, false), (3, 0, true, false), (4, 0, true, false),   (5, 24, true, false), (6, 56, true, false), (7, 7, true, false), (8, 255, true, false)]) := by kernel_rfl
theorem plan103_1 : plan (((drawnOps Try.f103)[1]?).getD #[]) = some (mkPlan (((drawnOps Try.f103)[1]?).getD #[]).toList [(0, 0, true, false), (1, 0, true, false), (2, 0, true, false), (3, 6, true, false), (4, 14, true, false),   (5, 1, true, false), (6, 63, true, false)]) := by kernel_rfl
end Go.Proofs.Ytkhiagdmbajimaa

set_option linter.unusedSimpArgs false
namespace Go.AbsE
open Go
section
variable {P : Program} {t : Tr AVal} {h : AH} {dst : Option Tmp} {tt : TypeId} {pos : String} {after : Array Edge} {guard : Option (Nat × Bool)} {x y : Operand}
variable {c : FC} {k : List AItem} {Q : AM → Prop} {J : Jump} {all : Array Oper} {l lrest : List Oper} {i d : Nat}
end
end Go.AbsE

set_option linter.unusedSimpArgs false
namespace Go.AbsE
open Go
section
variable {P : Program} {t : Tr AVal} {h : AH} {dst : Option Tmp} {ty tt : TypeId} {pos : String} {after : Array Edge} {guard : Option (Nat × Bool)} {x y : Operand}
theorem aOp_mul {ty2 : TypeId} {a b r : Int} (hx : ev t x = some (.int .i64 a)) (hy : ev t y = some (.int .i64 b)) (hr : a * b = r) (hr2 : -9223372036854775808 ≤ r ∧ r ≤ 9223372036854775807) :
  aOp P t h ⟨dst, .binOp .mul ty x y ty2, tt, pos, after, guard⟩ = some (.val (.int .i64 r) h) := by
 refine aOp_bin hx hy ?_
 have hw : IntKind.i64.wrap r = r := by
  rw [← wrap64_eq]
  exact wrap64_in (by constructor <;> omega)
 have : pureRun P (binOp .mul ty (.int .i64 a) (.int .i64 b)) = some (.int .i64 r) := by
  show pureRun P (if IntKind.i64 ≠ IntKind.i64 then stuck "BinOp: operands of different kinds" else Op.intArith .mul .i64 a b) = _
  rw [if_neg (fun h => h rfl)]
  show some (Value.int .i64 (IntKind.i64.wrap (a * b))) = _
  rw [hr, hw]
 show (match pureRun P (binOp .mul ty (.int .i64 a) (.int .i64 b)) with | some v => absV v | none => none) = _
 rw [this]
 rfl
theorem aOp_convU16 {src dt : TypeId} {sd : TypeDesc} {w : Int} (hx : ev t x = some (.int .u16 w)) (hs : P.underlying src = some sd) (hu : P.underlying dt = some (.int .i64)) (hw : 0 ≤ w ∧ w < 65536) : aOp P t h ⟨dst, .convert src dt x, tt, pos, after, guard⟩ = some (.val (.int .i64 w) h) := by
 show opConvert P t h src dt x = _
 unfold opConvert
 rw [hx]
 have : pureRun P (convert src dt (.int .u16 w)) = some (.int .i64 w) := by
  unfold convert
  rw [pureRun_bind, pr_underlying hs]
  simp only [Option.bind_some, pureRun_bind, pr_underlying hu]
  have : IntKind.i64.wrap w = w := by
   rw [← wrap64_eq]
   exact wrap64_in (by constructor <;> omega)
  cases sd <;> (show pureRun P (Conv.intToInt .i64 w) = _; unfold Conv.intToInt; rw [this]; rfl)
 simp only [this]
 rfl
end
end Go.AbsE

set_option linter.unusedSimpArgs false
namespace Go.AbsE
open Go
section
variable {P : Program} {t : Tr AVal} {h : AH} {dst : Option Tmp} {ty tt : TypeId} {pos : String} {after : Array Edge} {guard : Option (Nat × Bool)} {x y : Operand}
theorem aResults_c {z : Tmp} {b off : Nat} {g : Kd} {cs l : List AVal} {el : TypeId} {v : AVal} {r : List ResultVar} (hx : t.get (pth z) = some (.ptr b off)) (hb : Has h b (.cells g cs el)) (hv : inCells P ty cs off = some v) (hr : aResults P h t r = some l) : aResults P h t (.cell z ty :: r) = some (v :: l) := by
 simp only [aResults, hx, loadVar_cells hb hv, hr]
end
theorem aInvoke_of {P : Program} {t : TypeId} {v r : AVal} {name : String} {f : FuncId} {fn : Func} {args : List AVal} {h : AH} (hm : aMethod P 8 t v name = some (f, r)) (hf : aFunc P f = some fn) : aInvokeIface P (.iface t v) name args h = some (.enter f (r :: args) h) := by
 unfold aInvokeIface
 simp only [hm]
 unfold aEnter
 rw [hf]
theorem same_bool (b : Bool) : sameA (.bool b) (.bool b) = true := by cases b <;> rfl
def i64s (l : List Int) : List AVal := l.map (.int .i64)
theorem i64s_len (l : List Int) : (i64s l).length = l.length := by unfold i64s; rw [List.length_map]
theorem i64s_at {l : List Int} {i : Nat} {x : Int} (h : l[i]? = some x) : (i64s l)[0 + i * 1]? = some (.int .i64 x) := by
 unfold i64s
 rw [Nat.zero_add, Nat.mul_one, List.getElem?_map, h]
 rfl
theorem same_ints' : ∀ l : List Int, sameAs (i64s l) (i64s l) = true
 | [] => rfl
 | x :: l => by
  show cond (sameA (.int .i64 x) (.int .i64 x)) (sameAs (i64s l) (i64s l)) false = true
  rw [sameA_int, same_ints' l]
  rfl
theorem same_ints (l : List Int) : sameA (.agg (i64s l)) (.agg (i64s l)) = true := by
 simp only [sameA]
 exact same_ints' l
theorem rck {P : Program} {h : AH} {i : Nat} {v : AVal} {dst : Option Tmp} {op : Op} {tt : TypeId} {pos : String} {after : Array Edge} {guard : Option (Nat × Bool)} {t : Tr AVal} {h2 : AH} {l l0 : List DFact} (hl : l0 = ⟨i, ⟨dst, op, tt, pos, after, guard⟩, v, t, false⟩ :: l) (hx : aOp P t h ⟨dst, op, tt, pos, after, guard⟩ = some (.val v h2)) (hr : recheck P h l = true)
  (hs : sameA v v = true := by first | rfl | exact sameA_int _ _ | exact same_bool _ | exact sameA_agg2 _ _ | assumption | exact same_ints _ | (simp [sameA, sameAs, eqI_eq]; done)) : recheck P h l0 = true := recheck_cons hl hx hs hr
theorem ret_true {p : Prop} [Decidable p] (k : p) : AEnd.ret (.bool true) = .ret (.bool (decide p)) := by rw [decide_eq_true k]
theorem ret_false {p : Prop} [Decidable p] (k : ¬ p) : AEnd.ret (.bool false) = .ret (.bool (decide p)) := by rw [decide_eq_false k]
end Go.AbsE

namespace Go.AbsE
open Go
set_option linter.unusedSimpArgs false
set_option maxRecDepth 100000
section
variable {P : Program} {t : Tr AVal} {h : AH} {dst : Option Tmp} {ty tt : TypeId} {pos : String} {after : Array Edge} {guard : Option (Nat × Bool)} {x y : Operand}
theorem aOp_orNat {ty2 : TypeId} {a b r : Nat} (hx : ev t x = some (.int .i64 (a : Nat))) (hy : ev t y = some (.int .i64 (b : Nat))) (ha : a < 2 ^ 63) (hb : b < 2 ^ 63) (hr : a ||| b = r) :
  aOp P t h ⟨dst, .binOp .or ty x y ty2, tt, pos, after, guard⟩ = some (.val (.int .i64 (r : Nat)) h) := by
 refine aOp_bin hx hy ?_
 have hr2 : r < 2 ^ 63 := by rw [← hr]; exact Nat.or_lt_two_pow ha hb
 have : pureRun P (binOp .or ty (.int .i64 (a : Nat)) (.int .i64 (b : Nat))) = some (.int .i64 (r : Nat)) := by
  show pureRun P (if IntKind.i64 ≠ IntKind.i64 then stuck "BinOp: operands of different kinds" else Op.intBits .or .i64 (a : Nat) (b : Nat)) = _
  rw [if_neg (fun h => h rfl)]
  show some (Value.int .i64 (IntKind.i64.wrap ((BitVec.ofInt 64 (a : Nat) ||| BitVec.ofInt 64 (b : Nat)).toNat : Int))) = _
  have h1 : (BitVec.ofInt 64 (a : Nat) ||| BitVec.ofInt 64 (b : Nat)).toNat = r := by
   rw [BitVec.ofInt_natCast, BitVec.ofInt_natCast, BitVec.toNat_or, BitVec.toNat_ofNat, BitVec.toNat_ofNat, Nat.mod_eq_of_lt (by omega), Nat.mod_eq_of_lt (by omega)]
   exact hr
  rw [h1, i64_small (by omega)]
 show (match pureRun P (binOp .or ty (.int .i64 (a : Nat)) (.int .i64 (b : Nat))) with | some v => absV v | none => none) = _
 rw [this]
 rfl
end
theorem scal_ints : ∀ l : List Int, scalars (i64s l) = true
 | [] => rfl
 | x :: l => by
  show cond (scalar (.int .i64 x)) (scalars (i64s l)) false = true
  rw [scal_ints l]
  rfl
theorem beq_len {α : Type} {l : List α} {n : Nat} (h : l.length = n) : Nat.beq l.length n = true := by rw [h]; exact Nat.beq_refl n
end Go.AbsE

namespace Go.Proofs.Ytkhiagdmbajimaa
open Go Go.AbsE
set_option linter.unusedSimpArgs false
set_option maxRecDepth 100000
set_option maxHeartbeats 0
set_option linter.unusedVariables false
theorem inside_ok {n a b : Int} {h : AH} : Runs Try.prog 69 [.int .i64 n, .int .i64 a, .int .i64 b] h (fun en h' => en = .ret (.bool (decide (a ≤ n ∧ n ≤ b))) ∧ Ext h h') := by
 have e0 : Ext h h := Ext.refl _
 refine Runs.intro aFunc69 rfl rfl rfl rfl fun rest => ?_;apply gS;refine gR rfl ?_;refine gP ?_;apply gE;apply gS;refine gR rfl ?_;iterate 2 refine gP ?_
 by_cases hs0 : (a : Int) ≤ n
 ·refine gO rfl rfl (kMT rfl rfl) rfl ?_;iterate 3 refine gP ?_
  by_cases hs1 : (n : Int) ≤ b
  ·refine gO rfl rfl (kMT rfl rfl) rfl ?_;iterate 2 refine gP ?_
   apply gE;exact gV (ret_end (aResult_of Try.func69 rfl rfl) ⟨ret_true (by omega), e0⟩)
  ·refine gO rfl rfl (kMF rfl rfl) rfl ?_;iterate 2 refine gP ?_
   apply gE;exact gV (ret_end (aResult_of Try.func69 rfl rfl) ⟨ret_false (by omega), e0⟩)
 ·refine gO rfl rfl (kMF rfl rfl) rfl ?_;refine gP ?_;iterate 3 refine GoR.skip rfl rfl rfl ?_
  iterate 2 refine gP ?_
  apply gE;exact gV (ret_end (aResult_of Try.func69 rfl rfl) ⟨ret_false (by omega), e0⟩)
theorem inside_is {n a b : Int} {r : Bool} (hr : decide (a ≤ n ∧ n ≤ b) = r) {h : AH} : Runs Try.prog 69 [.int .i64 n, .int .i64 a, .int .i64 b] h (fun en h' => en = .ret (.bool r) ∧ Ext h h') := by
 rw [← hr]
 exact inside_ok
theorem within_is {lo hi a b : Int} {r : Bool} (h1 : -1000 ≤ a) (h2 : b ≤ 1000) (hr : decide (lo ≤ hi ∧ a ≤ lo ∧ hi ≤ b ∧ hi - lo ≤ 2) = r) {h : AH} : Runs Try.prog 98 [.agg [.int .i64 lo, .int .i64 hi], .int .i64 a, .int .i64 b] h (fun en h' => en = .ret (.bool r) ∧ Ext h h') := by
 rw [← hr]
 have e0 : Ext h h := Ext.refl _
 refine Runs.intro aFunc98 rfl rfl rfl rfl fun rest => ?_;apply gS;refine gR rfl ?_;refine GoR.box rfl rfl rfl rfl rfl rfl fun h3 x3 f3 => ?_;have := e0.1;replace e0 := e0.trans x3;have := f3.1;refine gP ?_;apply gE;apply gS;refine gR rfl ?_;refine gO rfl rfl (fa35_0 rfl) rfl ?_;refine gO rfl rfl (ld3 rfl f3 rfl) rfl ?_;refine gO rfl rfl (fa35_1 rfl) rfl ?_;refine gO rfl rfl (ld3 rfl f3 rfl) rfl ?_
 by_cases hs0 : (lo : Int) ≤ hi
 ·refine gO rfl rfl (kMT rfl rfl) rfl ?_;iterate 2 refine gP ?_
  refine gO rfl rfl (fa35_0 rfl) rfl ?_;refine gO rfl rfl (ld3 rfl f3 rfl) rfl ?_
  by_cases hs1 : (a : Int) ≤ lo
  ·refine gO rfl rfl (kMT rfl rfl) rfl ?_;iterate 2 refine gP ?_
   refine gO rfl rfl (fa35_1 rfl) rfl ?_;refine gO rfl rfl (ld3 rfl f3 rfl) rfl ?_;refine gP ?_
   by_cases hs2 : (hi : Int) ≤ b
   ·refine gO rfl rfl (kMT rfl rfl) rfl ?_;iterate 2 refine gP ?_
    refine gO rfl rfl (fa35_1 rfl) rfl ?_;refine gO rfl rfl (ld3 rfl f3 rfl) rfl ?_;refine gO rfl rfl (fa35_0 rfl) rfl ?_;refine gO rfl rfl (ld3 rfl f3 rfl) rfl ?_;refine gO rfl rfl (aS rfl rfl) rfl ?_
    by_cases hs3 : (hi - lo : Int) ≤ (2 : Int)
    ·refine gO rfl rfl (kMT rfl rfl) rfl ?_;iterate 2 refine gP ?_
     apply gE;exact gV (ret_end (aResult_of Try.func98 rfl rfl) ⟨ret_true (by omega), e0⟩)
    ·refine gO rfl rfl (kMF rfl rfl) rfl ?_;iterate 2 refine gP ?_
     apply gE;exact gV (ret_end (aResult_of Try.func98 rfl rfl) ⟨ret_false (by omega), e0⟩)
   ·refine gO rfl rfl (kMF rfl rfl) rfl ?_;iterate 2 refine gP ?_
    iterate 6 refine GoR.skip rfl rfl rfl ?_
    iterate 2 refine gP ?_
    apply gE;exact gV (ret_end (aResult_of Try.func98 rfl rfl) ⟨ret_false (by omega), e0⟩)
  ·refine gO rfl rfl (kMF rfl rfl) rfl ?_;iterate 2 refine gP ?_
   iterate 4 refine GoR.skip rfl rfl rfl ?_
   iterate 2 refine gP ?_
   iterate 6 refine GoR.skip rfl rfl rfl ?_
   iterate 2 refine gP ?_
   apply gE;exact gV (ret_end (aResult_of Try.func98 rfl rfl) ⟨ret_false (by omega), e0⟩)
 ·refine gO rfl rfl (kMF rfl rfl) rfl ?_;refine gP ?_;iterate 4 refine GoR.skip rfl rfl rfl ?_
  iterate 2 refine gP ?_
  iterate 4 refine GoR.skip rfl rfl rfl ?_
  iterate 2 refine gP ?_
  iterate 6 refine GoR.skip rfl rfl rfl ?_
  iterate 2 refine gP ?_
  apply gE;exact gV (ret_end (aResult_of Try.func98 rfl rfl) ⟨ret_false (by omega), e0⟩)
theorem pair_is {a b n : Int} {r : Bool} (hn : 0 ≤ n ∧ n ≤ 1000) (hr : decide ((0 ≤ a ∧ a ≤ n - 1) ∧ (0 ≤ b ∧ b ≤ n - 1) ∧ a ≠ b) = r) {h : AH} : Runs Try.prog 73 [.int .i64 a, .int .i64 b, .int .i64 n] h (fun en h' => en = .ret (.bool r) ∧ Ext h h') := by
 rw [← hr]
 by_cases q1 : 0 ≤ a ∧ a ≤ n - 1
 ·by_cases q2 : 0 ≤ b ∧ b ≤ n - 1
  ·by_cases q3 : a = b
   ·have e0 : Ext h h := Ext.refl _
    refine Runs.intro aFunc73 rfl rfl rfl rfl fun rest => ?_;apply gS;refine gR rfl ?_;refine gP ?_;apply gE;apply gS;refine gR rfl ?_;iterate 2 refine gP ?_
    refine gO rfl rfl (aS rfl rfl) rfl ?_;refine GoR.call rfl rfl (aCF aFunc69 rfl) (inside_is (r := true) (dt (by omega))) ?_ np;rintro v0 h0 ⟨q, x0⟩;cases q;refine ⟨_, rfl, ?_⟩;replace e0 := e0.trans x0;iterate 3 refine gP ?_
    refine gO rfl rfl (aS rfl rfl) rfl ?_;refine GoR.call rfl rfl (aCF aFunc69 rfl) (inside_is (r := true) (dt (by omega))) ?_ np;rintro v1 h1 ⟨q, x1⟩;cases q;refine ⟨_, rfl, ?_⟩;replace e0 := e0.trans x1;iterate 4 refine gP ?_
    refine gO rfl rfl (kXF rfl rfl) rfl ?_;iterate 2 refine gP ?_
    apply gE;exact gV (ret_end (aResult_of Try.func73 rfl rfl) ⟨ret_false (by omega), e0⟩)
   ·have e0 : Ext h h := Ext.refl _
    refine Runs.intro aFunc73 rfl rfl rfl rfl fun rest => ?_;apply gS;refine gR rfl ?_;refine gP ?_;apply gE;apply gS;refine gR rfl ?_;iterate 2 refine gP ?_
    refine gO rfl rfl (aS rfl rfl) rfl ?_;refine GoR.call rfl rfl (aCF aFunc69 rfl) (inside_is (r := true) (dt (by omega))) ?_ np;rintro v0 h0 ⟨q, x0⟩;cases q;refine ⟨_, rfl, ?_⟩;replace e0 := e0.trans x0;iterate 3 refine gP ?_
    refine gO rfl rfl (aS rfl rfl) rfl ?_;refine GoR.call rfl rfl (aCF aFunc69 rfl) (inside_is (r := true) (dt (by omega))) ?_ np;rintro v1 h1 ⟨q, x1⟩;cases q;refine ⟨_, rfl, ?_⟩;replace e0 := e0.trans x1;iterate 4 refine gP ?_
    refine gO rfl rfl (kXT rfl rfl) rfl ?_;iterate 2 refine gP ?_
    apply gE;exact gV (ret_end (aResult_of Try.func73 rfl rfl) ⟨ret_true (by omega), e0⟩)
  ·have e0 : Ext h h := Ext.refl _
   refine Runs.intro aFunc73 rfl rfl rfl rfl fun rest => ?_;apply gS;refine gR rfl ?_;refine gP ?_;apply gE;apply gS;refine gR rfl ?_;iterate 2 refine gP ?_
   refine gO rfl rfl (aS rfl rfl) rfl ?_;refine GoR.call rfl rfl (aCF aFunc69 rfl) (inside_is (r := true) (dt (by omega))) ?_ np;rintro v0 h0 ⟨q, x0⟩;cases q;refine ⟨_, rfl, ?_⟩;replace e0 := e0.trans x0;iterate 3 refine gP ?_
   refine gO rfl rfl (aS rfl rfl) rfl ?_;refine GoR.call rfl rfl (aCF aFunc69 rfl) (inside_is (r := false) (df (by omega))) ?_ np;rintro v1 h1 ⟨q, x1⟩;cases q;refine ⟨_, rfl, ?_⟩;replace e0 := e0.trans x1;iterate 2 refine gP ?_
   iterate 3 refine GoR.skip rfl rfl rfl ?_
   iterate 2 refine gP ?_
   apply gE;exact gV (ret_end (aResult_of Try.func73 rfl rfl) ⟨ret_false (by omega), e0⟩)
 ·have e0 : Ext h h := Ext.refl _
  refine Runs.intro aFunc73 rfl rfl rfl rfl fun rest => ?_;apply gS;refine gR rfl ?_;refine gP ?_;apply gE;apply gS;refine gR rfl ?_;iterate 2 refine gP ?_
  refine gO rfl rfl (aS rfl rfl) rfl ?_;refine GoR.call rfl rfl (aCF aFunc69 rfl) (inside_is (r := false) (df (by omega))) ?_ np;rintro v0 h0 ⟨q, x0⟩;cases q;refine ⟨_, rfl, ?_⟩;replace e0 := e0.trans x0;refine gP ?_;iterate 4 refine GoR.skip rfl rfl rfl ?_
  iterate 2 refine gP ?_
  iterate 3 refine GoR.skip rfl rfl rfl ?_
  iterate 2 refine gP ?_
  apply gE;exact gV (ret_end (aResult_of Try.func73 rfl rfl) ⟨ret_false (by omega), e0⟩)
theorem badBank_ok (x : BkV) (h : AH) : Runs Try.prog 87 [.agg x.cells] h (fun en h' => en = .ret (.bool (!decide x.Ok)) ∧ Ext h h') := by
 unfold BkV.cells
 by_cases q1 : x.ll ≤ x.lh ∧ 0 ≤ x.ll ∧ x.lh ≤ 20 ∧ x.lh - x.ll ≤ 2
 ·by_cases q2 : x.yl ≤ x.yh ∧ 0 ≤ x.yl ∧ x.yh ≤ 20 ∧ x.yh - x.yl ≤ 2
  ·rw [decide_eq_true (p := x.Ok) ⟨q1, q2⟩]
   have e0 : Ext h h := Ext.refl _
   refine Runs.intro aFunc87 rfl rfl rfl rfl fun rest => ?_;apply gS;refine gR rfl ?_;refine GoR.box rfl rfl rfl rfl rfl rfl fun h0 x0 f0 => ?_;replace e0 := e0.trans x0;refine gP ?_;apply gE;apply gS;refine gR rfl ?_;refine gO rfl rfl (fa60_0 rfl) rfl ?_;refine gO rfl rfl (ld35 rfl f0 rfl) rfl ?_;refine GoR.call rfl rfl (aCF aFunc98 rfl) (within_is (r := true) (by omega) (by omega) (dt (by omega))) ?_ np;rintro v1 h1 ⟨q, x1⟩;cases q;refine ⟨_, rfl, ?_⟩;replace f0 := f0.ext x1;replace e0 := e0.trans x1;iterate 2 refine gP ?_
   refine gO rfl rfl (fa60_1 rfl) rfl ?_;refine gO rfl rfl (ld35 rfl f0 rfl) rfl ?_;refine GoR.call rfl rfl (aCF aFunc98 rfl) (within_is (r := true) (by omega) (by omega) (dt (by omega))) ?_ np;rintro v2 h2 ⟨q, x2⟩;cases q;refine ⟨_, rfl, ?_⟩;replace e0 := e0.trans x2;iterate 3 refine gP ?_
   apply gE;exact gW Try.func87 rfl rfl ⟨rfl, e0⟩
  ·rw [decide_eq_false (p := x.Ok) (fun w => q2 w.2)]
   have e0 : Ext h h := Ext.refl _
   refine Runs.intro aFunc87 rfl rfl rfl rfl fun rest => ?_;apply gS;refine gR rfl ?_;refine GoR.box rfl rfl rfl rfl rfl rfl fun h0 x0 f0 => ?_;replace e0 := e0.trans x0;refine gP ?_;apply gE;apply gS;refine gR rfl ?_;refine gO rfl rfl (fa60_0 rfl) rfl ?_;refine gO rfl rfl (ld35 rfl f0 rfl) rfl ?_;refine GoR.call rfl rfl (aCF aFunc98 rfl) (within_is (r := true) (by omega) (by omega) (dt (by omega))) ?_ np;rintro v1 h1 ⟨q, x1⟩;cases q;refine ⟨_, rfl, ?_⟩;replace f0 := f0.ext x1;replace e0 := e0.trans x1;iterate 2 refine gP ?_
   refine gO rfl rfl (fa60_1 rfl) rfl ?_;refine gO rfl rfl (ld35 rfl f0 rfl) rfl ?_;refine GoR.call rfl rfl (aCF aFunc98 rfl) (within_is (r := false) (by omega) (by omega) (df (by omega))) ?_ np;rintro v2 h2 ⟨q, x2⟩;cases q;refine ⟨_, rfl, ?_⟩;replace e0 := e0.trans x2;iterate 3 refine gP ?_
   apply gE;exact gW Try.func87 rfl rfl ⟨rfl, e0⟩
 ·rw [decide_eq_false (p := x.Ok) (fun w => q1 w.1)]
  have e0 : Ext h h := Ext.refl _
  refine Runs.intro aFunc87 rfl rfl rfl rfl fun rest => ?_;apply gS;refine gR rfl ?_;refine GoR.box rfl rfl rfl rfl rfl rfl fun h0 x0 f0 => ?_;replace e0 := e0.trans x0;refine gP ?_;apply gE;apply gS;refine gR rfl ?_;refine gO rfl rfl (fa60_0 rfl) rfl ?_;refine gO rfl rfl (ld35 rfl f0 rfl) rfl ?_;refine GoR.call rfl rfl (aCF aFunc98 rfl) (within_is (r := false) (by omega) (by omega) (df (by omega))) ?_ np;rintro v1 h1 ⟨q, x1⟩;cases q;refine ⟨_, rfl, ?_⟩;replace e0 := e0.trans x1;iterate 2 refine gP ?_
  iterate 4 refine GoR.skip rfl rfl rfl ?_
  iterate 2 refine gP ?_
  apply gE;exact gW Try.func87 rfl rfl ⟨rfl, e0⟩
theorem bit_int (s i : Nat) : decide (((s : Nat) : Int).fdiv (2 ^ i) % 2 = 1) = s.testBit i := by
 rw [Nat.testBit_eq_decide_div_mod_eq, Int.fdiv_eq_ediv_of_nonneg _ (Int.pow_nonneg (by omega))];rw [show ((2 : Int) ^ i) = ((2 ^ i : Nat) : Int) by simp, ← Int.natCast_ediv, show (2 : Int) = ((2 : Nat) : Int) from rfl, ← Int.natCast_emod, decide_eq_decide]
 omega
theorem has_is {s i : Nat} (hi : i ≤ 60) {h : AH} : Runs Try.prog 92 [.int .i64 s, .int .i64 i] h (fun en h' => en = .ret (.bool (s.testBit i)) ∧ Ext h h') := by
 have hb := bit_int s i
 have e0 : Ext h h := Ext.refl _
 refine Runs.intro aFunc92 rfl rfl rfl rfl fun rest => ?_;apply gS;refine gR rfl ?_;refine gP ?_;apply gE;apply gS;refine gR rfl ?_;iterate 2 refine gP ?_
 refine gO rfl rfl (aOp_shr rfl rfl (by omega) rfl) rfl ?_;refine gO rfl rfl (aOp_and1 rfl rfl rfl) rfl ?_;refine gO rfl rfl (aOp_eql rfl rfl hb) rfl ?_;refine gP ?_;apply gE;exact gW Try.func92 rfl rfl ⟨rfl, e0⟩
theorem joins_is {L : List (Int × Int)} {s : AVal} {h : AH} (S : SliceOf h 2 s (L.map spC)) (hL : L.length ≤ 100) {n a b : Nat} {w : Int × Int} (hw : L[n]? = some w) :
  Runs Try.prog 120 [.agg [s], .int .i64 n, .int .i64 a, .int .i64 b] h (fun en h' => en = .ret (.bool (joinsV w a b)) ∧ Ext h h') := by
 obtain ⟨bq, off, q1, q2⟩ := S.at (i := n) (l := spC w) (by rw [List.getElem?_map, hw]; rfl)
 have hn := (List.getElem?_eq_some_iff.1 hw).1
 rw [List.length_map] at q1
 have hsm := S.same
 obtain ⟨x, y⟩ := w
 unfold spC at q2
 dsimp only at q2
 have e1 : Ext h h := Ext.refl _
 by_cases c1 : x = a
 ·by_cases c2 : y = b
  ·rw [show joinsV (x, y) a b = true from by simp [joinsV, c1, c2]];refine Runs.intro aFunc120 rfl rfl rfl rfl fun rest => ?_;apply gS;refine gR rfl ?_;refine GoR.box rfl rfl rfl rfl rfl rfl fun h0 x0 f0 => ?_;have := e1.1;replace e1 := e1.trans x0;have := f0.1;refine gP ?_;apply gE;apply gS;refine gR rfl ?_;refine gO rfl rfl (fa104_0 rfl) rfl ?_;refine gO rfl rfl (ld26 rfl f0 rfl) rfl ?_;refine gP ?_;refine gO rfl rfl (aOp_indexAddr (i := n) Try.underlying26 sz32 rfl q1 rfl (Nat.ble_eq_true_of_le hn)) rfl ?_;refine gO rfl rfl (aOp_loadE ag32 sz32 rfl (q2.ext e1)) rfl ?_;refine GoR.alloc rfl rfl rfl zt32 rfl rfl fun h1 x1 f1 => ?_;have := e1.1;have := f0.1;replace e1 := e1.trans x1;have := f1.1;refine GoR.store rfl rfl rfl rfl rfl rfl f1 rfl sz32 rfl rfl rfl fun h2 u2 => ?_;replace f1 := u2.has f1;replace e1 := e1.upd u2 (by omega);apply gE;apply gS;refine gR rfl ?_;refine gO rfl rfl (fa32_0 rfl) rfl ?_;refine gO rfl rfl (ld3 rfl f1 rfl) rfl ?_;refine gP ?_;refine gO rfl rfl (kET rfl rfl) rfl ?_;refine gP ?_;refine gO rfl rfl (fa32_1 rfl) rfl ?_;refine gO rfl rfl (ld3 rfl f1 rfl) rfl ?_;refine gP ?_;refine gO rfl rfl (kET rfl rfl) rfl ?_;iterate 2 refine gP ?_
   iterate 10 refine GoR.skip rfl rfl rfl ?_
   iterate 2 refine gP ?_
   apply gE;exact gW Try.func120 rfl rfl ⟨rfl, e1⟩
  ·by_cases c3 : x = b
   ·by_cases c4 : y = a
    ·rw [show joinsV (x, y) a b = true from by simp [joinsV, c3, c4]];refine Runs.intro aFunc120 rfl rfl rfl rfl fun rest => ?_;apply gS;refine gR rfl ?_;refine GoR.box rfl rfl rfl rfl rfl rfl fun h0 x0 f0 => ?_;have := e1.1;replace e1 := e1.trans x0;have := f0.1;refine gP ?_;apply gE;apply gS;refine gR rfl ?_;refine gO rfl rfl (fa104_0 rfl) rfl ?_;refine gO rfl rfl (ld26 rfl f0 rfl) rfl ?_;refine gP ?_;refine gO rfl rfl (aOp_indexAddr (i := n) Try.underlying26 sz32 rfl q1 rfl (Nat.ble_eq_true_of_le hn)) rfl ?_;refine gO rfl rfl (aOp_loadE ag32 sz32 rfl (q2.ext e1)) rfl ?_;refine GoR.alloc rfl rfl rfl zt32 rfl rfl fun h1 x1 f1 => ?_;have := e1.1;have := f0.1;replace e1 := e1.trans x1;have := f1.1;refine GoR.store rfl rfl rfl rfl rfl rfl f1 rfl sz32 rfl rfl rfl fun h2 u2 => ?_;replace f1 := u2.has f1;replace e1 := e1.upd u2 (by omega);apply gE;apply gS;refine gR rfl ?_;refine gO rfl rfl (fa32_0 rfl) rfl ?_;refine gO rfl rfl (ld3 rfl f1 rfl) rfl ?_;refine gP ?_;refine gO rfl rfl (kET rfl rfl) rfl ?_;refine gP ?_;refine gO rfl rfl (fa32_1 rfl) rfl ?_;refine gO rfl rfl (ld3 rfl f1 rfl) rfl ?_;refine gP ?_;refine gO rfl rfl (kET rfl rfl) rfl ?_;iterate 2 refine gP ?_
     iterate 10 refine GoR.skip rfl rfl rfl ?_
     iterate 2 refine gP ?_
     apply gE;exact gW Try.func120 rfl rfl ⟨rfl, e1⟩
    ·rw [show joinsV (x, y) a b = false from by simp [joinsV, c2, c4]];refine Runs.intro aFunc120 rfl rfl rfl rfl fun rest => ?_;apply gS;refine gR rfl ?_;refine GoR.box rfl rfl rfl rfl rfl rfl fun h0 x0 f0 => ?_;have := e1.1;replace e1 := e1.trans x0;have := f0.1;refine gP ?_;apply gE;apply gS;refine gR rfl ?_;refine gO rfl rfl (fa104_0 rfl) rfl ?_;refine gO rfl rfl (ld26 rfl f0 rfl) rfl ?_;refine gP ?_;refine gO rfl rfl (aOp_indexAddr (i := n) Try.underlying26 sz32 rfl q1 rfl (Nat.ble_eq_true_of_le hn)) rfl ?_;refine gO rfl rfl (aOp_loadE ag32 sz32 rfl (q2.ext e1)) rfl ?_;refine GoR.alloc rfl rfl rfl zt32 rfl rfl fun h1 x1 f1 => ?_;have := e1.1;have := f0.1;replace e1 := e1.trans x1;have := f1.1;refine GoR.store rfl rfl rfl rfl rfl rfl f1 rfl sz32 rfl rfl rfl fun h2 u2 => ?_;replace f1 := u2.has f1;replace e1 := e1.upd u2 (by omega);apply gE;apply gS;refine gR rfl ?_;refine gO rfl rfl (fa32_0 rfl) rfl ?_;refine gO rfl rfl (ld3 rfl f1 rfl) rfl ?_;refine gP ?_;refine gO rfl rfl (kET rfl rfl) rfl ?_;refine gP ?_;refine gO rfl rfl (fa32_1 rfl) rfl ?_;refine gO rfl rfl (ld3 rfl f1 rfl) rfl ?_;refine gP ?_;refine gO rfl rfl (kEF rfl rfl) rfl ?_;iterate 2 refine gP ?_
     refine gO rfl rfl (fa32_0 rfl) rfl ?_;refine gO rfl rfl (ld3 rfl f1 rfl) rfl ?_;refine gP ?_;refine gO rfl rfl (kET rfl rfl) rfl ?_;refine gP ?_;refine gO rfl rfl (fa32_1 rfl) rfl ?_;refine gO rfl rfl (ld3 rfl f1 rfl) rfl ?_;refine gP ?_;refine gO rfl rfl (kEF rfl rfl) rfl ?_;iterate 3 refine gP ?_
     apply gE;exact gW Try.func120 rfl rfl ⟨rfl, e1⟩
   ·rw [show joinsV (x, y) a b = false from by simp [joinsV, c2, c3]];refine Runs.intro aFunc120 rfl rfl rfl rfl fun rest => ?_;apply gS;refine gR rfl ?_;refine GoR.box rfl rfl rfl rfl rfl rfl fun h0 x0 f0 => ?_;have := e1.1;replace e1 := e1.trans x0;have := f0.1;refine gP ?_;apply gE;apply gS;refine gR rfl ?_;refine gO rfl rfl (fa104_0 rfl) rfl ?_;refine gO rfl rfl (ld26 rfl f0 rfl) rfl ?_;refine gP ?_;refine gO rfl rfl (aOp_indexAddr (i := n) Try.underlying26 sz32 rfl q1 rfl (Nat.ble_eq_true_of_le hn)) rfl ?_;refine gO rfl rfl (aOp_loadE ag32 sz32 rfl (q2.ext e1)) rfl ?_;refine GoR.alloc rfl rfl rfl zt32 rfl rfl fun h1 x1 f1 => ?_;have := e1.1;have := f0.1;replace e1 := e1.trans x1;have := f1.1;refine GoR.store rfl rfl rfl rfl rfl rfl f1 rfl sz32 rfl rfl rfl fun h2 u2 => ?_;replace f1 := u2.has f1;replace e1 := e1.upd u2 (by omega);apply gE;apply gS;refine gR rfl ?_;refine gO rfl rfl (fa32_0 rfl) rfl ?_;refine gO rfl rfl (ld3 rfl f1 rfl) rfl ?_;refine gP ?_;refine gO rfl rfl (kET rfl rfl) rfl ?_;refine gP ?_;refine gO rfl rfl (fa32_1 rfl) rfl ?_;refine gO rfl rfl (ld3 rfl f1 rfl) rfl ?_;refine gP ?_;refine gO rfl rfl (kEF rfl rfl) rfl ?_;iterate 2 refine gP ?_
    refine gO rfl rfl (fa32_0 rfl) rfl ?_;refine gO rfl rfl (ld3 rfl f1 rfl) rfl ?_;refine gP ?_;refine gO rfl rfl (kEF rfl rfl) rfl ?_;refine gP ?_;iterate 4 refine GoR.skip rfl rfl rfl ?_
    iterate 3 refine gP ?_
    apply gE;exact gW Try.func120 rfl rfl ⟨rfl, e1⟩
 ·by_cases c3 : x = b
  ·by_cases c4 : y = a
   ·rw [show joinsV (x, y) a b = true from by simp [joinsV, c3, c4]];refine Runs.intro aFunc120 rfl rfl rfl rfl fun rest => ?_;apply gS;refine gR rfl ?_;refine GoR.box rfl rfl rfl rfl rfl rfl fun h0 x0 f0 => ?_;have := e1.1;replace e1 := e1.trans x0;have := f0.1;refine gP ?_;apply gE;apply gS;refine gR rfl ?_;refine gO rfl rfl (fa104_0 rfl) rfl ?_;refine gO rfl rfl (ld26 rfl f0 rfl) rfl ?_;refine gP ?_;refine gO rfl rfl (aOp_indexAddr (i := n) Try.underlying26 sz32 rfl q1 rfl (Nat.ble_eq_true_of_le hn)) rfl ?_;refine gO rfl rfl (aOp_loadE ag32 sz32 rfl (q2.ext e1)) rfl ?_;refine GoR.alloc rfl rfl rfl zt32 rfl rfl fun h1 x1 f1 => ?_;have := e1.1;have := f0.1;replace e1 := e1.trans x1;have := f1.1;refine GoR.store rfl rfl rfl rfl rfl rfl f1 rfl sz32 rfl rfl rfl fun h2 u2 => ?_;replace f1 := u2.has f1;replace e1 := e1.upd u2 (by omega);apply gE;apply gS;refine gR rfl ?_;refine gO rfl rfl (fa32_0 rfl) rfl ?_;refine gO rfl rfl (ld3 rfl f1 rfl) rfl ?_;refine gP ?_;refine gO rfl rfl (kEF rfl rfl) rfl ?_;refine gP ?_;iterate 4 refine GoR.skip rfl rfl rfl ?_
    iterate 2 refine gP ?_
    refine gO rfl rfl (fa32_0 rfl) rfl ?_;refine gO rfl rfl (ld3 rfl f1 rfl) rfl ?_;refine gP ?_;refine gO rfl rfl (kET rfl rfl) rfl ?_;refine gP ?_;refine gO rfl rfl (fa32_1 rfl) rfl ?_;refine gO rfl rfl (ld3 rfl f1 rfl) rfl ?_;refine gP ?_;refine gO rfl rfl (kET rfl rfl) rfl ?_;iterate 3 refine gP ?_
    apply gE;exact gW Try.func120 rfl rfl ⟨rfl, e1⟩
   ·rw [show joinsV (x, y) a b = false from by simp [joinsV, c1, c4]];refine Runs.intro aFunc120 rfl rfl rfl rfl fun rest => ?_;apply gS;refine gR rfl ?_;refine GoR.box rfl rfl rfl rfl rfl rfl fun h0 x0 f0 => ?_;have := e1.1;replace e1 := e1.trans x0;have := f0.1;refine gP ?_;apply gE;apply gS;refine gR rfl ?_;refine gO rfl rfl (fa104_0 rfl) rfl ?_;refine gO rfl rfl (ld26 rfl f0 rfl) rfl ?_;refine gP ?_;refine gO rfl rfl (aOp_indexAddr (i := n) Try.underlying26 sz32 rfl q1 rfl (Nat.ble_eq_true_of_le hn)) rfl ?_;refine gO rfl rfl (aOp_loadE ag32 sz32 rfl (q2.ext e1)) rfl ?_;refine GoR.alloc rfl rfl rfl zt32 rfl rfl fun h1 x1 f1 => ?_;have := e1.1;have := f0.1;replace e1 := e1.trans x1;have := f1.1;refine GoR.store rfl rfl rfl rfl rfl rfl f1 rfl sz32 rfl rfl rfl fun h2 u2 => ?_;replace f1 := u2.has f1;replace e1 := e1.upd u2 (by omega);apply gE;apply gS;refine gR rfl ?_;refine gO rfl rfl (fa32_0 rfl) rfl ?_;refine gO rfl rfl (ld3 rfl f1 rfl) rfl ?_;refine gP ?_;refine gO rfl rfl (kEF rfl rfl) rfl ?_;refine gP ?_;iterate 4 refine GoR.skip rfl rfl rfl ?_
    iterate 2 refine gP ?_
    refine gO rfl rfl (fa32_0 rfl) rfl ?_;refine gO rfl rfl (ld3 rfl f1 rfl) rfl ?_;refine gP ?_;refine gO rfl rfl (kET rfl rfl) rfl ?_;refine gP ?_;refine gO rfl rfl (fa32_1 rfl) rfl ?_;refine gO rfl rfl (ld3 rfl f1 rfl) rfl ?_;refine gP ?_;refine gO rfl rfl (kEF rfl rfl) rfl ?_;iterate 3 refine gP ?_
    apply gE;exact gW Try.func120 rfl rfl ⟨rfl, e1⟩
  ·rw [show joinsV (x, y) a b = false from by simp [joinsV, c1, c3]];refine Runs.intro aFunc120 rfl rfl rfl rfl fun rest => ?_;apply gS;refine gR rfl ?_;refine GoR.box rfl rfl rfl rfl rfl rfl fun h0 x0 f0 => ?_;have := e1.1;replace e1 := e1.trans x0;have := f0.1;refine gP ?_;apply gE;apply gS;refine gR rfl ?_;refine gO rfl rfl (fa104_0 rfl) rfl ?_;refine gO rfl rfl (ld26 rfl f0 rfl) rfl ?_;refine gP ?_;refine gO rfl rfl (aOp_indexAddr (i := n) Try.underlying26 sz32 rfl q1 rfl (Nat.ble_eq_true_of_le hn)) rfl ?_;refine gO rfl rfl (aOp_loadE ag32 sz32 rfl (q2.ext e1)) rfl ?_;refine GoR.alloc rfl rfl rfl zt32 rfl rfl fun h1 x1 f1 => ?_;have := e1.1;have := f0.1;replace e1 := e1.trans x1;have := f1.1;refine GoR.store rfl rfl rfl rfl rfl rfl f1 rfl sz32 rfl rfl rfl fun h2 u2 => ?_;replace f1 := u2.has f1;replace e1 := e1.upd u2 (by omega);apply gE;apply gS;refine gR rfl ?_;refine gO rfl rfl (fa32_0 rfl) rfl ?_;refine gO rfl rfl (ld3 rfl f1 rfl) rfl ?_;refine gP ?_;refine gO rfl rfl (kEF rfl rfl) rfl ?_;refine gP ?_;iterate 4 refine GoR.skip rfl rfl rfl ?_
   iterate 2 refine gP ?_
   refine gO rfl rfl (fa32_0 rfl) rfl ?_;refine gO rfl rfl (ld3 rfl f1 rfl) rfl ?_;refine gP ?_;refine gO rfl rfl (kEF rfl rfl) rfl ?_;refine gP ?_;iterate 4 refine GoR.skip rfl rfl rfl ?_
   iterate 3 refine gP ?_
   apply gE;exact gW Try.func120 rfl rfl ⟨rfl, e1⟩
end Go.Proofs.Ytkhiagdmbajimaa

namespace Go.Proofs.Ytkhiagdmbajimaa
open Go Go.AbsE
set_option linter.unusedSimpArgs false
set_option maxRecDepth 100000
set_option maxHeartbeats 0
set_option linter.unusedVariables false
theorem idx_some {α : Type} {L : List α} {p : α → Bool} {i : Nat} {x : α} (hx : L[i]? = some x) (hp : p x = true) (hn : ∀ y, y ∈ L.take i → p y = false) : L.findIdx? p = some i := by
 have hlt := (List.getElem?_eq_some_iff.1 hx).1
 have hv := (List.getElem?_eq_some_iff.1 hx).2
 refine List.findIdx?_eq_some_iff_getElem.2 ⟨hlt, by rw [hv]; exact hp, fun j hj => ?_⟩;rw [hn _ (List.mem_take_iff_getElem.2 ⟨j, by omega, rfl⟩)]
 simp
theorem take_no {α : Type} {L : List α} {p : α → Bool} {i : Nat} {x : α} (hx : L[i]? = some x) (hp : p x = false) (hn : ∀ y, y ∈ L.take i → p y = false) : ∀ y, y ∈ L.take (i + 1) → p y = false := by
 intro y hy
 rw [List.take_add_one, hx, Option.toList_some, List.mem_append, List.mem_singleton] at hy
 rcases hy with hy | rfl
 ·exact hn y hy
 ·exact hp
theorem idx_any {α : Type} (L : List α) (p : α → Bool) : decide ((0 : Int) ≤ (match L.findIdx? p with | some i => (i : Int) | none => -1)) = L.any p := by
 cases q : L.findIdx? p with
 | none =>
  rw [List.findIdx?_eq_none_iff] at q;rw [List.any_eq_false.2 (fun x hx => by rw [q x hx]; simp)]
  rfl
 | some i =>
  rw [List.findIdx?_eq_some_iff_getElem] at q
  obtain ⟨hlt, hp, _⟩ := q
  rw [List.any_eq_true.2 ⟨_, List.getElem_mem hlt, hp⟩];exact decide_eq_true (Int.natCast_nonneg i)
theorem idx97_at {fid : FuncId} {caps : List AVal} {fn : Func} (hfid : aFunc Try.prog fid = some fn) {s : AVal} {L : List (BkV)} (p : BkV → Bool) {h : AH} (hs : SliceOf h 4 s (L.map BkV.cells)) (hn : L.length ≤ 200)
  (hc : ∀ x h', x ∈ L → Ext h h' → Runs Try.prog fid ([.agg (BkV.cells x)] ++ caps) h' (fun en h'' => en = .ret (.bool (p x)) ∧ Ext h' h'')) :
  Runs Try.prog 97 [s, .func (.func fid) [] caps] h (fun en h' => en = .ret (.int .i64 (match L.findIdx? p with | some i => (i : Int) | none => -1)) ∧ Ext h h') := by
 have hlen := hs.len
 rw [List.length_map] at hlen
 have e0 : Ext h h := Ext.refl _
 refine Runs.intro aFunc97 rfl rfl rfl rfl fun rest => ?_;apply gS;refine gR rfl ?_;refine gP ?_;apply gE;iterate 2 apply gS
 refine gR rfl ?_;refine gP ?_;refine gO rfl rfl (aOp_lenSlice Try.underlying25 rfl (by assumption)) rfl ?_;refine gP ?_;apply gE;refine Go.block noJ_ok ?_
 refine Go.loopKeep (fun i : Nat => [(0, s), (1, .func (.func fid) [] caps), (7, .int .i64 L.length), (8, .int .i64 (i : Nat))])
  (fun m i h' => m + i = L.length ∧ Ext h h' ∧ ∀ x, x ∈ L.take i → p x = false) (n := L.length) 0 ⟨rfl, rfl, rfl, rfl, trivial⟩ ⟨rfl, e0, (by intro x hx; simp at hx)⟩ ?_
 clear e0;rintro m i h4 ⟨hm, e0, hp⟩ again
 by_cases hi' : i < L.length
 ·obtain ⟨x, hx⟩ : ∃ x, L[i]? = some x := ⟨L[i], by simp [hi']⟩
  have hmem := List.mem_of_getElem? hx
  obtain ⟨bq, off, q1, q2⟩ := hs.at (i := i) (l := BkV.cells x) (by rw [List.getElem?_map, hx]; rfl)
  rw [List.length_map] at q1
  have hcx := hc x h4 hmem e0
  cases hpx : p x with
  | true =>
   rw [hpx] at hcx
   have hany := idx_some hx hpx hp
   rw [hany];apply gS;refine gR rfl ?_;refine gO rfl rfl (kLT rfl rfl) rfl ?_;apply gE;apply gS;refine gC (b := true) rfl ?_;refine gD ?_;apply gS;refine Go.block noJ_ok ?_;apply gS;refine gR rfl ?_;iterate 2 refine gP ?_
   apply gE;apply gS;refine gR rfl ?_;iterate 3 refine gP ?_
   refine gO rfl rfl (aOp_indexAddr (i := i) Try.underlying25 sz60 rfl (by assumption) rfl (Nat.ble_eq_true_of_le (by omega))) rfl ?_;refine gO rfl rfl (aOp_loadE ag60 sz60 rfl (q2.ext e0)) rfl ?_;refine GoR.call rfl rfl (aOp_callVal rfl hfid rfl) (hcx) ?_ np;rintro v5 h5 ⟨q, x5⟩;cases q;refine ⟨_, rfl, ?_⟩;replace e0 := e0.trans x5;apply gE;refine gC (b := true) rfl ?_;apply gS;refine gR rfl ?_;iterate 2 refine gP ?_
   apply gE;exact gW Try.func97 rfl rfl ⟨rfl, e0⟩
  | false =>
   rw [hpx] at hcx;apply gS;refine gR rfl ?_;refine gO rfl rfl (kLT rfl rfl) rfl ?_;apply gE;apply gS;refine gC (b := true) rfl ?_;refine gD ?_;apply gS;refine Go.block noJ_ok ?_;apply gS;refine gR rfl ?_;iterate 2 refine gP ?_
   apply gE;apply gS;refine gR rfl ?_;iterate 3 refine gP ?_
   refine gO rfl rfl (aOp_indexAddr (i := i) Try.underlying25 sz60 rfl (by assumption) rfl (Nat.ble_eq_true_of_le (by omega))) rfl ?_;refine gO rfl rfl (aOp_loadE ag60 sz60 rfl (q2.ext e0)) rfl ?_;refine GoR.call rfl rfl (aOp_callVal rfl hfid rfl) (hcx) ?_ np;rintro v5 h5 ⟨q, x5⟩;cases q;refine ⟨_, rfl, ?_⟩;replace e0 := e0.trans x5;apply gE;refine gC (b := false) rfl ?_;refine gD ?_;refine Go.inBlock noJ_ok ?_;refine gR rfl ?_;refine gO rfl rfl (aA rfl rfl) rfl ?_;refine gP ?_;apply gE;exact again (m - 1) (i + 1) _ _ (by omega) ⟨rfl, rfl, rfl, rfl, trivial⟩ ⟨by omega, e0, take_no hx hpx hp⟩
 ·rw [List.take_of_length_le (by omega)] at hp;rw [List.findIdx?_eq_none_iff.2 hp];apply gS;refine gR rfl ?_;refine gO rfl rfl (kLF rfl rfl) rfl ?_;apply gE;apply gS;refine gC (b := false) rfl ?_;refine gD ?_;apply gS;refine gR rfl ?_;refine gP ?_;apply gE;exact gW Try.func97 rfl rfl ⟨rfl, e0⟩
theorem cont86_ok {fid : FuncId} {caps : List AVal} {fn : Func} (hfid : aFunc Try.prog fid = some fn) {s : AVal} {L : List (BkV)} (p : BkV → Bool) {h : AH} (hs : SliceOf h 4 s (L.map BkV.cells)) (hn : L.length ≤ 200)
  (hc : ∀ x h', x ∈ L → Ext h h' → Runs Try.prog fid ([.agg (BkV.cells x)] ++ caps) h' (fun en h'' => en = .ret (.bool (p x)) ∧ Ext h' h'')) :
  Runs Try.prog 86 [s, .func (.func fid) [] caps] h (fun en h' => en = .ret (.bool (L.any p)) ∧ Ext h h') := by
 have e0 : Ext h h := Ext.refl _
 refine Runs.intro aFunc86 rfl rfl rfl rfl fun rest => ?_;apply gS;refine gR rfl ?_;refine gP ?_;apply gE;apply gS;refine gR rfl ?_;iterate 2 refine gP ?_
 refine GoR.call rfl rfl (aCF aFunc97 rfl) (idx97_at hfid p hs hn hc) ?_ np;rintro v0 h0 ⟨q, x0⟩;cases q;refine ⟨_, rfl, ?_⟩;replace e0 := e0.trans x0;refine gO rfl rfl (aOp_geq rfl rfl (idx_any L p)) rfl ?_;refine gP ?_;apply gE;exact gW Try.func86 rfl rfl ⟨rfl, e0⟩
theorem idx99_at {fid : FuncId} {caps : List AVal} {fn : Func} (hfid : aFunc Try.prog fid = some fn) {s : AVal} {L : List (Int × Int)} (p : Int × Int → Bool) {h : AH} (hs : SliceOf h 2 s (L.map spC)) (hn : L.length ≤ 200)
  (hc : ∀ x h', x ∈ L → Ext h h' → Runs Try.prog fid ([.agg (spC x)] ++ caps) h' (fun en h'' => en = .ret (.bool (p x)) ∧ Ext h' h'')) :
  Runs Try.prog 99 [s, .func (.func fid) [] caps] h (fun en h' => en = .ret (.int .i64 (match L.findIdx? p with | some i => (i : Int) | none => -1)) ∧ Ext h h') := by
 have hlen := hs.len
 rw [List.length_map] at hlen
 have e0 : Ext h h := Ext.refl _
 refine Runs.intro aFunc99 rfl rfl rfl rfl fun rest => ?_;apply gS;refine gR rfl ?_;refine gP ?_;apply gE;iterate 2 apply gS
 refine gR rfl ?_;refine gP ?_;refine gO rfl rfl (aOp_lenSlice Try.underlying26 rfl (by assumption)) rfl ?_;refine gP ?_;apply gE;refine Go.block noJ_ok ?_
 refine Go.loopKeep (fun i : Nat => [(0, s), (1, .func (.func fid) [] caps), (7, .int .i64 L.length), (8, .int .i64 (i : Nat))])
  (fun m i h' => m + i = L.length ∧ Ext h h' ∧ ∀ x, x ∈ L.take i → p x = false) (n := L.length) 0 ⟨rfl, rfl, rfl, rfl, trivial⟩ ⟨rfl, e0, (by intro x hx; simp at hx)⟩ ?_
 clear e0;rintro m i h4 ⟨hm, e0, hp⟩ again
 by_cases hi' : i < L.length
 ·obtain ⟨x, hx⟩ : ∃ x, L[i]? = some x := ⟨L[i], by simp [hi']⟩
  have hmem := List.mem_of_getElem? hx
  obtain ⟨bq, off, q1, q2⟩ := hs.at (i := i) (l := spC x) (by rw [List.getElem?_map, hx]; rfl)
  rw [List.length_map] at q1
  have hcx := hc x h4 hmem e0
  cases hpx : p x with
  | true =>
   rw [hpx] at hcx
   have hany := idx_some hx hpx hp
   rw [hany];apply gS;refine gR rfl ?_;refine gO rfl rfl (kLT rfl rfl) rfl ?_;apply gE;apply gS;refine gC (b := true) rfl ?_;refine gD ?_;apply gS;refine Go.block noJ_ok ?_;apply gS;refine gR rfl ?_;iterate 2 refine gP ?_
   apply gE;apply gS;refine gR rfl ?_;iterate 3 refine gP ?_
   refine gO rfl rfl (aOp_indexAddr (i := i) Try.underlying26 sz32 rfl (by assumption) rfl (Nat.ble_eq_true_of_le (by omega))) rfl ?_;refine gO rfl rfl (aOp_loadE ag32 sz32 rfl (q2.ext e0)) rfl ?_;refine GoR.call rfl rfl (aOp_callVal rfl hfid rfl) (hcx) ?_ np;rintro v5 h5 ⟨q, x5⟩;cases q;refine ⟨_, rfl, ?_⟩;replace e0 := e0.trans x5;apply gE;refine gC (b := true) rfl ?_;apply gS;refine gR rfl ?_;iterate 2 refine gP ?_
   apply gE;exact gW Try.func99 rfl rfl ⟨rfl, e0⟩
  | false =>
   rw [hpx] at hcx;apply gS;refine gR rfl ?_;refine gO rfl rfl (kLT rfl rfl) rfl ?_;apply gE;apply gS;refine gC (b := true) rfl ?_;refine gD ?_;apply gS;refine Go.block noJ_ok ?_;apply gS;refine gR rfl ?_;iterate 2 refine gP ?_
   apply gE;apply gS;refine gR rfl ?_;iterate 3 refine gP ?_
   refine gO rfl rfl (aOp_indexAddr (i := i) Try.underlying26 sz32 rfl (by assumption) rfl (Nat.ble_eq_true_of_le (by omega))) rfl ?_;refine gO rfl rfl (aOp_loadE ag32 sz32 rfl (q2.ext e0)) rfl ?_;refine GoR.call rfl rfl (aOp_callVal rfl hfid rfl) (hcx) ?_ np;rintro v5 h5 ⟨q, x5⟩;cases q;refine ⟨_, rfl, ?_⟩;replace e0 := e0.trans x5;apply gE;refine gC (b := false) rfl ?_;refine gD ?_;refine Go.inBlock noJ_ok ?_;refine gR rfl ?_;refine gO rfl rfl (aA rfl rfl) rfl ?_;refine gP ?_;apply gE;exact again (m - 1) (i + 1) _ _ (by omega) ⟨rfl, rfl, rfl, rfl, trivial⟩ ⟨by omega, e0, take_no hx hpx hp⟩
 ·rw [List.take_of_length_le (by omega)] at hp;rw [List.findIdx?_eq_none_iff.2 hp];apply gS;refine gR rfl ?_;refine gO rfl rfl (kLF rfl rfl) rfl ?_;apply gE;apply gS;refine gC (b := false) rfl ?_;refine gD ?_;apply gS;refine gR rfl ?_;refine gP ?_;apply gE;exact gW Try.func99 rfl rfl ⟨rfl, e0⟩
theorem cont88_ok {fid : FuncId} {caps : List AVal} {fn : Func} (hfid : aFunc Try.prog fid = some fn) {s : AVal} {L : List (Int × Int)} (p : Int × Int → Bool) {h : AH} (hs : SliceOf h 2 s (L.map spC)) (hn : L.length ≤ 200)
  (hc : ∀ x h', x ∈ L → Ext h h' → Runs Try.prog fid ([.agg (spC x)] ++ caps) h' (fun en h'' => en = .ret (.bool (p x)) ∧ Ext h' h'')) :
  Runs Try.prog 88 [s, .func (.func fid) [] caps] h (fun en h' => en = .ret (.bool (L.any p)) ∧ Ext h h') := by
 have e0 : Ext h h := Ext.refl _
 refine Runs.intro aFunc88 rfl rfl rfl rfl fun rest => ?_;apply gS;refine gR rfl ?_;refine gP ?_;apply gE;apply gS;refine gR rfl ?_;iterate 2 refine gP ?_
 refine GoR.call rfl rfl (aCF aFunc99 rfl) (idx99_at hfid p hs hn hc) ?_ np;rintro v0 h0 ⟨q, x0⟩;cases q;refine ⟨_, rfl, ?_⟩;replace e0 := e0.trans x0;refine gO rfl rfl (aOp_geq rfl rfl (idx_any L p)) rfl ?_;refine gP ?_;apply gE;exact gW Try.func88 rfl rfl ⟨rfl, e0⟩
theorem idx100_at {fid : FuncId} {caps : List AVal} {fn : Func} (hfid : aFunc Try.prog fid = some fn) {s : AVal} {L : List (RtV)} (p : RtV → Bool) {h : AH} (hs : SliceOf h 3 s (L.map RtV.cells)) (hn : L.length ≤ 200)
  (hc : ∀ x h', x ∈ L → Ext h h' → Runs Try.prog fid ([.agg (RtV.cells x)] ++ caps) h' (fun en h'' => en = .ret (.bool (p x)) ∧ Ext h' h'')) :
  Runs Try.prog 100 [s, .func (.func fid) [] caps] h (fun en h' => en = .ret (.int .i64 (match L.findIdx? p with | some i => (i : Int) | none => -1)) ∧ Ext h h') := by
 have hlen := hs.len
 rw [List.length_map] at hlen
 have e0 : Ext h h := Ext.refl _
 refine Runs.intro aFunc100 rfl rfl rfl rfl fun rest => ?_;apply gS;refine gR rfl ?_;refine gP ?_;apply gE;iterate 2 apply gS
 refine gR rfl ?_;refine gP ?_;refine gO rfl rfl (aOp_lenSlice Try.underlying27 rfl (by assumption)) rfl ?_;refine gP ?_;apply gE;refine Go.block noJ_ok ?_
 refine Go.loopKeep (fun i : Nat => [(0, s), (1, .func (.func fid) [] caps), (7, .int .i64 L.length), (8, .int .i64 (i : Nat))])
  (fun m i h' => m + i = L.length ∧ Ext h h' ∧ ∀ x, x ∈ L.take i → p x = false) (n := L.length) 0 ⟨rfl, rfl, rfl, rfl, trivial⟩ ⟨rfl, e0, (by intro x hx; simp at hx)⟩ ?_
 clear e0;rintro m i h4 ⟨hm, e0, hp⟩ again
 by_cases hi' : i < L.length
 ·obtain ⟨x, hx⟩ : ∃ x, L[i]? = some x := ⟨L[i], by simp [hi']⟩
  have hmem := List.mem_of_getElem? hx
  obtain ⟨bq, off, q1, q2⟩ := hs.at (i := i) (l := RtV.cells x) (by rw [List.getElem?_map, hx]; rfl)
  rw [List.length_map] at q1
  have hcx := hc x h4 hmem e0
  cases hpx : p x with
  | true =>
   rw [hpx] at hcx
   have hany := idx_some hx hpx hp
   rw [hany];apply gS;refine gR rfl ?_;refine gO rfl rfl (kLT rfl rfl) rfl ?_;apply gE;apply gS;refine gC (b := true) rfl ?_;refine gD ?_;apply gS;refine Go.block noJ_ok ?_;apply gS;refine gR rfl ?_;iterate 2 refine gP ?_
   apply gE;apply gS;refine gR rfl ?_;iterate 3 refine gP ?_
   refine gO rfl rfl (aOp_indexAddr (i := i) Try.underlying27 sz57 rfl (by assumption) rfl (Nat.ble_eq_true_of_le (by omega))) rfl ?_;refine gO rfl rfl (aOp_loadE ag57 sz57 rfl (q2.ext e0)) rfl ?_;refine GoR.call rfl rfl (aOp_callVal rfl hfid rfl) (hcx) ?_ np;rintro v5 h5 ⟨q, x5⟩;cases q;refine ⟨_, rfl, ?_⟩;replace e0 := e0.trans x5;apply gE;refine gC (b := true) rfl ?_;apply gS;refine gR rfl ?_;iterate 2 refine gP ?_
   apply gE;exact gW Try.func100 rfl rfl ⟨rfl, e0⟩
  | false =>
   rw [hpx] at hcx;apply gS;refine gR rfl ?_;refine gO rfl rfl (kLT rfl rfl) rfl ?_;apply gE;apply gS;refine gC (b := true) rfl ?_;refine gD ?_;apply gS;refine Go.block noJ_ok ?_;apply gS;refine gR rfl ?_;iterate 2 refine gP ?_
   apply gE;apply gS;refine gR rfl ?_;iterate 3 refine gP ?_
   refine gO rfl rfl (aOp_indexAddr (i := i) Try.underlying27 sz57 rfl (by assumption) rfl (Nat.ble_eq_true_of_le (by omega))) rfl ?_;refine gO rfl rfl (aOp_loadE ag57 sz57 rfl (q2.ext e0)) rfl ?_;refine GoR.call rfl rfl (aOp_callVal rfl hfid rfl) (hcx) ?_ np;rintro v5 h5 ⟨q, x5⟩;cases q;refine ⟨_, rfl, ?_⟩;replace e0 := e0.trans x5;apply gE;refine gC (b := false) rfl ?_;refine gD ?_;refine Go.inBlock noJ_ok ?_;refine gR rfl ?_;refine gO rfl rfl (aA rfl rfl) rfl ?_;refine gP ?_;apply gE;exact again (m - 1) (i + 1) _ _ (by omega) ⟨rfl, rfl, rfl, rfl, trivial⟩ ⟨by omega, e0, take_no hx hpx hp⟩
 ·rw [List.take_of_length_le (by omega)] at hp;rw [List.findIdx?_eq_none_iff.2 hp];apply gS;refine gR rfl ?_;refine gO rfl rfl (kLF rfl rfl) rfl ?_;apply gE;apply gS;refine gC (b := false) rfl ?_;refine gD ?_;apply gS;refine gR rfl ?_;refine gP ?_;apply gE;exact gW Try.func100 rfl rfl ⟨rfl, e0⟩
theorem cont89_ok {fid : FuncId} {caps : List AVal} {fn : Func} (hfid : aFunc Try.prog fid = some fn) {s : AVal} {L : List (RtV)} (p : RtV → Bool) {h : AH} (hs : SliceOf h 3 s (L.map RtV.cells)) (hn : L.length ≤ 200)
  (hc : ∀ x h', x ∈ L → Ext h h' → Runs Try.prog fid ([.agg (RtV.cells x)] ++ caps) h' (fun en h'' => en = .ret (.bool (p x)) ∧ Ext h' h'')) :
  Runs Try.prog 89 [s, .func (.func fid) [] caps] h (fun en h' => en = .ret (.bool (L.any p)) ∧ Ext h h') := by
 have e0 : Ext h h := Ext.refl _
 refine Runs.intro aFunc89 rfl rfl rfl rfl fun rest => ?_;apply gS;refine gR rfl ?_;refine gP ?_;apply gE;apply gS;refine gR rfl ?_;iterate 2 refine gP ?_
 refine GoR.call rfl rfl (aCF aFunc100 rfl) (idx100_at hfid p hs hn hc) ?_ np;rintro v0 h0 ⟨q, x0⟩;cases q;refine ⟨_, rfl, ?_⟩;replace e0 := e0.trans x0;refine gO rfl rfl (aOp_geq rfl rfl (idx_any L p)) rfl ?_;refine gP ?_;apply gE;exact gW Try.func89 rfl rfl ⟨rfl, e0⟩
end Go.Proofs.Ytkhiagdmbajimaa
