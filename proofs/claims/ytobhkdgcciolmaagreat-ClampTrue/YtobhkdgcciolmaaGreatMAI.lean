import Derived.Test.YtobhkdgcciolmaaGreatMAF
import Derived.Test.YtobhkdgcciolmaaGreatChecked
import Derived.KernelRfl
import Derived.Test.YtobhkdgcciolmaaGreatMAG
namespace Go.Proofs.YtobhkdgcciolmaaGreat
open Go Go.AbsE
theorem plan5_1 : plan (((drawnOps Tryz.f5)[1]?).getD #[]) = some (mkPlan (((drawnOps Tryz.f5)[1]?).getD #[]).toList [(0, 0, true, false), (1, 0, true, false), (2, 0, true, false), (3, 0, true, false), (4, 8, true, false),   (5, 28, true, false), (6, 63, false, false), (7, 127, true, false), (8, 255, true, false), (9, 255, true, false),   (10, 511, true, false), (11, 2047, true, false)]) := by kernel_rfl
theorem plan5_2 : plan (((drawnOps Tryz.f5)[2]?).getD #[]) = some (mkPlan (((drawnOps Tryz.f5)[2]?).getD #[]).toList [(0, 0, true, false), (1, 1, true, false), (2, 3, true, false), (3, 7, true, false), (4, 15, true, false),   (5, 31, true, false), (6, 63, true, false), (7, 127, true, false), (8, 255, true, false), (9, 511, true, false),   (10, 1023, true, false), (11, 2047, true, false), (12, 4095, true, false), (13, 8191, true, false),   (14, 16383, true, false), (15, 32767, true, false), (16, 32767, true, false), (17, 131071, false, false),   (18, 262143, true, false), (19, 524287, true, false), (20, 1048575, true, false), (21, 2097151, true, false),   (22, 2097151, true, false), (23, 8388607, true, false), (24, 16777215, true, false), (25, 2097151, true, false),   (26, 67108863, false, false), (27, 134217727, true, false), (28, 268435455, true, false),   (29, 536870911, true, false), (30, 1073741823, true, false), (31, 1073741823, true, false),   (32, 1073741823, true, false), (33, 7516192767, true, false), (34, 16106127359, true, false),   (35, 34359738367, true, false), (36, 1073741823, true, false), (37, 137438953471, false, false),   (38, 274877906943, true, false), (39, 549755813887, true, false)]) := by kernel_rfl
theorem plan5_3 : plan (((drawnOps Tryz.f5)[3]?).getD #[]) = some (mkPlan (((drawnOps Tryz.f5)[3]?).getD #[]).toList [(0, 0, true, false), (1, 0, true, false), (2, 3, true, false), (3, 7, true, false), (4, 0, true, false),   (5, 0, true, false), (6, 32, true, false), (7, 112, true, false), (8, 255, true, false), (9, 511, true, false)]) := by kernel_rfl
theorem plan12_0 : plan (((drawnOps Tryz.f12)[0]?).getD #[]) = some (mkPlan (((drawnOps Tryz.f12)[0]?).getD #[]).toList [(0, 0, true, false), (1, 0, false, false), (2, 3, true, false), (3, 7, true, false), (4, 15, true, false),   (5, 31, true, false), (6, 63, true, false), (7, 127, true, false), (8, 255, true, false), (9, 255, false, false),   (10, 1023, true, false), (11, 2047, true, false), (12, 4095, true, false), (13, 8191, true, false),   (14, 16383, true, false), (15, 32767, true, false), (16, 65535, true, false), (17, 131071, true, false),   (18, 131071, false, false), (19, 524287, true, false), (20, 1048575, true, false), (21, 2097151, true, false),   (22, 4194303, true, false), (23, 8388607, true, false), (24, 16777215, true, false), (25, 33554431, true, false),   (26, 67108863, true, false), (27, 67108863, false, false), (28, 268435455, true, false), (29, 536870911, true, false),   (30, 1073741823, true, false), (31, 2147483647, true, false), (32, 4294967295, true, false),   (33, 8589934591, true, false), (34, 17179869183, true, false), (35, 34359738367, true, false),   (36, 68719476735, true, false), (37, 137438953471, true, false), (38, 274877906943, true, false),   (39, 549755813887, true, false), (40, 1099511627775, true, false), (41, 2199023255551, true, false),   (42, 4398046511103, true, false), (43, 8796093022207, true, false), (44, 17592186044415, true, false),   (45, 35184372088831, true, false), (46, 70368744177663, true, false), (47, 140737488355327, true, false),   (48, 281474976710655, true, false), (49, 562949953421311, true, false), (50, 1125899906842623, true, false),   (51, 2251799813685247, true, false), (52, 4503599627370495, true, false), (53, 9007199254740991, true, false),   (54, 18014398509481983, true, false), (55, 36028797018963967, true, false), (56, 72057594037927935, true, false),   (57, 144115188075855871, true, false), (58, 288230376151711743, true, false), (59, 576460752303423487, true, false),   (60, 1152921504606846975, true, false), (61, 2305843009213693951, true, false),   (62, 4611686018427387903, true, false), (63, 9223372036854775807, true, false),   (64, 18446744073709551615, true, false), (65, 36893488147419103231, true, false),   (66, 73786976294838206463, true, false), (67, 147573952589676412927, true, false),   (68, 295147905179352825855, true, false), (69, 590295810358705651711, true, false),   (70, 1180591620717411303423, true, false)]) := by kernel_rfl
theorem plan23_0 : plan (((drawnOps Tryz.f23)[0]?).getD #[]) = some (mkPlan (((drawnOps Tryz.f23)[0]?).getD #[]).toList [(0, 0, true, false), (1, 0, true, false), (2, 0, true, false), (3, 1, false, false), (4, 11, false, false),   (5, 31, true, false)]) := by kernel_rfl
theorem plan30_0 : plan (((drawnOps Tryz.f30)[0]?).getD #[]) = some (mkPlan (((drawnOps Tryz.f30)[0]?).getD #[]).toList [(0, 0, true, false), (1, 0, true, false), (2, 2, true, false), (3, 0, true, false), (4, 14, true, false),   (5, 30, true, false), (6, 63, false, false), (7, 127, true, false)]) := by kernel_rfl
theorem plan31_0 : plan (((drawnOps Tryz.f31)[0]?).getD #[]) = some (mkPlan (((drawnOps Tryz.f31)[0]?).getD #[]).toList [(0, 0, true, false), (1, 0, true, false), (2, 2, true, false), (4, 0, true, false), (5, 0, true, false),   (6, 32, true, false), (9, 0, true, false), (10, 0, true, false), (11, 1024, true, false), (14, 0, true, false),   (3, 7, false, false), (7, 127, false, false), (8, 255, true, false), (12, 3839, false, false),   (13, 8191, true, false), (15, 32767, true, false), (16, 65535, true, false)]) := by kernel_rfl
theorem plan31_1 : plan (((drawnOps Tryz.f31)[1]?).getD #[]) = some (mkPlan (((drawnOps Tryz.f31)[1]?).getD #[]).toList [(0, 0, true, false), (1, 1, true, false), (2, 0, true, false), (3, 0, true, false), (4, 8, true, false),   (5, 24, true, false), (6, 0, true, false), (11, 0, true, false), (12, 2048, true, false), (13, 6144, true, false),   (14, 0, true, false), (15, 16384, true, false), (16, 49152, true, false), (17, 0, true, false),   (18, 131072, true, false), (19, 393216, true, false), (20, 1032192, true, false), (21, 2080768, true, false),   (22, 4192256, true, false), (23, 8386560, true, false), (7, 0, false, false), (8, 192, false, false),   (9, 504, true, false), (10, 1016, true, false), (24, 16777208, false, false), (25, 33554431, true, false),   (26, 67108863, true, false), (27, 134217727, false, false)]) := by kernel_rfl
theorem plan31_2 : plan (((drawnOps Tryz.f31)[2]?).getD #[]) = some (mkPlan (((drawnOps Tryz.f31)[2]?).getD #[]).toList [(0, 0, true, false), (1, 1, true, false), (2, 3, true, false), (3, 0, true, false), (4, 8, true, false),   (5, 24, true, false), (6, 63, true, false)]) := by kernel_rfl
theorem plan31_3 : plan (((drawnOps Tryz.f31)[3]?).getD #[]) = some (mkPlan (((drawnOps Tryz.f31)[3]?).getD #[]).toList [(0, 0, true, false), (1, 1, true, false), (2, 3, true, false), (3, 0, true, false), (4, 0, true, false),   (5, 16, true, false), (6, 48, true, false), (7, 0, true, false), (8, 128, true, false), (9, 384, true, false),   (10, 0, true, false), (11, 1024, true, false), (12, 3072, true, false), (13, 8064, true, false),   (14, 16368, false, false), (15, 32760, false, false), (16, 65535, true, false), (17, 131071, true, false),   (18, 262143, false, false)]) := by kernel_rfl
theorem plan45_0 : plan (((drawnOps Tryz.f45)[0]?).getD #[]) = some (mkPlan (((drawnOps Tryz.f45)[0]?).getD #[]).toList [(0, 0, true, false), (1, 0, true, false), (2, 2, true, false), (3, 0, true, false), (4, 8, true, false),   (5, 24, true, false), (6, 0, true, false), (7, 64, true, false), (8, 192, false, false), (9, 510, true, false),   (10, 1023, false, false)]) := by kernel_rfl
theorem plan46_0 : plan (((drawnOps Tryz.f46)[0]?).getD #[]) = some (mkPlan (((drawnOps Tryz.f46)[0]?).getD #[]).toList [(0, 0, true, false), (2, 0, true, false), (1, 1, false, false), (3, 7, false, false), (4, 15, true, false),   (5, 31, false, false)]) := by kernel_rfl
theorem plan48_0 : plan (((drawnOps Tryz.f48)[0]?).getD #[]) = some (mkPlan (((drawnOps Tryz.f48)[0]?).getD #[]).toList [(0, 0, true, false), (1, 0, true, false), (2, 0, true, false), (3, 0, true, false), (4, 12, false, false),   (5, 31, false, false)]) := by kernel_rfl
theorem plan53_0 : plan (((drawnOps Tryz.f53)[0]?).getD #[]) = some (mkPlan (((drawnOps Tryz.f53)[0]?).getD #[]).toList [(0, 0, true, false), (2, 0, true, false), (1, 1, false, false), (3, 7, false, false), (4, 15, true, false),   (5, 31, false, false)]) := by kernel_rfl
theorem plan56_0 : plan (((drawnOps Tryz.f56)[0]?).getD #[]) = some (mkPlan (((drawnOps Tryz.f56)[0]?).getD #[]).toList [(0, 0, true, false), (2, 0, true, false), (1, 1, false, false), (3, 7, false, false), (4, 15, true, false),   (5, 31, false, false)]) := by kernel_rfl
theorem plan58_0 : plan (((drawnOps Tryz.f58)[0]?).getD #[]) = some (mkPlan (((drawnOps Tryz.f58)[0]?).getD #[]).toList [(0, 0, true, false), (2, 0, true, false), (1, 1, false, false), (3, 7, false, false), (4, 15, false, false),   (5, 31, true, false), (6, 63, false, false)]) := by kernel_rfl
theorem plan63_0 : plan (((drawnOps Tryz.f63)[0]?).getD #[]) = some (mkPlan (((drawnOps Tryz.f63)[0]?).getD #[]).toList [(0, 0, true, false), (2, 0, true, false), (4, 0, true, false), (1, 1, false, false), (3, 7, false, false),   (5, 31, false, false), (6, 63, false, false)]) := by kernel_rfl
theorem plan82_0 : plan (((drawnOps Tryz.f82)[0]?).getD #[]) = some (mkPlan (((drawnOps Tryz.f82)[0]?).getD #[]).toList [(0, 0, true, false), (1, 1, true, false), (2, 0, true, false), (3, 0, true, false), (4, 0, true, false),   (5, 16, true, false), (6, 56, true, false), (7, 124, true, false), (8, 252, true, false), (9, 508, true, false),   (10, 0, true, false), (11, 1024, true, false), (12, 4092, true, false), (13, 0, true, false), (14, 8192, true, false),   (15, 0, true, false), (16, 32768, true, false), (17, 122880, true, false), (18, 253952, true, false),   (19, 524284, true, false), (20, 1048575, true, false), (21, 2097151, true, false)]) := by kernel_rfl
theorem plan90_0 : plan (((drawnOps Tryz.f90)[0]?).getD #[]) = some (mkPlan (((drawnOps Tryz.f90)[0]?).getD #[]).toList [(0, 0, true, false), (1, 0, true, false), (2, 0, true, false), (3, 4, true, false), (4, 12, true, false),   (5, 2, true, false), (6, 34, true, false), (7, 98, true, false), (8, 254, false, false), (9, 511, true, false),   (10, 1023, false, false)]) := by kernel_rfl
theorem plan91_0 : plan (((drawnOps Tryz.f91)[0]?).getD #[]) = some (mkPlan (((drawnOps Tryz.f91)[0]?).getD #[]).toList [(0, 0, true, false), (1, 0, true, false), (2, 0, true, false), (3, 0, true, false), (4, 14, false, false),   (5, 31, false, false), (6, 63, false, false)]) := by kernel_rfl
theorem plan94_0 : plan (((drawnOps Tryz.f94)[0]?).getD #[]) = some (mkPlan (((drawnOps Tryz.f94)[0]?).getD #[]).toList [(0, 0, true, false), (1, 0, true, false), (2, 3, true, false), (3, 7, true, false), (4, 0, true, false),   (5, 16, true, false), (6, 63, false, false), (7, 127, false, false), (8, 255, true, false)]) := by kernel_rfl
theorem plan96_0 : plan (((drawnOps Tryz.f96)[0]?).getD #[]) = some (mkPlan (((drawnOps Tryz.f96)[0]?).getD #[]).toList [(0, 0, true, false), (1, 0, true, false), (4, 0, true, false), (5, 16, true, false), (6, 48, true, false),   (2, 3, false, false), (3, 7, false, false), (7, 127, false, false), (8, 255, false, false)]) := by kernel_rfl
theorem plan106_0 : plan (((drawnOps Tryz.f106)[0]?).getD #[]) = some (mkPlan (((drawnOps Tryz.f106)[0]?).getD #[]).toList [(0, 0, true, false), (1, 0, true, false), (5, 0, true, false), (2, 3, false, false), (3, 7, true, false),   (4, 15, true, false), (6, 63, true, false), (7, 127, true, false)]) := by kernel_rfl
theorem plan107_0 : plan (((drawnOps Tryz.f107)[0]?).getD #[]) = some (mkPlan (((drawnOps Tryz.f107)[0]?).getD #[]).toList [(0, 0, true, false), (1, 1, true, false), (2, 3, true, false), (3, 0, true, false), (4, 0, true, false),   (5, 24, false, false), (6, 56, false, false), (7, 127, false, false)]) := by kernel_rfl
theorem plan119_0 : plan (((drawnOps Tryz.f119)[0]?).getD #[]) = some (mkPlan (((drawnOps Tryz.f119)[0]?).getD #[]).toList [(0, 0, true, false), (1, 0, true, false), (2, 0, true, false), (3, 4, true, false), (4, 12, true, false),   (5, 2, true, false), (6, 34, true, false), (7, 98, true, false), (8, 254, false, false), (9, 511, true, false),   (10, 1023, false, false)]) := by kernel_rfl
theorem plan121_0 : plan (((drawnOps Tryz.f121)[0]?).getD #[]) = some (mkPlan (((drawnOps Tryz.f121)[0]?).getD #[]).toList [(0, 0, true, false), (1, 1, true, false), (2, 3, true, false), (3, 0, true, false), (4, 0, true, false),   (5, 24, false, false), (6, 63, false, false), (7, 127, true, false), (8, 255, true, false), (9, 255, true, false),   (10, 255, true, false), (11, 1279, true, false), (12, 4095, false, false), (13, 8191, true, false),   (14, 16383, true, false)]) := by kernel_rfl
theorem plan131_0 : plan (((drawnOps Tryz.f131)[0]?).getD #[]) = some (mkPlan (((drawnOps Tryz.f131)[0]?).getD #[]).toList [(0, 0, true, false), (1, 0, true, false), (2, 3, true, false), (3, 0, true, false), (4, 0, true, false),   (5, 24, true, false), (6, 63, false, false), (7, 127, true, false)]) := by kernel_rfl
end Go.Proofs.YtobhkdgcciolmaaGreat

namespace Go.AbsE
open Go
set_option linter.unusedSimpArgs false
set_option maxRecDepth 100000
section
variable {P : Program} {t : Tr AVal} {h : AH} {dst : Option Tmp} {ty tt : TypeId} {pos : String} {after : Array Edge} {guard : Option (Nat × Bool)} {x y : Operand}
theorem cut_lo {n cap i : Nat} (hi : i ≤ n) : cut n cap (some (.int .i64 (i : Nat))) none = some (i, n) := by
 show (match cond (Nat.ble i n) (some i) none with | some l => some (l, n) | none => none) = _
 rw [Nat.ble_eq_true_of_le hi]
 rfl
theorem cut_hi {n cap i : Nat} (hi : i ≤ cap) : cut n cap none (some (.int .i64 (i : Nat))) = some (0, i) := by
 show (match cond (Nat.ble i cap) (some i) none with | some hh => (match some 0 with | some l => some (l, hh) | none => none) | none => none) = _
 rw [Nat.ble_eq_true_of_le hi]
 rfl
theorem aOp_slice {el : TypeId} {size b off n cap l hh : Nat} {lo hi : Option Operand} {lv hv : Option AVal} (hu : P.underlying ty = some (.slice el)) (hs : sizeT P el = some size) (hx : ev t x = some (.slice b off n cap)) (hlo : evO t lo = some lv) (hhi : evO t hi = some hv)
  (hc : cut n cap lv hv = some (l, hh)) (hn : n ≤ cap) (hne : l ≠ cap) : aOp P t h ⟨dst, .slice ty x lo hi none, tt, pos, after, guard⟩ = some (.val (.slice b (off + l * size) (hh - l) (cap - l)) h) := by
 show opSlice P t h ty x lo hi = _
 unfold opSlice
 rw [hx, hlo, hhi]
 dsimp only
 rw [hu]
 dsimp only
 rw [hs]
 dsimp only
 unfold sliceOf
 dsimp only
 rw [hc]
 dsimp only
 have h2 : Nat.beq l cap = false := by
  cases q : Nat.beq l cap with
  | false => rfl
  | true => exact absurd (Nat.eq_of_beq_eq_true q) hne
 rw [Nat.ble_eq_true_of_le hn, h2]
 rfl
theorem aOp_sliceAll {el : TypeId} {size b off n cap hh : Nat} {lo hi : Option Operand} {lv hv : Option AVal} (hu : P.underlying ty = some (.slice el)) (hs : sizeT P el = some size) (hx : ev t x = some (.slice b off n cap)) (hlo : evO t lo = some lv) (hhi : evO t hi = some hv)
  (hc : cut n cap lv hv = some (cap, hh)) (hn : n ≤ cap) : aOp P t h ⟨dst, .slice ty x lo hi none, tt, pos, after, guard⟩ = some (.val (.slice b off (hh - cap) (cap - cap)) h) := by
 show opSlice P t h ty x lo hi = _
 unfold opSlice
 rw [hx, hlo, hhi]
 dsimp only
 rw [hu]
 dsimp only
 rw [hs]
 dsimp only
 unfold sliceOf
 dsimp only
 rw [hc]
 dsimp only
 have h2 : Nat.beq cap cap = true := by simp
 rw [Nat.ble_eq_true_of_le hn, h2]
 rfl
theorem aOp_slice3 {el : TypeId} {size b off n cap l hh m : Nat} {lo hi mx : Operand} (hu : P.underlying ty = some (.slice el)) (hs : sizeT P el = some size) (hx : ev t x = some (.slice b off n cap)) (hlo : ev t lo = some (.int .i64 (l : Nat))) (hhi : ev t hi = some (.int .i64 (hh : Nat))) (hmx : ev t mx = some (.int .i64 (m : Nat)))
  (h1 : l ≤ hh) (h2 : hh ≤ m) (h3 : m ≤ cap) (hne : m ≠ l) : aOp P t h ⟨dst, .slice ty x (some lo) (some hi) (some mx), tt, pos, after, guard⟩ = some (.val (.slice b (off + l * size) (hh - l) (m - l)) h) := by
 show opSlice3 P t h ty x lo hi mx = _
 unfold opSlice3
 rw [hu, hx]
 dsimp only
 rw [hs, hlo, hhi, hmx]
 have k2 : Nat.beq m l = false := by
  cases q : Nat.beq m l with
  | false => rfl
  | true => exact absurd (Nat.eq_of_beq_eq_true q) hne
 show cond (Nat.ble l hh) (cond (Nat.ble hh m) (cond (Nat.ble m cap) (cond (Nat.beq m l) _ _) none) none) none = _
 rw [Nat.ble_eq_true_of_le h1, Nat.ble_eq_true_of_le h2, Nat.ble_eq_true_of_le h3, k2]
 rfl
theorem splice_eq {α : Type} : ∀ {cs : List α} {off : Nat} {new : List α}, off + new.length ≤ cs.length → splice cs off new = some (cs.take off ++ new ++ cs.drop (off + new.length))
 | cs, 0, [], _ => by simp [splice]
 | [], 0, _ :: _, h => by simp at h
 | _ :: l, 0, x :: xs, h => by
  have := splice_eq (cs := l) (off := 0) (new := xs) (by simpa using h)
  simp only [splice, this]
  simp
 | [], n + 1, _, h => by simp at h
 | y :: l, n + 1, xs, h => by
  have := splice_eq (cs := l) (off := n) (new := xs) (by simp at h; omega)
  simp only [splice, this, List.take_succ_cons, List.cons_append]
  congr 2
  rw [show n + 1 + xs.length = (n + xs.length) + 1 by omega, List.drop_succ_cons]
theorem cut_both {n cap l hh : Nat} (h1 : l ≤ hh) (h2 : hh ≤ cap) : cut n cap (some (.int .i64 (l : Nat))) (some (.int .i64 (hh : Nat))) = some (l, hh) := by
 show (match cond (Nat.ble hh cap) (some hh) none with | some hh => (match cond (Nat.ble l hh) (some l) none with | some l => some (l, hh) | none => none) | none => none) = _
 rw [Nat.ble_eq_true_of_le h2]
 show (match cond (Nat.ble l hh) (some l) none with | some l => some (l, hh) | none => none) = _
 rw [Nat.ble_eq_true_of_le h1]
 rfl
theorem aOp_appendIn {t1 t2 el el2 eb : TypeId} {sz bytes b off len cap n m : Nat} {z s : AVal} {cs cs' new : List AVal} {g0 : Kd} (hu1 : P.underlying t1 = some (.slice el)) (hu2 : P.underlying t2 = some (.slice el2)) (hs : sizeT P el = some sz) (hby : bytesT P el = some bytes) (hz : zeroT P el = some z) (hzl : Nat.beq z.cells.length sz = true) (hsz : Nat.blt 0 sz = true)
  (hx : ev t x = some (.slice b off len cap)) (hy : ev t y = some s) (hn : lenA s = some n) (hsrc : srcCells h sz n s = some new) (hm : len + n = m) (hle : m ≤ cap) (hroom : (len + n + 300) * 2 * (bytes + 1) < 281474976710656) (hb : Has h b (.cells g0 cs eb)) (hg : g0.isRo = false) (hns : scalars new = true) (hsp : splice cs (off + len * sz) new = some cs') :
  ∃ h1, aOp P t h ⟨dst, .call ⟨.builtin .append, #[x, y], #[t1, t2]⟩, tt, pos, after, guard⟩ = some (.val (.slice b off m cap) h1) ∧ Upd h b (.cells g0 cs' eb) h1 := by
 subst hm
 obtain ⟨h1, q1, q2⟩ := storeCells_has hb hg hns hsp
 refine ⟨h1, ?_, q2⟩
 show opCall P t h ⟨.builtin .append, #[x, y], #[t1, t2]⟩ tt = _
 have he : evs t [x, y] = some [.slice b off len cap, s] := by simp only [evs, mapO, hx, hy]
 have hlt : Nat.blt ((len + n + 300) * 2 * (bytes + 1)) 281474976710656 = true := Nat.ble_eq_true_of_le hroom
 have ha : aAppend P h t1 t2 (.slice b off len cap) s = some (.val (.slice b off (len + n) cap) h1) := by
  unfold aAppend
  rw [hu1, hu2]
  simp only [hs, hby, hz, show lenA (.slice b off len cap) = some len from rfl, hn, hsrc, hlt, hsz, hzl, cond_true]
  unfold appSlice
  rw [Nat.ble_eq_true_of_le hle, q1]
  rfl
 simp only [opCall, he, callWith, aBuiltin, ha]
theorem aOp_clear {t1 el eb : TypeId} {b off n cap : Nat} {z : AVal} {cs cs' : List AVal} {g0 : Kd} (hu1 : P.underlying t1 = some (.slice el)) (hz : zeroT P el = some z) (hx : ev t x = some (.slice b off n cap)) (hn : n ≠ 0) (hb : Has h b (.cells g0 cs eb)) (hg : g0.isRo = false) (hns : scalars (repl z.cells n) = true) (hsp : splice cs off (repl z.cells n) = some cs') :
  ∃ h1, aOp P t h ⟨dst, .call ⟨.builtin .clear, #[x], #[t1]⟩, tt, pos, after, guard⟩ = some (.val undefA h1) ∧ Upd h b (.cells g0 cs' eb) h1 := by
 obtain ⟨h1, q1, q2⟩ := storeCells_has hb hg hns hsp
 refine ⟨h1, ?_, q2⟩
 show opCall P t h ⟨.builtin .clear, #[x], #[t1]⟩ tt = _
 have he : evs t [x] = some [.slice b off n cap] := by simp only [evs, mapO, hx]
 have h0 : Nat.beq n 0 = false := by
  cases q : Nat.beq n 0 with
  | false => rfl
  | true => exact absurd (Nat.eq_of_beq_eq_true q) hn
 simp only [opCall, he, callWith, aBuiltin, hu1, hz, h0, cond_false, q1]
theorem aOp_copyIn {t1 t2 el eb : TypeId} {sz b off len cap n : Nat} {s : AVal} {cs cs' new : List AVal} {g0 : Kd} (hu1 : P.underlying t1 = some (.slice el)) (hs : sizeT P el = some sz) (hx : ev t x = some (.slice b off len cap)) (hy : ev t y = some s) (hn : lenA s = some n) (hm : Nat.min n len = n)
  (hsrc : srcCells h sz n s = some new) (hb : Has h b (.cells g0 cs eb)) (hg : g0.isRo = false) (hns : scalars new = true) (hsp : splice cs off new = some cs') :
  ∃ h1, aOp P t h ⟨dst, .call ⟨.builtin .copy, #[x, y], #[t1, t2]⟩, tt, pos, after, guard⟩ = some (.val (.int .i64 n) h1) ∧ Upd h b (.cells g0 cs' eb) h1 := by
 obtain ⟨h1, q1, q2⟩ := storeCells_has hb hg hns hsp
 refine ⟨h1, ?_, q2⟩
 show opCall P t h ⟨.builtin .copy, #[x, y], #[t1, t2]⟩ tt = _
 have he : evs t [x, y] = some [.slice b off len cap, s] := by simp only [evs, mapO, hx, hy]
 simp only [opCall, he, callWith, aBuiltin, hu1, hs, show lenA (.slice b off len cap) = some len from rfl, hn, hm, hsrc, aSlElems, q1]
variable {c : FC} {k : List AItem} {Q : AM → Prop} {J : Jump} {all : Array Oper} {pl rest : List DOp} {tf ta : Tr AVal} {facts left : List DFact} {i bef d : Nat} {l lrest : List Oper}
theorem GoE.appendIn {t1 t2 el el2 eb : TypeId} {sz bytes b off len cap n m : Nat} {z s : AVal} {cs cs' new : List AVal} {g0 : Kd}
  (hl : pl = ⟨i, bef, false, ⟨dst, .call ⟨.builtin .append, #[x, y], #[t1, t2]⟩, tt, pos, after, guard⟩, false⟩ :: rest) (hw : wantedA all ta ⟨dst, .call ⟨.builtin .append, #[x, y], #[t1, t2]⟩, tt, pos, after, guard⟩ = some true)
  (hu1 : P.underlying t1 = some (.slice el)) (hu2 : P.underlying t2 = some (.slice el2)) (hs : sizeT P el = some sz) (hby : bytesT P el = some bytes) (hz : zeroT P el = some z) (hzl : Nat.beq z.cells.length sz = true) (hsz : Nat.blt 0 sz = true)
  (hx : ev ta x = some (.slice b off len cap)) (hy : ev ta y = some s) (hn : lenA s = some n) (hsrc : srcCells h sz n s = some new) (hm : len + n = m) (hle : m ≤ cap) (hroom : (len + n + 300) * 2 * (bytes + 1) < 281474976710656) (hb : Has h b (.cells g0 cs eb)) (hg : g0.isRo = false) (hns : scalars new = true) (hsp : splice cs (off + len * sz) new = some cs')
  (hleft : dropF bef facts = left) (hd : dst = some d) (hdn : Nat.blt d c.n = true)
  (g : ∀ h1, Upd h b (.cells g0 cs' eb) h1 → recheck P h1 left = true ∧ GoE P c k Q all rest tf left (ta.put (pth d) (some (.slice b off m cap))) h1) : GoE P c k Q all pl tf facts ta h := by
 obtain ⟨h1, q1, q2⟩ := aOp_appendIn (P := P) (dst := dst) (tt := tt) (pos := pos) (after := after) (guard := guard) hu1 hu2 hs hby hz hzl hsz hx hy hn hsrc hm hle hroom hb hg hns hsp
 obtain ⟨g1, g2⟩ := g h1 q2
 exact GoE.noisy0 hl hw q1 hleft g1 (prepD_some hd hdn) g2
theorem GoR.clear {t1 el eb : TypeId} {b off n cap : Nat} {z : AVal} {cs cs' : List AVal} {g0 : Kd} (hl : l = ⟨none, .call ⟨.builtin .clear, #[x], #[t1]⟩, tt, pos, after, guard⟩ :: lrest) (hw : wantedA all t ⟨none, .call ⟨.builtin .clear, #[x], #[t1]⟩, tt, pos, after, guard⟩ = some true)
  (hu1 : P.underlying t1 = some (.slice el)) (hz : zeroT P el = some z) (hx : ev t x = some (.slice b off n cap)) (hn : n ≠ 0) (hb : Has h b (.cells g0 cs eb)) (hg : g0.isRo = false) (hns : scalars (repl z.cells n) = true) (hsp : splice cs off (repl z.cells n) = some cs')
  (g : ∀ h1, Upd h b (.cells g0 cs' eb) h1 → GoR P J c k Q (runOps P c.n all lrest (i + 1) t h1)) : GoR P J c k Q (runOps P c.n all l i t h) := by
 obtain ⟨h1, q1, q2⟩ := aOp_clear (P := P) (dst := none) (tt := tt) (pos := pos) (after := after) (guard := guard) hu1 hz hx hn hb hg hns hsp
 exact GoR.op hl hw q1 rfl (g h1 q2)
theorem GoR.copyIn {t1 t2 el eb : TypeId} {sz b off len cap n : Nat} {s : AVal} {cs cs' new : List AVal} {g0 : Kd} (hl : l = ⟨some d, .call ⟨.builtin .copy, #[x, y], #[t1, t2]⟩, tt, pos, after, guard⟩ :: lrest) (hw : wantedA all t ⟨some d, .call ⟨.builtin .copy, #[x, y], #[t1, t2]⟩, tt, pos, after, guard⟩ = some true)
  (hu1 : P.underlying t1 = some (.slice el)) (hs : sizeT P el = some sz) (hx : ev t x = some (.slice b off len cap)) (hy : ev t y = some s) (hn : lenA s = some n) (hm : Nat.min n len = n)
  (hsrc : srcCells h sz n s = some new) (hb : Has h b (.cells g0 cs eb)) (hg : g0.isRo = false) (hns : scalars new = true) (hsp : splice cs off new = some cs') (hdn : Nat.blt d c.n = true)
  (g : ∀ h1, Upd h b (.cells g0 cs' eb) h1 → GoR P J c k Q (runOps P c.n all lrest (i + 1) (t.put (pth d) (some (.int .i64 n))) h1)) : GoR P J c k Q (runOps P c.n all l i t h) := by
 obtain ⟨h1, q1, q2⟩ := aOp_copyIn (P := P) (dst := some d) (tt := tt) (pos := pos) (after := after) (guard := guard) (t2 := t2) hu1 hs hx hy hn hm hsrc hb hg hns hsp
 exact GoR.op hl hw q1 (prepD_some rfl hdn) (g h1 q2)
theorem aOp_shl {ty2 : TypeId} {a r : Int} {i : Nat} (hx : ev t x = some (.int .i64 a)) (hy : ev t y = some (.int .i64 (i : Nat))) (hi : i ≤ 64) (hr : a * 2 ^ i = r) (hr2 : -9223372036854775808 ≤ r ∧ r ≤ 9223372036854775807) : aOp P t h ⟨dst, .binOp .shl ty x y ty2, tt, pos, after, guard⟩ = some (.val (.int .i64 r) h) := by
 refine aOp_bin hx hy ?_
 have : pureRun P (binOp .shl ty (.int .i64 a) (.int .i64 (i : Nat))) = some (.int .i64 r) := by
  show pureRun P (Op.shift .shl .i64 a .i64 (i : Nat)) = _
  unfold Op.shift
  rw [if_neg (by omega)]
  have : min ((i : Int)).toNat IntKind.i64.bits = i := by
   show min ((i : Int)).toNat 64 = i
   omega
  rw [this]
  show some (Value.int .i64 (IntKind.i64.wrap (a * 2 ^ i))) = _
  rw [hr, ← wrap64_eq, wrap64_in (by constructor <;> omega)]
 show (match pureRun P (binOp .shl ty (.int .i64 a) (.int .i64 (i : Nat))) with | some v => absV v | none => none) = _
 rw [this]
 rfl
theorem aOp_convU64 {src dt : TypeId} {sd : TypeDesc} {w : Int} (hx : ev t x = some (.int .i64 w)) (hs : P.underlying src = some sd) (hu : P.underlying dt = some (.int .u64)) (hw : 0 ≤ w ∧ w < 9223372036854775808) : aOp P t h ⟨dst, .convert src dt x, tt, pos, after, guard⟩ = some (.val (.int .u64 w) h) := by
 show opConvert P t h src dt x = _
 unfold opConvert
 rw [hx]
 have : pureRun P (convert src dt (.int .i64 w)) = some (.int .u64 w) := by
  unfold convert
  rw [pureRun_bind, pr_underlying hs]
  simp only [Option.bind_some, pureRun_bind, pr_underlying hu]
  have : IntKind.u64.wrap w = w := by
   have h1 : IntKind.u64.wrap w = w % 18446744073709551616 := by rfl
   rw [h1]
   omega
  cases sd <;> (show pureRun P (Conv.intToInt .u64 w) = _; unfold Conv.intToInt; rw [this]; rfl)
 simp only [this]
 rfl
theorem aOp_shr {ty2 : TypeId} {a r : Int} {i : Nat} (hx : ev t x = some (.int .i64 a)) (hy : ev t y = some (.int .i64 (i : Nat))) (hi : i ≤ 64) (hr : a.fdiv (2 ^ i) = r) : aOp P t h ⟨dst, .binOp .shr ty x y ty2, tt, pos, after, guard⟩ = some (.val (.int .i64 r) h) := by
 refine aOp_bin hx hy ?_
 have : pureRun P (binOp .shr ty (.int .i64 a) (.int .i64 (i : Nat))) = some (.int .i64 r) := by
  show pureRun P (Op.shift .shr .i64 a .i64 (i : Nat)) = _
  unfold Op.shift
  rw [if_neg (by omega)]
  have : min ((i : Int)).toNat IntKind.i64.bits = i := by
   show min ((i : Int)).toNat 64 = i
   omega
  rw [this]
  show some (Value.int .i64 (a.fdiv (2 ^ i))) = _
  rw [hr]
 show (match pureRun P (binOp .shr ty (.int .i64 a) (.int .i64 (i : Nat))) with | some v => absV v | none => none) = _
 rw [this]
 rfl
theorem aOp_and1 {ty2 : TypeId} {a r : Int} (hx : ev t x = some (.int .i64 a)) (hy : ev t y = some (.int .i64 1)) (hr : a % 2 = r) : aOp P t h ⟨dst, .binOp .and ty x y ty2, tt, pos, after, guard⟩ = some (.val (.int .i64 r) h) := by
 refine aOp_bin hx hy ?_
 have : pureRun P (binOp .and ty (.int .i64 a) (.int .i64 1)) = some (.int .i64 r) := by
  show pureRun P (if IntKind.i64 ≠ IntKind.i64 then stuck "BinOp: operands of different kinds" else Op.intBits .and .i64 a 1) = _
  rw [if_neg (fun h => h rfl)]
  show some (Value.int .i64 (IntKind.i64.wrap ((BitVec.ofInt 64 a &&& BitVec.ofInt 64 1).toNat : Int))) = _
  have h1 : (BitVec.ofInt 64 a &&& BitVec.ofInt 64 1).toNat = (a % 18446744073709551616).toNat % 2 := by
   rw [BitVec.toNat_and, BitVec.toNat_ofInt]
   show (a % 18446744073709551616).toNat &&& 1 = _
   rw [Nat.and_one_is_mod]
  rw [h1, ← wrap64_eq]
  rw [wrap64_in (by constructor <;> omega)]
  congr 2
  omega
 show (match pureRun P (binOp .and ty (.int .i64 a) (.int .i64 1)) with | some v => absV v | none => none) = _
 rw [this]
 rfl
end
end Go.AbsE

namespace Go.AbsE
open Go
set_option linter.unusedSimpArgs false
set_option maxRecDepth 100000
section
variable {P : Program} {t : Tr AVal} {h : AH} {dst : Option Tmp} {ty tt : TypeId} {pos : String} {after : Array Edge} {guard : Option (Nat × Bool)} {x y : Operand}
theorem i64_small {n : Nat} (hn : n < 9223372036854775808) : IntKind.i64.wrap (n : Nat) = n := by
 rw [← wrap64_eq]
 exact wrap64_in (by constructor <;> omega)
theorem aOp_andNat {ty2 : TypeId} {a b r : Nat} (hx : ev t x = some (.int .i64 (a : Nat))) (hy : ev t y = some (.int .i64 (b : Nat))) (ha : a < 9223372036854775808) (hb : b < 9223372036854775808) (hr : a &&& b = r) :
  aOp P t h ⟨dst, .binOp .and ty x y ty2, tt, pos, after, guard⟩ = some (.val (.int .i64 (r : Nat)) h) := by
 refine aOp_bin hx hy ?_
 have : pureRun P (binOp .and ty (.int .i64 (a : Nat)) (.int .i64 (b : Nat))) = some (.int .i64 (r : Nat)) := by
  show pureRun P (if IntKind.i64 ≠ IntKind.i64 then stuck "BinOp: operands of different kinds" else Op.intBits .and .i64 (a : Nat) (b : Nat)) = _
  rw [if_neg (fun h => h rfl)]
  show some (Value.int .i64 (IntKind.i64.wrap ((BitVec.ofInt 64 (a : Nat) &&& BitVec.ofInt 64 (b : Nat)).toNat : Int))) = _
  have h1 : (BitVec.ofInt 64 (a : Nat) &&& BitVec.ofInt 64 (b : Nat)).toNat = r := by
   rw [BitVec.ofInt_natCast, BitVec.ofInt_natCast, BitVec.toNat_and, BitVec.toNat_ofNat, BitVec.toNat_ofNat, Nat.mod_eq_of_lt (by omega), Nat.mod_eq_of_lt (by omega)]
   exact hr
  have h2 : r ≤ a := by rw [← hr]; exact Nat.and_le_left
  rw [h1, i64_small (by omega)]
 show (match pureRun P (binOp .and ty (.int .i64 (a : Nat)) (.int .i64 (b : Nat))) with | some v => absV v | none => none) = _
 rw [this]
 rfl
def andNot (a b : Nat) : Nat := (BitVec.ofNat 64 a &&& ~~~BitVec.ofNat 64 b).toNat
theorem aOp_andNot {ty2 : TypeId} {a b r : Nat} (hx : ev t x = some (.int .i64 (a : Nat))) (hy : ev t y = some (.int .i64 (b : Nat))) (ha : a < 9223372036854775808) (hr : andNot a b = r) :
  aOp P t h ⟨dst, .binOp .andNot ty x y ty2, tt, pos, after, guard⟩ = some (.val (.int .i64 (r : Nat)) h) := by
 refine aOp_bin hx hy ?_
 have : pureRun P (binOp .andNot ty (.int .i64 (a : Nat)) (.int .i64 (b : Nat))) = some (.int .i64 (r : Nat)) := by
  show pureRun P (if IntKind.i64 ≠ IntKind.i64 then stuck "BinOp: operands of different kinds" else Op.intBits .andNot .i64 (a : Nat) (b : Nat)) = _
  rw [if_neg (fun h => h rfl)]
  show some (Value.int .i64 (IntKind.i64.wrap ((BitVec.ofInt 64 (a : Nat) &&& ~~~BitVec.ofInt 64 (b : Nat)).toNat : Int))) = _
  have h1 : (BitVec.ofInt 64 (a : Nat) &&& ~~~BitVec.ofInt 64 (b : Nat)).toNat = r := by
   rw [BitVec.ofInt_natCast, BitVec.ofInt_natCast]
   exact hr
  have h2 : r ≤ a := by
   rw [← hr]
   unfold andNot
   rw [BitVec.toNat_and]
   refine Nat.le_trans Nat.and_le_left ?_
   rw [BitVec.toNat_ofNat]
   exact Nat.mod_le _ _
  rw [h1, i64_small (by omega)]
 show (match pureRun P (binOp .andNot ty (.int .i64 (a : Nat)) (.int .i64 (b : Nat))) with | some v => absV v | none => none) = _
 rw [this]
 rfl
end
end Go.AbsE

set_option linter.unusedSimpArgs false
namespace Go.AbsE
open Go
section
variable {all : Array Oper}
noncomputable def pickD : List DOp → Nat → List DOp
 | [], _ => []
 | d :: l, i => cond (Nat.beq d.i i) [d] (pickD l i)
noncomputable def picks (ds : List DOp) : List Nat → List DOp
 | [] => []
 | i :: r => pickD ds i ++ picks ds r
theorem pickD_mem {i : Nat} {d : DOp} : ∀ {l : List DOp}, d ∈ pickD l i → d ∈ l
 | [], h => h
 | x :: l, h => by
  unfold pickD at h
  cases q : Nat.beq x.i i with
  | true =>
   rw [q] at h
   exact List.mem_cons.2 (.inl (List.mem_singleton.1 h))
  | false =>
   rw [q] at h
   exact List.mem_cons_of_mem _ (pickD_mem h)
theorem picks_mem {ds : List DOp} {d : DOp} : ∀ {r : List Nat}, d ∈ picks ds r → d ∈ ds
 | [], h => by cases h
 | i :: r, h => by
  rcases List.mem_append.1 h with q | q
  ·exact pickD_mem q
  ·exact picks_mem q
noncomputable def planX (all : Array Oper) (befs order : List Nat) : Option (List DOp) :=
 match wrT all.toList 0 .leaf with
 | none => none
 | some wr => cond (cond (edgesAll all.toList 0) (gcOk all.toList all.toList.length) false) (cond (rdAll all wr befs (mkDs all.toList all.toList befs 0)) (match picks (mkDs all.toList all.toList befs 0) order with | c => cond (chkC all.toList.length c 0) (some c) none) none) none
noncomputable def befs0 (all : Array Oper) : List Nat := (befL all.toList 0 []).reverse
theorem planX_ok {befs order : List Nat} {c : List DOp} (h : planX all befs order = some c) : RO all (nthN befs) ∧ CV all (nthN befs) (fun _ => False) c := by
 unfold planX at h
 simp only [] at h
 split at h
 ·cases h
 ·rename_i wr hwr
  cases heg : cond (edgesAll all.toList 0) (gcOk all.toList all.toList.length) false with
  | false => rw [heg] at h; cases h
  | true =>
   have he : edgesAll all.toList 0 = true := by
    cases hq : edgesAll all.toList 0 with
    | true => rfl
    | false => rw [hq] at heg; cases heg
   have hgc : gcOk all.toList all.size = true := by rw [he, Array.length_toList] at heg; exact heg
   cases hr : rdAll all wr befs (mkDs all.toList all.toList befs 0) with
   | false => rw [heg, hr] at h; cases h
   | true =>
    rw [heg, hr] at h
    simp only [cond_true] at h
    cases hc : chkC all.toList.length (picks (mkDs all.toList all.toList befs 0) order) 0 with
    | false => rw [hc] at h; cases h
    | true =>
     rw [hc] at h
     cases h
     have hds := mkDs_ok (all := all) (l0 := all.toList) (befs := befs) all.toList befs 0 (by simp) (by simp)
     have hcv := chkC_ok (all := all) (B := nthN befs) _ 0 (fun d hd => hds d (picks_mem hd)) (by rw [Array.length_toList] at hc; exact hc)
     have hcv := CV.congr (A' := fun _ => False) (fun k => by simp) hcv
     have hw := wrT_ok (all := all) all.toList 0 .leaf wr (by simp) hwr (fun i _ _ hi => by omega)
     refine ⟨⟨ranks he hgc, fun i o x ho hx => (hw i o x ho hx).1,
      fun i j o o' x ho ho' hx hx' => ?_, fun i o x w ow ho hx how hwx => ?_⟩, hcv⟩
     ·have h1 := (hw i o x ho hx).2
      have h2 := (hw j o' x ho' hx').2
      rw [h1] at h2; injection h2
     ·have hlt := (Array.getElem?_eq_some_iff.1 ho).1
      rcases hcv.cover i hlt with hf | ⟨d, hd1, hd2⟩
      ·exact hf.elim
      ·have hdm := picks_mem hd1
       obtain ⟨k1, k2, k3⟩ := hds d hdm
       rw [hd2, ho] at k1
       injection k1 with k1
       have := rdAll_ok hr d hdm x (by rw [← k1]; exact hx) w (hw w ow x how hwx).2
       rw [k2, hd2] at this
       exact this
theorem idx_ne {a b : Nat} (l : List Nat) (h : b ≠ a) : (b :: l).idxOf a = l.idxOf a + 1 := by
 rw [List.idxOf_cons]
 have : (b == a) = false := by simpa using h
 rw [this]
 rfl
theorem VB.ord {B : Nat → Nat} : ∀ {s : List Nat} {D : Nat → Prop}, VB all B D s → ∀ i, i ∈ s → ∀ k, (B i).testBit k = true → D k ∨ (k ∈ s ∧ s.idxOf k < s.idxOf i)
 | [], _, _, i, hi, _, _ => by cases hi
 | i0 :: s, D, ⟨h1, h2, h3, h4⟩, i, hi, k, hk => by
  by_cases q : i = i0
  ·subst q
   exact .inl (h3 k hk)
  ·have his : i ∈ s := (List.mem_cons.1 hi).resolve_left q
   rcases VB.ord h4 i his k hk with (z | z) | ⟨z1, z2⟩
   ·exact .inl z
   ·subst z
    right
    refine ⟨List.mem_cons_self, ?_⟩
    rw [List.idxOf_cons_self, idx_ne _ (fun e => q e.symm)]
    omega
   ·by_cases hk0 : k = i0
    ·subst hk0
     right
     refine ⟨List.mem_cons_self, ?_⟩
     rw [List.idxOf_cons_self, idx_ne _ (fun e => q e.symm)]
     omega
    ·right
     refine ⟨List.mem_cons_of_mem _ z1, ?_⟩
     rw [idx_ne _ (fun e => hk0 e.symm), idx_ne _ (fun e => q e.symm)]
     omega
theorem VB.cover {B : Nat → Nat} : ∀ {s : List Nat} {D : Nat → Prop}, VB all B D s → ∀ i, i < all.size → D i ∨ i ∈ s
 | [], _, h, i, hi => .inl (h i hi)
 | i0 :: s, D, ⟨h1, h2, h3, h4⟩, i, hi => by
  rcases VB.cover h4 i hi with (z | z) | z
  ·exact .inl z
  ·subst z; exact .inr List.mem_cons_self
  ·exact .inr (List.mem_cons_of_mem _ z)
theorem VB.not {B : Nat → Nat} : ∀ {s : List Nat} {D : Nat → Prop}, VB all B D s → ∀ i, D i → i ∉ s
 | [], _, _, _, _ => by simp
 | i0 :: s, D, ⟨h1, h2, h3, h4⟩, i, hi => by
  intro q
  rcases List.mem_cons.1 q with z | z
  ·subst z; exact h2 hi
  ·exact VB.not h4 i (.inl hi) z
theorem VB.add {B B' : Nat → Nat} : ∀ {s : List Nat} {D : Nat → Prop}, VB all B D s → (∀ i, i ∈ s → ∀ k, (B' i).testBit k = true → D k ∨ (k ∈ s ∧ s.idxOf k < s.idxOf i)) → VB all B' D s
 | [], _, h, _ => h
 | i0 :: s, D, ⟨h1, h2, h3, h4⟩, g => by
  refine ⟨h1, h2, fun k hk => ?_, VB.add h4 fun i hi k hk => ?_⟩
  ·rcases g i0 List.mem_cons_self k hk with z | ⟨_, z⟩
   ·exact z
   ·rw [List.idxOf_cons_self] at z
    omega
  ·have hne : i ≠ i0 := fun q => VB.not h4 i0 (.inr rfl) (q ▸ hi)
   rcases g i (List.mem_cons_of_mem _ hi) k hk with z | ⟨z1, z2⟩
   ·exact .inl (.inl z)
   ·by_cases hk0 : k = i0
    ·exact .inl (.inr hk0)
    ·right
     refine ⟨(List.mem_cons.1 z1).resolve_left hk0, ?_⟩
     rw [idx_ne _ (fun e => hk0 e.symm), idx_ne _ (fun e => hne e.symm)] at z2
     omega
end
theorem Go.of_RSW {P : Program} {J : Jump} (hJ : JOk P J) {c : FC} {k : List AItem} {t : Tr AVal} {h : AH} {Q : AM → Prop}
  (H : ∀ (w0 : Base) (e : Env) (W : World) (F : Frame) (cs : List Frame), F.mode = .run → TRel e c.n t F.tmps → HR P w0 e h W → TD e c.n F.tmps t k F.todo →
   ∃ k2 r K2, IRs e k2 K2 ∧ RS P w0 F c.n cs e (lone F cs W) K2 r ∧ GoR P J c k2 Q r) : Go P c k t h Q := by
 intro w0 e W F Fr cs hF rr
 have hF' : FRs P e (c.fr k t :: c.rest) (F :: Fr) := hF
 cases hF' with
 | cons h1 hFr =>
  have hm := run_mode h1
  obtain ⟨k2, r, K2, hK2, hRS, g⟩ := H w0 e W F (Fr ++ cs) hm h1.tm rr (h1.todo rfl)
  have exec : ∀ {r' : R} {m' : AM}, RS P w0 F c.n (Fr ++ cs) e (lone F (Fr ++ cs) W) [] r' → aExec P J c.fn c.n c.ds c.dk c.rd c.rest r' = some m' → Reach P m' Q → ∃ m', Q m' ∧ SS P w0 cs (lone F (Fr ++ cs) W) m' := by
   intro r' m' hr hx hq
   obtain ⟨e1, F1, Fr1, W1, s1, s2, s3⟩ := exec_sim hJ hx hm h1 hFr hr
   obtain ⟨m2, h2, hs⟩ := hq w0 e1 W1 F1 Fr1 cs s2 s3
   exact ⟨m2, h2, SS.head s1 hs⟩
  cases r with
  | stuck i => exact g.elim
  | norm t' h' =>
   obtain ⟨e', T', W', s1, s2, s3, s4⟩ := hRS
   obtain ⟨m2, h2, hs⟩ := g w0 e' W' (Frame.w F T' K2) Fr cs (.cons (FR.todo_set (h1.mono s2) s3 (.plain (hK2.mono s2))) (hFr.mono s2)) s4
   exact ⟨m2, h2, SS.head s1 hs⟩
  | ret t' h' =>
   obtain ⟨m', hx, hq⟩ := g
   obtain ⟨e', T', W', J', s1, s2, s3, s4⟩ := hRS
   exact exec (r' := .ret t' h') ⟨e', T', W', J', s1, s2, s3, s4⟩ hx hq
  | susp s t' x =>
   obtain ⟨m', hx, hq⟩ := g
   obtain ⟨e', T', W', J', s1, s2, s3, s4, s5⟩ := hRS
   exact exec (r' := .susp (s ++ k2) t' x) ⟨e', T', W', J' ++ K2, by simpa using s1, s2, s3, s4.append (hK2.mono s2), s5.append⟩ hx hq
  | slow s t' h' =>
   obtain ⟨m', hx, hq⟩ := g
   obtain ⟨e', T', W', J', s1, s2, s3, s4, s5⟩ := hRS
   exact exec (r' := .slow (s ++ k2) t' h') ⟨e', T', W', J' ++ K2, by simpa using s1, s2, s3, s4.append (hK2.mono s2), s5⟩ hx hq
  | exit id t' h' =>
   obtain ⟨e', T', W', J', s1, sx, s2, s3, s4⟩ := hRS
   have hrel := exitA_rel (id := id) (hK2.mono s2)
   dsimp only [GoR] at g
   cases hx : exitA id k2 with
   | some k' =>
    rw [hx] at g hrel
    obtain ⟨K', q1, q2⟩ := hrel
    have hex := st_exit (P := P) (b := F) hm (T := T') (k := J' ++ K2) (cs := Fr ++ cs) (W := W') (id := id) (k' := K') (by rw [sx, q1])
    obtain ⟨m2, h2, hs⟩ := g w0 e' W' (Frame.w F T' K') Fr cs (.cons (FR.todo_set (h1.mono s2) s3 (.plain q2)) (hFr.mono s2)) s4
    exact ⟨m2, h2, SS.head (s1.trans (.one hex)) hs⟩
   | none =>
    rw [hx] at g hrel
    obtain ⟨m', hq1, hq2⟩ := g
    refine exec (r' := .exit id t' h') ⟨e', T', W', J' ++ K2, by simpa using s1, ?_, s2, s3, s4⟩ hq1 hq2
    rw [List.append_nil, sx, hrel]; rfl
theorem Go.drawnX {P : Program} {all : Array Oper} {c : FC} {k : List AItem} {id : Nat} {t : Tr AVal} {h : AH} {Q : AM → Prop} {b1 o1 : List Nat} {c1 : List DOp} (h1 : planX all b1 o1 = some c1)
  (H : ∀ s, VB all (nthN (befs0 all)) (fun _ => False) s → ∃ befs order pl, planX all befs order = some pl ∧ VB all (nthN befs) (fun _ => False) s ∧ GoE P c k Q all pl (eraseT all.toList t) [] t h) :
  Go P c (.code (.region id all true) :: k) t h Q := by
 have ro1 := (planX_ok h1).1
 refine Go.of_RSW noJ_ok fun w0 e W F cs hm hT r htd => ?_
 obtain ⟨IT, K, q1, q2, q3⟩ := plain_head htd (fun _ _ _ _ q => by cases q) (fun _ _ _ _ q => by cases q)
 cases q2
 obtain ⟨s, hs⟩ : ∃ s, Region.schedule (P.follows .mixedOrders) all (W.tape W.drawn (.order F.fn id)) = s := ⟨_, rfl⟩
 have hvb : VB all (nthN (befs0 all)) (fun _ => False) s := by
  rw [← hs]
  exact VS.toB (fun i k hi hk => befs_sound i hi k hk) _ _ (fun _ _ q => q.elim) (schedule_VS ro1 _ _)
 obtain ⟨befs, order, pl, p1, p2, p3⟩ := H s hvb
 obtain ⟨ro, hcv⟩ := planX_ok p1
 refine ⟨k, _, K, q3, ?_, p3⟩
 rw [Frame.w_self q1]
 have hstep : step P (lone (Frame.w F F.tmps (.code (.region id all true) :: K)) cs W) =
   .next (lone (Frame.w F F.tmps (.inRegion all s :: K)) cs { W with drawn := W.drawn + 1 }) := by
  rw [← hs]
  exact step_lone_go (by simp [stepG, stepG.exec, Frame.w, hm, choose, Sem.run, Question.forced, Question.cut])
 refine RS.head (.one hstep) (Env.le_refl e) ?_
 have hb : F.mode = .run := hm
 refine runC_sim hb (B := nthN befs) pl (V := fun _ => undefA) (tc := t) (D := fun _ => False) (A := fun _ => False) (t0 := t) (facts := []) ?_ ?_ ?_ (r.drew _)
 ·refine ⟨ro, hT, ?_, ⟨fun _ _ _ _ _ => ⟨fun q => q.elim, fun _ => rfl⟩, fun _ _ => rfl⟩, ⟨fun _ _ _ _ _ => ⟨fun q => q.elim, fun _ => rfl⟩, fun _ _ => rfl⟩,
   fun _ q => q.elim, fun _ _ q => q.elim, fun _ _ _ q => q.elim, p2, hcv⟩
  intro x a hx
  have hl : ∀ o ∈ all.toList, ∀ d, o.dst = some d → d < 1000000 := by
   intro o ho d hd
   obtain ⟨i, hi, rfl⟩ := List.getElem_of_mem ho
   exact ro.dst i _ d (by simp at hi; simp [hi]) hd
  obtain ⟨q1, q2⟩ := eraseT_get hb all.toList t x a hl hx
  exact ⟨q1, fun i o ho => q2 o (Array.mem_toList_iff.2 (Array.mem_of_getElem? ho))⟩
 ·intro i _ q; exact q.elim
 ·intro f hf; cases hf
end Go.AbsE

set_option linter.unusedSimpArgs false
namespace Go.AbsE
open Go
section
variable {all : Array Oper}
theorem VB.lt {B : Nat → Nat} : ∀ {s : List Nat} {D : Nat → Prop}, VB all B D s → ∀ i, i ∈ s → i < all.size
 | [], _, _, _, h => by cases h
 | i0 :: s, D, ⟨h1, h2, h3, h4⟩, i, h => by
  rcases List.mem_cons.1 h with q | q
  ·subst q; exact h1
  ·exact VB.lt h4 i q
theorem idx_inj {a b : Nat} : ∀ {s : List Nat}, a ∈ s → s.idxOf a = s.idxOf b → a = b
 | [], h, _ => by cases h
 | x :: s, h, q => by
  by_cases ha : x = a
  ·subst ha
   rw [List.idxOf_cons_self] at q
   by_cases hb : x = b
   ·exact hb
   ·rw [idx_ne _ hb] at q
    omega
  ·have has : a ∈ s := (List.mem_cons.1 h).resolve_left (fun e => ha e.symm)
   rw [idx_ne _ ha] at q
   by_cases hb : x = b
   ·subst hb
    rw [List.idxOf_cons_self] at q
    omega
   ·rw [idx_ne _ hb] at q
    exact idx_inj has (by omega)
noncomputable def chkAlt (N : Nat) (base befs : List Nat) (E : List (Nat × Nat)) : Bool :=
 (List.range N).all fun i => decide (nthN befs i < 2 ^ N) && (List.range N).all fun k => !((nthN befs i).testBit k) || (nthN base i).testBit k || E.contains (k, i)
theorem VB.alt {s base befs : List Nat} {N : Nat} (hv : VB all (nthN (befs0 all)) (fun _ => False) s) (hb : befs0 all = base) (hn : all.size = N) (E : List (Nat × Nat)) (hc : chkAlt N base befs E = true)
  (hE : ∀ e, e ∈ E → s.idxOf e.1 < s.idxOf e.2) : VB all (nthN befs) (fun _ => False) s := by
 subst hn
 rw [hb] at hv
 refine VB.add hv fun i hi k hk => .inr ?_
 have hil := VB.lt hv i hi
 unfold chkAlt at hc
 have h1 := List.all_eq_true.1 hc i (List.mem_range.2 hil)
 rw [Bool.and_eq_true] at h1
 have hk2 : k < all.size := by
  rcases Nat.lt_or_ge k all.size with q | q
  ·exact q
  ·have := Nat.testBit_lt_two_pow (x := nthN befs i) (i := k) (Nat.lt_of_lt_of_le (of_decide_eq_true h1.1) (Nat.pow_le_pow_right (by omega) q))
   rw [this] at hk
   cases hk
 have h2 := List.all_eq_true.1 h1.2 k (List.mem_range.2 hk2)
 rw [hk] at h2
 simp only [Bool.not_true, Bool.false_or, Bool.or_eq_true] at h2
 rcases h2 with q | q
 ·rcases VB.ord hv i hi k q with z | z
  ·exact z.elim
  ·exact z
 ·refine ⟨(VB.cover hv k hk2).resolve_left id, hE (k, i) (by simpa using q)⟩
theorem VB.before {s base : List Nat} (hv : VB all (nthN (befs0 all)) (fun _ => False) s) (hb : befs0 all = base) (i k : Nat) (hi : i < all.size) (hk : (nthN base i).testBit k = true) : s.idxOf k < s.idxOf i := by
 rw [hb] at hv
 rcases VB.ord hv i ((VB.cover hv i hi).resolve_left id) k hk with z | z
 ·exact z.elim
 ·exact z.2
theorem VB.apart {s base : List Nat} (hv : VB all (nthN (befs0 all)) (fun _ => False) s) (hb : befs0 all = base) (i k : Nat) (hi : i < all.size) (hne : i ≠ k) : s.idxOf i ≠ s.idxOf k := by
 rw [hb] at hv
 exact fun q => hne (idx_inj ((VB.cover hv i hi).resolve_left id) q)
end
section
variable {P : Program} {c : FC} {k : List AItem} {Q : AM → Prop} {all : Array Oper} {pl rest : List DOp} {tf ta : Tr AVal} {facts left : List DFact} {i bef d : Nat} {h : AH}
theorem GoE.alloc {dst : Option Tmp} {tt : TypeId} {pos : String} {after : Array Edge} {guard : Option (Nat × Bool)} {el : TypeId} {z : AVal} (hl : pl = ⟨i, bef, false, ⟨dst, .alloc el, tt, pos, after, guard⟩, false⟩ :: rest) (hw : wantedA all ta ⟨dst, .alloc el, tt, pos, after, guard⟩ = some true)
  (hz : zeroT P el = some z) (hleft : dropF bef facts = left) (hd : dst = some d) (hdn : Nat.blt d c.n = true)
  (g : ∀ h1, Ext h h1 → Has h1 h.next (.cells .plain z.cells el) → recheck P h1 left = true ∧ GoE P c k Q all rest tf left (ta.put (pth d) (some (.ptr h.next 0))) h1) : GoE P c k Q all pl tf facts ta h := by
 obtain ⟨h1, q⟩ := new_some h (.cells .plain z.cells el)
 obtain ⟨_, q2, q3⟩ := new_ext q
 obtain ⟨g1, g2⟩ := g h1 q2 q3
 refine GoE.noisy0 (v := .ptr h.next 0) (h1 := h1) hl hw ?_ hleft g1 (prepD_some hd hdn) g2
 show opAlloc P h el = _
 unfold opAlloc
 rw [hz]
 simp only [q, ptrTo]
end
end Go.AbsE
namespace Go.AbsE
open Go
section
variable {P : Program} {c : FC} {k : List AItem} {t : Tr AVal} {h : AH} {Q : AM → Prop}
theorem gS {x y : Code} (g : Go P c (.code x :: .code y :: k) t h Q) : Go P c (.code (.seq x y) :: k) t h Q := Go.seq noJ_ok g
theorem gR {id : Nat} {ops : Array Oper} {l : List Oper} (hl : ops.toList = l) (g : GoR P noJ c k Q (runOps P c.n ops l 0 t h)) : Go P c (.code (.region id ops false) :: k) t h Q := Go.region noJ_ok hl g
theorem gE {J : Jump} {all : Array Oper} {i : Nat} (g : Go P c k t h Q) : GoR P J c k Q (runOps P c.n all [] i t h) := g
theorem np {v : AVal} {X : AH → Prop} : ∀ chain h', ¬ (AEnd.pan chain = .ret v ∧ X h') := by
 rintro _ _ ⟨q, _⟩
 cases q
theorem dt {p : Prop} [Decidable p] (h : p) : decide p = true := decide_eq_true h
theorem df {p : Prop} [Decidable p] (h : ¬ p) : decide p = false := decide_eq_false h
end
section
variable {P : Program} {t : Tr AVal} {h : AH} {dst : Option Tmp} {ty tt ty2 : TypeId} {pos : String} {after : Array Edge} {guard : Option (Nat × Bool)} {x y : Operand} {a b : Int} (hx : ev t x = some (.int .i64 a)) (hy : ev t y = some (.int .i64 b))
include hx hy
theorem aA (hi : -9223372036854775808 ≤ a + b ∧ a + b ≤ 9223372036854775807 := by omega) : aOp P t h ⟨dst, .binOp .add ty x y ty2, tt, pos, after, guard⟩ = some (.val (.int .i64 (a + b)) h) := aOp_add hx hy (by constructor <;> omega) rfl
theorem aS (hi : -9223372036854775808 ≤ a - b ∧ a - b ≤ 9223372036854775807 := by omega) : aOp P t h ⟨dst, .binOp .sub ty x y ty2, tt, pos, after, guard⟩ = some (.val (.int .i64 (a - b)) h) := aOp_sub hx hy (by constructor <;> omega) rfl
theorem kLT (q : a < b := by omega) : aOp P t h ⟨dst, .binOp .lss ty x y ty2, tt, pos, after, guard⟩ = some (.val (.bool true) h) := aOp_lss hx hy (decide_eq_true q)
theorem kLF (q : ¬ a < b := by omega) : aOp P t h ⟨dst, .binOp .lss ty x y ty2, tt, pos, after, guard⟩ = some (.val (.bool false) h) := aOp_lss hx hy (decide_eq_false q)
theorem kMT (q : a ≤ b := by omega) : aOp P t h ⟨dst, .binOp .leq ty x y ty2, tt, pos, after, guard⟩ = some (.val (.bool true) h) := aOp_leq hx hy (decide_eq_true q)
theorem kMF (q : ¬ a ≤ b := by omega) : aOp P t h ⟨dst, .binOp .leq ty x y ty2, tt, pos, after, guard⟩ = some (.val (.bool false) h) := aOp_leq hx hy (decide_eq_false q)
theorem kGT (q : b < a := by omega) : aOp P t h ⟨dst, .binOp .gtr ty x y ty2, tt, pos, after, guard⟩ = some (.val (.bool true) h) := aOp_gtr hx hy (decide_eq_true q)
theorem kGF (q : ¬ b < a := by omega) : aOp P t h ⟨dst, .binOp .gtr ty x y ty2, tt, pos, after, guard⟩ = some (.val (.bool false) h) := aOp_gtr hx hy (decide_eq_false q)
theorem kNT (q : b ≤ a := by omega) : aOp P t h ⟨dst, .binOp .geq ty x y ty2, tt, pos, after, guard⟩ = some (.val (.bool true) h) := aOp_geq hx hy (decide_eq_true q)
theorem kNF (q : ¬ b ≤ a := by omega) : aOp P t h ⟨dst, .binOp .geq ty x y ty2, tt, pos, after, guard⟩ = some (.val (.bool false) h) := aOp_geq hx hy (decide_eq_false q)
theorem kET (q : a = b := by omega) : aOp P t h ⟨dst, .binOp .eql ty x y ty2, tt, pos, after, guard⟩ = some (.val (.bool true) h) := aOp_eql hx hy (decide_eq_true q)
theorem kEF (q : ¬ a = b := by omega) : aOp P t h ⟨dst, .binOp .eql ty x y ty2, tt, pos, after, guard⟩ = some (.val (.bool false) h) := aOp_eql hx hy (decide_eq_false q)
theorem kXT (q : ¬ a = b := by omega) : aOp P t h ⟨dst, .binOp .neq ty x y ty2, tt, pos, after, guard⟩ = some (.val (.bool true) h) := aOp_neq hx hy (decide_eq_false q)
theorem kXF (q : a = b := by omega) : aOp P t h ⟨dst, .binOp .neq ty x y ty2, tt, pos, after, guard⟩ = some (.val (.bool false) h) := aOp_neq hx hy (decide_eq_true q)
end
theorem gW {P : Program} {f : FuncId} {n : Nat} {k : List AItem} {rest : List AFr} {t : Tr AVal} {h : AH} {R : AEnd → AH → Prop} {fn : Func} {l : List ResultVar} {vs : List AVal} (hf : P.funcs[f]? = some fn) (hl : fn.results.toList = l) (hv : aResults P h t l = some vs) (hR : R (.ret (oneOrTuple vs)) h) : Go P ⟨f, n, [], false, none, rest⟩ (.code .ret :: k) t h (Post P f rest R) := Go.ret noJ_ok (ret_end (aResult_of hf hl hv) hR)
theorem gO : type_of% @GoR.op := @GoR.op
theorem gP {P : Program} {J : Jump} {c : FC} {k : List AItem} {Q : AM → Prop} {all : Array Oper} {l : List Oper} {o : Oper} {rest : List Oper} {i : Nat} {t t' : Tr AVal} {h h' : AH} {v : AVal} (g : GoR P J c k Q (runOps P c.n all rest (i + 1) t' h')) (hl : l = o :: rest := by exact rfl) (hw : wantedA all t o = some true := by exact rfl)
  (hx : aOp P t h o = some (.val v h') := by exact rfl) (hd : (prepD c.n o).run t v = some t' := by exact rfl) : GoR P J c k Q (runOps P c.n all l i t h) := GoR.op hl hw hx hd g
theorem gQ : type_of% @GoE.quiet := @GoE.quiet
theorem gC {P : Program} : type_of% (@Go.cond P noJ noJ_ok) := @Go.cond P noJ noJ_ok
theorem gD {P : Program} : type_of% (@Go.code P noJ noJ_ok) := @Go.code P noJ noJ_ok
theorem gV {P : Program} : type_of% (@Go.ret P noJ noJ_ok) := @Go.ret P noJ noJ_ok
theorem dD {bef : Nat} {f : DFact} {l l' : List DFact} (b k : Nat) (q : dropF bef l = l') (hb : bit? b k = true := by rfl) (hf : bit? bef f.i = bit? b k := by rfl) : dropF bef (f :: l) = l' := dropF_drop (hf.trans hb) q
theorem dK {bef : Nat} {f : DFact} {l l' : List DFact} (b k : Nat) (q : dropF bef l = l') (hb : bit? b k = false := by rfl) (hf : bit? bef f.i = bit? b k := by rfl) : dropF bef (f :: l) = f :: l' := dropF_keep (hf.trans hb) q
theorem aCF : type_of% @aOp_callFunc := @aOp_callFunc
end Go.AbsE

set_option linter.unusedSimpArgs false
namespace Go.AbsE
open Go
section
variable {P : Program} {t : Tr AVal} {h : AH} {dst : Option Tmp} {tt : TypeId} {pos : String} {after : Array Edge} {guard : Option (Nat × Bool)} {x y : Operand}
theorem aOp_appendNew {el el2 eb t1 t2 : TypeId} {sz bytes b : Nat} {z s : AVal} {g0 : Kd} {L : List (List AVal)} (hu1 : P.underlying t1 = some (.slice el)) (hu2 : P.underlying t2 = some (.slice el2)) (hs : sizeT P el = some sz) (hby : bytesT P el = some bytes) (hz : zeroT P el = some z) (hzl : Nat.beq z.cells.length sz = true) (hsz : Nat.blt 0 sz = true)
  (hx : ev t x = some (.slice b 0 0 0)) (hb : Has h b (.cells g0 [] eb)) (hy : ev t y = some s) (hsl : SliceOf h sz s L) (hL : 0 < L.length) (hroom : (0 + L.length + 300) * 2 * (bytes + 1) < 281474976710656) :
  ∃ h1, aOp P t h ⟨dst, .call ⟨.builtin .append, #[x, y], #[t1, t2]⟩, tt, pos, after, guard⟩ = some (.val (.gsl h.next 0 0 L.length) h1) ∧ Ext h h1 ∧ Has h1 h.next (.cells .grow L.flatten el) := by
 obtain ⟨h1, q⟩ := new_some h (.cells .grow L.flatten el)
 obtain ⟨_, q2, q3⟩ := new_ext q
 refine ⟨h1, ?_, q2, q3⟩
 show opCall P t h ⟨.builtin .append, #[x, y], #[t1, t2]⟩ tt = _
 have he : evs t [x, y] = some [.slice b 0 0 0, s] := by simp only [evs, mapO, hx, hy]
 have hlt : Nat.blt ((0 + L.length + 300) * 2 * (bytes + 1)) 281474976710656 = true := Nat.ble_eq_true_of_le hroom
 have hold : srcCells h sz 0 (.slice b 0 0 0) = some [] := by
  show AbsE.loadCells h b 0 (0 * sz) = _
  unfold AbsE.loadCells
  rw [hb.2, Nat.zero_mul]
  rfl
 have hle : Nat.ble (0 + L.length) 0 = false := by
  cases q : Nat.ble (0 + L.length) 0 with
  | false => rfl
  | true => have := Nat.le_of_ble_eq_true q; omega
 have ha : aAppend P h t1 t2 (.slice b 0 0 0) s = some (.val (.gsl h.next 0 0 L.length) h1) := by
  unfold aAppend
  rw [hu1, hu2]
  simp only [hs, hby, hz, show lenA (.slice b 0 0 0) = some 0 from rfl, hsl.len, hsl.src, hlt, hsz, hzl, cond_true]
  unfold appSlice
  rw [hle, hold]
  simp only [cond_false, List.nil_append, Nat.zero_add]
  unfold growNew
  rw [q]
 simp only [opCall, he, callWith, aBuiltin, ha]
variable {c : FC} {k : List AItem} {Q : AM → Prop} {J : Jump} {all : Array Oper} {l lrest : List Oper} {i d : Nat}
theorem GoR.appendNew {el el2 eb t1 t2 : TypeId} {sz bytes b : Nat} {z s : AVal} {g0 : Kd} {L : List (List AVal)} (hl : l = ⟨dst, .call ⟨.builtin .append, #[x, y], #[t1, t2]⟩, tt, pos, after, guard⟩ :: lrest) (hw : wantedA all t ⟨dst, .call ⟨.builtin .append, #[x, y], #[t1, t2]⟩, tt, pos, after, guard⟩ = some true)
  (hu1 : P.underlying t1 = some (.slice el)) (hu2 : P.underlying t2 = some (.slice el2)) (hs : sizeT P el = some sz) (hby : bytesT P el = some bytes) (hz : zeroT P el = some z) (hzl : Nat.beq z.cells.length sz = true) (hsz : Nat.blt 0 sz = true)
  (hx : ev t x = some (.slice b 0 0 0)) (hb : Has h b (.cells g0 [] eb)) (hy : ev t y = some s) (hsl : SliceOf h sz s L) (hL : 0 < L.length) (hroom : (0 + L.length + 300) * 2 * (bytes + 1) < 281474976710656) (hd : dst = some d) (hdn : Nat.blt d c.n = true)
  (g : ∀ h1, Ext h h1 → Has h1 h.next (.cells .grow L.flatten el) → GoR P J c k Q (runOps P c.n all lrest (i + 1) (t.put (pth d) (some (.gsl h.next 0 0 L.length))) h1)) : GoR P J c k Q (runOps P c.n all l i t h) := by
 obtain ⟨h1, q1, q2, q3⟩ := aOp_appendNew (P := P) (dst := dst) (tt := tt) (pos := pos) (after := after) (guard := guard) hu1 hu2 hs hby hz hzl hsz hx hb hy hsl hL hroom
 exact GoR.op hl hw q1 (prepD_some hd hdn) (g h1 q2 q3)
end
end Go.AbsE

set_option linter.unusedSimpArgs false
namespace Go.AbsE
open Go
section
variable {P : Program} {t : Tr AVal} {h : AH} {dst : Option Tmp} {ty tt : TypeId} {pos : String} {after : Array Edge} {guard : Option (Nat × Bool)} {x y : Operand}
theorem aOp_mul {ty2 : TypeId} {a b r : Int} (hx : ev t x = some (.int .i64 a)) (hy : ev t y = some (.int .i64 b)) (hr : a * b = r) (hr2 : -9223372036854775808 ≤ r ∧ r ≤ 9223372036854775807) :
  aOp P t h ⟨dst, .binOp .mul ty x y ty2, tt, pos, after, guard⟩ = some (.val (.int .i64 r) h) := by
 refine aOp_bin hx hy ?_
 have hw : IntKind.i64.wrap r = r := by
  rw [← wrap64_eq]
  exact wrap64_in (by constructor <;> omega)
 have : pureRun P (binOp .mul ty (.int .i64 a) (.int .i64 b)) = some (.int .i64 r) := by
  show pureRun P (if IntKind.i64 ≠ IntKind.i64 then stuck "BinOp: operands of different kinds" else Op.intArith .mul .i64 a b) = _
  rw [if_neg (fun h => h rfl)]
  show some (Value.int .i64 (IntKind.i64.wrap (a * b))) = _
  rw [hr, hw]
 show (match pureRun P (binOp .mul ty (.int .i64 a) (.int .i64 b)) with | some v => absV v | none => none) = _
 rw [this]
 rfl
theorem aOp_convU16 {src dt : TypeId} {sd : TypeDesc} {w : Int} (hx : ev t x = some (.int .u16 w)) (hs : P.underlying src = some sd) (hu : P.underlying dt = some (.int .i64)) (hw : 0 ≤ w ∧ w < 65536) : aOp P t h ⟨dst, .convert src dt x, tt, pos, after, guard⟩ = some (.val (.int .i64 w) h) := by
 show opConvert P t h src dt x = _
 unfold opConvert
 rw [hx]
 have : pureRun P (convert src dt (.int .u16 w)) = some (.int .i64 w) := by
  unfold convert
  rw [pureRun_bind, pr_underlying hs]
  simp only [Option.bind_some, pureRun_bind, pr_underlying hu]
  have : IntKind.i64.wrap w = w := by
   rw [← wrap64_eq]
   exact wrap64_in (by constructor <;> omega)
  cases sd <;> (show pureRun P (Conv.intToInt .i64 w) = _; unfold Conv.intToInt; rw [this]; rfl)
 simp only [this]
 rfl
end
end Go.AbsE

set_option linter.unusedSimpArgs false
namespace Go.AbsE
open Go
section
variable {P : Program} {t : Tr AVal} {h : AH} {dst : Option Tmp} {ty tt : TypeId} {pos : String} {after : Array Edge} {guard : Option (Nat × Bool)} {x y : Operand}
theorem aResults_c {z : Tmp} {b off : Nat} {g : Kd} {cs l : List AVal} {el : TypeId} {v : AVal} {r : List ResultVar} (hx : t.get (pth z) = some (.ptr b off)) (hb : Has h b (.cells g cs el)) (hv : inCells P ty cs off = some v) (hr : aResults P h t r = some l) : aResults P h t (.cell z ty :: r) = some (v :: l) := by
 simp only [aResults, hx, loadVar_cells hb hv, hr]
end
theorem same_bool (b : Bool) : sameA (.bool b) (.bool b) = true := by cases b <;> rfl
def i64s (l : List Int) : List AVal := l.map (.int .i64)
theorem same_ints' : ∀ l : List Int, sameAs (i64s l) (i64s l) = true
 | [] => rfl
 | x :: l => by
  show cond (sameA (.int .i64 x) (.int .i64 x)) (sameAs (i64s l) (i64s l)) false = true
  rw [sameA_int, same_ints' l]
  rfl
theorem same_ints (l : List Int) : sameA (.agg (i64s l)) (.agg (i64s l)) = true := by
 simp only [sameA]
 exact same_ints' l
theorem rck {P : Program} {h : AH} {i : Nat} {v : AVal} {dst : Option Tmp} {op : Op} {tt : TypeId} {pos : String} {after : Array Edge} {guard : Option (Nat × Bool)} {t : Tr AVal} {h2 : AH} {l l0 : List DFact} (hl : l0 = ⟨i, ⟨dst, op, tt, pos, after, guard⟩, v, t, false⟩ :: l) (hx : aOp P t h ⟨dst, op, tt, pos, after, guard⟩ = some (.val v h2)) (hr : recheck P h l = true)
  (hs : sameA v v = true := by first | rfl | exact sameA_int _ _ | exact same_bool _ | exact sameA_agg2 _ _ | assumption | exact same_ints _ | (simp [sameA, sameAs, eqI_eq]; done)) : recheck P h l0 = true := recheck_cons hl hx hs hr
theorem ret_true {p : Prop} [Decidable p] (k : p) : AEnd.ret (.bool true) = .ret (.bool (decide p)) := by rw [decide_eq_true k]
theorem ret_false {p : Prop} [Decidable p] (k : ¬ p) : AEnd.ret (.bool false) = .ret (.bool (decide p)) := by rw [decide_eq_false k]
end Go.AbsE

namespace Go.AbsE
open Go
set_option linter.unusedSimpArgs false
set_option maxRecDepth 100000
section
variable {P : Program} {t : Tr AVal} {h : AH} {dst : Option Tmp} {ty tt : TypeId} {pos : String} {after : Array Edge} {guard : Option (Nat × Bool)} {x y : Operand}
theorem aOp_orNat {ty2 : TypeId} {a b r : Nat} (hx : ev t x = some (.int .i64 (a : Nat))) (hy : ev t y = some (.int .i64 (b : Nat))) (ha : a < 2 ^ 63) (hb : b < 2 ^ 63) (hr : a ||| b = r) :
  aOp P t h ⟨dst, .binOp .or ty x y ty2, tt, pos, after, guard⟩ = some (.val (.int .i64 (r : Nat)) h) := by
 refine aOp_bin hx hy ?_
 have hr2 : r < 2 ^ 63 := by rw [← hr]; exact Nat.or_lt_two_pow ha hb
 have : pureRun P (binOp .or ty (.int .i64 (a : Nat)) (.int .i64 (b : Nat))) = some (.int .i64 (r : Nat)) := by
  show pureRun P (if IntKind.i64 ≠ IntKind.i64 then stuck "BinOp: operands of different kinds" else Op.intBits .or .i64 (a : Nat) (b : Nat)) = _
  rw [if_neg (fun h => h rfl)]
  show some (Value.int .i64 (IntKind.i64.wrap ((BitVec.ofInt 64 (a : Nat) ||| BitVec.ofInt 64 (b : Nat)).toNat : Int))) = _
  have h1 : (BitVec.ofInt 64 (a : Nat) ||| BitVec.ofInt 64 (b : Nat)).toNat = r := by
   rw [BitVec.ofInt_natCast, BitVec.ofInt_natCast, BitVec.toNat_or, BitVec.toNat_ofNat, BitVec.toNat_ofNat, Nat.mod_eq_of_lt (by omega), Nat.mod_eq_of_lt (by omega)]
   exact hr
  rw [h1, i64_small (by omega)]
 show (match pureRun P (binOp .or ty (.int .i64 (a : Nat)) (.int .i64 (b : Nat))) with | some v => absV v | none => none) = _
 rw [this]
 rfl
end
theorem beq_len {α : Type} {l : List α} {n : Nat} (h : l.length = n) : Nat.beq l.length n = true := by rw [h]; exact Nat.beq_refl n
end Go.AbsE

set_option linter.unusedSimpArgs false
namespace Go.AbsE
open Go
section
variable {P : Program}
def vints (l : List Int) : Array Value := (l.map fun x => Value.int .i64 x).toArray
theorem vints_at {l : List Int} {i : Nat} {x : Int} (h : l[i]? = some x) : (vints l)[i]? = some (.int .i64 x) := by
 unfold vints
 simp [h]
theorem pr_eq_arr {t e : TypeId} {k : IntKind} {n : Nat} (h : P.underlying t = some (.array n e)) (he : P.underlying e = some (.int k)) (hs : sizeT P e = some 1) {d : Nat} {a b : List Int} (ha : a.length = n) (hb : b.length = n) :
  pureRun P (Op.equalIn (d + 2) t (.agg (vints a)) (.agg (vints b))) = some (decide (a = b)) := by
 unfold Op.equalIn
 rw [pureRun_bind, pr_underlying h]
 simp only [Option.bind_some, pureRun_bind, pr_sizeOf hs, Std.Legacy.Range.forIn_eq_forIn_range', Std.Legacy.Range.size, Nat.sub_zero, Nat.add_one_sub_one, Nat.div_one]
 have key : ∀ m s, s + m = n → pureRun P (forIn (List.range' s m) (none, ()) fun i __s => do
      let __do_lift ← part e (vints a) (i * 1)
      let __do_lift_1 ← part e (vints b) (i * 1)
      let __do_lift ← Op.equalIn (d + 1) e __do_lift __do_lift_1
      if (!__do_lift) = true then pure (ForInStep.done (some false, ()))
       else pure (ForInStep.yield ((none : Option Bool), ()))) = some (if a.drop s = b.drop s then (none, ()) else (some false, ())) := by
  intro m
  induction m with
  | zero =>
   intro s hs
   have h1 : a.drop s = [] := List.drop_of_length_le (by omega)
   have h2 : b.drop s = [] := List.drop_of_length_le (by omega)
   rw [h1, h2, if_pos rfl]
   rfl
  | succ m ih =>
   intro s hs
   have hsa : s < a.length := by omega
   have hsb : s < b.length := by omega
   have h1 : a.drop s = a[s] :: a.drop (s + 1) := List.drop_eq_getElem_cons hsa
   have h2 : b.drop s = b[s] :: b.drop (s + 1) := List.drop_eq_getElem_cons hsb
   have p1 : pureRun P (part e (vints a) (s * 1)) = some (.int .i64 a[s]) := pr_part_one he (by rw [Nat.mul_one]; exact vints_at (List.getElem?_eq_getElem hsa))
   have p2 : pureRun P (part e (vints b) (s * 1)) = some (.int .i64 b[s]) := pr_part_one he (by rw [Nat.mul_one]; exact vints_at (List.getElem?_eq_getElem hsb))
   have hr : List.range' s (m + 1) = s :: List.range' (s + 1) m := rfl
   rw [hr, List.forIn_cons, h1, h2]
   simp only [pureRun_bind, p1, p2, Option.bind_some, pr_eq_int he]
   by_cases q : a[s] = b[s]
   ·rw [beq_iff_eq.2 q]
    simp only [Bool.not_true, Bool.false_eq_true, if_false, pureRun_pure, Option.bind_some]
    rw [ih (s + 1) (by omega), q]
    simp only [List.cons.injEq, true_and]
   ·rw [beq_eq_false_iff_ne.2 q]
    simp only [Bool.not_false, if_true, pureRun_pure, Option.bind_some]
    rw [if_neg (fun z => q (by injection z))]
 have k0 := key n 0 (by omega)
 rw [k0]
 simp only [List.drop_zero]
 by_cases q : a = b
 ·rw [if_pos q, decide_eq_true q]; rfl
 ·rw [if_neg q, decide_eq_false q]; rfl
theorem pr_check_arr {t e : TypeId} {k : IntKind} {n : Nat} (h : P.underlying t = some (.array n e)) (he : P.underlying e = some (.int k)) (hs : sizeT P e = some 1) {d : Nat} {c : Bool} {a : List Int} (ha : a.length = n) :
  pureRun P (Instr.checkKey c (d + 2) t (.agg (vints a))) = some () := by
 unfold Instr.checkKey
 rw [pureRun_bind, pr_underlying h]
 simp only [Option.bind_some, pureRun_bind, pr_sizeOf hs, Std.Legacy.Range.forIn_eq_forIn_range', Std.Legacy.Range.size, Nat.sub_zero, Nat.add_one_sub_one, Nat.div_one]
 have key : ∀ m s, s + m = n → pureRun P (forIn (List.range' s m) PUnit.unit fun i __s => do
      let __do_lift ← sizeOf e
      let __do_lift ← part e (vints a) (i * __do_lift)
      Instr.checkKey c (d + 1) e __do_lift
      pure (ForInStep.yield PUnit.unit)) = some PUnit.unit := by
  intro m
  induction m with
  | zero => intro s _; rfl
  | succ m ih =>
   intro s hsm
   have hsa : s < a.length := by omega
   have p1 : pureRun P (part e (vints a) (s * 1)) = some (.int .i64 a[s]) := pr_part_one he (by rw [Nat.mul_one]; exact vints_at (List.getElem?_eq_getElem hsa))
   have hr : List.range' s (m + 1) = s :: List.range' (s + 1) m := rfl
   rw [hr, List.forIn_cons]
   simp only [pureRun_bind, pr_sizeOf hs, p1, Option.bind_some, pr_check_int he, pureRun_pure]
   exact ih (s + 1) (by omega)
 rw [key n 0 (by omega)]
 rfl
def FieldI (P : Program) (f : Field) (n : Nat) : Prop := f.name ≠ "_" ∧ ((n = 1 ∧ ∃ k, P.underlying f.type = some (.int k)) ∨ (sizeT P f.type = some n ∧ ∃ e k, P.underlying f.type = some (.array n e) ∧ P.underlying e = some (.int k) ∧ sizeT P e = some 1))
inductive FieldsI (P : Program) : Nat → List Field → Nat → Prop
 | nil (o : Nat) : FieldsI P o [] o
 | cons {o n N : Nat} {f : Field} {l : List Field} (h1 : FieldI P f n) (h2 : f.offset = o) (h3 : FieldsI P (o + n) l N) : FieldsI P o (f :: l) N
theorem FieldsI.le {o N : Nat} {l : List Field} (h : FieldsI P o l N) : o ≤ N := by
 induction h with
 | nil o => exact Nat.le_refl _
 | cons _ _ _ ih => omega
theorem vints_ext {a : List Int} {o n : Nat} : (vints a).extract o (o + n) = vints ((a.drop o).take n) := by
 unfold vints
 rw [List.extract_toArray, List.extract_eq_take_drop, ← List.map_drop, ← List.map_take]
 congr 3
 omega
theorem pr_eq_field {f : Field} {n o N : Nat} (F : FieldI P f n) {a b : List Int} (ha : a.length = N) (hb : b.length = N) (ho : o + n ≤ N) {d : Nat} :
  ((pureRun P (part f.type (vints a) o)).bind fun x => (pureRun P (part f.type (vints b) o)).bind fun y => pureRun P (Op.equalIn (d + 2) f.type x y)) = some (decide ((a.drop o).take n = (b.drop o).take n)) := by
 obtain ⟨_, ⟨rfl, k, hk⟩ | ⟨hs, e, k, h1, h2, h3⟩⟩ := F
 ·have hsa : o < a.length := by omega
  have hsb : o < b.length := by omega
  rw [pr_part_one hk (vints_at (List.getElem?_eq_getElem hsa)), pr_part_one hk (vints_at (List.getElem?_eq_getElem hsb))]
  simp only [Option.bind_some]
  rw [pr_eq_int hk, List.drop_eq_getElem_cons hsa, List.drop_eq_getElem_cons hsb, List.take_succ_cons, List.take_succ_cons, List.take_zero, List.take_zero]
  by_cases q : a[o] = b[o]
  ·rw [beq_iff_eq.2 q, q, decide_eq_true rfl]
  ·rw [beq_eq_false_iff_ne.2 q, decide_eq_false (fun z => q (by injection z))]
 ·rw [pr_part_array h1 hs, pr_part_array h1 hs]
  simp only [Option.bind_some]
  rw [vints_ext, vints_ext, pr_eq_arr h1 h2 h3 (by rw [List.length_take, List.length_drop]; omega) (by rw [List.length_take, List.length_drop]; omega)]
theorem pr_check_field {f : Field} {n o N : Nat} (F : FieldI P f n) {a : List Int} (ha : a.length = N) (ho : o + n ≤ N) {d : Nat} {c : Bool} :
  ((pureRun P (part f.type (vints a) o)).bind fun x => pureRun P (Instr.checkKey c (d + 2) f.type x)) = some () := by
 obtain ⟨_, ⟨rfl, k, hk⟩ | ⟨hs, e, k, h1, h2, h3⟩⟩ := F
 ·have hsa : o < a.length := by omega
  rw [pr_part_one hk (vints_at (List.getElem?_eq_getElem hsa))]
  simp only [Option.bind_some]
  exact pr_check_int hk
 ·rw [pr_part_array h1 hs]
  simp only [Option.bind_some]
  rw [vints_ext, pr_check_arr h1 h2 h3 (by rw [List.length_take, List.length_drop]; omega)]
structure KeyN (P : Program) (kt : TypeId) (N : Nat) : Prop where
 fs : ∃ fs : Array Field, P.underlying kt = some (.struct fs) ∧ FieldsI P 0 fs.toList N
 std : P.stoodInHeld kt = false
theorem pr_eq_keyN {kt : TypeId} {N : Nat} (K : KeyN P kt N) {a b : List Int} (ha : a.length = N) (hb : b.length = N) : pureRun P (Op.equal kt (.agg (vints a)) (.agg (vints b))) = some (decide (a = b)) := by
 obtain ⟨⟨fs, hu, hf⟩, hst⟩ := K
 show pureRun P (Op.equalIn (9999 + 1) kt _ _) = _
 unfold Op.equalIn
 rw [pureRun_bind, pr_underlying hu]
 simp only [Option.bind_some, pureRun_bind, pr_program, hst, Bool.false_eq_true, if_false, ← Array.forIn_toList]
 have key : ∀ (l : List Field) (o : Nat), FieldsI P o l N → pureRun P (forIn l (none, ()) fun f __s =>
      if f.name ≠ "_" then do
       let __do_lift ← part f.type (vints a) f.offset
       let __do_lift_1 ← part f.type (vints b) f.offset
       let __do_lift ← Op.equalIn 9999 f.type __do_lift __do_lift_1
       if (!__do_lift) = true then pure (ForInStep.done (some false, ()))
        else pure (ForInStep.yield ((none : Option Bool), ()))
      else pure (ForInStep.yield ((none : Option Bool), ()))) = some (if a.drop o = b.drop o then (none, ()) else (some false, ())) := by
  intro l o hl
  clear hf hu
  induction hl with
  | nil o =>
   rw [List.drop_of_length_le (by omega), List.drop_of_length_le (by omega), if_pos rfl]
   rfl
  | cons h1 h2 h3 ih =>
   rename_i o n N f l
   have hle := h3.le
   have e1 := pr_eq_field (d := 9997) h1 ha hb (by omega)
   rw [List.forIn_cons, if_pos h1.1]
   simp only [pureRun_bind]
   rw [h2]
   obtain ⟨x, hx⟩ : ∃ x, pureRun P (part f.type (vints a) o) = some x := by
    cases q : pureRun P (part f.type (vints a) o) with
    | none => rw [q] at e1; cases e1
    | some x => exact ⟨x, rfl⟩
   obtain ⟨y, hy⟩ : ∃ y, pureRun P (part f.type (vints b) o) = some y := by
    rw [hx] at e1
    cases q : pureRun P (part f.type (vints b) o) with
    | none => rw [q] at e1; cases e1
    | some x => exact ⟨x, rfl⟩
   rw [hx, hy] at e1
   simp only [Option.bind_some] at e1
   rw [hx, hy]
   simp only [Option.bind_some]
   rw [e1]
   have ha2 : a.drop o = (a.drop o).take n ++ a.drop (o + n) := by rw [← List.drop_drop, List.take_append_drop]
   have hb2 : b.drop o = (b.drop o).take n ++ b.drop (o + n) := by rw [← List.drop_drop, List.take_append_drop]
   have hla : ((a.drop o).take n).length = n := by rw [List.length_take, List.length_drop]; omega
   have hlb : ((b.drop o).take n).length = n := by rw [List.length_take, List.length_drop]; omega
   have iff : a.drop o = b.drop o ↔ (a.drop o).take n = (b.drop o).take n ∧ a.drop (o + n) = b.drop (o + n) := by
    constructor
    ·intro q
     refine ⟨by rw [q], ?_⟩
     rw [← List.drop_drop, ← List.drop_drop, q]
    ·rintro ⟨q1, q2⟩
     rw [ha2, hb2, q1, q2]
   by_cases q : (a.drop o).take n = (b.drop o).take n
   ·rw [decide_eq_true q]
    simp only [Option.bind_some, Bool.not_true, Bool.false_eq_true, if_false, pureRun_pure]
    rw [ih ha hb]
    by_cases q2 : a.drop (o + n) = b.drop (o + n)
    ·rw [if_pos q2, if_pos (iff.2 ⟨q, q2⟩)]
    ·rw [if_neg q2, if_neg (fun z => q2 (iff.1 z).2)]
   ·rw [decide_eq_false q]
    simp only [Option.bind_some, Bool.not_false, if_true, pureRun_pure]
    rw [if_neg (fun z => q (iff.1 z).1)]
 rw [key _ _ hf]
 simp only [List.drop_zero]
 by_cases q : a = b
 ·rw [if_pos q, decide_eq_true q]; rfl
 ·rw [if_neg q, decide_eq_false q]; rfl
theorem pr_check_keyN {kt : TypeId} {N : Nat} (K : KeyN P kt N) {a : List Int} (ha : a.length = N) {c : Bool} : pureRun P (Instr.checkKey c 10000 kt (.agg (vints a))) = some () := by
 obtain ⟨⟨fs, hu, hf⟩, hst⟩ := K
 show pureRun P (Instr.checkKey c (9999 + 1) kt _) = _
 unfold Instr.checkKey
 rw [pureRun_bind, pr_underlying hu]
 simp only [Option.bind_some, pureRun_bind, ← Array.forIn_toList]
 have key : ∀ (l : List Field) (o : Nat), FieldsI P o l N → pureRun P (forIn l PUnit.unit fun f __s =>
      if f.name ≠ "_" then do
       let __do_lift ← part f.type (vints a) f.offset
       Instr.checkKey c 9999 f.type __do_lift
       pure (ForInStep.yield PUnit.unit)
      else pure (ForInStep.yield PUnit.unit)) = some PUnit.unit := by
  intro l o hl
  clear hf hu
  induction hl with
  | nil o => rfl
  | cons h1 h2 h3 ih =>
   rename_i o n N f l
   have hle := h3.le
   have e1 := pr_check_field (d := 9997) (c := c) h1 ha (by omega)
   rw [List.forIn_cons, if_pos h1.1]
   simp only [pureRun_bind]
   rw [h2]
   obtain ⟨x, hx⟩ : ∃ x, pureRun P (part f.type (vints a) o) = some x := by
    cases q : pureRun P (part f.type (vints a) o) with
    | none => rw [q] at e1; cases e1
    | some x => exact ⟨x, rfl⟩
   rw [hx] at e1
   simp only [Option.bind_some] at e1
   rw [hx]
   simp only [Option.bind_some]
   rw [e1]
   simp only [Option.bind_some, pureRun_pure]
   exact ih ha
 rw [key _ _ hf]
 rfl
theorem sameBits_vints (l : List Int) : Instr.sameBits 10000 (.agg (vints l)) (.agg (vints l)) = true := by
 show Instr.sameBits (9999 + 1) (.agg _) (.agg _) = true
 unfold Instr.sameBits
 have : ∀ l : List Int, ((l.map fun x => Value.int .i64 x).zip (l.map fun x => Value.int .i64 x)).all (fun (x, y) => Instr.sameBits 9999 x y) = true := by
  intro l
  induction l with
  | nil => rfl
  | cons x l ih => simp only [List.map_cons, List.zip_cons_cons, List.all_cons, ih, Bool.and_true]; simp [Instr.sameBits]
 exact Bool.and_eq_true_iff.2 ⟨by simp, this l⟩
theorem grounds_i64s : ∀ l : List Int, grounds (i64s l) = some (l.map fun x => Value.int .i64 x) := by
 intro l
 induction l with
 | nil => rfl
 | cons a l ih =>
  unfold i64s at ih ⊢
  simp only [List.map_cons, grounds, AVal.ground, ih]
theorem ground_vints (l : List Int) : (AVal.agg (i64s l)).ground = some (.agg (vints l)) := by
 simp only [AVal.ground, grounds_i64s]
 rfl
end
section
variable {P : Program} {t : Tr AVal} {h : AH} {dst : Option Tmp} {ty tt : TypeId} {pos : String} {after : Array Edge} {guard : Option (Nat × Bool)} {x y : Operand} {c : FC} {k : List AItem} {Q : AM → Prop} {J : Jump} {all : Array Oper} {pl rest : List DOp} {tf ta : Tr AVal} {facts left : List DFact} {i bef d : Nat} {l lrest : List Oper}
theorem GoE.copyIn {t1 t2 el eb : TypeId} {sz b off len cap n : Nat} {s : AVal} {cs cs' new : List AVal} {g0 : Kd} (hl : pl = ⟨i, bef, false, ⟨dst, .call ⟨.builtin .copy, #[x, y], #[t1, t2]⟩, tt, pos, after, guard⟩, false⟩ :: rest) (hw : wantedA all ta ⟨dst, .call ⟨.builtin .copy, #[x, y], #[t1, t2]⟩, tt, pos, after, guard⟩ = some true)
  (hu1 : P.underlying t1 = some (.slice el)) (hs : sizeT P el = some sz) (hx : ev ta x = some (.slice b off len cap)) (hy : ev ta y = some s) (hn : lenA s = some n) (hm : Nat.min n len = n)
  (hsrc : srcCells h sz n s = some new) (hb : Has h b (.cells g0 cs eb)) (hg : g0.isRo = false) (hns : scalars new = true) (hsp : splice cs off new = some cs') (hleft : dropF bef facts = left) (hd : dst = some d) (hdn : Nat.blt d c.n = true)
  (g : ∀ h1, Upd h b (.cells g0 cs' eb) h1 → recheck P h1 left = true ∧ GoE P c k Q all rest tf left (ta.put (pth d) (some (.int .i64 n))) h1) : GoE P c k Q all pl tf facts ta h := by
 obtain ⟨h1, q1, q2⟩ := aOp_copyIn (P := P) (dst := dst) (tt := tt) (pos := pos) (after := after) (guard := guard) (t2 := t2) hu1 hs hx hy hn hm hsrc hb hg hns hsp
 obtain ⟨g1, g2⟩ := g h1 q2
 exact GoE.noisy0 hl hw q1 hleft g1 (prepD_some hd hdn) g2
end
end Go.AbsE

set_option linter.unusedSimpArgs false
namespace Go.AbsE
open Go
section
variable {P : Program}
end
end Go.AbsE

set_option linter.unusedSimpArgs false
namespace Go.AbsE
open Go
section
variable {P : Program}
def esN (L : List (List Int × AVal)) : List AMapE := L.mapIdx fun i x => ⟨.agg (vints x.1), x.2, i⟩
theorem esN_app (L : List (List Int × AVal)) (x : List Int × AVal) : esN (L ++ [x]) = esN L ++ [⟨.agg (vints x.1), x.2, L.length⟩] := by unfold esN; rw [List.mapIdx_concat]
theorem esN_len (L : List (List Int × AVal)) : (esN L).length = L.length := by simp [esN]
theorem esN_at {L : List (List Int × AVal)} {en : AMapE} (h : en ∈ esN L) : ∃ i x, L[i]? = some x ∧ en = ⟨.agg (vints x.1), x.2, i⟩ := by
 unfold esN at h
 obtain ⟨i, hi, rfl⟩ := List.mem_mapIdx.1 h
 exact ⟨i, L[i], by simp [hi], rfl⟩
theorem esN_born {L : List (List Int × AVal)} : ∀ en, en ∈ esN L → en.born < L.length := by
 intro en h
 obtain ⟨i, x, hx, rfl⟩ := esN_at h
 exact (List.getElem?_eq_some_iff.1 hx).1
theorem esN_dist (L : List (List Int × AVal)) : (esN L).Pairwise fun a b => a.born ≠ b.born := by
 unfold esN
 rw [List.pairwise_iff_getElem]
 intro i j hi hj hij
 rw [List.getElem_mapIdx, List.getElem_mapIdx]
 dsimp only
 omega
theorem mapSetN_new {kt : TypeId} {N : Nat} (K : KeyN P kt N) {k : List Int} (hk : k.length = N) (v : AVal) (clock : Nat) : ∀ (es : List AMapE), (∀ e, e ∈ es → ∃ m, e.key = .agg (vints m) ∧ m.length = N ∧ k ≠ m) →
  aMapSet P kt (.agg (vints k)) v clock es = some (es ++ [⟨.agg (vints k), v, clock⟩], clock + 1)
 | [], _ => rfl
 | e :: es, h => by
  have ih := mapSetN_new K hk v clock es fun x hx => h x (List.mem_cons_of_mem _ hx)
  obtain ⟨m, hm, hml, hne⟩ := h e List.mem_cons_self
  unfold aMapSet
  rw [hm, pr_eq_keyN K hk hml, decide_eq_false hne, ih]
  rfl
theorem aOp_mapNewN {t : Tr AVal} {h : AH} {dst : Option Tmp} {tt : TypeId} {pos : String} {after : Array Edge} {guard : Option (Nat × Bool)} {ty kt vt : TypeId} {N : Nat} {x k y : Operand} {b : Nat} {L : List (List Int × AVal)} {key : List Int} {v : AVal}
  (K : KeyN P kt N) (hu : P.underlying ty = some (.map kt vt)) (hx : ev t x = some (.map b)) (hk : ev t k = some (.agg (i64s key))) (hy : ev t y = some v) (h4 : key.length = N)
  (hb : Has h b (.map (esN L) L.length)) (hl : ∀ x, x ∈ L → x.1.length = N ∧ key ≠ x.1) :
  ∃ h', aOp P t h ⟨dst, .mapUpdate ty x k y, tt, pos, after, guard⟩ = some (.val undefA h') ∧ Upd h b (.map (esN (L ++ [(key, v)])) (L ++ [(key, v)]).length) h' := by
 obtain ⟨h', s1, s2⟩ := set_upd h b (.map (esN (L ++ [(key, v)])) (L ++ [(key, v)]).length)
 refine ⟨h', ?_, s2⟩
 show opMapUpdate P t h ty x k y = _
 unfold opMapUpdate
 rw [hu, hx, hk, hy]
 dsimp only
 rw [hb.2, ground_vints]
 dsimp only
 rw [pr_check_keyN K h4]
 dsimp only
 rw [mapSetN_new K h4 v L.length (esN L) (fun e he => by
  obtain ⟨i, x, hx, rfl⟩ := esN_at he
  exact ⟨x.1, rfl, hl x (List.mem_of_getElem? hx)⟩)]
 rw [esN_app, List.length_append] at s1
 dsimp only
 show (match h.set b (some (ABlk.map (esN L ++ [⟨.agg (vints key), v, L.length⟩]) (L.length + 1))) with | some h => some (ANext.val undefA h) | none => none) = _
 rw [show h.set b (some (ABlk.map (esN L ++ [⟨.agg (vints key), v, L.length⟩]) (L.length + 1))) = some h' from s1]
theorem GoR.mapNewN {J : Jump} {c : FC} {k : List AItem} {Q : AM → Prop} {all : Array Oper} {l : List Oper} {dst : Option Tmp} {tt : TypeId} {pos : String} {after : Array Edge} {guard : Option (Nat × Bool)} {rest : List Oper} {i : Nat} {t : Tr AVal} {h : AH} {ty kt vt : TypeId} {N : Nat} {x kx y : Operand} {b : Nat} {L : List (List Int × AVal)} {key : List Int} {v : AVal}
  (hl : l = ⟨dst, .mapUpdate ty x kx y, tt, pos, after, guard⟩ :: rest) (hw : wantedA all t ⟨dst, .mapUpdate ty x kx y, tt, pos, after, guard⟩ = some true) (K : KeyN P kt N) (hu : P.underlying ty = some (.map kt vt)) (hd : dst = none)
  (hx : ev t x = some (.map b)) (hk : ev t kx = some (.agg (i64s key))) (hy : ev t y = some v) (h4 : key.length = N) (hb : Has h b (.map (esN L) L.length)) (hn : ∀ x, x ∈ L → x.1.length = N ∧ key ≠ x.1)
  (g : ∀ h1, Upd h b (.map (esN (L ++ [(key, v)])) (L ++ [(key, v)]).length) h1 → GoR P J c k Q (runOps P c.n all rest (i + 1) t h1)) : GoR P J c k Q (runOps P c.n all l i t h) := by
 obtain ⟨h1, q1, q2⟩ := aOp_mapNewN (dst := dst) (tt := tt) (pos := pos) (after := after) (guard := guard) K hu hx hk hy h4 hb hn
 refine GoR.op hl hw q1 ?_ (g h1 q2)
 unfold prepD
 rw [show (⟨dst, .mapUpdate ty x kx y, tt, pos, after, guard⟩ : Oper).dst = none from hd]
theorem absS_ints : ∀ l : List Int, mapO absS (l.map fun x => Value.int .i64 x) = some (l.map fun x => AVal.int .i64 x)
 | [] => rfl
 | x :: l => by simp only [List.map_cons, mapO, absS, absS_ints l]
theorem absV_vints (l : List Int) : absV (.agg (vints l)) = some (.agg (i64s l)) := by
 have := absS_ints l
 unfold absV vints i64s
 simp only [this]
theorem perm_pick {es vs rs : List AMapE} {en : AMapE} (hp : (vs ++ rs).Perm es) (hen : en ∈ es) (hnew : en.born ∉ vs.map AMapE.born) : ∃ ra rb, rs = ra ++ en :: rb ∧ ((vs ++ [en]) ++ (ra ++ rb)).Perm es := by
 have hmem : en ∈ rs := by
  rcases List.mem_append.1 (hp.mem_iff.2 hen) with q | q
  ·exact absurd (List.mem_map.2 ⟨en, q, rfl⟩) hnew
  ·exact q
 obtain ⟨ra, rb, rfl⟩ := List.append_of_mem hmem
 refine ⟨ra, rb, rfl, List.Perm.trans ?_ hp⟩
 simp only [List.append_assoc, List.singleton_append]
 exact List.Perm.append_left _ List.perm_middle.symm
theorem perm_over {es vs rs : List AMapE} (hp : (vs ++ rs).Perm es) (hd : es.Pairwise fun a b => a.born ≠ b.born) (hall : ∀ en, en ∈ es → en.born ∈ vs.map AMapE.born) : rs = [] := by
 have hdist : (vs ++ rs).Pairwise fun a b => a.born ≠ b.born := (hp.symm.pairwise_iff (fun h => h.symm)).1 hd
 cases rs with
 | nil => rfl
 | cons x rs =>
  exfalso
  have hx : x ∈ es := hp.mem_iff.1 (by simp)
  obtain ⟨y, hy, hyb⟩ := List.mem_map.1 (hall x hx)
  rw [List.pairwise_append] at hdist
  exact hdist.2.2 y hy x (by simp) hyb
end
end Go.AbsE

set_option linter.unusedSimpArgs false
namespace Go.AbsE
open Go
inductive Cut (P : Program) (h : AH) (sz : Nat) : AVal → Nat → Prop
 | nil : Cut P h sz .nilslice 0
 | sl {b off n cap : Nat} (hle : n ≤ cap) : Cut P h sz (.slice b off n cap) n
 | gsl {b off i n : Nat} {cs : List AVal} {el : TypeId} (hb : Has h b (.cells .grow cs el)) (ho : off = i * sz) (hl : off + n * sz ≤ cs.length) (he : eqSize P el sz = true) : Cut P h sz (.gsl b off i n) n
theorem Cut.ext {P : Program} {h h' : AH} {sz n : Nat} {s : AVal} (k : Cut P h sz s n) (e : Ext h h') : Cut P h' sz s n := by
 cases k with
 | nil => exact .nil
 | sl hle => exact .sl hle
 | gsl hb ho hl he => exact .gsl (hb.ext e) ho hl he
theorem SliceOf.drop {h : AH} {sz b off i : Nat} {s s' : AVal} {L : List (List AVal)} (k : SliceOf h sz s L) (hs : aSlElems s = some (b, off, L.length)) (hs' : aSlElems s' = some (b, off + i * sz, L.length - i)) (hn' : lenA s' = some (L.length - i)) (hi : i ≤ L.length) : SliceOf h sz s' (L.drop i) := by
 cases k with
 | nil => simp [aSlElems] at hs
 | mk hs2 hn hb hl hz hc =>
  rw [hs] at hs2
  cases hs2
  refine .mk hs' hn' hb (by rw [List.length_drop]) (fun l hl => hz l (List.mem_of_mem_drop hl)) ?_
  have hp := loadCells_part (k := i * sz) (m := (L.length - i) * sz) hc (by rw [← Nat.add_mul, Nat.add_sub_cancel' hi]; exact Nat.le_refl _)
  rw [List.length_drop, hp]
  congr 1
  have e1 : (L.take i).flatten.length = i * sz := by
   rw [flatten_len (sz := sz) (fun l hl => hz l (List.mem_of_mem_take hl)), List.length_take, Nat.min_eq_left hi]
  have e2 : (L.drop i).flatten.length = (L.length - i) * sz := by
   rw [flatten_len (sz := sz) (fun l hl => hz l (List.mem_of_mem_drop hl)), List.length_drop]
  have e3 : L.flatten = (L.take i).flatten ++ (L.drop i).flatten := by rw [← List.flatten_append, List.take_append_drop]
  rw [e3, ← e1, List.drop_left, ← e2, List.take_length]
theorem grow_own {h : AH} {el : TypeId} {sz lo : Nat} {s : AVal} {n : Nat} {cs : List AVal} (k : Grow h el sz lo s n cs) {b : Nat} (hs : s = .gsl b 0 0 n) : lo ≤ b ∧ b < h.next := by
 rcases k.2 with ⟨rfl, _⟩ | ⟨_, b', h1, rfl, h3⟩
 ·cases hs
 ·cases hs; exact ⟨h1, h3.1⟩
theorem grow_extF {S : Nat → Prop} {h h' : AH} {el : TypeId} {sz lo : Nat} {s : AVal} {n : Nat} {cs : List AVal} (k : Grow h el sz lo s n cs) (e : ExtF S h h') (hS : ∀ b, S b → b < lo) : Grow h' el sz lo s n cs := by
 obtain ⟨k1, k2⟩ := k
 refine ⟨k1, ?_⟩
 rcases k2 with k2 | ⟨h0, b, h1, h2, h3⟩
 ·exact .inl k2
 ·exact .inr ⟨h0, b, h1, h2, h3.extF e (fun q => by have := hS b q; omega)⟩
theorem flat_slice {α : Type} {f : α → List AVal} {sz : Nat} (hf : ∀ p, (f p).length = sz) {l : List α} {d : Nat} {p : List AVal} (h : (l.map f)[d]? = some p) : slice? (l.flatMap f) (d * sz) sz = some p := by
 have := slice_flatten (sz := sz) (L := l.map f) (fun x hx => by obtain ⟨q, _, rfl⟩ := List.mem_map.1 hx; exact hf q) d p h
 rwa [← List.flatMap_def] at this
def CutAt (P : Program) (h : AH) (sz i : Nat) (s s' : AVal) : Prop := ∀ {t : Tr AVal} {dst : Option Tmp} {ty tt el : TypeId} {pos : String} {after : Array Edge} {guard : Option (Nat × Bool)} {x lo : Operand}, P.underlying ty = some (.slice el) → sizeT P el = some sz → ev t x = some s → ev t lo = some (.int .i64 (i : Nat)) →
 aOp P t h ⟨dst, .slice ty x (some lo) none none, tt, pos, after, guard⟩ = some (.val s' h)
theorem Cut.at {P : Program} {h : AH} {sz n i : Nat} {s : AVal} {L : List (List AVal)} (C : Cut P h sz s n) (S : SliceOf h sz s L) (hL : L.length = n) (hi : i < n) (h0 : 0 < sz) : ∃ s', CutAt P h sz i s s' ∧ SliceOf h sz s' (L.drop i) := by
 have hlo' : ∀ {t : Tr AVal} {lo : Operand}, ev t lo = some (.int .i64 (i : Nat)) → evO t (some lo) = some (some (.int .i64 (i : Nat))) := by
  intro t lo hlo
  show (match ev t lo with | some v => some (some v) | none => none) = _
  rw [hlo]
 cases C with
 | nil => omega
 | sl hle =>
  rename_i b off cap
  exact ⟨_, fun hu hs hx hlo => aOp_slice hu hs hx (hlo' hlo) rfl (cut_lo (by omega)) hle (by omega), S.drop (by rw [hL]; rfl) (by rw [hL]; rfl) (by rw [hL]; rfl) (by omega)⟩
 | gsl hb ho hl he =>
  rename_i b off j cs el2
  have key : ∀ s', (cond (Nat.beq i 0) (some (ANext.val (.gsl b off j n) h)) (cond (Nat.blt i n) (some (.val (.gsl b (off + i * sz) (j + i) (n - i)) h)) none)) = some (.val s' h) → CutAt P h sz i (.gsl b off j n) s' := by
   intro s' q t dst ty tt el pos after guard x lo hu hs hx hlo
   show opSlice P t h ty x (some lo) none = _
   unfold opSlice
   rw [hx, hlo' hlo, show evO t none = some none from rfl, hu]
   dsimp only
   rw [hs]
   show sliceOf P h sz (.gsl b off j n) (some (.int .i64 (i : Nat))) none = _
   unfold sliceOf
   simp only [cut_lo (n := n) (cap := n) (i := i) (by omega), hb.2]
   rw [show Nat.beq off (j * sz) = true by rw [ho]; exact Nat.beq_refl _, Nat.ble_eq_true_of_le hl, show Nat.blt 0 sz = true from Nat.ble_eq_true_of_le h0, he]
   exact q
  by_cases hi0 : i = 0
  ·subst hi0
   exact ⟨_, key _ rfl, S.drop (by rw [hL]; rfl) (by rw [hL]; simp [aSlElems]) (by rw [hL]; rfl) (by omega)⟩
  ·have h1 : Nat.beq i 0 = false := by
    cases q : Nat.beq i 0 with
    | false => rfl
    | true => exact absurd (Nat.eq_of_beq_eq_true q) hi0
   have h2 : Nat.blt i n = true := Nat.ble_eq_true_of_le hi
   exact ⟨_, key _ (by rw [h1, h2]; rfl), S.drop (by rw [hL]; rfl) (by rw [hL]; rfl) (by rw [hL]; rfl) (by omega)⟩
end Go.AbsE
