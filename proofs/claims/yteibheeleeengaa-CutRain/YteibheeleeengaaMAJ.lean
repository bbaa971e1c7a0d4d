import Derived.Test.YteibheeleeengaaMAF
import Derived.Test.YteibheeleeengaaChecked
import Derived.KernelRfl
import Derived.Test.YteibheeleeengaaMAH
import Derived.Test.YteibheeleeengaaMAI
import Derived.Test.YteibheeleeengaaMAG
namespace Go.Proofs.Yteibheeleeengaa
open Go Go.AbsE
theorem plan8_0 : plan (((drawnOps Try.f8)[0]?).getD #[]) = some (mkPlan (((drawnOps Try.f8)[0]?).getD #[]).toList [(0, 0, true, false), (1, 1, true, false), (2, 0, true, false), (3, 4, true, false), (4, 0, true, false),   (5, 16, true, false), (6, 48, true, false), (7, 124, true, false), (8, 255, true, false), (9, 511, true, false)]) := by kernel_rfl
theorem plan8_1 : plan (((drawnOps Try.f8)[1]?).getD #[]) = some (mkPlan (((drawnOps Try.f8)[1]?).getD #[]).toList [(0, 0, true, false), (1, 0, true, false), (2, 0, true, false), (3, 4, true, false), (4, 12, true, false),   (5, 28, true, false), (6, 0, true, false), (7, 64, true, false), (8, 192, true, false), (9, 508, true, false),   (10, 1020, true, false), (11, 0, true, false), (12, 2048, true, false), (13, 6144, true, false),   (14, 14336, true, false), (15, 0, true, false), (16, 32768, true, false), (17, 98304, true, false),   (18, 260096, true, false), (19, 522240, true, false), (20, 32765, true, false), (21, 1081341, true, false),   (22, 3178493, false, false), (23, 8388607, true, false), (24, 16777215, true, false), (25, 33554431, false, false)]) := by kernel_rfl
theorem plan8_2 : plan (((drawnOps Try.f8)[2]?).getD #[]) = some (mkPlan (((drawnOps Try.f8)[2]?).getD #[]).toList [(0, 0, true, false), (1, 1, true, false), (2, 3, true, false), (3, 0, true, false), (4, 8, true, false),   (5, 24, true, false), (6, 7, true, false), (7, 127, true, false)]) := by kernel_rfl
theorem plan8_3 : plan (((drawnOps Try.f8)[3]?).getD #[]) = some (mkPlan (((drawnOps Try.f8)[3]?).getD #[]).toList [(0, 0, true, false), (1, 1, true, false), (2, 0, true, false), (3, 0, true, false), (4, 8, true, false),   (5, 0, true, false), (6, 32, true, false), (7, 120, true, false), (8, 248, true, false), (9, 504, true, false),   (10, 1020, true, false), (11, 0, true, false), (12, 2048, true, false), (13, 6144, true, false),   (14, 16380, true, false), (15, 32767, true, false), (16, 65535, true, false), (17, 0, true, false),   (18, 131072, true, false), (19, 0, true, false), (20, 0, true, false), (21, 1048576, true, false),   (22, 0, true, false), (23, 4194304, true, false), (24, 15728640, true, false), (25, 32505856, true, false),   (26, 66060288, true, false), (27, 133693440, true, false), (28, 0, true, false), (29, 268435456, true, false),   (30, 805306368, true, false), (31, 2146959360, true, false), (32, 4294836224, true, false),   (33, 8589803520, true, false), (34, 131071, true, false), (35, 34359738367, true, false)]) := by kernel_rfl
theorem plan8_4 : plan (((drawnOps Try.f8)[4]?).getD #[]) = some (mkPlan (((drawnOps Try.f8)[4]?).getD #[]).toList [(0, 0, true, false), (1, 1, true, false), (2, 3, true, false), (3, 7, true, false), (4, 15, true, false),   (5, 31, true, false), (6, 63, true, false), (7, 127, true, false), (8, 127, true, false), (9, 127, true, false),   (10, 895, false, false), (11, 2047, true, false), (12, 4095, true, false), (13, 8191, true, false),   (14, 16383, true, false), (15, 32767, true, false), (16, 16383, true, false), (17, 81919, true, false),   (18, 262143, true, false), (19, 524287, true, false), (20, 1048575, true, false), (21, 2097151, true, false),   (22, 4194303, true, false), (23, 2097151, true, false), (24, 10485759, true, false), (25, 33554431, true, false),   (26, 67108863, true, false)]) := by kernel_rfl
theorem plan8_5 : plan (((drawnOps Try.f8)[5]?).getD #[]) = some (mkPlan (((drawnOps Try.f8)[5]?).getD #[]).toList [(0, 0, true, false), (1, 0, true, false), (2, 0, true, false), (3, 4, true, false), (4, 0, true, false),   (5, 16, true, false), (6, 48, true, false), (7, 124, true, false), (8, 255, false, false), (9, 511, true, false),   (10, 1023, true, false), (11, 1023, true, false), (12, 1023, true, false), (13, 2047, true, false),   (14, 12287, true, false), (15, 32767, true, false)]) := by kernel_rfl
theorem plan8_6 : plan (((drawnOps Try.f8)[6]?).getD #[]) = some (mkPlan (((drawnOps Try.f8)[6]?).getD #[]).toList [(0, 0, true, false), (1, 0, true, false), (2, 0, true, false), (3, 4, true, false), (4, 0, true, false),   (5, 16, true, false), (6, 48, true, false), (7, 124, true, false), (8, 255, false, false), (9, 511, true, false),   (10, 1023, true, false), (11, 1023, true, false), (12, 1023, true, false), (13, 2047, true, false),   (14, 12287, true, false), (15, 32767, true, false)]) := by kernel_rfl
theorem plan11_0 : plan (((drawnOps Try.f11)[0]?).getD #[]) = some (mkPlan (((drawnOps Try.f11)[0]?).getD #[]).toList [(0, 0, true, false), (1, 0, false, false), (2, 3, true, false), (3, 7, true, false), (4, 15, true, false),   (5, 31, true, false), (6, 63, true, false), (7, 127, true, false), (8, 255, true, false), (9, 255, false, false),   (10, 1023, true, false), (11, 2047, true, false), (12, 4095, true, false), (13, 8191, true, false),   (14, 16383, true, false), (15, 32767, true, false), (16, 65535, true, false), (17, 131071, true, false),   (18, 262143, true, false), (19, 524287, true, false), (20, 1048575, true, false), (21, 2097151, true, false),   (22, 4194303, true, false), (23, 8388607, true, false), (24, 16777215, true, false), (25, 33554431, true, false),   (26, 67108863, true, false), (27, 134217727, true, false), (28, 268435455, true, false), (29, 536870911, true, false),   (30, 1073741823, true, false), (31, 2147483647, true, false), (32, 4294967295, true, false),   (33, 8589934591, true, false), (34, 17179869183, true, false), (35, 34359738367, true, false),   (36, 68719476735, true, false), (37, 137438953471, true, false), (38, 274877906943, true, false),   (39, 549755813887, true, false), (40, 1099511627775, true, false), (41, 2199023255551, true, false),   (42, 4398046511103, true, false), (43, 8796093022207, true, false), (44, 17592186044415, true, false),   (45, 35184372088831, true, false), (46, 70368744177663, true, false), (47, 140737488355327, true, false)]) := by kernel_rfl
theorem plan11_1 : plan (((drawnOps Try.f11)[1]?).getD #[]) = some (mkPlan (((drawnOps Try.f11)[1]?).getD #[]).toList [(0, 0, true, false), (1, 1, true, false), (2, 3, true, false), (3, 7, true, false), (4, 15, true, false),   (5, 31, true, false), (6, 63, true, false), (7, 127, true, false), (8, 255, true, false), (9, 511, true, false),   (10, 1023, true, false), (11, 2047, true, false), (12, 4095, true, false), (13, 8191, true, false),   (14, 16383, true, false), (15, 32767, true, false), (16, 65535, true, false), (17, 131071, true, false),   (18, 262143, true, false), (19, 524287, true, false), (20, 1048575, true, false), (21, 2097151, true, false),   (22, 4194303, true, false), (23, 8388607, true, false), (24, 8388607, false, false), (25, 33554431, true, false),   (26, 67108863, true, false), (27, 134217727, true, false), (28, 268435455, true, false), (29, 536870911, true, false),   (30, 1073741823, true, false), (31, 2147483647, true, false)]) := by kernel_rfl
theorem plan18_0 : plan (((drawnOps Try.f18)[0]?).getD #[]) = some (mkPlan (((drawnOps Try.f18)[0]?).getD #[]).toList [(0, 0, true, false), (1, 0, true, false), (2, 0, true, false), (3, 1, false, false), (4, 11, false, false),   (5, 31, true, false)]) := by kernel_rfl
theorem plan21_0 : plan (((drawnOps Try.f21)[0]?).getD #[]) = some (mkPlan (((drawnOps Try.f21)[0]?).getD #[]).toList [(0, 0, true, false), (1, 0, true, false), (2, 2, true, false), (3, 0, true, false), (4, 14, true, false),   (5, 30, true, false), (6, 62, true, false), (7, 127, false, false), (8, 255, true, false), (9, 511, true, false),   (10, 1023, true, false), (11, 2047, true, false), (12, 1023, true, false), (13, 8191, true, false),   (14, 16383, true, false), (15, 32767, true, false), (16, 65535, false, false), (17, 131071, true, false),   (18, 262143, true, false)]) := by kernel_rfl
theorem plan26_0 : plan (((drawnOps Try.f26)[0]?).getD #[]) = some (mkPlan (((drawnOps Try.f26)[0]?).getD #[]).toList [(0, 0, true, false), (1, 0, true, false), (2, 0, true, false), (3, 1, false, false), (4, 11, false, false),   (5, 31, true, false)]) := by kernel_rfl
theorem plan36_0 : plan (((drawnOps Try.f36)[0]?).getD #[]) = some (mkPlan (((drawnOps Try.f36)[0]?).getD #[]).toList [(0, 0, true, false), (1, 0, true, false), (2, 2, true, false), (3, 6, true, false), (4, 14, true, false),   (5, 30, true, false), (6, 62, false, false), (7, 127, false, false), (8, 255, true, false)]) := by kernel_rfl
theorem plan37_0 : plan (((drawnOps Try.f37)[0]?).getD #[]) = some (mkPlan (((drawnOps Try.f37)[0]?).getD #[]).toList [(0, 0, true, false), (1, 0, true, false), (2, 2, true, false), (3, 6, false, false), (4, 15, false, false),   (5, 31, false, false), (6, 63, false, false)]) := by kernel_rfl
theorem plan38_0 : plan (((drawnOps Try.f38)[0]?).getD #[]) = some (mkPlan (((drawnOps Try.f38)[0]?).getD #[]).toList [(0, 0, true, false), (2, 0, true, false), (1, 1, false, false), (3, 7, false, false), (4, 15, true, false),   (5, 31, false, false)]) := by kernel_rfl
theorem plan40_0 : plan (((drawnOps Try.f40)[0]?).getD #[]) = some (mkPlan (((drawnOps Try.f40)[0]?).getD #[]).toList [(0, 0, true, false), (1, 0, true, false), (2, 2, true, false), (3, 6, true, false), (4, 14, true, false),   (5, 31, false, false), (6, 63, false, false), (7, 127, false, false)]) := by kernel_rfl
theorem plan41_1 : plan (((drawnOps Try.f41)[1]?).getD #[]) = some (mkPlan (((drawnOps Try.f41)[1]?).getD #[]).toList [(0, 0, true, false), (1, 0, true, false), (3, 0, true, false), (5, 0, true, false), (6, 0, true, false),   (8, 0, true, false), (2, 2, false, false), (4, 15, false, false), (7, 95, false, false), (9, 511, false, false),   (10, 1023, false, false), (11, 2047, false, false)]) := by kernel_rfl
theorem plan44_0 : plan (((drawnOps Try.f44)[0]?).getD #[]) = some (mkPlan (((drawnOps Try.f44)[0]?).getD #[]).toList [(0, 0, true, false), (1, 0, true, false), (2, 0, true, false), (4, 0, true, false), (3, 6, false, false),   (5, 31, false, false)]) := by kernel_rfl
theorem plan44_1 : plan (((drawnOps Try.f44)[1]?).getD #[]) = some (mkPlan (((drawnOps Try.f44)[1]?).getD #[]).toList [(0, 0, true, false), (1, 0, true, false), (2, 2, true, false), (3, 7, true, false), (4, 15, false, false)]) := by kernel_rfl
theorem plan49_0 : plan (((drawnOps Try.f49)[0]?).getD #[]) = some (mkPlan (((drawnOps Try.f49)[0]?).getD #[]).toList [(0, 0, true, false), (1, 0, true, false), (3, 0, true, false), (2, 3, false, false), (4, 15, false, false)]) := by kernel_rfl
theorem plan53_1 : plan (((drawnOps Try.f53)[1]?).getD #[]) = some (mkPlan (((drawnOps Try.f53)[1]?).getD #[]).toList [(0, 0, true, false), (2, 0, true, false), (4, 0, true, false), (1, 1, false, false), (3, 7, false, false),   (5, 31, false, false), (6, 63, false, false)]) := by kernel_rfl
theorem plan57_1 : plan (((drawnOps Try.f57)[1]?).getD #[]) = some (mkPlan (((drawnOps Try.f57)[1]?).getD #[]).toList [(0, 0, true, false), (1, 0, true, false), (2, 2, true, false), (4, 0, true, false), (5, 0, true, false),   (6, 32, true, false), (3, 7, false, false), (7, 127, false, false), (8, 255, false, false), (9, 511, false, false)]) := by kernel_rfl
theorem plan69_0 : plan (((drawnOps Try.f69)[0]?).getD #[]) = some (mkPlan (((drawnOps Try.f69)[0]?).getD #[]).toList [(0, 0, true, false), (1, 0, true, false), (2, 1, false, false), (3, 7, false, false)]) := by kernel_rfl
theorem plan70_0 : plan (((drawnOps Try.f70)[0]?).getD #[]) = some (mkPlan (((drawnOps Try.f70)[0]?).getD #[]).toList [(0, 0, true, false), (1, 0, true, false), (2, 0, true, false), (3, 6, false, false), (4, 15, false, false),   (5, 31, true, false)]) := by kernel_rfl
theorem plan79_0 : plan (((drawnOps Try.f79)[0]?).getD #[]) = some (mkPlan (((drawnOps Try.f79)[0]?).getD #[]).toList [(0, 0, true, false), (1, 0, true, false), (2, 2, true, false), (3, 6, true, false), (4, 15, false, false),   (5, 31, false, false)]) := by kernel_rfl
theorem plan86_0 : plan (((drawnOps Try.f86)[0]?).getD #[]) = some (mkPlan (((drawnOps Try.f86)[0]?).getD #[]).toList [(0, 0, true, false), (1, 0, true, false), (2, 2, true, false), (3, 0, true, false), (4, 0, true, false),   (5, 16, true, false), (6, 56, true, false), (7, 120, true, false), (8, 0, true, false), (9, 256, true, false),   (10, 768, true, false), (11, 1792, true, false), (12, 3840, true, false), (13, 7936, true, true),   (14, 16376, false, false), (15, 32767, true, false), (16, 65535, false, false)]) := by kernel_rfl
theorem plan86_1 : plan (((drawnOps Try.f86)[1]?).getD #[]) = some (mkPlan (((drawnOps Try.f86)[1]?).getD #[]).toList [(0, 0, true, false), (1, 0, true, false), (2, 0, true, false), (3, 0, true, false), (4, 12, true, false),   (5, 28, true, false), (6, 0, true, false), (7, 0, true, false), (8, 128, true, false), (9, 0, true, false),   (10, 512, true, false), (11, 1984, true, false), (12, 4032, true, false), (13, 8128, true, true),   (14, 16380, false, false), (15, 32767, true, false), (16, 65535, false, false)]) := by kernel_rfl
theorem plan94_0 : plan (((drawnOps Try.f94)[0]?).getD #[]) = some (mkPlan (((drawnOps Try.f94)[0]?).getD #[]).toList [(0, 0, true, false), (1, 0, true, false), (2, 3, true, false), (3, 0, true, false), (4, 0, true, false),   (5, 24, true, false), (6, 63, false, false), (7, 127, true, false)]) := by kernel_rfl
theorem plan112_0 : plan (((drawnOps Try.f112)[0]?).getD #[]) = some (mkPlan (((drawnOps Try.f112)[0]?).getD #[]).toList [(0, 0, true, false), (1, 0, true, false), (2, 2, true, false), (3, 6, true, false), (4, 0, true, false),   (5, 16, true, false), (6, 48, true, false), (7, 126, true, false), (8, 0, true, false), (9, 256, true, false),   (10, 1022, true, false), (12, 0, true, false), (13, 0, true, false), (14, 8192, true, false),   (15, 24576, true, false), (16, 0, true, false), (17, 65536, true, false), (18, 196608, true, false),   (19, 516096, true, false), (20, 0, true, false), (21, 1048576, true, false), (22, 4186112, true, false),   (11, 2047, false, false), (23, 8388607, false, false), (24, 16777215, true, false), (25, 33554431, true, false),   (26, 67108863, false, false)]) := by kernel_rfl
end Go.Proofs.Yteibheeleeengaa

set_option linter.unusedSimpArgs false
namespace Go.AbsE
open Go
section
variable {P : Program} {t : Tr AVal} {h : AH} {dst : Option Tmp} {tt : TypeId} {pos : String} {after : Array Edge} {guard : Option (Nat × Bool)} {x y : Operand}
theorem aOp_appendNew {el el2 eb t1 t2 : TypeId} {sz bytes b : Nat} {z s : AVal} {g0 : Kd} {L : List (List AVal)} (hu1 : P.underlying t1 = some (.slice el)) (hu2 : P.underlying t2 = some (.slice el2)) (hs : sizeT P el = some sz) (hby : bytesT P el = some bytes) (hz : zeroT P el = some z) (hzl : Nat.beq z.cells.length sz = true) (hsz : Nat.blt 0 sz = true)
  (hx : ev t x = some (.slice b 0 0 0)) (hb : Has h b (.cells g0 [] eb)) (hy : ev t y = some s) (hsl : SliceOf h sz s L) (hL : 0 < L.length) (hroom : (0 + L.length + 300) * 2 * (bytes + 1) < 281474976710656) :
  ∃ h1, aOp P t h ⟨dst, .call ⟨.builtin .append, #[x, y], #[t1, t2]⟩, tt, pos, after, guard⟩ = some (.val (.gsl h.next 0 0 L.length) h1) ∧ Ext h h1 ∧ Has h1 h.next (.cells .grow L.flatten el) := by
 obtain ⟨h1, q⟩ := new_some h (.cells .grow L.flatten el)
 obtain ⟨_, q2, q3⟩ := new_ext q
 refine ⟨h1, ?_, q2, q3⟩
 show opCall P t h ⟨.builtin .append, #[x, y], #[t1, t2]⟩ tt = _
 have he : evs t [x, y] = some [.slice b 0 0 0, s] := by simp only [evs, mapO, hx, hy]
 have hlt : Nat.blt ((0 + L.length + 300) * 2 * (bytes + 1)) 281474976710656 = true := Nat.ble_eq_true_of_le hroom
 have hold : srcCells h sz 0 (.slice b 0 0 0) = some [] := by
  show AbsE.loadCells h b 0 (0 * sz) = _
  unfold AbsE.loadCells
  rw [hb.2, Nat.zero_mul]
  rfl
 have hle : Nat.ble (0 + L.length) 0 = false := by
  cases q : Nat.ble (0 + L.length) 0 with
  | false => rfl
  | true => have := Nat.le_of_ble_eq_true q; omega
 have ha : aAppend P h t1 t2 (.slice b 0 0 0) s = some (.val (.gsl h.next 0 0 L.length) h1) := by
  unfold aAppend
  rw [hu1, hu2]
  simp only [hs, hby, hz, show lenA (.slice b 0 0 0) = some 0 from rfl, hsl.len, hsl.src, hlt, hsz, hzl, cond_true]
  unfold appSlice
  rw [hle, hold]
  simp only [cond_false, List.nil_append, Nat.zero_add]
  unfold growNew
  rw [q]
 simp only [opCall, he, callWith, aBuiltin, ha]
variable {c : FC} {k : List AItem} {Q : AM → Prop} {J : Jump} {all : Array Oper} {l lrest : List Oper} {i d : Nat}
theorem GoR.appendNew {el el2 eb t1 t2 : TypeId} {sz bytes b : Nat} {z s : AVal} {g0 : Kd} {L : List (List AVal)} (hl : l = ⟨dst, .call ⟨.builtin .append, #[x, y], #[t1, t2]⟩, tt, pos, after, guard⟩ :: lrest) (hw : wantedA all t ⟨dst, .call ⟨.builtin .append, #[x, y], #[t1, t2]⟩, tt, pos, after, guard⟩ = some true)
  (hu1 : P.underlying t1 = some (.slice el)) (hu2 : P.underlying t2 = some (.slice el2)) (hs : sizeT P el = some sz) (hby : bytesT P el = some bytes) (hz : zeroT P el = some z) (hzl : Nat.beq z.cells.length sz = true) (hsz : Nat.blt 0 sz = true)
  (hx : ev t x = some (.slice b 0 0 0)) (hb : Has h b (.cells g0 [] eb)) (hy : ev t y = some s) (hsl : SliceOf h sz s L) (hL : 0 < L.length) (hroom : (0 + L.length + 300) * 2 * (bytes + 1) < 281474976710656) (hd : dst = some d) (hdn : Nat.blt d c.n = true)
  (g : ∀ h1, Ext h h1 → Has h1 h.next (.cells .grow L.flatten el) → GoR P J c k Q (runOps P c.n all lrest (i + 1) (t.put (pth d) (some (.gsl h.next 0 0 L.length))) h1)) : GoR P J c k Q (runOps P c.n all l i t h) := by
 obtain ⟨h1, q1, q2, q3⟩ := aOp_appendNew (P := P) (dst := dst) (tt := tt) (pos := pos) (after := after) (guard := guard) hu1 hu2 hs hby hz hzl hsz hx hb hy hsl hL hroom
 exact GoR.op hl hw q1 (prepD_some hd hdn) (g h1 q2 q3)
end
end Go.AbsE

set_option linter.unusedSimpArgs false
namespace Go.AbsE
open Go
section
variable {P : Program} {t : Tr AVal} {h : AH} {dst : Option Tmp} {ty tt : TypeId} {pos : String} {after : Array Edge} {guard : Option (Nat × Bool)} {x y : Operand}
theorem aOp_mul {ty2 : TypeId} {a b r : Int} (hx : ev t x = some (.int .i64 a)) (hy : ev t y = some (.int .i64 b)) (hr : a * b = r) (hr2 : -9223372036854775808 ≤ r ∧ r ≤ 9223372036854775807) :
  aOp P t h ⟨dst, .binOp .mul ty x y ty2, tt, pos, after, guard⟩ = some (.val (.int .i64 r) h) := by
 refine aOp_bin hx hy ?_
 have hw : IntKind.i64.wrap r = r := by
  rw [← wrap64_eq]
  exact wrap64_in (by constructor <;> omega)
 have : pureRun P (binOp .mul ty (.int .i64 a) (.int .i64 b)) = some (.int .i64 r) := by
  show pureRun P (if IntKind.i64 ≠ IntKind.i64 then stuck "BinOp: operands of different kinds" else Op.intArith .mul .i64 a b) = _
  rw [if_neg (fun h => h rfl)]
  show some (Value.int .i64 (IntKind.i64.wrap (a * b))) = _
  rw [hr, hw]
 show (match pureRun P (binOp .mul ty (.int .i64 a) (.int .i64 b)) with | some v => absV v | none => none) = _
 rw [this]
 rfl
end
end Go.AbsE

set_option linter.unusedSimpArgs false
namespace Go.AbsE
open Go
section
variable {P : Program} {t : Tr AVal} {h : AH} {dst : Option Tmp} {ty tt : TypeId} {pos : String} {after : Array Edge} {guard : Option (Nat × Bool)} {x y : Operand}
theorem aOp_buildArr {el : TypeId} {len n : Nat} {parts : Array (Nat × Operand)} {ps : List (Nat × AVal)} {z : AVal} {cs : List AVal} (hz : zeroT P ty = some z) (hu : P.underlying ty = some (.array len el)) (hs : sizeT P el = some n)
  (hp : evParts t parts.toList = some ps) (hc : aFillA (fun i => some (i * n, n)) z.cells ps = some cs) : aOp P t h ⟨dst, .build ty parts, tt, pos, after, guard⟩ = some (.val (.agg cs) h) := by
 show opBuild P t h ty parts = _
 unfold opBuild
 rw [hz, hp, hu]
 simp only [hs, hc]
theorem aResults_c {z : Tmp} {b off : Nat} {g : Kd} {cs l : List AVal} {el : TypeId} {v : AVal} {r : List ResultVar} (hx : t.get (pth z) = some (.ptr b off)) (hb : Has h b (.cells g cs el)) (hv : inCells P ty cs off = some v) (hr : aResults P h t r = some l) : aResults P h t (.cell z ty :: r) = some (v :: l) := by
 simp only [aResults, hx, loadVar_cells hb hv, hr]
end
theorem same_bool (b : Bool) : sameA (.bool b) (.bool b) = true := by cases b <;> rfl
def i64s (l : List Int) : List AVal := l.map (.int .i64)
theorem same_ints' : ∀ l : List Int, sameAs (i64s l) (i64s l) = true
 | [] => rfl
 | x :: l => by
  show cond (sameA (.int .i64 x) (.int .i64 x)) (sameAs (i64s l) (i64s l)) false = true
  rw [sameA_int, same_ints' l]
  rfl
theorem same_ints (l : List Int) : sameA (.agg (i64s l)) (.agg (i64s l)) = true := by
 simp only [sameA]
 exact same_ints' l
theorem rck {P : Program} {h : AH} {i : Nat} {v : AVal} {dst : Option Tmp} {op : Op} {tt : TypeId} {pos : String} {after : Array Edge} {guard : Option (Nat × Bool)} {t : Tr AVal} {h2 : AH} {l l0 : List DFact} (hl : l0 = ⟨i, ⟨dst, op, tt, pos, after, guard⟩, v, t, false⟩ :: l) (hx : aOp P t h ⟨dst, op, tt, pos, after, guard⟩ = some (.val v h2)) (hr : recheck P h l = true)
  (hs : sameA v v = true := by first | rfl | exact sameA_int _ _ | exact same_bool _ | exact sameA_agg2 _ _ | assumption | exact same_ints _ | (simp [sameA, sameAs, eqI_eq]; done)) : recheck P h l0 = true := recheck_cons hl hx hs hr
theorem ret_true {p : Prop} [Decidable p] (k : p) : AEnd.ret (.bool true) = .ret (.bool (decide p)) := by rw [decide_eq_true k]
theorem ret_false {p : Prop} [Decidable p] (k : ¬ p) : AEnd.ret (.bool false) = .ret (.bool (decide p)) := by rw [decide_eq_false k]
end Go.AbsE

namespace Go.AbsE
open Go
set_option linter.unusedSimpArgs false
set_option maxRecDepth 100000
section
variable {P : Program} {t : Tr AVal} {h : AH} {dst : Option Tmp} {ty tt : TypeId} {pos : String} {after : Array Edge} {guard : Option (Nat × Bool)} {x y : Operand}
theorem aOp_orNat {ty2 : TypeId} {a b r : Nat} (hx : ev t x = some (.int .i64 (a : Nat))) (hy : ev t y = some (.int .i64 (b : Nat))) (ha : a < 2 ^ 63) (hb : b < 2 ^ 63) (hr : a ||| b = r) :
  aOp P t h ⟨dst, .binOp .or ty x y ty2, tt, pos, after, guard⟩ = some (.val (.int .i64 (r : Nat)) h) := by
 refine aOp_bin hx hy ?_
 have hr2 : r < 2 ^ 63 := by rw [← hr]; exact Nat.or_lt_two_pow ha hb
 have : pureRun P (binOp .or ty (.int .i64 (a : Nat)) (.int .i64 (b : Nat))) = some (.int .i64 (r : Nat)) := by
  show pureRun P (if IntKind.i64 ≠ IntKind.i64 then stuck "BinOp: operands of different kinds" else Op.intBits .or .i64 (a : Nat) (b : Nat)) = _
  rw [if_neg (fun h => h rfl)]
  show some (Value.int .i64 (IntKind.i64.wrap ((BitVec.ofInt 64 (a : Nat) ||| BitVec.ofInt 64 (b : Nat)).toNat : Int))) = _
  have h1 : (BitVec.ofInt 64 (a : Nat) ||| BitVec.ofInt 64 (b : Nat)).toNat = r := by
   rw [BitVec.ofInt_natCast, BitVec.ofInt_natCast, BitVec.toNat_or, BitVec.toNat_ofNat, BitVec.toNat_ofNat, Nat.mod_eq_of_lt (by omega), Nat.mod_eq_of_lt (by omega)]
   exact hr
  rw [h1, i64_small (by omega)]
 show (match pureRun P (binOp .or ty (.int .i64 (a : Nat)) (.int .i64 (b : Nat))) with | some v => absV v | none => none) = _
 rw [this]
 rfl
end
end Go.AbsE

namespace Go.Proofs.Yteibheeleeengaa
open Go Go.AbsE
set_option linter.unusedSimpArgs false
set_option maxRecDepth 100000
set_option maxHeartbeats 0
set_option linter.unusedVariables false
theorem inside_ok {n a b : Int} {h : AH} : Runs Try.prog 67 [.int .i64 n, .int .i64 a, .int .i64 b] h (fun en h' => en = .ret (.bool (decide (a ≤ n ∧ n ≤ b))) ∧ Ext h h') := by
 have e0 : Ext h h := Ext.refl _
 refine Runs.intro aFunc67 rfl rfl rfl rfl fun rest => ?_;apply gS;refine gR rfl ?_;refine gP ?_;apply gE;apply gS;refine gR rfl ?_;iterate 2 refine gP ?_
 by_cases hs0 : (a : Int) ≤ n
 ·refine gO rfl rfl (kMT rfl rfl) rfl ?_;iterate 3 refine gP ?_
  by_cases hs1 : (n : Int) ≤ b
  ·refine gO rfl rfl (kMT rfl rfl) rfl ?_;iterate 2 refine gP ?_
   apply gE;exact gV (ret_end (aResult_of Try.func67 rfl rfl) ⟨ret_true (by omega), e0⟩)
  ·refine gO rfl rfl (kMF rfl rfl) rfl ?_;iterate 2 refine gP ?_
   apply gE;exact gV (ret_end (aResult_of Try.func67 rfl rfl) ⟨ret_false (by omega), e0⟩)
 ·refine gO rfl rfl (kMF rfl rfl) rfl ?_;refine gP ?_;iterate 3 refine GoR.skip rfl rfl rfl ?_
  iterate 2 refine gP ?_
  apply gE;exact gV (ret_end (aResult_of Try.func67 rfl rfl) ⟨ret_false (by omega), e0⟩)
theorem inside_is {n a b : Int} {r : Bool} (hr : decide (a ≤ n ∧ n ≤ b) = r) {h : AH} : Runs Try.prog 67 [.int .i64 n, .int .i64 a, .int .i64 b] h (fun en h' => en = .ret (.bool r) ∧ Ext h h') := by
 rw [← hr]
 exact inside_ok
theorem within_ok {lo hi a b : Int} {h : AH} : Runs Try.prog 72 [.agg [.int .i64 lo, .int .i64 hi], .int .i64 a, .int .i64 b] h (fun en h' => en = .ret (.bool (decide (lo ≤ hi ∧ a ≤ lo ∧ hi ≤ b))) ∧ Ext h h') := by
 have e0 : Ext h h := Ext.refl _
 refine Runs.intro aFunc72 rfl rfl rfl rfl fun rest => ?_;apply gS;refine gR rfl ?_;refine GoR.box rfl rfl rfl rfl rfl rfl fun h0 x0 f0 => ?_;have := e0.1;replace e0 := e0.trans x0;have := f0.1;refine gP ?_;apply gE;apply gS;refine gR rfl ?_;refine gO rfl rfl (fa23_0 rfl) rfl ?_;refine gO rfl rfl (ld3 rfl f0 rfl) rfl ?_;refine gO rfl rfl (fa23_1 rfl) rfl ?_;refine gO rfl rfl (ld3 rfl f0 rfl) rfl ?_
 by_cases hs0 : (lo : Int) ≤ hi
 ·refine gO rfl rfl (kMT rfl rfl) rfl ?_;iterate 2 refine gP ?_
  refine gO rfl rfl (fa23_0 rfl) rfl ?_;refine gO rfl rfl (ld3 rfl f0 rfl) rfl ?_
  by_cases hs1 : (a : Int) ≤ lo
  ·refine gO rfl rfl (kMT rfl rfl) rfl ?_;iterate 2 refine gP ?_
   refine gO rfl rfl (fa23_1 rfl) rfl ?_;refine gO rfl rfl (ld3 rfl f0 rfl) rfl ?_;refine gP ?_
   by_cases hs2 : (hi : Int) ≤ b
   ·refine gO rfl rfl (kMT rfl rfl) rfl ?_;iterate 2 refine gP ?_
    apply gE;exact gV (ret_end (aResult_of Try.func72 rfl rfl) ⟨ret_true (by omega), e0⟩)
   ·refine gO rfl rfl (kMF rfl rfl) rfl ?_;iterate 2 refine gP ?_
    apply gE;exact gV (ret_end (aResult_of Try.func72 rfl rfl) ⟨ret_false (by omega), e0⟩)
  ·refine gO rfl rfl (kMF rfl rfl) rfl ?_;iterate 2 refine gP ?_
   iterate 4 refine GoR.skip rfl rfl rfl ?_
   iterate 2 refine gP ?_
   apply gE;exact gV (ret_end (aResult_of Try.func72 rfl rfl) ⟨ret_false (by omega), e0⟩)
 ·refine gO rfl rfl (kMF rfl rfl) rfl ?_;refine gP ?_;iterate 4 refine GoR.skip rfl rfl rfl ?_
  iterate 2 refine gP ?_
  iterate 4 refine GoR.skip rfl rfl rfl ?_
  iterate 2 refine gP ?_
  apply gE;exact gV (ret_end (aResult_of Try.func72 rfl rfl) ⟨ret_false (by omega), e0⟩)
theorem within_is {lo hi a b : Int} {r : Bool} (hr : decide (lo ≤ hi ∧ a ≤ lo ∧ hi ≤ b) = r) {h : AH} : Runs Try.prog 72 [.agg [.int .i64 lo, .int .i64 hi], .int .i64 a, .int .i64 b] h (fun en h' => en = .ret (.bool r) ∧ Ext h h') := by
 rw [← hr]
 exact within_ok
theorem meet_ok {a b : Int × Int} {h : AH} : Runs Try.prog 90 [.agg (spC a), .agg (spC b)] h (fun en h' => en = .ret (.agg (spC (meetV a b))) ∧ Ext h h') := by
 unfold spC meetV
 have e0 : Ext h h := Ext.refl _
 refine Runs.intro aFunc90 rfl rfl rfl rfl fun rest => ?_;apply gS;refine gR rfl ?_;refine GoR.box rfl rfl rfl rfl rfl rfl fun h0 x0 f0 => ?_;have := e0.1;replace e0 := e0.trans x0;have := f0.1;refine GoR.box rfl rfl rfl rfl rfl rfl fun h1 x1 f1 => ?_;have := e0.1;have := f0.1;replace f0 := f0.ext x1;replace e0 := e0.trans x1;have := f1.1;refine GoR.alloc rfl rfl rfl zt77 rfl rfl fun h2 x2 f2 => ?_;have := e0.1;have := f1.1;have := f0.1;replace f1 := f1.ext x2;replace f0 := f0.ext x2;replace e0 := e0.trans x2;have := f2.1;apply gE;apply gS;refine gR rfl ?_;refine gO rfl rfl (fa77_0 rfl) rfl ?_;refine gO rfl rfl (fa23_0 rfl) rfl ?_;refine gO rfl rfl (ld3 rfl f0 rfl) rfl ?_;refine gO rfl rfl (fa77_0 rfl) rfl ?_;refine gO rfl rfl (fa23_0 rfl) rfl ?_;refine gO rfl rfl (ld3 rfl f1 rfl) rfl ?_;refine gO rfl rfl (aOp_max2 rfl rfl (r := max a.1 b.1) (by split <;> omega)) rfl ?_;refine gO rfl rfl (fa77_0 rfl) rfl ?_;refine gO rfl rfl (fa23_1 rfl) rfl ?_;refine gO rfl rfl (ld3 rfl f0 rfl) rfl ?_;refine gO rfl rfl (fa77_0 rfl) rfl ?_;refine gO rfl rfl (fa23_1 rfl) rfl ?_;refine gO rfl rfl (ld3 rfl f1 rfl) rfl ?_;refine gO rfl rfl (aOp_min2 rfl rfl (r := min a.2 b.2) (by split <;> omega)) rfl ?_;refine gO rfl rfl (aOp_build zt23 hu23 pl23 rfl rfl) rfl ?_;refine gO rfl rfl (aOp_build zt77 hu77 pl77 rfl rfl) rfl ?_;refine GoR.store rfl rfl rfl rfl rfl rfl f2 rfl sz77 rfl rfl rfl fun h3 u3 => ?_;replace f2 := u3.has f2;replace e0 := e0.upd u3 (by omega);apply gE;exact gV (ret_end (aResult_of Try.func90 rfl (aResults_cell rfl f2 (inCells_agg ag77 sz77 rfl))) ⟨rfl, e0⟩)
theorem none_ok {a : Int × Int} {h : AH} : Runs Try.prog 87 [.agg (spC a)] h (fun en h' => en = .ret (.bool (decide (a.1 > a.2))) ∧ Ext h h') := by
 unfold spC
 have e0 : Ext h h := Ext.refl _
 refine Runs.intro aFunc87 rfl rfl rfl rfl fun rest => ?_;apply gS;refine gR rfl ?_;refine GoR.box rfl rfl rfl rfl rfl rfl fun h0 x0 f0 => ?_;replace e0 := e0.trans x0;refine gP ?_;apply gE;apply gS;refine gR rfl ?_;refine gO rfl rfl (fa77_0 rfl) rfl ?_;refine gO rfl rfl (fa23_0 rfl) rfl ?_;refine gO rfl rfl (ld3 rfl f0 rfl) rfl ?_;refine gO rfl rfl (fa77_0 rfl) rfl ?_;refine gO rfl rfl (fa23_1 rfl) rfl ?_;refine gO rfl rfl (ld3 rfl f0 rfl) rfl ?_;refine gO rfl rfl (aOp_gtr rfl rfl rfl) rfl ?_;refine gP ?_;apply gE;exact gW Try.func87 rfl rfl ⟨rfl, e0⟩
theorem one_ok {n : Int} {h : AH} : Runs Try.prog 66 [.int .i64 n] h (fun en h' => en = .ret (.agg (spC (n, n))) ∧ Ext h h') := by
 have e0 : Ext h h := Ext.refl _
 refine Runs.intro aFunc66 rfl rfl rfl rfl fun rest => ?_;apply gS;refine gR rfl ?_;refine GoR.alloc rfl rfl rfl zt23 rfl rfl fun h0 x0 f0 => ?_;have := e0.1;replace e0 := e0.trans x0;have := f0.1;apply gE;apply gS;refine gR rfl ?_;iterate 2 refine gP ?_
 refine gO rfl rfl (aOp_build zt23 hu23 pl23 rfl rfl) rfl ?_;refine GoR.store rfl rfl rfl rfl rfl rfl f0 rfl sz23 rfl rfl rfl fun h1 u1 => ?_;replace f0 := u1.has f0;replace e0 := e0.upd u1 (by omega);apply gE;exact gV (ret_end (aResult_of Try.func66 rfl (aResults_cell rfl f0 (inCells_agg ag23 sz23 rfl))) ⟨rfl, e0⟩)
theorem held_ok {r : Int × Int} {k m x : Int} {h : AH} : Runs Try.prog 114 [.agg [.int .i64 r.1, .int .i64 r.2, .int .i64 k, .int .i64 m], .int .i64 x] h (fun en h' => en = .ret (.int .i64 (heldV m x)) ∧ Ext h h') := by
 unfold heldV
 have e0 : Ext h h := Ext.refl _
 refine Runs.intro aFunc114 rfl rfl rfl rfl fun rest => ?_;apply gS;refine gR rfl ?_;refine GoR.box rfl rfl rfl rfl rfl rfl fun h0 x0 f0 => ?_;replace e0 := e0.trans x0;refine gP ?_;apply gE;apply gS;refine gR rfl ?_;refine gP ?_;refine gO rfl rfl (aOp_max2 rfl rfl (r := max x 0) (by split <;> omega)) rfl ?_;refine gO rfl rfl (fa140_2 rfl) rfl ?_;refine gO rfl rfl (ld3 rfl f0 rfl) rfl ?_;refine gO rfl rfl (aOp_min2 rfl rfl (r := min (max x 0) m) (by split <;> omega)) rfl ?_;refine gP ?_;apply gE;exact gW Try.func114 rfl rfl ⟨rfl, e0⟩
def EvV.cells : EvV → List AVal
 | .look s => spC s
 | .flow r k m => [.int .i64 r.1, .int .i64 r.2, .int .i64 k, .int .i64 m]
def EvV.fit : EvV → Prop
 | .look s => (-1000 ≤ s.1 ∧ s.1 ≤ 1000) ∧ (-1000 ≤ s.2 ∧ s.2 ≤ 1000)
 | .flow r k m => (0 ≤ r.1 ∧ r.1 ≤ 1000) ∧ (0 ≤ r.2 ∧ r.2 ≤ 1000) ∧ (0 ≤ k ∧ k ≤ 1000) ∧ (0 ≤ m ∧ m ≤ 1000)
def fitS (d : Int × Int) : Prop := (-100000 ≤ d.1 ∧ d.1 ≤ 100000) ∧ (-100000 ≤ d.2 ∧ d.2 ≤ 100000)
theorem lookAfter_ok {s d : Int × Int} {h : AH} : Runs Try.prog 110 [.agg (spC s), .agg (spC d)] h (fun en h' => en = .ret (.agg (spC (meetV s d))) ∧ Ext h h') := by
 have hm := fun h => meet_ok (a := s) (b := d) (h := h)
 unfold spC at *
 have e0 : Ext h h := Ext.refl _
 refine Runs.intro aFunc110 rfl rfl rfl rfl fun rest => ?_;apply gS;refine gR rfl ?_;refine GoR.box rfl rfl rfl rfl rfl rfl fun h0 x0 f0 => ?_;have := e0.1;replace e0 := e0.trans x0;have := f0.1;refine GoR.box rfl rfl rfl rfl rfl rfl fun h1 x1 f1 => ?_;have := e0.1;have := f0.1;replace f0 := f0.ext x1;replace e0 := e0.trans x1;have := f1.1;refine GoR.alloc rfl rfl rfl zt77 rfl rfl fun h2 x2 f2 => ?_;have := e0.1;have := f1.1;have := f0.1;replace f1 := f1.ext x2;replace f0 := f0.ext x2;replace e0 := e0.trans x2;have := f2.1;apply gE;apply gS;refine gR rfl ?_;refine gO rfl rfl (fa138_0 rfl) rfl ?_;refine gO rfl rfl (ld77 rfl f0 rfl) rfl ?_;refine gO rfl rfl (ld77 rfl f1 rfl) rfl ?_;refine GoR.call rfl rfl (aCF aFunc90 rfl) (hm _) ?_ np;rintro v3 h3 ⟨q, x3⟩;cases q;refine ⟨_, rfl, ?_⟩;replace f2 := f2.ext x3;replace e0 := e0.trans x3;refine GoR.store rfl rfl rfl rfl rfl rfl f2 rfl sz77 rfl rfl rfl fun h4 u4 => ?_;replace f2 := u4.has f2;replace e0 := e0.upd u4 (by omega);apply gE;exact gV (ret_end (aResult_of Try.func110 rfl (aResults_cell rfl f2 (inCells_agg ag77 sz77 rfl))) ⟨rfl, e0⟩)
theorem lookBefore_ok {s d : Int × Int} {h : AH} : Runs Try.prog 111 [.agg (spC s), .agg (spC d)] h (fun en h' => en = .ret (.agg (spC (meetV s d))) ∧ Ext h h') := by
 have hm := fun h => meet_ok (a := s) (b := d) (h := h)
 unfold spC at *
 have e0 : Ext h h := Ext.refl _
 refine Runs.intro aFunc111 rfl rfl rfl rfl fun rest => ?_;apply gS;refine gR rfl ?_;refine GoR.box rfl rfl rfl rfl rfl rfl fun h0 x0 f0 => ?_;have := e0.1;replace e0 := e0.trans x0;have := f0.1;refine GoR.box rfl rfl rfl rfl rfl rfl fun h1 x1 f1 => ?_;have := e0.1;have := f0.1;replace f0 := f0.ext x1;replace e0 := e0.trans x1;have := f1.1;refine GoR.alloc rfl rfl rfl zt77 rfl rfl fun h2 x2 f2 => ?_;have := e0.1;have := f1.1;have := f0.1;replace f1 := f1.ext x2;replace f0 := f0.ext x2;replace e0 := e0.trans x2;have := f2.1;apply gE;apply gS;refine gR rfl ?_;refine gO rfl rfl (fa138_0 rfl) rfl ?_;refine gO rfl rfl (ld77 rfl f0 rfl) rfl ?_;refine gO rfl rfl (ld77 rfl f1 rfl) rfl ?_;refine GoR.call rfl rfl (aCF aFunc90 rfl) (hm _) ?_ np;rintro v3 h3 ⟨q, x3⟩;cases q;refine ⟨_, rfl, ?_⟩;replace f2 := f2.ext x3;replace e0 := e0.trans x3;refine GoR.store rfl rfl rfl rfl rfl rfl f2 rfl sz77 rfl rfl rfl fun h4 u4 => ?_;replace f2 := u4.has f2;replace e0 := e0.upd u4 (by omega);apply gE;exact gV (ret_end (aResult_of Try.func111 rfl (aResults_cell rfl f2 (inCells_agg ag77 sz77 rfl))) ⟨rfl, e0⟩)
theorem flowAfter_ok {r d : Int × Int} {k m : Int} (hf : (EvV.flow r k m).fit) (hd : fitS d) {h : AH} : Runs Try.prog 112 [.agg [.int .i64 r.1, .int .i64 r.2, .int .i64 k, .int .i64 m], .agg (spC d)] h (fun en h' => en = .ret (.agg (spC ((EvV.flow r k m).after d))) ∧ Ext h h') := by
 obtain ⟨f1, f2, f3, f4⟩ := hf
 obtain ⟨d1, d2⟩ := hd
 have hh := fun x h => held_ok (r := r) (k := k) (m := m) (x := x) (h := h)
 have hsm : sameA (.agg [.int .i64 r.1, .int .i64 r.2, .int .i64 k, .int .i64 m]) (.agg [.int .i64 r.1, .int .i64 r.2, .int .i64 k, .int .i64 m]) = true := by simp [sameA, sameAs, eqI_eq]
 unfold spC EvV.after
 have e0 : Ext h h := Ext.refl _
 refine Runs.intro aFunc112 rfl rfl rfl rfl fun rest => ?_;apply gS;refine gR rfl ?_;refine GoR.box rfl rfl rfl rfl rfl rfl fun h5 x5 f5 => ?_;have := e0.1;replace e0 := e0.trans x5;have := f5.1;refine GoR.box rfl rfl rfl rfl rfl rfl fun h6 x6 f6 => ?_;have := e0.1;have := f5.1;replace f5 := f5.ext x6;replace e0 := e0.trans x6;have := f6.1;refine GoR.alloc rfl rfl rfl zt77 rfl rfl fun h7 x7 f7 => ?_;have := e0.1;have := f6.1;have := f5.1;replace f6 := f6.ext x7;replace f5 := f5.ext x7;replace e0 := e0.trans x7;have := f7.1;apply gE;apply gS;refine Go.drawnE plan112_0 ?_;refine gQ rfl rfl (ld140 rfl f5 rfl) rfl ?_;refine gQ rfl rfl (fa77_0 rfl) rfl ?_;refine gQ rfl rfl (fa23_0 rfl) rfl ?_;refine gQ rfl rfl (ld3 rfl f6 rfl) rfl ?_;refine gQ rfl rfl (fa140_0 rfl) rfl ?_;refine gQ rfl rfl (fa23_0 rfl) rfl ?_;refine gQ rfl rfl (ld3 rfl f5 rfl) rfl ?_;refine gQ rfl rfl (aA rfl rfl) rfl ?_;refine gQ rfl rfl (fa140_1 rfl) rfl ?_;refine gQ rfl rfl (ld3 rfl f5 rfl) rfl ?_;refine gQ rfl rfl (aS rfl rfl) rfl ?_;refine gQ rfl rfl (ld140 rfl f5 rfl) rfl ?_;refine gQ rfl rfl (fa77_0 rfl) rfl ?_;refine gQ rfl rfl (fa23_1 rfl) rfl ?_;refine gQ rfl rfl (ld3 rfl f6 rfl) rfl ?_;refine gQ rfl rfl (fa140_0 rfl) rfl ?_;refine gQ rfl rfl (fa23_1 rfl) rfl ?_;refine gQ rfl rfl (ld3 rfl f5 rfl) rfl ?_;refine gQ rfl rfl (aA rfl rfl) rfl ?_;refine gQ rfl rfl (fa140_1 rfl) rfl ?_;refine gQ rfl rfl (ld3 rfl f5 rfl) rfl ?_;refine gQ rfl rfl (aS rfl rfl) rfl ?_;refine GoE.call rfl rfl (aCF aFunc114 rfl) (hh _ _) (dK 2047 22 (dK 2047 21 (dK 2047 20 (dK 2047 19 (dK 2047 18 (dK 2047 17 (dK 2047 16 (dK 2047 15 (dK 2047 14 (dK 2047 13 (dK 2047 12 (dD 2047 10 (dD 2047 9 (dD 2047 8 (dD 2047 7 (dD 2047 6 (dD 2047 5 (dD 2047 4 (dD 2047 3 (dD 2047 2 (dD 2047 1 (dD 2047 0 rfl)))))))))))))))))))))) ?_ np;rintro v8 h8 ⟨q, x8⟩;cases q;replace f7 := f7.ext x8;replace f6 := f6.ext x8;replace f5 := f5.ext x8;replace e0 := e0.trans x8;refine ⟨(rck (h2 := h8) rfl (aS rfl rfl) (rck (h2 := h8) rfl (ld3 rfl f5 rfl) (rck (h2 := h8) rfl (fa140_1 rfl) (rck (h2 := h8) rfl (aA rfl rfl) (rck (h2 := h8) rfl (ld3 rfl f5 rfl) (rck (h2 := h8) rfl (fa23_1 rfl) (rck (h2 := h8) rfl (fa140_0 rfl) (rck (h2 := h8) rfl (ld3 rfl f6 rfl) (rck (h2 := h8) rfl (fa23_1 rfl) (rck (h2 := h8) rfl (fa77_0 rfl) (rck (h2 := h8) rfl (ld140 rfl f5 rfl) recheck_nil))))))))))), _, rfl, ?_⟩;refine GoE.call rfl rfl (aCF aFunc114 rfl) (hh _ _) (dD 8388607 22 (dD 8388607 21 (dD 8388607 20 (dD 8388607 19 (dD 8388607 18 (dD 8388607 17 (dD 8388607 16 (dD 8388607 15 (dD 8388607 14 (dD 8388607 13 (dD 8388607 12 rfl))))))))))) ?_ np;rintro v9 h9 ⟨q, x9⟩;cases q;replace f7 := f7.ext x9;replace e0 := e0.trans x9;refine ⟨recheck_nil, _, rfl, ?_⟩;refine gQ rfl rfl (aOp_build zt23 hu23 pl23 rfl rfl) rfl ?_;refine gQ rfl rfl (aOp_build zt77 hu77 pl77 rfl rfl) rfl ?_;refine GoE.store rfl rfl rfl rfl (dD 67108863 25 (dD 67108863 24 rfl)) rfl rfl f7 rfl sz77 rfl rfl rfl fun h10 u10 => ?_;replace f7 := u10.has f7;replace e0 := e0.upd u10 (by omega);refine ⟨recheck_nil, ?_⟩;refine GoE.end rfl ?_;exact gV (ret_end (aResult_of Try.func112 rfl (aResults_cell rfl f7 (inCells_agg ag77 sz77 rfl))) ⟨rfl, e0⟩)
theorem flowBefore_ok {r d : Int × Int} {k m : Int} (hf : (EvV.flow r k m).fit) (hd : fitS d) {h : AH} : Runs Try.prog 113 [.agg [.int .i64 r.1, .int .i64 r.2, .int .i64 k, .int .i64 m], .agg (spC d)] h (fun en h' => en = .ret (.agg (spC ((EvV.flow r k m).before d))) ∧ Ext h h') := by
 obtain ⟨f1, f2, f3, f4⟩ := hf
 obtain ⟨d1, d2⟩ := hd
 by_cases h1 : d.1 > 0
 ·by_cases h2 : d.2 < m
  ·rw [show (EvV.flow r k m).before d = (d.1 - r.2 + k, d.2 - r.1 + k) from by unfold EvV.before; dsimp only; rw [if_pos h1, if_pos h2]]
   unfold spC
   have e0 : Ext h h := Ext.refl _
   refine Runs.intro aFunc113 rfl rfl rfl rfl fun rest => ?_;apply gS;refine gR rfl ?_;refine GoR.box rfl rfl rfl rfl rfl rfl fun h5 x5 f5 => ?_;have := e0.1;replace e0 := e0.trans x5;have := f5.1;refine GoR.box rfl rfl rfl rfl rfl rfl fun h6 x6 f6 => ?_;have := e0.1;have := f5.1;replace f5 := f5.ext x6;replace e0 := e0.trans x6;have := f6.1;refine GoR.alloc rfl rfl rfl zt77 rfl rfl fun h7 x7 f7 => ?_;have := e0.1;have := f6.1;have := f5.1;replace f6 := f6.ext x7;replace f5 := f5.ext x7;replace e0 := e0.trans x7;have := f7.1;apply gE;apply gS;refine gR rfl ?_;refine gO rfl rfl (fa140_2 rfl) rfl ?_;refine gO rfl rfl (ld3 rfl f5 rfl) rfl ?_;refine gO rfl rfl (aOp_build zt23 hu23 pl23 rfl rfl) rfl ?_;refine gO rfl rfl (aOp_build zt77 hu77 pl77 rfl rfl) rfl ?_;refine GoR.alloc rfl rfl rfl zt77 rfl rfl fun h8 x8 f8 => ?_;have := e0.1;have := f7.1;have := f6.1;have := f5.1;replace f7 := f7.ext x8;replace f6 := f6.ext x8;replace f5 := f5.ext x8;replace e0 := e0.trans x8;have := f8.1;refine GoR.store rfl rfl rfl rfl rfl rfl f8 rfl sz77 rfl rfl rfl fun h9 u9 => ?_;replace f8 := u9.has f8;replace f7 := f7.upd u9 (by omega);replace f6 := f6.upd u9 (by omega);replace f5 := f5.upd u9 (by omega);replace e0 := e0.upd u9 (by omega);apply gE;iterate 2 apply gS
   refine gR rfl ?_;refine gO rfl rfl (fa77_0 rfl) rfl ?_;refine gO rfl rfl (fa23_0 rfl) rfl ?_;refine gO rfl rfl (ld3 rfl f6 rfl) rfl ?_;refine gO rfl rfl (kGT rfl rfl) rfl ?_;apply gE;refine gC (b := true) rfl ?_;refine gR rfl ?_;refine gO rfl rfl (fa77_0 rfl) rfl ?_;refine gO rfl rfl (fa23_0 rfl) rfl ?_;refine gO rfl rfl (ld3 rfl f6 rfl) rfl ?_;refine gO rfl rfl (fa140_0 rfl) rfl ?_;refine gO rfl rfl (fa23_1 rfl) rfl ?_;refine gO rfl rfl (ld3 rfl f5 rfl) rfl ?_;refine gO rfl rfl (aS rfl rfl) rfl ?_;refine gO rfl rfl (fa140_1 rfl) rfl ?_;refine gO rfl rfl (ld3 rfl f5 rfl) rfl ?_;refine gO rfl rfl (aA rfl rfl) rfl ?_;refine gO rfl rfl (fa77_0 rfl) rfl ?_;refine gO rfl rfl (fa23_0 rfl) rfl ?_;refine GoR.store rfl rfl rfl rfl rfl rfl f8 rfl sz3 rfl rfl rfl fun h10 u10 => ?_;replace f8 := u10.has f8;replace f7 := f7.upd u10 (by omega);replace f6 := f6.upd u10 (by omega);replace f5 := f5.upd u10 (by omega);replace e0 := e0.upd u10 (by omega);apply gE;iterate 2 apply gS
   refine gR rfl ?_;refine gO rfl rfl (fa77_0 rfl) rfl ?_;refine gO rfl rfl (fa23_1 rfl) rfl ?_;refine gO rfl rfl (ld3 rfl f6 rfl) rfl ?_;refine gO rfl rfl (fa140_2 rfl) rfl ?_;refine gO rfl rfl (ld3 rfl f5 rfl) rfl ?_;refine gO rfl rfl (kLT rfl rfl) rfl ?_;apply gE;refine gC (b := true) rfl ?_;refine gR rfl ?_;refine gO rfl rfl (fa77_0 rfl) rfl ?_;refine gO rfl rfl (fa23_1 rfl) rfl ?_;refine gO rfl rfl (ld3 rfl f6 rfl) rfl ?_;refine gO rfl rfl (fa140_0 rfl) rfl ?_;refine gO rfl rfl (fa23_0 rfl) rfl ?_;refine gO rfl rfl (ld3 rfl f5 rfl) rfl ?_;refine gO rfl rfl (aS rfl rfl) rfl ?_;refine gO rfl rfl (fa140_1 rfl) rfl ?_;refine gO rfl rfl (ld3 rfl f5 rfl) rfl ?_;refine gO rfl rfl (aA rfl rfl) rfl ?_;refine gO rfl rfl (fa77_0 rfl) rfl ?_;refine gO rfl rfl (fa23_1 rfl) rfl ?_;refine GoR.store rfl rfl rfl rfl rfl rfl f8 rfl sz3 rfl rfl rfl fun h11 u11 => ?_;replace f8 := u11.has f8;replace f7 := f7.upd u11 (by omega);replace e0 := e0.upd u11 (by omega);apply gE;apply gS;refine gR rfl ?_;refine gO rfl rfl (ld77 rfl f8 rfl) rfl ?_;refine GoR.store rfl rfl rfl rfl rfl rfl f7 rfl sz77 rfl rfl rfl fun h12 u12 => ?_;replace f7 := u12.has f7;replace e0 := e0.upd u12 (by omega);apply gE;exact gV (ret_end (aResult_of Try.func113 rfl (aResults_cell rfl f7 (inCells_agg ag77 sz77 rfl))) ⟨rfl, e0⟩)
  ·rw [show (EvV.flow r k m).before d = (d.1 - r.2 + k, m) from by unfold EvV.before; dsimp only; rw [if_pos h1, if_neg h2]]
   unfold spC
   have e0 : Ext h h := Ext.refl _
   refine Runs.intro aFunc113 rfl rfl rfl rfl fun rest => ?_;apply gS;refine gR rfl ?_;refine GoR.box rfl rfl rfl rfl rfl rfl fun h5 x5 f5 => ?_;have := e0.1;replace e0 := e0.trans x5;have := f5.1;refine GoR.box rfl rfl rfl rfl rfl rfl fun h6 x6 f6 => ?_;have := e0.1;have := f5.1;replace f5 := f5.ext x6;replace e0 := e0.trans x6;have := f6.1;refine GoR.alloc rfl rfl rfl zt77 rfl rfl fun h7 x7 f7 => ?_;have := e0.1;have := f6.1;have := f5.1;replace f6 := f6.ext x7;replace f5 := f5.ext x7;replace e0 := e0.trans x7;have := f7.1;apply gE;apply gS;refine gR rfl ?_;refine gO rfl rfl (fa140_2 rfl) rfl ?_;refine gO rfl rfl (ld3 rfl f5 rfl) rfl ?_;refine gO rfl rfl (aOp_build zt23 hu23 pl23 rfl rfl) rfl ?_;refine gO rfl rfl (aOp_build zt77 hu77 pl77 rfl rfl) rfl ?_;refine GoR.alloc rfl rfl rfl zt77 rfl rfl fun h8 x8 f8 => ?_;have := e0.1;have := f7.1;have := f6.1;have := f5.1;replace f7 := f7.ext x8;replace f6 := f6.ext x8;replace f5 := f5.ext x8;replace e0 := e0.trans x8;have := f8.1;refine GoR.store rfl rfl rfl rfl rfl rfl f8 rfl sz77 rfl rfl rfl fun h9 u9 => ?_;replace f8 := u9.has f8;replace f7 := f7.upd u9 (by omega);replace f6 := f6.upd u9 (by omega);replace f5 := f5.upd u9 (by omega);replace e0 := e0.upd u9 (by omega);apply gE;iterate 2 apply gS
   refine gR rfl ?_;refine gO rfl rfl (fa77_0 rfl) rfl ?_;refine gO rfl rfl (fa23_0 rfl) rfl ?_;refine gO rfl rfl (ld3 rfl f6 rfl) rfl ?_;refine gO rfl rfl (kGT rfl rfl) rfl ?_;apply gE;refine gC (b := true) rfl ?_;refine gR rfl ?_;refine gO rfl rfl (fa77_0 rfl) rfl ?_;refine gO rfl rfl (fa23_0 rfl) rfl ?_;refine gO rfl rfl (ld3 rfl f6 rfl) rfl ?_;refine gO rfl rfl (fa140_0 rfl) rfl ?_;refine gO rfl rfl (fa23_1 rfl) rfl ?_;refine gO rfl rfl (ld3 rfl f5 rfl) rfl ?_;refine gO rfl rfl (aS rfl rfl) rfl ?_;refine gO rfl rfl (fa140_1 rfl) rfl ?_;refine gO rfl rfl (ld3 rfl f5 rfl) rfl ?_;refine gO rfl rfl (aA rfl rfl) rfl ?_;refine gO rfl rfl (fa77_0 rfl) rfl ?_;refine gO rfl rfl (fa23_0 rfl) rfl ?_;refine GoR.store rfl rfl rfl rfl rfl rfl f8 rfl sz3 rfl rfl rfl fun h10 u10 => ?_;replace f8 := u10.has f8;replace f7 := f7.upd u10 (by omega);replace f6 := f6.upd u10 (by omega);replace f5 := f5.upd u10 (by omega);replace e0 := e0.upd u10 (by omega);apply gE;iterate 2 apply gS
   refine gR rfl ?_;refine gO rfl rfl (fa77_0 rfl) rfl ?_;refine gO rfl rfl (fa23_1 rfl) rfl ?_;refine gO rfl rfl (ld3 rfl f6 rfl) rfl ?_;refine gO rfl rfl (fa140_2 rfl) rfl ?_;refine gO rfl rfl (ld3 rfl f5 rfl) rfl ?_;refine gO rfl rfl (kLF rfl rfl) rfl ?_;apply gE;refine gC (b := false) rfl ?_;refine gD ?_;apply gS;refine gR rfl ?_;refine gO rfl rfl (ld77 rfl f8 rfl) rfl ?_;refine GoR.store rfl rfl rfl rfl rfl rfl f7 rfl sz77 rfl rfl rfl fun h11 u11 => ?_;replace f7 := u11.has f7;replace e0 := e0.upd u11 (by omega);apply gE;exact gV (ret_end (aResult_of Try.func113 rfl (aResults_cell rfl f7 (inCells_agg ag77 sz77 rfl))) ⟨rfl, e0⟩)
 ·by_cases h2 : d.2 < m
  ·rw [show (EvV.flow r k m).before d = (0, d.2 - r.1 + k) from by unfold EvV.before; dsimp only; rw [if_neg h1, if_pos h2]]
   unfold spC
   have e0 : Ext h h := Ext.refl _
   refine Runs.intro aFunc113 rfl rfl rfl rfl fun rest => ?_;apply gS;refine gR rfl ?_;refine GoR.box rfl rfl rfl rfl rfl rfl fun h5 x5 f5 => ?_;have := e0.1;replace e0 := e0.trans x5;have := f5.1;refine GoR.box rfl rfl rfl rfl rfl rfl fun h6 x6 f6 => ?_;have := e0.1;have := f5.1;replace f5 := f5.ext x6;replace e0 := e0.trans x6;have := f6.1;refine GoR.alloc rfl rfl rfl zt77 rfl rfl fun h7 x7 f7 => ?_;have := e0.1;have := f6.1;have := f5.1;replace f6 := f6.ext x7;replace f5 := f5.ext x7;replace e0 := e0.trans x7;have := f7.1;apply gE;apply gS;refine gR rfl ?_;refine gO rfl rfl (fa140_2 rfl) rfl ?_;refine gO rfl rfl (ld3 rfl f5 rfl) rfl ?_;refine gO rfl rfl (aOp_build zt23 hu23 pl23 rfl rfl) rfl ?_;refine gO rfl rfl (aOp_build zt77 hu77 pl77 rfl rfl) rfl ?_;refine GoR.alloc rfl rfl rfl zt77 rfl rfl fun h8 x8 f8 => ?_;have := e0.1;have := f7.1;have := f6.1;have := f5.1;replace f7 := f7.ext x8;replace f6 := f6.ext x8;replace f5 := f5.ext x8;replace e0 := e0.trans x8;have := f8.1;refine GoR.store rfl rfl rfl rfl rfl rfl f8 rfl sz77 rfl rfl rfl fun h9 u9 => ?_;replace f8 := u9.has f8;replace f7 := f7.upd u9 (by omega);replace f6 := f6.upd u9 (by omega);replace f5 := f5.upd u9 (by omega);replace e0 := e0.upd u9 (by omega);apply gE;iterate 2 apply gS
   refine gR rfl ?_;refine gO rfl rfl (fa77_0 rfl) rfl ?_;refine gO rfl rfl (fa23_0 rfl) rfl ?_;refine gO rfl rfl (ld3 rfl f6 rfl) rfl ?_;refine gO rfl rfl (kGF rfl rfl) rfl ?_;apply gE;refine gC (b := false) rfl ?_;refine gD ?_;iterate 2 apply gS
   refine gR rfl ?_;refine gO rfl rfl (fa77_0 rfl) rfl ?_;refine gO rfl rfl (fa23_1 rfl) rfl ?_;refine gO rfl rfl (ld3 rfl f6 rfl) rfl ?_;refine gO rfl rfl (fa140_2 rfl) rfl ?_;refine gO rfl rfl (ld3 rfl f5 rfl) rfl ?_;refine gO rfl rfl (kLT rfl rfl) rfl ?_;apply gE;refine gC (b := true) rfl ?_;refine gR rfl ?_;refine gO rfl rfl (fa77_0 rfl) rfl ?_;refine gO rfl rfl (fa23_1 rfl) rfl ?_;refine gO rfl rfl (ld3 rfl f6 rfl) rfl ?_;refine gO rfl rfl (fa140_0 rfl) rfl ?_;refine gO rfl rfl (fa23_0 rfl) rfl ?_;refine gO rfl rfl (ld3 rfl f5 rfl) rfl ?_;refine gO rfl rfl (aS rfl rfl) rfl ?_;refine gO rfl rfl (fa140_1 rfl) rfl ?_;refine gO rfl rfl (ld3 rfl f5 rfl) rfl ?_;refine gO rfl rfl (aA rfl rfl) rfl ?_;refine gO rfl rfl (fa77_0 rfl) rfl ?_;refine gO rfl rfl (fa23_1 rfl) rfl ?_;refine GoR.store rfl rfl rfl rfl rfl rfl f8 rfl sz3 rfl rfl rfl fun h10 u10 => ?_;replace f8 := u10.has f8;replace f7 := f7.upd u10 (by omega);replace e0 := e0.upd u10 (by omega);apply gE;apply gS;refine gR rfl ?_;refine gO rfl rfl (ld77 rfl f8 rfl) rfl ?_;refine GoR.store rfl rfl rfl rfl rfl rfl f7 rfl sz77 rfl rfl rfl fun h11 u11 => ?_;replace f7 := u11.has f7;replace e0 := e0.upd u11 (by omega);apply gE;exact gV (ret_end (aResult_of Try.func113 rfl (aResults_cell rfl f7 (inCells_agg ag77 sz77 rfl))) ⟨rfl, e0⟩)
  ·rw [show (EvV.flow r k m).before d = (0, m) from by unfold EvV.before; dsimp only; rw [if_neg h1, if_neg h2]]
   unfold spC
   have e0 : Ext h h := Ext.refl _
   refine Runs.intro aFunc113 rfl rfl rfl rfl fun rest => ?_;apply gS;refine gR rfl ?_;refine GoR.box rfl rfl rfl rfl rfl rfl fun h5 x5 f5 => ?_;have := e0.1;replace e0 := e0.trans x5;have := f5.1;refine GoR.box rfl rfl rfl rfl rfl rfl fun h6 x6 f6 => ?_;have := e0.1;have := f5.1;replace f5 := f5.ext x6;replace e0 := e0.trans x6;have := f6.1;refine GoR.alloc rfl rfl rfl zt77 rfl rfl fun h7 x7 f7 => ?_;have := e0.1;have := f6.1;have := f5.1;replace f6 := f6.ext x7;replace f5 := f5.ext x7;replace e0 := e0.trans x7;have := f7.1;apply gE;apply gS;refine gR rfl ?_;refine gO rfl rfl (fa140_2 rfl) rfl ?_;refine gO rfl rfl (ld3 rfl f5 rfl) rfl ?_;refine gO rfl rfl (aOp_build zt23 hu23 pl23 rfl rfl) rfl ?_;refine gO rfl rfl (aOp_build zt77 hu77 pl77 rfl rfl) rfl ?_;refine GoR.alloc rfl rfl rfl zt77 rfl rfl fun h8 x8 f8 => ?_;have := e0.1;have := f7.1;have := f6.1;have := f5.1;replace f7 := f7.ext x8;replace f6 := f6.ext x8;replace f5 := f5.ext x8;replace e0 := e0.trans x8;have := f8.1;refine GoR.store rfl rfl rfl rfl rfl rfl f8 rfl sz77 rfl rfl rfl fun h9 u9 => ?_;replace f8 := u9.has f8;replace f7 := f7.upd u9 (by omega);replace f6 := f6.upd u9 (by omega);replace f5 := f5.upd u9 (by omega);replace e0 := e0.upd u9 (by omega);apply gE;iterate 2 apply gS
   refine gR rfl ?_;refine gO rfl rfl (fa77_0 rfl) rfl ?_;refine gO rfl rfl (fa23_0 rfl) rfl ?_;refine gO rfl rfl (ld3 rfl f6 rfl) rfl ?_;refine gO rfl rfl (kGF rfl rfl) rfl ?_;apply gE;refine gC (b := false) rfl ?_;refine gD ?_;iterate 2 apply gS
   refine gR rfl ?_;refine gO rfl rfl (fa77_0 rfl) rfl ?_;refine gO rfl rfl (fa23_1 rfl) rfl ?_;refine gO rfl rfl (ld3 rfl f6 rfl) rfl ?_;refine gO rfl rfl (fa140_2 rfl) rfl ?_;refine gO rfl rfl (ld3 rfl f5 rfl) rfl ?_;refine gO rfl rfl (kLF rfl rfl) rfl ?_;apply gE;refine gC (b := false) rfl ?_;refine gD ?_;apply gS;refine gR rfl ?_;refine gO rfl rfl (ld77 rfl f8 rfl) rfl ?_;refine GoR.store rfl rfl rfl rfl rfl rfl f7 rfl sz77 rfl rfl rfl fun h10 u10 => ?_;replace f7 := u10.has f7;replace e0 := e0.upd u10 (by omega);apply gE;exact gV (ret_end (aResult_of Try.func113 rfl (aResults_cell rfl f7 (inCells_agg ag77 sz77 rfl))) ⟨rfl, e0⟩)
theorem surely_ok {d n : Int × Int} {h : AH} : Runs Try.prog 46 [.agg (spC d), .agg (spC n)] h (fun en h' => en = .ret (.bool (surelyV d n)) ∧ Ext h h') := by
 unfold spC surelyV
 have e0 : Ext h h := Ext.refl _
 refine Runs.intro aFunc46 rfl rfl rfl rfl fun rest => ?_;apply gS;refine gR rfl ?_;refine GoR.box rfl rfl rfl rfl rfl rfl fun h0 x0 f0 => ?_;replace e0 := e0.trans x0;refine GoR.box rfl rfl rfl rfl rfl rfl fun h1 x1 f1 => ?_;replace f0 := f0.ext x1;replace e0 := e0.trans x1;refine gP ?_;apply gE;apply gS;refine gR rfl ?_;refine gO rfl rfl (fa77_0 rfl) rfl ?_;refine gO rfl rfl (fa23_0 rfl) rfl ?_;refine gO rfl rfl (ld3 rfl f0 rfl) rfl ?_;refine gO rfl rfl (fa23_1 rfl) rfl ?_;refine gO rfl rfl (ld3 rfl f1 rfl) rfl ?_;refine gO rfl rfl (aOp_geq rfl rfl rfl) rfl ?_;refine gP ?_;apply gE;exact gW Try.func46 rfl rfl ⟨rfl, e0⟩
theorem perhaps_ok {d n : Int × Int} {h : AH} : Runs Try.prog 47 [.agg (spC d), .agg (spC n)] h (fun en h' => en = .ret (.bool (perhapsV d n)) ∧ Ext h h') := by
 unfold spC perhapsV
 have e0 : Ext h h := Ext.refl _
 refine Runs.intro aFunc47 rfl rfl rfl rfl fun rest => ?_;apply gS;refine gR rfl ?_;refine GoR.box rfl rfl rfl rfl rfl rfl fun h0 x0 f0 => ?_;replace e0 := e0.trans x0;refine GoR.box rfl rfl rfl rfl rfl rfl fun h1 x1 f1 => ?_;replace f0 := f0.ext x1;replace e0 := e0.trans x1;refine gP ?_;apply gE;apply gS;refine gR rfl ?_;refine gO rfl rfl (fa77_0 rfl) rfl ?_;refine gO rfl rfl (fa23_1 rfl) rfl ?_;refine gO rfl rfl (ld3 rfl f0 rfl) rfl ?_;refine gO rfl rfl (fa23_0 rfl) rfl ?_;refine gO rfl rfl (ld3 rfl f1 rfl) rfl ?_;refine gO rfl rfl (aOp_geq rfl rfl rfl) rfl ?_;refine gP ?_;apply gE;exact gW Try.func47 rfl rfl ⟨rfl, e0⟩
theorem floats_ok {d n : Int × Int} {h : AH} : Runs Try.prog 54 [.agg (spC d), .agg (spC n)] h (fun en h' => en = .ret (.int .i64 (floatsV d n)) ∧ Ext h h') := by
 have h1 := fun h => surely_ok (d := d) (n := n) (h := h)
 have h2 := fun h => perhaps_ok (d := d) (n := n) (h := h)
 unfold floatsV
 cases hs : surelyV d n with
 | true =>
  rw [hs] at h1;rw [if_pos rfl]
  unfold spC at *
  have e0 : Ext h h := Ext.refl _
  refine Runs.intro aFunc54 rfl rfl rfl rfl fun rest => ?_;apply gS;refine gR rfl ?_;refine GoR.box rfl rfl rfl rfl rfl rfl fun h3 x3 f3 => ?_;replace e0 := e0.trans x3;refine GoR.box rfl rfl rfl rfl rfl rfl fun h4 x4 f4 => ?_;replace f3 := f3.ext x4;replace e0 := e0.trans x4;refine gP ?_;apply gE;apply gS;refine Go.block noJ_ok ?_;apply gS;refine gR rfl ?_;refine gO rfl rfl (ld77 rfl f3 rfl) rfl ?_;refine gO rfl rfl (ld23 rfl f4 rfl) rfl ?_;refine GoR.call rfl rfl (aCF aFunc46 rfl) (h1 _) ?_ np;rintro v5 h5 ⟨q, x5⟩;cases q;refine ⟨_, rfl, ?_⟩;replace f4 := f4.ext x5;replace f3 := f3.ext x5;replace e0 := e0.trans x5;refine gP ?_;apply gE;refine gC (b := true) rfl ?_;apply gS;refine gR rfl ?_;refine gP ?_;apply gE;exact gW Try.func54 rfl rfl ⟨rfl, e0⟩
 | false =>
  rw [hs] at h1;rw [if_neg (by decide)]
  cases hp : perhapsV d n with
  | true =>
   rw [hp] at h2;rw [if_pos rfl]
   unfold spC at *
   have e0 : Ext h h := Ext.refl _
   refine Runs.intro aFunc54 rfl rfl rfl rfl fun rest => ?_;apply gS;refine gR rfl ?_;refine GoR.box rfl rfl rfl rfl rfl rfl fun h3 x3 f3 => ?_;replace e0 := e0.trans x3;refine GoR.box rfl rfl rfl rfl rfl rfl fun h4 x4 f4 => ?_;replace f3 := f3.ext x4;replace e0 := e0.trans x4;refine gP ?_;apply gE;apply gS;refine Go.block noJ_ok ?_;apply gS;refine gR rfl ?_;refine gO rfl rfl (ld77 rfl f3 rfl) rfl ?_;refine gO rfl rfl (ld23 rfl f4 rfl) rfl ?_;refine GoR.call rfl rfl (aCF aFunc46 rfl) (h1 _) ?_ np;rintro v5 h5 ⟨q, x5⟩;cases q;refine ⟨_, rfl, ?_⟩;replace f4 := f4.ext x5;replace f3 := f3.ext x5;replace e0 := e0.trans x5;refine gP ?_;apply gE;refine gC (b := false) rfl ?_;apply gS;refine gR rfl ?_;refine gO rfl rfl (ld77 rfl f3 rfl) rfl ?_;refine gO rfl rfl (ld23 rfl f4 rfl) rfl ?_;refine GoR.call rfl rfl (aCF aFunc47 rfl) (h2 _) ?_ np;rintro v6 h6 ⟨q, x6⟩;cases q;refine ⟨_, rfl, ?_⟩;replace f4 := f4.ext x6;replace f3 := f3.ext x6;replace e0 := e0.trans x6;refine gP ?_;apply gE;refine gC (b := true) rfl ?_;apply gS;refine gR rfl ?_;refine gP ?_;apply gE;exact gW Try.func54 rfl rfl ⟨rfl, e0⟩
  | false =>
   rw [hp] at h2;rw [if_neg (by decide)]
   unfold spC at *
   have e0 : Ext h h := Ext.refl _
   refine Runs.intro aFunc54 rfl rfl rfl rfl fun rest => ?_;apply gS;refine gR rfl ?_;refine GoR.box rfl rfl rfl rfl rfl rfl fun h3 x3 f3 => ?_;replace e0 := e0.trans x3;refine GoR.box rfl rfl rfl rfl rfl rfl fun h4 x4 f4 => ?_;replace f3 := f3.ext x4;replace e0 := e0.trans x4;refine gP ?_;apply gE;apply gS;refine Go.block noJ_ok ?_;apply gS;refine gR rfl ?_;refine gO rfl rfl (ld77 rfl f3 rfl) rfl ?_;refine gO rfl rfl (ld23 rfl f4 rfl) rfl ?_;refine GoR.call rfl rfl (aCF aFunc46 rfl) (h1 _) ?_ np;rintro v5 h5 ⟨q, x5⟩;cases q;refine ⟨_, rfl, ?_⟩;replace f4 := f4.ext x5;replace f3 := f3.ext x5;replace e0 := e0.trans x5;refine gP ?_;apply gE;refine gC (b := false) rfl ?_;apply gS;refine gR rfl ?_;refine gO rfl rfl (ld77 rfl f3 rfl) rfl ?_;refine gO rfl rfl (ld23 rfl f4 rfl) rfl ?_;refine GoR.call rfl rfl (aCF aFunc47 rfl) (h2 _) ?_ np;rintro v6 h6 ⟨q, x6⟩;cases q;refine ⟨_, rfl, ?_⟩;replace e0 := e0.trans x6;refine gP ?_;apply gE;refine gC (b := false) rfl ?_;refine gD ?_;refine Go.inBlock noJ_ok ?_;apply gS;refine gR rfl ?_;refine gP ?_;apply gE;exact gW Try.func54 rfl rfl ⟨rfl, e0⟩
end Go.Proofs.Yteibheeleeengaa

namespace Go.Proofs.Yteibheeleeengaa
open Go Go.AbsE
set_option linter.unusedSimpArgs false
set_option maxRecDepth 100000
set_option maxHeartbeats 0
set_option linter.unusedVariables false
theorem idx_some {α : Type} {L : List α} {p : α → Bool} {i : Nat} {x : α} (hx : L[i]? = some x) (hp : p x = true) (hn : ∀ y, y ∈ L.take i → p y = false) : L.findIdx? p = some i := by
 have hlt := (List.getElem?_eq_some_iff.1 hx).1
 have hv := (List.getElem?_eq_some_iff.1 hx).2
 refine List.findIdx?_eq_some_iff_getElem.2 ⟨hlt, by rw [hv]; exact hp, fun j hj => ?_⟩;rw [hn _ (List.mem_take_iff_getElem.2 ⟨j, by omega, rfl⟩)]
 simp
theorem take_no {α : Type} {L : List α} {p : α → Bool} {i : Nat} {x : α} (hx : L[i]? = some x) (hp : p x = false) (hn : ∀ y, y ∈ L.take i → p y = false) : ∀ y, y ∈ L.take (i + 1) → p y = false := by
 intro y hy
 rw [List.take_add_one, hx, Option.toList_some, List.mem_append, List.mem_singleton] at hy
 rcases hy with hy | rfl
 ·exact hn y hy
 ·exact hp
theorem idx_any {α : Type} (L : List α) (p : α → Bool) : decide ((0 : Int) ≤ (match L.findIdx? p with | some i => (i : Int) | none => -1)) = L.any p := by
 cases q : L.findIdx? p with
 | none =>
  rw [List.findIdx?_eq_none_iff] at q;rw [List.any_eq_false.2 (fun x hx => by rw [q x hx]; simp)]
  rfl
 | some i =>
  rw [List.findIdx?_eq_some_iff_getElem] at q
  obtain ⟨hlt, hp, _⟩ := q
  rw [List.any_eq_true.2 ⟨_, List.getElem_mem hlt, hp⟩];exact decide_eq_true (Int.natCast_nonneg i)
theorem idx81_at {fid : FuncId} {caps : List AVal} {fn : Func} (hfid : aFunc Try.prog fid = some fn) {s : AVal} {L : List (Int × Int)} (p : Int × Int → Bool) {h : AH} (hs : SliceOf h 2 s (L.map spC)) (hn : L.length ≤ 200)
  (hc : ∀ x h', x ∈ L → Ext h h' → Runs Try.prog fid ([.agg (spC x)] ++ caps) h' (fun en h'' => en = .ret (.bool (p x)) ∧ Ext h' h'')) :
  Runs Try.prog 81 [s, .func (.func fid) [] caps] h (fun en h' => en = .ret (.int .i64 (match L.findIdx? p with | some i => (i : Int) | none => -1)) ∧ Ext h h') := by
 have hlen := hs.len
 rw [List.length_map] at hlen
 have e0 : Ext h h := Ext.refl _
 refine Runs.intro aFunc81 rfl rfl rfl rfl fun rest => ?_;apply gS;refine gR rfl ?_;refine gP ?_;apply gE;iterate 2 apply gS
 refine gR rfl ?_;refine gP ?_;refine gO rfl rfl (aOp_lenSlice Try.underlying24 rfl (by assumption)) rfl ?_;refine gP ?_;apply gE;refine Go.block noJ_ok ?_
 refine Go.loopKeep (fun i : Nat => [(0, s), (1, .func (.func fid) [] caps), (7, .int .i64 L.length), (8, .int .i64 (i : Nat))])
  (fun m i h' => m + i = L.length ∧ Ext h h' ∧ ∀ x, x ∈ L.take i → p x = false) (n := L.length) 0 ⟨rfl, rfl, rfl, rfl, trivial⟩ ⟨rfl, e0, (by intro x hx; simp at hx)⟩ ?_
 clear e0;rintro m i h4 ⟨hm, e0, hp⟩ again
 by_cases hi' : i < L.length
 ·obtain ⟨x, hx⟩ : ∃ x, L[i]? = some x := ⟨L[i], by simp [hi']⟩
  have hmem := List.mem_of_getElem? hx
  obtain ⟨bq, off, q1, q2⟩ := hs.at (i := i) (l := spC x) (by rw [List.getElem?_map, hx]; rfl)
  rw [List.length_map] at q1
  have hcx := hc x h4 hmem e0
  cases hpx : p x with
  | true =>
   rw [hpx] at hcx
   have hany := idx_some hx hpx hp
   rw [hany];apply gS;refine gR rfl ?_;refine gO rfl rfl (kLT rfl rfl) rfl ?_;apply gE;apply gS;refine gC (b := true) rfl ?_;refine gD ?_;apply gS;refine Go.block noJ_ok ?_;apply gS;refine gR rfl ?_;iterate 2 refine gP ?_
   apply gE;apply gS;refine gR rfl ?_;iterate 3 refine gP ?_
   refine gO rfl rfl (aOp_indexAddr (i := i) Try.underlying24 sz23 rfl (by assumption) rfl (Nat.ble_eq_true_of_le (by omega))) rfl ?_;refine gO rfl rfl (aOp_loadE ag23 sz23 rfl (q2.ext e0)) rfl ?_;refine GoR.call rfl rfl (aOp_callVal rfl hfid rfl) (hcx) ?_ np;rintro v5 h5 ⟨q, x5⟩;cases q;refine ⟨_, rfl, ?_⟩;replace e0 := e0.trans x5;apply gE;refine gC (b := true) rfl ?_;apply gS;refine gR rfl ?_;iterate 2 refine gP ?_
   apply gE;exact gW Try.func81 rfl rfl ⟨rfl, e0⟩
  | false =>
   rw [hpx] at hcx;apply gS;refine gR rfl ?_;refine gO rfl rfl (kLT rfl rfl) rfl ?_;apply gE;apply gS;refine gC (b := true) rfl ?_;refine gD ?_;apply gS;refine Go.block noJ_ok ?_;apply gS;refine gR rfl ?_;iterate 2 refine gP ?_
   apply gE;apply gS;refine gR rfl ?_;iterate 3 refine gP ?_
   refine gO rfl rfl (aOp_indexAddr (i := i) Try.underlying24 sz23 rfl (by assumption) rfl (Nat.ble_eq_true_of_le (by omega))) rfl ?_;refine gO rfl rfl (aOp_loadE ag23 sz23 rfl (q2.ext e0)) rfl ?_;refine GoR.call rfl rfl (aOp_callVal rfl hfid rfl) (hcx) ?_ np;rintro v5 h5 ⟨q, x5⟩;cases q;refine ⟨_, rfl, ?_⟩;replace e0 := e0.trans x5;apply gE;refine gC (b := false) rfl ?_;refine gD ?_;refine Go.inBlock noJ_ok ?_;refine gR rfl ?_;refine gO rfl rfl (aA rfl rfl) rfl ?_;refine gP ?_;apply gE;exact again (m - 1) (i + 1) _ _ (by omega) ⟨rfl, rfl, rfl, rfl, trivial⟩ ⟨by omega, e0, take_no hx hpx hp⟩
 ·rw [List.take_of_length_le (by omega)] at hp;rw [List.findIdx?_eq_none_iff.2 hp];apply gS;refine gR rfl ?_;refine gO rfl rfl (kLF rfl rfl) rfl ?_;apply gE;apply gS;refine gC (b := false) rfl ?_;refine gD ?_;apply gS;refine gR rfl ?_;refine gP ?_;apply gE;exact gW Try.func81 rfl rfl ⟨rfl, e0⟩
theorem cont74_ok {fid : FuncId} {caps : List AVal} {fn : Func} (hfid : aFunc Try.prog fid = some fn) {s : AVal} {L : List (Int × Int)} (p : Int × Int → Bool) {h : AH} (hs : SliceOf h 2 s (L.map spC)) (hn : L.length ≤ 200)
  (hc : ∀ x h', x ∈ L → Ext h h' → Runs Try.prog fid ([.agg (spC x)] ++ caps) h' (fun en h'' => en = .ret (.bool (p x)) ∧ Ext h' h'')) :
  Runs Try.prog 74 [s, .func (.func fid) [] caps] h (fun en h' => en = .ret (.bool (L.any p)) ∧ Ext h h') := by
 have e0 : Ext h h := Ext.refl _
 refine Runs.intro aFunc74 rfl rfl rfl rfl fun rest => ?_;apply gS;refine gR rfl ?_;refine gP ?_;apply gE;apply gS;refine gR rfl ?_;iterate 2 refine gP ?_
 refine GoR.call rfl rfl (aCF aFunc81 rfl) (idx81_at hfid p hs hn hc) ?_ np;rintro v0 h0 ⟨q, x0⟩;cases q;refine ⟨_, rfl, ?_⟩;replace e0 := e0.trans x0;refine gO rfl rfl (aOp_geq rfl rfl (idx_any L p)) rfl ?_;refine gP ?_;apply gE;exact gW Try.func74 rfl rfl ⟨rfl, e0⟩
theorem idx82_at {fid : FuncId} {caps : List AVal} {fn : Func} (hfid : aFunc Try.prog fid = some fn) {s : AVal} {L : List (BV)} (p : BV → Bool) {h : AH} (hs : SliceOf h 4 s (L.map BV.cells)) (hn : L.length ≤ 200)
  (hc : ∀ x h', x ∈ L → Ext h h' → Runs Try.prog fid ([.agg (BV.cells x)] ++ caps) h' (fun en h'' => en = .ret (.bool (p x)) ∧ Ext h' h'')) :
  Runs Try.prog 82 [s, .func (.func fid) [] caps] h (fun en h' => en = .ret (.int .i64 (match L.findIdx? p with | some i => (i : Int) | none => -1)) ∧ Ext h h') := by
 have hlen := hs.len
 rw [List.length_map] at hlen
 have e0 : Ext h h := Ext.refl _
 refine Runs.intro aFunc82 rfl rfl rfl rfl fun rest => ?_;apply gS;refine gR rfl ?_;refine gP ?_;apply gE;iterate 2 apply gS
 refine gR rfl ?_;refine gP ?_;refine gO rfl rfl (aOp_lenSlice Try.underlying25 rfl (by assumption)) rfl ?_;refine gP ?_;apply gE;refine Go.block noJ_ok ?_
 refine Go.loopKeep (fun i : Nat => [(0, s), (1, .func (.func fid) [] caps), (7, .int .i64 L.length), (8, .int .i64 (i : Nat))])
  (fun m i h' => m + i = L.length ∧ Ext h h' ∧ ∀ x, x ∈ L.take i → p x = false) (n := L.length) 0 ⟨rfl, rfl, rfl, rfl, trivial⟩ ⟨rfl, e0, (by intro x hx; simp at hx)⟩ ?_
 clear e0;rintro m i h4 ⟨hm, e0, hp⟩ again
 by_cases hi' : i < L.length
 ·obtain ⟨x, hx⟩ : ∃ x, L[i]? = some x := ⟨L[i], by simp [hi']⟩
  have hmem := List.mem_of_getElem? hx
  obtain ⟨bq, off, q1, q2⟩ := hs.at (i := i) (l := BV.cells x) (by rw [List.getElem?_map, hx]; rfl)
  rw [List.length_map] at q1
  have hcx := hc x h4 hmem e0
  cases hpx : p x with
  | true =>
   rw [hpx] at hcx
   have hany := idx_some hx hpx hp
   rw [hany];apply gS;refine gR rfl ?_;refine gO rfl rfl (kLT rfl rfl) rfl ?_;apply gE;apply gS;refine gC (b := true) rfl ?_;refine gD ?_;apply gS;refine Go.block noJ_ok ?_;apply gS;refine gR rfl ?_;iterate 2 refine gP ?_
   apply gE;apply gS;refine gR rfl ?_;iterate 3 refine gP ?_
   refine gO rfl rfl (aOp_indexAddr (i := i) Try.underlying25 sz45 rfl (by assumption) rfl (Nat.ble_eq_true_of_le (by omega))) rfl ?_;refine gO rfl rfl (aOp_loadE ag45 sz45 rfl (q2.ext e0)) rfl ?_;refine GoR.call rfl rfl (aOp_callVal rfl hfid rfl) (hcx) ?_ np;rintro v5 h5 ⟨q, x5⟩;cases q;refine ⟨_, rfl, ?_⟩;replace e0 := e0.trans x5;apply gE;refine gC (b := true) rfl ?_;apply gS;refine gR rfl ?_;iterate 2 refine gP ?_
   apply gE;exact gW Try.func82 rfl rfl ⟨rfl, e0⟩
  | false =>
   rw [hpx] at hcx;apply gS;refine gR rfl ?_;refine gO rfl rfl (kLT rfl rfl) rfl ?_;apply gE;apply gS;refine gC (b := true) rfl ?_;refine gD ?_;apply gS;refine Go.block noJ_ok ?_;apply gS;refine gR rfl ?_;iterate 2 refine gP ?_
   apply gE;apply gS;refine gR rfl ?_;iterate 3 refine gP ?_
   refine gO rfl rfl (aOp_indexAddr (i := i) Try.underlying25 sz45 rfl (by assumption) rfl (Nat.ble_eq_true_of_le (by omega))) rfl ?_;refine gO rfl rfl (aOp_loadE ag45 sz45 rfl (q2.ext e0)) rfl ?_;refine GoR.call rfl rfl (aOp_callVal rfl hfid rfl) (hcx) ?_ np;rintro v5 h5 ⟨q, x5⟩;cases q;refine ⟨_, rfl, ?_⟩;replace e0 := e0.trans x5;apply gE;refine gC (b := false) rfl ?_;refine gD ?_;refine Go.inBlock noJ_ok ?_;refine gR rfl ?_;refine gO rfl rfl (aA rfl rfl) rfl ?_;refine gP ?_;apply gE;exact again (m - 1) (i + 1) _ _ (by omega) ⟨rfl, rfl, rfl, rfl, trivial⟩ ⟨by omega, e0, take_no hx hpx hp⟩
 ·rw [List.take_of_length_le (by omega)] at hp;rw [List.findIdx?_eq_none_iff.2 hp];apply gS;refine gR rfl ?_;refine gO rfl rfl (kLF rfl rfl) rfl ?_;apply gE;apply gS;refine gC (b := false) rfl ?_;refine gD ?_;apply gS;refine gR rfl ?_;refine gP ?_;apply gE;exact gW Try.func82 rfl rfl ⟨rfl, e0⟩
theorem cont75_ok {fid : FuncId} {caps : List AVal} {fn : Func} (hfid : aFunc Try.prog fid = some fn) {s : AVal} {L : List (BV)} (p : BV → Bool) {h : AH} (hs : SliceOf h 4 s (L.map BV.cells)) (hn : L.length ≤ 200)
  (hc : ∀ x h', x ∈ L → Ext h h' → Runs Try.prog fid ([.agg (BV.cells x)] ++ caps) h' (fun en h'' => en = .ret (.bool (p x)) ∧ Ext h' h'')) :
  Runs Try.prog 75 [s, .func (.func fid) [] caps] h (fun en h' => en = .ret (.bool (L.any p)) ∧ Ext h h') := by
 have e0 : Ext h h := Ext.refl _
 refine Runs.intro aFunc75 rfl rfl rfl rfl fun rest => ?_;apply gS;refine gR rfl ?_;refine gP ?_;apply gE;apply gS;refine gR rfl ?_;iterate 2 refine gP ?_
 refine GoR.call rfl rfl (aCF aFunc82 rfl) (idx82_at hfid p hs hn hc) ?_ np;rintro v0 h0 ⟨q, x0⟩;cases q;refine ⟨_, rfl, ?_⟩;replace e0 := e0.trans x0;refine gO rfl rfl (aOp_geq rfl rfl (idx_any L p)) rfl ?_;refine gP ?_;apply gE;exact gW Try.func75 rfl rfl ⟨rfl, e0⟩
theorem idx83_at {fid : FuncId} {caps : List AVal} {fn : Func} (hfid : aFunc Try.prog fid = some fn) {s : AVal} {L : List (LV)} (p : LV → Bool) {h : AH} (hs : SliceOf h 3 s (L.map LV.cells)) (hn : L.length ≤ 200)
  (hc : ∀ x h', x ∈ L → Ext h h' → Runs Try.prog fid ([.agg (LV.cells x)] ++ caps) h' (fun en h'' => en = .ret (.bool (p x)) ∧ Ext h' h'')) :
  Runs Try.prog 83 [s, .func (.func fid) [] caps] h (fun en h' => en = .ret (.int .i64 (match L.findIdx? p with | some i => (i : Int) | none => -1)) ∧ Ext h h') := by
 have hlen := hs.len
 rw [List.length_map] at hlen
 have e0 : Ext h h := Ext.refl _
 refine Runs.intro aFunc83 rfl rfl rfl rfl fun rest => ?_;apply gS;refine gR rfl ?_;refine gP ?_;apply gE;iterate 2 apply gS
 refine gR rfl ?_;refine gP ?_;refine gO rfl rfl (aOp_lenSlice Try.underlying26 rfl (by assumption)) rfl ?_;refine gP ?_;apply gE;refine Go.block noJ_ok ?_
 refine Go.loopKeep (fun i : Nat => [(0, s), (1, .func (.func fid) [] caps), (7, .int .i64 L.length), (8, .int .i64 (i : Nat))])
  (fun m i h' => m + i = L.length ∧ Ext h h' ∧ ∀ x, x ∈ L.take i → p x = false) (n := L.length) 0 ⟨rfl, rfl, rfl, rfl, trivial⟩ ⟨rfl, e0, (by intro x hx; simp at hx)⟩ ?_
 clear e0;rintro m i h4 ⟨hm, e0, hp⟩ again
 by_cases hi' : i < L.length
 ·obtain ⟨x, hx⟩ : ∃ x, L[i]? = some x := ⟨L[i], by simp [hi']⟩
  have hmem := List.mem_of_getElem? hx
  obtain ⟨bq, off, q1, q2⟩ := hs.at (i := i) (l := LV.cells x) (by rw [List.getElem?_map, hx]; rfl)
  rw [List.length_map] at q1
  have hcx := hc x h4 hmem e0
  cases hpx : p x with
  | true =>
   rw [hpx] at hcx
   have hany := idx_some hx hpx hp
   rw [hany];apply gS;refine gR rfl ?_;refine gO rfl rfl (kLT rfl rfl) rfl ?_;apply gE;apply gS;refine gC (b := true) rfl ?_;refine gD ?_;apply gS;refine Go.block noJ_ok ?_;apply gS;refine gR rfl ?_;iterate 2 refine gP ?_
   apply gE;apply gS;refine gR rfl ?_;iterate 3 refine gP ?_
   refine gO rfl rfl (aOp_indexAddr (i := i) Try.underlying26 sz53 rfl (by assumption) rfl (Nat.ble_eq_true_of_le (by omega))) rfl ?_;refine gO rfl rfl (aOp_loadE ag53 sz53 rfl (q2.ext e0)) rfl ?_;refine GoR.call rfl rfl (aOp_callVal rfl hfid rfl) (hcx) ?_ np;rintro v5 h5 ⟨q, x5⟩;cases q;refine ⟨_, rfl, ?_⟩;replace e0 := e0.trans x5;apply gE;refine gC (b := true) rfl ?_;apply gS;refine gR rfl ?_;iterate 2 refine gP ?_
   apply gE;exact gW Try.func83 rfl rfl ⟨rfl, e0⟩
  | false =>
   rw [hpx] at hcx;apply gS;refine gR rfl ?_;refine gO rfl rfl (kLT rfl rfl) rfl ?_;apply gE;apply gS;refine gC (b := true) rfl ?_;refine gD ?_;apply gS;refine Go.block noJ_ok ?_;apply gS;refine gR rfl ?_;iterate 2 refine gP ?_
   apply gE;apply gS;refine gR rfl ?_;iterate 3 refine gP ?_
   refine gO rfl rfl (aOp_indexAddr (i := i) Try.underlying26 sz53 rfl (by assumption) rfl (Nat.ble_eq_true_of_le (by omega))) rfl ?_;refine gO rfl rfl (aOp_loadE ag53 sz53 rfl (q2.ext e0)) rfl ?_;refine GoR.call rfl rfl (aOp_callVal rfl hfid rfl) (hcx) ?_ np;rintro v5 h5 ⟨q, x5⟩;cases q;refine ⟨_, rfl, ?_⟩;replace e0 := e0.trans x5;apply gE;refine gC (b := false) rfl ?_;refine gD ?_;refine Go.inBlock noJ_ok ?_;refine gR rfl ?_;refine gO rfl rfl (aA rfl rfl) rfl ?_;refine gP ?_;apply gE;exact again (m - 1) (i + 1) _ _ (by omega) ⟨rfl, rfl, rfl, rfl, trivial⟩ ⟨by omega, e0, take_no hx hpx hp⟩
 ·rw [List.take_of_length_le (by omega)] at hp;rw [List.findIdx?_eq_none_iff.2 hp];apply gS;refine gR rfl ?_;refine gO rfl rfl (kLF rfl rfl) rfl ?_;apply gE;apply gS;refine gC (b := false) rfl ?_;refine gD ?_;apply gS;refine gR rfl ?_;refine gP ?_;apply gE;exact gW Try.func83 rfl rfl ⟨rfl, e0⟩
theorem cont77_ok {fid : FuncId} {caps : List AVal} {fn : Func} (hfid : aFunc Try.prog fid = some fn) {s : AVal} {L : List (LV)} (p : LV → Bool) {h : AH} (hs : SliceOf h 3 s (L.map LV.cells)) (hn : L.length ≤ 200)
  (hc : ∀ x h', x ∈ L → Ext h h' → Runs Try.prog fid ([.agg (LV.cells x)] ++ caps) h' (fun en h'' => en = .ret (.bool (p x)) ∧ Ext h' h'')) :
  Runs Try.prog 77 [s, .func (.func fid) [] caps] h (fun en h' => en = .ret (.bool (L.any p)) ∧ Ext h h') := by
 have e0 : Ext h h := Ext.refl _
 refine Runs.intro aFunc77 rfl rfl rfl rfl fun rest => ?_;apply gS;refine gR rfl ?_;refine gP ?_;apply gE;apply gS;refine gR rfl ?_;iterate 2 refine gP ?_
 refine GoR.call rfl rfl (aCF aFunc83 rfl) (idx83_at hfid p hs hn hc) ?_ np;rintro v0 h0 ⟨q, x0⟩;cases q;refine ⟨_, rfl, ?_⟩;replace e0 := e0.trans x0;refine gO rfl rfl (aOp_geq rfl rfl (idx_any L p)) rfl ?_;refine gP ?_;apply gE;exact gW Try.func77 rfl rfl ⟨rfl, e0⟩
end Go.Proofs.Yteibheeleeengaa
