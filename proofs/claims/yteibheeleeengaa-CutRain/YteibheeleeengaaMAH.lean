import Derived.Test.YteibheeleeengaaMAG
import Derived.Test.YteibheeleeengaaMAF
namespace Go.AbsE
open Go
set_option linter.unusedSimpArgs false
set_option maxRecDepth 100000
section
variable {P : Program} {t : Tr AVal} {h : AH} {dst : Option Tmp} {ty tt : TypeId} {pos : String} {after : Array Edge} {guard : Option (Nat × Bool)} {x y : Operand}
theorem cut_lo {n cap i : Nat} (hi : i ≤ n) : cut n cap (some (.int .i64 (i : Nat))) none = some (i, n) := by
 show (match cond (Nat.ble i n) (some i) none with | some l => some (l, n) | none => none) = _
 rw [Nat.ble_eq_true_of_le hi]
 rfl
theorem cut_hi {n cap i : Nat} (hi : i ≤ cap) : cut n cap none (some (.int .i64 (i : Nat))) = some (0, i) := by
 show (match cond (Nat.ble i cap) (some i) none with | some hh => (match some 0 with | some l => some (l, hh) | none => none) | none => none) = _
 rw [Nat.ble_eq_true_of_le hi]
 rfl
theorem aOp_slice {el : TypeId} {size b off n cap l hh : Nat} {lo hi : Option Operand} {lv hv : Option AVal} (hu : P.underlying ty = some (.slice el)) (hs : sizeT P el = some size) (hx : ev t x = some (.slice b off n cap)) (hlo : evO t lo = some lv) (hhi : evO t hi = some hv)
  (hc : cut n cap lv hv = some (l, hh)) (hn : n ≤ cap) (hne : l ≠ cap) : aOp P t h ⟨dst, .slice ty x lo hi none, tt, pos, after, guard⟩ = some (.val (.slice b (off + l * size) (hh - l) (cap - l)) h) := by
 show opSlice P t h ty x lo hi = _
 unfold opSlice
 rw [hx, hlo, hhi]
 dsimp only
 rw [hu]
 dsimp only
 rw [hs]
 dsimp only
 unfold sliceOf
 dsimp only
 rw [hc]
 dsimp only
 have h2 : Nat.beq l cap = false := by
  cases q : Nat.beq l cap with
  | false => rfl
  | true => exact absurd (Nat.eq_of_beq_eq_true q) hne
 rw [Nat.ble_eq_true_of_le hn, h2]
 rfl
theorem aOp_sliceAll {el : TypeId} {size b off n cap hh : Nat} {lo hi : Option Operand} {lv hv : Option AVal} (hu : P.underlying ty = some (.slice el)) (hs : sizeT P el = some size) (hx : ev t x = some (.slice b off n cap)) (hlo : evO t lo = some lv) (hhi : evO t hi = some hv)
  (hc : cut n cap lv hv = some (cap, hh)) (hn : n ≤ cap) : aOp P t h ⟨dst, .slice ty x lo hi none, tt, pos, after, guard⟩ = some (.val (.slice b off (hh - cap) (cap - cap)) h) := by
 show opSlice P t h ty x lo hi = _
 unfold opSlice
 rw [hx, hlo, hhi]
 dsimp only
 rw [hu]
 dsimp only
 rw [hs]
 dsimp only
 unfold sliceOf
 dsimp only
 rw [hc]
 dsimp only
 have h2 : Nat.beq cap cap = true := by simp
 rw [Nat.ble_eq_true_of_le hn, h2]
 rfl
theorem aOp_slice3 {el : TypeId} {size b off n cap l hh m : Nat} {lo hi mx : Operand} (hu : P.underlying ty = some (.slice el)) (hs : sizeT P el = some size) (hx : ev t x = some (.slice b off n cap)) (hlo : ev t lo = some (.int .i64 (l : Nat))) (hhi : ev t hi = some (.int .i64 (hh : Nat))) (hmx : ev t mx = some (.int .i64 (m : Nat)))
  (h1 : l ≤ hh) (h2 : hh ≤ m) (h3 : m ≤ cap) (hne : m ≠ l) : aOp P t h ⟨dst, .slice ty x (some lo) (some hi) (some mx), tt, pos, after, guard⟩ = some (.val (.slice b (off + l * size) (hh - l) (m - l)) h) := by
 show opSlice3 P t h ty x lo hi mx = _
 unfold opSlice3
 rw [hu, hx]
 dsimp only
 rw [hs, hlo, hhi, hmx]
 have k2 : Nat.beq m l = false := by
  cases q : Nat.beq m l with
  | false => rfl
  | true => exact absurd (Nat.eq_of_beq_eq_true q) hne
 show cond (Nat.ble l hh) (cond (Nat.ble hh m) (cond (Nat.ble m cap) (cond (Nat.beq m l) _ _) none) none) none = _
 rw [Nat.ble_eq_true_of_le h1, Nat.ble_eq_true_of_le h2, Nat.ble_eq_true_of_le h3, k2]
 rfl
theorem splice_eq {α : Type} : ∀ {cs : List α} {off : Nat} {new : List α}, off + new.length ≤ cs.length → splice cs off new = some (cs.take off ++ new ++ cs.drop (off + new.length))
 | cs, 0, [], _ => by simp [splice]
 | [], 0, _ :: _, h => by simp at h
 | _ :: l, 0, x :: xs, h => by
  have := splice_eq (cs := l) (off := 0) (new := xs) (by simpa using h)
  simp only [splice, this]
  simp
 | [], n + 1, _, h => by simp at h
 | y :: l, n + 1, xs, h => by
  have := splice_eq (cs := l) (off := n) (new := xs) (by simp at h; omega)
  simp only [splice, this, List.take_succ_cons, List.cons_append]
  congr 2
  rw [show n + 1 + xs.length = (n + xs.length) + 1 by omega, List.drop_succ_cons]
theorem cut_both {n cap l hh : Nat} (h1 : l ≤ hh) (h2 : hh ≤ cap) : cut n cap (some (.int .i64 (l : Nat))) (some (.int .i64 (hh : Nat))) = some (l, hh) := by
 show (match cond (Nat.ble hh cap) (some hh) none with | some hh => (match cond (Nat.ble l hh) (some l) none with | some l => some (l, hh) | none => none) | none => none) = _
 rw [Nat.ble_eq_true_of_le h2]
 show (match cond (Nat.ble l hh) (some l) none with | some l => some (l, hh) | none => none) = _
 rw [Nat.ble_eq_true_of_le h1]
 rfl
theorem aOp_appendIn {t1 t2 el el2 eb : TypeId} {sz bytes b off len cap n m : Nat} {z s : AVal} {cs cs' new : List AVal} {g0 : Kd} (hu1 : P.underlying t1 = some (.slice el)) (hu2 : P.underlying t2 = some (.slice el2)) (hs : sizeT P el = some sz) (hby : bytesT P el = some bytes) (hz : zeroT P el = some z) (hzl : Nat.beq z.cells.length sz = true) (hsz : Nat.blt 0 sz = true)
  (hx : ev t x = some (.slice b off len cap)) (hy : ev t y = some s) (hn : lenA s = some n) (hsrc : srcCells h sz n s = some new) (hm : len + n = m) (hle : m ≤ cap) (hroom : (len + n + 300) * 2 * (bytes + 1) < 281474976710656) (hb : Has h b (.cells g0 cs eb)) (hg : g0.isRo = false) (hns : scalars new = true) (hsp : splice cs (off + len * sz) new = some cs') :
  ∃ h1, aOp P t h ⟨dst, .call ⟨.builtin .append, #[x, y], #[t1, t2]⟩, tt, pos, after, guard⟩ = some (.val (.slice b off m cap) h1) ∧ Upd h b (.cells g0 cs' eb) h1 := by
 subst hm
 obtain ⟨h1, q1, q2⟩ := storeCells_has hb hg hns hsp
 refine ⟨h1, ?_, q2⟩
 show opCall P t h ⟨.builtin .append, #[x, y], #[t1, t2]⟩ tt = _
 have he : evs t [x, y] = some [.slice b off len cap, s] := by simp only [evs, mapO, hx, hy]
 have hlt : Nat.blt ((len + n + 300) * 2 * (bytes + 1)) 281474976710656 = true := Nat.ble_eq_true_of_le hroom
 have ha : aAppend P h t1 t2 (.slice b off len cap) s = some (.val (.slice b off (len + n) cap) h1) := by
  unfold aAppend
  rw [hu1, hu2]
  simp only [hs, hby, hz, show lenA (.slice b off len cap) = some len from rfl, hn, hsrc, hlt, hsz, hzl, cond_true]
  unfold appSlice
  rw [Nat.ble_eq_true_of_le hle, q1]
  rfl
 simp only [opCall, he, callWith, aBuiltin, ha]
theorem aOp_clear {t1 el eb : TypeId} {b off n cap : Nat} {z : AVal} {cs cs' : List AVal} {g0 : Kd} (hu1 : P.underlying t1 = some (.slice el)) (hz : zeroT P el = some z) (hx : ev t x = some (.slice b off n cap)) (hn : n ≠ 0) (hb : Has h b (.cells g0 cs eb)) (hg : g0.isRo = false) (hns : scalars (repl z.cells n) = true) (hsp : splice cs off (repl z.cells n) = some cs') :
  ∃ h1, aOp P t h ⟨dst, .call ⟨.builtin .clear, #[x], #[t1]⟩, tt, pos, after, guard⟩ = some (.val undefA h1) ∧ Upd h b (.cells g0 cs' eb) h1 := by
 obtain ⟨h1, q1, q2⟩ := storeCells_has hb hg hns hsp
 refine ⟨h1, ?_, q2⟩
 show opCall P t h ⟨.builtin .clear, #[x], #[t1]⟩ tt = _
 have he : evs t [x] = some [.slice b off n cap] := by simp only [evs, mapO, hx]
 have h0 : Nat.beq n 0 = false := by
  cases q : Nat.beq n 0 with
  | false => rfl
  | true => exact absurd (Nat.eq_of_beq_eq_true q) hn
 simp only [opCall, he, callWith, aBuiltin, hu1, hz, h0, cond_false, q1]
theorem aOp_copyIn {t1 t2 el eb : TypeId} {sz b off len cap n : Nat} {s : AVal} {cs cs' new : List AVal} {g0 : Kd} (hu1 : P.underlying t1 = some (.slice el)) (hs : sizeT P el = some sz) (hx : ev t x = some (.slice b off len cap)) (hy : ev t y = some s) (hn : lenA s = some n) (hm : Nat.min n len = n)
  (hsrc : srcCells h sz n s = some new) (hb : Has h b (.cells g0 cs eb)) (hg : g0.isRo = false) (hns : scalars new = true) (hsp : splice cs off new = some cs') :
  ∃ h1, aOp P t h ⟨dst, .call ⟨.builtin .copy, #[x, y], #[t1, t2]⟩, tt, pos, after, guard⟩ = some (.val (.int .i64 n) h1) ∧ Upd h b (.cells g0 cs' eb) h1 := by
 obtain ⟨h1, q1, q2⟩ := storeCells_has hb hg hns hsp
 refine ⟨h1, ?_, q2⟩
 show opCall P t h ⟨.builtin .copy, #[x, y], #[t1, t2]⟩ tt = _
 have he : evs t [x, y] = some [.slice b off len cap, s] := by simp only [evs, mapO, hx, hy]
 simp only [opCall, he, callWith, aBuiltin, hu1, hs, show lenA (.slice b off len cap) = some len from rfl, hn, hm, hsrc, aSlElems, q1]
variable {c : FC} {k : List AItem} {Q : AM → Prop} {J : Jump} {all : Array Oper} {pl rest : List DOp} {tf ta : Tr AVal} {facts left : List DFact} {i bef d : Nat} {l lrest : List Oper}
theorem GoE.appendIn {t1 t2 el el2 eb : TypeId} {sz bytes b off len cap n m : Nat} {z s : AVal} {cs cs' new : List AVal} {g0 : Kd}
  (hl : pl = ⟨i, bef, false, ⟨dst, .call ⟨.builtin .append, #[x, y], #[t1, t2]⟩, tt, pos, after, guard⟩, false⟩ :: rest) (hw : wantedA all ta ⟨dst, .call ⟨.builtin .append, #[x, y], #[t1, t2]⟩, tt, pos, after, guard⟩ = some true)
  (hu1 : P.underlying t1 = some (.slice el)) (hu2 : P.underlying t2 = some (.slice el2)) (hs : sizeT P el = some sz) (hby : bytesT P el = some bytes) (hz : zeroT P el = some z) (hzl : Nat.beq z.cells.length sz = true) (hsz : Nat.blt 0 sz = true)
  (hx : ev ta x = some (.slice b off len cap)) (hy : ev ta y = some s) (hn : lenA s = some n) (hsrc : srcCells h sz n s = some new) (hm : len + n = m) (hle : m ≤ cap) (hroom : (len + n + 300) * 2 * (bytes + 1) < 281474976710656) (hb : Has h b (.cells g0 cs eb)) (hg : g0.isRo = false) (hns : scalars new = true) (hsp : splice cs (off + len * sz) new = some cs')
  (hleft : dropF bef facts = left) (hd : dst = some d) (hdn : Nat.blt d c.n = true)
  (g : ∀ h1, Upd h b (.cells g0 cs' eb) h1 → recheck P h1 left = true ∧ GoE P c k Q all rest tf left (ta.put (pth d) (some (.slice b off m cap))) h1) : GoE P c k Q all pl tf facts ta h := by
 obtain ⟨h1, q1, q2⟩ := aOp_appendIn (P := P) (dst := dst) (tt := tt) (pos := pos) (after := after) (guard := guard) hu1 hu2 hs hby hz hzl hsz hx hy hn hsrc hm hle hroom hb hg hns hsp
 obtain ⟨g1, g2⟩ := g h1 q2
 exact GoE.noisy0 hl hw q1 hleft g1 (prepD_some hd hdn) g2
theorem GoR.clear {t1 el eb : TypeId} {b off n cap : Nat} {z : AVal} {cs cs' : List AVal} {g0 : Kd} (hl : l = ⟨none, .call ⟨.builtin .clear, #[x], #[t1]⟩, tt, pos, after, guard⟩ :: lrest) (hw : wantedA all t ⟨none, .call ⟨.builtin .clear, #[x], #[t1]⟩, tt, pos, after, guard⟩ = some true)
  (hu1 : P.underlying t1 = some (.slice el)) (hz : zeroT P el = some z) (hx : ev t x = some (.slice b off n cap)) (hn : n ≠ 0) (hb : Has h b (.cells g0 cs eb)) (hg : g0.isRo = false) (hns : scalars (repl z.cells n) = true) (hsp : splice cs off (repl z.cells n) = some cs')
  (g : ∀ h1, Upd h b (.cells g0 cs' eb) h1 → GoR P J c k Q (runOps P c.n all lrest (i + 1) t h1)) : GoR P J c k Q (runOps P c.n all l i t h) := by
 obtain ⟨h1, q1, q2⟩ := aOp_clear (P := P) (dst := none) (tt := tt) (pos := pos) (after := after) (guard := guard) hu1 hz hx hn hb hg hns hsp
 exact GoR.op hl hw q1 rfl (g h1 q2)
theorem GoR.copyIn {t1 t2 el eb : TypeId} {sz b off len cap n : Nat} {s : AVal} {cs cs' new : List AVal} {g0 : Kd} (hl : l = ⟨some d, .call ⟨.builtin .copy, #[x, y], #[t1, t2]⟩, tt, pos, after, guard⟩ :: lrest) (hw : wantedA all t ⟨some d, .call ⟨.builtin .copy, #[x, y], #[t1, t2]⟩, tt, pos, after, guard⟩ = some true)
  (hu1 : P.underlying t1 = some (.slice el)) (hs : sizeT P el = some sz) (hx : ev t x = some (.slice b off len cap)) (hy : ev t y = some s) (hn : lenA s = some n) (hm : Nat.min n len = n)
  (hsrc : srcCells h sz n s = some new) (hb : Has h b (.cells g0 cs eb)) (hg : g0.isRo = false) (hns : scalars new = true) (hsp : splice cs off new = some cs') (hdn : Nat.blt d c.n = true)
  (g : ∀ h1, Upd h b (.cells g0 cs' eb) h1 → GoR P J c k Q (runOps P c.n all lrest (i + 1) (t.put (pth d) (some (.int .i64 n))) h1)) : GoR P J c k Q (runOps P c.n all l i t h) := by
 obtain ⟨h1, q1, q2⟩ := aOp_copyIn (P := P) (dst := some d) (tt := tt) (pos := pos) (after := after) (guard := guard) (t2 := t2) hu1 hs hx hy hn hm hsrc hb hg hns hsp
 exact GoR.op hl hw q1 (prepD_some rfl hdn) (g h1 q2)
theorem aOp_shl {ty2 : TypeId} {a r : Int} {i : Nat} (hx : ev t x = some (.int .i64 a)) (hy : ev t y = some (.int .i64 (i : Nat))) (hi : i ≤ 64) (hr : a * 2 ^ i = r) (hr2 : -9223372036854775808 ≤ r ∧ r ≤ 9223372036854775807) : aOp P t h ⟨dst, .binOp .shl ty x y ty2, tt, pos, after, guard⟩ = some (.val (.int .i64 r) h) := by
 refine aOp_bin hx hy ?_
 have : pureRun P (binOp .shl ty (.int .i64 a) (.int .i64 (i : Nat))) = some (.int .i64 r) := by
  show pureRun P (Op.shift .shl .i64 a .i64 (i : Nat)) = _
  unfold Op.shift
  rw [if_neg (by omega)]
  have : min ((i : Int)).toNat IntKind.i64.bits = i := by
   show min ((i : Int)).toNat 64 = i
   omega
  rw [this]
  show some (Value.int .i64 (IntKind.i64.wrap (a * 2 ^ i))) = _
  rw [hr, ← wrap64_eq, wrap64_in (by constructor <;> omega)]
 show (match pureRun P (binOp .shl ty (.int .i64 a) (.int .i64 (i : Nat))) with | some v => absV v | none => none) = _
 rw [this]
 rfl
theorem aOp_convU64 {src dt : TypeId} {sd : TypeDesc} {w : Int} (hx : ev t x = some (.int .i64 w)) (hs : P.underlying src = some sd) (hu : P.underlying dt = some (.int .u64)) (hw : 0 ≤ w ∧ w < 9223372036854775808) : aOp P t h ⟨dst, .convert src dt x, tt, pos, after, guard⟩ = some (.val (.int .u64 w) h) := by
 show opConvert P t h src dt x = _
 unfold opConvert
 rw [hx]
 have : pureRun P (convert src dt (.int .i64 w)) = some (.int .u64 w) := by
  unfold convert
  rw [pureRun_bind, pr_underlying hs]
  simp only [Option.bind_some, pureRun_bind, pr_underlying hu]
  have : IntKind.u64.wrap w = w := by
   have h1 : IntKind.u64.wrap w = w % 18446744073709551616 := by rfl
   rw [h1]
   omega
  cases sd <;> (show pureRun P (Conv.intToInt .u64 w) = _; unfold Conv.intToInt; rw [this]; rfl)
 simp only [this]
 rfl
theorem aOp_shr {ty2 : TypeId} {a r : Int} {i : Nat} (hx : ev t x = some (.int .i64 a)) (hy : ev t y = some (.int .i64 (i : Nat))) (hi : i ≤ 64) (hr : a.fdiv (2 ^ i) = r) : aOp P t h ⟨dst, .binOp .shr ty x y ty2, tt, pos, after, guard⟩ = some (.val (.int .i64 r) h) := by
 refine aOp_bin hx hy ?_
 have : pureRun P (binOp .shr ty (.int .i64 a) (.int .i64 (i : Nat))) = some (.int .i64 r) := by
  show pureRun P (Op.shift .shr .i64 a .i64 (i : Nat)) = _
  unfold Op.shift
  rw [if_neg (by omega)]
  have : min ((i : Int)).toNat IntKind.i64.bits = i := by
   show min ((i : Int)).toNat 64 = i
   omega
  rw [this]
  show some (Value.int .i64 (a.fdiv (2 ^ i))) = _
  rw [hr]
 show (match pureRun P (binOp .shr ty (.int .i64 a) (.int .i64 (i : Nat))) with | some v => absV v | none => none) = _
 rw [this]
 rfl
theorem aOp_and1 {ty2 : TypeId} {a r : Int} (hx : ev t x = some (.int .i64 a)) (hy : ev t y = some (.int .i64 1)) (hr : a % 2 = r) : aOp P t h ⟨dst, .binOp .and ty x y ty2, tt, pos, after, guard⟩ = some (.val (.int .i64 r) h) := by
 refine aOp_bin hx hy ?_
 have : pureRun P (binOp .and ty (.int .i64 a) (.int .i64 1)) = some (.int .i64 r) := by
  show pureRun P (if IntKind.i64 ≠ IntKind.i64 then stuck "BinOp: operands of different kinds" else Op.intBits .and .i64 a 1) = _
  rw [if_neg (fun h => h rfl)]
  show some (Value.int .i64 (IntKind.i64.wrap ((BitVec.ofInt 64 a &&& BitVec.ofInt 64 1).toNat : Int))) = _
  have h1 : (BitVec.ofInt 64 a &&& BitVec.ofInt 64 1).toNat = (a % 18446744073709551616).toNat % 2 := by
   rw [BitVec.toNat_and, BitVec.toNat_ofInt]
   show (a % 18446744073709551616).toNat &&& 1 = _
   rw [Nat.and_one_is_mod]
  rw [h1, ← wrap64_eq]
  rw [wrap64_in (by constructor <;> omega)]
  congr 2
  omega
 show (match pureRun P (binOp .and ty (.int .i64 a) (.int .i64 1)) with | some v => absV v | none => none) = _
 rw [this]
 rfl
end
end Go.AbsE

namespace Go.AbsE
open Go
set_option linter.unusedSimpArgs false
set_option maxRecDepth 100000
section
variable {P : Program} {t : Tr AVal} {h : AH} {dst : Option Tmp} {ty tt : TypeId} {pos : String} {after : Array Edge} {guard : Option (Nat × Bool)} {x y : Operand}
theorem i64_small {n : Nat} (hn : n < 9223372036854775808) : IntKind.i64.wrap (n : Nat) = n := by
 rw [← wrap64_eq]
 exact wrap64_in (by constructor <;> omega)
theorem aOp_andNat {ty2 : TypeId} {a b r : Nat} (hx : ev t x = some (.int .i64 (a : Nat))) (hy : ev t y = some (.int .i64 (b : Nat))) (ha : a < 9223372036854775808) (hb : b < 9223372036854775808) (hr : a &&& b = r) :
  aOp P t h ⟨dst, .binOp .and ty x y ty2, tt, pos, after, guard⟩ = some (.val (.int .i64 (r : Nat)) h) := by
 refine aOp_bin hx hy ?_
 have : pureRun P (binOp .and ty (.int .i64 (a : Nat)) (.int .i64 (b : Nat))) = some (.int .i64 (r : Nat)) := by
  show pureRun P (if IntKind.i64 ≠ IntKind.i64 then stuck "BinOp: operands of different kinds" else Op.intBits .and .i64 (a : Nat) (b : Nat)) = _
  rw [if_neg (fun h => h rfl)]
  show some (Value.int .i64 (IntKind.i64.wrap ((BitVec.ofInt 64 (a : Nat) &&& BitVec.ofInt 64 (b : Nat)).toNat : Int))) = _
  have h1 : (BitVec.ofInt 64 (a : Nat) &&& BitVec.ofInt 64 (b : Nat)).toNat = r := by
   rw [BitVec.ofInt_natCast, BitVec.ofInt_natCast, BitVec.toNat_and, BitVec.toNat_ofNat, BitVec.toNat_ofNat, Nat.mod_eq_of_lt (by omega), Nat.mod_eq_of_lt (by omega)]
   exact hr
  have h2 : r ≤ a := by rw [← hr]; exact Nat.and_le_left
  rw [h1, i64_small (by omega)]
 show (match pureRun P (binOp .and ty (.int .i64 (a : Nat)) (.int .i64 (b : Nat))) with | some v => absV v | none => none) = _
 rw [this]
 rfl
def andNot (a b : Nat) : Nat := (BitVec.ofNat 64 a &&& ~~~BitVec.ofNat 64 b).toNat
theorem aOp_andNot {ty2 : TypeId} {a b r : Nat} (hx : ev t x = some (.int .i64 (a : Nat))) (hy : ev t y = some (.int .i64 (b : Nat))) (ha : a < 9223372036854775808) (hr : andNot a b = r) :
  aOp P t h ⟨dst, .binOp .andNot ty x y ty2, tt, pos, after, guard⟩ = some (.val (.int .i64 (r : Nat)) h) := by
 refine aOp_bin hx hy ?_
 have : pureRun P (binOp .andNot ty (.int .i64 (a : Nat)) (.int .i64 (b : Nat))) = some (.int .i64 (r : Nat)) := by
  show pureRun P (if IntKind.i64 ≠ IntKind.i64 then stuck "BinOp: operands of different kinds" else Op.intBits .andNot .i64 (a : Nat) (b : Nat)) = _
  rw [if_neg (fun h => h rfl)]
  show some (Value.int .i64 (IntKind.i64.wrap ((BitVec.ofInt 64 (a : Nat) &&& ~~~BitVec.ofInt 64 (b : Nat)).toNat : Int))) = _
  have h1 : (BitVec.ofInt 64 (a : Nat) &&& ~~~BitVec.ofInt 64 (b : Nat)).toNat = r := by
   rw [BitVec.ofInt_natCast, BitVec.ofInt_natCast]
   exact hr
  have h2 : r ≤ a := by
   rw [← hr]
   unfold andNot
   rw [BitVec.toNat_and]
   refine Nat.le_trans Nat.and_le_left ?_
   rw [BitVec.toNat_ofNat]
   exact Nat.mod_le _ _
  rw [h1, i64_small (by omega)]
 show (match pureRun P (binOp .andNot ty (.int .i64 (a : Nat)) (.int .i64 (b : Nat))) with | some v => absV v | none => none) = _
 rw [this]
 rfl
end
end Go.AbsE

set_option linter.unusedSimpArgs false
namespace Go.AbsE
open Go
section
variable {all : Array Oper}
noncomputable def pickD : List DOp → Nat → List DOp
 | [], _ => []
 | d :: l, i => cond (Nat.beq d.i i) [d] (pickD l i)
noncomputable def picks (ds : List DOp) : List Nat → List DOp
 | [] => []
 | i :: r => pickD ds i ++ picks ds r
theorem pickD_mem {i : Nat} {d : DOp} : ∀ {l : List DOp}, d ∈ pickD l i → d ∈ l
 | [], h => h
 | x :: l, h => by
  unfold pickD at h
  cases q : Nat.beq x.i i with
  | true =>
   rw [q] at h
   exact List.mem_cons.2 (.inl (List.mem_singleton.1 h))
  | false =>
   rw [q] at h
   exact List.mem_cons_of_mem _ (pickD_mem h)
theorem picks_mem {ds : List DOp} {d : DOp} : ∀ {r : List Nat}, d ∈ picks ds r → d ∈ ds
 | [], h => by cases h
 | i :: r, h => by
  rcases List.mem_append.1 h with q | q
  ·exact pickD_mem q
  ·exact picks_mem q
noncomputable def planX (all : Array Oper) (befs order : List Nat) : Option (List DOp) :=
 match wrT all.toList 0 .leaf with
 | none => none
 | some wr => cond (cond (edgesAll all.toList 0) (gcOk all.toList all.toList.length) false) (cond (rdAll all wr befs (mkDs all.toList all.toList befs 0)) (match picks (mkDs all.toList all.toList befs 0) order with | c => cond (chkC all.toList.length c 0) (some c) none) none) none
noncomputable def befs0 (all : Array Oper) : List Nat := (befL all.toList 0 []).reverse
theorem planX_ok {befs order : List Nat} {c : List DOp} (h : planX all befs order = some c) : RO all (nthN befs) ∧ CV all (nthN befs) (fun _ => False) c := by
 unfold planX at h
 simp only [] at h
 split at h
 ·cases h
 ·rename_i wr hwr
  cases heg : cond (edgesAll all.toList 0) (gcOk all.toList all.toList.length) false with
  | false => rw [heg] at h; cases h
  | true =>
   have he : edgesAll all.toList 0 = true := by
    cases hq : edgesAll all.toList 0 with
    | true => rfl
    | false => rw [hq] at heg; cases heg
   have hgc : gcOk all.toList all.size = true := by rw [he, Array.length_toList] at heg; exact heg
   cases hr : rdAll all wr befs (mkDs all.toList all.toList befs 0) with
   | false => rw [heg, hr] at h; cases h
   | true =>
    rw [heg, hr] at h
    simp only [cond_true] at h
    cases hc : chkC all.toList.length (picks (mkDs all.toList all.toList befs 0) order) 0 with
    | false => rw [hc] at h; cases h
    | true =>
     rw [hc] at h
     cases h
     have hds := mkDs_ok (all := all) (l0 := all.toList) (befs := befs) all.toList befs 0 (by simp) (by simp)
     have hcv := chkC_ok (all := all) (B := nthN befs) _ 0 (fun d hd => hds d (picks_mem hd)) (by rw [Array.length_toList] at hc; exact hc)
     have hcv := CV.congr (A' := fun _ => False) (fun k => by simp) hcv
     have hw := wrT_ok (all := all) all.toList 0 .leaf wr (by simp) hwr (fun i _ _ hi => by omega)
     refine ⟨⟨ranks he hgc, fun i o x ho hx => (hw i o x ho hx).1,
      fun i j o o' x ho ho' hx hx' => ?_, fun i o x w ow ho hx how hwx => ?_⟩, hcv⟩
     ·have h1 := (hw i o x ho hx).2
      have h2 := (hw j o' x ho' hx').2
      rw [h1] at h2; injection h2
     ·have hlt := (Array.getElem?_eq_some_iff.1 ho).1
      rcases hcv.cover i hlt with hf | ⟨d, hd1, hd2⟩
      ·exact hf.elim
      ·have hdm := picks_mem hd1
       obtain ⟨k1, k2, k3⟩ := hds d hdm
       rw [hd2, ho] at k1
       injection k1 with k1
       have := rdAll_ok hr d hdm x (by rw [← k1]; exact hx) w (hw w ow x how hwx).2
       rw [k2, hd2] at this
       exact this
theorem idx_ne {a b : Nat} (l : List Nat) (h : b ≠ a) : (b :: l).idxOf a = l.idxOf a + 1 := by
 rw [List.idxOf_cons]
 have : (b == a) = false := by simpa using h
 rw [this]
 rfl
theorem VB.ord {B : Nat → Nat} : ∀ {s : List Nat} {D : Nat → Prop}, VB all B D s → ∀ i, i ∈ s → ∀ k, (B i).testBit k = true → D k ∨ (k ∈ s ∧ s.idxOf k < s.idxOf i)
 | [], _, _, i, hi, _, _ => by cases hi
 | i0 :: s, D, ⟨h1, h2, h3, h4⟩, i, hi, k, hk => by
  by_cases q : i = i0
  ·subst q
   exact .inl (h3 k hk)
  ·have his : i ∈ s := (List.mem_cons.1 hi).resolve_left q
   rcases VB.ord h4 i his k hk with (z | z) | ⟨z1, z2⟩
   ·exact .inl z
   ·subst z
    right
    refine ⟨List.mem_cons_self, ?_⟩
    rw [List.idxOf_cons_self, idx_ne _ (fun e => q e.symm)]
    omega
   ·by_cases hk0 : k = i0
    ·subst hk0
     right
     refine ⟨List.mem_cons_self, ?_⟩
     rw [List.idxOf_cons_self, idx_ne _ (fun e => q e.symm)]
     omega
    ·right
     refine ⟨List.mem_cons_of_mem _ z1, ?_⟩
     rw [idx_ne _ (fun e => hk0 e.symm), idx_ne _ (fun e => q e.symm)]
     omega
theorem VB.cover {B : Nat → Nat} : ∀ {s : List Nat} {D : Nat → Prop}, VB all B D s → ∀ i, i < all.size → D i ∨ i ∈ s
 | [], _, h, i, hi => .inl (h i hi)
 | i0 :: s, D, ⟨h1, h2, h3, h4⟩, i, hi => by
  rcases VB.cover h4 i hi with (z | z) | z
  ·exact .inl z
  ·subst z; exact .inr List.mem_cons_self
  ·exact .inr (List.mem_cons_of_mem _ z)
theorem VB.not {B : Nat → Nat} : ∀ {s : List Nat} {D : Nat → Prop}, VB all B D s → ∀ i, D i → i ∉ s
 | [], _, _, _, _ => by simp
 | i0 :: s, D, ⟨h1, h2, h3, h4⟩, i, hi => by
  intro q
  rcases List.mem_cons.1 q with z | z
  ·subst z; exact h2 hi
  ·exact VB.not h4 i (.inl hi) z
theorem VB.add {B B' : Nat → Nat} : ∀ {s : List Nat} {D : Nat → Prop}, VB all B D s → (∀ i, i ∈ s → ∀ k, (B' i).testBit k = true → D k ∨ (k ∈ s ∧ s.idxOf k < s.idxOf i)) → VB all B' D s
 | [], _, h, _ => h
 | i0 :: s, D, ⟨h1, h2, h3, h4⟩, g => by
  refine ⟨h1, h2, fun k hk => ?_, VB.add h4 fun i hi k hk => ?_⟩
  ·rcases g i0 List.mem_cons_self k hk with z | ⟨_, z⟩
   ·exact z
   ·rw [List.idxOf_cons_self] at z
    omega
  ·have hne : i ≠ i0 := fun q => VB.not h4 i0 (.inr rfl) (q ▸ hi)
   rcases g i (List.mem_cons_of_mem _ hi) k hk with z | ⟨z1, z2⟩
   ·exact .inl (.inl z)
   ·by_cases hk0 : k = i0
    ·exact .inl (.inr hk0)
    ·right
     refine ⟨(List.mem_cons.1 z1).resolve_left hk0, ?_⟩
     rw [idx_ne _ (fun e => hk0 e.symm), idx_ne _ (fun e => hne e.symm)] at z2
     omega
end
theorem Go.of_RSW {P : Program} {J : Jump} (hJ : JOk P J) {c : FC} {k : List AItem} {t : Tr AVal} {h : AH} {Q : AM → Prop}
  (H : ∀ (w0 : Base) (e : Env) (W : World) (F : Frame) (cs : List Frame), F.mode = .run → TRel e c.n t F.tmps → HR P w0 e h W → TD e c.n F.tmps t k F.todo →
   ∃ k2 r K2, IRs e k2 K2 ∧ RS P w0 F c.n cs e (lone F cs W) K2 r ∧ GoR P J c k2 Q r) : Go P c k t h Q := by
 intro w0 e W F Fr cs hF rr
 have hF' : FRs P e (c.fr k t :: c.rest) (F :: Fr) := hF
 cases hF' with
 | cons h1 hFr =>
  have hm := run_mode h1
  obtain ⟨k2, r, K2, hK2, hRS, g⟩ := H w0 e W F (Fr ++ cs) hm h1.tm rr (h1.todo rfl)
  have exec : ∀ {r' : R} {m' : AM}, RS P w0 F c.n (Fr ++ cs) e (lone F (Fr ++ cs) W) [] r' → aExec P J c.fn c.n c.ds c.dk c.rd c.rest r' = some m' → Reach P m' Q → ∃ m', Q m' ∧ SS P w0 cs (lone F (Fr ++ cs) W) m' := by
   intro r' m' hr hx hq
   obtain ⟨e1, F1, Fr1, W1, s1, s2, s3⟩ := exec_sim hJ hx hm h1 hFr hr
   obtain ⟨m2, h2, hs⟩ := hq w0 e1 W1 F1 Fr1 cs s2 s3
   exact ⟨m2, h2, SS.head s1 hs⟩
  cases r with
  | stuck i => exact g.elim
  | norm t' h' =>
   obtain ⟨e', T', W', s1, s2, s3, s4⟩ := hRS
   obtain ⟨m2, h2, hs⟩ := g w0 e' W' (Frame.w F T' K2) Fr cs (.cons (FR.todo_set (h1.mono s2) s3 (.plain (hK2.mono s2))) (hFr.mono s2)) s4
   exact ⟨m2, h2, SS.head s1 hs⟩
  | ret t' h' =>
   obtain ⟨m', hx, hq⟩ := g
   obtain ⟨e', T', W', J', s1, s2, s3, s4⟩ := hRS
   exact exec (r' := .ret t' h') ⟨e', T', W', J', s1, s2, s3, s4⟩ hx hq
  | susp s t' x =>
   obtain ⟨m', hx, hq⟩ := g
   obtain ⟨e', T', W', J', s1, s2, s3, s4, s5⟩ := hRS
   exact exec (r' := .susp (s ++ k2) t' x) ⟨e', T', W', J' ++ K2, by simpa using s1, s2, s3, s4.append (hK2.mono s2), s5.append⟩ hx hq
  | slow s t' h' =>
   obtain ⟨m', hx, hq⟩ := g
   obtain ⟨e', T', W', J', s1, s2, s3, s4, s5⟩ := hRS
   exact exec (r' := .slow (s ++ k2) t' h') ⟨e', T', W', J' ++ K2, by simpa using s1, s2, s3, s4.append (hK2.mono s2), s5⟩ hx hq
  | exit id t' h' =>
   obtain ⟨e', T', W', J', s1, sx, s2, s3, s4⟩ := hRS
   have hrel := exitA_rel (id := id) (hK2.mono s2)
   dsimp only [GoR] at g
   cases hx : exitA id k2 with
   | some k' =>
    rw [hx] at g hrel
    obtain ⟨K', q1, q2⟩ := hrel
    have hex := st_exit (P := P) (b := F) hm (T := T') (k := J' ++ K2) (cs := Fr ++ cs) (W := W') (id := id) (k' := K') (by rw [sx, q1])
    obtain ⟨m2, h2, hs⟩ := g w0 e' W' (Frame.w F T' K') Fr cs (.cons (FR.todo_set (h1.mono s2) s3 (.plain q2)) (hFr.mono s2)) s4
    exact ⟨m2, h2, SS.head (s1.trans (.one hex)) hs⟩
   | none =>
    rw [hx] at g hrel
    obtain ⟨m', hq1, hq2⟩ := g
    refine exec (r' := .exit id t' h') ⟨e', T', W', J' ++ K2, by simpa using s1, ?_, s2, s3, s4⟩ hq1 hq2
    rw [List.append_nil, sx, hrel]; rfl
theorem Go.drawnX {P : Program} {all : Array Oper} {c : FC} {k : List AItem} {id : Nat} {t : Tr AVal} {h : AH} {Q : AM → Prop} {b1 o1 : List Nat} {c1 : List DOp} (h1 : planX all b1 o1 = some c1)
  (H : ∀ s, VB all (nthN (befs0 all)) (fun _ => False) s → ∃ befs order pl, planX all befs order = some pl ∧ VB all (nthN befs) (fun _ => False) s ∧ GoE P c k Q all pl (eraseT all.toList t) [] t h) :
  Go P c (.code (.region id all true) :: k) t h Q := by
 have ro1 := (planX_ok h1).1
 refine Go.of_RSW noJ_ok fun w0 e W F cs hm hT r htd => ?_
 obtain ⟨IT, K, q1, q2, q3⟩ := plain_head htd (fun _ _ _ _ q => by cases q) (fun _ _ _ _ q => by cases q)
 cases q2
 obtain ⟨s, hs⟩ : ∃ s, Region.schedule (P.follows .mixedOrders) all (W.tape W.drawn (.order F.fn id)) = s := ⟨_, rfl⟩
 have hvb : VB all (nthN (befs0 all)) (fun _ => False) s := by
  rw [← hs]
  exact VS.toB (fun i k hi hk => befs_sound i hi k hk) _ _ (fun _ _ q => q.elim) (schedule_VS ro1 _ _)
 obtain ⟨befs, order, pl, p1, p2, p3⟩ := H s hvb
 obtain ⟨ro, hcv⟩ := planX_ok p1
 refine ⟨k, _, K, q3, ?_, p3⟩
 rw [Frame.w_self q1]
 have hstep : step P (lone (Frame.w F F.tmps (.code (.region id all true) :: K)) cs W) =
   .next (lone (Frame.w F F.tmps (.inRegion all s :: K)) cs { W with drawn := W.drawn + 1 }) := by
  rw [← hs]
  exact step_lone_go (by simp [stepG, stepG.exec, Frame.w, hm, choose, Sem.run, Question.forced, Question.cut])
 refine RS.head (.one hstep) (Env.le_refl e) ?_
 have hb : F.mode = .run := hm
 refine runC_sim hb (B := nthN befs) pl (V := fun _ => undefA) (tc := t) (D := fun _ => False) (A := fun _ => False) (t0 := t) (facts := []) ?_ ?_ ?_ (r.drew _)
 ·refine ⟨ro, hT, ?_, ⟨fun _ _ _ _ _ => ⟨fun q => q.elim, fun _ => rfl⟩, fun _ _ => rfl⟩, ⟨fun _ _ _ _ _ => ⟨fun q => q.elim, fun _ => rfl⟩, fun _ _ => rfl⟩,
   fun _ q => q.elim, fun _ _ q => q.elim, fun _ _ _ q => q.elim, p2, hcv⟩
  intro x a hx
  have hl : ∀ o ∈ all.toList, ∀ d, o.dst = some d → d < 1000000 := by
   intro o ho d hd
   obtain ⟨i, hi, rfl⟩ := List.getElem_of_mem ho
   exact ro.dst i _ d (by simp at hi; simp [hi]) hd
  obtain ⟨q1, q2⟩ := eraseT_get hb all.toList t x a hl hx
  exact ⟨q1, fun i o ho => q2 o (Array.mem_toList_iff.2 (Array.mem_of_getElem? ho))⟩
 ·intro i _ q; exact q.elim
 ·intro f hf; cases hf
end Go.AbsE

set_option linter.unusedSimpArgs false
namespace Go.AbsE
open Go
section
variable {all : Array Oper}
theorem VB.lt {B : Nat → Nat} : ∀ {s : List Nat} {D : Nat → Prop}, VB all B D s → ∀ i, i ∈ s → i < all.size
 | [], _, _, _, h => by cases h
 | i0 :: s, D, ⟨h1, h2, h3, h4⟩, i, h => by
  rcases List.mem_cons.1 h with q | q
  ·subst q; exact h1
  ·exact VB.lt h4 i q
theorem idx_inj {a b : Nat} : ∀ {s : List Nat}, a ∈ s → s.idxOf a = s.idxOf b → a = b
 | [], h, _ => by cases h
 | x :: s, h, q => by
  by_cases ha : x = a
  ·subst ha
   rw [List.idxOf_cons_self] at q
   by_cases hb : x = b
   ·exact hb
   ·rw [idx_ne _ hb] at q
    omega
  ·have has : a ∈ s := (List.mem_cons.1 h).resolve_left (fun e => ha e.symm)
   rw [idx_ne _ ha] at q
   by_cases hb : x = b
   ·subst hb
    rw [List.idxOf_cons_self] at q
    omega
   ·rw [idx_ne _ hb] at q
    exact idx_inj has (by omega)
noncomputable def chkAlt (N : Nat) (base befs : List Nat) (E : List (Nat × Nat)) : Bool :=
 (List.range N).all fun i => decide (nthN befs i < 2 ^ N) && (List.range N).all fun k => !((nthN befs i).testBit k) || (nthN base i).testBit k || E.contains (k, i)
theorem VB.alt {s base befs : List Nat} {N : Nat} (hv : VB all (nthN (befs0 all)) (fun _ => False) s) (hb : befs0 all = base) (hn : all.size = N) (E : List (Nat × Nat)) (hc : chkAlt N base befs E = true)
  (hE : ∀ e, e ∈ E → s.idxOf e.1 < s.idxOf e.2) : VB all (nthN befs) (fun _ => False) s := by
 subst hn
 rw [hb] at hv
 refine VB.add hv fun i hi k hk => .inr ?_
 have hil := VB.lt hv i hi
 unfold chkAlt at hc
 have h1 := List.all_eq_true.1 hc i (List.mem_range.2 hil)
 rw [Bool.and_eq_true] at h1
 have hk2 : k < all.size := by
  rcases Nat.lt_or_ge k all.size with q | q
  ·exact q
  ·have := Nat.testBit_lt_two_pow (x := nthN befs i) (i := k) (Nat.lt_of_lt_of_le (of_decide_eq_true h1.1) (Nat.pow_le_pow_right (by omega) q))
   rw [this] at hk
   cases hk
 have h2 := List.all_eq_true.1 h1.2 k (List.mem_range.2 hk2)
 rw [hk] at h2
 simp only [Bool.not_true, Bool.false_or, Bool.or_eq_true] at h2
 rcases h2 with q | q
 ·rcases VB.ord hv i hi k q with z | z
  ·exact z.elim
  ·exact z
 ·refine ⟨(VB.cover hv k hk2).resolve_left id, hE (k, i) (by simpa using q)⟩
theorem VB.before {s base : List Nat} (hv : VB all (nthN (befs0 all)) (fun _ => False) s) (hb : befs0 all = base) (i k : Nat) (hi : i < all.size) (hk : (nthN base i).testBit k = true) : s.idxOf k < s.idxOf i := by
 rw [hb] at hv
 rcases VB.ord hv i ((VB.cover hv i hi).resolve_left id) k hk with z | z
 ·exact z.elim
 ·exact z.2
theorem VB.apart {s base : List Nat} (hv : VB all (nthN (befs0 all)) (fun _ => False) s) (hb : befs0 all = base) (i k : Nat) (hi : i < all.size) (hne : i ≠ k) : s.idxOf i ≠ s.idxOf k := by
 rw [hb] at hv
 exact fun q => hne (idx_inj ((VB.cover hv i hi).resolve_left id) q)
end
section
variable {P : Program} {c : FC} {k : List AItem} {Q : AM → Prop} {all : Array Oper} {pl rest : List DOp} {tf ta : Tr AVal} {facts left : List DFact} {i bef d : Nat} {h : AH}
theorem GoE.alloc {dst : Option Tmp} {tt : TypeId} {pos : String} {after : Array Edge} {guard : Option (Nat × Bool)} {el : TypeId} {z : AVal} (hl : pl = ⟨i, bef, false, ⟨dst, .alloc el, tt, pos, after, guard⟩, false⟩ :: rest) (hw : wantedA all ta ⟨dst, .alloc el, tt, pos, after, guard⟩ = some true)
  (hz : zeroT P el = some z) (hleft : dropF bef facts = left) (hd : dst = some d) (hdn : Nat.blt d c.n = true)
  (g : ∀ h1, Ext h h1 → Has h1 h.next (.cells .plain z.cells el) → recheck P h1 left = true ∧ GoE P c k Q all rest tf left (ta.put (pth d) (some (.ptr h.next 0))) h1) : GoE P c k Q all pl tf facts ta h := by
 obtain ⟨h1, q⟩ := new_some h (.cells .plain z.cells el)
 obtain ⟨_, q2, q3⟩ := new_ext q
 obtain ⟨g1, g2⟩ := g h1 q2 q3
 refine GoE.noisy0 (v := .ptr h.next 0) (h1 := h1) hl hw ?_ hleft g1 (prepD_some hd hdn) g2
 show opAlloc P h el = _
 unfold opAlloc
 rw [hz]
 simp only [q, ptrTo]
end
end Go.AbsE
namespace Go.AbsE
open Go
section
variable {P : Program} {c : FC} {k : List AItem} {t : Tr AVal} {h : AH} {Q : AM → Prop}
theorem gS {x y : Code} (g : Go P c (.code x :: .code y :: k) t h Q) : Go P c (.code (.seq x y) :: k) t h Q := Go.seq noJ_ok g
theorem gR {id : Nat} {ops : Array Oper} {l : List Oper} (hl : ops.toList = l) (g : GoR P noJ c k Q (runOps P c.n ops l 0 t h)) : Go P c (.code (.region id ops false) :: k) t h Q := Go.region noJ_ok hl g
theorem gE {J : Jump} {all : Array Oper} {i : Nat} (g : Go P c k t h Q) : GoR P J c k Q (runOps P c.n all [] i t h) := g
theorem np {v : AVal} {X : AH → Prop} : ∀ chain h', ¬ (AEnd.pan chain = .ret v ∧ X h') := by
 rintro _ _ ⟨q, _⟩
 cases q
theorem dt {p : Prop} [Decidable p] (h : p) : decide p = true := decide_eq_true h
theorem df {p : Prop} [Decidable p] (h : ¬ p) : decide p = false := decide_eq_false h
end
section
variable {P : Program} {t : Tr AVal} {h : AH} {dst : Option Tmp} {ty tt ty2 : TypeId} {pos : String} {after : Array Edge} {guard : Option (Nat × Bool)} {x y : Operand} {a b : Int} (hx : ev t x = some (.int .i64 a)) (hy : ev t y = some (.int .i64 b))
include hx hy
theorem aA (hi : -9223372036854775808 ≤ a + b ∧ a + b ≤ 9223372036854775807 := by omega) : aOp P t h ⟨dst, .binOp .add ty x y ty2, tt, pos, after, guard⟩ = some (.val (.int .i64 (a + b)) h) := aOp_add hx hy (by constructor <;> omega) rfl
theorem aS (hi : -9223372036854775808 ≤ a - b ∧ a - b ≤ 9223372036854775807 := by omega) : aOp P t h ⟨dst, .binOp .sub ty x y ty2, tt, pos, after, guard⟩ = some (.val (.int .i64 (a - b)) h) := aOp_sub hx hy (by constructor <;> omega) rfl
theorem kLT (q : a < b := by omega) : aOp P t h ⟨dst, .binOp .lss ty x y ty2, tt, pos, after, guard⟩ = some (.val (.bool true) h) := aOp_lss hx hy (decide_eq_true q)
theorem kLF (q : ¬ a < b := by omega) : aOp P t h ⟨dst, .binOp .lss ty x y ty2, tt, pos, after, guard⟩ = some (.val (.bool false) h) := aOp_lss hx hy (decide_eq_false q)
theorem kMT (q : a ≤ b := by omega) : aOp P t h ⟨dst, .binOp .leq ty x y ty2, tt, pos, after, guard⟩ = some (.val (.bool true) h) := aOp_leq hx hy (decide_eq_true q)
theorem kMF (q : ¬ a ≤ b := by omega) : aOp P t h ⟨dst, .binOp .leq ty x y ty2, tt, pos, after, guard⟩ = some (.val (.bool false) h) := aOp_leq hx hy (decide_eq_false q)
theorem kGT (q : b < a := by omega) : aOp P t h ⟨dst, .binOp .gtr ty x y ty2, tt, pos, after, guard⟩ = some (.val (.bool true) h) := aOp_gtr hx hy (decide_eq_true q)
theorem kGF (q : ¬ b < a := by omega) : aOp P t h ⟨dst, .binOp .gtr ty x y ty2, tt, pos, after, guard⟩ = some (.val (.bool false) h) := aOp_gtr hx hy (decide_eq_false q)
theorem kNT (q : b ≤ a := by omega) : aOp P t h ⟨dst, .binOp .geq ty x y ty2, tt, pos, after, guard⟩ = some (.val (.bool true) h) := aOp_geq hx hy (decide_eq_true q)
theorem kNF (q : ¬ b ≤ a := by omega) : aOp P t h ⟨dst, .binOp .geq ty x y ty2, tt, pos, after, guard⟩ = some (.val (.bool false) h) := aOp_geq hx hy (decide_eq_false q)
theorem kET (q : a = b := by omega) : aOp P t h ⟨dst, .binOp .eql ty x y ty2, tt, pos, after, guard⟩ = some (.val (.bool true) h) := aOp_eql hx hy (decide_eq_true q)
theorem kEF (q : ¬ a = b := by omega) : aOp P t h ⟨dst, .binOp .eql ty x y ty2, tt, pos, after, guard⟩ = some (.val (.bool false) h) := aOp_eql hx hy (decide_eq_false q)
theorem kXT (q : ¬ a = b := by omega) : aOp P t h ⟨dst, .binOp .neq ty x y ty2, tt, pos, after, guard⟩ = some (.val (.bool true) h) := aOp_neq hx hy (decide_eq_false q)
theorem kXF (q : a = b := by omega) : aOp P t h ⟨dst, .binOp .neq ty x y ty2, tt, pos, after, guard⟩ = some (.val (.bool false) h) := aOp_neq hx hy (decide_eq_true q)
end
theorem gW {P : Program} {f : FuncId} {n : Nat} {k : List AItem} {rest : List AFr} {t : Tr AVal} {h : AH} {R : AEnd → AH → Prop} {fn : Func} {l : List ResultVar} {vs : List AVal} (hf : P.funcs[f]? = some fn) (hl : fn.results.toList = l) (hv : aResults P h t l = some vs) (hR : R (.ret (oneOrTuple vs)) h) : Go P ⟨f, n, [], false, none, rest⟩ (.code .ret :: k) t h (Post P f rest R) := Go.ret noJ_ok (ret_end (aResult_of hf hl hv) hR)
theorem gO : type_of% @GoR.op := @GoR.op
theorem gP {P : Program} {J : Jump} {c : FC} {k : List AItem} {Q : AM → Prop} {all : Array Oper} {l : List Oper} {o : Oper} {rest : List Oper} {i : Nat} {t t' : Tr AVal} {h h' : AH} {v : AVal} (g : GoR P J c k Q (runOps P c.n all rest (i + 1) t' h')) (hl : l = o :: rest := by exact rfl) (hw : wantedA all t o = some true := by exact rfl)
  (hx : aOp P t h o = some (.val v h') := by exact rfl) (hd : (prepD c.n o).run t v = some t' := by exact rfl) : GoR P J c k Q (runOps P c.n all l i t h) := GoR.op hl hw hx hd g
theorem gQ : type_of% @GoE.quiet := @GoE.quiet
theorem gC {P : Program} : type_of% (@Go.cond P noJ noJ_ok) := @Go.cond P noJ noJ_ok
theorem gD {P : Program} : type_of% (@Go.code P noJ noJ_ok) := @Go.code P noJ noJ_ok
theorem gV {P : Program} : type_of% (@Go.ret P noJ noJ_ok) := @Go.ret P noJ noJ_ok
theorem dD {bef : Nat} {f : DFact} {l l' : List DFact} (b k : Nat) (q : dropF bef l = l') (hb : bit? b k = true := by rfl) (hf : bit? bef f.i = bit? b k := by rfl) : dropF bef (f :: l) = l' := dropF_drop (hf.trans hb) q
theorem dK {bef : Nat} {f : DFact} {l l' : List DFact} (b k : Nat) (q : dropF bef l = l') (hb : bit? b k = false := by rfl) (hf : bit? bef f.i = bit? b k := by rfl) : dropF bef (f :: l) = f :: l' := dropF_keep (hf.trans hb) q
theorem aCF : type_of% @aOp_callFunc := @aOp_callFunc
end Go.AbsE

namespace Go.Proofs.Yteibheeleeengaa
open Go Go.AbsE
set_option linter.unusedSimpArgs false
set_option linter.unusedVariables false
structure BV where
 lo : Int
 hi : Int
 per : Int
 room : Int
structure LV where
 day : Int
 lo : Int
 hi : Int
structure CutV where
 dl : Int
 dh : Int
 kl : Int
 kh : Int
 rs : List (Int × Int)
 most : Int
 bs : List BV
 ls : List LV
def spC (s : Int × Int) : List AVal := [.int .i64 s.1, .int .i64 s.2]
def BV.cells (b : BV) : List AVal := [.int .i64 b.lo, .int .i64 b.hi, .int .i64 b.per, .int .i64 b.room]
def LV.cells (l : LV) : List AVal := [.int .i64 l.day, .int .i64 l.lo, .int .i64 l.hi]
def CutV.cells (C : CutV) (r b l : AVal) : List AVal := [.int .i64 C.dl, .int .i64 C.dh, .int .i64 C.kl, .int .i64 C.kh, r, .int .i64 C.most, b, l]
def RainOk (r : Int × Int) : Prop := r.1 ≤ r.2 ∧ 0 ≤ r.1 ∧ r.2 ≤ 30
def BV.Ok (b : BV) : Prop := (b.lo ≤ b.hi ∧ 0 ≤ b.lo ∧ b.hi ≤ 100) ∧ (0 ≤ b.per ∧ b.per ≤ 10) ∧ (0 ≤ b.room ∧ b.room ≤ 10)
def LV.Ok (n : Nat) (l : LV) : Prop := (0 ≤ l.day ∧ l.day ≤ n) ∧ (l.lo ≤ l.hi ∧ 0 ≤ l.lo ∧ l.hi ≤ 100)
instance (r : Int × Int) : Decidable (RainOk r) := by unfold RainOk; infer_instance
instance (b : BV) : Decidable b.Ok := by unfold BV.Ok; infer_instance
instance (n : Nat) (l : LV) : Decidable (l.Ok n) := by unfold LV.Ok; infer_instance
structure CutV.Ok (C : CutV) : Prop where
 nr : 1 ≤ C.rs.length ∧ C.rs.length ≤ 8
 r : ∀ x, x ∈ C.rs → RainOk x
 m : 1 ≤ C.most ∧ C.most ≤ 100
 d : C.dl ≤ C.dh ∧ 0 ≤ C.dl ∧ C.dh ≤ C.most
 k : C.kl ≤ C.kh ∧ 0 ≤ C.kl ∧ C.kh ≤ 10
 nb : C.bs.length ≤ 4
 b : ∀ x, x ∈ C.bs → x.Ok
 nl : C.ls.length ≤ 5
 l : ∀ x, x ∈ C.ls → x.Ok C.rs.length
def CutV.okB (C : CutV) : Bool := decide (1 ≤ C.rs.length ∧ C.rs.length ≤ 8) && C.rs.all (fun x => decide (RainOk x)) && decide (1 ≤ C.most ∧ C.most ≤ 100) && decide (C.dl ≤ C.dh ∧ 0 ≤ C.dl ∧ C.dh ≤ C.most) && decide (C.kl ≤ C.kh ∧ 0 ≤ C.kl ∧ C.kh ≤ 10) &&
 decide (C.bs.length ≤ 4) && C.bs.all (fun x => decide x.Ok) && decide (C.ls.length ≤ 5) && C.ls.all (fun x => decide (x.Ok C.rs.length))
theorem okB_iff (C : CutV) : C.okB = true ↔ C.Ok := by
 unfold CutV.okB
 simp only [Bool.and_eq_true, decide_eq_true_eq, List.all_eq_true]
 constructor
 ·rintro ⟨⟨⟨⟨⟨⟨⟨⟨h1, h2⟩, h3⟩, h4⟩, h5⟩, h6⟩, h7⟩, h8⟩, h9⟩;exact ⟨h1, h2, h3, h4, h5, h6, h7, h8, h9⟩
 ·rintro ⟨h1, h2, h3, h4, h5, h6, h7, h8, h9⟩;exact ⟨⟨⟨⟨⟨⟨⟨⟨h1, h2⟩, h3⟩, h4⟩, h5⟩, h6⟩, h7⟩, h8⟩, h9⟩
instance (C : CutV) : Decidable C.Ok := decidable_of_iff _ (okB_iff C)
def heldV (m x : Int) : Int := min (max x 0) m
def meetV (a b : Int × Int) : Int × Int := (max a.1 b.1, min a.2 b.2)
inductive EvV where
 | look (s : Int × Int)
 | flow (r : Int × Int) (k m : Int)
def EvV.after : EvV → Int × Int → Int × Int
 | .look s, d => meetV s d
 | .flow r k m, d => (heldV m (d.1 + r.1 - k), heldV m (d.2 + r.2 - k))
def EvV.before : EvV → Int × Int → Int × Int
 | .look s, d => meetV s d
 | .flow r k m, d => (if d.1 > 0 then d.1 - r.2 + k else 0, if d.2 < m then d.2 - r.1 + k else m)
def onlyV (s : Nat) : Nat → List LV → List LV
 | _, [] => []
 | i, l :: L => if s.testBit i = true then l :: onlyV s (i + 1) L else onlyV s (i + 1) L
def CutV.evs (C : CutV) (k : Int) (s : Nat) (d : Nat) : List EvV :=
 (((onlyV s 0 C.ls).filter fun l => decide (l.day = (d : Int))).map fun l => EvV.look (l.lo, l.hi)) ++ (match C.rs[d]? with | some r => [.flow r k C.most] | none => [])
def CutV.days (C : CutV) (k : Int) (s : Nat) : List (List EvV) := (List.range (C.rs.length + 1)).map (C.evs k s)
def fwd1 : List EvV → Int × Int → Option (Int × Int)
 | [], now => some now
 | e :: l, now => if (e.after now).1 > (e.after now).2 then none else fwd1 l (e.after now)
def fwdA : List (List EvV) → Int × Int → Option (List (Int × Int) × (Int × Int))
 | [], now => some ([], now)
 | es :: L, now => match fwd1 es now with
  | none => none
  | some x => match fwdA L x with
   | none => none
   | some (l, z) => some (now :: l, z)
def bwd1 (es : List EvV) (now : Int × Int) : Int × Int := es.foldr (fun e n => e.before n) now
def bwdA : List (List EvV) → List (Int × Int) → Int × Int → List (Int × Int) × (Int × Int)
 | es :: L, a :: A, now => ((meetV (bwd1 es (bwdA L A now).2) a) :: (bwdA L A now).1, meetV (bwd1 es (bwdA L A now).2) a)
 | _, _, now => ([], now)
def CutV.course (C : CutV) (k : Int) (s : Nat) : Option (List (Int × Int)) :=
 match fwdA (C.days k s) (C.dl, C.dh) with
 | none => none
 | some (l, z) => some (bwdA (C.days k s) l z).1
def upto (a b : Int) : List Int := (List.range (b - a + 1).toNat).map fun i => a + (i : Nat)
theorem mem_upto {a b x : Int} : x ∈ upto a b ↔ a ≤ x ∧ x ≤ b := by
 unfold upto
 rw [List.mem_map]
 constructor
 ·rintro ⟨i, hi, rfl⟩
  have := List.mem_range.1 hi
  omega
 ·intro h
  exact ⟨(x - a).toNat, List.mem_range.2 (by omega), by omega⟩
def CutV.known (C : CutV) (s : Nat) : List (Int × List (Int × Int)) := (upto C.kl C.kh).filterMap fun k => (C.course k s).map fun l => (k, l)
def CutV.all (C : CutV) : Nat := 2 ^ C.ls.length - 1
def topS : Int × Int := (9223372036854775807, -9223372036854775808)
def joinP (a b : Int × Int) : Int × Int := (min a.1 b.1, max a.2 b.2)
def joinL (l : List (Int × Int)) : Int × Int := l.foldl joinP topS
def surelyV (d need : Int × Int) : Bool := decide (need.2 ≤ d.1)
def perhapsV (d need : Int × Int) : Bool := decide (need.1 ≤ d.2)
def floatsV (d need : Int × Int) : Int := if surelyV d need = true then 2 else if perhapsV d need = true then 1 else 0
def BV.needs (b : BV) (n : Int) : Int × Int := (b.lo + b.per * n, b.hi + b.per * n)
end Go.Proofs.Yteibheeleeengaa
