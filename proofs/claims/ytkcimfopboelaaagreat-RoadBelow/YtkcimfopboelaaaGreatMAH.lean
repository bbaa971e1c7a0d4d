import Derived.Test.YtkcimfopboelaaaGreatMAG
import Derived.Test.YtkcimfopboelaaaGreatMAF
namespace Go.AbsE
open Go
set_option linter.unusedSimpArgs false
set_option maxRecDepth 100000
section
variable {P : Program} {t : Tr AVal} {h : AH} {dst : Option Tmp} {ty tt : TypeId} {pos : String} {after : Array Edge} {guard : Option (Nat × Bool)} {x y : Operand}
theorem cut_lo {n cap i : Nat} (hi : i ≤ n) : cut n cap (some (.int .i64 (i : Nat))) none = some (i, n) := by
 show (match cond (Nat.ble i n) (some i) none with | some l => some (l, n) | none => none) = _
 rw [Nat.ble_eq_true_of_le hi]
 rfl
theorem cut_hi {n cap i : Nat} (hi : i ≤ cap) : cut n cap none (some (.int .i64 (i : Nat))) = some (0, i) := by
 show (match cond (Nat.ble i cap) (some i) none with | some hh => (match some 0 with | some l => some (l, hh) | none => none) | none => none) = _
 rw [Nat.ble_eq_true_of_le hi]
 rfl
theorem aOp_slice {el : TypeId} {size b off n cap l hh : Nat} {lo hi : Option Operand} {lv hv : Option AVal} (hu : P.underlying ty = some (.slice el)) (hs : sizeT P el = some size) (hx : ev t x = some (.slice b off n cap)) (hlo : evO t lo = some lv) (hhi : evO t hi = some hv)
  (hc : cut n cap lv hv = some (l, hh)) (hn : n ≤ cap) (hne : l ≠ cap) : aOp P t h ⟨dst, .slice ty x lo hi none, tt, pos, after, guard⟩ = some (.val (.slice b (off + l * size) (hh - l) (cap - l)) h) := by
 show opSlice P t h ty x lo hi = _
 unfold opSlice
 rw [hx, hlo, hhi]
 dsimp only
 rw [hu]
 dsimp only
 rw [hs]
 dsimp only
 unfold sliceOf
 dsimp only
 rw [hc]
 dsimp only
 have h2 : Nat.beq l cap = false := by
  cases q : Nat.beq l cap with
  | false => rfl
  | true => exact absurd (Nat.eq_of_beq_eq_true q) hne
 rw [Nat.ble_eq_true_of_le hn, h2]
 rfl
theorem aOp_sliceAll {el : TypeId} {size b off n cap hh : Nat} {lo hi : Option Operand} {lv hv : Option AVal} (hu : P.underlying ty = some (.slice el)) (hs : sizeT P el = some size) (hx : ev t x = some (.slice b off n cap)) (hlo : evO t lo = some lv) (hhi : evO t hi = some hv)
  (hc : cut n cap lv hv = some (cap, hh)) (hn : n ≤ cap) : aOp P t h ⟨dst, .slice ty x lo hi none, tt, pos, after, guard⟩ = some (.val (.slice b off (hh - cap) (cap - cap)) h) := by
 show opSlice P t h ty x lo hi = _
 unfold opSlice
 rw [hx, hlo, hhi]
 dsimp only
 rw [hu]
 dsimp only
 rw [hs]
 dsimp only
 unfold sliceOf
 dsimp only
 rw [hc]
 dsimp only
 have h2 : Nat.beq cap cap = true := by simp
 rw [Nat.ble_eq_true_of_le hn, h2]
 rfl
theorem aOp_slice3 {el : TypeId} {size b off n cap l hh m : Nat} {lo hi mx : Operand} (hu : P.underlying ty = some (.slice el)) (hs : sizeT P el = some size) (hx : ev t x = some (.slice b off n cap)) (hlo : ev t lo = some (.int .i64 (l : Nat))) (hhi : ev t hi = some (.int .i64 (hh : Nat))) (hmx : ev t mx = some (.int .i64 (m : Nat)))
  (h1 : l ≤ hh) (h2 : hh ≤ m) (h3 : m ≤ cap) (hne : m ≠ l) : aOp P t h ⟨dst, .slice ty x (some lo) (some hi) (some mx), tt, pos, after, guard⟩ = some (.val (.slice b (off + l * size) (hh - l) (m - l)) h) := by
 show opSlice3 P t h ty x lo hi mx = _
 unfold opSlice3
 rw [hu, hx]
 dsimp only
 rw [hs, hlo, hhi, hmx]
 have k2 : Nat.beq m l = false := by
  cases q : Nat.beq m l with
  | false => rfl
  | true => exact absurd (Nat.eq_of_beq_eq_true q) hne
 show cond (Nat.ble l hh) (cond (Nat.ble hh m) (cond (Nat.ble m cap) (cond (Nat.beq m l) _ _) none) none) none = _
 rw [Nat.ble_eq_true_of_le h1, Nat.ble_eq_true_of_le h2, Nat.ble_eq_true_of_le h3, k2]
 rfl
theorem splice_eq {α : Type} : ∀ {cs : List α} {off : Nat} {new : List α}, off + new.length ≤ cs.length → splice cs off new = some (cs.take off ++ new ++ cs.drop (off + new.length))
 | cs, 0, [], _ => by simp [splice]
 | [], 0, _ :: _, h => by simp at h
 | _ :: l, 0, x :: xs, h => by
  have := splice_eq (cs := l) (off := 0) (new := xs) (by simpa using h)
  simp only [splice, this]
  simp
 | [], n + 1, _, h => by simp at h
 | y :: l, n + 1, xs, h => by
  have := splice_eq (cs := l) (off := n) (new := xs) (by simp at h; omega)
  simp only [splice, this, List.take_succ_cons, List.cons_append]
  congr 2
  rw [show n + 1 + xs.length = (n + xs.length) + 1 by omega, List.drop_succ_cons]
theorem cut_both {n cap l hh : Nat} (h1 : l ≤ hh) (h2 : hh ≤ cap) : cut n cap (some (.int .i64 (l : Nat))) (some (.int .i64 (hh : Nat))) = some (l, hh) := by
 show (match cond (Nat.ble hh cap) (some hh) none with | some hh => (match cond (Nat.ble l hh) (some l) none with | some l => some (l, hh) | none => none) | none => none) = _
 rw [Nat.ble_eq_true_of_le h2]
 show (match cond (Nat.ble l hh) (some l) none with | some l => some (l, hh) | none => none) = _
 rw [Nat.ble_eq_true_of_le h1]
 rfl
theorem aOp_appendIn {t1 t2 el el2 eb : TypeId} {sz bytes b off len cap n m : Nat} {z s : AVal} {cs cs' new : List AVal} {g0 : Kd} (hu1 : P.underlying t1 = some (.slice el)) (hu2 : P.underlying t2 = some (.slice el2)) (hs : sizeT P el = some sz) (hby : bytesT P el = some bytes) (hz : zeroT P el = some z) (hzl : Nat.beq z.cells.length sz = true) (hsz : Nat.blt 0 sz = true)
  (hx : ev t x = some (.slice b off len cap)) (hy : ev t y = some s) (hn : lenA s = some n) (hsrc : srcCells h sz n s = some new) (hm : len + n = m) (hle : m ≤ cap) (hroom : (len + n + 300) * 2 * (bytes + 1) < 281474976710656) (hb : Has h b (.cells g0 cs eb)) (hg : g0.isRo = false) (hns : scalars new = true) (hsp : splice cs (off + len * sz) new = some cs') :
  ∃ h1, aOp P t h ⟨dst, .call ⟨.builtin .append, #[x, y], #[t1, t2]⟩, tt, pos, after, guard⟩ = some (.val (.slice b off m cap) h1) ∧ Upd h b (.cells g0 cs' eb) h1 := by
 subst hm
 obtain ⟨h1, q1, q2⟩ := storeCells_has hb hg hns hsp
 refine ⟨h1, ?_, q2⟩
 show opCall P t h ⟨.builtin .append, #[x, y], #[t1, t2]⟩ tt = _
 have he : evs t [x, y] = some [.slice b off len cap, s] := by simp only [evs, mapO, hx, hy]
 have hlt : Nat.blt ((len + n + 300) * 2 * (bytes + 1)) 281474976710656 = true := Nat.ble_eq_true_of_le hroom
 have ha : aAppend P h t1 t2 (.slice b off len cap) s = some (.val (.slice b off (len + n) cap) h1) := by
  unfold aAppend
  rw [hu1, hu2]
  simp only [hs, hby, hz, show lenA (.slice b off len cap) = some len from rfl, hn, hsrc, hlt, hsz, hzl, cond_true]
  unfold appSlice
  rw [Nat.ble_eq_true_of_le hle, q1]
  rfl
 simp only [opCall, he, callWith, aBuiltin, ha]
theorem aOp_clear {t1 el eb : TypeId} {b off n cap : Nat} {z : AVal} {cs cs' : List AVal} {g0 : Kd} (hu1 : P.underlying t1 = some (.slice el)) (hz : zeroT P el = some z) (hx : ev t x = some (.slice b off n cap)) (hn : n ≠ 0) (hb : Has h b (.cells g0 cs eb)) (hg : g0.isRo = false) (hns : scalars (repl z.cells n) = true) (hsp : splice cs off (repl z.cells n) = some cs') :
  ∃ h1, aOp P t h ⟨dst, .call ⟨.builtin .clear, #[x], #[t1]⟩, tt, pos, after, guard⟩ = some (.val undefA h1) ∧ Upd h b (.cells g0 cs' eb) h1 := by
 obtain ⟨h1, q1, q2⟩ := storeCells_has hb hg hns hsp
 refine ⟨h1, ?_, q2⟩
 show opCall P t h ⟨.builtin .clear, #[x], #[t1]⟩ tt = _
 have he : evs t [x] = some [.slice b off n cap] := by simp only [evs, mapO, hx]
 have h0 : Nat.beq n 0 = false := by
  cases q : Nat.beq n 0 with
  | false => rfl
  | true => exact absurd (Nat.eq_of_beq_eq_true q) hn
 simp only [opCall, he, callWith, aBuiltin, hu1, hz, h0, cond_false, q1]
theorem aOp_copyIn {t1 t2 el eb : TypeId} {sz b off len cap n : Nat} {s : AVal} {cs cs' new : List AVal} {g0 : Kd} (hu1 : P.underlying t1 = some (.slice el)) (hs : sizeT P el = some sz) (hx : ev t x = some (.slice b off len cap)) (hy : ev t y = some s) (hn : lenA s = some n) (hm : Nat.min n len = n)
  (hsrc : srcCells h sz n s = some new) (hb : Has h b (.cells g0 cs eb)) (hg : g0.isRo = false) (hns : scalars new = true) (hsp : splice cs off new = some cs') :
  ∃ h1, aOp P t h ⟨dst, .call ⟨.builtin .copy, #[x, y], #[t1, t2]⟩, tt, pos, after, guard⟩ = some (.val (.int .i64 n) h1) ∧ Upd h b (.cells g0 cs' eb) h1 := by
 obtain ⟨h1, q1, q2⟩ := storeCells_has hb hg hns hsp
 refine ⟨h1, ?_, q2⟩
 show opCall P t h ⟨.builtin .copy, #[x, y], #[t1, t2]⟩ tt = _
 have he : evs t [x, y] = some [.slice b off len cap, s] := by simp only [evs, mapO, hx, hy]
 simp only [opCall, he, callWith, aBuiltin, hu1, hs, show lenA (.slice b off len cap) = some len from rfl, hn, hm, hsrc, aSlElems, q1]
variable {c : FC} {k : List AItem} {Q : AM → Prop} {J : Jump} {all : Array Oper} {pl rest : List DOp} {tf ta : Tr AVal} {facts left : List DFact} {i bef d : Nat} {l lrest : List Oper}
theorem GoE.appendIn {t1 t2 el el2 eb : TypeId} {sz bytes b off len cap n m : Nat} {z s : AVal} {cs cs' new : List AVal} {g0 : Kd}
  (hl : pl = ⟨i, bef, false, ⟨dst, .call ⟨.builtin .append, #[x, y], #[t1, t2]⟩, tt, pos, after, guard⟩, false⟩ :: rest) (hw : wantedA all ta ⟨dst, .call ⟨.builtin .append, #[x, y], #[t1, t2]⟩, tt, pos, after, guard⟩ = some true)
  (hu1 : P.underlying t1 = some (.slice el)) (hu2 : P.underlying t2 = some (.slice el2)) (hs : sizeT P el = some sz) (hby : bytesT P el = some bytes) (hz : zeroT P el = some z) (hzl : Nat.beq z.cells.length sz = true) (hsz : Nat.blt 0 sz = true)
  (hx : ev ta x = some (.slice b off len cap)) (hy : ev ta y = some s) (hn : lenA s = some n) (hsrc : srcCells h sz n s = some new) (hm : len + n = m) (hle : m ≤ cap) (hroom : (len + n + 300) * 2 * (bytes + 1) < 281474976710656) (hb : Has h b (.cells g0 cs eb)) (hg : g0.isRo = false) (hns : scalars new = true) (hsp : splice cs (off + len * sz) new = some cs')
  (hleft : dropF bef facts = left) (hd : dst = some d) (hdn : Nat.blt d c.n = true)
  (g : ∀ h1, Upd h b (.cells g0 cs' eb) h1 → recheck P h1 left = true ∧ GoE P c k Q all rest tf left (ta.put (pth d) (some (.slice b off m cap))) h1) : GoE P c k Q all pl tf facts ta h := by
 obtain ⟨h1, q1, q2⟩ := aOp_appendIn (P := P) (dst := dst) (tt := tt) (pos := pos) (after := after) (guard := guard) hu1 hu2 hs hby hz hzl hsz hx hy hn hsrc hm hle hroom hb hg hns hsp
 obtain ⟨g1, g2⟩ := g h1 q2
 exact GoE.noisy0 hl hw q1 hleft g1 (prepD_some hd hdn) g2
theorem GoR.clear {t1 el eb : TypeId} {b off n cap : Nat} {z : AVal} {cs cs' : List AVal} {g0 : Kd} (hl : l = ⟨none, .call ⟨.builtin .clear, #[x], #[t1]⟩, tt, pos, after, guard⟩ :: lrest) (hw : wantedA all t ⟨none, .call ⟨.builtin .clear, #[x], #[t1]⟩, tt, pos, after, guard⟩ = some true)
  (hu1 : P.underlying t1 = some (.slice el)) (hz : zeroT P el = some z) (hx : ev t x = some (.slice b off n cap)) (hn : n ≠ 0) (hb : Has h b (.cells g0 cs eb)) (hg : g0.isRo = false) (hns : scalars (repl z.cells n) = true) (hsp : splice cs off (repl z.cells n) = some cs')
  (g : ∀ h1, Upd h b (.cells g0 cs' eb) h1 → GoR P J c k Q (runOps P c.n all lrest (i + 1) t h1)) : GoR P J c k Q (runOps P c.n all l i t h) := by
 obtain ⟨h1, q1, q2⟩ := aOp_clear (P := P) (dst := none) (tt := tt) (pos := pos) (after := after) (guard := guard) hu1 hz hx hn hb hg hns hsp
 exact GoR.op hl hw q1 rfl (g h1 q2)
theorem GoR.copyIn {t1 t2 el eb : TypeId} {sz b off len cap n : Nat} {s : AVal} {cs cs' new : List AVal} {g0 : Kd} (hl : l = ⟨some d, .call ⟨.builtin .copy, #[x, y], #[t1, t2]⟩, tt, pos, after, guard⟩ :: lrest) (hw : wantedA all t ⟨some d, .call ⟨.builtin .copy, #[x, y], #[t1, t2]⟩, tt, pos, after, guard⟩ = some true)
  (hu1 : P.underlying t1 = some (.slice el)) (hs : sizeT P el = some sz) (hx : ev t x = some (.slice b off len cap)) (hy : ev t y = some s) (hn : lenA s = some n) (hm : Nat.min n len = n)
  (hsrc : srcCells h sz n s = some new) (hb : Has h b (.cells g0 cs eb)) (hg : g0.isRo = false) (hns : scalars new = true) (hsp : splice cs off new = some cs') (hdn : Nat.blt d c.n = true)
  (g : ∀ h1, Upd h b (.cells g0 cs' eb) h1 → GoR P J c k Q (runOps P c.n all lrest (i + 1) (t.put (pth d) (some (.int .i64 n))) h1)) : GoR P J c k Q (runOps P c.n all l i t h) := by
 obtain ⟨h1, q1, q2⟩ := aOp_copyIn (P := P) (dst := some d) (tt := tt) (pos := pos) (after := after) (guard := guard) (t2 := t2) hu1 hs hx hy hn hm hsrc hb hg hns hsp
 exact GoR.op hl hw q1 (prepD_some rfl hdn) (g h1 q2)
theorem aOp_shl {ty2 : TypeId} {a r : Int} {i : Nat} (hx : ev t x = some (.int .i64 a)) (hy : ev t y = some (.int .i64 (i : Nat))) (hi : i ≤ 64) (hr : a * 2 ^ i = r) (hr2 : -9223372036854775808 ≤ r ∧ r ≤ 9223372036854775807) : aOp P t h ⟨dst, .binOp .shl ty x y ty2, tt, pos, after, guard⟩ = some (.val (.int .i64 r) h) := by
 refine aOp_bin hx hy ?_
 have : pureRun P (binOp .shl ty (.int .i64 a) (.int .i64 (i : Nat))) = some (.int .i64 r) := by
  show pureRun P (Op.shift .shl .i64 a .i64 (i : Nat)) = _
  unfold Op.shift
  rw [if_neg (by omega)]
  have : min ((i : Int)).toNat IntKind.i64.bits = i := by
   show min ((i : Int)).toNat 64 = i
   omega
  rw [this]
  show some (Value.int .i64 (IntKind.i64.wrap (a * 2 ^ i))) = _
  rw [hr, ← wrap64_eq, wrap64_in (by constructor <;> omega)]
 show (match pureRun P (binOp .shl ty (.int .i64 a) (.int .i64 (i : Nat))) with | some v => absV v | none => none) = _
 rw [this]
 rfl
theorem aOp_convU64 {src dt : TypeId} {sd : TypeDesc} {w : Int} (hx : ev t x = some (.int .i64 w)) (hs : P.underlying src = some sd) (hu : P.underlying dt = some (.int .u64)) (hw : 0 ≤ w ∧ w < 9223372036854775808) : aOp P t h ⟨dst, .convert src dt x, tt, pos, after, guard⟩ = some (.val (.int .u64 w) h) := by
 show opConvert P t h src dt x = _
 unfold opConvert
 rw [hx]
 have : pureRun P (convert src dt (.int .i64 w)) = some (.int .u64 w) := by
  unfold convert
  rw [pureRun_bind, pr_underlying hs]
  simp only [Option.bind_some, pureRun_bind, pr_underlying hu]
  have : IntKind.u64.wrap w = w := by
   have h1 : IntKind.u64.wrap w = w % 18446744073709551616 := by rfl
   rw [h1]
   omega
  cases sd <;> (show pureRun P (Conv.intToInt .u64 w) = _; unfold Conv.intToInt; rw [this]; rfl)
 simp only [this]
 rfl
theorem aOp_shr {ty2 : TypeId} {a r : Int} {i : Nat} (hx : ev t x = some (.int .i64 a)) (hy : ev t y = some (.int .i64 (i : Nat))) (hi : i ≤ 64) (hr : a.fdiv (2 ^ i) = r) : aOp P t h ⟨dst, .binOp .shr ty x y ty2, tt, pos, after, guard⟩ = some (.val (.int .i64 r) h) := by
 refine aOp_bin hx hy ?_
 have : pureRun P (binOp .shr ty (.int .i64 a) (.int .i64 (i : Nat))) = some (.int .i64 r) := by
  show pureRun P (Op.shift .shr .i64 a .i64 (i : Nat)) = _
  unfold Op.shift
  rw [if_neg (by omega)]
  have : min ((i : Int)).toNat IntKind.i64.bits = i := by
   show min ((i : Int)).toNat 64 = i
   omega
  rw [this]
  show some (Value.int .i64 (a.fdiv (2 ^ i))) = _
  rw [hr]
 show (match pureRun P (binOp .shr ty (.int .i64 a) (.int .i64 (i : Nat))) with | some v => absV v | none => none) = _
 rw [this]
 rfl
theorem aOp_and1 {ty2 : TypeId} {a r : Int} (hx : ev t x = some (.int .i64 a)) (hy : ev t y = some (.int .i64 1)) (hr : a % 2 = r) : aOp P t h ⟨dst, .binOp .and ty x y ty2, tt, pos, after, guard⟩ = some (.val (.int .i64 r) h) := by
 refine aOp_bin hx hy ?_
 have : pureRun P (binOp .and ty (.int .i64 a) (.int .i64 1)) = some (.int .i64 r) := by
  show pureRun P (if IntKind.i64 ≠ IntKind.i64 then stuck "BinOp: operands of different kinds" else Op.intBits .and .i64 a 1) = _
  rw [if_neg (fun h => h rfl)]
  show some (Value.int .i64 (IntKind.i64.wrap ((BitVec.ofInt 64 a &&& BitVec.ofInt 64 1).toNat : Int))) = _
  have h1 : (BitVec.ofInt 64 a &&& BitVec.ofInt 64 1).toNat = (a % 18446744073709551616).toNat % 2 := by
   rw [BitVec.toNat_and, BitVec.toNat_ofInt]
   show (a % 18446744073709551616).toNat &&& 1 = _
   rw [Nat.and_one_is_mod]
  rw [h1, ← wrap64_eq]
  rw [wrap64_in (by constructor <;> omega)]
  congr 2
  omega
 show (match pureRun P (binOp .and ty (.int .i64 a) (.int .i64 1)) with | some v => absV v | none => none) = _
 rw [this]
 rfl
end
end Go.AbsE

namespace Go.AbsE
open Go
set_option linter.unusedSimpArgs false
set_option maxRecDepth 100000
section
variable {P : Program} {t : Tr AVal} {h : AH} {dst : Option Tmp} {ty tt : TypeId} {pos : String} {after : Array Edge} {guard : Option (Nat × Bool)} {x y : Operand}
theorem i64_small {n : Nat} (hn : n < 9223372036854775808) : IntKind.i64.wrap (n : Nat) = n := by
 rw [← wrap64_eq]
 exact wrap64_in (by constructor <;> omega)
theorem aOp_andNat {ty2 : TypeId} {a b r : Nat} (hx : ev t x = some (.int .i64 (a : Nat))) (hy : ev t y = some (.int .i64 (b : Nat))) (ha : a < 9223372036854775808) (hb : b < 9223372036854775808) (hr : a &&& b = r) :
  aOp P t h ⟨dst, .binOp .and ty x y ty2, tt, pos, after, guard⟩ = some (.val (.int .i64 (r : Nat)) h) := by
 refine aOp_bin hx hy ?_
 have : pureRun P (binOp .and ty (.int .i64 (a : Nat)) (.int .i64 (b : Nat))) = some (.int .i64 (r : Nat)) := by
  show pureRun P (if IntKind.i64 ≠ IntKind.i64 then stuck "BinOp: operands of different kinds" else Op.intBits .and .i64 (a : Nat) (b : Nat)) = _
  rw [if_neg (fun h => h rfl)]
  show some (Value.int .i64 (IntKind.i64.wrap ((BitVec.ofInt 64 (a : Nat) &&& BitVec.ofInt 64 (b : Nat)).toNat : Int))) = _
  have h1 : (BitVec.ofInt 64 (a : Nat) &&& BitVec.ofInt 64 (b : Nat)).toNat = r := by
   rw [BitVec.ofInt_natCast, BitVec.ofInt_natCast, BitVec.toNat_and, BitVec.toNat_ofNat, BitVec.toNat_ofNat, Nat.mod_eq_of_lt (by omega), Nat.mod_eq_of_lt (by omega)]
   exact hr
  have h2 : r ≤ a := by rw [← hr]; exact Nat.and_le_left
  rw [h1, i64_small (by omega)]
 show (match pureRun P (binOp .and ty (.int .i64 (a : Nat)) (.int .i64 (b : Nat))) with | some v => absV v | none => none) = _
 rw [this]
 rfl
def andNot (a b : Nat) : Nat := (BitVec.ofNat 64 a &&& ~~~BitVec.ofNat 64 b).toNat
theorem aOp_andNot {ty2 : TypeId} {a b r : Nat} (hx : ev t x = some (.int .i64 (a : Nat))) (hy : ev t y = some (.int .i64 (b : Nat))) (ha : a < 9223372036854775808) (hr : andNot a b = r) :
  aOp P t h ⟨dst, .binOp .andNot ty x y ty2, tt, pos, after, guard⟩ = some (.val (.int .i64 (r : Nat)) h) := by
 refine aOp_bin hx hy ?_
 have : pureRun P (binOp .andNot ty (.int .i64 (a : Nat)) (.int .i64 (b : Nat))) = some (.int .i64 (r : Nat)) := by
  show pureRun P (if IntKind.i64 ≠ IntKind.i64 then stuck "BinOp: operands of different kinds" else Op.intBits .andNot .i64 (a : Nat) (b : Nat)) = _
  rw [if_neg (fun h => h rfl)]
  show some (Value.int .i64 (IntKind.i64.wrap ((BitVec.ofInt 64 (a : Nat) &&& ~~~BitVec.ofInt 64 (b : Nat)).toNat : Int))) = _
  have h1 : (BitVec.ofInt 64 (a : Nat) &&& ~~~BitVec.ofInt 64 (b : Nat)).toNat = r := by
   rw [BitVec.ofInt_natCast, BitVec.ofInt_natCast]
   exact hr
  have h2 : r ≤ a := by
   rw [← hr]
   unfold andNot
   rw [BitVec.toNat_and]
   refine Nat.le_trans Nat.and_le_left ?_
   rw [BitVec.toNat_ofNat]
   exact Nat.mod_le _ _
  rw [h1, i64_small (by omega)]
 show (match pureRun P (binOp .andNot ty (.int .i64 (a : Nat)) (.int .i64 (b : Nat))) with | some v => absV v | none => none) = _
 rw [this]
 rfl
end
end Go.AbsE

set_option linter.unusedSimpArgs false
namespace Go.AbsE
open Go
section
variable {all : Array Oper}
noncomputable def befs0 (all : Array Oper) : List Nat := (befL all.toList 0 []).reverse
theorem idx_ne {a b : Nat} (l : List Nat) (h : b ≠ a) : (b :: l).idxOf a = l.idxOf a + 1 := by
 rw [List.idxOf_cons]
 have : (b == a) = false := by simpa using h
 rw [this]
 rfl
theorem VB.ord {B : Nat → Nat} : ∀ {s : List Nat} {D : Nat → Prop}, VB all B D s → ∀ i, i ∈ s → ∀ k, (B i).testBit k = true → D k ∨ (k ∈ s ∧ s.idxOf k < s.idxOf i)
 | [], _, _, i, hi, _, _ => by cases hi
 | i0 :: s, D, ⟨h1, h2, h3, h4⟩, i, hi, k, hk => by
  by_cases q : i = i0
  ·subst q
   exact .inl (h3 k hk)
  ·have his : i ∈ s := (List.mem_cons.1 hi).resolve_left q
   rcases VB.ord h4 i his k hk with (z | z) | ⟨z1, z2⟩
   ·exact .inl z
   ·subst z
    right
    refine ⟨List.mem_cons_self, ?_⟩
    rw [List.idxOf_cons_self, idx_ne _ (fun e => q e.symm)]
    omega
   ·by_cases hk0 : k = i0
    ·subst hk0
     right
     refine ⟨List.mem_cons_self, ?_⟩
     rw [List.idxOf_cons_self, idx_ne _ (fun e => q e.symm)]
     omega
    ·right
     refine ⟨List.mem_cons_of_mem _ z1, ?_⟩
     rw [idx_ne _ (fun e => hk0 e.symm), idx_ne _ (fun e => q e.symm)]
     omega
theorem VB.cover {B : Nat → Nat} : ∀ {s : List Nat} {D : Nat → Prop}, VB all B D s → ∀ i, i < all.size → D i ∨ i ∈ s
 | [], _, h, i, hi => .inl (h i hi)
 | i0 :: s, D, ⟨h1, h2, h3, h4⟩, i, hi => by
  rcases VB.cover h4 i hi with (z | z) | z
  ·exact .inl z
  ·subst z; exact .inr List.mem_cons_self
  ·exact .inr (List.mem_cons_of_mem _ z)
theorem VB.not {B : Nat → Nat} : ∀ {s : List Nat} {D : Nat → Prop}, VB all B D s → ∀ i, D i → i ∉ s
 | [], _, _, _, _ => by simp
 | i0 :: s, D, ⟨h1, h2, h3, h4⟩, i, hi => by
  intro q
  rcases List.mem_cons.1 q with z | z
  ·subst z; exact h2 hi
  ·exact VB.not h4 i (.inl hi) z
theorem VB.add {B B' : Nat → Nat} : ∀ {s : List Nat} {D : Nat → Prop}, VB all B D s → (∀ i, i ∈ s → ∀ k, (B' i).testBit k = true → D k ∨ (k ∈ s ∧ s.idxOf k < s.idxOf i)) → VB all B' D s
 | [], _, h, _ => h
 | i0 :: s, D, ⟨h1, h2, h3, h4⟩, g => by
  refine ⟨h1, h2, fun k hk => ?_, VB.add h4 fun i hi k hk => ?_⟩
  ·rcases g i0 List.mem_cons_self k hk with z | ⟨_, z⟩
   ·exact z
   ·rw [List.idxOf_cons_self] at z
    omega
  ·have hne : i ≠ i0 := fun q => VB.not h4 i0 (.inr rfl) (q ▸ hi)
   rcases g i (List.mem_cons_of_mem _ hi) k hk with z | ⟨z1, z2⟩
   ·exact .inl (.inl z)
   ·by_cases hk0 : k = i0
    ·exact .inl (.inr hk0)
    ·right
     refine ⟨(List.mem_cons.1 z1).resolve_left hk0, ?_⟩
     rw [idx_ne _ (fun e => hk0 e.symm), idx_ne _ (fun e => hne e.symm)] at z2
     omega
end
end Go.AbsE

set_option linter.unusedSimpArgs false
namespace Go.AbsE
open Go
section
variable {all : Array Oper}
theorem VB.lt {B : Nat → Nat} : ∀ {s : List Nat} {D : Nat → Prop}, VB all B D s → ∀ i, i ∈ s → i < all.size
 | [], _, _, _, h => by cases h
 | i0 :: s, D, ⟨h1, h2, h3, h4⟩, i, h => by
  rcases List.mem_cons.1 h with q | q
  ·subst q; exact h1
  ·exact VB.lt h4 i q
theorem VB.before {s base : List Nat} (hv : VB all (nthN (befs0 all)) (fun _ => False) s) (hb : befs0 all = base) (i k : Nat) (hi : i < all.size) (hk : (nthN base i).testBit k = true) : s.idxOf k < s.idxOf i := by
 rw [hb] at hv
 rcases VB.ord hv i ((VB.cover hv i hi).resolve_left id) k hk with z | z
 ·exact z.elim
 ·exact z.2
end
section
variable {P : Program} {c : FC} {k : List AItem} {Q : AM → Prop} {all : Array Oper} {pl rest : List DOp} {tf ta : Tr AVal} {facts left : List DFact} {i bef d : Nat} {h : AH}
theorem GoE.alloc {dst : Option Tmp} {tt : TypeId} {pos : String} {after : Array Edge} {guard : Option (Nat × Bool)} {el : TypeId} {z : AVal} (hl : pl = ⟨i, bef, false, ⟨dst, .alloc el, tt, pos, after, guard⟩, false⟩ :: rest) (hw : wantedA all ta ⟨dst, .alloc el, tt, pos, after, guard⟩ = some true)
  (hz : zeroT P el = some z) (hleft : dropF bef facts = left) (hd : dst = some d) (hdn : Nat.blt d c.n = true)
  (g : ∀ h1, Ext h h1 → Has h1 h.next (.cells .plain z.cells el) → recheck P h1 left = true ∧ GoE P c k Q all rest tf left (ta.put (pth d) (some (.ptr h.next 0))) h1) : GoE P c k Q all pl tf facts ta h := by
 obtain ⟨h1, q⟩ := new_some h (.cells .plain z.cells el)
 obtain ⟨_, q2, q3⟩ := new_ext q
 obtain ⟨g1, g2⟩ := g h1 q2 q3
 refine GoE.noisy0 (v := .ptr h.next 0) (h1 := h1) hl hw ?_ hleft g1 (prepD_some hd hdn) g2
 show opAlloc P h el = _
 unfold opAlloc
 rw [hz]
 simp only [q, ptrTo]
end
end Go.AbsE

set_option linter.unusedSimpArgs false
namespace Go.AbsE
open Go
section
variable {P : Program} {t : Tr AVal} {h : AH} {dst : Option Tmp} {tt : TypeId} {pos : String} {after : Array Edge} {guard : Option (Nat × Bool)} {x y : Operand}
theorem aOp_appendNew {el el2 eb t1 t2 : TypeId} {sz bytes b : Nat} {z s : AVal} {g0 : Kd} {L : List (List AVal)} (hu1 : P.underlying t1 = some (.slice el)) (hu2 : P.underlying t2 = some (.slice el2)) (hs : sizeT P el = some sz) (hby : bytesT P el = some bytes) (hz : zeroT P el = some z) (hzl : Nat.beq z.cells.length sz = true) (hsz : Nat.blt 0 sz = true)
  (hx : ev t x = some (.slice b 0 0 0)) (hb : Has h b (.cells g0 [] eb)) (hy : ev t y = some s) (hsl : SliceOf h sz s L) (hL : 0 < L.length) (hroom : (0 + L.length + 300) * 2 * (bytes + 1) < 281474976710656) :
  ∃ h1, aOp P t h ⟨dst, .call ⟨.builtin .append, #[x, y], #[t1, t2]⟩, tt, pos, after, guard⟩ = some (.val (.gsl h.next 0 0 L.length) h1) ∧ Ext h h1 ∧ Has h1 h.next (.cells .grow L.flatten el) := by
 obtain ⟨h1, q⟩ := new_some h (.cells .grow L.flatten el)
 obtain ⟨_, q2, q3⟩ := new_ext q
 refine ⟨h1, ?_, q2, q3⟩
 show opCall P t h ⟨.builtin .append, #[x, y], #[t1, t2]⟩ tt = _
 have he : evs t [x, y] = some [.slice b 0 0 0, s] := by simp only [evs, mapO, hx, hy]
 have hlt : Nat.blt ((0 + L.length + 300) * 2 * (bytes + 1)) 281474976710656 = true := Nat.ble_eq_true_of_le hroom
 have hold : srcCells h sz 0 (.slice b 0 0 0) = some [] := by
  show AbsE.loadCells h b 0 (0 * sz) = _
  unfold AbsE.loadCells
  rw [hb.2, Nat.zero_mul]
  rfl
 have hle : Nat.ble (0 + L.length) 0 = false := by
  cases q : Nat.ble (0 + L.length) 0 with
  | false => rfl
  | true => have := Nat.le_of_ble_eq_true q; omega
 have ha : aAppend P h t1 t2 (.slice b 0 0 0) s = some (.val (.gsl h.next 0 0 L.length) h1) := by
  unfold aAppend
  rw [hu1, hu2]
  simp only [hs, hby, hz, show lenA (.slice b 0 0 0) = some 0 from rfl, hsl.len, hsl.src, hlt, hsz, hzl, cond_true]
  unfold appSlice
  rw [hle, hold]
  simp only [cond_false, List.nil_append, Nat.zero_add]
  unfold growNew
  rw [q]
 simp only [opCall, he, callWith, aBuiltin, ha]
variable {c : FC} {k : List AItem} {Q : AM → Prop} {J : Jump} {all : Array Oper} {l lrest : List Oper} {i d : Nat}
theorem GoR.appendNew {el el2 eb t1 t2 : TypeId} {sz bytes b : Nat} {z s : AVal} {g0 : Kd} {L : List (List AVal)} (hl : l = ⟨dst, .call ⟨.builtin .append, #[x, y], #[t1, t2]⟩, tt, pos, after, guard⟩ :: lrest) (hw : wantedA all t ⟨dst, .call ⟨.builtin .append, #[x, y], #[t1, t2]⟩, tt, pos, after, guard⟩ = some true)
  (hu1 : P.underlying t1 = some (.slice el)) (hu2 : P.underlying t2 = some (.slice el2)) (hs : sizeT P el = some sz) (hby : bytesT P el = some bytes) (hz : zeroT P el = some z) (hzl : Nat.beq z.cells.length sz = true) (hsz : Nat.blt 0 sz = true)
  (hx : ev t x = some (.slice b 0 0 0)) (hb : Has h b (.cells g0 [] eb)) (hy : ev t y = some s) (hsl : SliceOf h sz s L) (hL : 0 < L.length) (hroom : (0 + L.length + 300) * 2 * (bytes + 1) < 281474976710656) (hd : dst = some d) (hdn : Nat.blt d c.n = true)
  (g : ∀ h1, Ext h h1 → Has h1 h.next (.cells .grow L.flatten el) → GoR P J c k Q (runOps P c.n all lrest (i + 1) (t.put (pth d) (some (.gsl h.next 0 0 L.length))) h1)) : GoR P J c k Q (runOps P c.n all l i t h) := by
 obtain ⟨h1, q1, q2, q3⟩ := aOp_appendNew (P := P) (dst := dst) (tt := tt) (pos := pos) (after := after) (guard := guard) hu1 hu2 hs hby hz hzl hsz hx hb hy hsl hL hroom
 exact GoR.op hl hw q1 (prepD_some hd hdn) (g h1 q2 q3)
end
end Go.AbsE

set_option linter.unusedSimpArgs false
namespace Go.AbsE
open Go
section
variable {P : Program} {t : Tr AVal} {h : AH} {dst : Option Tmp} {ty tt : TypeId} {pos : String} {after : Array Edge} {guard : Option (Nat × Bool)} {x y : Operand}
theorem aOp_mul {ty2 : TypeId} {a b r : Int} (hx : ev t x = some (.int .i64 a)) (hy : ev t y = some (.int .i64 b)) (hr : a * b = r) (hr2 : -9223372036854775808 ≤ r ∧ r ≤ 9223372036854775807) :
  aOp P t h ⟨dst, .binOp .mul ty x y ty2, tt, pos, after, guard⟩ = some (.val (.int .i64 r) h) := by
 refine aOp_bin hx hy ?_
 have hw : IntKind.i64.wrap r = r := by
  rw [← wrap64_eq]
  exact wrap64_in (by constructor <;> omega)
 have : pureRun P (binOp .mul ty (.int .i64 a) (.int .i64 b)) = some (.int .i64 r) := by
  show pureRun P (if IntKind.i64 ≠ IntKind.i64 then stuck "BinOp: operands of different kinds" else Op.intArith .mul .i64 a b) = _
  rw [if_neg (fun h => h rfl)]
  show some (Value.int .i64 (IntKind.i64.wrap (a * b))) = _
  rw [hr, hw]
 show (match pureRun P (binOp .mul ty (.int .i64 a) (.int .i64 b)) with | some v => absV v | none => none) = _
 rw [this]
 rfl
end
end Go.AbsE

set_option linter.unusedSimpArgs false
namespace Go.AbsE
open Go
section
variable {P : Program} {t : Tr AVal} {h : AH} {dst : Option Tmp} {ty tt : TypeId} {pos : String} {after : Array Edge} {guard : Option (Nat × Bool)} {x y : Operand}
theorem aResults_c {z : Tmp} {b off : Nat} {g : Kd} {cs l : List AVal} {el : TypeId} {v : AVal} {r : List ResultVar} (hx : t.get (pth z) = some (.ptr b off)) (hb : Has h b (.cells g cs el)) (hv : inCells P ty cs off = some v) (hr : aResults P h t r = some l) : aResults P h t (.cell z ty :: r) = some (v :: l) := by
 simp only [aResults, hx, loadVar_cells hb hv, hr]
end
theorem same_bool (b : Bool) : sameA (.bool b) (.bool b) = true := by cases b <;> rfl
def i64s (l : List Int) : List AVal := l.map (.int .i64)
theorem same_ints' : ∀ l : List Int, sameAs (i64s l) (i64s l) = true
 | [] => rfl
 | x :: l => by
  show cond (sameA (.int .i64 x) (.int .i64 x)) (sameAs (i64s l) (i64s l)) false = true
  rw [sameA_int, same_ints' l]
  rfl
theorem same_ints (l : List Int) : sameA (.agg (i64s l)) (.agg (i64s l)) = true := by
 simp only [sameA]
 exact same_ints' l
theorem rck {P : Program} {h : AH} {i : Nat} {v : AVal} {dst : Option Tmp} {op : Op} {tt : TypeId} {pos : String} {after : Array Edge} {guard : Option (Nat × Bool)} {t : Tr AVal} {h2 : AH} {l l0 : List DFact} (hl : l0 = ⟨i, ⟨dst, op, tt, pos, after, guard⟩, v, t, false⟩ :: l) (hx : aOp P t h ⟨dst, op, tt, pos, after, guard⟩ = some (.val v h2)) (hr : recheck P h l = true)
  (hs : sameA v v = true := by first | rfl | exact sameA_int _ _ | exact same_bool _ | exact sameA_agg2 _ _ | assumption | exact same_ints _ | (simp [sameA, sameAs, eqI_eq]; done)) : recheck P h l0 = true := recheck_cons hl hx hs hr
theorem ret_true {p : Prop} [Decidable p] (k : p) : AEnd.ret (.bool true) = .ret (.bool (decide p)) := by rw [decide_eq_true k]
theorem ret_false {p : Prop} [Decidable p] (k : ¬ p) : AEnd.ret (.bool false) = .ret (.bool (decide p)) := by rw [decide_eq_false k]
end Go.AbsE

namespace Go.AbsE
open Go
set_option linter.unusedSimpArgs false
set_option maxRecDepth 100000
section
variable {P : Program} {t : Tr AVal} {h : AH} {dst : Option Tmp} {ty tt : TypeId} {pos : String} {after : Array Edge} {guard : Option (Nat × Bool)} {x y : Operand}
theorem aOp_orNat {ty2 : TypeId} {a b r : Nat} (hx : ev t x = some (.int .i64 (a : Nat))) (hy : ev t y = some (.int .i64 (b : Nat))) (ha : a < 2 ^ 63) (hb : b < 2 ^ 63) (hr : a ||| b = r) :
  aOp P t h ⟨dst, .binOp .or ty x y ty2, tt, pos, after, guard⟩ = some (.val (.int .i64 (r : Nat)) h) := by
 refine aOp_bin hx hy ?_
 have hr2 : r < 2 ^ 63 := by rw [← hr]; exact Nat.or_lt_two_pow ha hb
 have : pureRun P (binOp .or ty (.int .i64 (a : Nat)) (.int .i64 (b : Nat))) = some (.int .i64 (r : Nat)) := by
  show pureRun P (if IntKind.i64 ≠ IntKind.i64 then stuck "BinOp: operands of different kinds" else Op.intBits .or .i64 (a : Nat) (b : Nat)) = _
  rw [if_neg (fun h => h rfl)]
  show some (Value.int .i64 (IntKind.i64.wrap ((BitVec.ofInt 64 (a : Nat) ||| BitVec.ofInt 64 (b : Nat)).toNat : Int))) = _
  have h1 : (BitVec.ofInt 64 (a : Nat) ||| BitVec.ofInt 64 (b : Nat)).toNat = r := by
   rw [BitVec.ofInt_natCast, BitVec.ofInt_natCast, BitVec.toNat_or, BitVec.toNat_ofNat, BitVec.toNat_ofNat, Nat.mod_eq_of_lt (by omega), Nat.mod_eq_of_lt (by omega)]
   exact hr
  rw [h1, i64_small (by omega)]
 show (match pureRun P (binOp .or ty (.int .i64 (a : Nat)) (.int .i64 (b : Nat))) with | some v => absV v | none => none) = _
 rw [this]
 rfl
end
theorem scal_ints : ∀ l : List Int, scalars (i64s l) = true
 | [] => rfl
 | x :: l => by
  show cond (scalar (.int .i64 x)) (scalars (i64s l)) false = true
  rw [scal_ints l]
  rfl
theorem beq_len {α : Type} {l : List α} {n : Nat} (h : l.length = n) : Nat.beq l.length n = true := by rw [h]; exact Nat.beq_refl n
end Go.AbsE

set_option linter.unusedSimpArgs false
namespace Go.AbsE
open Go
section
variable {P : Program}
def vints (l : List Int) : Array Value := (l.map fun x => Value.int .i64 x).toArray
theorem vints_at {l : List Int} {i : Nat} {x : Int} (h : l[i]? = some x) : (vints l)[i]? = some (.int .i64 x) := by
 unfold vints
 simp [h]
theorem pr_eq_arr {t e : TypeId} {k : IntKind} {n : Nat} (h : P.underlying t = some (.array n e)) (he : P.underlying e = some (.int k)) (hs : sizeT P e = some 1) {d : Nat} {a b : List Int} (ha : a.length = n) (hb : b.length = n) :
  pureRun P (Op.equalIn (d + 2) t (.agg (vints a)) (.agg (vints b))) = some (decide (a = b)) := by
 unfold Op.equalIn
 rw [pureRun_bind, pr_underlying h]
 simp only [Option.bind_some, pureRun_bind, pr_sizeOf hs, Std.Legacy.Range.forIn_eq_forIn_range', Std.Legacy.Range.size, Nat.sub_zero, Nat.add_one_sub_one, Nat.div_one]
 have key : ∀ m s, s + m = n → pureRun P (forIn (List.range' s m) (none, ()) fun i __s => do
      let __do_lift ← part e (vints a) (i * 1)
      let __do_lift_1 ← part e (vints b) (i * 1)
      let __do_lift ← Op.equalIn (d + 1) e __do_lift __do_lift_1
      if (!__do_lift) = true then pure (ForInStep.done (some false, ()))
       else pure (ForInStep.yield ((none : Option Bool), ()))) = some (if a.drop s = b.drop s then (none, ()) else (some false, ())) := by
  intro m
  induction m with
  | zero =>
   intro s hs
   have h1 : a.drop s = [] := List.drop_of_length_le (by omega)
   have h2 : b.drop s = [] := List.drop_of_length_le (by omega)
   rw [h1, h2, if_pos rfl]
   rfl
  | succ m ih =>
   intro s hs
   have hsa : s < a.length := by omega
   have hsb : s < b.length := by omega
   have h1 : a.drop s = a[s] :: a.drop (s + 1) := List.drop_eq_getElem_cons hsa
   have h2 : b.drop s = b[s] :: b.drop (s + 1) := List.drop_eq_getElem_cons hsb
   have p1 : pureRun P (part e (vints a) (s * 1)) = some (.int .i64 a[s]) := pr_part_one he (by rw [Nat.mul_one]; exact vints_at (List.getElem?_eq_getElem hsa))
   have p2 : pureRun P (part e (vints b) (s * 1)) = some (.int .i64 b[s]) := pr_part_one he (by rw [Nat.mul_one]; exact vints_at (List.getElem?_eq_getElem hsb))
   have hr : List.range' s (m + 1) = s :: List.range' (s + 1) m := rfl
   rw [hr, List.forIn_cons, h1, h2]
   simp only [pureRun_bind, p1, p2, Option.bind_some, pr_eq_int he]
   by_cases q : a[s] = b[s]
   ·rw [beq_iff_eq.2 q]
    simp only [Bool.not_true, Bool.false_eq_true, if_false, pureRun_pure, Option.bind_some]
    rw [ih (s + 1) (by omega), q]
    simp only [List.cons.injEq, true_and]
   ·rw [beq_eq_false_iff_ne.2 q]
    simp only [Bool.not_false, if_true, pureRun_pure, Option.bind_some]
    rw [if_neg (fun z => q (by injection z))]
 have k0 := key n 0 (by omega)
 rw [k0]
 simp only [List.drop_zero]
 by_cases q : a = b
 ·rw [if_pos q, decide_eq_true q]; rfl
 ·rw [if_neg q, decide_eq_false q]; rfl
theorem pr_check_arr {t e : TypeId} {k : IntKind} {n : Nat} (h : P.underlying t = some (.array n e)) (he : P.underlying e = some (.int k)) (hs : sizeT P e = some 1) {d : Nat} {c : Bool} {a : List Int} (ha : a.length = n) :
  pureRun P (Instr.checkKey c (d + 2) t (.agg (vints a))) = some () := by
 unfold Instr.checkKey
 rw [pureRun_bind, pr_underlying h]
 simp only [Option.bind_some, pureRun_bind, pr_sizeOf hs, Std.Legacy.Range.forIn_eq_forIn_range', Std.Legacy.Range.size, Nat.sub_zero, Nat.add_one_sub_one, Nat.div_one]
 have key : ∀ m s, s + m = n → pureRun P (forIn (List.range' s m) PUnit.unit fun i __s => do
      let __do_lift ← sizeOf e
      let __do_lift ← part e (vints a) (i * __do_lift)
      Instr.checkKey c (d + 1) e __do_lift
      pure (ForInStep.yield PUnit.unit)) = some PUnit.unit := by
  intro m
  induction m with
  | zero => intro s _; rfl
  | succ m ih =>
   intro s hsm
   have hsa : s < a.length := by omega
   have p1 : pureRun P (part e (vints a) (s * 1)) = some (.int .i64 a[s]) := pr_part_one he (by rw [Nat.mul_one]; exact vints_at (List.getElem?_eq_getElem hsa))
   have hr : List.range' s (m + 1) = s :: List.range' (s + 1) m := rfl
   rw [hr, List.forIn_cons]
   simp only [pureRun_bind, pr_sizeOf hs, p1, Option.bind_some, pr_check_int he, pureRun_pure]
   exact ih (s + 1) (by omega)
 rw [key n 0 (by omega)]
 rfl
def FieldI (P : Program) (f : Field) (n : Nat) : Prop := f.name ≠ "_" ∧ ((n = 1 ∧ ∃ k, P.underlying f.type = some (.int k)) ∨ (sizeT P f.type = some n ∧ ∃ e k, P.underlying f.type = some (.array n e) ∧ P.underlying e = some (.int k) ∧ sizeT P e = some 1))
inductive FieldsI (P : Program) : Nat → List Field → Nat → Prop
 | nil (o : Nat) : FieldsI P o [] o
 | cons {o n N : Nat} {f : Field} {l : List Field} (h1 : FieldI P f n) (h2 : f.offset = o) (h3 : FieldsI P (o + n) l N) : FieldsI P o (f :: l) N
theorem FieldsI.le {o N : Nat} {l : List Field} (h : FieldsI P o l N) : o ≤ N := by
 induction h with
 | nil o => exact Nat.le_refl _
 | cons _ _ _ ih => omega
theorem vints_ext {a : List Int} {o n : Nat} : (vints a).extract o (o + n) = vints ((a.drop o).take n) := by
 unfold vints
 rw [List.extract_toArray, List.extract_eq_take_drop, ← List.map_drop, ← List.map_take]
 congr 3
 omega
theorem pr_eq_field {f : Field} {n o N : Nat} (F : FieldI P f n) {a b : List Int} (ha : a.length = N) (hb : b.length = N) (ho : o + n ≤ N) {d : Nat} :
  ((pureRun P (part f.type (vints a) o)).bind fun x => (pureRun P (part f.type (vints b) o)).bind fun y => pureRun P (Op.equalIn (d + 2) f.type x y)) = some (decide ((a.drop o).take n = (b.drop o).take n)) := by
 obtain ⟨_, ⟨rfl, k, hk⟩ | ⟨hs, e, k, h1, h2, h3⟩⟩ := F
 ·have hsa : o < a.length := by omega
  have hsb : o < b.length := by omega
  rw [pr_part_one hk (vints_at (List.getElem?_eq_getElem hsa)), pr_part_one hk (vints_at (List.getElem?_eq_getElem hsb))]
  simp only [Option.bind_some]
  rw [pr_eq_int hk, List.drop_eq_getElem_cons hsa, List.drop_eq_getElem_cons hsb, List.take_succ_cons, List.take_succ_cons, List.take_zero, List.take_zero]
  by_cases q : a[o] = b[o]
  ·rw [beq_iff_eq.2 q, q, decide_eq_true rfl]
  ·rw [beq_eq_false_iff_ne.2 q, decide_eq_false (fun z => q (by injection z))]
 ·rw [pr_part_array h1 hs, pr_part_array h1 hs]
  simp only [Option.bind_some]
  rw [vints_ext, vints_ext, pr_eq_arr h1 h2 h3 (by rw [List.length_take, List.length_drop]; omega) (by rw [List.length_take, List.length_drop]; omega)]
theorem pr_check_field {f : Field} {n o N : Nat} (F : FieldI P f n) {a : List Int} (ha : a.length = N) (ho : o + n ≤ N) {d : Nat} {c : Bool} :
  ((pureRun P (part f.type (vints a) o)).bind fun x => pureRun P (Instr.checkKey c (d + 2) f.type x)) = some () := by
 obtain ⟨_, ⟨rfl, k, hk⟩ | ⟨hs, e, k, h1, h2, h3⟩⟩ := F
 ·have hsa : o < a.length := by omega
  rw [pr_part_one hk (vints_at (List.getElem?_eq_getElem hsa))]
  simp only [Option.bind_some]
  exact pr_check_int hk
 ·rw [pr_part_array h1 hs]
  simp only [Option.bind_some]
  rw [vints_ext, pr_check_arr h1 h2 h3 (by rw [List.length_take, List.length_drop]; omega)]
structure KeyN (P : Program) (kt : TypeId) (N : Nat) : Prop where
 fs : ∃ fs : Array Field, P.underlying kt = some (.struct fs) ∧ FieldsI P 0 fs.toList N
 std : P.stoodInHeld kt = false
theorem pr_eq_keyN {kt : TypeId} {N : Nat} (K : KeyN P kt N) {a b : List Int} (ha : a.length = N) (hb : b.length = N) : pureRun P (Op.equal kt (.agg (vints a)) (.agg (vints b))) = some (decide (a = b)) := by
 obtain ⟨⟨fs, hu, hf⟩, hst⟩ := K
 show pureRun P (Op.equalIn (9999 + 1) kt _ _) = _
 unfold Op.equalIn
 rw [pureRun_bind, pr_underlying hu]
 simp only [Option.bind_some, pureRun_bind, pr_program, hst, Bool.false_eq_true, if_false, ← Array.forIn_toList]
 have key : ∀ (l : List Field) (o : Nat), FieldsI P o l N → pureRun P (forIn l (none, ()) fun f __s =>
      if f.name ≠ "_" then do
       let __do_lift ← part f.type (vints a) f.offset
       let __do_lift_1 ← part f.type (vints b) f.offset
       let __do_lift ← Op.equalIn 9999 f.type __do_lift __do_lift_1
       if (!__do_lift) = true then pure (ForInStep.done (some false, ()))
        else pure (ForInStep.yield ((none : Option Bool), ()))
      else pure (ForInStep.yield ((none : Option Bool), ()))) = some (if a.drop o = b.drop o then (none, ()) else (some false, ())) := by
  intro l o hl
  clear hf hu
  induction hl with
  | nil o =>
   rw [List.drop_of_length_le (by omega), List.drop_of_length_le (by omega), if_pos rfl]
   rfl
  | cons h1 h2 h3 ih =>
   rename_i o n N f l
   have hle := h3.le
   have e1 := pr_eq_field (d := 9997) h1 ha hb (by omega)
   rw [List.forIn_cons, if_pos h1.1]
   simp only [pureRun_bind]
   rw [h2]
   obtain ⟨x, hx⟩ : ∃ x, pureRun P (part f.type (vints a) o) = some x := by
    cases q : pureRun P (part f.type (vints a) o) with
    | none => rw [q] at e1; cases e1
    | some x => exact ⟨x, rfl⟩
   obtain ⟨y, hy⟩ : ∃ y, pureRun P (part f.type (vints b) o) = some y := by
    rw [hx] at e1
    cases q : pureRun P (part f.type (vints b) o) with
    | none => rw [q] at e1; cases e1
    | some x => exact ⟨x, rfl⟩
   rw [hx, hy] at e1
   simp only [Option.bind_some] at e1
   rw [hx, hy]
   simp only [Option.bind_some]
   rw [e1]
   have ha2 : a.drop o = (a.drop o).take n ++ a.drop (o + n) := by rw [← List.drop_drop, List.take_append_drop]
   have hb2 : b.drop o = (b.drop o).take n ++ b.drop (o + n) := by rw [← List.drop_drop, List.take_append_drop]
   have hla : ((a.drop o).take n).length = n := by rw [List.length_take, List.length_drop]; omega
   have hlb : ((b.drop o).take n).length = n := by rw [List.length_take, List.length_drop]; omega
   have iff : a.drop o = b.drop o ↔ (a.drop o).take n = (b.drop o).take n ∧ a.drop (o + n) = b.drop (o + n) := by
    constructor
    ·intro q
     refine ⟨by rw [q], ?_⟩
     rw [← List.drop_drop, ← List.drop_drop, q]
    ·rintro ⟨q1, q2⟩
     rw [ha2, hb2, q1, q2]
   by_cases q : (a.drop o).take n = (b.drop o).take n
   ·rw [decide_eq_true q]
    simp only [Option.bind_some, Bool.not_true, Bool.false_eq_true, if_false, pureRun_pure]
    rw [ih ha hb]
    by_cases q2 : a.drop (o + n) = b.drop (o + n)
    ·rw [if_pos q2, if_pos (iff.2 ⟨q, q2⟩)]
    ·rw [if_neg q2, if_neg (fun z => q2 (iff.1 z).2)]
   ·rw [decide_eq_false q]
    simp only [Option.bind_some, Bool.not_false, if_true, pureRun_pure]
    rw [if_neg (fun z => q (iff.1 z).1)]
 rw [key _ _ hf]
 simp only [List.drop_zero]
 by_cases q : a = b
 ·rw [if_pos q, decide_eq_true q]; rfl
 ·rw [if_neg q, decide_eq_false q]; rfl
theorem pr_check_keyN {kt : TypeId} {N : Nat} (K : KeyN P kt N) {a : List Int} (ha : a.length = N) {c : Bool} : pureRun P (Instr.checkKey c 10000 kt (.agg (vints a))) = some () := by
 obtain ⟨⟨fs, hu, hf⟩, hst⟩ := K
 show pureRun P (Instr.checkKey c (9999 + 1) kt _) = _
 unfold Instr.checkKey
 rw [pureRun_bind, pr_underlying hu]
 simp only [Option.bind_some, pureRun_bind, ← Array.forIn_toList]
 have key : ∀ (l : List Field) (o : Nat), FieldsI P o l N → pureRun P (forIn l PUnit.unit fun f __s =>
      if f.name ≠ "_" then do
       let __do_lift ← part f.type (vints a) f.offset
       Instr.checkKey c 9999 f.type __do_lift
       pure (ForInStep.yield PUnit.unit)
      else pure (ForInStep.yield PUnit.unit)) = some PUnit.unit := by
  intro l o hl
  clear hf hu
  induction hl with
  | nil o => rfl
  | cons h1 h2 h3 ih =>
   rename_i o n N f l
   have hle := h3.le
   have e1 := pr_check_field (d := 9997) (c := c) h1 ha (by omega)
   rw [List.forIn_cons, if_pos h1.1]
   simp only [pureRun_bind]
   rw [h2]
   obtain ⟨x, hx⟩ : ∃ x, pureRun P (part f.type (vints a) o) = some x := by
    cases q : pureRun P (part f.type (vints a) o) with
    | none => rw [q] at e1; cases e1
    | some x => exact ⟨x, rfl⟩
   rw [hx] at e1
   simp only [Option.bind_some] at e1
   rw [hx]
   simp only [Option.bind_some]
   rw [e1]
   simp only [Option.bind_some, pureRun_pure]
   exact ih ha
 rw [key _ _ hf]
 rfl
theorem grounds_i64s : ∀ l : List Int, grounds (i64s l) = some (l.map fun x => Value.int .i64 x) := by
 intro l
 induction l with
 | nil => rfl
 | cons a l ih =>
  unfold i64s at ih ⊢
  simp only [List.map_cons, grounds, AVal.ground, ih]
theorem ground_vints (l : List Int) : (AVal.agg (i64s l)).ground = some (.agg (vints l)) := by
 simp only [AVal.ground, grounds_i64s]
 rfl
end
section
variable {P : Program} {t : Tr AVal} {h : AH} {dst : Option Tmp} {ty tt : TypeId} {pos : String} {after : Array Edge} {guard : Option (Nat × Bool)} {x y : Operand} {c : FC} {k : List AItem} {Q : AM → Prop} {J : Jump} {all : Array Oper} {pl rest : List DOp} {tf ta : Tr AVal} {facts left : List DFact} {i bef d : Nat} {l lrest : List Oper}
theorem GoE.copyIn {t1 t2 el eb : TypeId} {sz b off len cap n : Nat} {s : AVal} {cs cs' new : List AVal} {g0 : Kd} (hl : pl = ⟨i, bef, false, ⟨dst, .call ⟨.builtin .copy, #[x, y], #[t1, t2]⟩, tt, pos, after, guard⟩, false⟩ :: rest) (hw : wantedA all ta ⟨dst, .call ⟨.builtin .copy, #[x, y], #[t1, t2]⟩, tt, pos, after, guard⟩ = some true)
  (hu1 : P.underlying t1 = some (.slice el)) (hs : sizeT P el = some sz) (hx : ev ta x = some (.slice b off len cap)) (hy : ev ta y = some s) (hn : lenA s = some n) (hm : Nat.min n len = n)
  (hsrc : srcCells h sz n s = some new) (hb : Has h b (.cells g0 cs eb)) (hg : g0.isRo = false) (hns : scalars new = true) (hsp : splice cs off new = some cs') (hleft : dropF bef facts = left) (hd : dst = some d) (hdn : Nat.blt d c.n = true)
  (g : ∀ h1, Upd h b (.cells g0 cs' eb) h1 → recheck P h1 left = true ∧ GoE P c k Q all rest tf left (ta.put (pth d) (some (.int .i64 n))) h1) : GoE P c k Q all pl tf facts ta h := by
 obtain ⟨h1, q1, q2⟩ := aOp_copyIn (P := P) (dst := dst) (tt := tt) (pos := pos) (after := after) (guard := guard) (t2 := t2) hu1 hs hx hy hn hm hsrc hb hg hns hsp
 obtain ⟨g1, g2⟩ := g h1 q2
 exact GoE.noisy0 hl hw q1 hleft g1 (prepD_some hd hdn) g2
end
end Go.AbsE

set_option linter.unusedSimpArgs false
namespace Go.AbsE
open Go
inductive Cut (P : Program) (h : AH) (sz : Nat) : AVal → Nat → Prop
 | nil : Cut P h sz .nilslice 0
 | sl {b off n cap : Nat} (hle : n ≤ cap) : Cut P h sz (.slice b off n cap) n
 | gsl {b off i n : Nat} {cs : List AVal} {el : TypeId} (hb : Has h b (.cells .grow cs el)) (ho : off = i * sz) (hl : off + n * sz ≤ cs.length) (he : eqSize P el sz = true) : Cut P h sz (.gsl b off i n) n
theorem Cut.ext {P : Program} {h h' : AH} {sz n : Nat} {s : AVal} (k : Cut P h sz s n) (e : Ext h h') : Cut P h' sz s n := by
 cases k with
 | nil => exact .nil
 | sl hle => exact .sl hle
 | gsl hb ho hl he => exact .gsl (hb.ext e) ho hl he
theorem SliceOf.drop {h : AH} {sz b off i : Nat} {s s' : AVal} {L : List (List AVal)} (k : SliceOf h sz s L) (hs : aSlElems s = some (b, off, L.length)) (hs' : aSlElems s' = some (b, off + i * sz, L.length - i)) (hn' : lenA s' = some (L.length - i)) (hi : i ≤ L.length) : SliceOf h sz s' (L.drop i) := by
 cases k with
 | nil => simp [aSlElems] at hs
 | mk hs2 hn hb hl hz hc =>
  rw [hs] at hs2
  cases hs2
  refine .mk hs' hn' hb (by rw [List.length_drop]) (fun l hl => hz l (List.mem_of_mem_drop hl)) ?_
  have hp := loadCells_part (k := i * sz) (m := (L.length - i) * sz) hc (by rw [← Nat.add_mul, Nat.add_sub_cancel' hi]; exact Nat.le_refl _)
  rw [List.length_drop, hp]
  congr 1
  have e1 : (L.take i).flatten.length = i * sz := by
   rw [flatten_len (sz := sz) (fun l hl => hz l (List.mem_of_mem_take hl)), List.length_take, Nat.min_eq_left hi]
  have e2 : (L.drop i).flatten.length = (L.length - i) * sz := by
   rw [flatten_len (sz := sz) (fun l hl => hz l (List.mem_of_mem_drop hl)), List.length_drop]
  have e3 : L.flatten = (L.take i).flatten ++ (L.drop i).flatten := by rw [← List.flatten_append, List.take_append_drop]
  rw [e3, ← e1, List.drop_left, ← e2, List.take_length]
theorem grow_own {h : AH} {el : TypeId} {sz lo : Nat} {s : AVal} {n : Nat} {cs : List AVal} (k : Grow h el sz lo s n cs) {b : Nat} (hs : s = .gsl b 0 0 n) : lo ≤ b ∧ b < h.next := by
 rcases k.2 with ⟨rfl, _⟩ | ⟨_, b', h1, rfl, h3⟩
 ·cases hs
 ·cases hs; exact ⟨h1, h3.1⟩
theorem grow_extF {S : Nat → Prop} {h h' : AH} {el : TypeId} {sz lo : Nat} {s : AVal} {n : Nat} {cs : List AVal} (k : Grow h el sz lo s n cs) (e : ExtF S h h') (hS : ∀ b, S b → b < lo) : Grow h' el sz lo s n cs := by
 obtain ⟨k1, k2⟩ := k
 refine ⟨k1, ?_⟩
 rcases k2 with k2 | ⟨h0, b, h1, h2, h3⟩
 ·exact .inl k2
 ·exact .inr ⟨h0, b, h1, h2, h3.extF e (fun q => by have := hS b q; omega)⟩
theorem flat_slice {α : Type} {f : α → List AVal} {sz : Nat} (hf : ∀ p, (f p).length = sz) {l : List α} {d : Nat} {p : List AVal} (h : (l.map f)[d]? = some p) : slice? (l.flatMap f) (d * sz) sz = some p := by
 have := slice_flatten (sz := sz) (L := l.map f) (fun x hx => by obtain ⟨q, _, rfl⟩ := List.mem_map.1 hx; exact hf q) d p h
 rwa [← List.flatMap_def] at this
def CutAt (P : Program) (h : AH) (sz i : Nat) (s s' : AVal) : Prop := ∀ {t : Tr AVal} {dst : Option Tmp} {ty tt el : TypeId} {pos : String} {after : Array Edge} {guard : Option (Nat × Bool)} {x lo : Operand}, P.underlying ty = some (.slice el) → sizeT P el = some sz → ev t x = some s → ev t lo = some (.int .i64 (i : Nat)) →
 aOp P t h ⟨dst, .slice ty x (some lo) none none, tt, pos, after, guard⟩ = some (.val s' h)
theorem Cut.at {P : Program} {h : AH} {sz n i : Nat} {s : AVal} {L : List (List AVal)} (C : Cut P h sz s n) (S : SliceOf h sz s L) (hL : L.length = n) (hi : i < n) (h0 : 0 < sz) : ∃ s', CutAt P h sz i s s' ∧ SliceOf h sz s' (L.drop i) := by
 have hlo' : ∀ {t : Tr AVal} {lo : Operand}, ev t lo = some (.int .i64 (i : Nat)) → evO t (some lo) = some (some (.int .i64 (i : Nat))) := by
  intro t lo hlo
  show (match ev t lo with | some v => some (some v) | none => none) = _
  rw [hlo]
 cases C with
 | nil => omega
 | sl hle =>
  rename_i b off cap
  exact ⟨_, fun hu hs hx hlo => aOp_slice hu hs hx (hlo' hlo) rfl (cut_lo (by omega)) hle (by omega), S.drop (by rw [hL]; rfl) (by rw [hL]; rfl) (by rw [hL]; rfl) (by omega)⟩
 | gsl hb ho hl he =>
  rename_i b off j cs el2
  have key : ∀ s', (cond (Nat.beq i 0) (some (ANext.val (.gsl b off j n) h)) (cond (Nat.blt i n) (some (.val (.gsl b (off + i * sz) (j + i) (n - i)) h)) none)) = some (.val s' h) → CutAt P h sz i (.gsl b off j n) s' := by
   intro s' q t dst ty tt el pos after guard x lo hu hs hx hlo
   show opSlice P t h ty x (some lo) none = _
   unfold opSlice
   rw [hx, hlo' hlo, show evO t none = some none from rfl, hu]
   dsimp only
   rw [hs]
   show sliceOf P h sz (.gsl b off j n) (some (.int .i64 (i : Nat))) none = _
   unfold sliceOf
   simp only [cut_lo (n := n) (cap := n) (i := i) (by omega), hb.2]
   rw [show Nat.beq off (j * sz) = true by rw [ho]; exact Nat.beq_refl _, Nat.ble_eq_true_of_le hl, show Nat.blt 0 sz = true from Nat.ble_eq_true_of_le h0, he]
   exact q
  by_cases hi0 : i = 0
  ·subst hi0
   exact ⟨_, key _ rfl, S.drop (by rw [hL]; rfl) (by rw [hL]; simp [aSlElems]) (by rw [hL]; rfl) (by omega)⟩
  ·have h1 : Nat.beq i 0 = false := by
    cases q : Nat.beq i 0 with
    | false => rfl
    | true => exact absurd (Nat.eq_of_beq_eq_true q) hi0
   have h2 : Nat.blt i n = true := Nat.ble_eq_true_of_le hi
   exact ⟨_, key _ (by rw [h1, h2]; rfl), S.drop (by rw [hL]; rfl) (by rw [hL]; rfl) (by rw [hL]; rfl) (by omega)⟩
end Go.AbsE
namespace Go.AbsE
open Go
section
variable {P : Program} {c : FC} {k : List AItem} {t : Tr AVal} {h : AH} {Q : AM → Prop}
theorem gS {x y : Code} (g : Go P c (.code x :: .code y :: k) t h Q) : Go P c (.code (.seq x y) :: k) t h Q := Go.seq noJ_ok g
theorem gR {id : Nat} {ops : Array Oper} {l : List Oper} (hl : ops.toList = l) (g : GoR P noJ c k Q (runOps P c.n ops l 0 t h)) : Go P c (.code (.region id ops false) :: k) t h Q := Go.region noJ_ok hl g
theorem gE {J : Jump} {all : Array Oper} {i : Nat} (g : Go P c k t h Q) : GoR P J c k Q (runOps P c.n all [] i t h) := g
theorem np {v : AVal} {X : AH → Prop} : ∀ chain h', ¬ (AEnd.pan chain = .ret v ∧ X h') := by
 rintro _ _ ⟨q, _⟩
 cases q
theorem dt {p : Prop} [Decidable p] (h : p) : decide p = true := decide_eq_true h
theorem df {p : Prop} [Decidable p] (h : ¬ p) : decide p = false := decide_eq_false h
end
section
variable {P : Program} {t : Tr AVal} {h : AH} {dst : Option Tmp} {ty tt ty2 : TypeId} {pos : String} {after : Array Edge} {guard : Option (Nat × Bool)} {x y : Operand} {a b : Int} (hx : ev t x = some (.int .i64 a)) (hy : ev t y = some (.int .i64 b))
include hx hy
theorem aA (hi : -9223372036854775808 ≤ a + b ∧ a + b ≤ 9223372036854775807 := by omega) : aOp P t h ⟨dst, .binOp .add ty x y ty2, tt, pos, after, guard⟩ = some (.val (.int .i64 (a + b)) h) := aOp_add hx hy (by constructor <;> omega) rfl
theorem aS (hi : -9223372036854775808 ≤ a - b ∧ a - b ≤ 9223372036854775807 := by omega) : aOp P t h ⟨dst, .binOp .sub ty x y ty2, tt, pos, after, guard⟩ = some (.val (.int .i64 (a - b)) h) := aOp_sub hx hy (by constructor <;> omega) rfl
theorem kLT (q : a < b := by omega) : aOp P t h ⟨dst, .binOp .lss ty x y ty2, tt, pos, after, guard⟩ = some (.val (.bool true) h) := aOp_lss hx hy (decide_eq_true q)
theorem kLF (q : ¬ a < b := by omega) : aOp P t h ⟨dst, .binOp .lss ty x y ty2, tt, pos, after, guard⟩ = some (.val (.bool false) h) := aOp_lss hx hy (decide_eq_false q)
theorem kMT (q : a ≤ b := by omega) : aOp P t h ⟨dst, .binOp .leq ty x y ty2, tt, pos, after, guard⟩ = some (.val (.bool true) h) := aOp_leq hx hy (decide_eq_true q)
theorem kMF (q : ¬ a ≤ b := by omega) : aOp P t h ⟨dst, .binOp .leq ty x y ty2, tt, pos, after, guard⟩ = some (.val (.bool false) h) := aOp_leq hx hy (decide_eq_false q)
theorem kGT (q : b < a := by omega) : aOp P t h ⟨dst, .binOp .gtr ty x y ty2, tt, pos, after, guard⟩ = some (.val (.bool true) h) := aOp_gtr hx hy (decide_eq_true q)
theorem kGF (q : ¬ b < a := by omega) : aOp P t h ⟨dst, .binOp .gtr ty x y ty2, tt, pos, after, guard⟩ = some (.val (.bool false) h) := aOp_gtr hx hy (decide_eq_false q)
theorem kNT (q : b ≤ a := by omega) : aOp P t h ⟨dst, .binOp .geq ty x y ty2, tt, pos, after, guard⟩ = some (.val (.bool true) h) := aOp_geq hx hy (decide_eq_true q)
theorem kNF (q : ¬ b ≤ a := by omega) : aOp P t h ⟨dst, .binOp .geq ty x y ty2, tt, pos, after, guard⟩ = some (.val (.bool false) h) := aOp_geq hx hy (decide_eq_false q)
theorem kET (q : a = b := by omega) : aOp P t h ⟨dst, .binOp .eql ty x y ty2, tt, pos, after, guard⟩ = some (.val (.bool true) h) := aOp_eql hx hy (decide_eq_true q)
theorem kEF (q : ¬ a = b := by omega) : aOp P t h ⟨dst, .binOp .eql ty x y ty2, tt, pos, after, guard⟩ = some (.val (.bool false) h) := aOp_eql hx hy (decide_eq_false q)
theorem kXT (q : ¬ a = b := by omega) : aOp P t h ⟨dst, .binOp .neq ty x y ty2, tt, pos, after, guard⟩ = some (.val (.bool true) h) := aOp_neq hx hy (decide_eq_false q)
theorem kXF (q : a = b := by omega) : aOp P t h ⟨dst, .binOp .neq ty x y ty2, tt, pos, after, guard⟩ = some (.val (.bool false) h) := aOp_neq hx hy (decide_eq_true q)
end
theorem gW {P : Program} {f : FuncId} {n : Nat} {k : List AItem} {rest : List AFr} {t : Tr AVal} {h : AH} {R : AEnd → AH → Prop} {fn : Func} {l : List ResultVar} {vs : List AVal} (hf : P.funcs[f]? = some fn) (hl : fn.results.toList = l) (hv : aResults P h t l = some vs) (hR : R (.ret (oneOrTuple vs)) h) : Go P ⟨f, n, [], false, none, rest⟩ (.code .ret :: k) t h (Post P f rest R) := Go.ret noJ_ok (ret_end (aResult_of hf hl hv) hR)
theorem gO : type_of% @GoR.op := @GoR.op
theorem gP {P : Program} {J : Jump} {c : FC} {k : List AItem} {Q : AM → Prop} {all : Array Oper} {l : List Oper} {o : Oper} {rest : List Oper} {i : Nat} {t t' : Tr AVal} {h h' : AH} {v : AVal} (g : GoR P J c k Q (runOps P c.n all rest (i + 1) t' h')) (hl : l = o :: rest := by exact rfl) (hw : wantedA all t o = some true := by exact rfl)
  (hx : aOp P t h o = some (.val v h') := by exact rfl) (hd : (prepD c.n o).run t v = some t' := by exact rfl) : GoR P J c k Q (runOps P c.n all l i t h) := GoR.op hl hw hx hd g
theorem gQ : type_of% @GoE.quiet := @GoE.quiet
theorem gC {P : Program} : type_of% (@Go.cond P noJ noJ_ok) := @Go.cond P noJ noJ_ok
theorem gD {P : Program} : type_of% (@Go.code P noJ noJ_ok) := @Go.code P noJ noJ_ok
theorem gV {P : Program} : type_of% (@Go.ret P noJ noJ_ok) := @Go.ret P noJ noJ_ok
theorem dD {bef : Nat} {f : DFact} {l l' : List DFact} (b k : Nat) (q : dropF bef l = l') (hb : bit? b k = true := by rfl) (hf : bit? bef f.i = bit? b k := by rfl) : dropF bef (f :: l) = l' := dropF_drop (hf.trans hb) q
theorem dK {bef : Nat} {f : DFact} {l l' : List DFact} (b k : Nat) (q : dropF bef l = l') (hb : bit? b k = false := by rfl) (hf : bit? bef f.i = bit? b k := by rfl) : dropF bef (f :: l) = f :: l' := dropF_keep (hf.trans hb) q
theorem aCF : type_of% @aOp_callFunc := @aOp_callFunc
end Go.AbsE

namespace Go.Proofs.YtkcimfopboelaaaGreat
open Go Go.AbsE
set_option linter.unusedSimpArgs false
set_option maxHeartbeats 0
set_option linter.unusedVariables false
def spC (p : Int × Int) : List AVal := [.int .i64 p.1, .int .i64 p.2]
structure PV where
 hl : Int
 hh : Int
 sl : Int
 sh : Int
 rl : Int
 rh : Int
 full : Int
deriving DecidableEq
structure EV where
 kind : Int
 ll : Int
 lh : Int
 days : Int
 part : Int
 wl : Int
 wh : Int
deriving DecidableEq
def PV.cells (p : PV) : List AVal := [.int .i64 p.hl, .int .i64 p.hh, .int .i64 p.sl, .int .i64 p.sh, .int .i64 p.rl, .int .i64 p.rh, .int .i64 p.full]
def EV.cells (e : EV) : List AVal := [.int .i64 e.kind, .int .i64 e.ll, .int .i64 e.lh, .int .i64 e.days, .int .i64 e.part, .int .i64 e.wl, .int .i64 e.wh]
structure RoadV where
 ps : List PV
 es : List EV
def PV.Ok (p : PV) : Prop := (0 ≤ p.full ∧ p.full ≤ 60) ∧ (0 ≤ p.hl ∧ p.hl ≤ p.hh ∧ p.hh ≤ p.full ∧ p.hh - p.hl ≤ 2) ∧ (1 ≤ p.sl ∧ p.sl ≤ p.sh ∧ p.sh ≤ 10 ∧ p.sh - p.sl ≤ 2) ∧ (0 ≤ p.rl ∧ p.rl ≤ p.rh ∧ p.rh ≤ 5 ∧ p.rh - p.rl ≤ 2)
instance (p : PV) : Decidable p.Ok := by unfold PV.Ok; infer_instance
def EV.Ok (n : Int) (e : EV) : Prop := (e.kind = 0 ∧ 0 ≤ e.ll ∧ e.ll ≤ e.lh ∧ e.lh ≤ 60 ∧ e.lh - e.ll ≤ 2) ∨ (e.kind = 1 ∧ 1 ≤ e.days ∧ e.days ≤ 10) ∨ (e.kind = 2 ∧ 0 ≤ e.part ∧ e.part ≤ n - 1 ∧ -1000 ≤ e.wl ∧ e.wl ≤ e.wh ∧ e.wh ≤ 1000)
instance (n : Int) (e : EV) : Decidable (e.Ok n) := by unfold EV.Ok; infer_instance
def EV.doubt (e : EV) : Bool := decide (e.kind = 0 ∧ e.ll ≠ e.lh)
def doubtsV (l : List EV) : Nat := (l.filter EV.doubt).length
structure RoadV.Ok (R : RoadV) : Prop where
 np : 1 ≤ R.ps.length ∧ R.ps.length ≤ 4
 ne : R.es.length ≤ 10
 p : ∀ p, p ∈ R.ps → p.Ok
 e : ∀ e, e ∈ R.es → e.Ok R.ps.length
 d : doubtsV R.es ≤ 4
def RoadV.okB (R : RoadV) : Bool := decide (1 ≤ R.ps.length ∧ R.ps.length ≤ 4) && R.ps.all (fun p => decide p.Ok) && decide (R.es.length ≤ 10) && R.es.all (fun e => decide (e.Ok R.ps.length)) && decide (doubtsV R.es ≤ 4)
theorem okB_iff (R : RoadV) : R.okB = true ↔ R.Ok := by
 unfold RoadV.okB
 simp only [Bool.and_eq_true, decide_eq_true_eq, List.all_eq_true]
 constructor
 ·rintro ⟨⟨⟨⟨a, b⟩, c⟩, d⟩, e⟩;exact ⟨a, c, b, d, e⟩
 ·rintro ⟨a, c, b, d, e⟩;exact ⟨⟨⟨⟨a, b⟩, c⟩, d⟩, e⟩
instance (R : RoadV) : Decidable R.Ok := decidable_of_iff _ (okB_iff R)
structure Pc where
 height : Int
 stiff : Int
 rise : Int
 full : Int
deriving DecidableEq
def Pc.cells (x : Pc) : List AVal := [.int .i64 x.height, .int .i64 x.stiff, .int .i64 x.rise, .int .i64 x.full]
def sinksV (load stiff : Int) : Int := (load + stiff - 1).tdiv stiff
def Pc.sinks (x : Pc) (load : Int) : Int := sinksV load x.stiff
def Pc.pressed (x : Pc) (load : Int) : Pc := ⟨x.height - sinksV load x.stiff, x.stiff, x.rise, x.full⟩
def Pc.rested (x : Pc) (days : Int) : Pc := ⟨min (x.height + days * x.rise) x.full, x.stiff, x.rise, x.full⟩
def Pc.bears (x : Pc) (load : Int) : Bool := decide (0 ≤ (x.pressed load).height)
def EV.lo (e : EV) : Int := if e.kind = 0 then e.ll else 0
def EV.hi (e : EV) : Int := if e.kind = 0 then e.lh else 0
def EV.rest (e : EV) : Int := if e.kind = 1 then e.days else 0
def EV.after (e : EV) (x : Pc) (load : Int) : Pc := if e.kind = 0 then x.pressed load else x.rested e.rest
def EV.right (e : EV) (part : Int) (x : Pc) : Bool := decide (e.kind = 2 → part = e.part → e.wl ≤ x.height ∧ x.height ≤ e.wh)
structure Ft where
 x : Pc
 hs : List Int
deriving DecidableEq
def fateGo (part : Int) : List (EV × Int) → Pc → List Int → Option Ft
 | [], x, hs => some ⟨x, hs⟩
 | z :: r, x, hs => if z.1.right part (z.1.after x z.2) then fateGo part r (z.1.after x z.2) (hs ++ [(z.1.after x z.2).height]) else none
def fateV (es : List EV) (part : Int) (x : Pc) (ls : List Int) : Option Ft := fateGo part (es.zip ls) x []
def upto (a b : Int) : List Int := (List.range (b - a + 1).toNat).map fun k : Nat => a + k
theorem mem_upto {a b n : Int} : n ∈ upto a b ↔ a ≤ n ∧ n ≤ b := by
 unfold upto
 simp only [List.mem_map, List.mem_range]
 constructor
 ·rintro ⟨k, h1, rfl⟩
  omega
 ·rintro ⟨h1, h2⟩;exact ⟨(n - a).toNat, by omega, by omega⟩
def PV.pcs (p : PV) : List Pc := (upto p.hl p.hh).flatMap fun h => (upto p.sl p.sh).flatMap fun s => (upto p.rl p.rh).map fun r => ⟨h, s, r, p.full⟩
theorem mem_pcs {p : PV} {x : Pc} : x ∈ p.pcs ↔ (p.hl ≤ x.height ∧ x.height ≤ p.hh) ∧ (p.sl ≤ x.stiff ∧ x.stiff ≤ p.sh) ∧ (p.rl ≤ x.rise ∧ x.rise ≤ p.rh) ∧ x.full = p.full := by
 unfold PV.pcs
 simp only [List.mem_flatMap, List.mem_map, mem_upto]
 constructor
 ·rintro ⟨h, h1, s, h2, r, h3, rfl⟩;exact ⟨h1, h2, h3, rfl⟩
 ·rintro ⟨h1, h2, h3, h4⟩;exact ⟨x.height, h1, x.stiff, h2, x.rise, h3, by rw [← h4]⟩
def fatesV (es : List EV) (part : Int) (p : PV) (ls : List Int) : List Ft := p.pcs.filterMap fun x => fateV es part x ls
theorem mem_fates {es : List EV} {part : Int} {p : PV} {ls : List Int} {f : Ft} : f ∈ fatesV es part p ls ↔ ∃ x, x ∈ p.pcs ∧ fateV es part x ls = some f := by
 unfold fatesV
 rw [List.mem_filterMap]
def haulsV : List EV → List (List Int)
 | [] => [[]]
 | e :: es => (upto e.lo e.hi).flatMap fun k => (haulsV es).map fun l => k :: l
theorem mem_hauls : ∀ {es : List EV} {l : List Int}, l ∈ haulsV es ↔ l.length = es.length ∧ ∀ (i : Nat) e k, es[i]? = some e → l[i]? = some k → e.lo ≤ k ∧ k ≤ e.hi
 | [], l => by
  simp only [haulsV, List.mem_singleton, List.length_nil, List.length_eq_zero_iff]
  constructor
  ·rintro rfl;exact ⟨rfl, fun i e k h => by simp at h⟩
  ·exact fun h => h.1
 | e :: es, l => by
  simp only [haulsV, List.mem_flatMap, List.mem_map, mem_upto]
  constructor
  ·rintro ⟨k, hk, l', hl', rfl⟩
   obtain ⟨h1, h2⟩ := mem_hauls.1 hl'
   refine ⟨by simp [h1], fun i e' k' he hk' => ?_⟩
   cases i with
   | zero =>
    simp at he hk'
    subst he; subst hk'
    exact hk
   | succ i =>
    simp at he hk'
    exact h2 i e' k' he hk'
  ·rintro ⟨h1, h2⟩
   cases l with
   | nil => simp at h1
   | cons k l =>
    exact ⟨k, h2 0 e k rfl rfl, l, mem_hauls.2 ⟨by simpa using h1, fun i e' k' he hk' => h2 (i + 1) e' k' (by simpa using he) (by simpa using hk')⟩, rfl⟩
theorem hauls_len {es : List EV} {l : List Int} (h : l ∈ haulsV es) : l.length = es.length := (mem_hauls.1 h).1
def RoadV.fates (R : RoadV) (ls : List Int) : List (List Ft) := R.ps.mapIdx fun i p => fatesV R.es i p ls
def RoadV.can (R : RoadV) (ls : List Int) : Bool := (R.fates ls).all fun l => !l.isEmpty
def RoadV.hs (R : RoadV) : List (List Int) := (haulsV R.es).filter R.can
def RoadV.possible (R : RoadV) : Bool := !R.hs.isEmpty
def RoadV.known (R : RoadV) : List (List (List Ft)) := R.hs.map R.fates
theorem fates_at {R : RoadV} {ls : List Int} {i : Nat} {p : PV} (h : R.ps[i]? = some p) : (R.fates ls)[i]? = some (fatesV R.es i p ls) := by
 unfold RoadV.fates
 rw [List.getElem?_mapIdx, h]
 rfl
theorem fates_len (R : RoadV) (ls : List Int) : (R.fates ls).length = R.ps.length := by unfold RoadV.fates; rw [List.length_mapIdx]
def joinP (a b : Int × Int) : Int × Int := (min a.1 b.1, max a.2 b.2)
def noSp : Int × Int := (9223372036854775807, -9223372036854775808)
def joinL (l : List (Int × Int)) : Int × Int := l.foldl joinP noSp
def atPart (k : List (List (List Ft))) (i : Nat) : List Ft := k.flatMap fun parts => (parts[i]?).getD []
def spreadV (k : List (List (List Ft))) (i : Nat) (m : Ft → Int) : Int × Int := joinL ((atPart k i).map fun f => (m f, m f))
def alwaysV (k : List (List (List Ft))) (s : Ft → Bool) : Bool := k.all fun parts => parts.all fun fs => fs.all s
def perhapsV (k : List (List (List Ft))) (s : Ft → Bool) : Bool := k.any fun parts => parts.all fun fs => fs.any s
def bearsV (k : List (List (List Ft))) (load : Int) : Int := if alwaysV k (fun f => f.x.bears load) then 2 else if perhapsV k (fun f => f.x.bears load) then 1 else 0
def down (n : Nat) : List Int := (List.range (n + 1)).map fun k : Nat => (n : Int) - k
def mostV (k : List (List (List Ft))) : Option Int := (down 60).find? fun l => alwaysV k fun f => f.x.bears l
def restV (k : List (List (List Ft))) (load : Int) : Option Int := (upto 0 10).find? fun d => alwaysV k fun f => (f.x.rested d).bears load
def above (i : Nat) (f : Ft) : Bool := decide (0 ≤ (f.hs[i]?).getD 0)
def bitsV (n : Nat) (p : Nat → Bool) : Nat := (List.range n).foldl (fun s i => if p i then s ||| 2 ^ i else s) 0
def RoadV.surely (R : RoadV) : Nat := bitsV R.es.length fun i => !perhapsV R.known (above i)
def RoadV.perhaps (R : RoadV) : Nat := bitsV R.es.length fun i => !alwaysV R.known (above i)
def RoadV.ends (R : RoadV) : List (Int × Int) := (List.range R.ps.length).map fun i => spreadV R.known i fun f => f.x.height
def RoadV.weak (R : RoadV) : Int := match R.ends.findIdx? (fun s => s.1 == (joinL R.ends).1) with | some i => i | none => -1
def lookB (e : EV) : Bool := decide (e.kind = 2)
def looksV (l : List EV) : Nat := bitsV l.length fun i => match l[i]? with | some e => lookB e | none => false
def withoutV (l : List EV) (out : Nat) : List EV := (l.zipIdx).filterMap fun x => if out.testBit x.2 then none else some x.1
end Go.Proofs.YtkcimfopboelaaaGreat

namespace Go.Proofs.YtkcimfopboelaaaGreat
open Go Go.AbsE
set_option linter.unusedSimpArgs false
set_option maxHeartbeats 0
set_option linter.unusedVariables false
theorem mem_known {R : RoadV} {parts : List (List Ft)} : parts ∈ R.known ↔ ∃ ls, ls ∈ haulsV R.es ∧ R.can ls = true ∧ R.fates ls = parts := by
 unfold RoadV.known RoadV.hs
 simp only [List.mem_map, List.mem_filter, and_assoc]
theorem can_iff {R : RoadV} {ls : List Int} : R.can ls = true ↔ ∀ (i : Nat) p, R.ps[i]? = some p → ∃ f, f ∈ fatesV R.es i p ls := by
 unfold RoadV.can
 rw [List.all_eq_true]
 constructor
 ·intro h i p hp
  have := h _ (List.mem_of_getElem? (fates_at (ls := ls) hp))
  cases q : fatesV R.es i p ls with
  | nil => rw [q] at this; simp at this
  | cons f l => exact ⟨f, List.mem_cons_self⟩
 ·intro h fs hfs
  obtain ⟨i, hi⟩ := List.mem_iff_getElem?.1 hfs
  have hlt := (List.getElem?_eq_some_iff.1 hi).1
  rw [fates_len] at hlt
  obtain ⟨p, hp⟩ : ∃ p, R.ps[i]? = some p := ⟨R.ps[i], by simp [hlt]⟩
  rw [fates_at hp] at hi;cases hi
  obtain ⟨f, hf⟩ := h i p hp
  cases q : fatesV R.es i p ls with
  | nil => rw [q] at hf; simp at hf
  | cons f l => simp
theorem known_parts {R : RoadV} {parts : List (List Ft)} (h : parts ∈ R.known) : parts.length = R.ps.length ∧ ∀ fs, fs ∈ parts → fs ≠ [] := by
 obtain ⟨ls, h1, h2, rfl⟩ := mem_known.1 h
 refine ⟨fates_len R ls, fun fs hfs => ?_⟩
 unfold RoadV.can at h2
 have := List.all_eq_true.1 h2 fs hfs
 intro q
 subst q
 simp at this
theorem mem_atPart {k : List (List (List Ft))} {i : Nat} {f : Ft} : f ∈ atPart k i ↔ ∃ parts fs, parts ∈ k ∧ parts[i]? = some fs ∧ f ∈ fs := by
 unfold atPart
 rw [List.mem_flatMap]
 constructor
 ·rintro ⟨parts, h1, h2⟩
  cases q : parts[i]? with
  | none => rw [q] at h2; simp at h2
  | some fs => rw [q] at h2; exact ⟨parts, fs, h1, q, h2⟩
 ·rintro ⟨parts, fs, h1, q, h2⟩;exact ⟨parts, h1, by rw [q]; exact h2⟩
theorem joinL_go {l : List (Int × Int)} : ∀ {a : Int × Int}, (l.foldl joinP a).1 ≤ a.1 ∧ a.2 ≤ (l.foldl joinP a).2 ∧ (∀ s, s ∈ l → (l.foldl joinP a).1 ≤ s.1 ∧ s.2 ≤ (l.foldl joinP a).2) ∧ ((l.foldl joinP a).1 = a.1 ∨ ∃ s, s ∈ l ∧ s.1 = (l.foldl joinP a).1) ∧ ((l.foldl joinP a).2 = a.2 ∨ ∃ s, s ∈ l ∧ s.2 = (l.foldl joinP a).2) := by
 induction l with
 | nil => intro a; exact ⟨Int.le_refl _, Int.le_refl _, fun s h => by simp at h, .inl rfl, .inl rfl⟩
 | cons x l ih =>
  intro a
  obtain ⟨h1, h2, h3, h4, h5⟩ := ih (a := joinP a x)
  rw [List.foldl_cons]
  generalize l.foldl joinP (joinP a x) = r at *
  have q1 : (joinP a x).1 = min a.1 x.1 := rfl
  have q2 : (joinP a x).2 = max a.2 x.2 := rfl
  refine ⟨by omega, by omega, fun s hs => ?_, ?_, ?_⟩
  ·rcases List.mem_cons.1 hs with rfl | hs
   ·omega
   ·exact h3 s hs
  ·rcases h4 with h4 | ⟨s, hs, h4⟩
   ·by_cases q : a.1 ≤ x.1
    ·exact .inl (by omega)
    ·exact .inr ⟨x, List.mem_cons_self, by omega⟩
   ·exact .inr ⟨s, List.mem_cons_of_mem _ hs, h4⟩
  ·rcases h5 with h5 | ⟨s, hs, h5⟩
   ·by_cases q : x.2 ≤ a.2
    ·exact .inl (by omega)
    ·exact .inr ⟨x, List.mem_cons_self, by omega⟩
   ·exact .inr ⟨s, List.mem_cons_of_mem _ hs, h5⟩
def I64 (n : Int) : Prop := -9223372036854775808 ≤ n ∧ n ≤ 9223372036854775807
theorem joinL_ends {l : List (Int × Int)} (hne : l ≠ []) (hb : ∀ s, s ∈ l → I64 s.1 ∧ I64 s.2) : (∀ s, s ∈ l → (joinL l).1 ≤ s.1 ∧ s.2 ≤ (joinL l).2) ∧ (∃ s, s ∈ l ∧ s.1 = (joinL l).1) ∧ ∃ s, s ∈ l ∧ s.2 = (joinL l).2 := by
 obtain ⟨h1, h2, h3, h4, h5⟩ := joinL_go (l := l) (a := noSp)
 have q1 : noSp.1 = 9223372036854775807 := rfl
 have q2 : noSp.2 = -9223372036854775808 := rfl
 obtain ⟨x, hx⟩ : ∃ x, x ∈ l := List.exists_mem_of_ne_nil l hne
 have hbx := hb x hx
 unfold I64 at hbx
 have h3x := h3 x hx
 refine ⟨h3, ?_, ?_⟩
 ·rcases h4 with h4 | h4
  ·refine ⟨x, hx, ?_⟩
   unfold joinL at *
   omega
  ·exact h4
 ·rcases h5 with h5 | h5
  ·refine ⟨x, hx, ?_⟩
   unfold joinL at *
   omega
  ·exact h5
theorem spread_ends {k : List (List (List Ft))} {i : Nat} {m : Ft → Int} (hne : atPart k i ≠ []) (hb : ∀ f, f ∈ atPart k i → I64 (m f)) : (∀ f, f ∈ atPart k i → (spreadV k i m).1 ≤ m f ∧ m f ≤ (spreadV k i m).2) ∧ (∃ f, f ∈ atPart k i ∧ m f = (spreadV k i m).1) ∧ ∃ f, f ∈ atPart k i ∧ m f = (spreadV k i m).2 := by
 unfold spreadV
 obtain ⟨h1, h2, h3⟩ := joinL_ends (l := (atPart k i).map fun f => (m f, m f)) (by simpa using hne) (by
  rintro s hs
  obtain ⟨f, hf, rfl⟩ := List.mem_map.1 hs
  exact ⟨hb f hf, hb f hf⟩)
 refine ⟨fun f hf => h1 (m f, m f) (List.mem_map.2 ⟨f, hf, rfl⟩), ?_, ?_⟩
 ·obtain ⟨s, hs, q⟩ := h2
  obtain ⟨f, hf, rfl⟩ := List.mem_map.1 hs
  exact ⟨f, hf, q⟩
 ·obtain ⟨s, hs, q⟩ := h3
  obtain ⟨f, hf, rfl⟩ := List.mem_map.1 hs
  exact ⟨f, hf, q⟩
theorem sinks_nonneg {load stiff : Int} (h1 : 0 ≤ load) (h2 : 1 ≤ stiff) : 0 ≤ sinksV load stiff := by
 unfold sinksV
 exact Int.tdiv_nonneg (by omega) (by omega)
theorem sinks_def {load stiff : Int} (h1 : 0 ≤ load) (h2 : 1 ≤ stiff) : sinksV load stiff = (load + stiff - 1) / stiff := by
 unfold sinksV
 exact Int.tdiv_eq_ediv_of_nonneg (by omega)
theorem sinks_le {load stiff : Int} (h1 : 0 ≤ load) (h2 : 1 ≤ stiff) : sinksV load stiff ≤ load := by
 rw [sinks_def h1 h2];apply Int.le_of_lt_add_one;apply Int.ediv_lt_of_lt_mul (by omega)
 have : (load + 1) * 1 ≤ (load + 1) * stiff := Int.mul_le_mul_of_nonneg_left h2 (by omega)
 have e : (load + 1) * stiff = load * stiff + stiff := by rw [Int.add_mul, Int.one_mul]
 have : load * 1 ≤ load * stiff := Int.mul_le_mul_of_nonneg_left h2 h1
 omega
structure Pc.In (x : Pc) (lo : Int) : Prop where
 h : -lo ≤ x.height ∧ x.height ≤ x.full
 s : 1 ≤ x.stiff ∧ x.stiff ≤ 10
 r : 0 ≤ x.rise ∧ x.rise ≤ 5
 f : 0 ≤ x.full ∧ x.full ≤ 60
theorem pcs_in {p : PV} (hp : p.Ok) {x : Pc} (hx : x ∈ p.pcs) : x.In 0 := by
 obtain ⟨h1, h2, h3, h4⟩ := mem_pcs.1 hx
 obtain ⟨a, b, c, d⟩ := hp
 exact ⟨by omega, by omega, by omega, by omega⟩
theorem mul_small {a b A B : Int} (h1 : 0 ≤ a ∧ a ≤ A) (h2 : 0 ≤ b ∧ b ≤ B) : 0 ≤ a * b ∧ a * b ≤ A * B :=
 ⟨Int.mul_nonneg h1.1 h2.1, Int.mul_le_mul h1.2 h2.2 h2.1 (by omega)⟩
theorem after_in {n : Int} {e : EV} (he : e.Ok n) {x : Pc} {lo l : Int} (hx : x.In lo) (h1 : e.lo ≤ l) (h2 : l ≤ e.hi) : (e.after x l).In (lo + 60) := by
 obtain ⟨a, b, c, d⟩ := hx
 unfold EV.after
 unfold EV.lo at h1
 unfold EV.hi at h2
 split
 ·rename_i hk
  rw [if_pos hk] at h1 h2
  have hl : 0 ≤ l ∧ l ≤ 60 := by
   rcases he with he | he | he <;> omega
  have := sinks_nonneg hl.1 b.1
  have := sinks_le hl.1 b.1
  exact ⟨by show _ ≤ x.height - _ ∧ x.height - _ ≤ x.full; omega, b, c, d⟩
 ·have hd : 0 ≤ e.rest ∧ e.rest ≤ 10 := by
   unfold EV.rest
   rcases he with he | he | he
   ·omega
   ·rw [if_pos he.1]; omega
   ·rw [if_neg (by omega)]; omega
  have := mul_small hd c
  exact ⟨by show _ ≤ min (x.height + _) x.full ∧ min (x.height + _) x.full ≤ x.full; omega, b, c, d⟩
end Go.Proofs.YtkcimfopboelaaaGreat
