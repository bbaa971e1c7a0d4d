import Derived.Test.YtmdheijpnlonoaaMAH
namespace Go.AbsE
open Go
set_option linter.unusedSimpArgs false
set_option maxRecDepth 100000
section
variable {P : Program}
theorem aOp_quo {t : Tr AVal} {h : AH} {dst : Option Tmp} {ty tt ty2 : TypeId} {pos : String} {after : Array Edge} {guard : Option (Nat × Bool)} {x y : Operand} {a b r : Int} (hx : ev t x = some (.int .i64 a)) (hy : ev t y = some (.int .i64 b)) (hb : b ≠ 0) (hr : a.tdiv b = r) (hr2 : -9223372036854775808 ≤ r ∧ r ≤ 9223372036854775807) :
    aOp P t h ⟨dst, .binOp .quo ty x y ty2, tt, pos, after, guard⟩ = some (.val (.int .i64 r) h) := by
  refine aOp_bin hx hy ?_
  have hw : IntKind.i64.wrap r = r := by
    rw [← wrap64_eq]
    exact wrap64_in (by constructor <;> omega)
  have : pureRun P (binOp .quo ty (.int .i64 a) (.int .i64 b)) = some (.int .i64 r) := by
    show pureRun P (if IntKind.i64 ≠ IntKind.i64 then stuck "BinOp: operands of different kinds" else Op.intDiv .quo .i64 a b) = _
    rw [if_neg (fun h => h rfl)]
    unfold Op.intDiv
    rw [if_neg hb, hr, hw]
    rfl
  show (match pureRun P (binOp .quo ty (.int .i64 a) (.int .i64 b)) with | some v => absV v | none => none) = _
  rw [this]
  rfl
/-- Structs of two numbers. -/
structure SpanT (P : Program) (kt : TypeId) : Prop where
  fs : ∃ f0 f1 : Field, P.underlying kt = some (.struct #[f0, f1]) ∧ f0.name ≠ "_" ∧ f1.name ≠ "_" ∧ f0.offset = 0 ∧ f1.offset = 1 ∧ (∃ k, P.underlying f0.type = some (.int k)) ∧ (∃ k, P.underlying f1.type = some (.int k))
  std : P.stoodInHeld kt = false
  eg : P.eqGuardType P.depth kt = false
theorem pr_eq_span {kt : TypeId} (K : SpanT P kt) {a b a' b' : Int} :
    pureRun P (Op.equal kt (.agg #[.int .i64 a, .int .i64 b]) (.agg #[.int .i64 a', .int .i64 b'])) = some (a == a' && b == b') := by
  obtain ⟨⟨f0, f1, hu, n0, n1, o0, o1, ⟨k0, hf0⟩, ⟨k1, hf1⟩⟩, hst, _⟩ := K
  show pureRun P (Op.equalIn (9999 + 1) kt _ _) = _
  unfold Op.equalIn
  rw [pureRun_bind, pr_underlying hu]
  simp only [Option.bind_some, pureRun_bind, pr_program, hst, Bool.false_eq_true, if_false, ← Array.forIn_toList, List.forIn_cons, List.forIn_nil, n0, n1, ne_eq, not_false_eq_true, if_true, pureRun_pure, o0, o1,
    pr_part_one hf0 (v := .int .i64 a) (cs := #[.int .i64 a, .int .i64 b]) (off := 0) rfl, pr_part_one hf0 (v := .int .i64 a') (cs := #[.int .i64 a', .int .i64 b']) (off := 0) rfl, pr_eq_int hf0]
  cases h0 : a == a'
  · rfl
  · simp only [Bool.not_true, Bool.false_eq_true, if_false, pureRun_bind, pureRun_pure, Option.bind_some, n1, ne_eq, not_false_eq_true, if_true, o1,
      pr_part_one hf1 (v := .int .i64 b) (cs := #[.int .i64 a, .int .i64 b]) (off := 1) rfl, pr_part_one hf1 (v := .int .i64 b') (cs := #[.int .i64 a', .int .i64 b']) (off := 1) rfl, pr_eq_int hf1]
    cases b == b' <;> rfl
theorem aOp_neqSpan {t : Tr AVal} {h : AH} {dst : Option Tmp} {ty tt ty2 : TypeId} {pos : String} {after : Array Edge} {guard : Option (Nat × Bool)} {x y : Operand} {a b a' b' : Int} {r : Bool} (K : SpanT P ty) (hx : ev t x = some (.agg [.int .i64 a, .int .i64 b])) (hy : ev t y = some (.agg [.int .i64 a', .int .i64 b'])) (hr : (!(a == a' && b == b')) = r) :
    aOp P t h ⟨dst, .binOp .neq ty x y ty2, tt, pos, after, guard⟩ = some (.val (.bool r) h) := by
  show opBin P t h .neq ty x y = _
  unfold opBin
  rw [hx, hy]
  have : pureRun P (binOp .neq ty (.agg #[.int .i64 a, .int .i64 b]) (.agg #[.int .i64 a', .int .i64 b'])) = some (.bool (!(a == a' && b == b'))) := by
    show pureRun P (Op.equal ty (.agg #[.int .i64 a, .int .i64 b]) (.agg #[.int .i64 a', .int .i64 b']) >>= fun r => pure (Value.bool (!r))) = _
    rw [pureRun_bind, pr_eq_span K]
    rfl
  show (match cond (P.eqGuardType P.depth ty) none (match pureRun P (binOp .neq ty (.agg #[.int .i64 a, .int .i64 b]) (.agg #[.int .i64 a', .int .i64 b'])) with | some v => absV v | none => none) with | some v => some (ANext.val v h) | none => none) = _
  rw [K.eg, this, hr]
  rfl
theorem aOp_eqlSpan {t : Tr AVal} {h : AH} {dst : Option Tmp} {ty tt ty2 : TypeId} {pos : String} {after : Array Edge} {guard : Option (Nat × Bool)} {x y : Operand} {a b a' b' : Int} {r : Bool} (K : SpanT P ty) (hx : ev t x = some (.agg [.int .i64 a, .int .i64 b])) (hy : ev t y = some (.agg [.int .i64 a', .int .i64 b'])) (hr : (a == a' && b == b') = r) :
    aOp P t h ⟨dst, .binOp .eql ty x y ty2, tt, pos, after, guard⟩ = some (.val (.bool r) h) := by
  show opBin P t h .eql ty x y = _
  unfold opBin
  rw [hx, hy]
  have : pureRun P (binOp .eql ty (.agg #[.int .i64 a, .int .i64 b]) (.agg #[.int .i64 a', .int .i64 b'])) = some (.bool (a == a' && b == b')) := by
    show pureRun P (Op.equal ty (.agg #[.int .i64 a, .int .i64 b]) (.agg #[.int .i64 a', .int .i64 b']) >>= fun r => pure (Value.bool r)) = _
    rw [pureRun_bind, pr_eq_span K]
    rfl
  show (match cond (P.eqGuardType P.depth ty) none (match pureRun P (binOp .eql ty (.agg #[.int .i64 a, .int .i64 b]) (.agg #[.int .i64 a', .int .i64 b'])) with | some v => absV v | none => none) with | some v => some (ANext.val v h) | none => none) = _
  rw [K.eg, this, hr]
  rfl
/-- One element more, from a literal. -/
theorem aOp_append1L {t : Tr AVal} {h : AH} {dst : Option Tmp} {tt : TypeId} {pos : String} {after : Array Edge} {guard : Option (Nat × Bool)} {x y : Operand} {s : AVal} {n lo : Nat} {cs new : List AVal} {t1 t2 el el2 : TypeId} {sz bytes : Nat} {z : AVal}
    (hu1 : P.underlying t1 = some (.slice el)) (hu2 : P.underlying t2 = some (.slice el2)) (hs : sizeT P el = some sz) (hby : bytesT P el = some bytes) (hz : zeroT P el = some z) (hzl : Nat.beq z.cells.length sz = true)
    (hsz : Nat.blt 0 sz = true) (hx : ev t x = some s) (hy : ev t y = some (.lit 1 new)) (hnl : Nat.beq new.length sz = true) (hns : scalars new = true) (hgr : Grow h el sz lo s n cs)
    (hroom : (n + 301) * 2 * (bytes + 1) < 281474976710656) :
    ∃ s' h1, aOp P t h ⟨dst, .call ⟨.builtin .append, #[x, y], #[t1, t2]⟩, tt, pos, after, guard⟩ = some (.val s' h1) ∧ ExtF (fun b => s = .gsl b 0 0 n) h h1 ∧ Grow h1 el sz h.next s' (n + 1) (cs ++ new) := by
  obtain ⟨hcl, hgr⟩ := hgr
  have e1 := Nat.eq_of_beq_eq_true hnl
  have hsrc : srcCells h sz 1 (.lit 1 new) = some new := by
    simp only [srcCells, Nat.one_mul]
    exact slice_all e1
  have hlt : Nat.blt ((n + 1 + 300) * 2 * (bytes + 1)) 281474976710656 = true := Nat.ble_eq_true_of_le hroom
  have hop : ∀ {y'}, aAppend P h t1 t2 s (.lit 1 new) = some y' → aOp P t h ⟨dst, .call ⟨.builtin .append, #[x, y], #[t1, t2]⟩, tt, pos, after, guard⟩ = some y' := by
    intro y' q
    show opCall P t h ⟨.builtin .append, #[x, y], #[t1, t2]⟩ tt = _
    have he : evs t [x, y] = some [s, .lit 1 new] := by simp only [evs, mapO, hx, hy]
    simp only [opCall, he, callWith, aBuiltin, q]
  have hl1 : lenA (.lit 1 new) = some 1 := rfl
  rcases hgr with ⟨rfl, rfl⟩ | ⟨hn0, bs, hlo, rfl, hbs⟩
  · obtain ⟨h1, q⟩ := new_some h (.cells .grow new el)
    obtain ⟨_, q2, q3⟩ := new_ext q
    have hc0 : cs = [] := List.eq_nil_of_length_eq_zero (by simpa using hcl)
    subst hc0
    refine ⟨.gsl h.next 0 0 1, h1, hop ?_, .of q2, ⟨by simp [e1], .inr ⟨by omega, h.next, Nat.le_refl _, rfl, q3⟩⟩⟩
    unfold aAppend
    rw [hu1, hu2]
    simp only [hs, hby, hz, lenA, hl1, hsrc, hlt, hsz, hzl, cond_true]
    have : Nat.beq 1 0 = false := rfl
    simp only [this, cond_false, growNew, q]
  · have hset : ∃ h2, h.set bs none = some h2 := by obtain ⟨tt, nx⟩ := h; exact ⟨_, rfl⟩
    obtain ⟨h2, hset⟩ := hset
    obtain ⟨h1, q⟩ := new_some h2 (.cells .grow (cs ++ new) el)
    obtain ⟨_, q2, q3⟩ := new_ext q
    obtain ⟨hnx, hgt⟩ := AH.get_set hset
    have hx2 : ExtF (fun b => AVal.gsl bs 0 0 n = .gsl b 0 0 n) h h2 := ⟨by omega, fun b hb hne => by rw [hgt, if_neg (fun q => hne (by rw [q]))]⟩
    refine ⟨.gsl h2.next 0 0 (n + 1), h1, hop ?_, hx2.ext q2, ⟨by simp [e1, hcl, Nat.add_mul], .inr ⟨by omega, h2.next, by omega, rfl, q3⟩⟩⟩
    unfold aAppend
    rw [hu1, hu2]
    simp only [hs, hby, hz, show lenA (.gsl bs 0 0 n) = some n from rfl, hl1, hsrc, hlt, hsz, hzl, cond_true]
    unfold appGsl
    rw [hbs.2]
    have b1 : Nat.beq 0 (0 * sz) = true := by simp
    have b2 : eqSize P el sz = true := by unfold eqSize; rw [hs]; simp
    have b3 : Nat.beq el el = true := by simp
    have b4 : Nat.ble (0 + (n + 1) * sz) cs.length = false := by
      cases hq : Nat.ble (0 + (n + 1) * sz) cs.length with
      | false => rfl
      | true =>
        have := Nat.le_of_ble_eq_true hq
        have h3 : 0 < sz := blt_true hsz
        rw [hcl, Nat.zero_add, Nat.add_mul] at this
        omega
    have b5 : srcCells h sz n (.gsl bs 0 0 n) = some cs := by
      simp only [srcCells, loadCells, hbs.2]
      exact slice_all hcl
    simp only [b1, b2, b3, b4, b5, hns, cond_true, cond_false, hset, growNew, q]
    have : Nat.beq 0 0 = true := rfl
    simp only [this, cond_true]
variable {c : FC} {k : List AItem} {Q : AM → Prop} {all : Array Oper} {pl rest : List DOp} {tf ta : Tr AVal} {facts left : List DFact} {i bef d : Nat} {h : AH}
theorem GoE.append1L {dst : Option Tmp} {tt : TypeId} {pos : String} {after : Array Edge} {guard : Option (Nat × Bool)} {x y : Operand} {s : AVal} {n lo : Nat} {cs new : List AVal} {t1 t2 el el2 : TypeId} {sz bytes : Nat} {z : AVal}
    (hl : pl = ⟨i, bef, false, ⟨dst, .call ⟨.builtin .append, #[x, y], #[t1, t2]⟩, tt, pos, after, guard⟩, false⟩ :: rest) (hw : wantedA all ta ⟨dst, .call ⟨.builtin .append, #[x, y], #[t1, t2]⟩, tt, pos, after, guard⟩ = some true)
    (hu1 : P.underlying t1 = some (.slice el)) (hu2 : P.underlying t2 = some (.slice el2)) (hs : sizeT P el = some sz) (hby : bytesT P el = some bytes) (hz : zeroT P el = some z) (hzl : Nat.beq z.cells.length sz = true)
    (hsz : Nat.blt 0 sz = true) (hx : ev ta x = some s) (hy : ev ta y = some (.lit 1 new)) (hnl : Nat.beq new.length sz = true) (hns : scalars new = true) (hgr : Grow h el sz lo s n cs)
    (hroom : (n + 301) * 2 * (bytes + 1) < 281474976710656) (hleft : dropF bef facts = left) (hd : dst = some d) (hdn : Nat.blt d c.n = true)
    (g : ∀ s' h1, ExtF (fun b => s = .gsl b 0 0 n) h h1 → Grow h1 el sz h.next s' (n + 1) (cs ++ new) → recheck P h1 left = true ∧ GoE P c k Q all rest tf left (ta.put (pth d) (some s')) h1) :
    GoE P c k Q all pl tf facts ta h := by
  obtain ⟨s', h1, q1, q2, q3⟩ := aOp_append1L (P := P) (dst := dst) (tt := tt) (pos := pos) (after := after) (guard := guard) hu1 hu2 hs hby hz hzl hsz hx hy hnl hns hgr hroom
  obtain ⟨g1, g2⟩ := g s' h1 q2 q3
  exact GoE.noisy0 hl hw q1 hleft g1 (prepD_some hd hdn) g2
end
section
variable {P : Program} {J : Jump} (hJ : JOk P J) {c : FC} {k : List AItem} {t : Tr AVal} {h : AH} {Q : AM → Prop}
include hJ
theorem Go.label {l : Nat} (g : Go P c k t h Q) : Go P c (.code (.label l) :: k) t h Q := by
  refine Go.plain hJ (fun _ _ _ _ q => by cases q) (fun _ _ _ _ q => by cases q) (fun e IT K a b => ?_) g
  cases a
  exact ⟨_, b, fun F T cs W hm => .one (st_label hm)⟩
end
end Go.AbsE

namespace Go.AbsE
open Go
set_option linter.unusedSimpArgs false
set_option maxRecDepth 100000
section
variable {P : Program} {t : Tr AVal} {h : AH} {dst : Option Tmp} {ty tt : TypeId} {pos : String} {after : Array Edge} {guard : Option (Nat × Bool)} {x y : Operand}
/-! Parts of slices. -/
theorem cut_lo {n cap i : Nat} (hi : i ≤ n) : cut n cap (some (.int .i64 (i : Nat))) none = some (i, n) := by
  show (match cond (Nat.ble i n) (some i) none with | some l => some (l, n) | none => none) = _
  rw [Nat.ble_eq_true_of_le hi]
  rfl
theorem cut_hi {n cap i : Nat} (hi : i ≤ cap) : cut n cap none (some (.int .i64 (i : Nat))) = some (0, i) := by
  show (match cond (Nat.ble i cap) (some i) none with | some hh => (match some 0 with | some l => some (l, hh) | none => none) | none => none) = _
  rw [Nat.ble_eq_true_of_le hi]
  rfl
theorem aOp_slice {el : TypeId} {size b off n cap l hh : Nat} {lo hi : Option Operand} {lv hv : Option AVal} (hu : P.underlying ty = some (.slice el)) (hs : sizeT P el = some size) (hx : ev t x = some (.slice b off n cap)) (hlo : evO t lo = some lv) (hhi : evO t hi = some hv)
    (hc : cut n cap lv hv = some (l, hh)) (hn : n ≤ cap) (hne : l ≠ cap) : aOp P t h ⟨dst, .slice ty x lo hi none, tt, pos, after, guard⟩ = some (.val (.slice b (off + l * size) (hh - l) (cap - l)) h) := by
  show opSlice P t h ty x lo hi = _
  unfold opSlice
  rw [hx, hlo, hhi]
  dsimp only
  rw [hu]
  dsimp only
  rw [hs]
  dsimp only
  unfold sliceOf
  dsimp only
  rw [hc]
  dsimp only
  have h2 : Nat.beq l cap = false := by
    cases q : Nat.beq l cap with
    | false => rfl
    | true => exact absurd (Nat.eq_of_beq_eq_true q) hne
  rw [Nat.ble_eq_true_of_le hn, h2]
  rfl
theorem aOp_sliceAll {el : TypeId} {size b off n cap hh : Nat} {lo hi : Option Operand} {lv hv : Option AVal} (hu : P.underlying ty = some (.slice el)) (hs : sizeT P el = some size) (hx : ev t x = some (.slice b off n cap)) (hlo : evO t lo = some lv) (hhi : evO t hi = some hv)
    (hc : cut n cap lv hv = some (cap, hh)) (hn : n ≤ cap) : aOp P t h ⟨dst, .slice ty x lo hi none, tt, pos, after, guard⟩ = some (.val (.slice b off (hh - cap) (cap - cap)) h) := by
  show opSlice P t h ty x lo hi = _
  unfold opSlice
  rw [hx, hlo, hhi]
  dsimp only
  rw [hu]
  dsimp only
  rw [hs]
  dsimp only
  unfold sliceOf
  dsimp only
  rw [hc]
  dsimp only
  have h2 : Nat.beq cap cap = true := by simp
  rw [Nat.ble_eq_true_of_le hn, h2]
  rfl
theorem aOp_slice3 {el : TypeId} {size b off n cap l hh m : Nat} {lo hi mx : Operand} (hu : P.underlying ty = some (.slice el)) (hs : sizeT P el = some size) (hx : ev t x = some (.slice b off n cap)) (hlo : ev t lo = some (.int .i64 (l : Nat))) (hhi : ev t hi = some (.int .i64 (hh : Nat))) (hmx : ev t mx = some (.int .i64 (m : Nat)))
    (h1 : l ≤ hh) (h2 : hh ≤ m) (h3 : m ≤ cap) (hne : m ≠ l) : aOp P t h ⟨dst, .slice ty x (some lo) (some hi) (some mx), tt, pos, after, guard⟩ = some (.val (.slice b (off + l * size) (hh - l) (m - l)) h) := by
  show opSlice3 P t h ty x lo hi mx = _
  unfold opSlice3
  rw [hu, hx]
  dsimp only
  rw [hs, hlo, hhi, hmx]
  have k2 : Nat.beq m l = false := by
    cases q : Nat.beq m l with
    | false => rfl
    | true => exact absurd (Nat.eq_of_beq_eq_true q) hne
  show cond (Nat.ble l hh) (cond (Nat.ble hh m) (cond (Nat.ble m cap) (cond (Nat.beq m l) _ _) none) none) none = _
  rw [Nat.ble_eq_true_of_le h1, Nat.ble_eq_true_of_le h2, Nat.ble_eq_true_of_le h3, k2]
  rfl
theorem splice_eq {α : Type} : ∀ {cs : List α} {off : Nat} {new : List α}, off + new.length ≤ cs.length → splice cs off new = some (cs.take off ++ new ++ cs.drop (off + new.length))
  | cs, 0, [], _ => by simp [splice]
  | [], 0, _ :: _, h => by simp at h
  | _ :: l, 0, x :: xs, h => by
    have := splice_eq (cs := l) (off := 0) (new := xs) (by simpa using h)
    simp only [splice, this]
    simp
  | [], n + 1, _, h => by simp at h
  | y :: l, n + 1, xs, h => by
    have := splice_eq (cs := l) (off := n) (new := xs) (by simp at h; omega)
    simp only [splice, this, List.take_succ_cons, List.cons_append]
    congr 2
    rw [show n + 1 + xs.length = (n + xs.length) + 1 by omega, List.drop_succ_cons]
theorem cut_both {n cap l hh : Nat} (h1 : l ≤ hh) (h2 : hh ≤ cap) : cut n cap (some (.int .i64 (l : Nat))) (some (.int .i64 (hh : Nat))) = some (l, hh) := by
  show (match cond (Nat.ble hh cap) (some hh) none with | some hh => (match cond (Nat.ble l hh) (some l) none with | some l => some (l, hh) | none => none) | none => none) = _
  rw [Nat.ble_eq_true_of_le h2]
  show (match cond (Nat.ble l hh) (some l) none with | some l => some (l, hh) | none => none) = _
  rw [Nat.ble_eq_true_of_le h1]
  rfl
/-- What is appended where there is room. -/
theorem aOp_appendIn {t1 t2 el el2 eb : TypeId} {sz bytes b off len cap n m : Nat} {z s : AVal} {cs cs' new : List AVal} {g0 : Kd} (hu1 : P.underlying t1 = some (.slice el)) (hu2 : P.underlying t2 = some (.slice el2)) (hs : sizeT P el = some sz) (hby : bytesT P el = some bytes) (hz : zeroT P el = some z) (hzl : Nat.beq z.cells.length sz = true) (hsz : Nat.blt 0 sz = true)
    (hx : ev t x = some (.slice b off len cap)) (hy : ev t y = some s) (hn : lenA s = some n) (hsrc : srcCells h sz n s = some new) (hm : len + n = m) (hle : m ≤ cap) (hroom : (len + n + 300) * 2 * (bytes + 1) < 281474976710656) (hb : Has h b (.cells g0 cs eb)) (hg : g0.isRo = false) (hns : scalars new = true) (hsp : splice cs (off + len * sz) new = some cs') :
    ∃ h1, aOp P t h ⟨dst, .call ⟨.builtin .append, #[x, y], #[t1, t2]⟩, tt, pos, after, guard⟩ = some (.val (.slice b off m cap) h1) ∧ Upd h b (.cells g0 cs' eb) h1 := by
  subst hm
  obtain ⟨h1, q1, q2⟩ := storeCells_has hb hg hns hsp
  refine ⟨h1, ?_, q2⟩
  show opCall P t h ⟨.builtin .append, #[x, y], #[t1, t2]⟩ tt = _
  have he : evs t [x, y] = some [.slice b off len cap, s] := by simp only [evs, mapO, hx, hy]
  have hlt : Nat.blt ((len + n + 300) * 2 * (bytes + 1)) 281474976710656 = true := Nat.ble_eq_true_of_le hroom
  have ha : aAppend P h t1 t2 (.slice b off len cap) s = some (.val (.slice b off (len + n) cap) h1) := by
    unfold aAppend
    rw [hu1, hu2]
    simp only [hs, hby, hz, show lenA (.slice b off len cap) = some len from rfl, hn, hsrc, hlt, hsz, hzl, cond_true]
    unfold appSlice
    rw [Nat.ble_eq_true_of_le hle, q1]
    rfl
  simp only [opCall, he, callWith, aBuiltin, ha]
theorem aOp_clear {t1 el eb : TypeId} {b off n cap : Nat} {z : AVal} {cs cs' : List AVal} {g0 : Kd} (hu1 : P.underlying t1 = some (.slice el)) (hz : zeroT P el = some z) (hx : ev t x = some (.slice b off n cap)) (hn : n ≠ 0) (hb : Has h b (.cells g0 cs eb)) (hg : g0.isRo = false) (hns : scalars (repl z.cells n) = true) (hsp : splice cs off (repl z.cells n) = some cs') :
    ∃ h1, aOp P t h ⟨dst, .call ⟨.builtin .clear, #[x], #[t1]⟩, tt, pos, after, guard⟩ = some (.val undefA h1) ∧ Upd h b (.cells g0 cs' eb) h1 := by
  obtain ⟨h1, q1, q2⟩ := storeCells_has hb hg hns hsp
  refine ⟨h1, ?_, q2⟩
  show opCall P t h ⟨.builtin .clear, #[x], #[t1]⟩ tt = _
  have he : evs t [x] = some [.slice b off n cap] := by simp only [evs, mapO, hx]
  have h0 : Nat.beq n 0 = false := by
    cases q : Nat.beq n 0 with
    | false => rfl
    | true => exact absurd (Nat.eq_of_beq_eq_true q) hn
  simp only [opCall, he, callWith, aBuiltin, hu1, hz, h0, cond_false, q1]
theorem aOp_copyIn {t1 t2 el eb : TypeId} {sz b off len cap n : Nat} {s : AVal} {cs cs' new : List AVal} {g0 : Kd} (hu1 : P.underlying t1 = some (.slice el)) (hs : sizeT P el = some sz) (hx : ev t x = some (.slice b off len cap)) (hy : ev t y = some s) (hn : lenA s = some n) (hm : Nat.min n len = n)
    (hsrc : srcCells h sz n s = some new) (hb : Has h b (.cells g0 cs eb)) (hg : g0.isRo = false) (hns : scalars new = true) (hsp : splice cs off new = some cs') :
    ∃ h1, aOp P t h ⟨dst, .call ⟨.builtin .copy, #[x, y], #[t1, t2]⟩, tt, pos, after, guard⟩ = some (.val (.int .i64 n) h1) ∧ Upd h b (.cells g0 cs' eb) h1 := by
  obtain ⟨h1, q1, q2⟩ := storeCells_has hb hg hns hsp
  refine ⟨h1, ?_, q2⟩
  show opCall P t h ⟨.builtin .copy, #[x, y], #[t1, t2]⟩ tt = _
  have he : evs t [x, y] = some [.slice b off len cap, s] := by simp only [evs, mapO, hx, hy]
  simp only [opCall, he, callWith, aBuiltin, hu1, hs, show lenA (.slice b off len cap) = some len from rfl, hn, hm, hsrc, aSlElems, q1]
variable {c : FC} {k : List AItem} {Q : AM → Prop} {J : Jump} {all : Array Oper} {pl rest : List DOp} {tf ta : Tr AVal} {facts left : List DFact} {i bef d : Nat} {l lrest : List Oper}
theorem GoE.appendIn {t1 t2 el el2 eb : TypeId} {sz bytes b off len cap n m : Nat} {z s : AVal} {cs cs' new : List AVal} {g0 : Kd}
    (hl : pl = ⟨i, bef, false, ⟨dst, .call ⟨.builtin .append, #[x, y], #[t1, t2]⟩, tt, pos, after, guard⟩, false⟩ :: rest) (hw : wantedA all ta ⟨dst, .call ⟨.builtin .append, #[x, y], #[t1, t2]⟩, tt, pos, after, guard⟩ = some true)
    (hu1 : P.underlying t1 = some (.slice el)) (hu2 : P.underlying t2 = some (.slice el2)) (hs : sizeT P el = some sz) (hby : bytesT P el = some bytes) (hz : zeroT P el = some z) (hzl : Nat.beq z.cells.length sz = true) (hsz : Nat.blt 0 sz = true)
    (hx : ev ta x = some (.slice b off len cap)) (hy : ev ta y = some s) (hn : lenA s = some n) (hsrc : srcCells h sz n s = some new) (hm : len + n = m) (hle : m ≤ cap) (hroom : (len + n + 300) * 2 * (bytes + 1) < 281474976710656) (hb : Has h b (.cells g0 cs eb)) (hg : g0.isRo = false) (hns : scalars new = true) (hsp : splice cs (off + len * sz) new = some cs')
    (hleft : dropF bef facts = left) (hd : dst = some d) (hdn : Nat.blt d c.n = true)
    (g : ∀ h1, Upd h b (.cells g0 cs' eb) h1 → recheck P h1 left = true ∧ GoE P c k Q all rest tf left (ta.put (pth d) (some (.slice b off m cap))) h1) : GoE P c k Q all pl tf facts ta h := by
  obtain ⟨h1, q1, q2⟩ := aOp_appendIn (P := P) (dst := dst) (tt := tt) (pos := pos) (after := after) (guard := guard) hu1 hu2 hs hby hz hzl hsz hx hy hn hsrc hm hle hroom hb hg hns hsp
  obtain ⟨g1, g2⟩ := g h1 q2
  exact GoE.noisy0 hl hw q1 hleft g1 (prepD_some hd hdn) g2
theorem GoR.clear {t1 el eb : TypeId} {b off n cap : Nat} {z : AVal} {cs cs' : List AVal} {g0 : Kd} (hl : l = ⟨none, .call ⟨.builtin .clear, #[x], #[t1]⟩, tt, pos, after, guard⟩ :: lrest) (hw : wantedA all t ⟨none, .call ⟨.builtin .clear, #[x], #[t1]⟩, tt, pos, after, guard⟩ = some true)
    (hu1 : P.underlying t1 = some (.slice el)) (hz : zeroT P el = some z) (hx : ev t x = some (.slice b off n cap)) (hn : n ≠ 0) (hb : Has h b (.cells g0 cs eb)) (hg : g0.isRo = false) (hns : scalars (repl z.cells n) = true) (hsp : splice cs off (repl z.cells n) = some cs')
    (g : ∀ h1, Upd h b (.cells g0 cs' eb) h1 → GoR P J c k Q (runOps P c.n all lrest (i + 1) t h1)) : GoR P J c k Q (runOps P c.n all l i t h) := by
  obtain ⟨h1, q1, q2⟩ := aOp_clear (P := P) (dst := none) (tt := tt) (pos := pos) (after := after) (guard := guard) hu1 hz hx hn hb hg hns hsp
  exact GoR.op hl hw q1 rfl (g h1 q2)
theorem GoR.copyIn {t1 t2 el eb : TypeId} {sz b off len cap n : Nat} {s : AVal} {cs cs' new : List AVal} {g0 : Kd} (hl : l = ⟨some d, .call ⟨.builtin .copy, #[x, y], #[t1, t2]⟩, tt, pos, after, guard⟩ :: lrest) (hw : wantedA all t ⟨some d, .call ⟨.builtin .copy, #[x, y], #[t1, t2]⟩, tt, pos, after, guard⟩ = some true)
    (hu1 : P.underlying t1 = some (.slice el)) (hs : sizeT P el = some sz) (hx : ev t x = some (.slice b off len cap)) (hy : ev t y = some s) (hn : lenA s = some n) (hm : Nat.min n len = n)
    (hsrc : srcCells h sz n s = some new) (hb : Has h b (.cells g0 cs eb)) (hg : g0.isRo = false) (hns : scalars new = true) (hsp : splice cs off new = some cs') (hdn : Nat.blt d c.n = true)
    (g : ∀ h1, Upd h b (.cells g0 cs' eb) h1 → GoR P J c k Q (runOps P c.n all lrest (i + 1) (t.put (pth d) (some (.int .i64 n))) h1)) : GoR P J c k Q (runOps P c.n all l i t h) := by
  obtain ⟨h1, q1, q2⟩ := aOp_copyIn (P := P) (dst := some d) (tt := tt) (pos := pos) (after := after) (guard := guard) (t2 := t2) hu1 hs hx hy hn hm hsrc hb hg hns hsp
  exact GoR.op hl hw q1 (prepD_some rfl hdn) (g h1 q2)
/-! Bits. -/
theorem aOp_xor {a r : Int} (hx : ev t x = some (.int .i64 a)) (hr : -a - 1 = r) (ha : -9223372036854775808 ≤ a ∧ a ≤ 9223372036854775807) : aOp P t h ⟨dst, .unOp .xor ty x, tt, pos, after, guard⟩ = some (.val (.int .i64 r) h) := by
  show opUn P t h .xor x = _
  unfold opUn
  rw [hx]
  have : pureRun P (Op.unary .xor (.int .i64 a)) = some (.int .i64 r) := by
    show some (Value.int .i64 (IntKind.i64.wrap ((BitVec.ofInt 64 (-1) ^^^ BitVec.ofInt 64 a).toNat : Int))) = _
    have h1 : BitVec.ofInt 64 (-1) ^^^ BitVec.ofInt 64 a = BitVec.ofInt 64 (-a - 1) := by
      have h2 : BitVec.ofInt 64 (-1) = BitVec.allOnes 64 := by decide
      rw [h2, BitVec.allOnes_xor]
      apply BitVec.eq_of_toNat_eq
      rw [BitVec.toNat_not, BitVec.toNat_ofInt, BitVec.toNat_ofInt]
      omega
    rw [h1, hr]
    have h3 : ((BitVec.ofInt 64 r).toNat : Int) = r % 18446744073709551616 := by
      rw [BitVec.toNat_ofInt]
      omega
    rw [h3]
    have h4 : IntKind.i64.wrap (r % 18446744073709551616) = r := by
      unfold IntKind.wrap
      have b1 : ((2 : Int) ^ IntKind.i64.bits) = 18446744073709551616 := by decide
      have b2 : ((2 : Int) ^ (IntKind.i64.bits - 1)) = 9223372036854775808 := by decide
      have b3 : IntKind.i64.signed = true := rfl
      rw [b1, b2, b3]
      simp only [Bool.true_and, decide_eq_true_eq, ge_iff_le]
      split <;> omega
    rw [h4]
  show (match pureRun P (Op.unary .xor (.int .i64 a)) with | some r => valO h (absV r) | none => none) = _
  rw [this]
  rfl
theorem aOp_shl {ty2 : TypeId} {a r : Int} {i : Nat} (hx : ev t x = some (.int .i64 a)) (hy : ev t y = some (.int .i64 (i : Nat))) (hi : i ≤ 64) (hr : a * 2 ^ i = r) (hr2 : -9223372036854775808 ≤ r ∧ r ≤ 9223372036854775807) : aOp P t h ⟨dst, .binOp .shl ty x y ty2, tt, pos, after, guard⟩ = some (.val (.int .i64 r) h) := by
  refine aOp_bin hx hy ?_
  have : pureRun P (binOp .shl ty (.int .i64 a) (.int .i64 (i : Nat))) = some (.int .i64 r) := by
    show pureRun P (Op.shift .shl .i64 a .i64 (i : Nat)) = _
    unfold Op.shift
    rw [if_neg (by omega)]
    have : min ((i : Int)).toNat IntKind.i64.bits = i := by
      show min ((i : Int)).toNat 64 = i
      omega
    rw [this]
    show some (Value.int .i64 (IntKind.i64.wrap (a * 2 ^ i))) = _
    rw [hr, ← wrap64_eq, wrap64_in (by constructor <;> omega)]
  show (match pureRun P (binOp .shl ty (.int .i64 a) (.int .i64 (i : Nat))) with | some v => absV v | none => none) = _
  rw [this]
  rfl
theorem aOp_convU64 {src dt : TypeId} {sd : TypeDesc} {w : Int} (hx : ev t x = some (.int .i64 w)) (hs : P.underlying src = some sd) (hu : P.underlying dt = some (.int .u64)) (hw : 0 ≤ w ∧ w < 9223372036854775808) : aOp P t h ⟨dst, .convert src dt x, tt, pos, after, guard⟩ = some (.val (.int .u64 w) h) := by
  show opConvert P t h src dt x = _
  unfold opConvert
  rw [hx]
  have : pureRun P (convert src dt (.int .i64 w)) = some (.int .u64 w) := by
    unfold convert
    rw [pureRun_bind, pr_underlying hs]
    simp only [Option.bind_some, pureRun_bind, pr_underlying hu]
    have : IntKind.u64.wrap w = w := by
      have h1 : IntKind.u64.wrap w = w % 18446744073709551616 := by rfl
      rw [h1]
      omega
    cases sd <;> (show pureRun P (Conv.intToInt .u64 w) = _; unfold Conv.intToInt; rw [this]; rfl)
  simp only [this]
  rfl
theorem aOp_shr {ty2 : TypeId} {a r : Int} {i : Nat} (hx : ev t x = some (.int .i64 a)) (hy : ev t y = some (.int .i64 (i : Nat))) (hi : i ≤ 64) (hr : a.fdiv (2 ^ i) = r) : aOp P t h ⟨dst, .binOp .shr ty x y ty2, tt, pos, after, guard⟩ = some (.val (.int .i64 r) h) := by
  refine aOp_bin hx hy ?_
  have : pureRun P (binOp .shr ty (.int .i64 a) (.int .i64 (i : Nat))) = some (.int .i64 r) := by
    show pureRun P (Op.shift .shr .i64 a .i64 (i : Nat)) = _
    unfold Op.shift
    rw [if_neg (by omega)]
    have : min ((i : Int)).toNat IntKind.i64.bits = i := by
      show min ((i : Int)).toNat 64 = i
      omega
    rw [this]
    show some (Value.int .i64 (a.fdiv (2 ^ i))) = _
    rw [hr]
  show (match pureRun P (binOp .shr ty (.int .i64 a) (.int .i64 (i : Nat))) with | some v => absV v | none => none) = _
  rw [this]
  rfl
theorem aOp_and1 {ty2 : TypeId} {a r : Int} (hx : ev t x = some (.int .i64 a)) (hy : ev t y = some (.int .i64 1)) (hr : a % 2 = r) : aOp P t h ⟨dst, .binOp .and ty x y ty2, tt, pos, after, guard⟩ = some (.val (.int .i64 r) h) := by
  refine aOp_bin hx hy ?_
  have : pureRun P (binOp .and ty (.int .i64 a) (.int .i64 1)) = some (.int .i64 r) := by
    show pureRun P (if IntKind.i64 ≠ IntKind.i64 then stuck "BinOp: operands of different kinds" else Op.intBits .and .i64 a 1) = _
    rw [if_neg (fun h => h rfl)]
    show some (Value.int .i64 (IntKind.i64.wrap ((BitVec.ofInt 64 a &&& BitVec.ofInt 64 1).toNat : Int))) = _
    have h1 : (BitVec.ofInt 64 a &&& BitVec.ofInt 64 1).toNat = (a % 18446744073709551616).toNat % 2 := by
      rw [BitVec.toNat_and, BitVec.toNat_ofInt]
      show (a % 18446744073709551616).toNat &&& 1 = _
      rw [Nat.and_one_is_mod]
    rw [h1, ← wrap64_eq]
    rw [wrap64_in (by constructor <;> omega)]
    congr 2
    omega
  show (match pureRun P (binOp .and ty (.int .i64 a) (.int .i64 1)) with | some v => absV v | none => none) = _
  rw [this]
  rfl
end
end Go.AbsE

namespace Go.AbsE
open Go
set_option linter.unusedSimpArgs false
set_option maxRecDepth 100000
section
variable {P : Program} {t : Tr AVal} {h : AH} {dst : Option Tmp} {ty tt : TypeId} {pos : String} {after : Array Edge} {guard : Option (Nat × Bool)} {x y : Operand}
theorem i64_small {n : Nat} (hn : n < 9223372036854775808) : IntKind.i64.wrap (n : Nat) = n := by
  rw [← wrap64_eq]
  exact wrap64_in (by constructor <;> omega)
theorem aOp_andNat {ty2 : TypeId} {a b r : Nat} (hx : ev t x = some (.int .i64 (a : Nat))) (hy : ev t y = some (.int .i64 (b : Nat))) (ha : a < 9223372036854775808) (hb : b < 9223372036854775808) (hr : a &&& b = r) :
    aOp P t h ⟨dst, .binOp .and ty x y ty2, tt, pos, after, guard⟩ = some (.val (.int .i64 (r : Nat)) h) := by
  refine aOp_bin hx hy ?_
  have : pureRun P (binOp .and ty (.int .i64 (a : Nat)) (.int .i64 (b : Nat))) = some (.int .i64 (r : Nat)) := by
    show pureRun P (if IntKind.i64 ≠ IntKind.i64 then stuck "BinOp: operands of different kinds" else Op.intBits .and .i64 (a : Nat) (b : Nat)) = _
    rw [if_neg (fun h => h rfl)]
    show some (Value.int .i64 (IntKind.i64.wrap ((BitVec.ofInt 64 (a : Nat) &&& BitVec.ofInt 64 (b : Nat)).toNat : Int))) = _
    have h1 : (BitVec.ofInt 64 (a : Nat) &&& BitVec.ofInt 64 (b : Nat)).toNat = r := by
      rw [BitVec.ofInt_natCast, BitVec.ofInt_natCast, BitVec.toNat_and, BitVec.toNat_ofNat, BitVec.toNat_ofNat, Nat.mod_eq_of_lt (by omega), Nat.mod_eq_of_lt (by omega)]
      exact hr
    have h2 : r ≤ a := by rw [← hr]; exact Nat.and_le_left
    rw [h1, i64_small (by omega)]
  show (match pureRun P (binOp .and ty (.int .i64 (a : Nat)) (.int .i64 (b : Nat))) with | some v => absV v | none => none) = _
  rw [this]
  rfl
/-- The numbers of a set that are not in another one. -/
def andNot (a b : Nat) : Nat := (BitVec.ofNat 64 a &&& ~~~BitVec.ofNat 64 b).toNat
theorem aOp_andNot {ty2 : TypeId} {a b r : Nat} (hx : ev t x = some (.int .i64 (a : Nat))) (hy : ev t y = some (.int .i64 (b : Nat))) (ha : a < 9223372036854775808) (hr : andNot a b = r) :
    aOp P t h ⟨dst, .binOp .andNot ty x y ty2, tt, pos, after, guard⟩ = some (.val (.int .i64 (r : Nat)) h) := by
  refine aOp_bin hx hy ?_
  have : pureRun P (binOp .andNot ty (.int .i64 (a : Nat)) (.int .i64 (b : Nat))) = some (.int .i64 (r : Nat)) := by
    show pureRun P (if IntKind.i64 ≠ IntKind.i64 then stuck "BinOp: operands of different kinds" else Op.intBits .andNot .i64 (a : Nat) (b : Nat)) = _
    rw [if_neg (fun h => h rfl)]
    show some (Value.int .i64 (IntKind.i64.wrap ((BitVec.ofInt 64 (a : Nat) &&& ~~~BitVec.ofInt 64 (b : Nat)).toNat : Int))) = _
    have h1 : (BitVec.ofInt 64 (a : Nat) &&& ~~~BitVec.ofInt 64 (b : Nat)).toNat = r := by
      rw [BitVec.ofInt_natCast, BitVec.ofInt_natCast]
      exact hr
    have h2 : r ≤ a := by
      rw [← hr]
      unfold andNot
      rw [BitVec.toNat_and]
      refine Nat.le_trans Nat.and_le_left ?_
      rw [BitVec.toNat_ofNat]
      exact Nat.mod_le _ _
    rw [h1, i64_small (by omega)]
  show (match pureRun P (binOp .andNot ty (.int .i64 (a : Nat)) (.int .i64 (b : Nat))) with | some v => absV v | none => none) = _
  rw [this]
  rfl
end
end Go.AbsE
