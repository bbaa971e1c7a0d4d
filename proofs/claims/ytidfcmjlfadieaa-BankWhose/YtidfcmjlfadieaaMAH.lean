import Derived.Test.YtidfcmjlfadieaaMAG
set_option linter.unusedSimpArgs false
namespace Go.AbsE
open Go

/-! Slices that are copied to be appended to. -/
section
variable {P : Program} {t : Tr AVal} {h h' : AH} {dst : Option Tmp} {ty tt : TypeId} {pos : String} {after : Array Edge} {guard : Option (Nat × Bool)} {x y : Operand}
theorem aOpX_lit {el : TypeId} {len size : Nat} {parts : Array (Nat × Operand)} {ps : List (Nat × AVal)} {z : AVal} {cs : List AVal} (hu : P.underlying ty = some (.slice el)) (hp : evParts t parts.toList = some ps) (hs : sizeT P el = some size) (hz : zeroT P el = some z)
    (hb : Nat.ble (len * size) 100000 = true) (hzl : Nat.beq z.cells.length size = true) (hc : aFillA (fun i => some (i * size, size)) (repl z.cells len) ps = some cs) : aOpX P true t h ⟨dst, .buildSlice ty len parts, tt, pos, after, guard⟩ = some (.val (.lit len cs) h) := by
  show opLit P t h ⟨dst, .buildSlice ty len parts, tt, pos, after, guard⟩ = _
  unfold opLit
  dsimp only
  rw [hu, hp]
  dsimp only
  rw [hs, hz]
  dsimp only
  rw [hb, hzl]
  simp only [cond_true, hc]
theorem SliceOf.src {sz : Nat} {s : AVal} {L : List (List AVal)} (k : SliceOf h sz s L) : srcCells h sz L.length s = some L.flatten := by
  cases k with
  | nil => rfl
  | mk hs hn hb hL hz hc =>
    cases s <;> simp only [aSlElems, Option.some.injEq, Prod.mk.injEq, reduceCtorEq] at hs
    all_goals
      obtain ⟨rfl, rfl, rfl⟩ := hs
      simp only [srcCells]
      exact hc

/-- A copy: nothing yet, or a block of its own. -/
def Copied (lo : Nat) (h : AH) (el : TypeId) (v : AVal) (L : List (List AVal)) : Prop := (L = [] ∧ v = .lit 0 []) ∨ (L ≠ [] ∧ ∃ b, lo ≤ b ∧ v = .gsl b 0 0 L.length ∧ Has h b (.cells .grow L.flatten el))
theorem Copied.same {lo : Nat} {el : TypeId} {v : AVal} {L : List (List AVal)} (k : Copied lo h el v L) (e : Ext h h') : Copied lo h' el v L := by
  rcases k with k | ⟨k, b, k1, k2, k3⟩
  · exact .inl k
  · exact .inr ⟨k, b, k1, k2, k3.ext e⟩
theorem aOp_copy {el el2 t1 t2 : TypeId} {sz bytes : Nat} {z s : AVal} {L : List (List AVal)} (hu1 : P.underlying t1 = some (.slice el)) (hu2 : P.underlying t2 = some (.slice el2)) (hs : sizeT P el = some sz) (hby : bytesT P el = some bytes) (hz : zeroT P el = some z) (hzl : Nat.beq z.cells.length sz = true) (hsz0 : Nat.blt 0 sz = true)
    (hx : ev t x = some (.lit 0 [])) (hy : ev t y = some s) (k : SliceOf h sz s L) (hl : ∀ l, l ∈ L → l.length = sz) (hroom : (L.length + 301) * 2 * (bytes + 1) < 281474976710656) :
    ∃ v h1, aOp P t h ⟨dst, .call ⟨.builtin .append, #[x, y], #[t1, t2]⟩, tt, pos, after, guard⟩ = some (.val v h1) ∧ Ext h h1 ∧ Copied h.next h1 el v L := by
  have hsrc := k.src
  have hlen := k.len
  have hlt : Nat.blt ((0 + L.length + 300) * 2 * (bytes + 1)) 281474976710656 = true := by
    refine Nat.ble_eq_true_of_le (Nat.lt_of_le_of_lt (Nat.mul_le_mul_right _ (Nat.mul_le_mul_right _ (by omega))) hroom)
  have hop : ∀ {y'}, aAppend P h t1 t2 (.lit 0 []) s = some y' → aOp P t h ⟨dst, .call ⟨.builtin .append, #[x, y], #[t1, t2]⟩, tt, pos, after, guard⟩ = some y' := by
    intro y' q
    show opCall P t h ⟨.builtin .append, #[x, y], #[t1, t2]⟩ tt = _
    have he : evs t [x, y] = some [.lit 0 [], s] := by simp only [evs, mapO, hx, hy]
    simp only [opCall, he, callWith, aBuiltin, q]
  have h0 : srcCells h sz 0 (.lit 0 []) = some [] := by simp [srcCells, slice?]
  by_cases hL : L = []
  · subst hL
    refine ⟨.lit 0 [], h, hop ?_, Ext.refl _, .inl ⟨rfl, rfl⟩⟩
    unfold aAppend
    rw [hu1, hu2]
    simp only [hs, hby, hz, show lenA (.lit 0 []) = some 0 from rfl, hlen, hsrc, hlt, hsz0, hzl, cond_true]
    rfl
  · obtain ⟨h1, q⟩ := new_some h (.cells .grow L.flatten el)
    obtain ⟨_, q2, q3⟩ := new_ext q
    have hb : Nat.beq L.length 0 = false := by
      cases hq : Nat.beq L.length 0 with
      | false => rfl
      | true => exact absurd (List.eq_nil_of_length_eq_zero (Nat.eq_of_beq_eq_true hq)) hL
    refine ⟨.gsl h.next 0 0 L.length, h1, hop ?_, q2, .inr ⟨hL, h.next, Nat.le_refl _, rfl, q3⟩⟩
    unfold aAppend
    rw [hu1, hu2]
    rw [Nat.zero_add] at hlt
    simp only [hs, hby, hz, show lenA (.lit 0 []) = some 0 from rfl, hlen, hsrc, hsz0, hzl, cond_true, hb, cond_false, h0, List.nil_append, Nat.zero_add, growNew, q, hlt]
theorem aOp_copy1 {el el2 t1 t2 : TypeId} {sz bytes lo : Nat} {z v : AVal} {new : List AVal} {L : List (List AVal)} (hu1 : P.underlying t1 = some (.slice el)) (hu2 : P.underlying t2 = some (.slice el2)) (hs : sizeT P el = some sz) (hby : bytesT P el = some bytes) (hz : zeroT P el = some z) (hzl : Nat.beq z.cells.length sz = true) (hsz0 : Nat.blt 0 sz = true)
    (hx : ev t x = some v) (hy : ev t y = some (.lit 1 new)) (k : Copied lo h el v L) (hl : ∀ l, l ∈ L → l.length = sz) (hnl : new.length = sz) (hns : scalars new = true) (hroom : (L.length + 301) * 2 * (bytes + 1) < 281474976710656) (hlo : lo ≤ h.next) :
    ∃ b' h1, aOp P t h ⟨dst, .call ⟨.builtin .append, #[x, y], #[t1, t2]⟩, tt, pos, after, guard⟩ = some (.val (.gsl b' 0 0 (L.length + 1)) h1) ∧ lo ≤ b' ∧ h.next ≤ h1.next ∧ (∀ c, c < lo → h1.get c = h.get c) ∧ (∀ c o, c < h.next → Has h c o → (∀ cs, o ≠ .cells .grow cs el) → h1.get c = h.get c) ∧ Has h1 b' (.cells .grow (L ++ [new]).flatten el) := by
  have hsrc : srcCells h sz 1 (.lit 1 new) = some new := by
    simp only [srcCells, Nat.one_mul]
    exact slice_all hnl
  have hlt : Nat.blt ((L.length + 1 + 300) * 2 * (bytes + 1)) 281474976710656 = true := Nat.ble_eq_true_of_le hroom
  have hop : ∀ {y'}, aAppend P h t1 t2 v (.lit 1 new) = some y' → aOp P t h ⟨dst, .call ⟨.builtin .append, #[x, y], #[t1, t2]⟩, tt, pos, after, guard⟩ = some y' := by
    intro y' q
    show opCall P t h ⟨.builtin .append, #[x, y], #[t1, t2]⟩ tt = _
    have he : evs t [x, y] = some [v, .lit 1 new] := by simp only [evs, mapO, hx, hy]
    simp only [opCall, he, callWith, aBuiltin, q]
  have b1n : Nat.beq 1 0 = false := rfl
  rcases k with ⟨rfl, rfl⟩ | ⟨hL, b, hb0, rfl, hb⟩
  · obtain ⟨h1, q⟩ := new_some h (.cells .grow new el)
    obtain ⟨_, q2, q3⟩ := new_ext q
    have h0 : srcCells h sz 0 (.lit 0 []) = some [] := by simp [srcCells, slice?]
    refine ⟨h.next, h1, hop ?_, hlo, q2.1, fun c hc => q2.2 c (by omega), fun c o hc _ _ => q2.2 c hc, by simpa using q3⟩
    unfold aAppend
    rw [hu1, hu2]
    simp only [hs, hby, hz, show lenA (.lit 0 []) = some 0 from rfl, show lenA (.lit 1 new) = some 1 from rfl, hsrc, show Nat.blt ((0 + 1 + 300) * 2 * (bytes + 1)) 281474976710656 = true from hlt, hsz0, hzl, cond_true, b1n, cond_false, h0, List.nil_append, growNew, q]
    rfl
  · obtain ⟨h2, hset⟩ : ∃ h2, h.set b none = some h2 := by obtain ⟨tt, nx⟩ := h; exact ⟨_, rfl⟩
    obtain ⟨s1, s2⟩ := AH.get_set hset
    obtain ⟨h1, q⟩ := new_some h2 (.cells .grow (L.flatten ++ new) el)
    obtain ⟨_, q2, q3⟩ := new_ext q
    have hfl := flatten_len hl
    have a1 : Nat.beq 0 (0 * sz) = true := by simp
    have a2 : eqSize P el sz = true := by unfold eqSize; rw [hs]; simp
    have a3 : Nat.beq el el = true := by simp
    have a0 : Nat.beq 0 0 = true := rfl
    have hsz := blt_true hsz0
    have a4 : Nat.ble (0 + (L.length + 1) * sz) L.flatten.length = false := by
      cases hq : Nat.ble (0 + (L.length + 1) * sz) L.flatten.length with
      | false => rfl
      | true =>
        have := Nat.le_of_ble_eq_true hq
        rw [hfl, Nat.add_mul] at this
        omega
    have hold : srcCells h sz L.length (.gsl b 0 0 L.length) = some L.flatten := by
      simp only [srcCells, loadCells, hb.2]
      exact slice_all hfl
    refine ⟨h2.next, h1, hop ?_, by omega, by have := q2.1; omega, fun c hc => by rw [q2.2 c (by omega), s2, if_neg (by omega)], fun c o hc hh hno => by
      rw [q2.2 c (by omega), s2, if_neg (fun e => by subst e; exact hno _ (Option.some.inj (hh.2.symm.trans hb.2)))], by simpa using q3⟩
    unfold aAppend
    rw [hu1, hu2]
    simp only [hs, hby, hz, show lenA (.gsl b 0 0 L.length) = some L.length from rfl, show lenA (.lit 1 new) = some 1 from rfl, hsrc, hlt, hsz0, hzl, cond_true]
    unfold appGsl
    rw [hb.2]
    simp only [a1, a2, a3, a0, a4, cond_true, cond_false, hns, hold, hset, growNew, q]

theorem SliceOf.scal {sz : Nat} {s : AVal} {L : List (List AVal)} (k : SliceOf h sz s L) : scalars [s] = true ∧ s.cells = [s] := by
  cases k with
  | nil => exact ⟨rfl, rfl⟩
  | mk hs hn hb hL hz hc => cases s <;> simp only [aSlElems, reduceCtorEq] at hs <;> exact ⟨rfl, rfl⟩
variable {c : FC} {k : List AItem} {Q : AM → Prop} {all : Array Oper} {pl rest : List DOp} {tf ta : Tr AVal} {facts left : List DFact} {i bef d : Nat}
theorem GoE.noisy0 {ta' : Tr AVal} {h1 : AH} {v : AVal} {op : Op} (hl : pl = ⟨i, bef, false, ⟨dst, op, tt, pos, after, guard⟩, false⟩ :: rest) (hw : wantedA all ta ⟨dst, op, tt, pos, after, guard⟩ = some true) (hx : aOp P ta h ⟨dst, op, tt, pos, after, guard⟩ = some (.val v h1)) (hleft : dropF bef facts = left) (hr : recheck P h1 left = true) (hd : (prepD c.n ⟨dst, op, tt, pos, after, guard⟩).run ta v = some ta')
    (g : GoE P c k Q all rest tf left ta' h1) : GoE P c k Q all pl tf facts ta h := GoE.noisy hl hw hx hleft hr hd g
theorem prepD_some {n : Nat} {op : Op} {v : AVal} (hd : dst = some d) (hdn : Nat.blt d n = true) : (prepD n ⟨dst, op, tt, pos, after, guard⟩).run ta v = some (ta.put (pth d) (some v)) := by
  unfold prepD
  rw [show (⟨dst, op, tt, pos, after, guard⟩ : Oper).dst = some d from hd]
  simp only [hdn, cond_true]
  rw [Tr.mkPut_eq]
theorem GoE.copy {el el2 t1 t2 : TypeId} {sz bytes : Nat} {z s : AVal} {L : List (List AVal)} (hl : pl = ⟨i, bef, false, ⟨dst, .call ⟨.builtin .append, #[x, y], #[t1, t2]⟩, tt, pos, after, guard⟩, false⟩ :: rest) (hw : wantedA all ta ⟨dst, .call ⟨.builtin .append, #[x, y], #[t1, t2]⟩, tt, pos, after, guard⟩ = some true)
    (hu1 : P.underlying t1 = some (.slice el)) (hu2 : P.underlying t2 = some (.slice el2)) (hs : sizeT P el = some sz) (hby : bytesT P el = some bytes) (hz : zeroT P el = some z) (hzl : Nat.beq z.cells.length sz = true) (hsz0 : Nat.blt 0 sz = true)
    (hx : ev ta x = some (.lit 0 [])) (hy : ev ta y = some s) (hsl : SliceOf h sz s L) (hll : ∀ l, l ∈ L → l.length = sz) (hroom : (L.length + 301) * 2 * (bytes + 1) < 281474976710656) (hleft : dropF bef facts = left) (hd : dst = some d) (hdn : Nat.blt d c.n = true)
    (g : ∀ v h1, Ext h h1 → Copied h.next h1 el v L → recheck P h1 left = true ∧ GoE P c k Q all rest tf left (ta.put (pth d) (some v)) h1) : GoE P c k Q all pl tf facts ta h := by
  obtain ⟨v, h1, q1, q2, q3⟩ := aOp_copy (P := P) (dst := dst) (tt := tt) (pos := pos) (after := after) (guard := guard) hu1 hu2 hs hby hz hzl hsz0 hx hy hsl hll hroom
  obtain ⟨g1, g2⟩ := g v h1 q2 q3
  exact GoE.noisy0 hl hw q1 hleft g1 (prepD_some hd hdn) g2
theorem GoE.copy1 {el el2 t1 t2 : TypeId} {sz bytes lo : Nat} {z v : AVal} {new : List AVal} {L : List (List AVal)} (hl : pl = ⟨i, bef, false, ⟨dst, .call ⟨.builtin .append, #[x, y], #[t1, t2]⟩, tt, pos, after, guard⟩, false⟩ :: rest) (hw : wantedA all ta ⟨dst, .call ⟨.builtin .append, #[x, y], #[t1, t2]⟩, tt, pos, after, guard⟩ = some true)
    (hu1 : P.underlying t1 = some (.slice el)) (hu2 : P.underlying t2 = some (.slice el2)) (hs : sizeT P el = some sz) (hby : bytesT P el = some bytes) (hz : zeroT P el = some z) (hzl : Nat.beq z.cells.length sz = true) (hsz0 : Nat.blt 0 sz = true)
    (hx : ev ta x = some v) (hy : ev ta y = some (.lit 1 new)) (hc : Copied lo h el v L) (hll : ∀ l, l ∈ L → l.length = sz) (hnl : new.length = sz) (hns : scalars new = true) (hroom : (L.length + 301) * 2 * (bytes + 1) < 281474976710656) (hlo : lo ≤ h.next) (hleft : dropF bef facts = left) (hd : dst = some d) (hdn : Nat.blt d c.n = true)
    (g : ∀ b' h1, lo ≤ b' → h.next ≤ h1.next → (∀ c, c < lo → h1.get c = h.get c) → Has h1 b' (.cells .grow (L ++ [new]).flatten el) → recheck P h1 left = true ∧ GoE P c k Q all rest tf left (ta.put (pth d) (some (.gsl b' 0 0 (L.length + 1)))) h1) : GoE P c k Q all pl tf facts ta h := by
  obtain ⟨b', h1, q1, q2, q3, q4, q5, q6⟩ := aOp_copy1 (P := P) (dst := dst) (tt := tt) (pos := pos) (after := after) (guard := guard) hu1 hu2 hs hby hz hzl hsz0 hx hy hc hll hnl hns hroom hlo
  obtain ⟨g1, g2⟩ := g b' h1 q2 q3 q4 q6
  exact GoE.noisy0 hl hw q1 hleft g1 (prepD_some hd hdn) g2
end
end Go.AbsE

namespace Go.AbsE
open Go
/-! Loops, by the temporaries that matter. -/
section
variable {P : Program} {c : FC} {k : List AItem} {Q : AM → Prop} {J : Jump} (hJ : JOk P J)
include hJ
theorem Go.loopKeep' {α : Type} (L : α → List (Nat × AVal)) (I : Nat → α → AH → Prop) {x : Code} {t : Tr AVal} {h : AH} {n : Nat} (a : α) (k0 : keepOk t (L a)) (h0 : I n a h)
    (step : ∀ n a h, I n a h → (∀ m a' t' h', m < n → keepOk t' (L a') → I m a' h' → Go P c (.inLoop x :: k) t' h' Q) → Go P c (.code x :: .inLoop x :: k) (keepT (L a)) h Q) : Go P c (.code (.loop x) :: k) t h Q := by
  refine Go.keep (L a) k0 ?_
  refine Go.loop hJ ?_
  have key : ∀ n a h, I n a h → Go P c (.code x :: .inLoop x :: k) (keepT (L a)) h Q := by
    intro n
    induction n using Nat.strongRecOn with
    | ind n ih =>
      intro a h hI
      refine step n a h hI fun m a' t' h' hm hk hI' => ?_
      exact Go.inLoop hJ (Go.keep (L a') hk (ih m hm a' h' hI'))
  exact key n a h h0
end
theorem Go.loopKeep {P : Program} {c : FC} {k : List AItem} {Q : AM → Prop} {α : Type} (L : α → List (Nat × AVal)) (I : Nat → α → AH → Prop) {x : Code} {t : Tr AVal} {h : AH} {n : Nat} (a : α) (k0 : keepOk t (L a)) (h0 : I n a h)
    (step : ∀ n a h, I n a h → (∀ m a' t' h', m < n → keepOk t' (L a') → I m a' h' → Go P c (.inLoop x :: k) t' h' Q) → Go P c (.code x :: .inLoop x :: k) (keepT (L a)) h Q) : Go P c (.code (.loop x) :: k) t h Q := Go.loopKeep' noJ_ok L I a k0 h0 step
end Go.AbsE
