import Derived.Test.YtmdheijpnlonoaaMAH
import Derived.Test.YtmdheijpnlonoaaMAG
set_option linter.unusedSimpArgs false
namespace Go.AbsE
open Go

/-! Calls beside calls that are known. -/
section
variable {P : Program} {J : Jump}
theorem GoR.callJ {c : FC} {k : List AItem} {Q : AM → Prop} {all : Array Oper} {l : List Oper} {o : Oper} {rest : List Oper} {i : Nat} {t : Tr AVal} {h : AH} {f : FuncId} {args : List AVal} {R : AEnd → AH → Prop} (hJ : JOk P J) (hl : l = o :: rest)
    (hw : wantedA all t o = some true) (hx : aOp P t h o = some (.enter f args h)) (hj : J.run f args h = none) (hr : Runs P f args h R)
    (hret : ∀ v h', R (.ret v) h' → ∃ t', (prepD c.n o).run t v = some t' ∧ GoR P J c k Q (runOps P c.n all rest (i + 1) t' h')) (hpan : ∀ chain h', ¬ R (.pan chain) h') :
    GoR P J c k Q (runOps P c.n all l i t h) := by
  subst hl
  have hs : runOps P c.n all (o :: rest) i t h = .susp [.inRegion all i (o :: rest)] t (.enter f args h) := by
    rw [runOps_cons, hw]
    show (afterP c.n i all o rest (runOpsP P c.n all rest (i + 1))).run t (aOp P t h o) = _
    rw [hx]
    rfl
  rw [hs]
  obtain ⟨fr, hfr, hrun⟩ := hr
  refine ⟨⟨fr :: c.fr ([.inRegion all i (o :: rest)] ++ k) t :: c.rest, h⟩, ?_, ?_⟩
  · show enterJ P _ c.rest f args h (J.run f args h) = _
    rw [hj]
    show one h (_ :: c.rest) (aFrame P f args false) = _
    rw [hfr]
    rfl
  · refine Reach.call noJ_ok ⟨fr, hfr, hrun⟩ hfr (fun v h' hv => ?_) (fun chain h' hq => absurd hq (hpan chain h'))
    obtain ⟨t', q1, q2⟩ := hret v h' hv
    refine ⟨c.fr (.inRegion all (i + 1) rest :: k) t', ?_, Go.inRegion hJ q2⟩
    show AFr.finishRun c.fn c.n t (.inRegion all i (o :: rest) :: k) c.ds c.dk c.rd v = _
    unfold AFr.finishRun
    simp only [q1]
    rfl
/-- A call that is known. -/
theorem GoR.jump {c : FC} {k : List AItem} {Q : AM → Prop} {all : Array Oper} {l : List Oper} {o : Oper} {rest : List Oper} {i : Nat} {t t' : Tr AVal} {h : AH} {f : FuncId} {args : List AVal} {v : AVal} (hJ : JOk P J) (hl : l = o :: rest)
    (hw : wantedA all t o = some true) (hx : aOp P t h o = some (.enter f args h)) (hj : J.run f args h = some v) (hd : (prepD c.n o).run t v = some t') (g : GoR P J c k Q (runOps P c.n all rest (i + 1) t' h)) :
    GoR P J c k Q (runOps P c.n all l i t h) := by
  subst hl
  have hs : runOps P c.n all (o :: rest) i t h = .susp [.inRegion all i (o :: rest)] t (.enter f args h) := by
    rw [runOps_cons, hw]
    show (afterP c.n i all o rest (runOpsP P c.n all rest (i + 1))).run t (aOp P t h o) = _
    rw [hx]
    rfl
  rw [hs]
  refine ⟨⟨c.fr (.inRegion all (i + 1) rest :: k) t' :: c.rest, h⟩, ?_, Go.inRegion hJ g⟩
  show enterJ P _ c.rest f args h (J.run f args h) = _
  rw [hj]
  show one h c.rest (AFr.finish _ v) = _
  have : AFr.finish (c.fr ([.inRegion all i (o :: rest)] ++ k) t) v = some (c.fr (.inRegion all (i + 1) rest :: k) t') := by
    show AFr.finishRun c.fn c.n t (.inRegion all i (o :: rest) :: k) c.ds c.dk c.rd v = _
    unfold AFr.finishRun
    simp only [hd]
    rfl
  rw [this]
  rfl
end
end Go.AbsE

set_option linter.unusedSimpArgs false
namespace Go.AbsE
open Go

/-! Slices that are copied to be appended to. -/
section
variable {P : Program} {t : Tr AVal} {h h' : AH} {dst : Option Tmp} {ty tt : TypeId} {pos : String} {after : Array Edge} {guard : Option (Nat × Bool)} {x y : Operand}
theorem aOpX_lit {el : TypeId} {len size : Nat} {parts : Array (Nat × Operand)} {ps : List (Nat × AVal)} {z : AVal} {cs : List AVal} (hu : P.underlying ty = some (.slice el)) (hp : evParts t parts.toList = some ps) (hs : sizeT P el = some size) (hz : zeroT P el = some z)
    (hb : Nat.ble (len * size) 100000 = true) (hzl : Nat.beq z.cells.length size = true) (hc : aFillA (fun i => some (i * size, size)) (repl z.cells len) ps = some cs) : aOpX P true t h ⟨dst, .buildSlice ty len parts, tt, pos, after, guard⟩ = some (.val (.lit len cs) h) := by
  show opLit P t h ⟨dst, .buildSlice ty len parts, tt, pos, after, guard⟩ = _
  unfold opLit
  dsimp only
  rw [hu, hp]
  dsimp only
  rw [hs, hz]
  dsimp only
  rw [hb, hzl]
  simp only [cond_true, hc]
theorem SliceOf.src {sz : Nat} {s : AVal} {L : List (List AVal)} (k : SliceOf h sz s L) : srcCells h sz L.length s = some L.flatten := by
  cases k with
  | nil => rfl
  | mk hs hn hb hL hz hc =>
    cases s <;> simp only [aSlElems, Option.some.injEq, Prod.mk.injEq, reduceCtorEq] at hs
    all_goals
      obtain ⟨rfl, rfl, rfl⟩ := hs
      simp only [srcCells]
      exact hc

/-- A copy: nothing yet, or a block of its own. -/
def Copied (lo : Nat) (h : AH) (el : TypeId) (v : AVal) (L : List (List AVal)) : Prop := (L = [] ∧ v = .lit 0 []) ∨ (L ≠ [] ∧ ∃ b, lo ≤ b ∧ v = .gsl b 0 0 L.length ∧ Has h b (.cells .grow L.flatten el))
theorem Copied.same {lo : Nat} {el : TypeId} {v : AVal} {L : List (List AVal)} (k : Copied lo h el v L) (e : Ext h h') : Copied lo h' el v L := by
  rcases k with k | ⟨k, b, k1, k2, k3⟩
  · exact .inl k
  · exact .inr ⟨k, b, k1, k2, k3.ext e⟩
theorem aOp_copy {el el2 t1 t2 : TypeId} {sz bytes : Nat} {z s : AVal} {L : List (List AVal)} (hu1 : P.underlying t1 = some (.slice el)) (hu2 : P.underlying t2 = some (.slice el2)) (hs : sizeT P el = some sz) (hby : bytesT P el = some bytes) (hz : zeroT P el = some z) (hzl : Nat.beq z.cells.length sz = true) (hsz0 : Nat.blt 0 sz = true)
    (hx : ev t x = some (.lit 0 [])) (hy : ev t y = some s) (k : SliceOf h sz s L) (hl : ∀ l, l ∈ L → l.length = sz) (hroom : (L.length + 301) * 2 * (bytes + 1) < 281474976710656) :
    ∃ v h1, aOp P t h ⟨dst, .call ⟨.builtin .append, #[x, y], #[t1, t2]⟩, tt, pos, after, guard⟩ = some (.val v h1) ∧ Ext h h1 ∧ Copied h.next h1 el v L := by
  have hsrc := k.src
  have hlen := k.len
  have hlt : Nat.blt ((0 + L.length + 300) * 2 * (bytes + 1)) 281474976710656 = true := by
    refine Nat.ble_eq_true_of_le (Nat.lt_of_le_of_lt (Nat.mul_le_mul_right _ (Nat.mul_le_mul_right _ (by omega))) hroom)
  have hop : ∀ {y'}, aAppend P h t1 t2 (.lit 0 []) s = some y' → aOp P t h ⟨dst, .call ⟨.builtin .append, #[x, y], #[t1, t2]⟩, tt, pos, after, guard⟩ = some y' := by
    intro y' q
    show opCall P t h ⟨.builtin .append, #[x, y], #[t1, t2]⟩ tt = _
    have he : evs t [x, y] = some [.lit 0 [], s] := by simp only [evs, mapO, hx, hy]
    simp only [opCall, he, callWith, aBuiltin, q]
  have h0 : srcCells h sz 0 (.lit 0 []) = some [] := by simp [srcCells, slice?]
  by_cases hL : L = []
  · subst hL
    refine ⟨.lit 0 [], h, hop ?_, Ext.refl _, .inl ⟨rfl, rfl⟩⟩
    unfold aAppend
    rw [hu1, hu2]
    simp only [hs, hby, hz, show lenA (.lit 0 []) = some 0 from rfl, hlen, hsrc, hlt, hsz0, hzl, cond_true]
    rfl
  · obtain ⟨h1, q⟩ := new_some h (.cells .grow L.flatten el)
    obtain ⟨_, q2, q3⟩ := new_ext q
    have hb : Nat.beq L.length 0 = false := by
      cases hq : Nat.beq L.length 0 with
      | false => rfl
      | true => exact absurd (List.eq_nil_of_length_eq_zero (Nat.eq_of_beq_eq_true hq)) hL
    refine ⟨.gsl h.next 0 0 L.length, h1, hop ?_, q2, .inr ⟨hL, h.next, Nat.le_refl _, rfl, q3⟩⟩
    unfold aAppend
    rw [hu1, hu2]
    rw [Nat.zero_add] at hlt
    simp only [hs, hby, hz, show lenA (.lit 0 []) = some 0 from rfl, hlen, hsrc, hsz0, hzl, cond_true, hb, cond_false, h0, List.nil_append, Nat.zero_add, growNew, q, hlt]
theorem aOp_copy1 {el el2 t1 t2 : TypeId} {sz bytes lo : Nat} {z v : AVal} {new : List AVal} {L : List (List AVal)} (hu1 : P.underlying t1 = some (.slice el)) (hu2 : P.underlying t2 = some (.slice el2)) (hs : sizeT P el = some sz) (hby : bytesT P el = some bytes) (hz : zeroT P el = some z) (hzl : Nat.beq z.cells.length sz = true) (hsz0 : Nat.blt 0 sz = true)
    (hx : ev t x = some v) (hy : ev t y = some (.lit 1 new)) (k : Copied lo h el v L) (hl : ∀ l, l ∈ L → l.length = sz) (hnl : new.length = sz) (hns : scalars new = true) (hroom : (L.length + 301) * 2 * (bytes + 1) < 281474976710656) (hlo : lo ≤ h.next) :
    ∃ b' h1, aOp P t h ⟨dst, .call ⟨.builtin .append, #[x, y], #[t1, t2]⟩, tt, pos, after, guard⟩ = some (.val (.gsl b' 0 0 (L.length + 1)) h1) ∧ lo ≤ b' ∧ h.next ≤ h1.next ∧ (∀ c, c < lo → h1.get c = h.get c) ∧ (∀ c o, c < h.next → Has h c o → (∀ cs, o ≠ .cells .grow cs el) → h1.get c = h.get c) ∧ Has h1 b' (.cells .grow (L ++ [new]).flatten el) := by
  have hsrc : srcCells h sz 1 (.lit 1 new) = some new := by
    simp only [srcCells, Nat.one_mul]
    exact slice_all hnl
  have hlt : Nat.blt ((L.length + 1 + 300) * 2 * (bytes + 1)) 281474976710656 = true := Nat.ble_eq_true_of_le hroom
  have hop : ∀ {y'}, aAppend P h t1 t2 v (.lit 1 new) = some y' → aOp P t h ⟨dst, .call ⟨.builtin .append, #[x, y], #[t1, t2]⟩, tt, pos, after, guard⟩ = some y' := by
    intro y' q
    show opCall P t h ⟨.builtin .append, #[x, y], #[t1, t2]⟩ tt = _
    have he : evs t [x, y] = some [v, .lit 1 new] := by simp only [evs, mapO, hx, hy]
    simp only [opCall, he, callWith, aBuiltin, q]
  have b1n : Nat.beq 1 0 = false := rfl
  rcases k with ⟨rfl, rfl⟩ | ⟨hL, b, hb0, rfl, hb⟩
  · obtain ⟨h1, q⟩ := new_some h (.cells .grow new el)
    obtain ⟨_, q2, q3⟩ := new_ext q
    have h0 : srcCells h sz 0 (.lit 0 []) = some [] := by simp [srcCells, slice?]
    refine ⟨h.next, h1, hop ?_, hlo, q2.1, fun c hc => q2.2 c (by omega), fun c o hc _ _ => q2.2 c hc, by simpa using q3⟩
    unfold aAppend
    rw [hu1, hu2]
    simp only [hs, hby, hz, show lenA (.lit 0 []) = some 0 from rfl, show lenA (.lit 1 new) = some 1 from rfl, hsrc, show Nat.blt ((0 + 1 + 300) * 2 * (bytes + 1)) 281474976710656 = true from hlt, hsz0, hzl, cond_true, b1n, cond_false, h0, List.nil_append, growNew, q]
    rfl
  · obtain ⟨h2, hset⟩ : ∃ h2, h.set b none = some h2 := by obtain ⟨tt, nx⟩ := h; exact ⟨_, rfl⟩
    obtain ⟨s1, s2⟩ := AH.get_set hset
    obtain ⟨h1, q⟩ := new_some h2 (.cells .grow (L.flatten ++ new) el)
    obtain ⟨_, q2, q3⟩ := new_ext q
    have hfl := flatten_len hl
    have a1 : Nat.beq 0 (0 * sz) = true := by simp
    have a2 : eqSize P el sz = true := by unfold eqSize; rw [hs]; simp
    have a3 : Nat.beq el el = true := by simp
    have a0 : Nat.beq 0 0 = true := rfl
    have hsz := blt_true hsz0
    have a4 : Nat.ble (0 + (L.length + 1) * sz) L.flatten.length = false := by
      cases hq : Nat.ble (0 + (L.length + 1) * sz) L.flatten.length with
      | false => rfl
      | true =>
        have := Nat.le_of_ble_eq_true hq
        rw [hfl, Nat.add_mul] at this
        omega
    have hold : srcCells h sz L.length (.gsl b 0 0 L.length) = some L.flatten := by
      simp only [srcCells, loadCells, hb.2]
      exact slice_all hfl
    refine ⟨h2.next, h1, hop ?_, by omega, by have := q2.1; omega, fun c hc => by rw [q2.2 c (by omega), s2, if_neg (by omega)], fun c o hc hh hno => by
      rw [q2.2 c (by omega), s2, if_neg (fun e => by subst e; exact hno _ (Option.some.inj (hh.2.symm.trans hb.2)))], by simpa using q3⟩
    unfold aAppend
    rw [hu1, hu2]
    simp only [hs, hby, hz, show lenA (.gsl b 0 0 L.length) = some L.length from rfl, show lenA (.lit 1 new) = some 1 from rfl, hsrc, hlt, hsz0, hzl, cond_true]
    unfold appGsl
    rw [hb.2]
    simp only [a1, a2, a3, a0, a4, cond_true, cond_false, hns, hold, hset, growNew, q]

theorem SliceOf.scal {sz : Nat} {s : AVal} {L : List (List AVal)} (k : SliceOf h sz s L) : scalars [s] = true ∧ s.cells = [s] := by
  cases k with
  | nil => exact ⟨rfl, rfl⟩
  | mk hs hn hb hL hz hc => cases s <;> simp only [aSlElems, reduceCtorEq] at hs <;> exact ⟨rfl, rfl⟩
variable {c : FC} {k : List AItem} {Q : AM → Prop} {all : Array Oper} {pl rest : List DOp} {tf ta : Tr AVal} {facts left : List DFact} {i bef d : Nat}
theorem GoE.noisy0 {ta' : Tr AVal} {h1 : AH} {v : AVal} {op : Op} (hl : pl = ⟨i, bef, false, ⟨dst, op, tt, pos, after, guard⟩, false⟩ :: rest) (hw : wantedA all ta ⟨dst, op, tt, pos, after, guard⟩ = some true) (hx : aOp P ta h ⟨dst, op, tt, pos, after, guard⟩ = some (.val v h1)) (hleft : dropF bef facts = left) (hr : recheck P h1 left = true) (hd : (prepD c.n ⟨dst, op, tt, pos, after, guard⟩).run ta v = some ta')
    (g : GoE P c k Q all rest tf left ta' h1) : GoE P c k Q all pl tf facts ta h := GoE.noisy hl hw hx hleft hr hd g
theorem prepD_some {n : Nat} {op : Op} {v : AVal} (hd : dst = some d) (hdn : Nat.blt d n = true) : (prepD n ⟨dst, op, tt, pos, after, guard⟩).run ta v = some (ta.put (pth d) (some v)) := by
  unfold prepD
  rw [show (⟨dst, op, tt, pos, after, guard⟩ : Oper).dst = some d from hd]
  simp only [hdn, cond_true]
  rw [Tr.mkPut_eq]
theorem GoE.copy {el el2 t1 t2 : TypeId} {sz bytes : Nat} {z s : AVal} {L : List (List AVal)} (hl : pl = ⟨i, bef, false, ⟨dst, .call ⟨.builtin .append, #[x, y], #[t1, t2]⟩, tt, pos, after, guard⟩, false⟩ :: rest) (hw : wantedA all ta ⟨dst, .call ⟨.builtin .append, #[x, y], #[t1, t2]⟩, tt, pos, after, guard⟩ = some true)
    (hu1 : P.underlying t1 = some (.slice el)) (hu2 : P.underlying t2 = some (.slice el2)) (hs : sizeT P el = some sz) (hby : bytesT P el = some bytes) (hz : zeroT P el = some z) (hzl : Nat.beq z.cells.length sz = true) (hsz0 : Nat.blt 0 sz = true)
    (hx : ev ta x = some (.lit 0 [])) (hy : ev ta y = some s) (hsl : SliceOf h sz s L) (hll : ∀ l, l ∈ L → l.length = sz) (hroom : (L.length + 301) * 2 * (bytes + 1) < 281474976710656) (hleft : dropF bef facts = left) (hd : dst = some d) (hdn : Nat.blt d c.n = true)
    (g : ∀ v h1, Ext h h1 → Copied h.next h1 el v L → recheck P h1 left = true ∧ GoE P c k Q all rest tf left (ta.put (pth d) (some v)) h1) : GoE P c k Q all pl tf facts ta h := by
  obtain ⟨v, h1, q1, q2, q3⟩ := aOp_copy (P := P) (dst := dst) (tt := tt) (pos := pos) (after := after) (guard := guard) hu1 hu2 hs hby hz hzl hsz0 hx hy hsl hll hroom
  obtain ⟨g1, g2⟩ := g v h1 q2 q3
  exact GoE.noisy0 hl hw q1 hleft g1 (prepD_some hd hdn) g2
theorem GoE.copy1 {el el2 t1 t2 : TypeId} {sz bytes lo : Nat} {z v : AVal} {new : List AVal} {L : List (List AVal)} (hl : pl = ⟨i, bef, false, ⟨dst, .call ⟨.builtin .append, #[x, y], #[t1, t2]⟩, tt, pos, after, guard⟩, false⟩ :: rest) (hw : wantedA all ta ⟨dst, .call ⟨.builtin .append, #[x, y], #[t1, t2]⟩, tt, pos, after, guard⟩ = some true)
    (hu1 : P.underlying t1 = some (.slice el)) (hu2 : P.underlying t2 = some (.slice el2)) (hs : sizeT P el = some sz) (hby : bytesT P el = some bytes) (hz : zeroT P el = some z) (hzl : Nat.beq z.cells.length sz = true) (hsz0 : Nat.blt 0 sz = true)
    (hx : ev ta x = some v) (hy : ev ta y = some (.lit 1 new)) (hc : Copied lo h el v L) (hll : ∀ l, l ∈ L → l.length = sz) (hnl : new.length = sz) (hns : scalars new = true) (hroom : (L.length + 301) * 2 * (bytes + 1) < 281474976710656) (hlo : lo ≤ h.next) (hleft : dropF bef facts = left) (hd : dst = some d) (hdn : Nat.blt d c.n = true)
    (g : ∀ b' h1, lo ≤ b' → h.next ≤ h1.next → (∀ c, c < lo → h1.get c = h.get c) → Has h1 b' (.cells .grow (L ++ [new]).flatten el) → recheck P h1 left = true ∧ GoE P c k Q all rest tf left (ta.put (pth d) (some (.gsl b' 0 0 (L.length + 1)))) h1) : GoE P c k Q all pl tf facts ta h := by
  obtain ⟨b', h1, q1, q2, q3, q4, q5, q6⟩ := aOp_copy1 (P := P) (dst := dst) (tt := tt) (pos := pos) (after := after) (guard := guard) hu1 hu2 hs hby hz hzl hsz0 hx hy hc hll hnl hns hroom hlo
  obtain ⟨g1, g2⟩ := g b' h1 q2 q3 q4 q6
  exact GoE.noisy0 hl hw q1 hleft g1 (prepD_some hd hdn) g2
end
end Go.AbsE

namespace Go.AbsE
open Go
/-! Loops, by the temporaries that matter. -/
section
variable {P : Program} {c : FC} {k : List AItem} {Q : AM → Prop} {J : Jump} (hJ : JOk P J)
include hJ
theorem Go.loopKeep' {α : Type} (L : α → List (Nat × AVal)) (I : Nat → α → AH → Prop) {x : Code} {t : Tr AVal} {h : AH} {n : Nat} (a : α) (k0 : keepOk t (L a)) (h0 : I n a h)
    (step : ∀ n a h, I n a h → (∀ m a' t' h', m < n → keepOk t' (L a') → I m a' h' → Go P c (.inLoop x :: k) t' h' Q) → Go P c (.code x :: .inLoop x :: k) (keepT (L a)) h Q) : Go P c (.code (.loop x) :: k) t h Q := by
  refine Go.keep (L a) k0 ?_
  refine Go.loop hJ ?_
  have key : ∀ n a h, I n a h → Go P c (.code x :: .inLoop x :: k) (keepT (L a)) h Q := by
    intro n
    induction n using Nat.strongRecOn with
    | ind n ih =>
      intro a h hI
      refine step n a h hI fun m a' t' h' hm hk hI' => ?_
      exact Go.inLoop hJ (Go.keep (L a') hk (ih m hm a' h' hI'))
  exact key n a h h0
end
theorem Go.loopKeep {P : Program} {c : FC} {k : List AItem} {Q : AM → Prop} {α : Type} (L : α → List (Nat × AVal)) (I : Nat → α → AH → Prop) {x : Code} {t : Tr AVal} {h : AH} {n : Nat} (a : α) (k0 : keepOk t (L a)) (h0 : I n a h)
    (step : ∀ n a h, I n a h → (∀ m a' t' h', m < n → keepOk t' (L a') → I m a' h' → Go P c (.inLoop x :: k) t' h' Q) → Go P c (.code x :: .inLoop x :: k) (keepT (L a)) h Q) : Go P c (.code (.loop x) :: k) t h Q := Go.loopKeep' noJ_ok L I a k0 h0 step
end Go.AbsE

set_option linter.unusedSimpArgs false
namespace Go.AbsE
open Go

/-! Going through maps: whichever entry comes next. -/
theorem sameA_agg2 (a b : Int) : sameA (.agg [.int .i64 a, .int .i64 b]) (.agg [.int .i64 a, .int .i64 b]) = true := by simp [sameA, sameAs, eqI_eq]
section
variable {P : Program}

/-- An operation at the head of what is left of a region, of which it is open what it comes to. -/
theorem Go.opAny {c : FC} {k : List AItem} {Q : AM → Prop} {all : Array Oper} {o : Oper} {rest : List Oper} {i : Nat} {t : Tr AVal} {h : AH} (Alt : AVal → AH → Prop)
    (hw : wantedA all t o = some true)
    (H : ∀ (w0 : Base) (e : Env) (W : World) (n : Nat) (T : Array Value), TRel e n t T → HR P w0 e h W → ∃ v h', Alt v h' ∧ OpSim P w0 e h W ((execOp (opd T) o).run P W) (.val v h'))
    (hk : ∀ v h', Alt v h' → ∃ t', (prepD c.n o).run t v = some t' ∧ Go P c (.inRegion all (i + 1) rest :: k) t' h' Q) :
    Go P c (.inRegion all i (o :: rest) :: k) t h Q := by
  intro w0 e W F Fr cs hF r
  have hF' : FRs P e (c.fr (.inRegion all i (o :: rest) :: k) t :: c.rest) (F :: Fr) := hF
  cases hF' with
  | cons h1 hFr =>
    have hm := run_mode h1
    have htd := h1.todo rfl
    obtain ⟨IT, K, q1, q2, q3⟩ := plain_head htd (fun _ _ _ _ q => by cases q) (fun _ _ _ _ q => by cases q)
    cases q2 with
    | inRegion ho =>
      have hlen : i < all.size := by
        have := congrArg List.length ho
        simp at this
        omega
      have hdrop : all.toList.drop i = all.toList[i]'(by simpa using hlen) :: all.toList.drop (i + 1) := List.drop_eq_getElem_cons _
      rw [hdrop] at ho
      injection ho with ho1 ho2
      have hoi : all[i]? = some o := by rw [ho1]; simp [hlen]
      have hrange : List.range' i (all.size - i) = i :: List.range' (i + 1) (all.size - (i + 1)) := by
        rw [show all.size - i = (all.size - (i + 1)) + 1 from by omega, List.range'_succ]
      have hwr := wanted_rel h1.tm hw
      obtain ⟨v, h', ha, e', V, W', s1, s2, s3, s4⟩ := H w0 e W c.n F.tmps h1.tm r
      obtain ⟨t', hd, g⟩ := hk v h' ha
      have hst := st_value (P := P) (b := F) (cs := Fr ++ cs) (W := W) hm (T := F.tmps) (k := K) hoi (rest := List.range' (i + 1) (all.size - (i + 1))) hwr s1
      obtain ⟨m2, h2, hs⟩ := g w0 e' W' (Frame.w F (match o.dst with | some d => F.tmps.setIfInBounds d V | none => F.tmps) (.inRegion all (List.range' (i + 1) (all.size - (i + 1))) :: K)) Fr cs
        (.cons (FR.todo_set (h1.mono s2) (prepD_rel (h1.tm.mono s2) s3 hd) (.plain (.cons (.inRegion ho2) (q3.mono s2)))) (hFr.mono s2)) s4
      rw [← hrange, ← Frame.w_self q1] at hst
      exact ⟨m2, h2, SS.head (.one hst) hs⟩

/-- A region begins. -/
theorem Go.beginR {c : FC} {k : List AItem} {Q : AM → Prop} {id : Nat} {ops : Array Oper} {l : List Oper} {t : Tr AVal} {h : AH} (hl : ops.toList = l) (g : Go P c (.inRegion ops 0 l :: k) t h Q) : Go P c (.code (.region id ops false) :: k) t h Q := by
  subst hl
  refine Go.plain noJ_ok (fun _ _ _ _ q => by cases q) (fun _ _ _ _ q => by cases q) (fun e IT K a b => ?_) g
  cases a
  refine ⟨_, .cons (.inRegion (by simp)) b, fun F T cs W hm => ?_⟩
  rw [Nat.sub_zero, ← List.range_eq_range']
  exact .one (st_region hm)

theorem MRs.mem {e : Env} : ∀ {l : List AMapE} {m : List MapEntry}, MRs e l m → ∀ en, en ∈ m → ∃ a, a ∈ l ∧ a.key = en.key ∧ a.born = en.born ∧ VR e a.val en.val
  | _, _, .nil, en, h => by cases h
  | _, _, .cons hv hs, en, h => by
    rcases List.mem_cons.1 h with rfl | h
    · exact ⟨_, List.mem_cons_self, rfl, rfl, hv⟩
    · obtain ⟨a, q1, q2⟩ := MRs.mem hs en h
      exact ⟨a, List.mem_cons_of_mem _ q1, q2⟩
theorem MRs.mem' {e : Env} : ∀ {l : List AMapE} {m : List MapEntry}, MRs e l m → ∀ a, a ∈ l → ∃ en, en ∈ m ∧ a.born = en.born
  | _, _, .nil, en, h => by cases h
  | _, _, .cons hv hs, en, h => by
    rcases List.mem_cons.1 h with rfl | h
    · exact ⟨_, List.mem_cons_self, rfl⟩
    · obtain ⟨a, q1, q2⟩ := MRs.mem' hs en h
      exact ⟨a, List.mem_cons_of_mem _ q1, q2⟩

/-- What there is to go on with. -/
def left (ES : Array MapEntry) (seen : List Nat) : Array MapEntry := ES.filter fun e => !seen.toArray.contains e.born

theorem left_mem {ES : Array MapEntry} {seen : List Nat} {en : MapEntry} : en ∈ left ES seen ↔ en ∈ ES ∧ en.born ∉ seen := by
  simp [left]

theorem run_choose {α : Type} (q : Question) (k : Nat → Sem α) (W : World) : ∃ j W', (W' = W ∨ ∃ n, W' = { W with drawn := n }) ∧ (q.forced = true → j = 0) ∧ (q.forced = false → ∃ x, j = q.cut x) ∧ (Sem.choose q k).run P W = (k j).run P W' := by
  cases hq : q.forced with
  | true => exact ⟨0, W, .inl rfl, fun _ => rfl, fun h => (by cases h), by simp [Sem.run, hq]⟩
  | false => exact ⟨_, _, .inr ⟨_, rfl⟩, fun h => (by cases h), fun _ => ⟨_, rfl⟩, by simp [Sem.run, hq]; rfl⟩

theorem next_over {W : World} {B M since last clock : Nat} {seen : List Nat} {ES : Array MapEntry} {ty : TypeId} (h1 : W.heap[B]? = some (.mapIter (some M) since seen.toArray last)) (h2 : W.heap[M]? = some (.map ES clock))
    (hl : left ES seen = #[]) (hb : ∀ en, en ∈ ES → en.born < last) : (Instr.next (.pointer (some ⟨B, 0, none⟩)) false ty).run P W = .ok (.tuple #[.bool false]) W := by
  have hg : (!seen.toArray.isEmpty && !ES.isEmpty && ES.all (·.born ≥ last)) = false := by
    cases hE : ES.isEmpty with
    | true => simp
    | false =>
      have : ES.all (·.born ≥ last) = false := by
        rw [Array.all_eq_false]
        have hne : 0 < ES.size := by
          rcases Nat.eq_zero_or_pos ES.size with q | q
          · simp [Array.isEmpty, q] at hE
          · exact q
        exact ⟨0, hne, by have := hb _ (Array.getElem_mem hne); simp; omega⟩
      rw [this]; simp
  unfold left at hl
  simp only [Instr.next, Sem.run_bind', getObj, Sem.run, h1, h2, hg, hl]
  simp [Sem.run_bind', choose, Sem.run, Question.forced, run_pure']

theorem next_more {W : World} {B M since last clock : Nat} {seen : List Nat} {ES : Array MapEntry} {ty : TypeId} (h1 : W.heap[B]? = some (.mapIter (some M) since seen.toArray last)) (h2 : W.heap[M]? = some (.map ES clock))
    (hl : left ES seen ≠ #[]) (hb : ∀ en, en ∈ ES → en.born < last) (hs : ∀ en, en ∈ ES → en.born < since) :
    ∃ en W', en ∈ left ES seen ∧ (W' = W ∨ ∃ n, W' = { W with drawn := n }) ∧ (Instr.next (.pointer (some ⟨B, 0, none⟩)) false ty).run P W = .ok (.tuple #[.bool true, en.key, en.val]) (World.upd W' B (.mapIter (some M) since (seen ++ [en.born]).toArray clock)) := by
  have hg : (!seen.toArray.isEmpty && !ES.isEmpty && ES.all (·.born ≥ last)) = false := by
    cases hE : ES.isEmpty with
    | true => simp
    | false =>
      have : ES.all (·.born ≥ last) = false := by
        rw [Array.all_eq_false]
        have hne : 0 < ES.size := by
          rcases Nat.eq_zero_or_pos ES.size with q | q
          · simp [Array.isEmpty, q] at hE
          · exact q
        exact ⟨0, hne, by have := hb _ (Array.getElem_mem hne); simp; omega⟩
      rw [this]; simp
  have ho : (left ES seen).filter (·.born < since) = left ES seen := by
    rw [Array.filter_eq_self]
    intro a ha
    have := hs a (left_mem.1 ha).1
    simpa using this
  have hn : (left ES seen).filter (·.born ≥ since) = #[] := by
    rw [Array.filter_eq_empty_iff]
    intro a ha
    have := hs a (left_mem.1 ha).1
    simp; omega
  have hne : (left ES seen).isEmpty = false := by
    cases q : (left ES seen).isEmpty with
    | true => exact absurd (Array.isEmpty_iff.1 q) hl
    | false => rfl
  have hsz : 0 < (left ES seen).size := by
    rcases Nat.eq_zero_or_pos (left ES seen).size with q | q
    · exact absurd (Array.eq_empty_of_size_eq_zero q) hl
    · exact q
  have e1 : (Instr.next (.pointer (some ⟨B, 0, none⟩)) false ty).run P W = (Sem.choose (.mapNext (left ES seen).size) fun j => (match ((left ES seen).map some)[j]? with
      | some (some e) => do setObj B (.mapIter (some M) since (seen.toArray.push e.born) clock); pure (.tuple #[.bool true, e.key, e.val])
      | some none => pure (.tuple #[.bool false])
      | none => stuck "Next: no such candidate" : Sem Value)).run P W := by
    unfold left at ho hn hne ⊢
    simp only [Instr.next, Sem.run_bind', getObj, Sem.run, h1, h2, hg, ho, hn, hne]
    simp [Sem.run_bind', choose, Sem.run]
    split <;> rfl
  rw [e1]
  obtain ⟨j, W', q1, q2, q3, q4⟩ := run_choose (P := P) (.mapNext (left ES seen).size) (fun j => (match ((left ES seen).map some)[j]? with
      | some (some e) => do setObj B (.mapIter (some M) since (seen.toArray.push e.born) clock); pure (.tuple #[.bool true, e.key, e.val])
      | some none => pure (.tuple #[.bool false])
      | none => stuck "Next: no such candidate" : Sem Value)) W
  have hj : j < (left ES seen).size := by
    cases hf : (Question.mapNext (left ES seen).size).forced with
    | true => rw [q2 hf]; exact hsz
    | false =>
      obtain ⟨x, rfl⟩ := q3 hf
      exact Nat.mod_lt _ hsz
  refine ⟨(left ES seen)[j], W', Array.getElem_mem hj, q1, ?_⟩
  rw [q4]
  have hget : ((left ES seen).map some)[j]? = some (some ((left ES seen)[j])) := by simp [hj]
  rw [hget]
  have hW : W'.heap[B]? = some (.mapIter (some M) since seen.toArray last) := by
    rcases q1 with rfl | ⟨n, rfl⟩
    · exact h1
    · exact h1
  simp [Sem.run_bind', setObj, Sem.run, hW, run_pure', World.upd]

/-- The next entry of a map, whichever. -/
theorem Go.nextM {c : FC} {k : List AItem} {Q : AM → Prop} {all : Array Oper} {rest : List Oper} {i : Nat} {t : Tr AVal} {h : AH} {x : Operand} {d bi bm since last clock : Nat} {seen : List Nat} {es : List AMapE} {ty : TypeId} {pos : String} {after : Array Edge}
    (hdn : Nat.blt d c.n = true) (hx : ev t x = some (.ptr bi 0)) (hi : Has h bi (.iter bm since seen last)) (hm : mapB h bm = some (es, clock)) (hb : ∀ en, en ∈ es → en.born < last) (hs : ∀ en, en ∈ es → en.born < since)
    (hkv : ∀ en, en ∈ es → ∃ kv, absV en.key = some kv)
    (over : (∀ en, en ∈ es → en.born ∈ seen) → Go P c (.inRegion all (i + 1) rest :: k) (t.put (pth d) (some (.tuple [.bool false]))) h Q)
    (more : ∀ en kv, en ∈ es → en.born ∉ seen → absV en.key = some kv → ∀ h1, Upd h bi (.iter bm since (seen ++ [en.born]) clock) h1 → Go P c (.inRegion all (i + 1) rest :: k) (t.put (pth d) (some (.tuple [.bool true, kv, en.val]))) h1 Q) :
    Go P c (.inRegion all i (⟨some d, .next x false, ty, pos, after, none⟩ :: rest) :: k) t h Q := by
  refine Go.opAny (fun v h' => ((∀ en, en ∈ es → en.born ∈ seen) ∧ v = .tuple [.bool false] ∧ h' = h) ∨ ∃ en kv, en ∈ es ∧ en.born ∉ seen ∧ absV en.key = some kv ∧ v = .tuple [.bool true, kv, en.val] ∧ Upd h bi (.iter bm since (seen ++ [en.born]) clock) h') rfl ?_ ?_
  · intro w0 e W n T hT r
    have hxv := ev_rel hT hx
    show ∃ v h', _ ∧ OpSim P w0 e h W ((do let a ← Instr.next (opd T x) false ty; pure (Next.value a)).run P W) (.val v h')
    generalize opd T x = C at hxv
    cases hxv with
    | ptr hbi =>
      obtain ⟨B, cB, O, k1, k2, k3, k4⟩ := r.blk _ _ hi.2
      have hBB := k1.symm.trans hbi
      cases hBB
      cases k4 with
      | iter hem =>
        obtain ⟨M, cM, ES, j1, j3, hmr⟩ := mapB_sim r hm
        have hMM := j1.symm.trans hem
        cases hMM
        have hb' : ∀ en, en ∈ ES → en.born < last := fun en q => by obtain ⟨a, a1, a2, a3, a4⟩ := hmr.mem en (by simpa using q); rw [← a3]; exact hb a a1
        have hs' : ∀ en, en ∈ ES → en.born < since := fun en q => by obtain ⟨a, a1, a2, a3, a4⟩ := hmr.mem en (by simpa using q); rw [← a3]; exact hs a a1
        by_cases hL : left ES seen = #[]
        · refine ⟨.tuple [.bool false], h, .inl ⟨fun en hen => ?_, rfl, rfl⟩, sim_pure r (next_over k3 j3 hL hb') (.tuple (.cons (.bool false) .nil))⟩
          obtain ⟨en', q1, q2⟩ := hmr.mem' en hen
          by_cases hq : en.born ∈ seen
          · exact hq
          · have : en' ∈ left ES seen := left_mem.2 ⟨by simpa using q1, q2 ▸ hq⟩
            rw [hL] at this
            simp at this
        · obtain ⟨en, W', q1, q2, q3⟩ := next_more (P := P) (ty := ty) k3 j3 hL hb' hs'
          obtain ⟨m1, m2⟩ := left_mem.1 q1
          obtain ⟨a, a1, a2, a3, a4⟩ := hmr.mem en (by simpa using m1)
          obtain ⟨kv, hkv⟩ := hkv a a1
          obtain ⟨h1, s1, s2⟩ := set_upd h bi (.iter bm since (seen ++ [en.born]) clock)
          have r' : HR P w0 e h W' := by
            rcases q2 with rfl | ⟨n, rfl⟩
            · exact r
            · exact r.drew n
          refine ⟨.tuple [.bool true, kv, a.val], h1, .inr ⟨a, kv, a1, by rw [a3]; exact m2, hkv, rfl, by rw [a3]; exact s2⟩, sim_val q3 (Env.le_refl e) ?_ (r'.set hi.2 rfl k1 s1 (.iter j1))⟩
          exact .tuple (.cons (.bool true) (.cons (by rw [← a2]; exact absV_rel hkv) (.cons a4 .nil)))
  · intro v h' ha
    have hp : ∀ v, (prepD c.n ⟨some d, .next x false, ty, pos, after, none⟩).run t v = some (t.put (pth d) (some v)) := by
      intro v
      unfold prepD
      simp only [hdn, cond_true]
      rw [Tr.mkPut_eq]
    rcases ha with ⟨q1, rfl, rfl⟩ | ⟨en, kv, q1, q2, q3, rfl, q4⟩
    · exact ⟨_, hp _, over q1⟩
    · exact ⟨_, hp _, more en kv q1 q2 q3 h' q4⟩

theorem GoR.rangeM {J : Jump} {c : FC} {k : List AItem} {Q : AM → Prop} {all : Array Oper} {l : List Oper} {rest : List Oper} {o : Oper} {i d : Nat} {t : Tr AVal} {h : AH} {ty kt et : TypeId} {x : Operand} {bm clock : Nat} {es : List AMapE} (hl0 : l = o :: rest) (hw : wantedA all t o = some true)
    (ho : o.op = .range ty x) (hu : P.underlying ty = some (.map kt et)) (hx : ev t x = some (.map bm)) (hm : mapB h bm = some (es, clock)) (hd : o.dst = some d) (hn : Nat.blt d c.n = true)
    (g : ∀ h1, Ext h h1 → Has h1 h.next (.iter bm clock [] clock) → GoR P J c k Q (runOps P c.n all rest (i + 1) (t.put (pth d) (some (.ptr h.next 0))) h1)) : GoR P J c k Q (runOps P c.n all l i t h) := by
  obtain ⟨h1, q⟩ := new_some h (.iter bm clock [] clock)
  obtain ⟨_, q2, q3⟩ := new_ext q
  refine GoR.op hl0 hw (v := .ptr h.next 0) (h' := h1) ?_ ?_ (g h1 q2 q3)
  · obtain ⟨dst, op, type, pos, after, guard⟩ := o
    dsimp only at ho
    subst ho
    show opRange P t h ty x = _
    unfold opRange
    rw [hu, hx]
    simp only [hm, q, ptrTo]
  · unfold prepD
    rw [hd]
    simp only [hn, cond_true]
    rw [Tr.mkPut_eq]

theorem lastOf_append (l : List Nat) (x : Nat) : lastOf (l ++ [x]) = some x := by
  induction l with
  | nil => rfl
  | cons y l ih => simp [lastOf, ih]

theorem findBorn_of {es : List AMapE} {en : AMapE} (h : en ∈ es) (hd : es.Pairwise fun a b => a.born ≠ b.born) : findBorn en.born es = some en := by
  induction es with
  | nil => cases h
  | cons a l ih =>
    rw [List.pairwise_cons] at hd
    unfold findBorn
    rcases List.mem_cons.1 h with rfl | h
    · rw [show Nat.beq en.born en.born = true from Nat.beq_refl _]; rfl
    · rw [show Nat.beq a.born en.born = false from by cases q : Nat.beq a.born en.born with | false => rfl | true => exact absurd (Nat.eq_of_beq_eq_true q) (hd.1 en h)]
      exact ih h hd.2

theorem aOp_entry {t : Tr AVal} {h : AH} {x : Operand} {bi bm since clock : Nat} {seen : List Nat} {es : List AMapE} {en : AMapE} {kv : AVal} {dst : Option Tmp} {tt : TypeId} {pos : String} {after : Array Edge} {guard : Option (Nat × Bool)}
    (hx : ev t x = some (.ptr bi 0)) (hi : Has h bi (.iter bm since (seen ++ [en.born]) clock)) (hm : mapB h bm = some (es, clock)) (he : en ∈ es) (hd : es.Pairwise fun a b => a.born ≠ b.born) (hk : absV en.key = some kv) :
    aOp P t h ⟨dst, .entry x, tt, pos, after, guard⟩ = some (.val (.tuple [kv, en.val]) h) := by
  show opEntry t h x = _
  unfold opEntry
  rw [hx]
  have hi2 := hi.2
  simp only [hi2, hm, Nat.beq_refl, cond_true, entryIn, lastOf_append, findBorn_of he hd, entryV, hk, valO, show Nat.beq clock clock = true from Nat.beq_refl _]

theorem aOp_buildSl {t : Tr AVal} {h : AH} {dst : Option Tmp} {tt ty el : TypeId} {pos : String} {after : Array Edge} {guard : Option (Nat × Bool)} {len n : Nat} {parts : Array (Nat × Operand)} {ps : List (Nat × AVal)} {z : AVal} {cs : List AVal}
    (hu : P.underlying ty = some (.slice el)) (hp : evParts t parts.toList = some ps) (hs : sizeT P el = some n) (hz : zeroT P el = some z) (hb : Nat.ble (len * n) 100000 = true) (hzl : Nat.beq z.cells.length n = true)
    (hc : aFillA (fun i => some (i * n, n)) (repl z.cells len) ps = some cs) : ∃ h1, aOp P t h ⟨dst, .buildSlice ty len parts, tt, pos, after, guard⟩ = some (.val (.slice h.next 0 len len) h1) ∧ Ext h h1 ∧ Has h1 h.next (.cells .plain cs el) := by
  obtain ⟨h1, q⟩ := new_some h (.cells .plain cs el)
  obtain ⟨_, q2, q3⟩ := new_ext q
  refine ⟨h1, ?_, q2, q3⟩
  show opBuildSlice P t h ty len parts = _
  unfold opBuildSlice
  rw [hu, hp]
  simp only [hs, hz, hb, hzl, cond_true, hc, q]

theorem GoR.buildSl {J : Jump} {c : FC} {k : List AItem} {Q : AM → Prop} {all : Array Oper} {l : List Oper} {rest : List Oper} {i d : Nat} {t : Tr AVal} {h : AH} {tt ty el : TypeId} {pos : String} {after : Array Edge} {guard : Option (Nat × Bool)} {len n : Nat} {parts : Array (Nat × Operand)} {ps : List (Nat × AVal)} {z : AVal} {cs : List AVal}
    (hl0 : l = ⟨some d, .buildSlice ty len parts, tt, pos, after, guard⟩ :: rest) (hw : wantedA all t ⟨some d, .buildSlice ty len parts, tt, pos, after, guard⟩ = some true)
    (hu : P.underlying ty = some (.slice el)) (hp : evParts t parts.toList = some ps) (hs : sizeT P el = some n) (hz : zeroT P el = some z) (hb : Nat.ble (len * n) 100000 = true) (hzl : Nat.beq z.cells.length n = true)
    (hc : aFillA (fun i => some (i * n, n)) (repl z.cells len) ps = some cs) (hdn : Nat.blt d c.n = true)
    (g : ∀ h1, Ext h h1 → Has h1 h.next (.cells .plain cs el) → GoR P J c k Q (runOps P c.n all rest (i + 1) (t.put (pth d) (some (.slice h.next 0 len len))) h1)) : GoR P J c k Q (runOps P c.n all l i t h) := by
  obtain ⟨h1, q1, q2, q3⟩ := aOp_buildSl (P := P) (t := t) (h := h) (dst := some d) (tt := tt) (pos := pos) (after := after) (guard := guard) hu hp hs hz hb hzl hc
  refine GoR.op hl0 hw q1 ?_ (g h1 q2 q3)
  unfold prepD
  simp only [hdn, cond_true]
  rw [Tr.mkPut_eq]

theorem GoE.buildSl {c : FC} {k : List AItem} {Q : AM → Prop} {all : Array Oper} {pl rest : List DOp} {tf ta : Tr AVal} {facts left : List DFact} {h : AH} {i bef d : Nat} {tt ty el : TypeId} {pos : String} {after : Array Edge} {guard : Option (Nat × Bool)} {len n : Nat} {parts : Array (Nat × Operand)} {ps : List (Nat × AVal)} {z : AVal} {cs : List AVal}
    (hl : pl = ⟨i, bef, false, ⟨some d, .buildSlice ty len parts, tt, pos, after, guard⟩, false⟩ :: rest) (hw : wantedA all ta ⟨some d, .buildSlice ty len parts, tt, pos, after, guard⟩ = some true)
    (hu : P.underlying ty = some (.slice el)) (hp : evParts ta parts.toList = some ps) (hs : sizeT P el = some n) (hz : zeroT P el = some z) (hb : Nat.ble (len * n) 100000 = true) (hzl : Nat.beq z.cells.length n = true)
    (hc : aFillA (fun i => some (i * n, n)) (repl z.cells len) ps = some cs) (hleft : dropF bef facts = left) (hdn : Nat.blt d c.n = true)
    (g : ∀ h1, Ext h h1 → Has h1 h.next (.cells .plain cs el) → recheck P h1 left = true ∧ GoE P c k Q all rest tf left (ta.put (pth d) (some (.slice h.next 0 len len))) h1) : GoE P c k Q all pl tf facts ta h := by
  obtain ⟨h1, q1, q2, q3⟩ := aOp_buildSl (P := P) (t := ta) (h := h) (dst := some d) (tt := tt) (pos := pos) (after := after) (guard := guard) hu hp hs hz hb hzl hc
  obtain ⟨g1, g2⟩ := g h1 q2 q3
  refine GoE.noisy hl hw q1 hleft g1 ?_ g2
  unfold prepD
  simp only [hdn, cond_true]
  rw [Tr.mkPut_eq]
end

section
variable {P : Program}
/-- Two kinds of calls that are known. -/
noncomputable def orJ (J1 J2 : Jump) : Jump := ⟨fun f args h => match J1.run f args h with | some v => some v | none => J2.run f args h⟩
theorem orJ_ok {J1 J2 : Jump} (h1 : JOk P J1) (h2 : JOk P J2) : JOk P (orJ J1 J2) := by
  intro f args h v k
  unfold orJ at k
  dsimp only at k
  split at k
  · rename_i v' hv
    cases k
    exact h1 f args h _ hv
  · exact h2 f args h v k

/-- A call that is proved for all arguments, as a call that is known: what it reads are maps. -/
theorem JOk.ofRuns {J : Jump} (H : ∀ f args h v, J.run f args h = some v → flatA v = true ∧ ∃ h2 : AH, h2.next = h.next ∧ (∀ b o, h2.get b = some o → ∃ es c, o = .romap es c ∧ mapB h b = some (es, c)) ∧ Runs P f args h2 (fun en _ => en = .ret v)) : JOk P J := by
  intro f args h v hv w0 e W ARGS r ha
  obtain ⟨hf, h2, q1, q2, q3⟩ := H f args h v hv
  have r2 : HR P (Base.all W) e h2 W := by
    refine ⟨fun b x q => by rw [q1]; exact r.dom b x q, fun b o q => ?_, fun b b' B c c' o o' k1 k2 hro => ?_, fun B CS hi => ⟨(r.imm B CS hi).1, fun b o c kb hro => ?_⟩, rfl, rfl, rfl, Nat.le_refl _, fun _ _ => rfl, fun i O hi hO => ?_⟩
    · obtain ⟨es, c, rfl, hm⟩ := q2 b o q
      obtain ⟨B, cB, ES, k1, k2, k3⟩ := mapB_sim r hm
      exact ⟨B, cB, _, k1, (fun q => by cases q), k2, by have := BR.romap (P := P) (c := cB) (clock := c) k3; simpa using this⟩
    · obtain ⟨es, c, rfl, hm⟩ := q2 b o k1
      cases hro
    · obtain ⟨es, c', rfl, hm⟩ := q2 b o kb
      cases hro
    · exact absurd (Array.getElem?_eq_some_iff.1 hO).1 (Nat.not_lt.2 hi)
  refine (q3.calls (fun chain h' q => by cases q) r2 ha).mono ?_
  rintro en W' ⟨v', h', e', V, g1, g2, g3, g4⟩
  cases g1
  exact ⟨V, g2, VR.flat hf g3, g4.isStill⟩
end
end Go.AbsE

namespace Go.Proofs.Ytmdheijpnlonoaa
open Go Go.AbsE
set_option maxRecDepth 100000
set_option maxHeartbeats 0
set_option linter.unusedVariables false
theorem flds30 : ∃ fs, Try.prog.underlying 30 = some (.struct fs) ∧ placesT Try.prog fs.toList = some [(0, 1), (1, 1)] := ⟨_, Try.underlying30, by kernel_rfl⟩
theorem flds119 : ∃ fs, Try.prog.underlying 119 = some (.struct fs) ∧ placesT Try.prog fs.toList = some [(0, 1)] := ⟨_, Try.underlying119, by kernel_rfl⟩
def spC (p : Int × Int) : List AVal := [.int .i64 p.1, .int .i64 p.2]
def joinP (a b : Int × Int) : Int × Int := (if b.1 < a.1 then b.1 else a.1, if a.2 < b.2 then b.2 else a.2)
def noSp : Int × Int := (9223372036854775807, -9223372036854775808)
def joinL (l : List (Int × Int)) : Int × Int := l.foldl joinP noSp

theorem inside_ok (n a b : Int) {r : Bool} (hr : decide (a ≤ n ∧ n ≤ b) = r) (h : AH) : Runs Try.prog 66 [.int .i64 n, .int .i64 a, .int .i64 b] h (fun en h' => en = .ret (.bool r) ∧ Ext h h') := by
  refine Runs.intro aFunc66 rfl rfl rfl rfl fun rest => ?_
  refine Go.seq noJ_ok (Go.region noJ_ok rfl ?_)
  refine GoR.op rfl rfl rfl rfl ?_
  refine GoR.end (Go.seq noJ_ok (Go.region noJ_ok rfl ?_))
  cases e1 : decide (a ≤ n) with
  | false =>
    refine GoR.op rfl rfl rfl rfl ?_
    refine GoR.op rfl rfl rfl rfl ?_
    refine GoR.op rfl rfl (aOp_leq rfl rfl e1) rfl ?_
    refine GoR.op rfl rfl rfl rfl ?_
    refine GoR.skip rfl rfl rfl ?_
    refine GoR.skip rfl rfl rfl ?_
    refine GoR.skip rfl rfl rfl ?_
    refine GoR.op rfl rfl rfl rfl ?_
    refine GoR.op rfl rfl rfl rfl ?_
    refine GoR.end (Go.ret noJ_ok (ret_end (aResult_of Try.func66 rfl rfl) ⟨?_, Ext.refl _⟩))
    rw [← hr]
    simp only [decide_eq_true_eq, decide_eq_false_iff_not] at e1
    simp [oneOrTuple]
    try omega
  | true =>
    cases e2 : decide (n ≤ b) with
    | false =>
      refine GoR.op rfl rfl rfl rfl ?_
      refine GoR.op rfl rfl rfl rfl ?_
      refine GoR.op rfl rfl (aOp_leq rfl rfl e1) rfl ?_
      refine GoR.op rfl rfl rfl rfl ?_
      refine GoR.op rfl rfl rfl rfl ?_
      refine GoR.op rfl rfl rfl rfl ?_
      refine GoR.op rfl rfl (aOp_leq rfl rfl e2) rfl ?_
      refine GoR.op rfl rfl rfl rfl ?_
      refine GoR.op rfl rfl rfl rfl ?_
      refine GoR.end (Go.ret noJ_ok (ret_end (aResult_of Try.func66 rfl rfl) ⟨?_, Ext.refl _⟩))
      rw [← hr]
      simp only [decide_eq_true_eq, decide_eq_false_iff_not] at e1 e2
      simp [oneOrTuple]
      try omega
    | true =>
      refine GoR.op rfl rfl rfl rfl ?_
      refine GoR.op rfl rfl rfl rfl ?_
      refine GoR.op rfl rfl (aOp_leq rfl rfl e1) rfl ?_
      refine GoR.op rfl rfl rfl rfl ?_
      refine GoR.op rfl rfl rfl rfl ?_
      refine GoR.op rfl rfl rfl rfl ?_
      refine GoR.op rfl rfl (aOp_leq rfl rfl e2) rfl ?_
      refine GoR.op rfl rfl rfl rfl ?_
      refine GoR.op rfl rfl rfl rfl ?_
      refine GoR.end (Go.ret noJ_ok (ret_end (aResult_of Try.func66 rfl rfl) ⟨?_, Ext.refl _⟩))
      rw [← hr]
      simp only [decide_eq_true_eq, decide_eq_false_iff_not] at e1 e2
      simp [oneOrTuple]
      try omega

theorem one_ok (n : Int) (h : AH) : Runs Try.prog 78 [.int .i64 n] h (fun en h' => en = .ret (.agg (spC (n, n))) ∧ Ext h h') := by
  obtain ⟨fs30, hu30, pl30⟩ := flds30
  refine Runs.intro aFunc78 rfl rfl rfl rfl fun rest => ?_
  refine Go.seq noJ_ok ?_
  refine Go.region noJ_ok rfl ?_
  refine GoR.alloc rfl rfl rfl zt30 rfl rfl fun h0 x0 f0 => ?_
  have e0 := x0
  have := f0.1
  refine GoR.end ?_
  refine Go.seq noJ_ok ?_
  refine Go.region noJ_ok rfl ?_
  iterate 2 refine GoR.op rfl rfl rfl rfl ?_
  refine GoR.op rfl rfl (aOp_build (ps := [(0, .int .i64 n), (1, .int .i64 n)]) (cs := [.int .i64 n, .int .i64 n]) zt30 hu30 pl30 rfl rfl) rfl ?_
  refine GoR.store rfl rfl rfl rfl rfl rfl f0 rfl sz30 rfl rfl rfl fun h1 u1 => ?_
  replace f0 := u1.has f0
  replace e0 := e0.upd u1 (by omega)
  refine GoR.end ?_
  exact Go.ret noJ_ok (ret_end (aResult_of Try.func78 rfl (aResults_cell rfl f0 (inCells_agg ag30 sz30 rfl))) ⟨rfl, e0⟩)

theorem join_ok (L : List (Int × Int)) (s : AVal) (h : AH) (hs : SliceOf h 2 s (L.map spC)) (hL : L.length ≤ 100) : Runs Try.prog 76 [s] h (fun en h' => en = .ret (.agg (spC (joinL L))) ∧ Ext h h') := by
  obtain ⟨fs30, hu30, pl30⟩ := flds30
  have hl := hs.len
  rw [List.length_map] at hl
  refine Runs.intro aFunc76 rfl rfl rfl rfl fun rest => ?_
  refine Go.seq noJ_ok ?_
  refine Go.region noJ_ok rfl ?_
  refine GoR.alloc rfl rfl rfl zt30 rfl rfl fun h0 x0 f0 => ?_
  have e0 := x0
  have := f0.1
  refine GoR.end ?_
  refine Go.seq noJ_ok ?_
  refine Go.region noJ_ok rfl ?_
  refine GoR.op rfl rfl (aOp_build (ps := [(0, .int .i64 9223372036854775807), (1, .int .i64 (-9223372036854775808))]) (cs := [.int .i64 9223372036854775807, .int .i64 (-9223372036854775808)]) zt30 hu30 pl30 rfl rfl) rfl ?_
  refine GoR.alloc rfl rfl rfl zt30 rfl rfl fun h1 x1 f1 => ?_
  have := e0.1
  have := f0.1
  replace f0 := f0.ext x1
  replace e0 := e0.trans x1
  have := f1.1
  refine GoR.store rfl rfl rfl rfl rfl rfl f1 rfl sz30 rfl rfl rfl fun h2 u2 => ?_
  replace f1 := u2.has f1
  replace f0 := f0.upd u2 (by omega)
  replace e0 := e0.upd u2 (by omega)
  refine GoR.end ?_
  iterate 2 refine Go.seq noJ_ok ?_
  refine Go.region noJ_ok rfl ?_
  refine GoR.op rfl rfl rfl rfl ?_
  refine GoR.op rfl rfl (aOp_lenSlice Try.underlying23 rfl hl) rfl ?_
  refine GoR.op rfl rfl rfl rfl ?_
  refine GoR.end ?_
  refine Go.block noJ_ok ?_
  refine Go.loopKeep (fun i : Nat => [(2, .ptr h.next 0), (3, .ptr h0.next 0), (7, s), (8, .int .i64 L.length), (9, .int .i64 (i : Nat))]) (fun n i h' => n + i = L.length ∧ Ext h h' ∧ Has h' h.next (.cells .plain [.int .i64 0, .int .i64 0] 30) ∧ Has h' h0.next (.cells .plain (spC (joinL (L.take i))) 30)) (n := L.length) 0 ⟨rfl, rfl, rfl, rfl, rfl, trivial⟩ ⟨rfl, e0, f0, f1⟩ ?_
  have hlt := f0.1
  clear e0 f0 f1
  rintro n i hc ⟨hn, e0, f0, f1⟩ again
  by_cases hi : i < L.length
  · obtain ⟨p, hp⟩ : ∃ p, L[i]? = some p := ⟨L[i], by simp [hi]⟩
    obtain ⟨b, off, q1, q2⟩ := (hs.ext e0).at (i := i) (l := spC p) (by rw [List.getElem?_map, hp]; rfl)
    have hj : joinL (L.take (i + 1)) = joinP (joinL (L.take i)) p := by rw [List.take_add_one, hp]; simp [joinL]
    rw [List.length_map] at q1
    generalize hw : joinL (L.take i) = w at f1 hj
    refine Go.seq noJ_ok ?_
    refine Go.region noJ_ok rfl ?_
    refine GoR.op rfl rfl (aOp_lss rfl rfl (r := true) (decide_eq_true (by omega))) rfl ?_
    refine GoR.end ?_
    refine Go.seq noJ_ok ?_
    refine Go.cond noJ_ok (b := true) rfl ?_
    refine Go.code noJ_ok ?_
    refine Go.seq noJ_ok ?_
    refine Go.block noJ_ok ?_
    refine Go.seq noJ_ok ?_
    refine Go.region noJ_ok rfl ?_
    refine GoR.op rfl rfl (aOp_indexAddr Try.underlying23 sz30 rfl q1 rfl (by simp; omega)) rfl ?_
    refine GoR.op rfl rfl (aOp_loadE ag30 sz30 rfl q2) rfl ?_
    refine GoR.alloc rfl rfl rfl zt30 rfl rfl fun h3 x3 f3 => ?_
    have := e0.1
    have := f0.1
    have := f1.1
    replace f0 := f0.ext x3
    replace f1 := f1.ext x3
    replace e0 := e0.trans x3
    have := f3.1
    refine GoR.store rfl rfl rfl rfl rfl rfl f3 rfl sz30 rfl rfl rfl fun h4 u4 => ?_
    replace f3 := u4.has f3
    replace f0 := f0.upd u4 (by omega)
    replace f1 := f1.upd u4 (by omega)
    replace e0 := e0.upd u4 (by omega)
    refine GoR.end ?_
    refine Go.region noJ_ok rfl ?_
    refine GoR.op rfl rfl (fa30_0 rfl) rfl ?_
    refine GoR.op rfl rfl (ld3 rfl f1 rfl) rfl ?_
    refine GoR.op rfl rfl (fa30_0 rfl) rfl ?_
    refine GoR.op rfl rfl (ld3 rfl f3 rfl) rfl ?_
    refine GoR.op rfl rfl (aOp_min2 rfl rfl rfl) rfl ?_
    refine GoR.op rfl rfl (fa30_1 rfl) rfl ?_
    refine GoR.op rfl rfl (ld3 rfl f1 rfl) rfl ?_
    refine GoR.op rfl rfl (fa30_1 rfl) rfl ?_
    refine GoR.op rfl rfl (ld3 rfl f3 rfl) rfl ?_
    refine GoR.op rfl rfl (aOp_max2 rfl rfl rfl) rfl ?_
    refine GoR.op rfl rfl (aOp_build (ps := [(0, .int .i64 (joinP w p).1), (1, .int .i64 (joinP w p).2)]) (cs := spC (joinP w p)) zt30 hu30 pl30 rfl rfl) rfl ?_
    refine GoR.store rfl rfl rfl rfl rfl rfl f1 rfl sz30 rfl rfl rfl fun h5 u5 => ?_
    replace f3 := f3.upd u5 (by omega)
    replace f0 := f0.upd u5 (by omega)
    replace f1 := u5.has f1
    replace e0 := e0.upd u5 (by omega)
    refine GoR.end ?_
    refine Go.inBlock noJ_ok ?_
    refine Go.region noJ_ok rfl ?_
    refine GoR.op rfl rfl (aOp_add rfl rfl (by constructor <;> omega) rfl) rfl ?_
    refine GoR.op rfl rfl rfl rfl ?_
    refine GoR.end ?_
    exact again (n - 1) (i + 1) _ _ (by omega) ⟨rfl, rfl, rfl, rfl, rfl, trivial⟩ ⟨by omega, e0, f0, by rw [hj]; exact f1⟩
  · have ht : L.take i = L := List.take_of_length_le (by omega)
    rw [ht] at f1
    refine Go.seq noJ_ok ?_
    refine Go.region noJ_ok rfl ?_
    refine GoR.op rfl rfl (aOp_lss rfl rfl (r := false) (decide_eq_false (by omega))) rfl ?_
    refine GoR.end ?_
    refine Go.seq noJ_ok ?_
    refine Go.cond noJ_ok (b := false) rfl ?_
    refine Go.code noJ_ok ?_
    refine Go.seq noJ_ok ?_
    refine Go.region noJ_ok rfl ?_
    refine GoR.op rfl rfl (ld30 rfl f1 rfl) rfl ?_
    refine GoR.store rfl rfl rfl rfl rfl rfl f0 rfl sz30 rfl rfl rfl fun h3 u3 => ?_
    replace f0 := u3.has f0
    replace f1 := f1.upd u3 (by omega)
    replace e0 := e0.upd u3 (by omega)
    refine GoR.end ?_
    exact Go.ret noJ_ok (ret_end (aResult_of Try.func76 rfl (aResults_cell rfl f0 (inCells_agg ag30 sz30 rfl))) ⟨rfl, e0⟩)

theorem slice_flatMap {f : Int × Int → List AVal} (hf : ∀ p, (f p).length = 2) : ∀ {l : List (Int × Int)} {d : Nat} {p : Int × Int}, l[d]? = some p → slice? (l.flatMap f) (d * 2) 2 = some (f p) := by
  intro l d p h
  have := slice_flatten (sz := 2) (L := l.map f) (fun x hx => by obtain ⟨q, _, rfl⟩ := List.mem_map.1 hx; exact hf q) d (f p) (by rw [List.getElem?_map, h]; rfl)
  rwa [← List.flatMap_def] at this

/-- How wet a heap can be by an entry. -/
theorem wet1_ok (k : Int) (fs : List AVal) (hfs : fs.length = 6) (vs : List (Int × Int)) (hvs : vs.length = 6) (hp : Int) (d : Nat) {p : Int × Int} (hd : vs[d]? = some p) (h : AH) {bh bd : Nat} {g1 g2 : Kd} {t1 t2 : TypeId} (hh : Has h bh (.cells g1 [.int .i64 hp] t1)) (hdd : Has h bd (.cells g2 [.int .i64 d] t2)) :
    Runs Try.prog 75 [.agg (.int .i64 k :: fs), .agg (vs.flatMap spC), .ptr bh 0, .ptr bd 0] h (fun en h' => en = .ret (.agg (spC (if k = hp then p else noSp))) ∧ Ext h h') := by
  have := hh.1
  have := hdd.1
  have hd6 : d < 6 := by rw [← hvs]; exact (List.getElem?_eq_some_iff.1 hd).1
  have hsl := slice_flatMap (f := spC) (fun _ => rfl) hd
  by_cases hk : k = hp
  · rw [if_pos hk]
    refine Runs.intro aFunc75 rfl rfl rfl rfl fun rest => ?_
    refine Go.seq noJ_ok ?_
    refine Go.region noJ_ok rfl ?_
    refine GoR.box rfl rfl rfl rfl rfl rfl fun h0 x0 f0 => ?_
    have := hh.1
    have := hdd.1
    replace hh := hh.ext x0
    replace hdd := hdd.ext x0
    have e0 := x0
    have := f0.1
    refine GoR.box rfl rfl rfl rfl rfl rfl fun h1 x1 f1 => ?_
    have := e0.1
    have := f0.1
    have := hh.1
    have := hdd.1
    replace f0 := f0.ext x1
    replace hh := hh.ext x1
    replace hdd := hdd.ext x1
    replace e0 := e0.trans x1
    have := f1.1
    refine GoR.alloc rfl rfl rfl zt30 rfl rfl fun h2 x2 f2 => ?_
    have := e0.1
    have := f1.1
    have := f0.1
    have := hh.1
    have := hdd.1
    replace f1 := f1.ext x2
    replace f0 := f0.ext x2
    replace hh := hh.ext x2
    replace hdd := hdd.ext x2
    replace e0 := e0.trans x2
    have := f2.1
    refine GoR.end ?_
    iterate 2 refine Go.seq noJ_ok ?_
    refine Go.region noJ_ok rfl ?_
    refine GoR.op rfl rfl (fa114_0 rfl) rfl ?_
    refine GoR.op rfl rfl (ld3 rfl f0 rfl) rfl ?_
    refine GoR.op rfl rfl (ld3 rfl hh rfl) rfl ?_
    refine GoR.op rfl rfl (aOp_neq rfl rfl (r := false) (decide_eq_true hk)) rfl ?_
    refine GoR.end ?_
    refine Go.cond noJ_ok (b := false) rfl ?_
    refine Go.code noJ_ok ?_
    refine Go.seq noJ_ok ?_
    refine Go.region noJ_ok rfl ?_
    refine GoR.op rfl rfl (ld3 rfl hdd rfl) rfl ?_
    refine GoR.op rfl rfl (aOp_indexAddrArr Try.underlying111 sz30 rfl rfl (by simp; omega)) rfl ?_
    refine GoR.op rfl rfl (ld30 rfl f1 (by rw [Nat.zero_add]; exact hsl)) rfl ?_
    refine GoR.store rfl rfl rfl rfl rfl rfl f2 rfl sz30 rfl rfl rfl fun h3 u3 => ?_
    replace f2 := u3.has f2
    replace f1 := f1.upd u3 (by omega)
    replace f0 := f0.upd u3 (by omega)
    replace hh := hh.upd u3 (by omega)
    replace hdd := hdd.upd u3 (by omega)
    replace e0 := e0.upd u3 (by omega)
    refine GoR.end ?_
    exact Go.ret noJ_ok (ret_end (aResult_of Try.func75 rfl (aResults_cell rfl f2 (inCells_agg ag30 sz30 rfl))) ⟨rfl, e0⟩)
  · rw [if_neg hk]
    refine Runs.intro aFunc75 rfl rfl rfl rfl fun rest => ?_
    refine Go.seq noJ_ok ?_
    refine Go.region noJ_ok rfl ?_
    refine GoR.box rfl rfl rfl rfl rfl rfl fun h0 x0 f0 => ?_
    have := hh.1
    have := hdd.1
    replace hh := hh.ext x0
    replace hdd := hdd.ext x0
    have e0 := x0
    have := f0.1
    refine GoR.box rfl rfl rfl rfl rfl rfl fun h1 x1 f1 => ?_
    have := e0.1
    have := f0.1
    have := hh.1
    have := hdd.1
    replace f0 := f0.ext x1
    replace hh := hh.ext x1
    replace hdd := hdd.ext x1
    replace e0 := e0.trans x1
    have := f1.1
    refine GoR.alloc rfl rfl rfl zt30 rfl rfl fun h2 x2 f2 => ?_
    have := e0.1
    have := f1.1
    have := f0.1
    have := hh.1
    have := hdd.1
    replace f1 := f1.ext x2
    replace f0 := f0.ext x2
    replace hh := hh.ext x2
    replace hdd := hdd.ext x2
    replace e0 := e0.trans x2
    have := f2.1
    refine GoR.end ?_
    iterate 2 refine Go.seq noJ_ok ?_
    refine Go.region noJ_ok rfl ?_
    refine GoR.op rfl rfl (fa114_0 rfl) rfl ?_
    refine GoR.op rfl rfl (ld3 rfl f0 rfl) rfl ?_
    refine GoR.op rfl rfl (ld3 rfl hh rfl) rfl ?_
    refine GoR.op rfl rfl (aOp_neq rfl rfl (r := true) (decide_eq_false hk)) rfl ?_
    refine GoR.end ?_
    refine Go.cond noJ_ok (b := true) rfl ?_
    refine Go.seq noJ_ok ?_
    refine Go.region noJ_ok rfl ?_
    refine GoR.call rfl rfl (aOp_callFunc aFunc76 rfl) (join_ok [] .nilslice _ .nil (by decide)) ?_ (by rintro _ _ ⟨q, _⟩; cases q)
    rintro _ h3 ⟨q, x3⟩
    cases q
    refine ⟨_, rfl, ?_⟩
    replace f2 := f2.ext x3
    replace f1 := f1.ext x3
    replace f0 := f0.ext x3
    replace hh := hh.ext x3
    replace hdd := hdd.ext x3
    replace e0 := e0.trans x3
    refine GoR.store rfl rfl rfl rfl rfl rfl f2 rfl sz30 rfl rfl rfl fun h4 u4 => ?_
    replace f2 := u4.has f2
    replace f1 := f1.upd u4 (by omega)
    replace f0 := f0.upd u4 (by omega)
    replace hh := hh.upd u4 (by omega)
    replace hdd := hdd.upd u4 (by omega)
    replace e0 := e0.upd u4 (by omega)
    refine GoR.end ?_
    exact Go.ret noJ_ok (ret_end (aResult_of Try.func75 rfl (aResults_cell rfl f2 (inCells_agg ag30 sz30 rfl))) ⟨rfl, e0⟩)
theorem rain1_ok (k : Int) (fs : List AVal) (hfs : fs.length = 6) (vs : List AVal) (hvs : vs.length = 12) (d : Nat) (n : Int) (hd : fs[d]? = some (.int .i64 n)) (h : AH) {bd : Nat} {g2 : Kd} {t2 : TypeId} (hdd : Has h bd (.cells g2 [.int .i64 d] t2)) :
    Runs Try.prog 77 [.agg (.int .i64 k :: fs), .agg vs, .ptr bd 0] h (fun en h' => en = .ret (.agg (spC (n, n))) ∧ Ext h h') := by
  have := hdd.1
  have hd6 : d < 6 := by rw [← hfs]; exact (List.getElem?_eq_some_iff.1 hd).1
  have hld : ∀ x : AVal, (x :: fs)[0 + 1 + d * 1]? = some (.int .i64 n) := fun x => by rw [show 0 + 1 + d * 1 = d + 1 by omega, List.getElem?_cons_succ]; exact hd
  refine Runs.intro aFunc77 rfl rfl rfl rfl fun rest => ?_
  refine Go.seq noJ_ok ?_
  refine Go.region noJ_ok rfl ?_
  refine GoR.box rfl rfl rfl rfl rfl rfl fun h0 x0 f0 => ?_
  have := hdd.1
  replace hdd := hdd.ext x0
  have e0 := x0
  have := f0.1
  refine GoR.box rfl rfl rfl rfl rfl rfl fun h1 x1 f1 => ?_
  have := e0.1
  have := f0.1
  have := hdd.1
  replace f0 := f0.ext x1
  replace hdd := hdd.ext x1
  replace e0 := e0.trans x1
  have := f1.1
  refine GoR.alloc rfl rfl rfl zt30 rfl rfl fun h2 x2 f2 => ?_
  have := e0.1
  have := f1.1
  have := f0.1
  have := hdd.1
  replace f1 := f1.ext x2
  replace f0 := f0.ext x2
  replace hdd := hdd.ext x2
  replace e0 := e0.trans x2
  have := f2.1
  refine GoR.end ?_
  refine Go.seq noJ_ok ?_
  refine Go.region noJ_ok rfl ?_
  refine GoR.op rfl rfl (ld3 rfl hdd rfl) rfl ?_
  refine GoR.op rfl rfl (fa114_1 rfl) rfl ?_
  refine GoR.op rfl rfl (aOp_indexAddrArr Try.underlying102 sz3 rfl rfl (by simp; omega)) rfl ?_
  refine GoR.op rfl rfl (ld3 rfl f0 (hld _)) rfl ?_
  refine GoR.call rfl rfl (aOp_callFunc aFunc78 rfl) (one_ok n _) ?_ (by rintro _ _ ⟨q, _⟩; cases q)
  rintro _ h3 ⟨q, x3⟩
  cases q
  refine ⟨_, rfl, ?_⟩
  replace f2 := f2.ext x3
  replace f1 := f1.ext x3
  replace f0 := f0.ext x3
  replace hdd := hdd.ext x3
  replace e0 := e0.trans x3
  refine GoR.store rfl rfl rfl rfl rfl rfl f2 rfl sz30 rfl rfl rfl fun h4 u4 => ?_
  replace f2 := u4.has f2
  replace f1 := f1.upd u4 (by omega)
  replace f0 := f0.upd u4 (by omega)
  replace hdd := hdd.upd u4 (by omega)
  replace e0 := e0.upd u4 (by omega)
  refine GoR.end ?_
  exact Go.ret noJ_ok (ret_end (aResult_of Try.func77 rfl (aResults_cell rfl f2 (inCells_agg ag30 sz30 rfl))) ⟨rfl, e0⟩)

theorem joinP_comm (a b : Int × Int) : joinP a b = joinP b a := by
  unfold joinP; ext <;> dsimp only <;> repeat' split
  all_goals omega
theorem joinP_right (a b c : Int × Int) : joinP (joinP a b) c = joinP (joinP a c) b := by
  unfold joinP; ext <;> dsimp only <;> repeat' split
  all_goals omega
theorem foldl_perm {l m : List (Int × Int)} (h : l.Perm m) : ∀ a, l.foldl joinP a = m.foldl joinP a := by
  induction h with
  | nil => intro a; rfl
  | cons x _ ih => intro a; exact ih _
  | swap x y l => intro a; simp only [List.foldl_cons, joinP_right a y x]
  | trans _ _ i1 i2 => intro a; rw [i1, i2]
theorem joinL_perm {l m : List (Int × Int)} (h : l.Perm m) : joinL l = joinL m := foldl_perm h _

structure MapIn (h : AH) (bm : Nat) (es : List AMapE) (clock : Nat) : Prop where
  lt : bm < h.next
  m : mapB h bm = some (es, clock)
  born : ∀ en, en ∈ es → en.born < clock
  dist : es.Pairwise fun a b => a.born ≠ b.born
theorem mapB_same {h h' : AH} {b : Nat} (e : h'.get b = h.get b) : mapB h' b = mapB h b := by unfold mapB; rw [e]
theorem MapIn.ext {h h' : AH} {bm clock : Nat} {es : List AMapE} (k : MapIn h bm es clock) (e : Ext h h') : MapIn h' bm es clock := ⟨Nat.lt_of_lt_of_le k.lt e.1, by rw [mapB_same (e.2 _ k.lt)]; exact k.m, k.born, k.dist⟩

def InSp (p : Int × Int) : Prop := p.1 ≤ 9223372036854775807 ∧ -9223372036854775808 ≤ p.2
theorem joinP_in {a b : Int × Int} (ha : InSp a) (hb : InSp b) : InSp (joinP a b) := by
  unfold InSp joinP at *
  constructor <;> dsimp only <;> split <;> omega
theorem foldl_in {l : List (Int × Int)} : ∀ {a}, InSp a → (∀ p, p ∈ l → InSp p) → InSp (l.foldl joinP a) := by
  induction l with
  | nil => intro a h _; exact h
  | cons x l ih => intro a h k; exact ih (joinP_in h (k x (by simp))) fun p hp => k p (by simp [hp])
theorem noSp_in : InSp noSp := by unfold InSp noSp; omega
theorem joinL_in {l : List (Int × Int)} (k : ∀ p, p ∈ l → InSp p) : InSp (joinL l) := foldl_in noSp_in k
theorem joinP_noSp {a : Int × Int} (ha : InSp a) : joinP noSp a = a := by
  unfold InSp at ha
  unfold joinP noSp
  ext <;> dsimp only <;> split <;> omega
theorem joinL_two {a b : Int × Int} (ha : InSp a) : joinL [a, b] = joinP a b := by
  show joinP (joinP noSp a) b = _
  rw [joinP_noSp ha]

theorem sl2 {h : AH} {b : Nat} {a c : Int × Int} {el : TypeId} (f : Has h b (.cells .plain (spC a ++ spC c) el)) : SliceOf h 2 (.slice b 0 2 2) [spC a, spC c] :=
  SliceOf.mk' rfl rfl f rfl (fun i l hl => by
    match i, hl with
    | 0, hl => cases hl; rfl
    | 1, hl => cases hl; rfl)
theorem six {α : Type} {l : List α} (h : l.length = 6) : ∃ a b c d e f, l = [a, b, c, d, e, f] := by
  match l, h with
  | [a, b, c, d, e, f], _ => exact ⟨a, b, c, d, e, f, rfl⟩

/-- An entry, for a heap and the rains, with how wet the heap can be in each evening. -/
def EntryIs (en : AMapE) (k : Int) (fs : List Int) (vs : List (Int × Int)) : Prop :=
  absV en.key = some (.agg (.int .i64 k :: fs.map (.int .i64))) ∧ en.val = .agg (vs.flatMap spC) ∧ fs.length = 6 ∧ vs.length = 6

theorem spread_ok (h : AH) {bm clock : Nat} {es : List AMapE} (M : MapIn h bm es clock) (m : AMapE → Int × Int) (fid : FuncId) (caps : List AVal) (fn : Func) (hfid : aFunc Try.prog fid = some fn)
    (hkv : ∀ en, en ∈ es → ∃ k fs vs, EntryIs en k fs vs) (hm64 : ∀ en, en ∈ es → InSp (m en))
    (hc : ∀ en kv h', en ∈ es → absV en.key = some kv → Ext h h' → Runs Try.prog fid ([kv, en.val] ++ caps) h' (fun e h'' => e = .ret (.agg (spC (m en))) ∧ Ext h' h'')) :
    Runs Try.prog 74 [.map bm, .agg [.func (.func fid) [] caps]] h (fun en h' => en = .ret (.agg (spC (joinL (es.map m)))) ∧ Ext h h') := by
  refine Runs.intro aFunc74 rfl rfl rfl rfl fun rest => ?_
  refine Go.seq noJ_ok ?_
  refine Go.region noJ_ok rfl ?_
  refine GoR.box rfl rfl rfl rfl rfl rfl fun h0 x0 f0 => ?_
  have e0 := x0
  have := f0.1
  refine GoR.alloc rfl rfl rfl zt30 rfl rfl fun h1 x1 f1 => ?_
  have := e0.1
  have := f0.1
  replace f0 := f0.ext x1
  replace e0 := e0.trans x1
  have := f1.1
  refine GoR.end ?_
  refine Go.seq noJ_ok ?_
  refine Go.region noJ_ok rfl ?_
  refine GoR.call rfl rfl (aOp_callFunc aFunc76 rfl) (join_ok [] .nilslice _ .nil (by decide)) ?_ (by rintro _ _ ⟨q, _⟩; cases q)
  rintro _ h2 ⟨q, x2⟩
  cases q
  refine ⟨_, rfl, ?_⟩
  replace f1 := f1.ext x2
  replace f0 := f0.ext x2
  replace e0 := e0.trans x2
  refine GoR.alloc rfl rfl rfl zt30 rfl rfl fun h3 x3 f3 => ?_
  have := e0.1
  have := f1.1
  have := f0.1
  replace f1 := f1.ext x3
  replace f0 := f0.ext x3
  replace e0 := e0.trans x3
  have := f3.1
  refine GoR.store rfl rfl rfl rfl rfl rfl f3 rfl sz30 rfl rfl rfl fun h4 u4 => ?_
  replace f3 := u4.has f3
  replace f1 := f1.upd u4 (by omega)
  replace f0 := f0.upd u4 (by omega)
  replace e0 := e0.upd u4 (by omega)
  refine GoR.end ?_
  iterate 2 refine Go.seq noJ_ok ?_
  refine Go.region noJ_ok rfl ?_
  refine GoR.op rfl rfl rfl rfl ?_
  have hblt := M.lt
  refine GoR.rangeM rfl rfl rfl Try.underlying76 rfl (M.ext e0).m rfl rfl fun h5 x5 f5 => ?_
  have hn4 := e0.1
  have hl0 := f0.1
  have hl1 := f1.1
  have hl3 := f3.1
  replace f0 := f0.ext x5
  replace f1 := f1.ext x5
  replace f3 := f3.ext x5
  replace e0 := e0.trans x5
  refine GoR.end ?_
  refine Go.block noJ_ok ?_
  refine Go.loopKeep (fun _ : List AMapE × List AMapE => [(3, .ptr h.next 0), (4, .ptr h0.next 0), (5, .ptr h2.next 0), (10, .ptr h4.next 0)])
    (fun n vr h' => vr.2.length = n ∧ (vr.1 ++ vr.2).Perm es ∧ Ext h h' ∧ Has h' h.next (.cells .plain [.func (.func fid) [] caps] 119) ∧ Has h' h0.next (.cells .plain [.int .i64 0, .int .i64 0] 30) ∧
      Has h' h2.next (.cells .plain (spC (joinL (vr.1.map m))) 30) ∧ Has h' h4.next (.iter bm clock (vr.1.map AMapE.born) clock)) (n := es.length) ([], es) ⟨rfl, rfl, rfl, rfl, trivial⟩ ⟨rfl, .refl _, e0, f0, f1, f3, f5⟩ ?_
  clear e0 f0 f1 f3 f5
  rintro n ⟨vs, rs⟩ hh ⟨hn, hperm, e0, f0, f1, f3, f5⟩ again
  dsimp only at hn hperm f3 f5
  have hdist : (vs ++ rs).Pairwise fun a b => a.born ≠ b.born := (hperm.symm.pairwise_iff (fun h => h.symm)).1 M.dist
  refine Go.seq noJ_ok ?_
  refine Go.beginR rfl (Go.nextM rfl rfl f5 (M.ext e0).m M.born M.born (fun en hen => by obtain ⟨k, fs, ws, q, _⟩ := hkv en hen; exact ⟨_, q⟩) (fun hall => Go.inRegion noJ_ok ?_) (fun en kv hen hnew hk h6 u6 => Go.inRegion noJ_ok ?_))
  · have hrs : rs = [] := by
      cases rs with
      | nil => rfl
      | cons x rs =>
        exfalso
        have hx : x ∈ es := hperm.mem_iff.1 (by simp)
        obtain ⟨y, hy, hyb⟩ := List.mem_map.1 (hall x hx)
        rw [List.pairwise_append] at hdist
        exact hdist.2.2 y hy x (by simp) hyb
    subst hrs
    rw [List.append_nil] at hperm
    have hj : joinL (vs.map m) = joinL (es.map m) := joinL_perm (hperm.map m)
    rw [hj] at f3
    refine GoR.op rfl rfl rfl rfl ?_
    refine GoR.end ?_
    refine Go.seq noJ_ok ?_
    refine Go.cond noJ_ok (b := false) rfl ?_
    refine Go.code noJ_ok ?_
    refine Go.seq noJ_ok ?_
    refine Go.region noJ_ok rfl ?_
    refine GoR.op rfl rfl (ld30 rfl f3 rfl) rfl ?_
    refine GoR.store rfl rfl rfl rfl rfl rfl f1 rfl sz30 rfl rfl rfl fun h6 u6 => ?_
    replace f0 := f0.upd u6 (by omega)
    replace f1 := u6.has f1
    replace f3 := f3.upd u6 (by omega)
    replace f5 := f5.upd u6 (by omega)
    replace e0 := e0.upd u6 (by omega)
    refine GoR.end ?_
    exact Go.ret noJ_ok (ret_end (aResult_of Try.func74 rfl (aResults_cell rfl f1 (inCells_agg ag30 sz30 rfl))) ⟨rfl, e0⟩)
  · have hmem : en ∈ rs := by
      rcases List.mem_append.1 (hperm.mem_iff.2 hen) with q | q
      · exact absurd (List.mem_map.2 ⟨en, q, rfl⟩) hnew
      · exact q
    obtain ⟨ra, rb, rfl⟩ := List.append_of_mem hmem
    have hj : joinL ((vs ++ [en]).map m) = joinP (joinL (vs.map m)) (m en) := by simp [joinL]
    have hj2 : joinL [joinL (vs.map m), m en] = joinL ((vs ++ [en]).map m) := by
      rw [hj]
      refine joinL_two (joinL_in fun p hp => ?_)
      obtain ⟨x, hx, rfl⟩ := List.mem_map.1 hp
      exact hm64 x (hperm.mem_iff.1 (by simp [hx]))
    obtain ⟨k, fs, ws, hE1, hE2, hE3, hE4⟩ := hkv en hen
    have hc' := fun h' => hc en kv h' hen hk
    replace f5 := u6.has f5
    replace f0 := f0.upd u6 (by omega)
    replace f1 := f1.upd u6 (by omega)
    replace f3 := f3.upd u6 (by omega)
    replace e0 := e0.upd u6 (by omega)
    have hMe := (M.ext e0).m
    rw [hk] at hE1
    cases hE1
    rw [hE2] at hc'
    obtain ⟨a1, a2, a3, a4, a5, a6, rfl⟩ := six hE3
    obtain ⟨b1, b2, b3, b4, b5, b6, rfl⟩ := six hE4
    refine GoR.op rfl rfl rfl rfl ?_
    refine GoR.end ?_
    refine Go.seq noJ_ok ?_
    refine Go.cond noJ_ok (b := true) rfl ?_
    refine Go.code noJ_ok ?_
    refine Go.block noJ_ok ?_
    refine Go.seq noJ_ok ?_
    refine Go.region noJ_ok rfl ?_
    refine GoR.op rfl rfl ((aOp_entry rfl f5 hMe hen M.dist hk).trans (by rw [hE2])) rfl ?_
    iterate 2 refine GoR.op rfl rfl rfl rfl ?_
    refine GoR.alloc rfl rfl rfl zt114 rfl rfl fun h7 x7 f7 => ?_
    have := e0.1
    have := f5.1
    have := f0.1
    have := f1.1
    have := f3.1
    replace f5 := f5.ext x7
    replace f0 := f0.ext x7
    replace f1 := f1.ext x7
    replace f3 := f3.ext x7
    replace e0 := e0.trans x7
    have := f7.1
    refine GoR.alloc rfl rfl rfl zt111 rfl rfl fun h8 x8 f8 => ?_
    have := e0.1
    have := f7.1
    have := f5.1
    have := f0.1
    have := f1.1
    have := f3.1
    replace f7 := f7.ext x8
    replace f5 := f5.ext x8
    replace f0 := f0.ext x8
    replace f1 := f1.ext x8
    replace f3 := f3.ext x8
    replace e0 := e0.trans x8
    have := f8.1
    refine GoR.store rfl rfl rfl rfl rfl rfl f7 rfl sz114 rfl rfl rfl fun h9 u9 => ?_
    replace f8 := f8.upd u9 (by omega)
    replace f7 := u9.has f7
    replace f5 := f5.upd u9 (by omega)
    replace f0 := f0.upd u9 (by omega)
    replace f1 := f1.upd u9 (by omega)
    replace f3 := f3.upd u9 (by omega)
    replace e0 := e0.upd u9 (by omega)
    refine GoR.store rfl rfl rfl rfl rfl rfl f8 rfl sz111 rfl rfl rfl fun h10 u10 => ?_
    replace f8 := u10.has f8
    replace f7 := f7.upd u10 (by omega)
    replace f5 := f5.upd u10 (by omega)
    replace f0 := f0.upd u10 (by omega)
    replace f1 := f1.upd u10 (by omega)
    replace f3 := f3.upd u10 (by omega)
    replace e0 := e0.upd u10 (by omega)
    refine GoR.end ?_
    refine Go.drawnE plan74_0 ?_
    refine GoE.quiet rfl rfl (ld30 rfl f3 rfl) rfl ?_
    refine GoE.quiet rfl rfl (fa119_0 rfl) rfl ?_
    refine GoE.quiet rfl rfl (ld117 rfl f0 rfl) rfl ?_
    refine GoE.quiet rfl rfl (ld114 rfl f7 rfl) rfl ?_
    refine GoE.quiet rfl rfl (ld111 rfl f8 rfl) rfl ?_
    refine GoE.call rfl rfl (aOp_callVal rfl hfid rfl) (hc' _ e0) (dropF_drop (show bit? 30 4 = true from rfl) (dropF_drop (show bit? 30 3 = true from rfl) (dropF_drop (show bit? 30 2 = true from rfl) (dropF_drop (show bit? 30 1 = true from rfl) (dropF_keep (show bit? 30 0 = false from rfl) rfl))))) ?_ (by rintro _ _ ⟨q, _⟩; cases q)
    rintro _ h11 ⟨q, x11⟩
    cases q
    replace f8 := f8.ext x11
    replace f7 := f7.ext x11
    replace f5 := f5.ext x11
    replace f0 := f0.ext x11
    replace f1 := f1.ext x11
    replace f3 := f3.ext x11
    replace e0 := e0.trans x11
    refine ⟨(recheck_cons (h2 := h11) rfl (ld30 rfl f3 rfl) (by first | rfl | exact sameA_int _ _ | exact sameA_bool _ | exact sameA_agg2 _ _ | assumption | (simp [sameA, sameAs, eqI_eq]; done)) recheck_nil), _, rfl, ?_⟩
    refine GoE.buildSl rfl rfl (ps := [(0, .agg (spC (joinL (vs.map m)))), (1, .agg (spC (m en)))]) (cs := spC (joinL (vs.map m)) ++ spC (m en)) Try.underlying23 rfl sz30 zt30 rfl rfl rfl (dropF_drop (show bit? 63 0 = true from rfl) rfl) rfl fun h12 x12 f12 => ?_
    have := e0.1
    have := f8.1
    have := f7.1
    have := f5.1
    have := f0.1
    have := f1.1
    have := f3.1
    replace f8 := f8.ext x12
    replace f7 := f7.ext x12
    replace f5 := f5.ext x12
    replace f0 := f0.ext x12
    replace f1 := f1.ext x12
    replace f3 := f3.ext x12
    replace e0 := e0.trans x12
    have := f12.1
    refine ⟨recheck_nil, ?_⟩
    refine GoE.call rfl rfl (aOp_callFunc aFunc76 rfl) (join_ok [joinL (vs.map m), m en] _ _ (sl2 (by assumption)) (by simp)) rfl ?_ (by rintro _ _ ⟨q, _⟩; cases q)
    rintro _ h13 ⟨q, x13⟩
    cases q
    replace f12 := f12.ext x13
    replace f8 := f8.ext x13
    replace f7 := f7.ext x13
    replace f5 := f5.ext x13
    replace f0 := f0.ext x13
    replace f1 := f1.ext x13
    replace f3 := f3.ext x13
    replace e0 := e0.trans x13
    refine ⟨recheck_nil, _, rfl, ?_⟩
    refine GoE.store rfl rfl rfl rfl rfl rfl rfl f3 rfl sz30 rfl rfl rfl fun h14 u14 => ?_
    replace f12 := f12.upd u14 (by omega)
    replace f8 := f8.upd u14 (by omega)
    replace f7 := f7.upd u14 (by omega)
    replace f5 := f5.upd u14 (by omega)
    replace f0 := f0.upd u14 (by omega)
    replace f1 := f1.upd u14 (by omega)
    replace f3 := u14.has f3
    replace e0 := e0.upd u14 (by omega)
    refine ⟨recheck_nil, ?_⟩
    refine GoE.end rfl ?_
    refine Go.inBlock noJ_ok ?_
    rw [hj2] at f3
    exact again (n - 1) (vs ++ [en], ra ++ rb) _ _ (by simp at hn; omega) ⟨rfl, rfl, rfl, rfl, trivial⟩ ⟨by simp at hn ⊢; omega, (by
      refine List.Perm.trans ?_ hperm
      simp only [List.append_assoc, List.singleton_append]
      exact List.Perm.append_left _ List.perm_middle.symm), e0, f0, f1, f3, by simpa using f5⟩

/-- The wetness of a heap in the evening of a day, of all entries. -/
noncomputable def wetM (f : AMapE → Int × List Int × List (Int × Int)) (hp : Int) (d : Nat) (en : AMapE) : Int × Int := if (f en).1 = hp then ((f en).2.2[d]?).getD noSp else noSp
noncomputable def rainM (f : AMapE → Int × List Int × List (Int × Int)) (d : Nat) (en : AMapE) : Int × Int := (((f en).2.1[d]?).getD 0, ((f en).2.1[d]?).getD 0)

def I64 (n : Int) : Prop := -9223372036854775808 ≤ n ∧ n ≤ 9223372036854775807
/-- A map of entries, all of whose numbers are small. -/
structure Known (h : AH) (bm : Nat) (es : List AMapE) (clock : Nat) (f : AMapE → Int × List Int × List (Int × Int)) : Prop where
  M : MapIn h bm es clock
  E : ∀ en, en ∈ es → EntryIs en (f en).1 (f en).2.1 (f en).2.2
  R : ∀ en, en ∈ es → ∀ n, n ∈ (f en).2.1 → I64 n
  S : ∀ en, en ∈ es → ∀ p, p ∈ (f en).2.2 → InSp p

theorem wet_ok {h : AH} {bm clock : Nat} {es : List AMapE} {f : AMapE → Int × List Int × List (Int × Int)} (K : Known h bm es clock f) (hp : Int) (d : Nat) (hd : d < 6) :
    Runs Try.prog 39 [.map bm, .int .i64 hp, .int .i64 d] h (fun en h' => en = .ret (.agg (spC (joinL (es.map (wetM f hp d))))) ∧ Ext h h') := by
  have hb := K.M.lt
  obtain ⟨fs119, hu119, pl119⟩ := flds119
  have hin : ∀ en, en ∈ es → InSp (wetM f hp d en) := by
    intro en hen
    unfold wetM
    split
    · cases q : (f en).2.2[d]? with
      | none => exact noSp_in
      | some p => exact K.S en hen p (List.mem_of_getElem? q)
    · exact noSp_in
  refine Runs.intro aFunc39 rfl rfl rfl rfl fun rest => ?_
  refine Go.seq noJ_ok ?_
  refine Go.region noJ_ok rfl ?_
  refine GoR.box rfl rfl rfl rfl rfl rfl fun h0 x0 f0 => ?_
  have e0 := x0
  have := f0.1
  refine GoR.box rfl rfl rfl rfl rfl rfl fun h1 x1 f1 => ?_
  have := e0.1
  have := f0.1
  replace f0 := f0.ext x1
  replace e0 := e0.trans x1
  have := f1.1
  refine GoR.alloc rfl rfl rfl zt30 rfl rfl fun h2 x2 f2 => ?_
  have := e0.1
  have := f1.1
  have := f0.1
  replace f1 := f1.ext x2
  replace f0 := f0.ext x2
  replace e0 := e0.trans x2
  have := f2.1
  refine GoR.end ?_
  refine Go.seq noJ_ok ?_
  refine Go.region noJ_ok rfl ?_
  iterate 2 refine GoR.op rfl rfl rfl rfl ?_
  refine GoR.op rfl rfl (aOp_build (ps := [(0, .func (.func 75) [] [.ptr h.next 0, .ptr h0.next 0])]) (cs := [.func (.func 75) [] [.ptr h.next 0, .ptr h0.next 0]]) zt119 hu119 pl119 rfl rfl) rfl ?_
  refine GoR.call rfl rfl (aOp_callFunc aFunc74 rfl) (spread_ok _ (K.M.ext e0) (wetM f hp d) 75 [.ptr h.next 0, .ptr h0.next 0] _ aFunc75 (fun en hen => ⟨_, _, _, K.E en hen⟩) hin (fun en kv h' hen hk ex => ?_)) ?_ (by rintro _ _ ⟨q, _⟩; cases q)
  · obtain ⟨E1, E2, E3, E4⟩ := K.E en hen
    rw [hk] at E1
    cases E1
    rw [E2]
    have hget : (f en).2.2[d]? = some ((f en).2.2[d]'(by omega)) := by simp
    have := wet1_ok (f en).1 ((f en).2.1.map (.int .i64)) (by simpa using E3) (f en).2.2 E4 hp d hget h' (f0.ext ex) (f1.ext ex)
    unfold wetM
    rw [hget]
    exact this
  · rintro _ h9 ⟨q, x9⟩
    cases q
    refine ⟨_, rfl, ?_⟩
    replace f0 := f0.ext x9
    replace f1 := f1.ext x9
    replace f2 := f2.ext x9
    replace e0 := e0.trans x9
    refine GoR.store rfl rfl rfl rfl rfl rfl f2 rfl sz30 rfl rfl rfl fun h10 u10 => ?_
    replace f0 := f0.upd u10 (by omega)
    replace f1 := f1.upd u10 (by omega)
    replace f2 := u10.has f2
    replace e0 := e0.upd u10 (by omega)
    refine GoR.end ?_
    exact Go.ret noJ_ok (ret_end (aResult_of Try.func39 rfl (aResults_cell rfl f2 (inCells_agg ag30 sz30 rfl))) ⟨rfl, e0⟩)

theorem rain_ok {h : AH} {bm clock : Nat} {es : List AMapE} {f : AMapE → Int × List Int × List (Int × Int)} (K : Known h bm es clock f) (d : Nat) (hd : d < 6) :
    Runs Try.prog 41 [.map bm, .int .i64 d] h (fun en h' => en = .ret (.agg (spC (joinL (es.map (rainM f d))))) ∧ Ext h h') := by
  have hb := K.M.lt
  obtain ⟨fs119, hu119, pl119⟩ := flds119
  have hget : ∀ en, en ∈ es → (f en).2.1[d]? = some ((f en).2.1[d]?.getD 0) := fun en hen => by
    obtain ⟨E1, E2, E3, E4⟩ := K.E en hen
    have : (f en).2.1[d]? = some ((f en).2.1[d]'(by omega)) := by simp
    rw [this]
    rfl
  have hin : ∀ en, en ∈ es → InSp (rainM f d en) := by
    intro en hen
    have := K.R en hen _ (List.mem_of_getElem? (hget en hen))
    exact ⟨this.2, this.1⟩
  refine Runs.intro aFunc41 rfl rfl rfl rfl fun rest => ?_
  refine Go.seq noJ_ok ?_
  refine Go.region noJ_ok rfl ?_
  refine GoR.box rfl rfl rfl rfl rfl rfl fun h0 x0 f0 => ?_
  have e0 := x0
  have := f0.1
  refine GoR.alloc rfl rfl rfl zt30 rfl rfl fun h1 x1 f1 => ?_
  have := e0.1
  have := f0.1
  replace f0 := f0.ext x1
  replace e0 := e0.trans x1
  have := f1.1
  refine GoR.end ?_
  refine Go.seq noJ_ok ?_
  refine Go.region noJ_ok rfl ?_
  iterate 2 refine GoR.op rfl rfl rfl rfl ?_
  refine GoR.op rfl rfl (aOp_build (ps := [(0, .func (.func 77) [] [.ptr h.next 0])]) (cs := [.func (.func 77) [] [.ptr h.next 0]]) zt119 hu119 pl119 rfl rfl) rfl ?_
  refine GoR.call rfl rfl (aOp_callFunc aFunc74 rfl) (spread_ok _ (K.M.ext e0) (rainM f d) 77 [.ptr h.next 0] _ aFunc77 (fun en hen => ⟨_, _, _, K.E en hen⟩) hin (fun en kv h' hen hk ex => ?_)) ?_ (by rintro _ _ ⟨q, _⟩; cases q)
  · obtain ⟨E1, E2, E3, E4⟩ := K.E en hen
    rw [hk] at E1
    cases E1
    rw [E2]
    refine rain1_ok (f en).1 ((f en).2.1.map (.int .i64)) (by simpa using E3) ((f en).2.2.flatMap spC) ?_ d ((f en).2.1[d]?.getD 0) ?_ h' (f0.ext ex)
    · obtain ⟨b1, b2, b3, b4, b5, b6, q⟩ := six E4
      rw [q]
      rfl
    · rw [List.getElem?_map, hget en hen]
      rfl
  · rintro _ h9 ⟨q, x9⟩
    cases q
    refine ⟨_, rfl, ?_⟩
    replace f0 := f0.ext x9
    replace f1 := f1.ext x9
    replace e0 := e0.trans x9
    refine GoR.store rfl rfl rfl rfl rfl rfl f1 rfl sz30 rfl rfl rfl fun h10 u10 => ?_
    replace f0 := f0.upd u10 (by omega)
    replace f1 := u10.has f1
    replace e0 := e0.upd u10 (by omega)
    refine GoR.end ?_
    exact Go.ret noJ_ok (ret_end (aResult_of Try.func41 rfl (aResults_cell rfl f1 (inCells_agg ag30 sz30 rfl))) ⟨rfl, e0⟩)
end Go.Proofs.Ytmdheijpnlonoaa

namespace Go.Proofs.Ytmdheijpnlonoaa
open Go Go.AbsE
/-! How wet heaps are by what is known, as calls that are known. -/
noncomputable def toInts : List AVal → Option (List Int)
  | [] => some []
  | .int .i64 n :: l => match toInts l with | some r => some (n :: r) | none => none
  | _ => none
noncomputable def toSps : List AVal → Option (List (Int × Int))
  | [] => some []
  | .int .i64 a :: .int .i64 b :: l => match toSps l with | some r => some ((a, b) :: r) | none => none
  | _ => none
noncomputable def intIn (n : Int) : Bool := match n with | .ofNat m => Nat.ble m 9223372036854775807 | .negSucc m => Nat.ble m 9223372036854775807
noncomputable def allB {α : Type} (f : α → Bool) : List α → Bool
  | [] => true
  | a :: l => cond (f a) (allB f l) false
noncomputable def decE (en : AMapE) : Option (Int × List Int × List (Int × Int)) :=
  match absV en.key, en.val with
  | some (.agg (.int .i64 k :: l)), .agg cs => match toInts l, toSps cs with
    | some fs, some vs => cond (Nat.beq fs.length 6) (cond (Nat.beq vs.length 6) (cond (allB intIn fs) (cond (allB (fun p => cond (intIn p.1) (intIn p.2) false) vs) (some (k, fs, vs)) none) none) none) none
    | _, _ => none
  | _, _ => none
noncomputable def decF (en : AMapE) : Int × List Int × List (Int × Int) := (decE en).getD default
noncomputable def freshB (n : Nat) : List AMapE → Bool
  | [] => true
  | e :: l => cond (Nat.beq e.born n) false (freshB n l)
noncomputable def goodM (clock : Nat) : List AMapE → Bool
  | [] => true
  | e :: l => cond (Nat.blt e.born clock) (cond (freshB e.born l) (cond (decE e).isSome (goodM clock l) false) false) false

noncomputable def jwRun (f : FuncId) (args : List AVal) (h : AH) : Option AVal :=
  cond (Nat.beq f 39)
    (match args with
      | [.map b, .int .i64 hp, .int .i64 (.ofNat d)] => match mapB h b with
        | some (es, clock) => cond (goodM clock es) (cond (Nat.blt d 6) (cond (Nat.blt b h.next) (some (.agg (spC (joinL (es.map (wetM decF hp d)))))) none) none) none
        | none => none
      | _ => none)
    (cond (Nat.beq f 41)
      (match args with
        | [.map b, .int .i64 (.ofNat d)] => match mapB h b with
          | some (es, clock) => cond (goodM clock es) (cond (Nat.blt d 6) (cond (Nat.blt b h.next) (some (.agg (spC (joinL (es.map (rainM decF d)))))) none) none) none
          | none => none
        | _ => none) none)
noncomputable def JW : Jump := ⟨jwRun⟩

theorem toInts_ok : ∀ {l : List AVal} {r : List Int}, toInts l = some r → l = r.map (.int .i64)
  | [], r, h => by cases h; rfl
  | a :: l, r, h => by
    unfold toInts at h
    split at h
    · rename_i heq; cases heq
    · rename_i n l' heq
      cases heq
      split at h
      · rename_i r' hr
        cases h
        rw [toInts_ok hr]; rfl
      · cases h
    · cases h
theorem toSps_ok : ∀ (n : Nat) {l : List AVal} {r : List (Int × Int)}, l.length ≤ n → toSps l = some r → l = r.flatMap spC
  | 0, l, r, hn, h => by
    have : l = [] := List.eq_nil_of_length_eq_zero (by omega)
    subst this
    cases h; rfl
  | n + 1, l, r, hn, h => by
    unfold toSps at h
    split at h
    · cases h; rfl
    · rename_i a b l' 
      split at h
      · rename_i r' hr
        cases h
        rw [toSps_ok n (by simp at hn; omega) hr]; rfl
      · cases h
    · cases h
theorem intIn_ok {n : Int} (h : intIn n = true) : I64 n := by
  unfold intIn at h
  unfold I64
  split at h
  · have := Nat.le_of_ble_eq_true h
    simp only [Int.ofNat_eq_natCast]
    omega
  · have := Nat.le_of_ble_eq_true h
    omega
theorem allB_ok {α : Type} {f : α → Bool} : ∀ {l : List α}, allB f l = true → ∀ a, a ∈ l → f a = true
  | [], _, a, h => by cases h
  | x :: l, h, a, ha => by
    unfold allB at h
    cases hx : f x with
    | false => rw [hx] at h; cases h
    | true =>
      rw [hx] at h
      rcases List.mem_cons.1 ha with rfl | ha
      · exact hx
      · exact allB_ok h a ha
theorem decE_ok {en : AMapE} {x : Int × List Int × List (Int × Int)} (h : decE en = some x) : EntryIs en x.1 x.2.1 x.2.2 ∧ (∀ n, n ∈ x.2.1 → I64 n) ∧ ∀ p, p ∈ x.2.2 → InSp p := by
  unfold decE at h
  split at h
  · rename_i k l cs hk hv
    split at h
    · rename_i fs vs h1 h2
      cases a1 : Nat.beq fs.length 6 <;> rw [a1] at h <;> first | (cases h; done) | skip
      cases a2 : Nat.beq vs.length 6 <;> rw [a2] at h <;> first | (cases h; done) | skip
      cases a3 : allB intIn fs <;> rw [a3] at h <;> first | (cases h; done) | skip
      cases a4 : allB (fun p : Int × Int => cond (intIn p.1) (intIn p.2) false) vs <;> rw [a4] at h <;> first | (cases h; done) | skip
      cases h
      refine ⟨⟨by rw [hk, toInts_ok h1], by rw [hv, toSps_ok _ (Nat.le_refl _) h2], Nat.eq_of_beq_eq_true a1, Nat.eq_of_beq_eq_true a2⟩, fun n hn => intIn_ok (allB_ok a3 n hn), fun p hp => ?_⟩
      have := allB_ok a4 p hp
      cases q : intIn p.1 with
      | false => rw [q] at this; cases this
      | true =>
        rw [q] at this
        exact ⟨(intIn_ok q).2, (intIn_ok this).1⟩
    · cases h
  · cases h
theorem freshB_ok {n : Nat} : ∀ {l : List AMapE}, freshB n l = true → ∀ a, a ∈ l → n ≠ a.born
  | [], _, a, h => by cases h
  | x :: l, h, a, ha => by
    unfold freshB at h
    cases hx : Nat.beq x.born n with
    | true => rw [hx] at h; cases h
    | false =>
      rw [hx] at h
      rcases List.mem_cons.1 ha with rfl | ha
      · exact fun q => by rw [q, Nat.beq_refl] at hx; cases hx
      · exact freshB_ok h a ha
theorem goodM_ok {clock : Nat} : ∀ {l : List AMapE}, goodM clock l = true → (∀ en, en ∈ l → en.born < clock ∧ (decE en).isSome = true) ∧ l.Pairwise fun a b => a.born ≠ b.born
  | [], _ => ⟨fun _ h => (by cases h), List.Pairwise.nil⟩
  | x :: l, h => by
    unfold goodM at h
    cases a1 : Nat.blt x.born clock <;> rw [a1] at h <;> first | (cases h; done) | skip
    cases a2 : freshB x.born l <;> rw [a2] at h <;> first | (cases h; done) | skip
    cases a3 : (decE x).isSome <;> rw [a3] at h <;> first | (cases h; done) | skip
    obtain ⟨q1, q2⟩ := goodM_ok h
    refine ⟨fun en hen => ?_, List.pairwise_cons.2 ⟨fun b hb => freshB_ok a2 b hb, q2⟩⟩
    rcases List.mem_cons.1 hen with rfl | hen
    · exact ⟨blt_true a1, a3⟩
    · exact q1 en hen
theorem known_of {h : AH} {b clock : Nat} {es : List AMapE} (hb : b < h.next) (hm : mapB h b = some (es, clock)) (hg : goodM clock es = true) : Known h b es clock decF := by
  obtain ⟨q1, q2⟩ := goodM_ok hg
  have hd : ∀ en, en ∈ es → decE en = some (decF en) := fun en hen => by
    have := (q1 en hen).2
    unfold decF
    cases q : decE en with
    | none => rw [q] at this; cases this
    | some x => rfl
  exact ⟨⟨hb, hm, fun en hen => (q1 en hen).1, q2⟩, fun en hen => (decE_ok (hd en hen)).1, fun en hen => (decE_ok (hd en hen)).2.1, fun en hen => (decE_ok (hd en hen)).2.2⟩

/-- A memory with one map, which is only read. -/
noncomputable def oneMap (n b : Nat) (es : List AMapE) (clock : Nat) : AH := ⟨Tr.leaf.put (pth b) (some (.romap es clock)), n⟩
theorem oneMap_get {n b : Nat} {es : List AMapE} {clock : Nat} (b' : Nat) : (oneMap n b es clock).get b' = if b = b' then some (.romap es clock) else none := by
  show (Tr.put _ _ _).get (pth b') = _
  rw [Tr.get_put _ _ (pth_ok' _)]
  by_cases h : b = b'
  · rw [if_pos h, if_pos (by rw [h])]
  · rw [if_neg h, if_neg (fun q => h (pth_inj' q)), Tr.get_leaf]
theorem JW_ok : JOk Try.prog JW := by
  refine JOk.ofRuns fun f args h v hv => ?_
  change jwRun f args h = some v at hv
  unfold jwRun at hv
  have key : ∀ {b es clock}, mapB h b = some (es, clock) → goodM clock es = true → b < h.next → Known (oneMap h.next b es clock) b es clock decF ∧ (∀ b' o, (oneMap h.next b es clock).get b' = some o → ∃ es' c, o = .romap es' c ∧ mapB h b' = some (es', c)) := by
    intro b es clock h1 h2 h3
    refine ⟨known_of (by exact h3) (by unfold mapB; rw [oneMap_get, if_pos rfl]) h2, fun b' o q => ?_⟩
    rw [oneMap_get] at q
    by_cases hb : b = b'
    · rw [if_pos hb] at q
      cases q
      subst hb
      exact ⟨es, clock, rfl, h1⟩
    · rw [if_neg hb] at q; cases q
  cases a1 : Nat.beq f 39 with
  | true =>
    rw [a1, cond_true] at hv
    have := Nat.eq_of_beq_eq_true a1
    subst this
    split at hv
    · rename_i b hp d
      split at hv
      · rename_i es clock hm
        cases b1 : goodM clock es <;> rw [b1] at hv <;> first | (cases hv; done) | skip
        cases b2 : Nat.blt d 6 <;> rw [b2] at hv <;> first | (cases hv; done) | skip
        cases b3 : Nat.blt b h.next <;> rw [b3] at hv <;> first | (cases hv; done) | skip
        cases hv
        obtain ⟨k1, k2⟩ := key hm b1 (blt_true b3)
        exact ⟨rfl, oneMap h.next b es clock, rfl, k2, (wet_ok k1 hp d (blt_true b2)).mono fun en h' q => q.1⟩
      · cases hv
    · cases hv
  | false =>
    rw [a1, cond_false] at hv
    cases a2 : Nat.beq f 41 with
    | false => rw [a2] at hv; cases hv
    | true =>
      rw [a2, cond_true] at hv
      have := Nat.eq_of_beq_eq_true a2
      subst this
      split at hv
      · rename_i b d
        split at hv
        · rename_i es clock hm
          cases b1 : goodM clock es <;> rw [b1] at hv <;> first | (cases hv; done) | skip
          cases b2 : Nat.blt d 6 <;> rw [b2] at hv <;> first | (cases hv; done) | skip
          cases b3 : Nat.blt b h.next <;> rw [b3] at hv <;> first | (cases hv; done) | skip
          cases hv
          obtain ⟨k1, k2⟩ := key hm b1 (blt_true b3)
          exact ⟨rfl, oneMap h.next b es clock, rfl, k2, (rain_ok k1 d (blt_true b2)).mono fun en h' q => q.1⟩
        · cases hv
      · cases hv
end Go.Proofs.Ytmdheijpnlonoaa
