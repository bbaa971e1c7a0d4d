import Derived.Test.YtidfcmjlfadieaaRA
set_option linter.unusedSimpArgs false
namespace Go.AbsE
open Go

/-! Loops, slices, append. -/

/-- Some temporaries, and no others. -/
noncomputable def keepT : List (Nat × AVal) → Tr AVal
  | [] => .leaf
  | (d, v) :: l => (keepT l).put (pth d) (some v)

def keepOk (t : Tr AVal) : List (Nat × AVal) → Prop
  | [] => True
  | (d, v) :: l => t.get (pth d) = some v ∧ keepOk t l

theorem keepT_sub {t : Tr AVal} : ∀ {l : List (Nat × AVal)}, keepOk t l → ∀ (x : Nat) a, (keepT l).get (pth x) = some a → t.get (pth x) = some a := by
  intro l
  induction l with
  | nil => intro _ x a q; rw [show keepT [] = .leaf from rfl, Tr.get_leaf] at q; cases q
  | cons p l ih =>
    obtain ⟨d, v⟩ := p
    intro ⟨h1, h2⟩ x a q
    rw [show keepT ((d, v) :: l) = (keepT l).put (pth d) (some v) from rfl, Tr.get_put _ _ (pth_ok' _)] at q
    by_cases hp : pth d = pth x
    · rw [if_pos hp] at q; cases q; rw [← hp]; exact h1
    · rw [if_neg hp] at q; exact ih h2 x a q

theorem loadCells_same {h h' : AH} {b : Nat} (e : h'.get b = h.get b) (off n : Nat) : loadCells h' b off n = loadCells h b off n := by
  unfold loadCells
  rw [e]
theorem slice?_len {α : Type} {l r : List α} {off n : Nat} (h : slice? l off n = some r) : r.length = n := by
  unfold slice? at h
  dsimp only at h
  cases hq : Nat.beq ((l.drop off).take n).length n with
  | false => rw [hq] at h; cases h
  | true => rw [hq] at h; cases h; exact Nat.eq_of_beq_eq_true hq
theorem slice?_val {α : Type} {l r : List α} {off n : Nat} (h : slice? l off n = some r) : r = (l.drop off).take n := by
  unfold slice? at h
  dsimp only at h
  cases hq : Nat.beq ((l.drop off).take n).length n with
  | false => rw [hq] at h; cases h
  | true => rw [hq] at h; cases h; rfl
theorem slice?_part {α : Type} {l r : List α} {off n k m : Nat} (h : slice? l off n = some r) (hk : k + m ≤ n) : slice? l (off + k) m = some ((r.drop k).take m) := by
  have h1 := slice?_len h
  have h2 := slice?_val h
  have e : (r.drop k).take m = (l.drop (off + k)).take m := by
    rw [h2, List.drop_take, List.drop_drop, List.take_take, Nat.min_eq_left (by omega)]
  unfold slice?
  dsimp only
  rw [← e]
  have : Nat.beq ((r.drop k).take m).length m = true := by
    rw [List.length_take, List.length_drop, h1]
    have : min m (n - k) = m := by omega
    rw [this]
    simp
  rw [this]
  rfl
theorem loadCells_part {h : AH} {b off n k m : Nat} {r : List AVal} (q : loadCells h b off n = some r) (hk : k + m ≤ n) : loadCells h b (off + k) m = some ((r.drop k).take m) := by
  unfold loadCells at q ⊢
  split at q
  · exact slice?_part q hk
  · rename_i lo cs hb
    cases hle : Nat.ble lo off with
    | false => rw [hle] at q; cases q
    | true =>
      rw [hle] at q
      have hle2 := Nat.le_of_ble_eq_true hle
      have := slice?_part q hk
      rw [show off - lo + k = off + k - lo by omega] at this
      rw [show Nat.ble lo (off + k) = true from Nat.ble_eq_true_of_le (by omega)]
      exact this
  · cases q
theorem loadCells_len {h : AH} {b off n : Nat} {r : List AVal} (q : loadCells h b off n = some r) : r.length = n := by
  unfold loadCells at q
  split at q
  · exact slice?_len q
  · rename_i lo cs hb
    cases hle : Nat.ble lo off with
    | false => rw [hle] at q; cases q
    | true => rw [hle] at q; exact slice?_len q
  · cases q

/-- Some cells, where they are. -/
def CellsAt (h : AH) (b o n : Nat) (l : List AVal) : Prop := b < h.next ∧ loadCells h b o n = some l
theorem CellsAt.ext {h h' : AH} {b o n : Nat} {l : List AVal} (k : CellsAt h b o n l) (e : Ext h h') : CellsAt h' b o n l := ⟨Nat.lt_of_lt_of_le k.1 e.1, by rw [loadCells_same (e.2 b k.1)]; exact k.2⟩

/-- A slice whose elements are known, each as so many cells. -/
inductive SliceOf (h : AH) (sz : Nat) : AVal → List (List AVal) → Prop
  | nil : SliceOf h sz .nilslice []
  | mk {s b off len L} (hs : aSlElems s = some (b, off, len)) (hn : lenA s = some len) (hb : b < h.next) (hl : L.length = len) (hz : ∀ l, l ∈ L → l.length = sz) (hc : loadCells h b off (L.length * sz) = some L.flatten) : SliceOf h sz s L

theorem SliceOf.ext {h h' : AH} {sz : Nat} {s : AVal} {L : List (List AVal)} (k : SliceOf h sz s L) (e : Ext h h') : SliceOf h' sz s L := by
  cases k with
  | nil => exact .nil
  | mk hs hn hb hl hz hc => exact .mk hs hn (Nat.lt_of_lt_of_le hb e.1) hl hz (by rw [loadCells_same (e.2 _ hb)]; exact hc)

theorem SliceOf.len {h : AH} {sz : Nat} {s : AVal} {L : List (List AVal)} (k : SliceOf h sz s L) : lenA s = some L.length := by
  cases k with
  | nil => rfl
  | mk hs hn hb hl hz hc => rw [hl]; exact hn

theorem flatten_len {sz : Nat} : ∀ {L : List (List AVal)}, (∀ l, l ∈ L → l.length = sz) → L.flatten.length = L.length * sz := by
  intro L
  induction L with
  | nil => intro _; simp
  | cons a L ih => intro h; simp only [List.flatten_cons, List.length_append, h a (by simp), ih fun l q => h l (by simp [q]), List.length_cons, Nat.add_mul]; omega

theorem slice_concat {sz : Nat} {cs : List AVal} : ∀ {L : List (List AVal)} {off : Nat}, (∀ l, l ∈ L → l.length = sz) → (∀ i l, L[i]? = some l → slice? cs (off + i * sz) sz = some l) → slice? cs off (L.length * sz) = some L.flatten := by
  intro L
  induction L with
  | nil => intro off _ _; simp [slice?]
  | cons a L ih =>
    intro off hl hc
    have h0 := hc 0 a rfl
    have h1 := ih (off := off + sz) (fun l q => hl l (by simp [q])) fun i l q => by
      have := hc (i + 1) l (by simpa using q)
      rw [Nat.add_mul, Nat.one_mul] at this
      rw [show off + sz + i * sz = off + (i * sz + sz) by omega]
      exact this
    have ha := hl a (by simp)
    have hfl := flatten_len (L := L) fun l q => hl l (by simp [q])
    rw [Nat.zero_mul, Nat.add_zero] at h0
    have e0 := slice?_val h0
    have e1 := slice?_val h1
    have e2 : (cs.drop off).take ((L.length + 1) * sz) = a ++ L.flatten := by
      rw [show (L.length + 1) * sz = sz + L.length * sz by rw [Nat.add_mul]; omega, List.take_add, ← e0, List.drop_drop, ← e1]
    unfold slice?
    dsimp only
    rw [List.length_cons, e2, List.flatten_cons]
    simp [ha, hfl, Nat.add_mul, Nat.add_comm]

/-- .. where it lies in a block of cells. -/
theorem SliceOf.mk' {h : AH} {sz : Nat} {s : AVal} {b off len : Nat} {g : Kd} {cs : List AVal} {el : TypeId} {L : List (List AVal)} (hs : aSlElems s = some (b, off, len)) (hn : lenA s = some len) (hb : Has h b (.cells g cs el)) (hl : L.length = len) (hc : ∀ i l, L[i]? = some l → slice? cs (off + i * sz) sz = some l) : SliceOf h sz s L := by
  have hz : ∀ l, l ∈ L → l.length = sz := fun l q => by
    obtain ⟨i, hi⟩ := List.mem_iff_getElem?.1 q
    exact slice?_len (hc i l hi)
  refine .mk hs hn hb.1 hl hz ?_
  unfold loadCells
  rw [hb.2]
  exact slice_concat hz hc

theorem slice_flatten {sz : Nat} : ∀ {L : List (List AVal)}, (∀ l, l ∈ L → l.length = sz) → ∀ i l, L[i]? = some l → slice? L.flatten (i * sz) sz = some l := by
  intro L
  induction L with
  | nil => intro _ i l q; simp at q
  | cons a L ih =>
    intro h i l q
    have ha := h a (by simp)
    cases i with
    | zero =>
      simp only [List.getElem?_cons_zero, Option.some.injEq] at q
      subst q
      simp only [slice?, Nat.zero_mul, List.drop_zero, List.flatten_cons]
      rw [List.take_append_of_le_length (by omega), ← ha, List.take_length]
      simp
    | succ i =>
      simp only [List.getElem?_cons_succ] at q
      have := ih (fun l q => h l (by simp [q])) i l q
      simp only [slice?] at this ⊢
      have e : (i + 1) * sz = a.length + i * sz := by rw [ha, Nat.add_mul]; omega
      rw [e, List.flatten_cons, List.drop_append]
      have e2 : List.drop (a.length + i * sz) a = [] := List.drop_eq_nil_of_le (by omega)
      rw [e2, List.nil_append, Nat.add_sub_cancel_left]
      exact this

/-- An element of a slice, where it is. -/
theorem SliceOf.at {h : AH} {sz : Nat} {s : AVal} {L : List (List AVal)} (k : SliceOf h sz s L) {i : Nat} {l : List AVal} (hi : L[i]? = some l) :
    ∃ b off, aSlElems s = some (b, off, L.length) ∧ CellsAt h b (off + i * sz) sz l := by
  cases k with
  | nil => simp at hi
  | mk hs hn hb hl hz hc =>
    have hlt := (List.getElem?_eq_some_iff.1 hi).1
    refine ⟨_, _, by rw [hl]; exact hs, hb, ?_⟩
    have hle : (i + 1) * sz ≤ L.length * sz := Nat.mul_le_mul_right _ hlt
    rw [Nat.add_mul, Nat.one_mul] at hle
    rw [loadCells_part hc hle]
    exact (slice?_val (slice_flatten hz i l hi)).symm ▸ rfl
section
variable {P : Program} {ty : TypeId} {t : Tr AVal} {h : AH} {dst : Option Tmp} {tt : TypeId} {pos : String} {after : Array Edge} {guard : Option (Nat × Bool)} {x : Operand} {b o n : Nat} {l : List AVal}
/-- An element, whole. -/
theorem aOp_loadE (ha : isAggT P ty = some true) (hs : sizeT P ty = some n) (hx : ev t x = some (.ptr b o)) (hb : CellsAt h b o n l) : aOp P t h ⟨dst, .load ty x, tt, pos, after, guard⟩ = some (.val (.agg l) h) := by
  show opLoad P t h ty x = _
  unfold opLoad
  rw [hx]
  have : loadVar P h ty b o = some (.agg l) := by
    unfold loadVar
    rw [ha]
    simp only [hs, hb.2]
  simp only [this, valO]
/-- .. one cell of it. -/
theorem aOp_loadE1 {k : Nat} {v : AVal} (ha : isAggT P ty = some false) (hx : ev t x = some (.ptr b (o + k))) (hb : CellsAt h b o n l) (hv : l[k]? = some v) : aOp P t h ⟨dst, .load ty x, tt, pos, after, guard⟩ = some (.val v h) := by
  show opLoad P t h ty x = _
  unfold opLoad
  rw [hx]
  have hlt := (List.getElem?_eq_some_iff.1 hv).1
  have hl := loadCells_len hb.2
  have hp : loadCells h b (o + k) 1 = some [v] := by
    rw [loadCells_part hb.2 (by omega)]
    rw [List.drop_eq_getElem_cons hlt]
    simp only [List.take_succ_cons, List.take_zero]
    rw [(List.getElem?_eq_some_iff.1 hv).2]
  have : loadVar P h ty b (o + k) = some v := by
    unfold loadVar
    rw [ha]
    simp only [hp]
  simp only [this, valO]
end

/-- All is as it was behind what was made since. -/
theorem Ext.drop {h0 h h' : AH} {b : Nat} (e : Ext h0 h) (k : h.set b none = some h') (hb : h0.next ≤ b) : Ext h0 h' := by
  obtain ⟨h1, h2⟩ := AH.get_set k
  exact ⟨by rw [h1]; exact e.1, fun x hx => by rw [h2, if_neg (by omega)]; exact e.2 x hx⟩

section
variable {P : Program} {c : FC} {k : List AItem} {Q : AM → Prop}

theorem Go.keep {t : Tr AVal} {h : AH} (l : List (Nat × AVal)) (hl : keepOk t l) (g : Go P c k (keepT l) h Q) : Go P c k t h Q := Go.weaken (keepT_sub hl) g

/-- A slice that is made of one element. -/
theorem GoR.build1 {J : Jump} {all : Array Oper} {l : List Oper} {o : Oper} {rest : List Oper} {i d : Nat} {t : Tr AVal} {h : AH} {v : AVal} {ty el : TypeId} {x : Operand} {n : Nat} {z : AVal} (hl0 : l = o :: rest) (hw : wantedA all t o = some true)
    (ho : o.op = .buildSlice ty 1 #[(0, x)]) (hu : P.underlying ty = some (.slice el)) (hs : sizeT P el = some n) (hz : zeroT P el = some z) (hzl : Nat.beq z.cells.length n = true) (hn : Nat.ble n 100000 = true) (hv : ev t x = some v) (hvl : Nat.beq v.cells.length n = true)
    (hd : o.dst = some d) (hdn : Nat.blt d c.n = true)
    (g : ∀ h1, Ext h h1 → Has h1 h.next (.cells .plain v.cells el) → GoR P J c k Q (runOps P c.n all rest (i + 1) (t.put (pth d) (some (.slice h.next 0 1 1))) h1)) :
    GoR P J c k Q (runOps P c.n all l i t h) := by
  obtain ⟨h1, q⟩ := new_some h (.cells .plain v.cells el)
  obtain ⟨_, q2, q3⟩ := new_ext q
  have e1 := Nat.eq_of_beq_eq_true hzl
  have e2 := Nat.eq_of_beq_eq_true hvl
  have hsp : ∀ (l m : List AVal), l.length = m.length → splice l 0 m = some m := by
    intro l
    induction l with
    | nil => intro m hm; cases m with | nil => rfl | cons a m => simp at hm
    | cons a l ih =>
      intro m hm
      cases m with
      | nil => simp at hm
      | cons b m => simp only [splice, ih m (by simpa using hm)]
  refine GoR.op hl0 hw (v := .slice h.next 0 1 1) (h' := h1) ?_ ?_ (g h1 q2 q3)
  · obtain ⟨dst, op, type, pos, after, guard⟩ := o
    dsimp only at ho
    subst ho
    show opBuildSlice P t h ty 1 #[(0, x)] = _
    unfold opBuildSlice
    have hp : evParts t [(0, x)] = some [(0, v)] := by simp only [evParts, hv]
    rw [hu]
    simp only [hp, hs, hz, Nat.one_mul, hn, hzl, cond_true]
    have hr : repl z.cells 1 = z.cells := by simp [repl]
    simp only [hr, aFillA, Nat.zero_mul, hvl, cond_true]
    rw [hsp z.cells v.cells (by omega)]
    simp only [q]
  · unfold prepD
    rw [hd]
    simp only [hdn, cond_true]
    rw [Tr.mkPut_eq]

/-- What a slice that was appended to is: nothing yet, or a block of its own. -/
def Grow (h : AH) (el : TypeId) (sz : Nat) (lo : Nat) (s : AVal) (n : Nat) (cs : List AVal) : Prop :=
  cs.length = n * sz ∧ ((s = .nilslice ∧ n = 0) ∨ (0 < n ∧ ∃ b, lo ≤ b ∧ s = .gsl b 0 0 n ∧ Has h b (.cells .grow cs el)))

theorem Grow.ext {h h' : AH} {el : TypeId} {sz lo : Nat} {s : AVal} {n : Nat} {cs : List AVal} (k : Grow h el sz lo s n cs) (e : Ext h h') : Grow h' el sz lo s n cs := by
  obtain ⟨k1, k2⟩ := k
  refine ⟨k1, ?_⟩
  rcases k2 with k2 | ⟨h0, b, h1, h2, h3⟩
  · exact .inl k2
  · exact .inr ⟨h0, b, h1, h2, h3.ext e⟩

theorem slice_all {α : Type} {l : List α} {n : Nat} (h : l.length = n) : slice? l 0 n = some l := by
  unfold slice?
  subst h
  simp

/-- One element more. -/
theorem GoR.append1 {J : Jump} {all : Array Oper} {l : List Oper} {o : Oper} {rest : List Oper} {i d : Nat} {t : Tr AVal} {h h0 : AH} {s : AVal} {n b : Nat} {cs new : List AVal} {g0 : Kd} {t1 t2 el el2 : TypeId} {x y : Operand} {sz bytes : Nat} {z : AVal} (hl0 : l = o :: rest) (hw : wantedA all t o = some true)
    (ho : o.op = .call ⟨.builtin .append, #[x, y], #[t1, t2]⟩) (hu1 : P.underlying t1 = some (.slice el)) (hu2 : P.underlying t2 = some (.slice el2)) (hs : sizeT P el = some sz) (hby : bytesT P el = some bytes) (hz : zeroT P el = some z) (hzl : Nat.beq z.cells.length sz = true)
    (hsz : Nat.blt 0 sz = true) (hx : ev t x = some s) (hy : ev t y = some (.slice b 0 1 1)) (hb : Has h b (.cells g0 new el2)) (hnl : Nat.beq new.length sz = true) (hns : scalars new = true) (hgr : Grow h el sz h0.next s n cs)
    (hroom : (n + 301) * 2 * (bytes + 1) < 281474976710656) (he : Ext h0 h) (hd : o.dst = some d) (hdn : Nat.blt d c.n = true)
    (g : ∀ s' h1, Ext h0 h1 → Grow h1 el sz h0.next s' (n + 1) (cs ++ new) → GoR P J c k Q (runOps P c.n all rest (i + 1) (t.put (pth d) (some s')) h1)) :
    GoR P J c k Q (runOps P c.n all l i t h) := by
  obtain ⟨hcl, hgr⟩ := hgr
  have e1 := Nat.eq_of_beq_eq_true hnl
  have hput : ∀ v, (prepD c.n o).run t v = some (t.put (pth d) (some v)) := by
    intro v
    unfold prepD
    rw [hd]
    simp only [hdn, cond_true]
    rw [Tr.mkPut_eq]
  have hsrc : srcCells h sz 1 (.slice b 0 1 1) = some new := by
    simp only [srcCells, loadCells, hb.2, Nat.one_mul]
    exact slice_all e1
  have hlt : Nat.blt ((n + 1 + 300) * 2 * (bytes + 1)) 281474976710656 = true := Nat.ble_eq_true_of_le hroom
  have hop : ∀ {y'}, aAppend P h t1 t2 s (.slice b 0 1 1) = some y' → aOp P t h o = some y' := by
    intro y' q
    obtain ⟨dst, op, type, pos, after, guard⟩ := o
    dsimp only at ho
    subst ho
    show opCall P t h ⟨.builtin .append, #[x, y], #[t1, t2]⟩ type = _
    have he : evs t [x, y] = some [s, .slice b 0 1 1] := by simp only [evs, mapO, hx, hy]
    simp only [opCall, he, callWith, aBuiltin, q]
  rcases hgr with ⟨rfl, rfl⟩ | ⟨hn0, bs, hlo, rfl, hbs⟩
  · obtain ⟨h1, q⟩ := new_some h (.cells .grow new el)
    obtain ⟨_, q2, q3⟩ := new_ext q
    have hc0 : cs = [] := List.eq_nil_of_length_eq_zero (by simpa using hcl)
    subst hc0
    refine GoR.op hl0 hw (v := .gsl h.next 0 0 1) (h' := h1) (hop ?_) (hput _) (g _ h1 (he.trans q2) ⟨by simp [e1], .inr ⟨by omega, h.next, he.1, rfl, q3⟩⟩)
    unfold aAppend
    rw [hu1, hu2]
    simp only [hs, hby, hz, lenA, hsrc, hlt, hsz, hzl, cond_true]
    have : Nat.beq 1 0 = false := rfl
    simp only [this, cond_false, growNew, q]
  · have hset : ∃ h2, h.set bs none = some h2 := by obtain ⟨tt, nx⟩ := h; exact ⟨_, rfl⟩
    obtain ⟨h2, hset⟩ := hset
    obtain ⟨h1, q⟩ := new_some h2 (.cells .grow (cs ++ new) el)
    obtain ⟨_, q2, q3⟩ := new_ext q
    have hx2 := he.drop hset hlo
    refine GoR.op hl0 hw (v := .gsl h2.next 0 0 (n + 1)) (h' := h1) (hop ?_) (hput _) (g _ h1 (hx2.trans q2) ⟨by simp [e1, hcl, Nat.add_mul], .inr ⟨by omega, h2.next, hx2.1, rfl, q3⟩⟩)
    unfold aAppend
    rw [hu1, hu2]
    simp only [hs, hby, hz, lenA, hsrc, hlt, hsz, hzl, cond_true]
    unfold appGsl
    rw [hbs.2]
    have b1 : Nat.beq 0 (0 * sz) = true := by simp
    have b2 : eqSize P el sz = true := by unfold eqSize; rw [hs]; simp
    have b3 : Nat.beq el el = true := by simp
    have b4 : Nat.ble (0 + (n + 1) * sz) cs.length = false := by
      cases hq : Nat.ble (0 + (n + 1) * sz) cs.length with
      | false => rfl
      | true =>
        have := Nat.le_of_ble_eq_true hq
        have h3 : 0 < sz := blt_true hsz
        rw [hcl, Nat.zero_add, Nat.add_mul] at this
        omega
    have b5 : srcCells h sz n (.gsl bs 0 0 n) = some cs := by
      simp only [srcCells, loadCells, hbs.2]
      exact slice_all hcl
    simp only [b1, b2, b3, b4, b5, hns, cond_true, cond_false, hset, growNew, q]
    have : Nat.beq 0 0 = true := rfl
    simp only [this, cond_true]
end
end Go.AbsE

set_option linter.unusedSimpArgs false
namespace Go.AbsE
open Go

section
variable {P : Program} {c : FC} {k : List AItem} {Q : AM → Prop}

/-- A loop, by what is true at each of its rounds. -/
theorem Go.loopInv {x : Code} {t : Tr AVal} {h : AH} (I : Nat → Tr AVal → AH → Prop) {n : Nat} (h0 : I n t h)
    (step : ∀ n t h, I n t h → (∀ m t' h', m < n → I m t' h' → Go P c (.inLoop x :: k) t' h' Q) → Go P c (.code x :: .inLoop x :: k) t h Q) :
    Go P c (.code (.loop x) :: k) t h Q := by
  have all : ∀ n t h, I n t h → Go P c (.code x :: .inLoop x :: k) t h Q := by
    intro n
    induction n using Nat.strongRecOn with
    | ind n ih => exact fun t h hi => step n t h hi fun m t' h' hm hi' => Go.inLoop noJ_ok (ih m hm t' h' hi')
  exact Go.loop noJ_ok (all n t h h0)

/-- What was appended to, as a slice. -/
theorem Grow.sliceOf {h : AH} {el : TypeId} {sz lo : Nat} {s : AVal} {cs : List AVal} {L : List (List AVal)} (k : Grow h el sz lo s L.length cs) (hc : ∀ i l, L[i]? = some l → slice? cs (i * sz) sz = some l) : SliceOf h sz s L := by
  obtain ⟨_, k2⟩ := k
  rcases k2 with ⟨rfl, hn⟩ | ⟨h0, b, h1, rfl, h3⟩
  · have : L = [] := List.eq_nil_of_length_eq_zero hn
    subst this
    exact .nil
  · exact SliceOf.mk' rfl rfl h3 rfl (by intro i l q; rw [Nat.zero_add]; exact hc i l q)

end
end Go.AbsE

set_option linter.unusedSimpArgs false
namespace Go.AbsE
open Go

/-! Regions whose order is drawn, for all arguments. -/
section
variable {P : Program}

def Stands (P : Program) (h : AH) (f : DFact) : Prop := sameA f.v f.v = true ∧ ∀ h', Ext h h' → ∃ h2, aOpX P f.lit f.t h' f.o = some (.val f.v h2)

def AllStand (P : Program) (h : AH) (l : List DFact) : Prop := ∀ f, f ∈ l → Stands P h f

theorem AllStand.ext {h h' : AH} {l : List DFact} (k : AllStand P h l) (e : Ext h h') : AllStand P h' l := fun f hf => ⟨(k f hf).1, fun h2 e2 => (k f hf).2 h2 (e.trans e2)⟩

theorem recheck_of {h : AH} : ∀ {l : List DFact}, AllStand P h l → recheck P h l = true := by
  intro l
  induction l with
  | nil => intro _; rfl
  | cons f l ih =>
    intro k
    obtain ⟨k1, k2⟩ := k f (by simp)
    obtain ⟨h2, k2⟩ := k2 h (Ext.refl h)
    obtain ⟨i, o, v, t, lit⟩ := f
    unfold recheck
    simp only [k2, k1, cond_true]
    exact ih fun f hf => k f (by simp [hf])

theorem dropF_in {bef : Nat} : ∀ {l : List DFact} {f : DFact}, f ∈ dropF bef l → f ∈ l := by
  intro l
  induction l with
  | nil => intro f h; cases h
  | cons a l ih =>
    intro f h
    unfold dropF at h
    cases hb : bit? bef a.i with
    | true => rw [hb] at h; exact List.mem_cons_of_mem _ (ih h)
    | false =>
      rw [hb] at h
      cases h with
      | head => exact List.mem_cons_self
      | tail _ h => exact List.mem_cons_of_mem _ (ih h)

/-- Which of the operations that were found are not bound to stand before another. -/
noncomputable def dropI (bef : Nat) : List Nat → List Nat
  | [] => []
  | i :: l => cond (bit? bef i) (dropI bef l) (i :: dropI bef l)

theorem dropF_ids {bef : Nat} : ∀ {l : List DFact}, (dropF bef l).map DFact.i = dropI bef (l.map DFact.i) := by
  intro l
  induction l with
  | nil => rfl
  | cons a l ih =>
    unfold dropF
    simp only [List.map_cons, dropI]
    cases bit? bef a.i with
    | true => exact ih
    | false => simp only [cond_false, List.map_cons, ih]

/-- What is behind what remains of a region, if all that was found stands; ids: which that is. -/
def GoD (P : Program) (c : FC) (k : List AItem) (Q : AM → Prop) (all : Array Oper) (pl : List DOp) (tf : Tr AVal) (ids : List Nat) (ta : Tr AVal) (h : AH) : Prop :=
  ∀ facts : List DFact, facts.map DFact.i = ids → AllStand P h facts → GoR P noJ c k Q ((runC P c.n all pl).run tf facts ta h)

variable {c : FC} {k : List AItem} {Q : AM → Prop} {all : Array Oper} {pl rest : List DOp} {tf ta ta' : Tr AVal} {ids : List Nat} {h h1 : AH} {i bef : Nat} {o : Oper} {lit : Bool} {v : AVal}

theorem Go.drawn {id : Nat} {t : Tr AVal} (hp : plan all = some pl) (g : GoD P c k Q all pl (eraseT all.toList t) [] t h) : Go P c (.code (.region id all true) :: k) t h Q := by
  refine Go.code noJ_ok ?_
  show GoR P noJ c k Q ((runDrawn P c.n all).run t h)
  unfold runDrawn
  rw [hp]
  exact g [] rfl fun f hf => by cases hf

theorem GoD.end (hl : pl = []) (g : Go P c k ta h Q) : GoD P c k Q all pl tf ids ta h := by
  subst hl
  exact fun _ _ _ => g

theorem GoD.quiet {dst : Option Tmp} {op : Op} {tt : TypeId} {pos : String} {after : Array Edge} {guard : Option (Nat × Bool)} (hl : pl = ⟨i, bef, true, ⟨dst, op, tt, pos, after, guard⟩, false⟩ :: rest) (hw : wantedA all ta ⟨dst, op, tt, pos, after, guard⟩ = some true) (hx : ∀ h', Ext h h' → aOp P ta h' ⟨dst, op, tt, pos, after, guard⟩ = some (.val v h')) (hs : sameA v v = true) (hd : (prepD c.n ⟨dst, op, tt, pos, after, guard⟩).run ta v = some ta')
    (g : GoD P c k Q all rest tf (i :: ids) ta' h) : GoD P c k Q all pl tf ids ta h := by
  subst hl
  intro facts hids st
  rw [runC_cons, hw]
  show GoR P noJ c k Q ((goQuiet c.n ⟨i, bef, true, ⟨dst, op, tt, pos, after, guard⟩, false⟩ (runC P c.n all rest)).run tf facts ta h (aOp P ta h ⟨dst, op, tt, pos, after, guard⟩))
  rw [hx h (Ext.refl h)]
  show GoR P noJ c k Q ((goOn (runC P c.n all rest)).run tf (⟨i, ⟨dst, op, tt, pos, after, guard⟩, v, ta, false⟩ :: facts) h ((prepD c.n ⟨dst, op, tt, pos, after, guard⟩).run ta v))
  rw [hd]
  refine g _ (by rw [List.map_cons, hids]) fun f hf => ?_
  cases hf with
  | head => exact ⟨hs, fun h' e => ⟨h', hx h' e⟩⟩
  | tail _ hf => exact st f hf

theorem GoD.skip {q : Bool} (hl : pl = ⟨i, bef, q, o, lit⟩ :: rest) (hw : wantedA all ta o = some false) (hd : (prepD c.n o).run ta undefA = some ta')
    (g : GoD P c k Q all rest tf ids ta' h) : GoD P c k Q all pl tf ids ta h := by
  subst hl
  intro facts hids st
  rw [runC_cons, hw]
  show GoR P noJ c k Q ((goOn (runC P c.n all rest)).run tf facts h ((prepD c.n o).run ta undefA))
  rw [hd]
  exact g facts hids st

/-- A noisy operation that is done at once; what was found and isn't bound to stand before it stands behind it. -/
theorem GoD.noisy' (hl : pl = ⟨i, bef, false, o, lit⟩ :: rest) (hw : wantedA all ta o = some true) (hx : aOpX P lit ta h o = some (.val v h1)) (hk : ∀ facts : List DFact, facts.map DFact.i = ids → AllStand P h facts → AllStand P h1 (dropF bef facts)) (hd : (prepD c.n o).run ta v = some ta')
    (g : GoD P c k Q all rest tf (dropI bef ids) ta' h1) : GoD P c k Q all pl tf ids ta h := by
  subst hl
  intro facts hids st
  rw [runC_cons, hw]
  show GoR P noJ c k Q ((goNoisy P c.n all ⟨i, bef, false, o, lit⟩ rest (runC P c.n all rest)).run tf facts ta h (aOpX P lit ta h o))
  rw [hx]
  show GoR P noJ c k Q ((checked P (goOn (runC P c.n all rest))).run tf (dropF bef facts) h1 ((prepD c.n o).run ta v))
  rw [hd]
  show GoR P noJ c k Q (cond (recheck P h1 (dropF bef facts)) ((goOn (runC P c.n all rest)).run tf (dropF bef facts) h1 (some ta')) (.stuck 23))
  rw [recheck_of (hk facts hids st)]
  exact g _ (by rw [dropF_ids, hids]) (hk facts hids st)

theorem GoD.noisy (hl : pl = ⟨i, bef, false, o, lit⟩ :: rest) (hw : wantedA all ta o = some true) (hx : aOpX P lit ta h o = some (.val v h1)) (he : Ext h h1) (hd : (prepD c.n o).run ta v = some ta')
    (g : GoD P c k Q all rest tf (dropI bef ids) ta' h1) : GoD P c k Q all pl tf ids ta h :=
  GoD.noisy' hl hw hx (fun _ _ st f hf => (st.ext he) f (dropF_in hf)) hd g

theorem GoD.call {f : FuncId} {args : List AVal} {R : AEnd → AH → Prop} (hl : pl = ⟨i, bef, false, o, lit⟩ :: rest) (hw : wantedA all ta o = some true) (hx : aOpX P lit ta h o = some (.enter f args h)) (hr : Runs P f args h R)
    (hret : ∀ v h', R (.ret v) h' → Ext h h' ∧ ∃ ta', (prepD c.n o).run ta v = some ta' ∧ GoD P c k Q all rest tf (dropI bef ids) ta' h') (hpan : ∀ chain h', ¬ R (.pan chain) h') :
    GoD P c k Q all pl tf ids ta h := by
  subst hl
  intro facts hids st
  rw [runC_cons, hw]
  show GoR P noJ c k Q ((goNoisy P c.n all ⟨i, bef, false, o, lit⟩ rest (runC P c.n all rest)).run tf facts ta h (aOpX P lit ta h o))
  rw [hx]
  show GoR P noJ c k Q (.susp [.waitDrawn all (⟨i, bef, false, o, lit⟩ :: rest) facts ta] tf (.enter f args h))
  obtain ⟨fr, hfr, hrun⟩ := hr
  refine ⟨⟨fr :: c.fr ([.waitDrawn all (⟨i, bef, false, o, lit⟩ :: rest) facts ta] ++ k) tf :: c.rest, h⟩, ?_, ?_⟩
  · show enterJ P _ c.rest f args h none = _
    show one h (_ :: c.rest) (aFrame P f args false) = _
    rw [hfr]
    rfl
  · refine Reach.call noJ_ok ⟨fr, hfr, hrun⟩ hfr (fun v h' hv => ?_) (fun chain h' hq => absurd hq (hpan chain h'))
    obtain ⟨e, ta', q1, q2⟩ := hret v h' hv
    refine ⟨c.fr (.inDrawn all rest (dropF bef facts) ta' :: k) tf, ?_, Go.inDrawn noJ_ok ?_⟩
    · show AFr.finishRun c.fn c.n tf (.waitDrawn all (⟨i, bef, false, o, lit⟩ :: rest) facts ta :: k) c.ds c.dk c.rd v = _
      unfold AFr.finishRun
      simp only [q1]
      rfl
    · have st' : AllStand P h' (dropF bef facts) := fun f hf => (st.ext e) f (dropF_in hf)
      unfold againD
      rw [recheck_of st']
      exact q2 _ (by rw [dropF_ids, hids]) st'

/-- A store behind which nothing that was found is bound to stand. -/
theorem GoD.store {ty : TypeId} {a x : Operand} {b off n : Nat} {g0 : Kd} {cs cs' : List AVal} {el : TypeId} (hl : pl = ⟨i, bef, false, o, false⟩ :: rest) (hw : wantedA all ta o = some true)
    (ho : o.op = .store ty a x) (hd : o.dst = none) (hdr : dropI bef ids = []) (ha : ev ta a = some (.ptr b off)) (hx : ev ta x = some v) (hb : Has h b (.cells g0 cs el)) (hg : g0.isRo = false)
    (hsz : sizeT P ty = some n) (hvl : Nat.beq v.cells.length n = true) (hs : scalars v.cells = true) (hsp : splice cs off v.cells = some cs')
    (g : ∀ h1, Upd h b (.cells g0 cs' el) h1 → GoD P c k Q all rest tf [] ta h1) : GoD P c k Q all pl tf ids ta h := by
  obtain ⟨h1, q1, q2⟩ := storeCells_has hb hg hs hsp
  refine GoD.noisy' (v := undefA) (h1 := h1) hl hw ?_ (fun facts hids _ => ?_) ?_ (by rw [hdr]; exact g h1 q2)
  · obtain ⟨dst, op, type, pos, after, guard⟩ := o
    dsimp only at ho
    subst ho
    show opStore P ta h ty a x = _
    unfold opStore
    rw [ha, hx]
    simp only [storeVar, hsz, hvl, cond_true, q1]
  · have : dropF bef facts = [] := by
      have := dropF_ids (bef := bef) (l := facts)
      rw [hids, hdr] at this
      exact List.map_eq_nil_iff.1 this
    rw [this]
    intro f hf
    cases hf
  · unfold prepD
    rw [hd]

end
end Go.AbsE
namespace Go.AbsE
open Go

/-- The regions of a function's code whose order is drawn. -/
noncomputable def drawnIn : Code → List (Array Oper)
  | .region _ ops true => [ops]
  | .seq a b => drawnIn a ++ drawnIn b
  | .cond _ a b => drawnIn a ++ drawnIn b
  | .block _ a => drawnIn a
  | .loop a => drawnIn a
  | .rangeFunc _ _ a b => drawnIn a ++ drawnIn b
  | .scope a => drawnIn a
  | _ => []

noncomputable def drawnOps (f : Func) : List (Array Oper) := match f.body with | some b => drawnIn b | none => []

noncomputable def planNums (all : Array Oper) : Option (List (Nat × Nat × Bool × Bool)) := (plan all).map fun l => l.map fun d => (d.i, d.bef, d.quiet, d.lit)

noncomputable def nthOp : List Oper → Nat → Option Oper
  | [], _ => none
  | o :: l, n => match n with | 0 => some o | n + 1 => nthOp l n

/-- A plan, by its numbers. -/
noncomputable def mkPlan (all : List Oper) : List (Nat × Nat × Bool × Bool) → List DOp
  | [] => []
  | (i, b, q, t) :: l => match nthOp all i with
    | some o => ⟨i, b, q, o, t⟩ :: mkPlan all l
    | none => []
end Go.AbsE

namespace Go.AbsE
open Go
section
variable {P : Program} {t : Tr AVal} {h : AH} {dst : Option Tmp} {ty tt : TypeId} {pos : String} {after : Array Edge} {guard : Option (Nat × Bool)}

theorem aOp_build {fields : Array Field} {parts : Array (Nat × Operand)} {ps : List (Nat × AVal)} {z : AVal} {pl : List (Nat × Nat)} {cs : List AVal} (hz : zeroT P ty = some z) (hu : P.underlying ty = some (.struct fields)) (hpl : placesT P fields.toList = some pl)
    (hp : evParts t parts.toList = some ps) (hc : aFillA (fun i => pl[i]?) z.cells ps = some cs) : aOp P t h ⟨dst, .build ty parts, tt, pos, after, guard⟩ = some (.val (.agg cs) h) := by
  show opBuild P t h ty parts = _
  unfold opBuild
  rw [hz, hp, hu]
  simp only [hpl, hc]

theorem aOp_callVal {x : Operand} {f : FuncId} {fn : Func} {first cap : List AVal} {xs : Array Operand} {tys : Array TypeId} {args : List AVal} (hv : ev t x = some (.func (.func f) first cap))
    (hf : aFunc P f = some fn) (ha : evs t xs.toList = some args) : aOp P t h ⟨dst, .call ⟨.value x, xs, tys⟩, tt, pos, after, guard⟩ = some (.enter f (first ++ args ++ cap) h) := by
  show opCall P t h ⟨.value x, xs, tys⟩ tt = _
  unfold opCall
  rw [ha]
  simp only [callWith, hv]
  show aEnter P f (first ++ args ++ cap) h = _
  unfold aEnter
  rw [hf]

theorem aResults_cell {x : Tmp} {b off : Nat} {g : Kd} {cs : List AVal} {el : TypeId} {v : AVal} (hx : t.get (pth x) = some (.ptr b off)) (hb : Has h b (.cells g cs el)) (hv : inCells P ty cs off = some v) :
    aResults P h t [.cell x ty] = some [v] := by
  simp only [aResults, hx, loadVar_cells hb hv]

theorem Grow.upd {h h' : AH} {el : TypeId} {sz lo b : Nat} {s : AVal} {n : Nat} {cs : List AVal} {o : ABlk} (k : Grow h el sz lo s n cs) (u : Upd h b o h') (hb : b < lo) : Grow h' el sz lo s n cs := by
  obtain ⟨k1, k2⟩ := k
  refine ⟨k1, ?_⟩
  rcases k2 with k2 | ⟨h0, b', h1, h2, h3⟩
  · exact .inl k2
  · exact .inr ⟨h0, b', h1, h2, h3.upd u (by omega)⟩

theorem Grow.low {el : TypeId} {sz lo lo' : Nat} {s : AVal} {n : Nat} {cs : List AVal} (k : Grow h el sz lo s n cs) (hl : lo' ≤ lo) : Grow h el sz lo' s n cs := by
  obtain ⟨k1, k2⟩ := k
  refine ⟨k1, ?_⟩
  rcases k2 with k2 | ⟨h0, b', h1, h2, h3⟩
  · exact .inl k2
  · exact .inr ⟨h0, b', by omega, h2, h3⟩

theorem sameA_int (k : IntKind) (n : Int) : sameA (.int k n) (.int k n) = true := by
  simp [sameA, eqI_eq]
end
end Go.AbsE

set_option linter.unusedSimpArgs false
namespace Go.AbsE
open Go

/-! Panics, deferred calls, recover. -/
section
variable {P : Program}

/-- A frame that is left so: with what is deferred still to come. -/
def FLeft (P : Program) (c : FC) (mode : AMode) (t : Tr AVal) (h : AH) (Q : AM → Prop) : Prop := ∀ todo, Reach P ⟨⟨c.fn, c.n, t, todo, c.ds, mode, c.dk, c.rd⟩ :: c.rest, h⟩ Q

theorem GoR.callP {c : FC} {k : List AItem} {Q : AM → Prop} {all : Array Oper} {l : List Oper} {o : Oper} {rest : List Oper} {i : Nat} {t : Tr AVal} {h : AH} {f : FuncId} {args : List AVal} {R : AEnd → AH → Prop} (hl : l = o :: rest)
    (hw : wantedA all t o = some true) (hx : aOp P t h o = some (.enter f args h)) (hr : Runs P f args h R)
    (hret : ∀ v h', R (.ret v) h' → ∃ t', (prepD c.n o).run t v = some t' ∧ GoR P noJ c k Q (runOps P c.n all rest (i + 1) t' h')) (hpan : ∀ chain h', R (.pan chain) h' → FLeft P c (.panicking chain) t h' Q) :
    GoR P noJ c k Q (runOps P c.n all l i t h) := by
  subst hl
  have hs : runOps P c.n all (o :: rest) i t h = .susp [.inRegion all i (o :: rest)] t (.enter f args h) := by
    rw [runOps_cons, hw]
    show (afterP c.n i all o rest (runOpsP P c.n all rest (i + 1))).run t (aOp P t h o) = _
    rw [hx]
    rfl
  rw [hs]
  obtain ⟨fr, hfr, hrun⟩ := hr
  refine ⟨⟨fr :: c.fr ([.inRegion all i (o :: rest)] ++ k) t :: c.rest, h⟩, ?_, ?_⟩
  · show enterJ P _ c.rest f args h none = _
    show one h (_ :: c.rest) (aFrame P f args false) = _
    rw [hfr]
    rfl
  · refine Reach.call noJ_ok ⟨fr, hfr, hrun⟩ hfr (fun v h' hv => ?_) (fun chain h' hq => hpan chain h' hq _)
    obtain ⟨t', q1, q2⟩ := hret v h' hv
    refine ⟨c.fr (.inRegion all (i + 1) rest :: k) t', ?_, Go.inRegion noJ_ok q2⟩
    show AFr.finishRun c.fn c.n t (.inRegion all i (o :: rest) :: k) c.ds c.dk c.rd v = _
    unfold AFr.finishRun
    simp only [q1]
    rfl

theorem GoR.susp {c : FC} {k : List AItem} {Q : AM → Prop} {all : Array Oper} {l : List Oper} {o : Oper} {rest : List Oper} {i : Nat} {t : Tr AVal} {h : AH} {x : ANext} (hl : l = o :: rest) (hw : wantedA all t o = some true)
    (hx : aOp P t h o = some x) (hn : ∀ v h', x ≠ .val v h') {m : AM} (ha : aNext P noJ (c.fr (.inRegion all i (o :: rest) :: k) t) c.rest x = some m) (g : Reach P m Q) : GoR P noJ c k Q (runOps P c.n all l i t h) := by
  subst hl
  have hs : runOps P c.n all (o :: rest) i t h = .susp [.inRegion all i (o :: rest)] t x := by
    rw [runOps_cons, hw]
    show (afterP c.n i all o rest (runOpsP P c.n all rest (i + 1))).run t (aOp P t h o) = _
    rw [hx]
    cases x with
    | val v h' => exact absurd rfl (hn v h')
    | _ => rfl
  rw [hs]
  exact ⟨m, ha, g⟩

theorem GoR.panic {c : FC} {k : List AItem} {Q : AM → Prop} {all : Array Oper} {l : List Oper} {o : Oper} {rest : List Oper} {i : Nat} {t : Tr AVal} {h : AH} {v : AVal} (hl : l = o :: rest) (hw : wantedA all t o = some true)
    (hx : aOp P t h o = some (.panic v h)) (g : FLeft P c (.panicking [⟨v, false⟩]) t h Q) : GoR P noJ c k Q (runOps P c.n all l i t h) :=
  GoR.susp hl hw hx (fun _ _ q => by cases q) rfl (g _)

theorem finishRun_region {fn n : Nat} {t t' : Tr AVal} {all : Array Oper} {i : Nat} {o : Oper} {rest : List Oper} {k : List AItem} {ds : List ADef} {dk : Bool} {rd : Option Nat} {v : AVal} (hd : (prepD n o).run t v = some t') :
    AFr.finish ⟨fn, n, t, .inRegion all i (o :: rest) :: k, ds, .run, dk, rd⟩ v = some ⟨fn, n, t', .inRegion all (i + 1) rest :: k, ds, .run, dk, rd⟩ := by
  show AFr.finishRun fn n t (.inRegion all i (o :: rest) :: k) ds dk rd v = _
  unfold AFr.finishRun
  simp only [hd]

theorem GoR.defer {fn n : Nat} {ds : List ADef} {dk : Bool} {rst : List AFr} {k : List AItem} {Q : AM → Prop} {all : Array Oper} {l : List Oper} {o : Oper} {rest : List Oper} {i : Nat} {t t' : Tr AVal} {h : AH} {d : ADef} (hl : l = o :: rest) (hw : wantedA all t o = some true)
    (hx : aOp P t h o = some (.defer d h)) (hd : (prepD n o).run t undefA = some t') (g : GoR P noJ ⟨fn, n, d :: ds, dk, none, rst⟩ k Q (runOps P n all rest (i + 1) t' h)) : GoR P noJ ⟨fn, n, ds, dk, none, rst⟩ k Q (runOps P n all l i t h) := by
  refine GoR.susp (m := ⟨⟨fn, n, t', .inRegion all (i + 1) rest :: k, d :: ds, .run, dk, none⟩ :: rst, h⟩) hl hw hx (fun _ _ q => by cases q) ?_ (Go.inRegion (c := ⟨fn, n, d :: ds, dk, none, rst⟩) noJ_ok g)
  show one h rst (AFr.finish ⟨fn, n, t, .inRegion all i (o :: rest) :: k, d :: ds, .run, dk, none⟩ undefA) = _
  rw [finishRun_region hd]
  rfl

/-- Nothing to recover. -/
theorem GoR.recover0 {fn n : Nat} {ds : List ADef} {fr : AFr} {rst : List AFr} {k : List AItem} {Q : AM → Prop} {all : Array Oper} {l : List Oper} {o : Oper} {rest : List Oper} {i : Nat} {t t' : Tr AVal} {h : AH} (hl : l = o :: rest) (hw : wantedA all t o = some true)
    (hx : aOp P t h o = some (.recover h)) (hr : aRecover (fr :: rst) = none) (hd : (prepD n o).run t .nilIface = some t') (g : GoR P noJ ⟨fn, n, ds, true, none, fr :: rst⟩ k Q (runOps P n all rest (i + 1) t' h)) : GoR P noJ ⟨fn, n, ds, true, none, fr :: rst⟩ k Q (runOps P n all l i t h) := by
  refine GoR.susp (m := ⟨⟨fn, n, t', .inRegion all (i + 1) rest :: k, ds, .run, true, none⟩ :: fr :: rst, h⟩) hl hw hx (fun _ _ q => by cases q) ?_ (Go.inRegion (c := ⟨fn, n, ds, true, none, fr :: rst⟩) noJ_ok g)
  show nextRecover ⟨fn, n, t, .inRegion all i (o :: rest) :: k, ds, .run, true, none⟩ (fr :: rst) h = _
  unfold nextRecover
  simp only [hr, cond_true, finishRun_region hd]
  rfl

theorem GoR.recover1 {fn n : Nat} {ds : List ADef} {fr : AFr} {rst rst' : List AFr} {k : List AItem} {Q : AM → Prop} {all : Array Oper} {l : List Oper} {o : Oper} {rest : List Oper} {i : Nat} {t t' : Tr AVal} {h : AH} {v : AVal} (hl : l = o :: rest) (hw : wantedA all t o = some true)
    (hx : aOp P t h o = some (.recover h)) (hr : aRecover (fr :: rst) = some (v, rst')) (hd : (prepD n o).run t v = some t') (g : GoR P noJ ⟨fn, n, ds, true, none, rst'⟩ k Q (runOps P n all rest (i + 1) t' h)) : GoR P noJ ⟨fn, n, ds, true, none, fr :: rst⟩ k Q (runOps P n all l i t h) := by
  refine GoR.susp (m := ⟨⟨fn, n, t', .inRegion all (i + 1) rest :: k, ds, .run, true, none⟩ :: rst', h⟩) hl hw hx (fun _ _ q => by cases q) ?_ (Go.inRegion (c := ⟨fn, n, ds, true, none, rst'⟩) noJ_ok g)
  show nextRecover ⟨fn, n, t, .inRegion all i (o :: rest) :: k, ds, .run, true, none⟩ (fr :: rst) h = _
  unfold nextRecover
  simp only [hr, cond_true, finishRun_region hd]
  rfl

theorem Go.retL {fn n : Nat} {ds : List ADef} {dk : Bool} {rst : List AFr} {k : List AItem} {Q : AM → Prop} {t : Tr AVal} {h : AH} (g : FLeft P ⟨fn, n, ds, dk, none, rst⟩ .returning t h Q) : Go P ⟨fn, n, ds, dk, none, rst⟩ (.code .ret :: k) t h Q :=
  Go.ret noJ_ok ⟨_, rfl, g []⟩

theorem Go.endL {fn n : Nat} {ds : List ADef} {dk : Bool} {rst : List AFr} {Q : AM → Prop} {t : Tr AVal} {h : AH} (g : FLeft P ⟨fn, n, ds, dk, none, rst⟩ .returning t h Q) : Go P ⟨fn, n, ds, dk, none, rst⟩ [] t h Q :=
  Go.leave noJ_ok (m := ⟨⟨fn, n, t, [], ds, .returning, dk, none⟩ :: rst, h⟩) rfl (g [])

theorem FLeft.ret {f n : Nat} {rest : List AFr} {t : Tr AVal} {h : AH} {R : AEnd → AH → Prop} {v : AVal} (hv : aResult P h f t = some v) (hR : R (.ret v) h) : FLeft P ⟨f, n, [], false, none, rest⟩ .returning t h (Post P f rest R) :=
  fun _ => .done ⟨.ret v, h, _, hR, ⟨rfl, rfl, rfl, rfl, hv⟩, rfl⟩

theorem FLeft.pan {f n : Nat} {rest : List AFr} {t : Tr AVal} {h : AH} {R : AEnd → AH → Prop} {chain : List AEntry} (hR : R (.pan chain) h) : FLeft P ⟨f, n, [], false, none, rest⟩ (.panicking chain) t h (Post P f rest R) :=
  fun _ => .done ⟨.pan chain, h, _, hR, ⟨rfl, rfl, rfl, rfl⟩, rfl⟩

/-- A deferred call comes to its end. -/
theorem FLeft.settle {f n : Nat} {fr : AFr} {rest : List AFr} {t : Tr AVal} {h : AH} {Q : AM → Prop} {v : AVal} (hv : aResult P h f t = some v) (g : Reach P ⟨settleA fr :: rest, h⟩ Q) : FLeft P ⟨f, n, [], true, none, fr :: rest⟩ .returning t h Q := by
  intro todo
  refine Reach.step noJ_ok (m' := ⟨settleA fr :: rest, h⟩) ?_ g
  show aUnwind P ⟨f, n, t, todo, [], .returning, true, none⟩ (fr :: rest) h = _
  unfold aUnwind
  simp only [hv, aReturn, cond_true]

/-- The next deferred call. -/
theorem FLeft.defer {f n : Nat} {ds : List ADef} {dk : Bool} {rd : Option Nat} {rest : List AFr} {t : Tr AVal} {h : AH} {Q : AM → Prop} {mode : AMode} {g : FuncId} {cap args : List AVal} {gf : Func} {b : Code} {gn : Nat} (hm : mode ≠ .run) (hf : aFunc P g = some gf) (hb : gf.body = some b) (hn : gf.ntmps = gn)
    (h1 : Nat.ble (args ++ cap).length gn = true) (h2 : Nat.ble gn 1000000 = true)
    (H : ∀ todo, Go P ⟨g, gn, [], true, none, ⟨f, n, t, todo, ds, mode, dk, rd⟩ :: rest⟩ [.code b] (fromArgs .leaf 0 (args ++ cap)) h Q) : FLeft P ⟨f, n, .call (.func g) cap args :: ds, dk, rd, rest⟩ mode t h Q := by
  intro todo
  have he : aUnwind P ⟨f, n, t, todo, .call (.func g) cap args :: ds, mode, dk, rd⟩ rest h = some ⟨⟨g, gn, fromArgs .leaf 0 (args ++ cap), [.code b], [], .run, true, none⟩ :: ⟨f, n, t, todo, ds, mode, dk, rd⟩ :: rest, h⟩ := by
    unfold aUnwind
    simp only [aInvoke, aEnter, hf]
    unfold aFrame
    rw [hf]
    simp only [hb, hn, h1, h2, cond_true]
    rfl
  refine Reach.step noJ_ok (m' := ⟨⟨g, gn, fromArgs .leaf 0 (args ++ cap), [.code b], [], .run, true, none⟩ :: ⟨f, n, t, todo, ds, mode, dk, rd⟩ :: rest, h⟩) ?_ (H todo)
  cases mode with
  | run => exact absurd rfl hm
  | _ => exact he
theorem aOp_min2 {t : Tr AVal} {h : AH} {dst : Option Tmp} {tt : TypeId} {pos : String} {after : Array Edge} {guard : Option (Nat × Bool)} {x y : Operand} {tys : Array TypeId} {a b r : Int} (hx : ev t x = some (.int .i64 a)) (hy : ev t y = some (.int .i64 b)) (hr : (if b < a then b else a) = r) :
    aOp P t h ⟨dst, .call ⟨.builtin .min, #[x, y], tys⟩, tt, pos, after, guard⟩ = some (.val (.int .i64 r) h) := by
  show opCall P t h ⟨.builtin .min, #[x, y], tys⟩ tt = _
  have he : evs t [x, y] = some [.int .i64 a, .int .i64 b] := by simp only [evs, mapO, hx, hy]
  simp only [opCall, he, callWith, aBuiltin, grounds, AVal.ground]
  subst hr
  rfl

theorem aOp_max2 {t : Tr AVal} {h : AH} {dst : Option Tmp} {tt : TypeId} {pos : String} {after : Array Edge} {guard : Option (Nat × Bool)} {x y : Operand} {tys : Array TypeId} {a b r : Int} (hx : ev t x = some (.int .i64 a)) (hy : ev t y = some (.int .i64 b)) (hr : (if a < b then b else a) = r) :
    aOp P t h ⟨dst, .call ⟨.builtin .max, #[x, y], tys⟩, tt, pos, after, guard⟩ = some (.val (.int .i64 r) h) := by
  show opCall P t h ⟨.builtin .max, #[x, y], tys⟩ tt = _
  have he : evs t [x, y] = some [.int .i64 a, .int .i64 b] := by simp only [evs, mapO, hx, hy]
  simp only [opCall, he, callWith, aBuiltin, grounds, AVal.ground]
  subst hr
  rfl
section
variable {t : Tr AVal} {h : AH} {dst : Option Tmp} {ty tt ty2 : TypeId} {pos : String} {after : Array Edge} {guard : Option (Nat × Bool)} {x y : Operand} {b off : Nat}

theorem aOp_geq {r : Bool} {a b : Int} (hx : ev t x = some (.int .i64 a)) (hy : ev t y = some (.int .i64 b)) (hr : decide (b ≤ a) = r) : aOp P t h ⟨dst, .binOp .geq ty x y ty2, tt, pos, after, guard⟩ = some (.val (.bool r) h) := by
  refine aOp_bin hx hy ?_
  simp only [binI, ltI_eq]
  rw [← hr]
  congr 2
  by_cases q : b ≤ a
  · simp [q]
  · simp [q]; omega

theorem aOp_indexAddrArr {el : TypeId} {i len n : Nat} (hu : P.underlying ty = some (.array len el)) (hz : sizeT P el = some n) (hx : ev t x = some (.ptr b off)) (hy : ev t y = some (.int .i64 i)) (hi : Nat.blt i len = true) :
    aOp P t h ⟨dst, .indexAddr ty x y, tt, pos, after, guard⟩ = some (.val (.ptr b (off + i * n)) h) := by
  show opIndexAddr P t h ty x y = _
  have hy' : ev t y = some (.int .i64 (Int.ofNat i)) := hy
  unfold opIndexAddr
  rw [hu, hx, hy']
  simp only [hz, hi, cond_true]

theorem aOp_indexArr {el : TypeId} {i len n : Nat} {cs : List AVal} {v : AVal} (hu : P.underlying ty = some (.array len el)) (hz : sizeT P el = some n) (hx : ev t x = some (.agg cs)) (hy : ev t y = some (.int .i64 i)) (hi : Nat.blt i len = true) (hv : partT P el cs (i * n) = some v) :
    aOp P t h ⟨dst, .index ty x y, tt, pos, after, guard⟩ = some (.val v h) := by
  show opIndex P t h ty x y = _
  have hy' : ev t y = some (.int .i64 (Int.ofNat i)) := hy
  unfold opIndex
  rw [hu, hx, hy']
  simp only [hz, hi, cond_true, hv, valO]
theorem aOp_nilCheck {t : Tr AVal} {h : AH} {dst : Option Tmp} {tt : TypeId} {pos : String} {after : Array Edge} {guard : Option (Nat × Bool)} {x : Operand} {v : AVal} (hx : ev t x = some v) (hv : nilCheckOk P v = true) : aOp P t h ⟨dst, .nilCheck x, tt, pos, after, guard⟩ = some (.val v h) := by
  show opNilCheck P t h x = _
  unfold opNilCheck
  rw [hx]
  simp only [hv, cond_true]

theorem aOp_invoke {t : Tr AVal} {h : AH} {dst : Option Tmp} {tt : TypeId} {pos : String} {after : Array Edge} {guard : Option (Nat × Bool)} {x : Operand} {xs : Array Operand} {tys : Array TypeId} {name : String} {recv : AVal} {args : List AVal} {y : ANext} (hx : ev t x = some recv) (ha : evs t xs.toList = some args)
    (hi : aInvokeIface P recv name args h = some y) : aOp P t h ⟨dst, .call ⟨.invoke x name, xs, tys⟩, tt, pos, after, guard⟩ = some y := by
  show opCall P t h ⟨.invoke x name, xs, tys⟩ tt = _
  unfold opCall
  rw [ha]
  simp only [callWith, hx]
  exact hi
end
end
end Go.AbsE

set_option linter.unusedSimpArgs false
namespace Go.AbsE
open Go

/-! What an action that is waited for hands back, whatever frame waits for it: a call, or a round of a loop over a function. -/
section
variable {P : Program}

/-- The action hands a value back, so, to any frame that waits for it. -/
def Does (P : Program) (x : ANext) (R : AEnd → AH → Prop) : Prop :=
  ∀ (fr : AFr) (rest : List AFr) (Q : AM → Prop), (∀ v h', R (.ret v) h' → ∃ fr', fr.finish v = some fr' ∧ Reach P ⟨fr' :: rest, h'⟩ Q) → (∀ chain h', R (.pan chain) h' → Reach P ⟨fr.raise chain :: rest, h'⟩ Q) →
    ∃ m, aNext P noJ fr rest x = some m ∧ Reach P m Q

theorem Does.enter {f : FuncId} {args : List AVal} {h : AH} {R : AEnd → AH → Prop} (k : Runs P f args h R) : Does P (.enter f args h) R := by
  intro fr rest Q hr hp
  obtain ⟨f1, e1, e2⟩ := k
  refine ⟨⟨f1 :: fr :: rest, h⟩, ?_, Reach.call noJ_ok ⟨f1, e1, e2⟩ e1 hr hp⟩
  show one h (fr :: rest) (aFrame P f args false) = _
  rw [e1]
  rfl

theorem Does.mono {x : ANext} {R R' : AEnd → AH → Prop} (k : Does P x R) (i : ∀ en h', R en h' → R' en h') : Does P x R' :=
  fun fr rest Q hr hp => k fr rest Q (fun v h' q => hr v h' (i _ _ q)) (fun c h' q => hp c h' (i _ _ q))

theorem GoR.does {c : FC} {k : List AItem} {Q : AM → Prop} {all : Array Oper} {l : List Oper} {o : Oper} {rest : List Oper} {i : Nat} {t : Tr AVal} {h : AH} {x : ANext} {R : AEnd → AH → Prop} (hl : l = o :: rest)
    (hw : wantedA all t o = some true) (hx : aOp P t h o = some x) (hn : ∀ v h', x ≠ .val v h') (hd : Does P x R)
    (hret : ∀ v h', R (.ret v) h' → ∃ t', (prepD c.n o).run t v = some t' ∧ GoR P noJ c k Q (runOps P c.n all rest (i + 1) t' h')) (hpan : ∀ chain h', R (.pan chain) h' → FLeft P c (.panicking chain) t h' Q) :
    GoR P noJ c k Q (runOps P c.n all l i t h) := by
  obtain ⟨m, h1, h2⟩ := hd (c.fr (.inRegion all i (o :: rest) :: k) t) c.rest Q (fun v h' q => by
    obtain ⟨t', q1, q2⟩ := hret v h' q
    exact ⟨c.fr (.inRegion all (i + 1) rest :: k) t', finishRun_region q1, Go.inRegion noJ_ok q2⟩) (fun chain h' q => hpan chain h' q _)
  exact GoR.susp hl hw hx hn h1 h2
theorem set_upd (h : AH) (b : Nat) (o : ABlk) : ∃ h', h.set b (some o) = some h' ∧ Upd h b o h' := by
  have : ∃ h', h.set b (some o) = some h' := by obtain ⟨t, nx⟩ := h; exact ⟨_, rfl⟩
  obtain ⟨h', q⟩ := this
  obtain ⟨q1, q2⟩ := AH.get_set q
  exact ⟨h', q, q1, by rw [q2, if_pos rfl], fun b' hb' => by rw [q2, if_neg hb']⟩

theorem getLoop {h : AH} {l : Nat} {r : ALoop} (hl : Has h l (.loop r)) : aGetLoop h l = some r := by
  unfold aGetLoop
  rw [hl.2]

/-- A round of a loop over a function. -/
theorem Does.round {l : Nat} {items : List AVal} {h : AH} {r : ALoop} {t : Tr AVal} {fn : Func} {R : AEnd → AH → Prop} (hl : Has h l (.loop r)) (hp : putArgs r.tmps r.n r.params items = some t) (hf : P.funcs[r.fn]? = some fn)
    (walk : ∀ (fr : AFr) (rest : List AFr) (Q : AM → Prop), (∀ v h', R (.ret v) h' → ∃ fr', fr.finish v = some fr' ∧ Reach P ⟨fr' :: rest, h'⟩ Q) → (∀ chain h', R (.pan chain) h' → Reach P ⟨fr.raise chain :: rest, h'⟩ Q) →
      Go P ⟨r.fn, r.n, [], false, some l, fr :: rest⟩ [.code r.assign, .beginRound, .code r.body] t h Q) : Does P (.round l items h) R := by
  intro fr rest Q hr hpn
  refine ⟨_, ?_, walk fr rest Q hr hpn⟩
  show nextRound P fr rest h l items = _
  unfold nextRound
  simp only [getLoop hl, hp, hf]
  rfl

theorem Go.beginRound {fn n : Nat} {ds : List ADef} {dk : Bool} {l : Nat} {rst : List AFr} {k : List AItem} {Q : AM → Prop} {t : Tr AVal} {h : AH} {r : ALoop} (hl : Has h l (.loop r)) (hs : r.state = .ready)
    (g : ∀ h', Upd h l (.loop { r with state := .busy }) h' → Go P ⟨fn, n, ds, dk, some l, rst⟩ k t h' Q) : Go P ⟨fn, n, ds, dk, some l, rst⟩ (.beginRound :: k) t h Q := by
  obtain ⟨h', q1, q2⟩ := set_upd h l (.loop { r with state := .busy })
  refine Go.slow noJ_ok rfl (m := ⟨⟨fn, n, t, k, ds, .run, dk, some l⟩ :: rst, h'⟩) ?_ (g h' q2)
  show doBegin ⟨fn, n, t, .beginRound :: k, ds, .run, dk, some l⟩ rst h k = _
  unfold doBegin
  simp only [getLoop hl, hs, q1]

/-- A round ends: go on. -/
theorem Go.roundEnd {fn n : Nat} {l : Nat} {fr : AFr} {rst : List AFr} {Q : AM → Prop} {t : Tr AVal} {h : AH} {r : ALoop} (hl : Has h l (.loop r))
    (g : ∀ h', Upd h l (.loop { r with state := .ready, pending := none }) h' → ∃ fr', fr.finish (.bool true) = some fr' ∧ Reach P ⟨fr' :: rst, h'⟩ Q) : Go P ⟨fn, n, [], false, some l, fr :: rst⟩ [] t h Q := by
  obtain ⟨h', q1, q2⟩ := set_upd h l (.loop { r with state := .ready, pending := none })
  obtain ⟨fr', g1, g2⟩ := g h' q2
  refine Go.leave noJ_ok (m := ⟨fr' :: rst, h'⟩) ?_ g2
  show endRoundA false (fr :: rst) h l .ready none true = _
  unfold endRoundA
  simp only [getLoop hl, q1, cond_false, aReturn, g1, one]

/-- A round ends, and the loop with it, by a return. -/
theorem Go.roundRet {fn n : Nat} {l : Nat} {fr : AFr} {rst : List AFr} {k : List AItem} {Q : AM → Prop} {t : Tr AVal} {h : AH} {r : ALoop} (hl : Has h l (.loop r))
    (g : ∀ h', Upd h l (.loop { r with state := .done, pending := some .ret }) h' → ∃ fr', fr.finish (.bool false) = some fr' ∧ Reach P ⟨fr' :: rst, h'⟩ Q) : Go P ⟨fn, n, [], false, some l, fr :: rst⟩ (.code .ret :: k) t h Q := by
  obtain ⟨h', q1, q2⟩ := set_upd h l (.loop { r with state := .done, pending := some .ret })
  obtain ⟨fr', g1, g2⟩ := g h' q2
  refine Go.ret noJ_ok ⟨⟨fr' :: rst, h'⟩, ?_, g2⟩
  show endRoundA false (fr :: rst) h l .done (some .ret) false = _
  unfold endRoundA
  simp only [getLoop hl, q1, cond_false, aReturn, g1, one]

theorem GoR.exitOut {c : FC} {k : List AItem} {Q : AM → Prop} {id : Nat} {t : Tr AVal} {h : AH} (hk : exitA id k = none) (g : ∃ m', aLeave (c.fr [] t) c.rest h (some (.exit id)) = some m' ∧ Reach P m' Q) : GoR P noJ c k Q (.exit id t h) := by
  show (match exitA id k with | some k' => Go P c k' t h Q | none => ∃ m', aLeave (c.fr [] t) c.rest h (some (.exit id)) = some m' ∧ Reach P m' Q)
  rw [hk]
  exact g

/-- A round ends, and the loop with it, by a jump out of it. -/
theorem Go.roundExit {fn n : Nat} {l id : Nat} {fr : AFr} {rst : List AFr} {k : List AItem} {Q : AM → Prop} {t : Tr AVal} {h : AH} {r : ALoop} (hl : Has h l (.loop r)) (hk : exitA id k = none)
    (g : ∀ h', Upd h l (.loop { r with state := .done, pending := some (.exit id) }) h' → ∃ fr', fr.finish (.bool false) = some fr' ∧ Reach P ⟨fr' :: rst, h'⟩ Q) : Go P ⟨fn, n, [], false, some l, fr :: rst⟩ (.code (.exit id) :: k) t h Q := by
  obtain ⟨h', q1, q2⟩ := set_upd h l (.loop { r with state := .done, pending := some (.exit id) })
  obtain ⟨fr', g1, g2⟩ := g h' q2
  refine Go.code noJ_ok (GoR.exitOut hk ⟨⟨fr' :: rst, h'⟩, ?_, g2⟩)
  show endRoundA false (fr :: rst) h l .done (some (.exit id)) false = _
  unfold endRoundA
  simp only [getLoop hl, q1, cond_false, aReturn, g1, one]

/-- A loop over a function, in a frame that isn't itself a round: the iterator runs, and then what a round left behind is done. -/
theorem Go.rangeFunc {fn n : Nat} {ds : List ADef} {dk : Bool} {rst : List AFr} {k : List AItem} {Q : AM → Prop} {t : Tr AVal} {h : AH} {x : Operand} {params : Array Tmp} {assign body : Code} {g : FuncId} {gf : Func} {first cap : List AVal}
    (hx : ev t x = some (.func (.func g) first cap)) (hg : aFunc P g = some gf)
    (run : ∀ d l h2, h.next = d → d + 1 = l → Ext h h2 → Has h2 d (.deferred (some [])) → Has h2 l (.loop ⟨.ready, none, fn, n, t, params.toList, assign, body, d⟩) →
      ∃ R : AEnd → AH → Prop, Runs P g (first ++ [.yield l] ++ cap) h2 R ∧ (∀ chain h', ¬ R (.pan chain) h') ∧
      ∀ v h', R (.ret v) h' → ∃ r, Has h' l (.loop r) ∧ r.state ≠ .busy ∧ ∀ h3, Upd h' l (.loop { r with state := .exhausted }) h3 →
        Go P ⟨fn, n, .collected d :: ds, dk, none, rst⟩ (match r.pending with | some c => .code c :: k | none => k) t h3 Q) :
    Go P ⟨fn, n, ds, dk, none, rst⟩ (.code (.rangeFunc x params assign body) :: k) t h Q := by
  obtain ⟨h1, n1⟩ := new_some h (.deferred (some []))
  obtain ⟨_, e1, d1⟩ := new_ext n1
  obtain ⟨h2, n2⟩ := new_some h1 (.loop ⟨.ready, none, fn, n, t, params.toList, assign, body, h.next⟩)
  obtain ⟨_, e2, d2⟩ := new_ext n2
  have hnx : h.next + 1 = h1.next := by
    obtain ⟨tt, nx⟩ := h
    simp only [AH.new] at n1
    cases n1
    rfl
  obtain ⟨R, ⟨fr, hfr, hrun⟩, hpan, hret⟩ := run h.next h1.next h2 rfl hnx (e1.trans e2) (d1.ext e2) d2
  refine Go.slow noJ_ok rfl (m := ⟨fr :: ⟨fn, n, t, .inRangeFunc h1.next :: k, .collected h.next :: ds, .run, dk, none⟩ :: rst, h2⟩) ?_ ?_
  · show doRangeFunc P ⟨fn, n, t, .code (.rangeFunc x params assign body) :: k, ds, .run, dk, none⟩ rst h x params assign body k = _
    unfold doRangeFunc
    simp only [n1, n2, hx, aInvoke, aEnter, hg, hfr, one]
    rfl
  · refine Reach.call noJ_ok ⟨fr, hfr, hrun⟩ hfr (fun v h' q => ?_) (fun chain h' q => absurd q (hpan chain h'))
    obtain ⟨r, k1, k2, k3⟩ := hret v h' q
    refine ⟨⟨fn, n, t, .endRangeFunc h1.next :: k, .collected h.next :: ds, .run, dk, none⟩, rfl, ?_⟩
    obtain ⟨h3, s1, s2⟩ := set_upd h' h1.next (.loop { r with state := .exhausted })
    refine Go.slow (c := ⟨fn, n, .collected h.next :: ds, dk, none, rst⟩) noJ_ok rfl (m := ⟨⟨fn, n, t, (match r.pending with | some c => .code c :: k | none => k), .collected h.next :: ds, .run, dk, none⟩ :: rst, h3⟩) ?_ (k3 h3 s2)
    show doEndLoop ⟨fn, n, t, .endRangeFunc h1.next :: k, .collected h.next :: ds, .run, dk, none⟩ rst h' h1.next k = _
    unfold doEndLoop
    simp only [getLoop k1]
    cases hs : r.state with
    | busy => exact absurd hs k2
    | _ => simp only [s1]; cases r.pending <;> rfl
/-- What a loop over a function left to be done at the end. -/
theorem FLeft.collected {f n : Nat} {ds : List ADef} {dk : Bool} {rd : Option Nat} {rest : List AFr} {t : Tr AVal} {h : AH} {Q : AM → Prop} {mode : AMode} {b : Nat} {calls : List ADef} (hm : mode ≠ .run) (hb : Has h b (.deferred (some calls)))
    (g : ∀ h', Upd h b (.deferred none) h' → FLeft P ⟨f, n, calls ++ ds, dk, rd, rest⟩ mode t h' Q) : FLeft P ⟨f, n, .collected b :: ds, dk, rd, rest⟩ mode t h Q := by
  intro todo
  obtain ⟨h', q1, q2⟩ := set_upd h b (.deferred none)
  have he : aUnwind P ⟨f, n, t, todo, .collected b :: ds, mode, dk, rd⟩ rest h = some ⟨⟨f, n, t, todo, calls ++ ds, mode, dk, rd⟩ :: rest, h'⟩ := by
    unfold aUnwind
    simp only [hb.2, q1]
  refine Reach.step noJ_ok (m' := ⟨⟨f, n, t, todo, calls ++ ds, mode, dk, rd⟩ :: rest, h'⟩) ?_ (g h' q2 todo)
  cases mode with
  | run => exact absurd rfl hm
  | _ => exact he

/-- A call of a function value, or of what a loop hands to an iterator. -/
noncomputable def callY (P : Program) (y : AVal) (args : List AVal) (h : AH) : Option ANext :=
  match y with
  | .func fn first cap => aInvoke P fn cap (first ++ args) h
  | .yield l => some (.round l args h)
  | _ => none

theorem aOp_callY {t : Tr AVal} {h : AH} {dst : Option Tmp} {tt : TypeId} {pos : String} {after : Array Edge} {guard : Option (Nat × Bool)} {f : Operand} {xs : Array Operand} {tys : Array TypeId} {y : AVal} {args : List AVal} {x : ANext} (hf : ev t f = some y) (ha : evs t xs.toList = some args) (hc : callY P y args h = some x) :
    aOp P t h ⟨dst, .call ⟨.value f, xs, tys⟩, tt, pos, after, guard⟩ = some x := by
  show opCall P t h ⟨.value f, xs, tys⟩ tt = _
  unfold opCall
  rw [ha]
  simp only [callWith, hf]
  cases y <;> first | exact hc | cases hc

/-- All but some cells of some blocks that were there are as they were. -/
def ExtS (S : List Nat) (h h' : AH) : Prop := h.next ≤ h'.next ∧ ∀ b, b < h.next → b ∉ S → h'.get b = h.get b
theorem ExtS.of {S : List Nat} {h h' : AH} (e : Ext h h') : ExtS S h h' := ⟨e.1, fun b hb _ => e.2 b hb⟩
theorem ExtS.trans {S : List Nat} {a b c : AH} (h : ExtS S a b) (k : ExtS S b c) : ExtS S a c := ⟨Nat.le_trans h.1 k.1, fun x hx hS => by rw [k.2 x (Nat.lt_of_lt_of_le hx h.1) hS, h.2 x hx hS]⟩
theorem Has.extS {S : List Nat} {h h' : AH} {b : Nat} {o : ABlk} (k : Has h b o) (e : ExtS S h h') (hb : b ∉ S) : Has h' b o := ⟨Nat.lt_of_lt_of_le k.1 e.1, by rw [e.2 b k.1 hb]; exact k.2⟩

/-- Only blocks of F, of those that were there, change. -/
def ExtF (F : Nat → Prop) (h h' : AH) : Prop := h.next ≤ h'.next ∧ ∀ b, b < h.next → ¬ F b → h'.get b = h.get b
theorem ExtF.of {F : Nat → Prop} {h h' : AH} (e : Ext h h') : ExtF F h h' := ⟨e.1, fun b hb _ => e.2 b hb⟩
theorem Has.extF {F : Nat → Prop} {h h' : AH} {b : Nat} {o : ABlk} (k : Has h b o) (e : ExtF F h h') (hb : ¬ F b) : Has h' b o := ⟨Nat.lt_of_lt_of_le k.1 e.1, by rw [e.2 b k.1 hb]; exact k.2⟩
/-- What may change later: only what may change now, or is newer. -/
theorem ExtF.trans {F F' : Nat → Prop} {a b c : AH} (h : ExtF F a b) (hF : ∀ x, F' x → F x ∨ a.next ≤ x) (k : ExtF F' b c) : ExtF F a c :=
  ⟨Nat.le_trans h.1 k.1, fun x hx hn => by rw [k.2 x (Nat.lt_of_lt_of_le hx h.1) (fun q => (hF x q).elim hn (fun q => by omega)), h.2 x hx hn]⟩

/-- What an iterator may rely on: y takes the items one by one; J holds while it wants more, E once it wants none; these speak of blocks below base, and of those of F; only those of F may change. -/
structure Takes (P : Program) (base : Nat) (y : AVal) (items : List (List AVal)) (J E : Nat → AH → (Nat → Prop) → Prop) : Prop where
  ltJ : ∀ {k h F b}, J k h F → F b → b < h.next
  keepJ : ∀ {k h F h'}, J k h F → h.next ≤ h'.next → (∀ b, b < h.next → (b < base ∨ F b) → h'.get b = h.get b) → J k h' F
  ltE : ∀ {k h F b}, E k h F → F b → b < h.next
  keepE : ∀ {k h F h'}, E k h F → h.next ≤ h'.next → (∀ b, b < h.next → (b < base ∨ F b) → h'.get b = h.get b) → E k h' F
  take : ∀ {k item h F}, items[k]? = some item → J k h F → ∃ x, callY P y [.agg item] h = some x ∧ (∀ v h', x ≠ .val v h') ∧
    Does P x (fun en h' => ExtF F h h' ∧ ∃ F', (∀ b, F' b → F b ∨ h.next ≤ b) ∧ ((en = .ret (.bool true) ∧ J (k + 1) h' F') ∨ (en = .ret (.bool false) ∧ E k h' F')))

theorem Takes.ext {base : Nat} {y : AVal} {items : List (List AVal)} {J E : Nat → AH → (Nat → Prop) → Prop} (T : Takes P base y items J E) {k : Nat} {h h' : AH} {F : Nat → Prop} (j : J k h F) (e : Ext h h') : J k h' F := T.keepJ j e.1 fun b hb _ => e.2 b hb

/-- A slice that stays as it is as long as blocks from a number on do. -/
def FreshS (lo : Nat) (h : AH) (sz : Nat) (v : AVal) (L : List (List AVal)) : Prop := ∀ h', h.next ≤ h'.next → (∀ b, lo ≤ b → b < h.next → h'.get b = h.get b) → SliceOf h' sz v L
theorem FreshS.self {lo : Nat} {h : AH} {sz : Nat} {v : AVal} {L : List (List AVal)} (k : FreshS lo h sz v L) : SliceOf h sz v L := k h (Nat.le_refl _) fun _ _ _ => rfl
theorem FreshS.on {lo : Nat} {h h' : AH} {sz : Nat} {v : AVal} {L : List (List AVal)} (k : FreshS lo h sz v L) (n : h.next ≤ h'.next) (e : ∀ b, lo ≤ b → b < h.next → h'.get b = h.get b) : FreshS lo h' sz v L :=
  fun h2 n2 e2 => k h2 (Nat.le_trans n n2) fun b hb hb2 => by rw [e2 b hb (Nat.lt_of_lt_of_le hb2 n), e b hb hb2]
theorem Has.fresh {lo : Nat} {h h' : AH} {b : Nat} {o : ABlk} (k : Has h b o) (hb : lo ≤ b) (n : h.next ≤ h'.next) (e : ∀ b, lo ≤ b → b < h.next → h'.get b = h.get b) : Has h' b o := ⟨Nat.lt_of_lt_of_le k.1 n, by rw [e b hb k.1]; exact k.2⟩
theorem Grow.fresh {lo lo' : Nat} {h h' : AH} {el : TypeId} {sz : Nat} {s : AVal} {n : Nat} {cs : List AVal} (k : Grow h el sz lo' s n cs) (hl : lo ≤ lo') (hn : h.next ≤ h'.next) (e : ∀ b, lo ≤ b → b < h.next → h'.get b = h.get b) : Grow h' el sz lo' s n cs := by
  obtain ⟨k1, k2⟩ := k
  refine ⟨k1, ?_⟩
  rcases k2 with k2 | ⟨h0, b, h1, h2, h3⟩
  · exact .inl k2
  · exact .inr ⟨h0, b, h1, h2, h3.fresh (Nat.le_trans hl h1) hn e⟩
end
end Go.AbsE
