import Derived.Test.YtobhkdgcciolmaaGreatMAF
set_option linter.unusedSimpArgs false
namespace Go.AbsE
open Go
section
variable {P : Program} {t : Tr AVal} {h : AH} {dst : Option Tmp} {ty tt : TypeId} {pos : String} {after : Array Edge} {guard : Option (Nat × Bool)} {x y : Operand}
theorem splice_mid {α : Type} : ∀ {a x y c : List α}, x.length = y.length → splice (a ++ (x ++ c)) a.length y = some (a ++ (y ++ c)) := by
 intro a
 induction a with
 | nil =>
  intro x y c
  induction x generalizing y with
  | nil => intro h; cases y with | nil => cases c <;> rfl | cons b y => cases h
  | cons a x ih =>
   intro h
   cases y with
   | nil => cases h
   | cons b y =>
    have := ih (y := y) (by simpa using h)
    simp only [List.nil_append, List.length_nil] at this
    simp only [List.nil_append, List.cons_append, List.length_nil, splice, this]
 | cons b a ih =>
  intro x y c h
  simp only [List.cons_append, List.length_cons]
  unfold splice
  simp only [ih h]
theorem slice_flatten_app {sz : Nat} {ex : List AVal} : ∀ {L : List (List AVal)}, (∀ l, l ∈ L → l.length = sz) → ∀ i l, L[i]? = some l → slice? (L.flatten ++ ex) (i * sz) sz = some l := by
 intro L h i l hl
 have hlt := (List.getElem?_eq_some_iff.1 hl).1
 have := slice_flatten h i l hl
 simp only [slice?] at this ⊢
 have hfl := flatten_len h
 have hle : (i + 1) * sz ≤ L.flatten.length := by rw [hfl]; exact Nat.mul_le_mul_right _ hlt
 rw [Nat.add_mul, Nat.one_mul] at hle
 have e : List.take sz (List.drop (i * sz) (L.flatten ++ ex)) = List.take sz (List.drop (i * sz) L.flatten) := by
  rw [List.drop_append_of_le_length (by omega), List.take_append_of_le_length (by rw [List.length_drop]; omega)]
 rw [e]
 exact this
inductive OpenS (h : AH) (el : TypeId) (sz : Nat) : AVal → List (List AVal) → Nat → Prop
 | plain {b cap : Nat} {L : List (List AVal)} {ex : List AVal} (hb : Has h b (.cells .plain (L.flatten ++ ex) el)) (hc : (L.flatten ++ ex).length = cap * sz) (hsz : ∀ l, l ∈ L → l.length = sz) (hle : L.length ≤ cap) : OpenS h el sz (.slice b 0 L.length cap) L b
 | grow {b : Nat} {L : List (List AVal)} {ex : List AVal} (hb : Has h b (.cells .grow (L.flatten ++ ex) el)) (hsz : ∀ l, l ∈ L → l.length = sz) : OpenS h el sz (.gsl b 0 0 L.length) L b
variable {el : TypeId} {sz : Nat} {v : AVal} {L : List (List AVal)} {b : Nat} {h' : AH}
theorem OpenS.sliceOf (k : OpenS h el sz v L b) : SliceOf h sz v L := by
 cases k with
 | plain hb hc hsz hle => exact SliceOf.mk' rfl rfl hb rfl fun i l q => by rw [Nat.zero_add]; exact slice_flatten_app hsz i l q
 | grow hb hsz => exact SliceOf.mk' rfl rfl hb rfl fun i l q => by rw [Nat.zero_add]; exact slice_flatten_app hsz i l q
theorem OpenS.lt (k : OpenS h el sz v L b) : b < h.next := by
 cases k with
 | plain hb _ _ _ => exact hb.1
 | grow hb _ => exact hb.1
theorem OpenS.same (k : OpenS h el sz v L b) (hn : h.next ≤ h'.next) (e : h'.get b = h.get b) : OpenS h' el sz v L b := by
 have hh : ∀ {o}, Has h b o → Has h' b o := fun q => ⟨Nat.lt_of_lt_of_le q.1 hn, by rw [e]; exact q.2⟩
 cases k with
 | plain hb hc hsz hle => exact .plain (hh hb) hc hsz hle
 | grow hb hsz => exact .grow (hh hb) hsz
theorem OpenS.cells (k : OpenS h el sz v L b) : v.cells = [v] ∧ scalars [v] = true ∧ sameA v v = true := by
 cases k with
 | plain => exact ⟨rfl, rfl, by simp [sameA]⟩
 | grow => exact ⟨rfl, rfl, by simp [sameA]⟩
theorem OpenS.cut (k : OpenS h el sz v L b) (hu : P.underlying ty = some (.slice el)) (hs : sizeT P el = some sz) (hsz0 : 0 < sz) {i : Nat} (hx : ev t x = some v) (hy : ev t y = some (.int .i64 (Int.ofNat i))) (hi : i ≤ L.length) :
  ∃ v', aOp P t h ⟨dst, .slice ty x none (some y) none, tt, pos, after, guard⟩ = some (.val v' h) ∧ OpenS h el sz v' (L.take i) b := by
 have hsp : L.flatten = (L.take i).flatten ++ (L.drop i).flatten := by rw [← List.flatten_append, List.take_append_drop]
 have hop : aOp P t h ⟨dst, .slice ty x none (some y) none, tt, pos, after, guard⟩ = Go.AbsE.sliceOf P h sz v none (some (.int .i64 (Int.ofNat i))) := by
  show opSlice P t h ty x none (some y) = _
  unfold opSlice
  rw [hx]
  simp only [evO, hy, hu, hs]
 have hb1 : Nat.ble i L.length = true := Nat.ble_eq_true_of_le hi
 have hlen : (L.take i).length = i := by rw [List.length_take]; omega
 have hts : ∀ l, l ∈ L.take i → l ∈ L := fun l q => List.mem_of_mem_take q
 cases k with
 | @plain _ cap _ ex hb hc hsz hle =>
  refine ⟨.slice b 0 i cap, ?_, ?_⟩
  ·rw [hop]
   have hb2 : Nat.ble i cap = true := Nat.ble_eq_true_of_le (by omega)
   have hb3 : Nat.ble L.length cap = true := Nat.ble_eq_true_of_le hle
   simp only [Go.AbsE.sliceOf, Go.AbsE.cut, bound, aInt, hb2, hb3, cond_true, Nat.sub_zero, Nat.zero_mul, Nat.add_zero]
   cases Nat.beq 0 cap <;> rfl
  ·have := OpenS.plain (h := h) (el := el) (sz := sz) (b := b) (cap := cap) (L := L.take i) (ex := (L.drop i).flatten ++ ex) (by rw [← List.append_assoc, ← hsp]; exact hb) (by rw [← List.append_assoc, ← hsp]; exact hc) (fun l q => hsz l (hts l q)) (by omega)
   rw [hlen] at this
   exact this
 | @grow _ _ ex hb hsz =>
  refine ⟨.gsl b 0 0 i, ?_, ?_⟩
  ·rw [hop]
   have hfl : L.length * sz ≤ (L.flatten ++ ex).length := by rw [List.length_append, flatten_len hsz]; omega
   have b1 : Nat.beq 0 (0 * sz) = true := by simp
   have b2 : Nat.ble (0 + L.length * sz) (L.flatten ++ ex).length = true := Nat.ble_eq_true_of_le (by omega)
   have b3 : Nat.blt 0 sz = true := Nat.ble_eq_true_of_le hsz0
   have b4 : eqSize P el sz = true := by unfold eqSize; rw [hs]; simp
   have b5 : Nat.beq 0 0 = true := rfl
   simp only [Go.AbsE.sliceOf, Go.AbsE.cut, bound, aInt, hb1, cond_true, hb.2, b1, b2, b3, b4, b5]
  ·have := OpenS.grow (h := h) (el := el) (sz := sz) (b := b) (L := L.take i) (ex := (L.drop i).flatten ++ ex) (by rw [← List.append_assoc, ← hsp]; exact hb) (fun l q => hsz l (hts l q))
   rw [hlen] at this
   exact this
theorem OpenS.append (k : OpenS h el sz v L b) {t1 t2 el2 : TypeId} {bytes b2 : Nat} {z : AVal} {new : List AVal} {g0 : Kd} (hu1 : P.underlying t1 = some (.slice el)) (hu2 : P.underlying t2 = some (.slice el2)) (hs : sizeT P el = some sz) (hby : bytesT P el = some bytes) (hz : zeroT P el = some z) (hzl : Nat.beq z.cells.length sz = true) (hsz0 : Nat.blt 0 sz = true)
  (hx : ev t x = some v) (hy : ev t y = some (.slice b2 0 1 1)) (hb2 : Has h b2 (.cells g0 new el2)) (hnl : new.length = sz) (hns : scalars new = true) (hroom : (L.length + 301) * 2 * (bytes + 1) < 281474976710656) :
  ∃ v' h1 b', aOp P t h ⟨dst, .call ⟨.builtin .append, #[x, y], #[t1, t2]⟩, tt, pos, after, guard⟩ = some (.val v' h1) ∧ ExtF (fun q => q = b) h h1 ∧ OpenS h1 el sz v' (L ++ [new]) b' ∧ (b' = b ∨ h.next ≤ b') := by
 have hsrc : srcCells h sz 1 (.slice b2 0 1 1) = some new := by
  simp only [srcCells, loadCells, hb2.2, Nat.one_mul]
  exact slice_all hnl
 have hlt : Nat.blt ((L.length + 1 + 300) * 2 * (bytes + 1)) 281474976710656 = true := Nat.ble_eq_true_of_le hroom
 have hop : ∀ {y'}, aAppend P h t1 t2 v (.slice b2 0 1 1) = some y' → aOp P t h ⟨dst, .call ⟨.builtin .append, #[x, y], #[t1, t2]⟩, tt, pos, after, guard⟩ = some y' := by
  intro y' q
  show opCall P t h ⟨.builtin .append, #[x, y], #[t1, t2]⟩ tt = _
  have he : evs t [x, y] = some [v, .slice b2 0 1 1] := by simp only [evs, mapO, hx, hy]
  simp only [opCall, he, callWith, aBuiltin, q]
 have hsz1 : ∀ {L : List (List AVal)}, (∀ l, l ∈ L → l.length = sz) → ∀ l, l ∈ L ++ [new] → l.length = sz := fun hsz l q => by
  rw [List.mem_append] at q
  rcases q with q | q
  ·exact hsz l q
  ·simp at q; subst q; exact hnl
 have hfa : ∀ {ex : List AVal}, L.flatten ++ (new ++ ex) = (L ++ [new]).flatten ++ ex := by simp
 have grown : ∀ {h2 : AH}, (∀ q, q ≠ b → h2.get q = h.get q) → h2.next = h.next → ∃ h1, growNew h2 el (L.flatten ++ new) (L.length + 1) = some (.val (.gsl h2.next 0 0 (L.length + 1)) h1) ∧ ExtF (fun q => q = b) h h1 ∧ (∀ (_ : ∀ l, l ∈ L → l.length = sz), OpenS h1 el sz (.gsl h2.next 0 0 (L.length + 1)) (L ++ [new]) h2.next) := by
  intro h2 k1 k2
  obtain ⟨h1, q⟩ := new_some h2 (.cells .grow (L.flatten ++ new) el)
  obtain ⟨_, q2, q3⟩ := new_ext q
  refine ⟨h1, by simp only [growNew, q], ⟨by have := q2.1; omega, fun c hc hn => by rw [q2.2 c (by omega), k1 c hn]⟩, fun hsz => ?_⟩
  have := OpenS.grow (h := h1) (el := el) (sz := sz) (b := h2.next) (L := L ++ [new]) (ex := []) (by simpa using q3) (hsz1 hsz)
  rw [List.length_append, List.length_singleton] at this
  exact this
 cases k with
 | @plain _ cap _ ex hb hc hsz hle =>
  have hfl := flatten_len hsz
  by_cases hcap : L.length + 1 ≤ cap
  ·have hexl : sz ≤ ex.length := by
    have : (L.length + 1) * sz ≤ cap * sz := Nat.mul_le_mul_right _ hcap
    rw [List.length_append, hfl] at hc
    rw [Nat.add_mul] at this
    omega
   have hcs : L.flatten ++ ex = L.flatten ++ (ex.take sz ++ ex.drop sz) := by rw [List.take_append_drop]
   have hsp := splice_mid (a := L.flatten) (x := ex.take sz) (y := new) (c := ex.drop sz) (by rw [List.length_take, hnl]; omega)
   rw [← hcs, hfl] at hsp
   obtain ⟨h1, q1, q2⟩ := storeCells_has (vs := new) hb rfl hns (show splice (L.flatten ++ ex) (0 + L.length * sz) new = _ by rw [Nat.zero_add]; exact hsp)
   refine ⟨.slice b 0 (L.length + 1) cap, h1, b, hop ?_, ⟨by rw [q2.1]; exact Nat.le_refl _, fun c _ hn => q2.2.2 c hn⟩, ?_, .inl rfl⟩
   ·unfold aAppend
    rw [hu1, hu2]
    simp only [hs, hby, hz, lenA, hsrc, hlt, hsz0, hzl, cond_true, appSlice, show Nat.ble (L.length + 1) cap = true from Nat.ble_eq_true_of_le hcap, q1]
   ·have := OpenS.plain (h := h1) (el := el) (sz := sz) (b := b) (cap := cap) (L := L ++ [new]) (ex := ex.drop sz) (by rw [← hfa]; exact q2.has hb) (by rw [← hfa, ← hc, hcs]; simp only [List.length_append, List.length_take, List.length_drop, hnl]; omega) (hsz1 hsz) (by simpa using hcap)
    rw [List.length_append, List.length_singleton] at this
    exact this
  ·obtain ⟨h1, q1, q2, q3⟩ := grown (h2 := h) (fun _ _ => rfl) rfl
   refine ⟨_, h1, h.next, hop ?_, q2, q3 hsz, .inr (Nat.le_refl _)⟩
   have hold : srcCells h sz L.length (.slice b 0 L.length cap) = some L.flatten := by
    simp only [srcCells, loadCells, hb.2]
    unfold slice?
    simp only [List.drop_zero]
    rw [List.take_append_of_le_length (by omega), List.take_of_length_le (by omega)]
    simp [hfl]
   have : Nat.ble (L.length + 1) cap = false := by
    cases hq : Nat.ble (L.length + 1) cap with
    | false => rfl
    | true => exact absurd (Nat.le_of_ble_eq_true hq) hcap
   unfold aAppend
   rw [hu1, hu2]
   simp only [hs, hby, hz, lenA, hsrc, hlt, hsz0, hzl, cond_true, appSlice, this, cond_false, hold, q1]
 | @grow _ _ ex hb hsz =>
  have hfl := flatten_len hsz
  have b1 : Nat.beq 0 (0 * sz) = true := by simp
  have b2' : eqSize P el sz = true := by unfold eqSize; rw [hs]; simp
  have b3 : Nat.beq el el = true := by simp
  have b0 : Nat.beq 0 0 = true := rfl
  by_cases hcap : (L.length + 1) * sz ≤ (L.flatten ++ ex).length
  ·have hexl : sz ≤ ex.length := by
    rw [List.length_append, hfl, Nat.add_mul] at hcap
    omega
   have hcs : L.flatten ++ ex = L.flatten ++ (ex.take sz ++ ex.drop sz) := by rw [List.take_append_drop]
   have hsp := splice_mid (a := L.flatten) (x := ex.take sz) (y := new) (c := ex.drop sz) (by rw [List.length_take, hnl]; omega)
   rw [← hcs, hfl] at hsp
   obtain ⟨h1, q1, q2⟩ := storeCells_has (vs := new) hb rfl hns (show splice (L.flatten ++ ex) (0 + L.length * sz) new = _ by rw [Nat.zero_add]; exact hsp)
   refine ⟨.gsl b 0 0 (L.length + 1), h1, b, hop ?_, ⟨by rw [q2.1]; exact Nat.le_refl _, fun c _ hn => q2.2.2 c hn⟩, ?_, .inl rfl⟩
   ·unfold aAppend
    rw [hu1, hu2]
    simp only [hs, hby, hz, lenA, hsrc, hlt, hsz0, hzl, cond_true]
    unfold appGsl
    rw [hb.2]
    simp only [b1, b2', b3, cond_true, show Nat.ble (0 + (L.length + 1) * sz) (L.flatten ++ ex).length = true from Nat.ble_eq_true_of_le (by omega), q1]
   ·have := OpenS.grow (h := h1) (el := el) (sz := sz) (b := b) (L := L ++ [new]) (ex := ex.drop sz) (by rw [← hfa]; exact q2.has hb) (hsz1 hsz)
    rw [List.length_append, List.length_singleton] at this
    exact this
  ·obtain ⟨h2, hset⟩ : ∃ h2, h.set b none = some h2 := by obtain ⟨tt, nx⟩ := h; exact ⟨_, rfl⟩
   obtain ⟨s1, s2⟩ := AH.get_set hset
   obtain ⟨h1, q1, q2, q3⟩ := grown (h2 := h2) (fun q hn => by rw [s2, if_neg hn]) s1
   refine ⟨_, h1, h2.next, hop ?_, q2, q3 hsz, .inr (by omega)⟩
   have hold : srcCells h sz L.length (.gsl b 0 0 L.length) = some L.flatten := by
    simp only [srcCells, loadCells, hb.2]
    unfold slice?
    simp only [List.drop_zero]
    rw [List.take_append_of_le_length (by omega), List.take_of_length_le (by omega)]
    simp [hfl]
   have : Nat.ble (0 + (L.length + 1) * sz) (L.flatten ++ ex).length = false := by
    cases hq : Nat.ble (0 + (L.length + 1) * sz) (L.flatten ++ ex).length with
    | false => rfl
    | true => exact absurd (Nat.le_of_ble_eq_true hq) (by omega)
   unfold aAppend
   rw [hu1, hu2]
   simp only [hs, hby, hz, lenA, hsrc, hlt, hsz0, hzl, cond_true]
   unfold appGsl
   rw [hb.2]
   simp only [b1, b2', b3, b0, cond_true, this, cond_false, hns, hold, hset, q1]
end
end Go.AbsE

set_option linter.unusedSimpArgs false
namespace Go.AbsE
open Go
section
variable {P : Program} {c : FC} {k : List AItem} {Q : AM → Prop} {all : Array Oper} {pl rest : List DOp} {tf ta ta' : Tr AVal} {facts : List DFact} {h h1 : AH} {i bef : Nat} {o : Oper} {lit : Bool} {v : AVal}
def GoE (P : Program) (c : FC) (k : List AItem) (Q : AM → Prop) (all : Array Oper) (pl : List DOp) (tf : Tr AVal) (facts : List DFact) (ta : Tr AVal) (h : AH) : Prop := GoR P noJ c k Q ((runC P c.n all pl).run tf facts ta h)
theorem Go.drawnE {id : Nat} {t : Tr AVal} (hp : plan all = some pl) (g : GoE P c k Q all pl (eraseT all.toList t) [] t h) : Go P c (.code (.region id all true) :: k) t h Q := by
 refine Go.code noJ_ok ?_
 show GoR P noJ c k Q ((runDrawn P c.n all).run t h)
 unfold runDrawn
 rw [hp]
 exact g
theorem GoE.end (hl : pl = []) (g : Go P c k ta h Q) : GoE P c k Q all pl tf facts ta h := by
 subst hl
 exact g
theorem GoE.quietX {dst : Option Tmp} {op : Op} {tt : TypeId} {pos : String} {after : Array Edge} {guard : Option (Nat × Bool)} (hl : pl = ⟨i, bef, true, ⟨dst, op, tt, pos, after, guard⟩, lit⟩ :: rest) (hw : wantedA all ta ⟨dst, op, tt, pos, after, guard⟩ = some true) (hx : aOpX P lit ta h ⟨dst, op, tt, pos, after, guard⟩ = some (.val v h1)) (hd : (prepD c.n ⟨dst, op, tt, pos, after, guard⟩).run ta v = some ta')
  (g : GoE P c k Q all rest tf (⟨i, ⟨dst, op, tt, pos, after, guard⟩, v, ta, lit⟩ :: facts) ta' h1) : GoE P c k Q all pl tf facts ta h := by
 subst hl
 unfold GoE
 rw [runC_cons, hw]
 show GoR P noJ c k Q ((goQuiet c.n ⟨i, bef, true, ⟨dst, op, tt, pos, after, guard⟩, lit⟩ (runC P c.n all rest)).run tf facts ta h (aOpX P lit ta h ⟨dst, op, tt, pos, after, guard⟩))
 rw [hx]
 show GoR P noJ c k Q ((goOn (runC P c.n all rest)).run tf (⟨i, ⟨dst, op, tt, pos, after, guard⟩, v, ta, lit⟩ :: facts) h1 ((prepD c.n ⟨dst, op, tt, pos, after, guard⟩).run ta v))
 rw [hd]
 exact g
theorem GoE.quiet {dst : Option Tmp} {op : Op} {tt : TypeId} {pos : String} {after : Array Edge} {guard : Option (Nat × Bool)} (hl : pl = ⟨i, bef, true, ⟨dst, op, tt, pos, after, guard⟩, false⟩ :: rest) (hw : wantedA all ta ⟨dst, op, tt, pos, after, guard⟩ = some true) (hx : aOp P ta h ⟨dst, op, tt, pos, after, guard⟩ = some (.val v h1)) (hd : (prepD c.n ⟨dst, op, tt, pos, after, guard⟩).run ta v = some ta')
  (g : GoE P c k Q all rest tf (⟨i, ⟨dst, op, tt, pos, after, guard⟩, v, ta, false⟩ :: facts) ta' h1) : GoE P c k Q all pl tf facts ta h := GoE.quietX hl hw hx hd g
theorem GoE.skip {q : Bool} (hl : pl = ⟨i, bef, q, o, lit⟩ :: rest) (hw : wantedA all ta o = some false) (hd : (prepD c.n o).run ta undefA = some ta')
  (g : GoE P c k Q all rest tf facts ta' h) : GoE P c k Q all pl tf facts ta h := by
 subst hl
 unfold GoE
 rw [runC_cons, hw]
 show GoR P noJ c k Q ((goOn (runC P c.n all rest)).run tf facts h ((prepD c.n o).run ta undefA))
 rw [hd]
 exact g
theorem GoE.noisy {dst : Option Tmp} {op : Op} {tt : TypeId} {pos : String} {after : Array Edge} {guard : Option (Nat × Bool)} {left : List DFact} (hl : pl = ⟨i, bef, false, ⟨dst, op, tt, pos, after, guard⟩, lit⟩ :: rest) (hw : wantedA all ta ⟨dst, op, tt, pos, after, guard⟩ = some true) (hx : aOpX P lit ta h ⟨dst, op, tt, pos, after, guard⟩ = some (.val v h1)) (hleft : dropF bef facts = left) (hr : recheck P h1 left = true) (hd : (prepD c.n ⟨dst, op, tt, pos, after, guard⟩).run ta v = some ta')
  (g : GoE P c k Q all rest tf left ta' h1) : GoE P c k Q all pl tf facts ta h := by
 subst hl hleft
 unfold GoE
 rw [runC_cons, hw]
 show GoR P noJ c k Q ((goNoisy P c.n all ⟨i, bef, false, ⟨dst, op, tt, pos, after, guard⟩, lit⟩ rest (runC P c.n all rest)).run tf facts ta h (aOpX P lit ta h ⟨dst, op, tt, pos, after, guard⟩))
 rw [hx]
 show GoR P noJ c k Q ((checked P (goOn (runC P c.n all rest))).run tf (dropF bef facts) h1 ((prepD c.n ⟨dst, op, tt, pos, after, guard⟩).run ta v))
 rw [hd]
 show GoR P noJ c k Q (cond (recheck P h1 (dropF bef facts)) ((goOn (runC P c.n all rest)).run tf (dropF bef facts) h1 (some ta')) (.stuck 23))
 rw [hr]
 exact g
theorem dropF_keep {bef : Nat} {f : DFact} {l l' : List DFact} (h : bit? bef f.i = false) (k : dropF bef l = l') : dropF bef (f :: l) = f :: l' := by
 unfold dropF
 rw [h, k]
 rfl
theorem dropF_drop {bef : Nat} {f : DFact} {l l' : List DFact} (h : bit? bef f.i = true) (k : dropF bef l = l') : dropF bef (f :: l) = l' := by
 unfold dropF
 rw [h, k]
 rfl
theorem recheck_nil : recheck P h [] = true := rfl
theorem recheck_consX {dst : Option Tmp} {op : Op} {tt : TypeId} {pos : String} {after : Array Edge} {guard : Option (Nat × Bool)} {t : Tr AVal} {h2 : AH} {l l0 : List DFact} (hl : l0 = ⟨i, ⟨dst, op, tt, pos, after, guard⟩, v, t, lit⟩ :: l) (hx : aOpX P lit t h ⟨dst, op, tt, pos, after, guard⟩ = some (.val v h2)) (hs : sameA v v = true) (hr : recheck P h l = true) : recheck P h l0 = true := by
 subst hl
 unfold recheck
 simp only [hx, hs, hr, cond_true]
theorem recheck_cons {dst : Option Tmp} {op : Op} {tt : TypeId} {pos : String} {after : Array Edge} {guard : Option (Nat × Bool)} {t : Tr AVal} {h2 : AH} {l l0 : List DFact} (hl : l0 = ⟨i, ⟨dst, op, tt, pos, after, guard⟩, v, t, false⟩ :: l) (hx : aOp P t h ⟨dst, op, tt, pos, after, guard⟩ = some (.val v h2)) (hs : sameA v v = true) (hr : recheck P h l = true) : recheck P h l0 = true := recheck_consX hl hx hs hr
theorem GoE.call {left : List DFact} {f : FuncId} {args : List AVal} {R : AEnd → AH → Prop} (hl : pl = ⟨i, bef, false, o, lit⟩ :: rest) (hw : wantedA all ta o = some true) (hx : aOpX P lit ta h o = some (.enter f args h)) (hr : Runs P f args h R) (hleft : dropF bef facts = left)
  (hret : ∀ v h', R (.ret v) h' → recheck P h' left = true ∧ ∃ ta', (prepD c.n o).run ta v = some ta' ∧ GoE P c k Q all rest tf left ta' h') (hpan : ∀ chain h', ¬ R (.pan chain) h') :
  GoE P c k Q all pl tf facts ta h := by
 subst hl hleft
 unfold GoE
 rw [runC_cons, hw]
 show GoR P noJ c k Q ((goNoisy P c.n all ⟨i, bef, false, o, lit⟩ rest (runC P c.n all rest)).run tf facts ta h (aOpX P lit ta h o))
 rw [hx]
 show GoR P noJ c k Q (.susp [.waitDrawn all (⟨i, bef, false, o, lit⟩ :: rest) facts ta] tf (.enter f args h))
 obtain ⟨fr, hfr, hrun⟩ := hr
 refine ⟨⟨fr :: c.fr ([.waitDrawn all (⟨i, bef, false, o, lit⟩ :: rest) facts ta] ++ k) tf :: c.rest, h⟩, ?_, ?_⟩
 ·show enterJ P _ c.rest f args h none = _
  show one h (_ :: c.rest) (aFrame P f args false) = _
  rw [hfr]
  rfl
 ·refine Reach.call noJ_ok ⟨fr, hfr, hrun⟩ hfr (fun v h' hv => ?_) (fun chain h' hq => absurd hq (hpan chain h'))
  obtain ⟨e, ta', q1, q2⟩ := hret v h' hv
  refine ⟨c.fr (.inDrawn all rest (dropF bef facts) ta' :: k) tf, ?_, Go.inDrawn noJ_ok ?_⟩
  ·show AFr.finishRun c.fn c.n tf (.waitDrawn all (⟨i, bef, false, o, lit⟩ :: rest) facts ta :: k) c.ds c.dk c.rd v = _
   unfold AFr.finishRun
   simp only [q1]
   rfl
  ·unfold againD
   rw [e]
   exact q2
theorem GoE.store {left : List DFact} {ty : TypeId} {a x : Operand} {b off n : Nat} {g0 : Kd} {cs cs' : List AVal} {el : TypeId} (hl : pl = ⟨i, bef, false, o, false⟩ :: rest) (hw : wantedA all ta o = some true)
  (ho : o.op = .store ty a x) (hd : o.dst = none) (hleft : dropF bef facts = left) (ha : ev ta a = some (.ptr b off)) (hx : ev ta x = some v) (hb : Has h b (.cells g0 cs el)) (hg : g0.isRo = false)
  (hsz : sizeT P ty = some n) (hvl : Nat.beq v.cells.length n = true) (hs : scalars v.cells = true) (hsp : splice cs off v.cells = some cs')
  (g : ∀ h1, Upd h b (.cells g0 cs' el) h1 → recheck P h1 left = true ∧ GoE P c k Q all rest tf left ta h1) : GoE P c k Q all pl tf facts ta h := by
 obtain ⟨h1, q1, q2⟩ := storeCells_has hb hg hs hsp
 obtain ⟨g1, g2⟩ := g h1 q2
 obtain ⟨dst, op, type, pos, after, guard⟩ := o
 refine GoE.noisy (v := undefA) (h1 := h1) hl hw ?_ hleft g1 ?_ g2
 ·dsimp only at ho
  subst ho
  show opStore P ta h ty a x = _
  unfold opStore
  rw [ha, hx]
  unfold storeVar
  simp only [hsz, hvl, cond_true, q1]
 ·unfold prepD
  rw [hd]
end
end Go.AbsE

set_option linter.unusedSimpArgs false
namespace Go.AbsE
open Go
section
variable {P : Program} {J : Jump}
theorem GoR.jump {c : FC} {k : List AItem} {Q : AM → Prop} {all : Array Oper} {l : List Oper} {o : Oper} {rest : List Oper} {i : Nat} {t t' : Tr AVal} {h : AH} {f : FuncId} {args : List AVal} {v : AVal} (hJ : JOk P J) (hl : l = o :: rest)
  (hw : wantedA all t o = some true) (hx : aOp P t h o = some (.enter f args h)) (hj : J.run f args h = some v) (hd : (prepD c.n o).run t v = some t') (g : GoR P J c k Q (runOps P c.n all rest (i + 1) t' h)) :
  GoR P J c k Q (runOps P c.n all l i t h) := by
 subst hl
 have hs : runOps P c.n all (o :: rest) i t h = .susp [.inRegion all i (o :: rest)] t (.enter f args h) := by
  rw [runOps_cons, hw]
  show (afterP c.n i all o rest (runOpsP P c.n all rest (i + 1))).run t (aOp P t h o) = _
  rw [hx]
  rfl
 rw [hs]
 refine ⟨⟨c.fr (.inRegion all (i + 1) rest :: k) t' :: c.rest, h⟩, ?_, Go.inRegion hJ g⟩
 show enterJ P _ c.rest f args h (J.run f args h) = _
 rw [hj]
 show one h c.rest (AFr.finish _ v) = _
 have : AFr.finish (c.fr ([.inRegion all i (o :: rest)] ++ k) t) v = some (c.fr (.inRegion all (i + 1) rest :: k) t') := by
  show AFr.finishRun c.fn c.n t (.inRegion all i (o :: rest) :: k) c.ds c.dk c.rd v = _
  unfold AFr.finishRun
  simp only [hd]
  rfl
 rw [this]
 rfl
end
end Go.AbsE

set_option linter.unusedSimpArgs false
namespace Go.AbsE
open Go
section
variable {P : Program} {t : Tr AVal} {h h' : AH} {dst : Option Tmp} {ty tt : TypeId} {pos : String} {after : Array Edge} {guard : Option (Nat × Bool)} {x y : Operand}
theorem SliceOf.src {sz : Nat} {s : AVal} {L : List (List AVal)} (k : SliceOf h sz s L) : srcCells h sz L.length s = some L.flatten := by
 cases k with
 | nil => rfl
 | mk hs hn hb hL hz hc =>
  cases s <;> simp only [aSlElems, Option.some.injEq, Prod.mk.injEq, reduceCtorEq] at hs
  all_goals
   obtain ⟨rfl, rfl, rfl⟩ := hs
   simp only [srcCells]
   exact hc
def Copied (lo : Nat) (h : AH) (el : TypeId) (v : AVal) (L : List (List AVal)) : Prop := (L = [] ∧ v = .lit 0 []) ∨ (L ≠ [] ∧ ∃ b, lo ≤ b ∧ v = .gsl b 0 0 L.length ∧ Has h b (.cells .grow L.flatten el))
theorem Copied.same {lo : Nat} {el : TypeId} {v : AVal} {L : List (List AVal)} (k : Copied lo h el v L) (e : Ext h h') : Copied lo h' el v L := by
 rcases k with k | ⟨k, b, k1, k2, k3⟩
 ·exact .inl k
 ·exact .inr ⟨k, b, k1, k2, k3.ext e⟩
theorem aOp_copy {el el2 t1 t2 : TypeId} {sz bytes : Nat} {z s : AVal} {L : List (List AVal)} (hu1 : P.underlying t1 = some (.slice el)) (hu2 : P.underlying t2 = some (.slice el2)) (hs : sizeT P el = some sz) (hby : bytesT P el = some bytes) (hz : zeroT P el = some z) (hzl : Nat.beq z.cells.length sz = true) (hsz0 : Nat.blt 0 sz = true)
  (hx : ev t x = some (.lit 0 [])) (hy : ev t y = some s) (k : SliceOf h sz s L) (hl : ∀ l, l ∈ L → l.length = sz) (hroom : (L.length + 301) * 2 * (bytes + 1) < 281474976710656) :
  ∃ v h1, aOp P t h ⟨dst, .call ⟨.builtin .append, #[x, y], #[t1, t2]⟩, tt, pos, after, guard⟩ = some (.val v h1) ∧ Ext h h1 ∧ Copied h.next h1 el v L := by
 have hsrc := k.src
 have hlen := k.len
 have hlt : Nat.blt ((0 + L.length + 300) * 2 * (bytes + 1)) 281474976710656 = true := by
  refine Nat.ble_eq_true_of_le (Nat.lt_of_le_of_lt (Nat.mul_le_mul_right _ (Nat.mul_le_mul_right _ (by omega))) hroom)
 have hop : ∀ {y'}, aAppend P h t1 t2 (.lit 0 []) s = some y' → aOp P t h ⟨dst, .call ⟨.builtin .append, #[x, y], #[t1, t2]⟩, tt, pos, after, guard⟩ = some y' := by
  intro y' q
  show opCall P t h ⟨.builtin .append, #[x, y], #[t1, t2]⟩ tt = _
  have he : evs t [x, y] = some [.lit 0 [], s] := by simp only [evs, mapO, hx, hy]
  simp only [opCall, he, callWith, aBuiltin, q]
 have h0 : srcCells h sz 0 (.lit 0 []) = some [] := by simp [srcCells, slice?]
 by_cases hL : L = []
 ·subst hL
  refine ⟨.lit 0 [], h, hop ?_, Ext.refl _, .inl ⟨rfl, rfl⟩⟩
  unfold aAppend
  rw [hu1, hu2]
  simp only [hs, hby, hz, show lenA (.lit 0 []) = some 0 from rfl, hlen, hsrc, hlt, hsz0, hzl, cond_true]
  rfl
 ·obtain ⟨h1, q⟩ := new_some h (.cells .grow L.flatten el)
  obtain ⟨_, q2, q3⟩ := new_ext q
  have hb : Nat.beq L.length 0 = false := by
   cases hq : Nat.beq L.length 0 with
   | false => rfl
   | true => exact absurd (List.eq_nil_of_length_eq_zero (Nat.eq_of_beq_eq_true hq)) hL
  refine ⟨.gsl h.next 0 0 L.length, h1, hop ?_, q2, .inr ⟨hL, h.next, Nat.le_refl _, rfl, q3⟩⟩
  unfold aAppend
  rw [hu1, hu2]
  rw [Nat.zero_add] at hlt
  simp only [hs, hby, hz, show lenA (.lit 0 []) = some 0 from rfl, hlen, hsrc, hsz0, hzl, cond_true, hb, cond_false, h0, List.nil_append, Nat.zero_add, growNew, q, hlt]
theorem SliceOf.scal {sz : Nat} {s : AVal} {L : List (List AVal)} (k : SliceOf h sz s L) : scalars [s] = true ∧ s.cells = [s] := by
 cases k with
 | nil => exact ⟨rfl, rfl⟩
 | mk hs hn hb hL hz hc => cases s <;> simp only [aSlElems, reduceCtorEq] at hs <;> exact ⟨rfl, rfl⟩
variable {c : FC} {k : List AItem} {Q : AM → Prop} {all : Array Oper} {pl rest : List DOp} {tf ta : Tr AVal} {facts left : List DFact} {i bef d : Nat}
theorem GoE.noisy0 {ta' : Tr AVal} {h1 : AH} {v : AVal} {op : Op} (hl : pl = ⟨i, bef, false, ⟨dst, op, tt, pos, after, guard⟩, false⟩ :: rest) (hw : wantedA all ta ⟨dst, op, tt, pos, after, guard⟩ = some true) (hx : aOp P ta h ⟨dst, op, tt, pos, after, guard⟩ = some (.val v h1)) (hleft : dropF bef facts = left) (hr : recheck P h1 left = true) (hd : (prepD c.n ⟨dst, op, tt, pos, after, guard⟩).run ta v = some ta')
  (g : GoE P c k Q all rest tf left ta' h1) : GoE P c k Q all pl tf facts ta h := GoE.noisy hl hw hx hleft hr hd g
theorem prepD_some {n : Nat} {op : Op} {v : AVal} (hd : dst = some d) (hdn : Nat.blt d n = true) : (prepD n ⟨dst, op, tt, pos, after, guard⟩).run ta v = some (ta.put (pth d) (some v)) := by
 unfold prepD
 rw [show (⟨dst, op, tt, pos, after, guard⟩ : Oper).dst = some d from hd]
 simp only [hdn, cond_true]
 rw [Tr.mkPut_eq]
theorem GoE.copy {el el2 t1 t2 : TypeId} {sz bytes : Nat} {z s : AVal} {L : List (List AVal)} (hl : pl = ⟨i, bef, false, ⟨dst, .call ⟨.builtin .append, #[x, y], #[t1, t2]⟩, tt, pos, after, guard⟩, false⟩ :: rest) (hw : wantedA all ta ⟨dst, .call ⟨.builtin .append, #[x, y], #[t1, t2]⟩, tt, pos, after, guard⟩ = some true)
  (hu1 : P.underlying t1 = some (.slice el)) (hu2 : P.underlying t2 = some (.slice el2)) (hs : sizeT P el = some sz) (hby : bytesT P el = some bytes) (hz : zeroT P el = some z) (hzl : Nat.beq z.cells.length sz = true) (hsz0 : Nat.blt 0 sz = true)
  (hx : ev ta x = some (.lit 0 [])) (hy : ev ta y = some s) (hsl : SliceOf h sz s L) (hll : ∀ l, l ∈ L → l.length = sz) (hroom : (L.length + 301) * 2 * (bytes + 1) < 281474976710656) (hleft : dropF bef facts = left) (hd : dst = some d) (hdn : Nat.blt d c.n = true)
  (g : ∀ v h1, Ext h h1 → Copied h.next h1 el v L → recheck P h1 left = true ∧ GoE P c k Q all rest tf left (ta.put (pth d) (some v)) h1) : GoE P c k Q all pl tf facts ta h := by
 obtain ⟨v, h1, q1, q2, q3⟩ := aOp_copy (P := P) (dst := dst) (tt := tt) (pos := pos) (after := after) (guard := guard) hu1 hu2 hs hby hz hzl hsz0 hx hy hsl hll hroom
 obtain ⟨g1, g2⟩ := g v h1 q2 q3
 exact GoE.noisy0 hl hw q1 hleft g1 (prepD_some hd hdn) g2
end
end Go.AbsE

namespace Go.AbsE
open Go
section
variable {P : Program} {c : FC} {k : List AItem} {Q : AM → Prop} {J : Jump} (hJ : JOk P J)
include hJ
theorem Go.loopKeep' {α : Type} (L : α → List (Nat × AVal)) (I : Nat → α → AH → Prop) {x : Code} {t : Tr AVal} {h : AH} {n : Nat} (a : α) (k0 : keepOk t (L a)) (h0 : I n a h)
  (step : ∀ n a h, I n a h → (∀ m a' t' h', m < n → keepOk t' (L a') → I m a' h' → Go P c (.inLoop x :: k) t' h' Q) → Go P c (.code x :: .inLoop x :: k) (keepT (L a)) h Q) : Go P c (.code (.loop x) :: k) t h Q := by
 refine Go.keep (L a) k0 ?_
 refine Go.loop hJ ?_
 have key : ∀ n a h, I n a h → Go P c (.code x :: .inLoop x :: k) (keepT (L a)) h Q := by
  intro n
  induction n using Nat.strongRecOn with
  | ind n ih =>
   intro a h hI
   refine step n a h hI fun m a' t' h' hm hk hI' => ?_
   exact Go.inLoop hJ (Go.keep (L a') hk (ih m hm a' h' hI'))
 exact key n a h h0
end
theorem Go.loopKeep {P : Program} {c : FC} {k : List AItem} {Q : AM → Prop} {α : Type} (L : α → List (Nat × AVal)) (I : Nat → α → AH → Prop) {x : Code} {t : Tr AVal} {h : AH} {n : Nat} (a : α) (k0 : keepOk t (L a)) (h0 : I n a h)
  (step : ∀ n a h, I n a h → (∀ m a' t' h', m < n → keepOk t' (L a') → I m a' h' → Go P c (.inLoop x :: k) t' h' Q) → Go P c (.code x :: .inLoop x :: k) (keepT (L a)) h Q) : Go P c (.code (.loop x) :: k) t h Q := Go.loopKeep' noJ_ok L I a k0 h0 step
end Go.AbsE

set_option linter.unusedSimpArgs false
namespace Go.AbsE
open Go
theorem sameA_agg2 (a b : Int) : sameA (.agg [.int .i64 a, .int .i64 b]) (.agg [.int .i64 a, .int .i64 b]) = true := by simp [sameA, sameAs, eqI_eq]
section
variable {P : Program}
theorem Go.opAny {c : FC} {k : List AItem} {Q : AM → Prop} {all : Array Oper} {o : Oper} {rest : List Oper} {i : Nat} {t : Tr AVal} {h : AH} (Alt : AVal → AH → Prop)
  (hw : wantedA all t o = some true)
  (H : ∀ (w0 : Base) (e : Env) (W : World) (n : Nat) (T : Array Value), TRel e n t T → HR P w0 e h W → ∃ v h', Alt v h' ∧ OpSim P w0 e h W ((execOp (opd T) o).run P W) (.val v h'))
  (hk : ∀ v h', Alt v h' → ∃ t', (prepD c.n o).run t v = some t' ∧ Go P c (.inRegion all (i + 1) rest :: k) t' h' Q) :
  Go P c (.inRegion all i (o :: rest) :: k) t h Q := by
 intro w0 e W F Fr cs hF r
 have hF' : FRs P e (c.fr (.inRegion all i (o :: rest) :: k) t :: c.rest) (F :: Fr) := hF
 cases hF' with
 | cons h1 hFr =>
  have hm := run_mode h1
  have htd := h1.todo rfl
  obtain ⟨IT, K, q1, q2, q3⟩ := plain_head htd (fun _ _ _ _ q => by cases q) (fun _ _ _ _ q => by cases q)
  cases q2 with
  | inRegion ho =>
   have hlen : i < all.size := by
    have := congrArg List.length ho
    simp at this
    omega
   have hdrop : all.toList.drop i = all.toList[i]'(by simpa using hlen) :: all.toList.drop (i + 1) := List.drop_eq_getElem_cons _
   rw [hdrop] at ho
   injection ho with ho1 ho2
   have hoi : all[i]? = some o := by rw [ho1]; simp [hlen]
   have hrange : List.range' i (all.size - i) = i :: List.range' (i + 1) (all.size - (i + 1)) := by
    rw [show all.size - i = (all.size - (i + 1)) + 1 from by omega, List.range'_succ]
   have hwr := wanted_rel h1.tm hw
   obtain ⟨v, h', ha, e', V, W', s1, s2, s3, s4⟩ := H w0 e W c.n F.tmps h1.tm r
   obtain ⟨t', hd, g⟩ := hk v h' ha
   have hst := st_value (P := P) (b := F) (cs := Fr ++ cs) (W := W) hm (T := F.tmps) (k := K) hoi (rest := List.range' (i + 1) (all.size - (i + 1))) hwr s1
   obtain ⟨m2, h2, hs⟩ := g w0 e' W' (Frame.w F (match o.dst with | some d => F.tmps.setIfInBounds d V | none => F.tmps) (.inRegion all (List.range' (i + 1) (all.size - (i + 1))) :: K)) Fr cs
    (.cons (FR.todo_set (h1.mono s2) (prepD_rel (h1.tm.mono s2) s3 hd) (.plain (.cons (.inRegion ho2) (q3.mono s2)))) (hFr.mono s2)) s4
   rw [← hrange, ← Frame.w_self q1] at hst
   exact ⟨m2, h2, SS.head (.one hst) hs⟩
theorem Go.beginR {c : FC} {k : List AItem} {Q : AM → Prop} {id : Nat} {ops : Array Oper} {l : List Oper} {t : Tr AVal} {h : AH} (hl : ops.toList = l) (g : Go P c (.inRegion ops 0 l :: k) t h Q) : Go P c (.code (.region id ops false) :: k) t h Q := by
 subst hl
 refine Go.plain noJ_ok (fun _ _ _ _ q => by cases q) (fun _ _ _ _ q => by cases q) (fun e IT K a b => ?_) g
 cases a
 refine ⟨_, .cons (.inRegion (by simp)) b, fun F T cs W hm => ?_⟩
 rw [Nat.sub_zero, ← List.range_eq_range']
 exact .one (st_region hm)
theorem MRs.mem {e : Env} : ∀ {l : List AMapE} {m : List MapEntry}, MRs e l m → ∀ en, en ∈ m → ∃ a, a ∈ l ∧ a.key = en.key ∧ a.born = en.born ∧ VR e a.val en.val
 | _, _, .nil, en, h => by cases h
 | _, _, .cons hv hs, en, h => by
  rcases List.mem_cons.1 h with rfl | h
  ·exact ⟨_, List.mem_cons_self, rfl, rfl, hv⟩
  ·obtain ⟨a, q1, q2⟩ := MRs.mem hs en h
   exact ⟨a, List.mem_cons_of_mem _ q1, q2⟩
theorem MRs.mem' {e : Env} : ∀ {l : List AMapE} {m : List MapEntry}, MRs e l m → ∀ a, a ∈ l → ∃ en, en ∈ m ∧ a.born = en.born
 | _, _, .nil, en, h => by cases h
 | _, _, .cons hv hs, en, h => by
  rcases List.mem_cons.1 h with rfl | h
  ·exact ⟨_, List.mem_cons_self, rfl⟩
  ·obtain ⟨a, q1, q2⟩ := MRs.mem' hs en h
   exact ⟨a, List.mem_cons_of_mem _ q1, q2⟩
def left (ES : Array MapEntry) (seen : List Nat) : Array MapEntry := ES.filter fun e => !seen.toArray.contains e.born
theorem left_mem {ES : Array MapEntry} {seen : List Nat} {en : MapEntry} : en ∈ left ES seen ↔ en ∈ ES ∧ en.born ∉ seen := by
 simp [left]
theorem run_choose {α : Type} (q : Question) (k : Nat → Sem α) (W : World) : ∃ j W', (W' = W ∨ ∃ n, W' = { W with drawn := n }) ∧ (q.forced = true → j = 0) ∧ (q.forced = false → ∃ x, j = q.cut x) ∧ (Sem.choose q k).run P W = (k j).run P W' := by
 cases hq : q.forced with
 | true => exact ⟨0, W, .inl rfl, fun _ => rfl, fun h => (by cases h), by simp [Sem.run, hq]⟩
 | false => exact ⟨_, _, .inr ⟨_, rfl⟩, fun h => (by cases h), fun _ => ⟨_, rfl⟩, by simp [Sem.run, hq]; rfl⟩
theorem next_over {W : World} {B M since last clock : Nat} {seen : List Nat} {ES : Array MapEntry} {ty : TypeId} (h1 : W.heap[B]? = some (.mapIter (some M) since seen.toArray last)) (h2 : W.heap[M]? = some (.map ES clock))
  (hl : left ES seen = #[]) (hb : ∀ en, en ∈ ES → en.born < last) : (Instr.next (.pointer (some ⟨B, 0, none⟩)) false ty).run P W = .ok (.tuple #[.bool false]) W := by
 have hg : (!seen.toArray.isEmpty && !ES.isEmpty && ES.all (·.born ≥ last)) = false := by
  cases hE : ES.isEmpty with
  | true => simp
  | false =>
   have : ES.all (·.born ≥ last) = false := by
    rw [Array.all_eq_false]
    have hne : 0 < ES.size := by
     rcases Nat.eq_zero_or_pos ES.size with q | q
     ·simp [Array.isEmpty, q] at hE
     ·exact q
    exact ⟨0, hne, by have := hb _ (Array.getElem_mem hne); simp; omega⟩
   rw [this]; simp
 unfold left at hl
 simp only [Instr.next, Sem.run_bind', getObj, Sem.run, h1, h2, hg, hl]
 simp [Sem.run_bind', choose, Sem.run, Question.forced, run_pure']
theorem next_more {W : World} {B M since last clock : Nat} {seen : List Nat} {ES : Array MapEntry} {ty : TypeId} (h1 : W.heap[B]? = some (.mapIter (some M) since seen.toArray last)) (h2 : W.heap[M]? = some (.map ES clock))
  (hl : left ES seen ≠ #[]) (hb : ∀ en, en ∈ ES → en.born < last) (hs : ∀ en, en ∈ ES → en.born < since) :
  ∃ en W', en ∈ left ES seen ∧ (W' = W ∨ ∃ n, W' = { W with drawn := n }) ∧ (Instr.next (.pointer (some ⟨B, 0, none⟩)) false ty).run P W = .ok (.tuple #[.bool true, en.key, en.val]) (World.upd W' B (.mapIter (some M) since (seen ++ [en.born]).toArray clock)) := by
 have hg : (!seen.toArray.isEmpty && !ES.isEmpty && ES.all (·.born ≥ last)) = false := by
  cases hE : ES.isEmpty with
  | true => simp
  | false =>
   have : ES.all (·.born ≥ last) = false := by
    rw [Array.all_eq_false]
    have hne : 0 < ES.size := by
     rcases Nat.eq_zero_or_pos ES.size with q | q
     ·simp [Array.isEmpty, q] at hE
     ·exact q
    exact ⟨0, hne, by have := hb _ (Array.getElem_mem hne); simp; omega⟩
   rw [this]; simp
 have ho : (left ES seen).filter (·.born < since) = left ES seen := by
  rw [Array.filter_eq_self]
  intro a ha
  have := hs a (left_mem.1 ha).1
  simpa using this
 have hn : (left ES seen).filter (·.born ≥ since) = #[] := by
  rw [Array.filter_eq_empty_iff]
  intro a ha
  have := hs a (left_mem.1 ha).1
  simp; omega
 have hne : (left ES seen).isEmpty = false := by
  cases q : (left ES seen).isEmpty with
  | true => exact absurd (Array.isEmpty_iff.1 q) hl
  | false => rfl
 have hsz : 0 < (left ES seen).size := by
  rcases Nat.eq_zero_or_pos (left ES seen).size with q | q
  ·exact absurd (Array.eq_empty_of_size_eq_zero q) hl
  ·exact q
 have e1 : (Instr.next (.pointer (some ⟨B, 0, none⟩)) false ty).run P W = (Sem.choose (.mapNext (left ES seen).size) fun j => (match ((left ES seen).map some)[j]? with
   | some (some e) => do setObj B (.mapIter (some M) since (seen.toArray.push e.born) clock); pure (.tuple #[.bool true, e.key, e.val])
   | some none => pure (.tuple #[.bool false])
   | none => stuck "Next: no such candidate" : Sem Value)).run P W := by
  unfold left at ho hn hne ⊢
  simp only [Instr.next, Sem.run_bind', getObj, Sem.run, h1, h2, hg, ho, hn, hne]
  simp [Sem.run_bind', choose, Sem.run]
  split <;> rfl
 rw [e1]
 obtain ⟨j, W', q1, q2, q3, q4⟩ := run_choose (P := P) (.mapNext (left ES seen).size) (fun j => (match ((left ES seen).map some)[j]? with
   | some (some e) => do setObj B (.mapIter (some M) since (seen.toArray.push e.born) clock); pure (.tuple #[.bool true, e.key, e.val])
   | some none => pure (.tuple #[.bool false])
   | none => stuck "Next: no such candidate" : Sem Value)) W
 have hj : j < (left ES seen).size := by
  cases hf : (Question.mapNext (left ES seen).size).forced with
  | true => rw [q2 hf]; exact hsz
  | false =>
   obtain ⟨x, rfl⟩ := q3 hf
   exact Nat.mod_lt _ hsz
 refine ⟨(left ES seen)[j], W', Array.getElem_mem hj, q1, ?_⟩
 rw [q4]
 have hget : ((left ES seen).map some)[j]? = some (some ((left ES seen)[j])) := by simp [hj]
 rw [hget]
 have hW : W'.heap[B]? = some (.mapIter (some M) since seen.toArray last) := by
  rcases q1 with rfl | ⟨n, rfl⟩
  ·exact h1
  ·exact h1
 simp [Sem.run_bind', setObj, Sem.run, hW, run_pure', World.upd]
theorem Go.nextM {c : FC} {k : List AItem} {Q : AM → Prop} {all : Array Oper} {rest : List Oper} {i : Nat} {t : Tr AVal} {h : AH} {x : Operand} {d bi bm since last clock : Nat} {seen : List Nat} {es : List AMapE} {ty : TypeId} {pos : String} {after : Array Edge}
  (hdn : Nat.blt d c.n = true) (hx : ev t x = some (.ptr bi 0)) (hi : Has h bi (.iter bm since seen last)) (hm : mapB h bm = some (es, clock)) (hb : ∀ en, en ∈ es → en.born < last) (hs : ∀ en, en ∈ es → en.born < since)
  (hkv : ∀ en, en ∈ es → ∃ kv, absV en.key = some kv)
  (over : (∀ en, en ∈ es → en.born ∈ seen) → Go P c (.inRegion all (i + 1) rest :: k) (t.put (pth d) (some (.tuple [.bool false]))) h Q)
  (more : ∀ en kv, en ∈ es → en.born ∉ seen → absV en.key = some kv → ∀ h1, Upd h bi (.iter bm since (seen ++ [en.born]) clock) h1 → Go P c (.inRegion all (i + 1) rest :: k) (t.put (pth d) (some (.tuple [.bool true, kv, en.val]))) h1 Q) :
  Go P c (.inRegion all i (⟨some d, .next x false, ty, pos, after, none⟩ :: rest) :: k) t h Q := by
 refine Go.opAny (fun v h' => ((∀ en, en ∈ es → en.born ∈ seen) ∧ v = .tuple [.bool false] ∧ h' = h) ∨ ∃ en kv, en ∈ es ∧ en.born ∉ seen ∧ absV en.key = some kv ∧ v = .tuple [.bool true, kv, en.val] ∧ Upd h bi (.iter bm since (seen ++ [en.born]) clock) h') rfl ?_ ?_
 ·intro w0 e W n T hT r
  have hxv := ev_rel hT hx
  show ∃ v h', _ ∧ OpSim P w0 e h W ((do let a ← Instr.next (opd T x) false ty; pure (Next.value a)).run P W) (.val v h')
  generalize opd T x = C at hxv
  cases hxv with
  | ptr hbi =>
   obtain ⟨B, cB, O, k1, k2, k3, k4⟩ := r.blk _ _ hi.2
   have hBB := k1.symm.trans hbi
   cases hBB
   cases k4 with
   | iter hem =>
    obtain ⟨M, cM, ES, j1, j3, hmr⟩ := mapB_sim r hm
    have hMM := j1.symm.trans hem
    cases hMM
    have hb' : ∀ en, en ∈ ES → en.born < last := fun en q => by obtain ⟨a, a1, a2, a3, a4⟩ := hmr.mem en (by simpa using q); rw [← a3]; exact hb a a1
    have hs' : ∀ en, en ∈ ES → en.born < since := fun en q => by obtain ⟨a, a1, a2, a3, a4⟩ := hmr.mem en (by simpa using q); rw [← a3]; exact hs a a1
    by_cases hL : left ES seen = #[]
    ·refine ⟨.tuple [.bool false], h, .inl ⟨fun en hen => ?_, rfl, rfl⟩, sim_pure r (next_over k3 j3 hL hb') (.tuple (.cons (.bool false) .nil))⟩
     obtain ⟨en', q1, q2⟩ := hmr.mem' en hen
     by_cases hq : en.born ∈ seen
     ·exact hq
     ·have : en' ∈ left ES seen := left_mem.2 ⟨by simpa using q1, q2 ▸ hq⟩
      rw [hL] at this
      simp at this
    ·obtain ⟨en, W', q1, q2, q3⟩ := next_more (P := P) (ty := ty) k3 j3 hL hb' hs'
     obtain ⟨m1, m2⟩ := left_mem.1 q1
     obtain ⟨a, a1, a2, a3, a4⟩ := hmr.mem en (by simpa using m1)
     obtain ⟨kv, hkv⟩ := hkv a a1
     obtain ⟨h1, s1, s2⟩ := set_upd h bi (.iter bm since (seen ++ [en.born]) clock)
     have r' : HR P w0 e h W' := by
      rcases q2 with rfl | ⟨n, rfl⟩
      ·exact r
      ·exact r.drew n
     refine ⟨.tuple [.bool true, kv, a.val], h1, .inr ⟨a, kv, a1, by rw [a3]; exact m2, hkv, rfl, by rw [a3]; exact s2⟩, sim_val q3 (Env.le_refl e) ?_ (r'.set hi.2 rfl k1 s1 (.iter j1))⟩
     exact .tuple (.cons (.bool true) (.cons (by rw [← a2]; exact absV_rel hkv) (.cons a4 .nil)))
 ·intro v h' ha
  have hp : ∀ v, (prepD c.n ⟨some d, .next x false, ty, pos, after, none⟩).run t v = some (t.put (pth d) (some v)) := by
   intro v
   unfold prepD
   simp only [hdn, cond_true]
   rw [Tr.mkPut_eq]
  rcases ha with ⟨q1, rfl, rfl⟩ | ⟨en, kv, q1, q2, q3, rfl, q4⟩
  ·exact ⟨_, hp _, over q1⟩
  ·exact ⟨_, hp _, more en kv q1 q2 q3 h' q4⟩
theorem GoR.rangeM {J : Jump} {c : FC} {k : List AItem} {Q : AM → Prop} {all : Array Oper} {l : List Oper} {rest : List Oper} {o : Oper} {i d : Nat} {t : Tr AVal} {h : AH} {ty kt et : TypeId} {x : Operand} {bm clock : Nat} {es : List AMapE} (hl0 : l = o :: rest) (hw : wantedA all t o = some true)
  (ho : o.op = .range ty x) (hu : P.underlying ty = some (.map kt et)) (hx : ev t x = some (.map bm)) (hm : mapB h bm = some (es, clock)) (hd : o.dst = some d) (hn : Nat.blt d c.n = true)
  (g : ∀ h1, Ext h h1 → Has h1 h.next (.iter bm clock [] clock) → GoR P J c k Q (runOps P c.n all rest (i + 1) (t.put (pth d) (some (.ptr h.next 0))) h1)) : GoR P J c k Q (runOps P c.n all l i t h) := by
 obtain ⟨h1, q⟩ := new_some h (.iter bm clock [] clock)
 obtain ⟨_, q2, q3⟩ := new_ext q
 refine GoR.op hl0 hw (v := .ptr h.next 0) (h' := h1) ?_ ?_ (g h1 q2 q3)
 ·obtain ⟨dst, op, type, pos, after, guard⟩ := o
  dsimp only at ho
  subst ho
  show opRange P t h ty x = _
  unfold opRange
  rw [hu, hx]
  simp only [hm, q, ptrTo]
 ·unfold prepD
  rw [hd]
  simp only [hn, cond_true]
  rw [Tr.mkPut_eq]
theorem lastOf_append (l : List Nat) (x : Nat) : lastOf (l ++ [x]) = some x := by
 induction l with
 | nil => rfl
 | cons y l ih => simp [lastOf, ih]
theorem findBorn_of {es : List AMapE} {en : AMapE} (h : en ∈ es) (hd : es.Pairwise fun a b => a.born ≠ b.born) : findBorn en.born es = some en := by
 induction es with
 | nil => cases h
 | cons a l ih =>
  rw [List.pairwise_cons] at hd
  unfold findBorn
  rcases List.mem_cons.1 h with rfl | h
  ·rw [show Nat.beq en.born en.born = true from Nat.beq_refl _]; rfl
  ·rw [show Nat.beq a.born en.born = false from by cases q : Nat.beq a.born en.born with | false => rfl | true => exact absurd (Nat.eq_of_beq_eq_true q) (hd.1 en h)]
   exact ih h hd.2
theorem aOp_entry {t : Tr AVal} {h : AH} {x : Operand} {bi bm since clock : Nat} {seen : List Nat} {es : List AMapE} {en : AMapE} {kv : AVal} {dst : Option Tmp} {tt : TypeId} {pos : String} {after : Array Edge} {guard : Option (Nat × Bool)}
  (hx : ev t x = some (.ptr bi 0)) (hi : Has h bi (.iter bm since (seen ++ [en.born]) clock)) (hm : mapB h bm = some (es, clock)) (he : en ∈ es) (hd : es.Pairwise fun a b => a.born ≠ b.born) (hk : absV en.key = some kv) :
  aOp P t h ⟨dst, .entry x, tt, pos, after, guard⟩ = some (.val (.tuple [kv, en.val]) h) := by
 show opEntry t h x = _
 unfold opEntry
 rw [hx]
 have hi2 := hi.2
 simp only [hi2, hm, Nat.beq_refl, cond_true, entryIn, lastOf_append, findBorn_of he hd, entryV, hk, valO, show Nat.beq clock clock = true from Nat.beq_refl _]
theorem aOp_buildSl {t : Tr AVal} {h : AH} {dst : Option Tmp} {tt ty el : TypeId} {pos : String} {after : Array Edge} {guard : Option (Nat × Bool)} {len n : Nat} {parts : Array (Nat × Operand)} {ps : List (Nat × AVal)} {z : AVal} {cs : List AVal}
  (hu : P.underlying ty = some (.slice el)) (hp : evParts t parts.toList = some ps) (hs : sizeT P el = some n) (hz : zeroT P el = some z) (hb : Nat.ble (len * n) 100000 = true) (hzl : Nat.beq z.cells.length n = true)
  (hc : aFillA (fun i => some (i * n, n)) (repl z.cells len) ps = some cs) : ∃ h1, aOp P t h ⟨dst, .buildSlice ty len parts, tt, pos, after, guard⟩ = some (.val (.slice h.next 0 len len) h1) ∧ Ext h h1 ∧ Has h1 h.next (.cells .plain cs el) := by
 obtain ⟨h1, q⟩ := new_some h (.cells .plain cs el)
 obtain ⟨_, q2, q3⟩ := new_ext q
 refine ⟨h1, ?_, q2, q3⟩
 show opBuildSlice P t h ty len parts = _
 unfold opBuildSlice
 rw [hu, hp]
 simp only [hs, hz, hb, hzl, cond_true, hc, q]
theorem GoR.buildSl {J : Jump} {c : FC} {k : List AItem} {Q : AM → Prop} {all : Array Oper} {l : List Oper} {rest : List Oper} {i d : Nat} {t : Tr AVal} {h : AH} {tt ty el : TypeId} {pos : String} {after : Array Edge} {guard : Option (Nat × Bool)} {len n : Nat} {parts : Array (Nat × Operand)} {ps : List (Nat × AVal)} {z : AVal} {cs : List AVal}
  (hl0 : l = ⟨some d, .buildSlice ty len parts, tt, pos, after, guard⟩ :: rest) (hw : wantedA all t ⟨some d, .buildSlice ty len parts, tt, pos, after, guard⟩ = some true)
  (hu : P.underlying ty = some (.slice el)) (hp : evParts t parts.toList = some ps) (hs : sizeT P el = some n) (hz : zeroT P el = some z) (hb : Nat.ble (len * n) 100000 = true) (hzl : Nat.beq z.cells.length n = true)
  (hc : aFillA (fun i => some (i * n, n)) (repl z.cells len) ps = some cs) (hdn : Nat.blt d c.n = true)
  (g : ∀ h1, Ext h h1 → Has h1 h.next (.cells .plain cs el) → GoR P J c k Q (runOps P c.n all rest (i + 1) (t.put (pth d) (some (.slice h.next 0 len len))) h1)) : GoR P J c k Q (runOps P c.n all l i t h) := by
 obtain ⟨h1, q1, q2, q3⟩ := aOp_buildSl (P := P) (t := t) (h := h) (dst := some d) (tt := tt) (pos := pos) (after := after) (guard := guard) hu hp hs hz hb hzl hc
 refine GoR.op hl0 hw q1 ?_ (g h1 q2 q3)
 unfold prepD
 simp only [hdn, cond_true]
 rw [Tr.mkPut_eq]
theorem GoE.buildSl {c : FC} {k : List AItem} {Q : AM → Prop} {all : Array Oper} {pl rest : List DOp} {tf ta : Tr AVal} {facts left : List DFact} {h : AH} {i bef d : Nat} {tt ty el : TypeId} {pos : String} {after : Array Edge} {guard : Option (Nat × Bool)} {len n : Nat} {parts : Array (Nat × Operand)} {ps : List (Nat × AVal)} {z : AVal} {cs : List AVal}
  (hl : pl = ⟨i, bef, false, ⟨some d, .buildSlice ty len parts, tt, pos, after, guard⟩, false⟩ :: rest) (hw : wantedA all ta ⟨some d, .buildSlice ty len parts, tt, pos, after, guard⟩ = some true)
  (hu : P.underlying ty = some (.slice el)) (hp : evParts ta parts.toList = some ps) (hs : sizeT P el = some n) (hz : zeroT P el = some z) (hb : Nat.ble (len * n) 100000 = true) (hzl : Nat.beq z.cells.length n = true)
  (hc : aFillA (fun i => some (i * n, n)) (repl z.cells len) ps = some cs) (hleft : dropF bef facts = left) (hdn : Nat.blt d c.n = true)
  (g : ∀ h1, Ext h h1 → Has h1 h.next (.cells .plain cs el) → recheck P h1 left = true ∧ GoE P c k Q all rest tf left (ta.put (pth d) (some (.slice h.next 0 len len))) h1) : GoE P c k Q all pl tf facts ta h := by
 obtain ⟨h1, q1, q2, q3⟩ := aOp_buildSl (P := P) (t := ta) (h := h) (dst := some d) (tt := tt) (pos := pos) (after := after) (guard := guard) hu hp hs hz hb hzl hc
 obtain ⟨g1, g2⟩ := g h1 q2 q3
 refine GoE.noisy hl hw q1 hleft g1 ?_ g2
 unfold prepD
 simp only [hdn, cond_true]
 rw [Tr.mkPut_eq]
end
section
variable {P : Program}
end
end Go.AbsE

set_option linter.unusedSimpArgs false
namespace Go.AbsE
open Go
section
variable {P : Program}
structure Tk (P : Program) (base : Nat) (S : Nat → Prop) (y : AVal) (items : List (List AVal)) (J E : Nat → AH → Prop) : Prop where
 lt : ∀ {k h b}, J k h → S b → b < h.next
 keepJ : ∀ {k h h'}, J k h → h.next ≤ h'.next → (∀ b, b < h.next → (b < base ∨ S b) → h'.get b = h.get b) → J k h'
 keepE : ∀ {k h h'}, E k h → h.next ≤ h'.next → (∀ b, b < h.next → (b < base ∨ S b) → h'.get b = h.get b) → E k h'
 take : ∀ {k item h}, items[k]? = some item → J k h → ∃ x, callY P y [.agg item] h = some x ∧ (∀ v h', x ≠ .val v h') ∧
  Does P x (fun en h' => ExtF S h h' ∧ ((en = .ret (.bool true) ∧ J (k + 1) h') ∨ (en = .ret (.bool false) ∧ E k h')))
theorem Tk.ext {base : Nat} {S : Nat → Prop} {y : AVal} {items : List (List AVal)} {J E : Nat → AH → Prop} (T : Tk P base S y items J E) {k : Nat} {h h' : AH} (j : J k h) (e : Ext h h') : J k h' := T.keepJ j e.1 fun b hb _ => e.2 b hb
theorem Tk.shift {base : Nat} {S : Nat → Prop} {y : AVal} {items sub : List (List AVal)} {J E : Nat → AH → Prop} (T : Tk P base S y items J E) (o : Nat) (hs : ∀ (n : Nat) v, sub[n]? = some v → items[o + n]? = some v) :
  Tk P base S y sub (fun n => J (o + n)) (fun n => E (o + n)) where
 lt := fun j => T.lt j
 keepJ := fun j => T.keepJ j
 keepE := fun j => T.keepE j
 take := fun h j => T.take (hs _ _ h) j
def IterR (S : Nat → Prop) (J E : Nat → AH → Prop) (n : Nat) (h : AH) (en : AEnd) (h' : AH) : Prop := en = .ret (.tuple []) ∧ ExtF S h h' ∧ (J n h' ∨ ∃ k, k < n ∧ E k h')
def Iter (P : Program) (g : FuncId) (first cap : List AVal) (items : List (List AVal)) (A : AH → Prop) : Prop :=
 ∀ (y : AVal) (base : Nat) (S : Nat → Prop) (J E : Nat → AH → Prop) (h : AH), y.cells = [y] → scalars [y] = true → (∀ h', ExtF S h h' → A h') → base ≤ h.next → Tk P base S y items J E → J 0 h → Runs P g (first ++ [y] ++ cap) h (IterR S J E items.length h)
theorem Iter.mono {P : Program} {g : FuncId} {first cap : List AVal} {items : List (List AVal)} {A A' : AH → Prop} (k : Iter P g first cap items A) (hA : ∀ h, A' h → A h) : Iter P g first cap items A' :=
 fun y base S J E h h1 h2 h3 h4 T j => k y base S J E h h1 h2 (fun h' x => hA h' (h3 h' x)) h4 T j
theorem Go.retC {fn n : Nat} {d : Nat} {rst : List AFr} {k : List AItem} {t : Tr AVal} {h : AH} {R : AEnd → AH → Prop} {v : AVal} (hd : Has h d (.deferred (some [])))
  (hv : ∀ h', Upd h d (.deferred none) h' → aResult P h' fn t = some v ∧ R (.ret v) h') : Go P ⟨fn, n, [.collected d], false, none, rst⟩ (.code .ret :: k) t h (Post P fn rst R) :=
 Go.retL (FLeft.collected (fun q => by cases q) hd fun h' u => FLeft.ret (hv h' u).1 (hv h' u).2)
theorem Go.endC {fn n : Nat} {d : Nat} {rst : List AFr} {t : Tr AVal} {h : AH} {R : AEnd → AH → Prop} {v : AVal} (hd : Has h d (.deferred (some [])))
  (hv : ∀ h', Upd h d (.deferred none) h' → aResult P h' fn t = some v ∧ R (.ret v) h') : Go P ⟨fn, n, [.collected d], false, none, rst⟩ [] t h (Post P fn rst R) :=
 Go.endL (FLeft.collected (fun q => by cases q) hd fun h' u => FLeft.ret (hv h' u).1 (hv h' u).2)
theorem splice_at {α : Type} {v : α} : ∀ {l : List α} {i : Nat}, i < l.length → splice l i [v] = some (l.set i v)
 | [], _, h => by simp at h
 | x :: l, 0, _ => by cases l <;> rfl
 | x :: l, i + 1, h => by
  have := splice_at (v := v) (l := l) (i := i) (by simpa using h)
  simp only [splice, this, List.set_cons_succ]
theorem ExtF.ext {S : Nat → Prop} {a h h' : AH} (k : ExtF S a h) (e : Ext h h') : ExtF S a h' := ⟨Nat.le_trans k.1 e.1, fun b hb hS => by rw [e.2 b (Nat.lt_of_lt_of_le hb k.1), k.2 b hb hS]⟩
theorem ExtF.upd {S : Nat → Prop} {a h h' : AH} {b : Nat} {o : ABlk} (k : ExtF S a h) (u : Upd h b o h') (hb : S b ∨ a.next ≤ b) : ExtF S a h' :=
 ⟨by rw [u.1]; exact k.1, fun x hx hS => by rw [u.2.2 x (fun q => by subst q; rcases hb with q | q; exact hS q; omega), k.2 x hx hS]⟩
theorem Has.keep {h h' : AH} {b : Nat} {o : ABlk} (k : Has h b o) (n : h.next ≤ h'.next) (e : h'.get b = h.get b) : Has h' b o := ⟨Nat.lt_of_lt_of_le k.1 n, by rw [e]; exact k.2⟩
theorem ExtF.low {S : Nat → Prop} {h h2 h' : AH} (x : ExtF S h2 h') (e : Ext h h2) (hS : ∀ b, S b → h.next ≤ b) : Ext h h' :=
 ⟨Nat.le_trans e.1 x.1, fun b hb => by rw [x.2 b (Nat.lt_of_lt_of_le hb e.1) fun q => Nat.lt_irrefl _ (Nat.lt_of_lt_of_le hb (hS b q)), e.2 b hb]⟩
theorem SliceOf.same {h : AH} {sz : Nat} {s : AVal} {L : List (List AVal)} (k : SliceOf h sz s L) : sameA s s = true := by
 cases k with
 | nil => rfl
 | mk hs =>
  cases s <;> first | (simp [aSlElems] at hs; done) | (simp [sameA, sameAs, eqI_eq]; done)
theorem splice_whole {α : Type} : ∀ {l new : List α}, l.length = new.length → splice l 0 new = some new
 | [], [], _ => rfl
 | _ :: _, [], h => by simp at h
 | [], _ :: _, h => by simp at h
 | x :: l, y :: new, h => by simp only [splice, splice_whole (l := l) (new := new) (by simpa using h)]
theorem repl_eq {α : Type} (l : List α) : ∀ n : Nat, repl l n = (List.replicate n l).flatten
 | 0 => rfl
 | n + 1 => by simp [repl, repl_eq l n, List.replicate_succ]
theorem GoR.makeSl {J : Jump} {c : FC} {k : List AItem} {Q : AM → Prop} {all : Array Oper} {l : List Oper} {rest : List Oper} {o : Oper} {i d n size bytes : Nat} {t : Tr AVal} {h : AH} {ty el : TypeId} {x y : Operand} {z : AVal}
  (hl0 : l = o :: rest) (hw : wantedA all t o = some true) (ho : o.op = .makeSlice ty x y) (hu : P.underlying ty = some (.slice el)) (hx : ev t x = some (.int .i64 (.ofNat n))) (hy : ev t y = some (.int .i64 (.ofNat n)))
  (hs : sizeT P el = some size) (hby : bytesT P el = some bytes) (hz : zeroT P el = some z) (hzl : Nat.beq z.cells.length size = true) (hb : Nat.ble ((n + 1) * (bytes + 1)) 1000000 = true) (hd : o.dst = some d) (hdn : Nat.blt d c.n = true)
  (g : ∀ h1, Ext h h1 → Has h1 h.next (.cells .plain (repl z.cells n) el) → GoR P J c k Q (runOps P c.n all rest (i + 1) (t.put (pth d) (some (.slice h.next 0 n n))) h1)) : GoR P J c k Q (runOps P c.n all l i t h) := by
 obtain ⟨h1, q⟩ := new_some h (.cells .plain (repl z.cells n) el)
 obtain ⟨_, q2, q3⟩ := new_ext q
 refine GoR.op hl0 hw (v := .slice h.next 0 n n) (h' := h1) ?_ ?_ (g h1 q2 q3)
 ·obtain ⟨dst, op, type, pos, after, guard⟩ := o
  dsimp only at ho
  subst ho
  show opMakeSlice P t h ty x y = _
  unfold opMakeSlice
  rw [hu, hx, hy]
  have hnn : Nat.ble n n = true := Nat.ble_eq_true_of_le (Nat.le_refl _)
  simp only [hs, hby, hz, hnn, hb, hzl, cond_true, q]
 ·unfold prepD
  rw [hd]
  simp only [hdn, cond_true]
  rw [Tr.mkPut_eq]
theorem GoR.append1F {c : FC} {k : List AItem} {Q : AM → Prop} {J : Jump} {all : Array Oper} {l : List Oper} {o : Oper} {rest : List Oper} {i d : Nat} {t : Tr AVal} {h : AH} {s : AVal} {n b lo : Nat} {cs new : List AVal} {g0 : Kd} {t1 t2 el el2 : TypeId} {x y : Operand} {sz bytes : Nat} {z : AVal} (hl0 : l = o :: rest) (hw : wantedA all t o = some true)
  (ho : o.op = .call ⟨.builtin .append, #[x, y], #[t1, t2]⟩) (hu1 : P.underlying t1 = some (.slice el)) (hu2 : P.underlying t2 = some (.slice el2)) (hs : sizeT P el = some sz) (hby : bytesT P el = some bytes) (hz : zeroT P el = some z) (hzl : Nat.beq z.cells.length sz = true)
  (hsz : Nat.blt 0 sz = true) (hx : ev t x = some s) (hy : ev t y = some (.slice b 0 1 1)) (hb : Has h b (.cells g0 new el2)) (hnl : Nat.beq new.length sz = true) (hns : scalars new = true) (hgr : Grow h el sz lo s n cs)
  (hroom : (n + 301) * 2 * (bytes + 1) < 281474976710656) (hd : o.dst = some d) (hdn : Nat.blt d c.n = true)
  (g : ∀ s' h1, ExtF (fun b => s = .gsl b 0 0 n) h h1 → Grow h1 el sz h.next s' (n + 1) (cs ++ new) → GoR P J c k Q (runOps P c.n all rest (i + 1) (t.put (pth d) (some s')) h1)) :
  GoR P J c k Q (runOps P c.n all l i t h) := by
 obtain ⟨hcl, hgr⟩ := hgr
 have e1 := Nat.eq_of_beq_eq_true hnl
 have hput : ∀ v, (prepD c.n o).run t v = some (t.put (pth d) (some v)) := by
  intro v
  unfold prepD
  rw [hd]
  simp only [hdn, cond_true]
  rw [Tr.mkPut_eq]
 have hsrc : srcCells h sz 1 (.slice b 0 1 1) = some new := by
  simp only [srcCells, loadCells, hb.2, Nat.one_mul]
  exact slice_all e1
 have hlt : Nat.blt ((n + 1 + 300) * 2 * (bytes + 1)) 281474976710656 = true := Nat.ble_eq_true_of_le hroom
 have hop : ∀ {y'}, aAppend P h t1 t2 s (.slice b 0 1 1) = some y' → aOp P t h o = some y' := by
  intro y' q
  obtain ⟨dst, op, type, pos, after, guard⟩ := o
  dsimp only at ho
  subst ho
  show opCall P t h ⟨.builtin .append, #[x, y], #[t1, t2]⟩ type = _
  have he : evs t [x, y] = some [s, .slice b 0 1 1] := by simp only [evs, mapO, hx, hy]
  simp only [opCall, he, callWith, aBuiltin, q]
 rcases hgr with ⟨rfl, rfl⟩ | ⟨hn0, bs, hlo, rfl, hbs⟩
 ·obtain ⟨h1, q⟩ := new_some h (.cells .grow new el)
  obtain ⟨_, q2, q3⟩ := new_ext q
  have hc0 : cs = [] := List.eq_nil_of_length_eq_zero (by simpa using hcl)
  subst hc0
  refine GoR.op hl0 hw (v := .gsl h.next 0 0 1) (h' := h1) (hop ?_) (hput _) (g _ h1 (.of q2) ⟨by simp [e1], .inr ⟨by omega, h.next, Nat.le_refl _, rfl, q3⟩⟩)
  unfold aAppend
  rw [hu1, hu2]
  simp only [hs, hby, hz, lenA, hsrc, hlt, hsz, hzl, cond_true]
  have : Nat.beq 1 0 = false := rfl
  simp only [this, cond_false, growNew, q]
 ·have hset : ∃ h2, h.set bs none = some h2 := by obtain ⟨tt, nx⟩ := h; exact ⟨_, rfl⟩
  obtain ⟨h2, hset⟩ := hset
  obtain ⟨h1, q⟩ := new_some h2 (.cells .grow (cs ++ new) el)
  obtain ⟨_, q2, q3⟩ := new_ext q
  obtain ⟨hnx, hgt⟩ := AH.get_set hset
  have hx2 : ExtF (fun b => AVal.gsl bs 0 0 n = .gsl b 0 0 n) h h2 := ⟨by omega, fun b hb hne => by rw [hgt, if_neg (fun q => hne (by rw [q]))]⟩
  refine GoR.op hl0 hw (v := .gsl h2.next 0 0 (n + 1)) (h' := h1) (hop ?_) (hput _) (g _ h1 (hx2.ext q2) ⟨by simp [e1, hcl, Nat.add_mul], .inr ⟨by omega, h2.next, by omega, rfl, q3⟩⟩)
  unfold aAppend
  rw [hu1, hu2]
  simp only [hs, hby, hz, lenA, hsrc, hlt, hsz, hzl, cond_true]
  unfold appGsl
  rw [hbs.2]
  have b1 : Nat.beq 0 (0 * sz) = true := by simp
  have b2 : eqSize P el sz = true := by unfold eqSize; rw [hs]; simp
  have b3 : Nat.beq el el = true := by simp
  have b4 : Nat.ble (0 + (n + 1) * sz) cs.length = false := by
   cases hq : Nat.ble (0 + (n + 1) * sz) cs.length with
   | false => rfl
   | true =>
    have := Nat.le_of_ble_eq_true hq
    have h3 : 0 < sz := blt_true hsz
    rw [hcl, Nat.zero_add, Nat.add_mul] at this
    omega
  have b5 : srcCells h sz n (.gsl bs 0 0 n) = some cs := by
   simp only [srcCells, loadCells, hbs.2]
   exact slice_all hcl
  simp only [b1, b2, b3, b4, b5, hns, cond_true, cond_false, hset, growNew, q]
  have : Nat.beq 0 0 = true := rfl
  simp only [this, cond_true]
theorem Grow.keep {h h' : AH} {el : TypeId} {sz lo : Nat} {s : AVal} {n : Nat} {cs : List AVal} (k : Grow h el sz lo s n cs) (hn : h.next ≤ h'.next) (he : ∀ b, lo ≤ b → b < h.next → s = .gsl b 0 0 n → h'.get b = h.get b) : Grow h' el sz lo s n cs := by
 obtain ⟨k1, k2⟩ := k
 refine ⟨k1, ?_⟩
 rcases k2 with k2 | ⟨h0, b, h1, h2, h3⟩
 ·exact .inl k2
 ·exact .inr ⟨h0, b, h1, h2, h3.keep hn (he b h1 h3.1 h2)⟩
theorem Grow.nil (h : AH) (el : TypeId) (sz lo : Nat) : Grow h el sz lo .nilslice 0 [] := ⟨by simp, .inl ⟨rfl, rfl⟩⟩
end
end Go.AbsE

set_option linter.unusedSimpArgs false
namespace Go.AbsE
open Go
section
variable {P : Program}
theorem aOp_lenMap {t : Tr AVal} {h : AH} {dst : Option Tmp} {tt : TypeId} {pos : String} {after : Array Edge} {guard : Option (Nat × Bool)} {at0 kt vt : TypeId} {x : Operand} {b clock n : Nat} {es : List AMapE} (hu : P.underlying at0 = some (.map kt vt)) (hx : ev t x = some (.map b)) (hb : Has h b (.map es clock)) (hn : es.length = n) :
  aOp P t h ⟨dst, .call ⟨.builtin .len, #[x], #[at0]⟩, tt, pos, after, guard⟩ = some (.val (.int .i64 n) h) := by
 show opCall P t h ⟨.builtin .len, #[x], #[at0]⟩ tt = _
 have he : evs t [x] = some [.map b] := by simp only [evs, mapO, hx]
 simp only [opCall, he, callWith, aBuiltin, hu, hb.2, hn]
theorem GoE.callP {c : FC} {k : List AItem} {Q : AM → Prop} {all : Array Oper} {pl rest : List DOp} {tf ta : Tr AVal} {facts : List DFact} {h : AH} {i bef : Nat} {o : Oper} {lit : Bool} {left : List DFact} {f : FuncId} {args : List AVal} {R : AEnd → AH → Prop} (hl : pl = ⟨i, bef, false, o, lit⟩ :: rest) (hw : wantedA all ta o = some true) (hx : aOpX P lit ta h o = some (.enter f args h)) (hr : Runs P f args h R) (hleft : dropF bef facts = left)
  (hret : ∀ v h', R (.ret v) h' → recheck P h' left = true ∧ ∃ ta', (prepD c.n o).run ta v = some ta' ∧ GoE P c k Q all rest tf left ta' h') (hpan : ∀ chain h', R (.pan chain) h' → FLeft P c (.panicking chain) tf h' Q) :
  GoE P c k Q all pl tf facts ta h := by
 subst hl hleft
 unfold GoE
 rw [runC_cons, hw]
 show GoR P noJ c k Q ((goNoisy P c.n all ⟨i, bef, false, o, lit⟩ rest (runC P c.n all rest)).run tf facts ta h (aOpX P lit ta h o))
 rw [hx]
 show GoR P noJ c k Q (.susp [.waitDrawn all (⟨i, bef, false, o, lit⟩ :: rest) facts ta] tf (.enter f args h))
 obtain ⟨fr, hfr, hrun⟩ := hr
 refine ⟨⟨fr :: c.fr ([.waitDrawn all (⟨i, bef, false, o, lit⟩ :: rest) facts ta] ++ k) tf :: c.rest, h⟩, ?_, ?_⟩
 ·show enterJ P _ c.rest f args h none = _
  show one h (_ :: c.rest) (aFrame P f args false) = _
  rw [hfr]
  rfl
 ·refine Reach.call noJ_ok ⟨fr, hfr, hrun⟩ hfr (fun v h' hv => ?_) (fun chain h' hq => hpan chain h' hq _)
  obtain ⟨e, ta', q1, q2⟩ := hret v h' hv
  refine ⟨c.fr (.inDrawn all rest (dropF bef facts) ta' :: k) tf, ?_, Go.inDrawn noJ_ok ?_⟩
  ·show AFr.finishRun c.fn c.n tf (.waitDrawn all (⟨i, bef, false, o, lit⟩ :: rest) facts ta :: k) c.ds c.dk c.rd v = _
   unfold AFr.finishRun
   simp only [q1]
   rfl
  ·unfold againD
   rw [e]
   exact q2
end
end Go.AbsE

set_option linter.unusedSimpArgs false
namespace Go.AbsE
open Go
section
variable {P : Program} {t : Tr AVal} {h : AH} {dst : Option Tmp} {ty tt ty2 : TypeId} {pos : String} {after : Array Edge} {guard : Option (Nat × Bool)} {x y : Operand} {a b : Int}
theorem aOp_rem {r : Int} (hx : ev t x = some (.int .i64 a)) (hy : ev t y = some (.int .i64 b)) (hb : b ≠ 0) (hr : a.tmod b = r) : aOp P t h ⟨dst, .binOp .rem ty x y ty2, tt, pos, after, guard⟩ = some (.val (.int .i64 r) h) := by
 refine aOp_bin hx hy ?_
 have : pureRun P (binOp .rem ty (.int .i64 a) (.int .i64 b)) = some (.int .i64 (a.tmod b)) := by
  show pureRun P (if IntKind.i64 ≠ IntKind.i64 then stuck "BinOp: operands of different kinds" else Op.intDiv .rem .i64 a b) = _
  rw [if_neg (fun h => h rfl)]
  unfold Op.intDiv
  rw [if_neg hb]
  rfl
 show (match pureRun P (binOp .rem ty (.int .i64 a) (.int .i64 b)) with | some v => absV v | none => none) = _
 rw [this, ← hr]
 rfl
end
section
variable {h : AH}
end
section
variable {P : Program}
theorem Go.join {c : FC} {k : List AItem} {Q : AM → Prop} {x : Code} {t : Tr AVal} {h : AH} {α : Type} (L : α → List (Nat × AVal)) (M : α → AH → Prop)
  (first : ∀ k', (∀ a t' h', keepOk t' (L a) → M a h' → Go P c k' t' h' Q) → Go P c (.code x :: k') t h Q)
  (next : ∀ a h', M a h' → Go P c k (keepT (L a)) h' Q) : Go P c (.code x :: k) t h Q :=
 first k fun a _ h' hk hm => Go.keep (L a) hk (next a h' hm)
end
end Go.AbsE

namespace Go.AbsE
open Go
set_option linter.unusedSimpArgs false
set_option maxRecDepth 100000
section
variable {P : Program}
structure SpanT (P : Program) (kt : TypeId) : Prop where
 fs : ∃ f0 f1 : Field, P.underlying kt = some (.struct #[f0, f1]) ∧ f0.name ≠ "_" ∧ f1.name ≠ "_" ∧ f0.offset = 0 ∧ f1.offset = 1 ∧ (∃ k, P.underlying f0.type = some (.int k)) ∧ (∃ k, P.underlying f1.type = some (.int k))
 std : P.stoodInHeld kt = false
 eg : P.eqGuardType P.depth kt = false
theorem pr_eq_span {kt : TypeId} (K : SpanT P kt) {a b a' b' : Int} :
  pureRun P (Op.equal kt (.agg #[.int .i64 a, .int .i64 b]) (.agg #[.int .i64 a', .int .i64 b'])) = some (a == a' && b == b') := by
 obtain ⟨⟨f0, f1, hu, n0, n1, o0, o1, ⟨k0, hf0⟩, ⟨k1, hf1⟩⟩, hst, _⟩ := K
 show pureRun P (Op.equalIn (9999 + 1) kt _ _) = _
 unfold Op.equalIn
 rw [pureRun_bind, pr_underlying hu]
 simp only [Option.bind_some, pureRun_bind, pr_program, hst, Bool.false_eq_true, if_false, ← Array.forIn_toList, List.forIn_cons, List.forIn_nil, n0, n1, ne_eq, not_false_eq_true, if_true, pureRun_pure, o0, o1,
  pr_part_one hf0 (v := .int .i64 a) (cs := #[.int .i64 a, .int .i64 b]) (off := 0) rfl, pr_part_one hf0 (v := .int .i64 a') (cs := #[.int .i64 a', .int .i64 b']) (off := 0) rfl, pr_eq_int hf0]
 cases h0 : a == a'
 ·rfl
 ·simp only [Bool.not_true, Bool.false_eq_true, if_false, pureRun_bind, pureRun_pure, Option.bind_some, n1, ne_eq, not_false_eq_true, if_true, o1,
   pr_part_one hf1 (v := .int .i64 b) (cs := #[.int .i64 a, .int .i64 b]) (off := 1) rfl, pr_part_one hf1 (v := .int .i64 b') (cs := #[.int .i64 a', .int .i64 b']) (off := 1) rfl, pr_eq_int hf1]
  cases b == b' <;> rfl
theorem aOp_eqlSpan {t : Tr AVal} {h : AH} {dst : Option Tmp} {ty tt ty2 : TypeId} {pos : String} {after : Array Edge} {guard : Option (Nat × Bool)} {x y : Operand} {a b a' b' : Int} {r : Bool} (K : SpanT P ty) (hx : ev t x = some (.agg [.int .i64 a, .int .i64 b])) (hy : ev t y = some (.agg [.int .i64 a', .int .i64 b'])) (hr : (a == a' && b == b') = r) :
  aOp P t h ⟨dst, .binOp .eql ty x y ty2, tt, pos, after, guard⟩ = some (.val (.bool r) h) := by
 show opBin P t h .eql ty x y = _
 unfold opBin
 rw [hx, hy]
 have : pureRun P (binOp .eql ty (.agg #[.int .i64 a, .int .i64 b]) (.agg #[.int .i64 a', .int .i64 b'])) = some (.bool (a == a' && b == b')) := by
  show pureRun P (Op.equal ty (.agg #[.int .i64 a, .int .i64 b]) (.agg #[.int .i64 a', .int .i64 b']) >>= fun r => pure (Value.bool r)) = _
  rw [pureRun_bind, pr_eq_span K]
  rfl
 show (match cond (P.eqGuardType P.depth ty) none (match pureRun P (binOp .eql ty (.agg #[.int .i64 a, .int .i64 b]) (.agg #[.int .i64 a', .int .i64 b'])) with | some v => absV v | none => none) with | some v => some (ANext.val v h) | none => none) = _
 rw [K.eg, this, hr]
 rfl
variable {c : FC} {k : List AItem} {Q : AM → Prop} {all : Array Oper} {pl rest : List DOp} {tf ta : Tr AVal} {facts left : List DFact} {i bef d : Nat} {h : AH}
end
section
variable {P : Program} {J : Jump} (hJ : JOk P J) {c : FC} {k : List AItem} {t : Tr AVal} {h : AH} {Q : AM → Prop}
include hJ
theorem Go.label {l : Nat} (g : Go P c k t h Q) : Go P c (.code (.label l) :: k) t h Q := by
 refine Go.plain hJ (fun _ _ _ _ q => by cases q) (fun _ _ _ _ q => by cases q) (fun e IT K a b => ?_) g
 cases a
 exact ⟨_, b, fun F T cs W hm => .one (st_label hm)⟩
end
end Go.AbsE

namespace Go.Proofs.YtobhkdgcciolmaaGreat
open Go Go.AbsE
set_option linter.unusedSimpArgs false
set_option linter.unusedVariables false
structure PV where
 ll : Int
 lh : Int
 wl : Int
 wh : Int
 hl : Int
 hh : Int
structure EV where
 kind : Int
 cl : Int
 lo : Int
 hi : Int
structure ClampV where
 ps : List PV
 pl : Int
 ph : Int
 es : List EV
def spC (s : Int × Int) : List AVal := [.int .i64 s.1, .int .i64 s.2]
def PV.cells (p : PV) : List AVal := [.int .i64 p.ll, .int .i64 p.lh, .int .i64 p.wl, .int .i64 p.wh, .int .i64 p.hl, .int .i64 p.hh]
def EV.cells (e : EV) : List AVal := [.int .i64 e.kind, .int .i64 e.cl, .int .i64 e.lo, .int .i64 e.hi]
def ClampV.cells (C : ClampV) (p e : AVal) : List AVal := [p, .int .i64 C.pl, .int .i64 C.ph, e]
def FeetOk (a b : Int) : Prop := (a ≤ b ∧ 1 ≤ a ∧ b ≤ 10) ∧ b - a ≤ 1
instance (a b : Int) : Decidable (FeetOk a b) := by unfold FeetOk; infer_instance
def PV.Ok (p : PV) : Prop := FeetOk p.ll p.lh ∧ FeetOk p.wl p.wh ∧ FeetOk p.hl p.hh
instance (p : PV) : Decidable p.Ok := by unfold PV.Ok; infer_instance
def EV.Ok (n : Nat) (e : EV) : Prop := (0 ≤ e.cl ∧ e.cl ≤ (n : Int) - 1) ∧ (e.lo ≤ e.hi ∧ 0 ≤ e.lo ∧ e.hi ≤ 5000) ∧ ((e.kind = 0 ∧ e.hi - e.lo ≤ 3) ∨ e.kind = 1)
instance (n : Nat) (e : EV) : Decidable (e.Ok n) := by unfold EV.Ok; infer_instance
structure ClampV.Ok (C : ClampV) : Prop where
 np : 1 ≤ C.ps.length ∧ C.ps.length ≤ 4
 p : ∀ x, x ∈ C.ps → x.Ok
 k : (C.pl ≤ C.ph ∧ 1 ≤ C.pl ∧ C.ph ≤ 5) ∧ C.ph - C.pl ≤ 2
 ne : C.es.length ≤ 6
 e : ∀ x, x ∈ C.es → x.Ok C.ps.length
def ClampV.okB (C : ClampV) : Bool := decide (1 ≤ C.ps.length ∧ C.ps.length ≤ 4) && C.ps.all (fun x => decide x.Ok) && decide ((C.pl ≤ C.ph ∧ 1 ≤ C.pl ∧ C.ph ≤ 5) ∧ C.ph - C.pl ≤ 2) && decide (C.es.length ≤ 6) && C.es.all (fun x => decide (x.Ok C.ps.length))
theorem okB_iff (C : ClampV) : C.okB = true ↔ C.Ok := by
 unfold ClampV.okB
 simp only [Bool.and_eq_true, decide_eq_true_eq, List.all_eq_true]
 constructor
 ·rintro ⟨⟨⟨⟨h1, h2⟩, h3⟩, h4⟩, h5⟩;exact ⟨h1, h2, h3, h4, h5⟩
 ·rintro ⟨h1, h2, h3, h4, h5⟩;exact ⟨⟨⟨⟨h1, h2⟩, h3⟩, h4⟩, h5⟩
instance (C : ClampV) : Decidable C.Ok := decidable_of_iff _ (okB_iff C)
def meetV (a b : Int × Int) : Int × Int := (max a.1 b.1, min a.2 b.2)
def joinP (a b : Int × Int) : Int × Int := (min a.1 b.1, max a.2 b.2)
def plusV (a b : Int × Int) : Int × Int := (a.1 + b.1, a.2 + b.2)
def minusV (a b : Int × Int) : Int × Int := (max (a.1 - b.2) 0, a.2 - b.1)
def EV.fwd (e : EV) (s : Int × Int) : Int × Int := if e.kind = 0 then minusV s (e.lo, e.hi) else meetV s (e.lo, e.hi)
def EV.back (e : EV) (s : Int × Int) : Int × Int := if e.kind = 0 then (if s.1 > s.2 then s else plusV s (e.lo, e.hi)) else meetV s (e.lo, e.hi)
def backE (i : Nat) (es : List EV) (s : Int × Int) : Int × Int := es.foldr (fun e s => if e.cl = (i : Int) then e.back s else s) s
def fwdE (i : Nat) (es : List EV) (s : Int × Int) : Int × Int := es.foldl (fun s e => if e.cl = (i : Int) then e.fwd s else s) s
def ClampV.canI (C : ClampV) (i : Nat) : Int × Int := backE i C.es (0, 5000)
def hasB (s : Int × Int) (n : Int) : Bool := decide (s.1 ≤ n ∧ n ≤ s.2)
def upto (a b : Int) : List Int := (List.range (b - a + 1).toNat).map fun i => a + (i : Nat)
theorem mem_upto {a b x : Int} : x ∈ upto a b ↔ a ≤ x ∧ x ≤ b := by
 unfold upto
 rw [List.mem_map]
 constructor
 ·rintro ⟨i, hi, rfl⟩
  have := List.mem_range.1 hi
  omega
 ·intro h
  exact ⟨(x - a).toNat, List.mem_range.2 (by omega), by omega⟩
def PV.sizes (p : PV) : List Int := (upto p.ll p.lh).flatMap fun l => (upto p.wl p.wh).flatMap fun w => (upto p.hl p.hh).map fun h => l * w * h
def ClampV.from (C : ClampV) (k : Int) : Nat → List PV → List (List Int)
 | _, [] => [[]]
 | i, p :: ps => p.sizes.flatMap fun f => if hasB (C.canI i) (f * k) = true then (C.from k (i + 1) ps).map (f :: ·) else []
abbrev BT := List Int × Int
def ClampV.builds (C : ClampV) : List BT := (upto C.pl C.ph).flatMap fun k => (C.from k 0 C.ps).map fun fs => (fs, k)
def firstV (b : BT) (i : Nat) : Int := b.1.getD i 0 * b.2
def ClampV.aft (C : ClampV) (b : BT) (i : Nat) : Int × Int := if i < C.ps.length then fwdE i C.es (firstV b i, firstV b i) else (0, 0)
def ClampV.stock (C : ClampV) (b : BT) : List (Int × Int) := (List.range 4).map (C.aft b)
def ClampV.can (C : ClampV) : List (Int × Int) := (List.range 4).map fun i => if i < C.ps.length then C.canI i else (0, 0)
def topS : Int × Int := (9223372036854775807, -9223372036854775808)
def joinL (l : List (Int × Int)) : Int × Int := l.foldl joinP topS
def ClampV.possible (C : ClampV) : Bool := !C.builds.isEmpty
def ClampV.first (C : ClampV) (i : Nat) : Int × Int := joinL (C.builds.map fun b => (firstV b i, firstV b i))
def ClampV.left (C : ClampV) (i : Nat) : Int × Int := joinL (C.builds.map fun b => C.aft b i)
def ClampV.sold (C : ClampV) (i : Nat) : Int × Int := joinL (C.builds.map fun b => minusV (firstV b i, firstV b i) (C.aft b i))
def sumIn (s : Nat) : Nat → List (Int × Int) → Int × Int
 | _, [] => (0, 0)
 | i, x :: l => if s.testBit i = true then plusV x (sumIn s (i + 1) l) else sumIn s (i + 1) l
def ClampV.sumB (C : ClampV) (s : Nat) (b : BT) : Int × Int := sumIn s 0 (C.stock b)
def ClampV.total (C : ClampV) (s : Nat) : Int × Int := joinL (C.builds.map fun b => C.sumB s b)
def dropV (s : Nat) : Nat → List EV → List EV
 | _, [] => []
 | i, e :: l => if s.testBit i = true then dropV s (i + 1) l else e :: dropV s (i + 1) l
def ClampV.drop (C : ClampV) (s : Nat) : ClampV := { C with es := dropV s 0 C.es }
def countsV : Nat → List EV → Nat
 | _, [] => 0
 | i, e :: l => (if e.kind = 0 then 0 else 2 ^ i) + countsV (i + 1) l
def ClampV.counts (C : ClampV) : Nat := countsV 0 C.es
def ClampV.all (C : ClampV) : Nat := 2 ^ C.ps.length - 1
theorem joinL_iff {l : List (Int × Int)} : (∀ c, c ≤ (joinL l).1 ↔ c ≤ topS.1 ∧ ∀ p, p ∈ l → c ≤ p.1) ∧ (∀ c, (joinL l).2 ≤ c ↔ topS.2 ≤ c ∧ ∀ p, p ∈ l → p.2 ≤ c) := by
 have key : ∀ (l : List (Int × Int)) (a : Int × Int), (∀ c, c ≤ (l.foldl joinP a).1 ↔ c ≤ a.1 ∧ ∀ p, p ∈ l → c ≤ p.1) ∧ (∀ c, (l.foldl joinP a).2 ≤ c ↔ a.2 ≤ c ∧ ∀ p, p ∈ l → p.2 ≤ c) := by
  intro l
  induction l with
  | nil => intro a; simp
  | cons x l ih =>
   intro a
   obtain ⟨h1, h2⟩ := ih (joinP a x)
   constructor
   ·intro c
    rw [List.foldl_cons, h1]
    simp only [List.mem_cons, forall_eq_or_imp, joinP]
    constructor
    ·rintro ⟨q1, q2⟩; exact ⟨by omega, by omega, q2⟩
    ·rintro ⟨q1, q2, q3⟩; exact ⟨by omega, q3⟩
   ·intro c
    rw [List.foldl_cons, h2]
    simp only [List.mem_cons, forall_eq_or_imp, joinP]
    constructor
    ·rintro ⟨q1, q2⟩; exact ⟨by omega, by omega, q2⟩
    ·rintro ⟨q1, q2, q3⟩; exact ⟨by omega, q3⟩
 exact key l topS
theorem joinL_mem {l m : List (Int × Int)} (h : ∀ x, x ∈ l ↔ x ∈ m) : joinL l = joinL m := by
 have a := joinL_iff (l := l)
 have b := joinL_iff (l := m)
 have e1 : ∀ c, c ≤ (joinL l).1 ↔ c ≤ (joinL m).1 := fun c => by rw [a.1, b.1]; simp only [h]
 have e2 : ∀ c, (joinL l).2 ≤ c ↔ (joinL m).2 ≤ c := fun c => by rw [a.2, b.2]; simp only [h]
 have := (e1 _).1 (Int.le_refl _)
 have := (e1 _).2 (Int.le_refl _)
 have := (e2 _).1 (Int.le_refl _)
 have := (e2 _).2 (Int.le_refl _)
 ext <;> omega
theorem joinL_le {l : List (Int × Int)} {p : Int × Int} (h : p ∈ l) : (joinL l).1 ≤ p.1 ∧ p.2 ≤ (joinL l).2 :=
 ⟨((joinL_iff.1 _).1 (Int.le_refl _)).2 p h, ((joinL_iff.2 _).1 (Int.le_refl _)).2 p h⟩
theorem joinL_lo {l : List (Int × Int)} {c : Int} (hc : c ≤ topS.1) (h : ∀ p, p ∈ l → c ≤ p.1) : c ≤ (joinL l).1 := (joinL_iff.1 c).2 ⟨hc, h⟩
theorem joinL_hi {l : List (Int × Int)} {c : Int} (hc : topS.2 ≤ c) (h : ∀ p, p ∈ l → p.2 ≤ c) : (joinL l).2 ≤ c := (joinL_iff.2 c).2 ⟨hc, h⟩
end Go.Proofs.YtobhkdgcciolmaaGreat
