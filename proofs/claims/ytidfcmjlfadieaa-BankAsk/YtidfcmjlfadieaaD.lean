import Derived.Test.YtidfcmjlfadieaaC
set_option linter.unusedSimpArgs false
namespace Go.AbsE
open Go

/-! ### the steps of memory, as the model runs them -/
theorem Sem.run_bind' {α β : Type} (P : Program) (s : Sem α) (f : α → Sem β) (w : World) :
    (s >>= f).run P w = match s.run P w with | .ok a w' => (f a).run P w' | .halt h w' => .halt h w' := by
  show (s.bind f).run P w = _
  induction s generalizing w with
  | pure a => rfl
  | load m a k ih =>
    simp only [Sem.bind, Sem.run]
    split
    · exact ih _ _
    · split
      · exact ih _ _
      · rfl
  | store m a v k ih =>
    cases v <;> simp only [Sem.bind, Sem.run] <;> (try rfl) <;>
      (split
       · split
         · rfl
         · exact ih _
       · split
         · exact ih _
         · rfl)
  | new o k ih => exact ih _ _
  | shape r k ih => exact ih _ _
  | freeze a n k ih => exact ih _
  | frozen a k ih => exact ih _ _
  | getObj r k ih =>
    simp only [Sem.bind, Sem.run]
    split <;> first | rfl | exact ih _ _
  | setObj r o k ih =>
    simp only [Sem.bind, Sem.run]
    split <;> first | rfl | exact ih _
  | choose q k ih =>
    simp only [Sem.bind, Sem.run]
    split <;> exact ih _ _
  | sys c k ih => exact ih _ _
  | program k ih => exact ih _ _
  | mark m k ih => exact ih _
  | halt h => rfl

theorem run_pure' {α : Type} (P : Program) (a : α) (w : World) : (pure a : Sem α).run P w = .ok a w := rfl

/-- A run that asks the program alone. -/
theorem run_of_pureRun {α : Type} {P : Program} : ∀ {s : Sem α} {a : α}, pureRun P s = some a → ∀ w, s.run P w = .ok a w := by
  intro s
  induction s with
  | pure b => intro a h w; simp [pureRun] at h; subst h; rfl
  | program k ih => intro a h w; exact ih P h w
  | load m a k ih => intro b h; cases h
  | store m a v k ih => intro b h; cases h
  | new o k ih => intro b h; cases h
  | shape r k ih => intro b h; cases h
  | freeze a n k ih => intro b h; cases h
  | frozen a k ih => intro b h; cases h
  | getObj r k ih => intro b h; cases h
  | setObj r o k ih => intro b h; cases h
  | choose q k ih => intro b h; cases h
  | sys c k ih => intro b h; cases h
  | mark m k ih => intro b h; cases h
  | halt x => intro b h; cases h

theorem addr_add (B off n : Nat) : (Addr.add ⟨B, off, none⟩ n) = ⟨B, off + n, none⟩ := by
  unfold Addr.add
  by_cases h : n = 0
  · subst h; rfl
  · rw [if_neg h]

theorem cell_of_block {W : World} {B off : Nat} {C : Array Value} {el : TypeId} {fr : Nat × Nat} (h : W.heap[B]? = some (.cells C el fr)) :
    W.cell? ⟨B, off, none⟩ = C[off]? := by
  simp [World.cell?, h]

theorem run_loadFrom {P : Program} {W : World} {B off : Nat} {L : List Value} {el : TypeId} {fr : Nat × Nat} (h : W.heap[B]? = some (.cells L.toArray el fr)) :
    ∀ (n i : Nat) (acc : Array Value), off + i + n ≤ L.length →
      (loadCellsFrom ⟨B, off, none⟩ i n acc).run P W = .ok (acc ++ ((L.drop (off + i)).take n).toArray) W := by
  intro n
  induction n with
  | zero => intro i acc _; simp [loadCellsFrom, run_pure']
  | succ n ih =>
    intro i acc hl
    have hlt : off + i < L.length := by omega
    have hc : W.cell? ⟨B, off + i, none⟩ = some L[off + i] := by rw [cell_of_block h]; simp [hlt]
    simp only [loadCellsFrom, Sem.run_bind', addr_add]
    simp only [load, Sem.run, hc]
    rw [ih (i + 1) _ (by omega)]
    have key : (L.drop (off + i)).take (n + 1) = L[off + i] :: (L.drop (off + i + 1)).take n := by rw [List.drop_eq_getElem_cons hlt, List.take_succ_cons]
    rw [key, show off + (i + 1) = off + i + 1 from rfl]
    congr 1
    simp

theorem run_loadCells' {P : Program} {W : World} {B off n : Nat} {L : List Value} {el : TypeId} {fr : Nat × Nat} (h : W.heap[B]? = some (.cells L.toArray el fr))
    (hl : off + n ≤ L.length) : (Go.loadCells ⟨B, off, none⟩ n).run P W = .ok ((L.drop off).take n).toArray W := by
  unfold Go.loadCells
  rw [run_loadFrom h n 0 #[] (by omega)]
  simp

theorem upd_upd (W : World) (B : Nat) (O O' : Obj) : World.upd (World.upd W B O) B O' = World.upd W B O' := by
  simp [World.upd]

theorem setCell_upd {W : World} {B off : Nat} {L : List Value} {el : TypeId} {fr : Nat × Nat} (h : W.heap[B]? = some (.cells L.toArray el fr)) (v : Value) :
    W.setCell ⟨B, off, none⟩ v = World.upd W B (.cells (L.set off v).toArray el fr) := by
  obtain ⟨hlt, he⟩ := Array.getElem?_eq_some_iff.1 h
  simp only [World.setCell, World.upd]
  congr 1
  apply Array.ext_getElem?
  intro i
  rw [Array.getElem?_modify, Array.getElem?_setIfInBounds]
  by_cases hi : B = i
  · subst hi; simp [he, hlt]
  · simp [hi]

theorem heap_upd {W : World} {B : Nat} {O O' : Obj} (h : W.heap[B]? = some O') : (World.upd W B O).heap[B]? = some O := by
  have hlt := (Array.getElem?_eq_some_iff.1 h).1
  simp [World.upd, hlt]

def spliced (L : List Value) (off : Nat) (vs : List Value) : List Value := L.take off ++ vs ++ L.drop (off + vs.length)

theorem spliced_nil (L : List Value) (off : Nat) : spliced L off [] = L := by simp [spliced]
theorem spliced_cons (L : List Value) (off : Nat) (v : Value) (vs : List Value) (h : off < L.length) :
    spliced (L.set off v) (off + 1) vs = spliced L off (v :: vs) := by
  unfold spliced
  apply List.ext_getElem?
  intro i
  simp only [List.append_assoc, List.getElem?_append, List.length_take, List.length_set, List.getElem?_take, List.getElem?_drop, List.getElem?_set, List.length_cons]
  have e1 : min (off + 1) L.length = off + 1 := by omega
  have e2 : min off L.length = off := by omega
  rw [e1, e2]
  by_cases h1 : i < off
  · simp [h1, show i < off + 1 by omega, show ¬ off = i by omega]
  · by_cases h2 : i = off
    · subst h2; simp [h]
    · have h3 : ¬ i < off + 1 := by omega
      obtain ⟨k, rfl⟩ : ∃ k, i = off + 1 + k := ⟨i - (off + 1), by omega⟩
      have e3 : off + 1 + k - (off + 1) = k := by omega
      have e4 : off + 1 + k - off = k + 1 := by omega
      simp only [h1, h3, if_false, e3, e4]
      by_cases h4 : k < vs.length
      · simp [h4]
      · simp only [h4, if_false, show ¬ k + 1 < vs.length + 1 by omega]
        have e5 : k + 1 - (vs.length + 1) = k - vs.length := by omega
        have e6 : off + 1 + vs.length + (k - vs.length) = off + (vs.length + 1) + (k - vs.length) := by omega
        rw [e5, e6]
        simp [show ¬ off = off + (vs.length + 1) + (k - vs.length) by omega]

def plainV : Value → Prop
  | .agg _ => False
  | .tuple _ => False
  | _ => True

theorem run_store_plain {P : Program} {W : World} {a : Addr} {v : Value} (hv : plainV v) {x : Value} (hc : W.cell? a = some x) (hf : W.frozen? a = false) :
    (Go.store a v).run P W = .ok () (W.setCell a v) := by
  cases v <;> first | exact hv.elim | simp [Go.store, Sem.run, hc, hf]

theorem run_storeCells {P : Program} {B off : Nat} {el : TypeId} : ∀ (vs : List Value) (i : Nat) (L : List Value) (W : World), (∀ v ∈ vs, plainV v) →
    W.heap[B]? = some (.cells L.toArray el (0, 0)) → off + i + vs.length ≤ L.length →
      (Go.storeCells ⟨B, off, none⟩ vs i).run P W = .ok () (World.upd W B (.cells (spliced L (off + i) vs).toArray el (0, 0))) := by
  intro vs
  induction vs with
  | nil =>
    intro i L W _ h _
    have hlt := (Array.getElem?_eq_some_iff.1 h).1
    have he := (Array.getElem?_eq_some_iff.1 h).2
    simp only [Go.storeCells, run_pure', spliced_nil]
    congr 1
    cases W
    simp only [World.upd, World.mk.injEq, and_true]
    dsimp only at he hlt
    apply Array.ext_getElem?
    intro j
    rw [Array.getElem?_setIfInBounds]
    by_cases hj : B = j
    · subst hj; simp [hlt, he]
    · simp [hj]
  | cons v vs ih =>
    intro i L W hp h hl
    simp at hl
    have hlt : off + i < L.length := by omega
    have hc : W.cell? ⟨B, off + i, none⟩ = some L[off + i] := by rw [cell_of_block h]; simp [hlt]
    have hf : W.frozen? ⟨B, off + i, none⟩ = false := by simp [World.frozen?, h]
    simp only [Go.storeCells, Sem.run_bind', addr_add]
    rw [run_store_plain (hp v (by simp)) hc hf]
    simp only []
    rw [setCell_upd h v, ih (i + 1) (L.set (off + i) v) _ (fun x hx => hp x (by simp [hx])) (heap_upd h) (by simp; omega), upd_upd]
    rw [show off + (i + 1) = off + i + 1 from rfl, spliced_cons L (off + i) v vs hlt]

theorem plain_of_scalars {e : Env} : ∀ {l m}, VRs e l m → scalars l = true → ∀ v ∈ m, plainV v
  | _, _, .nil, _ => by intro v hv; cases hv
  | a :: l, _ :: m, .cons h hs, k => by
    intro v hv
    simp only [scalars] at k
    cases hsc : scalar a with
    | false => rw [hsc] at k; cases k
    | true =>
      rw [hsc] at k
      cases hv with
      | head => cases h <;> first | exact trivial | (simp [scalar] at hsc)
      | tail _ hm => exact plain_of_scalars hs k v hm
end Go.AbsE
