import Derived.Test.YtidfcmjlfadieaaB
set_option linter.unusedSimpArgs false
namespace Go.AbsE
open Go

/-! ### frames' temporaries, and memory -/
def TRel (e : Env) (n : Nat) (t : Tr AVal) (T : Array Value) : Prop :=
  T.size = n ∧ n ≤ 1000000 ∧ ∀ i a, t.get (pth i) = some a → ∃ V, T[i]? = some V ∧ VR e a V

theorem TRel.mono {e e' : Env} (he : Env.le e e') {n t T} (h : TRel e n t T) : TRel e' n t T :=
  ⟨h.1, h.2.1, fun i a k => let ⟨V, h1, h2⟩ := h.2.2 i a k; ⟨V, h1, h2.mono he⟩⟩

theorem TRel.put {e : Env} {n t T} (h : TRel e n t T) {d : Nat} (hd : d < n) {a V} (hv : VR e a V) :
    TRel e n (t.put (pth d) (some a)) (T.setIfInBounds d V) := by
  have hn := h.2.1
  refine ⟨by simp [h.1], h.2.1, fun i a' k => ?_⟩
  rw [Tr.get_put _ _ (pth_ok (by omega))] at k
  by_cases hi : pth d = pth i
  · rw [if_pos hi] at k
    cases k
    obtain rfl := pth_inj (by omega) hi
    have : d < T.size := by rw [h.1]; exact hd
    exact ⟨V, by simp [this], hv⟩
  · rw [if_neg hi] at k
    obtain ⟨W, h1, h2⟩ := h.2.2 i a' k
    have : d ≠ i := fun e => hi (by rw [e])
    exact ⟨W, by rw [Array.getElem?_setIfInBounds_ne this]; exact h1, h2⟩

mutual
inductive DR (e : Env) : ADef → Deferred → Prop
  | call {fn cap args C A} (hf : ∀ l, fn ≠ .yield l) (h1 : VRs e cap C) (h2 : VRs e args A) : DR e (.call fn cap args) { target := .fn fn C.toArray, args := A.toArray }
  | collected {b B c} (h : e b = some (B, c)) : DR e (.collected b) { target := .collected B, args := #[] }
end
inductive DRs (e : Env) : List ADef → List Deferred → Prop
  | nil : DRs e [] []
  | cons {a v l m} (h : DR e a v) (hs : DRs e l m) : DRs e (a :: l) (v :: m)

theorem DR.mono {e e' : Env} (he : Env.le e e') {a d} (h : DR e a d) : DR e' a d := by
  cases h with
  | call hf h1 h2 => exact .call hf (h1.mono he) (h2.mono he)
  | collected h => exact .collected (he _ _ h)
theorem DRs.mono {e e' : Env} (he : Env.le e e') {a d} (h : DRs e a d) : DRs e' a d := by
  induction h with
  | nil => exact .nil
  | cons h _ ih => exact .cons (h.mono he) ih
theorem DRs.append {e : Env} {a d a' d'} (h : DRs e a d) (k : DRs e a' d') : DRs e (a ++ a') (d ++ d') := by
  induction h with
  | nil => exact k
  | cons h _ ih => exact .cons h ih

inductive MRs (e : Env) : List AMapE → List MapEntry → Prop
  | nil : MRs e [] []
  | cons {key val V born l m} (h : VR e val V) (hs : MRs e l m) : MRs e ({ key, val, born } :: l) ({ key, val := V, born } :: m)
theorem MRs.mono {e e' : Env} (he : Env.le e e') {a d} (h : MRs e a d) : MRs e' a d := by
  induction h with
  | nil => exact .nil
  | cons h _ ih => exact .cons (h.mono he) ih
theorem MRs.length {e : Env} {a d} (h : MRs e a d) : a.length = d.length := by
  induction h with
  | nil => rfl
  | cons _ _ ih => simp [ih]

/-- What a block of the abstract memory says of the true block. -/
inductive BR (P : Program) (e : Env) (c : Nat) : ABlk → Obj → Prop
  | cells {g cs elem CS junk} (h : VRs e cs CS) (hg : g = .plain → junk = [])
      (hc : g = .grow → ∃ size, sizeT P elem = some size ∧ (CS ++ junk).length = c * size) :
      BR P e c (.cells g cs elem) (.cells (CS ++ junk).toArray elem (0, 0))
  | map {es ES clock} (h : MRs e es ES) : BR P e c (.map es clock) (.map ES.toArray clock)
  | loop {state pending fn n tmps params assign body d T D cD} (h : TRel e n tmps T) (hd : e d = some (D, cD)) :
      BR P e c (.loop { state, pending, fn, n, tmps, params, assign, body, defers := d })
        (.loop { state, pending, fn, tmps := T, params := params.toArray, assign, body, defers := D })
  | taken : BR P e c (.deferred none) (.deferred none)
  | deferred {ds DS} (h : DRs e ds DS) : BR P e c (.deferred (some ds)) (.deferred (some DS))

theorem BR.mono {P : Program} {e e' : Env} (he : Env.le e e') {c o O} (h : BR P e c o O) : BR P e' c o O := by
  cases h with
  | cells h hg hc => exact .cells (h.mono he) hg hc
  | map h => exact .map (h.mono he)
  | loop h hd => exact .loop (h.mono he) (he _ _ hd)
  | taken => exact .taken
  | deferred h => exact .deferred (h.mono he)

/-- Nothing of it is frozen. -/
def unfrozen : Obj → Prop
  | .cells _ _ fr => fr = (0, 0)
  | _ => True

theorem BR.unfrozen {P : Program} {e : Env} {c : Nat} {o : ABlk} {O : Obj} (h : BR P e c o O) : unfrozen O := by
  cases h <;> first | rfl | trivial

/-- Is it only read? -/
def ABlk.isRo : ABlk → Bool
  | .cells g _ _ => g.isRo
  | _ => false

structure HR (P : Program) (w0 : World) (e : Env) (h : AH) (W : World) : Prop where
  dom : ∀ b x, e b = some x → b < h.next
  room : h.next ≤ 1000000001
  blk : ∀ b o, h.get b = some o → ∃ B c O, e b = some (B, c) ∧ (o.isRo = false → w0.heap.size ≤ B) ∧ W.heap[B]? = some O ∧ BR P e c o O
  inj : ∀ b b' B c c' o o', h.get b = some o → h.get b' = some o' → o.isRo = false → e b = some (B, c) → e b' = some (B, c') → b = b'
  os : W.os = w0.os
  tape : W.tape = w0.tape
  output : W.output = w0.output
  size : w0.heap.size ≤ W.heap.size
  old : ∀ i, i < w0.heap.size → W.heap[i]? = w0.heap[i]?
  young : ∀ i O, w0.heap.size ≤ i → W.heap[i]? = some O → unfrozen O

theorem AH.get_new {h h' : AH} {o : ABlk} {b : Nat} (k : h.new o = some (b, h')) :
    b = h.next ∧ h'.next = h.next + 1 ∧ h.next ≤ 1000000000 ∧ ∀ b', h'.get b' = if b' = h.next then some o else h.get b' := by
  obtain ⟨t, next⟩ := h
  simp only [AH.new] at k
  cases hb : Nat.ble next 1000000000 with
  | false => rw [hb] at k; cases k
  | true =>
    rw [hb] at k
    simp at k
    obtain ⟨rfl, rfl⟩ := k
    have hle : next ≤ 1000000000 := Nat.le_of_ble_eq_true hb
    refine ⟨rfl, rfl, hle, fun b' => ?_⟩
    simp only [AH.get]
    rw [Tr.get_put _ _ (pth_ok (by omega))]
    by_cases hp : b' = next
    · subst hp; simp
    · rw [if_neg hp, if_neg (fun he => hp (pth_inj (by omega) he).symm)]

theorem AH.get_set {h h' : AH} {b : Nat} {o : Option ABlk} (hb : b < 10000000000) (k : h.set b o = some h') :
    h'.next = h.next ∧ ∀ b', h'.get b' = if b' = b then o else h.get b' := by
  obtain ⟨t, next⟩ := h
  simp only [AH.set] at k
  cases k
  refine ⟨rfl, fun b' => ?_⟩
  simp only [AH.get]
  rw [Tr.get_put _ _ (pth_ok hb)]
  by_cases hp : b' = b
  · subst hp; simp
  · rw [if_neg hp, if_neg (fun he => hp (pth_inj hb he).symm)]

theorem AH.lt_of_get {h : AH} {b : Nat} {o : ABlk} (k : h.get b = some o) : b < 10000000000 := by
  obtain ⟨t, next⟩ := h
  apply Decidable.byContradiction
  intro hb
  simp only [AH.get, pth_ge hb, Tr.get_nowhere] at k
  cases k

def World.add (W : World) (O : Obj) : World := { W with heap := W.heap.push O }
def World.upd (W : World) (B : Nat) (O : Obj) : World := { W with heap := W.heap.setIfInBounds B O }

def Env.ext (e : Env) (b : Nat) (x : Nat × Nat) : Env := fun b' => if b' = b then some x else e b'
theorem Env.le_ext {e : Env} {b : Nat} {x : Nat × Nat} (h : e b = none) : Env.le e (e.ext b x) := by
  intro b' y k
  unfold Env.ext
  by_cases hb : b' = b
  · subst hb; rw [h] at k; cases k
  · rw [if_neg hb]; exact k
theorem Env.ext_same (e : Env) (b : Nat) (x : Nat × Nat) : e.ext b x b = some x := by simp [Env.ext]

theorem HR.fresh {P : Program} {w0 : World} {e : Env} {h : AH} {W : World} (r : HR P w0 e h W) : e h.next = none := by
  cases k : e h.next with
  | none => rfl
  | some x => have := r.dom _ _ k; omega

/-- A new block. -/
theorem HR.new {P : Program} {w0 : World} {e : Env} {h h' : AH} {W : World} (r : HR P w0 e h W) {o : ABlk} {b c : Nat} {O : Obj} (k : h.new o = some (b, h'))
    (hb : BR P (e.ext h.next (W.heap.size, c)) c o O) :
    b = h.next ∧ Env.le e (e.ext h.next (W.heap.size, c)) ∧ HR P w0 (e.ext h.next (W.heap.size, c)) h' (World.add W O) := by
  obtain ⟨h1, h2, h3, h4⟩ := AH.get_new k
  have hle := Env.le_ext (x := (W.heap.size, c)) r.fresh
  refine ⟨h1, hle, ?_⟩
  refine { dom := ?_, room := by omega, blk := ?_, inj := ?_, os := r.os, tape := r.tape, output := r.output, size := (by show w0.heap.size ≤ (W.heap.push O).size; have := r.size; simp; omega), old := ?_, young := ?_ }
  · intro b' x kx
    unfold Env.ext at kx
    by_cases hb' : b' = h.next
    · omega
    · rw [if_neg hb'] at kx; have := r.dom _ _ kx; omega
  · intro b' o' kx
    rw [h4] at kx
    by_cases hb' : b' = h.next
    · rw [if_pos hb'] at kx
      cases kx
      subst hb'
      exact ⟨W.heap.size, c, O, Env.ext_same _ _ _, (fun _ => r.size), (by show (W.heap.push O)[W.heap.size]? = some O; simp), hb⟩
    · rw [if_neg hb'] at kx
      obtain ⟨B, c', O', k1, k2, k3, k4⟩ := r.blk _ _ kx
      refine ⟨B, c', O', hle _ _ k1, k2, ?_, k4.mono hle⟩
      have hlt := (Array.getElem?_eq_some_iff.1 k3).1
      show (W.heap.push O)[B]? = some O'
      rw [Array.getElem?_push_lt hlt, ← k3, Array.getElem?_eq_getElem hlt]
  · intro b1 b2 B c1 c2 o1 o2 k1 k2 hro e1 e2
    rw [h4] at k1 k2
    unfold Env.ext at e1 e2
    by_cases q1 : b1 = h.next <;> by_cases q2 : b2 = h.next
    · omega
    · rw [if_pos q1] at e1
      rw [if_neg q2] at e2 k2
      cases e1
      obtain ⟨B', c', O', j1, _, j3, _⟩ := r.blk _ _ k2
      rw [e2] at j1; cases j1
      have := (Array.getElem?_eq_some_iff.1 j3).1
      omega
    · rw [if_pos q2] at e2
      rw [if_neg q1] at e1 k1
      cases e2
      obtain ⟨B', c', O', j1, _, j3, _⟩ := r.blk _ _ k1
      rw [e1] at j1; cases j1
      have := (Array.getElem?_eq_some_iff.1 j3).1
      omega
    · rw [if_neg q1] at e1 k1
      rw [if_neg q2] at e2 k2
      exact r.inj _ _ _ _ _ _ _ k1 k2 hro e1 e2
  · intro i hi
    have := r.size
    have hlt : i < W.heap.size := by omega
    show (W.heap.push O)[i]? = w0.heap[i]?
    rw [Array.getElem?_push_lt hlt, ← r.old i hi, Array.getElem?_eq_getElem hlt]
  · intro i O2 hi h2
    replace h2 : (W.heap.push O)[i]? = some O2 := h2
    rw [Array.getElem?_push] at h2
    by_cases hq : i = W.heap.size
    · rw [if_pos hq] at h2; cases h2; exact hb.unfrozen
    · rw [if_neg hq] at h2; exact r.young i O2 hi h2

/-- A block turns. -/
theorem HR.set {P : Program} {w0 : World} {e : Env} {h h' : AH} {W : World} (r : HR P w0 e h W) {b B c : Nat} {o o' : ABlk} {O' : Obj} (kb : h.get b = some o) (hro : o.isRo = false)
    (ke : e b = some (B, c)) (k : h.set b (some o') = some h') (hb : BR P e c o' O') : HR P w0 e h' (World.upd W B O') := by
  obtain ⟨h1, h2⟩ := AH.get_set (AH.lt_of_get kb) k
  obtain ⟨B0, c0, O, j1, j2, j3, j4⟩ := r.blk _ _ kb
  rw [ke] at j1; cases j1
  have hlt := (Array.getElem?_eq_some_iff.1 j3).1
  refine { dom := fun b' x kx => by rw [h1]; exact r.dom _ _ kx, room := by rw [h1]; exact r.room, blk := ?_, inj := ?_, os := r.os, tape := r.tape, output := r.output,
           size := by simp [World.upd]; exact r.size, old := ?_, young := ?_ }
  · intro b' o2 kx
    rw [h2] at kx
    by_cases hb' : b' = b
    · rw [if_pos hb'] at kx
      cases kx
      subst hb'
      exact ⟨B, c, O', ke, (fun _ => j2 hro), by simp [World.upd, hlt], hb⟩
    · rw [if_neg hb'] at kx
      obtain ⟨B', c', O2, k1, k2, k3, k4⟩ := r.blk _ _ kx
      refine ⟨B', c', O2, k1, k2, ?_, k4⟩
      have hne : B ≠ B' := fun he => hb' (r.inj _ _ _ _ _ _ _ kb kx hro ke (he ▸ k1)).symm
      simp only [World.upd]
      rw [Array.getElem?_setIfInBounds_ne hne]; exact k3
  · intro b1 b2 B1 c1 c2 o1 o2 k1 k2 hr1 e1 e2
    rw [h2] at k1 k2
    have get1 : ∃ x, h.get b1 = some x ∧ x.isRo = false := by
      by_cases q : b1 = b
      · exact ⟨o, q ▸ kb, hro⟩
      · rw [if_neg q] at k1; exact ⟨_, k1, hr1⟩
    have get2 : ∃ x, h.get b2 = some x := by
      by_cases q : b2 = b
      · exact ⟨o, q ▸ kb⟩
      · rw [if_neg q] at k2; exact ⟨_, k2⟩
    obtain ⟨x1, g1, g1r⟩ := get1
    obtain ⟨x2, g2⟩ := get2
    exact r.inj _ _ _ _ _ _ _ g1 g2 g1r e1 e2
  · intro i hi
    simp only [World.upd]
    have j2 := j2 hro
    rw [Array.getElem?_setIfInBounds_ne (by omega)]; exact r.old i hi
  · intro i O2 hi h2
    replace h2 : (W.heap.setIfInBounds B O')[i]? = some O2 := h2
    by_cases hq : B = i
    · subst hq; simp [hlt] at h2; subst h2; exact hb.unfrozen
    · rw [Array.getElem?_setIfInBounds_ne hq] at h2; exact r.young i O2 hi h2

/-- A block is given up. -/
theorem HR.drop {P : Program} {w0 : World} {e : Env} {h h' : AH} {W : World} (r : HR P w0 e h W) {b : Nat} {o : ABlk} (kb : h.get b = some o)
    (k : h.set b none = some h') : HR P w0 e h' W := by
  obtain ⟨h1, h2⟩ := AH.get_set (AH.lt_of_get kb) k
  have get1 : ∀ {b1 o1}, h'.get b1 = some o1 → h.get b1 = some o1 := by
    intro b1 o1 k1
    rw [h2] at k1
    by_cases q : b1 = b
    · rw [if_pos q] at k1; cases k1
    · rw [if_neg q] at k1; exact k1
  exact { dom := fun b' x kx => by rw [h1]; exact r.dom _ _ kx, room := by rw [h1]; exact r.room, blk := fun b' o2 kx => r.blk _ _ (get1 kx),
          inj := fun b1 b2 B1 c1 c2 o1 o2 k1 k2 hr1 e1 e2 => r.inj _ _ _ _ _ _ _ (get1 k1) (get1 k2) hr1 e1 e2, os := r.os, tape := r.tape, output := r.output, size := r.size, old := r.old, young := r.young }

theorem HR.drew {P : Program} {w0 : World} {e : Env} {h : AH} {W : World} (r : HR P w0 e h W) (n : Nat) : HR P w0 e h { W with drawn := n } :=
  { dom := r.dom, room := r.room, blk := r.blk, inj := r.inj, os := r.os, tape := r.tape, output := r.output, size := r.size, old := r.old, young := r.young }
end Go.AbsE
