import Derived.Test.YtidfcmjlfadieaaB
set_option linter.unusedSimpArgs false
namespace Go.AbsE
open Go

/-! ### frames' temporaries, and memory -/
def TRel (e : Env) (n : Nat) (t : Tr AVal) (T : Array Value) : Prop :=
  T.size = n ∧ n ≤ 1000000 ∧ ∀ i a, t.get (pth i) = some a → ∃ V, T[i]? = some V ∧ VR e a V

theorem TRel.mono {e e' : Env} (he : Env.le e e') {n t T} (h : TRel e n t T) : TRel e' n t T :=
  ⟨h.1, h.2.1, fun i a k => let ⟨V, h1, h2⟩ := h.2.2 i a k; ⟨V, h1, h2.mono he⟩⟩

theorem TRel.put {e : Env} {n t T} (h : TRel e n t T) {d : Nat} (hd : d < n) {a V} (hv : VR e a V) :
    TRel e n (t.put (pth d) (some a)) (T.setIfInBounds d V) := by
  have hn := h.2.1
  refine ⟨by simp [h.1], h.2.1, fun i a' k => ?_⟩
  rw [Tr.get_put _ _ (pth_ok (by omega))] at k
  by_cases hi : pth d = pth i
  · rw [if_pos hi] at k
    cases k
    obtain rfl := pth_inj (by omega) hi
    have : d < T.size := by rw [h.1]; exact hd
    exact ⟨V, by simp [this], hv⟩
  · rw [if_neg hi] at k
    obtain ⟨W, h1, h2⟩ := h.2.2 i a' k
    have : d ≠ i := fun e => hi (by rw [e])
    exact ⟨W, by rw [Array.getElem?_setIfInBounds_ne this]; exact h1, h2⟩

mutual
inductive DR (e : Env) : ADef → Deferred → Prop
  | call {fn cap args C A} (hf : ∀ l, fn ≠ .yield l) (h1 : VRs e cap C) (h2 : VRs e args A) : DR e (.call fn cap args) { target := .fn fn C.toArray, args := A.toArray }
  | collected {b B c} (h : e b = some (B, c)) : DR e (.collected b) { target := .collected B, args := #[] }
end
inductive DRs (e : Env) : List ADef → List Deferred → Prop
  | nil : DRs e [] []
  | cons {a v l m} (h : DR e a v) (hs : DRs e l m) : DRs e (a :: l) (v :: m)

theorem DR.mono {e e' : Env} (he : Env.le e e') {a d} (h : DR e a d) : DR e' a d := by
  cases h with
  | call hf h1 h2 => exact .call hf (h1.mono he) (h2.mono he)
  | collected h => exact .collected (he.1 _ _ h)
theorem DRs.mono {e e' : Env} (he : Env.le e e') {a d} (h : DRs e a d) : DRs e' a d := by
  induction h with
  | nil => exact .nil
  | cons h _ ih => exact .cons (h.mono he) ih
theorem DRs.append {e : Env} {a d a' d'} (h : DRs e a d) (k : DRs e a' d') : DRs e (a ++ a') (d ++ d') := by
  induction h with
  | nil => exact k
  | cons h _ ih => exact .cons h ih

inductive MRs (e : Env) : List AMapE → List MapEntry → Prop
  | nil : MRs e [] []
  | cons {key val V born l m} (h : VR e val V) (hs : MRs e l m) : MRs e ({ key, val, born } :: l) ({ key, val := V, born } :: m)
theorem MRs.mono {e e' : Env} (he : Env.le e e') {a d} (h : MRs e a d) : MRs e' a d := by
  induction h with
  | nil => exact .nil
  | cons h _ ih => exact .cons (h.mono he) ih
theorem MRs.length {e : Env} {a d} (h : MRs e a d) : a.length = d.length := by
  induction h with
  | nil => rfl
  | cons _ _ ih => simp [ih]

/-- What a block of the abstract memory says of the true block. -/
inductive BR (P : Program) (e : Env) (c : Nat) : ABlk → Obj → Prop
  | cells {g cs elem CS junk} (h : VRs e cs CS) (hg : g = .plain → junk = [])
      (hc : g = .grow → ∃ size, sizeT P elem = some size ∧ (CS ++ junk).length = c * size) :
      BR P e c (.cells g cs elem) (.cells (CS ++ junk).toArray elem (0, 0))
  | win {lo cs elem PRE CS junk fr} (h : VRs e cs CS) (hp : PRE.length = lo) : BR P e c (.win lo cs) (.cells (PRE ++ (CS ++ junk)).toArray elem fr)
  | map {es ES clock} (h : MRs e es ES) : BR P e c (.map es clock) (.map ES.toArray clock)
  | loop {state pending fn n tmps params assign body d T D cD} (h : TRel e n tmps T) (hd : e d = some (D, cD)) :
      BR P e c (.loop { state, pending, fn, n, tmps, params, assign, body, defers := d })
        (.loop { state, pending, fn, tmps := T, params := params.toArray, assign, body, defers := D })
  | taken : BR P e c (.deferred none) (.deferred none)
  | deferred {ds DS} (h : DRs e ds DS) : BR P e c (.deferred (some ds)) (.deferred (some DS))

theorem BR.mono {P : Program} {e e' : Env} (he : Env.le e e') {c o O} (h : BR P e c o O) : BR P e' c o O := by
  cases h with
  | cells h hg hc => exact .cells (h.mono he) hg hc
  | win h hp => exact .win (h.mono he) hp
  | map h => exact .map (h.mono he)
  | loop h hd => exact .loop (h.mono he) (he.1 _ _ hd)
  | taken => exact .taken
  | deferred h => exact .deferred (h.mono he)

/-- Nothing of it is frozen. -/
def unfrozen : Obj → Prop
  | .cells _ _ fr => fr = (0, 0)
  | _ => True

/-- Is it a window on a block, of which only some cells are known? -/
def ABlk.isWin : ABlk → Bool
  | .win _ _ => true
  | _ => false

theorem BR.unfrozen {P : Program} {e : Env} {c : Nat} {o : ABlk} {O : Obj} (h : BR P e c o O) (hw : o.isWin = false) : unfrozen O := by
  cases h <;> first | rfl | trivial | cases hw

/-- Is it only read? -/
def ABlk.isRo : ABlk → Bool
  | .cells g _ _ => g.isRo
  | .win _ _ => true
  | _ => false

/-- The world in which a run began, and the blocks of it that the run does not touch. -/
structure Base where
  w : World
  prot : Nat → Prop
  lt : ∀ i, prot i → i < w.heap.size

def Base.all (W : World) : Base := ⟨W, fun i => i < W.heap.size, fun _ h => h⟩

structure HR (P : Program) (w0 : Base) (e : Env) (h : AH) (W : World) : Prop where
  dom : ∀ b x, e b = some x → b < h.next
  blk : ∀ b o, h.get b = some o → ∃ B c O, e b = some (B, c) ∧ (o.isRo = false → ¬ w0.prot B) ∧ W.heap[B]? = some O ∧ BR P e c o O
  inj : ∀ b b' B c c' o o', h.get b = some o → h.get b' = some o' → o.isRo = false → e b = some (B, c) → e b' = some (B, c') → b = b'
  imm : ∀ B CS, e.imm B = some CS → (∃ el, W.heap[B]? = some (.cells CS.toArray el (0, 0))) ∧ ∀ b o c, h.get b = some o → o.isRo = false → e b ≠ some (B, c)
  os : W.os = w0.w.os
  tape : W.tape = w0.w.tape
  output : W.output = w0.w.output
  size : w0.w.heap.size ≤ W.heap.size
  old : ∀ i, w0.prot i → W.heap[i]? = w0.w.heap[i]?
  young : ∀ i O, w0.w.heap.size ≤ i → W.heap[i]? = some O → unfrozen O

theorem AH.get_new {h h' : AH} {o : ABlk} {b : Nat} (k : h.new o = some (b, h')) :
    b = h.next ∧ h'.next = h.next + 1 ∧ ∀ b', h'.get b' = if b' = h.next then some o else h.get b' := by
  obtain ⟨t, nx⟩ := h
  simp only [AH.new] at k
  cases k
  refine ⟨rfl, rfl, fun b' => ?_⟩
  simp only [AH.get]
  rw [Tr.get_put _ _ (pth_ok' _)]
  by_cases hp : b' = b
  · rw [if_pos hp, if_pos (by rw [hp])]
  · rw [if_neg hp, if_neg (fun he => hp (pth_inj' he).symm)]

theorem AH.get_set {h h' : AH} {b : Nat} {o : Option ABlk} (k : h.set b o = some h') :
    h'.next = h.next ∧ ∀ b', h'.get b' = if b' = b then o else h.get b' := by
  obtain ⟨t, next⟩ := h
  simp only [AH.set] at k
  cases k
  refine ⟨rfl, fun b' => ?_⟩
  simp only [AH.get]
  rw [Tr.get_put _ _ (pth_ok' _)]
  by_cases hp : b' = b
  · subst hp; simp
  · rw [if_neg hp, if_neg (fun he => hp (pth_inj' he).symm)]

def World.add (W : World) (O : Obj) : World := { W with heap := W.heap.push O }
def World.upd (W : World) (B : Nat) (O : Obj) : World := { W with heap := W.heap.setIfInBounds B O }

def Env.ext (e : Env) (b : Nat) (x : Nat × Nat) : Env := ⟨fun b' => if b' = b then some x else e b', e.imm⟩
theorem Env.le_ext {e : Env} {b : Nat} {x : Nat × Nat} (h : e b = none) : Env.le e (e.ext b x) := by
  refine ⟨fun b' y k => ?_, fun _ _ k => k⟩
  show (if b' = b then some x else e b') = some y
  by_cases hb : b' = b
  · subst hb; rw [h] at k; cases k
  · rw [if_neg hb]; exact k
theorem Env.ext_same (e : Env) (b : Nat) (x : Nat × Nat) : e.ext b x b = some x := by
  show (if b = b then some x else e b) = some x
  rw [if_pos rfl]
theorem Env.ext_at (e : Env) (b : Nat) (x : Nat × Nat) (b' : Nat) : e.ext b x b' = if b' = b then some x else e b' := rfl

theorem HR.fresh {P : Program} {w0 : Base} {e : Env} {h : AH} {W : World} (r : HR P w0 e h W) : e h.next = none := by
  cases k : e h.next with
  | none => rfl
  | some x => have := r.dom _ _ k; omega

/-- A new block. -/
theorem HR.new {P : Program} {w0 : Base} {e : Env} {h h' : AH} {W : World} (r : HR P w0 e h W) {o : ABlk} {b c : Nat} {O : Obj} (k : h.new o = some (b, h'))
    (hb : BR P (e.ext h.next (W.heap.size, c)) c o O) (hw : o.isWin = false := by rfl) :
    b = h.next ∧ Env.le e (e.ext h.next (W.heap.size, c)) ∧ HR P w0 (e.ext h.next (W.heap.size, c)) h' (World.add W O) := by
  obtain ⟨h1, h2, h4⟩ := AH.get_new k
  have hle := Env.le_ext (x := (W.heap.size, c)) r.fresh
  have hnp : ∀ i, w0.prot i → i ≠ W.heap.size := fun i hi => by have := w0.lt i hi; have := r.size; omega
  refine ⟨h1, hle, ?_⟩
  refine { dom := ?_, blk := ?_, inj := ?_, imm := ?_, os := r.os, tape := r.tape, output := r.output, size := (by show w0.w.heap.size ≤ (W.heap.push O).size; have := r.size; simp; omega), old := ?_, young := ?_ }
  · intro b' x kx
    rw [Env.ext_at] at kx
    by_cases hb' : b' = h.next
    · omega
    · rw [if_neg hb'] at kx; have := r.dom _ _ kx; omega
  · intro b' o' kx
    rw [h4] at kx
    by_cases hb' : b' = h.next
    · rw [if_pos hb'] at kx
      cases kx
      subst hb'
      exact ⟨W.heap.size, c, O, Env.ext_same _ _ _, (fun _ hp => hnp _ hp rfl), (by show (W.heap.push O)[W.heap.size]? = some O; simp), hb⟩
    · rw [if_neg hb'] at kx
      obtain ⟨B, c', O', k1, k2, k3, k4⟩ := r.blk _ _ kx
      refine ⟨B, c', O', hle.1 _ _ k1, k2, ?_, k4.mono hle⟩
      have hlt := (Array.getElem?_eq_some_iff.1 k3).1
      show (W.heap.push O)[B]? = some O'
      rw [Array.getElem?_push_lt hlt, ← k3, Array.getElem?_eq_getElem hlt]
  · intro b1 b2 B c1 c2 o1 o2 k1 k2 hro e1 e2
    rw [h4] at k1 k2
    rw [Env.ext_at] at e1 e2
    by_cases q1 : b1 = h.next <;> by_cases q2 : b2 = h.next
    · omega
    · rw [if_pos q1] at e1
      rw [if_neg q2] at e2 k2
      cases e1
      obtain ⟨B', c', O', j1, _, j3, _⟩ := r.blk _ _ k2
      rw [e2] at j1; cases j1
      have := (Array.getElem?_eq_some_iff.1 j3).1
      omega
    · rw [if_pos q2] at e2
      rw [if_neg q1] at e1 k1
      cases e2
      obtain ⟨B', c', O', j1, _, j3, _⟩ := r.blk _ _ k1
      rw [e1] at j1; cases j1
      have := (Array.getElem?_eq_some_iff.1 j3).1
      omega
    · rw [if_neg q1] at e1 k1
      rw [if_neg q2] at e2 k2
      exact r.inj _ _ _ _ _ _ _ k1 k2 hro e1 e2
  · intro B CS hi
    obtain ⟨⟨el, i1⟩, i2⟩ := r.imm B CS hi
    have hlt := (Array.getElem?_eq_some_iff.1 i1).1
    refine ⟨⟨el, ?_⟩, fun b' o' c' kx hro ke => ?_⟩
    · show (W.heap.push O)[B]? = _
      rw [Array.getElem?_push_lt hlt, ← i1, Array.getElem?_eq_getElem hlt]
    · rw [h4] at kx
      rw [Env.ext_at] at ke
      by_cases q : b' = h.next
      · rw [if_pos q] at ke; cases ke; omega
      · rw [if_neg q] at ke kx; exact i2 b' o' c' kx hro ke
  · intro i hi
    have := r.size
    have := w0.lt i hi
    have hlt : i < W.heap.size := by omega
    show (W.heap.push O)[i]? = w0.w.heap[i]?
    rw [Array.getElem?_push_lt hlt, ← r.old i hi, Array.getElem?_eq_getElem hlt]
  · intro i O2 hi h2
    replace h2 : (W.heap.push O)[i]? = some O2 := h2
    rw [Array.getElem?_push] at h2
    by_cases hq : i = W.heap.size
    · rw [if_pos hq] at h2; cases h2; exact hb.unfrozen hw
    · rw [if_neg hq] at h2; exact r.young i O2 hi h2

/-- A block that holds one thing for ever. -/
theorem HR.newImm {P : Program} {w0 : Base} {e : Env} {h : AH} {W : World} (r : HR P w0 e h W) (CS : List Value) (el : TypeId) :
    Env.le e ⟨e.loc, fun B => if B = W.heap.size then some CS else e.imm B⟩ ∧ HR P w0 ⟨e.loc, fun B => if B = W.heap.size then some CS else e.imm B⟩ h (World.add W (.cells CS.toArray el (0, 0))) := by
  have hnone : e.imm W.heap.size = none := by
    cases q : e.imm W.heap.size with
    | none => rfl
    | some x => obtain ⟨⟨el, i1⟩, _⟩ := r.imm _ _ q; have := (Array.getElem?_eq_some_iff.1 i1).1; omega
  have hle : Env.le e ⟨e.loc, fun B => if B = W.heap.size then some CS else e.imm B⟩ := by
    refine ⟨fun _ _ q => q, fun B x q => ?_⟩
    show (if B = W.heap.size then some CS else e.imm B) = some x
    by_cases hb : B = W.heap.size
    · subst hb; rw [hnone] at q; cases q
    · rw [if_neg hb]; exact q
  have keep : ∀ {i : Nat} {O : Obj}, W.heap[i]? = some O → (World.add W (.cells CS.toArray el (0, 0))).heap[i]? = some O := by
    intro i O q
    have hlt := (Array.getElem?_eq_some_iff.1 q).1
    show (W.heap.push _)[i]? = some O
    rw [Array.getElem?_push_lt hlt, ← q, Array.getElem?_eq_getElem hlt]
  refine ⟨hle, { dom := r.dom, blk := ?_, inj := r.inj, imm := ?_, os := r.os, tape := r.tape, output := r.output, size := (by show w0.w.heap.size ≤ (W.heap.push _).size; have := r.size; simp; omega), old := ?_, young := ?_ }⟩
  · intro b o k
    obtain ⟨B, c, O, k1, k2, k3, k4⟩ := r.blk b o k
    exact ⟨B, c, O, k1, k2, keep k3, k4.mono hle⟩
  · intro B CS' q
    replace q : (if B = W.heap.size then some CS else e.imm B) = some CS' := q
    by_cases hb : B = W.heap.size
    · rw [if_pos hb] at q
      cases q
      subst hb
      refine ⟨⟨el, by show (W.heap.push _)[W.heap.size]? = _; simp⟩, fun b o c k _ ke => ?_⟩
      obtain ⟨B', c', O, k1, _, k3, _⟩ := r.blk b o k
      replace ke : e b = some (W.heap.size, c) := ke
      rw [ke] at k1; cases k1
      have := (Array.getElem?_eq_some_iff.1 k3).1
      omega
    · rw [if_neg hb] at q
      obtain ⟨⟨el', i1⟩, i2⟩ := r.imm B CS' q
      exact ⟨⟨el', keep i1⟩, i2⟩
  · intro i hi
    have := r.size
    have := w0.lt i hi
    have hlt : i < W.heap.size := by omega
    show (W.heap.push _)[i]? = w0.w.heap[i]?
    rw [Array.getElem?_push_lt hlt, ← r.old i hi, Array.getElem?_eq_getElem hlt]
  · intro i O2 hi h2
    replace h2 : (W.heap.push (.cells CS.toArray el (0, 0)))[i]? = some O2 := h2
    rw [Array.getElem?_push] at h2
    by_cases hq : i = W.heap.size
    · rw [if_pos hq] at h2; cases h2; rfl
    · rw [if_neg hq] at h2; exact r.young i O2 hi h2

/-- A block turns. -/
theorem HR.set {P : Program} {w0 : Base} {e : Env} {h h' : AH} {W : World} (r : HR P w0 e h W) {b B c : Nat} {o o' : ABlk} {O' : Obj} (kb : h.get b = some o) (hro : o.isRo = false)
    (ke : e b = some (B, c)) (k : h.set b (some o') = some h') (hb : BR P e c o' O') (hw : o'.isWin = false := by rfl) : HR P w0 e h' (World.upd W B O') := by
  obtain ⟨h1, h2⟩ := AH.get_set k
  obtain ⟨B0, c0, O, j1, j2, j3, j4⟩ := r.blk _ _ kb
  rw [ke] at j1; cases j1
  have hlt := (Array.getElem?_eq_some_iff.1 j3).1
  have get1 : ∀ {b1 o1}, h'.get b1 = some o1 → ∃ x, h.get b1 = some x ∧ (o1.isRo = false → x.isRo = false) := by
    intro b1 o1 k1
    rw [h2] at k1
    by_cases q : b1 = b
    · exact ⟨o, q ▸ kb, fun _ => hro⟩
    · rw [if_neg q] at k1; exact ⟨_, k1, id⟩
  refine { dom := fun b' x kx => by rw [h1]; exact r.dom _ _ kx, blk := ?_, inj := ?_, imm := ?_, os := r.os, tape := r.tape, output := r.output,
           size := by simp [World.upd]; exact r.size, old := ?_, young := ?_ }
  · intro b' o2 kx
    rw [h2] at kx
    by_cases hb' : b' = b
    · rw [if_pos hb'] at kx
      cases kx
      subst hb'
      exact ⟨B, c, O', ke, (fun _ => j2 hro), by simp [World.upd, hlt], hb⟩
    · rw [if_neg hb'] at kx
      obtain ⟨B', c', O2, k1, k2, k3, k4⟩ := r.blk _ _ kx
      refine ⟨B', c', O2, k1, k2, ?_, k4⟩
      have hne : B ≠ B' := fun he => hb' (r.inj _ _ _ _ _ _ _ kb kx hro ke (he ▸ k1)).symm
      simp only [World.upd]
      rw [Array.getElem?_setIfInBounds_ne hne]; exact k3
  · intro b1 b2 B1 c1 c2 o1 o2 k1 k2 hr1 e1 e2
    obtain ⟨x1, g1, g1r⟩ := get1 k1
    obtain ⟨x2, g2, _⟩ := get1 k2
    exact r.inj _ _ _ _ _ _ _ g1 g2 (g1r hr1) e1 e2
  · intro B1 CS hi
    obtain ⟨⟨el, i1⟩, i2⟩ := r.imm B1 CS hi
    have hne : B ≠ B1 := fun he => i2 b o c kb hro (he ▸ ke)
    refine ⟨⟨el, ?_⟩, fun b1 o1 c1 k1 hr1 => ?_⟩
    · simp only [World.upd]
      rw [Array.getElem?_setIfInBounds_ne hne]; exact i1
    · obtain ⟨x1, g1, g1r⟩ := get1 k1
      exact i2 b1 x1 c1 g1 (g1r hr1)
  · intro i hi
    have j2 := j2 hro
    have hne : B ≠ i := fun he => j2 (he ▸ hi)
    simp only [World.upd]
    rw [Array.getElem?_setIfInBounds_ne hne]; exact r.old i hi
  · intro i O2 hi h2
    replace h2 : (W.heap.setIfInBounds B O')[i]? = some O2 := h2
    by_cases hq : B = i
    · subst hq; simp [hlt] at h2; subst h2; exact hb.unfrozen hw
    · rw [Array.getElem?_setIfInBounds_ne hq] at h2; exact r.young i O2 hi h2

/-- A block is given up. -/
theorem HR.drop {P : Program} {w0 : Base} {e : Env} {h h' : AH} {W : World} (r : HR P w0 e h W) {b : Nat} {o : ABlk} (kb : h.get b = some o)
    (k : h.set b none = some h') : HR P w0 e h' W := by
  have _ := kb
  obtain ⟨h1, h2⟩ := AH.get_set k
  have get1 : ∀ {b1 o1}, h'.get b1 = some o1 → h.get b1 = some o1 := by
    intro b1 o1 k1
    rw [h2] at k1
    by_cases q : b1 = b
    · rw [if_pos q] at k1; cases k1
    · rw [if_neg q] at k1; exact k1
  exact { dom := fun b' x kx => by rw [h1]; exact r.dom _ _ kx, blk := fun b' o2 kx => r.blk _ _ (get1 kx),
          inj := fun b1 b2 B1 c1 c2 o1 o2 k1 k2 hr1 e1 e2 => r.inj _ _ _ _ _ _ _ (get1 k1) (get1 k2) hr1 e1 e2,
          imm := fun B CS hi => ⟨(r.imm B CS hi).1, fun b1 o1 c1 k1 => (r.imm B CS hi).2 b1 o1 c1 (get1 k1)⟩, os := r.os, tape := r.tape, output := r.output, size := r.size, old := r.old, young := r.young }

theorem HR.drew {P : Program} {w0 : Base} {e : Env} {h : AH} {W : World} (r : HR P w0 e h W) (n : Nat) : HR P w0 e h { W with drawn := n } :=
  { dom := r.dom, blk := r.blk, inj := r.inj, imm := r.imm, os := r.os, tape := r.tape, output := r.output, size := r.size, old := r.old, young := r.young }
end Go.AbsE
