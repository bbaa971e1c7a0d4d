import Derived.Test.YtobhkdgcciolmaaGreatMAA
import Derived.IntWalk
import Derived.Laws.Sem
set_option linter.unusedSimpArgs false
namespace Go.AbsE
open Go
def TRel (e : Env) (n : Nat) (t : Tr AVal) (T : Array Value) : Prop :=
  T.size = n ∧ n ≤ 1000000 ∧ ∀ i a, t.get (pth i) = some a → ∃ V, T[i]? = some V ∧ VR e a V
theorem TRel.mono {e e' : Env} (he : Env.le e e') {n t T} (h : TRel e n t T) : TRel e' n t T :=
  ⟨h.1, h.2.1, fun i a k => let ⟨V, h1, h2⟩ := h.2.2 i a k; ⟨V, h1, h2.mono he⟩⟩
theorem TRel.put {e : Env} {n t T} (h : TRel e n t T) {d : Nat} (hd : d < n) {a V} (hv : VR e a V) :
    TRel e n (t.put (pth d) (some a)) (T.setIfInBounds d V) := by
  have hn := h.2.1
  refine ⟨by simp [h.1], h.2.1, fun i a' k => ?_⟩
  rw [Tr.get_put _ _ (pth_ok (by omega))] at k
  by_cases hi : pth d = pth i
  · rw [if_pos hi] at k
    cases k
    obtain rfl := pth_inj (by omega) hi
    have : d < T.size := by rw [h.1]; exact hd
    exact ⟨V, by simp [this], hv⟩
  · rw [if_neg hi] at k
    obtain ⟨W, h1, h2⟩ := h.2.2 i a' k
    have : d ≠ i := fun e => hi (by rw [e])
    exact ⟨W, by rw [Array.getElem?_setIfInBounds_ne this]; exact h1, h2⟩
mutual
inductive DR (e : Env) : ADef → Deferred → Prop
  | call {fn cap args C A} (hf : ∀ l, fn ≠ .yield l) (h1 : VRs e cap C) (h2 : VRs e args A) : DR e (.call fn cap args) { target := .fn fn C.toArray, args := A.toArray }
  | collected {b B c} (h : e b = some (B, c)) : DR e (.collected b) { target := .collected B, args := #[] }
end
inductive DRs (e : Env) : List ADef → List Deferred → Prop
  | nil : DRs e [] []
  | cons {a v l m} (h : DR e a v) (hs : DRs e l m) : DRs e (a :: l) (v :: m)
theorem DR.mono {e e' : Env} (he : Env.le e e') {a d} (h : DR e a d) : DR e' a d := by
  cases h with
  | call hf h1 h2 => exact .call hf (h1.mono he) (h2.mono he)
  | collected h => exact .collected (he.1 _ _ h)
theorem DRs.mono {e e' : Env} (he : Env.le e e') {a d} (h : DRs e a d) : DRs e' a d := by
  induction h with
  | nil => exact .nil
  | cons h _ ih => exact .cons (h.mono he) ih
theorem DRs.append {e : Env} {a d a' d'} (h : DRs e a d) (k : DRs e a' d') : DRs e (a ++ a') (d ++ d') := by
  induction h with
  | nil => exact k
  | cons h _ ih => exact .cons h ih
inductive MRs (e : Env) : List AMapE → List MapEntry → Prop
  | nil : MRs e [] []
  | cons {key val V born l m} (h : VR e val V) (hs : MRs e l m) : MRs e ({ key, val, born } :: l) ({ key, val := V, born } :: m)
theorem MRs.mono {e e' : Env} (he : Env.le e e') {a d} (h : MRs e a d) : MRs e' a d := by
  induction h with
  | nil => exact .nil
  | cons h _ ih => exact .cons (h.mono he) ih
theorem MRs.length {e : Env} {a d} (h : MRs e a d) : a.length = d.length := by
  induction h with
  | nil => rfl
  | cons _ _ ih => simp [ih]
inductive BR (P : Program) (e : Env) (c : Nat) : ABlk → Obj → Prop
  | cells {g cs elem CS junk} (h : VRs e cs CS) (hg : g = .plain → junk = [])
      (hc : g = .grow → ∃ size, sizeT P elem = some size ∧ (CS ++ junk).length = c * size) :
      BR P e c (.cells g cs elem) (.cells (CS ++ junk).toArray elem (0, 0))
  | win {lo cs elem PRE CS junk fr} (h : VRs e cs CS) (hp : PRE.length = lo) : BR P e c (.win lo cs) (.cells (PRE ++ (CS ++ junk)).toArray elem fr)
  | map {es ES clock} (h : MRs e es ES) : BR P e c (.map es clock) (.map ES.toArray clock)
  | loop {state pending fn n tmps params assign body d T D cD} (h : TRel e n tmps T) (hd : e d = some (D, cD)) :
      BR P e c (.loop { state, pending, fn, n, tmps, params, assign, body, defers := d })
        (.loop { state, pending, fn, tmps := T, params := params.toArray, assign, body, defers := D })
  | taken : BR P e c (.deferred none) (.deferred none)
  | deferred {ds DS} (h : DRs e ds DS) : BR P e c (.deferred (some ds)) (.deferred (some DS))
  | iter {m M cM since seen stepped} (h : e m = some (M, cM)) : BR P e c (.iter m since seen stepped) (.mapIter (some M) since seen.toArray stepped)
  | romap {es ES clock} (h : MRs e es ES) : BR P e c (.romap es clock) (.map ES.toArray clock)
theorem BR.mono {P : Program} {e e' : Env} (he : Env.le e e') {c o O} (h : BR P e c o O) : BR P e' c o O := by
  cases h with
  | cells h hg hc => exact .cells (h.mono he) hg hc
  | win h hp => exact .win (h.mono he) hp
  | map h => exact .map (h.mono he)
  | loop h hd => exact .loop (h.mono he) (he.1 _ _ hd)
  | taken => exact .taken
  | deferred h => exact .deferred (h.mono he)
  | iter h => exact .iter (he.1 _ _ h)
  | romap h => exact .romap (h.mono he)
def unfrozen : Obj → Prop
  | .cells _ _ fr => fr = (0, 0)
  | _ => True
def ABlk.isWin : ABlk → Bool
  | .win _ _ => true
  | _ => false
theorem BR.unfrozen {P : Program} {e : Env} {c : Nat} {o : ABlk} {O : Obj} (h : BR P e c o O) (hw : o.isWin = false) : unfrozen O := by
  cases h <;> first | rfl | trivial | cases hw
def ABlk.isRo : ABlk → Bool
  | .cells g _ _ => g.isRo
  | .win _ _ => true
  | .romap _ _ => true
  | _ => false
structure Base where
  w : World
  prot : Nat → Prop
  lt : ∀ i, prot i → i < w.heap.size
def Base.all (W : World) : Base := ⟨W, fun i => i < W.heap.size, fun _ h => h⟩
structure HR (P : Program) (w0 : Base) (e : Env) (h : AH) (W : World) : Prop where
  dom : ∀ b x, e b = some x → b < h.next
  blk : ∀ b o, h.get b = some o → ∃ B c O, e b = some (B, c) ∧ (o.isRo = false → ¬ w0.prot B) ∧ W.heap[B]? = some O ∧ BR P e c o O
  inj : ∀ b b' B c c' o o', h.get b = some o → h.get b' = some o' → o.isRo = false → e b = some (B, c) → e b' = some (B, c') → b = b'
  imm : ∀ B CS, e.imm B = some CS → (∃ el, W.heap[B]? = some (.cells CS.toArray el (0, 0))) ∧ ∀ b o c, h.get b = some o → o.isRo = false → e b ≠ some (B, c)
  os : W.os = w0.w.os
  tape : W.tape = w0.w.tape
  output : W.output = w0.w.output
  size : w0.w.heap.size ≤ W.heap.size
  old : ∀ i, w0.prot i → W.heap[i]? = w0.w.heap[i]?
  young : ∀ i O, w0.w.heap.size ≤ i → W.heap[i]? = some O → unfrozen O
theorem AH.get_new {h h' : AH} {o : ABlk} {b : Nat} (k : h.new o = some (b, h')) :
    b = h.next ∧ h'.next = h.next + 1 ∧ ∀ b', h'.get b' = if b' = h.next then some o else h.get b' := by
  obtain ⟨t, nx⟩ := h
  simp only [AH.new] at k
  cases k
  refine ⟨rfl, rfl, fun b' => ?_⟩
  simp only [AH.get]
  rw [Tr.get_put _ _ (pth_ok' _)]
  by_cases hp : b' = b
  · rw [if_pos hp, if_pos (by rw [hp])]
  · rw [if_neg hp, if_neg (fun he => hp (pth_inj' he).symm)]
theorem AH.get_set {h h' : AH} {b : Nat} {o : Option ABlk} (k : h.set b o = some h') :
    h'.next = h.next ∧ ∀ b', h'.get b' = if b' = b then o else h.get b' := by
  obtain ⟨t, next⟩ := h
  simp only [AH.set] at k
  cases k
  refine ⟨rfl, fun b' => ?_⟩
  simp only [AH.get]
  rw [Tr.get_put _ _ (pth_ok' _)]
  by_cases hp : b' = b
  · subst hp; simp
  · rw [if_neg hp, if_neg (fun he => hp (pth_inj' he).symm)]
def World.add (W : World) (O : Obj) : World := { W with heap := W.heap.push O }
def World.upd (W : World) (B : Nat) (O : Obj) : World := { W with heap := W.heap.setIfInBounds B O }
def Env.ext (e : Env) (b : Nat) (x : Nat × Nat) : Env := ⟨fun b' => if b' = b then some x else e b', e.imm⟩
theorem Env.le_ext {e : Env} {b : Nat} {x : Nat × Nat} (h : e b = none) : Env.le e (e.ext b x) := by
  refine ⟨fun b' y k => ?_, fun _ _ k => k⟩
  show (if b' = b then some x else e b') = some y
  by_cases hb : b' = b
  · subst hb; rw [h] at k; cases k
  · rw [if_neg hb]; exact k
theorem Env.ext_same (e : Env) (b : Nat) (x : Nat × Nat) : e.ext b x b = some x := by
  show (if b = b then some x else e b) = some x
  rw [if_pos rfl]
theorem Env.ext_at (e : Env) (b : Nat) (x : Nat × Nat) (b' : Nat) : e.ext b x b' = if b' = b then some x else e b' := rfl
theorem HR.fresh {P : Program} {w0 : Base} {e : Env} {h : AH} {W : World} (r : HR P w0 e h W) : e h.next = none := by
  cases k : e h.next with
  | none => rfl
  | some x => have := r.dom _ _ k; omega
theorem HR.new {P : Program} {w0 : Base} {e : Env} {h h' : AH} {W : World} (r : HR P w0 e h W) {o : ABlk} {b c : Nat} {O : Obj} (k : h.new o = some (b, h'))
    (hb : BR P (e.ext h.next (W.heap.size, c)) c o O) (hw : o.isWin = false := by rfl) :
    b = h.next ∧ Env.le e (e.ext h.next (W.heap.size, c)) ∧ HR P w0 (e.ext h.next (W.heap.size, c)) h' (World.add W O) := by
  obtain ⟨h1, h2, h4⟩ := AH.get_new k
  have hle := Env.le_ext (x := (W.heap.size, c)) r.fresh
  have hnp : ∀ i, w0.prot i → i ≠ W.heap.size := fun i hi => by have := w0.lt i hi; have := r.size; omega
  refine ⟨h1, hle, ?_⟩
  refine { dom := ?_, blk := ?_, inj := ?_, imm := ?_, os := r.os, tape := r.tape, output := r.output, size := (by show w0.w.heap.size ≤ (W.heap.push O).size; have := r.size; simp; omega), old := ?_, young := ?_ }
  · intro b' x kx
    rw [Env.ext_at] at kx
    by_cases hb' : b' = h.next
    · omega
    · rw [if_neg hb'] at kx; have := r.dom _ _ kx; omega
  · intro b' o' kx
    rw [h4] at kx
    by_cases hb' : b' = h.next
    · rw [if_pos hb'] at kx
      cases kx
      subst hb'
      exact ⟨W.heap.size, c, O, Env.ext_same _ _ _, (fun _ hp => hnp _ hp rfl), (by show (W.heap.push O)[W.heap.size]? = some O; simp), hb⟩
    · rw [if_neg hb'] at kx
      obtain ⟨B, c', O', k1, k2, k3, k4⟩ := r.blk _ _ kx
      refine ⟨B, c', O', hle.1 _ _ k1, k2, ?_, k4.mono hle⟩
      have hlt := (Array.getElem?_eq_some_iff.1 k3).1
      show (W.heap.push O)[B]? = some O'
      rw [Array.getElem?_push_lt hlt, ← k3, Array.getElem?_eq_getElem hlt]
  · intro b1 b2 B c1 c2 o1 o2 k1 k2 hro e1 e2
    rw [h4] at k1 k2
    rw [Env.ext_at] at e1 e2
    by_cases q1 : b1 = h.next <;> by_cases q2 : b2 = h.next
    · omega
    · rw [if_pos q1] at e1
      rw [if_neg q2] at e2 k2
      cases e1
      obtain ⟨B', c', O', j1, _, j3, _⟩ := r.blk _ _ k2
      rw [e2] at j1; cases j1
      have := (Array.getElem?_eq_some_iff.1 j3).1
      omega
    · rw [if_pos q2] at e2
      rw [if_neg q1] at e1 k1
      cases e2
      obtain ⟨B', c', O', j1, _, j3, _⟩ := r.blk _ _ k1
      rw [e1] at j1; cases j1
      have := (Array.getElem?_eq_some_iff.1 j3).1
      omega
    · rw [if_neg q1] at e1 k1
      rw [if_neg q2] at e2 k2
      exact r.inj _ _ _ _ _ _ _ k1 k2 hro e1 e2
  · intro B CS hi
    obtain ⟨⟨el, i1⟩, i2⟩ := r.imm B CS hi
    have hlt := (Array.getElem?_eq_some_iff.1 i1).1
    refine ⟨⟨el, ?_⟩, fun b' o' c' kx hro ke => ?_⟩
    · show (W.heap.push O)[B]? = _
      rw [Array.getElem?_push_lt hlt, ← i1, Array.getElem?_eq_getElem hlt]
    · rw [h4] at kx
      rw [Env.ext_at] at ke
      by_cases q : b' = h.next
      · rw [if_pos q] at ke; cases ke; omega
      · rw [if_neg q] at ke kx; exact i2 b' o' c' kx hro ke
  · intro i hi
    have := r.size
    have := w0.lt i hi
    have hlt : i < W.heap.size := by omega
    show (W.heap.push O)[i]? = w0.w.heap[i]?
    rw [Array.getElem?_push_lt hlt, ← r.old i hi, Array.getElem?_eq_getElem hlt]
  · intro i O2 hi h2
    replace h2 : (W.heap.push O)[i]? = some O2 := h2
    rw [Array.getElem?_push] at h2
    by_cases hq : i = W.heap.size
    · rw [if_pos hq] at h2; cases h2; exact hb.unfrozen hw
    · rw [if_neg hq] at h2; exact r.young i O2 hi h2
theorem HR.newImm {P : Program} {w0 : Base} {e : Env} {h : AH} {W : World} (r : HR P w0 e h W) (CS : List Value) (el : TypeId) :
    Env.le e ⟨e.loc, fun B => if B = W.heap.size then some CS else e.imm B⟩ ∧ HR P w0 ⟨e.loc, fun B => if B = W.heap.size then some CS else e.imm B⟩ h (World.add W (.cells CS.toArray el (0, 0))) := by
  have hnone : e.imm W.heap.size = none := by
    cases q : e.imm W.heap.size with
    | none => rfl
    | some x => obtain ⟨⟨el, i1⟩, _⟩ := r.imm _ _ q; have := (Array.getElem?_eq_some_iff.1 i1).1; omega
  have hle : Env.le e ⟨e.loc, fun B => if B = W.heap.size then some CS else e.imm B⟩ := by
    refine ⟨fun _ _ q => q, fun B x q => ?_⟩
    show (if B = W.heap.size then some CS else e.imm B) = some x
    by_cases hb : B = W.heap.size
    · subst hb; rw [hnone] at q; cases q
    · rw [if_neg hb]; exact q
  have keep : ∀ {i : Nat} {O : Obj}, W.heap[i]? = some O → (World.add W (.cells CS.toArray el (0, 0))).heap[i]? = some O := by
    intro i O q
    have hlt := (Array.getElem?_eq_some_iff.1 q).1
    show (W.heap.push _)[i]? = some O
    rw [Array.getElem?_push_lt hlt, ← q, Array.getElem?_eq_getElem hlt]
  refine ⟨hle, { dom := r.dom, blk := ?_, inj := r.inj, imm := ?_, os := r.os, tape := r.tape, output := r.output, size := (by show w0.w.heap.size ≤ (W.heap.push _).size; have := r.size; simp; omega), old := ?_, young := ?_ }⟩
  · intro b o k
    obtain ⟨B, c, O, k1, k2, k3, k4⟩ := r.blk b o k
    exact ⟨B, c, O, k1, k2, keep k3, k4.mono hle⟩
  · intro B CS' q
    replace q : (if B = W.heap.size then some CS else e.imm B) = some CS' := q
    by_cases hb : B = W.heap.size
    · rw [if_pos hb] at q
      cases q
      subst hb
      refine ⟨⟨el, by show (W.heap.push _)[W.heap.size]? = _; simp⟩, fun b o c k _ ke => ?_⟩
      obtain ⟨B', c', O, k1, _, k3, _⟩ := r.blk b o k
      replace ke : e b = some (W.heap.size, c) := ke
      rw [ke] at k1; cases k1
      have := (Array.getElem?_eq_some_iff.1 k3).1
      omega
    · rw [if_neg hb] at q
      obtain ⟨⟨el', i1⟩, i2⟩ := r.imm B CS' q
      exact ⟨⟨el', keep i1⟩, i2⟩
  · intro i hi
    have := r.size
    have := w0.lt i hi
    have hlt : i < W.heap.size := by omega
    show (W.heap.push _)[i]? = w0.w.heap[i]?
    rw [Array.getElem?_push_lt hlt, ← r.old i hi, Array.getElem?_eq_getElem hlt]
  · intro i O2 hi h2
    replace h2 : (W.heap.push (.cells CS.toArray el (0, 0)))[i]? = some O2 := h2
    rw [Array.getElem?_push] at h2
    by_cases hq : i = W.heap.size
    · rw [if_pos hq] at h2; cases h2; rfl
    · rw [if_neg hq] at h2; exact r.young i O2 hi h2
theorem HR.set {P : Program} {w0 : Base} {e : Env} {h h' : AH} {W : World} (r : HR P w0 e h W) {b B c : Nat} {o o' : ABlk} {O' : Obj} (kb : h.get b = some o) (hro : o.isRo = false)
    (ke : e b = some (B, c)) (k : h.set b (some o') = some h') (hb : BR P e c o' O') (hw : o'.isWin = false := by rfl) : HR P w0 e h' (World.upd W B O') := by
  obtain ⟨h1, h2⟩ := AH.get_set k
  obtain ⟨B0, c0, O, j1, j2, j3, j4⟩ := r.blk _ _ kb
  rw [ke] at j1; cases j1
  have hlt := (Array.getElem?_eq_some_iff.1 j3).1
  have get1 : ∀ {b1 o1}, h'.get b1 = some o1 → ∃ x, h.get b1 = some x ∧ (o1.isRo = false → x.isRo = false) := by
    intro b1 o1 k1
    rw [h2] at k1
    by_cases q : b1 = b
    · exact ⟨o, q ▸ kb, fun _ => hro⟩
    · rw [if_neg q] at k1; exact ⟨_, k1, id⟩
  refine { dom := fun b' x kx => by rw [h1]; exact r.dom _ _ kx, blk := ?_, inj := ?_, imm := ?_, os := r.os, tape := r.tape, output := r.output,
           size := by simp [World.upd]; exact r.size, old := ?_, young := ?_ }
  · intro b' o2 kx
    rw [h2] at kx
    by_cases hb' : b' = b
    · rw [if_pos hb'] at kx
      cases kx
      subst hb'
      exact ⟨B, c, O', ke, (fun _ => j2 hro), by simp [World.upd, hlt], hb⟩
    · rw [if_neg hb'] at kx
      obtain ⟨B', c', O2, k1, k2, k3, k4⟩ := r.blk _ _ kx
      refine ⟨B', c', O2, k1, k2, ?_, k4⟩
      have hne : B ≠ B' := fun he => hb' (r.inj _ _ _ _ _ _ _ kb kx hro ke (he ▸ k1)).symm
      simp only [World.upd]
      rw [Array.getElem?_setIfInBounds_ne hne]; exact k3
  · intro b1 b2 B1 c1 c2 o1 o2 k1 k2 hr1 e1 e2
    obtain ⟨x1, g1, g1r⟩ := get1 k1
    obtain ⟨x2, g2, _⟩ := get1 k2
    exact r.inj _ _ _ _ _ _ _ g1 g2 (g1r hr1) e1 e2
  · intro B1 CS hi
    obtain ⟨⟨el, i1⟩, i2⟩ := r.imm B1 CS hi
    have hne : B ≠ B1 := fun he => i2 b o c kb hro (he ▸ ke)
    refine ⟨⟨el, ?_⟩, fun b1 o1 c1 k1 hr1 => ?_⟩
    · simp only [World.upd]
      rw [Array.getElem?_setIfInBounds_ne hne]; exact i1
    · obtain ⟨x1, g1, g1r⟩ := get1 k1
      exact i2 b1 x1 c1 g1 (g1r hr1)
  · intro i hi
    have j2 := j2 hro
    have hne : B ≠ i := fun he => j2 (he ▸ hi)
    simp only [World.upd]
    rw [Array.getElem?_setIfInBounds_ne hne]; exact r.old i hi
  · intro i O2 hi h2
    replace h2 : (W.heap.setIfInBounds B O')[i]? = some O2 := h2
    by_cases hq : B = i
    · subst hq; simp [hlt] at h2; subst h2; exact hb.unfrozen hw
    · rw [Array.getElem?_setIfInBounds_ne hq] at h2; exact r.young i O2 hi h2
theorem HR.drop {P : Program} {w0 : Base} {e : Env} {h h' : AH} {W : World} (r : HR P w0 e h W) {b : Nat} {o : ABlk} (kb : h.get b = some o)
    (k : h.set b none = some h') : HR P w0 e h' W := by
  have _ := kb
  obtain ⟨h1, h2⟩ := AH.get_set k
  have get1 : ∀ {b1 o1}, h'.get b1 = some o1 → h.get b1 = some o1 := by
    intro b1 o1 k1
    rw [h2] at k1
    by_cases q : b1 = b
    · rw [if_pos q] at k1; cases k1
    · rw [if_neg q] at k1; exact k1
  exact { dom := fun b' x kx => by rw [h1]; exact r.dom _ _ kx, blk := fun b' o2 kx => r.blk _ _ (get1 kx),
          inj := fun b1 b2 B1 c1 c2 o1 o2 k1 k2 hr1 e1 e2 => r.inj _ _ _ _ _ _ _ (get1 k1) (get1 k2) hr1 e1 e2,
          imm := fun B CS hi => ⟨(r.imm B CS hi).1, fun b1 o1 c1 k1 => (r.imm B CS hi).2 b1 o1 c1 (get1 k1)⟩, os := r.os, tape := r.tape, output := r.output, size := r.size, old := r.old, young := r.young }
theorem HR.drew {P : Program} {w0 : Base} {e : Env} {h : AH} {W : World} (r : HR P w0 e h W) (n : Nat) : HR P w0 e h { W with drawn := n } :=
  { dom := r.dom, blk := r.blk, inj := r.inj, imm := r.imm, os := r.os, tape := r.tape, output := r.output, size := r.size, old := r.old, young := r.young }
end Go.AbsE

set_option linter.unusedSimpArgs false
namespace Go.AbsE
open Go
theorem Sem.run_bind' {α β : Type} (P : Program) (s : Sem α) (f : α → Sem β) (w : World) :
    (s >>= f).run P w = match s.run P w with | .ok a w' => (f a).run P w' | .halt h w' => .halt h w' := by
  show (s.bind f).run P w = _
  induction s generalizing w with
  | pure a => rfl
  | load m a k ih =>
    simp only [Sem.bind, Sem.run]
    split
    · exact ih _ _
    · split
      · exact ih _ _
      · rfl
  | store m a v k ih =>
    cases v <;> simp only [Sem.bind, Sem.run] <;> (try rfl) <;>
      (split
       · split
         · rfl
         · exact ih _
       · split
         · exact ih _
         · rfl)
  | new o k ih => exact ih _ _
  | shape r k ih => exact ih _ _
  | freeze a n k ih => exact ih _
  | frozen a k ih => exact ih _ _
  | getObj r k ih =>
    simp only [Sem.bind, Sem.run]
    split <;> first | rfl | exact ih _ _
  | setObj r o k ih =>
    simp only [Sem.bind, Sem.run]
    split <;> first | rfl | exact ih _
  | choose q k ih =>
    simp only [Sem.bind, Sem.run]
    split <;> exact ih _ _
  | sys c k ih => exact ih _ _
  | program k ih => exact ih _ _
  | mark m k ih => exact ih _
  | halt h => rfl
theorem run_pure' {α : Type} (P : Program) (a : α) (w : World) : (pure a : Sem α).run P w = .ok a w := rfl
theorem run_of_pureRun {α : Type} {P : Program} : ∀ {s : Sem α} {a : α}, pureRun P s = some a → ∀ w, s.run P w = .ok a w := by
  intro s
  induction s with
  | pure b => intro a h w; simp [pureRun] at h; subst h; rfl
  | program k ih => intro a h w; exact ih P h w
  | load m a k ih => intro b h; cases h
  | store m a v k ih => intro b h; cases h
  | new o k ih => intro b h; cases h
  | shape r k ih => intro b h; cases h
  | freeze a n k ih => intro b h; cases h
  | frozen a k ih => intro b h; cases h
  | getObj r k ih => intro b h; cases h
  | setObj r o k ih => intro b h; cases h
  | choose q k ih => intro b h; cases h
  | sys c k ih => intro b h; cases h
  | mark m k ih => intro b h; cases h
  | halt x => intro b h; cases h
theorem addr_add (B off n : Nat) : (Addr.add ⟨B, off, none⟩ n) = ⟨B, off + n, none⟩ := by
  unfold Addr.add
  by_cases h : n = 0
  · subst h; rfl
  · rw [if_neg h]
theorem cell_of_block {W : World} {B off : Nat} {C : Array Value} {el : TypeId} {fr : Nat × Nat} (h : W.heap[B]? = some (.cells C el fr)) :
    W.cell? ⟨B, off, none⟩ = C[off]? := by
  simp [World.cell?, h]
theorem run_loadFrom {P : Program} {W : World} {B off : Nat} {L : List Value} {el : TypeId} {fr : Nat × Nat} (h : W.heap[B]? = some (.cells L.toArray el fr)) :
    ∀ (n i : Nat) (acc : Array Value), off + i + n ≤ L.length →
      (loadCellsFrom ⟨B, off, none⟩ i n acc).run P W = .ok (acc ++ ((L.drop (off + i)).take n).toArray) W := by
  intro n
  induction n with
  | zero => intro i acc _; simp [loadCellsFrom, run_pure']
  | succ n ih =>
    intro i acc hl
    have hlt : off + i < L.length := by omega
    have hc : W.cell? ⟨B, off + i, none⟩ = some L[off + i] := by rw [cell_of_block h]; simp [hlt]
    simp only [loadCellsFrom, Sem.run_bind', addr_add]
    simp only [load, Sem.run, hc]
    rw [ih (i + 1) _ (by omega)]
    have key : (L.drop (off + i)).take (n + 1) = L[off + i] :: (L.drop (off + i + 1)).take n := by rw [List.drop_eq_getElem_cons hlt, List.take_succ_cons]
    rw [key, show off + (i + 1) = off + i + 1 from rfl]
    congr 1
    simp
theorem run_loadCells' {P : Program} {W : World} {B off n : Nat} {L : List Value} {el : TypeId} {fr : Nat × Nat} (h : W.heap[B]? = some (.cells L.toArray el fr))
    (hl : off + n ≤ L.length) : (Go.loadCells ⟨B, off, none⟩ n).run P W = .ok ((L.drop off).take n).toArray W := by
  unfold Go.loadCells
  rw [run_loadFrom h n 0 #[] (by omega)]
  simp
theorem upd_upd (W : World) (B : Nat) (O O' : Obj) : World.upd (World.upd W B O) B O' = World.upd W B O' := by
  simp [World.upd]
theorem setCell_upd {W : World} {B off : Nat} {L : List Value} {el : TypeId} {fr : Nat × Nat} (h : W.heap[B]? = some (.cells L.toArray el fr)) (v : Value) :
    W.setCell ⟨B, off, none⟩ v = World.upd W B (.cells (L.set off v).toArray el fr) := by
  obtain ⟨hlt, he⟩ := Array.getElem?_eq_some_iff.1 h
  simp only [World.setCell, World.upd]
  congr 1
  apply Array.ext_getElem?
  intro i
  rw [Array.getElem?_modify, Array.getElem?_setIfInBounds]
  by_cases hi : B = i
  · subst hi; simp [he, hlt]
  · simp [hi]
theorem heap_upd {W : World} {B : Nat} {O O' : Obj} (h : W.heap[B]? = some O') : (World.upd W B O).heap[B]? = some O := by
  have hlt := (Array.getElem?_eq_some_iff.1 h).1
  simp [World.upd, hlt]
def spliced (L : List Value) (off : Nat) (vs : List Value) : List Value := L.take off ++ vs ++ L.drop (off + vs.length)
theorem spliced_nil (L : List Value) (off : Nat) : spliced L off [] = L := by simp [spliced]
theorem spliced_cons (L : List Value) (off : Nat) (v : Value) (vs : List Value) (h : off < L.length) :
    spliced (L.set off v) (off + 1) vs = spliced L off (v :: vs) := by
  unfold spliced
  apply List.ext_getElem?
  intro i
  simp only [List.append_assoc, List.getElem?_append, List.length_take, List.length_set, List.getElem?_take, List.getElem?_drop, List.getElem?_set, List.length_cons]
  have e1 : min (off + 1) L.length = off + 1 := by omega
  have e2 : min off L.length = off := by omega
  rw [e1, e2]
  by_cases h1 : i < off
  · simp [h1, show i < off + 1 by omega, show ¬ off = i by omega]
  · by_cases h2 : i = off
    · subst h2; simp [h]
    · have h3 : ¬ i < off + 1 := by omega
      obtain ⟨k, rfl⟩ : ∃ k, i = off + 1 + k := ⟨i - (off + 1), by omega⟩
      have e3 : off + 1 + k - (off + 1) = k := by omega
      have e4 : off + 1 + k - off = k + 1 := by omega
      simp only [h1, h3, if_false, e3, e4]
      by_cases h4 : k < vs.length
      · simp [h4]
      · simp only [h4, if_false, show ¬ k + 1 < vs.length + 1 by omega]
        have e5 : k + 1 - (vs.length + 1) = k - vs.length := by omega
        have e6 : off + 1 + vs.length + (k - vs.length) = off + (vs.length + 1) + (k - vs.length) := by omega
        rw [e5, e6]
        simp [show ¬ off = off + (vs.length + 1) + (k - vs.length) by omega]
def plainV : Value → Prop
  | .agg _ => False
  | .tuple _ => False
  | _ => True
theorem run_store_plain {P : Program} {W : World} {a : Addr} {v : Value} (hv : plainV v) {x : Value} (hc : W.cell? a = some x) (hf : W.frozen? a = false) :
    (Go.store a v).run P W = .ok () (W.setCell a v) := by
  cases v <;> first | exact hv.elim | simp [Go.store, Sem.run, hc, hf]
theorem run_storeCells {P : Program} {B off : Nat} {el : TypeId} : ∀ (vs : List Value) (i : Nat) (L : List Value) (W : World), (∀ v ∈ vs, plainV v) →
    W.heap[B]? = some (.cells L.toArray el (0, 0)) → off + i + vs.length ≤ L.length →
      (Go.storeCells ⟨B, off, none⟩ vs i).run P W = .ok () (World.upd W B (.cells (spliced L (off + i) vs).toArray el (0, 0))) := by
  intro vs
  induction vs with
  | nil =>
    intro i L W _ h _
    have hlt := (Array.getElem?_eq_some_iff.1 h).1
    have he := (Array.getElem?_eq_some_iff.1 h).2
    simp only [Go.storeCells, run_pure', spliced_nil]
    congr 1
    cases W
    simp only [World.upd, World.mk.injEq, and_true]
    dsimp only at he hlt
    apply Array.ext_getElem?
    intro j
    rw [Array.getElem?_setIfInBounds]
    by_cases hj : B = j
    · subst hj; simp [hlt, he]
    · simp [hj]
  | cons v vs ih =>
    intro i L W hp h hl
    simp at hl
    have hlt : off + i < L.length := by omega
    have hc : W.cell? ⟨B, off + i, none⟩ = some L[off + i] := by rw [cell_of_block h]; simp [hlt]
    have hf : W.frozen? ⟨B, off + i, none⟩ = false := by simp [World.frozen?, h]
    simp only [Go.storeCells, Sem.run_bind', addr_add]
    rw [run_store_plain (hp v (by simp)) hc hf]
    simp only []
    rw [setCell_upd h v, ih (i + 1) (L.set (off + i) v) _ (fun x hx => hp x (by simp [hx])) (heap_upd h) (by simp; omega), upd_upd]
    rw [show off + (i + 1) = off + i + 1 from rfl, spliced_cons L (off + i) v vs hlt]
theorem plain_of_scalars {e : Env} : ∀ {l m}, VRs e l m → scalars l = true → ∀ v ∈ m, plainV v
  | _, _, .nil, _ => by intro v hv; cases hv
  | a :: l, _ :: m, .cons h hs, k => by
    intro v hv
    simp only [scalars] at k
    cases hsc : scalar a with
    | false => rw [hsc] at k; cases k
    | true =>
      rw [hsc] at k
      cases hv with
      | head => cases h <;> first | exact trivial | (simp [scalar] at hsc)
      | tail _ hm => exact plain_of_scalars hs k v hm
end Go.AbsE

set_option linter.unusedSimpArgs false
namespace Go.AbsE
open Go
section
variable {P : Program} {W : World}
theorem run_underlying {t : TypeId} {d : TypeDesc} (h : P.underlying t = some d) : (underlying t).run P W = .ok d W := by
  simp [underlying, Sem.run_bind', program, Sem.run, h, run_pure']
theorem run_typeInfo {t : TypeId} {d : TypeInfo} (h : P.info? t = some d) : (typeInfo t).run P W = .ok d W := by
  simp [typeInfo, Sem.run_bind', program, Sem.run, h, run_pure']
theorem run_sizeOf {t : TypeId} {n : Nat} (h : sizeT P t = some n) : (sizeOf t).run P W = .ok n W := by
  unfold sizeT at h
  split at h
  · rename_i i hi; cases h; simp [sizeOf, Sem.run_bind', run_typeInfo hi, run_pure']
  · cases h
theorem run_bytesOf {t : TypeId} {n : Nat} (h : bytesT P t = some n) : ∃ i, P.info? t = some i ∧ i.bytes = n := by
  unfold bytesT at h
  split at h
  · rename_i i hi; cases h; exact ⟨i, hi, rfl⟩
  · cases h
theorem run_isAgg {t : TypeId} {b : Bool} (h : isAggT P t = some b) : (isAgg t).run P W = .ok b W := by
  unfold isAggT at h
  cases hu : P.underlying t with
  | none => rw [hu] at h; cases h
  | some d =>
    rw [hu] at h
    simp only [isAgg, Sem.run_bind', run_underlying hu]
    cases d <;> cases h <;> rfl
end
theorem absS_rel {e : Env} : ∀ {v : Value} {a : AVal}, absS v = some a → VR e a v := by
  intro v a h
  unfold absS at h
  split at h <;> cases h
  · exact .int _ _
  · exact .bool _
  · exact .str _
  · exact .nilptr
  · exact .nilslice
  · exact .nilmap
  · exact .nilfunc
  · exact .nilIface
theorem mapS_rel {e : Env} : ∀ {l : List Value} {m : List AVal}, mapO absS l = some m → VRs e m l := by
  intro l
  induction l with
  | nil => intro m h; simp [mapO] at h; subst h; exact .nil
  | cons v l ih =>
    intro m h
    simp only [mapO] at h
    split at h
    · rename_i b hb
      split at h
      · rename_i l' hl; cases h; exact .cons (absS_rel hb) (ih hl)
      · cases h
    · cases h
theorem absV_rel {e : Env} {v : Value} {a : AVal} (h : absV v = some a) : VR e a v := by
  unfold absV at h
  split at h
  · rename_i cs
    split at h
    · rename_i l hl; cases h; have := VR.agg (mapS_rel (e := e) hl); simpa using this
    · cases h
  · rename_i cs
    split at h
    · rename_i l hl; cases h; have := VR.tuple (mapS_rel (e := e) hl); simpa using this
    · cases h
  · split at h
    · rename_i t v a' ha; cases h; exact .iface (absS_rel ha)
    · cases h
  · cases h
  · rename_i hne
    cases h
    exact .func (F := []) (C := []) (fun l he => hne l he) .nil .nil
  · exact absS_rel h
def opd (T : Array Value) : Operand → Value
  | .tmp t => T.getD t undef
  | .const v => v
  | .global g => .pointer (some ⟨g, 0, none⟩)
  | .func f => .func (.func f) #[] #[]
theorem eval_opd (fr : Frame) : fr.eval = opd fr.tmps := by funext x; cases x <;> rfl
theorem ev_rel {e : Env} {n : Nat} {t : Tr AVal} {T : Array Value} (hT : TRel e n t T) {x : Operand} {a : AVal} (h : ev t x = some a) : VR e a (opd T x) := by
  cases x with
  | tmp i =>
    obtain ⟨V, h1, h2⟩ := hT.2.2 i a (by rw [← Tr.mkGet_eq]; exact h)
    simp only [opd, Array.getD_eq_getD_getElem?, h1]
    exact h2
  | const v => exact absV_rel h
  | global g => cases h
  | func f => cases h; exact .func (F := []) (C := []) (fun l he => by cases he) .nil .nil
theorem evs_rel {e : Env} {n : Nat} {t : Tr AVal} {T : Array Value} (hT : TRel e n t T) : ∀ {l : List Operand} {m : List AVal}, evs t l = some m → VRs e m (l.map (opd T)) := by
  intro l
  unfold evs
  induction l with
  | nil => intro m h; simp [mapO] at h; subst h; exact .nil
  | cons x l ih =>
    intro m h
    simp only [mapO] at h
    split at h
    · rename_i b hb
      split at h
      · rename_i l' hl; cases h; exact .cons (ev_rel hT hb) (ih hl)
      · cases h
    · cases h
theorem zero_rel {P : Program} {t : TypeId} {z : AVal} (h : zeroT P t = some z) : ∃ v, (∀ W, (zeroValue t).run P W = .ok v W) ∧ ∀ e, VR e z v := by
  unfold zeroT at h
  split at h
  · rename_i i hi
    split at h
    · rename_i v hv
      exact ⟨v, fun W => by simp [zeroValue, Sem.run_bind', run_typeInfo hi, hv, run_pure'], fun e => absV_rel h⟩
    · cases h
  · cases h
theorem VR.cells {e : Env} {a : AVal} {v : Value} (h : VR e a v) : VRs e a.cells v.cells.toList := by
  cases h with
  | agg h => simpa [AVal.cells, Value.cells] using h
  | int k n => exact .cons (.int k n) .nil
  | bool b => exact .cons (.bool b) .nil
  | str s => exact .cons (.str s) .nil
  | nilptr => exact .cons .nilptr .nil
  | ptr h => exact .cons (.ptr h) .nil
  | nilslice => exact .cons .nilslice .nil
  | slice h => exact .cons (.slice h) .nil
  | gsl h => exact .cons (.gsl h) .nil
  | nilmap => exact .cons .nilmap .nil
  | map h => exact .cons (.map h) .nil
  | nilfunc => exact .cons .nilfunc .nil
  | func a b c => exact .cons (.func a b c) .nil
  | yield h => exact .cons (.yield h) .nil
  | nilIface => exact .cons .nilIface .nil
  | iface h => exact .cons (.iface h) .nil
  | tuple h => exact .cons (.tuple h) .nil
  | lit hi h => exact .cons (.lit hi h) .nil
section
variable {P : Program} {w0 : Base} {e : Env} {h : AH} {W : World}
theorem slice?_eq {α : Type} {l m : List α} {off n : Nat} (k : slice? l off n = some m) : m = (l.drop off).take n ∧ off + n ≤ l.length ∨ (n = 0 ∧ m = []) := by
  unfold slice? at k
  dsimp only at k
  cases hb : Nat.beq ((l.drop off).take n).length n with
  | false => rw [hb] at k; cases k
  | true =>
    rw [hb] at k
    have := Nat.eq_of_beq_eq_true hb
    rw [List.length_take, List.length_drop] at this
    cases k
    by_cases hn : n = 0
    · right; subst hn; simp
    · left; exact ⟨rfl, by omega⟩
theorem loadCells_sim (r : HR P w0 e h W) {b off n : Nat} {cs : List AVal} (k : loadCells h b off n = some cs) :
    ∃ B c CS, e b = some (B, c) ∧ VRs e cs CS ∧ CS.length = n ∧ (Go.loadCells ⟨B, off, none⟩ n).run P W = .ok CS.toArray W := by
  unfold loadCells at k
  split at k
  · rename_i g cs0 elem hb
    obtain ⟨B, c, O, k1, k2, k3, k4⟩ := r.blk _ _ hb
    cases k4 with
    | cells hv hg hc =>
      rename_i CS junk
      rcases slice?_eq k with ⟨rfl, hl⟩ | ⟨rfl, rfl⟩
      · have hlen := hv.length
        have hv2 := (hv.drop off).take n
        have e1 : ((CS ++ junk).drop off).take n = (CS.drop off).take n := by
          rw [List.drop_append_of_le_length (by omega), List.take_append_of_le_length (by simp; omega)]
        refine ⟨B, c, (CS.drop off).take n, k1, hv2, by simp; omega, ?_⟩
        rw [run_loadCells' k3 (by simp; omega), e1]
      · exact ⟨B, c, [], k1, .nil, rfl, by simp [Go.loadCells, loadCellsFrom, run_pure']⟩
  · rename_i lo cs0 hb
    obtain ⟨B, c, O, k1, k2, k3, k4⟩ := r.blk _ _ hb
    cases k4 with
    | win hv hp =>
      rename_i elem PRE CS junk fr
      cases hle : Nat.ble lo off with
      | false => rw [hle] at k; cases k
      | true =>
        rw [hle] at k
        have hle := Nat.le_of_ble_eq_true hle
        rcases slice?_eq k with ⟨rfl, hl⟩ | ⟨rfl, rfl⟩
        · have hlen := hv.length
          have hv2 := (hv.drop (off - lo)).take n
          have e1 : ((PRE ++ (CS ++ junk)).drop off).take n = (CS.drop (off - lo)).take n := by
            have : off = PRE.length + (off - lo) := by omega
            rw [this, ← List.drop_drop, List.drop_left, List.drop_append_of_le_length (by omega), List.take_append_of_le_length (by simp; omega)]
            congr 2
            omega
          refine ⟨B, c, (CS.drop (off - lo)).take n, k1, hv2, by simp; omega, ?_⟩
          rw [run_loadCells' k3 (by simp; omega), e1]
        · exact ⟨B, c, [], k1, .nil, rfl, by simp [Go.loadCells, loadCellsFrom, run_pure']⟩
  · cases k
theorem one_cell (r : HR P w0 e h W) {b off : Nat} {v : AVal} (k : loadCells h b off 1 = some [v]) :
    ∃ B c V, e b = some (B, c) ∧ VR e v V ∧ W.cell? ⟨B, off, none⟩ = some V := by
  unfold loadCells at k
  split at k
  · rename_i g cs0 elem hb
    obtain ⟨B, c, O, k1, k2, k3, k4⟩ := r.blk _ _ hb
    cases k4 with
    | cells hv hg hc =>
      rename_i CS junk
      rcases slice?_eq k with ⟨h1, hl⟩ | ⟨h1, _⟩
      · have hlt : off < cs0.length := by omega
        have h2 : cs0[off]? = some v := by
          have : ((cs0.drop off).take 1)[0]? = some v := by rw [← h1]; rfl
          simpa [List.getElem?_take, List.getElem?_drop] using this
        obtain ⟨V, h3, h4⟩ := hv.get off h2
        have hlt' : off < CS.length := by rw [← hv.length]; exact hlt
        exact ⟨B, c, V, k1, h4, by rw [cell_of_block k3, List.getElem?_toArray, List.getElem?_append_left hlt']; exact h3⟩
      · omega
  · rename_i lo cs0 hb
    obtain ⟨B, c, O, k1, k2, k3, k4⟩ := r.blk _ _ hb
    cases k4 with
    | win hv hp =>
      rename_i elem PRE CS junk fr
      cases hle : Nat.ble lo off with
      | false => rw [hle] at k; cases k
      | true =>
        rw [hle] at k
        have hle := Nat.le_of_ble_eq_true hle
        rcases slice?_eq k with ⟨h1, hl⟩ | ⟨h1, _⟩
        · have hlt : off - lo < cs0.length := by omega
          have h2 : cs0[off - lo]? = some v := by
            have : ((cs0.drop (off - lo)).take 1)[0]? = some v := by rw [← h1]; rfl
            simpa [List.getElem?_take, List.getElem?_drop] using this
          obtain ⟨V, h3, h4⟩ := hv.get (off - lo) h2
          have hlt' : off - lo < CS.length := by rw [← hv.length]; exact hlt
          refine ⟨B, c, V, k1, h4, ?_⟩
          rw [cell_of_block k3, List.getElem?_toArray, List.getElem?_append_right (by omega), hp, List.getElem?_append_left hlt']
          exact h3
        · omega
  · cases k
theorem loadVar_sim (r : HR P w0 e h W) {t : TypeId} {b off : Nat} {v : AVal} (k : loadVar P h t b off = some v) :
    ∃ B c V, e b = some (B, c) ∧ VR e v V ∧ (Go.loadVar t ⟨B, off, none⟩).run P W = .ok V W := by
  unfold loadVar at k
  split at k
  · rename_i ha
    split at k
    · rename_i n hn
      split at k
      · rename_i cs hcs
        cases k
        obtain ⟨B, c, CS, k1, k2, k3, k4⟩ := loadCells_sim r hcs
        refine ⟨B, c, _, k1, .agg k2, ?_⟩
        simp [Go.loadVar, Sem.run_bind', run_isAgg ha, run_sizeOf hn, k4, run_pure']
      · cases k
    · cases k
  · rename_i ha
    split at k
    · rename_i v' hv
      cases k
      obtain ⟨B, c, V, k1, k2, k3⟩ := one_cell r hv
      refine ⟨B, c, V, k1, k2, ?_⟩
      simp [Go.loadVar, Sem.run_bind', run_isAgg ha, load, Sem.run, k3]
    · cases k
  · cases k
theorem storeCells_sim (r : HR P w0 e h W) {b off : Nat} {vs : List AVal} {VS : List Value} (hv : VRs e vs VS) {h' : AH} (k : storeCells h b off vs = some h') :
    ∃ B c W', e b = some (B, c) ∧ HR P w0 e h' W' ∧ (Go.storeCells ⟨B, off, none⟩ VS).run P W = .ok () W' := by
  unfold storeCells at k
  split at k
  · rename_i g cs0 elem hb
    obtain ⟨B, c, O, k1, k2, k3, k4⟩ := r.blk _ _ hb
    cases k4 with
    | cells hcs hg hc =>
      rename_i CS junk
      cases hgr : g.isRo with
      | true => rw [hgr] at k; cases k
      | false =>
       cases hs : scalars vs with
       | false => rw [hgr, hs] at k; cases k
       | true =>
        rw [hgr, hs] at k
        simp only [cond_true, cond_false] at k
        split at k
        · rename_i cs1 hsp
          obtain ⟨j1, j2⟩ := hcs.splice off hv hsp
          have e1 : spliced (CS ++ junk) off VS = (CS.take off ++ VS ++ CS.drop (off + VS.length)) ++ junk := by
            unfold spliced
            rw [List.take_append_of_le_length (by omega), List.drop_append_of_le_length (by omega)]
            simp
          have hrun := run_storeCells (P := P) (B := B) (off := off) (el := elem) VS 0 (CS ++ junk) W (plain_of_scalars hv hs) k3 (by simp only [List.length_append]; omega)
          refine ⟨B, c, _, k1, ?_, hrun⟩
          have hlen : (CS.take off ++ VS ++ CS.drop (off + VS.length)).length = CS.length := by simp; omega
          refine r.set hb hgr k1 k ?_
          rw [show off + 0 = off from rfl, e1]
          refine .cells j1 hg (fun hgt => ?_)
          obtain ⟨size, s1, s2⟩ := hc hgt
          exact ⟨size, s1, by rw [← s2]; simp only [List.length_append] at hlen ⊢; omega⟩
        · cases k
  · cases k
theorem storeVar_sim (r : HR P w0 e h W) {t : TypeId} {b off : Nat} {v : AVal} {V : Value} (hv : VR e v V) {h' : AH} (k : storeVar P h t b off v = some h') :
    ∃ B c W', e b = some (B, c) ∧ HR P w0 e h' W' ∧ (Go.storeVar t ⟨B, off, none⟩ V).run P W = .ok () W' := by
  unfold storeVar at k
  split at k
  · rename_i n hn
    cases hb : Nat.beq v.cells.length n with
    | false => rw [hb] at k; cases k
    | true =>
      rw [hb] at k
      have hlen := Nat.eq_of_beq_eq_true hb
      obtain ⟨B, c, W', k1, k2, k3⟩ := storeCells_sim r hv.cells k
      refine ⟨B, c, W', k1, k2, ?_⟩
      have : V.cells.size = n := by rw [← hlen, hv.cells.length]; simp
      simp [Go.storeVar, Sem.run_bind', run_sizeOf hn, this, k3]
  · cases k
theorem partT_sim {t : TypeId} {cs : List AVal} {CS : List Value} {off : Nat} {v : AVal} (hv : VRs e cs CS) (k : partT P t cs off = some v) :
    ∃ V, VR e v V ∧ ∀ W, (part t CS.toArray off).run P W = .ok V W := by
  unfold partT at k
  split at k
  · rename_i ha
    split at k
    · rename_i n hn
      split at k
      · rename_i l hl
        cases k
        rcases slice?_eq hl with ⟨rfl, hle⟩ | ⟨rfl, rfl⟩
        · refine ⟨_, .agg ((hv.drop off).take n), fun W => ?_⟩
          simp [part, Sem.run_bind', run_isAgg ha, run_sizeOf hn, run_pure', List.extract_toArray, List.extract_eq_take_drop]
        · refine ⟨_, .agg .nil, fun W => ?_⟩
          simp [part, Sem.run_bind', run_isAgg ha, run_sizeOf hn, run_pure']
      · cases k
    · cases k
  · rename_i ha
    split at k
    · rename_i v' hv'
      cases k
      rcases slice?_eq hv' with ⟨h1, hle⟩ | ⟨h1, _⟩
      · have h2 : cs[off]? = some v := by
          have : ((cs.drop off).take 1)[0]? = some v := by rw [← h1]; rfl
          simpa [List.getElem?_take, List.getElem?_drop] using this
        obtain ⟨V, h3, h4⟩ := hv.get off h2
        refine ⟨V, h4, fun W => ?_⟩
        simp [part, Sem.run_bind', run_isAgg ha, h3, run_pure']
      · omega
    · cases k
  · cases k
end
end Go.AbsE

set_option linter.unusedSimpArgs false
namespace Go.AbsE
open Go
def OpSim (P : Program) (w0 : Base) (e : Env) (h : AH) (W : World) (r : Result Next) : ANext → Prop
 | .val v h' => ∃ e' V W', (r = .ok (.value V) W' ∨ (r = .ok .skip W' ∧ V = undef)) ∧ Env.le e e' ∧ VR e' v V ∧ HR P w0 e' h' W'
 | .enter f args h' => h' = h ∧ ∃ A : List Value, r = .ok (.enter f A.toArray) W ∧ VRs e args A
 | .round l args h' => h' = h ∧ ∃ L c, ∃ A : List Value, e l = some (L, c) ∧ VRs e args A ∧ r = (Instr.yield L A.toArray).run P W
 | .defer d h' => h' = h ∧ ∃ D, r = .ok (.defer D) W ∧ DR e d D
 | .recover h' => h' = h ∧ r = .ok .recover W
 | .panic v h' => h' = h ∧ ∃ V, r = .halt (.panic V) W ∧ VR e v V
section
variable {P : Program} {w0 : Base} {e : Env} {h : AH} {W : World}
theorem sim_val {s : Sem Value} {v : AVal} {h' : AH} {e' : Env} {V : Value} {W' : World} (hs : s.run P W = .ok V W') (he : Env.le e e') (hv : VR e' v V) (hr : HR P w0 e' h' W') :
  OpSim P w0 e h W ((do let a ← s; pure (Next.value a)).run P W) (.val v h') :=
 ⟨e', V, W', .inl (by simp [Sem.run_bind', hs, run_pure']), he, hv, hr⟩
theorem sim_pure (r : HR P w0 e h W) {s : Sem Value} {v : AVal} {V : Value} (hs : s.run P W = .ok V W) (hv : VR e v V) :
  OpSim P w0 e h W ((do let a ← s; pure (Next.value a)).run P W) (.val v h) :=
 sim_val hs (Env.le_refl e) hv r
theorem sim_unit {s : Sem Unit} {h' : AH} {W' : World} (hs : s.run P W = .ok () W') (hr : HR P w0 e h' W') :
  OpSim P w0 e h W ((do s; pure Next.skip).run P W) (.val undefA h') :=
 ⟨e, undef, W', .inr ⟨by simp [Sem.run_bind', hs, run_pure'], rfl⟩, Env.le_refl e, .tuple .nil, hr⟩
theorem valO_some {o : Option AVal} {x : ANext} (k : valO h o = some x) : ∃ v, o = some v ∧ x = .val v h := by
 unfold valO at k
 split at k
 ·cases k; exact ⟨_, rfl, rfl⟩
 ·cases k
theorem new_cells (r : HR P w0 e h W) {cs : List AVal} {CS : List Value} (hv : VRs e cs CS) {el : TypeId} {b : Nat} {h' : AH} (k : h.new (.cells .plain cs el) = some (b, h')) :
  ∃ e', Env.le e e' ∧ e' b = some (W.heap.size, 0) ∧ HR P w0 e' h' (World.add W (.cells CS.toArray el (0, 0))) := by
 have hle := Env.le_ext (x := (W.heap.size, 0)) r.fresh
 have hb : BR P (e.ext h.next (W.heap.size, 0)) 0 (.cells .plain cs el) (.cells (CS ++ []).toArray el (0, 0)) :=
  .cells (hv.mono hle) (fun _ => rfl) (fun x => by cases x)
 rw [List.append_nil] at hb
 obtain ⟨h1, h2, h3⟩ := r.new k hb
 subst h1
 exact ⟨_, h2, Env.ext_same _ _ _, h3⟩
theorem run_newRow (el : TypeId) (C : Array Value) : (newRow el C).run P W = .ok ⟨W.heap.size, 0, none⟩ (World.add W (.cells C el (0, 0))) := by
 simp [newRow, newObj, Sem.run_bind', Sem.run, run_pure', World.add]
theorem opPick_sim (r : HR P w0 e h W) {n t T} (hT : TRel e n t T) {c a b : Operand} {x : ANext} (k : opPick t h c a b = some x) :
  OpSim P w0 e h W ((do pure (Next.value (if ← asBool (opd T c) then opd T a else opd T b)) : Sem Next).run P W) x := by
 unfold opPick at k
 split at k
 ·rename_i q hq
  have h1 := ev_rel hT hq
  generalize opd T c = C at h1
  cases h1
  cases q with
  | true =>
   obtain ⟨v, hv, rfl⟩ := valO_some (show valO h (ev t a) = some x from k)
   exact ⟨e, _, W, .inl (by simp [asBool, Sem.run_bind', run_pure']), Env.le_refl e, ev_rel hT hv, r⟩
  | false =>
   obtain ⟨v, hv, rfl⟩ := valO_some (show valO h (ev t b) = some x from k)
   exact ⟨e, _, W, .inl (by simp [asBool, Sem.run_bind', run_pure']), Env.le_refl e, ev_rel hT hv, r⟩
 ·cases k
theorem ptrTo_some {q : Option (Nat × AH)} {x : ANext} (k : ptrTo q = some x) : ∃ b h', q = some (b, h') ∧ x = .val (.ptr b 0) h' := by
 unfold ptrTo at k
 split at k
 ·cases k; exact ⟨_, _, rfl, rfl⟩
 ·cases k
theorem opAlloc_sim (r : HR P w0 e h W) {el : TypeId} {x : ANext} (k : opAlloc P h el = some x) :
  OpSim P w0 e h W ((do let a ← Instr.alloc el true (.tuple #[]); pure (Next.value a)).run P W) x := by
 unfold opAlloc at k
 split at k
 ·rename_i z hz
  obtain ⟨b, h', kn, rfl⟩ := ptrTo_some k
  obtain ⟨v, hv, hr⟩ := zero_rel hz
  obtain ⟨e', h1, h2, h3⟩ := new_cells r (hr e).cells kn
  refine sim_val (V := .pointer (some ⟨W.heap.size, 0, none⟩)) ?_ h1 (.ptr h2) h3
  simp [Instr.alloc, Sem.run_bind', hv, newVar, run_newRow, run_pure']
 ·cases k
theorem opBox_sim (r : HR P w0 e h W) {n t T} (hT : TRel e n t T) {el : TypeId} {y : Operand} {x : ANext} (k : opBox t h el y = some x) :
  OpSim P w0 e h W ((do let a ← Instr.box el (opd T y); pure (Next.value a)).run P W) x := by
 unfold opBox at k
 split at k
 ·rename_i z hz
  obtain ⟨b, h', kn, rfl⟩ := ptrTo_some k
  obtain ⟨e', h1, h2, h3⟩ := new_cells r (ev_rel hT hz).cells kn
  refine sim_val (V := .pointer (some ⟨W.heap.size, 0, none⟩)) ?_ h1 (.ptr h2) h3
  simp [Instr.box, Sem.run_bind', newVar, run_newRow, run_pure']
 ·cases k
theorem opLoad_sim (r : HR P w0 e h W) {n t T} (hT : TRel e n t T) {ty : TypeId} {a : Operand} {x : ANext} (k : opLoad P t h ty a = some x) :
  OpSim P w0 e h W ((do let a ← Instr.loadAt ty (opd T a); pure (Next.value a)).run P W) x := by
 unfold opLoad at k
 split at k
 ·rename_i b off hq
  have h1 := ev_rel hT hq
  obtain ⟨v, hv, rfl⟩ := valO_some k
  obtain ⟨B, c, V, k1, k2, k3⟩ := loadVar_sim r hv
  generalize opd T a = C at h1
  cases h1 with
  | ptr hb =>
   rw [k1] at hb; cases hb
   exact sim_pure r (by simp [Instr.loadAt, Instr.sureAddr, Sem.run_bind', run_pure', k3]) k2
 ·cases k
theorem opStore_sim (r : HR P w0 e h W) {n t T} (hT : TRel e n t T) {ty : TypeId} {a y : Operand} {x : ANext} (k : opStore P t h ty a y = some x) :
  OpSim P w0 e h W ((do Instr.storeAt ty (opd T a) (opd T y); pure Next.skip).run P W) x := by
 unfold opStore at k
 split at k
 ·rename_i b off v hq hv
  split at k
  ·rename_i h' hs
   cases k
   have h1 := ev_rel hT hq
   obtain ⟨B, c, W', k1, k2, k3⟩ := storeVar_sim r (ev_rel hT hv) hs
   generalize opd T a = C at h1
   cases h1 with
   | ptr hb =>
    rw [k1] at hb; cases hb
    exact sim_unit (by simp [Instr.storeAt, Instr.sureAddr, Sem.run_bind', run_pure', k3]) k2
  ·cases k
 ·cases k
theorem opFieldAddr_sim (r : HR P w0 e h W) {n t T} (hT : TRel e n t T) {s : TypeId} {y : Operand} {f : Nat} {x : ANext} (k : opFieldAddr P t h s y f = some x) :
  OpSim P w0 e h W ((do let a ← Instr.fieldAt s (opd T y) f; pure (Next.value a)).run P W) x := by
 unfold opFieldAddr at k
 split at k
 ·rename_i fields b off hu hq
  split at k
  ·rename_i fd hf
   split at k
   ·rename_i m hm
    have h1 := ev_rel hT hq
    cases hz : Nat.beq m 0 with
    | true => rw [hz] at k; cases k
    | false =>
     rw [hz] at k
     cases k
     have hm0 : m ≠ 0 := fun he => by subst he; simp at hz
     generalize opd T y = C at h1
     cases h1 with
     | ptr hb =>
      refine sim_pure r ?_ (.ptr hb)
      simp [Instr.fieldAt, Instr.sureAddr, Sem.run_bind', run_pure', run_underlying hu, hf, fieldPlace, run_sizeOf hm, hm0, addr_add]
   ·cases k
  ·cases k
 ·cases k
theorem opField_sim (r : HR P w0 e h W) {n t T} (hT : TRel e n t T) {s : TypeId} {y : Operand} {f : Nat} {x : ANext} (k : opField P t h s y f = some x) :
  OpSim P w0 e h W ((do let a ← Instr.field s (opd T y) f; pure (Next.value a)).run P W) x := by
 unfold opField at k
 split at k
 ·rename_i fields cs hu hq
  split at k
  ·rename_i fd hf
   obtain ⟨v, hv, rfl⟩ := valO_some k
   have h1 := ev_rel hT hq
   generalize opd T y = C at h1
   cases h1 with
   | agg hb =>
    obtain ⟨V, j1, j2⟩ := partT_sim (P := P) hb hv
    exact sim_pure r (by simp [Instr.field, asAgg, Sem.run_bind', run_pure', run_underlying hu, hf, j2]) j1
  ·cases k
 ·cases k
theorem opExtract_sim (r : HR P w0 e h W) {n t T} (hT : TRel e n t T) {y : Operand} {i : Nat} {x : ANext} (k : opExtract t h y i = some x) :
  OpSim P w0 e h W ((do let a ← Instr.extract (opd T y) i; pure (Next.value a)).run P W) x := by
 unfold opExtract at k
 split at k
 ·rename_i vs hq
  obtain ⟨v, hv, rfl⟩ := valO_some k
  have h1 := ev_rel hT hq
  generalize opd T y = C at h1
  cases h1 with
  | tuple hb =>
   obtain ⟨V, j1, j2⟩ := hb.get i hv
   exact sim_pure r (by simp [Instr.extract, run_pure', j1]) j2
 ·cases k
theorem slElems_rel {s : AVal} {b off len : Nat} (k : aSlElems s = some (b, off, len)) {S : Value} (hs : VR e s S) :
  ∃ B c cap, e b = some (B, c) ∧ S = .slice (some ⟨B, off, none⟩) len cap := by
 unfold aSlElems at k
 split at k
 ·cases k; cases hs with | slice hb => exact ⟨_, _, _, hb, rfl⟩
 ·cases k; cases hs with | gsl hb => exact ⟨_, _, _, hb, rfl⟩
 ·cases k
theorem opIndexAddr_sim (r : HR P w0 e h W) {n t T} (hT : TRel e n t T) {ty : TypeId} {y i : Operand} {x : ANext} (k : opIndexAddr P t h ty y i = some x) :
  OpSim P w0 e h W ((do let a ← Instr.indexAt ty (opd T y) (opd T i); pure (Next.value a)).run P W) x := by
 unfold opIndexAddr at k
 split at k
 ·rename_i len elem b off ik i' hu hq hi
  split at k
  ·rename_i size hsz
   cases hlt : Nat.blt i' len with
   | false => rw [hlt] at k; cases k
   | true =>
    rw [hlt] at k
    cases k
    have hl : i' < len := by simp [Nat.blt] at hlt; omega
    have h1 := ev_rel hT hq
    have h2 := ev_rel hT hi
    generalize opd T y = C at h1
    generalize opd T i = D at h2
    cases h1 with
    | ptr hb =>
     cases h2
     refine sim_pure r ?_ (.ptr hb)
     simp [Instr.indexAt, Instr.sureAddr, asIntOf, Sem.run_bind', run_pure', run_underlying hu, run_sizeOf hsz, addr_add, hl]
  ·cases k
 ·rename_i elem s ik i' hu hq hi
  split at k
  ·rename_i size b off len hsz hse
   cases hlt : Nat.blt i' len with
   | false => rw [hlt] at k; cases k
   | true =>
    rw [hlt] at k
    cases k
    have hl : i' < len := by simp [Nat.blt] at hlt; omega
    have h2 := ev_rel hT hi
    obtain ⟨B, c, cap, hb, h1⟩ := slElems_rel hse (ev_rel hT hq)
    generalize opd T i = D at h2
    rw [h1]
    cases h2
    refine sim_pure r ?_ (.ptr hb)
    simp [Instr.indexAt, asIntOf, Sem.run_bind', run_pure', run_underlying hu, run_sizeOf hsz, addr_add, hl]
  ·cases k
 ·cases k
theorem opMakeInterface_sim (r : HR P w0 e h W) {n t T} (hT : TRel e n t T) {ty : TypeId} {y : Operand} {x : ANext} (k : opMakeInterface P t h ty y = some x) :
  OpSim P w0 e h W ((do let a ← Instr.makeInterface ty (opd T y); pure (Next.value a)).run P W) x := by
 unfold opMakeInterface at k
 split at k
 ·cases k
 ·rename_i d v hne hu hq
  cases k
  refine sim_pure r ?_ (.iface (ev_rel hT hq))
  simp only [Instr.makeInterface, Sem.run_bind', run_underlying hu]
  cases d <;> first | rfl | exact absurd rfl (hne _)
 ·cases k
theorem opMakeFunc_sim (r : HR P w0 e h W) {n t T} (hT : TRel e n t T) {fn : Fn} {first cap : Array Operand} {x : ANext} (k : opMakeFunc t h fn first cap = some x) :
  OpSim P w0 e h W ((do let a ← Instr.makeFunc fn (first.map (opd T)) (cap.map (opd T)); pure (Next.value a)).run P W) x := by
 unfold opMakeFunc at k
 split at k
 ·cases k
 ·rename_i hne
  split at k
  ·rename_i f c hf hc
   cases k
   have h1 := evs_rel hT hf
   have h2 := evs_rel hT hc
   refine sim_pure r ?_ (.func (fun l he => hne l he) h1 h2)
   simp [Instr.makeFunc, run_pure', ← Array.toList_map]
  ·cases k
theorem opMakeMap_sim (r : HR P w0 e h W) {ty : TypeId} {x : ANext} (k : opMakeMap h = some x) :
  OpSim P w0 e h W ((do let a ← Instr.makeMap ty none; pure (Next.value a)).run P W) x := by
 unfold opMakeMap at k
 split at k
 ·rename_i b h' kn
  cases k
  have hb : BR P (e.ext h.next (W.heap.size, 0)) 0 (.map [] 0) (.map #[] 0) := BR.map (ES := []) .nil
  obtain ⟨h1, h2, h3⟩ := r.new kn hb
  subst h1
  refine sim_val (V := .map (some W.heap.size)) ?_ h2 (.map (Env.ext_same _ _ _)) h3
  simp [Instr.makeMap, newObj, Sem.run_bind', Sem.run, run_pure', World.add]
 ·cases k
theorem okPair_rel (r : HR P w0 e h W) {commaOk ok : Bool} {v : AVal} {V : Value} (hv : VR e v V) {x : ANext} (k : okPair commaOk ok v h = some x) {s : Sem Value}
  (hs : s.run P W = .ok (if commaOk then .tuple #[V, .bool ok] else V) W) : OpSim P w0 e h W ((do let a ← s; pure (Next.value a)).run P W) x := by
 unfold okPair at k
 cases k
 cases commaOk with
 | true => exact sim_pure r hs (.tuple (.cons hv (.cons (.bool ok) .nil)))
 | false => exact sim_pure r hs hv
theorem opTypeAssert_sim (r : HR P w0 e h W) {n t T} (hT : TRel e n t T) {y : Operand} {xT as : TypeId} {commaOk : Bool} {x : ANext} (k : opTypeAssert P t h y as commaOk = some x) :
  OpSim P w0 e h W ((do let a ← Instr.typeAssert (opd T y) xT as commaOk; pure (Next.value a)).run P W) x := by
 unfold opTypeAssert at k
 split at k
 ·cases k
 ·rename_i d ty v hne hu hq
  have h1 := ev_rel hT hq
  generalize opd T y = C at h1
  cases h1 with
  | iface hv =>
   rename_i V
   cases hb : Nat.beq ty as with
   | true =>
    rw [hb] at k
    have := Nat.eq_of_beq_eq_true hb
    subst this
    refine okPair_rel r hv k ?_
    simp only [Instr.typeAssert, Sem.run_bind', run_underlying hu]
    cases d <;> first | exact absurd rfl (hne _) | (cases commaOk <;> simp [run_pure'])
   | false =>
    rw [hb] at k
    have hnt : ty ≠ as := Nat.ne_of_beq_eq_false hb
    simp only [cond_false, failPair] at k
    cases commaOk with
    | false => cases k
    | true =>
     simp only [cond_true] at k
     split at k
     ·rename_i z hz
      obtain ⟨Z, hZ, hr⟩ := zero_rel hz
      refine okPair_rel r (hr e) k ?_
      simp only [Instr.typeAssert, Sem.run_bind', run_underlying hu]
      cases d <;> first | exact absurd rfl (hne _) | simp [Sem.run_bind', run_pure', hnt, hZ]
     ·cases k
 ·rename_i d hne hu hq
  have h1 := ev_rel hT hq
  generalize opd T y = C at h1
  cases h1
  simp only [failPair] at k
  cases commaOk with
  | false => cases k
  | true =>
   simp only [cond_true] at k
   split at k
   ·rename_i z hz
    obtain ⟨Z, hZ, hr⟩ := zero_rel hz
    refine okPair_rel r (hr e) k ?_
    simp only [Instr.typeAssert, Sem.run_bind', run_underlying hu]
    cases d <;> first | exact absurd rfl (hne _) | simp [Sem.run_bind', run_pure', hZ]
   ·cases k
 ·cases k
end
end Go.AbsE

set_option linter.unusedSimpArgs false
namespace Go.AbsE
open Go
theorem wrap64_of (m : Nat) : wrap64 (Int.ofNat m) = cond (Nat.blt m 9223372036854775808) (Int.ofNat m) (IntKind.i64.wrap (.ofNat m)) := rfl
theorem wrap64_neg (m : Nat) : wrap64 (Int.negSucc m) = cond (Nat.blt m 9223372036854775808) (Int.negSucc m) (IntKind.i64.wrap (.negSucc m)) := rfl
theorem blt_true {m n : Nat} (h : Nat.blt m n = true) : m < n := by simp [Nat.blt] at h; omega
theorem wrap64_eq (n : Int) : wrap64 n = IntKind.i64.wrap n := by
 cases n with
 | ofNat m =>
  rw [wrap64_of]
  cases hb : Nat.blt m 9223372036854775808 with
  | false => rw [cond_false]
  | true =>
   have hb := blt_true hb
   rw [cond_true]
   have hc : Int.ofNat m = (m : Int) := rfl
   rw [hc]
   exact (IntWalk.i64_in _ ⟨by omega, by omega⟩).symm
 | negSucc m =>
  rw [wrap64_neg]
  cases hb : Nat.blt m 9223372036854775808 with
  | false => rw [cond_false]
  | true =>
   have hb := blt_true hb
   rw [cond_true, Int.negSucc_eq]
   exact (IntWalk.i64_in _ ⟨by omega, by omega⟩).symm
theorem addI_eq (a b : Int) : addI a b = IntKind.i64.wrap (a + b) := by
 cases a <;> cases b <;> (simp only [addI]; rw [wrap64_eq]) <;> rfl
theorem subI_eq (a b : Int) : subI a b = IntKind.i64.wrap (a - b) := by
 cases a with
 | negSucc m => simp only [subI]; rw [wrap64_eq]
 | ofNat m =>
  cases b with
  | negSucc n => simp only [subI]; rw [wrap64_eq]
  | ofNat n =>
   simp only [subI]
   cases hb : Nat.ble n m with
   | false => simp only [cond_false]; rw [wrap64_eq]
   | true =>
    simp only [cond_true]
    rw [wrap64_eq]
    have := Nat.le_of_ble_eq_true hb
    congr 1
    show ((m - n : Nat) : Int) = (m : Int) - n
    omega
theorem eqI_eq (a b : Int) : eqI a b = (a == b) := by
 rw [Bool.eq_iff_iff]
 cases a <;> cases b <;> simp [eqI]
 omega
theorem ltI_eq (a b : Int) : ltI a b = decide (a < b) := by
 rw [Bool.eq_iff_iff]
 cases a <;> cases b <;> simp [ltI, Nat.blt] <;> omega
section
variable {P : Program} {w0 : Base} {e : Env} {h : AH} {W : World}
theorem pureV (r : HR P w0 e h W) {s : Sem Value} {v : AVal} (k : (match pureRun P s with | some v => absV v | none => none) = some v) :
  ∃ V, s.run P W = .ok V W ∧ VR e v V := by
 have _ := r.size
 split at k
 ·rename_i V hV
  exact ⟨V, run_of_pureRun hV W, absV_rel k⟩
 ·cases k
theorem guard_int (op : BinOp) (t : TypeId) (x y : Operand) (k k' : IntKind) (a b : Int) : (eqGuard op t x y (.int k a) (.int k' b)).run P W = .ok () W := by
 cases op <;> rfl
theorem guard_bool (op : BinOp) (t : TypeId) (x y : Operand) (a b : Bool) : (eqGuard op t x y (.bool a) (.bool b)).run P W = .ok () W := by
 cases op <;> rfl
theorem guard_str (op : BinOp) (t : TypeId) (x y : Operand) (a b : ByteArray) : (eqGuard op t x y (.string a) (.string b)).run P W = .ok () W := by
 cases op <;> rfl
theorem guard_nil_iface (op : BinOp) (t : TypeId) (x y : Operand) (ty : TypeId) (v : Value) : (eqGuard op t x y .nilIface (.iface ty v)).run P W = .ok () W := by
 cases op <;> rfl
theorem guard_iface_nil (op : BinOp) (t : TypeId) (x y : Operand) (ty : TypeId) (v : Value) : (eqGuard op t x y (.iface ty v) .nilIface).run P W = .ok () W := by
 cases op <;> rfl
theorem guard_nil_nil (op : BinOp) (t : TypeId) (x y : Operand) (h : (isConstO x || isConstO y) = true) : (eqGuard op t x y .nilIface .nilIface).run P W = .ok () W := by
 unfold eqGuard
 cases op <;> first | rfl | (cases x <;> cases y <;> first | rfl | (simp [isConstO] at h))
theorem guard_agg (op : BinOp) (t : TypeId) (x y : Operand) (a b : Array Value) (h : P.eqGuardType P.depth t = false) : (eqGuard op t x y (.agg a) (.agg b)).run P W = .ok () W := by
 unfold eqGuard
 cases op <;> first | rfl | simp [program, Sem.run, h]
theorem binI_sim (r : HR P w0 e h W) {op : BinOp} {t : TypeId} {a b : Int} {v : AVal} (k : binI P op t a b = some v) :
  ∃ V, (binOp op t (.int .i64 a) (.int .i64 b)).run P W = .ok V W ∧ VR e v V := by
 unfold binI at k
 split at k
 ·cases k; refine ⟨_, ?_, .int _ _⟩; rw [addI_eq]; rfl
 ·cases k; refine ⟨_, ?_, .int _ _⟩; rw [subI_eq]; rfl
 ·cases k; refine ⟨_, ?_, .bool _⟩; rw [eqI_eq]; rfl
 ·cases k; refine ⟨_, ?_, .bool _⟩; rw [eqI_eq]; rfl
 ·cases k; refine ⟨_, ?_, .bool _⟩; rw [ltI_eq]; rfl
 ·cases k; refine ⟨.bool (decide (a ≤ b)), rfl, ?_⟩
  rw [ltI_eq, show (!decide (b < a)) = decide (a ≤ b) from by rw [Bool.eq_iff_iff]; simp]; exact .bool _
 ·cases k; refine ⟨_, ?_, .bool _⟩; rw [ltI_eq]; rfl
 ·cases k; refine ⟨.bool (decide (a ≥ b)), rfl, ?_⟩
  rw [ltI_eq, show (!decide (a < b)) = decide (a ≥ b) from by rw [Bool.eq_iff_iff]; simp]; exact .bool _
 ·exact pureV r k
mutual
theorem ground_rel {e : Env} : ∀ {a : AVal} {V : Value}, VR e a V → ∀ {v : Value}, a.ground = some v → V = v
 | _, _, .int _ _, v, k => by cases k; rfl
 | _, _, .bool _, v, k => by cases k; rfl
 | _, _, .str _, v, k => by cases k; rfl
 | _, _, .agg h, v, k => by
  simp only [AVal.ground] at k
  split at k
  ·rename_i l hl; cases k; rw [grounds_rel h hl]
  ·cases k
 | _, _, .tuple h, v, k => by
  simp only [AVal.ground] at k
  split at k
  ·rename_i l hl; cases k; rw [grounds_rel h hl]
  ·cases k
 | _, _, .nilptr, v, k => by cases k
 | _, _, .ptr _, v, k => by cases k
 | _, _, .nilslice, v, k => by cases k
 | _, _, .slice _, v, k => by cases k
 | _, _, .gsl _, v, k => by cases k
 | _, _, .nilmap, v, k => by cases k
 | _, _, .map _, v, k => by cases k
 | _, _, .nilfunc, v, k => by cases k
 | _, _, .func _ _ _, v, k => by cases k
 | _, _, .yield _, v, k => by cases k
 | _, _, .nilIface, v, k => by cases k
 | _, _, .iface _, v, k => by cases k
theorem grounds_rel {e : Env} : ∀ {l : List AVal} {M : List Value}, VRs e l M → ∀ {m : List Value}, grounds l = some m → M = m
 | _, _, .nil, m, k => by simp [grounds] at k; exact k.symm
 | _, _, .cons ha hl, m, k => by
  simp only [grounds] at k
  split at k
  ·rename_i v hv
   split at k
   ·rename_i l' hl'
    cases k
    rw [ground_rel ha hv, grounds_rel hl hl']
   ·cases k
  ·cases k
end
theorem eqOrNeq_sim {op : BinOp} {t : TypeId} {b : Bool} {A B : Value} {v : AVal} (k : eqOrNeq P op t b = some v)
  (hh : ∀ ms, P.underlying t = some (.interface ms) → (Op.equal t A B).run P W = .ok b W)
  (h1 : binOp .eql t A B = (do pure (.bool (← Op.equal t A B)))) (h2 : binOp .neq t A B = (do pure (.bool (!(← Op.equal t A B))))) :
  ∃ V, (binOp op t A B).run P W = .ok V W ∧ VR e v V := by
 unfold eqOrNeq at k
 split at k
 ·rename_i ms hu
  have hr := hh ms hu
  split at k
  ·cases k; exact ⟨.bool b, by rw [h1]; simp [Sem.run_bind', hr, run_pure'], .bool b⟩
  ·cases k; exact ⟨.bool (!b), by rw [h2]; simp [Sem.run_bind', hr, run_pure'], .bool _⟩
  ·cases k
 ·cases k
theorem equal_nn {t : TypeId} {ms : Array (String × TypeId)} (hu : P.underlying t = some (.interface ms)) (d : Nat) : (Op.equalIn (d + 1) t .nilIface .nilIface).run P W = .ok true W := by
 unfold Op.equalIn; rw [Sem.run_bind', run_underlying hu]; rfl
theorem equal_ni {t : TypeId} {ms : Array (String × TypeId)} (hu : P.underlying t = some (.interface ms)) (d : Nat) (ty : TypeId) (v : Value) : (Op.equalIn (d + 1) t .nilIface (.iface ty v)).run P W = .ok false W := by
 unfold Op.equalIn; rw [Sem.run_bind', run_underlying hu]; rfl
theorem equal_in {t : TypeId} {ms : Array (String × TypeId)} (hu : P.underlying t = some (.interface ms)) (d : Nat) (ty : TypeId) (v : Value) : (Op.equalIn (d + 1) t (.iface ty v) .nilIface).run P W = .ok false W := by
 unfold Op.equalIn; rw [Sem.run_bind', run_underlying hu]; rfl
theorem binOther_sim (r : HR P w0 e h W) {op : BinOp} {t : TypeId} {x y : Operand} {a b v : AVal} {A B : Value} (ha : VR e a A) (hb : VR e b B)
  (k : binOther P op t (isConstO x || isConstO y) a b = some v) :
  (eqGuard op t x y A B).run P W = .ok () W ∧ ∃ V, (binOp op t A B).run P W = .ok V W ∧ VR e v V := by
 unfold binOther at k
 split at k
 ·cases ha; cases hb
  cases hk : (isConstO x || isConstO y) with
  | false => rw [hk] at k; cases k
  | true =>
   rw [hk] at k
   refine ⟨guard_nil_nil op t x y hk, eqOrNeq_sim k (fun ms hu => ?_) rfl rfl⟩
   exact equal_nn hu 9999
 ·cases ha
  cases hb with
  | iface hv =>
   refine ⟨guard_nil_iface .., eqOrNeq_sim k (fun ms hu => ?_) rfl rfl⟩
   exact equal_ni hu 9999 _ _
 ·cases hb
  cases ha with
  | iface hv =>
   refine ⟨guard_iface_nil .., eqOrNeq_sim k (fun ms hu => ?_) rfl rfl⟩
   exact equal_in hu 9999 _ _
 ·rename_i xs ys
  cases ha with
  | agg h1 =>
   cases hb with
   | agg h2 =>
    unfold binAgg at k
    split at k
    ·rename_i X Y hX hY
     obtain rfl := grounds_rel h1 hX
     obtain rfl := grounds_rel h2 hY
     cases hg : P.eqGuardType P.depth t with
     | true => rw [hg] at k; cases k
     | false =>
      rw [hg] at k
      exact ⟨guard_agg op t x y _ _ hg, pureV r k⟩
    ·cases k
 ·cases ha; cases hb; exact ⟨guard_int .., pureV r k⟩
 ·cases ha; cases hb; exact ⟨guard_bool .., pureV r k⟩
 ·cases ha; cases hb; exact ⟨guard_str .., pureV r k⟩
 ·cases k
theorem aBinOp_sim (r : HR P w0 e h W) {op : BinOp} {t : TypeId} {x y : Operand} {a b v : AVal} {A B : Value} (ha : VR e a A) (hb : VR e b B)
  (k : aBinOp P op t (isConstO x || isConstO y) a b = some v) :
  (eqGuard op t x y A B).run P W = .ok () W ∧ ∃ V, (binOp op t A B).run P W = .ok V W ∧ VR e v V := by
 unfold aBinOp at k
 split at k
 ·split at k
  ·split at k
   ·split at k
    ·cases ha; cases hb; exact ⟨guard_int .., binI_sim r k⟩
    ·exact binOther_sim r ha hb k
   ·cases k
  ·exact binOther_sim r ha hb k
 ·exact binOther_sim r ha hb k
theorem opBin_sim (r : HR P w0 e h W) {n t T} (hT : TRel e n t T) {op : BinOp} {ty : TypeId} {y z : Operand} {x : ANext} (k : opBin P t h op ty y z = some x) :
  OpSim P w0 e h W ((do let a ← (do eqGuard op ty y z (opd T y) (opd T z); binOp op ty (opd T y) (opd T z)); pure (Next.value a)).run P W) x := by
 unfold opBin at k
 split at k
 ·rename_i a b ha hb
  obtain ⟨v, hv, rfl⟩ := valO_some k
  obtain ⟨h1, V, h2, h3⟩ := aBinOp_sim r (ev_rel hT ha) (ev_rel hT hb) hv
  exact sim_pure r (by simp [Sem.run_bind', h1, h2]) h3
 ·cases k
theorem opUn_sim (r : HR P w0 e h W) {n t T} (hT : TRel e n t T) {op : UnOp} {y : Operand} {x : ANext} (k : opUn P t h op y = some x) :
  OpSim P w0 e h W ((do let a ← Op.unary op (opd T y); pure (Next.value a)).run P W) x := by
 unfold opUn at k
 split at k
 ·rename_i b hb
  have h1 := ev_rel hT hb
  generalize opd T y = C at h1
  cases h1
  split at k
  ·cases k; exact sim_pure r rfl (.bool _)
  ·cases k
 ·rename_i kk m hb
  have h1 := ev_rel hT hb
  generalize opd T y = C at h1
  cases h1
  split at k
  ·rename_i V hV
   obtain ⟨v, hv, rfl⟩ := valO_some k
   exact sim_pure r (run_of_pureRun hV W) (absV_rel hv)
  ·cases k
 ·cases k
theorem opConvert_sim (r : HR P w0 e h W) {n t T} (hT : TRel e n t T) {src dst : TypeId} {y : Operand} {x : ANext} (k : opConvert P t h src dst y = some x) :
  OpSim P w0 e h W ((do let a ← convert src dst (opd T y); pure (Next.value a)).run P W) x := by
 unfold opConvert at k
 split at k
 ·rename_i kk m hb
  have h1 := ev_rel hT hb
  generalize opd T y = C at h1
  cases h1
  split at k
  ·rename_i V hV
   obtain ⟨v, hv, rfl⟩ := valO_some k
   exact sim_pure r (run_of_pureRun hV W) (absV_rel hv)
  ·cases k
 ·cases k
theorem opIndex_sim (r : HR P w0 e h W) {n t T} (hT : TRel e n t T) {ty : TypeId} {y i : Operand} {x : ANext} (k : opIndex P t h ty y i = some x) :
  OpSim P w0 e h W ((do let a ← Instr.index ty (opd T y) (opd T i); pure (Next.value a)).run P W) x := by
 unfold opIndex at k
 split at k
 ·rename_i len elem cs ik i' hu hq hi
  split at k
  ·rename_i size hsz
   cases hlt : Nat.blt i' len with
   | false => rw [hlt] at k; cases k
   | true =>
    rw [hlt] at k
    obtain ⟨v, hv, rfl⟩ := valO_some (show valO h (partT P elem cs (i' * size)) = some x from k)
    have hl := blt_true hlt
    have h1 := ev_rel hT hq
    have h2 := ev_rel hT hi
    generalize opd T y = C at h1
    generalize opd T i = D at h2
    cases h1 with
    | agg hb =>
     cases h2
     obtain ⟨V, j1, j2⟩ := partT_sim (P := P) hb hv
     refine sim_pure r ?_ j1
     simp [Instr.index, asIntOf, Sem.run_bind', run_pure', run_underlying hu, run_sizeOf hsz, hl, j2]
  ·cases k
 ·rename_i s kk m hu hq hi
  have h1 := ev_rel hT hq
  have h2 := ev_rel hT hi
  generalize opd T y = C at h1
  generalize opd T i = D at h2
  cases h1; cases h2
  split at k
  ·rename_i V hV
   obtain ⟨v, hv, rfl⟩ := valO_some k
   exact sim_pure r (run_of_pureRun hV W) (absV_rel hv)
  ·cases k
 ·cases k
end
end Go.AbsE

set_option linter.unusedSimpArgs false
namespace Go.AbsE
open Go
section
variable {P : Program} {w0 : Base} {e : Env} {h : AH} {W : World}
inductive RunsAll (P : Program) (W : World) {α β : Type} (f : α → Sem β) : List α → List β → Prop
 | nil : RunsAll P W f [] []
 | cons {a b l m} (h : (f a).run P W = .ok b W) (hs : RunsAll P W f l m) : RunsAll P W f (a :: l) (b :: m)
theorem run_mapM {α β : Type} {f : α → Sem β} {l : List α} {m : List β} (hr : RunsAll P W f l m) : (l.mapM f).run P W = .ok m W := by
 induction hr with
 | nil => simp [run_pure']
 | cons h _ ih => simp [Sem.run_bind', h, ih, run_pure']
theorem run_mapMA {α β : Type} {f : α → Sem β} {l : Array α} {m : List β} (hr : RunsAll P W f l.toList m) : (l.mapM f).run P W = .ok m.toArray W := by
 rw [Array.mapM_eq_mapM_toList, map_eq_pure_bind, Sem.run_bind', run_mapM hr]
 rfl
theorem foldl_fill (off : Nat) : ∀ (vs : List Value) (k : Nat) (L : List Value), off + k + vs.length ≤ L.length →
  (vs.zipIdx k).foldl (fun (cs : Array Value) (x : Value × Nat) => cs.setIfInBounds (off + x.2) x.1) L.toArray = (spliced L (off + k) vs).toArray := by
 intro vs
 induction vs with
 | nil => intro k L _; simp [spliced_nil]
 | cons v vs ih =>
  intro k L hl
  simp at hl
  simp only [List.zipIdx_cons, List.foldl_cons]
  rw [show L.toArray.setIfInBounds (off + k) v = (L.set (off + k) v).toArray from by simp]
  rw [ih (k + 1) (L.set (off + k) v) (by simp; omega), show off + (k + 1) = off + k + 1 from rfl, spliced_cons L (off + k) v vs (by omega)]
theorem foldl_fillA (off : Nat) (V : Array Value) (L : List Value) (hl : off + V.size ≤ L.length) :
  V.zipIdx.foldl (fun cs (x : Value × Nat) => cs.setIfInBounds (off + x.2) x.1) L.toArray = (spliced L off V.toList).toArray := by
 have := foldl_fill off V.toList 0 L (by simpa using hl)
 rw [← Array.foldl_toList, Array.toList_zipIdx]
 exact this
inductive PRs (e : Env) : List (Nat × AVal) → List (Nat × Value) → Prop
 | nil : PRs e [] []
 | cons {i a v l m} (h : VR e a v) (hs : PRs e l m) : PRs e ((i, a) :: l) ((i, v) :: m)
theorem evParts_rel {n t T} (hT : TRel e n t T) : ∀ {l : List (Nat × Operand)} {m}, evParts t l = some m → PRs e m (l.map fun x => (x.1, opd T x.2)) := by
 intro l
 induction l with
 | nil => intro m k; simp [evParts] at k; subst k; exact .nil
 | cons x l ih =>
  intro m k
  obtain ⟨i, y⟩ := x
  simp only [evParts] at k
  split at k
  ·rename_i v hv
   split at k
   ·rename_i l' hl; cases k; exact .cons (ev_rel hT hv) (ih hl)
   ·cases k
  ·cases k
theorem fill_sim {place : Nat → Option (Nat × Nat)} : ∀ {ps : List (Nat × AVal)} {PS : List (Nat × Value)} {cells : List AVal} {CELLS : List Value} {cs : List AVal},
  PRs e ps PS → VRs e cells CELLS → aFillA place cells ps = some cs → ∃ CS, Instr.fill place CELLS.toArray PS = some CS.toArray ∧ VRs e cs CS := by
 intro ps
 induction ps with
 | nil => intro PS cells CELLS cs hp hc k; cases hp; simp [aFillA] at k; subst k; exact ⟨CELLS, rfl, hc⟩
 | cons x ps ih =>
  intro PS cells CELLS cs hp hc k
  cases hp with
  | cons hv hs =>
   rename_i i a v m
   simp only [aFillA] at k
   split at k
   ·cases k
   ·rename_i off size hpl
    cases hb : Nat.beq a.cells.length size with
    | false => rw [hb] at k; cases k
    | true =>
     rw [hb] at k
     simp only [cond_true] at k
     split at k
     ·rename_i cs1 hsp
      have hlen := Nat.eq_of_beq_eq_true hb
      obtain ⟨j1, j2⟩ := hc.splice off hv.cells hsp
      have hsz : v.cells.size = size := by rw [← hlen, hv.cells.length]; simp
      simp at j2
      obtain ⟨CS, q1, q2⟩ := ih hs j1 k
      refine ⟨CS, ?_, q2⟩
      rw [Instr.fill, hpl]
      simp only []
      rw [if_neg (by simp [hsz]; omega)]
      have := foldl_fillA off v.cells CELLS (by omega)
      simp only [spliced] at this
      rw [this]
      exact q1
     ·cases k
theorem places_run : ∀ {l : List Field} {m : List (Nat × Nat)}, placesT P l = some m → RunsAll P W (fun f : Field => do pure (f.offset, ← sizeOf f.type)) l m := by
 intro l
 induction l with
 | nil => intro m k; simp [placesT] at k; subst k; exact .nil
 | cons f l ih =>
  intro m k
  simp only [placesT] at k
  split at k
  ·rename_i n hn
   split at k
   ·rename_i l' hl
    cases k
    exact .cons (by simp [Sem.run_bind', run_sizeOf hn, run_pure']) (ih hl)
   ·cases k
  ·cases k
theorem map_parts (parts : Array (Nat × Operand)) (T : Array Value) : (parts.map fun (i, x) => (i, opd T x)).toList = parts.toList.map fun x => (x.1, opd T x.2) := by
 simp
theorem opBuild_sim (r : HR P w0 e h W) {n t T} (hT : TRel e n t T) {ty : TypeId} {parts : Array (Nat × Operand)} {x : ANext} (k : opBuild P t h ty parts = some x) :
  OpSim P w0 e h W ((do let a ← Instr.build ty (parts.map fun (i, x) => (i, opd T x)); pure (Next.value a)).run P W) x := by
 unfold opBuild at k
 split at k
 ·rename_i z ps fields hz hps hu
  split at k
  ·rename_i pl hpl
   split at k
   ·rename_i cs hcs
    cases k
    obtain ⟨Z, hZ, hZr⟩ := zero_rel hz
    obtain ⟨CS, q1, q2⟩ := fill_sim (evParts_rel hT hps) (hZr e).cells hcs
    refine sim_pure r ?_ (.agg q2)
    simp only [Instr.build, Sem.run_bind', hZ, run_underlying hu, run_mapMA (places_run hpl)]
    rw [map_parts]
    have e1 : (fun i : Nat => (pl.toArray)[i]?) = (fun i : Nat => pl[i]?) := by funext i; simp
    rw [e1, show Z.cells = Z.cells.toList.toArray from by simp, q1]
    rfl
   ·cases k
  ·cases k
 ·rename_i z ps len elem hz hps hu
  split at k
  ·rename_i size hsz
   split at k
   ·rename_i cs hcs
    cases k
    obtain ⟨Z, hZ, hZr⟩ := zero_rel hz
    obtain ⟨CS, q1, q2⟩ := fill_sim (evParts_rel hT hps) (hZr e).cells hcs
    refine sim_pure r ?_ (.agg q2)
    simp only [Instr.build, Sem.run_bind', hZ, run_underlying hu, run_sizeOf hsz]
    rw [map_parts]
    rw [show Z.cells = Z.cells.toList.toArray from by simp, q1]
    rfl
   ·cases k
  ·cases k
 ·cases k
theorem repl_rel {z : List AVal} {Z : List Value} (hz : VRs e z Z) : ∀ n, VRs e (repl z n) (repl Z n)
 | 0 => .nil
 | n + 1 => hz.append (repl_rel hz n)
theorem repl_length {α : Type} (z : List α) : ∀ n, (repl z n).length = n * z.length
 | 0 => by simp [repl]
 | n + 1 => by simp [repl, repl_length z n, Nat.succ_mul]; omega
theorem repl_get {α : Type} (z : List α) : ∀ (n i : Nat), i < n * z.length → (repl z n)[i]? = z[i % z.length]?
 | 0, i, h => by simp at h
 | n + 1, i, h => by
  rw [repl, List.getElem?_append]
  by_cases hi : i < z.length
  ·rw [if_pos hi, Nat.mod_eq_of_lt hi]
  ·rw [if_neg hi, repl_get z n (i - z.length) (by rw [Nat.succ_mul] at h; omega)]
   congr 1
   exact (Nat.mod_eq_sub_mod (by omega)).symm
theorem range_repl (Z : Array Value) (n : Nat) : (Array.range (n * Z.size)).map (fun i => Z[i % Z.size]!) = (repl Z.toList n).toArray := by
 apply Array.ext_getElem?
 intro i
 by_cases hi : i < n * Z.size
 ·have hz : 0 < Z.size := by
   apply Nat.pos_of_ne_zero
   intro h0
   simp [h0] at hi
  rw [show (repl Z.toList n).toArray[i]? = (repl Z.toList n)[i]? from by simp, repl_get _ _ _ (by rw [Array.length_toList]; exact hi)]
  have hm : i % Z.size < Z.size := Nat.mod_lt _ hz
  simp [hi, hm]
 ·have h1 : ((Array.range (n * Z.size)).map (fun i => Z[i % Z.size]!)).size ≤ i := by simp; omega
  have h2 : (repl Z.toList n).toArray.size ≤ i := by simp [repl_length]; omega
  rw [Array.getElem?_eq_none h1, Array.getElem?_eq_none h2]
theorem opBuildSlice_sim (r : HR P w0 e h W) {n t T} (hT : TRel e n t T) {ty : TypeId} {len : Nat} {parts : Array (Nat × Operand)} {x : ANext} (k : opBuildSlice P t h ty len parts = some x) :
  OpSim P w0 e h W ((do let a ← Instr.buildSlice ty len (parts.map fun (i, x) => (i, opd T x)); pure (Next.value a)).run P W) x := by
 unfold opBuildSlice at k
 split at k
 ·rename_i elem ps hu hps
  split at k
  ·rename_i size z hsz hz
   cases hb1 : Nat.ble (len * size) 100000 with
   | false => rw [hb1] at k; cases k
   | true =>
    cases hb2 : Nat.beq z.cells.length size with
    | false => rw [hb1, hb2] at k; cases k
    | true =>
     rw [hb1, hb2] at k
     simp only [cond_true] at k
     have hle := Nat.le_of_ble_eq_true hb1
     have hlen := Nat.eq_of_beq_eq_true hb2
     split at k
     ·rename_i cs hcs
      split at k
      ·rename_i b h' kn
       cases k
       obtain ⟨Z, hZ, hZr⟩ := zero_rel hz
       have hsize : Z.cells.size = size := by rw [← hlen, (hZr e).cells.length]; simp
       obtain ⟨CS, q1, q2⟩ := fill_sim (evParts_rel hT hps) (repl_rel (hZr e).cells len) hcs
       obtain ⟨e', h1, h2, h3⟩ := new_cells r q2 kn
       refine sim_val (V := .slice (some ⟨W.heap.size, 0, none⟩) len len) ?_ h1 (.slice h2) h3
       simp only [Instr.buildSlice, Sem.run_bind', run_underlying hu, run_sizeOf hsz]
       rw [if_neg (by omega)]
       rw [map_parts]
       by_cases h0 : len * size = 0
       ·have h5 : repl Z.cells.toList len = [] := List.eq_nil_of_length_eq_zero (by rw [repl_length]; simp [hsize, h0])
        rw [h5] at q1
        rw [if_pos h0]
        have h6 : ∀ f : Nat → Value, Array.map f (Array.range (len * size)) = ([] : List Value).toArray := fun f => by rw [h0]; simp
        simp only [Sem.run_bind', run_pure', h6, q1, run_newRow]
       ·rw [if_neg h0]
        have h6 : Array.map (fun i => Z.cells[i % Z.cells.size]!) (Array.range (len * size)) = (repl Z.cells.toList len).toArray := by rw [← hsize]; exact range_repl Z.cells len
        simp only [Sem.run_bind', hZ, run_pure', h6, q1, run_newRow]
      ·cases k
     ·cases k
  ·cases k
 ·cases k
theorem opLit_sim (r : HR P w0 e h W) {n t T} (hT : TRel e n t T) {o : Oper} {x : ANext} (k : opLit P t h o = some x) :
  (∃ v, x = .val v h) ∧ OpSim P w0 e h W ((execOp (opd T) o).run P W) x := by
 obtain ⟨dst, op, type, pos, after, guard⟩ := o
 unfold opLit at k
 cases op <;> first | cases k | skip
 rename_i ty len parts
 simp only [] at k
 split at k
 ·rename_i elem ps hu hps
  split at k
  ·rename_i size z hsz hz
   cases hb1 : Nat.ble (len * size) 100000 with
   | false => rw [hb1] at k; cases k
   | true =>
    cases hb2 : Nat.beq z.cells.length size with
    | false => rw [hb1, hb2] at k; cases k
    | true =>
     rw [hb1, hb2] at k
     simp only [cond_true] at k
     have hle := Nat.le_of_ble_eq_true hb1
     have hlen := Nat.eq_of_beq_eq_true hb2
     split at k
     ·rename_i cs hcs
      cases k
      obtain ⟨Z, hZ, hZr⟩ := zero_rel hz
      have hsize : Z.cells.size = size := by rw [← hlen, (hZr e).cells.length]; simp
      obtain ⟨CS, q1, q2⟩ := fill_sim (evParts_rel hT hps) (repl_rel (hZr e).cells len) hcs
      obtain ⟨h1, h3⟩ := r.newImm CS elem
      have h2 : VR ⟨e.loc, fun B => if B = W.heap.size then some CS else e.imm B⟩ (.lit len cs) (.slice (some ⟨W.heap.size, 0, none⟩) len len) :=
       .lit (CS := CS) (by show (if W.heap.size = W.heap.size then some CS else _) = some CS; rw [if_pos rfl]) (q2.mono h1)
      refine ⟨⟨_, rfl⟩, ?_⟩
      have hs : OpSim P w0 e h W ((do let a ← Instr.buildSlice ty len (parts.map fun (i, x) => (i, opd T x)); pure (Next.value a)).run P W) (.val (.lit len cs) h) := by
       refine sim_val (V := .slice (some ⟨W.heap.size, 0, none⟩) len len) ?_ h1 h2 h3
       simp only [Instr.buildSlice, Sem.run_bind', run_underlying hu, run_sizeOf hsz]
       rw [if_neg (by omega)]
       rw [map_parts]
       by_cases h0 : len * size = 0
       ·have h5 : repl Z.cells.toList len = [] := List.eq_nil_of_length_eq_zero (by rw [repl_length]; simp [hsize, h0])
        rw [h5] at q1
        rw [if_pos h0]
        have h6 : ∀ f : Nat → Value, Array.map f (Array.range (len * size)) = ([] : List Value).toArray := fun f => by rw [h0]; simp
        simp only [Sem.run_bind', run_pure', h6, q1, run_newRow]
       ·rw [if_neg h0]
        have h6 : Array.map (fun i => Z.cells[i % Z.cells.size]!) (Array.range (len * size)) = (repl Z.cells.toList len).toArray := by rw [← hsize]; exact range_repl Z.cells len
        simp only [Sem.run_bind', hZ, run_pure', h6, q1, run_newRow]
      exact hs
     ·cases k
  ·cases k
 ·cases k
theorem opMakeSlice_sim (r : HR P w0 e h W) {n t T} (hT : TRel e n t T) {ty : TypeId} {l c : Operand} {x : ANext} (k : opMakeSlice P t h ty l c = some x) :
  OpSim P w0 e h W ((do let a ← Instr.makeSlice ty (opd T l) (opd T c); pure (Next.value a)).run P W) x := by
 unfold opMakeSlice at k
 split at k
 ·rename_i elem l' c' hu hl hc
  split at k
  ·rename_i size bytes z hsz hby hz
   cases hb0 : Nat.ble l' c' with
   | false => rw [hb0] at k; cases k
   | true =>
    cases hb1 : Nat.ble ((c' + 1) * (bytes + 1)) 1000000 with
    | false => rw [hb0, hb1] at k; cases k
    | true =>
     cases hb2 : Nat.beq z.cells.length size with
     | false => rw [hb0, hb1, hb2] at k; cases k
     | true =>
      rw [hb0, hb1, hb2] at k
      simp only [cond_true] at k
      split at k
      ·rename_i b h' kn
       cases k
       have hlc := Nat.le_of_ble_eq_true hb0
       have hbd := Nat.le_of_ble_eq_true hb1
       have hlen := Nat.eq_of_beq_eq_true hb2
       obtain ⟨inf, hi1, hi2⟩ := run_bytesOf hby
       obtain ⟨Z, hZ, hZr⟩ := zero_rel hz
       have hsize : Z.cells.size = size := by rw [← hlen, (hZr e).cells.length]; simp
       have e1 := ev_rel hT hl
       have e2 := ev_rel hT hc
       generalize opd T l = L at e1
       generalize opd T c = C at e2
       cases e1; cases e2
       obtain ⟨e', h1, h2, h3⟩ := new_cells r (repl_rel (hZr e).cells c') kn
       refine sim_val (V := .slice (some ⟨W.heap.size, 0, none⟩) l' c') ?_ h1 (.slice h2) h3
       have hc1 : c' + 1 ≤ (c' + 1) * (bytes + 1) := Nat.le_mul_of_pos_right _ (by omega)
       have hcb : bytes * c' ≤ 1000000 := by
        have : bytes * c' ≤ (bytes + 1) * (c' + 1) := Nat.mul_le_mul (by omega) (by omega)
        rw [Nat.mul_comm (bytes + 1)] at this
        omega
       have w1 : IntKind.i64.wrap (Int.ofNat l') = (l' : Int) := IntWalk.i64_in _ ⟨by show _ ≤ (l' : Int); omega, by show (l' : Int) ≤ _; omega⟩
       have w2 : IntKind.i64.wrap (Int.ofNat c') = (c' : Int) := IntWalk.i64_in _ ⟨by show _ ≤ (c' : Int); omega, by show (c' : Int) ≤ _; omega⟩
       simp only [Instr.makeSlice, asInt, asIntOf, Sem.run_bind', run_underlying hu, run_pure', run_typeInfo hi1, hi2, w1, w2]
       have g1 : ¬ ((decide ((c' : Int) < 0) || decide ((bytes : Int) * c' > 2 ^ 48) || decide ((l' : Int) < 0) || decide ((l' : Int) > c')) = true) := by
        have h9 : ((bytes * c' : Nat) : Int) ≤ 1000000 := by omega
        rw [Int.natCast_mul] at h9
        simp only [Bool.or_eq_true, decide_eq_true_eq]
        omega
       rw [if_neg (by simpa using g1)]
       have hroom : ¬ (c' * bytes > roomBytes) := by unfold roomBytes; rw [Nat.mul_comm]; omega
       simp only [askRoom, Int.toNat_natCast, if_neg hroom, Sem.run_bind', run_pure', run_sizeOf hsz]
       by_cases h0 : c' * size = 0
       ·have h5 : repl Z.cells.toList c' = [] := List.eq_nil_of_length_eq_zero (by rw [repl_length]; simp [hsize, h0])
        rw [h5]
        rw [if_pos h0]
        have h6 : ∀ f : Nat → Value, Array.map f (Array.range (c' * size)) = ([] : List Value).toArray := fun f => by rw [h0]; simp
        simp only [Sem.run_bind', run_pure', h6, run_newRow]
       ·rw [if_neg h0]
        have h6 : Array.map (fun i => Z.cells[i % Z.cells.size]!) (Array.range (c' * size)) = (repl Z.cells.toList c').toArray := by rw [← hsize]; exact range_repl Z.cells c'
        simp only [Sem.run_bind', hZ, run_pure', h6, run_newRow]
      ·cases k
  ·cases k
 ·cases k
end
end Go.AbsE
