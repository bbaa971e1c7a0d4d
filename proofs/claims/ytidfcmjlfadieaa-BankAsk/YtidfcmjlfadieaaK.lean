import Derived.Test.YtidfcmjlfadieaaJ
set_option linter.unusedSimpArgs false
namespace Go.AbsE
open Go

section
variable {P : Program} {w0 : Base} {e : Env} {h : AH} {W : World}

/-- A block goes on under a new name. -/
theorem HR.move (r : HR P w0 e h W) {b B c : Nat} {o o' : ABlk} {O' : Obj} {h1 h' : AH} {b' : Nat} (kb : h.get b = some o) (hro : o.isRo = false)
    (ke : e b = some (B, c)) (k1 : h.set b none = some h1) (k2 : h1.new o' = some (b', h')) (hb : BR P (e.ext h.next (B, c)) c o' O') (hw : o'.isWin = false := by rfl) :
    b' = h.next ∧ Env.le e (e.ext h.next (B, c)) ∧ HR P w0 (e.ext h.next (B, c)) h' (World.upd W B O') := by
  obtain ⟨n1, g1⟩ := AH.get_set k1
  obtain ⟨n2, n3, g2⟩ := AH.get_new k2
  rw [n1] at n2 n3 g2
  obtain ⟨B0, c0, O, j1, j2, j3, j4⟩ := r.blk _ _ kb
  rw [ke] at j1; cases j1
  have hlt := (Array.getElem?_eq_some_iff.1 j3).1
  have hle := Env.le_ext (x := (B, c)) r.fresh
  have hbn : b < h.next := r.dom _ _ ke
  have get1 : ∀ {b1 o1}, b1 ≠ h.next → h'.get b1 = some o1 → b1 ≠ b ∧ h.get b1 = some o1 := by
    intro b1 o1 q k
    rw [g2, if_neg q, g1] at k
    by_cases q2 : b1 = b
    · rw [if_pos q2] at k; cases k
    · rw [if_neg q2] at k; exact ⟨q2, k⟩
  refine ⟨n2, hle, ?_⟩
  refine { dom := ?_, blk := ?_, inj := ?_, imm := ?_, os := r.os, tape := r.tape, output := r.output, size := by simp [World.upd]; exact r.size, old := ?_, young := ?_ }
  · intro b1 x kx
    rw [Env.ext_at] at kx
    by_cases q : b1 = h.next
    · omega
    · rw [if_neg q] at kx; have := r.dom _ _ kx; omega
  · intro b1 o1 kx
    by_cases q : b1 = h.next
    · subst q
      rw [g2, if_pos rfl] at kx
      cases kx
      exact ⟨B, c, O', Env.ext_same _ _ _, (fun _ => j2 hro), by simp [World.upd, hlt], hb⟩
    · obtain ⟨q2, kx2⟩ := get1 q kx
      obtain ⟨B', c', O2, m1, m2, m3, m4⟩ := r.blk _ _ kx2
      refine ⟨B', c', O2, hle.1 _ _ m1, m2, ?_, m4.mono hle⟩
      have hne : B ≠ B' := fun he => q2 (r.inj _ _ _ _ _ _ _ kb kx2 hro ke (he ▸ m1)).symm
      simp only [World.upd]
      rw [Array.getElem?_setIfInBounds_ne hne]; exact m3
  · intro b1 b2 B1 c1 c2 o1 o2 x1 x2 hr1 y1 y2
    rw [Env.ext_at] at y1 y2
    by_cases q1 : b1 = h.next <;> by_cases q2 : b2 = h.next
    · omega
    · rw [if_pos q1] at y1
      rw [if_neg q2] at y2
      cases y1
      obtain ⟨p1, p2⟩ := get1 q2 x2
      exact absurd (r.inj _ _ _ _ _ _ _ kb p2 hro ke y2).symm p1
    · rw [if_neg q1] at y1
      rw [if_pos q2] at y2
      cases y2
      obtain ⟨p1, p2⟩ := get1 q1 x1
      exact absurd (r.inj _ _ _ _ _ _ _ kb p2 hro ke y1).symm p1
    · rw [if_neg q1] at y1
      rw [if_neg q2] at y2
      obtain ⟨_, p2⟩ := get1 q1 x1
      obtain ⟨_, p4⟩ := get1 q2 x2
      exact r.inj _ _ _ _ _ _ _ p2 p4 hr1 y1 y2
  · intro B1 CS hi
    obtain ⟨⟨el, i1⟩, i2⟩ := r.imm B1 CS hi
    have hne : B ≠ B1 := fun he => i2 b o c kb hro (he ▸ ke)
    refine ⟨⟨el, ?_⟩, fun b1 o1 c1 x1 hr1 y1 => ?_⟩
    · simp only [World.upd]
      rw [Array.getElem?_setIfInBounds_ne hne]; exact i1
    · rw [Env.ext_at] at y1
      by_cases q1 : b1 = h.next
      · rw [if_pos q1] at y1; cases y1; exact hne rfl
      · rw [if_neg q1] at y1
        exact i2 b1 o1 c1 (get1 q1 x1).2 hr1 y1
  · intro i hi
    have j2 := j2 hro
    have hne : B ≠ i := fun he => j2 (he ▸ hi)
    simp only [World.upd]
    rw [Array.getElem?_setIfInBounds_ne hne]; exact r.old i hi
  · intro i O2 hi h2
    replace h2 : (W.heap.setIfInBounds B O')[i]? = some O2 := h2
    by_cases hq : B = i
    · subst hq; simp [hlt] at h2; subst h2; exact hb.unfrozen hw
    · rw [Array.getElem?_setIfInBounds_ne hq] at h2; exact r.young i O2 hi h2

theorem growBy_le (newLen : Nat) : ∀ (k c : Nat), c ≤ 2 * (newLen + 300) → Builtin.growBy newLen k c ≤ 2 * (newLen + 300) := by
  intro k
  induction k with
  | zero => intro c hc; exact hc
  | succ k ih =>
    intro c hc
    rw [Builtin.growBy]
    split
    · exact hc
    · exact ih _ (by omega)

theorem nextslicecap_le {need cap : Nat} (hc : cap < need) : Builtin.nextslicecap need cap ≤ 2 * (need + 300) := by
  unfold Builtin.nextslicecap
  split
  · omega
  · split
    · omega
    · exact growBy_le _ _ _ (by omega)

theorem lenA_rel {s : AVal} {n : Nat} (k : lenA s = some n) {S : Value} (hs : VR e s S) : ∃ base cap, S = .slice base n cap := by
  unfold lenA at k
  split at k <;> cases k
  · cases hs; exact ⟨_, _, rfl⟩
  · cases hs; exact ⟨_, _, rfl⟩
  · cases hs; exact ⟨_, _, rfl⟩
  · cases hs; exact ⟨_, _, rfl⟩

theorem litCells_sim (r : HR P w0 e h W) {cs cs' : List AVal} {CS : List Value} {B n : Nat} (hi : e.imm B = some CS) (hc : VRs e cs CS) (k : slice? cs 0 n = some cs') :
    ∃ CS', VRs e cs' CS' ∧ (Go.loadCells ⟨B, 0, none⟩ n).run P W = .ok CS'.toArray W := by
  obtain ⟨⟨el, h1⟩, _⟩ := r.imm B CS hi
  rcases slice?_eq k with ⟨rfl, h2⟩ | ⟨rfl, rfl⟩
  · have h3 := hc.length
    exact ⟨(CS.drop 0).take n, (hc.drop 0).take n, run_loadCells' h1 (by omega)⟩
  · exact ⟨[], .nil, by simp [Go.loadCells, loadCellsFrom, run_pure']⟩

theorem srcCells_sim (r : HR P w0 e h W) {s : AVal} {size n : Nat} {cs : List AVal} (k : srcCells h size n s = some cs) {S : Value} (hs : VR e s S) :
    ∃ CS, VRs e cs CS ∧ (Builtin.firstCells size n S).run P W = .ok CS.toArray W := by
  unfold srcCells at k
  split at k
  · cases k; cases hs; exact ⟨[], .nil, rfl⟩
  · cases hs with
    | slice hb =>
      obtain ⟨B, c, CS, k1, k2, k3, k4⟩ := loadCells_sim r k
      rw [k1] at hb; cases hb
      exact ⟨CS, k2, by simp [Builtin.firstCells, k4]⟩
  · cases hs with
    | gsl hb =>
      obtain ⟨B, c, CS, k1, k2, k3, k4⟩ := loadCells_sim r k
      rw [k1] at hb; cases hb
      exact ⟨CS, k2, by simp [Builtin.firstCells, k4]⟩
  · cases hs with
    | lit hi hc =>
      obtain ⟨CS', k1, k2⟩ := litCells_sim r hi hc k
      exact ⟨CS', k1, by simp [Builtin.firstCells, k2]⟩
  · cases k

theorem srcCells_len {s : AVal} {size n : Nat} {cs : List AVal} (k : srcCells h size n s = some cs) (r : HR P w0 e h W) (hn : lenA s = some n) : cs.length = n * size := by
  unfold srcCells at k
  split at k
  · cases k; simp [lenA] at hn; subst hn; simp
  · obtain ⟨B, c, CS, k1, k2, k3, k4⟩ := loadCells_sim r k; rw [k2.length, k3]
  · obtain ⟨B, c, CS, k1, k2, k3, k4⟩ := loadCells_sim r k; rw [k2.length, k3]
  · rcases slice?_eq k with ⟨rfl, h2⟩ | ⟨h3, rfl⟩
    · simp; omega
    · simp [h3]
  · cases k

theorem zeroCells_length (Z : Array Value) (n : Nat) : (Builtin.zeroCells Z n).toList.length = n * Z.size := by
  simp [Builtin.zeroCells]

/-- An append that makes a new row. -/
theorem growNew_sim (r : HR P w0 e h W) {el : TypeId} {size : Nat} (hsz : sizeT P el = some size) {cs : List AVal} {CS REST : List Value} {len newCap : Nat} (hv : VRs e cs CS)
    (hl : (CS ++ REST).length = newCap * size) {x : ANext} (k : growNew h el cs len = some x) (d : Nat) :
    ∃ e' b h', x = .val (.gsl b 0 0 len) h' ∧ Env.le e e' ∧ e' b = some (W.heap.size, newCap) ∧
      HR P w0 e' h' (World.add { W with drawn := d } (.cells (CS ++ REST).toArray el (0, 0))) := by
  unfold growNew at k
  split at k
  · rename_i b h' kn
    cases k
    have r' := r.drew d
    have hle := Env.le_ext (x := (W.heap.size, newCap)) r.fresh
    have hb : BR P (e.ext h.next (W.heap.size, newCap)) newCap (.cells .grow cs el) (.cells (CS ++ REST).toArray el (0, 0)) :=
      .cells (hv.mono hle) (fun q => by cases q) (fun _ => ⟨size, hsz, hl⟩)
    obtain ⟨h1, h2, h3⟩ := r'.new kn hb
    subst h1
    exact ⟨_, _, _, rfl, h2, Env.ext_same _ _ _, h3⟩
  · cases k

theorem run_append_fit {t1 t2 ty el el2 : TypeId} {size n sl cap : Nat} {base : Option Addr} {X : Value} {NEW : Array Value} {W' : World}
    (hu1 : P.underlying t1 = some (.slice el)) (hu2 : P.underlying t2 = some (.slice el2)) (hsz : sizeT P el = some size)
    (hlen : (Builtin.lenOf X).run P W = .ok n W) (hnew : (Builtin.firstCells size n X).run P W = .ok NEW W) (hfit : sl + n ≤ cap)
    (hst : match base with | none => W' = W | some a => (Go.storeCells (a.add (sl * size)) NEW.toList).run P W = .ok () W') :
    (Builtin.append_ #[t1, t2] ty #[.slice base sl cap, X]).run P W = .ok (.slice base (sl + n) cap) W' := by
  cases base with
  | none =>
    subst hst
    simp [Builtin.append_, Sem.run_bind', run_underlying hu1, run_underlying hu2, run_sizeOf hsz, hlen, hnew, hfit, run_pure']
  | some a =>
    simp [Builtin.append_, Sem.run_bind', run_underlying hu1, run_underlying hu2, run_sizeOf hsz, hlen, hnew, hfit, run_pure', hst]

theorem run_append_grow {t1 t2 ty el el2 : TypeId} {size bytes n sl cap : Nat} {base : Option Addr} {X : Value} {OLD NEW : Array Value} {inf : TypeInfo} {Z : Value}
    (hu1 : P.underlying t1 = some (.slice el)) (hu2 : P.underlying t2 = some (.slice el2)) (hsz : sizeT P el = some size)
    (hi1 : P.info? el = some inf) (hi2 : inf.bytes = bytes) (hz : ∀ W, (zeroValue el).run P W = .ok Z W)
    (hlen : (Builtin.lenOf X).run P W = .ok n W) (hnew : ∀ W', W'.heap = W.heap → (Builtin.firstCells size n X).run P W' = .ok NEW W')
    (hold : ∀ W', W'.heap = W.heap → (Builtin.firstCells size sl (.slice base sl cap)).run P W' = .ok OLD W')
    (hfit : ¬ sl + n ≤ cap) (hbd : (sl + n + 300) * 2 * (bytes + 1) < 281474976710656) :
    ∃ newCap, sl + n ≤ newCap ∧ (Builtin.append_ #[t1, t2] ty #[.slice base sl cap, X]).run P W =
      .ok (.slice (some ⟨W.heap.size, 0, none⟩) (sl + n) newCap)
        (World.add { W with drawn := W.drawn + 1 } (.cells (OLD ++ NEW ++ Builtin.zeroCells Z.cells (newCap - (sl + n))) el (0, 0))) := by
  have hb1 : (sl + n + 300) * 2 ≤ (sl + n + 300) * 2 * (bytes + 1) := Nat.le_mul_of_pos_right _ (by omega)
  have h63 : sl + n < 9223372036854775808 := by omega
  have hnext := nextslicecap_le (need := sl + n) (cap := cap) (by omega)
  have hnb : ¬ (Builtin.nextslicecap (sl + n) cap * bytes > 2 ^ 48) := by
    have h1 : Builtin.nextslicecap (sl + n) cap * bytes ≤ (2 * (sl + n + 300)) * (bytes + 1) := Nat.mul_le_mul hnext (by omega)
    have h2 : (2 * (sl + n + 300)) * (bytes + 1) = (sl + n + 300) * 2 * (bytes + 1) := by rw [Nat.mul_comm 2]
    have h3 : (2 : Nat) ^ 48 = 281474976710656 := by decide
    omega
  refine ⟨(sl + n) + (W.tape W.drawn (.appendCap (sl + n) cap el)) % (2 ^ 63 - (sl + n)), by omega, ?_⟩
  generalize hq : (sl + n) + (W.tape W.drawn (.appendCap (sl + n) cap el)) % (2 ^ 63 - (sl + n)) = newCap
  have hch : (choose (.appendCap (sl + n) cap el)).run P W = .ok newCap { W with drawn := W.drawn + 1 } := by
    simp only [choose, Sem.run, Question.forced, Question.cut, hq]
    rfl
  have hroom : ∀ W', (askRoom (newCap * bytes)).run P W' = .ok () W' := by
    intro W'
    unfold askRoom
    split <;> rfl
  have hmax : ¬ (((sl + n : Nat) : Int) > IntKind.i64.max ∧ (False ∨ bytes = 0)) := by
    intro hh
    have h1 := hh.1
    have h2 : IntKind.i64.max = 9223372036854775807 := by decide
    rw [h2] at h1
    omega
  have ha0 : (#[t1, t2] : Array TypeId)[0]? = some t1 := rfl
  have ha1 : (#[t1, t2] : Array TypeId)[1]? = some t2 := rfl
  have hb0 : (#[Value.slice base sl cap, X] : Array Value)[0]? = some (.slice base sl cap) := rfl
  have hb1' : (#[Value.slice base sl cap, X] : Array Value)[1]? = some X := rfl
  unfold Builtin.append_
  simp only [ha0, ha1, hb0, hb1', Sem.run_bind', run_underlying hu1, run_underlying hu2, run_sizeOf hsz, run_pure', Bool.false_eq_true, if_false, hlen, if_neg hfit, run_typeInfo hi1, hi2, if_neg hmax, if_neg hnb, hch, hroom,
    hold { W with drawn := W.drawn + 1 } rfl, Bool.not_false, if_true, hnew { W with drawn := W.drawn + 1 } rfl, hz, run_newRow]
end
end Go.AbsE
