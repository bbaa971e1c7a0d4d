import Derived.Test.YtobhkdgcciolmaaGreatMAB
set_option linter.unusedSimpArgs false
namespace Go.AbsE
open Go
section
variable {P : Program} {w0 : Base} {e : Env} {h : AH} {W : World}
inductive OR (e : Env) : Option AVal → Option Value → Prop
 | none : OR e none none
 | some {a v} (h : VR e a v) : OR e (some a) (some v)
theorem evO_rel {n t T} (hT : TRel e n t T) {x : Option Operand} {a : Option AVal} (k : evO t x = some a) : OR e a (x.map (opd T)) := by
 cases x with
 | none => simp [evO] at k; subst k; exact .none
 | some y =>
  simp only [evO] at k
  split at k
  ·rename_i v hv; cases k; exact .some (ev_rel hT hv)
  ·cases k
theorem aInt_rel {a : AVal} {m : Nat} (k : aInt a = some m) {V : Value} (hv : VR e a V) : ∃ kk, V = .int kk (m : Int) := by
 unfold aInt at k
 split at k
 ·cases k; cases hv; exact ⟨_, rfl⟩
 ·cases k
theorem sliceBound_run {a : AVal} {V : Value} (hv : VR e a V) {q top : Nat} (k : aInt a = some q) (hq : q ≤ top) (code : BoundsCode) : (Instr.sliceBound V top code).run P W = .ok q W := by
 obtain ⟨kk, rfl⟩ := aInt_rel k hv
 simp [Instr.sliceBound, asIntOf, Sem.run_bind', run_pure', hq]
theorem cut_run {lo hi : Option AVal} {LO HI : Option Value} (hlo : OR e lo LO) (hhi : OR e hi HI) {len cap CAP l hh : Nat} (hlc : len ≤ cap) (hcC : cap ≤ CAP)
  (k : cut len cap lo hi = some (l, hh)) (isSlice : Bool) :
  (Instr.sliceBounds isSlice len CAP LO HI none).run P W = .ok (l, hh, CAP) W ∧ l ≤ hh ∧ hh ≤ cap := by
 unfold cut at k
 split at k
 ·rename_i hh' hb
  split at k
  ·rename_i l' hb2
   cases k
   have hhb : hh ≤ cap ∧ ((hi = none ∧ hh = len) ∨ ∃ v, hi = some v ∧ aInt v = some hh) := by
    unfold bound at hb
    split at hb
    ·cases hb; exact ⟨hlc, .inl ⟨rfl, rfl⟩⟩
    ·rename_i v
     split at hb
     ·rename_i m hm
      cases hble : Nat.ble m cap with
      | false => rw [hble] at hb; cases hb
      | true => rw [hble] at hb; cases hb; exact ⟨Nat.le_of_ble_eq_true hble, .inr ⟨v, rfl, hm⟩⟩
     ·cases hb
   have hlb : l ≤ hh ∧ ((lo = none ∧ l = 0) ∨ ∃ v, lo = some v ∧ aInt v = some l) := by
    unfold bound at hb2
    split at hb2
    ·cases hb2; exact ⟨Nat.zero_le _, .inl ⟨rfl, rfl⟩⟩
    ·rename_i v
     split at hb2
     ·rename_i m hm
      cases hble : Nat.ble m hh with
      | false => rw [hble] at hb2; cases hb2
      | true => rw [hble] at hb2; cases hb2; exact ⟨Nat.le_of_ble_eq_true hble, .inr ⟨v, rfl, hm⟩⟩
     ·cases hb2
   refine ⟨?_, hlb.1, hhb.1⟩
   obtain ⟨hh1, hh2⟩ := hhb
   obtain ⟨hl1, hl2⟩ := hlb
   rcases hh2 with ⟨rfl, rfl⟩ | ⟨v, rfl, hv⟩ <;> rcases hl2 with ⟨rfl, rfl⟩ | ⟨u, rfl, hu⟩
   ·cases hlo; cases hhi; simp [Instr.sliceBounds, Sem.run_bind', run_pure']
   ·cases hhi
    cases hlo with
    | some hx => simp [Instr.sliceBounds, Sem.run_bind', run_pure', sliceBound_run hx hu hl1]
   ·cases hlo
    cases hhi with
    | some hx => simp [Instr.sliceBounds, Sem.run_bind', run_pure', sliceBound_run hx hv (Nat.le_trans hh1 hcC)]
   ·cases hlo with
    | some hy =>
     cases hhi with
     | some hx => simp [Instr.sliceBounds, Sem.run_bind', run_pure', sliceBound_run hx hv (Nat.le_trans hh1 hcC), sliceBound_run hy hu hl1]
  ·cases k
 ·cases k
theorem opSlice3_sim (r : HR P w0 e h W) {n t T} (hT : TRel e n t T) {ty : TypeId} {y lo hi mx : Operand} {x : ANext} (k : opSlice3 P t h ty y lo hi mx = some x) :
  OpSim P w0 e h W ((do let a ← Instr.sliceAt ty (opd T y) (some (opd T lo)) (some (opd T hi)) (some (opd T mx)); pure (Next.value a)).run P W) x := by
 unfold opSlice3 at k
 split at k
 ·rename_i elem b off len cap hu hv
  have h1 := ev_rel hT hv
  generalize opd T y = C at h1
  cases h1 with
  | slice hb =>
   split at k
   ·rename_i size lv hv' mv hsz hl hh hm
    have g1 := ev_rel hT hl
    have g2 := ev_rel hT hh
    have g3 := ev_rel hT hm
    split at k
    ·rename_i l q m k1 k2 k3
     cases b1 : Nat.ble l q <;> rw [b1] at k <;> first | (cases k; done) | skip
     cases b2 : Nat.ble q m <;> rw [b2] at k <;> first | (cases k; done) | skip
     cases b3 : Nat.ble m cap <;> rw [b3] at k <;> first | (cases k; done) | skip
     have c1 := Nat.le_of_ble_eq_true b1
     have c2 := Nat.le_of_ble_eq_true b2
     have c3 := Nat.le_of_ble_eq_true b3
     simp only [cond_true] at k
     cases b4 : Nat.beq m l with
     | true =>
      rw [b4] at k
      cases k
      have c4 := Nat.eq_of_beq_eq_true b4
      subst c4
      refine sim_pure r ?_ (.slice hb)
      simp [Instr.sliceAt, Instr.slice, Instr.sliceBounds, Sem.run_bind', run_underlying hu, run_sizeOf hsz, sliceBound_run g1 k1 c1, sliceBound_run g2 k2 c2, sliceBound_run g3 k3 c3, run_pure']
     | false =>
      rw [b4] at k
      cases k
      have c4 : m ≠ l := fun he => by rw [he, Nat.beq_refl] at b4; cases b4
      refine sim_pure r ?_ (.slice hb)
      simp [Instr.sliceAt, Instr.slice, Instr.sliceBounds, Sem.run_bind', run_underlying hu, run_sizeOf hsz, sliceBound_run g1 k1 c1, sliceBound_run g2 k2 c2, sliceBound_run g3 k3 c3, run_pure', c4, addr_add]
    ·cases k
   ·cases k
 ·cases k
theorem opSlice_sim (r : HR P w0 e h W) {n t T} (hT : TRel e n t T) {ty : TypeId} {y : Operand} {lo hi : Option Operand} {x : ANext} (k : opSlice P t h ty y lo hi = some x) :
  OpSim P w0 e h W ((do let a ← Instr.sliceAt ty (opd T y) (lo.map (opd T)) (hi.map (opd T)) none; pure (Next.value a)).run P W) x := by
 unfold opSlice at k
 split at k
 ·rename_i v lo' hi' hv hlo hhi
  have h1 := ev_rel hT hv
  have h2 := evO_rel hT hlo
  have h3 := evO_rel hT hhi
  split at k
  ·rename_i elem hu
   split at k
   ·rename_i size hsz
    unfold sliceOf at k
    split at k
    ·rename_i b off len cap
     generalize opd T y = C at h1
     cases h1 with
     | slice hb =>
      rename_i B c
      split at k
      ·rename_i l hh hc
       cases hle : Nat.ble len cap with
       | false => rw [hle] at k; cases k
       | true =>
       cases hbq : Nat.beq l cap with
       | true =>
        rw [hle, hbq] at k
        cases k
        have heq := Nat.eq_of_beq_eq_true hbq
        have hlc := Nat.le_of_ble_eq_true hle
        obtain ⟨q1, q2, q3⟩ := cut_run (P := P) (W := W) h2 h3 hlc (Nat.le_refl cap) hc true
        refine sim_pure r ?_ (.slice hb)
        simp [Instr.sliceAt, Instr.slice, Sem.run_bind', run_underlying hu, run_sizeOf hsz, q1, run_pure', heq]
       | false =>
        rw [hle, hbq] at k
        cases k
        have hne : cap ≠ l := fun he => by subst he; simp at hbq
        have hlc := Nat.le_of_ble_eq_true hle
        ·obtain ⟨q1, q2, q3⟩ := cut_run (P := P) (W := W) h2 h3 hlc (Nat.le_refl cap) hc true
         refine sim_pure r ?_ (.slice hb)
         simp [Instr.sliceAt, Instr.slice, Sem.run_bind', run_underlying hu, run_sizeOf hsz, q1, run_pure', hne, addr_add]
      ·cases k
    ·rename_i b off i len
     split at k
     ·rename_i l hh cs el hc hg
      cases b1 : Nat.beq off (i * size) with
      | false => rw [b1] at k; cases k
      | true =>
      cases b2 : Nat.ble (off + len * size) cs.length with
      | false => rw [b1, b2] at k; cases k
      | true =>
      cases b3 : Nat.blt 0 size with
      | false => rw [b1, b2, b3] at k; cases k
      | true =>
      cases b4 : eqSize P el size with
      | false => rw [b1, b2, b3, b4] at k; cases k
      | true =>
      rw [b1, b2, b3, b4] at k
      simp only [cond_true] at k
      have p1 := Nat.eq_of_beq_eq_true b1
      have p2 := Nat.le_of_ble_eq_true b2
      have p3 := blt_true b3
      have p4 : sizeT P el = some size := by
       unfold eqSize at b4
       split at b4
       ·rename_i m hm; rw [hm, Nat.eq_of_beq_eq_true b4]
       ·cases b4
      obtain ⟨B, c, O, k1, k2, k3, k4⟩ := r.blk _ _ hg
      generalize opd T y = C at h1
      cases h1 with
      | gsl hb =>
       rw [k1] at hb; cases hb
       cases k4 with
       | cells hcs _ hcap =>
        rename_i CS junk
        obtain ⟨size', z1, z2⟩ := hcap rfl
        rw [p4] at z1; cases z1
        have hcl : i + len ≤ c := by
         have g1 : (i + len) * size ≤ c * size := by
          have := hcs.length
          rw [← z2, Nat.add_mul]; simp; omega
         exact Nat.le_of_mul_le_mul_right g1 p3
        obtain ⟨q1, q2, q3⟩ := cut_run (P := P) (W := W) (CAP := c - i) h2 h3 (Nat.le_refl len) (by omega) hc true
        cases b5 : Nat.beq l 0 with
        | true =>
         rw [b5] at k
         have p5 := Nat.eq_of_beq_eq_true b5
         subst p5
         cases k
         refine sim_pure r ?_ (.gsl k1)
         simp [Instr.sliceAt, Instr.slice, Sem.run_bind', run_underlying hu, run_sizeOf hsz, q1, run_pure', addr_add]
        | false =>
         cases b6 : Nat.blt l len with
         | false => rw [b5, b6] at k; cases k
         | true =>
          rw [b5, b6] at k
          cases k
          have p6 := blt_true b6
          have hne : c - i ≠ l := by omega
          have hsub : c - i - l = c - (i + l) := by omega
          refine sim_pure r ?_ (.gsl k1)
          simp [Instr.sliceAt, Instr.slice, Sem.run_bind', run_underlying hu, run_sizeOf hsz, q1, run_pure', hne, addr_add, hsub]
     ·cases k
    ·generalize opd T y = C at h1
     cases h1 with
     | nilslice =>
      split at k
      ·rename_i lh hc
       obtain ⟨l, hh⟩ := lh
       cases k
       obtain ⟨q1, q2, q3⟩ := cut_run (P := P) (W := W) h2 h3 (Nat.le_refl 0) (Nat.le_refl 0) hc true
       have hh0 : hh = 0 := by omega
       have hl0 : l = 0 := by omega
       subst hh0
       subst hl0
       refine sim_pure r ?_ .nilslice
       simp [Instr.sliceAt, Instr.slice, Sem.run_bind', run_underlying hu, run_sizeOf hsz, q1, run_pure']
      ·cases k
    ·cases k
   ·cases k
  ·rename_i m elem hu
   split at k
   ·rename_i size hsz
    unfold sliceOfArr at k
    split at k
    ·rename_i b off
     generalize opd T y = C at h1
     cases h1 with
     | ptr hb =>
      split at k
      ·rename_i l hh hc
       cases hbq : Nat.beq l m with
       | true =>
        rw [hbq] at k
        cases k
        have heq := Nat.eq_of_beq_eq_true hbq
        obtain ⟨q1, q2, q3⟩ := cut_run (P := P) (W := W) h2 h3 (Nat.le_refl m) (Nat.le_refl m) hc false
        refine sim_pure r ?_ (.slice hb)
        simp [Instr.sliceAt, Instr.sureAddr, Sem.run_bind', run_underlying hu, run_sizeOf hsz, q1, run_pure', heq]
       | false =>
        rw [hbq] at k
        cases k
        have hne : m ≠ l := fun he => by subst he; simp at hbq
        obtain ⟨q1, q2, q3⟩ := cut_run (P := P) (W := W) h2 h3 (Nat.le_refl m) (Nat.le_refl m) hc false
        refine sim_pure r ?_ (.slice hb)
        simp [Instr.sliceAt, Instr.sureAddr, Sem.run_bind', run_underlying hu, run_sizeOf hsz, q1, run_pure', hne, addr_add]
      ·cases k
    ·cases k
   ·cases k
  ·cases k
 ·cases k
end
end Go.AbsE

set_option linter.unusedSimpArgs false
namespace Go.AbsE
open Go
section
variable {P : Program} {w0 : Base} {e : Env} {h : AH} {W : World}
theorem HR.move (r : HR P w0 e h W) {b B c : Nat} {o o' : ABlk} {O' : Obj} {h1 h' : AH} {b' : Nat} (kb : h.get b = some o) (hro : o.isRo = false)
  (ke : e b = some (B, c)) (k1 : h.set b none = some h1) (k2 : h1.new o' = some (b', h')) (hb : BR P (e.ext h.next (B, c)) c o' O') (hw : o'.isWin = false := by rfl) :
  b' = h.next ∧ Env.le e (e.ext h.next (B, c)) ∧ HR P w0 (e.ext h.next (B, c)) h' (World.upd W B O') := by
 obtain ⟨n1, g1⟩ := AH.get_set k1
 obtain ⟨n2, n3, g2⟩ := AH.get_new k2
 rw [n1] at n2 n3 g2
 obtain ⟨B0, c0, O, j1, j2, j3, j4⟩ := r.blk _ _ kb
 rw [ke] at j1; cases j1
 have hlt := (Array.getElem?_eq_some_iff.1 j3).1
 have hle := Env.le_ext (x := (B, c)) r.fresh
 have hbn : b < h.next := r.dom _ _ ke
 have get1 : ∀ {b1 o1}, b1 ≠ h.next → h'.get b1 = some o1 → b1 ≠ b ∧ h.get b1 = some o1 := by
  intro b1 o1 q k
  rw [g2, if_neg q, g1] at k
  by_cases q2 : b1 = b
  ·rw [if_pos q2] at k; cases k
  ·rw [if_neg q2] at k; exact ⟨q2, k⟩
 refine ⟨n2, hle, ?_⟩
 refine { dom := ?_, blk := ?_, inj := ?_, imm := ?_, os := r.os, tape := r.tape, output := r.output, size := by simp [World.upd]; exact r.size, old := ?_, young := ?_ }
 ·intro b1 x kx
  rw [Env.ext_at] at kx
  by_cases q : b1 = h.next
  ·omega
  ·rw [if_neg q] at kx; have := r.dom _ _ kx; omega
 ·intro b1 o1 kx
  by_cases q : b1 = h.next
  ·subst q
   rw [g2, if_pos rfl] at kx
   cases kx
   exact ⟨B, c, O', Env.ext_same _ _ _, (fun _ => j2 hro), by simp [World.upd, hlt], hb⟩
  ·obtain ⟨q2, kx2⟩ := get1 q kx
   obtain ⟨B', c', O2, m1, m2, m3, m4⟩ := r.blk _ _ kx2
   refine ⟨B', c', O2, hle.1 _ _ m1, m2, ?_, m4.mono hle⟩
   have hne : B ≠ B' := fun he => q2 (r.inj _ _ _ _ _ _ _ kb kx2 hro ke (he ▸ m1)).symm
   simp only [World.upd]
   rw [Array.getElem?_setIfInBounds_ne hne]; exact m3
 ·intro b1 b2 B1 c1 c2 o1 o2 x1 x2 hr1 y1 y2
  rw [Env.ext_at] at y1 y2
  by_cases q1 : b1 = h.next <;> by_cases q2 : b2 = h.next
  ·omega
  ·rw [if_pos q1] at y1
   rw [if_neg q2] at y2
   cases y1
   obtain ⟨p1, p2⟩ := get1 q2 x2
   exact absurd (r.inj _ _ _ _ _ _ _ kb p2 hro ke y2).symm p1
  ·rw [if_neg q1] at y1
   rw [if_pos q2] at y2
   cases y2
   obtain ⟨p1, p2⟩ := get1 q1 x1
   exact absurd (r.inj _ _ _ _ _ _ _ kb p2 hro ke y1).symm p1
  ·rw [if_neg q1] at y1
   rw [if_neg q2] at y2
   obtain ⟨_, p2⟩ := get1 q1 x1
   obtain ⟨_, p4⟩ := get1 q2 x2
   exact r.inj _ _ _ _ _ _ _ p2 p4 hr1 y1 y2
 ·intro B1 CS hi
  obtain ⟨⟨el, i1⟩, i2⟩ := r.imm B1 CS hi
  have hne : B ≠ B1 := fun he => i2 b o c kb hro (he ▸ ke)
  refine ⟨⟨el, ?_⟩, fun b1 o1 c1 x1 hr1 y1 => ?_⟩
  ·simp only [World.upd]
   rw [Array.getElem?_setIfInBounds_ne hne]; exact i1
  ·rw [Env.ext_at] at y1
   by_cases q1 : b1 = h.next
   ·rw [if_pos q1] at y1; cases y1; exact hne rfl
   ·rw [if_neg q1] at y1
    exact i2 b1 o1 c1 (get1 q1 x1).2 hr1 y1
 ·intro i hi
  have j2 := j2 hro
  have hne : B ≠ i := fun he => j2 (he ▸ hi)
  simp only [World.upd]
  rw [Array.getElem?_setIfInBounds_ne hne]; exact r.old i hi
 ·intro i O2 hi h2
  replace h2 : (W.heap.setIfInBounds B O')[i]? = some O2 := h2
  by_cases hq : B = i
  ·subst hq; simp [hlt] at h2; subst h2; exact hb.unfrozen hw
  ·rw [Array.getElem?_setIfInBounds_ne hq] at h2; exact r.young i O2 hi h2
theorem growBy_le (newLen : Nat) : ∀ (k c : Nat), c ≤ 2 * (newLen + 300) → Builtin.growBy newLen k c ≤ 2 * (newLen + 300) := by
 intro k
 induction k with
 | zero => intro c hc; exact hc
 | succ k ih =>
  intro c hc
  rw [Builtin.growBy]
  split
  ·exact hc
  ·exact ih _ (by omega)
theorem nextslicecap_le {need cap : Nat} (hc : cap < need) : Builtin.nextslicecap need cap ≤ 2 * (need + 300) := by
 unfold Builtin.nextslicecap
 split
 ·omega
 ·split
  ·omega
  ·exact growBy_le _ _ _ (by omega)
theorem lenA_rel {s : AVal} {n : Nat} (k : lenA s = some n) {S : Value} (hs : VR e s S) : ∃ base cap, S = .slice base n cap := by
 unfold lenA at k
 split at k <;> cases k
 ·cases hs; exact ⟨_, _, rfl⟩
 ·cases hs; exact ⟨_, _, rfl⟩
 ·cases hs; exact ⟨_, _, rfl⟩
 ·cases hs; exact ⟨_, _, rfl⟩
theorem litCells_sim (r : HR P w0 e h W) {cs cs' : List AVal} {CS : List Value} {B n : Nat} (hi : e.imm B = some CS) (hc : VRs e cs CS) (k : slice? cs 0 n = some cs') :
  ∃ CS', VRs e cs' CS' ∧ (Go.loadCells ⟨B, 0, none⟩ n).run P W = .ok CS'.toArray W := by
 obtain ⟨⟨el, h1⟩, _⟩ := r.imm B CS hi
 rcases slice?_eq k with ⟨rfl, h2⟩ | ⟨rfl, rfl⟩
 ·have h3 := hc.length
  exact ⟨(CS.drop 0).take n, (hc.drop 0).take n, run_loadCells' h1 (by omega)⟩
 ·exact ⟨[], .nil, by simp [Go.loadCells, loadCellsFrom, run_pure']⟩
theorem srcCells_sim (r : HR P w0 e h W) {s : AVal} {size n : Nat} {cs : List AVal} (k : srcCells h size n s = some cs) {S : Value} (hs : VR e s S) :
  ∃ CS, VRs e cs CS ∧ (Builtin.firstCells size n S).run P W = .ok CS.toArray W := by
 unfold srcCells at k
 split at k
 ·cases k; cases hs; exact ⟨[], .nil, rfl⟩
 ·cases hs with
  | slice hb =>
   obtain ⟨B, c, CS, k1, k2, k3, k4⟩ := loadCells_sim r k
   rw [k1] at hb; cases hb
   exact ⟨CS, k2, by simp [Builtin.firstCells, k4]⟩
 ·cases hs with
  | gsl hb =>
   obtain ⟨B, c, CS, k1, k2, k3, k4⟩ := loadCells_sim r k
   rw [k1] at hb; cases hb
   exact ⟨CS, k2, by simp [Builtin.firstCells, k4]⟩
 ·cases hs with
  | lit hi hc =>
   obtain ⟨CS', k1, k2⟩ := litCells_sim r hi hc k
   exact ⟨CS', k1, by simp [Builtin.firstCells, k2]⟩
 ·cases k
theorem srcCells_len {s : AVal} {size n : Nat} {cs : List AVal} (k : srcCells h size n s = some cs) (r : HR P w0 e h W) (hn : lenA s = some n) : cs.length = n * size := by
 unfold srcCells at k
 split at k
 ·cases k; simp [lenA] at hn; subst hn; simp
 ·obtain ⟨B, c, CS, k1, k2, k3, k4⟩ := loadCells_sim r k; rw [k2.length, k3]
 ·obtain ⟨B, c, CS, k1, k2, k3, k4⟩ := loadCells_sim r k; rw [k2.length, k3]
 ·rcases slice?_eq k with ⟨rfl, h2⟩ | ⟨h3, rfl⟩
  ·simp; omega
  ·simp [h3]
 ·cases k
theorem zeroCells_length (Z : Array Value) (n : Nat) : (Builtin.zeroCells Z n).toList.length = n * Z.size := by
 simp [Builtin.zeroCells]
theorem growNew_sim (r : HR P w0 e h W) {el : TypeId} {size : Nat} (hsz : sizeT P el = some size) {cs : List AVal} {CS REST : List Value} {len newCap : Nat} (hv : VRs e cs CS)
  (hl : (CS ++ REST).length = newCap * size) {x : ANext} (k : growNew h el cs len = some x) (d : Nat) :
  ∃ e' b h', x = .val (.gsl b 0 0 len) h' ∧ Env.le e e' ∧ e' b = some (W.heap.size, newCap) ∧
   HR P w0 e' h' (World.add { W with drawn := d } (.cells (CS ++ REST).toArray el (0, 0))) := by
 unfold growNew at k
 split at k
 ·rename_i b h' kn
  cases k
  have r' := r.drew d
  have hle := Env.le_ext (x := (W.heap.size, newCap)) r.fresh
  have hb : BR P (e.ext h.next (W.heap.size, newCap)) newCap (.cells .grow cs el) (.cells (CS ++ REST).toArray el (0, 0)) :=
   .cells (hv.mono hle) (fun q => by cases q) (fun _ => ⟨size, hsz, hl⟩)
  obtain ⟨h1, h2, h3⟩ := r'.new kn hb
  subst h1
  exact ⟨_, _, _, rfl, h2, Env.ext_same _ _ _, h3⟩
 ·cases k
theorem run_append_fit {t1 t2 ty el el2 : TypeId} {size n sl cap : Nat} {base : Option Addr} {X : Value} {NEW : Array Value} {W' : World}
  (hu1 : P.underlying t1 = some (.slice el)) (hu2 : P.underlying t2 = some (.slice el2)) (hsz : sizeT P el = some size)
  (hlen : (Builtin.lenOf X).run P W = .ok n W) (hnew : (Builtin.firstCells size n X).run P W = .ok NEW W) (hfit : sl + n ≤ cap)
  (hst : match base with | none => W' = W | some a => (Go.storeCells (a.add (sl * size)) NEW.toList).run P W = .ok () W') :
  (Builtin.append_ #[t1, t2] ty #[.slice base sl cap, X]).run P W = .ok (.slice base (sl + n) cap) W' := by
 cases base with
 | none =>
  subst hst
  simp [Builtin.append_, Sem.run_bind', run_underlying hu1, run_underlying hu2, run_sizeOf hsz, hlen, hnew, hfit, run_pure']
 | some a =>
  simp [Builtin.append_, Sem.run_bind', run_underlying hu1, run_underlying hu2, run_sizeOf hsz, hlen, hnew, hfit, run_pure', hst]
theorem run_append_grow {t1 t2 ty el el2 : TypeId} {size bytes n sl cap : Nat} {base : Option Addr} {X : Value} {OLD NEW : Array Value} {inf : TypeInfo} {Z : Value}
  (hu1 : P.underlying t1 = some (.slice el)) (hu2 : P.underlying t2 = some (.slice el2)) (hsz : sizeT P el = some size)
  (hi1 : P.info? el = some inf) (hi2 : inf.bytes = bytes) (hz : ∀ W, (zeroValue el).run P W = .ok Z W)
  (hlen : (Builtin.lenOf X).run P W = .ok n W) (hnew : ∀ W', W'.heap = W.heap → (Builtin.firstCells size n X).run P W' = .ok NEW W')
  (hold : ∀ W', W'.heap = W.heap → (Builtin.firstCells size sl (.slice base sl cap)).run P W' = .ok OLD W')
  (hfit : ¬ sl + n ≤ cap) (hbd : (sl + n + 300) * 2 * (bytes + 1) < 281474976710656) :
  ∃ newCap, sl + n ≤ newCap ∧ (Builtin.append_ #[t1, t2] ty #[.slice base sl cap, X]).run P W =
   .ok (.slice (some ⟨W.heap.size, 0, none⟩) (sl + n) newCap)
    (World.add { W with drawn := W.drawn + 1 } (.cells (OLD ++ NEW ++ Builtin.zeroCells Z.cells (newCap - (sl + n))) el (0, 0))) := by
 have hb1 : (sl + n + 300) * 2 ≤ (sl + n + 300) * 2 * (bytes + 1) := Nat.le_mul_of_pos_right _ (by omega)
 have h63 : sl + n < 9223372036854775808 := by omega
 have hnext := nextslicecap_le (need := sl + n) (cap := cap) (by omega)
 have hnb : ¬ (Builtin.nextslicecap (sl + n) cap * bytes > 2 ^ 48) := by
  have h1 : Builtin.nextslicecap (sl + n) cap * bytes ≤ (2 * (sl + n + 300)) * (bytes + 1) := Nat.mul_le_mul hnext (by omega)
  have h2 : (2 * (sl + n + 300)) * (bytes + 1) = (sl + n + 300) * 2 * (bytes + 1) := by rw [Nat.mul_comm 2]
  have h3 : (2 : Nat) ^ 48 = 281474976710656 := by decide
  omega
 refine ⟨(sl + n) + (W.tape W.drawn (.appendCap (sl + n) cap el)) % (2 ^ 63 - (sl + n)), by omega, ?_⟩
 generalize hq : (sl + n) + (W.tape W.drawn (.appendCap (sl + n) cap el)) % (2 ^ 63 - (sl + n)) = newCap
 have hch : (choose (.appendCap (sl + n) cap el)).run P W = .ok newCap { W with drawn := W.drawn + 1 } := by
  simp only [choose, Sem.run, Question.forced, Question.cut, hq]
  rfl
 have hroom : ∀ W', (askRoom (newCap * bytes)).run P W' = .ok () W' := by
  intro W'
  unfold askRoom
  split <;> rfl
 have hmax : ¬ (((sl + n : Nat) : Int) > IntKind.i64.max ∧ (False ∨ bytes = 0)) := by
  intro hh
  have h1 := hh.1
  have h2 : IntKind.i64.max = 9223372036854775807 := by decide
  rw [h2] at h1
  omega
 have ha0 : (#[t1, t2] : Array TypeId)[0]? = some t1 := rfl
 have ha1 : (#[t1, t2] : Array TypeId)[1]? = some t2 := rfl
 have hb0 : (#[Value.slice base sl cap, X] : Array Value)[0]? = some (.slice base sl cap) := rfl
 have hb1' : (#[Value.slice base sl cap, X] : Array Value)[1]? = some X := rfl
 unfold Builtin.append_
 simp only [ha0, ha1, hb0, hb1', Sem.run_bind', run_underlying hu1, run_underlying hu2, run_sizeOf hsz, run_pure', Bool.false_eq_true, if_false, hlen, if_neg hfit, run_typeInfo hi1, hi2, if_neg hmax, if_neg hnb, hch, hroom,
  hold { W with drawn := W.drawn + 1 } rfl, Bool.not_false, if_true, hnew { W with drawn := W.drawn + 1 } rfl, hz, run_newRow]
end
end Go.AbsE

set_option linter.unusedSimpArgs false
namespace Go.AbsE
open Go
section
variable {P : Program} {w0 : Base} {e : Env} {h : AH} {W : World}
theorem firstCells_heap {size n : Nat} {S : Value} {NEW : Array Value} {s : AVal} {cs : List AVal} (r : HR P w0 e h W) (hs : VR e s S) (k : srcCells h size n s = some cs)
  (hn : (Builtin.firstCells size n S).run P W = .ok NEW W) : ∀ W', W'.heap = W.heap → (Builtin.firstCells size n S).run P W' = .ok NEW W' := by
 intro W' hW
 have r' : HR P w0 e h { W with drawn := W'.drawn } := r.drew _
 unfold srcCells at k
 have key : ∀ {B c off m : Nat} {CS : List Value}, (Go.loadCells ⟨B, off, none⟩ m).run P W = .ok CS.toArray W → (∃ b cs, e b = some (B, c) ∧ loadCells h b off m = some cs) →
   (Go.loadCells ⟨B, off, none⟩ m).run P W' = .ok CS.toArray W' := by
  rintro B c off m CS hr ⟨b, cs, hb, hl⟩
  unfold loadCells at hl
  split at hl
  ·rename_i g cs0 elem hg
   obtain ⟨B', c', O, k1, k2, k3, k4⟩ := r.blk _ _ hg
   rw [k1] at hb; cases hb
   cases k4 with
   | cells hv _ _ =>
    rename_i C junk
    rcases slice?_eq hl with ⟨_, hle⟩ | ⟨rfl, _⟩
    ·have q1 := run_loadCells' (P := P) (off := off) (n := m) k3 (by simp only [List.length_append]; have := hv.length; omega)
     have q2 := run_loadCells' (P := P) (W := W') (off := off) (n := m) (hW ▸ k3) (by simp only [List.length_append]; have := hv.length; omega)
     rw [q1] at hr
     rw [q2]
     injection hr with h1 h2
     rw [h1]
    ·simp [Go.loadCells, loadCellsFrom, run_pure'] at hr ⊢
     exact hr
  ·rename_i lo cs0 hg
   obtain ⟨B', c', O, k1, k2, k3, k4⟩ := r.blk _ _ hg
   rw [k1] at hb; cases hb
   cases k4 with
   | win hv hp =>
    rename_i elem PRE C junk fr
    cases hle : Nat.ble lo off with
    | false => rw [hle] at hl; cases hl
    | true =>
     rw [hle] at hl
     have hle := Nat.le_of_ble_eq_true hle
     rcases slice?_eq hl with ⟨_, hle2⟩ | ⟨rfl, _⟩
     ·have q1 := run_loadCells' (P := P) (off := off) (n := m) k3 (by simp only [List.length_append]; have := hv.length; omega)
      have q2 := run_loadCells' (P := P) (W := W') (off := off) (n := m) (hW ▸ k3) (by simp only [List.length_append]; have := hv.length; omega)
      rw [q1] at hr
      rw [q2]
      injection hr with h1 h2
      rw [h1]
     ·simp [Go.loadCells, loadCellsFrom, run_pure'] at hr ⊢
      exact hr
  ·cases hl
 split at k
 ·cases hs
  simp only [Builtin.firstCells, run_pure'] at hn ⊢
  injection hn with h1 h2
  rw [h1]
 ·cases hs with
  | slice hb =>
   obtain ⟨B, c, CS, k1, k2, k3, k4⟩ := loadCells_sim r k
   rw [k1] at hb; cases hb
   simp only [Builtin.firstCells] at hn ⊢
   rw [k4] at hn; cases hn
   exact key k4 ⟨_, _, k1, k⟩
 ·cases hs with
  | gsl hb =>
   obtain ⟨B, c, CS, k1, k2, k3, k4⟩ := loadCells_sim r k
   rw [k1] at hb; cases hb
   simp only [Builtin.firstCells] at hn ⊢
   rw [k4] at hn; cases hn
   exact key k4 ⟨_, _, k1, k⟩
 ·cases hs with
  | lit hi hc =>
   obtain ⟨⟨el, h1⟩, _⟩ := r.imm _ _ hi
   have h3 := hc.length
   simp only [Builtin.firstCells] at hn ⊢
   rcases slice?_eq k with ⟨_, h2⟩ | ⟨h2, _⟩
   ·have q1 := run_loadCells' (P := P) (off := 0) (n := n * size) h1 (by omega)
    have q2 := run_loadCells' (P := P) (W := W') (off := 0) (n := n * size) (hW ▸ h1) (by omega)
    rw [q1] at hn
    rw [q2]
    injection hn with g1 g2
    rw [g1]
   ·rw [h2] at hn ⊢
    simp [Go.loadCells, loadCellsFrom, run_pure'] at hn ⊢
    exact hn
 ·cases k
theorem run_lenOf {s : AVal} {n : Nat} (k : lenA s = some n) {S : Value} (hs : VR e s S) : (Builtin.lenOf S).run P W = .ok n W := by
 obtain ⟨base, cap, rfl⟩ := lenA_rel k hs
 rfl
theorem aAppend_sim (r : HR P w0 e h W) {t1 t2 ty : TypeId} {s x : AVal} {S X : Value} (hs : VR e s S) (hx : VR e x X) {y : ANext} (k : aAppend P h t1 t2 s x = some y) :
  OpSim P w0 e h W ((do let a ← Builtin.append_ #[t1, t2] ty #[S, X]; pure (Next.value a)).run P W) y := by
 unfold aAppend at k
 split at k
 ·rename_i el el2 hu1 hu2
  split at k
  ·rename_i size bytes z sl n hsz hby hz hsl hn
   split at k
   ·cases k
   ·rename_i new hnew
    cases b1 : Nat.blt ((sl + n + 300) * 2 * (bytes + 1)) 281474976710656 with
    | false => rw [b1] at k; cases k
    | true =>
    cases b2 : Nat.blt 0 size with
    | false => rw [b1, b2] at k; cases k
    | true =>
    cases b3 : Nat.beq z.cells.length size with
    | false => rw [b1, b2, b3] at k; cases k
    | true =>
    rw [b1, b2, b3] at k
    simp only [cond_true] at k
    have p1 := blt_true b1
    have p2 := blt_true b2
    have p3 := Nat.eq_of_beq_eq_true b3
    obtain ⟨inf, hi1, hi2⟩ := run_bytesOf hby
    obtain ⟨Z, hZ, hZr⟩ := zero_rel hz
    have hzs : Z.cells.size = size := by rw [← p3, (hZr e).cells.length]; simp
    obtain ⟨NEW, hN1, hN2⟩ := srcCells_sim r hnew hx
    have hNl : NEW.length = n * size := by rw [← hN1.length]; exact srcCells_len hnew r hn
    have hlenX := run_lenOf (P := P) (W := W) hn hx
    have hNh := firstCells_heap r hx hnew hN2
    have grow : ∀ {base : Option Addr} {cap : Nat} {old : List AVal} {OLD : List Value} {h1 : AH}, HR P w0 e h1 W → S = .slice base sl cap → ¬ sl + n ≤ cap → VRs e old OLD → OLD.length = sl * size →
      (∀ W', W'.heap = W.heap → (Builtin.firstCells size sl (.slice base sl cap)).run P W' = .ok OLD.toArray W') →
      growNew h1 el (old ++ new) (sl + n) = some y →
      OpSim P w0 e h W ((do let a ← Builtin.append_ #[t1, t2] ty #[S, X]; pure (Next.value a)).run P W) y := by
     intro base cap old OLD h1 r1 hS hno hold holdl hof kg
     subst hS
     obtain ⟨newCap, g1, g2⟩ := run_append_grow (ty := ty) hu1 hu2 hsz hi1 hi2 hZ hlenX hNh hof hno p1
     obtain ⟨e', b, h', rfl, q1, q2, q3⟩ := growNew_sim (W := W) r1 hsz (hold.append hN1) (REST := (Builtin.zeroCells Z.cells (newCap - (sl + n))).toList) (newCap := newCap)
      (by simp only [List.length_append, holdl, hNl, zeroCells_length, hzs]; rw [← Nat.add_mul, ← Nat.add_mul]; congr 1; omega) kg (W.drawn + 1)
     refine ⟨e', _, _, .inl (by rw [Sem.run_bind', g2]; rfl), q1, .gsl q2, ?_⟩
     have : (OLD.toArray ++ NEW.toArray ++ Builtin.zeroCells Z.cells (newCap - (sl + n))) = (OLD ++ NEW ++ (Builtin.zeroCells Z.cells (newCap - (sl + n))).toList).toArray := by simp
     rw [this]; exact q3
    split at k
    ·cases hs
     simp [lenA] at hsl
     subst hsl
     cases b4 : Nat.beq n 0 with
     | true =>
      rw [b4] at k
      cases k
      have := Nat.eq_of_beq_eq_true b4
      subst this
      refine sim_pure r (run_append_fit (W' := W) hu1 hu2 hsz hlenX hN2 (by omega) rfl) ?_
      exact .nilslice
     | false =>
      rw [b4] at k
      have hn0 : n ≠ 0 := fun q => by subst q; simp at b4
      refine grow (old := []) (OLD := []) r rfl (by omega) .nil (by simp) (fun W' _ => rfl) ?_
      simpa using k
    ·rename_i b off len cap
     have hs0 := hs
     cases hs with
     | slice hb =>
      rename_i B c
      simp [lenA] at hsl
      subst hsl
      unfold appSlice at k
      cases b4 : Nat.ble (len + n) cap with
      | true =>
       rw [b4] at k
       simp only [cond_true] at k
       have p4 := Nat.le_of_ble_eq_true b4
       split at k
       ·rename_i h' hst
        cases k
        obtain ⟨B', c', W', k1, k2, k3⟩ := storeCells_sim r hN1 hst
        rw [k1] at hb; cases hb
        refine sim_val (run_append_fit (W' := W') hu1 hu2 hsz hlenX hN2 p4 ?_) (Env.le_refl e) (.slice k1) k2
        simp only [addr_add]
        exact k3
       ·cases k
      | false =>
       rw [b4] at k
       simp only [cond_false] at k
       have p4 : ¬ len + n ≤ cap := fun q => by rw [Nat.ble_eq_true_of_le q] at b4; cases b4
       split at k
       ·rename_i old hold
        obtain ⟨OLD, o1, o2⟩ := srcCells_sim r hold hs0
        have ol : OLD.length = len * size := by rw [← o1.length]; exact srcCells_len hold r rfl
        exact grow r rfl p4 o1 ol (firstCells_heap r hs0 hold o2) k
       ·cases k
    ·rename_i b off i len
     have hs0 := hs
     cases hs with
     | gsl hb =>
      rename_i B c
      simp [lenA] at hsl
      subst hsl
      unfold appGsl at k
      split at k
      ·rename_i cs el' hg
       cases b4 : Nat.beq off (i * size) with
       | false => rw [b4] at k; cases k
       | true =>
       cases b5 : eqSize P el' size with
       | false => rw [b4, b5] at k; cases k
       | true =>
       cases b6 : Nat.beq el' el with
       | false => rw [b4, b5, b6] at k; cases k
       | true =>
       rw [b4, b5, b6] at k
       simp only [cond_true] at k
       have p4 := Nat.eq_of_beq_eq_true b4
       have p6 := Nat.eq_of_beq_eq_true b6
       subst p6
       obtain ⟨B', c', O, k1, k2, k3, k4⟩ := r.blk _ _ hg
       rw [hb] at k1; cases k1
       cases k4 with
       | cells hcs hg0 hcap =>
        rename_i CS junk
        obtain ⟨size', z1, z2⟩ := hcap rfl
        rw [hsz] at z1; cases z1
        cases b7 : Nat.ble (off + (len + n) * size) cs.length with
        | true =>
         rw [b7] at k
         simp only [cond_true] at k
         have p7 := Nat.le_of_ble_eq_true b7
         have hcl : i + (len + n) ≤ c := by
          have g1 : (i + (len + n)) * size ≤ c * size := by
           have := hcs.length
           rw [← z2, Nat.add_mul]; simp; omega
          exact Nat.le_of_mul_le_mul_right g1 p2
         split at k
         ·rename_i h' hst
          cases k
          obtain ⟨B', c', W', m1, m2, m3⟩ := storeCells_sim r hN1 hst
          rw [hb] at m1; cases m1
          refine sim_val (run_append_fit (W' := W') hu1 hu2 hsz hlenX hN2 (by omega) ?_) (Env.le_refl e) (.gsl hb) m2
          simp only [addr_add]
          exact m3
         ·cases k
        | false =>
         rw [b7] at k
         simp only [cond_false] at k
         cases b8 : Nat.beq i 0 with
         | false => rw [b8] at k; cases k
         | true =>
         cases b9 : scalars new with
         | false => rw [b8, b9] at k; cases k
         | true =>
         rw [b8, b9] at k
         simp only [cond_true] at k
         have p8 := Nat.eq_of_beq_eq_true b8
         subst p8
         simp at p4
         subst p4
         have p7 : ¬ (len + n) * size ≤ cs.length := fun q => by rw [Nat.ble_eq_true_of_le (by omega)] at b7; cases b7
         split at k
         ·rename_i old hold
          split at k
          ·rename_i h1 hd
           obtain ⟨OLD, o1, o2⟩ := srcCells_sim r hold hs0
           have ol : OLD.length = len * size := by rw [← o1.length]; exact srcCells_len hold r rfl
           by_cases hfit : len + n ≤ c
           ·-- there was room
            unfold growNew at k
            split at k
            ·rename_i b' h' kn
             cases k
             have hin : len * size ≤ cs.length ∧ OLD = CS.take (len * size) := by
              simp only [srcCells, loadCells, hg] at hold
              rcases slice?_eq hold with ⟨q1, q2⟩ | ⟨q1, q2⟩
              ·refine ⟨by omega, ?_⟩
               have q3 := run_loadCells' (P := P) (off := 0) (n := len * size) k3 (by simp only [List.length_append]; have := hcs.length; omega)
               have q4 : (Builtin.firstCells size len (.slice (some ⟨B, 0, none⟩) len (c - 0))).run P W = .ok OLD.toArray W := o2
               simp only [Builtin.firstCells] at q4
               rw [q3] at q4
               injection q4 with q5 _
               have q6 := congrArg Array.toList q5
               simp at q6
               rw [← q6, List.take_append_of_le_length (by rw [← hcs.length]; omega)]
              ·rw [q1]
               refine ⟨by omega, ?_⟩
               have : OLD.length = 0 := by rw [ol, q1]
               simp [List.eq_nil_of_length_eq_zero this]
             obtain ⟨hin1, hin2⟩ := hin
             have hcl := hcs.length
             have hroom : (len + n) * size ≤ (CS ++ junk).length := by rw [z2]; exact Nat.mul_le_mul_right _ hfit
             have hrun := run_storeCells (P := P) (B := B) (off := len * size) (el := el') NEW 0 (CS ++ junk) W (plain_of_scalars hN1 b9) k3
              (by rw [hNl]; rw [Nat.add_mul] at hroom; omega)
             rw [show len * size + 0 = len * size from rfl] at hrun
             have hsp : spliced (CS ++ junk) (len * size) NEW = (OLD ++ NEW) ++ (CS ++ junk).drop ((len + n) * size) := by
              unfold spliced
              rw [List.take_append_of_le_length (by omega), hin2, hNl, ← Nat.add_mul]
             rw [hsp] at hrun
             have hb2 : BR P (e.ext h.next (B, c)) c (.cells .grow (old ++ new) el') (.cells ((OLD ++ NEW) ++ (CS ++ junk).drop ((len + n) * size)).toArray el' (0, 0)) := by
              refine .cells ((o1.append hN1).mono (Env.le_ext r.fresh)) (fun q => by cases q) (fun _ => ⟨size, hsz, ?_⟩)
              simp only [List.length_append, List.length_drop, ol, hNl]
              simp only [List.length_append] at hroom z2
              rw [Nat.add_mul] at hroom ⊢
              omega
             obtain ⟨m1, m2, m3⟩ := r.move hg rfl hb hd kn hb2
             subst m1
             refine sim_val (run_append_fit (W' := _) hu1 hu2 hsz hlenX hN2 (by omega) ?_) m2 (.gsl (Env.ext_same _ _ _)) m3
             simp only [addr_add, Nat.zero_add]
             exact hrun
            ·cases k
           ·exact grow (r.drop hg hd) rfl (by omega) o1 ol (firstCells_heap r hs0 hold o2) k
          ·cases k
         ·cases k
      ·cases k
    ·rename_i m cs0
     have hs0 := hs
     cases hs with
     | lit hi hc =>
      rename_i CS0 B
      simp [lenA] at hsl
      subst hsl
      cases b4 : Nat.beq n 0 with
      | true =>
       rw [b4] at k
       cases k
       have hn0 := Nat.eq_of_beq_eq_true b4
       subst hn0
       have hN0 : NEW = [] := List.eq_nil_of_length_eq_zero (by rw [hNl]; simp)
       refine sim_pure r (run_append_fit (W' := W) (cap := m) (sl := m) (base := some ⟨B, 0, none⟩) hu1 hu2 hsz hlenX hN2 (by omega) ?_) ?_
       ·subst hN0; simp [Go.storeCells, run_pure']
       ·exact .lit hi hc
      | false =>
       rw [b4] at k
       simp only [cond_false] at k
       have p4 : ¬ m + n ≤ m := by
        intro q
        have : n = 0 := by omega
        subst this; simp at b4
       split at k
       ·rename_i old hold
        obtain ⟨OLD, o1, o2⟩ := srcCells_sim r hold hs0
        have ol : OLD.length = m * size := by rw [← o1.length]; exact srcCells_len hold r rfl
        exact grow r rfl p4 o1 ol (firstCells_heap r hs0 hold o2) k
       ·cases k
    ·cases k
  ·cases k
 ·cases k
end
end Go.AbsE

set_option linter.unusedSimpArgs false
namespace Go.AbsE
open Go
section
variable {P : Program} {w0 : Base} {e : Env} {h : AH} {W : World}
theorem run_getObj {r : Nat} {o : Obj} (hk : W.heap[r]? = some o) (hn : ∀ c el fr, o ≠ .cells c el fr) : (getObj r).run P W = .ok o W := by
 simp only [getObj, Sem.run, hk]
theorem run_setObj {r : Nat} {o o' : Obj} (hk : W.heap[r]? = some o) (hn : ∀ c el fr, o ≠ .cells c el fr) : (setObj r o').run P W = .ok () (World.upd W r o') := by
 simp only [setObj, Sem.run, hk]
 cases o <;> first | rfl | exact absurd rfl (hn _ _ _)
theorem aBuiltin_sim (r : HR P w0 e h W) {b : Builtin} {argTypes : Array TypeId} {type : TypeId} {consts : Array Bool} {args : List AVal} {ARGS : List Value} (ha : VRs e args ARGS)
  {y : ANext} (k : aBuiltin P h b argTypes type consts args = some y) : OpSim P w0 e h W ((builtin b argTypes type consts ARGS.toArray).run P W) y := by
 unfold aBuiltin at k
 split at k
 ·-- len
  split at k
  ·rename_i x t rest hat
   cases ha with
   | cons hx hs =>
    cases hs
    rename_i X
    have h0 : argTypes[0]? = some t := by rw [← Array.getElem?_toList, hat]; rfl
    split at k
    ·rename_i el hu
     split at k
     ·rename_i n hn
      cases k
      obtain ⟨base, cap, rfl⟩ := lenA_rel hn hx
      refine sim_pure r ?_ (.int _ _)
      simp [Builtin.len_, h0, Sem.run_bind', run_underlying hu, run_pure', goInt]
     ·cases k
    ·rename_i n el hu
     cases k
     refine sim_pure r ?_ (.int _ _)
     simp [Builtin.len_, h0, Sem.run_bind', run_underlying hu, run_pure', goInt]
    ·rename_i hu
     split at k
     ·cases k
      cases hx
      refine sim_pure r ?_ (.int _ _)
      simp [Builtin.len_, h0, Sem.run_bind', run_underlying hu, run_pure', goInt]
     ·cases k
    ·rename_i kt et hu
     split at k
     ·cases k
      cases hx
      refine sim_pure r ?_ (.int _ _)
      simp [Builtin.len_, h0, Sem.run_bind', run_underlying hu, run_pure', goInt]
     ·rename_i b'
      split at k
      ·rename_i es clock hg
       cases k
       cases hx with
       | map hb =>
        obtain ⟨B, c, O, k1, k2, k3, k4⟩ := r.blk _ _ hg
        rw [k1] at hb; cases hb
        cases k4 with
        | map hm =>
         refine sim_pure r ?_ (.int _ _)
         simp [Builtin.len_, h0, Sem.run_bind', run_underlying hu, run_getObj k3 (by intros; intro q; cases q), run_pure', goInt, hm.length]
      ·cases k
     ·cases k
    ·cases k
  ·cases k
 ·-- append
  split at k
  ·rename_i s x t1 t2 hat
   cases ha with
   | cons hs hr =>
    cases hr with
    | cons hx hr2 =>
     cases hr2
     have : argTypes = #[t1, t2] := by rw [← Array.toList_inj]; exact hat
     subst this
     exact aAppend_sim r hs hx k
  ·cases k
 ·-- copy
  split at k
  ·rename_i d s t rest hat
   cases ha with
   | cons hd hr =>
    cases hr with
    | cons hs hr2 =>
     cases hr2
     rename_i D S
     have h0 : argTypes[0]? = some t := by rw [← Array.getElem?_toList, hat]; rfl
     split at k
     ·rename_i el hu
      split at k
      ·rename_i size dl sl hsz hdl hsl
       split at k
       ·cases k
       ·rename_i cs hcs
        obtain ⟨CS, q1, q2⟩ := srcCells_sim r hcs hs
        have q3 := run_lenOf (P := P) (W := W) hsl hs
        split at k
        ·rename_i b' off len hse
         split at k
         ·rename_i h' hst
          cases k
          obtain ⟨B, c, cap, m1, rfl⟩ := slElems_rel hse hd
          obtain ⟨B', c', W', n1, n2, n3⟩ := storeCells_sim r q1 hst
          rw [m1] at n1; cases n1
          obtain ⟨base', cap', hD⟩ := lenA_rel hdl hd
          injection hD with i1 i2 i3
          subst i2
          refine sim_val ?_ (Env.le_refl e) (.int _ _) n2
          simp [Builtin.copy_, h0, Sem.run_bind', run_underlying hu, q3, run_sizeOf hsz, q2, n3, run_pure', goInt]
         ·cases k
        ·split at k
         ·cases k
          cases hd
          simp [lenA] at hdl
          subst hdl
          refine sim_pure r ?_ (.int _ _)
          simp at q2
          simp [Builtin.copy_, h0, Sem.run_bind', run_underlying hu, q3, run_sizeOf hsz, q2, run_pure', goInt]
         ·cases k
      ·cases k
     ·cases k
  ·cases k
 ·cases k; exact ⟨rfl, rfl⟩
 ·split at k
  ·rename_i t v
   cases k
   cases ha with
   | cons hx hs =>
    cases hs
    cases hx with
    | iface hv =>
     refine ⟨rfl, _, ?_, .iface hv⟩
     simp [builtin, Instr.panic, Sem.run_bind', goPanic, Sem.run]
  ·cases k
 ·split at k
  ·rename_i l hl
   have := grounds_rel ha hl
   subst this
   split at k
   ·rename_i v hv
    obtain ⟨a, hva, rfl⟩ := valO_some k
    exact ⟨e, v, W, .inl (run_of_pureRun hv W), Env.le_refl e, absV_rel hva, r⟩
   ·cases k
  ·cases k
 ·split at k
  ·rename_i l hl
   have := grounds_rel ha hl
   subst this
   split at k
   ·rename_i v hv
    obtain ⟨a, hva, rfl⟩ := valO_some k
    exact ⟨e, v, W, .inl (run_of_pureRun hv W), Env.le_refl e, absV_rel hva, r⟩
   ·cases k
  ·cases k
 ·-- clear
  split at k
  ·rename_i x t rest hat
   cases ha with
   | cons hx hs =>
    cases hs
    rename_i X
    have h0 : argTypes[0]? = some t := by rw [← Array.getElem?_toList, hat]; rfl
    split at k
    ·rename_i el hu
     split at k
     ·rename_i b' off n' cap z hz
      obtain ⟨Z, hZ, hZr⟩ := zero_rel hz
      cases hx with
      | slice hb =>
       rename_i B c
       cases hq : Nat.beq n' 0 with
       | true =>
        rw [hq] at k
        cases k
        have := Nat.eq_of_beq_eq_true hq
        subst this
        refine sim_pure r ?_ (.tuple .nil)
        simp [Builtin.clear_, h0, Sem.run_bind', run_underlying hu, run_pure']
       | false =>
        rw [hq] at k
        simp only [cond_false] at k
        split at k
        ·rename_i h' hst
         cases k
         obtain ⟨B', c', W', n1, n2, n3⟩ := storeCells_sim r (repl_rel (hZr e).cells n') hst
         rw [hb] at n1; cases n1
         have h6 : (Builtin.zeroCells Z.cells n').toList = repl Z.cells.toList n' := by
          unfold Builtin.zeroCells
          rw [range_repl Z.cells n']
         have hn0 : n' ≠ 0 := fun q => by subst q; simp at hq
         refine sim_val (V := .tuple #[]) ?_ (Env.le_refl e) (.tuple .nil) n2
         cases n' with
         | zero => exact absurd rfl hn0
         | succ m' => simp [Builtin.clear_, h0, Sem.run_bind', run_underlying hu, hZ, h6, n3, run_pure']
        ·cases k
     ·cases k
    ·cases k
  ·cases k
 ·cases k
theorem aFunc_run {f : FuncId} {fn : Func} (k : aFunc P f = some fn) (A : Array Value) : (callFunc f A).run P W = .ok (.enter f A) W ∧ P.funcs[f]? = some fn ∧ ∃ c, fn.body = some c := by
 unfold aFunc at k
 split at k
 ·rename_i fn' hf
  cases hn : fn'.name == "runtime.NumGoroutine" with
  | true => rw [hn] at k; cases k
  | false =>
   rw [hn] at k
   simp only [cond_false] at k
   split at k
   ·rename_i c hc
    cases k
    refine ⟨?_, hf, c, hc⟩
    have hn' : ¬ fn.name = "runtime.NumGoroutine" := by simpa using hn
    simp [callFunc, Sem.run_bind', program, Sem.run, hf, hn', hc, run_pure']
   ·cases k
 ·cases k
theorem aEnter_sim {f : FuncId} {args : List AVal} {ARGS : List Value} (ha : VRs e args ARGS) {y : ANext} (k : aEnter P f args h = some y) {A : Array Value} (hA : A = ARGS.toArray) :
  OpSim P w0 e h W ((callFunc f A).run P W) y := by
 unfold aEnter at k
 split at k
 ·rename_i fn hf
  cases k
  subst hA
  exact ⟨rfl, ARGS, (aFunc_run hf _).1, ha⟩
 ·cases k
theorem findM_eq (name : String) : ∀ (l : List Method), findM name l = l.find? (·.name == name)
 | [] => rfl
 | m :: l => by
  simp only [findM, List.find?_cons]
  cases m.name == name with
  | true => rfl
  | false => exact findM_eq name l
theorem aFollow_sim : ∀ {path : List FieldStep} {t : TypeId} {x : AVal} {xt : TypeId} {y : AVal}, aFollow P path t x = some (xt, y) → ∀ {X : Value}, VR e x X →
  ∃ Y, VR e y Y ∧ (∀ W, (follow path t (.val X)).run P W = .ok (xt, .val Y) W) ∧ (∀ W, (followBlind path t (some X)).run P W = .ok (.ok (xt, some Y)) W) := by
 intro path
 induction path with
 | nil => intro t x xt y k X hx; simp [aFollow] at k; obtain ⟨rfl, rfl⟩ := k; exact ⟨X, hx, fun _ => rfl, fun _ => rfl⟩
 | cons s path ih =>
  intro t x xt y k X hx
  simp only [aFollow] at k
  split at k
  ·rename_i fields cs hu
   split at k
   ·rename_i f hf
    cases hd : s.deref with
    | true => rw [hd] at k; cases k
    | false =>
     rw [hd] at k
     simp only [cond_false] at k
     split at k
     ·rename_i z hz
      cases hx with
      | agg hcs =>
       obtain ⟨Z, z1, z2⟩ := partT_sim (P := P) hcs hz
       obtain ⟨Y, y1, y2, y3⟩ := ih k z1
       refine ⟨Y, y1, fun W => ?_, fun W => ?_⟩
       ·simp [follow, Sem.run_bind', run_underlying hu, hf, hd, z2, y2]
       ·simp [followBlind, Sem.run_bind', run_underlying hu, hf, hd, z2, y3]
     ·cases k
   ·cases k
  ·cases k
theorem aMethod_sim : ∀ {k : Nat} {t : TypeId} {v : AVal} {name : String} {f : FuncId} {rv : AVal}, aMethod P k t v name = some (f, rv) → ∀ {V : Value}, VR e v V → ∀ (d : Nat),
  ∃ RV, VR e rv RV ∧ (∀ W, (method (k + d) t V name).run P W = .ok (f, RV) W) ∧ (∀ W, (nilAhead (k + d) t V name).run P W = .ok (some false) W) := by
 intro k
 induction k with
 | zero => intro t v name f rv q; simp [aMethod] at q
 | succ k ih =>
  intro t v name f rv q V hv d
  have hkd : k + 1 + d = (k + d) + 1 := by omega
  rw [hkd]
  simp only [aMethod] at q
  split at q
  ·cases q
  ·rename_i i hi
   split at q
   ·cases q
   ·rename_i m hm
    rw [findM_eq] at hm
    have hm' : i.methods.find? (·.name == name) = some m := by rw [← Array.find?_toList]; exact hm
    split at q
    ·cases q
    ·rename_i xt x hfo
     obtain ⟨Y, y1, y2, y3⟩ := aFollow_sim hfo hv
     split at q
     ·rename_i hfn
      split at q
      ·rename_i t' v'
       cases y1 with
       | iface hv' =>
        obtain ⟨RV, r1, r2, r3⟩ := ih q hv' d
        refine ⟨RV, r1, fun W => ?_, fun W => ?_⟩
        ·simp [method, Sem.run_bind', run_typeInfo hi, hm', y2, hfn, Place.get, run_pure', r2]
        ·simp [nilAhead, Sem.run_bind', run_typeInfo hi, hm', y3, hfn, run_pure', r3]
      ·cases q
     ·rename_i f' ptr hfn
      split at q
      ·rename_i el hu
       cases q
       refine ⟨Y, y1, fun W => ?_, fun W => ?_⟩
       ·simp [method, Sem.run_bind', run_typeInfo hi, hm', y2, hfn, receiverAt, run_underlying hu, Place.get, run_pure']
       ·simp [nilAhead, Sem.run_bind', run_typeInfo hi, hm', y3, hfn, run_pure']
      ·cases q
      ·rename_i d' hne hu
       cases q
       refine ⟨Y, y1, fun W => ?_, fun W => ?_⟩
       ·simp only [method, Sem.run_bind', run_typeInfo hi, hm', y2, hfn, receiverAt, run_underlying hu]
        cases d' <;> first | rfl | exact absurd rfl (hne _)
       ·simp only [nilAhead, Sem.run_bind', run_typeInfo hi, hm', y3, hfn, run_underlying hu]
        cases d' <;> first | rfl | exact absurd rfl (hne _)
      ·cases q
theorem made_depth : 8 ≤ P.types.size + Made.depth := by unfold Made.depth; omega
theorem aInvokeIface_sim {recv : AVal} {name : String} {args : List AVal} {RECV : Value} {ARGS : List Value} (hr : VR e recv RECV) (ha : VRs e args ARGS) {y : ANext}
  (k : aInvokeIface P recv name args h = some y) {A : Array Value} (hA : A = ARGS.toArray) : OpSim P w0 e h W ((callMethod RECV name A).run P W) y := by
 unfold aInvokeIface at k
 split at k
 ·rename_i t v
  split at k
  ·rename_i f rv hm
   cases hr with
   | iface hv =>
    obtain ⟨RV, r1, r2, _⟩ := aMethod_sim hm hv (P.types.size + Made.depth - 8)
    have hd : 8 + (P.types.size + Made.depth - 8) = P.types.size + Made.depth := by have := made_depth (P := P); omega
    rw [hd] at r2
    have := aEnter_sim (w0 := w0) (W := W) (.cons r1 ha) k (A := #[RV] ++ A) (by rw [hA]; simp)
    simpa [callMethod, Sem.run_bind', program, Sem.run, r2] using this
  ·cases k
 ·cases k
theorem aInvoke_sim {fn : Fn} {cap args : List AVal} {CAP ARGS : List Value} (hf : ∀ l, fn ≠ .yield l) (hc : VRs e cap CAP) (ha : VRs e args ARGS) {y : ANext}
  (k : aInvoke P fn cap args h = some y) {A : Array Value} (hA : A = ARGS.toArray) : OpSim P w0 e h W ((invoke (.fn fn CAP.toArray) A).run P W) y := by
 subst hA
 unfold aInvoke at k
 split at k
 ·rename_i f
  exact aEnter_sim (ha.append hc) k (by simp)
 ·rename_i name
  split at k
  ·rename_i recv rest
   cases ha with
   | cons h1 h2 =>
    have := aInvokeIface_sim (w0 := w0) (W := W) h1 h2 k rfl
    simpa [invoke] using this
  ·cases k
 ·rename_i t name
  split at k
  ·rename_i recv rest
   cases ha with
   | cons h1 h2 =>
    split at k
    ·rename_i ms hu
     have := aInvokeIface_sim (w0 := w0) (W := W) h1 h2 k rfl
     simpa [invoke, Sem.run_bind', run_underlying hu] using this
    ·rename_i d hne hu
     have := aInvokeIface_sim (w0 := w0) (W := W) (.iface (t := t) h1) h2 k rfl
     simp only [invoke, Sem.run_bind', run_underlying hu] at *
     cases d <;> first | exact absurd rfl (hne _) | simpa [Sem.run_bind', run_underlying hu, run_pure'] using this
    ·cases k
  ·cases k
 ·rename_i t path f pointer
  split at k
  ·rename_i x rest
   cases ha with
   | cons h1 h2 =>
    split at k
    ·rename_i xt yv hfo
     obtain ⟨Y, y1, y2, y3⟩ := aFollow_sim hfo h1
     split at k
     ·rename_i el hu
      have := aEnter_sim (w0 := w0) (W := W) (.cons y1 h2) k rfl
      simpa [invoke, Sem.run_bind', receiverVia, y2, receiverAt, run_underlying hu, Place.get, run_pure'] using this
     ·cases k
     ·rename_i d hne hu
      have := aEnter_sim (w0 := w0) (W := W) (.cons y1 h2) k rfl
      simp only [invoke, receiverVia, Sem.run_bind', y2, receiverAt, run_underlying hu]
      cases d <;> first | exact absurd rfl (hne _) | simpa [Sem.run_bind', receiverVia, y2, receiverAt, run_underlying hu, Place.get, run_pure'] using this
     ·cases k
    ·cases k
  ·cases k
 ·cases k
end
end Go.AbsE

set_option linter.unusedSimpArgs false
namespace Go.AbsE
open Go
section
variable {P : Program} {w0 : Base} {e : Env} {h : AH} {W : World}
inductive Found (P : Program) (kt : TypeId) (K : Value) : List MapEntry → Nat → Option (Nat × Value) → Prop
 | nil (i) : Found P kt K [] i none
 | hit {en l i} (h : pureRun P (Op.equal kt K en.key) = some true) : Found P kt K (en :: l) i (some (i, en.val))
 | miss {en l i r} (h : pureRun P (Op.equal kt K en.key) = some false) (hs : Found P kt K l (i + 1) r) : Found P kt K (en :: l) i r
theorem asking_run {kt : TypeId} {K : Value} {l : List MapEntry} {i : Nat} {r : Option (Nat × Value)} (hf : Found P kt K l i r) : (Instr.findAsking kt K l i).run P W = .ok r W := by
 induction hf with
 | nil i => rfl
 | hit h => simp [Instr.findAsking, Sem.run_bind', run_of_pureRun h W, run_pure']
 | miss h _ ih => simp [Instr.findAsking, Sem.run_bind', run_of_pureRun h W, ih]
theorem equal_int {t : TypeId} {ik : IntKind} (hu : P.underlying t = some (.int ik)) (d : Nat) (k : IntKind) (a b : Int) : (Op.equalIn (d + 1) t (.int k a) (.int k b)).run P W = .ok (a == b) W := by
 unfold Op.equalIn; rw [Sem.run_bind', run_underlying hu]; simp [run_pure']
theorem equal_str {t : TypeId} (hu : P.underlying t = some .string) (d : Nat) (a b : ByteArray) : (Op.equalIn (d + 1) t (.string a) (.string b)).run P W = .ok (a == b) W := by
 unfold Op.equalIn; rw [Sem.run_bind', run_underlying hu]; rfl
theorem equal_bool {t : TypeId} (hu : P.underlying t = some .bool) (d : Nat) (a b : Bool) : (Op.equalIn (d + 1) t (.bool a) (.bool b)).run P W = .ok (a == b) W := by
 unfold Op.equalIn; rw [Sem.run_bind', run_underlying hu]; rfl
theorem now_eq {kt : TypeId} {kind : TypeDesc} (hu : P.underlying kt = some kind) {K K' : Value} {b b' : Bool} (h1 : pureRun P (Op.equal kt K K') = some b) (h2 : Instr.sameNow kind K K' = some b') : b' = b := by
 have hr := run_of_pureRun h1 (default : World)
 unfold Instr.sameNow at h2
 split at h2
 ·rename_i ik k a k' b0
  split at h2
  ·rename_i hk
   subst hk
   have q : (Op.equal kt (.int k a) (.int k b0)).run P default = .ok (a == b0) default := equal_int hu 9999 k a b0
   rw [q] at hr
   cases h2
   injection hr
  ·cases h2
 ·rename_i a b0
  have q : (Op.equal kt (.string a) (.string b0)).run P default = .ok (a == b0) default := equal_str hu 9999 a b0
  rw [q] at hr
  cases h2
  injection hr
 ·rename_i a b0
  have q : (Op.equal kt (.bool a) (.bool b0)).run P default = .ok (a == b0) default := equal_bool hu 9999 a b0
  rw [q] at hr
  cases h2
  injection hr
 ·cases h2
theorem now_run {kt : TypeId} {kind : TypeDesc} (hu : P.underlying kt = some kind) {K : Value} {l : List MapEntry} {i : Nat} {r r' : Option (Nat × Value)} (hf : Found P kt K l i r)
  (h2 : Instr.findNow kind K l i = some r') : r' = r := by
 induction hf with
 | nil i => simp [Instr.findNow] at h2; exact h2.symm
 | hit h =>
  simp only [Instr.findNow] at h2
  split at h2
  ·cases h2; rfl
  ·rename_i hn; have := now_eq hu h hn; cases this
  ·cases h2
 | miss h _ ih =>
  simp only [Instr.findNow] at h2
  split at h2
  ·rename_i hn; have := now_eq hu h hn; cases this
  ·exact ih h2
  ·cases h2
theorem findKey_run {kt : TypeId} {kind : TypeDesc} (hu : P.underlying kt = some kind) {K : Value} {l : List MapEntry} {r : Option (Nat × Value)} (hf : Found P kt K l 0 r) :
  (Instr.findKey kt K l).run P W = .ok r W := by
 unfold Instr.findKey
 rw [Sem.run_bind', run_underlying hu]
 simp only []
 split
 ·rename_i r' hr'
  rw [now_run hu hf hr']; rfl
 ·exact asking_run hf
theorem aMapFind_sim {kt : TypeId} {K : Value} : ∀ {es : List AMapE} {ES : List MapEntry} {res : Option AVal} (i : Nat), MRs e es ES → aMapFind P kt K es = some res →
  ∃ r, Found P kt K ES i r ∧ ((res = none ∧ r = none) ∨ ∃ v V j, res = some v ∧ r = some (j, V) ∧ VR e v V) := by
 intro es
 induction es with
 | nil => intro ES res i hm k; cases hm; simp [aMapFind] at k; subst k; exact ⟨none, .nil i, .inl ⟨rfl, rfl⟩⟩
 | cons a es ih =>
  intro ES res i hm k
  cases hm with
  | cons hv hs =>
   simp only [aMapFind] at k
   split at k
   ·rename_i hq; cases k; exact ⟨_, .hit hq, .inr ⟨_, _, _, rfl, rfl, hv⟩⟩
   ·rename_i hq
    obtain ⟨r, r1, r2⟩ := ih (i + 1) hs k
    exact ⟨r, .miss hq r1, r2⟩
   ·cases k
theorem aMapSet_sim {kt : TypeId} {K : Value} {v : AVal} {V : Value} (hv : VR e v V) {clock : Nat} : ∀ {es es' : List AMapE} {ES : List MapEntry} {clock' : Nat} (i : Nat), MRs e es ES →
  aMapSet P kt K v clock es = some (es', clock') →
  ∃ r, Found P kt K ES i r ∧ ((r = none ∧ clock' = clock + 1 ∧ MRs e es' (ES ++ [{ key := K, val := V, born := clock }])) ∨
   ∃ j o en, r = some (i + j, o) ∧ clock' = clock ∧ ES[j]? = some en ∧ Instr.sameBits 10000 en.key K = true ∧ MRs e es' (ES.modify j fun x => { x with key := K, val := V })) := by
 intro es
 induction es with
 | nil =>
  intro es' ES clock' i hm k
  cases hm
  simp [aMapSet] at k
  obtain ⟨rfl, rfl⟩ := k
  exact ⟨none, .nil i, .inl ⟨rfl, rfl, .cons hv .nil⟩⟩
 | cons a es ih =>
  intro es' ES clock' i hm k
  cases hm with
  | cons hv0 hs =>
   rename_i key val V0 born m
   simp only [aMapSet] at k
   split at k
   ·rename_i hq
    cases hb : Instr.sameBits 10000 key K with
    | false => rw [hb] at k; cases k
    | true =>
     rw [hb] at k
     cases k
     exact ⟨_, .hit hq, .inr ⟨0, _, _, rfl, rfl, rfl, hb, by simp; exact .cons hv hs⟩⟩
   ·rename_i hq
    split at k
    ·rename_i l c hl
     cases k
     obtain ⟨r, r1, r2⟩ := ih (i + 1) hs hl
     refine ⟨r, .miss hq r1, ?_⟩
     rcases r2 with ⟨h1, h2, h3⟩ | ⟨j, o, en, h1, h2, h3, h4, h5⟩
     ·exact .inl ⟨h1, h2, .cons hv0 h3⟩
     ·refine .inr ⟨j + 1, o, en, ?_, h2, by simpa using h3, h4, by simp; exact .cons hv0 h5⟩
      rw [h1]; congr 2; omega
    ·cases k
   ·cases k
theorem opLookup_sim (r : HR P w0 e h W) {n t T} (hT : TRel e n t T) {ty : TypeId} {y q : Operand} {commaOk : Bool} {x : ANext} (k : opLookup P t h ty y q commaOk = some x) :
  OpSim P w0 e h W ((do let a ← Instr.lookup ty (opd T y) (opd T q) commaOk; pure (Next.value a)).run P W) x := by
 unfold opLookup at k
 split at k
 ·rename_i kt et b key hu hy hq
  split at k
  ·rename_i es clock K z hg hK hz
   split at k
   ·rename_i u hck
    have h1 := ev_rel hT hy
    have h2 := ground_rel (ev_rel hT hq) hK
    generalize opd T y = C at h1
    rw [h2]
    cases h1 with
    | map hb =>
     obtain ⟨B, c, O, k1, k2, k3, k4⟩ := r.blk _ _ hg
     rw [k1] at hb; cases hb
     cases k4 with
     | map hm =>
      rename_i ES
      obtain ⟨Z, hZ, hZr⟩ := zero_rel hz
      have hempty : es.isEmpty = ES.toArray.isEmpty := by
       cases hm <;> rfl
      rw [hempty] at hck
      have hkd : ∃ kind, P.underlying kt = some kind := by
       cases hk : P.underlying kt with
       | some kind => exact ⟨kind, rfl⟩
       | none =>
        exfalso
        have := run_of_pureRun hck (default : World)
        unfold Instr.checkKey at this
        rw [Sem.run_bind'] at this
        simp [underlying, Sem.run_bind', program, Sem.run, hk, stuck] at this
      obtain ⟨kind, hkd⟩ := hkd
      split at k
      ·rename_i v hf
       obtain ⟨r', r1, r2⟩ := aMapFind_sim 0 hm hf
       rcases r2 with ⟨q1, _⟩ | ⟨v', V, j, q1, rfl, q3⟩
       ·cases q1
       ·cases q1
        refine okPair_rel r q3 k ?_
        simp only [Instr.lookup, Sem.run_bind', run_underlying hu, run_getObj k3 (by intros; intro q; cases q), run_pure', run_of_pureRun hck W, findKey_run hkd r1]
      ·rename_i hf
       obtain ⟨r', r1, r2⟩ := aMapFind_sim 0 hm hf
       rcases r2 with ⟨_, rfl⟩ | ⟨v', V, j, q1, _, _⟩
       ·refine okPair_rel r (hZr e) k ?_
        simp only [Instr.lookup, Sem.run_bind', run_underlying hu, run_getObj k3 (by intros; intro q; cases q), run_pure', run_of_pureRun hck W, findKey_run hkd r1, hZ]
       ·cases q1
      ·cases k
   ·cases k
  ·cases k
 ·cases k
theorem opMapUpdate_sim (r : HR P w0 e h W) {n t T} (hT : TRel e n t T) {ty : TypeId} {y q s : Operand} {x : ANext} (k : opMapUpdate P t h ty y q s = some x) :
  OpSim P w0 e h W ((do Instr.mapUpdate ty (opd T y) (opd T q) (opd T s); pure Next.skip).run P W) x := by
 unfold opMapUpdate at k
 split at k
 ·rename_i kt et b key v hu hy hq hs
  split at k
  ·rename_i es clock K hg hK
   split at k
   ·rename_i u hck
    split at k
    ·rename_i es' clock' hset
     split at k
     ·rename_i h' hh
      cases k
      have h1 := ev_rel hT hy
      have h2 := ground_rel (ev_rel hT hq) hK
      have h3 := ev_rel hT hs
      generalize opd T y = C at h1
      generalize opd T s = V at h3
      rw [h2]
      cases h1 with
      | map hb =>
       rename_i B0 c0
       obtain ⟨B, c, O, k1, k2, k3, k4⟩ := r.blk _ _ hg
       rw [k1] at hb; cases hb
       cases k4 with
       | map hm =>
        rename_i ES
        have hkd : ∃ kind, P.underlying kt = some kind := by
         cases hk : P.underlying kt with
         | some kind => exact ⟨kind, rfl⟩
         | none =>
          exfalso
          have := run_of_pureRun hck (default : World)
          unfold Instr.checkKey at this
          rw [Sem.run_bind'] at this
          simp [underlying, Sem.run_bind', program, Sem.run, hk, stuck] at this
        obtain ⟨kind, hkd⟩ := hkd
        obtain ⟨r', r1, r2⟩ := aMapSet_sim h3 0 hm hset
        have hnc : ∀ c el fr, (Obj.map ES.toArray clock) ≠ .cells c el fr := by intros; intro q; cases q
        rcases r2 with ⟨rfl, rfl, q3⟩ | ⟨j, o, en, rfl, rfl, q3, q4, q5⟩
        ·refine sim_unit (W' := World.upd W B0 (.map (ES.toArray.push { key := K, val := V, born := clock }) (clock + 1))) ?_ ?_
         ·simp only [Instr.mapUpdate, Sem.run_bind', run_underlying hu, run_getObj k3 hnc, run_of_pureRun hck W, findKey_run hkd r1, run_setObj k3 hnc]
         ·refine r.set hg rfl k1 hh ?_
          have : ES.toArray.push ({ key := K, val := V, born := clock } : MapEntry) = (ES ++ [({ key := K, val := V, born := clock } : MapEntry)]).toArray := by simp
          rw [this]; exact .map q3
        ·refine sim_unit (W' := World.upd W B0 (.map (ES.toArray.modify j fun x => { x with key := K, val := V }) clock')) ?_ ?_
         ·have hkey : ((ES.toArray[0 + j]?).map (·.key)).getD K = en.key := by simp [q3]
          simp only [Instr.mapUpdate, Sem.run_bind', run_underlying hu, run_getObj k3 hnc, run_of_pureRun hck W, findKey_run hkd r1, Instr.keyThatStays, hkey, q4, if_true, run_pure', run_setObj k3 hnc]
          simp
         ·refine r.set hg rfl k1 hh ?_
          have : ES.toArray.modify j (fun x => { x with key := K, val := V }) = (ES.modify j fun x => { x with key := K, val := V }).toArray := by simp
          rw [this]; exact .map q5
     ·cases k
    ·cases k
   ·cases k
  ·cases k
 ·cases k
theorem opNilCheck_sim (r : HR P w0 e h W) {n t T} (hT : TRel e n t T) {y : Operand} {o : Oper} (ho : o.op = .nilCheck y) {x : ANext} (k : opNilCheck P t h y = some x) :
  OpSim P w0 e h W ((execOp (opd T) o).run P W) x := by
 unfold opNilCheck at k
 split at k
 ·rename_i v hv
  have h1 := ev_rel hT hv
  cases hc : nilCheckOk P v with
  | false => rw [hc] at k; cases k
  | true =>
   rw [hc] at k
   cases k
   refine ⟨e, opd T y, W, .inl ?_, Env.le_refl e, h1, r⟩
   simp only [execOp, ho]
   generalize opd T y = C at h1
   unfold nilCheckOk at hc
   cases h1 with
   | func hf hfi hca =>
    rename_i fn first cap F CAP
    cases fn with
    | yield l => exact absurd rfl (hf l)
    | method name =>
     cases hfi with
     | nil => simp at hc
     | cons h2 h3 =>
      rename_i a b l m
      cases h2 with
      | iface hw =>
       simp only [] at hc
       split at hc
       ·rename_i fr hm
        obtain ⟨f', rv⟩ := fr
        obtain ⟨RV, r1, r2, r3⟩ := aMethod_sim hm hw (P.types.size + Made.depth - 8)
        have hd : 8 + (P.types.size + Made.depth - 8) = P.types.size + Made.depth := by have := made_depth (P := P); omega
        rw [hd] at r3
        simp [Sem.run_bind', program, Sem.run, r3, run_pure']
       ·cases hc
      | _ => simp at hc
    | func f => rfl
    | methodOf t n => rfl
    | via t p f q => rfl
   | nilptr => simp at hc
   | nilIface => simp at hc
   | nilfunc => simp at hc
   | yield hl => simp at hc
   | _ => rfl
 ·cases k
theorem callWith_sim (r : HR P w0 e h W) {n t T} (hT : TRel e n t T) {c : Call} {type : TypeId} {args : List AVal} (ha : VRs e args (c.args.toList.map (opd T))) {x : ANext}
  (k : callWith P t h c.callee c.argTypes (c.args.map fun | .const _ => true | _ => false) type args = some x) :
  OpSim P w0 e h W ((do let d ← resolve (opd T) c type; invoke d.target d.args : Sem Next).run P W) x := by
 have hargs : c.args.map (opd T) = (c.args.toList.map (opd T)).toArray := by rw [← Array.toList_map, Array.toArray_toList]
 unfold callWith at k
 cases hcal : c.callee with
 | builtin b =>
  rw [hcal] at k
  simp only [] at k
  have := aBuiltin_sim (w0 := w0) r ha k
  simp only [resolve, hcal, run_pure', Sem.run_bind', invoke]
  rw [hargs]
  have hcs : (c.args.map fun x => match x with | .const _ => true | _ => false) = (c.args.map fun | .const _ => true | _ => false) := rfl
  exact this
 | invoke rc name =>
  rw [hcal] at k
  simp only [] at k
  split at k
  ·rename_i recv hrv
   have := aInvokeIface_sim (w0 := w0) (W := W) (ev_rel hT hrv) ha k rfl
   simp only [resolve, hcal, run_pure', Sem.run_bind', invoke]
   rw [hargs]
   simpa [List.take_of_length_le] using this
  ·cases k
 | value f =>
  rw [hcal] at k
  simp only [] at k
  split at k
  ·rename_i fn first cap hf
   have h1 := ev_rel hT hf
   simp only [resolve, hcal, Sem.run_bind']
   generalize opd T f = C at h1
   cases h1 with
   | func hnf hfi hca =>
    have := aInvoke_sim (w0 := w0) (W := W) hnf hca (hfi.append ha) k rfl
    simp only [Deferred.ofValue, run_pure']
    rw [hargs]
    simpa using this
  ·rename_i l hf
   cases k
   have h1 := ev_rel hT hf
   simp only [resolve, hcal, Sem.run_bind']
   generalize opd T f = C at h1
   cases h1 with
   | yield hl =>
    refine ⟨rfl, _, _, _, hl, ha, ?_⟩
    simp only [Deferred.ofValue, run_pure', invoke]
    rw [hargs]
    simp
  ·cases k
theorem opDefer_sim (r : HR P w0 e h W) {n t T} (hT : TRel e n t T) {c : Call} {type : TypeId} {x : ANext} (k : opDefer t h c = some x) :
  OpSim P w0 e h W ((do pure (Next.defer (← resolve (opd T) c type)) : Sem Next).run P W) x := by
 have _ := r.size
 unfold opDefer at k
 split at k
 ·cases k
 ·rename_i args ha
  have ha := evs_rel hT ha
  have hargs : c.args.map (opd T) = (c.args.toList.map (opd T)).toArray := by rw [← Array.toList_map, Array.toArray_toList]
  split at k
  ·rename_i f hcal
   split at k
   ·rename_i fn first cap hf
    cases k
    have h1 := ev_rel hT hf
    simp only [resolve, hcal, Sem.run_bind']
    generalize opd T f = C at h1
    cases h1 with
    | func hnf hfi hca =>
     refine ⟨rfl, _, rfl, ?_⟩
     rw [hargs]
     have := DR.call (e := e) hnf hca (hfi.append ha)
     simpa using this
   ·cases k
  ·cases k
theorem opPanic_sim (r : HR P w0 e h W) {n t T} (hT : TRel e n t T) {y : Operand} {x : ANext} (k : opPanic t h y = some x) :
  OpSim P w0 e h W ((do let a ← Instr.panic (opd T y); pure (Next.value a)).run P W) x := by
 have _ := r.size
 unfold opPanic at k
 split at k
 ·rename_i ty v hv
  cases k
  have h1 := ev_rel hT hv
  generalize opd T y = C at h1
  cases h1 with
  | iface hw =>
   refine ⟨rfl, _, ?_, .iface hw⟩
   simp [Instr.panic, Sem.run_bind', goPanic, Sem.run]
 ·cases k
theorem mapB_sim (r : HR P w0 e h W) {b : Nat} {es : List AMapE} {clock : Nat} (k : mapB h b = some (es, clock)) : ∃ B c ES, e b = some (B, c) ∧ W.heap[B]? = some (.map ES clock) ∧ MRs e es ES.toList := by
 unfold mapB at k
 split at k
 ·rename_i es' c' hg
  cases k
  obtain ⟨B, c, O, k1, k2, k3, k4⟩ := r.blk _ _ hg
  cases k4 with
  | map hm => exact ⟨B, c, _, k1, k3, hm⟩
 ·rename_i es' c' hg
  cases k
  obtain ⟨B, c, O, k1, k2, k3, k4⟩ := r.blk _ _ hg
  cases k4 with
  | romap hm => exact ⟨B, c, _, k1, k3, hm⟩
 ·cases k
theorem opRange_sim (r : HR P w0 e h W) {n t T} (hT : TRel e n t T) {ty : TypeId} {y : Operand} {x : ANext} (k : opRange P t h ty y = some x) :
  OpSim P w0 e h W ((do let a ← Instr.range ty (opd T y); pure (Next.value a)).run P W) x := by
 unfold opRange at k
 split at k
 ·rename_i kt et b hu hy
  split at k
  ·rename_i es clock hg
   have h1 := ev_rel hT hy
   generalize opd T y = C at h1
   cases h1 with
   | map hb =>
    obtain ⟨B, c, ES, k1, k3, hm⟩ := mapB_sim r hg
    rw [k1] at hb; cases hb
    obtain ⟨b', h', kn, rfl⟩ := ptrTo_some k
    have hb : BR P (e.ext h.next (W.heap.size, 0)) 0 (.iter b clock [] clock) (.mapIter (some _) clock #[] clock) := BR.iter (seen := []) ((Env.le_ext r.fresh).1 _ _ k1)
    obtain ⟨h1, h2, h3⟩ := r.new kn hb
    subst h1
    refine sim_val (V := .pointer (some ⟨W.heap.size, 0, none⟩)) ?_ h2 (.ptr (Env.ext_same _ _ _)) h3
    simp [Instr.range, Sem.run_bind', run_underlying hu, run_pure', getObj, newObj, Sem.run, k3, World.add]
  ·cases k
 ·cases k
theorem lastOf_back {l : List Nat} {x : Nat} (k : lastOf l = some x) : l.toArray.back? = some x := by
 have : l.getLast? = some x := by
  induction l with
  | nil => cases k
  | cons y l ih =>
   unfold lastOf at k
   split at k
   ·rename_i z hz
    cases k
    rw [List.getLast?_cons, ih hz]; rfl
   ·rename_i hz
    cases k
    cases l with
    | nil => rfl
    | cons z l =>
     exfalso
     unfold lastOf at hz
     split at hz <;> cases hz
 rw [← this]
 simp [Array.back?, List.getLast?_eq_getElem?]
theorem findBorn_sim {s : Nat} : ∀ {es : List AMapE} {ES : List MapEntry} {en : AMapE}, MRs e es ES → findBorn s es = some en → ∃ V, ES.find? (·.born == s) = some { key := en.key, val := V, born := en.born } ∧ VR e en.val V
 | _, _, _, .nil, k => by cases k
 | _, _, _, .cons (born := born) hv hs, k => by
  unfold findBorn at k
  dsimp only at k
  by_cases hb : born = s
  ·subst hb
   rw [Nat.beq_refl] at k
   cases k
   exact ⟨_, by simp [List.find?], hv⟩
  ·rw [show Nat.beq born s = false from by cases q : Nat.beq born s with | false => rfl | true => exact absurd (Nat.eq_of_beq_eq_true q) hb, cond_false] at k
   obtain ⟨V, q1, q2⟩ := findBorn_sim hs k
   refine ⟨V, ?_, q2⟩
   rw [List.find?_cons_of_neg (by simp [hb]), q1]
theorem opEntry_sim (r : HR P w0 e h W) {n t T} (hT : TRel e n t T) {y : Operand} {x : ANext} (k : opEntry t h y = some x) :
  OpSim P w0 e h W ((do let a ← Instr.entry (opd T y); pure (Next.value a)).run P W) x := by
 unfold opEntry at k
 split at k
 ·rename_i b hy
  have h1 := ev_rel hT hy
  generalize opd T y = C at h1
  cases h1 with
  | ptr hb =>
   split at k
   ·rename_i m since seen stepped hg
    obtain ⟨B, c, O, k1, k2, k3, k4⟩ := r.blk _ _ hg
    rw [k1] at hb; cases hb
    cases k4 with
    | iter hem =>
     rename_i M cM
     split at k
     ·rename_i es clock hgm
      obtain ⟨B2, c2, ES, j1, j3, hm⟩ := mapB_sim r hgm
      rw [j1] at hem; cases hem
      cases hcs : Nat.beq clock stepped with
      | false => rw [hcs] at k; cases k
      | true =>
       rw [hcs, cond_true] at k
       have hcs := Nat.eq_of_beq_eq_true hcs
       subst hcs
       unfold entryIn at k
       split at k
       ·rename_i s hl
        split at k
        ·rename_i en hf
         obtain ⟨V, f1, f2⟩ := findBorn_sim hm hf
         obtain ⟨v, hv, rfl⟩ := valO_some k
         unfold entryV at hv
         split at hv
         ·rename_i kv hkv
          cases hv
          refine sim_pure r (V := .tuple #[en.key, V]) ?_ (.tuple (.cons (absV_rel hkv) (.cons f2 .nil)))
          rw [Array.find?_toList] at f1
          simp [Instr.entry, Sem.run_bind', getObj, Sem.run, k3, j3, lastOf_back hl, run_pure', f1]
         ·cases hv
        ·cases k
       ·cases k
     ·cases k
   ·cases k
 ·cases k
theorem aOp_sim (r : HR P w0 e h W) {n t T} (hT : TRel e n t T) {o : Oper} {x : ANext} (k : aOp P t h o = some x) : OpSim P w0 e h W ((execOp (opd T) o).run P W) x := by
 obtain ⟨dst, op, type, pos, after, guard⟩ := o
 unfold aOp prep at k
 cases op with
 | move y => obtain ⟨v, hv, rfl⟩ := valO_some k; exact ⟨e, _, W, .inl rfl, Env.le_refl e, ev_rel hT hv, r⟩
 | assign y => obtain ⟨v, hv, rfl⟩ := valO_some k; exact ⟨e, _, W, .inl rfl, Env.le_refl e, ev_rel hT hv, r⟩
 | pick c a b => exact opPick_sim r hT k
 | alloc el => exact opAlloc_sim r k
 | box el y => exact opBox_sim r hT k
 | build ty parts => exact opBuild_sim r hT k
 | buildSlice ty len parts => exact opBuildSlice_sim r hT k
 | load ty a => exact opLoad_sim r hT k
 | store ty a y => exact opStore_sim r hT k
 | nilCheck y => exact opNilCheck_sim r hT rfl k
 | binOp op ty y z yt => exact opBin_sim r hT k
 | unOp op xt y => exact opUn_sim r hT k
 | convert src dst y => exact opConvert_sim r hT k
 | makeInterface ty y => exact opMakeInterface_sim r hT k
 | makeFunc fn first cap => exact opMakeFunc_sim r hT k
 | makeMap ty rs => cases rs with | none => exact opMakeMap_sim r k | some _ => cases k
 | makeSlice ty l c => exact opMakeSlice_sim r hT k
 | slice ty y lo hi mx =>
  cases mx with
  | none => exact opSlice_sim r hT k
  | some m => cases lo with
   | none => cases k
   | some l => cases hi with
    | none => cases k
    | some q => exact opSlice3_sim r hT k
 | fieldAddr s y f => exact opFieldAddr_sim r hT k
 | field s y f => exact opField_sim r hT k
 | indexAddr ty y i => exact opIndexAddr_sim r hT k
 | index ty y i => exact opIndex_sim r hT k
 | lookup ty y q ok => exact opLookup_sim r hT k
 | mapUpdate ty m q y => exact opMapUpdate_sim r hT k
 | typeAssert y xt as ok => exact opTypeAssert_sim r hT k
 | range ty y => exact opRange_sim r hT k
 | entry y => exact opEntry_sim r hT k
 | extract y i => exact opExtract_sim r hT k
 | call c =>
  change opCall P t h c type = some x at k
  unfold opCall at k
  split at k
  ·cases k
  ·rename_i args ha
   exact callWith_sim r hT (evs_rel hT ha) k
 | defer c => exact opDefer_sim r hT k
 | panic y => exact opPanic_sim r hT k
 | _ => cases k
end
end Go.AbsE

set_option linter.unusedSimpArgs false
namespace Go.AbsE
open Go
inductive IR (e : Env) : AItem → Item → Prop
 | code (c) : IR e (.code c) (.code c)
 | inBlock (id) : IR e (.inBlock id) (.inBlock id)
 | inLoop (b) : IR e (.inLoop b) (.inLoop b)
 | inScope (b) : IR e (.inScope b) (.inScope b)
 | inRegion {all i rest} (h : rest = all.toList.drop i) : IR e (.inRegion all i rest) (.inRegion all (List.range' i (all.size - i)))
 | inRangeFunc {l L c} (h : e l = some (L, c)) : IR e (.inRangeFunc l) (.inRangeFunc L)
 | endRangeFunc {l L c} (h : e l = some (L, c)) : IR e (.endRangeFunc l) (.endRangeFunc L)
 | beginRound : IR e .beginRound .beginRound
inductive IRs (e : Env) : List AItem → List Item → Prop
 | nil : IRs e [] []
 | cons {a v l m} (h : IR e a v) (hs : IRs e l m) : IRs e (a :: l) (v :: m)
theorem IR.mono {e e' : Env} (he : Env.le e e') {a v} (h : IR e a v) : IR e' a v := by
 cases h with
 | code c => exact .code c
 | inBlock id => exact .inBlock id
 | inLoop b => exact .inLoop b
 | inScope b => exact .inScope b
 | inRegion h => exact .inRegion h
 | inRangeFunc h => exact .inRangeFunc (he.1 _ _ h)
 | endRangeFunc h => exact .endRangeFunc (he.1 _ _ h)
 | beginRound => exact .beginRound
theorem IRs.mono {e e' : Env} (he : Env.le e e') {a v} (h : IRs e a v) : IRs e' a v := by
 induction h with
 | nil => exact .nil
 | cons h _ ih => exact .cons (h.mono he) ih
theorem IRs.append {e : Env} {a d a' d'} (h : IRs e a d) (k : IRs e a' d') : IRs e (a ++ a') (d ++ d') := by
 induction h with
 | nil => exact k
 | cons h _ ih => exact .cons h ih
def Frame.w (b : Frame) (T : Array Value) (k : List Item) : Frame := { b with tmps := T, todo := k }
section
variable {P : Program} {b : Frame} (hb : b.mode = .run) {T : Array Value} {k : List Item} {cs : List Frame} {W : World}
include hb
theorem st_skip : step P (lone (Frame.w b T (.code .skip :: k)) cs W) = .next (lone (Frame.w b T k) cs W) := step_lone_go (by simp [stepG, stepG.exec, Frame.w, hb])
theorem st_label {l : Nat} : step P (lone (Frame.w b T (.code (.label l) :: k)) cs W) = .next (lone (Frame.w b T k) cs W) := step_lone_go (by simp [stepG, stepG.exec, Frame.w, hb])
theorem st_inBlock {id : Nat} : step P (lone (Frame.w b T (.inBlock id :: k)) cs W) = .next (lone (Frame.w b T k) cs W) := step_lone_go (by simp [stepG, stepG.exec, Frame.w, hb])
theorem st_inScope {c : Code} : step P (lone (Frame.w b T (.inScope c :: k)) cs W) = .next (lone (Frame.w b T k) cs W) := step_lone_go (by simp [stepG, stepG.exec, Frame.w, hb])
theorem st_seq {x y : Code} : step P (lone (Frame.w b T (.code (.seq x y) :: k)) cs W) = .next (lone (Frame.w b T (.code x :: .code y :: k)) cs W) := step_lone_go (by simp [stepG, stepG.exec, Frame.w, hb])
theorem st_block {id : Nat} {c : Code} : step P (lone (Frame.w b T (.code (.block id c) :: k)) cs W) = .next (lone (Frame.w b T (.code c :: .inBlock id :: k)) cs W) := step_lone_go (by simp [stepG, stepG.exec, Frame.w, hb])
theorem st_loop {c : Code} : step P (lone (Frame.w b T (.code (.loop c) :: k)) cs W) = .next (lone (Frame.w b T (.code c :: .inLoop c :: k)) cs W) := step_lone_go (by simp [stepG, stepG.exec, Frame.w, hb])
theorem st_inLoop {c : Code} : step P (lone (Frame.w b T (.inLoop c :: k)) cs W) = .next (lone (Frame.w b T (.code c :: .inLoop c :: k)) cs W) := step_lone_go (by simp [stepG, stepG.exec, Frame.w, hb])
theorem st_scope {c : Code} : step P (lone (Frame.w b T (.code (.scope c) :: k)) cs W) = .next (lone (Frame.w b T (.code c :: .inScope c :: k)) cs W) := step_lone_go (by simp [stepG, stepG.exec, Frame.w, hb])
theorem st_region {id : Nat} {ops : Array Oper} : step P (lone (Frame.w b T (.code (.region id ops false) :: k)) cs W) = .next (lone (Frame.w b T (.inRegion ops (List.range ops.size) :: k)) cs W) := step_lone_go (by simp [stepG, stepG.exec, Frame.w, hb])
theorem st_region_end {ops : Array Oper} : step P (lone (Frame.w b T (.inRegion ops [] :: k)) cs W) = .next (lone (Frame.w b T k) cs W) := step_lone_go (by simp [stepG, stepG.exec, Frame.w, hb])
theorem st_cond {c : Operand} {x y : Code} {t : Bool} (h : opd T c = .bool t) : step P (lone (Frame.w b T (.code (.cond c x y) :: k)) cs W) = .next (lone (Frame.w b T (.code (if t then x else y) :: k)) cs W) :=
 step_lone_go (by
  have he : (Frame.w b T (.code (.cond c x y) :: k)).eval c = .bool t := by rw [eval_opd]; exact h
  simp only [Frame.w, hb] at he
  simp [stepG, stepG.exec, Frame.w, hb, he])
theorem st_exit {id : Nat} {k' : List Item} (h : exitTo id k = some k') : step P (lone (Frame.w b T (.code (.exit id) :: k)) cs W) = .next (lone (Frame.w b T k') cs W) := step_lone_go (by simp [stepG, stepG.exec, Frame.w, hb, h])
theorem finish_w {ops : Array Oper} {i : Nat} {rest : List Nat} {v : Value} :
  (Frame.w b T (.inRegion ops (i :: rest) :: k)).finish v = Frame.w b (match (ops[i]?).bind (·.dst) with | some d => T.setIfInBounds d v | none => T) (.inRegion ops rest :: k) := by
 have _ := hb
 simp only [Frame.finish, Frame.w]
 cases (ops[i]?).bind (·.dst) <;> rfl
theorem st_op_skip {ops : Array Oper} {i : Nat} {rest : List Nat} {o : Oper} (ho : ops[i]? = some o) (hw : Region.wanted o (yielded ops T) = false) :
  step P (lone (Frame.w b T (.inRegion ops (i :: rest) :: k)) cs W) =
   .next (lone (Frame.w b (match o.dst with | some d => T.setIfInBounds d undef | none => T) (.inRegion ops rest :: k)) cs W) := by
 have hf := finish_w (b := b) hb (T := T) (k := k) (ops := ops) (i := i) (rest := rest) (v := undef)
 rw [ho] at hf
 simp only [Option.bind_some] at hf
 rw [← hf]
 refine step_lone_go ?_
 have h1 : (Frame.w b T (.inRegion ops (i :: rest) :: k)).mode = .run := hb
 simp [stepG, stepG.exec, Frame.w, hb, ho, hw]
theorem stG_op {ops : Array Oper} {i : Nat} {rest : List Nat} {o : Oper} (ho : ops[i]? = some o) (hw : Region.wanted o (yielded ops T) = true) (hd : b.roundOf = none ∨ ∀ c, o.op ≠ .defer c) :
  stepG P true { frame := Frame.w b T (.inRegion ops (i :: rest) :: k), callers := cs, status := .running, dying := none } W =
   stepG.apply P true (Frame.w b T (.inRegion ops (i :: rest) :: k)) cs none (execOp (opd T) o) W := by
 have he : (Frame.w b T (.inRegion ops (i :: rest) :: k)).eval = opd T := eval_opd _
 simp only [Frame.w, hb] at he
 have hr : (match b.roundOf, o.op with
   | some l, .defer c => stepG.apply P true (Frame.w b T (.inRegion ops (i :: rest) :: k)) cs none (do Instr.deferInRound l (← resolve (opd T) c o.type); pure .skip) W
   | _, _ => stepG.apply P true (Frame.w b T (.inRegion ops (i :: rest) :: k)) cs none (execOp (opd T) o) W) =
   stepG.apply P true (Frame.w b T (.inRegion ops (i :: rest) :: k)) cs none (execOp (opd T) o) W := by
  rcases hd with hd | hd
  ·rw [hd]
  ·cases hq : b.roundOf with
   | none => rfl
   | some l =>
    cases ho2 : o.op <;> first | rfl | exact absurd ho2 (hd _)
 rw [← hr]
 simp only [Frame.w]
 simp [stepG, stepG.exec, stepG.oper, Frame.oper?, hb, ho, hw, he]
 rfl
theorem st_value {ops : Array Oper} {i : Nat} {rest : List Nat} {o : Oper} (ho : ops[i]? = some o) (hw : Region.wanted o (yielded ops T) = true) {V : Value} {W' : World}
  (hr : (execOp (opd T) o).run P W = .ok (.value V) W' ∨ ((execOp (opd T) o).run P W = .ok .skip W' ∧ V = undef)) :
  step P (lone (Frame.w b T (.inRegion ops (i :: rest) :: k)) cs W) =
   .next (lone (Frame.w b (match o.dst with | some d => T.setIfInBounds d V | none => T) (.inRegion ops rest :: k)) cs W') := by
 have hf := finish_w (b := b) hb (T := T) (k := k) (ops := ops) (i := i) (rest := rest) (v := V)
 rw [ho] at hf
 simp only [Option.bind_some] at hf
 rw [← hf]
 refine step_lone_go ?_
 have hnd : ∀ c, o.op ≠ .defer c := by
  intro c hc
  have : (execOp (opd T) o) = (do pure (Next.defer (← resolve (opd T) c o.type)) : Sem Next) := by simp [execOp, hc]
  rw [this, Sem.run_bind'] at hr
  split at hr
  ·rcases hr with hr | ⟨hr, _⟩ <;> · injection hr with h1 _; cases h1
  ·rcases hr with hr | ⟨hr, _⟩ <;> cases hr
 rw [stG_op hb ho hw (.inr hnd)]
 rcases hr with hr | ⟨hr, rfl⟩ <;> simp [stepG.apply, hr]
end
end Go.AbsE

set_option linter.unusedSimpArgs false
namespace Go.AbsE
open Go
section
variable {P : Program} {t t' : Tr AVal} {h : AH}
theorem evs_congr : ∀ {l : List Operand}, (∀ x ∈ l, ev t x = ev t' x) → evs t l = evs t' l := by
 intro l
 induction l with
 | nil => intro _; rfl
 | cons x l ih =>
  intro hx
  have h1 := hx x (by simp)
  have h2 := ih (fun y hy => hx y (by simp [hy]))
  unfold evs at h2 ⊢
  simp only [mapO, h1, h2]
theorem evParts_congr : ∀ {l : List (Nat × Operand)}, (∀ x ∈ l.map (·.2), ev t x = ev t' x) → evParts t l = evParts t' l := by
 intro l
 induction l with
 | nil => intro _; rfl
 | cons x l ih =>
  intro hx
  obtain ⟨i, y⟩ := x
  have h1 := hx y (by simp)
  have h2 := ih (fun z hz => hx z (by simp only [List.map_cons, List.mem_cons]; exact .inr hz))
  simp only [evParts, h1, h2]
theorem evO_congr {x : Option Operand} (hx : ∀ y, x = some y → ev t y = ev t' y) : evO t x = evO t' x := by
 cases x with
 | none => rfl
 | some y => simp only [evO, hx y rfl]
theorem aOp_congr {o : Oper} (hx : ∀ x ∈ o.op.operands.toList, ev t x = ev t' x) : aOp P t h o = aOp P t' h o := by
 obtain ⟨dst, op, type, pos, after, guard⟩ := o
 dsimp only at hx
 unfold aOp prep
 cases op with
 | move y => have := hx y (by simp [Op.operands]); simp only [this]
 | assign y => have := hx y (by simp [Op.operands]); simp only [this]
 | pick c a b =>
  have h1 := hx c (by simp [Op.operands]); have h2 := hx a (by simp [Op.operands]); have h3 := hx b (by simp [Op.operands])
  simp only [opPick, h1, h2, h3]
 | alloc el => rfl
 | box el y => have := hx y (by simp [Op.operands]); simp only [opBox, this]
 | build ty parts =>
  have := evParts_congr (t := t) (t' := t') (l := parts.toList) (fun x q => hx x (by simpa [Op.operands] using q))
  simp only [opBuild, this]
 | buildSlice ty len parts =>
  have := evParts_congr (t := t) (t' := t') (l := parts.toList) (fun x q => hx x (by simpa [Op.operands] using q))
  simp only [opBuildSlice, this]
 | load ty a => have := hx a (by simp [Op.operands]); simp only [opLoad, this]
 | store ty a y => have h1 := hx a (by simp [Op.operands]); have h2 := hx y (by simp [Op.operands]); simp only [opStore, h1, h2]
 | nilCheck y => have := hx y (by simp [Op.operands]); simp only [opNilCheck, this]
 | binOp op ty y z yt => have h1 := hx y (by simp [Op.operands]); have h2 := hx z (by simp [Op.operands]); simp only [opBin, h1, h2]
 | unOp op xt y => have := hx y (by simp [Op.operands]); simp only [opUn, this]
 | convert src dst y => have := hx y (by simp [Op.operands]); simp only [opConvert, this]
 | makeInterface ty y => have := hx y (by simp [Op.operands]); simp only [opMakeInterface, this]
 | makeFunc fn first cap =>
  have h1 := evs_congr (t := t) (t' := t') (l := first.toList) (fun x q => hx x (by simp [Op.operands]; exact .inl (by simpa using q)))
  have h2 := evs_congr (t := t) (t' := t') (l := cap.toList) (fun x q => hx x (by simp [Op.operands]; exact .inr (by simpa using q)))
  simp only [opMakeFunc, h1, h2]
 | makeMap ty rs => cases rs <;> rfl
 | makeSlice ty l c => have h1 := hx l (by simp [Op.operands]); have h2 := hx c (by simp [Op.operands]); simp only [opMakeSlice, h1, h2]
 | slice ty y lo hi mx =>
  cases mx with
  | some m => cases lo with
   | none => rfl
   | some l => cases hi with
    | none => rfl
    | some q =>
     have h1 := hx y (by simp [Op.operands])
     have h2 := hx l (by simp [Op.operands])
     have h3 := hx q (by simp [Op.operands])
     have h4 := hx m (by simp [Op.operands])
     simp only [opSlice3, h1, h2, h3, h4]
  | none =>
   have h1 := hx y (by simp [Op.operands])
   have h2 := evO_congr (t := t) (t' := t') (x := lo) (fun z q => hx z (by subst q; simp [Op.operands]))
   have h3 := evO_congr (t := t) (t' := t') (x := hi) (fun z q => hx z (by subst q; simp [Op.operands]))
   simp only [opSlice, h1, h2, h3]
 | fieldAddr s y f => have := hx y (by simp [Op.operands]); simp only [opFieldAddr, this]
 | field s y f => have := hx y (by simp [Op.operands]); simp only [opField, this]
 | indexAddr ty y i => have h1 := hx y (by simp [Op.operands]); have h2 := hx i (by simp [Op.operands]); simp only [opIndexAddr, h1, h2]
 | index ty y i => have h1 := hx y (by simp [Op.operands]); have h2 := hx i (by simp [Op.operands]); simp only [opIndex, h1, h2]
 | lookup ty y q ok => have h1 := hx y (by simp [Op.operands]); have h2 := hx q (by simp [Op.operands]); simp only [opLookup, h1, h2]
 | mapUpdate ty m q y =>
  have h1 := hx m (by simp [Op.operands]); have h2 := hx q (by simp [Op.operands]); have h3 := hx y (by simp [Op.operands])
  simp only [opMapUpdate, h1, h2, h3]
 | typeAssert y xt as ok => have := hx y (by simp [Op.operands]); simp only [opTypeAssert, this]
 | range ty y => have := hx y (by simp [Op.operands]); simp only [opRange, this]
 | entry y => have := hx y (by simp [Op.operands]); simp only [opEntry, this]
 | extract y i => have := hx y (by simp [Op.operands]); simp only [opExtract, this]
 | panic y => have := hx y (by simp [Op.operands]); simp only [opPanic, this]
 | call c =>
  have h1 := evs_congr (t := t) (t' := t') (l := c.args.toList) (fun x q => hx x (by simp [Op.operands, Call.operands]; exact .inr (by simpa using q)))
  have h2 : ∀ args, callWith P t h c.callee c.argTypes (c.args.map fun | .const _ => true | _ => false) type args = callWith P t' h c.callee c.argTypes (c.args.map fun | .const _ => true | _ => false) type args := by
   intro args
   unfold callWith
   cases hc : c.callee with
   | builtin b => rfl
   | invoke r name => have := hx r (by simp [Op.operands, Call.operands, hc]); simp only [this]
   | value f => have := hx f (by simp [Op.operands, Call.operands, hc]); simp only [this]
  simp only [opCall, h1]
  cases evs t' c.args.toList with
  | none => rfl
  | some args => exact h2 args
 | defer c =>
  have h1 := evs_congr (t := t) (t' := t') (l := c.args.toList) (fun x q => hx x (by simp [Op.operands, Call.operands]; exact .inr (by simpa using q)))
  simp only [opDefer, h1]
  cases hc : c.callee with
  | builtin b => rfl
  | invoke r name => rfl
  | value f => have := hx f (by simp [Op.operands, Call.operands, hc]); simp only [this]
 | _ => rfl
end
end Go.AbsE
