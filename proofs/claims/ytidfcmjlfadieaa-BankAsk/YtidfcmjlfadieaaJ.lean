import Derived.Test.YtidfcmjlfadieaaI
set_option linter.unusedSimpArgs false
namespace Go.AbsE
open Go

section
variable {P : Program} {w0 : Base} {e : Env} {h : AH} {W : World}

/-! ### s[a:b] -/
inductive OR (e : Env) : Option AVal → Option Value → Prop
  | none : OR e none none
  | some {a v} (h : VR e a v) : OR e (some a) (some v)

theorem evO_rel {n t T} (hT : TRel e n t T) {x : Option Operand} {a : Option AVal} (k : evO t x = some a) : OR e a (x.map (opd T)) := by
  cases x with
  | none => simp [evO] at k; subst k; exact .none
  | some y =>
    simp only [evO] at k
    split at k
    · rename_i v hv; cases k; exact .some (ev_rel hT hv)
    · cases k

theorem aInt_rel {a : AVal} {m : Nat} (k : aInt a = some m) {V : Value} (hv : VR e a V) : ∃ kk, V = .int kk (m : Int) := by
  unfold aInt at k
  split at k
  · cases k; cases hv; exact ⟨_, rfl⟩
  · cases k

theorem sliceBound_run {a : AVal} {V : Value} (hv : VR e a V) {q top : Nat} (k : aInt a = some q) (hq : q ≤ top) (code : BoundsCode) : (Instr.sliceBound V top code).run P W = .ok q W := by
  obtain ⟨kk, rfl⟩ := aInt_rel k hv
  simp [Instr.sliceBound, asIntOf, Sem.run_bind', run_pure', hq]

theorem cut_run {lo hi : Option AVal} {LO HI : Option Value} (hlo : OR e lo LO) (hhi : OR e hi HI) {len cap CAP l hh : Nat} (hlc : len ≤ cap) (hcC : cap ≤ CAP)
    (k : cut len cap lo hi = some (l, hh)) (isSlice : Bool) :
    (Instr.sliceBounds isSlice len CAP LO HI none).run P W = .ok (l, hh, CAP) W ∧ l ≤ hh ∧ hh ≤ cap := by
  unfold cut at k
  split at k
  · rename_i hh' hb
    split at k
    · rename_i l' hb2
      cases k
      have hhb : hh ≤ cap ∧ ((hi = none ∧ hh = len) ∨ ∃ v, hi = some v ∧ aInt v = some hh) := by
        unfold bound at hb
        split at hb
        · cases hb; exact ⟨hlc, .inl ⟨rfl, rfl⟩⟩
        · rename_i v
          split at hb
          · rename_i m hm
            cases hble : Nat.ble m cap with
            | false => rw [hble] at hb; cases hb
            | true => rw [hble] at hb; cases hb; exact ⟨Nat.le_of_ble_eq_true hble, .inr ⟨v, rfl, hm⟩⟩
          · cases hb
      have hlb : l ≤ hh ∧ ((lo = none ∧ l = 0) ∨ ∃ v, lo = some v ∧ aInt v = some l) := by
        unfold bound at hb2
        split at hb2
        · cases hb2; exact ⟨Nat.zero_le _, .inl ⟨rfl, rfl⟩⟩
        · rename_i v
          split at hb2
          · rename_i m hm
            cases hble : Nat.ble m hh with
            | false => rw [hble] at hb2; cases hb2
            | true => rw [hble] at hb2; cases hb2; exact ⟨Nat.le_of_ble_eq_true hble, .inr ⟨v, rfl, hm⟩⟩
          · cases hb2
      refine ⟨?_, hlb.1, hhb.1⟩
      obtain ⟨hh1, hh2⟩ := hhb
      obtain ⟨hl1, hl2⟩ := hlb
      rcases hh2 with ⟨rfl, rfl⟩ | ⟨v, rfl, hv⟩ <;> rcases hl2 with ⟨rfl, rfl⟩ | ⟨u, rfl, hu⟩
      · cases hlo; cases hhi; simp [Instr.sliceBounds, Sem.run_bind', run_pure']
      · cases hhi
        cases hlo with
        | some hx => simp [Instr.sliceBounds, Sem.run_bind', run_pure', sliceBound_run hx hu hl1]
      · cases hlo
        cases hhi with
        | some hx => simp [Instr.sliceBounds, Sem.run_bind', run_pure', sliceBound_run hx hv (Nat.le_trans hh1 hcC)]
      · cases hlo with
        | some hy =>
          cases hhi with
          | some hx => simp [Instr.sliceBounds, Sem.run_bind', run_pure', sliceBound_run hx hv (Nat.le_trans hh1 hcC), sliceBound_run hy hu hl1]
    · cases k
  · cases k

theorem opSlice_sim (r : HR P w0 e h W) {n t T} (hT : TRel e n t T) {ty : TypeId} {y : Operand} {lo hi : Option Operand} {x : ANext} (k : opSlice P t h ty y lo hi = some x) :
    OpSim P w0 e h W ((do let a ← Instr.sliceAt ty (opd T y) (lo.map (opd T)) (hi.map (opd T)) none; pure (Next.value a)).run P W) x := by
  unfold opSlice at k
  split at k
  · rename_i v lo' hi' hv hlo hhi
    have h1 := ev_rel hT hv
    have h2 := evO_rel hT hlo
    have h3 := evO_rel hT hhi
    split at k
    · rename_i elem hu
      split at k
      · rename_i size hsz
        unfold sliceOf at k
        split at k
        · rename_i b off len cap
          generalize opd T y = C at h1
          cases h1 with
          | slice hb =>
            rename_i B c
            split at k
            · rename_i l hh hc
              cases hle : Nat.ble len cap with
              | false => rw [hle] at k; cases k
              | true =>
              cases hbq : Nat.beq l cap with
              | true =>
                rw [hle, hbq] at k
                cases k
                have heq := Nat.eq_of_beq_eq_true hbq
                have hlc := Nat.le_of_ble_eq_true hle
                obtain ⟨q1, q2, q3⟩ := cut_run (P := P) (W := W) h2 h3 hlc (Nat.le_refl cap) hc true
                refine sim_pure r ?_ (.slice hb)
                simp [Instr.sliceAt, Instr.slice, Sem.run_bind', run_underlying hu, run_sizeOf hsz, q1, run_pure', heq]
              | false =>
                rw [hle, hbq] at k
                cases k
                have hne : cap ≠ l := fun he => by subst he; simp at hbq
                have hlc := Nat.le_of_ble_eq_true hle
                · obtain ⟨q1, q2, q3⟩ := cut_run (P := P) (W := W) h2 h3 hlc (Nat.le_refl cap) hc true
                  refine sim_pure r ?_ (.slice hb)
                  simp [Instr.sliceAt, Instr.slice, Sem.run_bind', run_underlying hu, run_sizeOf hsz, q1, run_pure', hne, addr_add]
            · cases k
        · rename_i b off i len
          split at k
          · rename_i l hh cs el hc hg
            cases b1 : Nat.beq off (i * size) with
            | false => rw [b1] at k; cases k
            | true =>
            cases b2 : Nat.ble (off + len * size) cs.length with
            | false => rw [b1, b2] at k; cases k
            | true =>
            cases b3 : Nat.blt 0 size with
            | false => rw [b1, b2, b3] at k; cases k
            | true =>
            cases b4 : eqSize P el size with
            | false => rw [b1, b2, b3, b4] at k; cases k
            | true =>
            rw [b1, b2, b3, b4] at k
            simp only [cond_true] at k
            have p1 := Nat.eq_of_beq_eq_true b1
            have p2 := Nat.le_of_ble_eq_true b2
            have p3 := blt_true b3
            have p4 : sizeT P el = some size := by
              unfold eqSize at b4
              split at b4
              · rename_i m hm; rw [hm, Nat.eq_of_beq_eq_true b4]
              · cases b4
            obtain ⟨B, c, O, k1, k2, k3, k4⟩ := r.blk _ _ hg
            generalize opd T y = C at h1
            cases h1 with
            | gsl hb =>
              rw [k1] at hb; cases hb
              cases k4 with
              | cells hcs _ hcap =>
                rename_i CS junk
                obtain ⟨size', z1, z2⟩ := hcap rfl
                rw [p4] at z1; cases z1
                have hcl : i + len ≤ c := by
                  have g1 : (i + len) * size ≤ c * size := by
                    have := hcs.length
                    rw [← z2, Nat.add_mul]; simp; omega
                  exact Nat.le_of_mul_le_mul_right g1 p3
                obtain ⟨q1, q2, q3⟩ := cut_run (P := P) (W := W) (CAP := c - i) h2 h3 (Nat.le_refl len) (by omega) hc true
                cases b5 : Nat.beq l 0 with
                | true =>
                  rw [b5] at k
                  have p5 := Nat.eq_of_beq_eq_true b5
                  subst p5
                  cases k
                  refine sim_pure r ?_ (.gsl k1)
                  simp [Instr.sliceAt, Instr.slice, Sem.run_bind', run_underlying hu, run_sizeOf hsz, q1, run_pure', addr_add]
                | false =>
                  cases b6 : Nat.blt l len with
                  | false => rw [b5, b6] at k; cases k
                  | true =>
                    rw [b5, b6] at k
                    cases k
                    have p6 := blt_true b6
                    have hne : c - i ≠ l := by omega
                    have hsub : c - i - l = c - (i + l) := by omega
                    refine sim_pure r ?_ (.gsl k1)
                    simp [Instr.sliceAt, Instr.slice, Sem.run_bind', run_underlying hu, run_sizeOf hsz, q1, run_pure', hne, addr_add, hsub]
          · cases k
        · generalize opd T y = C at h1
          cases h1 with
          | nilslice =>
            split at k
            · rename_i lh hc
              obtain ⟨l, hh⟩ := lh
              cases k
              obtain ⟨q1, q2, q3⟩ := cut_run (P := P) (W := W) h2 h3 (Nat.le_refl 0) (Nat.le_refl 0) hc true
              have hh0 : hh = 0 := by omega
              have hl0 : l = 0 := by omega
              subst hh0
              subst hl0
              refine sim_pure r ?_ .nilslice
              simp [Instr.sliceAt, Instr.slice, Sem.run_bind', run_underlying hu, run_sizeOf hsz, q1, run_pure']
            · cases k
        · cases k
      · cases k
    · rename_i m elem hu
      split at k
      · rename_i size hsz
        unfold sliceOfArr at k
        split at k
        · rename_i b off
          generalize opd T y = C at h1
          cases h1 with
          | ptr hb =>
            split at k
            · rename_i l hh hc
              cases hbq : Nat.beq l m with
              | true =>
                rw [hbq] at k
                cases k
                have heq := Nat.eq_of_beq_eq_true hbq
                obtain ⟨q1, q2, q3⟩ := cut_run (P := P) (W := W) h2 h3 (Nat.le_refl m) (Nat.le_refl m) hc false
                refine sim_pure r ?_ (.slice hb)
                simp [Instr.sliceAt, Instr.sureAddr, Sem.run_bind', run_underlying hu, run_sizeOf hsz, q1, run_pure', heq]
              | false =>
                rw [hbq] at k
                cases k
                have hne : m ≠ l := fun he => by subst he; simp at hbq
                obtain ⟨q1, q2, q3⟩ := cut_run (P := P) (W := W) h2 h3 (Nat.le_refl m) (Nat.le_refl m) hc false
                refine sim_pure r ?_ (.slice hb)
                simp [Instr.sliceAt, Instr.sureAddr, Sem.run_bind', run_underlying hu, run_sizeOf hsz, q1, run_pure', hne, addr_add]
            · cases k
        · cases k
      · cases k
    · cases k
  · cases k
end
end Go.AbsE
