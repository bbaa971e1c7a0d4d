import Derived.Test.YtidfcmjlfadieaaV
set_option linter.unusedSimpArgs false
namespace Go.AbsE
open Go

section
variable {P : Program} {w0 : Base} {e : Env} {h : AH} {W : World}

/-! ### the end of a function, and of a round -/
inductive Leaves0 : Option Code → List Item → Prop
  | done : Leaves0 none []
  | ret (J) : Leaves0 (some .ret) (.code .ret :: J)
  | exit {id J} (h : exitTo id J = none) : Leaves0 (some (.exit id)) (.code (.exit id) :: J)

theorem st_leave_plain {b : Frame} (hb : b.mode = .run) (hr : b.roundOf = none) {T : Array Value} {J : List Item} {cs : List Frame} {jump : Option Code} (hl : Leaves0 jump J) (hj : jump = none ∨ jump = some .ret) :
    step P (lone (Frame.w b T J) cs W) = .next (lone { Frame.w b T J with mode := .returning } cs W) := by
  refine step_lone_go ?_
  cases hl with
  | done => simp [stepG, stepG.exec, Frame.w, hb, hr]
  | ret J => simp [stepG, stepG.exec, Frame.w, hb, hr]
  | exit h => rcases hj with hj | hj <;> cases hj

theorem st_leave_round {b : Frame} (hb : b.mode = .run) {L : Nat} (hr : b.roundOf = some L) (hk : b.kind = .normal) {T : Array Value} {J : List Item} {C : Frame} {cs : List Frame} {jump : Option Code} (hl : Leaves0 jump J)
    {V : Value} {W' : World} (he : (Instr.endRound L jump).run P W = .ok V W') :
    step P (lone (Frame.w b T J) (C :: cs) W) = .next (lone (C.finish V) cs W') := by
  refine step_lone_go ?_
  cases hl with
  | done => simp [stepG, stepG.exec, Frame.w, hb, hr, he, doReturn, hk]
  | ret J => simp [stepG, stepG.exec, Frame.w, hb, hr, he, doReturn, hk]
  | exit h => simp [stepG, stepG.exec, Frame.w, hb, hr, he, doReturn, hk, h]

theorem endRound_run {L : Nat} {r : Loop} (hk : W.heap[L]? = some (.loop r)) (jump : Option Code) :
    (Instr.endRound L jump).run P W = .ok (.bool jump.isNone) (World.upd W L (.loop { r with state := if jump.isNone then .ready else .done, pending := jump })) := by
  simp only [Instr.endRound, Sem.run_bind', run_getLoop hk, run_setObj hk noCells_loop, run_pure']

theorem endRoundA_sim (r : HR P w0 e h W) {b : Frame} (hb : b.mode = .run) {dk : Bool} {l : Nat} {L c : Nat} (hl : e l = some (L, c)) (hr : b.roundOf = some L) (hkd : b.kind = if dk then .deferred else .normal)
    {T : Array Value} {J : List Item} {jump : Option Code} (hlv : Leaves0 jump J) {rest : List AFr} {Fr : List Frame} (hFr : FRs P e rest Fr) {m : AM} {st : LoopState} {go : Bool}
    (hst : st = if jump.isNone then .ready else .done) (hgo : go = jump.isNone) (k : endRoundA dk rest h l st jump go = some m) (cs : List Frame) : SS P w0 cs (lone (Frame.w b T J) (Fr ++ cs) W) m := by
  unfold endRoundA at k
  split at k
  · rename_i lp hlp
    split at k
    · rename_i h' hset
      cases dk with
      | true => cases k
      | false =>
        obtain ⟨g1, L', c', TT, D, cD, g2, g3, g4, g5, g6⟩ := getLoop_blk r hlp
        rw [hl] at g2; cases g2
        have hend := endRound_run (P := P) g6 jump
        have r' : HR P w0 e h' (World.upd W L (.loop { state := if jump.isNone then .ready else .done, pending := jump, fn := lp.fn, tmps := TT, params := lp.params.toArray, assign := lp.assign, body := lp.body, defers := D })) := by
          refine r.set g1 rfl hl hset ?_
          rw [hst]
          exact .loop g4 g5
        subst hgo
        refine aReturn_sim r' hFr (.bool _) k (fun _ C Cs hC => ?_) (fun q => by cases q)
        subst hC
        exact .one (st_leave_round hb hr hkd hlv hend)
    · cases k
  · cases k

theorem aLeave_sim (r : HR P w0 e h W) {b : Frame} (hb : b.mode = .run) {fn n : Nat} {t : Tr AVal} {todo : List AItem} {ds : List ADef} {dk : Bool} {round : Option Nat} (hfn : b.fn = fn) (hknown : ∃ f, P.funcs[fn]? = some f)
    {T : Array Value} (hT : TRel e n t T) (hds : DRs e ds b.defers) (hkd : b.kind = if dk then .deferred else .normal) (hrd : RdR e round b.roundOf)
    {J : List Item} {jump : Option Code} (hlv : Leaves0 jump J) {rest : List AFr} {Fr : List Frame} (hFr : FRs P e rest Fr) {m : AM}
    (k : aLeave ⟨fn, n, t, todo, ds, .run, dk, round⟩ rest h jump = some m) (cs : List Frame) : SS P w0 cs (lone (Frame.w b T J) (Fr ++ cs) W) m := by
  unfold aLeave at k
  simp only [] at k
  generalize hrb : b.roundOf = RO at hrd
  cases hrd with
  | none =>
    have plain : (jump = none ∨ jump = some .ret) → m = ⟨⟨fn, n, t, todo, ds, .returning, dk, none⟩ :: rest, h⟩ → SS P w0 cs (lone (Frame.w b T J) (Fr ++ cs) W) m := by
      rintro hj rfl
      refine ⟨e, _, Fr, W, .one (st_leave_plain hb hrb hlv hj), .cons ?_ hFr, r⟩
      exact { fn := hfn, known := hknown, tm := hT, todo := (fun q => by cases q), nocall := (by cases hlv <;> trivial), defers := hds, mode := .returning, kind := hkd, round := by show RdR e none b.roundOf; rw [hrb]; exact .none }
    cases hlv with
    | done => exact plain (.inl rfl) (by cases k; rfl)
    | ret J => exact plain (.inr rfl) (by cases k; rfl)
    | exit h => cases k
  | some hl =>
    cases hlv with
    | done => exact endRoundA_sim r hb hl hrb hkd .done hFr rfl rfl k cs
    | ret J => exact endRoundA_sim r hb hl hrb hkd (.ret J) hFr rfl rfl k cs
    | exit hx => exact endRoundA_sim r hb hl hrb hkd (.exit hx) hFr rfl rfl k cs

/-! ### ranges over a function -/
theorem doBegin_sim (r : HR P w0 e h W) {fr : AFr} {F : Frame} (hF : FR P e fr F) (hrun : fr.mode = .run) {k : List AItem} (ht : fr.todo = .beginRound :: k) {rest : List AFr} {Fr : List Frame} (hFr : FRs P e rest Fr) {m : AM}
    (q : doBegin fr rest h k = some m) (cs : List Frame) : SS P w0 cs (lone F (Fr ++ cs) W) m := by
  obtain ⟨fn, n, tmps, todo, defers, mode, dk, round⟩ := fr
  dsimp only at ht hrun
  subst ht
  subst hrun
  have htodo := (hF.todo rfl).irs (fun _ _ _ _ _ q => by cases q) (fun _ _ _ _ _ q => by cases q)
  have hmode := hF.mode
  have hround := hF.round
  obtain ⟨f0, T0, todo0, d0, m0, k0, r0⟩ := F
  dsimp only at htodo hmode hround
  cases hmode
  cases htodo with
  | cons h1 h2 =>
    cases h1
    rename_i K
    unfold doBegin at q
    simp only [] at q
    cases hround with
    | none => cases q
    | some hl =>
      rename_i l L c
      simp only [] at q
      split at q
      · rename_i lp hlp
        split at q
        · rename_i hst
          split at q
          · rename_i h' hset
            cases q
            obtain ⟨g1, L', c', TT, D, cD, g2, g3, g4, g5, g6⟩ := getLoop_blk r hlp
            rw [hl] at g2; cases g2
            have hbegin : (Instr.beginRound L).run P W = .ok () (World.upd W L (.loop { state := .busy, pending := lp.pending, fn := lp.fn, tmps := TT, params := lp.params.toArray, assign := lp.assign, body := lp.body, defers := D })) := by
              simp only [Instr.beginRound, Sem.run_bind', run_getLoop g6, run_setObj g6 noCells_loop, hst, run_pure']
            have hs : step P (lone { fn := f0, tmps := T0, todo := .beginRound :: K, defers := d0, mode := .run, kind := k0, roundOf := some L } (Fr ++ cs) W) =
                .next (lone { fn := f0, tmps := T0, todo := K, defers := d0, mode := .run, kind := k0, roundOf := some L } (Fr ++ cs) (World.upd W L (.loop { state := .busy, pending := lp.pending, fn := lp.fn, tmps := TT, params := lp.params.toArray, assign := lp.assign, body := lp.body, defers := D }))) := by
              refine step_lone_go ?_
              simp [stepG, stepG.exec, stepG.apply, Sem.run_bind', hbegin, run_pure', Frame.finish]
            refine ⟨e, _, Fr, _, .one hs, .cons ?_ hFr, r.set g1 rfl hl hset (.loop g4 g5)⟩
            exact { fn := hF.fn, known := hF.known, tm := hF.tm, todo := fun _ => .plain h2, nocall := h2.noCall, defers := hF.defers, mode := .run, kind := hF.kind, round := .some hl }
          · cases q
        · cases q
      · cases q

theorem doEndLoop_sim (r : HR P w0 e h W) {fr : AFr} {F : Frame} (hF : FR P e fr F) (hrun : fr.mode = .run) {l : Nat} {k : List AItem} (ht : fr.todo = .endRangeFunc l :: k) {rest : List AFr} {Fr : List Frame} (hFr : FRs P e rest Fr) {m : AM}
    (q : doEndLoop fr rest h l k = some m) (cs : List Frame) : SS P w0 cs (lone F (Fr ++ cs) W) m := by
  obtain ⟨fn, n, tmps, todo, defers, mode, dk, round⟩ := fr
  dsimp only at ht hrun
  subst ht
  subst hrun
  have htodo := (hF.todo rfl).irs (fun _ _ _ _ _ q => by cases q) (fun _ _ _ _ _ q => by cases q)
  have hmode := hF.mode
  obtain ⟨f0, T0, todo0, d0, m0, k0, r0⟩ := F
  dsimp only at htodo hmode
  cases hmode
  cases htodo with
  | cons h1 h2 =>
    cases h1 with
    | endRangeFunc hl =>
      rename_i K L c
      unfold doEndLoop at q
      simp only [] at q
      split at q
      · rename_i lp hlp
        split at q
        · cases q
        · rename_i hnb
          split at q
          · rename_i h' hset
            cases q
            obtain ⟨g1, L', c', TT, D, cD, g2, g3, g4, g5, g6⟩ := getLoop_blk r hlp
            rw [hl] at g2; cases g2
            have hne : ¬ ((lp.state == .busy) = true) := by
              intro hq
              have := eq_of_beq hq
              exact hnb this
            have hend : (Instr.endLoop L).run P W = .ok lp.pending (World.upd W L (.loop { state := .exhausted, pending := lp.pending, fn := lp.fn, tmps := TT, params := lp.params.toArray, assign := lp.assign, body := lp.body, defers := D })) := by
              simp only [Instr.endLoop, Sem.run_bind', run_getLoop g6, if_neg hne, run_setObj g6 noCells_loop, run_pure']
            have hs : step P (lone { fn := f0, tmps := T0, todo := .endRangeFunc L :: K, defers := d0, mode := .run, kind := k0, roundOf := r0 } (Fr ++ cs) W) =
                .next (lone { fn := f0, tmps := T0, todo := (lp.pending.map Item.code).toList ++ K, defers := d0, mode := .run, kind := k0, roundOf := r0 } (Fr ++ cs) (World.upd W L (.loop { state := .exhausted, pending := lp.pending, fn := lp.fn, tmps := TT, params := lp.params.toArray, assign := lp.assign, body := lp.body, defers := D }))) := by
              refine step_lone_go ?_
              simp [stepG, stepG.exec, hend]
            refine ⟨e, _, Fr, _, .one hs, .cons ?_ hFr, r.set g1 rfl hl hset (.loop g4 g5)⟩
            have htd : IRs e (match lp.pending with | some c => AItem.code c :: k | none => k) ((lp.pending.map Item.code).toList ++ K) := by
              cases lp.pending with
              | none => exact h2
              | some c => exact .cons (.code c) h2
            exact { fn := hF.fn, known := hF.known, tm := hF.tm, todo := fun _ => .plain htd, nocall := htd.noCall, defers := hF.defers, mode := .run, kind := hF.kind, round := hF.round }
          · cases q
      · cases q
end
end Go.AbsE
