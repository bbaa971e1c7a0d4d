import Derived.Test.YtidfcmjlfadieaaU
set_option linter.unusedSimpArgs false
namespace Go.AbsE
open Go

section
variable {P : Program} {w0 : Base} {e : Env} {h : AH} {W : World}

theorem putArgs_rel {n : Nat} : ∀ {ps : List Tmp} {args : List AVal} {ARGS : List Value} {t t' : Tr AVal} {T : Array Value}, TRel e n t T → VRs e args ARGS → putArgs t n ps args = some t' →
    ps.length = ARGS.length ∧ TRel e n t' ((ps.zip ARGS).foldl (fun T x => T.setIfInBounds x.1 x.2) T) := by
  intro ps
  induction ps with
  | nil =>
    intro args ARGS t t' T hT ha k
    cases ha with
    | nil => simp [putArgs] at k; subst k; exact ⟨rfl, hT⟩
    | cons _ _ => simp [putArgs] at k
  | cons p ps ih =>
    intro args ARGS t t' T hT ha k
    cases ha with
    | nil => simp [putArgs] at k
    | cons h1 h2 =>
      simp only [putArgs] at k
      cases hb : Nat.blt p n with
      | false => rw [hb] at k; cases k
      | true =>
        rw [hb] at k
        obtain ⟨q1, q2⟩ := ih (hT.put (blt_true hb) h1) h2 k
        exact ⟨by simp [q1], q2⟩

theorem getLoop_blk (r : HR P w0 e h W) {l : Nat} {lp : ALoop} (k : aGetLoop h l = some lp) : h.get l = some (.loop lp) ∧
    ∃ L c T D cD, e l = some (L, c) ∧ ¬ w0.prot L ∧ TRel e lp.n lp.tmps T ∧ e lp.defers = some (D, cD) ∧
      W.heap[L]? = some (.loop { state := lp.state, pending := lp.pending, fn := lp.fn, tmps := T, params := lp.params.toArray, assign := lp.assign, body := lp.body, defers := D }) := by
  unfold aGetLoop at k
  split at k
  · rename_i r' hg
    cases k
    obtain ⟨B, c, O, k1, k2, k3, k4⟩ := r.blk _ _ hg
    cases k4 with
    | loop hT hd => exact ⟨hg, B, c, _, _, _, k1, k2 rfl, hT, hd, k3⟩
  · cases k

theorem noCells_loop {r : Loop} : ∀ c el fr, (Obj.loop r) ≠ .cells c el fr := by intros; intro q; cases q

theorem run_getLoop {L : Nat} {r : Loop} (hk : W.heap[L]? = some (.loop r)) : (Instr.getLoop L).run P W = .ok r W := by
  simp only [Instr.getLoop, Sem.run_bind', run_getObj hk noCells_loop, run_pure']

/-- All that was there is as it was. -/
def Still (W W' : World) : Prop :=
  W'.os = W.os ∧ W'.tape = W.tape ∧ W'.output = W.output ∧ W.heap.size ≤ W'.heap.size ∧ (∀ i, i < W.heap.size → W'.heap[i]? = W.heap[i]?) ∧ ∀ i O, W.heap.size ≤ i → W'.heap[i]? = some O → unfrozen O

/-- What is known of calls is so. -/
def JOk (P : Program) (J : Jump) : Prop := ∀ f args h v, J.run f args h = some v → ∀ (w0 : Base) (e : Env) (W : World) (ARGS : List Value), HR P w0 e h W → VRs e args ARGS →
  Calls P f ARGS.toArray W fun en W' => ∃ V, en = .returned V ∧ VR e v V ∧ Still W W'

theorem noJ_ok : JOk P noJ := fun _ _ _ _ q => by cases q

theorem HR.still (r : HR P w0 e h W) {W' : World} (s : Still W W') : HR P w0 e h W' := by
  obtain ⟨s1, s2, s3, s4, s5, s6⟩ := s
  refine ⟨r.dom, fun b o k => ?_, r.inj, fun B CS hi => ?_, s1.trans r.os, s2.trans r.tape, s3.trans r.output, Nat.le_trans r.size s4, fun i hi => ?_, fun i O hi hO => ?_⟩
  · obtain ⟨B, c, O, k1, k2, k3, k4⟩ := r.blk b o k
    exact ⟨B, c, O, k1, k2, by rw [s5 B (Array.getElem?_eq_some_iff.1 k3).1]; exact k3, k4⟩
  · obtain ⟨⟨el, i1⟩, i2⟩ := r.imm B CS hi
    exact ⟨⟨el, by rw [s5 B (Array.getElem?_eq_some_iff.1 i1).1]; exact i1⟩, i2⟩
  · rw [s5 i (Nat.lt_of_lt_of_le (w0.lt i hi) r.size)]; exact r.old i hi
  · by_cases hq : i < W.heap.size
    · rw [s5 i hq] at hO; exact r.young i O hi hO
    · exact s6 i O (by omega) hO

theorem HR.isStill {W0 : World} (r : HR P (Base.all W0) e h W) : Still W0 W := ⟨r.os, r.tape, r.output, r.size, r.old, r.young⟩

/-- The operation that waits is taken up. -/
theorem aNext_sim {J : Jump} (hJ : JOk P J) {fn n : Nat} {t : Tr AVal} {k : List AItem} {ds : List ADef} {dk : Bool} {round : Option Nat} {F : Frame} {rest : List AFr} {Fr : List Frame} {x : ANext}
    (hF : FR P e ⟨fn, n, t, k, ds, .run, dk, round⟩ F) (hFr : FRs P e rest Fr) (hw : Waits P w0 e F.todo F.tmps W x) {m : AM}
    (kn : aNext P J ⟨fn, n, t, k, ds, .run, dk, round⟩ rest x = some m) (cs : List Frame) : SS P w0 cs (lone F (Fr ++ cs) W) m := by
  obtain ⟨all, i, o, rs, K, hh, hK, hoi, hwr, hr, hsim, hnv⟩ := hw
  have htodo := hF.todo rfl
  have hmode : F.mode = .run := by have := hF.mode; generalize F.mode = M at this; cases this; rfl
  have hFw : F = Frame.w F F.tmps (.inRegion all (i :: rs) :: K) := by
    obtain ⟨f0, T0, todo0, d0, m0, k0, r0⟩ := F
    simp only [Frame.w] at *
    rw [hK]
  have hg := stG_op (P := P) (cs := Fr ++ cs) (W := W) hmode (T := F.tmps) (k := K) (rest := rs) hoi hwr
  rw [← hFw] at hg
  have hnd : ∀ y, (execOp (opd F.tmps) o).run P W = y → (∀ D W', y ≠ .ok (.defer D) W') → (∀ hl W', y ≠ .halt hl W') → F.roundOf = none ∨ ∀ c, o.op ≠ .defer c := by
    intro y hy h1 h2
    refine .inr fun c hc => ?_
    have : (execOp (opd F.tmps) o) = (do pure (Next.defer (← resolve (opd F.tmps) c o.type)) : Sem Next) := by simp [execOp, hc]
    rw [this, Sem.run_bind'] at hy
    split at hy
    · exact h1 _ _ hy.symm
    · exact h2 _ _ hy.symm
  have hkindw : ∀ (q : CallKind), (match F.todo with | .call _ true _ _ :: _ => CallKind.wrapped | _ => .normal) = .normal := by intro _; rw [hK]
  cases x with
  | val v h' => exact absurd rfl (hnv v h')
  | enter f args h' =>
    obtain ⟨rfl, A, q1, q2⟩ := hsim
    have hs : step P (lone F (Fr ++ cs) W) = .next (lone (Frame.enter P f A.toArray .normal) (F :: (Fr ++ cs)) W) := by
      refine step_lone_go ?_
      rw [hg (hnd _ q1 (fun _ _ q => by cases q) (fun _ _ q => by cases q))]
      simp [stepG.apply, q1, hK]
    change enterJ P _ rest f args h' (J.run f args h') = some m at kn
    cases hj : J.run f args h' with
    | none =>
      rw [hj] at kn
      obtain ⟨fr', q3, rfl⟩ := one_some (show one h' (_ :: rest) (aFrame P f args false) = some m from kn)
      exact ⟨e, _, F :: Fr, W, .one hs, .cons (aFrame_sim q2 q3) (.cons hF hFr), hr⟩
    | some v =>
      rw [hj] at kn
      obtain ⟨fr', q3, rfl⟩ := one_some (show one h' rest (AFr.finish _ v) = some m from kn)
      obtain ⟨en, W', fr0, ⟨V, rfl, hV, hst⟩, hcomes, hfn, hleave⟩ := hJ f args h' v hj w0 e W A hr q2 (F :: (Fr ++ cs))
      exact ⟨e, _, Fr, W', Steps.trans (.one hs) (Steps.trans hcomes (.one (step_leave_returned hleave))), .cons (finish_sim q3 hF hV) hFr, hr.still hst⟩
  | round l args h' =>
    obtain ⟨rfl, L, c, A, q1, q2, q3⟩ := hsim
    change nextRound P _ rest h' l args = some m at kn
    unfold nextRound at kn
    split at kn
    · rename_i lp hl
      split at kn
      · rename_i t' fnx ht' hfx
        cases kn
        obtain ⟨g1, L', c', T, D, cD, g2, g3, g4, g5, g6⟩ := getLoop_blk hr hl
        rw [q1] at g2; cases g2
        obtain ⟨p1, p2⟩ := putArgs_rel g4 q2 ht'
        have hy : (Instr.yield L A.toArray).run P W = .ok (.round L lp.fn ((lp.params.zip A).foldl (fun T x => T.setIfInBounds x.1 x.2) T) lp.assign lp.body) W := by
          unfold Instr.yield
          rw [Sem.run_bind', run_getLoop g6]
          simp only [List.size_toArray]
          rw [if_neg (by omega)]
          simp [run_pure', List.zip_toArray]
        rw [hy] at q3
        have hs : step P (lone F (Fr ++ cs) W) = .next (lone (Frame.round L lp.fn ((lp.params.zip A).foldl (fun T x => T.setIfInBounds x.1 x.2) T) lp.assign lp.body .normal) (F :: (Fr ++ cs)) W) := by
          refine step_lone_go ?_
          rw [hg (hnd _ q3 (fun _ _ q => by cases q) (fun _ _ q => by cases q))]
          simp [stepG.apply, q3, hK]
        refine ⟨e, _, F :: Fr, W, .one hs, .cons ?_ (.cons hF hFr), hr⟩
        exact { fn := rfl, known := ⟨_, hfx⟩, tm := p2, todo := fun _ => .plain (.cons (.code _) (.cons .beginRound (.cons (.code _) .nil))), nocall := trivial, defers := .nil, mode := .run, kind := rfl, round := .some q1 }
      · cases kn
    · cases kn
  | defer d h' =>
    obtain ⟨rfl, D, q1, q2⟩ := hsim
    cases round with
    | some l0 => cases kn
    | none =>
      obtain ⟨fr', q3, rfl⟩ := one_some (show one h' rest (AFr.finish ⟨fn, n, t, k, d :: ds, .run, dk, none⟩ undefA) = some m from kn)
      have hrd : F.roundOf = none := by have := hF.round; generalize F.roundOf = M at this; cases this; rfl
      have hF2 : FR P e ⟨fn, n, t, k, d :: ds, .run, dk, none⟩ { F with defers := D :: F.defers } :=
        { fn := hF.fn, known := hF.known, tm := hF.tm, todo := fun _ => hF.todo rfl, nocall := hF.nocall, defers := .cons q2 hF.defers, mode := hF.mode, kind := hF.kind, round := hF.round }
      have hs : step P (lone F (Fr ++ cs) W) = .next (lone (Frame.finish { F with defers := D :: F.defers } undef) (Fr ++ cs) W) := by
        refine step_lone_go ?_
        rw [hg (.inl hrd)]
        simp [stepG.apply, q1]
      exact ⟨e, _, Fr, W, .one hs, .cons (finish_sim q3 hF2 (.tuple .nil)) hFr, hr⟩
  | recover h' =>
    obtain ⟨rfl, q1⟩ := hsim
    change nextRecover _ rest h' = some m at kn
    unfold nextRecover at kn
    simp only [] at kn
    split at kn
    · cases kn
    · have hrd : F.roundOf = none := by have := hF.round; generalize F.roundOf = M at this; cases this; rfl
      have hkd := hF.kind
      have hap : ∀ (y : Option (Value × List Frame)), tryRecover F (Fr ++ cs) = y → step P (lone F (Fr ++ cs) W) = .next (match y with | some (v, callers) => lone (F.finish v) callers W | none => lone (F.finish .nilIface) (Fr ++ cs) W) := by
        intro y hy
        cases y with
        | none =>
          refine step_lone_go ?_
          rw [hg (.inl hrd)]
          simp [stepG.apply, q1, hrd, hy]
        | some vc =>
          refine step_lone_go ?_
          rw [hg (.inl hrd)]
          simp [stepG.apply, q1, hrd, hy]
      cases dk with
      | false =>
        obtain ⟨fr', q3, rfl⟩ := one_some (show one h' rest _ = some m from kn)
        have hk2 : F.kind = .normal := hkd
        have hy : tryRecover F (Fr ++ cs) = none := by unfold tryRecover; rw [hk2]
        exact ⟨e, _, Fr, W, .one (hap none hy), .cons (finish_sim q3 hF .nilIface) hFr, hr⟩
      | true =>
        simp only [cond_true] at kn
        have hk2 : F.kind = .deferred := hkd
        cases hFr with
        | nil => cases kn
        | cons hc hs =>
          rename_i c C rest' Cs
          simp only [] at kn
          obtain ⟨cfn, cn, ctm, ctodo, cdef, cmode, cdk, cround⟩ := c
          have hcm := hc.mode
          have hcn := hc.nocall
          obtain ⟨f1, T1, todo1, d1, m1, k1, r1⟩ := C
          dsimp only at hcm hcn
          have plain : (∀ ev older, m1 ≠ .panicking ({ v := ev, recovered := false, goexit := false } :: older)) → aRecover (⟨cfn, cn, ctm, ctodo, cdef, cmode, cdk, cround⟩ :: rest') = none →
              SS P w0 cs (lone F ({ fn := f1, tmps := T1, todo := todo1, defers := d1, mode := m1, kind := k1, roundOf := r1 } :: Cs ++ cs) W) m := by
            intro hne har
            rw [har] at kn
            obtain ⟨fr', q3, rfl⟩ := one_some kn
            have hy : tryRecover F ({ fn := f1, tmps := T1, todo := todo1, defers := d1, mode := m1, kind := k1, roundOf := r1 } :: Cs ++ cs) = none := by
              unfold tryRecover
              rw [hk2]
              simp only [List.cons_append]
            exact ⟨e, _, _ :: Cs, W, .one (hap none hy), .cons (finish_sim q3 hF .nilIface) (.cons hc hs), hr⟩
          cases hcm with
          | run => exact plain (fun _ _ q => by cases q) rfl
          | returning => exact plain (fun _ _ q => by cases q) rfl
          | panicking hch =>
            cases hch with
            | nil => exact plain (fun _ _ q => by cases q) rfl
            | cons hv hes =>
              rename_i v V rc l ml
              cases rc with
              | true => exact plain (fun _ _ q => by injection q with q1; injection q1 with q2; injection q2 with _ q3; cases q3) rfl
              | false =>
                have har : aRecover (⟨cfn, cn, ctm, ctodo, cdef, .panicking ({ v := v, recovered := false } :: l), cdk, cround⟩ :: rest') =
                    some (v, ⟨cfn, cn, ctm, ctodo, cdef, .panicking ({ v := v, recovered := true } :: l), cdk, cround⟩ :: rest') := rfl
                rw [har] at kn
                obtain ⟨fr', q3, rfl⟩ := one_some kn
                have hy : tryRecover F ({ fn := f1, tmps := T1, todo := todo1, defers := d1, mode := .panicking ({ v := V, recovered := false, goexit := false } :: ml), kind := k1, roundOf := r1 } :: Cs ++ cs) =
                    some (V, { fn := f1, tmps := T1, todo := todo1, defers := d1, mode := .panicking ({ v := V, recovered := true } :: ml), kind := k1, roundOf := r1 } :: (Cs ++ cs)) := by
                  unfold tryRecover
                  rw [hk2]
                  rfl
                refine ⟨e, _, _ :: Cs, W, .one (hap _ hy), .cons (finish_sim q3 hF hv) (.cons ?_ hs), hr⟩
                exact { fn := hc.fn, known := hc.known, tm := hc.tm, todo := (fun q => by cases q), nocall := hcn, defers := hc.defers, mode := .panicking (.cons hv hes), kind := hc.kind, round := hc.round }
  | panic v h' =>
    obtain ⟨rfl, V, q1, q2⟩ := hsim
    cases kn
    by_cases hdc : F.roundOf = none ∨ ∀ c, o.op ≠ .defer c
    · have hs : step P (lone F (Fr ++ cs) W) = .next (lone (F.raise [{ v := V, recovered := false }]) (Fr ++ cs) W) := by
        refine step_lone_go ?_
        rw [hg hdc]
        simp [stepG.apply, q1]
      exact ⟨e, _, Fr, W, .one hs, .cons (raise_sim hF (.cons q2 .nil)) hFr, hr⟩
    · exfalso
      apply hdc
      refine .inr fun c hc => ?_
      have h1 : (execOp (opd F.tmps) o) = (do pure (Next.defer (← resolve (opd F.tmps) c o.type)) : Sem Next) := by simp [execOp, hc]
      rw [h1, Sem.run_bind'] at q1
      have h2 : ∀ hl W', (resolve (opd F.tmps) c o.type).run P W ≠ .halt (.panic hl) W' := by
        intro hl W'
        unfold resolve
        cases c.callee with
        | builtin b => intro q; cases q
        | invoke r nm => intro q; cases q
        | value f =>
          simp only []
          cases opd F.tmps f <;> intro q <;> cases q
      split at q1
      · cases q1
      · rename_i hl W' hq
        cases q1
        exact h2 _ _ hq
end
end Go.AbsE
