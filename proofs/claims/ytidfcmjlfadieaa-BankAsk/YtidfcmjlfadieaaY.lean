import Derived.Test.YtidfcmjlfadieaaX
set_option linter.unusedSimpArgs false
namespace Go.AbsE
open Go

section
variable {P : Program} {w0 : Base} {e : Env} {h : AH} {W : World}

theorem run_newObj (O : Obj) : (newObj O).run P W = .ok W.heap.size (World.add W O) := by
  simp [newObj, Sem.run, World.add]

/-- The loop's record is laid, and the iterator called. -/
theorem rangeTail (r : HR P w0 e h W) {fn n : Nat} {tmps : Tr AVal} {k : List AItem} {ds ds' : List ADef} {dk : Bool} {round : Option Nat} {F : Frame} {K : List Item} {DS' : List Deferred} {f : Operand} {params : Array Tmp} {assign body : Code}
    (hF : FR P e ⟨fn, n, tmps, .code (.rangeFunc f params assign body) :: k, ds, .run, dk, round⟩ F) (hK : IRs e k K) {rest : List AFr} {Fr : List Frame} (hFr : FRs P e rest Fr)
    {d D cD : Nat} (hd : e d = some (D, cD)) (hds : DRs e ds' DS') {m : AM} {l : Nat} {h2 : AH} (hn : h.new (.loop ⟨.ready, none, fn, n, tmps, params.toList, assign, body, d⟩) = some (l, h2))
    {g : Fn} {first cap : List AVal} (hf : ev tmps f = some (.func g first cap)) {g' : FuncId} {args : List AVal} {h3 : AH} (hi : aInvoke P g cap (first ++ [.yield l]) h2 = some (.enter g' args h3))
    (ho : one h3 (⟨fn, n, tmps, .inRangeFunc l :: k, ds', .run, dk, round⟩ :: rest) (aFrame P g' args false) = some m) (cs : List Frame) {M0 : Machine}
    (hstep : ∀ (W2 : World) (L : Nat) (A : Array Value), L = W.heap.size →
      W2 = World.add W (.loop { state := .ready, pending := none, fn := F.fn, tmps := F.tmps, params, assign, body, defers := D }) →
      (do let d ← resolve (opd F.tmps) { callee := .value f, args := #[.const (.func (.yield L) #[] #[])], argTypes := #[] } 0; invoke d.target d.args : Sem Next).run P W2 = .ok (.enter g' A) W2 →
      Steps P M0 (lone (Frame.enter P g' A .normal) ({ F with todo := .inRangeFunc L :: K, defers := DS' } :: (Fr ++ cs)) W2)) : SS P w0 cs M0 m := by
  have hfn : F.fn = fn := hF.fn
  obtain ⟨fr', q1, rfl⟩ := one_some ho
  have hb : BR P (e.ext h.next (W.heap.size, 0)) 0 (.loop ⟨.ready, none, fn, n, tmps, params.toList, assign, body, d⟩)
      (.loop { state := .ready, pending := none, fn := fn, tmps := F.tmps, params := params.toList.toArray, assign, body, defers := D }) :=
    .loop (hF.tm.mono (Env.le_ext r.fresh)) ((Env.le_ext r.fresh).1 _ _ hd)
  obtain ⟨n1, n2, n3⟩ := r.new hn hb
  subst n1
  rw [Array.toArray_toList] at n3
  have hl := Env.ext_same e h.next (W.heap.size, 0)
  have hfv := ev_rel (hF.tm.mono n2) hf
  generalize hC : opd F.tmps f = C at hfv
  cases hfv with
  | func hnf hfi hca =>
    rename_i FI CA
    obtain ⟨rfl, A, a1, a2⟩ := invoke_enter hnf hca (hfi.append (.cons (.yield hl) .nil)) hi n3
    refine ⟨_, _, _ :: Fr, _, hstep _ W.heap.size A.toArray rfl rfl ?_, .cons (aFrame_sim a2 q1) (.cons ?_ (hFr.mono n2)), ?_⟩
    · rw [hfn]
      have : (resolve (opd F.tmps) { callee := .value f, args := #[.const (.func (.yield W.heap.size) #[] #[])], argTypes := #[] } 0) = pure { target := .fn g CA.toArray, args := FI.toArray ++ #[.func (.yield W.heap.size) #[] #[]] } := by
        have hm1 : Array.map (opd F.tmps) #[Operand.const (Value.func (Fn.yield W.heap.size) #[] #[])] = #[Value.func (.yield W.heap.size) #[] #[]] := by simp [opd]
        simp only [resolve, hC, Deferred.ofValue, hm1]
      rw [this, Sem.run_bind', run_pure']
      simp only []
      have h5 : FI.toArray ++ #[Value.func (.yield W.heap.size) #[] #[]] = (FI ++ [Value.func (.yield W.heap.size) #[] #[]]).toArray := by simp
      rw [h5]; exact a1
    · exact { fn := hfn, known := hF.known, tm := hF.tm.mono n2, todo := fun _ => .plain (.cons (.inRangeFunc hl) (hK.mono n2)), nocall := trivial, defers := hds.mono n2, mode := hF.mode.mono n2, kind := hF.kind, round := hF.round.mono n2 }
    · rw [hfn]; exact n3

theorem doRangeFunc_sim (r : HR P w0 e h W) {fr : AFr} {F : Frame} (hF : FR P e fr F) (hrun : fr.mode = .run) {f : Operand} {params : Array Tmp} {assign body : Code} {k : List AItem}
    (ht : fr.todo = .code (.rangeFunc f params assign body) :: k) {rest : List AFr} {Fr : List Frame} (hFr : FRs P e rest Fr) {m : AM}
    (q : doRangeFunc P fr rest h f params assign body k = some m) (cs : List Frame) : SS P w0 cs (lone F (Fr ++ cs) W) m := by
  obtain ⟨fn, n, tmps, todo, defers, mode, dk, round⟩ := fr
  dsimp only at ht hrun
  subst ht
  subst hrun
  have htodo := (hF.todo rfl).irs (fun _ _ _ _ _ q => by cases q) (fun _ _ _ _ _ q => by cases q)
  have hmode := hF.mode
  have hround := hF.round
  have hfn := hF.fn
  have hdef := hF.defers
  obtain ⟨f0, T0, todo0, d0, m0, k0, r0⟩ := F
  dsimp only at htodo hmode hround hfn hdef
  cases hmode
  cases htodo with
  | cons h1 hK =>
    cases h1
    rename_i K
    unfold doRangeFunc at q
    simp only [] at q
    cases hround with
    | none =>
      simp only [] at q
      cases hnd : h.new (.deferred (some [])) with
      | none => rw [hnd] at q; simp only [] at q; cases q
      | some dh =>
        obtain ⟨d, h1⟩ := dh
        rw [hnd] at q
        simp only [] at q
        have hb : BR P (e.ext h.next (W.heap.size, 0)) 0 (.deferred (some [])) (.deferred (some [])) := .deferred .nil
        obtain ⟨n1, n2, n3⟩ := r.new hnd hb
        subst n1
        have hdl := Env.ext_same e h.next (W.heap.size, 0)
        split at q
        · cases q
        · rename_i l h2 hnl
          split at q
          · rename_i g first cap hf
            split at q
            · rename_i g' args h3 hi
              refine rangeTail n3 (F := { fn := f0, tmps := T0, todo := .code (.rangeFunc f params assign body) :: K, defers := d0, mode := .run, kind := k0, roundOf := none })
                (hF.mono n2) (hK.mono n2) (hFr.mono n2) hdl (DRs.cons (.collected hdl) (hdef.mono n2)) hnl hf hi q cs ?_
              intro W2 L A hL hW2 hres
              subst hL
              refine .one (step_lone_go ?_)
              have henter : (Instr.enterLoop f0 T0 params assign body none).run P W =
                  .ok ((World.add W (.deferred (some []))).heap.size, [{ target := .collected W.heap.size, args := #[] }]) W2 := by
                simp only [Instr.enterLoop, Sem.run_bind', run_newObj, run_pure', hW2]
              have hev : ({ fn := f0, tmps := T0, todo := Item.inRangeFunc (World.add W (.deferred (some []))).heap.size :: K, defers := { target := .collected W.heap.size, args := #[] } :: d0, mode := .run, kind := k0, roundOf := none } : Frame).eval = opd T0 := eval_opd _
              simp [stepG, stepG.exec, stepG.apply, henter, hev, hres]
            · cases q
          · cases q
    | some hl0 =>
      rename_i l0 L0 c0
      simp only [] at q
      cases hgl : aGetLoop h l0 with
      | none => rw [hgl] at q; simp only [] at q; cases q
      | some lp =>
        rw [hgl] at q
        simp only [] at q
        obtain ⟨g1, L', c', TT, D, cD, g2, g3, g4, g5, g6⟩ := getLoop_blk r hgl
        rw [hl0] at g2; cases g2
        split at q
        · cases q
        · rename_i l h2 hnl
          split at q
          · rename_i g first cap hf
            split at q
            · rename_i g' args h3 hi
              refine rangeTail r (F := { fn := f0, tmps := T0, todo := .code (.rangeFunc f params assign body) :: K, defers := d0, mode := .run, kind := k0, roundOf := some L0 })
                hF hK hFr g5 hdef hnl hf hi q cs ?_
              intro W2 L A hL hW2 hres
              subst hL
              refine .one (step_lone_go ?_)
              have henter : (Instr.enterLoop f0 T0 params assign body (some L0)).run P W = .ok (W.heap.size, []) W2 := by
                simp only [Instr.enterLoop, Sem.run_bind', run_getLoop g6, run_newObj, run_pure', hW2]
              have hev : ({ fn := f0, tmps := T0, todo := Item.inRangeFunc W.heap.size :: K, defers := d0, mode := .run, kind := k0, roundOf := some L0 } : Frame).eval = opd T0 := eval_opd _
              simp [stepG, stepG.exec, stepG.apply, henter, hev, hres]
            · cases q
          · cases q

theorem exec_sim {J : Jump} (hJ : JOk P J) {fn n : Nat} {tmps : Tr AVal} {todo : List AItem} {defers : List ADef} {dk : Bool} {round : Option Nat} {rest : List AFr} {res : R} {m' : AM} {F : Frame} {Fr : List Frame} {cs : List Frame}
    (k : aExec P J fn n defers dk round rest res = some m') (hmode : F.mode = .run) (h1 : FR P e ⟨fn, n, tmps, todo, defers, .run, dk, round⟩ F) (hFr : FRs P e rest Fr)
    (hRS : RS P w0 F n (Fr ++ cs) e (lone F (Fr ++ cs) W) [] res) : SS P w0 cs (lone F (Fr ++ cs) W) m' := by
  cases res with
  | stuck i => cases k
  | norm t hh =>
    obtain ⟨e', T, W', s1, s2, s3, s4⟩ := hRS
    exact SS.head s1 (aLeave_sim (todo := []) s4 hmode h1.fn h1.known s3 (h1.defers.mono s2) h1.kind (h1.round.mono s2) .done (hFr.mono s2) k cs)
  | ret t hh =>
    obtain ⟨e', T, W', J0, s1, s2, s3, s4⟩ := hRS
    exact SS.head s1 (aLeave_sim (todo := []) s4 hmode h1.fn h1.known s3 (h1.defers.mono s2) h1.kind (h1.round.mono s2) (.ret J0) (hFr.mono s2) k cs)
  | exit id t hh =>
    obtain ⟨e', T, W', J0, s1, sx, s2, s3, s4⟩ := hRS
    exact SS.head s1 (aLeave_sim (todo := []) s4 hmode h1.fn h1.known s3 (h1.defers.mono s2) h1.kind (h1.round.mono s2) (.exit (by rw [sx]; rfl)) (hFr.mono s2) k cs)
  | susp kk t x =>
    obtain ⟨e', T, W', J0, s1, s2, s3, s4, s5⟩ := hRS
    rw [List.append_nil] at s1
    refine SS.head s1 (aNext_sim hJ (F := Frame.w F T J0) ?_ (hFr.mono s2) s5 k cs)
    exact { fn := h1.fn, known := h1.known, tm := s3, todo := fun _ => s4, nocall := s4.noCall, defers := h1.defers.mono s2, mode := h1.mode.mono s2, kind := h1.kind, round := h1.round.mono s2 }
  | slow kk t hh =>
    obtain ⟨e', T, W', J0, s1, s2, s3, s4, s5⟩ := hRS
    rw [List.append_nil] at s1
    have hF' : FR P e' ⟨fn, n, t, kk, defers, .run, dk, round⟩ (Frame.w F T J0) :=
      { fn := h1.fn, known := h1.known, tm := s3, todo := fun _ => .plain s4, nocall := s4.noCall, defers := h1.defers.mono s2, mode := h1.mode.mono s2, kind := h1.kind, round := h1.round.mono s2 }
    refine SS.head s1 ?_
    change doSlow P _ rest hh kk = some m' at k
    unfold doSlow at k
    split at k
    · exact doRangeFunc_sim s5 hF' rfl rfl (hFr.mono s2) k cs
    · exact doBegin_sim s5 hF' rfl rfl (hFr.mono s2) k cs
    · exact doEndLoop_sim s5 hF' rfl rfl (hFr.mono s2) k cs
    · cases k

/-- **ONE STEP OF THE ABSTRACT MACHINE IS MATCHED BY STEPS OF THE TRUE ONE.** -/
theorem aStep_sim {J : Jump} (hJ : JOk P J) {m m' : AM} (k : aStep P J m = some m') {F : Frame} {Fr : List Frame} (hF : FRs P e m.stack (F :: Fr)) (r : HR P w0 e m.h W) (cs : List Frame) :
    SS P w0 cs (lone F (Fr ++ cs) W) m' := by
  obtain ⟨stack, h⟩ := m
  dsimp only at hF r
  cases hF with
  | cons h1 hFr =>
    rename_i fr rest
    obtain ⟨fn, n, tmps, todo, defers, mode, dk, round⟩ := fr
    cases mode with
    | returning => exact aUnwind_sim r h1 hFr (fun q => by cases q) k cs
    | panicking c => exact aUnwind_sim r h1 hFr (fun q => by cases q) k cs
    | run =>
      change aExec P J fn n defers dk round rest (runTodo P n todo (.norm tmps h)) = some m' at k
      have hmode : F.mode = .run := by have := h1.mode; generalize F.mode = M at this; cases this; rfl
      have hw : F = Frame.w F F.tmps F.todo := by cases F; rfl
      have hRS : RS P w0 F n (Fr ++ cs) e (lone F (Fr ++ cs) W) [] (runTodo P n todo (.norm tmps h)) := by
        have ht := h1.todo rfl
        dsimp only at ht
        have drawn : ∀ {all c facts ta l s m}, todo = .inDrawn all c facts ta :: l → F.todo = .inRegion all s :: m → (∀ e', Env.le e e' → IRs e' l m) → RS P w0 F n (Fr ++ cs) e (lone F (Fr ++ cs) W) m (againD P n all c facts tmps ta h) →
            RS P w0 F n (Fr ++ cs) e (lone F (Fr ++ cs) W) [] (runTodo P n todo (.norm tmps h)) := by
          intro all c facts ta l s m ht1 ht2 hl hrs
          rw [ht1]
          exact runTodo_sim (P := P) (w0 := w0) (b := F) (n := n) (cs := Fr ++ cs) hmode l m e (lone F (Fr ++ cs) W) _ hl hrs
        generalize hQ : F.todo = Q at ht
        cases ht with
        | plain ht =>
          refine runTodo_sim (P := P) (w0 := w0) (b := F) (n := n) (cs := Fr ++ cs) hmode todo F.todo e (lone F (Fr ++ cs) W) (.norm tmps h) (fun e' he => by rw [hQ]; exact ht.mono he) ?_
          exact ⟨e, F.tmps, W, by rw [← hw]; exact Steps.refl _ _, Env.le_refl e, h1.tm, r⟩
        | run hd hp hs =>
          rename_i all B c facts ta s t0 V tc D A l m
          refine drawn rfl hQ (fun e' he => hs.mono he) ?_
          unfold againD
          cases hrc : recheck P h facts with
          | false => trivial
          | true =>
            have := runC_sim (P := P) (w0 := w0) (n := n) (cs := Fr ++ cs) (b := F) (K := m) hmode c hd hp (recheck_ok hrc) r
            rw [show lone F (Fr ++ cs) W = lone (Frame.w F F.tmps (.inRegion all s :: m)) (Fr ++ cs) W from by rw [← hQ, ← hw]]
            exact this
        | wait hd hp hs =>
          rename_i all B c d facts ta s t0 V tc D A l m
          exact runTodo_sim (P := P) (w0 := w0) (b := F) (n := n) (cs := Fr ++ cs) hmode l m e (lone F (Fr ++ cs) W) (.stuck 31) (fun e' he => hs.mono he) trivial
      exact exec_sim hJ k hmode h1 hFr hRS

theorem aRun_sim {J : Jump} (hJ : JOk P J) : ∀ (fuel : Nat) {m : AM} {e : Env} {W : World} {F : Frame} {Fr : List Frame}, FRs P e m.stack (F :: Fr) → HR P w0 e m.h W → ∀ cs, SS P w0 cs (lone F (Fr ++ cs) W) (aRun P J fuel m) := by
  intro fuel
  induction fuel with
  | zero => intro m e W F Fr hF r cs; exact ⟨e, F, Fr, W, Steps.refl _ _, hF, r⟩
  | succ fuel ih =>
    intro m e W F Fr hF r cs
    show SS P w0 cs _ (match aStep P J m with | some m => aRun P J fuel m | none => m)
    cases hs : aStep P J m with
    | none => exact ⟨e, F, Fr, W, Steps.refl _ _, hF, r⟩
    | some m' =>
      obtain ⟨e', F', Fr', W', s1, s2, s3⟩ := aStep_sim hJ hs hF r cs
      exact SS.head s1 (ih s2 s3 cs)

/-- **A CLOSED CALL.** -/
theorem calls_of_aCall {J : Jump} (hJ : JOk P J) {fuel : Nat} {f : FuncId} {args : List AVal} {ARGS : List Value} {h : AH} {e : Env} {W : World} (r : HR P (Base.all W) e h W) (ha : VRs e args ARGS) {m : AM} {v : AVal} {h' : AH}
    (k : aCall P J fuel f args h = some m) (kd : aDone P f m = some (v, h')) :
    Calls P f ARGS.toArray W fun en W' => ∃ e' V, en = .returned V ∧ VR e' v V ∧ HR P (Base.all W) e' h' W' := by
  intro cs
  unfold aCall at k
  split at k
  · rename_i fr hfr
    cases k
    have hF := aFrame_sim ha hfr
    obtain ⟨e', F, Fr, W', s1, s2, s3⟩ := aRun_sim hJ (w0 := Base.all W) fuel (m := ⟨[fr], h⟩) (F := Frame.enter P f ARGS.toArray .normal) (Fr := []) (.cons hF .nil) r cs
    generalize aRun P J fuel ⟨[fr], h⟩ = m at kd s2 s3
    unfold aDone at kd
    split at kd
    · rename_i fn nn tmps todo defers mode dk round hh
      split at kd
      · cases hq : Nat.beq fn f with
        | false => rw [hq] at kd; cases kd
        | true =>
          rw [hq] at kd
          have hfe := Nat.eq_of_beq_eq_true hq
          subst hfe
          cases dk with
          | true => cases kd
          | false =>
            simp only [cond_true, cond_false] at kd
            split at kd
            · rename_i v' hv
              cases kd
              cases s2 with
              | cons hf2 hnil =>
                cases hnil
                obtain ⟨fn1, V, q1, q2, q3⟩ := aResult_run s3 hf2.tm hv
                refine ⟨.returned V, W', F, ⟨e', V, rfl, q2, s3⟩, s1, hf2.fn, ?_⟩
                have hm := hf2.mode
                have hd := hf2.defers
                generalize hM : F.mode = M at hm
                generalize hD : F.defers = D at hd
                cases hm
                cases hd
                exact ⟨hM, hD, hf2.kind, fn1, by rw [hf2.fn]; exact q1, q3⟩
            · cases kd
      · cases kd
    · cases kd
  · cases k
end
end Go.AbsE
