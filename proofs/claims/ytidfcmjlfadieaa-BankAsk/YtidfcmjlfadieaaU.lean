import Derived.Test.YtidfcmjlfadieaaS
set_option linter.unusedSimpArgs false
namespace Go.AbsE
open Go

section
variable {P : Program} {w0 : Base} {e : Env} {h : AH} {W : World}

/-- The machine goes on to a state that is related. -/
def SS (P : Program) (w0 : Base) (cs : List Frame) (M0 : Machine) (m : AM) : Prop :=
  ∃ e' F Fr W, Steps P M0 (lone F (Fr ++ cs) W) ∧ FRs P e' m.stack (F :: Fr) ∧ HR P w0 e' m.h W

theorem SS.head {cs : List Frame} {M0 M1 : Machine} {m : AM} (hs : Steps P M0 M1) (h : SS P w0 cs M1 m) : SS P w0 cs M0 m := by
  obtain ⟨e', F, Fr, W, h1, h2⟩ := h
  exact ⟨e', F, Fr, W, hs.trans h1, h2⟩

theorem one_some {h : AH} {rest : List AFr} {q : Option AFr} {m : AM} (k : one h rest q = some m) : ∃ fr, q = some fr ∧ m = ⟨fr :: rest, h⟩ := by
  unfold one at k
  split at k
  · cases k; exact ⟨_, rfl, rfl⟩
  · cases k

theorem finish_sim {fr fr' : AFr} {F : Frame} {v : AVal} {V : Value} (k : fr.finish v = some fr') (hF : FR P e fr F) (hv : VR e v V) : FR P e fr' (F.finish V) := by
  obtain ⟨fn, n, tmps, todo, defers, mode, dk, round⟩ := fr
  unfold AFr.finish at k
  cases mode with
  | returning => cases k
  | panicking c => cases k
  | run =>
    simp only [] at k
    have hfn := hF.fn
    have htm := hF.tm
    have htodo := hF.todo rfl
    have hdef := hF.defers
    have hmode := hF.mode
    have hkind := hF.kind
    have hround := hF.round
    obtain ⟨f0, T0, todo0, d0, m0, k0, r0⟩ := F
    dsimp only at *
    cases hmode
    cases htodo with
    | run h hp hs => cases k
    | wait h hp hs =>
      rename_i all B c d facts ta s t0 V0 tc D A l m
      unfold AFr.finishRun at k
      simp only [] at k
      split at k
      · rename_i t ht
        cases k
        obtain ⟨rfl, hn⟩ := prepD_put ht
        obtain ⟨p1, p2, p3, p4, p5, p6, p7⟩ := h.plan
        obtain ⟨v1, v2, v3, v4⟩ := h.sched
        have hadv := (h.advA v).advD (e' := e) (i := d.i) (o := d.o) (VV := V) (.inr rfl) p1 hn (Env.le_refl e) (by simp only [if_true]; exact hv)
        have hpend := hp.advA (facts' := dropF d.bef facts) h v (D' := fun k => D k ∨ k = d.i) (fun _ hD => .inl hD) (fun i hi hA hnD f hfm hfi => by
          refine dropF_mem hfm ?_
          rw [p2]
          cases hbit : (B d.i).testBit f.i with
          | false => rfl
          | true => exact absurd (.inl (hfi ▸ h.bef (h.ro.sound d.i f.i v1 hbit) v3)) hnD) (.inl (.inr rfl))
        have hfin : Frame.finish { fn := f0, tmps := T0, todo := .inRegion all (d.i :: s) :: m, defers := d0, mode := .run, kind := k0, roundOf := r0 } V =
            { fn := f0, tmps := (match d.o.dst with | some d => T0.setIfInBounds d V | none => T0), todo := .inRegion all s :: m, defers := d0, mode := .run, kind := k0, roundOf := r0 } := by
          simp only [Frame.finish, p1, Option.bind_some]
          rfl
        rw [hfin]
        exact { fn := hfn, known := hF.known, tm := hadv.frame, todo := fun _ => .run hadv hpend hs, nocall := trivial, defers := hdef, mode := .run, kind := hkind, round := hround }
      · cases k
    | plain htodo =>
      unfold AFr.finishRun at k
      split at k
      · cases k
      · rename_i it kk
        cases htodo with
        | cons hit hs =>
          rename_i IT Ks
          split at k
          · rename_i all i ops
            cases hit with
            | inRegion hr =>
              split at k
              · cases k
              · rename_i o rest
                split at k
                · rename_i t ht
                  cases k
                  have hlen : i < all.size := by
                    have := congrArg List.length hr
                    simp at this
                    omega
                  have hdrop : all.toList.drop i = all.toList[i]'(by simpa using hlen) :: all.toList.drop (i + 1) := List.drop_eq_getElem_cons _
                  rw [hdrop] at hr
                  injection hr with ho1 ho2
                  have hoi : all[i]? = some o := by rw [ho1]; simp [hlen]
                  have hrange : List.range' i (all.size - i) = i :: List.range' (i + 1) (all.size - (i + 1)) := by
                    rw [show all.size - i = (all.size - (i + 1)) + 1 from by omega, List.range'_succ]
                  rw [hrange]
                  have hfin : Frame.finish { fn := f0, tmps := T0, todo := .inRegion all (i :: List.range' (i + 1) (all.size - (i + 1))) :: Ks, defers := d0, mode := .run, kind := k0, roundOf := r0 } V =
                      { fn := f0, tmps := (match o.dst with | some d => T0.setIfInBounds d V | none => T0), todo := .inRegion all (List.range' (i + 1) (all.size - (i + 1))) :: Ks, defers := d0, mode := .run, kind := k0, roundOf := r0 } := by
                    simp only [Frame.finish, hoi, Option.bind_some]
                    rfl
                  rw [hfin]
                  exact { fn := hfn, known := hF.known, tm := prepD_rel htm hv ht, todo := fun _ => .plain (.cons (.inRegion ho2) hs), nocall := trivial, defers := hdef, mode := .run, kind := hkind, round := hround }
                · cases k
          · cases hit
          · rename_i l
            cases hit with
            | inRangeFunc hl =>
              cases k
              exact { fn := hfn, known := hF.known, tm := htm, todo := fun _ => .plain (.cons (.endRangeFunc hl) hs), nocall := trivial, defers := hdef, mode := .run, kind := hkind, round := hround }
          · cases hit
            cases k
            exact { fn := hfn, known := hF.known, tm := htm, todo := fun _ => .plain hs, nocall := hs.noCall, defers := hdef, mode := .run, kind := hkind, round := hround }
          · cases k

theorem raise_sim {fr : AFr} {F : Frame} (hF : FR P e fr F) {es : List AEntry} {ES : List PanicEntry} (hes : ERs e es ES) : FR P e (fr.raise es) (F.raise ES) := by
  obtain ⟨fn, n, tmps, todo, defers, mode, dk, round⟩ := fr
  have hmode := hF.mode
  have hnc := hF.nocall
  obtain ⟨f0, T0, todo0, d0, m0, k0, r0⟩ := F
  dsimp only at *
  cases hmode with
  | run => exact { fn := hF.fn, known := hF.known, tm := hF.tm, todo := (fun q => by cases q), nocall := hnc, defers := hF.defers, mode := .panicking hes, kind := hF.kind, round := hF.round }
  | returning => exact { fn := hF.fn, known := hF.known, tm := hF.tm, todo := (fun q => by cases q), nocall := hnc, defers := hF.defers, mode := .panicking hes, kind := hF.kind, round := hF.round }
  | panicking hc => exact { fn := hF.fn, known := hF.known, tm := hF.tm, todo := (fun q => by cases q), nocall := hnc, defers := hF.defers, mode := .panicking (hes.append hc), kind := hF.kind, round := hF.round }

theorem settle_sim {fr : AFr} {F : Frame} (hF : FR P e fr F) : FR P e (settleA fr) { F with mode := settle F.mode } := by
  obtain ⟨fn, n, tmps, todo, defers, mode, dk, round⟩ := fr
  have hmode := hF.mode
  have hnc := hF.nocall
  obtain ⟨f0, T0, todo0, d0, m0, k0, r0⟩ := F
  dsimp only at *
  cases hmode with
  | run => exact hF
  | returning => exact hF
  | panicking hc =>
    cases hc with
    | nil => exact hF
    | cons hv hs =>
      rename_i v V rc l m
      unfold settleA
      simp only []
      have hdw : ∀ {l : List AEntry} {m : List PanicEntry}, ERs e l m → m.dropWhile (!·.goexit) = [] := by
        intro l m hh
        induction hh with
        | nil => rfl
        | cons _ _ ih => simpa [List.dropWhile] using ih
      cases rc with
      | true =>
        have : settle (.panicking ({ v := V, recovered := true, goexit := false } :: m)) = .returning := by simp [settle, hdw hs]
        rw [this]
        exact { fn := hF.fn, known := hF.known, tm := hF.tm, todo := (fun q => by cases q), nocall := hnc, defers := hF.defers, mode := .returning, kind := hF.kind, round := hF.round }
      | false =>
        have : settle (.panicking ({ v := V, recovered := false, goexit := false } :: m)) = .panicking ({ v := V, recovered := false, goexit := false } :: m) := by simp [settle]
        rw [this]
        exact hF

def resOf (T : Array Value) (x : ResultVar) : Sem Value :=
  match x with
  | .tmp t => pure (T.getD t undef)
  | .cell a t => do Go.loadVar t (← asAddr (T.getD a undef))

theorem results_eq (fn : Func) (T : Array Value) : results fn T = (fn.results.mapM (resOf T) >>= fun vs => pure (if h : vs.size = 1 then vs[0] else .tuple vs)) := rfl

theorem aResults_run (r : HR P w0 e h W) {n : Nat} {t : Tr AVal} {T : Array Value} (hT : TRel e n t T) : ∀ {l : List ResultVar} {vs : List AVal}, aResults P h t l = some vs →
    ∃ VS, VRs e vs VS ∧ RunsAll P W (resOf T) l VS := by
  intro l
  induction l with
  | nil => intro vs k; simp [aResults] at k; subst k; exact ⟨[], .nil, .nil⟩
  | cons x l ih =>
    intro vs k
    cases x with
    | tmp i =>
      simp only [aResults] at k
      split at k
      · rename_i v hv
        split at k
        · rename_i l' hl
          cases k
          obtain ⟨VS, h1, h2⟩ := ih hl
          obtain ⟨V, g1, g2⟩ := hT.2.2 i _ hv
          refine ⟨V :: VS, .cons g2 h1, .cons ?_ h2⟩
          simp [resOf, g1, run_pure']
        · cases k
      · cases k
    | cell a ty =>
      simp only [aResults] at k
      split at k
      · rename_i b off hp
        split at k
        · rename_i v hv
          split at k
          · rename_i l' hl
            cases k
            obtain ⟨VS, h1, h2⟩ := ih hl
            obtain ⟨V, g1, g2⟩ := hT.2.2 a _ hp
            obtain ⟨B, c, U, q1, q2, q3⟩ := loadVar_sim r hv
            cases g2 with
            | ptr hb =>
              rw [q1] at hb; cases hb
              refine ⟨U :: VS, .cons q2 h1, .cons ?_ h2⟩
              simp [resOf, g1, asAddr, Sem.run_bind', run_pure', q3]
          · cases k
        · cases k
      · cases k

theorem aResult_run (r : HR P w0 e h W) {n : Nat} {t : Tr AVal} {T : Array Value} (hT : TRel e n t T) {f : FuncId} {v : AVal} (k : aResult P h f t = some v) :
    ∃ fn V, P.funcs[f]? = some fn ∧ VR e v V ∧ (results fn T).run P W = .ok V W := by
  unfold aResult at k
  split at k
  · rename_i fn hf
    split at k
    · rename_i vs hvs
      cases k
      obtain ⟨VS, h1, h2⟩ := aResults_run r hT hvs
      have hrun : (results fn T).run P W = .ok (if hh : VS.toArray.size = 1 then VS.toArray[0] else .tuple VS.toArray) W := by
        rw [results_eq, Sem.run_bind', run_mapMA h2]
        rfl
      refine ⟨fn, _, hf, ?_, hrun⟩
      cases h1 with
      | nil => exact .tuple .nil
      | cons ha hs =>
        cases hs with
        | nil => exact ha
        | cons hb hs2 => exact .tuple (.cons ha (.cons hb hs2))
    · cases k
  · cases k

/-- A frame hands a value on. -/
theorem aReturn_sim (r : HR P w0 e h W) {dk : Bool} {rest : List AFr} {Fr : List Frame} {v : AVal} {V : Value} {m : AM} (hFr : FRs P e rest Fr) (hv : VR e v V) (k : aReturn dk rest v h = some m) {cs : List Frame} {M0 : Machine}
    (h1 : dk = false → ∀ C Cs, Fr = C :: Cs → Steps P M0 (lone (C.finish V) (Cs ++ cs) W))
    (h2 : dk = true → ∀ C Cs, Fr = C :: Cs → Steps P M0 (lone { C with mode := settle C.mode } (Cs ++ cs) W)) : SS P w0 cs M0 m := by
  unfold aReturn at k
  split at k
  · cases k
  · rename_i c rest
    cases hFr with
    | cons hc hs =>
      cases dk with
      | true =>
        cases k
        exact ⟨e, _, _, W, h2 rfl _ _ rfl, .cons (settle_sim hc) hs, r⟩
      | false =>
        obtain ⟨fr, q1, rfl⟩ := one_some (show one h rest (c.finish v) = some m from k)
        exact ⟨e, _, _, W, h1 rfl _ _ rfl, .cons (finish_sim q1 hc hv) hs, r⟩

theorem invoke_enter {fn : Fn} {cap args : List AVal} {CAP ARGS : List Value} (hf : ∀ l, fn ≠ .yield l) (hc : VRs e cap CAP) (ha : VRs e args ARGS) {f : FuncId} {as : List AVal} {h' : AH}
    (k : aInvoke P fn cap args h = some (.enter f as h')) (r : HR P w0 e h W) : h' = h ∧ ∃ A, (invoke (.fn fn CAP.toArray) ARGS.toArray).run P W = .ok (.enter f A.toArray) W ∧ VRs e as A := by
  have _ := r.size
  exact aInvoke_sim (w0 := w0) (W := W) hf hc ha k rfl

theorem takeDeferred_run {B : Nat} {DS : List Deferred} (hk : W.heap[B]? = some (.deferred (some DS))) : (Instr.takeDeferred B).run P W = .ok DS (World.upd W B (.deferred none)) := by
  have hnc : ∀ c el fr, (Obj.deferred (some DS)) ≠ .cells c el fr := by intros; intro q; cases q
  simp only [Instr.takeDeferred, Sem.run_bind', run_getObj hk hnc, run_setObj hk hnc, run_pure']

/-- **UNWINDING.** -/
theorem aUnwind_sim (r : HR P w0 e h W) {fr : AFr} {rest : List AFr} {F : Frame} {Fr : List Frame} (hF : FR P e fr F) (hFr : FRs P e rest Fr) {m : AM} (hm : fr.mode ≠ .run)
    (k : aUnwind P fr rest h = some m) (cs : List Frame) : SS P w0 cs (lone F (Fr ++ cs) W) m := by
  obtain ⟨fn, n, tmps, todo, defers, mode, dk, round⟩ := fr
  have hfn := hF.fn
  obtain ⟨fun0, hknown⟩ := hF.known
  have htm := hF.tm
  have hnc := hF.nocall
  have hdef := hF.defers
  have hmode := hF.mode
  have hkind := hF.kind
  obtain ⟨f0, T0, todo0, d0, m0, k0, r0⟩ := F
  dsimp only at *
  subst hfn
  have hm0 : m0 ≠ .run := by intro q; subst q; cases hmode; exact hm rfl
  unfold aUnwind at k
  simp only [] at k
  cases hdef with
  | cons hd hds =>
    rename_i ad D ads Ds
    cases hd with
    | collected hb =>
      rename_i bb B c
      simp only [] at k
      split at k
      · rename_i calls hg
        split at k
        · rename_i h' hset
          cases k
          obtain ⟨B', c', O, q1, q2, q3, q4⟩ := r.blk _ _ hg
          rw [hb] at q1; cases q1
          cases q4 with
          | deferred hcalls =>
            rename_i DS
            have hstep : step P (lone { fn := f0, tmps := T0, todo := todo0, defers := { target := .collected B, args := #[] } :: Ds, mode := m0, kind := k0, roundOf := r0 } (Fr ++ cs) W) =
                .next (lone { fn := f0, tmps := T0, todo := todo0, defers := DS ++ Ds, mode := m0, kind := k0, roundOf := r0 } (Fr ++ cs) (World.upd W B (.deferred none))) := by
              refine step_lone_go ?_
              have ht := takeDeferred_run (P := P) q3
              cases m0 with
              | run => exact absurd rfl hm0
              | returning => simp [stepG, unwind, ht]
              | panicking ch => simp [stepG, unwind, ht]
            exact ⟨e, _, Fr, _, .one hstep, .cons { fn := rfl, known := ⟨fun0, hknown⟩, tm := htm, todo := (fun q => absurd q hm), nocall := hnc, defers := hcalls.append hds, mode := hmode, kind := hkind, round := hF.round } hFr,
              r.set hg rfl hb hset .taken⟩
        · cases k
      · cases k
    | call hnf hc ha =>
      rename_i g cap args C A
      simp only [] at k
      split at k
      · rename_i f as h' hi
        obtain ⟨fr', q1, rfl⟩ := one_some k
        obtain ⟨rfl, A', q2, q3⟩ := invoke_enter hnf hc ha hi r
        have hstep := step_defer (P := P) (fr := { fn := f0, tmps := T0, todo := todo0, defers := { target := .fn g C.toArray, args := A.toArray } :: Ds, mode := m0, kind := k0, roundOf := r0 }) (cs := Fr ++ cs) hm0 rfl rfl q2
        refine ⟨e, _, _ :: Fr, W, .one hstep, .cons (aFrame_sim q3 q1) (.cons ?_ hFr), r⟩
        exact { fn := rfl, known := ⟨fun0, hknown⟩, tm := htm, todo := (fun q => absurd q hm), nocall := hnc, defers := hds, mode := hmode, kind := hkind, round := hF.round }
      · cases k
  | nil =>
    simp only [] at k
    cases hmode with
    | run => exact absurd rfl hm
    | panicking hch =>
      rename_i l ch
      simp only [] at k
      split at k
      · rename_i c rest'
        cases k
        cases hFr with
        | cons hc hs =>
          rename_i C Cs
          have hstep : step P (lone { fn := f0, tmps := T0, todo := todo0, defers := [], mode := .panicking ch, kind := k0, roundOf := r0 } (C :: Cs ++ cs) W) = .next (lone (C.raise ch) (Cs ++ cs) W) := by
            refine step_lone_go ?_
            have hcatch : Frame.catches P { fn := f0, tmps := T0, todo := todo0, defers := [], mode := .panicking ch, kind := k0, roundOf := r0 } = false := by simp [Frame.catches, hknown]
            simp [stepG, unwind, hcatch]
          exact ⟨e, _, Cs, W, .one hstep, .cons (raise_sim hc hch) hs, r⟩
      · cases k
    | returning =>
      simp only [] at k
      split at k
      · rename_i v hv
        obtain ⟨fn1, V, q1, q2, q3⟩ := aResult_run r htm hv
        refine aReturn_sim r hFr q2 k (fun hdk C Cs hC => ?_) (fun hdk C Cs hC => ?_)
        · subst hC
          subst hdk
          exact .one (step_leave_returned (fr := { fn := f0, tmps := T0, todo := todo0, defers := [], mode := .returning, kind := k0, roundOf := r0 }) ⟨rfl, rfl, hkind, fn1, q1, q3⟩)
        · subst hC
          subst hdk
          exact .one (step_going_returned (fr := { fn := f0, tmps := T0, todo := todo0, defers := [], mode := .returning, kind := k0, roundOf := r0 }) hkind ⟨rfl, rfl, fn1, q1, q3⟩)
      · cases k
end
end Go.AbsE
