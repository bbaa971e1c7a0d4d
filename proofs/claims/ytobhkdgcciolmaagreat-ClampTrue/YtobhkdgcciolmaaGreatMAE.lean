import Derived.Test.YtobhkdgcciolmaaGreatMAD
import Derived.RowKit3
set_option linter.unusedSimpArgs false
namespace Go.AbsE
open Go
section
variable {P : Program} {w0 : Base} {b : Frame} {n : Nat} {cs : List Frame}
theorem exitTo_other {e : Env} {it : AItem} {IT : Item} (h : IR e it IT) {id : Nat} (hne : ∀ id', it = .inBlock id' → id' ≠ id) (K : List Item) : exitTo id (IT :: K) = exitTo id K := by
 cases h <;> first | rfl | skip
 rename_i id'
 have := hne id' rfl
 simp [exitTo, this]
theorem runTodo_sim (hb : b.mode = .run) : ∀ (items : List AItem) (Is : List Item) (e : Env) (M0 : Machine) (r : R), (∀ e', Env.le e e' → IRs e' items Is) →
  RS P w0 b n cs e M0 Is r → RS P w0 b n cs e M0 [] (runTodo P n items r) := by
 intro items
 induction items with
 | nil =>
  intro Is e M0 r hi h
  have := hi e (Env.le_refl e)
  cases this
  cases r <;> exact h
 | cons it items ih =>
  intro Is e M0 r hi h
  have hcons := hi e (Env.le_refl e)
  cases hcons with
  | cons hit hs =>
   rename_i IT Ks
   have hi1 : ∀ e', Env.le e e' → IR e' it IT := fun e' he => hit.mono he
   have hi2 : ∀ e', Env.le e e' → IRs e' items Ks := fun e' he => hs.mono he
   cases r with
   | norm t hh =>
    show RS P w0 b n cs e M0 [] (runTodo P n items (runItem P n it t hh))
    obtain ⟨e', T, W, s1, s2, s3, s4⟩ := h
    refine RS.head s1 s2 (ih Ks e' _ _ (fun e2 he => hi2 e2 (Env.le_trans s2 he)) ?_)
    have h2 := hi1 e' s2
    cases h2 with
    | code c => exact den_sim hb c e' t hh T W Ks s3 s4
    | inBlock id => exact ⟨e', T, W, .one (st_inBlock hb), Env.le_refl e', s3, s4⟩
    | inScope c => exact ⟨e', T, W, .one (st_inScope hb), Env.le_refl e', s3, s4⟩
    | inLoop body =>
     show RS P w0 b n cs e' _ Ks ((den P n (.loop body)).run t hh)
     have hd : (den P n (.loop body)).run t hh = loopN body (den P n body) loopFuel t hh := by unfold den loopAll; rfl
     rw [hd]
     generalize loopFuel = fuel
     exact RS.head (.one (st_inLoop hb)) (Env.le_refl e') (loop_sim hb (den_sim hb body) fuel e' t hh T W Ks s3 s4)
    | inRegion hr => exact runOps_sim hb _ _ _ e' t hh T W Ks hr s3 s4
    | inRangeFunc hl => exact ⟨e', T, W, [_], Steps.refl _ _, Env.le_refl e', s3, .cons (.inRangeFunc hl) .nil, s4⟩
    | endRangeFunc hl => exact ⟨e', T, W, [_], Steps.refl _ _, Env.le_refl e', s3, .cons (.endRangeFunc hl) .nil, s4⟩
    | beginRound => exact ⟨e', T, W, [_], Steps.refl _ _, Env.le_refl e', s3, .cons .beginRound .nil, s4⟩
   | susp s t x =>
    show RS P w0 b n cs e M0 [] (.susp (s ++ it :: items) t x)
    obtain ⟨e', T, W, J, h1, h2, h3, h4, h5⟩ := h
    exact ⟨e', T, W, J ++ IT :: Ks, by simpa using h1, h2, h3, h4.append (.cons (hi1 e' h2) (hi2 e' h2)), h5.append⟩
   | slow s t hh =>
    show RS P w0 b n cs e M0 [] (.slow (s ++ it :: items) t hh)
    obtain ⟨e', T, W, J, h1, h2, h3, h4, h5⟩ := h
    exact ⟨e', T, W, J ++ IT :: Ks, by simpa using h1, h2, h3, h4.append (.cons (hi1 e' h2) (hi2 e' h2)), h5⟩
   | ret t hh =>
    show RS P w0 b n cs e M0 [] (runTodo P n items (.ret t hh))
    refine ih Ks e M0 _ hi2 ?_
    exact h
   | stuck i =>
    show RS P w0 b n cs e M0 [] (runTodo P n items (.stuck i))
    exact ih Ks e M0 _ hi2 trivial
   | exit id t hh =>
    show RS P w0 b n cs e M0 [] (runTodo P n items (itemR it (.exit id t hh)))
    refine ih Ks e M0 _ hi2 ?_
    obtain ⟨e', T, W, J, s1, s2, s3, s4, s5⟩ := h
    have other : (∀ id', it = .inBlock id' → id' ≠ id) → RS P w0 b n cs e M0 Ks (.exit id t hh) := by
     intro hne
     refine ⟨e', T, W, J ++ [IT], by simpa using s1, ?_, s3, s4, s5⟩
     rw [List.append_assoc]
     simp only [List.singleton_append]
     rw [s2, exitTo_other hit hne]
    cases hit with
    | inBlock id' =>
     show RS P w0 b n cs e M0 Ks (cond (Nat.beq id' id) (.norm t hh) (.exit id t hh))
     cases hq : Nat.beq id' id with
     | true =>
      have := Nat.eq_of_beq_eq_true hq
      subst this
      refine ⟨e', T, W, s1.trans (.one (st_exit hb ?_)), s3, s4, s5⟩
      rw [s2]; simp [exitTo]
     | false => exact other (fun id2 h2 => by cases h2; exact Nat.ne_of_beq_eq_false hq)
    | _ => exact other (fun _ h2 => by cases h2)
end
inductive RdR (e : Env) : Option Nat → Option Nat → Prop
 | none : RdR e none none
 | some {l L c} (h : e l = some (L, c)) : RdR e (some l) (some L)
inductive ERs (e : Env) : List AEntry → List PanicEntry → Prop
 | nil : ERs e [] []
 | cons {v V r l m} (h : VR e v V) (hs : ERs e l m) : ERs e ({ v, recovered := r } :: l) ({ v := V, recovered := r, goexit := false } :: m)
inductive MdR (e : Env) : AMode → FrameMode → Prop
 | run : MdR e .run .run
 | returning : MdR e .returning .returning
 | panicking {l m} (h : ERs e l m) : MdR e (.panicking l) (.panicking m)
theorem RdR.mono {e e' : Env} (he : Env.le e e') {a v} (h : RdR e a v) : RdR e' a v := by
 cases h with
 | none => exact .none
 | some h => exact .some (he.1 _ _ h)
theorem ERs.mono {e e' : Env} (he : Env.le e e') {a v} (h : ERs e a v) : ERs e' a v := by
 induction h with
 | nil => exact .nil
 | cons h _ ih => exact .cons (h.mono he) ih
theorem ERs.append {e : Env} {a d a' d'} (h : ERs e a d) (k : ERs e a' d') : ERs e (a ++ a') (d ++ d') := by
 induction h with
 | nil => exact k
 | cons h _ ih => exact .cons h ih
theorem MdR.mono {e e' : Env} (he : Env.le e e') {a v} (h : MdR e a v) : MdR e' a v := by
 cases h with
 | run => exact .run
 | returning => exact .returning
 | panicking h => exact .panicking (h.mono he)
def NoCall : List Item → Prop
 | .call .. :: _ => False
 | _ => True
theorem IRs.noCall {e : Env} {a d} (h : IRs e a d) : NoCall d := by
 cases h with
 | nil => trivial
 | cons h _ => cases h <;> trivial
theorem TD.noCall {e : Env} {n T tf a d} (h : TD e n T tf a d) : NoCall d := by
 cases h with
 | plain h => exact h.noCall
 | wait _ _ _ => trivial
 | run _ _ _ => trivial
theorem TD.irs {e : Env} {n T tf a d} (h : TD e n T tf a d) (h1 : ∀ all c f t l, a ≠ .waitDrawn all c f t :: l) (h2 : ∀ all c f t l, a ≠ .inDrawn all c f t :: l) : IRs e a d := by
 cases h with
 | plain h => exact h
 | wait _ _ _ => exact absurd rfl (h1 _ _ _ _ _)
 | run _ _ _ => exact absurd rfl (h2 _ _ _ _ _)
structure FR (P : Program) (e : Env) (a : AFr) (F : Frame) : Prop where
 fn : F.fn = a.fn
 known : ∃ fn, P.funcs[a.fn]? = some fn
 tm : TRel e a.n a.tmps F.tmps
 todo : a.mode = .run → TD e a.n F.tmps a.tmps a.todo F.todo
 nocall : NoCall F.todo
 defers : DRs e a.defers F.defers
 mode : MdR e a.mode F.mode
 kind : F.kind = if a.deferredKind then .deferred else .normal
 round : RdR e a.round F.roundOf
theorem FR.mono {P : Program} {e e' : Env} (he : Env.le e e') {a F} (h : FR P e a F) : FR P e' a F :=
 {fn := h.fn, known := h.known, tm := h.tm.mono he, todo := fun q => (h.todo q).mono he, nocall := h.nocall, defers := h.defers.mono he, mode := h.mode.mono he, kind := h.kind, round := h.round.mono he }
inductive FRs (P : Program) (e : Env) : List AFr → List Frame → Prop
 | nil : FRs P e [] []
 | cons {a v l m} (h : FR P e a v) (hs : FRs P e l m) : FRs P e (a :: l) (v :: m)
theorem FRs.mono {P : Program} {e e' : Env} (he : Env.le e e') {a v} (h : FRs P e a v) : FRs P e' a v := by
 induction h with
 | nil => exact .nil
 | cons h _ ih => exact .cons (h.mono he) ih
section
variable {P : Program} {w0 : Base}
theorem fromArgs_rel {e : Env} {m : Nat} (_ : m ≤ 1000000) : ∀ (args : List AVal) (i : Nat) (t : Tr AVal) (T : Array Value) (ARGS : List Value), i + args.length ≤ m → VRs e args ARGS → TRel e m t T →
  TRel e m (fromArgs t i args) ((ARGS.zipIdx i).foldl (fun T x => T.setIfInBounds x.2 x.1) T) := by
 intro args
 induction args with
 | nil => intro i t T ARGS _ ha hT; cases ha; exact hT
 | cons a args ih =>
  intro i t T ARGS hl ha hT
  cases ha with
  | cons h hs =>
   simp at hl
   simp only [fromArgs, List.zipIdx_cons, List.foldl_cons]
   exact ih (i + 1) _ _ _ (by omega) hs (hT.put (by omega) h)
theorem setArgs (k : Nat) : ∀ (ARGS PRE : List Value), (ARGS.zipIdx PRE.length).foldl (fun (T : Array Value) x => T.setIfInBounds x.2 x.1) (PRE ++ List.replicate (ARGS.length + k) undef).toArray =
  (PRE ++ ARGS ++ List.replicate k undef).toArray := by
 intro ARGS
 induction ARGS with
 | nil => intro PRE; simp
 | cons v ARGS ih =>
  intro PRE
  simp only [List.zipIdx_cons, List.foldl_cons]
  have h1 : (PRE ++ List.replicate ((v :: ARGS).length + k) undef).toArray.setIfInBounds PRE.length v = ((PRE ++ [v]) ++ List.replicate (ARGS.length + k) undef).toArray := by
   have : (v :: ARGS).length + k = (ARGS.length + k) + 1 := by simp; omega
   rw [this, List.replicate_succ]
   simp
  have h2 := ih (PRE ++ [v])
  rw [h1]
  simp only [List.length_append, List.length_cons, List.length_nil, Nat.zero_add] at h2 ⊢
  rw [h2]
  simp
theorem aFrame_sim {e : Env} {f : FuncId} {args : List AVal} {ARGS : List Value} {dk : Bool} {fr : AFr} (ha : VRs e args ARGS) (k : aFrame P f args dk = some fr) :
  FR P e fr (Frame.enter P f ARGS.toArray (if dk then .deferred else .normal)) := by
 unfold aFrame at k
 split at k
 ·rename_i fn hf
  obtain ⟨_, hfn, c, hc⟩ := aFunc_run (W := default) hf #[]
  split at k
  ·rename_i c' hc'
   cases b1 : Nat.ble args.length fn.ntmps with
   | false => rw [b1] at k; cases k
   | true =>
    cases b2 : Nat.ble fn.ntmps 1000000 with
    | false => rw [b1, b2] at k; cases k
    | true =>
     rw [b1, b2] at k
     cases k
     have p1 := Nat.le_of_ble_eq_true b1
     have p2 := Nat.le_of_ble_eq_true b2
     have hlen := ha.length
     have hempty : TRel e fn.ntmps Tr.leaf (([] : List Value) ++ List.replicate (ARGS.length + (fn.ntmps - ARGS.length)) undef).toArray :=
      ⟨by simp; omega, p2, fun i a q => by rw [Tr.get_leaf] at q; cases q⟩
     have h1 := fromArgs_rel p2 args 0 _ _ ARGS (by omega) ha hempty
     have h2 := setArgs (fn.ntmps - ARGS.length) ARGS []
     simp only [List.length_nil] at h2
     rw [h2] at h1
     refine { fn := rfl, known := ⟨fn, hfn⟩, tm := ?_, todo := fun _ => ?_, nocall := ?_, defers := .nil, mode := .run, kind := rfl, round := .none }
     ·have : (Frame.enter P f ARGS.toArray (if dk then .deferred else .normal)).tmps = ([] ++ ARGS ++ List.replicate (fn.ntmps - ARGS.length) undef).toArray := by
       simp [Frame.enter, hfn]
      rw [this]; exact h1
     ·have : (Frame.enter P f ARGS.toArray (if dk then .deferred else .normal)).todo = [.code c'] := by simp [Frame.enter, hfn, hc']
      rw [this]; exact .plain (.cons (.code c') .nil)
     ·have : (Frame.enter P f ARGS.toArray (if dk then .deferred else .normal)).todo = [.code c'] := by simp [Frame.enter, hfn, hc']
      rw [this]; trivial
  ·cases k
 ·cases k
end
end Go.AbsE

set_option linter.unusedSimpArgs false
namespace Go.AbsE
open Go
section
variable {P : Program} {w0 : Base} {e : Env} {h : AH} {W : World}
def SS (P : Program) (w0 : Base) (cs : List Frame) (M0 : Machine) (m : AM) : Prop :=
 ∃ e' F Fr W, Steps P M0 (lone F (Fr ++ cs) W) ∧ FRs P e' m.stack (F :: Fr) ∧ HR P w0 e' m.h W
theorem SS.head {cs : List Frame} {M0 M1 : Machine} {m : AM} (hs : Steps P M0 M1) (h : SS P w0 cs M1 m) : SS P w0 cs M0 m := by
 obtain ⟨e', F, Fr, W, h1, h2⟩ := h
 exact ⟨e', F, Fr, W, hs.trans h1, h2⟩
theorem one_some {h : AH} {rest : List AFr} {q : Option AFr} {m : AM} (k : one h rest q = some m) : ∃ fr, q = some fr ∧ m = ⟨fr :: rest, h⟩ := by
 unfold one at k
 split at k
 ·cases k; exact ⟨_, rfl, rfl⟩
 ·cases k
theorem finish_sim {fr fr' : AFr} {F : Frame} {v : AVal} {V : Value} (k : fr.finish v = some fr') (hF : FR P e fr F) (hv : VR e v V) : FR P e fr' (F.finish V) := by
 obtain ⟨fn, n, tmps, todo, defers, mode, dk, round⟩ := fr
 unfold AFr.finish at k
 cases mode with
 | returning => cases k
 | panicking c => cases k
 | run =>
  simp only [] at k
  have hfn := hF.fn
  have htm := hF.tm
  have htodo := hF.todo rfl
  have hdef := hF.defers
  have hmode := hF.mode
  have hkind := hF.kind
  have hround := hF.round
  obtain ⟨f0, T0, todo0, d0, m0, k0, r0⟩ := F
  dsimp only at *
  cases hmode
  cases htodo with
  | run h hp hs => cases k
  | wait h hp hs =>
   rename_i all B c d facts ta s t0 V0 tc D A l m
   unfold AFr.finishRun at k
   simp only [] at k
   split at k
   ·rename_i t ht
    cases k
    obtain ⟨rfl, hn⟩ := prepD_put ht
    obtain ⟨p1, p2, p3, p4, p5, p6, p7⟩ := h.plan
    obtain ⟨v1, v2, v3, v4⟩ := h.sched
    have hadv := (h.advA v).advD (e' := e) (i := d.i) (o := d.o) (VV := V) (.inr rfl) p1 hn (Env.le_refl e) (by simp only [if_true]; exact hv)
    have hpend := hp.advA (facts' := dropF d.bef facts) h v (D' := fun k => D k ∨ k = d.i) (fun _ hD => .inl hD) (fun i hi hA hnD f hfm hfi => by
     refine dropF_mem hfm ?_
     rw [p2]
     cases hbit : (B d.i).testBit f.i with
     | false => rfl
     | true => exact absurd (.inl (hfi ▸ h.bef hbit v3)) hnD) (.inl (.inr rfl))
    have hfin : Frame.finish { fn := f0, tmps := T0, todo := .inRegion all (d.i :: s) :: m, defers := d0, mode := .run, kind := k0, roundOf := r0 } V =
      {fn := f0, tmps := (match d.o.dst with | some d => T0.setIfInBounds d V | none => T0), todo := .inRegion all s :: m, defers := d0, mode := .run, kind := k0, roundOf := r0 } := by
     simp only [Frame.finish, p1, Option.bind_some]
     rfl
    rw [hfin]
    exact { fn := hfn, known := hF.known, tm := hadv.frame, todo := fun _ => .run hadv hpend hs, nocall := trivial, defers := hdef, mode := .run, kind := hkind, round := hround }
   ·cases k
  | plain htodo =>
   unfold AFr.finishRun at k
   split at k
   ·cases k
   ·rename_i it kk
    cases htodo with
    | cons hit hs =>
     rename_i IT Ks
     split at k
     ·rename_i all i ops
      cases hit with
      | inRegion hr =>
       split at k
       ·cases k
       ·rename_i o rest
        split at k
        ·rename_i t ht
         cases k
         have hlen : i < all.size := by
          have := congrArg List.length hr
          simp at this
          omega
         have hdrop : all.toList.drop i = all.toList[i]'(by simpa using hlen) :: all.toList.drop (i + 1) := List.drop_eq_getElem_cons _
         rw [hdrop] at hr
         injection hr with ho1 ho2
         have hoi : all[i]? = some o := by rw [ho1]; simp [hlen]
         have hrange : List.range' i (all.size - i) = i :: List.range' (i + 1) (all.size - (i + 1)) := by
          rw [show all.size - i = (all.size - (i + 1)) + 1 from by omega, List.range'_succ]
         rw [hrange]
         have hfin : Frame.finish { fn := f0, tmps := T0, todo := .inRegion all (i :: List.range' (i + 1) (all.size - (i + 1))) :: Ks, defers := d0, mode := .run, kind := k0, roundOf := r0 } V =
           {fn := f0, tmps := (match o.dst with | some d => T0.setIfInBounds d V | none => T0), todo := .inRegion all (List.range' (i + 1) (all.size - (i + 1))) :: Ks, defers := d0, mode := .run, kind := k0, roundOf := r0 } := by
          simp only [Frame.finish, hoi, Option.bind_some]
          rfl
         rw [hfin]
         exact { fn := hfn, known := hF.known, tm := prepD_rel htm hv ht, todo := fun _ => .plain (.cons (.inRegion ho2) hs), nocall := trivial, defers := hdef, mode := .run, kind := hkind, round := hround }
        ·cases k
     ·cases hit
     ·rename_i l
      cases hit with
      | inRangeFunc hl =>
       cases k
       exact { fn := hfn, known := hF.known, tm := htm, todo := fun _ => .plain (.cons (.endRangeFunc hl) hs), nocall := trivial, defers := hdef, mode := .run, kind := hkind, round := hround }
     ·cases hit
      cases k
      exact { fn := hfn, known := hF.known, tm := htm, todo := fun _ => .plain hs, nocall := hs.noCall, defers := hdef, mode := .run, kind := hkind, round := hround }
     ·cases k
theorem raise_sim {fr : AFr} {F : Frame} (hF : FR P e fr F) {es : List AEntry} {ES : List PanicEntry} (hes : ERs e es ES) : FR P e (fr.raise es) (F.raise ES) := by
 obtain ⟨fn, n, tmps, todo, defers, mode, dk, round⟩ := fr
 have hmode := hF.mode
 have hnc := hF.nocall
 obtain ⟨f0, T0, todo0, d0, m0, k0, r0⟩ := F
 dsimp only at *
 cases hmode with
 | run => exact { fn := hF.fn, known := hF.known, tm := hF.tm, todo := (fun q => by cases q), nocall := hnc, defers := hF.defers, mode := .panicking hes, kind := hF.kind, round := hF.round }
 | returning => exact { fn := hF.fn, known := hF.known, tm := hF.tm, todo := (fun q => by cases q), nocall := hnc, defers := hF.defers, mode := .panicking hes, kind := hF.kind, round := hF.round }
 | panicking hc => exact { fn := hF.fn, known := hF.known, tm := hF.tm, todo := (fun q => by cases q), nocall := hnc, defers := hF.defers, mode := .panicking (hes.append hc), kind := hF.kind, round := hF.round }
theorem settle_sim {fr : AFr} {F : Frame} (hF : FR P e fr F) : FR P e (settleA fr) { F with mode := settle F.mode } := by
 obtain ⟨fn, n, tmps, todo, defers, mode, dk, round⟩ := fr
 have hmode := hF.mode
 have hnc := hF.nocall
 obtain ⟨f0, T0, todo0, d0, m0, k0, r0⟩ := F
 dsimp only at *
 cases hmode with
 | run => exact hF
 | returning => exact hF
 | panicking hc =>
  cases hc with
  | nil => exact hF
  | cons hv hs =>
   rename_i v V rc l m
   unfold settleA
   simp only []
   have hdw : ∀ {l : List AEntry} {m : List PanicEntry}, ERs e l m → m.dropWhile (!·.goexit) = [] := by
    intro l m hh
    induction hh with
    | nil => rfl
    | cons _ _ ih => simpa [List.dropWhile] using ih
   cases rc with
   | true =>
    have : settle (.panicking ({ v := V, recovered := true, goexit := false } :: m)) = .returning := by simp [settle, hdw hs]
    rw [this]
    exact { fn := hF.fn, known := hF.known, tm := hF.tm, todo := (fun q => by cases q), nocall := hnc, defers := hF.defers, mode := .returning, kind := hF.kind, round := hF.round }
   | false =>
    have : settle (.panicking ({ v := V, recovered := false, goexit := false } :: m)) = .panicking ({ v := V, recovered := false, goexit := false } :: m) := by simp [settle]
    rw [this]
    exact hF
def resOf (T : Array Value) (x : ResultVar) : Sem Value :=
 match x with
 | .tmp t => pure (T.getD t undef)
 | .cell a t => do Go.loadVar t (← asAddr (T.getD a undef))
theorem results_eq (fn : Func) (T : Array Value) : results fn T = (fn.results.mapM (resOf T) >>= fun vs => pure (if h : vs.size = 1 then vs[0] else .tuple vs)) := rfl
theorem aResults_run (r : HR P w0 e h W) {n : Nat} {t : Tr AVal} {T : Array Value} (hT : TRel e n t T) : ∀ {l : List ResultVar} {vs : List AVal}, aResults P h t l = some vs →
  ∃ VS, VRs e vs VS ∧ RunsAll P W (resOf T) l VS := by
 intro l
 induction l with
 | nil => intro vs k; simp [aResults] at k; subst k; exact ⟨[], .nil, .nil⟩
 | cons x l ih =>
  intro vs k
  cases x with
  | tmp i =>
   simp only [aResults] at k
   split at k
   ·rename_i v hv
    split at k
    ·rename_i l' hl
     cases k
     obtain ⟨VS, h1, h2⟩ := ih hl
     obtain ⟨V, g1, g2⟩ := hT.2.2 i _ hv
     refine ⟨V :: VS, .cons g2 h1, .cons ?_ h2⟩
     simp [resOf, g1, run_pure']
    ·cases k
   ·cases k
  | cell a ty =>
   simp only [aResults] at k
   split at k
   ·rename_i b off hp
    split at k
    ·rename_i v hv
     split at k
     ·rename_i l' hl
      cases k
      obtain ⟨VS, h1, h2⟩ := ih hl
      obtain ⟨V, g1, g2⟩ := hT.2.2 a _ hp
      obtain ⟨B, c, U, q1, q2, q3⟩ := loadVar_sim r hv
      cases g2 with
      | ptr hb =>
       rw [q1] at hb; cases hb
       refine ⟨U :: VS, .cons q2 h1, .cons ?_ h2⟩
       simp [resOf, g1, asAddr, Sem.run_bind', run_pure', q3]
     ·cases k
    ·cases k
   ·cases k
theorem aResult_run (r : HR P w0 e h W) {n : Nat} {t : Tr AVal} {T : Array Value} (hT : TRel e n t T) {f : FuncId} {v : AVal} (k : aResult P h f t = some v) :
  ∃ fn V, P.funcs[f]? = some fn ∧ VR e v V ∧ (results fn T).run P W = .ok V W := by
 unfold aResult at k
 split at k
 ·rename_i fn hf
  split at k
  ·rename_i vs hvs
   cases k
   obtain ⟨VS, h1, h2⟩ := aResults_run r hT hvs
   have hrun : (results fn T).run P W = .ok (if hh : VS.toArray.size = 1 then VS.toArray[0] else .tuple VS.toArray) W := by
    rw [results_eq, Sem.run_bind', run_mapMA h2]
    rfl
   refine ⟨fn, _, hf, ?_, hrun⟩
   cases h1 with
   | nil => exact .tuple .nil
   | cons ha hs =>
    cases hs with
    | nil => exact ha
    | cons hb hs2 => exact .tuple (.cons ha (.cons hb hs2))
  ·cases k
 ·cases k
theorem aReturn_sim (r : HR P w0 e h W) {dk : Bool} {rest : List AFr} {Fr : List Frame} {v : AVal} {V : Value} {m : AM} (hFr : FRs P e rest Fr) (hv : VR e v V) (k : aReturn dk rest v h = some m) {cs : List Frame} {M0 : Machine}
  (h1 : dk = false → ∀ C Cs, Fr = C :: Cs → Steps P M0 (lone (C.finish V) (Cs ++ cs) W))
  (h2 : dk = true → ∀ C Cs, Fr = C :: Cs → Steps P M0 (lone { C with mode := settle C.mode } (Cs ++ cs) W)) : SS P w0 cs M0 m := by
 unfold aReturn at k
 split at k
 ·cases k
 ·rename_i c rest
  cases hFr with
  | cons hc hs =>
   cases dk with
   | true =>
    cases k
    exact ⟨e, _, _, W, h2 rfl _ _ rfl, .cons (settle_sim hc) hs, r⟩
   | false =>
    obtain ⟨fr, q1, rfl⟩ := one_some (show one h rest (c.finish v) = some m from k)
    exact ⟨e, _, _, W, h1 rfl _ _ rfl, .cons (finish_sim q1 hc hv) hs, r⟩
theorem invoke_enter {fn : Fn} {cap args : List AVal} {CAP ARGS : List Value} (hf : ∀ l, fn ≠ .yield l) (hc : VRs e cap CAP) (ha : VRs e args ARGS) {f : FuncId} {as : List AVal} {h' : AH}
  (k : aInvoke P fn cap args h = some (.enter f as h')) (r : HR P w0 e h W) : h' = h ∧ ∃ A, (invoke (.fn fn CAP.toArray) ARGS.toArray).run P W = .ok (.enter f A.toArray) W ∧ VRs e as A := by
 have _ := r.size
 exact aInvoke_sim (w0 := w0) (W := W) hf hc ha k rfl
theorem takeDeferred_run {B : Nat} {DS : List Deferred} (hk : W.heap[B]? = some (.deferred (some DS))) : (Instr.takeDeferred B).run P W = .ok DS (World.upd W B (.deferred none)) := by
 have hnc : ∀ c el fr, (Obj.deferred (some DS)) ≠ .cells c el fr := by intros; intro q; cases q
 simp only [Instr.takeDeferred, Sem.run_bind', run_getObj hk hnc, run_setObj hk hnc, run_pure']
theorem aUnwind_sim (r : HR P w0 e h W) {fr : AFr} {rest : List AFr} {F : Frame} {Fr : List Frame} (hF : FR P e fr F) (hFr : FRs P e rest Fr) {m : AM} (hm : fr.mode ≠ .run)
  (k : aUnwind P fr rest h = some m) (cs : List Frame) : SS P w0 cs (lone F (Fr ++ cs) W) m := by
 obtain ⟨fn, n, tmps, todo, defers, mode, dk, round⟩ := fr
 have hfn := hF.fn
 obtain ⟨fun0, hknown⟩ := hF.known
 have htm := hF.tm
 have hnc := hF.nocall
 have hdef := hF.defers
 have hmode := hF.mode
 have hkind := hF.kind
 obtain ⟨f0, T0, todo0, d0, m0, k0, r0⟩ := F
 dsimp only at *
 subst hfn
 have hm0 : m0 ≠ .run := by intro q; subst q; cases hmode; exact hm rfl
 unfold aUnwind at k
 simp only [] at k
 cases hdef with
 | cons hd hds =>
  rename_i ad D ads Ds
  cases hd with
  | collected hb =>
   rename_i bb B c
   simp only [] at k
   split at k
   ·rename_i calls hg
    split at k
    ·rename_i h' hset
     cases k
     obtain ⟨B', c', O, q1, q2, q3, q4⟩ := r.blk _ _ hg
     rw [hb] at q1; cases q1
     cases q4 with
     | deferred hcalls =>
      rename_i DS
      have hstep : step P (lone { fn := f0, tmps := T0, todo := todo0, defers := { target := .collected B, args := #[] } :: Ds, mode := m0, kind := k0, roundOf := r0 } (Fr ++ cs) W) =
        .next (lone { fn := f0, tmps := T0, todo := todo0, defers := DS ++ Ds, mode := m0, kind := k0, roundOf := r0 } (Fr ++ cs) (World.upd W B (.deferred none))) := by
       refine step_lone_go ?_
       have ht := takeDeferred_run (P := P) q3
       cases m0 with
       | run => exact absurd rfl hm0
       | returning => simp [stepG, unwind, ht]
       | panicking ch => simp [stepG, unwind, ht]
      exact ⟨e, _, Fr, _, .one hstep, .cons { fn := rfl, known := ⟨fun0, hknown⟩, tm := htm, todo := (fun q => absurd q hm), nocall := hnc, defers := hcalls.append hds, mode := hmode, kind := hkind, round := hF.round } hFr,
       r.set hg rfl hb hset .taken⟩
    ·cases k
   ·cases k
  | call hnf hc ha =>
   rename_i g cap args C A
   simp only [] at k
   split at k
   ·rename_i f as h' hi
    obtain ⟨fr', q1, rfl⟩ := one_some k
    obtain ⟨rfl, A', q2, q3⟩ := invoke_enter hnf hc ha hi r
    have hstep := step_defer (P := P) (fr := { fn := f0, tmps := T0, todo := todo0, defers := { target := .fn g C.toArray, args := A.toArray } :: Ds, mode := m0, kind := k0, roundOf := r0 }) (cs := Fr ++ cs) hm0 rfl rfl q2
    refine ⟨e, _, _ :: Fr, W, .one hstep, .cons (aFrame_sim q3 q1) (.cons ?_ hFr), r⟩
    exact { fn := rfl, known := ⟨fun0, hknown⟩, tm := htm, todo := (fun q => absurd q hm), nocall := hnc, defers := hds, mode := hmode, kind := hkind, round := hF.round }
   ·cases k
 | nil =>
  simp only [] at k
  cases hmode with
  | run => exact absurd rfl hm
  | panicking hch =>
   rename_i l ch
   simp only [] at k
   split at k
   ·rename_i c rest'
    cases k
    cases hFr with
    | cons hc hs =>
     rename_i C Cs
     have hstep : step P (lone { fn := f0, tmps := T0, todo := todo0, defers := [], mode := .panicking ch, kind := k0, roundOf := r0 } (C :: Cs ++ cs) W) = .next (lone (C.raise ch) (Cs ++ cs) W) := by
      refine step_lone_go ?_
      have hcatch : Frame.catches P { fn := f0, tmps := T0, todo := todo0, defers := [], mode := .panicking ch, kind := k0, roundOf := r0 } = false := by simp [Frame.catches, hknown]
      simp [stepG, unwind, hcatch]
     exact ⟨e, _, Cs, W, .one hstep, .cons (raise_sim hc hch) hs, r⟩
   ·cases k
  | returning =>
   simp only [] at k
   split at k
   ·rename_i v hv
    obtain ⟨fn1, V, q1, q2, q3⟩ := aResult_run r htm hv
    refine aReturn_sim r hFr q2 k (fun hdk C Cs hC => ?_) (fun hdk C Cs hC => ?_)
    ·subst hC
     subst hdk
     exact .one (step_leave_returned (fr := { fn := f0, tmps := T0, todo := todo0, defers := [], mode := .returning, kind := k0, roundOf := r0 }) ⟨rfl, rfl, hkind, fn1, q1, q3⟩)
    ·subst hC
     subst hdk
     exact .one (step_going_returned (fr := { fn := f0, tmps := T0, todo := todo0, defers := [], mode := .returning, kind := k0, roundOf := r0 }) hkind ⟨rfl, rfl, fn1, q1, q3⟩)
   ·cases k
end
end Go.AbsE

set_option linter.unusedSimpArgs false
namespace Go.AbsE
open Go
section
variable {P : Program} {w0 : Base} {e : Env} {h : AH} {W : World}
theorem putArgs_rel {n : Nat} : ∀ {ps : List Tmp} {args : List AVal} {ARGS : List Value} {t t' : Tr AVal} {T : Array Value}, TRel e n t T → VRs e args ARGS → putArgs t n ps args = some t' →
  ps.length = ARGS.length ∧ TRel e n t' ((ps.zip ARGS).foldl (fun T x => T.setIfInBounds x.1 x.2) T) := by
 intro ps
 induction ps with
 | nil =>
  intro args ARGS t t' T hT ha k
  cases ha with
  | nil => simp [putArgs] at k; subst k; exact ⟨rfl, hT⟩
  | cons _ _ => simp [putArgs] at k
 | cons p ps ih =>
  intro args ARGS t t' T hT ha k
  cases ha with
  | nil => simp [putArgs] at k
  | cons h1 h2 =>
   simp only [putArgs] at k
   cases hb : Nat.blt p n with
   | false => rw [hb] at k; cases k
   | true =>
    rw [hb] at k
    obtain ⟨q1, q2⟩ := ih (hT.put (blt_true hb) h1) h2 k
    exact ⟨by simp [q1], q2⟩
theorem getLoop_blk (r : HR P w0 e h W) {l : Nat} {lp : ALoop} (k : aGetLoop h l = some lp) : h.get l = some (.loop lp) ∧
  ∃ L c T D cD, e l = some (L, c) ∧ ¬ w0.prot L ∧ TRel e lp.n lp.tmps T ∧ e lp.defers = some (D, cD) ∧
   W.heap[L]? = some (.loop { state := lp.state, pending := lp.pending, fn := lp.fn, tmps := T, params := lp.params.toArray, assign := lp.assign, body := lp.body, defers := D }) := by
 unfold aGetLoop at k
 split at k
 ·rename_i r' hg
  cases k
  obtain ⟨B, c, O, k1, k2, k3, k4⟩ := r.blk _ _ hg
  cases k4 with
  | loop hT hd => exact ⟨hg, B, c, _, _, _, k1, k2 rfl, hT, hd, k3⟩
 ·cases k
theorem noCells_loop {r : Loop} : ∀ c el fr, (Obj.loop r) ≠ .cells c el fr := by intros; intro q; cases q
theorem run_getLoop {L : Nat} {r : Loop} (hk : W.heap[L]? = some (.loop r)) : (Instr.getLoop L).run P W = .ok r W := by
 simp only [Instr.getLoop, Sem.run_bind', run_getObj hk noCells_loop, run_pure']
def Still (W W' : World) : Prop :=
 W'.os = W.os ∧ W'.tape = W.tape ∧ W'.output = W.output ∧ W.heap.size ≤ W'.heap.size ∧ (∀ i, i < W.heap.size → W'.heap[i]? = W.heap[i]?) ∧ ∀ i O, W.heap.size ≤ i → W'.heap[i]? = some O → unfrozen O
def JOk (P : Program) (J : Jump) : Prop := ∀ f args h v, J.run f args h = some v → ∀ (w0 : Base) (e : Env) (W : World) (ARGS : List Value), HR P w0 e h W → VRs e args ARGS →
 Calls P f ARGS.toArray W fun en W' => ∃ V, en = .returned V ∧ VR e v V ∧ Still W W'
theorem noJ_ok : JOk P noJ := fun _ _ _ _ q => by cases q
theorem HR.still (r : HR P w0 e h W) {W' : World} (s : Still W W') : HR P w0 e h W' := by
 obtain ⟨s1, s2, s3, s4, s5, s6⟩ := s
 refine ⟨r.dom, fun b o k => ?_, r.inj, fun B CS hi => ?_, s1.trans r.os, s2.trans r.tape, s3.trans r.output, Nat.le_trans r.size s4, fun i hi => ?_, fun i O hi hO => ?_⟩
 ·obtain ⟨B, c, O, k1, k2, k3, k4⟩ := r.blk b o k
  exact ⟨B, c, O, k1, k2, by rw [s5 B (Array.getElem?_eq_some_iff.1 k3).1]; exact k3, k4⟩
 ·obtain ⟨⟨el, i1⟩, i2⟩ := r.imm B CS hi
  exact ⟨⟨el, by rw [s5 B (Array.getElem?_eq_some_iff.1 i1).1]; exact i1⟩, i2⟩
 ·rw [s5 i (Nat.lt_of_lt_of_le (w0.lt i hi) r.size)]; exact r.old i hi
 ·by_cases hq : i < W.heap.size
  ·rw [s5 i hq] at hO; exact r.young i O hi hO
  ·exact s6 i O (by omega) hO
theorem HR.isStill {W0 : World} (r : HR P (Base.all W0) e h W) : Still W0 W := ⟨r.os, r.tape, r.output, r.size, r.old, r.young⟩
theorem aNext_sim {J : Jump} (hJ : JOk P J) {fn n : Nat} {t : Tr AVal} {k : List AItem} {ds : List ADef} {dk : Bool} {round : Option Nat} {F : Frame} {rest : List AFr} {Fr : List Frame} {x : ANext}
  (hF : FR P e ⟨fn, n, t, k, ds, .run, dk, round⟩ F) (hFr : FRs P e rest Fr) (hw : Waits P w0 e F.todo F.tmps W x) {m : AM}
  (kn : aNext P J ⟨fn, n, t, k, ds, .run, dk, round⟩ rest x = some m) (cs : List Frame) : SS P w0 cs (lone F (Fr ++ cs) W) m := by
 obtain ⟨all, i, o, rs, K, hh, hK, hoi, hwr, hr, hsim, hnv⟩ := hw
 have htodo := hF.todo rfl
 have hmode : F.mode = .run := by have := hF.mode; generalize F.mode = M at this; cases this; rfl
 have hFw : F = Frame.w F F.tmps (.inRegion all (i :: rs) :: K) := by
  obtain ⟨f0, T0, todo0, d0, m0, k0, r0⟩ := F
  simp only [Frame.w] at *
  rw [hK]
 have hg := stG_op (P := P) (cs := Fr ++ cs) (W := W) hmode (T := F.tmps) (k := K) (rest := rs) hoi hwr
 rw [← hFw] at hg
 have hnd : ∀ y, (execOp (opd F.tmps) o).run P W = y → (∀ D W', y ≠ .ok (.defer D) W') → (∀ hl W', y ≠ .halt hl W') → F.roundOf = none ∨ ∀ c, o.op ≠ .defer c := by
  intro y hy h1 h2
  refine .inr fun c hc => ?_
  have : (execOp (opd F.tmps) o) = (do pure (Next.defer (← resolve (opd F.tmps) c o.type)) : Sem Next) := by simp [execOp, hc]
  rw [this, Sem.run_bind'] at hy
  split at hy
  ·exact h1 _ _ hy.symm
  ·exact h2 _ _ hy.symm
 have hkindw : ∀ (q : CallKind), (match F.todo with | .call _ true _ _ :: _ => CallKind.wrapped | _ => .normal) = .normal := by intro _; rw [hK]
 cases x with
 | val v h' => exact absurd rfl (hnv v h')
 | enter f args h' =>
  obtain ⟨rfl, A, q1, q2⟩ := hsim
  have hs : step P (lone F (Fr ++ cs) W) = .next (lone (Frame.enter P f A.toArray .normal) (F :: (Fr ++ cs)) W) := by
   refine step_lone_go ?_
   rw [hg (hnd _ q1 (fun _ _ q => by cases q) (fun _ _ q => by cases q))]
   simp [stepG.apply, q1, hK]
  change enterJ P _ rest f args h' (J.run f args h') = some m at kn
  cases hj : J.run f args h' with
  | none =>
   rw [hj] at kn
   obtain ⟨fr', q3, rfl⟩ := one_some (show one h' (_ :: rest) (aFrame P f args false) = some m from kn)
   exact ⟨e, _, F :: Fr, W, .one hs, .cons (aFrame_sim q2 q3) (.cons hF hFr), hr⟩
  | some v =>
   rw [hj] at kn
   obtain ⟨fr', q3, rfl⟩ := one_some (show one h' rest (AFr.finish _ v) = some m from kn)
   obtain ⟨en, W', fr0, ⟨V, rfl, hV, hst⟩, hcomes, hfn, hleave⟩ := hJ f args h' v hj w0 e W A hr q2 (F :: (Fr ++ cs))
   exact ⟨e, _, Fr, W', Steps.trans (.one hs) (Steps.trans hcomes (.one (step_leave_returned hleave))), .cons (finish_sim q3 hF hV) hFr, hr.still hst⟩
 | round l args h' =>
  obtain ⟨rfl, L, c, A, q1, q2, q3⟩ := hsim
  change nextRound P _ rest h' l args = some m at kn
  unfold nextRound at kn
  split at kn
  ·rename_i lp hl
   split at kn
   ·rename_i t' fnx ht' hfx
    cases kn
    obtain ⟨g1, L', c', T, D, cD, g2, g3, g4, g5, g6⟩ := getLoop_blk hr hl
    rw [q1] at g2; cases g2
    obtain ⟨p1, p2⟩ := putArgs_rel g4 q2 ht'
    have hy : (Instr.yield L A.toArray).run P W = .ok (.round L lp.fn ((lp.params.zip A).foldl (fun T x => T.setIfInBounds x.1 x.2) T) lp.assign lp.body) W := by
     unfold Instr.yield
     rw [Sem.run_bind', run_getLoop g6]
     simp only [List.size_toArray]
     rw [if_neg (by omega)]
     simp [run_pure', List.zip_toArray]
    rw [hy] at q3
    have hs : step P (lone F (Fr ++ cs) W) = .next (lone (Frame.round L lp.fn ((lp.params.zip A).foldl (fun T x => T.setIfInBounds x.1 x.2) T) lp.assign lp.body .normal) (F :: (Fr ++ cs)) W) := by
     refine step_lone_go ?_
     rw [hg (hnd _ q3 (fun _ _ q => by cases q) (fun _ _ q => by cases q))]
     simp [stepG.apply, q3, hK]
    refine ⟨e, _, F :: Fr, W, .one hs, .cons ?_ (.cons hF hFr), hr⟩
    exact { fn := rfl, known := ⟨_, hfx⟩, tm := p2, todo := fun _ => .plain (.cons (.code _) (.cons .beginRound (.cons (.code _) .nil))), nocall := trivial, defers := .nil, mode := .run, kind := rfl, round := .some q1 }
   ·cases kn
  ·cases kn
 | defer d h' =>
  obtain ⟨rfl, D, q1, q2⟩ := hsim
  cases round with
  | some l0 => cases kn
  | none =>
   obtain ⟨fr', q3, rfl⟩ := one_some (show one h' rest (AFr.finish ⟨fn, n, t, k, d :: ds, .run, dk, none⟩ undefA) = some m from kn)
   have hrd : F.roundOf = none := by have := hF.round; generalize F.roundOf = M at this; cases this; rfl
   have hF2 : FR P e ⟨fn, n, t, k, d :: ds, .run, dk, none⟩ { F with defers := D :: F.defers } :=
    {fn := hF.fn, known := hF.known, tm := hF.tm, todo := fun _ => hF.todo rfl, nocall := hF.nocall, defers := .cons q2 hF.defers, mode := hF.mode, kind := hF.kind, round := hF.round }
   have hs : step P (lone F (Fr ++ cs) W) = .next (lone (Frame.finish { F with defers := D :: F.defers } undef) (Fr ++ cs) W) := by
    refine step_lone_go ?_
    rw [hg (.inl hrd)]
    simp [stepG.apply, q1]
   exact ⟨e, _, Fr, W, .one hs, .cons (finish_sim q3 hF2 (.tuple .nil)) hFr, hr⟩
 | recover h' =>
  obtain ⟨rfl, q1⟩ := hsim
  change nextRecover _ rest h' = some m at kn
  unfold nextRecover at kn
  simp only [] at kn
  split at kn
  ·cases kn
  ·have hrd : F.roundOf = none := by have := hF.round; generalize F.roundOf = M at this; cases this; rfl
   have hkd := hF.kind
   have hap : ∀ (y : Option (Value × List Frame)), tryRecover F (Fr ++ cs) = y → step P (lone F (Fr ++ cs) W) = .next (match y with | some (v, callers) => lone (F.finish v) callers W | none => lone (F.finish .nilIface) (Fr ++ cs) W) := by
    intro y hy
    cases y with
    | none =>
     refine step_lone_go ?_
     rw [hg (.inl hrd)]
     simp [stepG.apply, q1, hrd, hy]
    | some vc =>
     refine step_lone_go ?_
     rw [hg (.inl hrd)]
     simp [stepG.apply, q1, hrd, hy]
   cases dk with
   | false =>
    obtain ⟨fr', q3, rfl⟩ := one_some (show one h' rest _ = some m from kn)
    have hk2 : F.kind = .normal := hkd
    have hy : tryRecover F (Fr ++ cs) = none := by unfold tryRecover; rw [hk2]
    exact ⟨e, _, Fr, W, .one (hap none hy), .cons (finish_sim q3 hF .nilIface) hFr, hr⟩
   | true =>
    simp only [cond_true] at kn
    have hk2 : F.kind = .deferred := hkd
    cases hFr with
    | nil => cases kn
    | cons hc hs =>
     rename_i c C rest' Cs
     simp only [] at kn
     obtain ⟨cfn, cn, ctm, ctodo, cdef, cmode, cdk, cround⟩ := c
     have hcm := hc.mode
     have hcn := hc.nocall
     obtain ⟨f1, T1, todo1, d1, m1, k1, r1⟩ := C
     dsimp only at hcm hcn
     have plain : (∀ ev older, m1 ≠ .panicking ({ v := ev, recovered := false, goexit := false } :: older)) → aRecover (⟨cfn, cn, ctm, ctodo, cdef, cmode, cdk, cround⟩ :: rest') = none →
       SS P w0 cs (lone F ({ fn := f1, tmps := T1, todo := todo1, defers := d1, mode := m1, kind := k1, roundOf := r1 } :: Cs ++ cs) W) m := by
      intro hne har
      rw [har] at kn
      obtain ⟨fr', q3, rfl⟩ := one_some kn
      have hy : tryRecover F ({ fn := f1, tmps := T1, todo := todo1, defers := d1, mode := m1, kind := k1, roundOf := r1 } :: Cs ++ cs) = none := by
       unfold tryRecover
       rw [hk2]
       simp only [List.cons_append]
      exact ⟨e, _, _ :: Cs, W, .one (hap none hy), .cons (finish_sim q3 hF .nilIface) (.cons hc hs), hr⟩
     cases hcm with
     | run => exact plain (fun _ _ q => by cases q) rfl
     | returning => exact plain (fun _ _ q => by cases q) rfl
     | panicking hch =>
      cases hch with
      | nil => exact plain (fun _ _ q => by cases q) rfl
      | cons hv hes =>
       rename_i v V rc l ml
       cases rc with
       | true => exact plain (fun _ _ q => by injection q with q1; injection q1 with q2; injection q2 with _ q3; cases q3) rfl
       | false =>
        have har : aRecover (⟨cfn, cn, ctm, ctodo, cdef, .panicking ({ v := v, recovered := false } :: l), cdk, cround⟩ :: rest') =
          some (v, ⟨cfn, cn, ctm, ctodo, cdef, .panicking ({ v := v, recovered := true } :: l), cdk, cround⟩ :: rest') := rfl
        rw [har] at kn
        obtain ⟨fr', q3, rfl⟩ := one_some kn
        have hy : tryRecover F ({ fn := f1, tmps := T1, todo := todo1, defers := d1, mode := .panicking ({ v := V, recovered := false, goexit := false } :: ml), kind := k1, roundOf := r1 } :: Cs ++ cs) =
          some (V, { fn := f1, tmps := T1, todo := todo1, defers := d1, mode := .panicking ({ v := V, recovered := true } :: ml), kind := k1, roundOf := r1 } :: (Cs ++ cs)) := by
         unfold tryRecover
         rw [hk2]
         rfl
        refine ⟨e, _, _ :: Cs, W, .one (hap _ hy), .cons (finish_sim q3 hF hv) (.cons ?_ hs), hr⟩
        exact { fn := hc.fn, known := hc.known, tm := hc.tm, todo := (fun q => by cases q), nocall := hcn, defers := hc.defers, mode := .panicking (.cons hv hes), kind := hc.kind, round := hc.round }
 | panic v h' =>
  obtain ⟨rfl, V, q1, q2⟩ := hsim
  cases kn
  by_cases hdc : F.roundOf = none ∨ ∀ c, o.op ≠ .defer c
  ·have hs : step P (lone F (Fr ++ cs) W) = .next (lone (F.raise [{ v := V, recovered := false }]) (Fr ++ cs) W) := by
    refine step_lone_go ?_
    rw [hg hdc]
    simp [stepG.apply, q1]
   exact ⟨e, _, Fr, W, .one hs, .cons (raise_sim hF (.cons q2 .nil)) hFr, hr⟩
  ·exfalso
   apply hdc
   refine .inr fun c hc => ?_
   have h1 : (execOp (opd F.tmps) o) = (do pure (Next.defer (← resolve (opd F.tmps) c o.type)) : Sem Next) := by simp [execOp, hc]
   rw [h1, Sem.run_bind'] at q1
   have h2 : ∀ hl W', (resolve (opd F.tmps) c o.type).run P W ≠ .halt (.panic hl) W' := by
    intro hl W'
    unfold resolve
    cases c.callee with
    | builtin b => intro q; cases q
    | invoke r nm => intro q; cases q
    | value f =>
     simp only []
     cases opd F.tmps f <;> intro q <;> cases q
   split at q1
   ·cases q1
   ·rename_i hl W' hq
    cases q1
    exact h2 _ _ hq
end
end Go.AbsE

set_option linter.unusedSimpArgs false
namespace Go.AbsE
open Go
section
variable {P : Program} {w0 : Base} {e : Env} {h : AH} {W : World}
inductive Leaves0 : Option Code → List Item → Prop
 | done : Leaves0 none []
 | ret (J) : Leaves0 (some .ret) (.code .ret :: J)
 | exit {id J} (h : exitTo id J = none) : Leaves0 (some (.exit id)) (.code (.exit id) :: J)
theorem st_leave_plain {b : Frame} (hb : b.mode = .run) (hr : b.roundOf = none) {T : Array Value} {J : List Item} {cs : List Frame} {jump : Option Code} (hl : Leaves0 jump J) (hj : jump = none ∨ jump = some .ret) :
  step P (lone (Frame.w b T J) cs W) = .next (lone { Frame.w b T J with mode := .returning } cs W) := by
 refine step_lone_go ?_
 cases hl with
 | done => simp [stepG, stepG.exec, Frame.w, hb, hr]
 | ret J => simp [stepG, stepG.exec, Frame.w, hb, hr]
 | exit h => rcases hj with hj | hj <;> cases hj
theorem st_leave_round {b : Frame} (hb : b.mode = .run) {L : Nat} (hr : b.roundOf = some L) (hk : b.kind = .normal) {T : Array Value} {J : List Item} {C : Frame} {cs : List Frame} {jump : Option Code} (hl : Leaves0 jump J)
  {V : Value} {W' : World} (he : (Instr.endRound L jump).run P W = .ok V W') :
  step P (lone (Frame.w b T J) (C :: cs) W) = .next (lone (C.finish V) cs W') := by
 refine step_lone_go ?_
 cases hl with
 | done => simp [stepG, stepG.exec, Frame.w, hb, hr, he, doReturn, hk]
 | ret J => simp [stepG, stepG.exec, Frame.w, hb, hr, he, doReturn, hk]
 | exit h => simp [stepG, stepG.exec, Frame.w, hb, hr, he, doReturn, hk, h]
theorem endRound_run {L : Nat} {r : Loop} (hk : W.heap[L]? = some (.loop r)) (jump : Option Code) :
  (Instr.endRound L jump).run P W = .ok (.bool jump.isNone) (World.upd W L (.loop { r with state := if jump.isNone then .ready else .done, pending := jump })) := by
 simp only [Instr.endRound, Sem.run_bind', run_getLoop hk, run_setObj hk noCells_loop, run_pure']
theorem endRoundA_sim (r : HR P w0 e h W) {b : Frame} (hb : b.mode = .run) {dk : Bool} {l : Nat} {L c : Nat} (hl : e l = some (L, c)) (hr : b.roundOf = some L) (hkd : b.kind = if dk then .deferred else .normal)
  {T : Array Value} {J : List Item} {jump : Option Code} (hlv : Leaves0 jump J) {rest : List AFr} {Fr : List Frame} (hFr : FRs P e rest Fr) {m : AM} {st : LoopState} {go : Bool}
  (hst : st = if jump.isNone then .ready else .done) (hgo : go = jump.isNone) (k : endRoundA dk rest h l st jump go = some m) (cs : List Frame) : SS P w0 cs (lone (Frame.w b T J) (Fr ++ cs) W) m := by
 unfold endRoundA at k
 split at k
 ·rename_i lp hlp
  split at k
  ·rename_i h' hset
   cases dk with
   | true => cases k
   | false =>
    obtain ⟨g1, L', c', TT, D, cD, g2, g3, g4, g5, g6⟩ := getLoop_blk r hlp
    rw [hl] at g2; cases g2
    have hend := endRound_run (P := P) g6 jump
    have r' : HR P w0 e h' (World.upd W L (.loop { state := if jump.isNone then .ready else .done, pending := jump, fn := lp.fn, tmps := TT, params := lp.params.toArray, assign := lp.assign, body := lp.body, defers := D })) := by
     refine r.set g1 rfl hl hset ?_
     rw [hst]
     exact .loop g4 g5
    subst hgo
    refine aReturn_sim r' hFr (.bool _) k (fun _ C Cs hC => ?_) (fun q => by cases q)
    subst hC
    exact .one (st_leave_round hb hr hkd hlv hend)
  ·cases k
 ·cases k
theorem aLeave_sim (r : HR P w0 e h W) {b : Frame} (hb : b.mode = .run) {fn n : Nat} {t : Tr AVal} {todo : List AItem} {ds : List ADef} {dk : Bool} {round : Option Nat} (hfn : b.fn = fn) (hknown : ∃ f, P.funcs[fn]? = some f)
  {T : Array Value} (hT : TRel e n t T) (hds : DRs e ds b.defers) (hkd : b.kind = if dk then .deferred else .normal) (hrd : RdR e round b.roundOf)
  {J : List Item} {jump : Option Code} (hlv : Leaves0 jump J) {rest : List AFr} {Fr : List Frame} (hFr : FRs P e rest Fr) {m : AM}
  (k : aLeave ⟨fn, n, t, todo, ds, .run, dk, round⟩ rest h jump = some m) (cs : List Frame) : SS P w0 cs (lone (Frame.w b T J) (Fr ++ cs) W) m := by
 unfold aLeave at k
 simp only [] at k
 generalize hrb : b.roundOf = RO at hrd
 cases hrd with
 | none =>
  have plain : (jump = none ∨ jump = some .ret) → m = ⟨⟨fn, n, t, todo, ds, .returning, dk, none⟩ :: rest, h⟩ → SS P w0 cs (lone (Frame.w b T J) (Fr ++ cs) W) m := by
   rintro hj rfl
   refine ⟨e, _, Fr, W, .one (st_leave_plain hb hrb hlv hj), .cons ?_ hFr, r⟩
   exact { fn := hfn, known := hknown, tm := hT, todo := (fun q => by cases q), nocall := (by cases hlv <;> trivial), defers := hds, mode := .returning, kind := hkd, round := by show RdR e none b.roundOf; rw [hrb]; exact .none }
  cases hlv with
  | done => exact plain (.inl rfl) (by cases k; rfl)
  | ret J => exact plain (.inr rfl) (by cases k; rfl)
  | exit h => cases k
 | some hl =>
  cases hlv with
  | done => exact endRoundA_sim r hb hl hrb hkd .done hFr rfl rfl k cs
  | ret J => exact endRoundA_sim r hb hl hrb hkd (.ret J) hFr rfl rfl k cs
  | exit hx => exact endRoundA_sim r hb hl hrb hkd (.exit hx) hFr rfl rfl k cs
theorem doBegin_sim (r : HR P w0 e h W) {fr : AFr} {F : Frame} (hF : FR P e fr F) (hrun : fr.mode = .run) {k : List AItem} (ht : fr.todo = .beginRound :: k) {rest : List AFr} {Fr : List Frame} (hFr : FRs P e rest Fr) {m : AM}
  (q : doBegin fr rest h k = some m) (cs : List Frame) : SS P w0 cs (lone F (Fr ++ cs) W) m := by
 obtain ⟨fn, n, tmps, todo, defers, mode, dk, round⟩ := fr
 dsimp only at ht hrun
 subst ht
 subst hrun
 have htodo := (hF.todo rfl).irs (fun _ _ _ _ _ q => by cases q) (fun _ _ _ _ _ q => by cases q)
 have hmode := hF.mode
 have hround := hF.round
 obtain ⟨f0, T0, todo0, d0, m0, k0, r0⟩ := F
 dsimp only at htodo hmode hround
 cases hmode
 cases htodo with
 | cons h1 h2 =>
  cases h1
  rename_i K
  unfold doBegin at q
  simp only [] at q
  cases hround with
  | none => cases q
  | some hl =>
   rename_i l L c
   simp only [] at q
   split at q
   ·rename_i lp hlp
    split at q
    ·rename_i hst
     split at q
     ·rename_i h' hset
      cases q
      obtain ⟨g1, L', c', TT, D, cD, g2, g3, g4, g5, g6⟩ := getLoop_blk r hlp
      rw [hl] at g2; cases g2
      have hbegin : (Instr.beginRound L).run P W = .ok () (World.upd W L (.loop { state := .busy, pending := lp.pending, fn := lp.fn, tmps := TT, params := lp.params.toArray, assign := lp.assign, body := lp.body, defers := D })) := by
       simp only [Instr.beginRound, Sem.run_bind', run_getLoop g6, run_setObj g6 noCells_loop, hst, run_pure']
      have hs : step P (lone { fn := f0, tmps := T0, todo := .beginRound :: K, defers := d0, mode := .run, kind := k0, roundOf := some L } (Fr ++ cs) W) =
        .next (lone { fn := f0, tmps := T0, todo := K, defers := d0, mode := .run, kind := k0, roundOf := some L } (Fr ++ cs) (World.upd W L (.loop { state := .busy, pending := lp.pending, fn := lp.fn, tmps := TT, params := lp.params.toArray, assign := lp.assign, body := lp.body, defers := D }))) := by
       refine step_lone_go ?_
       simp [stepG, stepG.exec, stepG.apply, Sem.run_bind', hbegin, run_pure', Frame.finish]
      refine ⟨e, _, Fr, _, .one hs, .cons ?_ hFr, r.set g1 rfl hl hset (.loop g4 g5)⟩
      exact { fn := hF.fn, known := hF.known, tm := hF.tm, todo := fun _ => .plain h2, nocall := h2.noCall, defers := hF.defers, mode := .run, kind := hF.kind, round := .some hl }
     ·cases q
    ·cases q
   ·cases q
theorem doEndLoop_sim (r : HR P w0 e h W) {fr : AFr} {F : Frame} (hF : FR P e fr F) (hrun : fr.mode = .run) {l : Nat} {k : List AItem} (ht : fr.todo = .endRangeFunc l :: k) {rest : List AFr} {Fr : List Frame} (hFr : FRs P e rest Fr) {m : AM}
  (q : doEndLoop fr rest h l k = some m) (cs : List Frame) : SS P w0 cs (lone F (Fr ++ cs) W) m := by
 obtain ⟨fn, n, tmps, todo, defers, mode, dk, round⟩ := fr
 dsimp only at ht hrun
 subst ht
 subst hrun
 have htodo := (hF.todo rfl).irs (fun _ _ _ _ _ q => by cases q) (fun _ _ _ _ _ q => by cases q)
 have hmode := hF.mode
 obtain ⟨f0, T0, todo0, d0, m0, k0, r0⟩ := F
 dsimp only at htodo hmode
 cases hmode
 cases htodo with
 | cons h1 h2 =>
  cases h1 with
  | endRangeFunc hl =>
   rename_i K L c
   unfold doEndLoop at q
   simp only [] at q
   split at q
   ·rename_i lp hlp
    split at q
    ·cases q
    ·rename_i hnb
     split at q
     ·rename_i h' hset
      cases q
      obtain ⟨g1, L', c', TT, D, cD, g2, g3, g4, g5, g6⟩ := getLoop_blk r hlp
      rw [hl] at g2; cases g2
      have hne : ¬ ((lp.state == .busy) = true) := by
       intro hq
       have := eq_of_beq hq
       exact hnb this
      have hend : (Instr.endLoop L).run P W = .ok lp.pending (World.upd W L (.loop { state := .exhausted, pending := lp.pending, fn := lp.fn, tmps := TT, params := lp.params.toArray, assign := lp.assign, body := lp.body, defers := D })) := by
       simp only [Instr.endLoop, Sem.run_bind', run_getLoop g6, if_neg hne, run_setObj g6 noCells_loop, run_pure']
      have hs : step P (lone { fn := f0, tmps := T0, todo := .endRangeFunc L :: K, defers := d0, mode := .run, kind := k0, roundOf := r0 } (Fr ++ cs) W) =
        .next (lone { fn := f0, tmps := T0, todo := (lp.pending.map Item.code).toList ++ K, defers := d0, mode := .run, kind := k0, roundOf := r0 } (Fr ++ cs) (World.upd W L (.loop { state := .exhausted, pending := lp.pending, fn := lp.fn, tmps := TT, params := lp.params.toArray, assign := lp.assign, body := lp.body, defers := D }))) := by
       refine step_lone_go ?_
       simp [stepG, stepG.exec, hend]
      refine ⟨e, _, Fr, _, .one hs, .cons ?_ hFr, r.set g1 rfl hl hset (.loop g4 g5)⟩
      have htd : IRs e (match lp.pending with | some c => AItem.code c :: k | none => k) ((lp.pending.map Item.code).toList ++ K) := by
       cases lp.pending with
       | none => exact h2
       | some c => exact .cons (.code c) h2
      exact { fn := hF.fn, known := hF.known, tm := hF.tm, todo := fun _ => .plain htd, nocall := htd.noCall, defers := hF.defers, mode := .run, kind := hF.kind, round := hF.round }
     ·cases q
   ·cases q
end
end Go.AbsE

set_option linter.unusedSimpArgs false
namespace Go.AbsE
open Go
section
variable {P : Program} {w0 : Base} {e : Env} {h : AH} {W : World}
theorem run_newObj (O : Obj) : (newObj O).run P W = .ok W.heap.size (World.add W O) := by
 simp [newObj, Sem.run, World.add]
theorem rangeTail (r : HR P w0 e h W) {fn n : Nat} {tmps : Tr AVal} {k : List AItem} {ds ds' : List ADef} {dk : Bool} {round : Option Nat} {F : Frame} {K : List Item} {DS' : List Deferred} {f : Operand} {params : Array Tmp} {assign body : Code}
  (hF : FR P e ⟨fn, n, tmps, .code (.rangeFunc f params assign body) :: k, ds, .run, dk, round⟩ F) (hK : IRs e k K) {rest : List AFr} {Fr : List Frame} (hFr : FRs P e rest Fr)
  {d D cD : Nat} (hd : e d = some (D, cD)) (hds : DRs e ds' DS') {m : AM} {l : Nat} {h2 : AH} (hn : h.new (.loop ⟨.ready, none, fn, n, tmps, params.toList, assign, body, d⟩) = some (l, h2))
  {g : Fn} {first cap : List AVal} (hf : ev tmps f = some (.func g first cap)) {g' : FuncId} {args : List AVal} {h3 : AH} (hi : aInvoke P g cap (first ++ [.yield l]) h2 = some (.enter g' args h3))
  (ho : one h3 (⟨fn, n, tmps, .inRangeFunc l :: k, ds', .run, dk, round⟩ :: rest) (aFrame P g' args false) = some m) (cs : List Frame) {M0 : Machine}
  (hstep : ∀ (W2 : World) (L : Nat) (A : Array Value), L = W.heap.size →
   W2 = World.add W (.loop { state := .ready, pending := none, fn := F.fn, tmps := F.tmps, params, assign, body, defers := D }) →
   (do let d ← resolve (opd F.tmps) { callee := .value f, args := #[.const (.func (.yield L) #[] #[])], argTypes := #[] } 0; invoke d.target d.args : Sem Next).run P W2 = .ok (.enter g' A) W2 →
   Steps P M0 (lone (Frame.enter P g' A .normal) ({ F with todo := .inRangeFunc L :: K, defers := DS' } :: (Fr ++ cs)) W2)) : SS P w0 cs M0 m := by
 have hfn : F.fn = fn := hF.fn
 obtain ⟨fr', q1, rfl⟩ := one_some ho
 have hb : BR P (e.ext h.next (W.heap.size, 0)) 0 (.loop ⟨.ready, none, fn, n, tmps, params.toList, assign, body, d⟩)
   (.loop { state := .ready, pending := none, fn := fn, tmps := F.tmps, params := params.toList.toArray, assign, body, defers := D }) :=
  .loop (hF.tm.mono (Env.le_ext r.fresh)) ((Env.le_ext r.fresh).1 _ _ hd)
 obtain ⟨n1, n2, n3⟩ := r.new hn hb
 subst n1
 rw [Array.toArray_toList] at n3
 have hl := Env.ext_same e h.next (W.heap.size, 0)
 have hfv := ev_rel (hF.tm.mono n2) hf
 generalize hC : opd F.tmps f = C at hfv
 cases hfv with
 | func hnf hfi hca =>
  rename_i FI CA
  obtain ⟨rfl, A, a1, a2⟩ := invoke_enter hnf hca (hfi.append (.cons (.yield hl) .nil)) hi n3
  refine ⟨_, _, _ :: Fr, _, hstep _ W.heap.size A.toArray rfl rfl ?_, .cons (aFrame_sim a2 q1) (.cons ?_ (hFr.mono n2)), ?_⟩
  ·rw [hfn]
   have : (resolve (opd F.tmps) { callee := .value f, args := #[.const (.func (.yield W.heap.size) #[] #[])], argTypes := #[] } 0) = pure { target := .fn g CA.toArray, args := FI.toArray ++ #[.func (.yield W.heap.size) #[] #[]] } := by
    have hm1 : Array.map (opd F.tmps) #[Operand.const (Value.func (Fn.yield W.heap.size) #[] #[])] = #[Value.func (.yield W.heap.size) #[] #[]] := by simp [opd]
    simp only [resolve, hC, Deferred.ofValue, hm1]
   rw [this, Sem.run_bind', run_pure']
   simp only []
   have h5 : FI.toArray ++ #[Value.func (.yield W.heap.size) #[] #[]] = (FI ++ [Value.func (.yield W.heap.size) #[] #[]]).toArray := by simp
   rw [h5]; exact a1
  ·exact { fn := hfn, known := hF.known, tm := hF.tm.mono n2, todo := fun _ => .plain (.cons (.inRangeFunc hl) (hK.mono n2)), nocall := trivial, defers := hds.mono n2, mode := hF.mode.mono n2, kind := hF.kind, round := hF.round.mono n2 }
  ·rw [hfn]; exact n3
theorem doRangeFunc_sim (r : HR P w0 e h W) {fr : AFr} {F : Frame} (hF : FR P e fr F) (hrun : fr.mode = .run) {f : Operand} {params : Array Tmp} {assign body : Code} {k : List AItem}
  (ht : fr.todo = .code (.rangeFunc f params assign body) :: k) {rest : List AFr} {Fr : List Frame} (hFr : FRs P e rest Fr) {m : AM}
  (q : doRangeFunc P fr rest h f params assign body k = some m) (cs : List Frame) : SS P w0 cs (lone F (Fr ++ cs) W) m := by
 obtain ⟨fn, n, tmps, todo, defers, mode, dk, round⟩ := fr
 dsimp only at ht hrun
 subst ht
 subst hrun
 have htodo := (hF.todo rfl).irs (fun _ _ _ _ _ q => by cases q) (fun _ _ _ _ _ q => by cases q)
 have hmode := hF.mode
 have hround := hF.round
 have hfn := hF.fn
 have hdef := hF.defers
 obtain ⟨f0, T0, todo0, d0, m0, k0, r0⟩ := F
 dsimp only at htodo hmode hround hfn hdef
 cases hmode
 cases htodo with
 | cons h1 hK =>
  cases h1
  rename_i K
  unfold doRangeFunc at q
  simp only [] at q
  cases hround with
  | none =>
   simp only [] at q
   cases hnd : h.new (.deferred (some [])) with
   | none => rw [hnd] at q; simp only [] at q; cases q
   | some dh =>
    obtain ⟨d, h1⟩ := dh
    rw [hnd] at q
    simp only [] at q
    have hb : BR P (e.ext h.next (W.heap.size, 0)) 0 (.deferred (some [])) (.deferred (some [])) := .deferred .nil
    obtain ⟨n1, n2, n3⟩ := r.new hnd hb
    subst n1
    have hdl := Env.ext_same e h.next (W.heap.size, 0)
    split at q
    ·cases q
    ·rename_i l h2 hnl
     split at q
     ·rename_i g first cap hf
      split at q
      ·rename_i g' args h3 hi
       refine rangeTail n3 (F := { fn := f0, tmps := T0, todo := .code (.rangeFunc f params assign body) :: K, defers := d0, mode := .run, kind := k0, roundOf := none })
        (hF.mono n2) (hK.mono n2) (hFr.mono n2) hdl (DRs.cons (.collected hdl) (hdef.mono n2)) hnl hf hi q cs ?_
       intro W2 L A hL hW2 hres
       subst hL
       refine .one (step_lone_go ?_)
       have henter : (Instr.enterLoop f0 T0 params assign body none).run P W =
         .ok ((World.add W (.deferred (some []))).heap.size, [{ target := .collected W.heap.size, args := #[] }]) W2 := by
        simp only [Instr.enterLoop, Sem.run_bind', run_newObj, run_pure', hW2]
       have hev : ({ fn := f0, tmps := T0, todo := Item.inRangeFunc (World.add W (.deferred (some []))).heap.size :: K, defers := { target := .collected W.heap.size, args := #[] } :: d0, mode := .run, kind := k0, roundOf := none } : Frame).eval = opd T0 := eval_opd _
       simp [stepG, stepG.exec, stepG.apply, henter, hev, hres]
      ·cases q
     ·cases q
  | some hl0 =>
   rename_i l0 L0 c0
   simp only [] at q
   cases hgl : aGetLoop h l0 with
   | none => rw [hgl] at q; simp only [] at q; cases q
   | some lp =>
    rw [hgl] at q
    simp only [] at q
    obtain ⟨g1, L', c', TT, D, cD, g2, g3, g4, g5, g6⟩ := getLoop_blk r hgl
    rw [hl0] at g2; cases g2
    split at q
    ·cases q
    ·rename_i l h2 hnl
     split at q
     ·rename_i g first cap hf
      split at q
      ·rename_i g' args h3 hi
       refine rangeTail r (F := { fn := f0, tmps := T0, todo := .code (.rangeFunc f params assign body) :: K, defers := d0, mode := .run, kind := k0, roundOf := some L0 })
        hF hK hFr g5 hdef hnl hf hi q cs ?_
       intro W2 L A hL hW2 hres
       subst hL
       refine .one (step_lone_go ?_)
       have henter : (Instr.enterLoop f0 T0 params assign body (some L0)).run P W = .ok (W.heap.size, []) W2 := by
        simp only [Instr.enterLoop, Sem.run_bind', run_getLoop g6, run_newObj, run_pure', hW2]
       have hev : ({ fn := f0, tmps := T0, todo := Item.inRangeFunc W.heap.size :: K, defers := d0, mode := .run, kind := k0, roundOf := some L0 } : Frame).eval = opd T0 := eval_opd _
       simp [stepG, stepG.exec, stepG.apply, henter, hev, hres]
      ·cases q
     ·cases q
theorem exec_sim {J : Jump} (hJ : JOk P J) {fn n : Nat} {tmps : Tr AVal} {todo : List AItem} {defers : List ADef} {dk : Bool} {round : Option Nat} {rest : List AFr} {res : R} {m' : AM} {F : Frame} {Fr : List Frame} {cs : List Frame}
  (k : aExec P J fn n defers dk round rest res = some m') (hmode : F.mode = .run) (h1 : FR P e ⟨fn, n, tmps, todo, defers, .run, dk, round⟩ F) (hFr : FRs P e rest Fr)
  (hRS : RS P w0 F n (Fr ++ cs) e (lone F (Fr ++ cs) W) [] res) : SS P w0 cs (lone F (Fr ++ cs) W) m' := by
 cases res with
 | stuck i => cases k
 | norm t hh =>
  obtain ⟨e', T, W', s1, s2, s3, s4⟩ := hRS
  exact SS.head s1 (aLeave_sim (todo := []) s4 hmode h1.fn h1.known s3 (h1.defers.mono s2) h1.kind (h1.round.mono s2) .done (hFr.mono s2) k cs)
 | ret t hh =>
  obtain ⟨e', T, W', J0, s1, s2, s3, s4⟩ := hRS
  exact SS.head s1 (aLeave_sim (todo := []) s4 hmode h1.fn h1.known s3 (h1.defers.mono s2) h1.kind (h1.round.mono s2) (.ret J0) (hFr.mono s2) k cs)
 | exit id t hh =>
  obtain ⟨e', T, W', J0, s1, sx, s2, s3, s4⟩ := hRS
  exact SS.head s1 (aLeave_sim (todo := []) s4 hmode h1.fn h1.known s3 (h1.defers.mono s2) h1.kind (h1.round.mono s2) (.exit (by rw [sx]; rfl)) (hFr.mono s2) k cs)
 | susp kk t x =>
  obtain ⟨e', T, W', J0, s1, s2, s3, s4, s5⟩ := hRS
  rw [List.append_nil] at s1
  refine SS.head s1 (aNext_sim hJ (F := Frame.w F T J0) ?_ (hFr.mono s2) s5 k cs)
  exact { fn := h1.fn, known := h1.known, tm := s3, todo := fun _ => s4, nocall := s4.noCall, defers := h1.defers.mono s2, mode := h1.mode.mono s2, kind := h1.kind, round := h1.round.mono s2 }
 | slow kk t hh =>
  obtain ⟨e', T, W', J0, s1, s2, s3, s4, s5⟩ := hRS
  rw [List.append_nil] at s1
  have hF' : FR P e' ⟨fn, n, t, kk, defers, .run, dk, round⟩ (Frame.w F T J0) :=
   {fn := h1.fn, known := h1.known, tm := s3, todo := fun _ => .plain s4, nocall := s4.noCall, defers := h1.defers.mono s2, mode := h1.mode.mono s2, kind := h1.kind, round := h1.round.mono s2 }
  refine SS.head s1 ?_
  change doSlow P _ rest hh kk = some m' at k
  unfold doSlow at k
  split at k
  ·exact doRangeFunc_sim s5 hF' rfl rfl (hFr.mono s2) k cs
  ·exact doBegin_sim s5 hF' rfl rfl (hFr.mono s2) k cs
  ·exact doEndLoop_sim s5 hF' rfl rfl (hFr.mono s2) k cs
  ·cases k
theorem aStep_sim {J : Jump} (hJ : JOk P J) {m m' : AM} (k : aStep P J m = some m') {F : Frame} {Fr : List Frame} (hF : FRs P e m.stack (F :: Fr)) (r : HR P w0 e m.h W) (cs : List Frame) :
  SS P w0 cs (lone F (Fr ++ cs) W) m' := by
 obtain ⟨stack, h⟩ := m
 dsimp only at hF r
 cases hF with
 | cons h1 hFr =>
  rename_i fr rest
  obtain ⟨fn, n, tmps, todo, defers, mode, dk, round⟩ := fr
  cases mode with
  | returning => exact aUnwind_sim r h1 hFr (fun q => by cases q) k cs
  | panicking c => exact aUnwind_sim r h1 hFr (fun q => by cases q) k cs
  | run =>
   change aExec P J fn n defers dk round rest (runTodo P n todo (.norm tmps h)) = some m' at k
   have hmode : F.mode = .run := by have := h1.mode; generalize F.mode = M at this; cases this; rfl
   have hw : F = Frame.w F F.tmps F.todo := by cases F; rfl
   have hRS : RS P w0 F n (Fr ++ cs) e (lone F (Fr ++ cs) W) [] (runTodo P n todo (.norm tmps h)) := by
    have ht := h1.todo rfl
    dsimp only at ht
    have drawn : ∀ {all c facts ta l s m}, todo = .inDrawn all c facts ta :: l → F.todo = .inRegion all s :: m → (∀ e', Env.le e e' → IRs e' l m) → RS P w0 F n (Fr ++ cs) e (lone F (Fr ++ cs) W) m (againD P n all c facts tmps ta h) →
      RS P w0 F n (Fr ++ cs) e (lone F (Fr ++ cs) W) [] (runTodo P n todo (.norm tmps h)) := by
     intro all c facts ta l s m ht1 ht2 hl hrs
     rw [ht1]
     exact runTodo_sim (P := P) (w0 := w0) (b := F) (n := n) (cs := Fr ++ cs) hmode l m e (lone F (Fr ++ cs) W) _ hl hrs
    generalize hQ : F.todo = Q at ht
    cases ht with
    | plain ht =>
     refine runTodo_sim (P := P) (w0 := w0) (b := F) (n := n) (cs := Fr ++ cs) hmode todo F.todo e (lone F (Fr ++ cs) W) (.norm tmps h) (fun e' he => by rw [hQ]; exact ht.mono he) ?_
     exact ⟨e, F.tmps, W, by rw [← hw]; exact Steps.refl _ _, Env.le_refl e, h1.tm, r⟩
    | run hd hp hs =>
     rename_i all B c facts ta s t0 V tc D A l m
     refine drawn rfl hQ (fun e' he => hs.mono he) ?_
     unfold againD
     cases hrc : recheck P h facts with
     | false => trivial
     | true =>
      have := runC_sim (P := P) (w0 := w0) (n := n) (cs := Fr ++ cs) (b := F) (K := m) hmode c hd hp (recheck_ok hrc) r
      rw [show lone F (Fr ++ cs) W = lone (Frame.w F F.tmps (.inRegion all s :: m)) (Fr ++ cs) W from by rw [← hQ, ← hw]]
      exact this
    | wait hd hp hs =>
     rename_i all B c d facts ta s t0 V tc D A l m
     exact runTodo_sim (P := P) (w0 := w0) (b := F) (n := n) (cs := Fr ++ cs) hmode l m e (lone F (Fr ++ cs) W) (.stuck 31) (fun e' he => hs.mono he) trivial
   exact exec_sim hJ k hmode h1 hFr hRS
end
end Go.AbsE

set_option linter.unusedSimpArgs false
namespace Go.AbsE
open Go Go.RowKit
theorem AH.get_h0 (b : Nat) : h0.get b = none := by show Tr.get Tr.leaf (pth b) = none; exact Tr.get_leaf _
theorem HR.start (P : Program) (W : World) : HR P (Base.all W) ⟨fun _ => none, fun _ => none⟩ h0 W :=
 {dom := fun _ _ q => (by cases q), blk := fun b o q => (by rw [AH.get_h0] at q; cases q), inj := fun b b' B c c' o o' q => (by rw [AH.get_h0] at q; cases q),
  imm := fun _ _ q => (by cases q), os := rfl, tape := rfl, output := rfl, size := Nat.le_refl _, old := fun _ _ => rfl, young := fun i O hi hO => (by have h1 := (Array.getElem?_eq_some_iff.1 hO).1; exact absurd h1 (Nat.not_lt.2 hi)) }
theorem HR.grown {P : Program} {w0 : World} {e : Env} {h : AH} {W : World} (r : HR P (Base.all w0) e h W) : Grown w0 W := by
 obtain ⟨s1, s2, s3, s4, s5, s6⟩ := r.isStill
 refine ⟨⟨s1, s3, fun i hi => ?_⟩, fun a => ?_, s4⟩
 ·rw [s5 i hi]
  have hs : ∃ o, w0.heap[i]? = some o := ⟨_, Array.getElem?_eq_getElem hi⟩
  obtain ⟨o, ho⟩ := hs
  rw [ho]
  cases o <;> first | rfl | exact ⟨rfl, rfl, rfl, fun _ _ => rfl⟩ | exact .inr ⟨rfl, rfl⟩
 ·by_cases ha : a.block < w0.heap.size
  ·simp only [World.frozen?, s5 _ ha]
  ·have h0 : w0.heap[a.block]? = none := by simp; omega
   have h1 : w0.frozen? a = false := by simp [World.frozen?, h0]
   rw [h1]
   cases hq : W.heap[a.block]? with
   | none => simp [World.frozen?, hq]
   | some O =>
    have hy := s6 a.block O (by omega) hq
    cases O with
    | cells c el fr =>
     have hy : fr = (0, 0) := hy
     subst hy
     simp [World.frozen?, hq]
    | _ => simp [World.frozen?, hq]
end Go.AbsE

set_option linter.unusedSimpArgs false
namespace Go.AbsE
open Go Go.RowKit
structure Ent where
 f : FuncId
 args : List AVal
 blks : List (List AVal × TypeId)
 v : AVal
mutual
noncomputable def flatA : AVal → Bool
 | .int _ _ => true
 | .bool _ => true
 | .str _ => true
 | .nilptr => true
 | .nilslice => true
 | .nilmap => true
 | .nilfunc => true
 | .nilIface => true
 | .iface _ v => flatA v
 | .agg l => flatAs l
 | .tuple l => flatAs l
 | _ => false
noncomputable def flatAs : List AVal → Bool
 | [] => true
 | a :: l => cond (flatA a) (flatAs l) false
end
noncomputable def mkT : List (List AVal × TypeId) → Nat → Tr ABlk → Tr ABlk
 | [], _, t => t
 | (cs, el) :: l, k, t => mkT l (k + 1) (t.put (pth k) (some (.cells .ro cs el)))
noncomputable def mkH (l : List (List AVal × TypeId)) : AH := ⟨mkT l 0 .leaf, l.length⟩
def EntOk (P : Program) (ent : Ent) : Prop := flatA ent.v = true ∧ ent.blks.length ≤ 1000 ∧ ∀ (W : World) (e : Env) (ARGS : List Value), HR P (Base.all W) e (mkH ent.blks) W → VRs e ent.args ARGS →
 Calls P ent.f ARGS.toArray W fun en W' => ∃ V, en = .returned V ∧ VR e ent.v V ∧ Still W W'
theorem EntOk.nil {P : Program} : ∀ ent ∈ ([] : List Ent), EntOk P ent := fun _ h => by cases h
theorem EntOk.cons {P : Program} {ent : Ent} {l : List Ent} (h : EntOk P ent) (hs : ∀ x ∈ l, EntOk P x) : ∀ x ∈ ent :: l, EntOk P x := by
 intro x hx
 rcases List.mem_cons.1 hx with rfl | hx
 ·exact h
 ·exact hs x hx
end Go.AbsE

set_option linter.unusedSimpArgs false
namespace Go.AbsE
open Go
def Reach (P : Program) (m : AM) (Q : AM → Prop) : Prop :=
 ∀ (w0 : Base) (e : Env) (W : World) (F : Frame) (Fr cs : List Frame), FRs P e m.stack (F :: Fr) → HR P w0 e m.h W → ∃ m', Q m' ∧ SS P w0 cs (lone F (Fr ++ cs) W) m'
section
variable {P : Program}
theorem Reach.done {m : AM} {Q : AM → Prop} (h : Q m) : Reach P m Q :=
 fun _ e W F Fr _ hF r => ⟨m, h, e, F, Fr, W, Steps.refl _ _, hF, r⟩
theorem Reach.bind {m : AM} {R Q : AM → Prop} (h : Reach P m R) (k : ∀ m', R m' → Reach P m' Q) : Reach P m Q := by
 intro w0 e W F Fr cs hF r
 obtain ⟨m1, h1, e1, F1, Fr1, W1, s1, hF1, r1⟩ := h w0 e W F Fr cs hF r
 obtain ⟨m2, h2, hs⟩ := k m1 h1 w0 e1 W1 F1 Fr1 cs hF1 r1
 exact ⟨m2, h2, SS.head s1 hs⟩
theorem Reach.mono {m : AM} {R Q : AM → Prop} (h : Reach P m R) (k : ∀ m', R m' → Q m') : Reach P m Q :=
 h.bind fun m' h' => .done (k m' h')
theorem Reach.step {J : Jump} (hJ : JOk P J) {m m' : AM} {Q : AM → Prop} (k : aStep P J m = some m') (h : Reach P m' Q) : Reach P m Q := by
 intro w0 e W F Fr cs hF r
 obtain ⟨e1, F1, Fr1, W1, s1, hF1, r1⟩ := aStep_sim hJ k hF r cs
 obtain ⟨m2, h2, hs⟩ := h w0 e1 W1 F1 Fr1 cs hF1 r1
 exact ⟨m2, h2, SS.head s1 hs⟩
def AH.sub (h' h : AH) : Prop := h.next ≤ h'.next ∧ ∀ b o, h'.get b = some o → h.get b = some o
theorem HR.weaken {w0 : Base} {e : Env} {h h' : AH} {W : World} (r : HR P w0 e h W) (s : AH.sub h' h) : HR P w0 e h' W :=
 ⟨fun b x k => Nat.lt_of_lt_of_le (r.dom b x k) s.1, fun b o k => r.blk b o (s.2 b o k), fun b b' B c c' o o' k k' => r.inj b b' B c c' o o' (s.2 b o k) (s.2 b' o' k'),
  fun B CS hi => ⟨(r.imm B CS hi).1, fun b o c k => (r.imm B CS hi).2 b o c (s.2 b o k)⟩, r.os, r.tape, r.output, r.size, r.old, r.young⟩
inductive AEnd where
 | ret (v : AVal)
 | pan (chain : List AEntry)
def Ended (P : Program) (f : FuncId) (fr : AFr) (h : AH) : AEnd → Prop
 | .ret v => fr.fn = f ∧ fr.mode = .returning ∧ fr.defers = [] ∧ fr.deferredKind = false ∧ aResult P h f fr.tmps = some v
 | .pan chain => fr.fn = f ∧ fr.mode = .panicking chain ∧ fr.defers = [] ∧ fr.deferredKind = false
def Runs (P : Program) (f : FuncId) (args : List AVal) (h : AH) (R : AEnd → AH → Prop) : Prop :=
 ∃ fr, aFrame P f args false = some fr ∧ ∀ rest, Reach P ⟨fr :: rest, h⟩ fun m => ∃ en h' fr', R en h' ∧ Ended P f fr' h' en ∧ m = ⟨fr' :: rest, h'⟩
theorem Runs.mono {f : FuncId} {args : List AVal} {h : AH} {R R' : AEnd → AH → Prop} (k : Runs P f args h R) (i : ∀ en h', R en h' → R' en h') : Runs P f args h R' := by
 obtain ⟨fr, h1, h2⟩ := k
 exact ⟨fr, h1, fun rest => (h2 rest).mono fun m ⟨en, h', fr', q1, q2, q3⟩ => ⟨en, h', fr', i _ _ q1, q2, q3⟩⟩
theorem Reach.call {J : Jump} (hJ : JOk P J) {f : FuncId} {args : List AVal} {h : AH} {R : AEnd → AH → Prop} (k : Runs P f args h R) {fr : AFr} (hfr : aFrame P f args false = some fr) {c : AFr} {rest : List AFr} {Q : AM → Prop}
  (hr : ∀ v h', R (.ret v) h' → ∃ c', c.finish v = some c' ∧ Reach P ⟨c' :: rest, h'⟩ Q) (hp : ∀ chain h', R (.pan chain) h' → Reach P ⟨c.raise chain :: rest, h'⟩ Q) : Reach P ⟨fr :: c :: rest, h⟩ Q := by
 obtain ⟨fr0, h1, h2⟩ := k
 rw [hfr] at h1
 cases h1
 refine (h2 (c :: rest)).bind ?_
 rintro m ⟨en, h', fr', q1, q2, rfl⟩
 obtain ⟨fn, n, t, todo, ds, md, dk, rd⟩ := fr'
 cases en with
 | ret v =>
  obtain ⟨e1, e2, e3, e4, e5⟩ := q2
  dsimp only at e1 e2 e3 e4 e5
  subst e1 e2 e3 e4
  obtain ⟨c', g1, g2⟩ := hr v h' q1
  refine Reach.step hJ (m' := ⟨c' :: rest, h'⟩) ?_ g2
  show aUnwind P ⟨fn, n, t, todo, [], .returning, false, rd⟩ (c :: rest) h' = some ⟨c' :: rest, h'⟩
  unfold aUnwind
  simp only [e5, aReturn, cond_false, g1, one]
 | pan chain =>
  obtain ⟨e1, e2, e3, e4⟩ := q2
  dsimp only at e1 e2 e3 e4
  subst e1 e2 e3 e4
  refine Reach.step hJ (m' := ⟨c.raise chain :: rest, h'⟩) ?_ (hp chain h' q1)
  rfl
theorem Runs.calls {f : FuncId} {args : List AVal} {ARGS : List Value} {h : AH} {e : Env} {W : World} {R : AEnd → AH → Prop} (k : Runs P f args h R) (hp : ∀ chain h', ¬ R (.pan chain) h') (r : HR P (Base.all W) e h W) (ha : VRs e args ARGS) :
  Calls P f ARGS.toArray W fun en W' => ∃ v h' e' V, R (.ret v) h' ∧ en = .returned V ∧ VR e' v V ∧ HR P (Base.all W) e' h' W' := by
 intro cs
 obtain ⟨fr, h1, h2⟩ := k
 have hF := aFrame_sim ha h1
 obtain ⟨m, ⟨en, h', fr', q1, q2, rfl⟩, e', F, Fr, W', s1, s2, s3⟩ := h2 [] (Base.all W) e W (Frame.enter P f ARGS.toArray .normal) [] cs (.cons hF .nil) r
 cases en with
 | pan chain => exact absurd q1 (hp _ _)
 | ret v =>
  obtain ⟨fn, n, t, todo, ds, md, dk, rd⟩ := fr'
  obtain ⟨e1, e2, e3, e4, e5⟩ := q2
  dsimp only at e1 e2 e3 e4 e5 s2 s3
  subst e1 e2 e3 e4
  cases s2 with
  | cons hf2 hnil =>
   cases hnil
   obtain ⟨fn1, V, q1', q2', q3'⟩ := aResult_run s3 hf2.tm e5
   refine ⟨.returned V, W', F, ⟨v, h', e', V, q1, rfl, q2', s3⟩, s1, hf2.fn, ?_⟩
   have hm := hf2.mode
   have hd := hf2.defers
   generalize hM : F.mode = M at hm
   generalize hD : F.defers = D at hd
   cases hm
   cases hd
   exact ⟨hM, hD, hf2.kind, fn1, by rw [hf2.fn]; exact q1', q3'⟩
end
end Go.AbsE

set_option linter.unusedSimpArgs false
namespace Go.AbsE
open Go
structure FC where
 fn : FuncId
 n : Nat
 ds : List ADef
 dk : Bool
 rd : Option Nat
 rest : List AFr
def FC.fr (c : FC) (k : List AItem) (t : Tr AVal) : AFr := ⟨c.fn, c.n, t, k, c.ds, .run, c.dk, c.rd⟩
def FC.st (c : FC) (k : List AItem) (t : Tr AVal) (h : AH) : AM := ⟨c.fr k t :: c.rest, h⟩
def Go (P : Program) (c : FC) (k : List AItem) (t : Tr AVal) (h : AH) (Q : AM → Prop) : Prop := Reach P (c.st k t h) Q
def exitA (id : Nat) : List AItem → Option (List AItem)
 | [] => none
 | it :: k => match it with
  | .inBlock id' => if id' = id then some k else exitA id k
  | _ => exitA id k
def GoR (P : Program) (J : Jump) (c : FC) (k : List AItem) (Q : AM → Prop) : R → Prop
 | .norm t h => Go P c k t h Q
 | .exit id t h => match exitA id k with
  | some k' => Go P c k' t h Q
  | none => ∃ m', aLeave (c.fr [] t) c.rest h (some (.exit id)) = some m' ∧ Reach P m' Q
 | .ret t h => ∃ m', aLeave (c.fr [] t) c.rest h (some .ret) = some m' ∧ Reach P m' Q
 | .susp s t x => ∃ m', aNext P J (c.fr (s ++ k) t) c.rest x = some m' ∧ Reach P m' Q
 | .slow s t h => ∃ m', doSlow P (c.fr (s ++ k) t) c.rest h (s ++ k) = some m' ∧ Reach P m' Q
 | .stuck _ => False
section
variable {P : Program}
theorem exitA_rel {e : Env} {id : Nat} {k : List AItem} {K : List Item} (h : IRs e k K) : match exitA id k with | some k' => ∃ K', exitTo id K = some K' ∧ IRs e k' K' | none => exitTo id K = none := by
 induction h with
 | nil => rfl
 | @cons it IT l m hi hs ih =>
  cases hi with
  | inBlock id' =>
   unfold exitA
   simp only []
   by_cases hq : id' = id
   ·rw [if_pos hq]; exact ⟨m, by simp [exitTo, hq], hs⟩
   ·rw [if_neg hq]
    have : exitTo id (.inBlock id' :: m) = exitTo id m := by simp [exitTo, hq]
    rw [this]; exact ih
  | _ => exact ih
theorem FR.todo_set {e : Env} {c : FC} {k k' : List AItem} {t t' : Tr AVal} {F : Frame} {T' : Array Value} {K' : List Item} (h : FR P e (c.fr k t) F) (ht : TRel e c.n t' T') (hk : TD e c.n T' t' k' K') :
  FR P e (c.fr k' t') (Frame.w F T' K') :=
 {fn := h.fn, known := h.known, tm := ht, todo := fun _ => hk, nocall := hk.noCall, defers := h.defers, mode := h.mode, kind := h.kind, round := h.round }
theorem run_mode {e : Env} {c : FC} {k : List AItem} {t : Tr AVal} {F : Frame} (h : FR P e (c.fr k t) F) : F.mode = .run := by
 have := h.mode
 generalize F.mode = M at this
 cases this
 rfl
theorem Go.of_RS {J : Jump} (hJ : JOk P J) {c : FC} {k k2 : List AItem} {t : Tr AVal} {h : AH} {Q : AM → Prop} {r : R}
  (H : ∀ (w0 : Base) (e : Env) (W : World) (F : Frame) (cs : List Frame), F.mode = .run → TRel e c.n t F.tmps → HR P w0 e h W → TD e c.n F.tmps t k F.todo →
   ∃ K2, IRs e k2 K2 ∧ RS P w0 F c.n cs e (lone F cs W) K2 r)
  (g : GoR P J c k2 Q r) : Go P c k t h Q := by
 intro w0 e W F Fr cs hF rr
 have hF' : FRs P e (c.fr k t :: c.rest) (F :: Fr) := hF
 cases hF' with
 | cons h1 hFr =>
  have hm := run_mode h1
  obtain ⟨K2, hK2, hRS⟩ := H w0 e W F (Fr ++ cs) hm h1.tm rr (h1.todo rfl)
  have exec : ∀ {r' : R} {m' : AM}, RS P w0 F c.n (Fr ++ cs) e (lone F (Fr ++ cs) W) [] r' → aExec P J c.fn c.n c.ds c.dk c.rd c.rest r' = some m' → Reach P m' Q → ∃ m', Q m' ∧ SS P w0 cs (lone F (Fr ++ cs) W) m' := by
   intro r' m' hr hx hq
   obtain ⟨e1, F1, Fr1, W1, s1, s2, s3⟩ := exec_sim hJ hx hm h1 hFr hr
   obtain ⟨m2, h2, hs⟩ := hq w0 e1 W1 F1 Fr1 cs s2 s3
   exact ⟨m2, h2, SS.head s1 hs⟩
  have todo : ∀ {r'}, (∀ t h, r' ≠ .norm t h) → RS P w0 F c.n (Fr ++ cs) e (lone F (Fr ++ cs) W) K2 r' → RS P w0 F c.n (Fr ++ cs) e (lone F (Fr ++ cs) W) [] (runTodo P c.n k2 r') :=
   fun _ hr => runTodo_sim hm k2 K2 e _ _ (fun e' he => hK2.mono he) hr
  cases r with
  | stuck i => exact g.elim
  | norm t' h' =>
   obtain ⟨e', T', W', s1, s2, s3, s4⟩ := hRS
   obtain ⟨m2, h2, hs⟩ := g w0 e' W' (Frame.w F T' K2) Fr cs (.cons (FR.todo_set (h1.mono s2) s3 (.plain (hK2.mono s2))) (hFr.mono s2)) s4
   exact ⟨m2, h2, SS.head s1 hs⟩
  | ret t' h' =>
   obtain ⟨m', hx, hq⟩ := g
   obtain ⟨e', T', W', J', s1, s2, s3, s4⟩ := hRS
   exact exec (r' := .ret t' h') ⟨e', T', W', J', s1, s2, s3, s4⟩ hx hq
  | susp s t' x =>
   obtain ⟨m', hx, hq⟩ := g
   obtain ⟨e', T', W', J', s1, s2, s3, s4, s5⟩ := hRS
   exact exec (r' := .susp (s ++ k2) t' x) ⟨e', T', W', J' ++ K2, by simpa using s1, s2, s3, s4.append (hK2.mono s2), s5.append⟩ hx hq
  | slow s t' h' =>
   obtain ⟨m', hx, hq⟩ := g
   obtain ⟨e', T', W', J', s1, s2, s3, s4, s5⟩ := hRS
   exact exec (r' := .slow (s ++ k2) t' h') ⟨e', T', W', J' ++ K2, by simpa using s1, s2, s3, s4.append (hK2.mono s2), s5⟩ hx hq
  | exit id t' h' =>
   obtain ⟨e', T', W', J', s1, sx, s2, s3, s4⟩ := hRS
   have hrel := exitA_rel (id := id) (hK2.mono s2)
   dsimp only [GoR] at g
   cases hx : exitA id k2 with
   | some k' =>
    rw [hx] at g hrel
    obtain ⟨K', q1, q2⟩ := hrel
    have hex := st_exit (P := P) (b := F) hm (T := T') (k := J' ++ K2) (cs := Fr ++ cs) (W := W') (id := id) (k' := K') (by rw [sx, q1])
    obtain ⟨m2, h2, hs⟩ := g w0 e' W' (Frame.w F T' K') Fr cs (.cons (FR.todo_set (h1.mono s2) s3 (.plain q2)) (hFr.mono s2)) s4
    exact ⟨m2, h2, SS.head (s1.trans (.one hex)) hs⟩
   | none =>
    rw [hx] at g hrel
    obtain ⟨m', hq1, hq2⟩ := g
    refine exec (r' := .exit id t' h') ⟨e', T', W', J' ++ K2, by simpa using s1, ?_, s2, s3, s4⟩ hq1 hq2
    rw [List.append_nil, sx, hrel]; rfl
theorem plain_head {e : Env} {n : Nat} {T : Array Value} {tf : Tr AVal} {it : AItem} {k : List AItem} {Ks : List Item} (h : TD e n T tf (it :: k) Ks) (h1 : ∀ all c f t, it ≠ .waitDrawn all c f t) (h2 : ∀ all c f t, it ≠ .inDrawn all c f t) :
  ∃ IT K, Ks = IT :: K ∧ IR e it IT ∧ IRs e k K := by
 have := h.irs (fun all c f t l q => by injection q with q1 q2; exact h1 all c f t q1) (fun all c f t l q => by injection q with q1 q2; exact h2 all c f t q1)
 cases this with
 | cons a b => exact ⟨_, _, rfl, a, b⟩
theorem Frame.w_self {F : Frame} {K : List Item} (h : F.todo = K) : F = Frame.w F F.tmps K := by cases F; subst h; rfl
variable {J : Jump} (hJ : JOk P J) {c : FC} {k : List AItem} {t : Tr AVal} {h : AH} {Q : AM → Prop}
include hJ
theorem Go.code {b : Code} (g : GoR P J c k Q ((den P c.n b).run t h)) : Go P c (.code b :: k) t h Q := by
 refine Go.of_RS hJ (fun w0 e W F cs hm hT hr htd => ?_) g
 obtain ⟨IT, K, q1, q2, q3⟩ := plain_head htd (fun _ _ _ _ q => by cases q) (fun _ _ _ _ q => by cases q)
 cases q2
 refine ⟨K, q3, ?_⟩
 have := den_sim (P := P) (w0 := w0) (b := F) (n := c.n) (cs := cs) hm b e t h F.tmps W K hT hr
 rw [← Frame.w_self q1] at this
 exact this
theorem Go.inRegion {all : Array Oper} {i : Nat} {ops : List Oper} (g : GoR P J c k Q (runOps P c.n all ops i t h)) : Go P c (.inRegion all i ops :: k) t h Q := by
 refine Go.of_RS hJ (fun w0 e W F cs hm hT hr htd => ?_) g
 obtain ⟨IT, K, q1, q2, q3⟩ := plain_head htd (fun _ _ _ _ q => by cases q) (fun _ _ _ _ q => by cases q)
 cases q2 with
 | inRegion ho =>
  refine ⟨K, q3, ?_⟩
  have := runOps_sim (P := P) (w0 := w0) (b := F) (n := c.n) (cs := cs) hm all ops i e t h F.tmps W K ho hT hr
  rw [← Frame.w_self q1] at this
  exact this
theorem Go.inDrawn {all : Array Oper} {pl : List DOp} {facts : List DFact} {ta : Tr AVal} (g : GoR P J c k Q (againD P c.n all pl facts t ta h)) : Go P c (.inDrawn all pl facts ta :: k) t h Q := by
 refine Go.of_RS hJ (fun w0 e W F cs hm hT hr htd => ?_) g
 generalize hQ : F.todo = K0 at htd
 cases htd with
 | plain hp => cases hp with | cons a b => cases a
 | run hd hp hs =>
  rename_i B s t0 V tc D A K
  refine ⟨K, hs, ?_⟩
  unfold againD
  cases hrc : recheck P h facts with
  | false => trivial
  | true =>
   have := runC_sim (P := P) (w0 := w0) (n := c.n) (cs := cs) (b := F) (K := K) hm pl hd hp (recheck_ok hrc) hr
   rw [← Frame.w_self hQ] at this
   exact this
theorem Go.plain {it : AItem} {k2 : List AItem} (h1 : ∀ all c f t, it ≠ .waitDrawn all c f t) (h2 : ∀ all c f t, it ≠ .inDrawn all c f t)
  (H : ∀ (e : Env) (IT : Item) (K : List Item), IR e it IT → IRs e k K → ∃ K2, IRs e k2 K2 ∧ ∀ (F : Frame) (T : Array Value) (cs : List Frame) (W : World), F.mode = .run → Steps P (lone (Frame.w F T (IT :: K)) cs W) (lone (Frame.w F T K2) cs W))
  (g : Go P c k2 t h Q) : Go P c (it :: k) t h Q := by
 refine Go.of_RS hJ (k2 := k2) (r := .norm t h) (fun w0 e W F cs hm hT hr htd => ?_) g
 obtain ⟨IT, K, q1, q2, q3⟩ := plain_head htd h1 h2
 obtain ⟨K2, q4, q5⟩ := H e IT K q2 q3
 refine ⟨K2, q4, e, F.tmps, W, ?_, Env.le_refl e, hT, hr⟩
 have := q5 F F.tmps cs W hm
 rw [← Frame.w_self q1] at this
 exact this
theorem Go.seq {x y : Code} (g : Go P c (.code x :: .code y :: k) t h Q) : Go P c (.code (.seq x y) :: k) t h Q := by
 refine Go.plain hJ (fun _ _ _ _ q => by cases q) (fun _ _ _ _ q => by cases q) (fun e IT K a b => ?_) g
 cases a
 exact ⟨_, .cons (.code x) (.cons (.code y) b), fun F T cs W hm => .one (st_seq hm)⟩
theorem Go.loop {x : Code} (g : Go P c (.code x :: .inLoop x :: k) t h Q) : Go P c (.code (.loop x) :: k) t h Q := by
 refine Go.plain hJ (fun _ _ _ _ q => by cases q) (fun _ _ _ _ q => by cases q) (fun e IT K a b => ?_) g
 cases a
 exact ⟨_, .cons (.code x) (.cons (.inLoop x) b), fun F T cs W hm => .one (st_loop hm)⟩
theorem Go.inLoop {x : Code} (g : Go P c (.code x :: .inLoop x :: k) t h Q) : Go P c (.inLoop x :: k) t h Q := by
 refine Go.plain hJ (fun _ _ _ _ q => by cases q) (fun _ _ _ _ q => by cases q) (fun e IT K a b => ?_) g
 cases a
 exact ⟨_, .cons (.code x) (.cons (.inLoop x) b), fun F T cs W hm => .one (st_inLoop hm)⟩
theorem Go.block {id : Nat} {x : Code} (g : Go P c (.code x :: .inBlock id :: k) t h Q) : Go P c (.code (.block id x) :: k) t h Q := by
 refine Go.plain hJ (fun _ _ _ _ q => by cases q) (fun _ _ _ _ q => by cases q) (fun e IT K a b => ?_) g
 cases a
 exact ⟨_, .cons (.code x) (.cons (.inBlock id) b), fun F T cs W hm => .one (st_block hm)⟩
theorem Go.inBlock {id : Nat} (g : Go P c k t h Q) : Go P c (.inBlock id :: k) t h Q := by
 refine Go.plain hJ (fun _ _ _ _ q => by cases q) (fun _ _ _ _ q => by cases q) (fun e IT K a b => ?_) g
 cases a
 exact ⟨_, b, fun F T cs W hm => .one (st_inBlock hm)⟩
theorem Go.scope {x : Code} (g : Go P c (.code x :: .inScope x :: k) t h Q) : Go P c (.code (.scope x) :: k) t h Q := by
 refine Go.plain hJ (fun _ _ _ _ q => by cases q) (fun _ _ _ _ q => by cases q) (fun e IT K a b => ?_) g
 cases a
 exact ⟨_, .cons (.code x) (.cons (.inScope x) b), fun F T cs W hm => .one (st_scope hm)⟩
theorem Go.inScope {x : Code} (g : Go P c k t h Q) : Go P c (.inScope x :: k) t h Q := by
 refine Go.plain hJ (fun _ _ _ _ q => by cases q) (fun _ _ _ _ q => by cases q) (fun e IT K a b => ?_) g
 cases a
 exact ⟨_, b, fun F T cs W hm => .one (st_inScope hm)⟩
theorem Go.cond {o : Operand} {x y : Code} {b : Bool} (hb : ev t o = some (.bool b)) (g : Go P c (.code (if b then x else y) :: k) t h Q) : Go P c (.code (.cond o x y) :: k) t h Q := by
 refine Go.of_RS hJ (k2 := .code (if b then x else y) :: k) (r := .norm t h) (fun w0 e W F cs hm hT hr htd => ?_) g
 obtain ⟨IT, K, q1, q2, q3⟩ := plain_head htd (fun _ _ _ _ q => by cases q) (fun _ _ _ _ q => by cases q)
 cases q2
 have hv := ev_rel hT hb
 generalize hC : opd F.tmps o = C at hv
 cases hv
 refine ⟨_, .cons (.code _) q3, e, F.tmps, W, ?_, Env.le_refl e, hT, hr⟩
 have := st_cond (P := P) hm (T := F.tmps) (k := K) (cs := cs) (W := W) (c := o) (x := x) (y := y) hC
 rw [← Frame.w_self q1] at this
 exact .one this
theorem Go.leave {m : AM} (k : aLeave (c.fr [] t) c.rest h none = some m) (g : Reach P m Q) : Go P c [] t h Q :=
 Reach.step hJ (m' := m) (by show aExec P J c.fn c.n c.ds c.dk c.rd c.rest (.norm t h) = some m; exact k) g
theorem Go.slow {it : AItem} (hi : runItem P c.n it t h = .slow [it] t h) {m : AM} (q : doSlow P (c.fr (it :: k) t) c.rest h (it :: k) = some m) (g : Reach P m Q) : Go P c (it :: k) t h Q := by
 refine Reach.step hJ (m' := m) ?_ g
 show aExec P J c.fn c.n c.ds c.dk c.rd c.rest (runTodo P c.n k (runItem P c.n it t h)) = some m
 rw [hi]
 have : runTodo P c.n k (.slow [it] t h) = .slow (it :: k) t h := by cases k <;> rfl
 rw [this]
 exact q
omit hJ in
theorem TD.weaken {e : Env} {n : Nat} {T : Array Value} {tf tf' : Tr AVal} {l : List AItem} {m : List Item} (hw : ∀ x a, tf'.get (pth x) = some a → tf.get (pth x) = some a) (h : TD e n T tf l m) : TD e n T tf' l m := by
 cases h with
 | plain h => exact .plain h
 | wait h hp hs => exact .wait { h with fr := fun x a q => h.fr x a (hw x a q) } hp hs
 | run h hp hs => exact .run { h with fr := fun x a q => h.fr x a (hw x a q) } hp hs
omit hJ in
theorem Go.weaken {t' : Tr AVal} (hw : ∀ x a, t'.get (pth x) = some a → t.get (pth x) = some a) (g : Go P c k t' h Q) : Go P c k t h Q := by
 intro w0 e W F Fr cs hF r
 have hF' : FRs P e (c.fr k t :: c.rest) (F :: Fr) := hF
 cases hF' with
 | cons h1 hFr =>
  refine g w0 e W F Fr cs (.cons { fn := h1.fn, known := h1.known, tm := ⟨h1.tm.1, h1.tm.2.1, fun i a q => h1.tm.2.2 i a (hw i a q)⟩, todo := fun _ => (h1.todo rfl).weaken hw, nocall := h1.nocall, defers := h1.defers, mode := h1.mode, kind := h1.kind, round := h1.round } hFr) r
end
end Go.AbsE

set_option linter.unusedSimpArgs false
namespace Go.AbsE
open Go
section
variable {P : Program}
def Post (P : Program) (f : FuncId) (rest : List AFr) (R : AEnd → AH → Prop) (m : AM) : Prop := ∃ en h' fr', R en h' ∧ Ended P f fr' h' en ∧ m = ⟨fr' :: rest, h'⟩
theorem Runs.intro {f : FuncId} {fn : Func} {b : Code} {n : Nat} {args : List AVal} {h : AH} {R : AEnd → AH → Prop} (hf : aFunc P f = some fn) (hb : fn.body = some b) (hn : fn.ntmps = n) (h1 : Nat.ble args.length n = true) (h2 : Nat.ble n 1000000 = true)
  (H : ∀ rest, Go P ⟨f, n, [], false, none, rest⟩ [.code b] (fromArgs .leaf 0 args) h (Post P f rest R)) : Runs P f args h R := by
 refine ⟨⟨f, n, fromArgs .leaf 0 args, [.code b], [], .run, false, none⟩, ?_, fun rest => H rest⟩
 unfold aFrame
 rw [hf]
 simp only [hb, hn, h1, h2, cond_true]
theorem ret_end {f : FuncId} {n : Nat} {rest : List AFr} {t : Tr AVal} {h : AH} {R : AEnd → AH → Prop} {v : AVal} (hv : aResult P h f t = some v) (hR : R (.ret v) h) :
  ∃ m', aLeave (FC.fr ⟨f, n, [], false, none, rest⟩ [] t) rest h (some .ret) = some m' ∧ Reach P m' (Post P f rest R) :=
 ⟨⟨⟨f, n, t, [], [], .returning, false, none⟩ :: rest, h⟩, rfl, .done ⟨.ret v, h, _, hR, ⟨rfl, rfl, rfl, rfl, hv⟩, rfl⟩⟩
theorem GoR.op {J : Jump} {c : FC} {k : List AItem} {Q : AM → Prop} {all : Array Oper} {l : List Oper} {o : Oper} {rest : List Oper} {i : Nat} {t t' : Tr AVal} {h h' : AH} {v : AVal} (hl : l = o :: rest) (hw : wantedA all t o = some true)
  (hx : aOp P t h o = some (.val v h')) (hd : (prepD c.n o).run t v = some t') (g : GoR P J c k Q (runOps P c.n all rest (i + 1) t' h')) : GoR P J c k Q (runOps P c.n all l i t h) := by
 subst hl
 rw [runOps_cons, hw]
 show GoR P J c k Q ((afterP c.n i all o rest (runOpsP P c.n all rest (i + 1))).run t (aOp P t h o))
 rw [hx]
 show GoR P J c k Q ((contP i (runOpsP P c.n all rest (i + 1))).run h' ((prepD c.n o).run t v))
 rw [hd]
 exact g
theorem GoR.skip {J : Jump} {c : FC} {k : List AItem} {Q : AM → Prop} {all : Array Oper} {l : List Oper} {o : Oper} {rest : List Oper} {i : Nat} {t t' : Tr AVal} {h : AH} (hl : l = o :: rest) (hw : wantedA all t o = some false)
  (hd : (prepD c.n o).run t undefA = some t') (g : GoR P J c k Q (runOps P c.n all rest (i + 1) t' h)) : GoR P J c k Q (runOps P c.n all l i t h) := by
 subst hl
 rw [runOps_cons, hw]
 show GoR P J c k Q ((contP i (runOpsP P c.n all rest (i + 1))).run h ((prepD c.n o).run t undefA))
 rw [hd]
 exact g
theorem Go.region {J : Jump} (hJ : JOk P J) {c : FC} {k : List AItem} {Q : AM → Prop} {id : Nat} {ops : Array Oper} {l : List Oper} {t : Tr AVal} {h : AH} (hl : ops.toList = l)
  (g : GoR P J c k Q (runOps P c.n ops l 0 t h)) : Go P c (.code (.region id ops false) :: k) t h Q := by
 subst hl
 exact Go.code hJ g
theorem GoR.end {J : Jump} {c : FC} {k : List AItem} {Q : AM → Prop} {all : Array Oper} {i : Nat} {t : Tr AVal} {h : AH} (g : Go P c k t h Q) : GoR P J c k Q (runOps P c.n all [] i t h) := g
theorem Go.ret {J : Jump} (hJ : JOk P J) {c : FC} {k : List AItem} {Q : AM → Prop} {t : Tr AVal} {h : AH} (g : ∃ m', aLeave (c.fr [] t) c.rest h (some .ret) = some m' ∧ Reach P m' Q) : Go P c (.code .ret :: k) t h Q :=
 Go.code hJ g
theorem aResult_of {f : FuncId} {fn : Func} {h : AH} {t : Tr AVal} {l : List ResultVar} (hf : P.funcs[f]? = some fn) (hl : fn.results.toList = l) {vs : List AVal} (hv : aResults P h t l = some vs) : aResult P h f t = some (oneOrTuple vs) := by
 unfold aResult
 rw [hf]
 simp only [hl, hv]
end
end Go.AbsE
