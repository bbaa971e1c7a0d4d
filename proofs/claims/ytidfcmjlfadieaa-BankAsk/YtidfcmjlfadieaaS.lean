import Derived.Test.YtidfcmjlfadieaaR
set_option linter.unusedSimpArgs false
namespace Go.AbsE
open Go

section
variable {P : Program} {w0 : Base} {b : Frame} {n : Nat} {cs : List Frame}

/-- What stands at the head of true items is no block of this name. -/
theorem exitTo_other {e : Env} {it : AItem} {IT : Item} (h : IR e it IT) {id : Nat} (hne : ∀ id', it = .inBlock id' → id' ≠ id) (K : List Item) : exitTo id (IT :: K) = exitTo id K := by
  cases h <;> first | rfl | skip
  rename_i id'
  have := hne id' rfl
  simp [exitTo, this]

theorem runTodo_sim (hb : b.mode = .run) : ∀ (items : List AItem) (Is : List Item) (e : Env) (M0 : Machine) (r : R), (∀ e', Env.le e e' → IRs e' items Is) →
    RS P w0 b n cs e M0 Is r → RS P w0 b n cs e M0 [] (runTodo P n items r) := by
  intro items
  induction items with
  | nil =>
    intro Is e M0 r hi h
    have := hi e (Env.le_refl e)
    cases this
    cases r <;> exact h
  | cons it items ih =>
    intro Is e M0 r hi h
    have hcons := hi e (Env.le_refl e)
    cases hcons with
    | cons hit hs =>
      rename_i IT Ks
      have hi1 : ∀ e', Env.le e e' → IR e' it IT := fun e' he => hit.mono he
      have hi2 : ∀ e', Env.le e e' → IRs e' items Ks := fun e' he => hs.mono he
      cases r with
      | norm t hh =>
        show RS P w0 b n cs e M0 [] (runTodo P n items (runItem P n it t hh))
        obtain ⟨e', T, W, s1, s2, s3, s4⟩ := h
        refine RS.head s1 s2 (ih Ks e' _ _ (fun e2 he => hi2 e2 (Env.le_trans s2 he)) ?_)
        have h2 := hi1 e' s2
        cases h2 with
        | code c => exact den_sim hb c e' t hh T W Ks s3 s4
        | inBlock id => exact ⟨e', T, W, .one (st_inBlock hb), Env.le_refl e', s3, s4⟩
        | inScope c => exact ⟨e', T, W, .one (st_inScope hb), Env.le_refl e', s3, s4⟩
        | inLoop body =>
          show RS P w0 b n cs e' _ Ks ((den P n (.loop body)).run t hh)
          have hd : (den P n (.loop body)).run t hh = loopN body (den P n body) loopFuel t hh := by unfold den loopAll; rfl
          rw [hd]
          generalize loopFuel = fuel
          exact RS.head (.one (st_inLoop hb)) (Env.le_refl e') (loop_sim hb (den_sim hb body) fuel e' t hh T W Ks s3 s4)
        | inRegion hr => exact runOps_sim hb _ _ _ e' t hh T W Ks hr s3 s4
        | inRangeFunc hl => exact ⟨e', T, W, [_], Steps.refl _ _, Env.le_refl e', s3, .cons (.inRangeFunc hl) .nil, s4⟩
        | endRangeFunc hl => exact ⟨e', T, W, [_], Steps.refl _ _, Env.le_refl e', s3, .cons (.endRangeFunc hl) .nil, s4⟩
        | beginRound => exact ⟨e', T, W, [_], Steps.refl _ _, Env.le_refl e', s3, .cons .beginRound .nil, s4⟩
      | susp s t x =>
        show RS P w0 b n cs e M0 [] (.susp (s ++ it :: items) t x)
        obtain ⟨e', T, W, J, h1, h2, h3, h4, h5⟩ := h
        exact ⟨e', T, W, J ++ IT :: Ks, by simpa using h1, h2, h3, h4.append (.cons (hi1 e' h2) (hi2 e' h2)), h5.append⟩
      | slow s t hh =>
        show RS P w0 b n cs e M0 [] (.slow (s ++ it :: items) t hh)
        obtain ⟨e', T, W, J, h1, h2, h3, h4, h5⟩ := h
        exact ⟨e', T, W, J ++ IT :: Ks, by simpa using h1, h2, h3, h4.append (.cons (hi1 e' h2) (hi2 e' h2)), h5⟩
      | ret t hh =>
        show RS P w0 b n cs e M0 [] (runTodo P n items (.ret t hh))
        refine ih Ks e M0 _ hi2 ?_
        exact h
      | stuck i =>
        show RS P w0 b n cs e M0 [] (runTodo P n items (.stuck i))
        exact ih Ks e M0 _ hi2 trivial
      | exit id t hh =>
        show RS P w0 b n cs e M0 [] (runTodo P n items (itemR it (.exit id t hh)))
        refine ih Ks e M0 _ hi2 ?_
        obtain ⟨e', T, W, J, s1, s2, s3, s4, s5⟩ := h
        have other : (∀ id', it = .inBlock id' → id' ≠ id) → RS P w0 b n cs e M0 Ks (.exit id t hh) := by
          intro hne
          refine ⟨e', T, W, J ++ [IT], by simpa using s1, ?_, s3, s4, s5⟩
          rw [List.append_assoc]
          simp only [List.singleton_append]
          rw [s2, exitTo_other hit hne]
        cases hit with
        | inBlock id' =>
          show RS P w0 b n cs e M0 Ks (cond (Nat.beq id' id) (.norm t hh) (.exit id t hh))
          cases hq : Nat.beq id' id with
          | true =>
            have := Nat.eq_of_beq_eq_true hq
            subst this
            refine ⟨e', T, W, s1.trans (.one (st_exit hb ?_)), s3, s4, s5⟩
            rw [s2]; simp [exitTo]
          | false => exact other (fun id2 h2 => by cases h2; exact Nat.ne_of_beq_eq_false hq)
        | _ => exact other (fun _ h2 => by cases h2)

end

/-! ### frames -/
inductive RdR (e : Env) : Option Nat → Option Nat → Prop
  | none : RdR e none none
  | some {l L c} (h : e l = some (L, c)) : RdR e (some l) (some L)
inductive ERs (e : Env) : List AEntry → List PanicEntry → Prop
  | nil : ERs e [] []
  | cons {v V r l m} (h : VR e v V) (hs : ERs e l m) : ERs e ({ v, recovered := r } :: l) ({ v := V, recovered := r, goexit := false } :: m)
inductive MdR (e : Env) : AMode → FrameMode → Prop
  | run : MdR e .run .run
  | returning : MdR e .returning .returning
  | panicking {l m} (h : ERs e l m) : MdR e (.panicking l) (.panicking m)

theorem RdR.mono {e e' : Env} (he : Env.le e e') {a v} (h : RdR e a v) : RdR e' a v := by
  cases h with
  | none => exact .none
  | some h => exact .some (he.1 _ _ h)
theorem ERs.mono {e e' : Env} (he : Env.le e e') {a v} (h : ERs e a v) : ERs e' a v := by
  induction h with
  | nil => exact .nil
  | cons h _ ih => exact .cons (h.mono he) ih
theorem ERs.append {e : Env} {a d a' d'} (h : ERs e a d) (k : ERs e a' d') : ERs e (a ++ a') (d ++ d') := by
  induction h with
  | nil => exact k
  | cons h _ ih => exact .cons h ih
theorem MdR.mono {e e' : Env} (he : Env.le e e') {a v} (h : MdR e a v) : MdR e' a v := by
  cases h with
  | run => exact .run
  | returning => exact .returning
  | panicking h => exact .panicking (h.mono he)

def NoCall : List Item → Prop
  | .call .. :: _ => False
  | _ => True

theorem IRs.noCall {e : Env} {a d} (h : IRs e a d) : NoCall d := by
  cases h with
  | nil => trivial
  | cons h _ => cases h <;> trivial

theorem TD.noCall {e : Env} {n T tf a d} (h : TD e n T tf a d) : NoCall d := by
  cases h with
  | plain h => exact h.noCall
  | wait _ _ _ => trivial
  | run _ _ _ => trivial

/-- What is no region whose order is open is plain. -/
theorem TD.irs {e : Env} {n T tf a d} (h : TD e n T tf a d) (h1 : ∀ all c f t l, a ≠ .waitDrawn all c f t :: l) (h2 : ∀ all c f t l, a ≠ .inDrawn all c f t :: l) : IRs e a d := by
  cases h with
  | plain h => exact h
  | wait _ _ _ => exact absurd rfl (h1 _ _ _ _ _)
  | run _ _ _ => exact absurd rfl (h2 _ _ _ _ _)

structure FR (P : Program) (e : Env) (a : AFr) (F : Frame) : Prop where
  fn : F.fn = a.fn
  known : ∃ fn, P.funcs[a.fn]? = some fn
  tm : TRel e a.n a.tmps F.tmps
  todo : a.mode = .run → TD e a.n F.tmps a.tmps a.todo F.todo
  nocall : NoCall F.todo
  defers : DRs e a.defers F.defers
  mode : MdR e a.mode F.mode
  kind : F.kind = if a.deferredKind then .deferred else .normal
  round : RdR e a.round F.roundOf

theorem FR.mono {P : Program} {e e' : Env} (he : Env.le e e') {a F} (h : FR P e a F) : FR P e' a F :=
  { fn := h.fn, known := h.known, tm := h.tm.mono he, todo := fun q => (h.todo q).mono he, nocall := h.nocall, defers := h.defers.mono he, mode := h.mode.mono he, kind := h.kind, round := h.round.mono he }

inductive FRs (P : Program) (e : Env) : List AFr → List Frame → Prop
  | nil : FRs P e [] []
  | cons {a v l m} (h : FR P e a v) (hs : FRs P e l m) : FRs P e (a :: l) (v :: m)
theorem FRs.mono {P : Program} {e e' : Env} (he : Env.le e e') {a v} (h : FRs P e a v) : FRs P e' a v := by
  induction h with
  | nil => exact .nil
  | cons h _ ih => exact .cons (h.mono he) ih

section
variable {P : Program} {w0 : Base}

theorem fromArgs_rel {e : Env} {m : Nat} (_ : m ≤ 1000000) : ∀ (args : List AVal) (i : Nat) (t : Tr AVal) (T : Array Value) (ARGS : List Value), i + args.length ≤ m → VRs e args ARGS → TRel e m t T →
    TRel e m (fromArgs t i args) ((ARGS.zipIdx i).foldl (fun T x => T.setIfInBounds x.2 x.1) T) := by
  intro args
  induction args with
  | nil => intro i t T ARGS _ ha hT; cases ha; exact hT
  | cons a args ih =>
    intro i t T ARGS hl ha hT
    cases ha with
    | cons h hs =>
      simp at hl
      simp only [fromArgs, List.zipIdx_cons, List.foldl_cons]
      exact ih (i + 1) _ _ _ (by omega) hs (hT.put (by omega) h)

theorem setArgs (k : Nat) : ∀ (ARGS PRE : List Value), (ARGS.zipIdx PRE.length).foldl (fun (T : Array Value) x => T.setIfInBounds x.2 x.1) (PRE ++ List.replicate (ARGS.length + k) undef).toArray =
    (PRE ++ ARGS ++ List.replicate k undef).toArray := by
  intro ARGS
  induction ARGS with
  | nil => intro PRE; simp
  | cons v ARGS ih =>
    intro PRE
    simp only [List.zipIdx_cons, List.foldl_cons]
    have h1 : (PRE ++ List.replicate ((v :: ARGS).length + k) undef).toArray.setIfInBounds PRE.length v = ((PRE ++ [v]) ++ List.replicate (ARGS.length + k) undef).toArray := by
      have : (v :: ARGS).length + k = (ARGS.length + k) + 1 := by simp; omega
      rw [this, List.replicate_succ]
      simp
    have h2 := ih (PRE ++ [v])
    rw [h1]
    simp only [List.length_append, List.length_cons, List.length_nil, Nat.zero_add] at h2 ⊢
    rw [h2]
    simp

theorem aFrame_sim {e : Env} {f : FuncId} {args : List AVal} {ARGS : List Value} {dk : Bool} {fr : AFr} (ha : VRs e args ARGS) (k : aFrame P f args dk = some fr) :
    FR P e fr (Frame.enter P f ARGS.toArray (if dk then .deferred else .normal)) := by
  unfold aFrame at k
  split at k
  · rename_i fn hf
    obtain ⟨_, hfn, c, hc⟩ := aFunc_run (W := default) hf #[]
    split at k
    · rename_i c' hc'
      cases b1 : Nat.ble args.length fn.ntmps with
      | false => rw [b1] at k; cases k
      | true =>
        cases b2 : Nat.ble fn.ntmps 1000000 with
        | false => rw [b1, b2] at k; cases k
        | true =>
          rw [b1, b2] at k
          cases k
          have p1 := Nat.le_of_ble_eq_true b1
          have p2 := Nat.le_of_ble_eq_true b2
          have hlen := ha.length
          have hempty : TRel e fn.ntmps Tr.leaf (([] : List Value) ++ List.replicate (ARGS.length + (fn.ntmps - ARGS.length)) undef).toArray :=
            ⟨by simp; omega, p2, fun i a q => by rw [Tr.get_leaf] at q; cases q⟩
          have h1 := fromArgs_rel p2 args 0 _ _ ARGS (by omega) ha hempty
          have h2 := setArgs (fn.ntmps - ARGS.length) ARGS []
          simp only [List.length_nil] at h2
          rw [h2] at h1
          refine { fn := rfl, known := ⟨fn, hfn⟩, tm := ?_, todo := fun _ => ?_, nocall := ?_, defers := .nil, mode := .run, kind := rfl, round := .none }
          · have : (Frame.enter P f ARGS.toArray (if dk then .deferred else .normal)).tmps = ([] ++ ARGS ++ List.replicate (fn.ntmps - ARGS.length) undef).toArray := by
              simp [Frame.enter, hfn]
            rw [this]; exact h1
          · have : (Frame.enter P f ARGS.toArray (if dk then .deferred else .normal)).todo = [.code c'] := by simp [Frame.enter, hfn, hc']
            rw [this]; exact .plain (.cons (.code c') .nil)
          · have : (Frame.enter P f ARGS.toArray (if dk then .deferred else .normal)).todo = [.code c'] := by simp [Frame.enter, hfn, hc']
            rw [this]; trivial
    · cases k
  · cases k
end
end Go.AbsE
