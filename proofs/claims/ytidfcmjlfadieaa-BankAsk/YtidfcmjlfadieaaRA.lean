import Derived.Test.YtidfcmjlfadieaaEn
set_option linter.unusedSimpArgs false
namespace Go.AbsE
open Go

/-! What a state comes to, for calls with any arguments. -/

def Reach (P : Program) (m : AM) (Q : AM → Prop) : Prop :=
  ∀ (w0 : Base) (e : Env) (W : World) (F : Frame) (Fr cs : List Frame), FRs P e m.stack (F :: Fr) → HR P w0 e m.h W → ∃ m', Q m' ∧ SS P w0 cs (lone F (Fr ++ cs) W) m'

section
variable {P : Program}

theorem Reach.done {m : AM} {Q : AM → Prop} (h : Q m) : Reach P m Q :=
  fun _ e W F Fr _ hF r => ⟨m, h, e, F, Fr, W, Steps.refl _ _, hF, r⟩

theorem Reach.bind {m : AM} {R Q : AM → Prop} (h : Reach P m R) (k : ∀ m', R m' → Reach P m' Q) : Reach P m Q := by
  intro w0 e W F Fr cs hF r
  obtain ⟨m1, h1, e1, F1, Fr1, W1, s1, hF1, r1⟩ := h w0 e W F Fr cs hF r
  obtain ⟨m2, h2, hs⟩ := k m1 h1 w0 e1 W1 F1 Fr1 cs hF1 r1
  exact ⟨m2, h2, SS.head s1 hs⟩

theorem Reach.mono {m : AM} {R Q : AM → Prop} (h : Reach P m R) (k : ∀ m', R m' → Q m') : Reach P m Q :=
  h.bind fun m' h' => .done (k m' h')

theorem Reach.step {J : Jump} (hJ : JOk P J) {m m' : AM} {Q : AM → Prop} (k : aStep P J m = some m') (h : Reach P m' Q) : Reach P m Q := by
  intro w0 e W F Fr cs hF r
  obtain ⟨e1, F1, Fr1, W1, s1, hF1, r1⟩ := aStep_sim hJ k hF r cs
  obtain ⟨m2, h2, hs⟩ := h w0 e1 W1 F1 Fr1 cs hF1 r1
  exact ⟨m2, h2, SS.head s1 hs⟩

/-- Blocks may be forgotten. -/
def AH.sub (h' h : AH) : Prop := h.next ≤ h'.next ∧ ∀ b o, h'.get b = some o → h.get b = some o

theorem HR.weaken {w0 : Base} {e : Env} {h h' : AH} {W : World} (r : HR P w0 e h W) (s : AH.sub h' h) : HR P w0 e h' W :=
  ⟨fun b x k => Nat.lt_of_lt_of_le (r.dom b x k) s.1, fun b o k => r.blk b o (s.2 b o k), fun b b' B c c' o o' k k' => r.inj b b' B c c' o o' (s.2 b o k) (s.2 b' o' k'),
    fun B CS hi => ⟨(r.imm B CS hi).1, fun b o c k => (r.imm B CS hi).2 b o c (s.2 b o k)⟩, r.os, r.tape, r.output, r.size, r.old, r.young⟩

theorem Reach.forget {st : List AFr} {h h' : AH} {Q : AM → Prop} (s : AH.sub h' h) (k : Reach P ⟨st, h'⟩ Q) : Reach P ⟨st, h⟩ Q :=
  fun w0 e W F Fr cs hF r => k w0 e W F Fr cs hF (HR.weaken r s)

/-! ### calls -/
inductive AEnd where
  | ret (v : AVal)
  | pan (chain : List AEntry)

/-- A frame that is about to be left. -/
def Ended (P : Program) (f : FuncId) (fr : AFr) (h : AH) : AEnd → Prop
  | .ret v => fr.fn = f ∧ fr.mode = .returning ∧ fr.defers = [] ∧ fr.deferredKind = false ∧ aResult P h f fr.tmps = some v
  | .pan chain => fr.fn = f ∧ fr.mode = .panicking chain ∧ fr.defers = [] ∧ fr.deferredKind = false

/-- A call ends so. -/
def Runs (P : Program) (f : FuncId) (args : List AVal) (h : AH) (R : AEnd → AH → Prop) : Prop :=
  ∃ fr, aFrame P f args false = some fr ∧ ∀ rest, Reach P ⟨fr :: rest, h⟩ fun m => ∃ en h' fr', R en h' ∧ Ended P f fr' h' en ∧ m = ⟨fr' :: rest, h'⟩

theorem Runs.mono {f : FuncId} {args : List AVal} {h : AH} {R R' : AEnd → AH → Prop} (k : Runs P f args h R) (i : ∀ en h', R en h' → R' en h') : Runs P f args h R' := by
  obtain ⟨fr, h1, h2⟩ := k
  exact ⟨fr, h1, fun rest => (h2 rest).mono fun m ⟨en, h', fr', q1, q2, q3⟩ => ⟨en, h', fr', i _ _ q1, q2, q3⟩⟩

/-- What is behind a call. -/
theorem Reach.call {J : Jump} (hJ : JOk P J) {f : FuncId} {args : List AVal} {h : AH} {R : AEnd → AH → Prop} (k : Runs P f args h R) {fr : AFr} (hfr : aFrame P f args false = some fr) {c : AFr} {rest : List AFr} {Q : AM → Prop}
    (hr : ∀ v h', R (.ret v) h' → ∃ c', c.finish v = some c' ∧ Reach P ⟨c' :: rest, h'⟩ Q) (hp : ∀ chain h', R (.pan chain) h' → Reach P ⟨c.raise chain :: rest, h'⟩ Q) : Reach P ⟨fr :: c :: rest, h⟩ Q := by
  obtain ⟨fr0, h1, h2⟩ := k
  rw [hfr] at h1
  cases h1
  refine (h2 (c :: rest)).bind ?_
  rintro m ⟨en, h', fr', q1, q2, rfl⟩
  obtain ⟨fn, n, t, todo, ds, md, dk, rd⟩ := fr'
  cases en with
  | ret v =>
    obtain ⟨e1, e2, e3, e4, e5⟩ := q2
    dsimp only at e1 e2 e3 e4 e5
    subst e1 e2 e3 e4
    obtain ⟨c', g1, g2⟩ := hr v h' q1
    refine Reach.step hJ (m' := ⟨c' :: rest, h'⟩) ?_ g2
    show aUnwind P ⟨fn, n, t, todo, [], .returning, false, rd⟩ (c :: rest) h' = some ⟨c' :: rest, h'⟩
    unfold aUnwind
    simp only [e5, aReturn, cond_false, g1, one]
  | pan chain =>
    obtain ⟨e1, e2, e3, e4⟩ := q2
    dsimp only at e1 e2 e3 e4
    subst e1 e2 e3 e4
    refine Reach.step hJ (m' := ⟨c.raise chain :: rest, h'⟩) ?_ (hp chain h' q1)
    rfl

/-- To the model's own words. -/
theorem Runs.calls {f : FuncId} {args : List AVal} {ARGS : List Value} {h : AH} {e : Env} {W : World} {R : AEnd → AH → Prop} (k : Runs P f args h R) (hp : ∀ chain h', ¬ R (.pan chain) h') (r : HR P (Base.all W) e h W) (ha : VRs e args ARGS) :
    Calls P f ARGS.toArray W fun en W' => ∃ v h' e' V, R (.ret v) h' ∧ en = .returned V ∧ VR e' v V ∧ HR P (Base.all W) e' h' W' := by
  intro cs
  obtain ⟨fr, h1, h2⟩ := k
  have hF := aFrame_sim ha h1
  obtain ⟨m, ⟨en, h', fr', q1, q2, rfl⟩, e', F, Fr, W', s1, s2, s3⟩ := h2 [] (Base.all W) e W (Frame.enter P f ARGS.toArray .normal) [] cs (.cons hF .nil) r
  cases en with
  | pan chain => exact absurd q1 (hp _ _)
  | ret v =>
    obtain ⟨fn, n, t, todo, ds, md, dk, rd⟩ := fr'
    obtain ⟨e1, e2, e3, e4, e5⟩ := q2
    dsimp only at e1 e2 e3 e4 e5 s2 s3
    subst e1 e2 e3 e4
    cases s2 with
    | cons hf2 hnil =>
      cases hnil
      obtain ⟨fn1, V, q1', q2', q3'⟩ := aResult_run s3 hf2.tm e5
      refine ⟨.returned V, W', F, ⟨v, h', e', V, q1, rfl, q2', s3⟩, s1, hf2.fn, ?_⟩
      have hm := hf2.mode
      have hd := hf2.defers
      generalize hM : F.mode = M at hm
      generalize hD : F.defers = D at hd
      cases hm
      cases hd
      exact ⟨hM, hD, hf2.kind, fn1, by rw [hf2.fn]; exact q1', q3'⟩
end
end Go.AbsE

set_option linter.unusedSimpArgs false
namespace Go.AbsE
open Go

/-! The rules, item by item. -/

/-- What a frame has beside its temporaries and what it has to do; the frames below. -/
structure FC where
  fn : FuncId
  n : Nat
  ds : List ADef
  dk : Bool
  rd : Option Nat
  rest : List AFr

def FC.fr (c : FC) (k : List AItem) (t : Tr AVal) : AFr := ⟨c.fn, c.n, t, k, c.ds, .run, c.dk, c.rd⟩
def FC.st (c : FC) (k : List AItem) (t : Tr AVal) (h : AH) : AM := ⟨c.fr k t :: c.rest, h⟩

def Go (P : Program) (c : FC) (k : List AItem) (t : Tr AVal) (h : AH) (Q : AM → Prop) : Prop := Reach P (c.st k t h) Q

def exitA (id : Nat) : List AItem → Option (List AItem)
  | [] => none
  | it :: k => match it with
    | .inBlock id' => if id' = id then some k else exitA id k
    | _ => exitA id k

/-- What is behind a piece of code, by what it came to. -/
def GoR (P : Program) (J : Jump) (c : FC) (k : List AItem) (Q : AM → Prop) : R → Prop
  | .norm t h => Go P c k t h Q
  | .exit id t h => match exitA id k with
    | some k' => Go P c k' t h Q
    | none => ∃ m', aLeave (c.fr [] t) c.rest h (some (.exit id)) = some m' ∧ Reach P m' Q
  | .ret t h => ∃ m', aLeave (c.fr [] t) c.rest h (some .ret) = some m' ∧ Reach P m' Q
  | .susp s t x => ∃ m', aNext P J (c.fr (s ++ k) t) c.rest x = some m' ∧ Reach P m' Q
  | .slow s t h => ∃ m', doSlow P (c.fr (s ++ k) t) c.rest h (s ++ k) = some m' ∧ Reach P m' Q
  | .stuck _ => False

section
variable {P : Program}

theorem exitA_rel {e : Env} {id : Nat} {k : List AItem} {K : List Item} (h : IRs e k K) : match exitA id k with | some k' => ∃ K', exitTo id K = some K' ∧ IRs e k' K' | none => exitTo id K = none := by
  induction h with
  | nil => rfl
  | @cons it IT l m hi hs ih =>
    cases hi with
    | inBlock id' =>
      unfold exitA
      simp only []
      by_cases hq : id' = id
      · rw [if_pos hq]; exact ⟨m, by simp [exitTo, hq], hs⟩
      · rw [if_neg hq]
        have : exitTo id (.inBlock id' :: m) = exitTo id m := by simp [exitTo, hq]
        rw [this]; exact ih
    | _ => exact ih

theorem FR.todo_set {e : Env} {c : FC} {k k' : List AItem} {t t' : Tr AVal} {F : Frame} {T' : Array Value} {K' : List Item} (h : FR P e (c.fr k t) F) (ht : TRel e c.n t' T') (hk : TD e c.n T' t' k' K') :
    FR P e (c.fr k' t') (Frame.w F T' K') :=
  { fn := h.fn, known := h.known, tm := ht, todo := fun _ => hk, nocall := hk.noCall, defers := h.defers, mode := h.mode, kind := h.kind, round := h.round }

theorem run_mode {e : Env} {c : FC} {k : List AItem} {t : Tr AVal} {F : Frame} (h : FR P e (c.fr k t) F) : F.mode = .run := by
  have := h.mode
  generalize F.mode = M at this
  cases this
  rfl

/-- From what the true machine does with what stands at the head. -/
theorem Go.of_RS {J : Jump} (hJ : JOk P J) {c : FC} {k k2 : List AItem} {t : Tr AVal} {h : AH} {Q : AM → Prop} {r : R}
    (H : ∀ (w0 : Base) (e : Env) (W : World) (F : Frame) (cs : List Frame), F.mode = .run → TRel e c.n t F.tmps → HR P w0 e h W → TD e c.n F.tmps t k F.todo →
      ∃ K2, IRs e k2 K2 ∧ RS P w0 F c.n cs e (lone F cs W) K2 r)
    (g : GoR P J c k2 Q r) : Go P c k t h Q := by
  intro w0 e W F Fr cs hF rr
  have hF' : FRs P e (c.fr k t :: c.rest) (F :: Fr) := hF
  cases hF' with
  | cons h1 hFr =>
    have hm := run_mode h1
    obtain ⟨K2, hK2, hRS⟩ := H w0 e W F (Fr ++ cs) hm h1.tm rr (h1.todo rfl)
    have exec : ∀ {r' : R} {m' : AM}, RS P w0 F c.n (Fr ++ cs) e (lone F (Fr ++ cs) W) [] r' → aExec P J c.fn c.n c.ds c.dk c.rd c.rest r' = some m' → Reach P m' Q → ∃ m', Q m' ∧ SS P w0 cs (lone F (Fr ++ cs) W) m' := by
      intro r' m' hr hx hq
      obtain ⟨e1, F1, Fr1, W1, s1, s2, s3⟩ := exec_sim hJ hx hm h1 hFr hr
      obtain ⟨m2, h2, hs⟩ := hq w0 e1 W1 F1 Fr1 cs s2 s3
      exact ⟨m2, h2, SS.head s1 hs⟩
    have todo : ∀ {r'}, (∀ t h, r' ≠ .norm t h) → RS P w0 F c.n (Fr ++ cs) e (lone F (Fr ++ cs) W) K2 r' → RS P w0 F c.n (Fr ++ cs) e (lone F (Fr ++ cs) W) [] (runTodo P c.n k2 r') :=
      fun _ hr => runTodo_sim hm k2 K2 e _ _ (fun e' he => hK2.mono he) hr
    cases r with
    | stuck i => exact g.elim
    | norm t' h' =>
      obtain ⟨e', T', W', s1, s2, s3, s4⟩ := hRS
      obtain ⟨m2, h2, hs⟩ := g w0 e' W' (Frame.w F T' K2) Fr cs (.cons (FR.todo_set (h1.mono s2) s3 (.plain (hK2.mono s2))) (hFr.mono s2)) s4
      exact ⟨m2, h2, SS.head s1 hs⟩
    | ret t' h' =>
      obtain ⟨m', hx, hq⟩ := g
      obtain ⟨e', T', W', J', s1, s2, s3, s4⟩ := hRS
      exact exec (r' := .ret t' h') ⟨e', T', W', J', s1, s2, s3, s4⟩ hx hq
    | susp s t' x =>
      obtain ⟨m', hx, hq⟩ := g
      obtain ⟨e', T', W', J', s1, s2, s3, s4, s5⟩ := hRS
      exact exec (r' := .susp (s ++ k2) t' x) ⟨e', T', W', J' ++ K2, by simpa using s1, s2, s3, s4.append (hK2.mono s2), s5.append⟩ hx hq
    | slow s t' h' =>
      obtain ⟨m', hx, hq⟩ := g
      obtain ⟨e', T', W', J', s1, s2, s3, s4, s5⟩ := hRS
      exact exec (r' := .slow (s ++ k2) t' h') ⟨e', T', W', J' ++ K2, by simpa using s1, s2, s3, s4.append (hK2.mono s2), s5⟩ hx hq
    | exit id t' h' =>
      obtain ⟨e', T', W', J', s1, sx, s2, s3, s4⟩ := hRS
      have hrel := exitA_rel (id := id) (hK2.mono s2)
      dsimp only [GoR] at g
      cases hx : exitA id k2 with
      | some k' =>
        rw [hx] at g hrel
        obtain ⟨K', q1, q2⟩ := hrel
        have hex := st_exit (P := P) (b := F) hm (T := T') (k := J' ++ K2) (cs := Fr ++ cs) (W := W') (id := id) (k' := K') (by rw [sx, q1])
        obtain ⟨m2, h2, hs⟩ := g w0 e' W' (Frame.w F T' K') Fr cs (.cons (FR.todo_set (h1.mono s2) s3 (.plain q2)) (hFr.mono s2)) s4
        exact ⟨m2, h2, SS.head (s1.trans (.one hex)) hs⟩
      | none =>
        rw [hx] at g hrel
        obtain ⟨m', hq1, hq2⟩ := g
        refine exec (r' := .exit id t' h') ⟨e', T', W', J' ++ K2, by simpa using s1, ?_, s2, s3, s4⟩ hq1 hq2
        rw [List.append_nil, sx, hrel]; rfl

theorem plain_head {e : Env} {n : Nat} {T : Array Value} {tf : Tr AVal} {it : AItem} {k : List AItem} {Ks : List Item} (h : TD e n T tf (it :: k) Ks) (h1 : ∀ all c f t, it ≠ .waitDrawn all c f t) (h2 : ∀ all c f t, it ≠ .inDrawn all c f t) :
    ∃ IT K, Ks = IT :: K ∧ IR e it IT ∧ IRs e k K := by
  have := h.irs (fun all c f t l q => by injection q with q1 q2; exact h1 all c f t q1) (fun all c f t l q => by injection q with q1 q2; exact h2 all c f t q1)
  cases this with
  | cons a b => exact ⟨_, _, rfl, a, b⟩

theorem Frame.w_self {F : Frame} {K : List Item} (h : F.todo = K) : F = Frame.w F F.tmps K := by cases F; subst h; rfl

variable {J : Jump} (hJ : JOk P J) {c : FC} {k : List AItem} {t : Tr AVal} {h : AH} {Q : AM → Prop}
include hJ

theorem Go.code {b : Code} (g : GoR P J c k Q ((den P c.n b).run t h)) : Go P c (.code b :: k) t h Q := by
  refine Go.of_RS hJ (fun w0 e W F cs hm hT hr htd => ?_) g
  obtain ⟨IT, K, q1, q2, q3⟩ := plain_head htd (fun _ _ _ _ q => by cases q) (fun _ _ _ _ q => by cases q)
  cases q2
  refine ⟨K, q3, ?_⟩
  have := den_sim (P := P) (w0 := w0) (b := F) (n := c.n) (cs := cs) hm b e t h F.tmps W K hT hr
  rw [← Frame.w_self q1] at this
  exact this

theorem Go.inRegion {all : Array Oper} {i : Nat} {ops : List Oper} (g : GoR P J c k Q (runOps P c.n all ops i t h)) : Go P c (.inRegion all i ops :: k) t h Q := by
  refine Go.of_RS hJ (fun w0 e W F cs hm hT hr htd => ?_) g
  obtain ⟨IT, K, q1, q2, q3⟩ := plain_head htd (fun _ _ _ _ q => by cases q) (fun _ _ _ _ q => by cases q)
  cases q2 with
  | inRegion ho =>
    refine ⟨K, q3, ?_⟩
    have := runOps_sim (P := P) (w0 := w0) (b := F) (n := c.n) (cs := cs) hm all ops i e t h F.tmps W K ho hT hr
    rw [← Frame.w_self q1] at this
    exact this

theorem Go.inDrawn {all : Array Oper} {pl : List DOp} {facts : List DFact} {ta : Tr AVal} (g : GoR P J c k Q (againD P c.n all pl facts t ta h)) : Go P c (.inDrawn all pl facts ta :: k) t h Q := by
  refine Go.of_RS hJ (fun w0 e W F cs hm hT hr htd => ?_) g
  generalize hQ : F.todo = K0 at htd
  cases htd with
  | plain hp => cases hp with | cons a b => cases a
  | run hd hp hs =>
    rename_i B s t0 V tc D A K
    refine ⟨K, hs, ?_⟩
    unfold againD
    cases hrc : recheck P h facts with
    | false => trivial
    | true =>
      have := runC_sim (P := P) (w0 := w0) (n := c.n) (cs := cs) (b := F) (K := K) hm pl hd hp (recheck_ok hrc) hr
      rw [← Frame.w_self hQ] at this
      exact this

/-- One step of the true machine, at an item that does nothing else. -/
theorem Go.plain {it : AItem} {k2 : List AItem} (h1 : ∀ all c f t, it ≠ .waitDrawn all c f t) (h2 : ∀ all c f t, it ≠ .inDrawn all c f t)
    (H : ∀ (e : Env) (IT : Item) (K : List Item), IR e it IT → IRs e k K → ∃ K2, IRs e k2 K2 ∧ ∀ (F : Frame) (T : Array Value) (cs : List Frame) (W : World), F.mode = .run → Steps P (lone (Frame.w F T (IT :: K)) cs W) (lone (Frame.w F T K2) cs W))
    (g : Go P c k2 t h Q) : Go P c (it :: k) t h Q := by
  refine Go.of_RS hJ (k2 := k2) (r := .norm t h) (fun w0 e W F cs hm hT hr htd => ?_) g
  obtain ⟨IT, K, q1, q2, q3⟩ := plain_head htd h1 h2
  obtain ⟨K2, q4, q5⟩ := H e IT K q2 q3
  refine ⟨K2, q4, e, F.tmps, W, ?_, Env.le_refl e, hT, hr⟩
  have := q5 F F.tmps cs W hm
  rw [← Frame.w_self q1] at this
  exact this

theorem Go.seq {x y : Code} (g : Go P c (.code x :: .code y :: k) t h Q) : Go P c (.code (.seq x y) :: k) t h Q := by
  refine Go.plain hJ (fun _ _ _ _ q => by cases q) (fun _ _ _ _ q => by cases q) (fun e IT K a b => ?_) g
  cases a
  exact ⟨_, .cons (.code x) (.cons (.code y) b), fun F T cs W hm => .one (st_seq hm)⟩

theorem Go.loop {x : Code} (g : Go P c (.code x :: .inLoop x :: k) t h Q) : Go P c (.code (.loop x) :: k) t h Q := by
  refine Go.plain hJ (fun _ _ _ _ q => by cases q) (fun _ _ _ _ q => by cases q) (fun e IT K a b => ?_) g
  cases a
  exact ⟨_, .cons (.code x) (.cons (.inLoop x) b), fun F T cs W hm => .one (st_loop hm)⟩

theorem Go.inLoop {x : Code} (g : Go P c (.code x :: .inLoop x :: k) t h Q) : Go P c (.inLoop x :: k) t h Q := by
  refine Go.plain hJ (fun _ _ _ _ q => by cases q) (fun _ _ _ _ q => by cases q) (fun e IT K a b => ?_) g
  cases a
  exact ⟨_, .cons (.code x) (.cons (.inLoop x) b), fun F T cs W hm => .one (st_inLoop hm)⟩

theorem Go.block {id : Nat} {x : Code} (g : Go P c (.code x :: .inBlock id :: k) t h Q) : Go P c (.code (.block id x) :: k) t h Q := by
  refine Go.plain hJ (fun _ _ _ _ q => by cases q) (fun _ _ _ _ q => by cases q) (fun e IT K a b => ?_) g
  cases a
  exact ⟨_, .cons (.code x) (.cons (.inBlock id) b), fun F T cs W hm => .one (st_block hm)⟩

theorem Go.inBlock {id : Nat} (g : Go P c k t h Q) : Go P c (.inBlock id :: k) t h Q := by
  refine Go.plain hJ (fun _ _ _ _ q => by cases q) (fun _ _ _ _ q => by cases q) (fun e IT K a b => ?_) g
  cases a
  exact ⟨_, b, fun F T cs W hm => .one (st_inBlock hm)⟩

theorem Go.scope {x : Code} (g : Go P c (.code x :: .inScope x :: k) t h Q) : Go P c (.code (.scope x) :: k) t h Q := by
  refine Go.plain hJ (fun _ _ _ _ q => by cases q) (fun _ _ _ _ q => by cases q) (fun e IT K a b => ?_) g
  cases a
  exact ⟨_, .cons (.code x) (.cons (.inScope x) b), fun F T cs W hm => .one (st_scope hm)⟩

theorem Go.inScope {x : Code} (g : Go P c k t h Q) : Go P c (.inScope x :: k) t h Q := by
  refine Go.plain hJ (fun _ _ _ _ q => by cases q) (fun _ _ _ _ q => by cases q) (fun e IT K a b => ?_) g
  cases a
  exact ⟨_, b, fun F T cs W hm => .one (st_inScope hm)⟩

theorem Go.cond {o : Operand} {x y : Code} {b : Bool} (hb : ev t o = some (.bool b)) (g : Go P c (.code (if b then x else y) :: k) t h Q) : Go P c (.code (.cond o x y) :: k) t h Q := by
  refine Go.of_RS hJ (k2 := .code (if b then x else y) :: k) (r := .norm t h) (fun w0 e W F cs hm hT hr htd => ?_) g
  obtain ⟨IT, K, q1, q2, q3⟩ := plain_head htd (fun _ _ _ _ q => by cases q) (fun _ _ _ _ q => by cases q)
  cases q2
  have hv := ev_rel hT hb
  generalize hC : opd F.tmps o = C at hv
  cases hv
  refine ⟨_, .cons (.code _) q3, e, F.tmps, W, ?_, Env.le_refl e, hT, hr⟩
  have := st_cond (P := P) hm (T := F.tmps) (k := K) (cs := cs) (W := W) (c := o) (x := x) (y := y) hC
  rw [← Frame.w_self q1] at this
  exact .one this

/-- Nothing is left to do. -/
theorem Go.leave {m : AM} (k : aLeave (c.fr [] t) c.rest h none = some m) (g : Reach P m Q) : Go P c [] t h Q :=
  Reach.step hJ (m' := m) (by show aExec P J c.fn c.n c.ds c.dk c.rd c.rest (.norm t h) = some m; exact k) g

theorem Go.slow {it : AItem} (hi : runItem P c.n it t h = .slow [it] t h) {m : AM} (q : doSlow P (c.fr (it :: k) t) c.rest h (it :: k) = some m) (g : Reach P m Q) : Go P c (it :: k) t h Q := by
  refine Reach.step hJ (m' := m) ?_ g
  show aExec P J c.fn c.n c.ds c.dk c.rd c.rest (runTodo P c.n k (runItem P c.n it t h)) = some m
  rw [hi]
  have : runTodo P c.n k (.slow [it] t h) = .slow (it :: k) t h := by cases k <;> rfl
  rw [this]
  exact q

omit hJ in
theorem TD.weaken {e : Env} {n : Nat} {T : Array Value} {tf tf' : Tr AVal} {l : List AItem} {m : List Item} (hw : ∀ x a, tf'.get (pth x) = some a → tf.get (pth x) = some a) (h : TD e n T tf l m) : TD e n T tf' l m := by
  cases h with
  | plain h => exact .plain h
  | wait h hp hs => exact .wait { h with fr := fun x a q => h.fr x a (hw x a q) } hp hs
  | run h hp hs => exact .run { h with fr := fun x a q => h.fr x a (hw x a q) } hp hs

omit hJ in
/-- Temporaries may be forgotten. -/
theorem Go.weaken {t' : Tr AVal} (hw : ∀ x a, t'.get (pth x) = some a → t.get (pth x) = some a) (g : Go P c k t' h Q) : Go P c k t h Q := by
  intro w0 e W F Fr cs hF r
  have hF' : FRs P e (c.fr k t :: c.rest) (F :: Fr) := hF
  cases hF' with
  | cons h1 hFr =>
    refine g w0 e W F Fr cs (.cons { fn := h1.fn, known := h1.known, tm := ⟨h1.tm.1, h1.tm.2.1, fun i a q => h1.tm.2.2 i a (hw i a q)⟩, todo := fun _ => (h1.todo rfl).weaken hw, nocall := h1.nocall, defers := h1.defers, mode := h1.mode, kind := h1.kind, round := h1.round } hFr) r
end
end Go.AbsE

set_option linter.unusedSimpArgs false
namespace Go.AbsE
open Go

section
variable {P : Program}

/-- What the walk of a body is to end in. -/
def Post (P : Program) (f : FuncId) (rest : List AFr) (R : AEnd → AH → Prop) (m : AM) : Prop := ∃ en h' fr', R en h' ∧ Ended P f fr' h' en ∧ m = ⟨fr' :: rest, h'⟩

theorem Runs.intro {f : FuncId} {fn : Func} {b : Code} {n : Nat} {args : List AVal} {h : AH} {R : AEnd → AH → Prop} (hf : aFunc P f = some fn) (hb : fn.body = some b) (hn : fn.ntmps = n) (h1 : Nat.ble args.length n = true) (h2 : Nat.ble n 1000000 = true)
    (H : ∀ rest, Go P ⟨f, n, [], false, none, rest⟩ [.code b] (fromArgs .leaf 0 args) h (Post P f rest R)) : Runs P f args h R := by
  refine ⟨⟨f, n, fromArgs .leaf 0 args, [.code b], [], .run, false, none⟩, ?_, fun rest => H rest⟩
  unfold aFrame
  rw [hf]
  simp only [hb, hn, h1, h2, cond_true]

/-- A function returns. -/
theorem ret_end {f : FuncId} {n : Nat} {rest : List AFr} {t : Tr AVal} {h : AH} {R : AEnd → AH → Prop} {v : AVal} (hv : aResult P h f t = some v) (hR : R (.ret v) h) :
    ∃ m', aLeave (FC.fr ⟨f, n, [], false, none, rest⟩ [] t) rest h (some .ret) = some m' ∧ Reach P m' (Post P f rest R) :=
  ⟨⟨⟨f, n, t, [], [], .returning, false, none⟩ :: rest, h⟩, rfl, .done ⟨.ret v, h, _, hR, ⟨rfl, rfl, rfl, rfl, hv⟩, rfl⟩⟩

/-! the operations of a region, one by one -/
theorem GoR.op {J : Jump} {c : FC} {k : List AItem} {Q : AM → Prop} {all : Array Oper} {l : List Oper} {o : Oper} {rest : List Oper} {i : Nat} {t t' : Tr AVal} {h h' : AH} {v : AVal} (hl : l = o :: rest) (hw : wantedA all t o = some true)
    (hx : aOp P t h o = some (.val v h')) (hd : (prepD c.n o).run t v = some t') (g : GoR P J c k Q (runOps P c.n all rest (i + 1) t' h')) : GoR P J c k Q (runOps P c.n all l i t h) := by
  subst hl
  rw [runOps_cons, hw]
  show GoR P J c k Q ((afterP c.n i all o rest (runOpsP P c.n all rest (i + 1))).run t (aOp P t h o))
  rw [hx]
  show GoR P J c k Q ((contP i (runOpsP P c.n all rest (i + 1))).run h' ((prepD c.n o).run t v))
  rw [hd]
  exact g

theorem GoR.skip {J : Jump} {c : FC} {k : List AItem} {Q : AM → Prop} {all : Array Oper} {l : List Oper} {o : Oper} {rest : List Oper} {i : Nat} {t t' : Tr AVal} {h : AH} (hl : l = o :: rest) (hw : wantedA all t o = some false)
    (hd : (prepD c.n o).run t undefA = some t') (g : GoR P J c k Q (runOps P c.n all rest (i + 1) t' h)) : GoR P J c k Q (runOps P c.n all l i t h) := by
  subst hl
  rw [runOps_cons, hw]
  show GoR P J c k Q ((contP i (runOpsP P c.n all rest (i + 1))).run h ((prepD c.n o).run t undefA))
  rw [hd]
  exact g

theorem Go.region {J : Jump} (hJ : JOk P J) {c : FC} {k : List AItem} {Q : AM → Prop} {id : Nat} {ops : Array Oper} {l : List Oper} {t : Tr AVal} {h : AH} (hl : ops.toList = l)
    (g : GoR P J c k Q (runOps P c.n ops l 0 t h)) : Go P c (.code (.region id ops false) :: k) t h Q := by
  subst hl
  exact Go.code hJ g

theorem GoR.end {J : Jump} {c : FC} {k : List AItem} {Q : AM → Prop} {all : Array Oper} {i : Nat} {t : Tr AVal} {h : AH} (g : Go P c k t h Q) : GoR P J c k Q (runOps P c.n all [] i t h) := g

theorem Go.ret {J : Jump} (hJ : JOk P J) {c : FC} {k : List AItem} {Q : AM → Prop} {t : Tr AVal} {h : AH} (g : ∃ m', aLeave (c.fr [] t) c.rest h (some .ret) = some m' ∧ Reach P m' Q) : Go P c (.code .ret :: k) t h Q :=
  Go.code hJ g

theorem aResult_of {f : FuncId} {fn : Func} {h : AH} {t : Tr AVal} {l : List ResultVar} (hf : P.funcs[f]? = some fn) (hl : fn.results.toList = l) {vs : List AVal} (hv : aResults P h t l = some vs) : aResult P h f t = some (oneOrTuple vs) := by
  unfold aResult
  rw [hf]
  simp only [hl, hv]
end
end Go.AbsE

set_option linter.unusedSimpArgs false
namespace Go.AbsE
open Go

/-! Memory that is known in part. -/

/-- All blocks that were there are as they were. -/
def Ext (h h' : AH) : Prop := h.next ≤ h'.next ∧ ∀ b, b < h.next → h'.get b = h.get b
theorem Ext.refl (h : AH) : Ext h h := ⟨Nat.le_refl _, fun _ _ => rfl⟩
theorem Ext.trans {a b c : AH} (h : Ext a b) (k : Ext b c) : Ext a c := ⟨Nat.le_trans h.1 k.1, fun x hx => by rw [k.2 x (Nat.lt_of_lt_of_le hx h.1), h.2 x hx]⟩

/-- This block is there. -/
def Has (h : AH) (b : Nat) (o : ABlk) : Prop := b < h.next ∧ h.get b = some o
theorem Has.ext {h h' : AH} {b : Nat} {o : ABlk} (k : Has h b o) (e : Ext h h') : Has h' b o := ⟨Nat.lt_of_lt_of_le k.1 e.1, by rw [e.2 b k.1]; exact k.2⟩

/-- What is behind a store: one block turned. -/
def Upd (h : AH) (b : Nat) (o : ABlk) (h' : AH) : Prop := h'.next = h.next ∧ h'.get b = some o ∧ ∀ b', b' ≠ b → h'.get b' = h.get b'
theorem Has.upd {h h' : AH} {b b' : Nat} {o o' : ABlk} (k : Has h b' o') (u : Upd h b o h') (hn : b' ≠ b) : Has h' b' o' := ⟨by rw [u.1]; exact k.1, by rw [u.2.2 b' hn]; exact k.2⟩
theorem Upd.has {h h' : AH} {b : Nat} {o o' : ABlk} (k : Has h b o') (u : Upd h b o h') : Has h' b o := ⟨by rw [u.1]; exact k.1, u.2.1⟩
/-- What was made behind h0 does not count. -/
theorem Ext.upd {h0 h h' : AH} {b : Nat} {o : ABlk} (e : Ext h0 h) (u : Upd h b o h') (hb : h0.next ≤ b) : Ext h0 h' := ⟨by rw [u.1]; exact e.1, fun x hx => by rw [u.2.2 x (by omega)]; exact e.2 x hx⟩

theorem new_ext {h h1 : AH} {o : ABlk} {b : Nat} (k : h.new o = some (b, h1)) : b = h.next ∧ Ext h h1 ∧ Has h1 h.next o := by
  obtain ⟨h2, h3, h4⟩ := AH.get_new k
  exact ⟨h2, ⟨by omega, fun x hx => by rw [h4, if_neg (by omega)]⟩, by omega, by rw [h4, if_pos rfl]⟩

theorem new_some (h : AH) (o : ABlk) : ∃ h1, h.new o = some (h.next, h1) := by
  obtain ⟨t, nx⟩ := h
  exact ⟨_, rfl⟩

section
variable {P : Program}

/-- The value in some cells. -/
noncomputable def inCells (P : Program) (t : TypeId) (cs : List AVal) (off : Nat) : Option AVal :=
  match isAggT P t with
  | some true => match sizeT P t with
    | some n => match slice? cs off n with | some cs => some (.agg cs) | none => none
    | none => none
  | some false => match slice? cs off 1 with
    | some [v] => some v
    | _ => none
  | none => none

theorem loadVar_cells {h : AH} {t : TypeId} {b off : Nat} {g : Kd} {cs : List AVal} {el : TypeId} {v : AVal} (hb : Has h b (.cells g cs el)) (hv : inCells P t cs off = some v) : loadVar P h t b off = some v := by
  unfold loadVar loadCells
  rw [hb.2]
  unfold inCells at hv
  exact hv

theorem aOp_load {o : Oper} {t : Tr AVal} {h : AH} {ty : TypeId} {a : Operand} {b off : Nat} {g : Kd} {cs : List AVal} {el : TypeId} {v : AVal} (ho : o.op = .load ty a) (ha : ev t a = some (.ptr b off)) (hb : Has h b (.cells g cs el))
    (hv : inCells P ty cs off = some v) : aOp P t h o = some (.val v h) := by
  obtain ⟨dst, op, type, pos, after, guard⟩ := o
  dsimp only at ho
  subst ho
  show opLoad P t h ty a = _
  unfold opLoad
  rw [ha]
  simp only [loadVar_cells hb hv, valO]

theorem GoR.box {J : Jump} {c : FC} {k : List AItem} {Q : AM → Prop} {all : Array Oper} {l : List Oper} {o : Oper} {rest : List Oper} {i d : Nat} {t : Tr AVal} {h : AH} {v : AVal} {el : TypeId} {x : Operand} (hl0 : l = o :: rest) (hw : wantedA all t o = some true)
    (ho : o.op = .box el x) (hv : ev t x = some v) (hd : o.dst = some d) (hn : Nat.blt d c.n = true)
    (g : ∀ h1, Ext h h1 → Has h1 h.next (.cells .plain v.cells el) → GoR P J c k Q (runOps P c.n all rest (i + 1) (t.put (pth d) (some (.ptr h.next 0))) h1)) :
    GoR P J c k Q (runOps P c.n all l i t h) := by
  subst hl0
  obtain ⟨h1, q⟩ := new_some h (.cells .plain v.cells el)
  obtain ⟨_, q2, q3⟩ := new_ext q
  refine GoR.op rfl hw (v := .ptr h.next 0) (h' := h1) ?_ ?_ (g h1 q2 q3)
  · obtain ⟨dst, op, type, pos, after, guard⟩ := o
    dsimp only at ho
    subst ho
    show opBox t h el x = _
    unfold opBox
    rw [hv]
    simp only [q, ptrTo]
  · unfold prepD
    rw [hd]
    simp only [hn, cond_true]
    rw [Tr.mkPut_eq]

theorem GoR.alloc {J : Jump} {c : FC} {k : List AItem} {Q : AM → Prop} {all : Array Oper} {l : List Oper} {o : Oper} {rest : List Oper} {i d : Nat} {t : Tr AVal} {h : AH} {z : AVal} {el : TypeId} (hl0 : l = o :: rest) (hw : wantedA all t o = some true)
    (ho : o.op = .alloc el) (hz : zeroT P el = some z) (hd : o.dst = some d) (hn : Nat.blt d c.n = true)
    (g : ∀ h1, Ext h h1 → Has h1 h.next (.cells .plain z.cells el) → GoR P J c k Q (runOps P c.n all rest (i + 1) (t.put (pth d) (some (.ptr h.next 0))) h1)) :
    GoR P J c k Q (runOps P c.n all l i t h) := by
  subst hl0
  obtain ⟨h1, q⟩ := new_some h (.cells .plain z.cells el)
  obtain ⟨_, q2, q3⟩ := new_ext q
  refine GoR.op rfl hw (v := .ptr h.next 0) (h' := h1) ?_ ?_ (g h1 q2 q3)
  · obtain ⟨dst, op, type, pos, after, guard⟩ := o
    dsimp only at ho
    subst ho
    show opAlloc P h el = _
    unfold opAlloc
    rw [hz]
    simp only [q, ptrTo]
  · unfold prepD
    rw [hd]
    simp only [hn, cond_true]
    rw [Tr.mkPut_eq]

theorem storeCells_has {h : AH} {b off : Nat} {g : Kd} {cs cs' vs : List AVal} {el : TypeId} (hb : Has h b (.cells g cs el)) (hg : g.isRo = false) (hs : scalars vs = true) (hsp : splice cs off vs = some cs') :
    ∃ h1, storeCells h b off vs = some h1 ∧ Upd h b (.cells g cs' el) h1 := by
  unfold storeCells
  rw [hb.2]
  simp only [hg, hs, hsp, cond_false, cond_true]
  obtain ⟨t, nx⟩ := h
  refine ⟨_, rfl, ?_⟩
  obtain ⟨k1, k2⟩ := AH.get_set (h := ⟨t, nx⟩) (h' := ⟨t.put (pth b) (some (.cells g cs' el)), nx⟩) (b := b) (o := some (.cells g cs' el)) rfl
  exact ⟨k1, by rw [k2, if_pos rfl], fun b' hb' => by rw [k2, if_neg hb']⟩

theorem GoR.store {J : Jump} {c : FC} {k : List AItem} {Q : AM → Prop} {all : Array Oper} {l : List Oper} {o : Oper} {rest : List Oper} {i : Nat} {t : Tr AVal} {h : AH} {v : AVal} {ty : TypeId} {a x : Operand} {b off n : Nat} {g0 : Kd} {cs cs' : List AVal} {el : TypeId}
    (hl0 : l = o :: rest) (hw : wantedA all t o = some true) (ho : o.op = .store ty a x) (hd : o.dst = none) (ha : ev t a = some (.ptr b off)) (hx : ev t x = some v) (hb : Has h b (.cells g0 cs el)) (hg : g0.isRo = false)
    (hsz : sizeT P ty = some n) (hl : Nat.beq v.cells.length n = true) (hs : scalars v.cells = true) (hsp : splice cs off v.cells = some cs')
    (g : ∀ h1, Upd h b (.cells g0 cs' el) h1 → GoR P J c k Q (runOps P c.n all rest (i + 1) t h1)) :
    GoR P J c k Q (runOps P c.n all l i t h) := by
  subst hl0
  obtain ⟨h1, q1, q2⟩ := storeCells_has hb hg hs hsp
  refine GoR.op rfl hw (v := undefA) (h' := h1) ?_ ?_ (g h1 q2)
  · obtain ⟨dst, op, type, pos, after, guard⟩ := o
    dsimp only at ho
    subst ho
    show opStore P t h ty a x = _
    unfold opStore
    rw [ha, hx]
    simp only [storeVar, hsz, hl, cond_true, q1]
  · unfold prepD
    rw [hd]
end
end Go.AbsE

set_option linter.unusedSimpArgs false
namespace Go.AbsE
open Go

/-! Numbers. -/
def inI64 (n : Int) : Prop := -9223372036854775808 ≤ n ∧ n < 9223372036854775808

theorem wrap64_in {n : Int} (h : inI64 n) : wrap64 n = n := by
  unfold wrap64
  obtain ⟨h1, h2⟩ := h
  cases n with
  | ofNat m =>
    have : Nat.blt m 9223372036854775808 = true := Nat.ble_eq_true_of_le (show m + 1 ≤ 9223372036854775808 by simp only [Int.ofNat_eq_natCast] at h2; omega)
    simp only [this, cond_true]
  | negSucc m =>
    have : Nat.blt m 9223372036854775808 = true := Nat.ble_eq_true_of_le (show m + 1 ≤ 9223372036854775808 by omega)
    simp only [this, cond_true]

section
variable {P : Program} {t : Tr AVal} {h : AH} {dst : Option Tmp} {ty tt ty2 : TypeId} {pos : String} {after : Array Edge} {guard : Option (Nat × Bool)} {x y : Operand} {a b : Int}

theorem aOp_bin {op : BinOp} {v : AVal} (hx : ev t x = some (.int .i64 a)) (hy : ev t y = some (.int .i64 b)) (hv : binI P op ty a b = some v) :
    aOp P t h ⟨dst, .binOp op ty x y ty2, tt, pos, after, guard⟩ = some (.val v h) := by
  show opBin P t h op ty x y = _
  unfold opBin
  rw [hx, hy]
  simp only [aBinOp, hv, valO]

theorem aOp_leq {r : Bool} (hx : ev t x = some (.int .i64 a)) (hy : ev t y = some (.int .i64 b)) (hr : decide (a ≤ b) = r) : aOp P t h ⟨dst, .binOp .leq ty x y ty2, tt, pos, after, guard⟩ = some (.val (.bool r) h) := by
  refine aOp_bin hx hy ?_
  simp only [binI, ltI_eq]
  rw [← hr]
  congr 2
  by_cases q : a ≤ b
  · simp [q]
  · simp [q]; omega

theorem aOp_lss {r : Bool} (hx : ev t x = some (.int .i64 a)) (hy : ev t y = some (.int .i64 b)) (hr : decide (a < b) = r) : aOp P t h ⟨dst, .binOp .lss ty x y ty2, tt, pos, after, guard⟩ = some (.val (.bool r) h) := by
  refine aOp_bin hx hy ?_
  simp only [binI, ltI_eq]
  rw [← hr]

theorem aOp_gtr {r : Bool} (hx : ev t x = some (.int .i64 a)) (hy : ev t y = some (.int .i64 b)) (hr : decide (b < a) = r) : aOp P t h ⟨dst, .binOp .gtr ty x y ty2, tt, pos, after, guard⟩ = some (.val (.bool r) h) := by
  refine aOp_bin hx hy ?_
  simp only [binI, ltI_eq]
  rw [← hr]

theorem aOp_eql {r : Bool} (hx : ev t x = some (.int .i64 a)) (hy : ev t y = some (.int .i64 b)) (hr : decide (a = b) = r) : aOp P t h ⟨dst, .binOp .eql ty x y ty2, tt, pos, after, guard⟩ = some (.val (.bool r) h) := by
  refine aOp_bin hx hy ?_
  simp only [binI, eqI_eq]
  rw [← hr]
  congr 2

theorem aOp_neq {r : Bool} (hx : ev t x = some (.int .i64 a)) (hy : ev t y = some (.int .i64 b)) (hr : decide (a = b) = !r) : aOp P t h ⟨dst, .binOp .neq ty x y ty2, tt, pos, after, guard⟩ = some (.val (.bool r) h) := by
  refine aOp_bin hx hy ?_
  simp only [binI, eqI_eq]
  have : (a == b) = decide (a = b) := rfl
  rw [this, hr, Bool.not_not]

theorem aOp_add {r : Int} (hx : ev t x = some (.int .i64 a)) (hy : ev t y = some (.int .i64 b)) (hi : inI64 (a + b)) (hr : a + b = r) : aOp P t h ⟨dst, .binOp .add ty x y ty2, tt, pos, after, guard⟩ = some (.val (.int .i64 r) h) := by
  refine aOp_bin hx hy ?_
  simp only [binI, addI_eq, ← wrap64_eq]
  rw [wrap64_in hi, hr]

theorem aOp_sub {r : Int} (hx : ev t x = some (.int .i64 a)) (hy : ev t y = some (.int .i64 b)) (hi : inI64 (a - b)) (hr : a - b = r) : aOp P t h ⟨dst, .binOp .sub ty x y ty2, tt, pos, after, guard⟩ = some (.val (.int .i64 r) h) := by
  refine aOp_bin hx hy ?_
  simp only [binI, subI_eq, ← wrap64_eq]
  rw [wrap64_in hi, hr]
end
end Go.AbsE

set_option linter.unusedSimpArgs false
namespace Go.AbsE
open Go

/-! Operations, by facts on types. -/
section
variable {P : Program} {t : Tr AVal} {h : AH} {dst : Option Tmp} {ty tt ty2 : TypeId} {pos : String} {after : Array Edge} {guard : Option (Nat × Bool)} {x y : Operand} {b off : Nat}

theorem aOp_fieldAddr {s : TypeId} {f n : Nat} {fields : Array Field} {fd : Field} (hu : P.underlying s = some (.struct fields)) (hf : fields[f]? = some fd) (hs : sizeT P fd.type = some n) (hn : Nat.beq n 0 = false)
    (hx : ev t x = some (.ptr b off)) : aOp P t h ⟨dst, .fieldAddr s x f, tt, pos, after, guard⟩ = some (.val (.ptr b (off + fd.offset)) h) := by
  show opFieldAddr P t h s x f = _
  unfold opFieldAddr
  rw [hu, hx]
  simp only [hf, hs, hn, cond_false]

theorem partT_one {cs : List AVal} {o : Nat} {v : AVal} (ha : isAggT P ty = some false) (hv : cs[o]? = some v) : partT P ty cs o = some v := by
  unfold partT
  rw [ha]
  simp only [slice?]
  have hlt := (List.getElem?_eq_some_iff.1 hv).1
  have h1 : (cs.drop o).take 1 = [v] := by
    rw [List.drop_eq_getElem_cons hlt]
    simp only [List.take_succ_cons, List.take_zero]
    rw [(List.getElem?_eq_some_iff.1 hv).2]
  rw [h1]
  rfl

theorem partT_agg {cs l : List AVal} {o n : Nat} (ha : isAggT P ty = some true) (hs : sizeT P ty = some n) (hv : slice? cs o n = some l) : partT P ty cs o = some (.agg l) := by
  unfold partT
  rw [ha]
  simp only [hs, hv]

theorem aOp_field {s : TypeId} {f : Nat} {fields : Array Field} {fd : Field} {cs : List AVal} {v : AVal} (hu : P.underlying s = some (.struct fields)) (hf : fields[f]? = some fd) (hx : ev t x = some (.agg cs))
    (hv : partT P fd.type cs fd.offset = some v) : aOp P t h ⟨dst, .field s x f, tt, pos, after, guard⟩ = some (.val v h) := by
  show opField P t h s x f = _
  unfold opField
  rw [hu, hx]
  simp only [hf, hv, valO]

theorem inCells_one {cs : List AVal} {o : Nat} {v : AVal} (ha : isAggT P ty = some false) (hv : cs[o]? = some v) : inCells P ty cs o = some v := by
  have := partT_one ha hv
  unfold partT at this
  unfold inCells
  exact this

theorem inCells_agg {cs l : List AVal} {o n : Nat} (ha : isAggT P ty = some true) (hs : sizeT P ty = some n) (hv : slice? cs o n = some l) : inCells P ty cs o = some (.agg l) := by
  unfold inCells
  rw [ha]
  simp only [hs, hv]

/-- One cell. -/
theorem aOp_load1 {g : Kd} {cs : List AVal} {el : TypeId} {v : AVal} (ha : isAggT P ty = some false) (hx : ev t x = some (.ptr b off)) (hb : Has h b (.cells g cs el)) (hv : cs[off]? = some v) :
    aOp P t h ⟨dst, .load ty x, tt, pos, after, guard⟩ = some (.val v h) := aOp_load rfl hx hb (inCells_one ha hv)

theorem aOp_loadN {g : Kd} {cs l : List AVal} {el : TypeId} {n : Nat} (ha : isAggT P ty = some true) (hs : sizeT P ty = some n) (hx : ev t x = some (.ptr b off)) (hb : Has h b (.cells g cs el)) (hv : slice? cs off n = some l) :
    aOp P t h ⟨dst, .load ty x, tt, pos, after, guard⟩ = some (.val (.agg l) h) := aOp_load rfl hx hb (inCells_agg ha hs hv)

theorem aOp_lenSlice {at0 el : TypeId} {s : AVal} {n : Nat} (hu : P.underlying at0 = some (.slice el)) (hx : ev t x = some s) (hs : lenA s = some n) :
    aOp P t h ⟨dst, .call ⟨.builtin .len, #[x], #[at0]⟩, tt, pos, after, guard⟩ = some (.val (.int .i64 n) h) := by
  show opCall P t h ⟨.builtin .len, #[x], #[at0]⟩ tt = _
  have he : evs t [x] = some [s] := by simp only [evs, mapO, hx]
  simp only [opCall, he, callWith, aBuiltin, hu, hs]

theorem aOp_indexAddr {el : TypeId} {s : AVal} {i len n : Nat} (hu : P.underlying ty = some (.slice el)) (hz : sizeT P el = some n) (hx : ev t x = some s) (hs : aSlElems s = some (b, off, len)) (hy : ev t y = some (.int .i64 i)) (hi : Nat.blt i len = true) :
    aOp P t h ⟨dst, .indexAddr ty x y, tt, pos, after, guard⟩ = some (.val (.ptr b (off + i * n)) h) := by
  show opIndexAddr P t h ty x y = _
  have hy' : ev t y = some (.int .i64 (Int.ofNat i)) := hy
  unfold opIndexAddr
  rw [hu, hx, hy']
  simp only [hz, hs, hi, cond_true]
end
end Go.AbsE

set_option linter.unusedSimpArgs false
namespace Go.AbsE
open Go

/-! Calls out of a region. -/
section
variable {P : Program}

theorem GoR.call {c : FC} {k : List AItem} {Q : AM → Prop} {all : Array Oper} {l : List Oper} {o : Oper} {rest : List Oper} {i : Nat} {t : Tr AVal} {h : AH} {f : FuncId} {args : List AVal} {R : AEnd → AH → Prop} (hl : l = o :: rest)
    (hw : wantedA all t o = some true) (hx : aOp P t h o = some (.enter f args h)) (hr : Runs P f args h R)
    (hret : ∀ v h', R (.ret v) h' → ∃ t', (prepD c.n o).run t v = some t' ∧ GoR P noJ c k Q (runOps P c.n all rest (i + 1) t' h')) (hpan : ∀ chain h', ¬ R (.pan chain) h') :
    GoR P noJ c k Q (runOps P c.n all l i t h) := by
  subst hl
  have hs : runOps P c.n all (o :: rest) i t h = .susp [.inRegion all i (o :: rest)] t (.enter f args h) := by
    rw [runOps_cons, hw]
    show (afterP c.n i all o rest (runOpsP P c.n all rest (i + 1))).run t (aOp P t h o) = _
    rw [hx]
    rfl
  rw [hs]
  obtain ⟨fr, hfr, hrun⟩ := hr
  refine ⟨⟨fr :: c.fr ([.inRegion all i (o :: rest)] ++ k) t :: c.rest, h⟩, ?_, ?_⟩
  · show enterJ P _ c.rest f args h none = _
    show one h (_ :: c.rest) (aFrame P f args false) = _
    rw [hfr]
    rfl
  · refine Reach.call noJ_ok ⟨fr, hfr, hrun⟩ hfr (fun v h' hv => ?_) (fun chain h' hq => absurd hq (hpan chain h'))
    obtain ⟨t', q1, q2⟩ := hret v h' hv
    refine ⟨c.fr (.inRegion all (i + 1) rest :: k) t', ?_, Go.inRegion noJ_ok q2⟩
    show AFr.finishRun c.fn c.n t (.inRegion all i (o :: rest) :: k) c.ds c.dk c.rd v = _
    unfold AFr.finishRun
    simp only [q1]
    rfl

theorem aOp_callFunc {t : Tr AVal} {h : AH} {dst : Option Tmp} {tt : TypeId} {pos : String} {after : Array Edge} {guard : Option (Nat × Bool)} {f : FuncId} {fn : Func} {xs : Array Operand} {tys : Array TypeId} {args : List AVal}
    (hf : aFunc P f = some fn) (ha : evs t xs.toList = some args) : aOp P t h ⟨dst, .call ⟨.value (.func f), xs, tys⟩, tt, pos, after, guard⟩ = some (.enter f args h) := by
  show opCall P t h ⟨.value (.func f), xs, tys⟩ tt = _
  unfold opCall
  rw [ha]
  have he : aEnter P f ([] ++ args ++ []) h = some (.enter f args h) := by
    unfold aEnter
    simp only [hf, List.nil_append, List.append_nil]
  exact he
end
end Go.AbsE
