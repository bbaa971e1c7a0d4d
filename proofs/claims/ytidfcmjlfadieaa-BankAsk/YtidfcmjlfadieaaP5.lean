import Derived.Test.YtidfcmjlfadieaaP4
set_option linter.unusedSimpArgs false
namespace Go.AbsE
open Go

/-- What is left to do, and what it says of the frame's temporaries. -/
inductive TD (e : Env) (n : Nat) (T : Array Value) (tf : Tr AVal) : List AItem → List Item → Prop
  | plain {l m} (h : IRs e l m) : TD e n T tf l m
  | wait {all B c d facts ta s t0 V tc D A l m} (h : DB e n T all B (d :: c) ta tf (d.i :: s) t0 V tc D A) (hp : Pend n all B facts t0 V D A) (hs : IRs e l m) :
      TD e n T tf (.waitDrawn all (d :: c) facts ta :: l) (.inRegion all (d.i :: s) :: m)
  | run {all B c facts ta s t0 V tc D A l m} (h : DB e n T all B c ta tf s t0 V tc D A) (hp : Pend n all B facts t0 V D A) (hs : IRs e l m) :
      TD e n T tf (.inDrawn all c facts ta :: l) (.inRegion all s :: m)

theorem TD.mono {e e' : Env} (he : Env.le e e') {n T tf l m} (h : TD e n T tf l m) : TD e' n T tf l m := by
  cases h with
  | plain h => exact .plain (h.mono he)
  | wait h hp hs => exact .wait (h.mono he) hp (hs.mono he)
  | run h hp hs => exact .run (h.mono he) hp (hs.mono he)

theorem TD.append {e : Env} {n T tf l m l' m'} (h : TD e n T tf l m) (k : IRs e l' m') : TD e n T tf (l ++ l') (m ++ m') := by
  cases h with
  | plain h => exact .plain (h.append k)
  | wait h hp hs => exact .wait h hp (hs.append k)
  | run h hp hs => exact .run h hp (hs.append k)

section
variable (P : Program) (w0 : Base) (b : Frame) (n : Nat) (cs : List Frame)

/-- The operation at the head waits for a call. -/
def Waits (e : Env) (J : List Item) (T : Array Value) (W : World) (x : ANext) : Prop :=
  ∃ all i o q J' h, J = .inRegion all (i :: q) :: J' ∧ all[i]? = some o ∧ Region.wanted o (yielded all T) = true ∧ HR P w0 e h W ∧
    OpSim P w0 e h W ((execOp (opd T) o).run P W) x ∧ (∀ v h', x ≠ .val v h')

def RS (e : Env) (M0 : Machine) (K : List Item) : R → Prop
  | .norm t h => ∃ e' T W, Steps P M0 (lone (Frame.w b T K) cs W) ∧ Env.le e e' ∧ TRel e' n t T ∧ HR P w0 e' h W
  | .exit id t h => ∃ e' T W J, Steps P M0 (lone (Frame.w b T (.code (.exit id) :: (J ++ K))) cs W) ∧ exitTo id (J ++ K) = exitTo id K ∧ Env.le e e' ∧ TRel e' n t T ∧ HR P w0 e' h W
  | .ret t h => ∃ e' T W J, Steps P M0 (lone (Frame.w b T (.code .ret :: J)) cs W) ∧ Env.le e e' ∧ TRel e' n t T ∧ HR P w0 e' h W
  | .susp k t x => ∃ e' T W J, Steps P M0 (lone (Frame.w b T (J ++ K)) cs W) ∧ Env.le e e' ∧ TRel e' n t T ∧ TD e' n T t k J ∧ Waits P w0 e' J T W x
  | .slow k t h => ∃ e' T W J, Steps P M0 (lone (Frame.w b T (J ++ K)) cs W) ∧ Env.le e e' ∧ TRel e' n t T ∧ IRs e' k J ∧ HR P w0 e' h W
  | .stuck _ => True
end

section
variable {P : Program} {w0 : Base} {b : Frame} {n : Nat} {cs : List Frame}

theorem Waits.append {e : Env} {J K : List Item} {T : Array Value} {W : World} {x : ANext} (h : Waits P w0 e J T W x) : Waits P w0 e (J ++ K) T W x := by
  obtain ⟨all, i, o, q, J', hh, rfl, h2⟩ := h
  exact ⟨all, i, o, q, J' ++ K, hh, rfl, h2⟩

theorem RS.head {e e0 : Env} {M0 M1 : Machine} {K : List Item} {r : R} (hs : Steps P M0 M1) (he : Env.le e0 e) (h : RS P w0 b n cs e M1 K r) : RS P w0 b n cs e0 M0 K r := by
  cases r with
  | norm t hh => obtain ⟨e', T, W, h1, h2, h3⟩ := h; exact ⟨e', T, W, hs.trans h1, Env.le_trans he h2, h3⟩
  | exit id t hh => obtain ⟨e', T, W, J, h1, h2, h3, h4⟩ := h; exact ⟨e', T, W, J, hs.trans h1, h2, Env.le_trans he h3, h4⟩
  | ret t hh => obtain ⟨e', T, W, J, h1, h2, h3⟩ := h; exact ⟨e', T, W, J, hs.trans h1, Env.le_trans he h2, h3⟩
  | susp k t x => obtain ⟨e', T, W, J, h1, h2, h3⟩ := h; exact ⟨e', T, W, J, hs.trans h1, Env.le_trans he h2, h3⟩
  | slow k t hh => obtain ⟨e', T, W, J, h1, h2, h3⟩ := h; exact ⟨e', T, W, J, hs.trans h1, Env.le_trans he h2, h3⟩
  | stuck i => trivial

theorem runC_cons (all : Array Oper) (d : DOp) (c : List DOp) (tf : Tr AVal) (facts : List DFact) (ta : Tr AVal) (h : AH) :
    (runC P n all (d :: c)).run tf facts ta h = (goGuard P n d (cond d.quiet (goQuiet n d (runC P n all c)) (goNoisy P n all d c (runC P n all c))) (runC P n all c)).run tf facts ta h (wantedA all ta d.o) := by
  show (stepC P n all d (cond d.quiet (goQuiet n d (runC P n all c)) (goNoisy P n all d c (runC P n all c))) (runC P n all c)).run tf facts ta h = _
  unfold stepC
  split
  · rename_i hg
    have : wantedA all ta d.o = some true := by simp [wantedA, hg]
    rw [this]
    rfl
  · rfl

theorem DB.frame {e : Env} {T : Array Value} {all : Array Oper} {B : Nat → Nat} {c : List DOp} {ta tf : Tr AVal} {s : List Nat} {t0 : Tr AVal} {V : Nat → AVal} {tc : Tr AVal} {D A : Nat → Prop}
    (h : DB e n T all B c ta tf s t0 V tc D A) : TRel e n tf T :=
  ⟨h.tm.1, h.tm.2.1, fun i a q => h.tm.2.2 i a (h.fr i a q).1⟩

variable (hb : b.mode = .run)
include hb

theorem runC_sim {all : Array Oper} {B : Nat → Nat} {tf t0 : Tr AVal} : ∀ (c : List DOp) {e : Env} {facts : List DFact} {ta : Tr AVal} {h : AH} {T : Array Value} {W : World} {K : List Item} {s : List Nat} {V : Nat → AVal} {tc : Tr AVal} {D A : Nat → Prop},
    DB e n T all B c ta tf s t0 V tc D A → Pend n all B facts t0 V D A → Stand P h facts → HR P w0 e h W →
    RS P w0 b n cs e (lone (Frame.w b T (.inRegion all s :: K)) cs W) K ((runC P n all c).run tf facts ta h) := by
  intro c
  induction c with
  | nil =>
    intro e facts ta h T W K s V tc D A hd hp hst r
    obtain ⟨e', T', W', tc', D', s', q1, q2, q3, q4, q5, q6⟩ := drain (cs := cs) (K := K) hb (.inl rfl) s hd hp hst r
    rcases q6 with ⟨_, rfl⟩ | ⟨d, c', q, q6, _⟩
    · show RS P w0 b n cs e _ K (.norm ta h)
      refine ⟨e', T', W', q1.trans (.one (st_region_end hb)), q2, ⟨q4.tm.1, q4.tm.2.1, fun x a hx => q4.tm.2.2 x a ?_⟩, q3⟩
      by_cases hw : ∃ (w : Nat) (ow : Oper), all[w]? = some ow ∧ ow.dst = some x
      · obtain ⟨w, ow, h1, h2⟩ := hw
        have hwlt := (Array.getElem?_eq_some_iff.1 h1).1
        rw [(q4.selA.1 w ow x h1 h2).1 (q4.plan w hwlt)] at hx
        rw [(q4.selD.1 w ow x h1 h2).1 (q4.sched w hwlt)]
        exact hx
      · have hn : ∀ (i : Nat) (o : Oper), all[i]? = some o → o.dst ≠ some x := fun i o k1 k2 => hw ⟨i, o, k1, k2⟩
        rw [q4.selA.2 x hn] at hx
        rw [q4.selD.2 x hn]
        exact hx
    · cases q6
  | cons d c ih =>
    intro e facts ta h T W K s V tc D A hd hp hst r
    rw [runC_cons]
    obtain ⟨p1, p2, p3, p4, p5, p6, p7⟩ := hd.plan
    cases hw : wantedA all ta d.o with
    | none => trivial
    | some w =>
      cases hq : d.quiet with
      | true =>
        have hqo := p3 hq
        cases w with
        | false =>
          show RS P w0 b n cs e _ K ((goOn (runC P n all c)).run tf facts h ((prepD n d.o).run ta undefA))
          cases ht : (prepD n d.o).run ta undefA with
          | none => trivial
          | some ta' =>
            obtain ⟨rfl, hn⟩ := prepD_put ht
            show RS P w0 b n cs e _ K ((runC P n all c).run tf facts (putO ta d.o.dst undefA) h)
            exact ih (hd.advA undefA) (hp.advA hd undefA (fun _ hD => hD) (fun _ _ _ _ f hf _ => hf) (.inr ⟨hqo, hn, .inr ⟨hw, rfl⟩⟩)) hst r
        | true =>
          show RS P w0 b n cs e _ K ((goQuiet n d (runC P n all c)).run tf facts ta h (aOpX P d.lit ta h d.o))
          cases hx : aOpX P d.lit ta h d.o with
          | none => trivial
          | some x =>
            obtain ⟨v, rfl⟩ := quietX_val hqo hx
            show RS P w0 b n cs e _ K ((goOn (runC P n all c)).run tf (⟨d.i, d.o, v, ta, d.lit⟩ :: facts) h ((prepD n d.o).run ta v))
            cases ht : (prepD n d.o).run ta v with
            | none => trivial
            | some ta' =>
              obtain ⟨rfl, hn⟩ := prepD_put ht
              show RS P w0 b n cs e _ K ((runC P n all c).run tf (⟨d.i, d.o, v, ta, d.lit⟩ :: facts) (putO ta d.o.dst v) h)
              refine ih (hd.advA v) (hp.advA hd v (fun _ hD => hD) (fun _ _ _ _ f hf _ => List.mem_cons_of_mem _ hf) (.inr ⟨hqo, hn, .inl ⟨hw, by simp⟩⟩)) ?_ r
              intro f hf
              rcases List.mem_cons.1 hf with rfl | hf
              · exact ⟨h, hx⟩
              · exact hst f hf
      | false =>
        obtain ⟨e1, T1, W1, tc1, D1, s1, q1, q2, q3, q4, q5, q6⟩ := drain (cs := cs) (K := K) hb (.inr ⟨d, c, rfl, hq⟩) s hd hp hst r
        rcases q6 with ⟨q6, _⟩ | ⟨d', c', q, q6, rfl⟩
        · cases q6
        · cases q6
          refine RS.head q1 q2 ?_
          obtain ⟨v1, v2, v3, v4⟩ := q4.sched
          have hag := q4.agree p1 v2 v3 (q4.agr p1 p4 p5)
          have hw' := hw
          rw [← reads_wanted (t := tc1) hag] at hw'
          have hwr := wanted_rel q4.tm hw'
          have step : ∀ {e2 : Env} {v : AVal} {VV : Value} {h2 : AH} {W2 : World} {facts2 : List DFact} {ta' : Tr AVal}, Env.le e1 e2 → VR e2 v VV → HR P w0 e2 h2 W2 → (∀ f ∈ facts, f.i ≠ d.i → ¬ D1 f.i → f ∈ facts2) → Stand P h2 facts2 →
              (prepD n d.o).run ta v = some ta' →
              RS P w0 b n cs e2 (lone (Frame.w b (match d.o.dst with | some x => T1.setIfInBounds x VV | none => T1) (.inRegion all q :: K)) cs W2) K ((runC P n all c).run tf facts2 ta' h2) := by
            intro e2 v VV h2 W2 facts2 ta' he hv hr hf hs2 ht
            obtain ⟨rfl, hn⟩ := prepD_put ht
            have hadv := (q4.advA v).advD (e' := e2) (i := d.i) (o := d.o) (VV := VV) (.inr rfl) p1 hn he (by simp only [if_true]; exact hv)
            refine ih hadv (q5.advA q4 v (fun _ hD => .inl hD) (fun i hi hA hnD f hfm hfi => hf f hfm (fun q => hnD (.inr (hfi ▸ q))) (fun q => hnD (.inl (hfi ▸ q)))) (.inl (.inr rfl))) hs2 hr
          cases w with
          | false =>
            show RS P w0 b n cs e1 _ K ((goOn (runC P n all c)).run tf facts h ((prepD n d.o).run ta undefA))
            cases ht : (prepD n d.o).run ta undefA with
            | none => trivial
            | some ta' =>
              show RS P w0 b n cs e1 _ K ((runC P n all c).run tf facts ta' h)
              refine RS.head (.one (st_op_skip hb p1 hwr)) (Env.le_refl e1) ?_
              exact step (Env.le_refl e1) (VV := undef) (.tuple .nil) q3 (fun f hf _ _ => hf) hst ht
          | true =>
            show RS P w0 b n cs e1 _ K ((goNoisy P n all d c (runC P n all c)).run tf facts ta h (aOpX P d.lit ta h d.o))
            cases hx : aOpX P d.lit ta h d.o with
            | none => trivial
            | some x =>
              have hx' := hx
              rw [← reads_aOpX (t := tc1) hag] at hx'
              have hsim := aOpX_sim q3 q4.tm hx'
              have susp : (∀ v h', x ≠ .val v h') → RS P w0 b n cs e1 (lone (Frame.w b T1 (.inRegion all (d.i :: q) :: K)) cs W1) K (.susp [.waitDrawn all (d :: c) facts ta] tf x) := by
                intro hne
                exact ⟨e1, T1, W1, [.inRegion all (d.i :: q)], Steps.refl _ _, Env.le_refl e1, q4.frame, .wait q4 q5 .nil, all, d.i, d.o, q, [], h, rfl, p1, hwr, q3, hsim, hne⟩
              cases x with
              | val v h2 =>
                show RS P w0 b n cs e1 _ K ((checked P (goOn (runC P n all c))).run tf (dropF d.bef facts) h2 ((prepD n d.o).run ta v))
                obtain ⟨e2, VV, W2, g1, g2, g3, g4⟩ := hsim
                show RS P w0 b n cs e1 _ K (cond (recheck P h2 (dropF d.bef facts)) ((goOn (runC P n all c)).run tf (dropF d.bef facts) h2 ((prepD n d.o).run ta v)) (.stuck 23))
                cases hrc : recheck P h2 (dropF d.bef facts) with
                | false => trivial
                | true =>
                  cases ht : (prepD n d.o).run ta v with
                  | none => trivial
                  | some ta' =>
                    show RS P w0 b n cs e1 _ K ((runC P n all c).run tf (dropF d.bef facts) ta' h2)
                    refine RS.head (.one (st_value hb p1 hwr g1)) g2 ?_
                    refine step g2 g3 g4 (fun f hf _ hnD => dropF_mem hf ?_) (recheck_ok hrc) ht
                    rw [p2]
                    cases hbit : (B d.i).testBit f.i with
                    | false => rfl
                    | true => exact absurd (q4.bef (hd.ro.sound d.i f.i v1 hbit) v3) hnD
              | enter f args h' => exact susp (fun _ _ q => by cases q)
              | round l args h' => exact susp (fun _ _ q => by cases q)
              | defer d h' => exact susp (fun _ _ q => by cases q)
              | recover h' => exact susp (fun _ _ q => by cases q)
              | panic v h' => exact susp (fun _ _ q => by cases q)

theorem eraseT_get : ∀ (l : List Oper) (t : Tr AVal) (x : Tmp) (a : AVal), (∀ o ∈ l, ∀ d, o.dst = some d → d < 1000000) → (eraseT l t).get (pth x) = some a → t.get (pth x) = some a ∧ ∀ o ∈ l, o.dst ≠ some x := by
  have _ := hb
  intro l
  induction l with
  | nil => intro t x a _ h; exact ⟨h, fun o ho => by cases ho⟩
  | cons o l ih =>
    intro t x a hl h
    unfold eraseT at h
    obtain ⟨h1, h2⟩ := ih _ x a (fun o' ho' => hl o' (List.mem_cons_of_mem _ ho')) h
    cases hd : o.dst with
    | none =>
      rw [hd] at h1
      refine ⟨h1, fun o' ho' => ?_⟩
      rcases List.mem_cons.1 ho' with rfl | ho'
      · rw [hd]; intro q; cases q
      · exact h2 o' ho'
    | some d =>
      rw [hd] at h1
      simp only [] at h1
      have hdl := hl o (by simp) d hd
      rw [Tr.get_put _ _ (pth_ok (Nat.lt_of_lt_of_le hdl (by decide)))] at h1
      by_cases hp : pth d = pth x
      · rw [if_pos hp] at h1; cases h1
      · rw [if_neg hp] at h1
        refine ⟨h1, fun o' ho' => ?_⟩
        rcases List.mem_cons.1 ho' with rfl | ho'
        · rw [hd]; intro q; cases q; exact hp rfl
        · exact h2 o' ho'

theorem runDrawn_sim {id : Nat} {ops : Array Oper} {e : Env} {t : Tr AVal} {h : AH} {T : Array Value} {W : World} {K : List Item} (hT : TRel e n t T) (r : HR P w0 e h W) :
    RS P w0 b n cs e (lone (Frame.w b T (.code (.region id ops true) :: K)) cs W) K ((runDrawn P n ops).run t h) := by
  unfold runDrawn
  cases hp : plan ops with
  | none => trivial
  | some c =>
    obtain ⟨B, ro, hcv⟩ := plan_ok hp
    show RS P w0 b n cs e _ K ((runC P n ops c).run (eraseT ops.toList t) [] t h)
    have hs : step P (lone (Frame.w b T (.code (.region id ops true) :: K)) cs W) =
        .next (lone (Frame.w b T (.inRegion ops (Region.schedule (P.follows .mixedOrders) ops (W.tape W.drawn (.order b.fn id))) :: K)) cs { W with drawn := W.drawn + 1 }) :=
      step_lone_go (by simp [stepG, stepG.exec, Frame.w, hb, choose, Sem.run, Question.forced, Question.cut])
    refine RS.head (.one hs) (Env.le_refl e) ?_
    refine runC_sim hb (B := B) c (V := fun _ => undefA) (tc := t) (D := fun _ => False) (A := fun _ => False) (t0 := t) (facts := []) ?_ ?_ ?_ (r.drew _)
    · refine ⟨ro, hT, ?_, ⟨fun _ _ _ _ _ => ⟨fun q => q.elim, fun _ => rfl⟩, fun _ _ => rfl⟩, ⟨fun _ _ _ _ _ => ⟨fun q => q.elim, fun _ => rfl⟩, fun _ _ => rfl⟩,
        fun _ q => q.elim, fun _ _ q => q.elim, fun _ _ _ q => q.elim, schedule_VS ro _ _, hcv⟩
      intro x a hx
      have hl : ∀ o ∈ ops.toList, ∀ d, o.dst = some d → d < 1000000 := by
        intro o ho d hd
        obtain ⟨i, hi, rfl⟩ := List.getElem_of_mem ho
        exact ro.dst i _ d (by simp at hi; simp [hi]) hd
      obtain ⟨q1, q2⟩ := eraseT_get hb ops.toList t x a hl hx
      exact ⟨q1, fun i o ho => q2 o (Array.mem_toList_iff.2 (Array.mem_of_getElem? ho))⟩
    · intro i _ q; exact q.elim
    · intro f hf; cases hf
end
end Go.AbsE
