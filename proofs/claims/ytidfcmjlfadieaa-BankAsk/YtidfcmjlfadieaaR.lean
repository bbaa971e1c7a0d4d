import Derived.Test.YtidfcmjlfadieaaP5
set_option linter.unusedSimpArgs false
namespace Go.AbsE
open Go

section
variable {P : Program} {w0 : Base} {b : Frame} {n : Nat} {cs : List Frame}

theorem runOps_cons (all : Array Oper) (o : Oper) (rest : List Oper) (i : Nat) (t : Tr AVal) (h : AH) :
    runOps P n all (o :: rest) i t h = (guardP P n i all o rest (runOpsP P n all rest (i + 1))).run t h (wantedA all t o) := by
  show (opP P n i all o rest (runOpsP P n all rest (i + 1))).run t h = _
  unfold opP
  split
  · rename_i hg
    have : wantedA all t o = some true := by simp [wantedA, hg]
    rw [this]
    rfl
  · rfl

theorem prepW_eq (all : Array Oper) (o : Oper) (t : Tr AVal) : (prepW all o).run t = wantedA all t o := by
  unfold prepW
  split
  · rename_i h; simp [wantedA, h]
  · rfl

variable (hb : b.mode = .run)
include hb

theorem runOps_sim (all : Array Oper) : ∀ (ops : List Oper) (i : Nat) (e : Env) (t : Tr AVal) (h : AH) (T : Array Value) (W : World) (K : List Item), ops = all.toList.drop i →
    TRel e n t T → HR P w0 e h W → RS P w0 b n cs e (lone (Frame.w b T (.inRegion all (List.range' i (all.size - i)) :: K)) cs W) K (runOps P n all ops i t h) := by
  intro ops
  induction ops with
  | nil =>
    intro i e t h T W K ho hT hr
    have hlen : all.size - i = 0 := by
      have := congrArg List.length ho
      simp at this
      omega
    rw [hlen]
    exact ⟨e, T, W, .one (st_region_end hb), Env.le_refl e, hT, hr⟩
  | cons o rest ih =>
    intro i e t h T W K ho hT hr
    have hlen : i < all.size := by
      have := congrArg List.length ho
      simp at this
      omega
    have hdrop : all.toList.drop i = all.toList[i]'(by simpa using hlen) :: all.toList.drop (i + 1) := List.drop_eq_getElem_cons _
    rw [hdrop] at ho
    injection ho with ho1 ho2
    have hoi : all[i]? = some o := by rw [ho1]; simp [hlen]
    have hrange : List.range' i (all.size - i) = i :: List.range' (i + 1) (all.size - (i + 1)) := by
      rw [show all.size - i = (all.size - (i + 1)) + 1 from by omega, List.range'_succ]
    rw [runOps_cons]
    cases hw : wantedA all t o with
    | none => trivial
    | some w =>
      have hwr := wanted_rel hT hw
      cases w with
      | false =>
        show RS P w0 b n cs e _ K ((contP i (runOpsP P n all rest (i + 1))).run h ((prepD n o).run t undefA))
        cases hd : (prepD n o).run t undefA with
        | none => trivial
        | some t' =>
          rw [hrange]
          refine RS.head (.one (st_op_skip hb hoi hwr)) (Env.le_refl e) ?_
          exact ih (i + 1) e t' h _ W K ho2 (prepD_rel hT (.tuple .nil) hd) hr
      | true =>
        show RS P w0 b n cs e _ K ((afterP n i all o rest (runOpsP P n all rest (i + 1))).run t (aOp P t h o))
        cases hx : aOp P t h o with
        | none => trivial
        | some x =>
          have hsim := aOp_sim hr hT hx
          have susp : (∀ v h', x ≠ .val v h') → RS P w0 b n cs e (lone (Frame.w b T (.inRegion all (List.range' i (all.size - i)) :: K)) cs W) K (.susp [.inRegion all i (o :: rest)] t x) := by
            intro hne
            have hor : o :: rest = all.toList.drop i := by rw [hdrop, ho1, ho2]
            exact ⟨e, T, W, [.inRegion all (List.range' i (all.size - i))], Steps.refl _ _, Env.le_refl e, hT, .plain (.cons (.inRegion hor) .nil),
              all, i, o, List.range' (i + 1) (all.size - (i + 1)), [], h, by rw [hrange], hoi, hwr, hr, hsim, hne⟩
          cases x with
          | val v h' =>
            show RS P w0 b n cs e _ K ((contP i (runOpsP P n all rest (i + 1))).run h' ((prepD n o).run t v))
            obtain ⟨e', V, W', h1, h2, h3, h4⟩ := hsim
            cases hd : (prepD n o).run t v with
            | none => trivial
            | some t' =>
              rw [hrange]
              refine RS.head (.one (st_value hb hoi hwr h1)) h2 ?_
              exact ih (i + 1) e' t' h' _ W' K ho2 (prepD_rel (hT.mono h2) h3 hd) h4
          | enter f args h' => exact susp (fun _ _ q => by cases q)
          | round l args h' => exact susp (fun _ _ q => by cases q)
          | defer d h' => exact susp (fun _ _ q => by cases q)
          | recover h' => exact susp (fun _ _ q => by cases q)
          | panic v h' => exact susp (fun _ _ q => by cases q)

/-- What stands behind: one item more. -/
theorem RS.under {e : Env} {M0 : Machine} {K : List Item} {it : AItem} {IT : Item} (hit : ∀ e', Env.le e e' → IR e' it IT) (hex : ∀ id, exitTo id (IT :: K) = exitTo id K) {r : R}
    (h : RS P w0 b n cs e M0 (IT :: K) r) (hn : ∀ t h, r ≠ .norm t h) :
    RS P w0 b n cs e M0 K (match r with | .susp k t x => .susp (k ++ [it]) t x | .slow k t h => .slow (k ++ [it]) t h | r => r) := by
  have _ := hb
  cases r with
  | norm t hh => exact absurd rfl (hn _ _)
  | exit id t hh =>
    obtain ⟨e', T, W, J, h1, h2, h3, h4⟩ := h
    refine ⟨e', T, W, J ++ [IT], by simpa using h1, ?_, h3, h4⟩
    rw [List.append_assoc]
    simp only [List.singleton_append]
    rw [h2, hex]
  | ret t hh => obtain ⟨e', T, W, J, h1, h2⟩ := h; exact ⟨e', T, W, J, h1, h2⟩
  | susp k t x =>
    obtain ⟨e', T, W, J, h1, h2, h3, h4, h5⟩ := h
    exact ⟨e', T, W, J ++ [IT], by simpa using h1, h2, h3, h4.append (.cons (hit e' h2) .nil), h5.append⟩
  | slow k t hh =>
    obtain ⟨e', T, W, J, h1, h2, h3, h4, h5⟩ := h
    exact ⟨e', T, W, J ++ [IT], by simpa using h1, h2, h3, h4.append (.cons (hit e' h2) .nil), h5⟩
  | stuck i => trivial

theorem loop_sim {body : Code} {f : PF} (hf : ∀ (e : Env) (t : Tr AVal) (h : AH) (T : Array Value) (W : World) (K : List Item), TRel e n t T → HR P w0 e h W →
      RS P w0 b n cs e (lone (Frame.w b T (.code body :: K)) cs W) K (f.run t h)) :
    ∀ (fuel : Nat) (e : Env) (t : Tr AVal) (h : AH) (T : Array Value) (W : World) (K : List Item), TRel e n t T → HR P w0 e h W →
      RS P w0 b n cs e (lone (Frame.w b T (.code body :: .inLoop body :: K)) cs W) K (loopN body f fuel t h) := by
  intro fuel
  induction fuel with
  | zero => intros; trivial
  | succ fuel ih =>
    intro e t h T W K hT hr
    have h1 := hf e t h T W (.inLoop body :: K) hT hr
    show RS P w0 b n cs e _ K (loopR body (loopN body f fuel) (f.run t h))
    generalize f.run t h = r at h1
    cases r with
    | norm t' h' =>
      obtain ⟨e', T', W', s1, s2, s3, s4⟩ := h1
      exact RS.head (s1.trans (.one (st_inLoop hb))) s2 (ih e' t' h' T' W' K s3 s4)
    | exit id t' h' => exact RS.under hb (it := .inLoop body) (fun _ _ => .inLoop body) (fun _ => rfl) h1 (fun _ _ q => by cases q)
    | ret t' h' => exact RS.under hb (it := .inLoop body) (fun _ _ => .inLoop body) (fun _ => rfl) h1 (fun _ _ q => by cases q)
    | susp k t' x => exact RS.under hb (it := .inLoop body) (fun _ _ => .inLoop body) (fun _ => rfl) h1 (fun _ _ q => by cases q)
    | slow k t' h' => exact RS.under hb (it := .inLoop body) (fun _ _ => .inLoop body) (fun _ => rfl) h1 (fun _ _ q => by cases q)
    | stuck i => trivial

theorem den_sim : ∀ (c : Code) (e : Env) (t : Tr AVal) (h : AH) (T : Array Value) (W : World) (K : List Item), TRel e n t T → HR P w0 e h W →
    RS P w0 b n cs e (lone (Frame.w b T (.code c :: K)) cs W) K ((den P n c).run t h) := by
  intro c
  induction c with
  | skip => intro e t h T W K hT hr; exact ⟨e, T, W, .one (st_skip hb), Env.le_refl e, hT, hr⟩
  | label l => intro e t h T W K hT hr; exact ⟨e, T, W, .one (st_label hb), Env.le_refl e, hT, hr⟩
  | goto l => intros; trivial
  | refuse w => intros; trivial
  | ret => intro e t h T W K hT hr; exact ⟨e, T, W, K, Steps.refl _ _, Env.le_refl e, hT, hr⟩
  | exit id => intro e t h T W K hT hr; exact ⟨e, T, W, [], Steps.refl _ _, rfl, Env.le_refl e, hT, hr⟩
  | rangeFunc f ps as body _ _ => intro e t h T W K hT hr; exact ⟨e, T, W, [.code (.rangeFunc f ps as body)], Steps.refl _ _, Env.le_refl e, hT, .cons (.code _) .nil, hr⟩
  | region id ops draw =>
    intro e t h T W K hT hr
    cases draw with
    | true => exact runDrawn_sim hb hT hr
    | false =>
      show RS P w0 b n cs e _ K (runOps P n ops ops.toList 0 t h)
      refine RS.head (.one (st_region hb)) (Env.le_refl e) ?_
      have := runOps_sim (P := P) (w0 := w0) (n := n) (cs := cs) hb ops ops.toList 0 e t h T W K (by simp) hT hr
      rwa [Nat.sub_zero, ← List.range_eq_range'] at this
  | seq x y ihx ihy =>
    intro e t h T W K hT hr
    have h1 := ihx e t h T W (.code y :: K) hT hr
    refine RS.head (.one (st_seq hb)) (Env.le_refl e) ?_
    show RS P w0 b n cs e _ K (seqR y (den P n y) ((den P n x).run t h))
    generalize (den P n x).run t h = r at h1
    cases r with
    | norm t' h' =>
      obtain ⟨e', T', W', s1, s2, s3, s4⟩ := h1
      exact RS.head s1 s2 (ihy e' t' h' T' W' K s3 s4)
    | exit id t' h' => exact RS.under hb (it := .code y) (fun _ _ => .code y) (fun _ => rfl) h1 (fun _ _ q => by cases q)
    | ret t' h' => exact RS.under hb (it := .code y) (fun _ _ => .code y) (fun _ => rfl) h1 (fun _ _ q => by cases q)
    | susp k t' x => exact RS.under hb (it := .code y) (fun _ _ => .code y) (fun _ => rfl) h1 (fun _ _ q => by cases q)
    | slow k t' h' => exact RS.under hb (it := .code y) (fun _ _ => .code y) (fun _ => rfl) h1 (fun _ _ q => by cases q)
    | stuck i => trivial
  | cond c x y ihx ihy =>
    intro e t h T W K hT hr
    show RS P w0 b n cs e _ K (condR (den P n x) (den P n y) t h (ev t c))
    cases hc : ev t c with
    | none => trivial
    | some a =>
      have hv := ev_rel hT hc
      cases a with
      | bool q =>
        generalize hC : opd T c = C at hv
        cases hv
        refine RS.head (.one (st_cond hb hC)) (Env.le_refl e) ?_
        cases q with
        | true => exact ihx e t h T W K hT hr
        | false => exact ihy e t h T W K hT hr
      | _ => trivial
  | block id c ih =>
    intro e t h T W K hT hr
    have h1 := ih e t h T W (.inBlock id :: K) hT hr
    refine RS.head (.one (st_block hb)) (Env.le_refl e) ?_
    show RS P w0 b n cs e _ K (blockR id ((den P n c).run t h))
    generalize (den P n c).run t h = r at h1
    cases r with
    | norm t' h' =>
      obtain ⟨e', T', W', s1, s2, s3, s4⟩ := h1
      exact ⟨e', T', W', s1.trans (.one (st_inBlock hb)), s2, s3, s4⟩
    | exit id' t' h' =>
      obtain ⟨e', T', W', J, s1, s2, s3, s4, s5⟩ := h1
      show RS P w0 b n cs e _ K (cond (Nat.beq id id') (.norm t' h') (.exit id' t' h'))
      cases hq : Nat.beq id id' with
      | true =>
        have := Nat.eq_of_beq_eq_true hq
        subst this
        refine ⟨e', T', W', s1.trans (.one (st_exit hb ?_)), s3, s4, s5⟩
        rw [s2]; simp [exitTo]
      | false =>
        have hne := Nat.ne_of_beq_eq_false hq
        refine ⟨e', T', W', J ++ [.inBlock id], by simpa using s1, ?_, s3, s4, s5⟩
        rw [List.append_assoc]
        simp only [List.singleton_append]
        rw [s2]
        simp [exitTo, hne]
    | ret t' h' => obtain ⟨e', T, W, J, h1, h2⟩ := h1; exact ⟨e', T, W, J, h1, h2⟩
    | susp k t' x =>
      obtain ⟨e', T, W, J, h1, h2, h3, h4, h5⟩ := h1
      exact ⟨e', T, W, J ++ [.inBlock id], by simpa using h1, h2, h3, h4.append (.cons (.inBlock id) .nil), h5.append⟩
    | slow k t' h' =>
      obtain ⟨e', T, W, J, h1, h2, h3, h4, h5⟩ := h1
      exact ⟨e', T, W, J ++ [.inBlock id], by simpa using h1, h2, h3, h4.append (.cons (.inBlock id) .nil), h5⟩
    | stuck i => trivial
  | loop body ih =>
    intro e t h T W K hT hr
    refine RS.head (.one (st_loop hb)) (Env.le_refl e) ?_
    have hd : (den P n (.loop body)).run t h = loopN body (den P n body) loopFuel t h := by
      unfold den loopAll
      rfl
    rw [hd]
    generalize loopFuel = fuel
    exact loop_sim hb ih fuel e t h T W K hT hr
  | scope body ih =>
    intro e t h T W K hT hr
    have h1 := ih e t h T W (.inScope body :: K) hT hr
    refine RS.head (.one (st_scope hb)) (Env.le_refl e) ?_
    show RS P w0 b n cs e _ K (scopeR body ((den P n body).run t h))
    generalize (den P n body).run t h = r at h1
    cases r with
    | norm t' h' =>
      obtain ⟨e', T', W', s1, s2, s3, s4⟩ := h1
      exact ⟨e', T', W', s1.trans (.one (st_inScope hb)), s2, s3, s4⟩
    | exit id t' h' => exact RS.under hb (it := .inScope body) (fun _ _ => .inScope body) (fun _ => rfl) h1 (fun _ _ q => by cases q)
    | ret t' h' => exact RS.under hb (it := .inScope body) (fun _ _ => .inScope body) (fun _ => rfl) h1 (fun _ _ q => by cases q)
    | susp k t' x => exact RS.under hb (it := .inScope body) (fun _ _ => .inScope body) (fun _ => rfl) h1 (fun _ _ q => by cases q)
    | slow k t' h' => exact RS.under hb (it := .inScope body) (fun _ _ => .inScope body) (fun _ => rfl) h1 (fun _ _ q => by cases q)
    | stuck i => trivial
end
end Go.AbsE
