import Derived.Test.YtidfcmjlfadieaaP3
set_option linter.unusedSimpArgs false
namespace Go.AbsE
open Go

/-! ### what an operation reads -/
theorem tmpsOf_mem {i : Tmp} : ∀ {l : List Operand}, Operand.tmp i ∈ l → i ∈ tmpsOf l := by
  intro l
  induction l with
  | nil => intro h; cases h
  | cons a l ih =>
    intro h
    rcases List.mem_cons.1 h with h2 | h2
    · subst h2; simp [tmpsOf]
    · have h3 := ih h2
      unfold tmpsOf
      cases a <;> first | exact List.mem_cons_of_mem _ h3 | exact h3

theorem reads_ops {all : Array Oper} {o : Oper} {x : Tmp} (h : x ∈ tmpsOf o.op.operands.toList) : x ∈ readsO all o := by
  unfold readsO
  split
  · exact h
  · split
    · split
      · exact List.mem_cons_of_mem _ h
      · exact h
    · exact h

theorem reads_aOp {P : Program} {all : Array Oper} {o : Oper} {t t' : Tr AVal} {h : AH} (hx : ∀ x ∈ readsO all o, t.get (pth x) = t'.get (pth x)) : aOp P t h o = aOp P t' h o := by
  refine aOp_congr (fun x hxm => ?_)
  cases x with
  | tmp i =>
    show (Tr.mkGet (pth i)).run t = (Tr.mkGet (pth i)).run t'
    rw [Tr.mkGet_eq, Tr.mkGet_eq]
    exact hx i (reads_ops (tmpsOf_mem hxm))
  | const v => rfl
  | func f => rfl
  | global g => rfl

theorem reads_aOpX {P : Program} {all : Array Oper} {lit : Bool} {o : Oper} {t t' : Tr AVal} {h : AH} (hx : ∀ x ∈ readsO all o, t.get (pth x) = t'.get (pth x)) : aOpX P lit t h o = aOpX P lit t' h o := by
  cases lit with
  | false => exact reads_aOp hx
  | true =>
    have hev : ∀ x ∈ o.op.operands.toList, ev t x = ev t' x := by
      intro x hxm
      cases x with
      | tmp i =>
        show (Tr.mkGet (pth i)).run t = (Tr.mkGet (pth i)).run t'
        rw [Tr.mkGet_eq, Tr.mkGet_eq]
        exact hx i (reads_ops (tmpsOf_mem hxm))
      | const v => rfl
      | func f => rfl
      | global g => rfl
    show opLit P t h o = opLit P t' h o
    obtain ⟨dst, op, type, pos, after, guard⟩ := o
    unfold opLit
    cases op <;> first | rfl | skip
    rename_i ty len parts
    have := evParts_congr (t := t) (t' := t') (l := parts.toList) (fun x q => hev x (by simpa [Op.operands] using q))
    simp only [this]

theorem reads_wanted {all : Array Oper} {o : Oper} {t t' : Tr AVal} (hx : ∀ x ∈ readsO all o, t.get (pth x) = t'.get (pth x)) : wantedA all t o = wantedA all t' o := by
  unfold wantedA
  unfold readsO at hx
  cases hg : o.guard with
  | none => rfl
  | some jw =>
    obtain ⟨j, w⟩ := jw
    rw [hg] at hx
    simp only [] at hx ⊢
    cases hj : all[j]? with
    | none => rfl
    | some oj =>
      rw [hj] at hx
      simp only [] at hx ⊢
      cases hd : oj.dst with
      | none => rfl
      | some d =>
        rw [hd] at hx
        simp only [] at hx ⊢
        rw [hx d (by simp)]

/-! ### the state within -/
/-- Some temporaries are those of the operations of S, all others are as they were. -/
def Sel (all : Array Oper) (S : Nat → Prop) (V : Nat → AVal) (t0 t : Tr AVal) : Prop :=
  (∀ (i : Nat) (o : Oper) (x : Nat), all[i]? = some o → o.dst = some x → (S i → t.get (pth x) = some (V i)) ∧ (¬ S i → t.get (pth x) = t0.get (pth x))) ∧
  (∀ (x : Nat), (∀ (i : Nat) (o : Oper), all[i]? = some o → o.dst ≠ some x) → t.get (pth x) = t0.get (pth x))

structure DB (e : Env) (n : Nat) (T : Array Value) (all : Array Oper) (B : Nat → Nat) (c : List DOp) (ta tf : Tr AVal) (s : List Nat) (t0 : Tr AVal) (V : Nat → AVal) (tc : Tr AVal) (D A : Nat → Prop) : Prop where
  ro : RO all B
  tm : TRel e n tc T
  fr : ∀ x a, tf.get (pth x) = some a → tc.get (pth x) = some a ∧ ∀ (i : Nat) (o : Oper), all[i]? = some o → o.dst ≠ some x
  selD : Sel all D V t0 tc
  selA : Sel all A V t0 ta
  sub : ∀ i, D i → A i
  dcl : ∀ i j, D i → Dep all j i → D j
  acl : ∀ i j, i < all.size → A i → (B i).testBit j = true → A j
  sched : VS all D s
  plan : CV all B A c

/-- The temporaries with which an operation that is quiet was made. -/
def Agr (all : Array Oper) (B : Nat → Nat) (t0 : Tr AVal) (V : Nat → AVal) (i : Nat) (o : Oper) (t : Tr AVal) : Prop :=
  ∀ x ∈ readsO all o, (∀ w ow, all[w]? = some ow → ow.dst = some x → w ≠ i → (B i).testBit w = true → t.get (pth x) = some (V w)) ∧
    ((∀ w ow, all[w]? = some ow → ow.dst = some x → w = i ∨ (B i).testBit w = false) → t.get (pth x) = t0.get (pth x))

def Pend (n : Nat) (all : Array Oper) (B : Nat → Nat) (facts : List DFact) (t0 : Tr AVal) (V : Nat → AVal) (D A : Nat → Prop) : Prop :=
  ∀ i, i < all.size → A i → ¬ D i → ∃ o t lit, all[i]? = some o ∧ (lit = true ∨ quietOp o.op = true) ∧ (∀ x, o.dst = some x → x < n) ∧ Agr all B t0 V i o t ∧
    ((wantedA all t o = some true ∧ (⟨i, o, V i, t, lit⟩ : DFact) ∈ facts) ∨ (wantedA all t o = some false ∧ V i = undefA))

def Stand (P : Program) (h : AH) (facts : List DFact) : Prop := ∀ f ∈ facts, ∃ h', aOpX P f.lit f.t h f.o = some (.val f.v h')

section
variable {e : Env} {n : Nat} {T : Array Value} {all : Array Oper} {B : Nat → Nat} {c : List DOp} {ta tf : Tr AVal} {s : List Nat} {t0 : Tr AVal} {V : Nat → AVal} {tc : Tr AVal} {D A : Nat → Prop} {facts : List DFact}

theorem DB.mono {e' : Env} (he : Env.le e e') (h : DB e n T all B c ta tf s t0 V tc D A) : DB e' n T all B c ta tf s t0 V tc D A :=
  { h with tm := h.tm.mono he }

theorem DB.bef (h : DB e n T all B c ta tf s t0 V tc D A) {k i : Nat} (hb : Bef all k i) (hd : ∀ j, Dep all j i → D j) : D k := hb.closed h.dcl hd

/-- What the true machine reads is what the abstract one has read. -/
theorem DB.agree (h : DB e n T all B c ta tf s t0 V tc D A) {i : Nat} {o : Oper} (ho : all[i]? = some o) (hi : ¬ D i) (hd : ∀ j, Dep all j i → D j) {t : Tr AVal} (ha : Agr all B t0 V i o t) :
    ∀ x ∈ readsO all o, tc.get (pth x) = t.get (pth x) := by
  intro x hx
  have hlt := (Array.getElem?_eq_some_iff.1 ho).1
  obtain ⟨a1, a2⟩ := ha x hx
  by_cases hw : ∃ (w : Nat) (ow : Oper), all[w]? = some ow ∧ ow.dst = some x
  · obtain ⟨w, ow, h1, h2⟩ := hw
    have hwlt := (Array.getElem?_eq_some_iff.1 h1).1
    obtain ⟨s1, s2⟩ := h.selD.1 w ow x h1 h2
    by_cases hwi : w = i
    · subst hwi
      rw [s2 hi]
      refine (a2 (fun w' ow' k1 k2 => .inl ?_)).symm
      exact h.ro.uniq _ _ _ _ _ k1 h1 k2 h2
    · by_cases hb : (B i).testBit w = true
      · have hDw := h.bef (h.ro.sound i w hlt hb) hd
        rw [s1 hDw, a1 w ow h1 h2 hwi hb]
      · have hb2 : (B w).testBit i = true := by
          rcases h.ro.rd i o x w ow ho hx h1 h2 with q | q | q
          · exact absurd q hwi
          · exact absurd q hb
          · exact q
        have hnD : ¬ D w := fun hDw => hi (Bef.closed h.dcl (h.ro.sound w i hwlt hb2) (fun j hj => h.dcl w j hDw hj))
        rw [s2 hnD]
        refine (a2 (fun w' ow' k1 k2 => .inr ?_)).symm
        have := h.ro.uniq _ _ _ _ _ k1 h1 k2 h2
        subst this
        simpa using hb
  · have hn : ∀ (i : Nat) (o : Oper), all[i]? = some o → o.dst ≠ some x := fun i o k1 k2 => hw ⟨i, o, k1, k2⟩
    rw [h.selD.2 x hn]
    exact (a2 (fun w ow k1 k2 => absurd k2 (hn w ow k1))).symm

/-- And the temporaries of the abstract machine serve its next operation. -/
theorem DB.agr (h : DB e n T all B c ta tf s t0 V tc D A) {i : Nat} {o : Oper} (ho : all[i]? = some o) (hi : ¬ A i) (hb : ∀ k, (B i).testBit k = true → A k) : Agr all B t0 V i o ta := by
  intro x hx
  have hlt := (Array.getElem?_eq_some_iff.1 ho).1
  refine ⟨fun w ow h1 h2 hwi hbw => (h.selA.1 w ow x h1 h2).1 (hb w hbw), fun hall => ?_⟩
  by_cases hw : ∃ (w : Nat) (ow : Oper), all[w]? = some ow ∧ ow.dst = some x
  · obtain ⟨w, ow, h1, h2⟩ := hw
    have hwlt := (Array.getElem?_eq_some_iff.1 h1).1
    refine (h.selA.1 w ow x h1 h2).2 (fun hA => ?_)
    rcases hall w ow h1 h2 with q | q
    · subst q; exact hi hA
    · rcases h.ro.rd i o x w ow ho hx h1 h2 with k | k | k
      · subst k; exact hi hA
      · rw [k] at q; cases q
      · exact hi (h.acl w i hwlt hA k)
  · exact h.selA.2 x (fun i o k1 k2 => hw ⟨i, o, k1, k2⟩)

noncomputable def putO (t : Tr AVal) (d : Option Tmp) (v : AVal) : Tr AVal := match d with | some x => t.put (pth x) (some v) | none => t

theorem prepD_put {o : Oper} {t t' : Tr AVal} {v : AVal} (k : (prepD n o).run t v = some t') : t' = putO t o.dst v ∧ ∀ x, o.dst = some x → x < n := by
  unfold prepD at k
  cases hd : o.dst with
  | none => rw [hd] at k; cases k; exact ⟨rfl, fun _ q => by cases q⟩
  | some i =>
    rw [hd] at k
    simp only [] at k
    cases hb : Nat.blt i n with
    | false => rw [hb] at k; cases k
    | true => rw [hb] at k; cases k; exact ⟨Tr.mkPut_eq _ _ _, fun x q => by cases q; exact blt_true hb⟩

theorem Sel.put (ro : RO all B) {S : Nat → Prop} {t : Tr AVal} (h : Sel all S V t0 t) {i : Nat} {o : Oper} (ho : all[i]? = some o) {V' : Nat → AVal} (hV : ∀ k, k ≠ i → V' k = V k) :
    Sel all (fun k => S k ∨ k = i) V' t0 (putO t o.dst (V' i)) := by
  constructor
  · intro j oj x hj hx
    obtain ⟨s1, s2⟩ := h.1 j oj x hj hx
    by_cases hji : j = i
    · subst hji
      rw [ho] at hj
      cases hj
      refine ⟨fun _ => ?_, fun hn => absurd (.inr rfl) hn⟩
      rw [hx]
      show (t.put (pth x) (some (V' j))).get (pth x) = _
      rw [Tr.get_put _ _ (pth_ok (Nat.lt_of_lt_of_le (ro.dst _ _ _ ho hx) (by decide))), if_pos rfl]
    · have same : (putO t o.dst (V' i)).get (pth x) = t.get (pth x) := by
        unfold putO
        cases hd : o.dst with
        | none => rfl
        | some d =>
          have hdl := ro.dst _ _ _ ho hd
          simp only []
          rw [Tr.get_put _ _ (pth_ok (Nat.lt_of_lt_of_le hdl (by decide)))]
          rw [if_neg]
          intro hp
          have := pth_inj (Nat.lt_of_lt_of_le hdl (by decide)) hp
          subst this
          exact hji (ro.uniq _ _ _ _ _ hj ho hx hd)
      rw [same, hV j hji]
      refine ⟨fun q => ?_, fun q => s2 (fun k => q (.inl k))⟩
      rcases q with q | q
      · exact s1 q
      · exact absurd q hji
  · intro x hx
    rw [← h.2 x hx]
    unfold putO
    cases hd : o.dst with
    | none => rfl
    | some d =>
      have hdl := ro.dst _ _ _ ho hd
      simp only []
      rw [Tr.get_put _ _ (pth_ok (Nat.lt_of_lt_of_le hdl (by decide)))]
      rw [if_neg]
      intro hp
      have := pth_inj (Nat.lt_of_lt_of_le hdl (by decide)) hp
      subst this
      exact hx _ _ ho hd

/-- The true machine does one that the abstract one has done. -/
theorem DB.advD {e' : Env} {i : Nat} {o : Oper} {VV : Value} (h : DB e n T all B c ta tf (i :: s) t0 V tc D A) (hA : A i) (ho : all[i]? = some o) (hn : ∀ x, o.dst = some x → x < n) (he : Env.le e e') (hv : VR e' (V i) VV) :
    DB e' n (match o.dst with | some d => T.setIfInBounds d VV | none => T) all B c ta tf s t0 V (putO tc o.dst (V i)) (fun k => D k ∨ k = i) A := by
  obtain ⟨v1, v2, v3, v4⟩ := h.sched
  refine { ro := h.ro, tm := ?_, fr := ?_, selD := h.selD.put h.ro ho (fun _ _ => rfl), selA := h.selA, sub := ?_, dcl := ?_, acl := h.acl, sched := v4, plan := h.plan }
  · cases hd : o.dst with
    | none => exact h.tm.mono he
    | some d => exact (h.tm.mono he).put (hn d hd) hv
  · intro x a hx
    obtain ⟨q1, q2⟩ := h.fr x a hx
    refine ⟨?_, q2⟩
    rw [← q1]
    unfold putO
    cases hd : o.dst with
    | none => rfl
    | some d =>
      have hdl := h.ro.dst _ _ _ ho hd
      simp only []
      rw [Tr.get_put _ _ (pth_ok (Nat.lt_of_lt_of_le hdl (by decide)))]
      rw [if_neg]
      intro hp
      have := pth_inj (Nat.lt_of_lt_of_le hdl (by decide)) hp
      subst this
      exact q2 _ _ ho hd
  · rintro k (hk | rfl)
    · exact h.sub k hk
    · exact hA
  · rintro k j (hk | rfl) hj
    · exact .inl (h.dcl k j hk hj)
    · exact .inl (v3 j hj)

/-- The abstract machine does its next one. -/
theorem DB.advA {d : DOp} (h : DB e n T all B (d :: c) ta tf s t0 V tc D A) (v : AVal) :
    DB e n T all B c (putO ta d.o.dst v) tf s t0 (fun k => if k = d.i then v else V k) tc D (fun k => A k ∨ k = d.i) := by
  obtain ⟨p1, p2, p3, p4, p5, p6, p7⟩ := h.plan
  have hV : ∀ k, k ≠ d.i → (fun k => if k = d.i then v else V k) k = V k := fun k hk => by simp [hk]
  have hA := h.selA.put h.ro p1 hV
  rw [if_pos rfl] at hA
  refine { ro := h.ro, tm := h.tm, fr := h.fr, selD := ?_, selA := hA, sub := fun i hi => .inl (h.sub i hi), dcl := h.dcl, acl := ?_, sched := h.sched, plan := p7 }
  · refine ⟨fun i o x ho hx => ?_, h.selD.2⟩
    obtain ⟨s1, s2⟩ := h.selD.1 i o x ho hx
    refine ⟨fun hD => ?_, s2⟩
    have : i ≠ d.i := fun q => p4 (q ▸ h.sub i hD)
    rw [hV i this]
    exact s1 hD
  · rintro i j hi (hAi | rfl) hj
    · exact .inl (h.acl i j hi hAi hj)
    · exact .inl (p5 j hj)

theorem Pend.advA {d : DOp} {facts' : List DFact} (h : DB e n T all B (d :: c) ta tf s t0 V tc D A) (hp : Pend n all B facts t0 V D A) (v : AVal) {D' : Nat → Prop} (hD : ∀ i, D i → D' i)
    (hf : ∀ i, i < all.size → A i → ¬ D' i → ∀ f ∈ facts, f.i = i → f ∈ facts')
    (hnew : D' d.i ∨ ((d.lit = true ∨ quietOp d.o.op = true) ∧ (∀ x, d.o.dst = some x → x < n) ∧ ((wantedA all ta d.o = some true ∧ (⟨d.i, d.o, v, ta, d.lit⟩ : DFact) ∈ facts') ∨ (wantedA all ta d.o = some false ∧ v = undefA)))) :
    Pend n all B facts' t0 (fun k => if k = d.i then v else V k) D' (fun k => A k ∨ k = d.i) := by
  obtain ⟨p1, p2, p3, p4, p5, p6, p7⟩ := h.plan
  have hV : ∀ k, k ≠ d.i → (fun k => if k = d.i then v else V k) k = V k := fun k hk => by simp [hk]
  intro i hi hA hnD
  have agrV : ∀ {o t}, (i = d.i ∨ A i) → Agr all B t0 V i o t → Agr all B t0 (fun k => if k = d.i then v else V k) i o t := by
    intro o t hAi ha x hx
    obtain ⟨a1, a2⟩ := ha x hx
    refine ⟨fun w ow h1 h2 hwi hb => ?_, a2⟩
    have hAw : A w := by
      rcases hAi with rfl | hAi
      · exact p5 w hb
      · exact h.acl i w hi hAi hb
    have : w ≠ d.i := fun q => p4 (q ▸ hAw)
    rw [hV w this]
    exact a1 w ow h1 h2 hwi hb
  by_cases hid : i = d.i
  · subst hid
    rcases hnew with hnew | ⟨q1, q2, q3⟩
    · exact absurd hnew hnD
    · refine ⟨d.o, ta, d.lit, p1, q1, q2, agrV (.inl rfl) (h.agr p1 p4 p5), ?_⟩
      simp only [if_true]
      exact q3
  · have hAi : A i := hA.resolve_right hid
    obtain ⟨o, t, lit, k1, k2, k3, k4, k5⟩ := hp i hi hAi (fun q => hnD (hD i q))
    refine ⟨o, t, lit, k1, k2, k3, agrV (.inr hAi) k4, ?_⟩
    simp only [if_neg hid]
    rcases k5 with ⟨k5, k6⟩ | k5
    · exact .inl ⟨k5, hf i hi hAi hnD _ k6 rfl⟩
    · exact .inr k5
end

/-! ### the true machine catches up -/
section
variable {P : Program} {w0 : Base} {b : Frame} {n : Nat} {cs : List Frame} (hb : b.mode = .run)
variable {all : Array Oper} {B : Nat → Nat} {c : List DOp} {ta tf : Tr AVal} {t0 : Tr AVal} {V : Nat → AVal} {A : Nat → Prop} {facts : List DFact} {h : AH}
include hb

theorem drain1 {e : Env} {T : Array Value} {i : Nat} {s : List Nat} {tc : Tr AVal} {D : Nat → Prop} {W : World} {K : List Item} (hd : DB e n T all B c ta tf (i :: s) t0 V tc D A) (hp : Pend n all B facts t0 V D A) (hst : Stand P h facts)
    (r : HR P w0 e h W) (hA : A i) : ∃ e' T' W' tc', Steps P (lone (Frame.w b T (.inRegion all (i :: s) :: K)) cs W) (lone (Frame.w b T' (.inRegion all s :: K)) cs W') ∧ Env.le e e' ∧ HR P w0 e' h W' ∧
      DB e' n T' all B c ta tf s t0 V tc' (fun k => D k ∨ k = i) A := by
  obtain ⟨v1, v2, v3, v4⟩ := hd.sched
  obtain ⟨o, t, lit, k1, k2, k3, k4, k5⟩ := hp i v1 hA v2
  have hag := hd.agree k1 v2 v3 k4
  rcases k5 with ⟨k5, k6⟩ | ⟨k5, k6⟩
  · obtain ⟨h', hop⟩ := hst _ k6
    dsimp only at hop
    obtain ⟨v', hv'⟩ := quietX_val k2 hop
    cases hv'
    rw [← reads_aOpX (t := tc) hag] at hop
    rw [← reads_wanted (t := tc) hag] at k5
    obtain ⟨e', VV, W', q1, q2, q3, q4⟩ := aOpX_sim r hd.tm hop
    exact ⟨e', _, W', _, .one (st_value hb k1 (wanted_rel hd.tm k5) q1), q2, q4, hd.advD hA k1 k3 q2 q3⟩
  · rw [← reads_wanted (t := tc) hag] at k5
    refine ⟨e, _, W, _, .one (st_op_skip hb k1 (wanted_rel hd.tm k5)), Env.le_refl e, r, hd.advD (VV := undef) hA k1 k3 (Env.le_refl e) ?_⟩
    rw [k6]; exact .tuple .nil

/-- .. till nothing is left that the abstract one has done. -/
theorem drain (hc : c = [] ∨ ∃ d c', c = d :: c' ∧ d.quiet = false) : ∀ (s : List Nat) {e : Env} {T : Array Value} {tc : Tr AVal} {D : Nat → Prop} {W : World} {K : List Item}, DB e n T all B c ta tf s t0 V tc D A → Pend n all B facts t0 V D A →
    Stand P h facts → HR P w0 e h W → ∃ e' T' W' tc' D' s', Steps P (lone (Frame.w b T (.inRegion all s :: K)) cs W) (lone (Frame.w b T' (.inRegion all s' :: K)) cs W') ∧ Env.le e e' ∧ HR P w0 e' h W' ∧
      DB e' n T' all B c ta tf s' t0 V tc' D' A ∧ Pend n all B facts t0 V D' A ∧ ((c = [] ∧ s' = []) ∨ ∃ d c' q, c = d :: c' ∧ s' = d.i :: q) := by
  intro s
  induction s with
  | nil =>
    intro e T tc D W K hd hp hst r
    refine ⟨e, T, W, tc, D, [], Steps.refl _ _, Env.le_refl e, r, hd, hp, ?_⟩
    rcases hc with hc | ⟨d, c', hc, hq⟩
    · exact .inl ⟨hc, rfl⟩
    · subst hc
      obtain ⟨p1, p2, p3, p4, p5, p6, p7⟩ := hd.plan
      exact absurd (hd.sub _ (hd.sched d.i (Array.getElem?_eq_some_iff.1 p1).1)) p4
  | cons i s ih =>
    intro e T tc D W K hd hp hst r
    by_cases hA : A i
    · obtain ⟨e', T', W', tc', q1, q2, q3, q4⟩ := drain1 (cs := cs) (K := K) hb hd hp hst r hA
      have hp' : Pend n all B facts t0 V (fun k => D k ∨ k = i) A := fun j hj hAj hnD => hp j hj hAj (fun hq => hnD (.inl hq))
      obtain ⟨e2, T2, W2, tc2, D2, s2, g1, g2, g3, g4, g5, g6⟩ := ih (K := K) q4 hp' hst q3
      exact ⟨e2, T2, W2, tc2, D2, s2, q1.trans g1, Env.le_trans q2 g2, g3, g4, g5, g6⟩
    · obtain ⟨v1, v2, v3, v4⟩ := hd.sched
      rcases hc with hc | ⟨d, c', hc, hq⟩
      · subst hc
        exact absurd (hd.plan i v1) hA
      · subst hc
        obtain ⟨p1, p2, p3, p4, p5, p6, p7⟩ := hd.plan
        refine ⟨e, T, W, tc, D, i :: s, Steps.refl _ _, Env.le_refl e, r, hd, hp, .inr ⟨d, c', s, rfl, ?_⟩⟩
        rcases CV.cover hd.plan i v1 with hq2 | ⟨d', hd1, hd2⟩
        · exact absurd hq2 hA
        · rcases List.mem_cons.1 hd1 with rfl | hd1
          · rw [hd2]
          · have hbit := p6 hq d' hd1
            rw [hd2] at hbit
            have := hd.bef (hd.ro.sound i d.i v1 hbit) v3
            exact absurd (hd.sub _ this) p4
end
end Go.AbsE
