import Derived.Test.YtmdheijpnlonoaaMAH
set_option linter.unusedSimpArgs false
namespace Go.AbsE
open Go
section
variable {all : Array Oper}
noncomputable def pickD : List DOp → Nat → List DOp
  | [], _ => []
  | d :: l, i => cond (Nat.beq d.i i) [d] (pickD l i)
noncomputable def picks (ds : List DOp) : List Nat → List DOp
  | [] => []
  | i :: r => pickD ds i ++ picks ds r
theorem pickD_mem {i : Nat} {d : DOp} : ∀ {l : List DOp}, d ∈ pickD l i → d ∈ l
  | [], h => h
  | x :: l, h => by
    unfold pickD at h
    cases q : Nat.beq x.i i with
    | true =>
      rw [q] at h
      exact List.mem_cons.2 (.inl (List.mem_singleton.1 h))
    | false =>
      rw [q] at h
      exact List.mem_cons_of_mem _ (pickD_mem h)
theorem picks_mem {ds : List DOp} {d : DOp} : ∀ {r : List Nat}, d ∈ picks ds r → d ∈ ds
  | [], h => by cases h
  | i :: r, h => by
    rcases List.mem_append.1 h with q | q
    · exact pickD_mem q
    · exact picks_mem q
noncomputable def planX (all : Array Oper) (befs order : List Nat) : Option (List DOp) :=
  match wrT all.toList 0 .leaf with
  | none => none
  | some wr => cond (cond (edgesAll all.toList 0) (gcOk all.toList all.toList.length) false) (cond (rdAll all wr befs (mkDs all.toList all.toList befs 0)) (match picks (mkDs all.toList all.toList befs 0) order with | c => cond (chkC all.toList.length c 0) (some c) none) none) none
noncomputable def befs0 (all : Array Oper) : List Nat := (befL all.toList 0 []).reverse
theorem planX_ok {befs order : List Nat} {c : List DOp} (h : planX all befs order = some c) : RO all (nthN befs) ∧ CV all (nthN befs) (fun _ => False) c := by
  unfold planX at h
  simp only [] at h
  split at h
  · cases h
  · rename_i wr hwr
    cases heg : cond (edgesAll all.toList 0) (gcOk all.toList all.toList.length) false with
    | false => rw [heg] at h; cases h
    | true =>
      have he : edgesAll all.toList 0 = true := by
        cases hq : edgesAll all.toList 0 with
        | true => rfl
        | false => rw [hq] at heg; cases heg
      have hgc : gcOk all.toList all.size = true := by rw [he, Array.length_toList] at heg; exact heg
      cases hr : rdAll all wr befs (mkDs all.toList all.toList befs 0) with
      | false => rw [heg, hr] at h; cases h
      | true =>
        rw [heg, hr] at h
        simp only [cond_true] at h
        cases hc : chkC all.toList.length (picks (mkDs all.toList all.toList befs 0) order) 0 with
        | false => rw [hc] at h; cases h
        | true =>
          rw [hc] at h
          cases h
          have hds := mkDs_ok (all := all) (l0 := all.toList) (befs := befs) all.toList befs 0 (by simp) (by simp)
          have hcv := chkC_ok (all := all) (B := nthN befs) _ 0 (fun d hd => hds d (picks_mem hd)) (by rw [Array.length_toList] at hc; exact hc)
          have hcv := CV.congr (A' := fun _ => False) (fun k => by simp) hcv
          have hw := wrT_ok (all := all) all.toList 0 .leaf wr (by simp) hwr (fun i _ _ hi => by omega)
          refine ⟨⟨ranks he hgc, fun i o x ho hx => (hw i o x ho hx).1,
            fun i j o o' x ho ho' hx hx' => ?_, fun i o x w ow ho hx how hwx => ?_⟩, hcv⟩
          · have h1 := (hw i o x ho hx).2
            have h2 := (hw j o' x ho' hx').2
            rw [h1] at h2; injection h2
          · have hlt := (Array.getElem?_eq_some_iff.1 ho).1
            rcases hcv.cover i hlt with hf | ⟨d, hd1, hd2⟩
            · exact hf.elim
            · have hdm := picks_mem hd1
              obtain ⟨k1, k2, k3⟩ := hds d hdm
              rw [hd2, ho] at k1
              injection k1 with k1
              have := rdAll_ok hr d hdm x (by rw [← k1]; exact hx) w (hw w ow x how hwx).2
              rw [k2, hd2] at this
              exact this
theorem idx_ne {a b : Nat} (l : List Nat) (h : b ≠ a) : (b :: l).idxOf a = l.idxOf a + 1 := by
  rw [List.idxOf_cons]
  have : (b == a) = false := by simpa using h
  rw [this]
  rfl
theorem VB.ord {B : Nat → Nat} : ∀ {s : List Nat} {D : Nat → Prop}, VB all B D s → ∀ i, i ∈ s → ∀ k, (B i).testBit k = true → D k ∨ (k ∈ s ∧ s.idxOf k < s.idxOf i)
  | [], _, _, i, hi, _, _ => by cases hi
  | i0 :: s, D, ⟨h1, h2, h3, h4⟩, i, hi, k, hk => by
    by_cases q : i = i0
    · subst q
      exact .inl (h3 k hk)
    · have his : i ∈ s := (List.mem_cons.1 hi).resolve_left q
      rcases VB.ord h4 i his k hk with (z | z) | ⟨z1, z2⟩
      · exact .inl z
      · subst z
        right
        refine ⟨List.mem_cons_self, ?_⟩
        rw [List.idxOf_cons_self, idx_ne _ (fun e => q e.symm)]
        omega
      · by_cases hk0 : k = i0
        · subst hk0
          right
          refine ⟨List.mem_cons_self, ?_⟩
          rw [List.idxOf_cons_self, idx_ne _ (fun e => q e.symm)]
          omega
        · right
          refine ⟨List.mem_cons_of_mem _ z1, ?_⟩
          rw [idx_ne _ (fun e => hk0 e.symm), idx_ne _ (fun e => q e.symm)]
          omega
theorem VB.cover {B : Nat → Nat} : ∀ {s : List Nat} {D : Nat → Prop}, VB all B D s → ∀ i, i < all.size → D i ∨ i ∈ s
  | [], _, h, i, hi => .inl (h i hi)
  | i0 :: s, D, ⟨h1, h2, h3, h4⟩, i, hi => by
    rcases VB.cover h4 i hi with (z | z) | z
    · exact .inl z
    · subst z; exact .inr List.mem_cons_self
    · exact .inr (List.mem_cons_of_mem _ z)
theorem VB.not {B : Nat → Nat} : ∀ {s : List Nat} {D : Nat → Prop}, VB all B D s → ∀ i, D i → i ∉ s
  | [], _, _, _, _ => by simp
  | i0 :: s, D, ⟨h1, h2, h3, h4⟩, i, hi => by
    intro q
    rcases List.mem_cons.1 q with z | z
    · subst z; exact h2 hi
    · exact VB.not h4 i (.inl hi) z
theorem VB.add {B B' : Nat → Nat} : ∀ {s : List Nat} {D : Nat → Prop}, VB all B D s → (∀ i, i ∈ s → ∀ k, (B' i).testBit k = true → D k ∨ (k ∈ s ∧ s.idxOf k < s.idxOf i)) → VB all B' D s
  | [], _, h, _ => h
  | i0 :: s, D, ⟨h1, h2, h3, h4⟩, g => by
    refine ⟨h1, h2, fun k hk => ?_, VB.add h4 fun i hi k hk => ?_⟩
    · rcases g i0 List.mem_cons_self k hk with z | ⟨_, z⟩
      · exact z
      · rw [List.idxOf_cons_self] at z
        omega
    · have hne : i ≠ i0 := fun q => VB.not h4 i0 (.inr rfl) (q ▸ hi)
      rcases g i (List.mem_cons_of_mem _ hi) k hk with z | ⟨z1, z2⟩
      · exact .inl (.inl z)
      · by_cases hk0 : k = i0
        · exact .inl (.inr hk0)
        · right
          refine ⟨(List.mem_cons.1 z1).resolve_left hk0, ?_⟩
          rw [idx_ne _ (fun e => hk0 e.symm), idx_ne _ (fun e => hne e.symm)] at z2
          omega
end
theorem Go.of_RSW {P : Program} {J : Jump} (hJ : JOk P J) {c : FC} {k : List AItem} {t : Tr AVal} {h : AH} {Q : AM → Prop}
    (H : ∀ (w0 : Base) (e : Env) (W : World) (F : Frame) (cs : List Frame), F.mode = .run → TRel e c.n t F.tmps → HR P w0 e h W → TD e c.n F.tmps t k F.todo →
      ∃ k2 r K2, IRs e k2 K2 ∧ RS P w0 F c.n cs e (lone F cs W) K2 r ∧ GoR P J c k2 Q r) : Go P c k t h Q := by
  intro w0 e W F Fr cs hF rr
  have hF' : FRs P e (c.fr k t :: c.rest) (F :: Fr) := hF
  cases hF' with
  | cons h1 hFr =>
    have hm := run_mode h1
    obtain ⟨k2, r, K2, hK2, hRS, g⟩ := H w0 e W F (Fr ++ cs) hm h1.tm rr (h1.todo rfl)
    have exec : ∀ {r' : R} {m' : AM}, RS P w0 F c.n (Fr ++ cs) e (lone F (Fr ++ cs) W) [] r' → aExec P J c.fn c.n c.ds c.dk c.rd c.rest r' = some m' → Reach P m' Q → ∃ m', Q m' ∧ SS P w0 cs (lone F (Fr ++ cs) W) m' := by
      intro r' m' hr hx hq
      obtain ⟨e1, F1, Fr1, W1, s1, s2, s3⟩ := exec_sim hJ hx hm h1 hFr hr
      obtain ⟨m2, h2, hs⟩ := hq w0 e1 W1 F1 Fr1 cs s2 s3
      exact ⟨m2, h2, SS.head s1 hs⟩
    cases r with
    | stuck i => exact g.elim
    | norm t' h' =>
      obtain ⟨e', T', W', s1, s2, s3, s4⟩ := hRS
      obtain ⟨m2, h2, hs⟩ := g w0 e' W' (Frame.w F T' K2) Fr cs (.cons (FR.todo_set (h1.mono s2) s3 (.plain (hK2.mono s2))) (hFr.mono s2)) s4
      exact ⟨m2, h2, SS.head s1 hs⟩
    | ret t' h' =>
      obtain ⟨m', hx, hq⟩ := g
      obtain ⟨e', T', W', J', s1, s2, s3, s4⟩ := hRS
      exact exec (r' := .ret t' h') ⟨e', T', W', J', s1, s2, s3, s4⟩ hx hq
    | susp s t' x =>
      obtain ⟨m', hx, hq⟩ := g
      obtain ⟨e', T', W', J', s1, s2, s3, s4, s5⟩ := hRS
      exact exec (r' := .susp (s ++ k2) t' x) ⟨e', T', W', J' ++ K2, by simpa using s1, s2, s3, s4.append (hK2.mono s2), s5.append⟩ hx hq
    | slow s t' h' =>
      obtain ⟨m', hx, hq⟩ := g
      obtain ⟨e', T', W', J', s1, s2, s3, s4, s5⟩ := hRS
      exact exec (r' := .slow (s ++ k2) t' h') ⟨e', T', W', J' ++ K2, by simpa using s1, s2, s3, s4.append (hK2.mono s2), s5⟩ hx hq
    | exit id t' h' =>
      obtain ⟨e', T', W', J', s1, sx, s2, s3, s4⟩ := hRS
      have hrel := exitA_rel (id := id) (hK2.mono s2)
      dsimp only [GoR] at g
      cases hx : exitA id k2 with
      | some k' =>
        rw [hx] at g hrel
        obtain ⟨K', q1, q2⟩ := hrel
        have hex := st_exit (P := P) (b := F) hm (T := T') (k := J' ++ K2) (cs := Fr ++ cs) (W := W') (id := id) (k' := K') (by rw [sx, q1])
        obtain ⟨m2, h2, hs⟩ := g w0 e' W' (Frame.w F T' K') Fr cs (.cons (FR.todo_set (h1.mono s2) s3 (.plain q2)) (hFr.mono s2)) s4
        exact ⟨m2, h2, SS.head (s1.trans (.one hex)) hs⟩
      | none =>
        rw [hx] at g hrel
        obtain ⟨m', hq1, hq2⟩ := g
        refine exec (r' := .exit id t' h') ⟨e', T', W', J' ++ K2, by simpa using s1, ?_, s2, s3, s4⟩ hq1 hq2
        rw [List.append_nil, sx, hrel]; rfl
theorem Go.drawnX {P : Program} {all : Array Oper} {c : FC} {k : List AItem} {id : Nat} {t : Tr AVal} {h : AH} {Q : AM → Prop} {b1 o1 : List Nat} {c1 : List DOp} (h1 : planX all b1 o1 = some c1)
    (H : ∀ s, VB all (nthN (befs0 all)) (fun _ => False) s → ∃ befs order pl, planX all befs order = some pl ∧ VB all (nthN befs) (fun _ => False) s ∧ GoE P c k Q all pl (eraseT all.toList t) [] t h) :
    Go P c (.code (.region id all true) :: k) t h Q := by
  have ro1 := (planX_ok h1).1
  refine Go.of_RSW noJ_ok fun w0 e W F cs hm hT r htd => ?_
  obtain ⟨IT, K, q1, q2, q3⟩ := plain_head htd (fun _ _ _ _ q => by cases q) (fun _ _ _ _ q => by cases q)
  cases q2
  obtain ⟨s, hs⟩ : ∃ s, Region.schedule (P.follows .mixedOrders) all (W.tape W.drawn (.order F.fn id)) = s := ⟨_, rfl⟩
  have hvb : VB all (nthN (befs0 all)) (fun _ => False) s := by
    rw [← hs]
    exact VS.toB (fun i k hi hk => befs_sound i hi k hk) _ _ (fun _ _ q => q.elim) (schedule_VS ro1 _ _)
  obtain ⟨befs, order, pl, p1, p2, p3⟩ := H s hvb
  obtain ⟨ro, hcv⟩ := planX_ok p1
  refine ⟨k, _, K, q3, ?_, p3⟩
  rw [Frame.w_self q1]
  have hstep : step P (lone (Frame.w F F.tmps (.code (.region id all true) :: K)) cs W) =
      .next (lone (Frame.w F F.tmps (.inRegion all s :: K)) cs { W with drawn := W.drawn + 1 }) := by
    rw [← hs]
    exact step_lone_go (by simp [stepG, stepG.exec, Frame.w, hm, choose, Sem.run, Question.forced, Question.cut])
  refine RS.head (.one hstep) (Env.le_refl e) ?_
  have hb : F.mode = .run := hm
  refine runC_sim hb (B := nthN befs) pl (V := fun _ => undefA) (tc := t) (D := fun _ => False) (A := fun _ => False) (t0 := t) (facts := []) ?_ ?_ ?_ (r.drew _)
  · refine ⟨ro, hT, ?_, ⟨fun _ _ _ _ _ => ⟨fun q => q.elim, fun _ => rfl⟩, fun _ _ => rfl⟩, ⟨fun _ _ _ _ _ => ⟨fun q => q.elim, fun _ => rfl⟩, fun _ _ => rfl⟩,
      fun _ q => q.elim, fun _ _ q => q.elim, fun _ _ _ q => q.elim, p2, hcv⟩
    intro x a hx
    have hl : ∀ o ∈ all.toList, ∀ d, o.dst = some d → d < 1000000 := by
      intro o ho d hd
      obtain ⟨i, hi, rfl⟩ := List.getElem_of_mem ho
      exact ro.dst i _ d (by simp at hi; simp [hi]) hd
    obtain ⟨q1, q2⟩ := eraseT_get hb all.toList t x a hl hx
    exact ⟨q1, fun i o ho => q2 o (Array.mem_toList_iff.2 (Array.mem_of_getElem? ho))⟩
  · intro i _ q; exact q.elim
  · intro f hf; cases hf
end Go.AbsE

set_option linter.unusedSimpArgs false
namespace Go.AbsE
open Go
section
variable {all : Array Oper}
theorem VB.lt {B : Nat → Nat} : ∀ {s : List Nat} {D : Nat → Prop}, VB all B D s → ∀ i, i ∈ s → i < all.size
  | [], _, _, _, h => by cases h
  | i0 :: s, D, ⟨h1, h2, h3, h4⟩, i, h => by
    rcases List.mem_cons.1 h with q | q
    · subst q; exact h1
    · exact VB.lt h4 i q
theorem idx_inj {a b : Nat} : ∀ {s : List Nat}, a ∈ s → s.idxOf a = s.idxOf b → a = b
  | [], h, _ => by cases h
  | x :: s, h, q => by
    by_cases ha : x = a
    · subst ha
      rw [List.idxOf_cons_self] at q
      by_cases hb : x = b
      · exact hb
      · rw [idx_ne _ hb] at q
        omega
    · have has : a ∈ s := (List.mem_cons.1 h).resolve_left (fun e => ha e.symm)
      rw [idx_ne _ ha] at q
      by_cases hb : x = b
      · subst hb
        rw [List.idxOf_cons_self] at q
        omega
      · rw [idx_ne _ hb] at q
        exact idx_inj has (by omega)
noncomputable def chkAlt (N : Nat) (base befs : List Nat) (E : List (Nat × Nat)) : Bool :=
  (List.range N).all fun i => decide (nthN befs i < 2 ^ N) && (List.range N).all fun k => !((nthN befs i).testBit k) || (nthN base i).testBit k || E.contains (k, i)
theorem VB.alt {s base befs : List Nat} {N : Nat} (hv : VB all (nthN (befs0 all)) (fun _ => False) s) (hb : befs0 all = base) (hn : all.size = N) (E : List (Nat × Nat)) (hc : chkAlt N base befs E = true)
    (hE : ∀ e, e ∈ E → s.idxOf e.1 < s.idxOf e.2) : VB all (nthN befs) (fun _ => False) s := by
  subst hn
  rw [hb] at hv
  refine VB.add hv fun i hi k hk => .inr ?_
  have hil := VB.lt hv i hi
  unfold chkAlt at hc
  have h1 := List.all_eq_true.1 hc i (List.mem_range.2 hil)
  rw [Bool.and_eq_true] at h1
  have hk2 : k < all.size := by
    rcases Nat.lt_or_ge k all.size with q | q
    · exact q
    · have := Nat.testBit_lt_two_pow (x := nthN befs i) (i := k) (Nat.lt_of_lt_of_le (of_decide_eq_true h1.1) (Nat.pow_le_pow_right (by omega) q))
      rw [this] at hk
      cases hk
  have h2 := List.all_eq_true.1 h1.2 k (List.mem_range.2 hk2)
  rw [hk] at h2
  simp only [Bool.not_true, Bool.false_or, Bool.or_eq_true] at h2
  rcases h2 with q | q
  · rcases VB.ord hv i hi k q with z | z
    · exact z.elim
    · exact z
  · refine ⟨(VB.cover hv k hk2).resolve_left id, hE (k, i) (by simpa using q)⟩
theorem VB.before {s base : List Nat} (hv : VB all (nthN (befs0 all)) (fun _ => False) s) (hb : befs0 all = base) (i k : Nat) (hi : i < all.size) (hk : (nthN base i).testBit k = true) : s.idxOf k < s.idxOf i := by
  rw [hb] at hv
  rcases VB.ord hv i ((VB.cover hv i hi).resolve_left id) k hk with z | z
  · exact z.elim
  · exact z.2
theorem VB.apart {s base : List Nat} (hv : VB all (nthN (befs0 all)) (fun _ => False) s) (hb : befs0 all = base) (i k : Nat) (hi : i < all.size) (hne : i ≠ k) : s.idxOf i ≠ s.idxOf k := by
  rw [hb] at hv
  exact fun q => hne (idx_inj ((VB.cover hv i hi).resolve_left id) q)
end
section
variable {P : Program} {c : FC} {k : List AItem} {Q : AM → Prop} {all : Array Oper} {pl rest : List DOp} {tf ta : Tr AVal} {facts left : List DFact} {i bef d : Nat} {h : AH}
theorem GoE.alloc {dst : Option Tmp} {tt : TypeId} {pos : String} {after : Array Edge} {guard : Option (Nat × Bool)} {el : TypeId} {z : AVal} (hl : pl = ⟨i, bef, false, ⟨dst, .alloc el, tt, pos, after, guard⟩, false⟩ :: rest) (hw : wantedA all ta ⟨dst, .alloc el, tt, pos, after, guard⟩ = some true)
    (hz : zeroT P el = some z) (hleft : dropF bef facts = left) (hd : dst = some d) (hdn : Nat.blt d c.n = true)
    (g : ∀ h1, Ext h h1 → Has h1 h.next (.cells .plain z.cells el) → recheck P h1 left = true ∧ GoE P c k Q all rest tf left (ta.put (pth d) (some (.ptr h.next 0))) h1) : GoE P c k Q all pl tf facts ta h := by
  obtain ⟨h1, q⟩ := new_some h (.cells .plain z.cells el)
  obtain ⟨_, q2, q3⟩ := new_ext q
  obtain ⟨g1, g2⟩ := g h1 q2 q3
  refine GoE.noisy0 (v := .ptr h.next 0) (h1 := h1) hl hw ?_ hleft g1 (prepD_some hd hdn) g2
  show opAlloc P h el = _
  unfold opAlloc
  rw [hz]
  simp only [q, ptrTo]
end
end Go.AbsE
