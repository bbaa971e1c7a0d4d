import Derived.Test.YtkhiagdmbajimaaMAG
import Derived.Test.YtkhiagdmbajimaaMAF
set_option linter.unusedSimpArgs false
namespace Go.AbsE
open Go
section
variable {all : Array Oper}
noncomputable def pickD : List DOp → Nat → List DOp
 | [], _ => []
 | d :: l, i => cond (Nat.beq d.i i) [d] (pickD l i)
noncomputable def picks (ds : List DOp) : List Nat → List DOp
 | [] => []
 | i :: r => pickD ds i ++ picks ds r
theorem pickD_mem {i : Nat} {d : DOp} : ∀ {l : List DOp}, d ∈ pickD l i → d ∈ l
 | [], h => h
 | x :: l, h => by
  unfold pickD at h
  cases q : Nat.beq x.i i with
  | true =>
   rw [q] at h
   exact List.mem_cons.2 (.inl (List.mem_singleton.1 h))
  | false =>
   rw [q] at h
   exact List.mem_cons_of_mem _ (pickD_mem h)
theorem picks_mem {ds : List DOp} {d : DOp} : ∀ {r : List Nat}, d ∈ picks ds r → d ∈ ds
 | [], h => by cases h
 | i :: r, h => by
  rcases List.mem_append.1 h with q | q
  ·exact pickD_mem q
  ·exact picks_mem q
noncomputable def planX (all : Array Oper) (befs order : List Nat) : Option (List DOp) :=
 match wrT all.toList 0 .leaf with
 | none => none
 | some wr => cond (cond (edgesAll all.toList 0) (gcOk all.toList all.toList.length) false) (cond (rdAll all wr befs (mkDs all.toList all.toList befs 0)) (match picks (mkDs all.toList all.toList befs 0) order with | c => cond (chkC all.toList.length c 0) (some c) none) none) none
noncomputable def befs0 (all : Array Oper) : List Nat := (befL all.toList 0 []).reverse
theorem planX_ok {befs order : List Nat} {c : List DOp} (h : planX all befs order = some c) : RO all (nthN befs) ∧ CV all (nthN befs) (fun _ => False) c := by
 unfold planX at h
 simp only [] at h
 split at h
 ·cases h
 ·rename_i wr hwr
  cases heg : cond (edgesAll all.toList 0) (gcOk all.toList all.toList.length) false with
  | false => rw [heg] at h; cases h
  | true =>
   have he : edgesAll all.toList 0 = true := by
    cases hq : edgesAll all.toList 0 with
    | true => rfl
    | false => rw [hq] at heg; cases heg
   have hgc : gcOk all.toList all.size = true := by rw [he, Array.length_toList] at heg; exact heg
   cases hr : rdAll all wr befs (mkDs all.toList all.toList befs 0) with
   | false => rw [heg, hr] at h; cases h
   | true =>
    rw [heg, hr] at h
    simp only [cond_true] at h
    cases hc : chkC all.toList.length (picks (mkDs all.toList all.toList befs 0) order) 0 with
    | false => rw [hc] at h; cases h
    | true =>
     rw [hc] at h
     cases h
     have hds := mkDs_ok (all := all) (l0 := all.toList) (befs := befs) all.toList befs 0 (by simp) (by simp)
     have hcv := chkC_ok (all := all) (B := nthN befs) _ 0 (fun d hd => hds d (picks_mem hd)) (by rw [Array.length_toList] at hc; exact hc)
     have hcv := CV.congr (A' := fun _ => False) (fun k => by simp) hcv
     have hw := wrT_ok (all := all) all.toList 0 .leaf wr (by simp) hwr (fun i _ _ hi => by omega)
     refine ⟨⟨ranks he hgc, fun i o x ho hx => (hw i o x ho hx).1,
      fun i j o o' x ho ho' hx hx' => ?_, fun i o x w ow ho hx how hwx => ?_⟩, hcv⟩
     ·have h1 := (hw i o x ho hx).2
      have h2 := (hw j o' x ho' hx').2
      rw [h1] at h2; injection h2
     ·have hlt := (Array.getElem?_eq_some_iff.1 ho).1
      rcases hcv.cover i hlt with hf | ⟨d, hd1, hd2⟩
      ·exact hf.elim
      ·have hdm := picks_mem hd1
       obtain ⟨k1, k2, k3⟩ := hds d hdm
       rw [hd2, ho] at k1
       injection k1 with k1
       have := rdAll_ok hr d hdm x (by rw [← k1]; exact hx) w (hw w ow x how hwx).2
       rw [k2, hd2] at this
       exact this
theorem idx_ne {a b : Nat} (l : List Nat) (h : b ≠ a) : (b :: l).idxOf a = l.idxOf a + 1 := by
 rw [List.idxOf_cons]
 have : (b == a) = false := by simpa using h
 rw [this]
 rfl
theorem VB.ord {B : Nat → Nat} : ∀ {s : List Nat} {D : Nat → Prop}, VB all B D s → ∀ i, i ∈ s → ∀ k, (B i).testBit k = true → D k ∨ (k ∈ s ∧ s.idxOf k < s.idxOf i)
 | [], _, _, i, hi, _, _ => by cases hi
 | i0 :: s, D, ⟨h1, h2, h3, h4⟩, i, hi, k, hk => by
  by_cases q : i = i0
  ·subst q
   exact .inl (h3 k hk)
  ·have his : i ∈ s := (List.mem_cons.1 hi).resolve_left q
   rcases VB.ord h4 i his k hk with (z | z) | ⟨z1, z2⟩
   ·exact .inl z
   ·subst z
    right
    refine ⟨List.mem_cons_self, ?_⟩
    rw [List.idxOf_cons_self, idx_ne _ (fun e => q e.symm)]
    omega
   ·by_cases hk0 : k = i0
    ·subst hk0
     right
     refine ⟨List.mem_cons_self, ?_⟩
     rw [List.idxOf_cons_self, idx_ne _ (fun e => q e.symm)]
     omega
    ·right
     refine ⟨List.mem_cons_of_mem _ z1, ?_⟩
     rw [idx_ne _ (fun e => hk0 e.symm), idx_ne _ (fun e => q e.symm)]
     omega
theorem VB.cover {B : Nat → Nat} : ∀ {s : List Nat} {D : Nat → Prop}, VB all B D s → ∀ i, i < all.size → D i ∨ i ∈ s
 | [], _, h, i, hi => .inl (h i hi)
 | i0 :: s, D, ⟨h1, h2, h3, h4⟩, i, hi => by
  rcases VB.cover h4 i hi with (z | z) | z
  ·exact .inl z
  ·subst z; exact .inr List.mem_cons_self
  ·exact .inr (List.mem_cons_of_mem _ z)
theorem VB.not {B : Nat → Nat} : ∀ {s : List Nat} {D : Nat → Prop}, VB all B D s → ∀ i, D i → i ∉ s
 | [], _, _, _, _ => by simp
 | i0 :: s, D, ⟨h1, h2, h3, h4⟩, i, hi => by
  intro q
  rcases List.mem_cons.1 q with z | z
  ·subst z; exact h2 hi
  ·exact VB.not h4 i (.inl hi) z
theorem VB.add {B B' : Nat → Nat} : ∀ {s : List Nat} {D : Nat → Prop}, VB all B D s → (∀ i, i ∈ s → ∀ k, (B' i).testBit k = true → D k ∨ (k ∈ s ∧ s.idxOf k < s.idxOf i)) → VB all B' D s
 | [], _, h, _ => h
 | i0 :: s, D, ⟨h1, h2, h3, h4⟩, g => by
  refine ⟨h1, h2, fun k hk => ?_, VB.add h4 fun i hi k hk => ?_⟩
  ·rcases g i0 List.mem_cons_self k hk with z | ⟨_, z⟩
   ·exact z
   ·rw [List.idxOf_cons_self] at z
    omega
  ·have hne : i ≠ i0 := fun q => VB.not h4 i0 (.inr rfl) (q ▸ hi)
   rcases g i (List.mem_cons_of_mem _ hi) k hk with z | ⟨z1, z2⟩
   ·exact .inl (.inl z)
   ·by_cases hk0 : k = i0
    ·exact .inl (.inr hk0)
    ·right
     refine ⟨(List.mem_cons.1 z1).resolve_left hk0, ?_⟩
     rw [idx_ne _ (fun e => hk0 e.symm), idx_ne _ (fun e => hne e.symm)] at z2
     omega
end
theorem Go.of_RSW {P : Program} {J : Jump} (hJ : JOk P J) {c : FC} {k : List AItem} {t : Tr AVal} {h : AH} {Q : AM → Prop}
  (H : ∀ (w0 : Base) (e : Env) (W : World) (F : Frame) (cs : List Frame), F.mode = .run → TRel e c.n t F.tmps → HR P w0 e h W → TD e c.n F.tmps t k F.todo →
   ∃ k2 r K2, IRs e k2 K2 ∧ RS P w0 F c.n cs e (lone F cs W) K2 r ∧ GoR P J c k2 Q r) : Go P c k t h Q := by
 intro w0 e W F Fr cs hF rr
 have hF' : FRs P e (c.fr k t :: c.rest) (F :: Fr) := hF
 cases hF' with
 | cons h1 hFr =>
  have hm := run_mode h1
  obtain ⟨k2, r, K2, hK2, hRS, g⟩ := H w0 e W F (Fr ++ cs) hm h1.tm rr (h1.todo rfl)
  have exec : ∀ {r' : R} {m' : AM}, RS P w0 F c.n (Fr ++ cs) e (lone F (Fr ++ cs) W) [] r' → aExec P J c.fn c.n c.ds c.dk c.rd c.rest r' = some m' → Reach P m' Q → ∃ m', Q m' ∧ SS P w0 cs (lone F (Fr ++ cs) W) m' := by
   intro r' m' hr hx hq
   obtain ⟨e1, F1, Fr1, W1, s1, s2, s3⟩ := exec_sim hJ hx hm h1 hFr hr
   obtain ⟨m2, h2, hs⟩ := hq w0 e1 W1 F1 Fr1 cs s2 s3
   exact ⟨m2, h2, SS.head s1 hs⟩
  cases r with
  | stuck i => exact g.elim
  | norm t' h' =>
   obtain ⟨e', T', W', s1, s2, s3, s4⟩ := hRS
   obtain ⟨m2, h2, hs⟩ := g w0 e' W' (Frame.w F T' K2) Fr cs (.cons (FR.todo_set (h1.mono s2) s3 (.plain (hK2.mono s2))) (hFr.mono s2)) s4
   exact ⟨m2, h2, SS.head s1 hs⟩
  | ret t' h' =>
   obtain ⟨m', hx, hq⟩ := g
   obtain ⟨e', T', W', J', s1, s2, s3, s4⟩ := hRS
   exact exec (r' := .ret t' h') ⟨e', T', W', J', s1, s2, s3, s4⟩ hx hq
  | susp s t' x =>
   obtain ⟨m', hx, hq⟩ := g
   obtain ⟨e', T', W', J', s1, s2, s3, s4, s5⟩ := hRS
   exact exec (r' := .susp (s ++ k2) t' x) ⟨e', T', W', J' ++ K2, by simpa using s1, s2, s3, s4.append (hK2.mono s2), s5.append⟩ hx hq
  | slow s t' h' =>
   obtain ⟨m', hx, hq⟩ := g
   obtain ⟨e', T', W', J', s1, s2, s3, s4, s5⟩ := hRS
   exact exec (r' := .slow (s ++ k2) t' h') ⟨e', T', W', J' ++ K2, by simpa using s1, s2, s3, s4.append (hK2.mono s2), s5⟩ hx hq
  | exit id t' h' =>
   obtain ⟨e', T', W', J', s1, sx, s2, s3, s4⟩ := hRS
   have hrel := exitA_rel (id := id) (hK2.mono s2)
   dsimp only [GoR] at g
   cases hx : exitA id k2 with
   | some k' =>
    rw [hx] at g hrel
    obtain ⟨K', q1, q2⟩ := hrel
    have hex := st_exit (P := P) (b := F) hm (T := T') (k := J' ++ K2) (cs := Fr ++ cs) (W := W') (id := id) (k' := K') (by rw [sx, q1])
    obtain ⟨m2, h2, hs⟩ := g w0 e' W' (Frame.w F T' K') Fr cs (.cons (FR.todo_set (h1.mono s2) s3 (.plain q2)) (hFr.mono s2)) s4
    exact ⟨m2, h2, SS.head (s1.trans (.one hex)) hs⟩
   | none =>
    rw [hx] at g hrel
    obtain ⟨m', hq1, hq2⟩ := g
    refine exec (r' := .exit id t' h') ⟨e', T', W', J' ++ K2, by simpa using s1, ?_, s2, s3, s4⟩ hq1 hq2
    rw [List.append_nil, sx, hrel]; rfl
theorem Go.drawnX {P : Program} {all : Array Oper} {c : FC} {k : List AItem} {id : Nat} {t : Tr AVal} {h : AH} {Q : AM → Prop} {b1 o1 : List Nat} {c1 : List DOp} (h1 : planX all b1 o1 = some c1)
  (H : ∀ s, VB all (nthN (befs0 all)) (fun _ => False) s → ∃ befs order pl, planX all befs order = some pl ∧ VB all (nthN befs) (fun _ => False) s ∧ GoE P c k Q all pl (eraseT all.toList t) [] t h) :
  Go P c (.code (.region id all true) :: k) t h Q := by
 have ro1 := (planX_ok h1).1
 refine Go.of_RSW noJ_ok fun w0 e W F cs hm hT r htd => ?_
 obtain ⟨IT, K, q1, q2, q3⟩ := plain_head htd (fun _ _ _ _ q => by cases q) (fun _ _ _ _ q => by cases q)
 cases q2
 obtain ⟨s, hs⟩ : ∃ s, Region.schedule (P.follows .mixedOrders) all (W.tape W.drawn (.order F.fn id)) = s := ⟨_, rfl⟩
 have hvb : VB all (nthN (befs0 all)) (fun _ => False) s := by
  rw [← hs]
  exact VS.toB (fun i k hi hk => befs_sound i hi k hk) _ _ (fun _ _ q => q.elim) (schedule_VS ro1 _ _)
 obtain ⟨befs, order, pl, p1, p2, p3⟩ := H s hvb
 obtain ⟨ro, hcv⟩ := planX_ok p1
 refine ⟨k, _, K, q3, ?_, p3⟩
 rw [Frame.w_self q1]
 have hstep : step P (lone (Frame.w F F.tmps (.code (.region id all true) :: K)) cs W) =
   .next (lone (Frame.w F F.tmps (.inRegion all s :: K)) cs { W with drawn := W.drawn + 1 }) := by
  rw [← hs]
  exact step_lone_go (by simp [stepG, stepG.exec, Frame.w, hm, choose, Sem.run, Question.forced, Question.cut])
 refine RS.head (.one hstep) (Env.le_refl e) ?_
 have hb : F.mode = .run := hm
 refine runC_sim hb (B := nthN befs) pl (V := fun _ => undefA) (tc := t) (D := fun _ => False) (A := fun _ => False) (t0 := t) (facts := []) ?_ ?_ ?_ (r.drew _)
 ·refine ⟨ro, hT, ?_, ⟨fun _ _ _ _ _ => ⟨fun q => q.elim, fun _ => rfl⟩, fun _ _ => rfl⟩, ⟨fun _ _ _ _ _ => ⟨fun q => q.elim, fun _ => rfl⟩, fun _ _ => rfl⟩,
   fun _ q => q.elim, fun _ _ q => q.elim, fun _ _ _ q => q.elim, p2, hcv⟩
  intro x a hx
  have hl : ∀ o ∈ all.toList, ∀ d, o.dst = some d → d < 1000000 := by
   intro o ho d hd
   obtain ⟨i, hi, rfl⟩ := List.getElem_of_mem ho
   exact ro.dst i _ d (by simp at hi; simp [hi]) hd
  obtain ⟨q1, q2⟩ := eraseT_get hb all.toList t x a hl hx
  exact ⟨q1, fun i o ho => q2 o (Array.mem_toList_iff.2 (Array.mem_of_getElem? ho))⟩
 ·intro i _ q; exact q.elim
 ·intro f hf; cases hf
end Go.AbsE

set_option linter.unusedSimpArgs false
namespace Go.AbsE
open Go
section
variable {all : Array Oper}
theorem VB.lt {B : Nat → Nat} : ∀ {s : List Nat} {D : Nat → Prop}, VB all B D s → ∀ i, i ∈ s → i < all.size
 | [], _, _, _, h => by cases h
 | i0 :: s, D, ⟨h1, h2, h3, h4⟩, i, h => by
  rcases List.mem_cons.1 h with q | q
  ·subst q; exact h1
  ·exact VB.lt h4 i q
theorem idx_inj {a b : Nat} : ∀ {s : List Nat}, a ∈ s → s.idxOf a = s.idxOf b → a = b
 | [], h, _ => by cases h
 | x :: s, h, q => by
  by_cases ha : x = a
  ·subst ha
   rw [List.idxOf_cons_self] at q
   by_cases hb : x = b
   ·exact hb
   ·rw [idx_ne _ hb] at q
    omega
  ·have has : a ∈ s := (List.mem_cons.1 h).resolve_left (fun e => ha e.symm)
   rw [idx_ne _ ha] at q
   by_cases hb : x = b
   ·subst hb
    rw [List.idxOf_cons_self] at q
    omega
   ·rw [idx_ne _ hb] at q
    exact idx_inj has (by omega)
noncomputable def chkAlt (N : Nat) (base befs : List Nat) (E : List (Nat × Nat)) : Bool :=
 (List.range N).all fun i => decide (nthN befs i < 2 ^ N) && (List.range N).all fun k => !((nthN befs i).testBit k) || (nthN base i).testBit k || E.contains (k, i)
theorem VB.alt {s base befs : List Nat} {N : Nat} (hv : VB all (nthN (befs0 all)) (fun _ => False) s) (hb : befs0 all = base) (hn : all.size = N) (E : List (Nat × Nat)) (hc : chkAlt N base befs E = true)
  (hE : ∀ e, e ∈ E → s.idxOf e.1 < s.idxOf e.2) : VB all (nthN befs) (fun _ => False) s := by
 subst hn
 rw [hb] at hv
 refine VB.add hv fun i hi k hk => .inr ?_
 have hil := VB.lt hv i hi
 unfold chkAlt at hc
 have h1 := List.all_eq_true.1 hc i (List.mem_range.2 hil)
 rw [Bool.and_eq_true] at h1
 have hk2 : k < all.size := by
  rcases Nat.lt_or_ge k all.size with q | q
  ·exact q
  ·have := Nat.testBit_lt_two_pow (x := nthN befs i) (i := k) (Nat.lt_of_lt_of_le (of_decide_eq_true h1.1) (Nat.pow_le_pow_right (by omega) q))
   rw [this] at hk
   cases hk
 have h2 := List.all_eq_true.1 h1.2 k (List.mem_range.2 hk2)
 rw [hk] at h2
 simp only [Bool.not_true, Bool.false_or, Bool.or_eq_true] at h2
 rcases h2 with q | q
 ·rcases VB.ord hv i hi k q with z | z
  ·exact z.elim
  ·exact z
 ·refine ⟨(VB.cover hv k hk2).resolve_left id, hE (k, i) (by simpa using q)⟩
theorem VB.before {s base : List Nat} (hv : VB all (nthN (befs0 all)) (fun _ => False) s) (hb : befs0 all = base) (i k : Nat) (hi : i < all.size) (hk : (nthN base i).testBit k = true) : s.idxOf k < s.idxOf i := by
 rw [hb] at hv
 rcases VB.ord hv i ((VB.cover hv i hi).resolve_left id) k hk with z | z
 ·exact z.elim
 ·exact z.2
theorem VB.apart {s base : List Nat} (hv : VB all (nthN (befs0 all)) (fun _ => False) s) (hb : befs0 all = base) (i k : Nat) (hi : i < all.size) (hne : i ≠ k) : s.idxOf i ≠ s.idxOf k := by
 rw [hb] at hv
 exact fun q => hne (idx_inj ((VB.cover hv i hi).resolve_left id) q)
end
section
variable {P : Program} {c : FC} {k : List AItem} {Q : AM → Prop} {all : Array Oper} {pl rest : List DOp} {tf ta : Tr AVal} {facts left : List DFact} {i bef d : Nat} {h : AH}
theorem GoE.alloc {dst : Option Tmp} {tt : TypeId} {pos : String} {after : Array Edge} {guard : Option (Nat × Bool)} {el : TypeId} {z : AVal} (hl : pl = ⟨i, bef, false, ⟨dst, .alloc el, tt, pos, after, guard⟩, false⟩ :: rest) (hw : wantedA all ta ⟨dst, .alloc el, tt, pos, after, guard⟩ = some true)
  (hz : zeroT P el = some z) (hleft : dropF bef facts = left) (hd : dst = some d) (hdn : Nat.blt d c.n = true)
  (g : ∀ h1, Ext h h1 → Has h1 h.next (.cells .plain z.cells el) → recheck P h1 left = true ∧ GoE P c k Q all rest tf left (ta.put (pth d) (some (.ptr h.next 0))) h1) : GoE P c k Q all pl tf facts ta h := by
 obtain ⟨h1, q⟩ := new_some h (.cells .plain z.cells el)
 obtain ⟨_, q2, q3⟩ := new_ext q
 obtain ⟨g1, g2⟩ := g h1 q2 q3
 refine GoE.noisy0 (v := .ptr h.next 0) (h1 := h1) hl hw ?_ hleft g1 (prepD_some hd hdn) g2
 show opAlloc P h el = _
 unfold opAlloc
 rw [hz]
 simp only [q, ptrTo]
end
end Go.AbsE
namespace Go.AbsE
open Go
section
variable {P : Program} {c : FC} {k : List AItem} {t : Tr AVal} {h : AH} {Q : AM → Prop}
theorem gS {x y : Code} (g : Go P c (.code x :: .code y :: k) t h Q) : Go P c (.code (.seq x y) :: k) t h Q := Go.seq noJ_ok g
theorem gR {id : Nat} {ops : Array Oper} {l : List Oper} (hl : ops.toList = l) (g : GoR P noJ c k Q (runOps P c.n ops l 0 t h)) : Go P c (.code (.region id ops false) :: k) t h Q := Go.region noJ_ok hl g
theorem gE {J : Jump} {all : Array Oper} {i : Nat} (g : Go P c k t h Q) : GoR P J c k Q (runOps P c.n all [] i t h) := g
theorem np {v : AVal} {X : AH → Prop} : ∀ chain h', ¬ (AEnd.pan chain = .ret v ∧ X h') := by
 rintro _ _ ⟨q, _⟩
 cases q
theorem dt {p : Prop} [Decidable p] (h : p) : decide p = true := decide_eq_true h
theorem df {p : Prop} [Decidable p] (h : ¬ p) : decide p = false := decide_eq_false h
end
section
variable {P : Program} {t : Tr AVal} {h : AH} {dst : Option Tmp} {ty tt ty2 : TypeId} {pos : String} {after : Array Edge} {guard : Option (Nat × Bool)} {x y : Operand} {a b : Int} (hx : ev t x = some (.int .i64 a)) (hy : ev t y = some (.int .i64 b))
include hx hy
theorem aA (hi : -9223372036854775808 ≤ a + b ∧ a + b ≤ 9223372036854775807 := by omega) : aOp P t h ⟨dst, .binOp .add ty x y ty2, tt, pos, after, guard⟩ = some (.val (.int .i64 (a + b)) h) := aOp_add hx hy (by constructor <;> omega) rfl
theorem aS (hi : -9223372036854775808 ≤ a - b ∧ a - b ≤ 9223372036854775807 := by omega) : aOp P t h ⟨dst, .binOp .sub ty x y ty2, tt, pos, after, guard⟩ = some (.val (.int .i64 (a - b)) h) := aOp_sub hx hy (by constructor <;> omega) rfl
theorem kLT (q : a < b := by omega) : aOp P t h ⟨dst, .binOp .lss ty x y ty2, tt, pos, after, guard⟩ = some (.val (.bool true) h) := aOp_lss hx hy (decide_eq_true q)
theorem kLF (q : ¬ a < b := by omega) : aOp P t h ⟨dst, .binOp .lss ty x y ty2, tt, pos, after, guard⟩ = some (.val (.bool false) h) := aOp_lss hx hy (decide_eq_false q)
theorem kMT (q : a ≤ b := by omega) : aOp P t h ⟨dst, .binOp .leq ty x y ty2, tt, pos, after, guard⟩ = some (.val (.bool true) h) := aOp_leq hx hy (decide_eq_true q)
theorem kMF (q : ¬ a ≤ b := by omega) : aOp P t h ⟨dst, .binOp .leq ty x y ty2, tt, pos, after, guard⟩ = some (.val (.bool false) h) := aOp_leq hx hy (decide_eq_false q)
theorem kGT (q : b < a := by omega) : aOp P t h ⟨dst, .binOp .gtr ty x y ty2, tt, pos, after, guard⟩ = some (.val (.bool true) h) := aOp_gtr hx hy (decide_eq_true q)
theorem kGF (q : ¬ b < a := by omega) : aOp P t h ⟨dst, .binOp .gtr ty x y ty2, tt, pos, after, guard⟩ = some (.val (.bool false) h) := aOp_gtr hx hy (decide_eq_false q)
theorem kNT (q : b ≤ a := by omega) : aOp P t h ⟨dst, .binOp .geq ty x y ty2, tt, pos, after, guard⟩ = some (.val (.bool true) h) := aOp_geq hx hy (decide_eq_true q)
theorem kNF (q : ¬ b ≤ a := by omega) : aOp P t h ⟨dst, .binOp .geq ty x y ty2, tt, pos, after, guard⟩ = some (.val (.bool false) h) := aOp_geq hx hy (decide_eq_false q)
theorem kET (q : a = b := by omega) : aOp P t h ⟨dst, .binOp .eql ty x y ty2, tt, pos, after, guard⟩ = some (.val (.bool true) h) := aOp_eql hx hy (decide_eq_true q)
theorem kEF (q : ¬ a = b := by omega) : aOp P t h ⟨dst, .binOp .eql ty x y ty2, tt, pos, after, guard⟩ = some (.val (.bool false) h) := aOp_eql hx hy (decide_eq_false q)
theorem kXT (q : ¬ a = b := by omega) : aOp P t h ⟨dst, .binOp .neq ty x y ty2, tt, pos, after, guard⟩ = some (.val (.bool true) h) := aOp_neq hx hy (decide_eq_false q)
theorem kXF (q : a = b := by omega) : aOp P t h ⟨dst, .binOp .neq ty x y ty2, tt, pos, after, guard⟩ = some (.val (.bool false) h) := aOp_neq hx hy (decide_eq_true q)
end
theorem gW {P : Program} {f : FuncId} {n : Nat} {k : List AItem} {rest : List AFr} {t : Tr AVal} {h : AH} {R : AEnd → AH → Prop} {fn : Func} {l : List ResultVar} {vs : List AVal} (hf : P.funcs[f]? = some fn) (hl : fn.results.toList = l) (hv : aResults P h t l = some vs) (hR : R (.ret (oneOrTuple vs)) h) : Go P ⟨f, n, [], false, none, rest⟩ (.code .ret :: k) t h (Post P f rest R) := Go.ret noJ_ok (ret_end (aResult_of hf hl hv) hR)
theorem gO : type_of% @GoR.op := @GoR.op
theorem gP {P : Program} {J : Jump} {c : FC} {k : List AItem} {Q : AM → Prop} {all : Array Oper} {l : List Oper} {o : Oper} {rest : List Oper} {i : Nat} {t t' : Tr AVal} {h h' : AH} {v : AVal} (g : GoR P J c k Q (runOps P c.n all rest (i + 1) t' h')) (hl : l = o :: rest := by exact rfl) (hw : wantedA all t o = some true := by exact rfl)
  (hx : aOp P t h o = some (.val v h') := by exact rfl) (hd : (prepD c.n o).run t v = some t' := by exact rfl) : GoR P J c k Q (runOps P c.n all l i t h) := GoR.op hl hw hx hd g
theorem gQ : type_of% @GoE.quiet := @GoE.quiet
theorem gC {P : Program} : type_of% (@Go.cond P noJ noJ_ok) := @Go.cond P noJ noJ_ok
theorem gD {P : Program} : type_of% (@Go.code P noJ noJ_ok) := @Go.code P noJ noJ_ok
theorem gV {P : Program} : type_of% (@Go.ret P noJ noJ_ok) := @Go.ret P noJ noJ_ok
theorem dD {bef : Nat} {f : DFact} {l l' : List DFact} (b k : Nat) (q : dropF bef l = l') (hb : bit? b k = true := by rfl) (hf : bit? bef f.i = bit? b k := by rfl) : dropF bef (f :: l) = l' := dropF_drop (hf.trans hb) q
theorem dK {bef : Nat} {f : DFact} {l l' : List DFact} (b k : Nat) (q : dropF bef l = l') (hb : bit? b k = false := by rfl) (hf : bit? bef f.i = bit? b k := by rfl) : dropF bef (f :: l) = f :: l' := dropF_keep (hf.trans hb) q
theorem aCF : type_of% @aOp_callFunc := @aOp_callFunc
end Go.AbsE

namespace Go.Proofs.Ytkhiagdmbajimaa
open Go Go.AbsE
set_option linter.unusedSimpArgs false
set_option linter.unusedVariables false
structure BkV where
 ll : Int
 lh : Int
 yl : Int
 yh : Int
structure RtV where
 o : Int
 t : Int
 m : Int
structure DrainV where
 bs : List BkV
 ds : List (Int × Int)
 rs : List RtV
 ss : List (Int × Int)
def spC (s : Int × Int) : List AVal := [.int .i64 s.1, .int .i64 s.2]
def BkV.cells (b : BkV) : List AVal := [.int .i64 b.ll, .int .i64 b.lh, .int .i64 b.yl, .int .i64 b.yh]
def RtV.cells (r : RtV) : List AVal := [.int .i64 r.o, .int .i64 r.t, .int .i64 r.m]
def dC (b d r s : AVal) : List AVal := [b, d, r, s]
def BkV.Ok (b : BkV) : Prop := (b.ll ≤ b.lh ∧ 0 ≤ b.ll ∧ b.lh ≤ 20 ∧ b.lh - b.ll ≤ 2) ∧ (b.yl ≤ b.yh ∧ 0 ≤ b.yl ∧ b.yh ≤ 20 ∧ b.yh - b.yl ≤ 2)
def PairOk (n : Nat) (w : Int × Int) : Prop := (0 ≤ w.1 ∧ w.1 ≤ (n : Int) - 1) ∧ (0 ≤ w.2 ∧ w.2 ≤ (n : Int) - 1) ∧ w.1 ≠ w.2
def RtV.Ok (n : Nat) (r : RtV) : Prop := PairOk n (r.o, r.t) ∧ (0 ≤ r.m ∧ r.m ≤ 100)
instance (b : BkV) : Decidable b.Ok := by unfold BkV.Ok; infer_instance
instance (n : Nat) (w : Int × Int) : Decidable (PairOk n w) := by unfold PairOk; infer_instance
instance (n : Nat) (r : RtV) : Decidable (r.Ok n) := by unfold RtV.Ok; infer_instance
structure DrainV.Ok (D : DrainV) : Prop where
 nb : 1 ≤ D.bs.length ∧ D.bs.length ≤ 5
 b : ∀ x, x ∈ D.bs → x.Ok
 nd : D.ds.length ≤ 7
 d : ∀ x, x ∈ D.ds → PairOk D.bs.length x
 nr : D.rs.length ≤ 4
 r : ∀ x, x ∈ D.rs → x.Ok D.bs.length
 ns : D.ss.length ≤ 4
 s : ∀ x, x ∈ D.ss → PairOk D.bs.length x
def DrainV.okB (D : DrainV) : Bool := decide (1 ≤ D.bs.length ∧ D.bs.length ≤ 5) && D.bs.all (fun x => decide x.Ok) && decide (D.ds.length ≤ 7) && D.ds.all (fun x => decide (PairOk D.bs.length x)) &&
 decide (D.rs.length ≤ 4) && D.rs.all (fun x => decide (x.Ok D.bs.length)) && decide (D.ss.length ≤ 4) && D.ss.all (fun x => decide (PairOk D.bs.length x))
theorem okB_iff (D : DrainV) : D.okB = true ↔ D.Ok := by
 unfold DrainV.okB
 simp only [Bool.and_eq_true, decide_eq_true_eq, List.all_eq_true]
 constructor
 ·rintro ⟨⟨⟨⟨⟨⟨⟨h1, h2⟩, h3⟩, h4⟩, h5⟩, h6⟩, h7⟩, h8⟩;exact ⟨h1, h2, h3, h4, h5, h6, h7, h8⟩
 ·rintro ⟨h1, h2, h3, h4, h5, h6, h7, h8⟩;exact ⟨⟨⟨⟨⟨⟨⟨h1, h2⟩, h3⟩, h4⟩, h5⟩, h6⟩, h7⟩, h8⟩
instance (D : DrainV) : Decidable D.Ok := decidable_of_iff _ (okB_iff D)
def upto (a b : Int) : List Int := (List.range (b - a + 1).toNat).map fun i => a + (i : Nat)
theorem mem_upto {a b x : Int} : x ∈ upto a b ↔ a ≤ x ∧ x ≤ b := by
 unfold upto
 rw [List.mem_map]
 constructor
 ·rintro ⟨i, hi, rfl⟩
  have := List.mem_range.1 hi
  omega
 ·intro h
  exact ⟨(x - a).toNat, List.mem_range.2 (by omega), by omega⟩
theorem upto_nodup (a b : Int) : (upto a b).Nodup := by
 unfold upto
 refine List.Pairwise.map _ (fun x y h => ?_) List.nodup_range
 omega
def levsV : List BkV → List (List Int)
 | [] => [[]]
 | b :: bs => (levsV bs).flatMap fun t => (upto b.ll b.lh).map fun x => x :: t
def nextL : List BkV → List Int → Option (List Int)
 | b :: bs, x :: t => if x < b.lh then some ((x + 1) :: t) else (nextL bs t).map fun t => b.ll :: t
 | _, _ => none
inductive Ch {α : Type} (nx : α → Option α) : List α → Prop
 | one {a : α} (h : nx a = none) : Ch nx [a]
 | cons {a b : α} {l : List α} (h : nx a = some b) (k : Ch nx (b :: l)) : Ch nx (a :: b :: l)
theorem Ch.at {α : Type} {nx : α → Option α} {L : List α} (k : Ch nx L) : ∀ {j : Nat} {x : α}, L[j]? = some x → nx x = L[j + 1]? := by
 induction k with
 | one h =>
  intro j x hx
  match j, hx with
  | 0, hx => cases hx; exact h
 | cons h k ih =>
  intro j x hx
  match j, hx with
  | 0, hx => cases hx; exact h
  | j + 1, hx => exact ih hx
theorem upto_cons {a b : Int} (h : a ≤ b) : upto a b = a :: upto (a + 1) b := by
 unfold upto
 rw [show (b - a + 1).toNat = (b - (a + 1) + 1).toNat + 1 by omega, List.range_succ_eq_map, List.map_cons, List.map_map]
 congr 1
 ·omega
 ·refine List.map_congr_left fun i _ => ?_
  show a + ((i + 1 : Nat) : Int) = a + 1 + (i : Nat)
  omega
theorem upto_nil {a b : Int} (h : b < a) : upto a b = [] := by
 unfold upto
 rw [show (b - a + 1).toNat = 0 by omega]
 rfl
theorem ch_block {b : BkV} {bs : List BkV} {t : List Int} {R : List (List Int)} (hR : (R = [] ∧ nextL bs t = none) ∨ ∃ t' R', R = (b.ll :: t') :: R' ∧ nextL bs t = some t' ∧ Ch (nextL (b :: bs)) R) :
  ∀ (n : Nat) (x : Int), x + (n : Nat) = b.lh → Ch (nextL (b :: bs)) (((upto x b.lh).map fun x => x :: t) ++ R)
 | 0, x, hx => by
  rw [upto_cons (by omega), upto_nil (by omega), List.map_cons, List.map_nil, List.singleton_append]
  have hn : ∀ r, nextL bs t = r → nextL (b :: bs) (x :: t) = r.map fun t => b.ll :: t := fun r hr => by
   rw [← hr]
   show (if x < b.lh then _ else _) = _
   rw [if_neg (by omega)]
  rcases hR with ⟨rfl, h⟩ | ⟨t', R', rfl, h, k⟩
  ·exact .one (hn _ h)
  ·exact .cons (hn _ h) k
 | n + 1, x, hx => by
  have ih := ch_block hR n (x + 1) (by omega)
  rw [upto_cons (by omega), List.map_cons, List.cons_append];rw [upto_cons (by omega), List.map_cons, List.cons_append] at ih ⊢;refine .cons ?_ ih
  show (if x < b.lh then _ else _) = _
  rw [if_pos (by omega)]
theorem ch_levs : ∀ {bs : List BkV}, (∀ b, b ∈ bs → b.ll ≤ b.lh) → Ch (nextL bs) (levsV bs)
 | [], _ => .one rfl
 | b :: bs, h => by
  have hb := h b (by simp)
  have ih := ch_levs (bs := bs) fun x hx => h x (by simp [hx])
  show Ch _ ((levsV bs).flatMap _)
  generalize levsV bs = T at ih
  induction ih with
  | one hn =>
   rw [List.flatMap_cons, List.flatMap_nil];exact ch_block (.inl ⟨rfl, hn⟩) (b.lh - b.ll).toNat b.ll (by omega)
  | cons hn k ih =>
   rw [List.flatMap_cons];refine ch_block (.inr ?_) (b.lh - b.ll).toNat b.ll (by omega);rw [List.flatMap_cons, upto_cons hb, List.map_cons, List.cons_append] at ih ⊢;exact ⟨_, _, rfl, hn, ih⟩
theorem levs_next {bs : List BkV} (h : ∀ b, b ∈ bs → b.ll ≤ b.lh) {j : Nat} {l : List Int} (hl : (levsV bs)[j]? = some l) : nextL bs l = (levsV bs)[j + 1]? := (ch_levs h).at hl
theorem levs_first : ∀ {bs : List BkV}, (∀ b, b ∈ bs → b.ll ≤ b.lh) → ∃ T, levsV bs = bs.map (fun b => b.ll) :: T
 | [], _ => ⟨[], rfl⟩
 | b :: bs, h => by
  obtain ⟨T, hT⟩ := levs_first (bs := bs) fun x hx => h x (by simp [hx])
  have hb := h b (by simp)
  show ∃ T, (levsV bs).flatMap _ = _
  rw [hT, List.flatMap_cons, upto_cons hb, List.map_cons, List.cons_append];exact ⟨_, rfl⟩
theorem levs_len : ∀ {bs : List BkV} {l : List Int}, l ∈ levsV bs → l.length = bs.length
 | [], l, h => by cases List.mem_singleton.1 h; rfl
 | b :: bs, l, h => by
  obtain ⟨t, ht, h⟩ := List.mem_flatMap.1 h
  obtain ⟨x, _, rfl⟩ := List.mem_map.1 h
  rw [List.length_cons, List.length_cons, levs_len ht]
theorem levs_at : ∀ {bs : List BkV} {l : List Int}, l ∈ levsV bs → ∀ {i : Nat} {b : BkV}, bs[i]? = some b → ∃ x, l[i]? = some x ∧ b.ll ≤ x ∧ x ≤ b.lh
 | [], l, _, i, b, hb => by cases hb
 | c :: bs, l, h, i, b, hb => by
  obtain ⟨t, ht, h⟩ := List.mem_flatMap.1 h
  obtain ⟨x, hx, rfl⟩ := List.mem_map.1 h
  match i, hb with
  | 0, hb => cases hb; exact ⟨x, rfl, mem_upto.1 hx⟩
  | i + 1, hb => exact levs_at ht hb
theorem mem_levs : ∀ {bs : List BkV} {l : List Int}, l.length = bs.length → (∀ (i : Nat) (b : BkV) (x : Int), bs[i]? = some b → l[i]? = some x → b.ll ≤ x ∧ x ≤ b.lh) → l ∈ levsV bs
 | [], l, h, _ => by rw [List.length_eq_zero_iff.1 h]; exact List.mem_singleton.2 rfl
 | b :: bs, [], h, _ => by cases h
 | b :: bs, x :: t, h, k => List.mem_flatMap.2 ⟨t, mem_levs (by simpa using h) (fun i b' x' h1 h2 => k (i + 1) b' x' h1 h2), List.mem_map.2 ⟨x, mem_upto.2 (k 0 b x rfl rfl), rfl⟩⟩
theorem levs_nodup : ∀ (bs : List BkV), (levsV bs).Nodup
 | [] => List.pairwise_singleton _ _
 | b :: bs => by
  show ((levsV bs).flatMap _).Pairwise _
  rw [List.pairwise_flatMap];refine ⟨fun t _ => ?_, ?_⟩
  ·rw [List.pairwise_map];exact (upto_nodup _ _).imp fun h q => h (by injection q)
  ·refine (levs_nodup bs).imp fun h x hx y hy q => h ?_
   obtain ⟨_, _, rfl⟩ := List.mem_map.1 hx
   obtain ⟨_, _, rfl⟩ := List.mem_map.1 hy
   injection q
def joinsV (w : Int × Int) (a b : Nat) : Bool := (decide (w.1 = (a : Int)) && decide (w.2 = (b : Int))) || (decide (w.1 = (b : Int)) && decide (w.2 = (a : Int)))
def openV (s : Nat) : Nat → List (Int × Int) → List (Int × Int)
 | _, [] => []
 | i, l :: L => if s.testBit i = true then openV s (i + 1) L else l :: openV s (i + 1) L
def onlyV (s : Nat) : Nat → List (Int × Int) → List (Int × Int)
 | _, [] => []
 | i, l :: L => if s.testBit i = true then l :: onlyV s (i + 1) L else onlyV s (i + 1) L
theorem open_zero : ∀ {i : Nat} {L : List (Int × Int)}, openV 0 i L = L
 | _, [] => rfl
 | i, l :: L => by unfold openV; rw [if_neg (by simp), open_zero]
def DrainV.J (D : DrainV) (s : Nat) (a b : Nat) : Bool := (openV s 0 D.ds).any fun w => joinsV w a b
def lowStep (J : Nat → Bool) (l : List Int) (st : Nat × Int) (to : Nat) : Nat × Int := if (l[to]?).getD 0 < st.2 ∧ J to = true then (to, (l[to]?).getD 0) else st
def lowV (J : Nat → Bool) (l : List Int) (n a : Nat) : Nat := ((List.range n).foldl (lowStep J l) (n, (l[a]?).getD 0)).1
def DrainV.course (D : DrainV) (s : Nat) (l : List Int) : List Nat := (List.range D.bs.length).map fun a => lowV (D.J s a) l D.bs.length a
def nx (c : List Nat) (a : Nat) : Nat := (c[a]?).getD 0
def endV (c : List Nat) : Nat → Nat → Nat
 | 0, a => a
 | f + 1, a => if nx c a < c.length then endV c f (nx c a) else a
def treeV (c : List Nat) : Nat → Nat → List Nat
 | 0, _ => []
 | f + 1, a => a :: ((List.range c.length).filter fun b => decide (nx c b = a)).flatMap (treeV c f)
def sumP (l : List (Int × Int)) : Int × Int := l.foldl (fun a b => (a.1 + b.1, a.2 + b.2)) (0, 0)
def DrainV.yield (D : DrainV) (b : Nat) : Int × Int := match D.bs[b]? with | some x => (x.yl, x.yh) | none => (0, 0)
def DrainV.water (D : DrainV) (c : List Nat) (a : Nat) : Int × Int := sumP ((treeV c 21 a).map D.yield)
def DrainV.straight (D : DrainV) (c : List Nat) (a b : Nat) : Int × Int := if nx c a = b then D.water c a else (0, 0)
def DrainV.okSeen (D : DrainV) (s : Nat) (l : List Int) : Bool := (onlyV s 0 D.ss).all fun w => decide ((nx (D.course 0 l) w.1.toNat : Int) = w.2)
def DrainV.learn (D : DrainV) (s : Nat) : List (List Int) := (levsV D.bs).filter (D.okSeen s)
def DrainV.all (D : DrainV) : Nat := 2 ^ D.ss.length - 1
def DrainV.truths (D : DrainV) : List (List Int) := D.learn D.all
def topS : Int × Int := (9223372036854775807, -9223372036854775808)
def joinP (a b : Int × Int) : Int × Int := (min a.1 b.1, max a.2 b.2)
def joinL (l : List (Int × Int)) : Int × Int := l.foldl joinP topS
def setV (l : List Nat) : Nat := l.foldl (fun s x => s ||| 2 ^ x) 0
def DrainV.can (D : DrainV) (c : List Nat) (r : RtV) : Bool := decide (r.m < (D.straight c r.o.toNat r.t.toNat).2)
def DrainV.must (D : DrainV) (c : List Nat) (r : RtV) : Bool := decide (r.m < (D.straight c r.o.toNat r.t.toNat).1)
def DrainV.keeps (D : DrainV) (K : List (List Int)) (crs : List Int → List Nat) : Int :=
 if (K.all fun l => !(D.rs.any (D.can (crs l)))) = true then 2 else if (K.any fun l => !(D.rs.any (D.must (crs l)))) = true then 1 else 0
def bitsFrom (p : RtV → Bool) : Nat → List RtV → Nat
 | _, [] => 0
 | i, r :: R => (if p r = true then 2 ^ i else 0) ||| bitsFrom p (i + 1) R
def DrainV.nexts (D : DrainV) (a : Nat) : Nat := setV (D.truths.map fun l => nx (D.course 0 l) a)
def DrainV.endsS (D : DrainV) (a : Nat) : Nat := setV (D.truths.map fun l => endV (D.course 0 l) 21 a)
def DrainV.waters (D : DrainV) (a : Nat) : Int × Int := joinL (D.truths.map fun l => D.water (D.course 0 l) a)
def DrainV.flow (D : DrainV) (a b : Nat) : Int × Int := joinL (D.truths.map fun l => D.straight (D.course 0 l) a b)
def DrainV.surely (D : DrainV) : Nat := bitsFrom (fun r => decide (r.m < (D.flow r.o.toNat r.t.toNat).1)) 0 D.rs
def DrainV.perhaps (D : DrainV) : Nat := bitsFrom (fun r => decide (r.m < (D.flow r.o.toNat r.t.toNat).2)) 0 D.rs
def DrainV.dug (D : DrainV) (a b : Nat) : DrainV := { D with ds := D.ds ++ [((a : Int), (b : Int))] }
end Go.Proofs.Ytkhiagdmbajimaa

namespace Go.Proofs.Ytkhiagdmbajimaa
open Go Go.AbsE
set_option linter.unusedSimpArgs false
set_option linter.unusedVariables false
def lv (l : List Int) (a : Nat) : Int := (l[a]?).getD 0
def lowP (J : Nat → Bool) (l : List Int) (n a i : Nat) : Nat × Int := (List.range i).foldl (lowStep J l) (n, lv l a)
theorem low_succ (J : Nat → Bool) (l : List Int) (n a i : Nat) : lowP J l n a (i + 1) = lowStep J l (lowP J l n a i) i := by
 unfold lowP
 rw [List.range_succ, List.foldl_append]
 rfl
theorem low_eq (J : Nat → Bool) (l : List Int) (n a : Nat) : lowV J l n a = (lowP J l n a n).1 := rfl
structure LowI (J : Nat → Bool) (l : List Int) (n a i : Nat) (st : Nat × Int) : Prop where
 h : (st = (n, lv l a) ∧ ∀ b, b < i → J b = true → lv l a ≤ lv l b) ∨
  (st.1 < i ∧ st.2 = lv l st.1 ∧ lv l st.1 < lv l a ∧ J st.1 = true ∧ ∀ b, b < i → J b = true → lv l b < lv l a → lv l st.1 < lv l b ∨ (lv l st.1 = lv l b ∧ st.1 ≤ b))
theorem low_inv (J : Nat → Bool) (l : List Int) (n a : Nat) : ∀ i, LowI J l n a i (lowP J l n a i)
 | 0 => ⟨.inl ⟨rfl, fun b hb => absurd hb (by omega)⟩⟩
 | i + 1 => by
  have ih := (low_inv J l n a i).h
  rw [low_succ]
  generalize lowP J l n a i = st at ih
  unfold lowStep
  have e : (l[i]?).getD 0 = lv l i := rfl
  rw [e]
  by_cases q : lv l i < st.2 ∧ J i = true
  ·rw [if_pos q];refine ⟨.inr ⟨by dsimp only; omega, rfl, ?_, q.2, ?_⟩⟩
   ·dsimp only
    rcases ih with ⟨rfl, _⟩ | ⟨_, h2, h3, _⟩
    ·exact q.1
    ·omega
   ·dsimp only
    intro b hb hJ hlt
    by_cases hbi : b = i
    ·subst hbi; exact .inr ⟨rfl, Nat.le_refl _⟩
    ·rcases ih with ⟨rfl, h⟩ | ⟨_, h2, h3, _, h5⟩
     ·have := h b (by omega) hJ
      omega
     ·have := h5 b (by omega) hJ hlt
      omega
  ·rw [if_neg q]
   rcases ih with ⟨rfl, h⟩ | ⟨h1, h2, h3, h4, h5⟩
   ·refine ⟨.inl ⟨rfl, fun b hb hJ => ?_⟩⟩
    by_cases hbi : b = i
    ·subst hbi
     by_cases z : lv l b < lv l a
     ·exact absurd ⟨z, hJ⟩ q
     ·omega
    ·exact h b (by omega) hJ
   ·refine ⟨.inr ⟨by omega, h2, h3, h4, fun b hb hJ hlt => ?_⟩⟩
    by_cases hbi : b = i
    ·subst hbi
     by_cases z : lv l b < st.2
     ·exact absurd ⟨z, hJ⟩ q
     ·have : lv l b = lv l st.1 ∨ lv l st.1 < lv l b := by omega
      rcases this with w | w
      ·exact .inr ⟨w.symm, by omega⟩
      ·exact .inl w
    ·exact h5 b (by omega) hJ hlt
structure IsNext (J : Nat → Bool) (l : List Int) (n a r : Nat) : Prop where
 h : (r = n ∧ ∀ b, b < n → J b = true → lv l a ≤ lv l b) ∨
  (r < n ∧ lv l r < lv l a ∧ J r = true ∧ ∀ b, b < n → J b = true → lv l b < lv l a → lv l r < lv l b ∨ (lv l r = lv l b ∧ r ≤ b))
theorem low_is (J : Nat → Bool) (l : List Int) (n a : Nat) : IsNext J l n a (lowV J l n a) := by
 rw [low_eq]
 have k := (low_inv J l n a n).h
 generalize lowP J l n a n = st at k
 rcases k with ⟨rfl, h⟩ | ⟨h1, _, h3, h4, h5⟩
 ·exact ⟨.inl ⟨rfl, h⟩⟩
 ·exact ⟨.inr ⟨h1, h3, h4, h5⟩⟩
theorem IsNext.uniq {J : Nat → Bool} {l : List Int} {n a r s : Nat} (h : IsNext J l n a r) (k : IsNext J l n a s) : r = s := by
 rcases h.h with ⟨h1, h2⟩ | ⟨h1, h2, h3, h4⟩
 ·rcases k.h with ⟨k1, k2⟩ | ⟨k1, k2, k3, k4⟩
  ·omega
  ·have := h2 s k1 k3
   omega
 ·rcases k.h with ⟨k1, k2⟩ | ⟨k1, k2, k3, k4⟩
  ·have := k2 r h1 h3
   omega
  ·have := h4 s k1 k3 k2
   have := k4 r h1 h3 h2
   omega
theorem low_le (J : Nat → Bool) (l : List Int) (n a : Nat) : lowV J l n a ≤ n := by
 rcases (low_is J l n a).h with ⟨h, _⟩ | ⟨h, _⟩ <;> omega
theorem course_len (D : DrainV) (s : Nat) (l : List Int) : (D.course s l).length = D.bs.length := by unfold DrainV.course; simp
theorem course_at {D : DrainV} {s : Nat} {l : List Int} {a : Nat} (ha : a < D.bs.length) : (D.course s l)[a]? = some (lowV (D.J s a) l D.bs.length a) := by
 unfold DrainV.course
 rw [List.getElem?_map, List.getElem?_range ha]
 rfl
theorem nx_course {D : DrainV} {s : Nat} {l : List Int} {a : Nat} (ha : a < D.bs.length) : nx (D.course s l) a = lowV (D.J s a) l D.bs.length a := by
 unfold nx
 rw [course_at ha]
 rfl
structure Down (l : List Int) (c : List Nat) : Prop where
 le : ∀ a, a < c.length → nx c a ≤ c.length
 lt : ∀ a, a < c.length → nx c a < c.length → lv l (nx c a) < lv l a
 lo : ∀ a, a < c.length → 0 ≤ lv l a ∧ lv l a ≤ 20
theorem levs_in {D : DrainV} (O : D.Ok) {l : List Int} (hl : l ∈ levsV D.bs) {a : Nat} (ha : a < D.bs.length) : 0 ≤ lv l a ∧ lv l a ≤ 20 := by
 obtain ⟨x, h1, h2, h3⟩ := levs_at hl (List.getElem?_eq_getElem ha)
 have := (O.b _ (List.getElem_mem ha)).1
 unfold lv
 rw [h1, Option.getD_some]
 omega
theorem course_down {D : DrainV} (O : D.Ok) {l : List Int} (hl : l ∈ levsV D.bs) (s : Nat) : Down l (D.course s l) where
 le a ha := by
  rw [course_len] at ha ⊢;rw [nx_course ha];exact low_le _ _ _ _
 lt a ha := by
  rw [course_len] at ha ⊢;rw [nx_course ha]
  intro q
  rcases (low_is (D.J s a) l D.bs.length a).h with ⟨h, _⟩ | ⟨_, h, _⟩ <;> omega
 lo a ha := by
  rw [course_len] at ha;exact levs_in O hl ha
theorem end_step {l : List Int} {c : List Nat} (d : Down l c) : ∀ {f g a : Nat}, a < c.length → lv l a < f → lv l a < g → endV c f a = endV c g a
 | 0, _, a, ha, h, _ => by have := d.lo a ha; omega
 | _, 0, a, ha, _, h => by have := d.lo a ha; omega
 | f + 1, g + 1, a, ha, h, k => by
  show (if nx c a < c.length then endV c f (nx c a) else a) = (if nx c a < c.length then endV c g (nx c a) else a)
  by_cases q : nx c a < c.length
  ·rw [if_pos q, if_pos q]
   have := d.lt a ha q
   exact end_step d q (by omega) (by omega)
  ·rw [if_neg q, if_neg q]
theorem end_next {l : List Int} {c : List Nat} (d : Down l c) {a : Nat} (ha : a < c.length) : endV c 21 a = if nx c a < c.length then endV c 21 (nx c a) else a := by
 show (if nx c a < c.length then endV c 20 (nx c a) else a) = _
 by_cases q : nx c a < c.length
 ·rw [if_pos q, if_pos q]
  have := d.lt a ha q
  have := d.lo a ha
  exact end_step d q (by omega) (by omega)
 ·rw [if_neg q, if_neg q]
theorem end_lt {l : List Int} {c : List Nat} (d : Down l c) : ∀ {f a : Nat}, a < c.length → endV c f a < c.length
 | 0, a, ha => ha
 | f + 1, a, ha => by
  show (if nx c a < c.length then endV c f (nx c a) else a) < _
  by_cases q : nx c a < c.length
  ·rw [if_pos q]; exact end_lt d q
  ·rw [if_neg q]; exact ha
theorem flatMap_congr' {α β : Type} {f g : α → List β} : ∀ {L : List α}, (∀ x, x ∈ L → f x = g x) → L.flatMap f = L.flatMap g
 | [], _ => rfl
 | x :: L, h => by rw [List.flatMap_cons, List.flatMap_cons, h x (by simp), flatMap_congr' fun y hy => h y (by simp [hy])]
def preds (c : List Nat) (a : Nat) : List Nat := (List.range c.length).filter fun b => decide (nx c b = a)
theorem mem_preds {c : List Nat} {a b : Nat} : b ∈ preds c a ↔ b < c.length ∧ nx c b = a := by
 unfold preds
 rw [List.mem_filter, List.mem_range, decide_eq_true_eq]
theorem tree_step {l : List Int} {c : List Nat} (d : Down l c) : ∀ {f g a : Nat}, a < c.length → 20 - lv l a < f → 20 - lv l a < g → treeV c f a = treeV c g a
 | 0, _, a, ha, h, _ => by have := d.lo a ha; omega
 | _, 0, a, ha, _, h => by have := d.lo a ha; omega
 | f + 1, g + 1, a, ha, h, k => by
  show a :: (preds c a).flatMap (treeV c f) = a :: (preds c a).flatMap (treeV c g)
  rw [flatMap_congr' (fun b hb => ?_)]
  obtain ⟨hb1, hb2⟩ := mem_preds.1 hb
  have := d.lt b hb1 (by omega)
  rw [hb2] at this;exact tree_step d hb1 (by omega) (by omega)
theorem tree_next {l : List Int} {c : List Nat} (d : Down l c) {a : Nat} (ha : a < c.length) : treeV c 21 a = a :: (preds c a).flatMap (treeV c 21) := by
 show a :: (preds c a).flatMap (treeV c 20) = _
 rw [flatMap_congr' (fun b hb => ?_)]
 obtain ⟨hb1, hb2⟩ := mem_preds.1 hb
 have := d.lt b hb1 (by omega)
 rw [hb2] at this
 have := d.lo a ha
 exact tree_step d hb1 (by omega) (by omega)
theorem tree_lt {c : List Nat} : ∀ {f a b : Nat}, a < c.length → b ∈ treeV c f a → b < c.length
 | 0, a, b, _, h => by cases h
 | f + 1, a, b, ha, h => by
  rcases List.mem_cons.1 h with rfl | h
  ·exact ha
  ·obtain ⟨x, hx, h⟩ := List.mem_flatMap.1 h
   exact tree_lt (mem_preds.1 hx).1 h
inductive Comes (c : List Nat) (a : Nat) : Nat → Prop
 | here (h : a < c.length) : Comes c a a
 | next {b : Nat} (hb : b < c.length) (k : Comes c a (nx c b)) : Comes c a b
theorem Comes.lt {c : List Nat} {a b : Nat} (k : Comes c a b) : a < c.length ∧ b < c.length := by
 induction k with
 | here h => exact ⟨h, h⟩
 | next hb k ih => exact ⟨ih.1, hb⟩
theorem Comes.lv_le {l : List Int} {c : List Nat} (d : Down l c) {a b : Nat} (k : Comes c a b) : lv l a ≤ lv l b := by
 induction k with
 | here h => exact Int.le_refl _
 | next hb k ih =>
  have := d.lt _ hb k.lt.2
  omega
theorem Comes.trans {c : List Nat} {a b x : Nat} (k : Comes c a b) (j : Comes c b x) : Comes c a x := by
 induction j with
 | here h => exact k
 | next hb _ ih => exact .next hb ih
theorem tree_comes {c : List Nat} : ∀ {f a b : Nat}, a < c.length → b ∈ treeV c f a → Comes c a b
 | 0, a, b, _, h => by cases h
 | f + 1, a, b, ha, h => by
  rcases List.mem_cons.1 h with rfl | h
  ·exact .here ha
  ·obtain ⟨x, hx, h⟩ := List.mem_flatMap.1 h
   obtain ⟨hx1, hx2⟩ := mem_preds.1 hx
   exact Comes.trans (.next hx1 (by rw [hx2]; exact .here ha)) (tree_comes hx1 h)
theorem Comes.last {c : List Nat} {a b : Nat} (k : Comes c a b) : b = a ∨ ∃ x, x < c.length ∧ nx c x = a ∧ Comes c x b := by
 induction k with
 | here h => exact .inl rfl
 | next hb k ih =>
  rcases ih with q | ⟨x, h1, h2, h3⟩
  ·exact .inr ⟨_, hb, q, .here hb⟩
  ·exact .inr ⟨x, h1, h2, .next hb h3⟩
theorem comes_tree {l : List Int} {c : List Nat} (d : Down l c) : ∀ (n : Nat) {a b : Nat}, 20 - lv l a < n → Comes c a b → b ∈ treeV c 21 a
 | 0, a, b, h, k => by have := d.lo a k.lt.1; omega
 | n + 1, a, b, h, k => by
  rw [tree_next d k.lt.1]
  rcases k.last with rfl | ⟨x, h1, h2, h3⟩
  ·simp
  ·refine List.mem_cons_of_mem _ (List.mem_flatMap.2 ⟨x, mem_preds.2 ⟨h1, h2⟩, comes_tree d n ?_ h3⟩)
   have := d.lt x h1 (by rw [h2]; exact k.lt.1)
   rw [h2] at this
   omega
theorem mem_tree {l : List Int} {c : List Nat} (d : Down l c) {a b : Nat} (ha : a < c.length) : b ∈ treeV c 21 a ↔ Comes c a b :=
 ⟨tree_comes ha, comes_tree d 100 (by have := d.lo a ha; omega)⟩
theorem Comes.total {c : List Nat} {x y b : Nat} (k : Comes c x b) (j : Comes c y b) : Comes c x y ∨ Comes c y x := by
 induction k with
 | here h => exact .inr j
 | next hb k ih =>
  cases j with
  | here h => exact .inl (.next hb k)
  | next _ j => exact ih j
theorem pred_uniq {l : List Int} {c : List Nat} (d : Down l c) {a x y b : Nat} (hx : nx c x = a) (hy : nx c y = a) (ha : a < c.length) (k : Comes c x b) (j : Comes c y b) : x = y := by
 have aux : ∀ {x y : Nat}, nx c x = a → nx c y = a → x < c.length → Comes c x y → x = y := by
  intro x y hx hy hxl k
  cases k with
  | here h => rfl
  | next hb k =>
   rw [hy] at k
   have h1 := k.lv_le d
   have h2 := d.lt x hxl (by rw [hx]; exact ha)
   rw [hx] at h2
   omega
 rcases k.total j with q | q
 ·exact aux hx hy k.lt.1 q
 ·exact (aux hy hx j.lt.1 q).symm
theorem tree_nodup {l : List Int} {c : List Nat} (d : Down l c) : ∀ (n : Nat) {a : Nat}, a < c.length → 20 - lv l a < n → (treeV c 21 a).Nodup
 | 0, a, ha, h => by have := d.lo a ha; omega
 | n + 1, a, ha, h => by
  rw [tree_next d ha]
  have hlt : ∀ x, x ∈ preds c a → x < c.length ∧ nx c x = a ∧ lv l a < lv l x := fun x hx => by
   obtain ⟨h1, h2⟩ := mem_preds.1 hx
   have := d.lt x h1 (by rw [h2]; exact ha)
   rw [h2] at this;exact ⟨h1, h2, this⟩
  refine List.nodup_cons.2 ⟨fun q => ?_, ?_⟩
  ·obtain ⟨x, hx, h1⟩ := List.mem_flatMap.1 q
   obtain ⟨h2, _, h3⟩ := hlt x hx
   have := ((mem_tree d h2).1 h1).lv_le d
   omega
  ·show List.Pairwise _ _
   rw [List.pairwise_flatMap];refine ⟨fun x hx => tree_nodup d n (hlt x hx).1 (by have := (hlt x hx).2.2; omega), ?_⟩
   have hn : (preds c a).Nodup := List.Pairwise.filter _ List.nodup_range
   refine List.Pairwise.imp_of_mem ?_ hn
   intro x y hx hy hne u hu v hv q
   subst q;exact hne (pred_uniq d (hlt x hx).2.1 (hlt y hy).2.1 ha ((mem_tree d (hlt x hx).1).1 hu) ((mem_tree d (hlt y hy).1).1 hv))
end Go.Proofs.Ytkhiagdmbajimaa

namespace Go.Proofs.Ytkhiagdmbajimaa
open Go Go.AbsE
set_option linter.unusedSimpArgs false
set_option linter.unusedVariables false
theorem set_app (l : List Nat) (x : Nat) : setV (l ++ [x]) = setV l ||| 2 ^ x := by unfold setV; rw [List.foldl_append]; rfl
theorem foldl_bit (l : List Nat) (i : Nat) : ∀ s : Nat, (l.foldl (fun s x => s ||| 2 ^ x) s).testBit i = (s.testBit i || decide (i ∈ l)) := by
 induction l with
 | nil => intro s; simp
 | cons x l ih =>
  intro s
  rw [List.foldl_cons, ih, Nat.testBit_or, Nat.testBit_two_pow, Bool.or_assoc]
  congr 1
  by_cases q : x = i
  ·subst q; simp
  ·have : ¬ i = x := fun z => q z.symm
   simp [q, this]
theorem set_bit {l : List Nat} {i : Nat} : (setV l).testBit i = decide (i ∈ l) := by
 unfold setV
 rw [foldl_bit]
 simp
theorem set_perm {l m : List Nat} (h : l.Perm m) : setV l = setV m := by
 apply Nat.eq_of_testBit_eq
 intro i
 rw [set_bit, set_bit]
 simp only [h.mem_iff]
theorem set_lt {l : List Nat} {n : Nat} (h : ∀ x, x ∈ l → x < n) : setV l < 2 ^ n := by
 refine Nat.lt_pow_two_of_testBit _ fun i hi => ?_;rw [set_bit]
 exact decide_eq_false fun q => by have := h i q; omega
theorem sum_app (l : List (Int × Int)) (x : Int × Int) : sumP (l ++ [x]) = ((sumP l).1 + x.1, (sumP l).2 + x.2) := by unfold sumP; rw [List.foldl_append]; rfl
theorem sum_cons (x : Int × Int) (l : List (Int × Int)) : sumP (x :: l) = (x.1 + (sumP l).1, x.2 + (sumP l).2) := by
 have : ∀ (l : List (Int × Int)) (a : Int × Int), l.foldl (fun a b => (a.1 + b.1, a.2 + b.2)) a = (a.1 + (sumP l).1, a.2 + (sumP l).2) := by
  intro l
  induction l with
  | nil => intro a; simp [sumP]
  | cons y l ih =>
   intro a
   unfold sumP
   rw [List.foldl_cons, List.foldl_cons, ih, ih]
   ext <;> dsimp only <;> omega
 unfold sumP
 rw [List.foldl_cons, this]
 ext <;> simp [sumP]
theorem sum_in {l : List (Int × Int)} {M : Nat} (h : ∀ p, p ∈ l → (0 ≤ p.1 ∧ p.1 ≤ M) ∧ (0 ≤ p.2 ∧ p.2 ≤ M)) : (0 ≤ (sumP l).1 ∧ (sumP l).1 ≤ (l.length * M : Nat)) ∧ (0 ≤ (sumP l).2 ∧ (sumP l).2 ≤ (l.length * M : Nat)) := by
 induction l with
 | nil => simp [sumP]
 | cons x l ih =>
  have h1 := h x (by simp)
  have h2 := ih fun p hp => h p (by simp [hp])
  rw [sum_cons, List.length_cons, Nat.succ_mul]
  dsimp only
  omega
theorem joinP_min (a b : Int) : (if b < a then b else a) = min a b := by split <;> omega
theorem joinP_max (a b : Int) : (if a < b then b else a) = max a b := by split <;> omega
theorem joinP_right (a b c : Int × Int) : joinP (joinP a b) c = joinP (joinP a c) b := by
 unfold joinP; ext <;> dsimp only <;> omega
theorem foldl_perm {l m : List (Int × Int)} (h : l.Perm m) : ∀ a, l.foldl joinP a = m.foldl joinP a := by
 induction h with
 | nil => intro a; rfl
 | cons x _ ih => intro a; exact ih _
 | swap x y l => intro a; simp only [List.foldl_cons, joinP_right a y x]
 | trans _ _ i1 i2 => intro a; rw [i1, i2]
theorem joinL_perm {l m : List (Int × Int)} (h : l.Perm m) : joinL l = joinL m := foldl_perm h _
theorem joinL_app (l : List (Int × Int)) (x : Int × Int) : joinL (l ++ [x]) = joinP (joinL l) x := by simp [joinL]
theorem nodup_len : ∀ (n : Nat) {l : List Nat}, l.Nodup → (∀ x, x ∈ l → x < n) → l.length ≤ n
 | 0, [], _, _ => Nat.le_refl _
 | 0, x :: l, _, h => absurd (h x (by simp)) (by omega)
 | n + 1, l, hn, h => by
  have h1 := nodup_len n (hn.erase n) fun x hx => by
   have h2 := h x (List.mem_of_mem_erase hx)
   have h3 : x ≠ n := fun q => (hn.not_mem_erase (a := n)) (q ▸ hx)
   omega
  have h2 : l.length ≤ (l.erase n).length + 1 := by rw [List.length_erase]; split <;> omega
  omega
theorem path_len {l : List Int} {c : List Nat} (d : Down l c) {a : Nat} (ha : a < c.length) : (treeV c 21 a).length ≤ c.length := by
 have h1 := tree_nodup d 100 ha (by have := d.lo a ha; omega)
 exact nodup_len _ h1 fun b hb => tree_lt ha hb
theorem yield_in {D : DrainV} (O : D.Ok) (b : Nat) : (0 ≤ (D.yield b).1 ∧ (D.yield b).1 ≤ (20 : Nat)) ∧ (0 ≤ (D.yield b).2 ∧ (D.yield b).2 ≤ (20 : Nat)) := by
 unfold DrainV.yield
 cases q : D.bs[b]? with
 | none => dsimp only; omega
 | some x =>
  have := (O.b x (List.mem_of_getElem? q)).2
  dsimp only
  omega
theorem water_in {D : DrainV} (O : D.Ok) {l : List Int} {c : List Nat} (d : Down l c) (hc : c.length ≤ 5) {a : Nat} (ha : a < c.length) : (0 ≤ (D.water c a).1 ∧ (D.water c a).1 ≤ 100) ∧ (0 ≤ (D.water c a).2 ∧ (D.water c a).2 ≤ 100) := by
 have h1 := sum_in (l := (treeV c 21 a).map D.yield) (M := 20) fun p hp => by
  obtain ⟨b, _, rfl⟩ := List.mem_map.1 hp
  exact yield_in O b
 have h2 := path_len d ha
 rw [List.length_map] at h1
 unfold DrainV.water
 omega
end Go.Proofs.Ytkhiagdmbajimaa
