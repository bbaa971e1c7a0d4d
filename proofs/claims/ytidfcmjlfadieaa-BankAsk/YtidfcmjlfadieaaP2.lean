import Derived.Test.YtidfcmjlfadieaaQ
import Derived.Test.YtidfcmjlfadieaaP1
import Derived.Orders
set_option linter.unusedSimpArgs false
namespace Go.AbsE
open Go

section
variable {n : Nat}
theorem wanted_rel {e : Env} {t : Tr AVal} {T : Array Value} (hT : TRel e n t T) {all : Array Oper} {o : Oper} {w : Bool} (k : wantedA all t o = some w) :
    Region.wanted o (yielded all T) = w := by
  unfold wantedA at k
  unfold Region.wanted
  split at k
  · rename_i hg; cases k; rw [hg]
  · rename_i j want hg
    rw [hg]
    simp only []
    split at k
    · rename_i oj hj
      split at k
      · rename_i d hd
        unfold yielded
        rw [hj]
        simp only [Option.bind_some, hd]
        split at k
        · rename_i bb hbb
          obtain ⟨V, h1, h2⟩ := hT.2.2 d _ hbb
          cases h2
          rw [h1]
          cases k
          cases bb <;> cases want <;> rfl
        · rename_i v hne hv
          obtain ⟨V, h1, h2⟩ := hT.2.2 d _ hv
          cases k
          rw [h1]
          cases h2 <;> first | rfl | exact absurd rfl (hne _)
        · cases k
      · cases k
    · cases k

theorem prepD_rel {e : Env} {t t' : Tr AVal} {T : Array Value} (hT : TRel e n t T) {o : Oper} {v : AVal} {V : Value} (hv : VR e v V) (k : (prepD n o).run t v = some t') :
    TRel e n t' (match o.dst with | some d => T.setIfInBounds d V | none => T) := by
  unfold prepD at k
  cases hd : o.dst with
  | none => rw [hd] at k; cases k; exact hT
  | some i =>
    rw [hd] at k
    simp only [] at k
    cases hb : Nat.blt i n with
    | false => rw [hb] at k; cases k
    | true => rw [hb] at k; cases k; rw [Tr.mkPut_eq]; exact hT.put (blt_true hb) hv

end

/-! ### an order that is drawn -/
def VS (all : Array Oper) : (Nat → Prop) → List Nat → Prop
  | D, [] => ∀ i, i < all.size → D i
  | D, i :: s => i < all.size ∧ ¬ D i ∧ (∀ j, Dep all j i → D j) ∧ VS all (fun k => D k ∨ k = i) s

theorem countP_less {p p' : Nat → Bool} {i : Nat} (hi : p i = true) (hi' : p' i = false) (hle : ∀ j, p' j = true → p j = true) : ∀ {l : List Nat}, i ∈ l → l.countP p' + 1 ≤ l.countP p := by
  have hle2 : ∀ l : List Nat, l.countP p' ≤ l.countP p := fun l => List.countP_mono_left (fun j _ h => hle j h)
  intro l
  induction l with
  | nil => intro h; cases h
  | cons a l ih =>
    intro h
    by_cases ha : a = i
    · subst ha
      rw [List.countP_cons, List.countP_cons, hi, hi']
      have := hle2 l
      simp
      omega
    · have h2 : i ∈ l := by
        rcases List.mem_cons.1 h with h | h
        · exact absurd h.symm ha
        · exact h
      have := ih h2
      have h3 := hle a
      rw [List.countP_cons, List.countP_cons]
      cases hpa : p' a with
      | true => rw [h3 hpa]; simp; omega
      | false => simp; omega

theorem least_of {S : Nat → Prop} (rk : Nat → Nat) : ∀ (r i : Nat), rk i = r → S i → ∃ k, S k ∧ ∀ j, rk j < rk k → ¬ S j := by
  intro r
  induction r using Nat.strongRecOn with
  | _ r ih =>
    intro i hr hi
    by_cases h : ∃ j, rk j < rk i ∧ S j
    · obtain ⟨j, h1, h2⟩ := h
      exact ih (rk j) (by omega) j rfl h2
    · exact ⟨i, hi, fun j hj hS => h ⟨j, hj, hS⟩⟩

theorem binds_any {md : Region.Mode} {e : Edge} (h : Region.binds .any e = true) : Region.binds md e = true := by
  unfold Region.binds at h ⊢
  split at h <;> first | rfl | cases h

theorem linearise_VS {all : Array Oper} {B : Nat → Nat} (ro : RO all B) (md : Region.Mode) : ∀ (fuel t : Nat) (listed : Array Bool) (D : Nat → Prop), listed.size = all.size → (∀ k, k < all.size → (listed.getD k true = true ↔ D k)) →
    (List.range all.size).countP (fun i => !listed.getD i true) ≤ fuel → VS all D (Region.linearise.go md all fuel t listed []) := by
  obtain ⟨rk, hrk⟩ := ro.edge md
  intro fuel
  induction fuel with
  | zero =>
    intro t listed D hs hD hc
    show ∀ i, i < all.size → D i
    intro i hi
    apply Classical.byContradiction
    intro hn
    have h1 : (List.range all.size).countP (fun i => !listed.getD i true) = 0 := by omega
    rw [List.countP_eq_zero] at h1
    have := h1 i (by simpa using hi)
    simp only [Bool.not_eq_true', Bool.not_eq_false] at this
    exact hn ((hD i hi).1 this)
  | succ fuel ih =>
    intro t listed D hs hD hc
    simp only [Region.linearise.go]
    generalize hrs : (List.filter (fun i => !listed.getD i true && ((all[i]?).map (·.after.all fun e => !Region.binds md e || listed.getD e.on false)).getD false) (List.range all.size)) = rs
    have hmem : ∀ i, i ∈ rs ↔ i < all.size ∧ ¬ D i ∧ ∀ o e, all[i]? = some o → e ∈ o.after.toList → Region.binds md e = true → D e.on := by
      intro i
      rw [← hrs, List.mem_filter]
      simp only [List.mem_range, Bool.and_eq_true, Bool.not_eq_true']
      constructor
      · rintro ⟨h1, h2, h3⟩
        refine ⟨h1, (fun hq => (by rw [(hD i h1).2 hq] at h2; cases h2)), ?_⟩
        intro o e ho he hb
        rw [ho] at h3
        simp only [Option.map_some, Option.getD_some, Array.all_eq_true_iff_forall_mem, Bool.or_eq_true, Bool.not_eq_true'] at h3
        rcases h3 e (by simpa using he) with h4 | h4
        · rw [hb] at h4; cases h4
        · have hlt := (hrk i o e ho he hb).1
          refine (hD e.on (by omega)).1 ?_
          simp only [Array.getD] at h4 ⊢
          split at h4
          · rename_i hh; rw [dif_pos hh]; exact h4
          · cases h4
      · rintro ⟨h1, h2, h3⟩
        refine ⟨h1, ?_, ?_⟩
        · cases hq : listed.getD i true with
          | false => rfl
          | true => exact absurd ((hD i h1).1 hq) h2
        · have ho : all[i]? = some (all[i]'h1) := by simp [h1]
          rw [ho]
          simp only [Option.map_some, Option.getD_some, Array.all_eq_true_iff_forall_mem, Bool.or_eq_true, Bool.not_eq_true']
          intro e he
          cases hb : Region.binds md e with
          | false => exact .inl rfl
          | true =>
            have hlt := (hrk i _ e ho (by simpa using he) hb).1
            have h5 := (hD e.on (by omega)).2 (h3 _ e ho (by simpa using he) hb)
            refine .inr ?_
            simp only [Array.getD] at h5 ⊢
            rw [dif_pos (show e.on < listed.size by omega)] at h5 ⊢
            exact h5
    cases hi : rs[t % rs.length]? with
    | none =>
      have hnil : rs = [] := by
        cases rs with
        | nil => rfl
        | cons x xs =>
          have hlt : t % (x :: xs).length < (x :: xs).length := Nat.mod_lt _ (by simp)
          rw [List.getElem?_eq_none_iff] at hi
          omega
      simp only [List.reverse_nil]
      show ∀ i, i < all.size → D i
      intro i hi2
      apply Classical.byContradiction
      intro hn
      obtain ⟨k, ⟨h1, h2⟩, h3⟩ := least_of (S := fun i => i < all.size ∧ ¬ D i) rk (rk i) i rfl ⟨hi2, hn⟩
      have : k ∈ rs := by
        rw [hmem]
        refine ⟨h1, h2, ?_⟩
        intro o e ho he hb
        obtain ⟨hlt1, hlt2⟩ := hrk k o e ho he hb
        apply Classical.byContradiction
        intro hq
        exact h3 e.on hlt2 ⟨hlt1, hq⟩
      rw [hnil] at this
      cases this
    | some i =>
      simp only []
      rw [linearise_go_acc, List.reverse_singleton, List.singleton_append]
      obtain ⟨h1, h2, h3⟩ := (hmem i).1 (List.mem_of_getElem? hi)
      refine ⟨h1, h2, (fun j hj => ?_), ih _ _ _ (by simp [hs]) ?_ ?_⟩
      · obtain ⟨o, e, ho, he, hb, rfl⟩ := hj
        exact h3 o e ho he (binds_any hb)
      · intro k hk
        rw [Array.getD_eq_getD_getElem?, Array.getElem?_setIfInBounds]
        by_cases hki : i = k
        · subst hki; simp [hs, h1]
        · rw [if_neg hki, ← Array.getD_eq_getD_getElem?, hD k hk]
          exact ⟨.inl, fun h => h.resolve_right (fun q => hki q.symm)⟩
      · have : (List.range all.size).countP (fun k => !(listed.setIfInBounds i true).getD k true) + 1 ≤ (List.range all.size).countP (fun i => !listed.getD i true) := by
          refine countP_less (i := i) ?_ ?_ ?_ (by simpa using h1)
          · cases hq : listed.getD i true with
            | false => rfl
            | true => exact absurd ((hD i h1).1 hq) h2
          · rw [Array.getD_eq_getD_getElem?, Array.getElem?_setIfInBounds]
            simp [hs, h1]
          · intro j hj
            rw [Array.getD_eq_getD_getElem?, Array.getElem?_setIfInBounds] at hj
            by_cases hji : i = j
            · subst hji; simp [hs, h1] at hj
            · rw [if_neg hji, ← Array.getD_eq_getD_getElem?] at hj; exact hj
        omega

theorem schedule_VS {all : Array Oper} {B : Nat → Nat} (ro : RO all B) (mixed : Bool) (t : Nat) : VS all (fun _ => False) (Region.schedule mixed all t) := by
  have h : ∀ md t, VS all (fun _ => False) (Region.linearise md all t) := by
    intro md t
    unfold Region.linearise
    refine linearise_VS ro md _ _ _ _ (by simp) (fun k hk => ?_) ?_
    · simp [Array.getD, hk]
    · exact Nat.le_trans (List.countP_le_length) (by simp)
  unfold Region.schedule
  split
  · exact h _ _
  · exact h _ _
end Go.AbsE
