import Derived.Test.YtidfcmjlfadieaaN
import Derived.Test.YtidfcmjlfadieaaO
set_option linter.unusedSimpArgs false
namespace Go.AbsE
open Go

/-! Regions whose order is open: what the plan of one says. -/

theorem bit_iff {m i : Nat} : bit? m i = true ↔ m.testBit i = true := by
  unfold bit?
  have h : Nat.land (Nat.shiftRight m i) 1 = (m >>> i) % 2 := Nat.and_one_is_mod _
  rw [h, Nat.testBit, Nat.one_and_eq_mod_two]
  rcases Nat.mod_two_eq_zero_or_one (m >>> i) with hq | hq <;> rw [hq] <;> decide

theorem sub_bits {a b : Nat} (h : sub? a b = true) {k : Nat} (hk : a.testBit k = true) : b.testBit k = true := by
  unfold sub? at h
  have h : a &&& b = a := Nat.eq_of_beq_eq_true h
  rw [← h, Nat.testBit_and] at hk
  simp at hk
  exact hk.2

theorem nthN_eq (l : List Nat) (i : Nat) : nthN l i = (l[i]?).getD 0 := by
  induction l generalizing i with
  | nil => simp [nthN]
  | cons a l ih => cases i with
    | zero => simp [nthN]
    | succ i => simp [nthN, ih]

/-- k comes straight before i, in every order. -/
def Dep (all : Array Oper) (k i : Nat) : Prop := ∃ o e, all[i]? = some o ∧ e ∈ o.after.toList ∧ Region.binds .any e = true ∧ e.on = k

inductive Bef (all : Array Oper) : Nat → Nat → Prop
  | edge {k i} (h : Dep all k i) : Bef all k i
  | step {k j i} (h : Dep all j i) (h2 : Bef all k j) : Bef all k i

theorem Bef.closed {all : Array Oper} {S : Nat → Prop} (hS : ∀ i j, S i → Dep all j i → S j) : ∀ {k i}, Bef all k i → (∀ j, Dep all j i → S j) → S k := by
  intro k i h
  induction h with
  | edge h => intro hd; exact hd _ h
  | step h _ ih => intro hd; exact ih (fun j hj => hS _ _ (hd _ h) hj)

structure RO (all : Array Oper) (B : Nat → Nat) : Prop where
  edge : ∀ md, ∃ rk : Nat → Nat, ∀ (i : Nat) (o : Oper) (e : Edge), all[i]? = some o → e ∈ o.after.toList → Region.binds md e = true → e.on < all.size ∧ rk e.on < rk i
  sound : ∀ i k, i < all.size → (B i).testBit k = true → Bef all k i
  dst : ∀ (i : Nat) (o : Oper) (x : Nat), all[i]? = some o → o.dst = some x → x < 1000000
  uniq : ∀ (i j : Nat) (o o' : Oper) (x : Nat), all[i]? = some o → all[j]? = some o' → o.dst = some x → o'.dst = some x → i = j
  rd : ∀ (i : Nat) (o : Oper) (x w : Nat) (ow : Oper), all[i]? = some o → x ∈ readsO all o → all[w]? = some ow → ow.dst = some x → w = i ∨ (B i).testBit w = true ∨ (B w).testBit i = true

def CV (all : Array Oper) (B : Nat → Nat) : (Nat → Prop) → List DOp → Prop
  | A, [] => ∀ i, i < all.size → A i
  | A, d :: c => all[d.i]? = some d.o ∧ d.bef = B d.i ∧ (d.quiet = true → d.lit = true ∨ quietOp d.o.op = true) ∧ ¬ A d.i ∧ (∀ k, (B d.i).testBit k = true → A k) ∧
      (d.quiet = false → ∀ d' ∈ c, (B d'.i).testBit d.i = true) ∧ CV all B (fun k => A k ∨ k = d.i) c

/-! ### those before each -/
section
variable {all : Array Oper}

theorem befM_sound {i k : Nat} {o : Oper} (ho : all[i]? = some o) {acc : List Nat} (hacc : ∀ j, j < k → ∀ m, (nthN acc (k - 1 - j)).testBit m = true → Bef all m j) :
    ∀ (l : List Edge) (s : Nat), (∀ e ∈ l, e ∈ o.after.toList) → (∀ m, s.testBit m = true → Bef all m i) → ∀ m, (befM k acc l s).testBit m = true → Bef all m i := by
  intro l
  induction l with
  | nil => intro s _ hs m hm; exact hs m hm
  | cons e l ih =>
    intro s he hs
    unfold befM
    refine ih _ (fun e' h' => he e' (by simp [h'])) ?_
    cases hb : Region.binds .any e with
    | false => exact hs
    | true =>
      cases hk : Nat.blt e.on k with
      | false => exact hs
      | true =>
        intro m hm
        have hd : Dep all e.on i := ⟨o, e, ho, he e (by simp), hb, rfl⟩
        have hlt : e.on < k := blt_true hk
        simp only [cond_true] at hm
        have hm : ((s ||| 2 ^ e.on) ||| nthN acc (k - 1 - e.on)).testBit m = true := hm
        rw [Nat.testBit_or, Nat.testBit_or] at hm
        simp only [Bool.or_eq_true] at hm
        rcases hm with (hm | hm) | hm
        · exact hs m hm
        · rw [Nat.testBit_two_pow] at hm
          simp at hm
          subst hm
          exact .edge hd
        · exact .step hd (hacc _ hlt m hm)

theorem befL_sound : ∀ (r : List Oper) (k : Nat) (acc : List Nat), all.toList.drop k = r → acc.length = k → (∀ j, j < k → ∀ m, (nthN acc (k - 1 - j)).testBit m = true → Bef all m j) →
    (befL r k acc).length = k + r.length ∧ ∀ j, j < k + r.length → ∀ m, (nthN (befL r k acc) (k + r.length - 1 - j)).testBit m = true → Bef all m j := by
  intro r
  induction r with
  | nil => intro k acc _ hl hacc; exact ⟨by simpa [befL] using hl, by simpa [befL] using hacc⟩
  | cons o r ih =>
    intro k acc hr hl hacc
    have hlen : k < all.toList.length := by
      have := congrArg List.length hr
      simp at this ⊢
      omega
    have hd := List.drop_eq_getElem_cons hlen
    rw [hd] at hr
    injection hr with h1 h2
    have ho : all[k]? = some o := by rw [← h1]; simp at hlen; simp [hlen]
    have hnew := befM_sound ho hacc o.after.toList 0 (fun _ h => h) (fun m hm => by simp at hm)
    have := ih (k + 1) (befM k acc o.after.toList 0 :: acc) h2 (by simp [hl]) ?_
    · unfold befL
      have e1 : k + (o :: r).length = k + 1 + r.length := by simp; omega
      rw [e1]
      exact this
    · intro j hj m hm
      by_cases hjk : j = k
      · subst hjk
        have e1 : j + 1 - 1 - j = 0 := by omega
        rw [e1] at hm
        exact hnew m hm
      · have e1 : k + 1 - 1 - j = (k - 1 - j) + 1 := by omega
        rw [e1] at hm
        exact hacc j (by omega) m hm

theorem befs_sound : ∀ j, j < all.size → ∀ m, (nthN (befL all.toList 0 []).reverse j).testBit m = true → Bef all m j := by
  have ⟨h1, h2⟩ := befL_sound (all := all) all.toList 0 [] (by simp) rfl (fun j hj => by omega)
  intro j hj m hm
  simp only [Nat.zero_add, Array.length_toList] at h1 h2
  refine h2 j hj m ?_
  rw [nthN_eq] at hm ⊢
  rw [List.getElem?_reverse (by omega), h1] at hm
  exact hm

/-! ### the plan's elements -/
def DK (all : Array Oper) (B : Nat → Nat) (d : DOp) : Prop := all[d.i]? = some d.o ∧ d.bef = B d.i ∧ (d.quiet = true → d.lit = true ∨ quietOp d.o.op = true)

theorem mkDs_ok {l0 : List Oper} {befs : List Nat} : ∀ (l : List Oper) (bs : List Nat) (k : Nat), all.toList.drop k = l → befs.drop k = bs → ∀ d ∈ mkDs l0 l bs k, DK all (nthN befs) d := by
  intro l
  induction l with
  | nil => intro bs k _ _ d hd; simp [mkDs] at hd
  | cons o l ih =>
    intro bs k hl hb d hd
    cases bs with
    | nil => simp [mkDs] at hd
    | cons b bs =>
      have hlen : k < all.toList.length := by
        have := congrArg List.length hl
        simp at this ⊢
        omega
      have hlen2 : k < befs.length := by
        have := congrArg List.length hb
        simp at this ⊢
        omega
      rw [List.drop_eq_getElem_cons hlen] at hl
      rw [List.drop_eq_getElem_cons hlen2] at hb
      injection hl with h1 h2
      injection hb with h3 h4
      simp only [mkDs, List.mem_cons] at hd
      rcases hd with rfl | hd
      · refine ⟨?_, ?_, fun hq => ?_⟩
        · rw [← h1]; simp at hlen; simp [hlen]
        · rw [nthN_eq]; simp [hlen2, h3]
        · dsimp only at hq ⊢
          cases hl : isLit l0 o with
          | true => exact .inl rfl
          | false => rw [hl] at hq; exact .inr hq
      · exact ih bs (k + 1) h2 h4 d hd

theorem passQ_mem : ∀ (l : List DOp) (m : Nat) (d : DOp), (d ∈ (passQ l m).taken → d ∈ l) ∧ (d ∈ (passQ l m).rest → d ∈ l) := by
  intro l
  induction l with
  | nil => intro m d; simp [passQ]
  | cons a l ih =>
    intro m d
    unfold passQ
    cases (cond a.quiet (sub? a.bef m) false) with
    | true =>
      have := ih (Nat.lor m (Nat.pow 2 a.i)) d
      simp only [cond_true, List.mem_cons]
      exact ⟨fun h => h.imp id this.1, fun h => .inr (this.2 h)⟩
    | false =>
      have := ih m d
      simp only [cond_false, List.mem_cons]
      exact ⟨fun h => .inr (this.1 h), fun h => h.imp id this.2⟩

theorem eager_mem : ∀ (f : Nat) (l : List DOp) (m : Nat) (d : DOp), d ∈ eager f l m → d ∈ l := by
  intro f
  induction f with
  | zero => intro l m d h; simp [eager] at h
  | succ f ih =>
    intro l m d h
    unfold eager at h
    have hp := passQ_mem l m
    cases hq : passQ l m with
    | mk t r m' =>
      rw [hq] at h hp
      simp only [List.mem_append] at h
      rcases h with h | h
      · exact (hp d).1 h
      · cases r with
        | nil => simp at h
        | cons a r =>
          simp only [List.mem_cons] at h
          rcases h with rfl | h
          · exact (hp d).2 (by simp)
          · exact (hp d).2 (by simp [ih _ _ _ h])

theorem allBef_mem {i : Nat} : ∀ {l : List DOp}, allBef i l = true → ∀ d ∈ l, d.bef.testBit i = true := by
  intro l
  induction l with
  | nil => intro _ d h; cases h
  | cons a l ih =>
    intro h d hd
    unfold allBef at h
    cases hb : bit? a.bef i with
    | false => rw [hb] at h; cases h
    | true =>
      rw [hb] at h
      rcases List.mem_cons.1 hd with rfl | hd
      · exact bit_iff.1 hb
      · exact ih h d hd

theorem CV.congr {B : Nat → Nat} : ∀ {c : List DOp} {A A' : Nat → Prop}, (∀ k, A k ↔ A' k) → CV all B A c → CV all B A' c := by
  intro c
  induction c with
  | nil => intro A A' h k i hi; exact (h i).1 (k i hi)
  | cons d c ih =>
    intro A A' h k
    obtain ⟨h1, h2, h3, h4, h5, h6, h7⟩ := k
    exact ⟨h1, h2, h3, fun q => h4 ((h _).2 q), fun k hk => (h _).1 (h5 k hk), h6, ih (fun k => by rw [h k]) h7⟩

theorem chkC_ok {B : Nat → Nat} : ∀ (c : List DOp) (m : Nat), (∀ d ∈ c, DK all B d) → chkC all.size c m = true → CV all B (fun k => m.testBit k = true) c := by
  intro c
  induction c with
  | nil =>
    intro m _ h i hi
    unfold chkC at h
    have h : m = 2 ^ all.size - 1 := Nat.eq_of_beq_eq_true h
    subst h
    simp [Nat.testBit_two_pow_sub_one, hi]
  | cons d c ih =>
    intro m hd h
    unfold chkC at h
    obtain ⟨k1, k2, k3⟩ := hd d (by simp)
    cases hb : bit? m d.i with
    | true => rw [hb] at h; cases h
    | false =>
      rw [hb] at h
      simp only [cond_false] at h
      cases hs : sub? d.bef m with
      | false => rw [hs] at h; cases h
      | true =>
        rw [hs] at h
        simp only [cond_true] at h
        cases hq : cond d.quiet true (allBef d.i c) with
        | false => rw [hq] at h; cases h
        | true =>
          rw [hq] at h
          simp only [cond_true] at h
          have h7 := ih _ (fun d' h' => hd d' (by simp [h'])) h
          refine ⟨k1, k2, k3, ?_, ?_, ?_, ?_⟩
          · intro q; rw [bit_iff.2 q] at hb; cases hb
          · intro k hk; rw [← k2] at hk; exact sub_bits hs hk
          · intro hqf d' hd'
            rw [hqf] at hq
            have := allBef_mem hq d' hd'
            rw [(hd d' (by simp [hd'])).2.1] at this
            exact this
          · refine CV.congr (fun k => ?_) h7
            have e1 : (m.lor (Nat.pow 2 d.i)) = m ||| 2 ^ d.i := rfl
            rw [e1, Nat.testBit_or, Nat.testBit_two_pow]
            rw [Bool.or_eq_true, decide_eq_true_iff]
            exact ⟨fun h => h.imp id Eq.symm, fun h => h.imp id Eq.symm⟩

theorem wrT_ok : ∀ (r : List Oper) (k : Nat) (t wr : Tr Nat), all.toList.drop k = r → wrT r k t = some wr →
    (∀ i o x, i < k → all[i]? = some o → o.dst = some x → x < 1000000 ∧ t.get (pth x) = some i) →
    ∀ i o x, all[i]? = some o → o.dst = some x → x < 1000000 ∧ wr.get (pth x) = some i := by
  intro r
  induction r with
  | nil =>
    intro k t wr hr h inv i o x ho hx
    cases h
    have hlen : all.size ≤ k := by
      have := congrArg List.length hr
      simp at this
      omega
    have := (Array.getElem?_eq_some_iff.1 ho).1
    exact inv i o x (by omega) ho hx
  | cons o r ih =>
    intro k t wr hr h inv
    have hlen : k < all.toList.length := by
      have := congrArg List.length hr
      simp at this ⊢
      omega
    rw [List.drop_eq_getElem_cons hlen] at hr
    injection hr with h1 h2
    have ho : all[k]? = some o := by rw [← h1]; simp at hlen; simp [hlen]
    unfold wrT at h
    cases hd : o.dst with
    | none =>
      rw [hd] at h
      refine ih (k + 1) t wr h2 h (fun i o' x hi ho' hx => ?_)
      by_cases hik : i = k
      · subst hik; rw [ho] at ho'; cases ho'; rw [hd] at hx; cases hx
      · exact inv i o' x (by omega) ho' hx
    | some d =>
      rw [hd] at h
      simp only [] at h
      cases hb : Nat.blt d 1000000 with
      | false => rw [hb] at h; cases h
      | true =>
        rw [hb] at h
        simp only [cond_true] at h
        have hdl : d < 1000000 := blt_true hb
        cases hg : t.get (pth d) with
        | some w => rw [hg] at h; cases h
        | none =>
          rw [hg] at h
          refine ih (k + 1) _ wr h2 h (fun i o' x hi ho' hx => ?_)
          rw [Tr.get_put _ _ (pth_ok (Nat.lt_of_lt_of_le hdl (by decide)))]
          by_cases hik : i = k
          · subst hik; rw [ho] at ho'; cases ho'; rw [hd] at hx; cases hx; exact ⟨hdl, by simp⟩
          · obtain ⟨q1, q2⟩ := inv i o' x (by omega) ho' hx
            refine ⟨q1, ?_⟩
            by_cases hp : pth d = pth x
            · rw [hp, q2] at hg; cases hg
            · rw [if_neg hp]; exact q2

theorem edgesOk_ok {k : Nat} : ∀ {l : List Edge}, edgesOk k l = true → ∀ e ∈ l, Region.binds .text e = true → e.on < k := by
  intro l
  induction l with
  | nil => intro _ e h; cases h
  | cons a l ih =>
    intro h e he hbe
    unfold edgesOk at h
    cases hb : Region.binds .text a with
    | false =>
      rw [hb] at h
      rcases List.mem_cons.1 he with rfl | he
      · rw [hb] at hbe; cases hbe
      · exact ih h e he hbe
    | true =>
      cases hk : Nat.blt a.on k with
      | false => rw [hb, hk] at h; cases h
      | true =>
        rw [hb, hk] at h
        rcases List.mem_cons.1 he with rfl | he
        · exact blt_true hk
        · exact ih h e he hbe

theorem edgesAll_ok : ∀ (r : List Oper) (k : Nat), all.toList.drop k = r → edgesAll r k = true → ∀ i o e, k ≤ i → all[i]? = some o → e ∈ o.after.toList → Region.binds .text e = true → e.on < i := by
  intro r
  induction r with
  | nil =>
    intro k hr _ i o e hi ho
    have hlen : all.size ≤ k := by
      have := congrArg List.length hr
      simp at this
      omega
    have := (Array.getElem?_eq_some_iff.1 ho).1
    omega
  | cons o r ih =>
    intro k hr h i o' e hi ho' he hbe
    have hlen : k < all.toList.length := by
      have := congrArg List.length hr
      simp at this ⊢
      omega
    rw [List.drop_eq_getElem_cons hlen] at hr
    injection hr with h1 h2
    have ho : all[k]? = some o := by rw [← h1]; simp at hlen; simp [hlen]
    unfold edgesAll at h
    cases hq : edgesOk k o.after.toList with
    | false => rw [hq] at h; cases h
    | true =>
      rw [hq] at h
      by_cases hik : i = k
      · subst hik; rw [ho] at ho'; cases ho'; exact edgesOk_ok hq e he hbe
      · exact ih (k + 1) h2 h i o' e (by omega) ho' he hbe

theorem gcM_ok : ∀ (l : List Edge) (s : Nat), (∀ k, s.testBit k = true → (gcM l s).testBit k = true) ∧ ∀ e ∈ l, Region.binds .gc e = true → (gcM l s).testBit e.on = true := by
  intro l
  induction l with
  | nil => intro s; exact ⟨fun _ h => h, fun e h => by cases h⟩
  | cons a l ih =>
    intro s
    unfold gcM
    obtain ⟨h1, h2⟩ := ih (cond (Region.binds .gc a) (Nat.lor s (Nat.pow 2 a.on)) s)
    refine ⟨fun k hk => h1 k ?_, fun e he hb => ?_⟩
    · cases Region.binds .gc a with
      | false => exact hk
      | true =>
        show (s ||| 2 ^ a.on).testBit k = true
        rw [Nat.testBit_or, hk]; rfl
    · rcases List.mem_cons.1 he with rfl | he
      · refine h1 _ ?_
        rw [hb]
        show (s ||| 2 ^ e.on).testBit e.on = true
        rw [Nat.testBit_or, Nat.testBit_two_pow]
        simp
      · exact h2 e he hb

theorem mkGs_ok : ∀ (l : List Oper) (k : Nat), all.toList.drop k = l → ∀ d ∈ mkGs l k, all[d.i]? = some d.o ∧ d.bef = gcM d.o.after.toList 0 := by
  intro l
  induction l with
  | nil => intro k _ d hd; simp [mkGs] at hd
  | cons o l ih =>
    intro k hl d hd
    have hlen : k < all.toList.length := by
      have := congrArg List.length hl
      simp at this ⊢
      omega
    rw [List.drop_eq_getElem_cons hlen] at hl
    injection hl with h1 h2
    simp only [mkGs, List.mem_cons] at hd
    rcases hd with rfl | hd
    · refine ⟨?_, rfl⟩
      rw [← h1]; simp at hlen; simp [hlen]
    · exact ih (k + 1) h2 d hd

theorem eagerG_mem : ∀ (f : Nat) (l : List DOp) (m : Nat) (d : DOp), d ∈ eagerG f l m → d ∈ l := by
  intro f
  induction f with
  | zero => intro l m d h; simp [eagerG] at h
  | succ f ih =>
    intro l m d h
    unfold eagerG at h
    have hp := passQ_mem l m
    cases hq : passQ l m with
    | mk t r m' =>
      rw [hq] at h hp
      simp only [List.mem_append] at h
      rcases h with h | h
      · exact (hp d).1 h
      · cases r with
        | nil => simp at h
        | cons a r => exact (hp d).2 (ih _ _ _ h)

def pos : List Nat → Nat → Nat
  | [], _ => 0
  | a :: l, k => if a = k then 0 else pos l k + 1

/-- An order by which each comes behind those that it needs. -/
theorem chkC_rank {n : Nat} : ∀ (c : List DOp) (m : Nat), chkC n c m = true → (∀ d ∈ c, m.testBit d.i = false) ∧
    (∀ d ∈ c, ∀ k, d.bef.testBit k = true → m.testBit k = true ∨ (k ∈ c.map (·.i) ∧ pos (c.map (·.i)) k < pos (c.map (·.i)) d.i)) ∧ ∀ i, i < n → m.testBit i = true ∨ ∃ d ∈ c, d.i = i := by
  intro c
  induction c with
  | nil =>
    intro m h
    refine ⟨(fun d h => by cases h), (fun d h => by cases h), fun i hi => .inl ?_⟩
    unfold chkC at h
    have h : m = 2 ^ n - 1 := Nat.eq_of_beq_eq_true h
    subst h
    simp [Nat.testBit_two_pow_sub_one, hi]
  | cons d c ih =>
    intro m h
    unfold chkC at h
    cases hb : bit? m d.i with
    | true => rw [hb] at h; cases h
    | false =>
      rw [hb] at h
      simp only [cond_false] at h
      cases hs : sub? d.bef m with
      | false => rw [hs] at h; cases h
      | true =>
        rw [hs] at h
        simp only [cond_true] at h
        cases hq : cond d.quiet true (allBef d.i c) with
        | false => rw [hq] at h; cases h
        | true =>
          rw [hq] at h
          simp only [cond_true] at h
          obtain ⟨h1, h2, h3⟩ := ih _ h
          have hm : ∀ k, (m.lor (Nat.pow 2 d.i)).testBit k = (m.testBit k || decide (d.i = k)) := by
            intro k
            show (m ||| 2 ^ d.i).testBit k = _
            rw [Nat.testBit_or, Nat.testBit_two_pow]
          have hmd : m.testBit d.i = false := by
            cases hq2 : m.testBit d.i with
            | false => rfl
            | true => rw [bit_iff.2 hq2] at hb; cases hb
          have hne : ∀ d' ∈ c, m.testBit d'.i = false ∧ d.i ≠ d'.i := by
            intro d' hd'
            have := h1 d' hd'
            rw [hm, Bool.or_eq_false_iff, decide_eq_false_iff_not] at this
            exact this
          refine ⟨fun d' hd' => ?_, fun d' hd' k hk => ?_, fun i hi => ?_⟩
          · rcases List.mem_cons.1 hd' with rfl | hd'
            · exact hmd
            · exact (hne d' hd').1
          · rcases List.mem_cons.1 hd' with rfl | hd'
            · exact .inl (sub_bits hs hk)
            · have hx := (hne d' hd').2
              rcases h2 d' hd' k hk with q | ⟨q1, q2⟩
              · rw [hm, Bool.or_eq_true, decide_eq_true_iff] at q
                rcases q with q | q
                · exact .inl q
                · subst q
                  refine .inr ⟨by simp, ?_⟩
                  simp only [List.map_cons, pos, if_pos, if_neg hx]
                  omega
              · refine .inr ⟨by simp only [List.map_cons, List.mem_cons]; exact .inr q1, ?_⟩
                simp only [List.map_cons, pos, if_neg hx]
                by_cases hkd : d.i = k
                · rw [if_pos hkd]; omega
                · rw [if_neg hkd]; omega
          · rcases h3 i hi with q | ⟨d', q1, q2⟩
            · rw [hm, Bool.or_eq_true, decide_eq_true_iff] at q
              rcases q with q | q
              · exact .inl q
              · exact .inr ⟨d, by simp, q⟩
            · exact .inr ⟨d', by simp [q1], q2⟩

theorem ranks (he : edgesAll all.toList 0 = true) (hg : gcOk all.toList all.size = true) (md : Region.Mode) :
    ∃ rk : Nat → Nat, ∀ (i : Nat) (o : Oper) (e : Edge), all[i]? = some o → e ∈ o.after.toList → Region.binds md e = true → e.on < all.size ∧ rk e.on < rk i := by
  have htext : ∀ (i : Nat) (o : Oper) (e : Edge), all[i]? = some o → e ∈ o.after.toList → Region.binds .text e = true → e.on < all.size ∧ e.on < i := by
    intro i o e ho hee hb
    have h1 := edgesAll_ok all.toList 0 (by simp) he i o e (by omega) ho hee hb
    have h2 := (Array.getElem?_eq_some_iff.1 ho).1
    exact ⟨by omega, h1⟩
  cases md with
  | text => exact ⟨id, htext⟩
  | any =>
    refine ⟨id, fun i o e ho hee hb => htext i o e ho hee ?_⟩
    unfold Region.binds at hb ⊢
    split at hb <;> first | rfl | cases hb
  | gc =>
    unfold gcOk at hg
    obtain ⟨h1, h2, h3⟩ := chkC_rank _ _ hg
    refine ⟨pos ((eagerG (all.size + 1) (mkGs all.toList 0) 0).map (·.i)), fun i o e ho hee hb => ?_⟩
    have hi := (Array.getElem?_eq_some_iff.1 ho).1
    have hmem : ∀ d ∈ eagerG (all.size + 1) (mkGs all.toList 0) 0, all[d.i]? = some d.o ∧ d.bef = gcM d.o.after.toList 0 := fun d hd => mkGs_ok (all := all) all.toList 0 (by simp) d (eagerG_mem _ _ _ d hd)
    rcases h3 i hi with q | ⟨d, q1, q2⟩
    · simp at q
    · obtain ⟨k1, k2⟩ := hmem d q1
      rw [q2, ho] at k1
      injection k1 with k1
      rw [← k1] at k2
      have hbit := (gcM_ok o.after.toList 0).2 e hee hb
      rw [← k2] at hbit
      rcases h2 d q1 e.on hbit with q | ⟨q3, q4⟩
      · simp at q
      · obtain ⟨d', g1, g2⟩ := List.mem_map.1 q3
        obtain ⟨k3, k4⟩ := hmem d' g1
        have := (Array.getElem?_eq_some_iff.1 k3).1
        rw [g2] at this
        rw [q2] at q4
        exact ⟨this, q4⟩

theorem rdX_ok {wr : Tr Nat} {befs : List Nat} {i bef : Nat} : ∀ {l : List Tmp}, rdX wr befs i bef l = true → ∀ x ∈ l, ∀ w, wr.get (pth x) = some w →
    w = i ∨ bef.testBit w = true ∨ (nthN befs w).testBit i = true := by
  intro l
  induction l with
  | nil => intro _ x h; cases h
  | cons a l ih =>
    intro h x hx w hw
    unfold rdX at h
    rcases List.mem_cons.1 hx with rfl | hx
    · rw [hw] at h
      simp only [] at h
      cases hi : Nat.beq w i with
      | true => exact .inl (Nat.eq_of_beq_eq_true hi)
      | false =>
        cases hb : bit? bef w with
        | true => exact .inr (.inl (bit_iff.1 hb))
        | false =>
          cases hn : bit? (nthN befs w) i with
          | true => exact .inr (.inr (bit_iff.1 hn))
          | false => rw [hi, hb, hn] at h; cases h
    · split at h
      · exact ih h x hx w hw
      · rename_i w' _
        cases hc : cond (Nat.beq w' i) true (cond (bit? bef w') true (bit? (nthN befs w') i)) with
        | false => rw [hc] at h; cases h
        | true => rw [hc] at h; exact ih h x hx w hw

theorem rdAll_ok {wr : Tr Nat} {befs : List Nat} : ∀ {ds : List DOp}, rdAll all wr befs ds = true → ∀ d ∈ ds, ∀ x ∈ readsO all d.o, ∀ w, wr.get (pth x) = some w →
    w = d.i ∨ d.bef.testBit w = true ∨ (nthN befs w).testBit d.i = true := by
  intro ds
  induction ds with
  | nil => intro _ d h; cases h
  | cons a l ih =>
    intro h d hd
    unfold rdAll at h
    cases hr : rdX wr befs a.i a.bef (readsO all a.o) with
    | false => rw [hr] at h; cases h
    | true =>
      rw [hr] at h
      rcases List.mem_cons.1 hd with rfl | hd
      · exact rdX_ok hr
      · exact ih h d hd

theorem CV.cover {B : Nat → Nat} : ∀ {c : List DOp} {A : Nat → Prop}, CV all B A c → ∀ i, i < all.size → A i ∨ ∃ d ∈ c, d.i = i := by
  intro c
  induction c with
  | nil => intro A h i hi; exact .inl (h i hi)
  | cons d c ih =>
    intro A h i hi
    obtain ⟨_, _, _, _, _, _, h7⟩ := h
    rcases ih h7 i hi with (h | h) | ⟨d', h1, h2⟩
    · exact .inl h
    · exact .inr ⟨d, by simp, h.symm⟩
    · exact .inr ⟨d', by simp [h1], h2⟩

theorem plan_ok {c : List DOp} (h : plan all = some c) : ∃ B, RO all B ∧ CV all B (fun _ => False) c := by
  unfold plan planW at h
  simp only [] at h
  split at h
  · cases h
  · rename_i wr hwr
    cases heg : cond (edgesAll all.toList 0) (gcOk all.toList all.toList.length) false with
    | false => rw [heg] at h; cases h
    | true =>
      have he : edgesAll all.toList 0 = true := by
        cases hq : edgesAll all.toList 0 with
        | true => rfl
        | false => rw [hq] at heg; cases heg
      have hgc : gcOk all.toList all.size = true := by rw [he, Array.length_toList] at heg; exact heg
      cases hr : rdAll all wr (befL all.toList 0 []).reverse (mkDs all.toList all.toList (befL all.toList 0 []).reverse 0) with
      | false => rw [heg, hr] at h; cases h
      | true =>
        rw [heg, hr] at h
        simp only [cond_true] at h
        cases hc : chkC all.toList.length (eager (all.toList.length + 1) (mkDs all.toList all.toList (befL all.toList 0 []).reverse 0) 0) 0 with
        | false => rw [hc] at h; cases h
        | true =>
          rw [hc] at h
          cases h
          have hds := mkDs_ok (all := all) (l0 := all.toList) (befs := (befL all.toList 0 []).reverse) all.toList (befL all.toList 0 []).reverse 0 (by simp) (by simp)
          have hcv := chkC_ok (all := all) (B := nthN (befL all.toList 0 []).reverse) _ 0 (fun d hd => hds d (eager_mem _ _ _ _ hd)) (by rw [Array.length_toList] at hc; exact hc)
          have hcv := CV.congr (A' := fun _ => False) (fun k => by simp) hcv
          have hw := wrT_ok (all := all) all.toList 0 .leaf wr (by simp) hwr (fun i _ _ hi => by omega)
          refine ⟨_, ⟨ranks he hgc, fun i k hi hk => befs_sound i hi k hk, fun i o x ho hx => (hw i o x ho hx).1,
            fun i j o o' x ho ho' hx hx' => ?_, fun i o x w ow ho hx how hwx => ?_⟩, hcv⟩
          · have h1 := (hw i o x ho hx).2
            have h2 := (hw j o' x ho' hx').2
            rw [h1] at h2; injection h2
          · have hlt := (Array.getElem?_eq_some_iff.1 ho).1
            rcases hcv.cover i hlt with hf | ⟨d, hd1, hd2⟩
            · exact hf.elim
            · have hdm := eager_mem _ _ _ _ hd1
              obtain ⟨k1, k2, k3⟩ := hds d hdm
              rw [hd2, ho] at k1
              injection k1 with k1
              have := rdAll_ok hr d hdm x (by rw [← k1]; exact hx) w (hw w ow x how hwx).2
              rw [k2, hd2] at this
              exact this
end
end Go.AbsE
