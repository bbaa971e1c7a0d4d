import Derived.Test.YtobhkdgcciolmaaGreatMAC
import Derived.Orders
set_option linter.unusedSimpArgs false
namespace Go.AbsE
open Go
theorem bit_iff {m i : Nat} : bit? m i = true ↔ m.testBit i = true := by
 unfold bit?
 have h : Nat.land (Nat.shiftRight m i) 1 = (m >>> i) % 2 := Nat.and_one_is_mod _
 rw [h, Nat.testBit, Nat.one_and_eq_mod_two]
 rcases Nat.mod_two_eq_zero_or_one (m >>> i) with hq | hq <;> rw [hq] <;> decide
theorem sub_bits {a b : Nat} (h : sub? a b = true) {k : Nat} (hk : a.testBit k = true) : b.testBit k = true := by
 unfold sub? at h
 have h : a &&& b = a := Nat.eq_of_beq_eq_true h
 rw [← h, Nat.testBit_and] at hk
 simp at hk
 exact hk.2
theorem nthN_eq (l : List Nat) (i : Nat) : nthN l i = (l[i]?).getD 0 := by
 induction l generalizing i with
 | nil => simp [nthN]
 | cons a l ih => cases i with
  | zero => simp [nthN]
  | succ i => simp [nthN, ih]
def Dep (all : Array Oper) (k i : Nat) : Prop := ∃ o e, all[i]? = some o ∧ e ∈ o.after.toList ∧ Region.binds .any e = true ∧ e.on = k
inductive Bef (all : Array Oper) : Nat → Nat → Prop
 | edge {k i} (h : Dep all k i) : Bef all k i
 | step {k j i} (h : Dep all j i) (h2 : Bef all k j) : Bef all k i
theorem Bef.closed {all : Array Oper} {S : Nat → Prop} (hS : ∀ i j, S i → Dep all j i → S j) : ∀ {k i}, Bef all k i → (∀ j, Dep all j i → S j) → S k := by
 intro k i h
 induction h with
 | edge h => intro hd; exact hd _ h
 | step h _ ih => intro hd; exact ih (fun j hj => hS _ _ (hd _ h) hj)
structure RO (all : Array Oper) (B : Nat → Nat) : Prop where
 edge : ∀ md, ∃ rk : Nat → Nat, ∀ (i : Nat) (o : Oper) (e : Edge), all[i]? = some o → e ∈ o.after.toList → Region.binds md e = true → e.on < all.size ∧ rk e.on < rk i
 dst : ∀ (i : Nat) (o : Oper) (x : Nat), all[i]? = some o → o.dst = some x → x < 1000000
 uniq : ∀ (i j : Nat) (o o' : Oper) (x : Nat), all[i]? = some o → all[j]? = some o' → o.dst = some x → o'.dst = some x → i = j
 rd : ∀ (i : Nat) (o : Oper) (x w : Nat) (ow : Oper), all[i]? = some o → x ∈ readsO all o → all[w]? = some ow → ow.dst = some x → w = i ∨ (B i).testBit w = true ∨ (B w).testBit i = true
def CV (all : Array Oper) (B : Nat → Nat) : (Nat → Prop) → List DOp → Prop
 | A, [] => ∀ i, i < all.size → A i
 | A, d :: c => all[d.i]? = some d.o ∧ d.bef = B d.i ∧ (d.quiet = true → d.lit = true ∨ quietOp d.o.op = true) ∧ ¬ A d.i ∧ (∀ k, (B d.i).testBit k = true → A k) ∧
   (d.quiet = false → ∀ d' ∈ c, (B d'.i).testBit d.i = true) ∧ CV all B (fun k => A k ∨ k = d.i) c
section
variable {all : Array Oper}
theorem befM_sound {i k : Nat} {o : Oper} (ho : all[i]? = some o) {acc : List Nat} (hacc : ∀ j, j < k → ∀ m, (nthN acc (k - 1 - j)).testBit m = true → Bef all m j) :
  ∀ (l : List Edge) (s : Nat), (∀ e ∈ l, e ∈ o.after.toList) → (∀ m, s.testBit m = true → Bef all m i) → ∀ m, (befM k acc l s).testBit m = true → Bef all m i := by
 intro l
 induction l with
 | nil => intro s _ hs m hm; exact hs m hm
 | cons e l ih =>
  intro s he hs
  unfold befM
  refine ih _ (fun e' h' => he e' (by simp [h'])) ?_
  cases hb : Region.binds .any e with
  | false => exact hs
  | true =>
   cases hk : Nat.blt e.on k with
   | false => exact hs
   | true =>
    intro m hm
    have hd : Dep all e.on i := ⟨o, e, ho, he e (by simp), hb, rfl⟩
    have hlt : e.on < k := blt_true hk
    simp only [cond_true] at hm
    have hm : ((s ||| 2 ^ e.on) ||| nthN acc (k - 1 - e.on)).testBit m = true := hm
    rw [Nat.testBit_or, Nat.testBit_or] at hm
    simp only [Bool.or_eq_true] at hm
    rcases hm with (hm | hm) | hm
    ·exact hs m hm
    ·rw [Nat.testBit_two_pow] at hm
     simp at hm
     subst hm
     exact .edge hd
    ·exact .step hd (hacc _ hlt m hm)
theorem befL_sound : ∀ (r : List Oper) (k : Nat) (acc : List Nat), all.toList.drop k = r → acc.length = k → (∀ j, j < k → ∀ m, (nthN acc (k - 1 - j)).testBit m = true → Bef all m j) →
  (befL r k acc).length = k + r.length ∧ ∀ j, j < k + r.length → ∀ m, (nthN (befL r k acc) (k + r.length - 1 - j)).testBit m = true → Bef all m j := by
 intro r
 induction r with
 | nil => intro k acc _ hl hacc; exact ⟨by simpa [befL] using hl, by simpa [befL] using hacc⟩
 | cons o r ih =>
  intro k acc hr hl hacc
  have hlen : k < all.toList.length := by
   have := congrArg List.length hr
   simp at this ⊢
   omega
  have hd := List.drop_eq_getElem_cons hlen
  rw [hd] at hr
  injection hr with h1 h2
  have ho : all[k]? = some o := by rw [← h1]; simp at hlen; simp [hlen]
  have hnew := befM_sound ho hacc o.after.toList 0 (fun _ h => h) (fun m hm => by simp at hm)
  have := ih (k + 1) (befM k acc o.after.toList 0 :: acc) h2 (by simp [hl]) ?_
  ·unfold befL
   have e1 : k + (o :: r).length = k + 1 + r.length := by simp; omega
   rw [e1]
   exact this
  ·intro j hj m hm
   by_cases hjk : j = k
   ·subst hjk
    have e1 : j + 1 - 1 - j = 0 := by omega
    rw [e1] at hm
    exact hnew m hm
   ·have e1 : k + 1 - 1 - j = (k - 1 - j) + 1 := by omega
    rw [e1] at hm
    exact hacc j (by omega) m hm
theorem befs_sound : ∀ j, j < all.size → ∀ m, (nthN (befL all.toList 0 []).reverse j).testBit m = true → Bef all m j := by
 have ⟨h1, h2⟩ := befL_sound (all := all) all.toList 0 [] (by simp) rfl (fun j hj => by omega)
 intro j hj m hm
 simp only [Nat.zero_add, Array.length_toList] at h1 h2
 refine h2 j hj m ?_
 rw [nthN_eq] at hm ⊢
 rw [List.getElem?_reverse (by omega), h1] at hm
 exact hm
def DK (all : Array Oper) (B : Nat → Nat) (d : DOp) : Prop := all[d.i]? = some d.o ∧ d.bef = B d.i ∧ (d.quiet = true → d.lit = true ∨ quietOp d.o.op = true)
theorem mkDs_ok {l0 : List Oper} {befs : List Nat} : ∀ (l : List Oper) (bs : List Nat) (k : Nat), all.toList.drop k = l → befs.drop k = bs → ∀ d ∈ mkDs l0 l bs k, DK all (nthN befs) d := by
 intro l
 induction l with
 | nil => intro bs k _ _ d hd; simp [mkDs] at hd
 | cons o l ih =>
  intro bs k hl hb d hd
  cases bs with
  | nil => simp [mkDs] at hd
  | cons b bs =>
   have hlen : k < all.toList.length := by
    have := congrArg List.length hl
    simp at this ⊢
    omega
   have hlen2 : k < befs.length := by
    have := congrArg List.length hb
    simp at this ⊢
    omega
   rw [List.drop_eq_getElem_cons hlen] at hl
   rw [List.drop_eq_getElem_cons hlen2] at hb
   injection hl with h1 h2
   injection hb with h3 h4
   simp only [mkDs, List.mem_cons] at hd
   rcases hd with rfl | hd
   ·refine ⟨?_, ?_, fun hq => ?_⟩
    ·rw [← h1]; simp at hlen; simp [hlen]
    ·rw [nthN_eq]; simp [hlen2, h3]
    ·dsimp only at hq ⊢
     cases hl : isLit l0 o with
     | true => exact .inl rfl
     | false => rw [hl] at hq; exact .inr hq
   ·exact ih bs (k + 1) h2 h4 d hd
theorem passQ_mem : ∀ (l : List DOp) (m : Nat) (d : DOp), (d ∈ (passQ l m).taken → d ∈ l) ∧ (d ∈ (passQ l m).rest → d ∈ l) := by
 intro l
 induction l with
 | nil => intro m d; simp [passQ]
 | cons a l ih =>
  intro m d
  unfold passQ
  cases (cond a.quiet (sub? a.bef m) false) with
  | true =>
   have := ih (Nat.lor m (Nat.pow 2 a.i)) d
   simp only [cond_true, List.mem_cons]
   exact ⟨fun h => h.imp id this.1, fun h => .inr (this.2 h)⟩
  | false =>
   have := ih m d
   simp only [cond_false, List.mem_cons]
   exact ⟨fun h => .inr (this.1 h), fun h => h.imp id this.2⟩
theorem eager_mem : ∀ (f : Nat) (l : List DOp) (m : Nat) (d : DOp), d ∈ eager f l m → d ∈ l := by
 intro f
 induction f with
 | zero => intro l m d h; simp [eager] at h
 | succ f ih =>
  intro l m d h
  unfold eager at h
  have hp := passQ_mem l m
  cases hq : passQ l m with
  | mk t r m' =>
   rw [hq] at h hp
   simp only [List.mem_append] at h
   rcases h with h | h
   ·exact (hp d).1 h
   ·cases r with
    | nil => simp at h
    | cons a r =>
     simp only [List.mem_cons] at h
     rcases h with rfl | h
     ·exact (hp d).2 (by simp)
     ·exact (hp d).2 (by simp [ih _ _ _ h])
theorem allBef_mem {i : Nat} : ∀ {l : List DOp}, allBef i l = true → ∀ d ∈ l, d.bef.testBit i = true := by
 intro l
 induction l with
 | nil => intro _ d h; cases h
 | cons a l ih =>
  intro h d hd
  unfold allBef at h
  cases hb : bit? a.bef i with
  | false => rw [hb] at h; cases h
  | true =>
   rw [hb] at h
   rcases List.mem_cons.1 hd with rfl | hd
   ·exact bit_iff.1 hb
   ·exact ih h d hd
theorem CV.congr {B : Nat → Nat} : ∀ {c : List DOp} {A A' : Nat → Prop}, (∀ k, A k ↔ A' k) → CV all B A c → CV all B A' c := by
 intro c
 induction c with
 | nil => intro A A' h k i hi; exact (h i).1 (k i hi)
 | cons d c ih =>
  intro A A' h k
  obtain ⟨h1, h2, h3, h4, h5, h6, h7⟩ := k
  exact ⟨h1, h2, h3, fun q => h4 ((h _).2 q), fun k hk => (h _).1 (h5 k hk), h6, ih (fun k => by rw [h k]) h7⟩
theorem chkC_ok {B : Nat → Nat} : ∀ (c : List DOp) (m : Nat), (∀ d ∈ c, DK all B d) → chkC all.size c m = true → CV all B (fun k => m.testBit k = true) c := by
 intro c
 induction c with
 | nil =>
  intro m _ h i hi
  unfold chkC at h
  have h : m = 2 ^ all.size - 1 := Nat.eq_of_beq_eq_true h
  subst h
  simp [Nat.testBit_two_pow_sub_one, hi]
 | cons d c ih =>
  intro m hd h
  unfold chkC at h
  obtain ⟨k1, k2, k3⟩ := hd d (by simp)
  cases hb : bit? m d.i with
  | true => rw [hb] at h; cases h
  | false =>
   rw [hb] at h
   simp only [cond_false] at h
   cases hs : sub? d.bef m with
   | false => rw [hs] at h; cases h
   | true =>
    rw [hs] at h
    simp only [cond_true] at h
    cases hq : cond d.quiet true (allBef d.i c) with
    | false => rw [hq] at h; cases h
    | true =>
     rw [hq] at h
     simp only [cond_true] at h
     have h7 := ih _ (fun d' h' => hd d' (by simp [h'])) h
     refine ⟨k1, k2, k3, ?_, ?_, ?_, ?_⟩
     ·intro q; rw [bit_iff.2 q] at hb; cases hb
     ·intro k hk; rw [← k2] at hk; exact sub_bits hs hk
     ·intro hqf d' hd'
      rw [hqf] at hq
      have := allBef_mem hq d' hd'
      rw [(hd d' (by simp [hd'])).2.1] at this
      exact this
     ·refine CV.congr (fun k => ?_) h7
      have e1 : (m.lor (Nat.pow 2 d.i)) = m ||| 2 ^ d.i := rfl
      rw [e1, Nat.testBit_or, Nat.testBit_two_pow]
      rw [Bool.or_eq_true, decide_eq_true_iff]
      exact ⟨fun h => h.imp id Eq.symm, fun h => h.imp id Eq.symm⟩
theorem wrT_ok : ∀ (r : List Oper) (k : Nat) (t wr : Tr Nat), all.toList.drop k = r → wrT r k t = some wr →
  (∀ i o x, i < k → all[i]? = some o → o.dst = some x → x < 1000000 ∧ t.get (pth x) = some i) →
  ∀ i o x, all[i]? = some o → o.dst = some x → x < 1000000 ∧ wr.get (pth x) = some i := by
 intro r
 induction r with
 | nil =>
  intro k t wr hr h inv i o x ho hx
  cases h
  have hlen : all.size ≤ k := by
   have := congrArg List.length hr
   simp at this
   omega
  have := (Array.getElem?_eq_some_iff.1 ho).1
  exact inv i o x (by omega) ho hx
 | cons o r ih =>
  intro k t wr hr h inv
  have hlen : k < all.toList.length := by
   have := congrArg List.length hr
   simp at this ⊢
   omega
  rw [List.drop_eq_getElem_cons hlen] at hr
  injection hr with h1 h2
  have ho : all[k]? = some o := by rw [← h1]; simp at hlen; simp [hlen]
  unfold wrT at h
  cases hd : o.dst with
  | none =>
   rw [hd] at h
   refine ih (k + 1) t wr h2 h (fun i o' x hi ho' hx => ?_)
   by_cases hik : i = k
   ·subst hik; rw [ho] at ho'; cases ho'; rw [hd] at hx; cases hx
   ·exact inv i o' x (by omega) ho' hx
  | some d =>
   rw [hd] at h
   simp only [] at h
   cases hb : Nat.blt d 1000000 with
   | false => rw [hb] at h; cases h
   | true =>
    rw [hb] at h
    simp only [cond_true] at h
    have hdl : d < 1000000 := blt_true hb
    cases hg : t.get (pth d) with
    | some w => rw [hg] at h; cases h
    | none =>
     rw [hg] at h
     refine ih (k + 1) _ wr h2 h (fun i o' x hi ho' hx => ?_)
     rw [Tr.get_put _ _ (pth_ok (Nat.lt_of_lt_of_le hdl (by decide)))]
     by_cases hik : i = k
     ·subst hik; rw [ho] at ho'; cases ho'; rw [hd] at hx; cases hx; exact ⟨hdl, by simp⟩
     ·obtain ⟨q1, q2⟩ := inv i o' x (by omega) ho' hx
      refine ⟨q1, ?_⟩
      by_cases hp : pth d = pth x
      ·rw [hp, q2] at hg; cases hg
      ·rw [if_neg hp]; exact q2
theorem edgesOk_ok {k : Nat} : ∀ {l : List Edge}, edgesOk k l = true → ∀ e ∈ l, Region.binds .text e = true → e.on < k := by
 intro l
 induction l with
 | nil => intro _ e h; cases h
 | cons a l ih =>
  intro h e he hbe
  unfold edgesOk at h
  cases hb : Region.binds .text a with
  | false =>
   rw [hb] at h
   rcases List.mem_cons.1 he with rfl | he
   ·rw [hb] at hbe; cases hbe
   ·exact ih h e he hbe
  | true =>
   cases hk : Nat.blt a.on k with
   | false => rw [hb, hk] at h; cases h
   | true =>
    rw [hb, hk] at h
    rcases List.mem_cons.1 he with rfl | he
    ·exact blt_true hk
    ·exact ih h e he hbe
theorem edgesAll_ok : ∀ (r : List Oper) (k : Nat), all.toList.drop k = r → edgesAll r k = true → ∀ i o e, k ≤ i → all[i]? = some o → e ∈ o.after.toList → Region.binds .text e = true → e.on < i := by
 intro r
 induction r with
 | nil =>
  intro k hr _ i o e hi ho
  have hlen : all.size ≤ k := by
   have := congrArg List.length hr
   simp at this
   omega
  have := (Array.getElem?_eq_some_iff.1 ho).1
  omega
 | cons o r ih =>
  intro k hr h i o' e hi ho' he hbe
  have hlen : k < all.toList.length := by
   have := congrArg List.length hr
   simp at this ⊢
   omega
  rw [List.drop_eq_getElem_cons hlen] at hr
  injection hr with h1 h2
  have ho : all[k]? = some o := by rw [← h1]; simp at hlen; simp [hlen]
  unfold edgesAll at h
  cases hq : edgesOk k o.after.toList with
  | false => rw [hq] at h; cases h
  | true =>
   rw [hq] at h
   by_cases hik : i = k
   ·subst hik; rw [ho] at ho'; cases ho'; exact edgesOk_ok hq e he hbe
   ·exact ih (k + 1) h2 h i o' e (by omega) ho' he hbe
theorem gcM_ok : ∀ (l : List Edge) (s : Nat), (∀ k, s.testBit k = true → (gcM l s).testBit k = true) ∧ ∀ e ∈ l, Region.binds .gc e = true → (gcM l s).testBit e.on = true := by
 intro l
 induction l with
 | nil => intro s; exact ⟨fun _ h => h, fun e h => by cases h⟩
 | cons a l ih =>
  intro s
  unfold gcM
  obtain ⟨h1, h2⟩ := ih (cond (Region.binds .gc a) (Nat.lor s (Nat.pow 2 a.on)) s)
  refine ⟨fun k hk => h1 k ?_, fun e he hb => ?_⟩
  ·cases Region.binds .gc a with
   | false => exact hk
   | true =>
    show (s ||| 2 ^ a.on).testBit k = true
    rw [Nat.testBit_or, hk]; rfl
  ·rcases List.mem_cons.1 he with rfl | he
   ·refine h1 _ ?_
    rw [hb]
    show (s ||| 2 ^ e.on).testBit e.on = true
    rw [Nat.testBit_or, Nat.testBit_two_pow]
    simp
   ·exact h2 e he hb
theorem mkGs_ok : ∀ (l : List Oper) (k : Nat), all.toList.drop k = l → ∀ d ∈ mkGs l k, all[d.i]? = some d.o ∧ d.bef = gcM d.o.after.toList 0 := by
 intro l
 induction l with
 | nil => intro k _ d hd; simp [mkGs] at hd
 | cons o l ih =>
  intro k hl d hd
  have hlen : k < all.toList.length := by
   have := congrArg List.length hl
   simp at this ⊢
   omega
  rw [List.drop_eq_getElem_cons hlen] at hl
  injection hl with h1 h2
  simp only [mkGs, List.mem_cons] at hd
  rcases hd with rfl | hd
  ·refine ⟨?_, rfl⟩
   rw [← h1]; simp at hlen; simp [hlen]
  ·exact ih (k + 1) h2 d hd
theorem eagerG_mem : ∀ (f : Nat) (l : List DOp) (m : Nat) (d : DOp), d ∈ eagerG f l m → d ∈ l := by
 intro f
 induction f with
 | zero => intro l m d h; simp [eagerG] at h
 | succ f ih =>
  intro l m d h
  unfold eagerG at h
  have hp := passQ_mem l m
  cases hq : passQ l m with
  | mk t r m' =>
   rw [hq] at h hp
   simp only [List.mem_append] at h
   rcases h with h | h
   ·exact (hp d).1 h
   ·cases r with
    | nil => simp at h
    | cons a r => exact (hp d).2 (ih _ _ _ h)
def pos : List Nat → Nat → Nat
 | [], _ => 0
 | a :: l, k => if a = k then 0 else pos l k + 1
theorem chkC_rank {n : Nat} : ∀ (c : List DOp) (m : Nat), chkC n c m = true → (∀ d ∈ c, m.testBit d.i = false) ∧
  (∀ d ∈ c, ∀ k, d.bef.testBit k = true → m.testBit k = true ∨ (k ∈ c.map (·.i) ∧ pos (c.map (·.i)) k < pos (c.map (·.i)) d.i)) ∧ ∀ i, i < n → m.testBit i = true ∨ ∃ d ∈ c, d.i = i := by
 intro c
 induction c with
 | nil =>
  intro m h
  refine ⟨(fun d h => by cases h), (fun d h => by cases h), fun i hi => .inl ?_⟩
  unfold chkC at h
  have h : m = 2 ^ n - 1 := Nat.eq_of_beq_eq_true h
  subst h
  simp [Nat.testBit_two_pow_sub_one, hi]
 | cons d c ih =>
  intro m h
  unfold chkC at h
  cases hb : bit? m d.i with
  | true => rw [hb] at h; cases h
  | false =>
   rw [hb] at h
   simp only [cond_false] at h
   cases hs : sub? d.bef m with
   | false => rw [hs] at h; cases h
   | true =>
    rw [hs] at h
    simp only [cond_true] at h
    cases hq : cond d.quiet true (allBef d.i c) with
    | false => rw [hq] at h; cases h
    | true =>
     rw [hq] at h
     simp only [cond_true] at h
     obtain ⟨h1, h2, h3⟩ := ih _ h
     have hm : ∀ k, (m.lor (Nat.pow 2 d.i)).testBit k = (m.testBit k || decide (d.i = k)) := by
      intro k
      show (m ||| 2 ^ d.i).testBit k = _
      rw [Nat.testBit_or, Nat.testBit_two_pow]
     have hmd : m.testBit d.i = false := by
      cases hq2 : m.testBit d.i with
      | false => rfl
      | true => rw [bit_iff.2 hq2] at hb; cases hb
     have hne : ∀ d' ∈ c, m.testBit d'.i = false ∧ d.i ≠ d'.i := by
      intro d' hd'
      have := h1 d' hd'
      rw [hm, Bool.or_eq_false_iff, decide_eq_false_iff_not] at this
      exact this
     refine ⟨fun d' hd' => ?_, fun d' hd' k hk => ?_, fun i hi => ?_⟩
     ·rcases List.mem_cons.1 hd' with rfl | hd'
      ·exact hmd
      ·exact (hne d' hd').1
     ·rcases List.mem_cons.1 hd' with rfl | hd'
      ·exact .inl (sub_bits hs hk)
      ·have hx := (hne d' hd').2
       rcases h2 d' hd' k hk with q | ⟨q1, q2⟩
       ·rw [hm, Bool.or_eq_true, decide_eq_true_iff] at q
        rcases q with q | q
        ·exact .inl q
        ·subst q
         refine .inr ⟨by simp, ?_⟩
         simp only [List.map_cons, pos, if_pos, if_neg hx]
         omega
       ·refine .inr ⟨by simp only [List.map_cons, List.mem_cons]; exact .inr q1, ?_⟩
        simp only [List.map_cons, pos, if_neg hx]
        by_cases hkd : d.i = k
        ·rw [if_pos hkd]; omega
        ·rw [if_neg hkd]; omega
     ·rcases h3 i hi with q | ⟨d', q1, q2⟩
      ·rw [hm, Bool.or_eq_true, decide_eq_true_iff] at q
       rcases q with q | q
       ·exact .inl q
       ·exact .inr ⟨d, by simp, q⟩
      ·exact .inr ⟨d', by simp [q1], q2⟩
theorem ranks (he : edgesAll all.toList 0 = true) (hg : gcOk all.toList all.size = true) (md : Region.Mode) :
  ∃ rk : Nat → Nat, ∀ (i : Nat) (o : Oper) (e : Edge), all[i]? = some o → e ∈ o.after.toList → Region.binds md e = true → e.on < all.size ∧ rk e.on < rk i := by
 have htext : ∀ (i : Nat) (o : Oper) (e : Edge), all[i]? = some o → e ∈ o.after.toList → Region.binds .text e = true → e.on < all.size ∧ e.on < i := by
  intro i o e ho hee hb
  have h1 := edgesAll_ok all.toList 0 (by simp) he i o e (by omega) ho hee hb
  have h2 := (Array.getElem?_eq_some_iff.1 ho).1
  exact ⟨by omega, h1⟩
 cases md with
 | text => exact ⟨id, htext⟩
 | any =>
  refine ⟨id, fun i o e ho hee hb => htext i o e ho hee ?_⟩
  unfold Region.binds at hb ⊢
  split at hb <;> first | rfl | cases hb
 | gc =>
  unfold gcOk at hg
  obtain ⟨h1, h2, h3⟩ := chkC_rank _ _ hg
  refine ⟨pos ((eagerG (all.size + 1) (mkGs all.toList 0) 0).map (·.i)), fun i o e ho hee hb => ?_⟩
  have hi := (Array.getElem?_eq_some_iff.1 ho).1
  have hmem : ∀ d ∈ eagerG (all.size + 1) (mkGs all.toList 0) 0, all[d.i]? = some d.o ∧ d.bef = gcM d.o.after.toList 0 := fun d hd => mkGs_ok (all := all) all.toList 0 (by simp) d (eagerG_mem _ _ _ d hd)
  rcases h3 i hi with q | ⟨d, q1, q2⟩
  ·simp at q
  ·obtain ⟨k1, k2⟩ := hmem d q1
   rw [q2, ho] at k1
   injection k1 with k1
   rw [← k1] at k2
   have hbit := (gcM_ok o.after.toList 0).2 e hee hb
   rw [← k2] at hbit
   rcases h2 d q1 e.on hbit with q | ⟨q3, q4⟩
   ·simp at q
   ·obtain ⟨d', g1, g2⟩ := List.mem_map.1 q3
    obtain ⟨k3, k4⟩ := hmem d' g1
    have := (Array.getElem?_eq_some_iff.1 k3).1
    rw [g2] at this
    rw [q2] at q4
    exact ⟨this, q4⟩
theorem rdX_ok {wr : Tr Nat} {befs : List Nat} {i bef : Nat} : ∀ {l : List Tmp}, rdX wr befs i bef l = true → ∀ x ∈ l, ∀ w, wr.get (pth x) = some w →
  w = i ∨ bef.testBit w = true ∨ (nthN befs w).testBit i = true := by
 intro l
 induction l with
 | nil => intro _ x h; cases h
 | cons a l ih =>
  intro h x hx w hw
  unfold rdX at h
  rcases List.mem_cons.1 hx with rfl | hx
  ·rw [hw] at h
   simp only [] at h
   cases hi : Nat.beq w i with
   | true => exact .inl (Nat.eq_of_beq_eq_true hi)
   | false =>
    cases hb : bit? bef w with
    | true => exact .inr (.inl (bit_iff.1 hb))
    | false =>
     cases hn : bit? (nthN befs w) i with
     | true => exact .inr (.inr (bit_iff.1 hn))
     | false => rw [hi, hb, hn] at h; cases h
  ·split at h
   ·exact ih h x hx w hw
   ·rename_i w' _
    cases hc : cond (Nat.beq w' i) true (cond (bit? bef w') true (bit? (nthN befs w') i)) with
    | false => rw [hc] at h; cases h
    | true => rw [hc] at h; exact ih h x hx w hw
theorem rdAll_ok {wr : Tr Nat} {befs : List Nat} : ∀ {ds : List DOp}, rdAll all wr befs ds = true → ∀ d ∈ ds, ∀ x ∈ readsO all d.o, ∀ w, wr.get (pth x) = some w →
  w = d.i ∨ d.bef.testBit w = true ∨ (nthN befs w).testBit d.i = true := by
 intro ds
 induction ds with
 | nil => intro _ d h; cases h
 | cons a l ih =>
  intro h d hd
  unfold rdAll at h
  cases hr : rdX wr befs a.i a.bef (readsO all a.o) with
  | false => rw [hr] at h; cases h
  | true =>
   rw [hr] at h
   rcases List.mem_cons.1 hd with rfl | hd
   ·exact rdX_ok hr
   ·exact ih h d hd
theorem CV.cover {B : Nat → Nat} : ∀ {c : List DOp} {A : Nat → Prop}, CV all B A c → ∀ i, i < all.size → A i ∨ ∃ d ∈ c, d.i = i := by
 intro c
 induction c with
 | nil => intro A h i hi; exact .inl (h i hi)
 | cons d c ih =>
  intro A h i hi
  obtain ⟨_, _, _, _, _, _, h7⟩ := h
  rcases ih h7 i hi with (h | h) | ⟨d', h1, h2⟩
  ·exact .inl h
  ·exact .inr ⟨d, by simp, h.symm⟩
  ·exact .inr ⟨d', by simp [h1], h2⟩
theorem plan_ok {c : List DOp} (h : plan all = some c) : ∃ B, RO all B ∧ (∀ i k, i < all.size → (B i).testBit k = true → Bef all k i) ∧ CV all B (fun _ => False) c := by
 unfold plan planW at h
 simp only [] at h
 split at h
 ·cases h
 ·rename_i wr hwr
  cases heg : cond (edgesAll all.toList 0) (gcOk all.toList all.toList.length) false with
  | false => rw [heg] at h; cases h
  | true =>
   have he : edgesAll all.toList 0 = true := by
    cases hq : edgesAll all.toList 0 with
    | true => rfl
    | false => rw [hq] at heg; cases heg
   have hgc : gcOk all.toList all.size = true := by rw [he, Array.length_toList] at heg; exact heg
   cases hr : rdAll all wr (befL all.toList 0 []).reverse (mkDs all.toList all.toList (befL all.toList 0 []).reverse 0) with
   | false => rw [heg, hr] at h; cases h
   | true =>
    rw [heg, hr] at h
    simp only [cond_true] at h
    cases hc : chkC all.toList.length (eager (all.toList.length + 1) (mkDs all.toList all.toList (befL all.toList 0 []).reverse 0) 0) 0 with
    | false => rw [hc] at h; cases h
    | true =>
     rw [hc] at h
     cases h
     have hds := mkDs_ok (all := all) (l0 := all.toList) (befs := (befL all.toList 0 []).reverse) all.toList (befL all.toList 0 []).reverse 0 (by simp) (by simp)
     have hcv := chkC_ok (all := all) (B := nthN (befL all.toList 0 []).reverse) _ 0 (fun d hd => hds d (eager_mem _ _ _ _ hd)) (by rw [Array.length_toList] at hc; exact hc)
     have hcv := CV.congr (A' := fun _ => False) (fun k => by simp) hcv
     have hw := wrT_ok (all := all) all.toList 0 .leaf wr (by simp) hwr (fun i _ _ hi => by omega)
     refine ⟨_, ⟨ranks he hgc, fun i o x ho hx => (hw i o x ho hx).1,
      fun i j o o' x ho ho' hx hx' => ?_, fun i o x w ow ho hx how hwx => ?_⟩, fun i k hi hk => befs_sound i hi k hk, hcv⟩
     ·have h1 := (hw i o x ho hx).2
      have h2 := (hw j o' x ho' hx').2
      rw [h1] at h2; injection h2
     ·have hlt := (Array.getElem?_eq_some_iff.1 ho).1
      rcases hcv.cover i hlt with hf | ⟨d, hd1, hd2⟩
      ·exact hf.elim
      ·have hdm := eager_mem _ _ _ _ hd1
       obtain ⟨k1, k2, k3⟩ := hds d hdm
       rw [hd2, ho] at k1
       injection k1 with k1
       have := rdAll_ok hr d hdm x (by rw [← k1]; exact hx) w (hw w ow x how hwx).2
       rw [k2, hd2] at this
       exact this
end
end Go.AbsE

set_option linter.unusedSimpArgs false
namespace Go.AbsE
open Go
section
variable {n : Nat}
theorem wanted_rel {e : Env} {t : Tr AVal} {T : Array Value} (hT : TRel e n t T) {all : Array Oper} {o : Oper} {w : Bool} (k : wantedA all t o = some w) :
  Region.wanted o (yielded all T) = w := by
 unfold wantedA at k
 unfold Region.wanted
 split at k
 ·rename_i hg; cases k; rw [hg]
 ·rename_i j want hg
  rw [hg]
  simp only []
  split at k
  ·rename_i oj hj
   split at k
   ·rename_i d hd
    unfold yielded
    rw [hj]
    simp only [Option.bind_some, hd]
    split at k
    ·rename_i bb hbb
     obtain ⟨V, h1, h2⟩ := hT.2.2 d _ hbb
     cases h2
     rw [h1]
     cases k
     cases bb <;> cases want <;> rfl
    ·rename_i v hne hv
     obtain ⟨V, h1, h2⟩ := hT.2.2 d _ hv
     cases k
     rw [h1]
     cases h2 <;> first | rfl | exact absurd rfl (hne _)
    ·cases k
   ·cases k
  ·cases k
theorem prepD_rel {e : Env} {t t' : Tr AVal} {T : Array Value} (hT : TRel e n t T) {o : Oper} {v : AVal} {V : Value} (hv : VR e v V) (k : (prepD n o).run t v = some t') :
  TRel e n t' (match o.dst with | some d => T.setIfInBounds d V | none => T) := by
 unfold prepD at k
 cases hd : o.dst with
 | none => rw [hd] at k; cases k; exact hT
 | some i =>
  rw [hd] at k
  simp only [] at k
  cases hb : Nat.blt i n with
  | false => rw [hb] at k; cases k
  | true => rw [hb] at k; cases k; rw [Tr.mkPut_eq]; exact hT.put (blt_true hb) hv
end
def VS (all : Array Oper) : (Nat → Prop) → List Nat → Prop
 | D, [] => ∀ i, i < all.size → D i
 | D, i :: s => i < all.size ∧ ¬ D i ∧ (∀ j, Dep all j i → D j) ∧ VS all (fun k => D k ∨ k = i) s
theorem countP_less {p p' : Nat → Bool} {i : Nat} (hi : p i = true) (hi' : p' i = false) (hle : ∀ j, p' j = true → p j = true) : ∀ {l : List Nat}, i ∈ l → l.countP p' + 1 ≤ l.countP p := by
 have hle2 : ∀ l : List Nat, l.countP p' ≤ l.countP p := fun l => List.countP_mono_left (fun j _ h => hle j h)
 intro l
 induction l with
 | nil => intro h; cases h
 | cons a l ih =>
  intro h
  by_cases ha : a = i
  ·subst ha
   rw [List.countP_cons, List.countP_cons, hi, hi']
   have := hle2 l
   simp
   omega
  ·have h2 : i ∈ l := by
    rcases List.mem_cons.1 h with h | h
    ·exact absurd h.symm ha
    ·exact h
   have := ih h2
   have h3 := hle a
   rw [List.countP_cons, List.countP_cons]
   cases hpa : p' a with
   | true => rw [h3 hpa]; simp; omega
   | false => simp; omega
theorem least_of {S : Nat → Prop} (rk : Nat → Nat) : ∀ (r i : Nat), rk i = r → S i → ∃ k, S k ∧ ∀ j, rk j < rk k → ¬ S j := by
 intro r
 induction r using Nat.strongRecOn with
 | _ r ih =>
  intro i hr hi
  by_cases h : ∃ j, rk j < rk i ∧ S j
  ·obtain ⟨j, h1, h2⟩ := h
   exact ih (rk j) (by omega) j rfl h2
  ·exact ⟨i, hi, fun j hj hS => h ⟨j, hj, hS⟩⟩
theorem binds_any {md : Region.Mode} {e : Edge} (h : Region.binds .any e = true) : Region.binds md e = true := by
 unfold Region.binds at h ⊢
 split at h <;> first | rfl | cases h
theorem linearise_VS {all : Array Oper} {B : Nat → Nat} (ro : RO all B) (md : Region.Mode) : ∀ (fuel t : Nat) (listed : Array Bool) (D : Nat → Prop), listed.size = all.size → (∀ k, k < all.size → (listed.getD k true = true ↔ D k)) →
  (List.range all.size).countP (fun i => !listed.getD i true) ≤ fuel → VS all D (Region.linearise.go md all fuel t listed []) := by
 obtain ⟨rk, hrk⟩ := ro.edge md
 intro fuel
 induction fuel with
 | zero =>
  intro t listed D hs hD hc
  show ∀ i, i < all.size → D i
  intro i hi
  apply Classical.byContradiction
  intro hn
  have h1 : (List.range all.size).countP (fun i => !listed.getD i true) = 0 := by omega
  rw [List.countP_eq_zero] at h1
  have := h1 i (by simpa using hi)
  simp only [Bool.not_eq_true', Bool.not_eq_false] at this
  exact hn ((hD i hi).1 this)
 | succ fuel ih =>
  intro t listed D hs hD hc
  simp only [Region.linearise.go]
  generalize hrs : (List.filter (fun i => !listed.getD i true && ((all[i]?).map (·.after.all fun e => !Region.binds md e || listed.getD e.on false)).getD false) (List.range all.size)) = rs
  have hmem : ∀ i, i ∈ rs ↔ i < all.size ∧ ¬ D i ∧ ∀ o e, all[i]? = some o → e ∈ o.after.toList → Region.binds md e = true → D e.on := by
   intro i
   rw [← hrs, List.mem_filter]
   simp only [List.mem_range, Bool.and_eq_true, Bool.not_eq_true']
   constructor
   ·rintro ⟨h1, h2, h3⟩
    refine ⟨h1, (fun hq => (by rw [(hD i h1).2 hq] at h2; cases h2)), ?_⟩
    intro o e ho he hb
    rw [ho] at h3
    simp only [Option.map_some, Option.getD_some, Array.all_eq_true_iff_forall_mem, Bool.or_eq_true, Bool.not_eq_true'] at h3
    rcases h3 e (by simpa using he) with h4 | h4
    ·rw [hb] at h4; cases h4
    ·have hlt := (hrk i o e ho he hb).1
     refine (hD e.on (by omega)).1 ?_
     simp only [Array.getD] at h4 ⊢
     split at h4
     ·rename_i hh; rw [dif_pos hh]; exact h4
     ·cases h4
   ·rintro ⟨h1, h2, h3⟩
    refine ⟨h1, ?_, ?_⟩
    ·cases hq : listed.getD i true with
     | false => rfl
     | true => exact absurd ((hD i h1).1 hq) h2
    ·have ho : all[i]? = some (all[i]'h1) := by simp [h1]
     rw [ho]
     simp only [Option.map_some, Option.getD_some, Array.all_eq_true_iff_forall_mem, Bool.or_eq_true, Bool.not_eq_true']
     intro e he
     cases hb : Region.binds md e with
     | false => exact .inl rfl
     | true =>
      have hlt := (hrk i _ e ho (by simpa using he) hb).1
      have h5 := (hD e.on (by omega)).2 (h3 _ e ho (by simpa using he) hb)
      refine .inr ?_
      simp only [Array.getD] at h5 ⊢
      rw [dif_pos (show e.on < listed.size by omega)] at h5 ⊢
      exact h5
  cases hi : rs[t % rs.length]? with
  | none =>
   have hnil : rs = [] := by
    cases rs with
    | nil => rfl
    | cons x xs =>
     have hlt : t % (x :: xs).length < (x :: xs).length := Nat.mod_lt _ (by simp)
     rw [List.getElem?_eq_none_iff] at hi
     omega
   simp only [List.reverse_nil]
   show ∀ i, i < all.size → D i
   intro i hi2
   apply Classical.byContradiction
   intro hn
   obtain ⟨k, ⟨h1, h2⟩, h3⟩ := least_of (S := fun i => i < all.size ∧ ¬ D i) rk (rk i) i rfl ⟨hi2, hn⟩
   have : k ∈ rs := by
    rw [hmem]
    refine ⟨h1, h2, ?_⟩
    intro o e ho he hb
    obtain ⟨hlt1, hlt2⟩ := hrk k o e ho he hb
    apply Classical.byContradiction
    intro hq
    exact h3 e.on hlt2 ⟨hlt1, hq⟩
   rw [hnil] at this
   cases this
  | some i =>
   simp only []
   rw [linearise_go_acc, List.reverse_singleton, List.singleton_append]
   obtain ⟨h1, h2, h3⟩ := (hmem i).1 (List.mem_of_getElem? hi)
   refine ⟨h1, h2, (fun j hj => ?_), ih _ _ _ (by simp [hs]) ?_ ?_⟩
   ·obtain ⟨o, e, ho, he, hb, rfl⟩ := hj
    exact h3 o e ho he (binds_any hb)
   ·intro k hk
    rw [Array.getD_eq_getD_getElem?, Array.getElem?_setIfInBounds]
    by_cases hki : i = k
    ·subst hki; simp [hs, h1]
    ·rw [if_neg hki, ← Array.getD_eq_getD_getElem?, hD k hk]
     exact ⟨.inl, fun h => h.resolve_right (fun q => hki q.symm)⟩
   ·have : (List.range all.size).countP (fun k => !(listed.setIfInBounds i true).getD k true) + 1 ≤ (List.range all.size).countP (fun i => !listed.getD i true) := by
     refine countP_less (i := i) ?_ ?_ ?_ (by simpa using h1)
     ·cases hq : listed.getD i true with
      | false => rfl
      | true => exact absurd ((hD i h1).1 hq) h2
     ·rw [Array.getD_eq_getD_getElem?, Array.getElem?_setIfInBounds]
      simp [hs, h1]
     ·intro j hj
      rw [Array.getD_eq_getD_getElem?, Array.getElem?_setIfInBounds] at hj
      by_cases hji : i = j
      ·subst hji; simp [hs, h1] at hj
      ·rw [if_neg hji, ← Array.getD_eq_getD_getElem?] at hj; exact hj
    omega
theorem schedule_VS {all : Array Oper} {B : Nat → Nat} (ro : RO all B) (mixed : Bool) (t : Nat) : VS all (fun _ => False) (Region.schedule mixed all t) := by
 have h : ∀ md t, VS all (fun _ => False) (Region.linearise md all t) := by
  intro md t
  unfold Region.linearise
  refine linearise_VS ro md _ _ _ _ (by simp) (fun k hk => ?_) ?_
  ·simp [Array.getD, hk]
  ·exact Nat.le_trans (List.countP_le_length) (by simp)
 unfold Region.schedule
 split
 ·exact h _ _
 ·exact h _ _
def VB (all : Array Oper) (B : Nat → Nat) : (Nat → Prop) → List Nat → Prop
 | D, [] => ∀ i, i < all.size → D i
 | D, i :: s => i < all.size ∧ ¬ D i ∧ (∀ k, (B i).testBit k = true → D k) ∧ VB all B (fun k => D k ∨ k = i) s
theorem VS.toB {all : Array Oper} {B : Nat → Nat} (sound : ∀ i k, i < all.size → (B i).testBit k = true → Bef all k i) : ∀ (s : List Nat) (D : Nat → Prop), (∀ i j, D i → Dep all j i → D j) → VS all D s → VB all B D s
 | [], _, _, h => h
 | i :: s, D, hD, ⟨h1, h2, h3, h4⟩ => by
  refine ⟨h1, h2, fun k hk => (sound i k h1 hk).closed hD h3, VS.toB sound s _ ?_ h4⟩
  rintro x j (hx | rfl) hj
  ·exact .inl (hD x j hx hj)
  ·exact .inl (h3 j hj)
end Go.AbsE

set_option linter.unusedSimpArgs false
namespace Go.AbsE
open Go
theorem sameA_eq : ∀ (x y : AVal), sameA x y = true → x = y := by
  have key : ∀ x : AVal, ∀ y, sameA x y = true → x = y := by
    intro x
    induction x using AVal.rec (motive_2 := fun l => ∀ m, sameAs l m = true → l = m) with
    | int k a => intro y h; cases y <;> simp only [sameA] at h <;> first | cases h | skip
                 rename_i k' b
                 by_cases hk : k = k'
                 · subst hk
                   simp at h
                   rw [eqI_eq] at h
                   rw [eq_of_beq h]
                 · simp [hk] at h
    | bool a => intro y h; cases y <;> simp only [sameA] at h <;> first | cases h | skip
                rename_i b
                cases a <;> cases b <;> first | rfl | cases h
    | str s => intro y h; cases y <;> simp only [sameA] at h <;> cases h
    | nilptr => intro y h; cases y <;> simp only [sameA] at h <;> first | rfl | cases h
    | nilslice => intro y h; cases y <;> simp only [sameA] at h <;> first | rfl | cases h
    | nilmap => intro y h; cases y <;> simp only [sameA] at h <;> first | rfl | cases h
    | nilfunc => intro y h; cases y <;> simp only [sameA] at h <;> first | rfl | cases h
    | nilIface => intro y h; cases y <;> simp only [sameA] at h <;> first | rfl | cases h
    | ptr b o =>
      intro y h; cases y <;> simp only [sameA] at h <;> first | cases h | skip
      rename_i b' o'
      cases h1 : Nat.beq b b' <;> rw [h1] at h <;> first | cases h | skip
      rw [Nat.eq_of_beq_eq_true h1, Nat.eq_of_beq_eq_true h]
    | slice b o l c =>
      intro y h; cases y <;> simp only [sameA] at h <;> first | cases h | skip
      rename_i b' o' l' c'
      cases h1 : Nat.beq b b' <;> rw [h1] at h <;> first | cases h | skip
      cases h2 : Nat.beq o o' <;> rw [h2] at h <;> first | cases h | skip
      cases h3 : Nat.beq l l' <;> rw [h3] at h <;> first | cases h | skip
      rw [Nat.eq_of_beq_eq_true h1, Nat.eq_of_beq_eq_true h2, Nat.eq_of_beq_eq_true h3, Nat.eq_of_beq_eq_true h]
    | gsl b o l c =>
      intro y h; cases y <;> simp only [sameA] at h <;> first | cases h | skip
      rename_i b' o' l' c'
      cases h1 : Nat.beq b b' <;> rw [h1] at h <;> first | cases h | skip
      cases h2 : Nat.beq o o' <;> rw [h2] at h <;> first | cases h | skip
      cases h3 : Nat.beq l l' <;> rw [h3] at h <;> first | cases h | skip
      rw [Nat.eq_of_beq_eq_true h1, Nat.eq_of_beq_eq_true h2, Nat.eq_of_beq_eq_true h3, Nat.eq_of_beq_eq_true h]
    | map b => intro y h; cases y <;> simp only [sameA] at h <;> first | cases h | skip
               rw [Nat.eq_of_beq_eq_true h]
    | yield b => intro y h; cases y <;> simp only [sameA] at h <;> first | cases h | skip
                 rw [Nat.eq_of_beq_eq_true h]
    | func f a b iha ihb =>
      intro y h; cases y <;> simp only [sameA] at h <;> first | cases h | skip
      rename_i f' a' b'
      by_cases hf : f = f'
      · subst hf
        simp only [decide_true, cond_true] at h
        cases h1 : sameAs a a' <;> rw [h1] at h <;> first | cases h | skip
        rw [iha _ h1, ihb _ h]
      · simp [hf] at h
    | iface t v ih =>
      intro y h; cases y <;> simp only [sameA] at h <;> first | cases h | skip
      rename_i t' v'
      cases h1 : Nat.beq t t' <;> rw [h1] at h <;> first | cases h | skip
      rw [Nat.eq_of_beq_eq_true h1, ih _ h]
    | agg a ih => intro y h; cases y <;> simp only [sameA] at h <;> first | cases h | skip
                  rw [ih _ h]
    | tuple a ih => intro y h; cases y <;> simp only [sameA] at h <;> first | cases h | skip
                    rw [ih _ h]
    | lit n a ih =>
      intro y h; cases y <;> simp only [sameA] at h <;> first | cases h | skip
      rename_i n' a'
      cases h1 : Nat.beq n n' <;> rw [h1] at h <;> first | cases h | skip
      rw [Nat.eq_of_beq_eq_true h1, ih _ h]
    | nil => rename_i m h; cases m <;> simp only [sameAs] at h <;> first | rfl | cases h
    | cons a l iha ihl =>
      rename_i m h; cases m <;> simp only [sameAs] at h <;> first | cases h | skip
      rename_i a' l'
      cases h1 : sameA a a' <;> rw [h1] at h <;> first | cases h | skip
      rw [iha _ h1, ihl _ h]
  exact fun x y => key x y
theorem recheck_ok {P : Program} {h : AH} : ∀ {facts : List DFact}, recheck P h facts = true → ∀ f ∈ facts, ∃ h', aOpX P f.lit f.t h f.o = some (.val f.v h') := by
  intro facts
  induction facts with
  | nil => intro _ f hf; cases hf
  | cons a l ih =>
    intro k f hf
    obtain ⟨i, o, v, t, lit⟩ := a
    unfold recheck at k
    simp only [] at k
    split at k
    · rename_i v' h' ho
      cases hs : sameA v v' with
      | false => rw [hs] at k; cases k
      | true =>
        rw [hs] at k
        rcases List.mem_cons.1 hf with rfl | hf
        · rw [sameA_eq _ _ hs]; exact ⟨h', ho⟩
        · exact ih k f hf
    · cases k
theorem dropF_mem {bef : Nat} : ∀ {l : List DFact} {f : DFact}, f ∈ l → bef.testBit f.i = false → f ∈ dropF bef l := by
  intro l
  induction l with
  | nil => intro f h; cases h
  | cons a l ih =>
    intro f h hb
    unfold dropF
    rcases List.mem_cons.1 h with rfl | h
    · cases hq : bit? bef f.i with
      | true => rw [bit_iff.1 hq] at hb; cases hb
      | false => simp
    · cases bit? bef a.i with
      | true => exact ih h hb
      | false => exact List.mem_cons_of_mem _ (ih h hb)
theorem quiet_val {P : Program} {t : Tr AVal} {h : AH} {o : Oper} {x : ANext} (hq : quietOp o.op = true) (k : aOp P t h o = some x) : ∃ v, x = .val v h := by
  obtain ⟨dst, op, type, pos, after, guard⟩ := o
  have vo : ∀ {y : Option AVal}, valO h y = some x → ∃ v, x = .val v h := by
    intro y hy; obtain ⟨v, _, rfl⟩ := valO_some hy; exact ⟨v, rfl⟩
  have so : ∀ {v : AVal}, some (ANext.val v h) = some x → ∃ v, x = .val v h := by
    intro v hy; cases hy; exact ⟨v, rfl⟩
  have fp : ∀ {as : TypeId} {ok : Bool}, failPair P h as ok = some x → ∃ v, x = .val v h := by
    intro as ok hy
    unfold failPair okPair at hy
    cases ok with
    | false => cases hy
    | true => simp only [cond_true] at hy; split at hy <;> first | exact so hy | cases hy
  unfold aOp prep at k
  cases op <;> first | cases hq | skip
  case move y => exact vo k
  case assign y => exact vo k
  case pick c a b =>
    simp only [opPick] at k
    split at k
    · rename_i q _; cases q <;> exact vo k
    · cases k
  case build ty parts =>
    simp only [opBuild] at k
    split at k <;> (try split at k) <;> (try split at k) <;> first | exact so k | cases k
  case load ty a => simp only [opLoad] at k; split at k <;> first | exact vo k | cases k
  case nilCheck y =>
    simp only [opNilCheck] at k
    split at k
    · rename_i v _
      cases hn : nilCheckOk P v <;> rw [hn] at k <;> first | exact so k | cases k
    · cases k
  case binOp op ty y z yt => simp only [opBin] at k; split at k <;> first | exact vo k | cases k
  case unOp op xt y =>
    simp only [opUn] at k
    split at k
    · split at k <;> first | exact so k | cases k
    · split at k <;> first | exact vo k | cases k
    · cases k
  case convert src dst y =>
    simp only [opConvert] at k
    split at k
    · split at k <;> first | exact vo k | cases k
    · cases k
  case makeInterface ty y => simp only [opMakeInterface] at k; split at k <;> first | exact so k | cases k
  case makeFunc fn first cap =>
    simp only [opMakeFunc] at k
    split at k
    · cases k
    · split at k <;> first | exact so k | cases k
  case slice ty y lo hi mx =>
    cases mx with
    | some _ => cases hq
    | none =>
      simp only [opSlice, sliceOf, sliceOfArr] at k
      repeat' split at k
      all_goals try (cases k; done)
      all_goals
        revert k
        (repeat' (first | (cases Nat.ble _ _ <;> simp only [cond_true, cond_false]) | (cases Nat.beq _ _ <;> simp only [cond_true, cond_false]) | (cases Nat.blt _ _ <;> simp only [cond_true, cond_false]) | (cases eqSize _ _ _ <;> simp only [cond_true, cond_false])))
        all_goals intro k
        all_goals first | exact so k | cases k
  case fieldAddr s y f =>
    simp only [opFieldAddr] at k
    repeat' split at k
    all_goals try (cases k; done)
    rename_i m _
    cases hm : Nat.beq m 0 <;> rw [hm] at k <;> first | exact so k | cases k
  case field s y f =>
    simp only [opField] at k
    repeat' split at k
    all_goals first | exact vo k | cases k
  case indexAddr ty y i =>
    simp only [opIndexAddr] at k
    repeat' split at k
    all_goals try (cases k; done)
    all_goals
      revert k
      cases Nat.blt _ _ <;> intro k <;> first | exact so k | cases k
  case index ty y i =>
    simp only [opIndex] at k
    repeat' split at k
    all_goals try (first | exact vo k | (cases k; done))
    all_goals
      revert k
      cases Nat.blt _ _ <;> intro k <;> first | exact vo k | cases k
  case lookup ty y q ok =>
    simp only [opLookup, okPair] at k
    repeat' split at k
    all_goals first | exact so k | cases k
  case typeAssert y xt as ok =>
    simp only [opTypeAssert, okPair] at k
    repeat' split at k
    all_goals try (first | exact fp k | (cases k; done))
    revert k
    cases Nat.beq _ _ <;> intro k <;> first | exact fp k | exact so k
  case extract y i => simp only [opExtract] at k; split at k <;> first | exact vo k | cases k
  case call c =>
    obtain ⟨callee, args, argTypes⟩ := c
    cases callee with
    | value f => cases hq
    | invoke r m => cases hq
    | builtin b =>
      cases b <;> first | cases hq | skip
      all_goals
        simp only [opCall, callWith] at k
        split at k
        · cases k
        · simp only [aBuiltin] at k
          repeat' split at k
          all_goals first | exact so k | exact vo k | cases k
theorem quietX_val {P : Program} {lit : Bool} {t : Tr AVal} {h : AH} {o : Oper} {x : ANext} (hq : lit = true ∨ quietOp o.op = true) (k : aOpX P lit t h o = some x) : ∃ v, x = .val v h := by
  cases lit with
  | false => exact quiet_val (hq.resolve_left (by simp)) k
  | true =>
    replace k : opLit P t h o = some x := k
    obtain ⟨dst, op, type, pos, after, guard⟩ := o
    unfold opLit at k
    cases op <;> first | cases k | skip
    simp only [] at k
    repeat' split at k
    all_goals try (cases k; done)
    all_goals
      revert k
      cases Nat.ble _ _ <;> cases Nat.beq _ _ <;> simp only [cond_true, cond_false] <;> intro k <;> first | (cases k; done) | (cases k; exact ⟨_, rfl⟩)
theorem aOpX_sim {P : Program} {w0 : Base} {e : Env} {h : AH} {W : World} (r : HR P w0 e h W) {n : Nat} {t : Tr AVal} {T : Array Value} (hT : TRel e n t T) {lit : Bool} {o : Oper} {x : ANext} (k : aOpX P lit t h o = some x) :
    OpSim P w0 e h W ((execOp (opd T) o).run P W) x := by
  cases lit with
  | false => exact aOp_sim r hT k
  | true => exact (opLit_sim r hT k).2
end Go.AbsE

set_option linter.unusedSimpArgs false
namespace Go.AbsE
open Go
theorem tmpsOf_mem {i : Tmp} : ∀ {l : List Operand}, Operand.tmp i ∈ l → i ∈ tmpsOf l := by
 intro l
 induction l with
 | nil => intro h; cases h
 | cons a l ih =>
  intro h
  rcases List.mem_cons.1 h with h2 | h2
  ·subst h2; simp [tmpsOf]
  ·have h3 := ih h2
   unfold tmpsOf
   cases a <;> first | exact List.mem_cons_of_mem _ h3 | exact h3
theorem reads_ops {all : Array Oper} {o : Oper} {x : Tmp} (h : x ∈ tmpsOf o.op.operands.toList) : x ∈ readsO all o := by
 unfold readsO
 split
 ·exact h
 ·split
  ·split
   ·exact List.mem_cons_of_mem _ h
   ·exact h
  ·exact h
theorem reads_aOp {P : Program} {all : Array Oper} {o : Oper} {t t' : Tr AVal} {h : AH} (hx : ∀ x ∈ readsO all o, t.get (pth x) = t'.get (pth x)) : aOp P t h o = aOp P t' h o := by
 refine aOp_congr (fun x hxm => ?_)
 cases x with
 | tmp i =>
  show (Tr.mkGet (pth i)).run t = (Tr.mkGet (pth i)).run t'
  rw [Tr.mkGet_eq, Tr.mkGet_eq]
  exact hx i (reads_ops (tmpsOf_mem hxm))
 | const v => rfl
 | func f => rfl
 | global g => rfl
theorem reads_aOpX {P : Program} {all : Array Oper} {lit : Bool} {o : Oper} {t t' : Tr AVal} {h : AH} (hx : ∀ x ∈ readsO all o, t.get (pth x) = t'.get (pth x)) : aOpX P lit t h o = aOpX P lit t' h o := by
 cases lit with
 | false => exact reads_aOp hx
 | true =>
  have hev : ∀ x ∈ o.op.operands.toList, ev t x = ev t' x := by
   intro x hxm
   cases x with
   | tmp i =>
    show (Tr.mkGet (pth i)).run t = (Tr.mkGet (pth i)).run t'
    rw [Tr.mkGet_eq, Tr.mkGet_eq]
    exact hx i (reads_ops (tmpsOf_mem hxm))
   | const v => rfl
   | func f => rfl
   | global g => rfl
  show opLit P t h o = opLit P t' h o
  obtain ⟨dst, op, type, pos, after, guard⟩ := o
  unfold opLit
  cases op <;> first | rfl | skip
  rename_i ty len parts
  have := evParts_congr (t := t) (t' := t') (l := parts.toList) (fun x q => hev x (by simpa [Op.operands] using q))
  simp only [this]
theorem reads_wanted {all : Array Oper} {o : Oper} {t t' : Tr AVal} (hx : ∀ x ∈ readsO all o, t.get (pth x) = t'.get (pth x)) : wantedA all t o = wantedA all t' o := by
 unfold wantedA
 unfold readsO at hx
 cases hg : o.guard with
 | none => rfl
 | some jw =>
  obtain ⟨j, w⟩ := jw
  rw [hg] at hx
  simp only [] at hx ⊢
  cases hj : all[j]? with
  | none => rfl
  | some oj =>
   rw [hj] at hx
   simp only [] at hx ⊢
   cases hd : oj.dst with
   | none => rfl
   | some d =>
    rw [hd] at hx
    simp only [] at hx ⊢
    rw [hx d (by simp)]
def Sel (all : Array Oper) (S : Nat → Prop) (V : Nat → AVal) (t0 t : Tr AVal) : Prop :=
 (∀ (i : Nat) (o : Oper) (x : Nat), all[i]? = some o → o.dst = some x → (S i → t.get (pth x) = some (V i)) ∧ (¬ S i → t.get (pth x) = t0.get (pth x))) ∧
 (∀ (x : Nat), (∀ (i : Nat) (o : Oper), all[i]? = some o → o.dst ≠ some x) → t.get (pth x) = t0.get (pth x))
structure DB (e : Env) (n : Nat) (T : Array Value) (all : Array Oper) (B : Nat → Nat) (c : List DOp) (ta tf : Tr AVal) (s : List Nat) (t0 : Tr AVal) (V : Nat → AVal) (tc : Tr AVal) (D A : Nat → Prop) : Prop where
 ro : RO all B
 tm : TRel e n tc T
 fr : ∀ x a, tf.get (pth x) = some a → tc.get (pth x) = some a ∧ ∀ (i : Nat) (o : Oper), all[i]? = some o → o.dst ≠ some x
 selD : Sel all D V t0 tc
 selA : Sel all A V t0 ta
 sub : ∀ i, D i → A i
 dcl : ∀ i j, D i → (B i).testBit j = true → D j
 acl : ∀ i j, i < all.size → A i → (B i).testBit j = true → A j
 sched : VB all B D s
 plan : CV all B A c
def Agr (all : Array Oper) (B : Nat → Nat) (t0 : Tr AVal) (V : Nat → AVal) (i : Nat) (o : Oper) (t : Tr AVal) : Prop :=
 ∀ x ∈ readsO all o, (∀ w ow, all[w]? = some ow → ow.dst = some x → w ≠ i → (B i).testBit w = true → t.get (pth x) = some (V w)) ∧
  ((∀ w ow, all[w]? = some ow → ow.dst = some x → w = i ∨ (B i).testBit w = false) → t.get (pth x) = t0.get (pth x))
def Pend (n : Nat) (all : Array Oper) (B : Nat → Nat) (facts : List DFact) (t0 : Tr AVal) (V : Nat → AVal) (D A : Nat → Prop) : Prop :=
 ∀ i, i < all.size → A i → ¬ D i → ∃ o t lit, all[i]? = some o ∧ (lit = true ∨ quietOp o.op = true) ∧ (∀ x, o.dst = some x → x < n) ∧ Agr all B t0 V i o t ∧
  ((wantedA all t o = some true ∧ (⟨i, o, V i, t, lit⟩ : DFact) ∈ facts) ∨ (wantedA all t o = some false ∧ V i = undefA))
def Stand (P : Program) (h : AH) (facts : List DFact) : Prop := ∀ f ∈ facts, ∃ h', aOpX P f.lit f.t h f.o = some (.val f.v h')
section
variable {e : Env} {n : Nat} {T : Array Value} {all : Array Oper} {B : Nat → Nat} {c : List DOp} {ta tf : Tr AVal} {s : List Nat} {t0 : Tr AVal} {V : Nat → AVal} {tc : Tr AVal} {D A : Nat → Prop} {facts : List DFact}
theorem DB.mono {e' : Env} (he : Env.le e e') (h : DB e n T all B c ta tf s t0 V tc D A) : DB e' n T all B c ta tf s t0 V tc D A :=
 {h with tm := h.tm.mono he }
theorem DB.bef (_ : DB e n T all B c ta tf s t0 V tc D A) {k i : Nat} (hb : (B i).testBit k = true) (hd : ∀ j, (B i).testBit j = true → D j) : D k := hd k hb
theorem DB.agree (h : DB e n T all B c ta tf s t0 V tc D A) {i : Nat} {o : Oper} (ho : all[i]? = some o) (hi : ¬ D i) (hd : ∀ j, (B i).testBit j = true → D j) {t : Tr AVal} (ha : Agr all B t0 V i o t) :
  ∀ x ∈ readsO all o, tc.get (pth x) = t.get (pth x) := by
 intro x hx
 have hlt := (Array.getElem?_eq_some_iff.1 ho).1
 obtain ⟨a1, a2⟩ := ha x hx
 by_cases hw : ∃ (w : Nat) (ow : Oper), all[w]? = some ow ∧ ow.dst = some x
 ·obtain ⟨w, ow, h1, h2⟩ := hw
  have hwlt := (Array.getElem?_eq_some_iff.1 h1).1
  obtain ⟨s1, s2⟩ := h.selD.1 w ow x h1 h2
  by_cases hwi : w = i
  ·subst hwi
   rw [s2 hi]
   refine (a2 (fun w' ow' k1 k2 => .inl ?_)).symm
   exact h.ro.uniq _ _ _ _ _ k1 h1 k2 h2
  ·by_cases hb : (B i).testBit w = true
   ·have hDw := h.bef hb hd
    rw [s1 hDw, a1 w ow h1 h2 hwi hb]
   ·have hb2 : (B w).testBit i = true := by
     rcases h.ro.rd i o x w ow ho hx h1 h2 with q | q | q
     ·exact absurd q hwi
     ·exact absurd q hb
     ·exact q
    have hnD : ¬ D w := fun hDw => hi (h.dcl w i hDw hb2)
    rw [s2 hnD]
    refine (a2 (fun w' ow' k1 k2 => .inr ?_)).symm
    have := h.ro.uniq _ _ _ _ _ k1 h1 k2 h2
    subst this
    simpa using hb
 ·have hn : ∀ (i : Nat) (o : Oper), all[i]? = some o → o.dst ≠ some x := fun i o k1 k2 => hw ⟨i, o, k1, k2⟩
  rw [h.selD.2 x hn]
  exact (a2 (fun w ow k1 k2 => absurd k2 (hn w ow k1))).symm
theorem DB.agr (h : DB e n T all B c ta tf s t0 V tc D A) {i : Nat} {o : Oper} (ho : all[i]? = some o) (hi : ¬ A i) (hb : ∀ k, (B i).testBit k = true → A k) : Agr all B t0 V i o ta := by
 intro x hx
 have hlt := (Array.getElem?_eq_some_iff.1 ho).1
 refine ⟨fun w ow h1 h2 hwi hbw => (h.selA.1 w ow x h1 h2).1 (hb w hbw), fun hall => ?_⟩
 by_cases hw : ∃ (w : Nat) (ow : Oper), all[w]? = some ow ∧ ow.dst = some x
 ·obtain ⟨w, ow, h1, h2⟩ := hw
  have hwlt := (Array.getElem?_eq_some_iff.1 h1).1
  refine (h.selA.1 w ow x h1 h2).2 (fun hA => ?_)
  rcases hall w ow h1 h2 with q | q
  ·subst q; exact hi hA
  ·rcases h.ro.rd i o x w ow ho hx h1 h2 with k | k | k
   ·subst k; exact hi hA
   ·rw [k] at q; cases q
   ·exact hi (h.acl w i hwlt hA k)
 ·exact h.selA.2 x (fun i o k1 k2 => hw ⟨i, o, k1, k2⟩)
noncomputable def putO (t : Tr AVal) (d : Option Tmp) (v : AVal) : Tr AVal := match d with | some x => t.put (pth x) (some v) | none => t
theorem prepD_put {o : Oper} {t t' : Tr AVal} {v : AVal} (k : (prepD n o).run t v = some t') : t' = putO t o.dst v ∧ ∀ x, o.dst = some x → x < n := by
 unfold prepD at k
 cases hd : o.dst with
 | none => rw [hd] at k; cases k; exact ⟨rfl, fun _ q => by cases q⟩
 | some i =>
  rw [hd] at k
  simp only [] at k
  cases hb : Nat.blt i n with
  | false => rw [hb] at k; cases k
  | true => rw [hb] at k; cases k; exact ⟨Tr.mkPut_eq _ _ _, fun x q => by cases q; exact blt_true hb⟩
theorem Sel.put (ro : RO all B) {S : Nat → Prop} {t : Tr AVal} (h : Sel all S V t0 t) {i : Nat} {o : Oper} (ho : all[i]? = some o) {V' : Nat → AVal} (hV : ∀ k, k ≠ i → V' k = V k) :
  Sel all (fun k => S k ∨ k = i) V' t0 (putO t o.dst (V' i)) := by
 constructor
 ·intro j oj x hj hx
  obtain ⟨s1, s2⟩ := h.1 j oj x hj hx
  by_cases hji : j = i
  ·subst hji
   rw [ho] at hj
   cases hj
   refine ⟨fun _ => ?_, fun hn => absurd (.inr rfl) hn⟩
   rw [hx]
   show (t.put (pth x) (some (V' j))).get (pth x) = _
   rw [Tr.get_put _ _ (pth_ok (Nat.lt_of_lt_of_le (ro.dst _ _ _ ho hx) (by decide))), if_pos rfl]
  ·have same : (putO t o.dst (V' i)).get (pth x) = t.get (pth x) := by
    unfold putO
    cases hd : o.dst with
    | none => rfl
    | some d =>
     have hdl := ro.dst _ _ _ ho hd
     simp only []
     rw [Tr.get_put _ _ (pth_ok (Nat.lt_of_lt_of_le hdl (by decide)))]
     rw [if_neg]
     intro hp
     have := pth_inj (Nat.lt_of_lt_of_le hdl (by decide)) hp
     subst this
     exact hji (ro.uniq _ _ _ _ _ hj ho hx hd)
   rw [same, hV j hji]
   refine ⟨fun q => ?_, fun q => s2 (fun k => q (.inl k))⟩
   rcases q with q | q
   ·exact s1 q
   ·exact absurd q hji
 ·intro x hx
  rw [← h.2 x hx]
  unfold putO
  cases hd : o.dst with
  | none => rfl
  | some d =>
   have hdl := ro.dst _ _ _ ho hd
   simp only []
   rw [Tr.get_put _ _ (pth_ok (Nat.lt_of_lt_of_le hdl (by decide)))]
   rw [if_neg]
   intro hp
   have := pth_inj (Nat.lt_of_lt_of_le hdl (by decide)) hp
   subst this
   exact hx _ _ ho hd
theorem DB.advD {e' : Env} {i : Nat} {o : Oper} {VV : Value} (h : DB e n T all B c ta tf (i :: s) t0 V tc D A) (hA : A i) (ho : all[i]? = some o) (hn : ∀ x, o.dst = some x → x < n) (he : Env.le e e') (hv : VR e' (V i) VV) :
  DB e' n (match o.dst with | some d => T.setIfInBounds d VV | none => T) all B c ta tf s t0 V (putO tc o.dst (V i)) (fun k => D k ∨ k = i) A := by
 obtain ⟨v1, v2, v3, v4⟩ := h.sched
 refine { ro := h.ro, tm := ?_, fr := ?_, selD := h.selD.put h.ro ho (fun _ _ => rfl), selA := h.selA, sub := ?_, dcl := ?_, acl := h.acl, sched := v4, plan := h.plan }
 ·cases hd : o.dst with
  | none => exact h.tm.mono he
  | some d => exact (h.tm.mono he).put (hn d hd) hv
 ·intro x a hx
  obtain ⟨q1, q2⟩ := h.fr x a hx
  refine ⟨?_, q2⟩
  rw [← q1]
  unfold putO
  cases hd : o.dst with
  | none => rfl
  | some d =>
   have hdl := h.ro.dst _ _ _ ho hd
   simp only []
   rw [Tr.get_put _ _ (pth_ok (Nat.lt_of_lt_of_le hdl (by decide)))]
   rw [if_neg]
   intro hp
   have := pth_inj (Nat.lt_of_lt_of_le hdl (by decide)) hp
   subst this
   exact q2 _ _ ho hd
 ·rintro k (hk | rfl)
  ·exact h.sub k hk
  ·exact hA
 ·rintro k j (hk | rfl) hj
  ·exact .inl (h.dcl k j hk hj)
  ·exact .inl (v3 j hj)
theorem DB.advA {d : DOp} (h : DB e n T all B (d :: c) ta tf s t0 V tc D A) (v : AVal) :
  DB e n T all B c (putO ta d.o.dst v) tf s t0 (fun k => if k = d.i then v else V k) tc D (fun k => A k ∨ k = d.i) := by
 obtain ⟨p1, p2, p3, p4, p5, p6, p7⟩ := h.plan
 have hV : ∀ k, k ≠ d.i → (fun k => if k = d.i then v else V k) k = V k := fun k hk => by simp [hk]
 have hA := h.selA.put h.ro p1 hV
 rw [if_pos rfl] at hA
 refine { ro := h.ro, tm := h.tm, fr := h.fr, selD := ?_, selA := hA, sub := fun i hi => .inl (h.sub i hi), dcl := h.dcl, acl := ?_, sched := h.sched, plan := p7 }
 ·refine ⟨fun i o x ho hx => ?_, h.selD.2⟩
  obtain ⟨s1, s2⟩ := h.selD.1 i o x ho hx
  refine ⟨fun hD => ?_, s2⟩
  have : i ≠ d.i := fun q => p4 (q ▸ h.sub i hD)
  rw [hV i this]
  exact s1 hD
 ·rintro i j hi (hAi | rfl) hj
  ·exact .inl (h.acl i j hi hAi hj)
  ·exact .inl (p5 j hj)
theorem Pend.advA {d : DOp} {facts' : List DFact} (h : DB e n T all B (d :: c) ta tf s t0 V tc D A) (hp : Pend n all B facts t0 V D A) (v : AVal) {D' : Nat → Prop} (hD : ∀ i, D i → D' i)
  (hf : ∀ i, i < all.size → A i → ¬ D' i → ∀ f ∈ facts, f.i = i → f ∈ facts')
  (hnew : D' d.i ∨ ((d.lit = true ∨ quietOp d.o.op = true) ∧ (∀ x, d.o.dst = some x → x < n) ∧ ((wantedA all ta d.o = some true ∧ (⟨d.i, d.o, v, ta, d.lit⟩ : DFact) ∈ facts') ∨ (wantedA all ta d.o = some false ∧ v = undefA)))) :
  Pend n all B facts' t0 (fun k => if k = d.i then v else V k) D' (fun k => A k ∨ k = d.i) := by
 obtain ⟨p1, p2, p3, p4, p5, p6, p7⟩ := h.plan
 have hV : ∀ k, k ≠ d.i → (fun k => if k = d.i then v else V k) k = V k := fun k hk => by simp [hk]
 intro i hi hA hnD
 have agrV : ∀ {o t}, (i = d.i ∨ A i) → Agr all B t0 V i o t → Agr all B t0 (fun k => if k = d.i then v else V k) i o t := by
  intro o t hAi ha x hx
  obtain ⟨a1, a2⟩ := ha x hx
  refine ⟨fun w ow h1 h2 hwi hb => ?_, a2⟩
  have hAw : A w := by
   rcases hAi with rfl | hAi
   ·exact p5 w hb
   ·exact h.acl i w hi hAi hb
  have : w ≠ d.i := fun q => p4 (q ▸ hAw)
  rw [hV w this]
  exact a1 w ow h1 h2 hwi hb
 by_cases hid : i = d.i
 ·subst hid
  rcases hnew with hnew | ⟨q1, q2, q3⟩
  ·exact absurd hnew hnD
  ·refine ⟨d.o, ta, d.lit, p1, q1, q2, agrV (.inl rfl) (h.agr p1 p4 p5), ?_⟩
   simp only [if_true]
   exact q3
 ·have hAi : A i := hA.resolve_right hid
  obtain ⟨o, t, lit, k1, k2, k3, k4, k5⟩ := hp i hi hAi (fun q => hnD (hD i q))
  refine ⟨o, t, lit, k1, k2, k3, agrV (.inr hAi) k4, ?_⟩
  simp only [if_neg hid]
  rcases k5 with ⟨k5, k6⟩ | k5
  ·exact .inl ⟨k5, hf i hi hAi hnD _ k6 rfl⟩
  ·exact .inr k5
end
section
variable {P : Program} {w0 : Base} {b : Frame} {n : Nat} {cs : List Frame} (hb : b.mode = .run)
variable {all : Array Oper} {B : Nat → Nat} {c : List DOp} {ta tf : Tr AVal} {t0 : Tr AVal} {V : Nat → AVal} {A : Nat → Prop} {facts : List DFact} {h : AH}
include hb
theorem drain1 {e : Env} {T : Array Value} {i : Nat} {s : List Nat} {tc : Tr AVal} {D : Nat → Prop} {W : World} {K : List Item} (hd : DB e n T all B c ta tf (i :: s) t0 V tc D A) (hp : Pend n all B facts t0 V D A) (hst : Stand P h facts)
  (r : HR P w0 e h W) (hA : A i) : ∃ e' T' W' tc', Steps P (lone (Frame.w b T (.inRegion all (i :: s) :: K)) cs W) (lone (Frame.w b T' (.inRegion all s :: K)) cs W') ∧ Env.le e e' ∧ HR P w0 e' h W' ∧
   DB e' n T' all B c ta tf s t0 V tc' (fun k => D k ∨ k = i) A := by
 obtain ⟨v1, v2, v3, v4⟩ := hd.sched
 obtain ⟨o, t, lit, k1, k2, k3, k4, k5⟩ := hp i v1 hA v2
 have hag := hd.agree k1 v2 v3 k4
 rcases k5 with ⟨k5, k6⟩ | ⟨k5, k6⟩
 ·obtain ⟨h', hop⟩ := hst _ k6
  dsimp only at hop
  obtain ⟨v', hv'⟩ := quietX_val k2 hop
  cases hv'
  rw [← reads_aOpX (t := tc) hag] at hop
  rw [← reads_wanted (t := tc) hag] at k5
  obtain ⟨e', VV, W', q1, q2, q3, q4⟩ := aOpX_sim r hd.tm hop
  exact ⟨e', _, W', _, .one (st_value hb k1 (wanted_rel hd.tm k5) q1), q2, q4, hd.advD hA k1 k3 q2 q3⟩
 ·rw [← reads_wanted (t := tc) hag] at k5
  refine ⟨e, _, W, _, .one (st_op_skip hb k1 (wanted_rel hd.tm k5)), Env.le_refl e, r, hd.advD (VV := undef) hA k1 k3 (Env.le_refl e) ?_⟩
  rw [k6]; exact .tuple .nil
theorem drain (hc : c = [] ∨ ∃ d c', c = d :: c' ∧ d.quiet = false) : ∀ (s : List Nat) {e : Env} {T : Array Value} {tc : Tr AVal} {D : Nat → Prop} {W : World} {K : List Item}, DB e n T all B c ta tf s t0 V tc D A → Pend n all B facts t0 V D A →
  Stand P h facts → HR P w0 e h W → ∃ e' T' W' tc' D' s', Steps P (lone (Frame.w b T (.inRegion all s :: K)) cs W) (lone (Frame.w b T' (.inRegion all s' :: K)) cs W') ∧ Env.le e e' ∧ HR P w0 e' h W' ∧
   DB e' n T' all B c ta tf s' t0 V tc' D' A ∧ Pend n all B facts t0 V D' A ∧ ((c = [] ∧ s' = []) ∨ ∃ d c' q, c = d :: c' ∧ s' = d.i :: q) := by
 intro s
 induction s with
 | nil =>
  intro e T tc D W K hd hp hst r
  refine ⟨e, T, W, tc, D, [], Steps.refl _ _, Env.le_refl e, r, hd, hp, ?_⟩
  rcases hc with hc | ⟨d, c', hc, hq⟩
  ·exact .inl ⟨hc, rfl⟩
  ·subst hc
   obtain ⟨p1, p2, p3, p4, p5, p6, p7⟩ := hd.plan
   exact absurd (hd.sub _ (hd.sched d.i (Array.getElem?_eq_some_iff.1 p1).1)) p4
 | cons i s ih =>
  intro e T tc D W K hd hp hst r
  by_cases hA : A i
  ·obtain ⟨e', T', W', tc', q1, q2, q3, q4⟩ := drain1 (cs := cs) (K := K) hb hd hp hst r hA
   have hp' : Pend n all B facts t0 V (fun k => D k ∨ k = i) A := fun j hj hAj hnD => hp j hj hAj (fun hq => hnD (.inl hq))
   obtain ⟨e2, T2, W2, tc2, D2, s2, g1, g2, g3, g4, g5, g6⟩ := ih (K := K) q4 hp' hst q3
   exact ⟨e2, T2, W2, tc2, D2, s2, q1.trans g1, Env.le_trans q2 g2, g3, g4, g5, g6⟩
  ·obtain ⟨v1, v2, v3, v4⟩ := hd.sched
   rcases hc with hc | ⟨d, c', hc, hq⟩
   ·subst hc
    exact absurd (hd.plan i v1) hA
   ·subst hc
    obtain ⟨p1, p2, p3, p4, p5, p6, p7⟩ := hd.plan
    refine ⟨e, T, W, tc, D, i :: s, Steps.refl _ _, Env.le_refl e, r, hd, hp, .inr ⟨d, c', s, rfl, ?_⟩⟩
    rcases CV.cover hd.plan i v1 with hq2 | ⟨d', hd1, hd2⟩
    ·exact absurd hq2 hA
    ·rcases List.mem_cons.1 hd1 with rfl | hd1
     ·rw [hd2]
     ·have hbit := p6 hq d' hd1
      rw [hd2] at hbit
      have := hd.bef hbit v3
      exact absurd (hd.sub _ this) p4
end
end Go.AbsE

set_option linter.unusedSimpArgs false
namespace Go.AbsE
open Go
inductive TD (e : Env) (n : Nat) (T : Array Value) (tf : Tr AVal) : List AItem → List Item → Prop
 | plain {l m} (h : IRs e l m) : TD e n T tf l m
 | wait {all B c d facts ta s t0 V tc D A l m} (h : DB e n T all B (d :: c) ta tf (d.i :: s) t0 V tc D A) (hp : Pend n all B facts t0 V D A) (hs : IRs e l m) :
   TD e n T tf (.waitDrawn all (d :: c) facts ta :: l) (.inRegion all (d.i :: s) :: m)
 | run {all B c facts ta s t0 V tc D A l m} (h : DB e n T all B c ta tf s t0 V tc D A) (hp : Pend n all B facts t0 V D A) (hs : IRs e l m) :
   TD e n T tf (.inDrawn all c facts ta :: l) (.inRegion all s :: m)
theorem TD.mono {e e' : Env} (he : Env.le e e') {n T tf l m} (h : TD e n T tf l m) : TD e' n T tf l m := by
 cases h with
 | plain h => exact .plain (h.mono he)
 | wait h hp hs => exact .wait (h.mono he) hp (hs.mono he)
 | run h hp hs => exact .run (h.mono he) hp (hs.mono he)
theorem TD.append {e : Env} {n T tf l m l' m'} (h : TD e n T tf l m) (k : IRs e l' m') : TD e n T tf (l ++ l') (m ++ m') := by
 cases h with
 | plain h => exact .plain (h.append k)
 | wait h hp hs => exact .wait h hp (hs.append k)
 | run h hp hs => exact .run h hp (hs.append k)
section
variable (P : Program) (w0 : Base) (b : Frame) (n : Nat) (cs : List Frame)
def Waits (e : Env) (J : List Item) (T : Array Value) (W : World) (x : ANext) : Prop :=
 ∃ all i o q J' h, J = .inRegion all (i :: q) :: J' ∧ all[i]? = some o ∧ Region.wanted o (yielded all T) = true ∧ HR P w0 e h W ∧
  OpSim P w0 e h W ((execOp (opd T) o).run P W) x ∧ (∀ v h', x ≠ .val v h')
def RS (e : Env) (M0 : Machine) (K : List Item) : R → Prop
 | .norm t h => ∃ e' T W, Steps P M0 (lone (Frame.w b T K) cs W) ∧ Env.le e e' ∧ TRel e' n t T ∧ HR P w0 e' h W
 | .exit id t h => ∃ e' T W J, Steps P M0 (lone (Frame.w b T (.code (.exit id) :: (J ++ K))) cs W) ∧ exitTo id (J ++ K) = exitTo id K ∧ Env.le e e' ∧ TRel e' n t T ∧ HR P w0 e' h W
 | .ret t h => ∃ e' T W J, Steps P M0 (lone (Frame.w b T (.code .ret :: J)) cs W) ∧ Env.le e e' ∧ TRel e' n t T ∧ HR P w0 e' h W
 | .susp k t x => ∃ e' T W J, Steps P M0 (lone (Frame.w b T (J ++ K)) cs W) ∧ Env.le e e' ∧ TRel e' n t T ∧ TD e' n T t k J ∧ Waits P w0 e' J T W x
 | .slow k t h => ∃ e' T W J, Steps P M0 (lone (Frame.w b T (J ++ K)) cs W) ∧ Env.le e e' ∧ TRel e' n t T ∧ IRs e' k J ∧ HR P w0 e' h W
 | .stuck _ => True
end
section
variable {P : Program} {w0 : Base} {b : Frame} {n : Nat} {cs : List Frame}
theorem Waits.append {e : Env} {J K : List Item} {T : Array Value} {W : World} {x : ANext} (h : Waits P w0 e J T W x) : Waits P w0 e (J ++ K) T W x := by
 obtain ⟨all, i, o, q, J', hh, rfl, h2⟩ := h
 exact ⟨all, i, o, q, J' ++ K, hh, rfl, h2⟩
theorem RS.head {e e0 : Env} {M0 M1 : Machine} {K : List Item} {r : R} (hs : Steps P M0 M1) (he : Env.le e0 e) (h : RS P w0 b n cs e M1 K r) : RS P w0 b n cs e0 M0 K r := by
 cases r with
 | norm t hh => obtain ⟨e', T, W, h1, h2, h3⟩ := h; exact ⟨e', T, W, hs.trans h1, Env.le_trans he h2, h3⟩
 | exit id t hh => obtain ⟨e', T, W, J, h1, h2, h3, h4⟩ := h; exact ⟨e', T, W, J, hs.trans h1, h2, Env.le_trans he h3, h4⟩
 | ret t hh => obtain ⟨e', T, W, J, h1, h2, h3⟩ := h; exact ⟨e', T, W, J, hs.trans h1, Env.le_trans he h2, h3⟩
 | susp k t x => obtain ⟨e', T, W, J, h1, h2, h3⟩ := h; exact ⟨e', T, W, J, hs.trans h1, Env.le_trans he h2, h3⟩
 | slow k t hh => obtain ⟨e', T, W, J, h1, h2, h3⟩ := h; exact ⟨e', T, W, J, hs.trans h1, Env.le_trans he h2, h3⟩
 | stuck i => trivial
theorem runC_cons (all : Array Oper) (d : DOp) (c : List DOp) (tf : Tr AVal) (facts : List DFact) (ta : Tr AVal) (h : AH) :
  (runC P n all (d :: c)).run tf facts ta h = (goGuard P n d (cond d.quiet (goQuiet n d (runC P n all c)) (goNoisy P n all d c (runC P n all c))) (runC P n all c)).run tf facts ta h (wantedA all ta d.o) := by
 show (stepC P n all d (cond d.quiet (goQuiet n d (runC P n all c)) (goNoisy P n all d c (runC P n all c))) (runC P n all c)).run tf facts ta h = _
 unfold stepC
 split
 ·rename_i hg
  have : wantedA all ta d.o = some true := by simp [wantedA, hg]
  rw [this]
  rfl
 ·rfl
theorem DB.frame {e : Env} {T : Array Value} {all : Array Oper} {B : Nat → Nat} {c : List DOp} {ta tf : Tr AVal} {s : List Nat} {t0 : Tr AVal} {V : Nat → AVal} {tc : Tr AVal} {D A : Nat → Prop}
  (h : DB e n T all B c ta tf s t0 V tc D A) : TRel e n tf T :=
 ⟨h.tm.1, h.tm.2.1, fun i a q => h.tm.2.2 i a (h.fr i a q).1⟩
variable (hb : b.mode = .run)
include hb
theorem runC_sim {all : Array Oper} {B : Nat → Nat} {tf t0 : Tr AVal} : ∀ (c : List DOp) {e : Env} {facts : List DFact} {ta : Tr AVal} {h : AH} {T : Array Value} {W : World} {K : List Item} {s : List Nat} {V : Nat → AVal} {tc : Tr AVal} {D A : Nat → Prop},
  DB e n T all B c ta tf s t0 V tc D A → Pend n all B facts t0 V D A → Stand P h facts → HR P w0 e h W →
  RS P w0 b n cs e (lone (Frame.w b T (.inRegion all s :: K)) cs W) K ((runC P n all c).run tf facts ta h) := by
 intro c
 induction c with
 | nil =>
  intro e facts ta h T W K s V tc D A hd hp hst r
  obtain ⟨e', T', W', tc', D', s', q1, q2, q3, q4, q5, q6⟩ := drain (cs := cs) (K := K) hb (.inl rfl) s hd hp hst r
  rcases q6 with ⟨_, rfl⟩ | ⟨d, c', q, q6, _⟩
  ·show RS P w0 b n cs e _ K (.norm ta h)
   refine ⟨e', T', W', q1.trans (.one (st_region_end hb)), q2, ⟨q4.tm.1, q4.tm.2.1, fun x a hx => q4.tm.2.2 x a ?_⟩, q3⟩
   by_cases hw : ∃ (w : Nat) (ow : Oper), all[w]? = some ow ∧ ow.dst = some x
   ·obtain ⟨w, ow, h1, h2⟩ := hw
    have hwlt := (Array.getElem?_eq_some_iff.1 h1).1
    rw [(q4.selA.1 w ow x h1 h2).1 (q4.plan w hwlt)] at hx
    rw [(q4.selD.1 w ow x h1 h2).1 (q4.sched w hwlt)]
    exact hx
   ·have hn : ∀ (i : Nat) (o : Oper), all[i]? = some o → o.dst ≠ some x := fun i o k1 k2 => hw ⟨i, o, k1, k2⟩
    rw [q4.selA.2 x hn] at hx
    rw [q4.selD.2 x hn]
    exact hx
  ·cases q6
 | cons d c ih =>
  intro e facts ta h T W K s V tc D A hd hp hst r
  rw [runC_cons]
  obtain ⟨p1, p2, p3, p4, p5, p6, p7⟩ := hd.plan
  cases hw : wantedA all ta d.o with
  | none => trivial
  | some w =>
   cases hq : d.quiet with
   | true =>
    have hqo := p3 hq
    cases w with
    | false =>
     show RS P w0 b n cs e _ K ((goOn (runC P n all c)).run tf facts h ((prepD n d.o).run ta undefA))
     cases ht : (prepD n d.o).run ta undefA with
     | none => trivial
     | some ta' =>
      obtain ⟨rfl, hn⟩ := prepD_put ht
      show RS P w0 b n cs e _ K ((runC P n all c).run tf facts (putO ta d.o.dst undefA) h)
      exact ih (hd.advA undefA) (hp.advA hd undefA (fun _ hD => hD) (fun _ _ _ _ f hf _ => hf) (.inr ⟨hqo, hn, .inr ⟨hw, rfl⟩⟩)) hst r
    | true =>
     show RS P w0 b n cs e _ K ((goQuiet n d (runC P n all c)).run tf facts ta h (aOpX P d.lit ta h d.o))
     cases hx : aOpX P d.lit ta h d.o with
     | none => trivial
     | some x =>
      obtain ⟨v, rfl⟩ := quietX_val hqo hx
      show RS P w0 b n cs e _ K ((goOn (runC P n all c)).run tf (⟨d.i, d.o, v, ta, d.lit⟩ :: facts) h ((prepD n d.o).run ta v))
      cases ht : (prepD n d.o).run ta v with
      | none => trivial
      | some ta' =>
       obtain ⟨rfl, hn⟩ := prepD_put ht
       show RS P w0 b n cs e _ K ((runC P n all c).run tf (⟨d.i, d.o, v, ta, d.lit⟩ :: facts) (putO ta d.o.dst v) h)
       refine ih (hd.advA v) (hp.advA hd v (fun _ hD => hD) (fun _ _ _ _ f hf _ => List.mem_cons_of_mem _ hf) (.inr ⟨hqo, hn, .inl ⟨hw, by simp⟩⟩)) ?_ r
       intro f hf
       rcases List.mem_cons.1 hf with rfl | hf
       ·exact ⟨h, hx⟩
       ·exact hst f hf
   | false =>
    obtain ⟨e1, T1, W1, tc1, D1, s1, q1, q2, q3, q4, q5, q6⟩ := drain (cs := cs) (K := K) hb (.inr ⟨d, c, rfl, hq⟩) s hd hp hst r
    rcases q6 with ⟨q6, _⟩ | ⟨d', c', q, q6, rfl⟩
    ·cases q6
    ·cases q6
     refine RS.head q1 q2 ?_
     obtain ⟨v1, v2, v3, v4⟩ := q4.sched
     have hag := q4.agree p1 v2 v3 (q4.agr p1 p4 p5)
     have hw' := hw
     rw [← reads_wanted (t := tc1) hag] at hw'
     have hwr := wanted_rel q4.tm hw'
     have step : ∀ {e2 : Env} {v : AVal} {VV : Value} {h2 : AH} {W2 : World} {facts2 : List DFact} {ta' : Tr AVal}, Env.le e1 e2 → VR e2 v VV → HR P w0 e2 h2 W2 → (∀ f ∈ facts, f.i ≠ d.i → ¬ D1 f.i → f ∈ facts2) → Stand P h2 facts2 →
       (prepD n d.o).run ta v = some ta' →
       RS P w0 b n cs e2 (lone (Frame.w b (match d.o.dst with | some x => T1.setIfInBounds x VV | none => T1) (.inRegion all q :: K)) cs W2) K ((runC P n all c).run tf facts2 ta' h2) := by
      intro e2 v VV h2 W2 facts2 ta' he hv hr hf hs2 ht
      obtain ⟨rfl, hn⟩ := prepD_put ht
      have hadv := (q4.advA v).advD (e' := e2) (i := d.i) (o := d.o) (VV := VV) (.inr rfl) p1 hn he (by simp only [if_true]; exact hv)
      refine ih hadv (q5.advA q4 v (fun _ hD => .inl hD) (fun i hi hA hnD f hfm hfi => hf f hfm (fun q => hnD (.inr (hfi ▸ q))) (fun q => hnD (.inl (hfi ▸ q)))) (.inl (.inr rfl))) hs2 hr
     cases w with
     | false =>
      show RS P w0 b n cs e1 _ K ((goOn (runC P n all c)).run tf facts h ((prepD n d.o).run ta undefA))
      cases ht : (prepD n d.o).run ta undefA with
      | none => trivial
      | some ta' =>
       show RS P w0 b n cs e1 _ K ((runC P n all c).run tf facts ta' h)
       refine RS.head (.one (st_op_skip hb p1 hwr)) (Env.le_refl e1) ?_
       exact step (Env.le_refl e1) (VV := undef) (.tuple .nil) q3 (fun f hf _ _ => hf) hst ht
     | true =>
      show RS P w0 b n cs e1 _ K ((goNoisy P n all d c (runC P n all c)).run tf facts ta h (aOpX P d.lit ta h d.o))
      cases hx : aOpX P d.lit ta h d.o with
      | none => trivial
      | some x =>
       have hx' := hx
       rw [← reads_aOpX (t := tc1) hag] at hx'
       have hsim := aOpX_sim q3 q4.tm hx'
       have susp : (∀ v h', x ≠ .val v h') → RS P w0 b n cs e1 (lone (Frame.w b T1 (.inRegion all (d.i :: q) :: K)) cs W1) K (.susp [.waitDrawn all (d :: c) facts ta] tf x) := by
        intro hne
        exact ⟨e1, T1, W1, [.inRegion all (d.i :: q)], Steps.refl _ _, Env.le_refl e1, q4.frame, .wait q4 q5 .nil, all, d.i, d.o, q, [], h, rfl, p1, hwr, q3, hsim, hne⟩
       cases x with
       | val v h2 =>
        show RS P w0 b n cs e1 _ K ((checked P (goOn (runC P n all c))).run tf (dropF d.bef facts) h2 ((prepD n d.o).run ta v))
        obtain ⟨e2, VV, W2, g1, g2, g3, g4⟩ := hsim
        show RS P w0 b n cs e1 _ K (cond (recheck P h2 (dropF d.bef facts)) ((goOn (runC P n all c)).run tf (dropF d.bef facts) h2 ((prepD n d.o).run ta v)) (.stuck 23))
        cases hrc : recheck P h2 (dropF d.bef facts) with
        | false => trivial
        | true =>
         cases ht : (prepD n d.o).run ta v with
         | none => trivial
         | some ta' =>
          show RS P w0 b n cs e1 _ K ((runC P n all c).run tf (dropF d.bef facts) ta' h2)
          refine RS.head (.one (st_value hb p1 hwr g1)) g2 ?_
          refine step g2 g3 g4 (fun f hf _ hnD => dropF_mem hf ?_) (recheck_ok hrc) ht
          rw [p2]
          cases hbit : (B d.i).testBit f.i with
          | false => rfl
          | true => exact absurd (q4.bef hbit v3) hnD
       | enter f args h' => exact susp (fun _ _ q => by cases q)
       | round l args h' => exact susp (fun _ _ q => by cases q)
       | defer d h' => exact susp (fun _ _ q => by cases q)
       | recover h' => exact susp (fun _ _ q => by cases q)
       | panic v h' => exact susp (fun _ _ q => by cases q)
theorem eraseT_get : ∀ (l : List Oper) (t : Tr AVal) (x : Tmp) (a : AVal), (∀ o ∈ l, ∀ d, o.dst = some d → d < 1000000) → (eraseT l t).get (pth x) = some a → t.get (pth x) = some a ∧ ∀ o ∈ l, o.dst ≠ some x := by
 have _ := hb
 intro l
 induction l with
 | nil => intro t x a _ h; exact ⟨h, fun o ho => by cases ho⟩
 | cons o l ih =>
  intro t x a hl h
  unfold eraseT at h
  obtain ⟨h1, h2⟩ := ih _ x a (fun o' ho' => hl o' (List.mem_cons_of_mem _ ho')) h
  cases hd : o.dst with
  | none =>
   rw [hd] at h1
   refine ⟨h1, fun o' ho' => ?_⟩
   rcases List.mem_cons.1 ho' with rfl | ho'
   ·rw [hd]; intro q; cases q
   ·exact h2 o' ho'
  | some d =>
   rw [hd] at h1
   simp only [] at h1
   have hdl := hl o (by simp) d hd
   rw [Tr.get_put _ _ (pth_ok (Nat.lt_of_lt_of_le hdl (by decide)))] at h1
   by_cases hp : pth d = pth x
   ·rw [if_pos hp] at h1; cases h1
   ·rw [if_neg hp] at h1
    refine ⟨h1, fun o' ho' => ?_⟩
    rcases List.mem_cons.1 ho' with rfl | ho'
    ·rw [hd]; intro q; cases q; exact hp rfl
    ·exact h2 o' ho'
theorem runDrawn_sim {id : Nat} {ops : Array Oper} {e : Env} {t : Tr AVal} {h : AH} {T : Array Value} {W : World} {K : List Item} (hT : TRel e n t T) (r : HR P w0 e h W) :
  RS P w0 b n cs e (lone (Frame.w b T (.code (.region id ops true) :: K)) cs W) K ((runDrawn P n ops).run t h) := by
 unfold runDrawn
 cases hp : plan ops with
 | none => trivial
 | some c =>
  obtain ⟨B, ro, snd, hcv⟩ := plan_ok hp
  show RS P w0 b n cs e _ K ((runC P n ops c).run (eraseT ops.toList t) [] t h)
  have hs : step P (lone (Frame.w b T (.code (.region id ops true) :: K)) cs W) =
    .next (lone (Frame.w b T (.inRegion ops (Region.schedule (P.follows .mixedOrders) ops (W.tape W.drawn (.order b.fn id))) :: K)) cs { W with drawn := W.drawn + 1 }) :=
   step_lone_go (by simp [stepG, stepG.exec, Frame.w, hb, choose, Sem.run, Question.forced, Question.cut])
  refine RS.head (.one hs) (Env.le_refl e) ?_
  refine runC_sim hb (B := B) c (V := fun _ => undefA) (tc := t) (D := fun _ => False) (A := fun _ => False) (t0 := t) (facts := []) ?_ ?_ ?_ (r.drew _)
  ·refine ⟨ro, hT, ?_, ⟨fun _ _ _ _ _ => ⟨fun q => q.elim, fun _ => rfl⟩, fun _ _ => rfl⟩, ⟨fun _ _ _ _ _ => ⟨fun q => q.elim, fun _ => rfl⟩, fun _ _ => rfl⟩,
    fun _ q => q.elim, fun _ _ q => q.elim, fun _ _ _ q => q.elim, VS.toB snd _ _ (fun _ _ q => q.elim) (schedule_VS ro _ _), hcv⟩
   intro x a hx
   have hl : ∀ o ∈ ops.toList, ∀ d, o.dst = some d → d < 1000000 := by
    intro o ho d hd
    obtain ⟨i, hi, rfl⟩ := List.getElem_of_mem ho
    exact ro.dst i _ d (by simp at hi; simp [hi]) hd
   obtain ⟨q1, q2⟩ := eraseT_get hb ops.toList t x a hl hx
   exact ⟨q1, fun i o ho => q2 o (Array.mem_toList_iff.2 (Array.mem_of_getElem? ho))⟩
  ·intro i _ q; exact q.elim
  ·intro f hf; cases hf
end
end Go.AbsE

set_option linter.unusedSimpArgs false
namespace Go.AbsE
open Go
section
variable {P : Program} {w0 : Base} {b : Frame} {n : Nat} {cs : List Frame}
theorem runOps_cons (all : Array Oper) (o : Oper) (rest : List Oper) (i : Nat) (t : Tr AVal) (h : AH) :
  runOps P n all (o :: rest) i t h = (guardP P n i all o rest (runOpsP P n all rest (i + 1))).run t h (wantedA all t o) := by
 show (opP P n i all o rest (runOpsP P n all rest (i + 1))).run t h = _
 unfold opP
 split
 ·rename_i hg
  have : wantedA all t o = some true := by simp [wantedA, hg]
  rw [this]
  rfl
 ·rfl
variable (hb : b.mode = .run)
include hb
theorem runOps_sim (all : Array Oper) : ∀ (ops : List Oper) (i : Nat) (e : Env) (t : Tr AVal) (h : AH) (T : Array Value) (W : World) (K : List Item), ops = all.toList.drop i →
  TRel e n t T → HR P w0 e h W → RS P w0 b n cs e (lone (Frame.w b T (.inRegion all (List.range' i (all.size - i)) :: K)) cs W) K (runOps P n all ops i t h) := by
 intro ops
 induction ops with
 | nil =>
  intro i e t h T W K ho hT hr
  have hlen : all.size - i = 0 := by
   have := congrArg List.length ho
   simp at this
   omega
  rw [hlen]
  exact ⟨e, T, W, .one (st_region_end hb), Env.le_refl e, hT, hr⟩
 | cons o rest ih =>
  intro i e t h T W K ho hT hr
  have hlen : i < all.size := by
   have := congrArg List.length ho
   simp at this
   omega
  have hdrop : all.toList.drop i = all.toList[i]'(by simpa using hlen) :: all.toList.drop (i + 1) := List.drop_eq_getElem_cons _
  rw [hdrop] at ho
  injection ho with ho1 ho2
  have hoi : all[i]? = some o := by rw [ho1]; simp [hlen]
  have hrange : List.range' i (all.size - i) = i :: List.range' (i + 1) (all.size - (i + 1)) := by
   rw [show all.size - i = (all.size - (i + 1)) + 1 from by omega, List.range'_succ]
  rw [runOps_cons]
  cases hw : wantedA all t o with
  | none => trivial
  | some w =>
   have hwr := wanted_rel hT hw
   cases w with
   | false =>
    show RS P w0 b n cs e _ K ((contP i (runOpsP P n all rest (i + 1))).run h ((prepD n o).run t undefA))
    cases hd : (prepD n o).run t undefA with
    | none => trivial
    | some t' =>
     rw [hrange]
     refine RS.head (.one (st_op_skip hb hoi hwr)) (Env.le_refl e) ?_
     exact ih (i + 1) e t' h _ W K ho2 (prepD_rel hT (.tuple .nil) hd) hr
   | true =>
    show RS P w0 b n cs e _ K ((afterP n i all o rest (runOpsP P n all rest (i + 1))).run t (aOp P t h o))
    cases hx : aOp P t h o with
    | none => trivial
    | some x =>
     have hsim := aOp_sim hr hT hx
     have susp : (∀ v h', x ≠ .val v h') → RS P w0 b n cs e (lone (Frame.w b T (.inRegion all (List.range' i (all.size - i)) :: K)) cs W) K (.susp [.inRegion all i (o :: rest)] t x) := by
      intro hne
      have hor : o :: rest = all.toList.drop i := by rw [hdrop, ho1, ho2]
      exact ⟨e, T, W, [.inRegion all (List.range' i (all.size - i))], Steps.refl _ _, Env.le_refl e, hT, .plain (.cons (.inRegion hor) .nil),
       all, i, o, List.range' (i + 1) (all.size - (i + 1)), [], h, by rw [hrange], hoi, hwr, hr, hsim, hne⟩
     cases x with
     | val v h' =>
      show RS P w0 b n cs e _ K ((contP i (runOpsP P n all rest (i + 1))).run h' ((prepD n o).run t v))
      obtain ⟨e', V, W', h1, h2, h3, h4⟩ := hsim
      cases hd : (prepD n o).run t v with
      | none => trivial
      | some t' =>
       rw [hrange]
       refine RS.head (.one (st_value hb hoi hwr h1)) h2 ?_
       exact ih (i + 1) e' t' h' _ W' K ho2 (prepD_rel (hT.mono h2) h3 hd) h4
     | enter f args h' => exact susp (fun _ _ q => by cases q)
     | round l args h' => exact susp (fun _ _ q => by cases q)
     | defer d h' => exact susp (fun _ _ q => by cases q)
     | recover h' => exact susp (fun _ _ q => by cases q)
     | panic v h' => exact susp (fun _ _ q => by cases q)
theorem RS.under {e : Env} {M0 : Machine} {K : List Item} {it : AItem} {IT : Item} (hit : ∀ e', Env.le e e' → IR e' it IT) (hex : ∀ id, exitTo id (IT :: K) = exitTo id K) {r : R}
  (h : RS P w0 b n cs e M0 (IT :: K) r) (hn : ∀ t h, r ≠ .norm t h) :
  RS P w0 b n cs e M0 K (match r with | .susp k t x => .susp (k ++ [it]) t x | .slow k t h => .slow (k ++ [it]) t h | r => r) := by
 have _ := hb
 cases r with
 | norm t hh => exact absurd rfl (hn _ _)
 | exit id t hh =>
  obtain ⟨e', T, W, J, h1, h2, h3, h4⟩ := h
  refine ⟨e', T, W, J ++ [IT], by simpa using h1, ?_, h3, h4⟩
  rw [List.append_assoc]
  simp only [List.singleton_append]
  rw [h2, hex]
 | ret t hh => obtain ⟨e', T, W, J, h1, h2⟩ := h; exact ⟨e', T, W, J, h1, h2⟩
 | susp k t x =>
  obtain ⟨e', T, W, J, h1, h2, h3, h4, h5⟩ := h
  exact ⟨e', T, W, J ++ [IT], by simpa using h1, h2, h3, h4.append (.cons (hit e' h2) .nil), h5.append⟩
 | slow k t hh =>
  obtain ⟨e', T, W, J, h1, h2, h3, h4, h5⟩ := h
  exact ⟨e', T, W, J ++ [IT], by simpa using h1, h2, h3, h4.append (.cons (hit e' h2) .nil), h5⟩
 | stuck i => trivial
theorem loop_sim {body : Code} {f : PF} (hf : ∀ (e : Env) (t : Tr AVal) (h : AH) (T : Array Value) (W : World) (K : List Item), TRel e n t T → HR P w0 e h W →
   RS P w0 b n cs e (lone (Frame.w b T (.code body :: K)) cs W) K (f.run t h)) :
  ∀ (fuel : Nat) (e : Env) (t : Tr AVal) (h : AH) (T : Array Value) (W : World) (K : List Item), TRel e n t T → HR P w0 e h W →
   RS P w0 b n cs e (lone (Frame.w b T (.code body :: .inLoop body :: K)) cs W) K (loopN body f fuel t h) := by
 intro fuel
 induction fuel with
 | zero => intros; trivial
 | succ fuel ih =>
  intro e t h T W K hT hr
  have h1 := hf e t h T W (.inLoop body :: K) hT hr
  show RS P w0 b n cs e _ K (loopR body (loopN body f fuel) (f.run t h))
  generalize f.run t h = r at h1
  cases r with
  | norm t' h' =>
   obtain ⟨e', T', W', s1, s2, s3, s4⟩ := h1
   exact RS.head (s1.trans (.one (st_inLoop hb))) s2 (ih e' t' h' T' W' K s3 s4)
  | exit id t' h' => exact RS.under hb (it := .inLoop body) (fun _ _ => .inLoop body) (fun _ => rfl) h1 (fun _ _ q => by cases q)
  | ret t' h' => exact RS.under hb (it := .inLoop body) (fun _ _ => .inLoop body) (fun _ => rfl) h1 (fun _ _ q => by cases q)
  | susp k t' x => exact RS.under hb (it := .inLoop body) (fun _ _ => .inLoop body) (fun _ => rfl) h1 (fun _ _ q => by cases q)
  | slow k t' h' => exact RS.under hb (it := .inLoop body) (fun _ _ => .inLoop body) (fun _ => rfl) h1 (fun _ _ q => by cases q)
  | stuck i => trivial
theorem den_sim : ∀ (c : Code) (e : Env) (t : Tr AVal) (h : AH) (T : Array Value) (W : World) (K : List Item), TRel e n t T → HR P w0 e h W →
  RS P w0 b n cs e (lone (Frame.w b T (.code c :: K)) cs W) K ((den P n c).run t h) := by
 intro c
 induction c with
 | skip => intro e t h T W K hT hr; exact ⟨e, T, W, .one (st_skip hb), Env.le_refl e, hT, hr⟩
 | label l => intro e t h T W K hT hr; exact ⟨e, T, W, .one (st_label hb), Env.le_refl e, hT, hr⟩
 | goto l => intros; trivial
 | refuse w => intros; trivial
 | ret => intro e t h T W K hT hr; exact ⟨e, T, W, K, Steps.refl _ _, Env.le_refl e, hT, hr⟩
 | exit id => intro e t h T W K hT hr; exact ⟨e, T, W, [], Steps.refl _ _, rfl, Env.le_refl e, hT, hr⟩
 | rangeFunc f ps as body _ _ => intro e t h T W K hT hr; exact ⟨e, T, W, [.code (.rangeFunc f ps as body)], Steps.refl _ _, Env.le_refl e, hT, .cons (.code _) .nil, hr⟩
 | region id ops draw =>
  intro e t h T W K hT hr
  cases draw with
  | true => exact runDrawn_sim hb hT hr
  | false =>
   show RS P w0 b n cs e _ K (runOps P n ops ops.toList 0 t h)
   refine RS.head (.one (st_region hb)) (Env.le_refl e) ?_
   have := runOps_sim (P := P) (w0 := w0) (n := n) (cs := cs) hb ops ops.toList 0 e t h T W K (by simp) hT hr
   rwa [Nat.sub_zero, ← List.range_eq_range'] at this
 | seq x y ihx ihy =>
  intro e t h T W K hT hr
  have h1 := ihx e t h T W (.code y :: K) hT hr
  refine RS.head (.one (st_seq hb)) (Env.le_refl e) ?_
  show RS P w0 b n cs e _ K (seqR y (den P n y) ((den P n x).run t h))
  generalize (den P n x).run t h = r at h1
  cases r with
  | norm t' h' =>
   obtain ⟨e', T', W', s1, s2, s3, s4⟩ := h1
   exact RS.head s1 s2 (ihy e' t' h' T' W' K s3 s4)
  | exit id t' h' => exact RS.under hb (it := .code y) (fun _ _ => .code y) (fun _ => rfl) h1 (fun _ _ q => by cases q)
  | ret t' h' => exact RS.under hb (it := .code y) (fun _ _ => .code y) (fun _ => rfl) h1 (fun _ _ q => by cases q)
  | susp k t' x => exact RS.under hb (it := .code y) (fun _ _ => .code y) (fun _ => rfl) h1 (fun _ _ q => by cases q)
  | slow k t' h' => exact RS.under hb (it := .code y) (fun _ _ => .code y) (fun _ => rfl) h1 (fun _ _ q => by cases q)
  | stuck i => trivial
 | cond c x y ihx ihy =>
  intro e t h T W K hT hr
  show RS P w0 b n cs e _ K (condR (den P n x) (den P n y) t h (ev t c))
  cases hc : ev t c with
  | none => trivial
  | some a =>
   have hv := ev_rel hT hc
   cases a with
   | bool q =>
    generalize hC : opd T c = C at hv
    cases hv
    refine RS.head (.one (st_cond hb hC)) (Env.le_refl e) ?_
    cases q with
    | true => exact ihx e t h T W K hT hr
    | false => exact ihy e t h T W K hT hr
   | _ => trivial
 | block id c ih =>
  intro e t h T W K hT hr
  have h1 := ih e t h T W (.inBlock id :: K) hT hr
  refine RS.head (.one (st_block hb)) (Env.le_refl e) ?_
  show RS P w0 b n cs e _ K (blockR id ((den P n c).run t h))
  generalize (den P n c).run t h = r at h1
  cases r with
  | norm t' h' =>
   obtain ⟨e', T', W', s1, s2, s3, s4⟩ := h1
   exact ⟨e', T', W', s1.trans (.one (st_inBlock hb)), s2, s3, s4⟩
  | exit id' t' h' =>
   obtain ⟨e', T', W', J, s1, s2, s3, s4, s5⟩ := h1
   show RS P w0 b n cs e _ K (cond (Nat.beq id id') (.norm t' h') (.exit id' t' h'))
   cases hq : Nat.beq id id' with
   | true =>
    have := Nat.eq_of_beq_eq_true hq
    subst this
    refine ⟨e', T', W', s1.trans (.one (st_exit hb ?_)), s3, s4, s5⟩
    rw [s2]; simp [exitTo]
   | false =>
    have hne := Nat.ne_of_beq_eq_false hq
    refine ⟨e', T', W', J ++ [.inBlock id], by simpa using s1, ?_, s3, s4, s5⟩
    rw [List.append_assoc]
    simp only [List.singleton_append]
    rw [s2]
    simp [exitTo, hne]
  | ret t' h' => obtain ⟨e', T, W, J, h1, h2⟩ := h1; exact ⟨e', T, W, J, h1, h2⟩
  | susp k t' x =>
   obtain ⟨e', T, W, J, h1, h2, h3, h4, h5⟩ := h1
   exact ⟨e', T, W, J ++ [.inBlock id], by simpa using h1, h2, h3, h4.append (.cons (.inBlock id) .nil), h5.append⟩
  | slow k t' h' =>
   obtain ⟨e', T, W, J, h1, h2, h3, h4, h5⟩ := h1
   exact ⟨e', T, W, J ++ [.inBlock id], by simpa using h1, h2, h3, h4.append (.cons (.inBlock id) .nil), h5⟩
  | stuck i => trivial
 | loop body ih =>
  intro e t h T W K hT hr
  refine RS.head (.one (st_loop hb)) (Env.le_refl e) ?_
  have hd : (den P n (.loop body)).run t h = loopN body (den P n body) loopFuel t h := by
   unfold den loopAll
   rfl
  rw [hd]
  generalize loopFuel = fuel
  exact loop_sim hb ih fuel e t h T W K hT hr
 | scope body ih =>
  intro e t h T W K hT hr
  have h1 := ih e t h T W (.inScope body :: K) hT hr
  refine RS.head (.one (st_scope hb)) (Env.le_refl e) ?_
  show RS P w0 b n cs e _ K (scopeR body ((den P n body).run t h))
  generalize (den P n body).run t h = r at h1
  cases r with
  | norm t' h' =>
   obtain ⟨e', T', W', s1, s2, s3, s4⟩ := h1
   exact ⟨e', T', W', s1.trans (.one (st_inScope hb)), s2, s3, s4⟩
  | exit id t' h' => exact RS.under hb (it := .inScope body) (fun _ _ => .inScope body) (fun _ => rfl) h1 (fun _ _ q => by cases q)
  | ret t' h' => exact RS.under hb (it := .inScope body) (fun _ _ => .inScope body) (fun _ => rfl) h1 (fun _ _ q => by cases q)
  | susp k t' x => exact RS.under hb (it := .inScope body) (fun _ _ => .inScope body) (fun _ => rfl) h1 (fun _ _ q => by cases q)
  | slow k t' h' => exact RS.under hb (it := .inScope body) (fun _ _ => .inScope body) (fun _ => rfl) h1 (fun _ _ q => by cases q)
  | stuck i => trivial
end
end Go.AbsE
