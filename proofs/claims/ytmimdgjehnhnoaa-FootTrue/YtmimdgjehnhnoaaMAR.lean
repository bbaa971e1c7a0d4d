import Derived.Test.YtmimdgjehnhnoaaMAQ
import Derived.Test.YtmimdgjehnhnoaaMAM
import Derived.Test.YtmimdgjehnhnoaaMAG
import Derived.Test.YtmimdgjehnhnoaaMAH
import Derived.Test.YtmimdgjehnhnoaaMAN
namespace Go.Proofs.Ytmimdgjehnhnoaa
open Go Go.AbsE
set_option linter.unusedSimpArgs false
set_option maxRecDepth 100000
set_option maxHeartbeats 0
set_option linter.unusedVariables false
def Sooner (x q : Pl) : Prop := x.c < q.c ∨ (x.c = q.c ∧ (x = q ∨ x.lt q))
theorem firstV_is {p : Pl → Bool} : ∀ (Q P : List Pl) (st : Option Pl), (P ++ Q).Pairwise Pl.lt →
  (match st with | none => ∀ q, q ∈ P → p q = false | some x => x ∈ P ∧ p x = true ∧ ∀ q, q ∈ P → p q = true → Sooner x q) →
  (match Q.foldl (stepV p) st with | none => ∀ q, q ∈ P ++ Q → p q = false | some x => x ∈ P ++ Q ∧ p x = true ∧ ∀ q, q ∈ P ++ Q → p q = true → Sooner x q) := by
 intro Q
 induction Q with
 | nil => intro P st _ h; rw [List.append_nil]; exact h
 | cons y Q ih =>
  intro P st hs h
  rw [List.foldl_cons]
  have e : P ++ y :: Q = (P ++ [y]) ++ Q := by simp
  rw [e];rw [e] at hs;refine ih (P ++ [y]) _ hs ?_
  have hlt : ∀ x, x ∈ P → x.lt y := fun x hx => (List.pairwise_append.1 (List.pairwise_append.1 hs).1).2.2 x hx y (by simp)
  unfold stepV
  cases hy : p y with
  | false =>
   rw [if_neg (by simp)]
   cases st with
   | none =>
    intro q hq
    rcases List.mem_append.1 hq with hq | hq
    ·exact h q hq
    ·rw [show q = y by simpa using hq]; exact hy
   | some x =>
    refine ⟨List.mem_append.2 (.inl h.1), h.2.1, fun q hq hp => ?_⟩
    rcases List.mem_append.1 hq with hq | hq
    ·exact h.2.2 q hq hp
    ·rw [show q = y by simpa using hq, hy] at hp; cases hp
  | true =>
   rw [if_pos rfl]
   cases st with
   | none =>
    refine ⟨by simp, hy, fun q hq hp => ?_⟩
    rcases List.mem_append.1 hq with hq | hq
    ·rw [h q hq] at hp; cases hp
    ·rw [show q = y by simpa using hq]; exact .inr ⟨rfl, .inl rfl⟩
   | some x =>
    by_cases hc : y.c < x.c
    ·simp only [if_pos hc]
     refine ⟨by simp, hy, fun q hq hp => ?_⟩
     rcases List.mem_append.1 hq with hq | hq
     ·have := h.2.2 q hq hp
      unfold Sooner at this
      exact .inl (by omega)
     ·rw [show q = y by simpa using hq]; exact .inr ⟨rfl, .inl rfl⟩
    ·simp only [if_neg hc]
     refine ⟨List.mem_append.2 (.inl h.1), h.2.1, fun q hq hp => ?_⟩
     rcases List.mem_append.1 hq with hq | hq
     ·exact h.2.2 q hq hp
     ·rw [show q = y by simpa using hq]
      by_cases c : x.c = y.c
      ·exact .inr ⟨c, .inr (hlt x h.1)⟩
      ·exact .inl (by omega)
theorem soon_some {F : FootV} {T : Bool} {i : Nat} {s : Pl} (h : F.soon T i = some s) : s ∈ wholeL F.rs.length ∧ F.Kept T i s ∧ ∀ q, q ∈ wholeL F.rs.length → F.Kept T i q → Sooner s q := by
 have := firstV_is (p := fun p => decide (F.Kept T i p)) (wholeL F.rs.length) [] none (by rw [List.nil_append]; exact whole_sorted _) (fun q hq => by cases hq)
 rw [List.nil_append] at this
 unfold FootV.soon firstV at h
 rw [h] at this;exact ⟨this.1, of_decide_eq_true this.2.1, fun q hq hk => this.2.2 q hq (decide_eq_true hk)⟩
theorem soon_none {F : FootV} {T : Bool} {i : Nat} (h : F.soon T i = none) : ∀ q, q ∈ wholeL F.rs.length → ¬ F.Kept T i q := by
 have := firstV_is (p := fun p => decide (F.Kept T i p)) (wholeL F.rs.length) [] none (by rw [List.nil_append]; exact whole_sorted _) (fun q hq => by cases hq)
 rw [List.nil_append] at this
 unfold FootV.soon firstV at h
 rw [h] at this;exact fun q hq => of_decide_eq_false (this q hq)
theorem soon_of {F : FootV} {T : Bool} {i : Nat} {q : Pl} (hq : q ∈ wholeL F.rs.length) (hk : F.Kept T i q) : ∃ s, F.soon T i = some s := by
 cases e : F.soon T i with
 | none => exact absurd hk (soon_none e q hq)
 | some s => exact ⟨s, rfl⟩
theorem set_test {F : FootV} {T : Bool} : ∀ (n i : Nat), (F.set T n).testBit i = (decide (i < n) && (F.soon T i).isSome)
 | 0, i => by simp [FootV.set]
 | n + 1, i => by
  have ih := set_test (F := F) (T := T) n i
  unfold FootV.set
  split
  ·rename_i h
   rw [Nat.testBit_or, ih, Nat.testBit_two_pow]
   by_cases c : i = n
   ·subst c
    simp [h]
   ·have e1 : decide (n = i) = false := decide_eq_false (by omega)
    have e2 : decide (i < n + 1) = decide (i < n) := decide_eq_decide.2 (by omega)
    rw [e1, e2, Bool.or_false]
  ·rename_i h
   rw [ih]
   by_cases c : i = n
   ·subst c
    simp [h]
   ·have e2 : decide (i < n + 1) = decide (i < n) := decide_eq_decide.2 (by omega)
    rw [e2]
theorem set_bit {F : FootV} {T : Bool} {n i : Nat} (hi : i < n) : F.set T n / 2 ^ i % 2 = if (F.soon T i).isSome then 1 else 0 := by
 have := set_test (F := F) (T := T) n i
 rw [Nat.testBit_eq_decide_div_mod_eq, decide_eq_true hi, Bool.true_and] at this
 split
 ·rename_i h
  rw [h] at this;exact of_decide_eq_true this
 ·rename_i h
  have h : (F.soon T i).isSome = false := by simpa using h
  rw [h] at this
  have := of_decide_eq_false this
  omega
theorem ord_whole {n : Nat} {p : Pl} (h : p.Ord n) (h0 : wholeP p) : p ∈ wholeL n := by
 unfold Pl.Ord at h
 unfold wholeP at h0
 exact whole_mem.2 (by omega)
end Go.Proofs.Ytmimdgjehnhnoaa

namespace Go.Proofs.Ytmimdgjehnhnoaa
open Go Go.AbsE
set_option linter.unusedSimpArgs false
set_option maxRecDepth 100000
set_option maxHeartbeats 0
set_option linter.unusedVariables false
theorem bit_fdiv (a k : Nat) : ((a : Nat) : Int).fdiv (2 ^ k) = ((a / 2 ^ k : Nat) : Int) := by
 rw [Int.fdiv_eq_ediv_of_nonneg _ (by exact_mod_cast Nat.zero_le _)]
 norm_cast
theorem bit_mod (a : Nat) : ((a : Nat) : Int) % 2 = ((a % 2 : Nat) : Int) := rfl
theorem Whole_is {a b c : Int} {r : Bool} (hr : decide (0 ≤ a ∧ 0 ≤ b ∧ 0 ≤ c) = r) {h : AH} : Runs Try.prog 30 [.agg [.int .i64 a, .int .i64 b, .int .i64 c]] h (fun en h' => en = .ret (.bool r) ∧ Ext h h') := by
 rw [← hr]
 exact Whole_ok
theorem Can_ord {F : FootV} (O : F.Ok) {k : Nat} (hk : k < F.hs.length) {p : Pl} (hp : p.Ord F.rs.length) {rsl hsl : AVal} {h : AH} (A : FootAt h F rsl hsl) :
  Runs Try.prog 16 [.agg (F.cells rsl hsl), .int .i64 (k : Nat), .agg p.cells] h (fun en h' => en = .ret (.tuple [.int .i64 (F.can k p), .int .i64 0]) ∧ Ext h h') := by
 have h1 := O.nr
 have h2 := O.nh
 have := Can_ok A (by omega) (by omega) (k : Nat) p
 unfold FootV.canR at this
 rw [if_pos O, if_pos ⟨by omega, hp⟩, Int.toNat_natCast] at this;exact this
end Go.Proofs.Ytmimdgjehnhnoaa

namespace Go.Proofs.Ytmimdgjehnhnoaa
open Go Go.AbsE
set_option linter.unusedSimpArgs false
set_option maxRecDepth 100000
set_option maxHeartbeats 0
set_option linter.unusedVariables false
def FootV.tw (F : FootV) (R : List Int) (x : Int) (p : Pl) : Nat → Int
 | 0 => x
 | d + 1 => if doneV p d ≤ 2 then max 0 (F.tw R x p d + ((R[d]?).getD 0 - F.dr (doneV p d))) else F.tw R x p d
theorem done_step {n : Int} {p : Pl} (hp : p.Ord n) (d : Nat) : doneV p d = doneV p ((d : Int) - 1) + (if (doneV p ((d : Int) - 1) = 0 ∧ p.a = d) ∨ (doneV p ((d : Int) - 1) = 1 ∧ p.b = d) ∨ (doneV p ((d : Int) - 1) = 2 ∧ p.c = d) then 1 else 0) := by
 unfold Pl.Ord at hp
 have key : ∀ x : Int, (if 0 ≤ x ∧ x ≤ (d : Int) then (1 : Int) else 0) = (if 0 ≤ x ∧ x ≤ (d : Int) - 1 then (1 : Int) else 0) + (if x = d then 1 else 0) := by
  intro x
  split <;> split <;> split <;> omega
 unfold doneV
 rw [key p.a, key p.b, key p.c]
 obtain ⟨A, hA⟩ : ∃ A : Int, (if 0 ≤ p.a ∧ p.a ≤ (d : Int) - 1 then (1 : Int) else 0) = A := ⟨_, rfl⟩
 obtain ⟨B, hB⟩ : ∃ A : Int, (if 0 ≤ p.b ∧ p.b ≤ (d : Int) - 1 then (1 : Int) else 0) = A := ⟨_, rfl⟩
 obtain ⟨C, hC⟩ : ∃ A : Int, (if 0 ≤ p.c ∧ p.c ≤ (d : Int) - 1 then (1 : Int) else 0) = A := ⟨_, rfl⟩
 rw [hA, hB, hC]
 have hA' : (A = 1 ∧ 0 ≤ p.a ∧ p.a ≤ (d : Int) - 1) ∨ (A = 0 ∧ ¬ (0 ≤ p.a ∧ p.a ≤ (d : Int) - 1)) := by rw [← hA]; split <;> simp_all
 have hB' : (B = 1 ∧ 0 ≤ p.b ∧ p.b ≤ (d : Int) - 1) ∨ (B = 0 ∧ ¬ (0 ≤ p.b ∧ p.b ≤ (d : Int) - 1)) := by rw [← hB]; split <;> simp_all
 have hC' : (C = 1 ∧ 0 ≤ p.c ∧ p.c ≤ (d : Int) - 1) ∨ (C = 0 ∧ ¬ (0 ≤ p.c ∧ p.c ≤ (d : Int) - 1)) := by rw [← hC]; split <;> simp_all
 clear hA hB hC key
 split <;> split <;> split <;> split <;> omega
theorem tw_in {F : FootV} (O : F.Ok) {R : List Int} (hR : ∀ x, x ∈ R → 0 ≤ x ∧ x ≤ 10) {x : Int} (hx : 0 ≤ x ∧ x ≤ 60) {p : Pl} : ∀ d : Nat, 0 ≤ F.tw R x p d ∧ F.tw R x p d ≤ 60 + 10 * d
 | 0 => by unfold FootV.tw; omega
 | d + 1 => by
  have ih := tw_in O hR hx (p := p) d
  have hd := dr_in O (doneV p d)
  have hr : 0 ≤ (R[d]?).getD 0 ∧ (R[d]?).getD 0 ≤ 10 := by
   cases e : R[d]? with
   | none => simp
   | some y => exact hR y (List.mem_of_getElem? e)
  unfold FootV.tw
  split <;> omega
def ints (l : List Int) : List (List AVal) := l.map fun x => [AVal.int .i64 x]
theorem ints_at {l : List Int} {i : Nat} {x : Int} (h : l[i]? = some x) : (ints l)[i]? = some [.int .i64 x] := by
 unfold ints
 rw [List.getElem?_map, h]
 rfl
theorem ints_len (l : List Int) : (ints l).length = l.length := by unfold ints; rw [List.length_map]
theorem twet_ok {F : FootV} (O : F.Ok) {R fl : List Int} (hR : R.length = F.rs.length) (hRb : ∀ x, x ∈ R → 0 ≤ x ∧ x ≤ 10) {i : Nat} {x : Int} (hx : fl[i]? = some x) (hxb : 0 ≤ x ∧ x ≤ 60) {p : Pl} (hp : p.Ord F.rs.length)
  {rs fs rsl hsl : AVal} {h g : AH} (A : FootAt g F rsl hsl) (hrs : SliceOf h 1 rs (ints R)) (hfs : SliceOf h 1 fs (ints fl)) :
  Runs Try.prog 27 [.agg [rs, fs], .agg (F.cells rsl hsl), .int .i64 i, .agg p.cells] h (fun en h' => ∃ s, en = .ret s ∧ Ext h h' ∧ SliceOf h' 1 s (ints ((List.range (F.rs.length + 1)).map (F.tw R x p))) ∧ sameA s s = true) := by
 have hnr := O.nr
 have hl1 := hrs.len
 have hl2 := hfs.len
 rw [ints_len] at hl1 hl2
 have hil := (List.getElem?_eq_some_iff.1 hx).1
 obtain ⟨bq, off, q1, q2⟩ := hfs.at (ints_at hx)
 rw [ints_len] at q1
 have hsc := foot_scal A F.men
 have hsc2 : scalars [rs, fs] = true := by
  unfold scalars
  rw [scal_one' hrs.scal.1]
  simp only [scalars, scal_one' hfs.scal.1, cond_true]
 unfold FootV.cells Pl.cells
 have e0 : Ext h h := Ext.refl _
 refine Runs.intro aFunc27 rfl rfl rfl rfl fun rest => ?_;apply gS;refine gR rfl ?_;refine GoR.box rfl rfl rfl rfl rfl rfl fun h0 x0 f0 => ?_;have := e0.1;replace e0 := e0.trans x0;have := f0.1;refine GoR.box rfl rfl rfl rfl rfl rfl fun h1 x1 f1 => ?_;have := e0.1;have := f0.1;replace f0 := f0.ext x1;replace e0 := e0.trans x1;have := f1.1;refine GoR.box rfl rfl rfl rfl rfl rfl fun h2 x2 f2 => ?_;have := e0.1;have := f1.1;have := f0.1;replace f1 := f1.ext x2;replace f0 := f0.ext x2;replace e0 := e0.trans x2;have := f2.1;refine gP ?_;apply gE;apply gS;refine gR rfl ?_;refine gO rfl rfl (fa51_1 rfl) rfl ?_;refine gO rfl rfl (ld49 rfl f0 rfl) rfl ?_;refine gP ?_;refine gO rfl rfl (aOp_indexAddr (i := i) Try.underlying49 sz3 rfl q1 rfl (Nat.ble_eq_true_of_le hil)) rfl ?_;refine gO rfl rfl (aOp_loadE1 (k := 0) ag3 rfl (q2.ext e0) rfl) rfl ?_;iterate 2 refine gP ?_
 apply gE;apply gS;refine gR rfl ?_;iterate 2 refine gP ?_
 refine GoR.buildSl rfl rfl (ps := [(0, .int .i64 x)]) (cs := [.int .i64 x]) Try.underlying49 rfl sz3 zt3 rfl rfl rfl rfl fun h3 x3 f3 => ?_;have := e0.1;have := f2.1;have := f1.1;have := f0.1;replace f2 := f2.ext x3;replace f1 := f1.ext x3;replace f0 := f0.ext x3;replace e0 := e0.trans x3;have := f3.1
 have G0 := Grow.nil h3 3 1 h.next
 refine GoR.append1F (lo := h.next) (s := .nilslice) rfl rfl rfl Try.underlying49 Try.underlying49 sz3 by3 zt3 rfl rfl rfl rfl f3 rfl rfl G0 (by omega) rfl rfl fun s6 h59 y59 g59 => ?_
 have z0 : Ext h h59 := y59.low e0 (fun b q => by cases q)
 have z1 : Has h59 h0.next (.cells .plain [rsl, .int .i64 F.men, .int .i64 F.l0, .int .i64 F.l1, .int .i64 F.l2, .int .i64 F.d0, .int .i64 F.d1, .int .i64 F.d2, hsl] 26) := f1.extF y59 (fun q => by cases q)
 have z2 : Has h59 h1.next (.cells .plain [.int .i64 p.a, .int .i64 p.b, .int .i64 p.c] 27) := f2.extF y59 (fun q => by cases q)
 have z3 : Has h59 h.next (.cells .plain [rs, fs] 51) := f0.extF y59 (fun q => by cases q)
 have g60 := g59.low (lo' := h.next) (by have := e0.1; omega)
 have n0 := x0.1
 have n1 := f1.1
 have n2 := f2.1
 clear e0 f0 f1 f2 f3
 have d0 : doneV p (((0 : Nat) : Int) - 1) = 0 := by unfold doneV; rw [if_neg (by omega), if_neg (by omega), if_neg (by omega)]; rfl
 have e0 := z0
 have f0 := z3
 refine gP ?_;apply gE;iterate 2 apply gS
 refine gR rfl ?_;refine gO rfl rfl (fa51_0 rfl) rfl ?_;refine gO rfl rfl (ld49 rfl f0 rfl) rfl ?_;refine gO rfl rfl (aOp_lenSlice Try.underlying49 rfl hl1) rfl ?_;refine gP ?_;apply gE;refine Go.block noJ_ok ?_
 refine Go.loopKeep (fun a : Nat × AVal => [(5, .ptr h0.next 0), (7, .ptr h1.next 0), (8, a.2), (9, .int .i64 (F.tw R x p a.1)), (10, .int .i64 (doneV p ((a.1 : Int) - 1))), (23, rs), (24, .int .i64 R.length), (25, .int .i64 (a.1 : Nat))])
  (fun m a h' => m + a.1 = R.length ∧ Ext h h' ∧ Has h' h0.next (.cells .plain [rsl, .int .i64 F.men, .int .i64 F.l0, .int .i64 F.l1, .int .i64 F.l2, .int .i64 F.d0, .int .i64 F.d1, .int .i64 F.d2, hsl] 26) ∧ Has h' h1.next (.cells .plain [.int .i64 p.a, .int .i64 p.b, .int .i64 p.c] 27) ∧ Grow h' 3 1 h.next a.2 (a.1 + 1) (i64s ((List.range (a.1 + 1)).map (F.tw R x p))) ∧ (∀ b, a.2 = .gsl b 0 0 (a.1 + 1) → b ≠ h0.next ∧ b ≠ h1.next))
  (n := R.length) (0, s6) ⟨rfl, rfl, rfl, rfl, congrArg (fun z : Int => some (AVal.int .i64 z)) d0.symm, rfl, rfl, rfl, trivial⟩ ⟨rfl, e0, z1, z2, g60, fun b q => by have := (grow_own g59 q).1; omega⟩ ?_
 clear e0 f0 z0 z1 z2 z3 g59 g60 G0;rintro m ⟨d, sa⟩ h20 ⟨hm, e0, f1, f2, G, hb⟩ again
 dsimp only at hm G hb ⊢
 have hn9 := e0.1
 by_cases hd : d < R.length
 ·obtain ⟨r, hr⟩ : ∃ r, R[d]? = some r := ⟨R[d], by simp [hd]⟩
  have hrb := hRb r (List.mem_of_getElem? hr)
  obtain ⟨br, offr, r1, r2⟩ := hrs.at (ints_at hr)
  rw [ints_len] at r1
  have hst := done_step hp d
  have hdi := doneV_in p ((d : Int) - 1)
  have hdj := doneV_in p d
  have htw := tw_in O hRb hxb (p := p) d
  have hnext : F.tw R x p (d + 1) = if doneV p d ≤ 2 then max 0 (F.tw R x p d + (r - F.dr (doneV p d))) else F.tw R x p d := by
   show (if doneV p d ≤ 2 then max 0 (F.tw R x p d + ((R[d]?).getD 0 - F.dr (doneV p d))) else F.tw R x p d) = _
   rw [hr]
   rfl
  obtain ⟨w, hw⟩ : ∃ w, F.tw R x p d = w := ⟨_, rfl⟩
  obtain ⟨w2, hw2⟩ : ∃ w, F.tw R x p (d + 1) = w := ⟨_, rfl⟩
  obtain ⟨k1, hk1⟩ : ∃ k : Int, doneV p ((d : Int) - 1) = k := ⟨_, rfl⟩
  obtain ⟨k2, hk2⟩ : ∃ k : Int, doneV p d = k := ⟨_, rfl⟩
  rw [hw] at htw hnext;rw [hw2] at hnext;rw [hk1] at hst hdi;rw [hk2] at hst hdj hnext;rw [hw, hk1];apply gS;refine gR rfl ?_;refine gO rfl rfl (kLT rfl rfl) rfl ?_;apply gE;apply gS;refine gC (b := true) rfl ?_;refine gD ?_;apply gS;refine Go.block noJ_ok ?_;apply gS;refine gR rfl ?_;refine gP ?_;refine gO rfl rfl (aOp_indexAddr (i := d) Try.underlying49 sz3 rfl r1 rfl (Nat.ble_eq_true_of_le hd)) rfl ?_;refine gO rfl rfl (aOp_loadE1 (k := 0) ag3 rfl (r2.ext e0) rfl) rfl ?_;iterate 2 refine gP ?_
  apply gE
  have y9 : ExtF (fun _ => False) h20 h20 := .of (Ext.refl _)
  have e9 : Ext h20 h20 := Ext.refl _
  refine Go.seq noJ_ok (Go.join (fun _ : Unit => [(5, .ptr h0.next 0), (7, .ptr h1.next 0), (8, sa), (9, .int .i64 w), (10, .int .i64 k2), (12, .int .i64 r), (23, rs), (24, .int .i64 R.length), (25, .int .i64 (d : Nat))]) (fun _ h' => Ext h h' ∧ Has h' h0.next (.cells .plain [rsl, .int .i64 F.men, .int .i64 F.l0, .int .i64 F.l1, .int .i64 F.l2, .int .i64 F.d0, .int .i64 F.d1, .int .i64 F.d2, hsl] 26) ∧ Has h' h1.next (.cells .plain [.int .i64 p.a, .int .i64 p.b, .int .i64 p.c] 27) ∧ Grow h' 3 1 h.next sa (d + 1) (i64s ((List.range (d + 1)).map (F.tw R x p)))) ?_ ?_)
  ·intro k' done
   have fin : ∀ h', Ext h20 h' → Grow h' 3 1 h.next sa (d + 1) (i64s ((List.range (d + 1)).map (F.tw R x p))) := fun h' e => G.ext e
   have hc : (k1 = 0 ∧ ((p.a = d ∧ k2 = 1) ∨ (p.a ≠ d ∧ k2 = 0))) ∨ (k1 = 1 ∧ ((p.b = d ∧ k2 = 2) ∨ (p.b ≠ d ∧ k2 = 1))) ∨ (k1 = 2 ∧ ((p.c = d ∧ k2 = 3) ∨ (p.c ≠ d ∧ k2 = 2))) ∨ (k1 = 3 ∧ k2 = 3) := by
    split at hst <;> omega
   rcases hc with ⟨rfl, ⟨q, rfl⟩ | ⟨q, rfl⟩⟩ | ⟨rfl, ⟨q, rfl⟩ | ⟨q, rfl⟩⟩ | ⟨rfl, ⟨q, rfl⟩ | ⟨q, rfl⟩⟩ | ⟨rfl, rfl⟩
   ·apply gS;refine gR rfl ?_;refine gP ?_;refine gO rfl rfl (kLT rfl rfl) rfl ?_;iterate 2 refine gP ?_
    refine gO rfl rfl (aOp_indexAddrArr (i := 0) Try.underlying27 sz3 rfl rfl rfl) rfl ?_;refine gO rfl rfl (ld3 rfl f2 rfl) rfl ?_;refine gP ?_;refine gO rfl rfl (kET rfl rfl) rfl ?_;refine gP ?_;apply gE;refine gC (b := true) rfl ?_;refine gR rfl ?_;refine gP ?_;refine gO rfl rfl (aA rfl rfl) rfl ?_;refine gP ?_;apply gE;exact done () _ _ ⟨rfl, rfl, rfl, rfl, rfl, rfl, rfl, rfl, rfl, trivial⟩ ⟨e0, f1, f2, fin _ e9⟩
   ·apply gS;refine gR rfl ?_;refine gP ?_;refine gO rfl rfl (kLT rfl rfl) rfl ?_;iterate 2 refine gP ?_
    refine gO rfl rfl (aOp_indexAddrArr (i := 0) Try.underlying27 sz3 rfl rfl rfl) rfl ?_;refine gO rfl rfl (ld3 rfl f2 rfl) rfl ?_;refine gP ?_;refine gO rfl rfl (kEF rfl rfl) rfl ?_;refine gP ?_;apply gE;refine gC (b := false) rfl ?_;refine gD ?_;exact done () _ _ ⟨rfl, rfl, rfl, rfl, rfl, rfl, rfl, rfl, rfl, trivial⟩ ⟨e0, f1, f2, fin _ e9⟩
   ·apply gS;refine gR rfl ?_;refine gP ?_;refine gO rfl rfl (kLT rfl rfl) rfl ?_;iterate 2 refine gP ?_
    refine gO rfl rfl (aOp_indexAddrArr (i := 1) Try.underlying27 sz3 rfl rfl rfl) rfl ?_;refine gO rfl rfl (ld3 rfl f2 rfl) rfl ?_;refine gP ?_;refine gO rfl rfl (kET rfl rfl) rfl ?_;refine gP ?_;apply gE;refine gC (b := true) rfl ?_;refine gR rfl ?_;refine gP ?_;refine gO rfl rfl (aA rfl rfl) rfl ?_;refine gP ?_;apply gE;exact done () _ _ ⟨rfl, rfl, rfl, rfl, rfl, rfl, rfl, rfl, rfl, trivial⟩ ⟨e0, f1, f2, fin _ e9⟩
   ·apply gS;refine gR rfl ?_;refine gP ?_;refine gO rfl rfl (kLT rfl rfl) rfl ?_;iterate 2 refine gP ?_
    refine gO rfl rfl (aOp_indexAddrArr (i := 1) Try.underlying27 sz3 rfl rfl rfl) rfl ?_;refine gO rfl rfl (ld3 rfl f2 rfl) rfl ?_;refine gP ?_;refine gO rfl rfl (kEF rfl rfl) rfl ?_;refine gP ?_;apply gE;refine gC (b := false) rfl ?_;refine gD ?_;exact done () _ _ ⟨rfl, rfl, rfl, rfl, rfl, rfl, rfl, rfl, rfl, trivial⟩ ⟨e0, f1, f2, fin _ e9⟩
   ·apply gS;refine gR rfl ?_;refine gP ?_;refine gO rfl rfl (kLT rfl rfl) rfl ?_;iterate 2 refine gP ?_
    refine gO rfl rfl (aOp_indexAddrArr (i := 2) Try.underlying27 sz3 rfl rfl rfl) rfl ?_;refine gO rfl rfl (ld3 rfl f2 rfl) rfl ?_;refine gP ?_;refine gO rfl rfl (kET rfl rfl) rfl ?_;refine gP ?_;apply gE;refine gC (b := true) rfl ?_;refine gR rfl ?_;refine gP ?_;refine gO rfl rfl (aA rfl rfl) rfl ?_;refine gP ?_;apply gE;exact done () _ _ ⟨rfl, rfl, rfl, rfl, rfl, rfl, rfl, rfl, rfl, trivial⟩ ⟨e0, f1, f2, fin _ e9⟩
   ·apply gS;refine gR rfl ?_;refine gP ?_;refine gO rfl rfl (kLT rfl rfl) rfl ?_;iterate 2 refine gP ?_
    refine gO rfl rfl (aOp_indexAddrArr (i := 2) Try.underlying27 sz3 rfl rfl rfl) rfl ?_;refine gO rfl rfl (ld3 rfl f2 rfl) rfl ?_;refine gP ?_;refine gO rfl rfl (kEF rfl rfl) rfl ?_;refine gP ?_;apply gE;refine gC (b := false) rfl ?_;refine gD ?_;exact done () _ _ ⟨rfl, rfl, rfl, rfl, rfl, rfl, rfl, rfl, rfl, trivial⟩ ⟨e0, f1, f2, fin _ e9⟩
   ·apply gS;refine gR rfl ?_;refine gP ?_;refine gO rfl rfl (kLF rfl rfl) rfl ?_;refine gP ?_;iterate 5 refine GoR.skip rfl rfl rfl ?_
    refine gP ?_;apply gE;refine gC (b := false) rfl ?_;refine gD ?_;exact done () _ _ ⟨rfl, rfl, rfl, rfl, rfl, rfl, rfl, rfl, rfl, trivial⟩ ⟨e0, f1, f2, fin _ e9⟩
  clear e0 f1 f2 G y9 e9;rintro _ h30 ⟨e0, f1, f2, G⟩
  have hn10 := e0.1
  have hdo := O.d0
  have hd1 := O.d1
  have hd2 := O.d2
  refine Go.seq noJ_ok (Go.join (fun _ : Unit => [(5, .ptr h0.next 0), (7, .ptr h1.next 0), (8, sa), (9, .int .i64 w2), (10, .int .i64 k2), (23, rs), (24, .int .i64 R.length), (25, .int .i64 (d : Nat))]) (fun _ h' => Ext h h' ∧ Has h' h0.next (.cells .plain [rsl, .int .i64 F.men, .int .i64 F.l0, .int .i64 F.l1, .int .i64 F.l2, .int .i64 F.d0, .int .i64 F.d1, .int .i64 F.d2, hsl] 26) ∧ Has h' h1.next (.cells .plain [.int .i64 p.a, .int .i64 p.b, .int .i64 p.c] 27) ∧ Grow h' 3 1 h.next sa (d + 1) (i64s ((List.range (d + 1)).map (F.tw R x p)))) ?_ ?_)
  ·intro k' done
   have fin : ∀ h', Ext h30 h' → Grow h' 3 1 h.next sa (d + 1) (i64s ((List.range (d + 1)).map (F.tw R x p))) := fun h' e => G.ext e
   have e9 : Ext h30 h30 := Ext.refl _
   have hmx : ∀ a b : Int, (if 0 < a then a else 0) = b → some (AVal.int .i64 (if 0 < a then a else 0)) = some (.int .i64 b) := fun a b q => by rw [q]
   have hc : (k2 = 0 ∧ w2 = max 0 (w + (r - F.d0))) ∨ (k2 = 1 ∧ w2 = max 0 (w + (r - F.d1))) ∨ (k2 = 2 ∧ w2 = max 0 (w + (r - F.d2))) ∨ (k2 = 3 ∧ w2 = w) := by
    have : k2 = 0 ∨ k2 = 1 ∨ k2 = 2 ∨ k2 = 3 := by omega
    rcases this with rfl | rfl | rfl | rfl
    ·exact .inl ⟨rfl, hnext⟩
    ·exact .inr (.inl ⟨rfl, hnext⟩)
    ·exact .inr (.inr (.inl ⟨rfl, hnext⟩))
    ·exact .inr (.inr (.inr ⟨rfl, hnext⟩))
   rcases hc with ⟨rfl, q⟩ | ⟨rfl, q⟩ | ⟨rfl, q⟩ | ⟨rfl, q⟩
   ·apply gS;refine gR rfl ?_;refine gP ?_;refine gO rfl rfl (kLT rfl rfl) rfl ?_;apply gE;refine gC (b := true) rfl ?_;refine gR rfl ?_;iterate 2 refine gP ?_
    refine gO rfl rfl (aA rfl rfl) rfl ?_;refine gP ?_;refine gO rfl rfl (fa26_3 rfl) rfl ?_;refine gO rfl rfl (aOp_indexAddrArr (i := 0) Try.underlying23 sz3 rfl rfl rfl) rfl ?_;refine gO rfl rfl (ld3 rfl f1 rfl) rfl ?_;refine gO rfl rfl (aS rfl rfl) rfl ?_;refine gO rfl rfl (aOp_max2 rfl rfl rfl) rfl ?_;refine gP ?_;apply gE;exact done () _ _ ⟨rfl, rfl, rfl, hmx _ _ (by omega), rfl, rfl, rfl, rfl, trivial⟩ ⟨e0, f1, f2, fin _ e9⟩
   ·apply gS;refine gR rfl ?_;refine gP ?_;refine gO rfl rfl (kLT rfl rfl) rfl ?_;apply gE;refine gC (b := true) rfl ?_;refine gR rfl ?_;iterate 2 refine gP ?_
    refine gO rfl rfl (aA rfl rfl) rfl ?_;refine gP ?_;refine gO rfl rfl (fa26_3 rfl) rfl ?_;refine gO rfl rfl (aOp_indexAddrArr (i := 1) Try.underlying23 sz3 rfl rfl rfl) rfl ?_;refine gO rfl rfl (ld3 rfl f1 rfl) rfl ?_;refine gO rfl rfl (aS rfl rfl) rfl ?_;refine gO rfl rfl (aOp_max2 rfl rfl rfl) rfl ?_;refine gP ?_;apply gE;exact done () _ _ ⟨rfl, rfl, rfl, hmx _ _ (by omega), rfl, rfl, rfl, rfl, trivial⟩ ⟨e0, f1, f2, fin _ e9⟩
   ·apply gS;refine gR rfl ?_;refine gP ?_;refine gO rfl rfl (kLT rfl rfl) rfl ?_;apply gE;refine gC (b := true) rfl ?_;refine gR rfl ?_;iterate 2 refine gP ?_
    refine gO rfl rfl (aA rfl rfl) rfl ?_;refine gP ?_;refine gO rfl rfl (fa26_3 rfl) rfl ?_;refine gO rfl rfl (aOp_indexAddrArr (i := 2) Try.underlying23 sz3 rfl rfl rfl) rfl ?_;refine gO rfl rfl (ld3 rfl f1 rfl) rfl ?_;refine gO rfl rfl (aS rfl rfl) rfl ?_;refine gO rfl rfl (aOp_max2 rfl rfl rfl) rfl ?_;refine gP ?_;apply gE;exact done () _ _ ⟨rfl, rfl, rfl, hmx _ _ (by omega), rfl, rfl, rfl, rfl, trivial⟩ ⟨e0, f1, f2, fin _ e9⟩
   ·apply gS;refine gR rfl ?_;refine gP ?_;refine gO rfl rfl (kLF rfl rfl) rfl ?_;apply gE;refine gC (b := false) rfl ?_;refine gD ?_;exact done () _ _ ⟨rfl, rfl, rfl, by rw [q]; rfl, rfl, rfl, rfl, rfl, trivial⟩ ⟨e0, f1, f2, fin _ e9⟩
  clear e0 f1 f2 G;rintro _ h40 ⟨e0, f1, f2, G⟩
  have hn11 := e0.1
  have e7 : Ext h40 h40 := Ext.refl _
  refine gR rfl ?_;iterate 2 refine gP ?_
  refine GoR.buildSl rfl rfl (ps := [(0, .int .i64 w2)]) (cs := [.int .i64 w2]) Try.underlying49 rfl sz3 zt3 rfl rfl rfl rfl fun h60 x60 f60 => ?_;have := e0.1;have := e7.1;have := f1.1;have := f2.1;replace f1 := f1.ext x60;replace f2 := f2.ext x60;replace e0 := e0.trans x60;replace e7 := e7.trans x60;have := f60.1
  have G' := G.ext e7
  refine GoR.append1F (lo := h.next) (s := sa) rfl rfl rfl Try.underlying49 Try.underlying49 sz3 by3 zt3 rfl rfl rfl rfl f60 rfl rfl G' (by omega) rfl rfl fun s6 h59 y59 g59 => ?_
  have z0 : Ext h h59 := y59.low e0 (fun b q => (grow_own G' q).1)
  have z1 := f1.extF y59 (fun q => (hb _ q).1 rfl)
  have z2 := f2.extF y59 (fun q => (hb _ q).2 rfl)
  have g61 := g59.low (lo' := h.next) (by have := e0.1; omega)
  have hlt1 := f1.1
  have hlt2 := f2.1
  clear e0 f1 f2 f60 e7
  have e0 := z0
  have again2 := again (m - 1) (d + 1, s6)
  dsimp only at again2
  refine gP ?_;apply gE;refine Go.inBlock noJ_ok ?_;refine gR rfl ?_;refine gO rfl rfl (aA rfl rfl) rfl ?_;refine gP ?_;apply gE;refine again2 _ _ (by omega) ⟨rfl, rfl, rfl, congrArg (fun z : Int => some (AVal.int .i64 z)) hw2.symm, congrArg (fun z : Int => some (AVal.int .i64 z)) (hk2.symm.trans (congrArg (doneV p) (by omega))), rfl, rfl, rfl, trivial⟩ ⟨by omega, z0, z1, z2, ?_, fun b q => by have := (grow_own g59 q).1; omega⟩;rw [List.range_succ, List.map_append]
  unfold i64s at g61 ⊢
  rw [List.map_append, List.map_cons, List.map_nil, List.map_cons, List.map_nil, hw2];exact g61
 ·have hdR : d + 1 = F.rs.length + 1 := by omega
  rw [hdR] at G
  have hS := nums_sl (by rw [List.length_map, List.length_range]) G
  apply gS;refine gR rfl ?_;refine gO rfl rfl (kLF rfl rfl) rfl ?_;apply gE;apply gS;refine gC (b := false) rfl ?_;refine gD ?_;apply gS;refine gR rfl ?_;iterate 2 refine gP ?_
  apply gE;exact gV (ret_end (aResult_of Try.func27 rfl rfl) ⟨sa, rfl, e0, hS, hS.same⟩)
end Go.Proofs.Ytmimdgjehnhnoaa

namespace Go.Proofs.Ytmimdgjehnhnoaa
open Go Go.AbsE
set_option linter.unusedSimpArgs false
set_option maxRecDepth 100000
set_option maxHeartbeats 0
set_option linter.unusedVariables false
def FootV.TK (F : FootV) (R : List Int) (x : Int) (p : Pl) : Prop := ∀ k, k < 3 → p.at k = -1 ∨ F.tw R x p (p.at k).toNat ≤ F.lm k
instance (F : FootV) (R : List Int) (x : Int) (p : Pl) : Decidable (F.TK R x p) := by unfold FootV.TK; infer_instance
theorem ints_all {h : AH} {s : AVal} {L : List Int} (S : SliceOf h 1 s (ints L)) : L = [] ∨ ∃ b o, aSlElems s = some (b, o, L.length) ∧ ∀ (d : Nat) (x : Int), L[d]? = some x → CellsAt h b (o + d * 1) 1 [.int .i64 x] := by
 cases e : L with
 | nil => exact .inl rfl
 | cons y M =>
  rw [e] at S
  obtain ⟨b, o, q1, _⟩ := S.at (ints_at (i := 0) (x := y) rfl)
  rw [ints_len] at q1;refine .inr ⟨b, o, q1, fun d x hd => ?_⟩
  obtain ⟨b', o', q3, q4⟩ := S.at (ints_at hd)
  rw [ints_len, q1] at q3;cases q3;exact q4
theorem lm_get {F : FootV} {rsl hsl : AVal} {k : Nat} (hk : k < 3) : ([rsl, .int .i64 F.men, .int .i64 F.l0, .int .i64 F.l1, .int .i64 F.l2, .int .i64 F.d0, .int .i64 F.d1, .int .i64 F.d2, hsl] : List AVal)[0 + 2 + k * 1]? = some (.int .i64 (F.lm k)) := by
 match k, hk with
 | 0, _ => rfl
 | 1, _ => rfl
 | 2, _ => rfl
theorem lm_in {F : FootV} (O : F.Ok) (k : Nat) : 0 ≤ F.lm k ∧ F.lm k ≤ 60 := by
 have := O.l0
 have := O.l1
 have := O.l2
 unfold FootV.lm
 split <;> omega
theorem ord_num {n : Int} {p : Pl} (h : p.Ord n) : p.Num n := by
 unfold Pl.Ord at h
 unfold Pl.Num
 omega
theorem keeps_ok {F : FootV} (O : F.Ok) {R fl : List Int} (hR : R.length = F.rs.length) (hRb : ∀ x, x ∈ R → 0 ≤ x ∧ x ≤ 10) {i : Nat} {x : Int} (hx : fl[i]? = some x) (hxb : 0 ≤ x ∧ x ≤ 60) {p : Pl} (hp : p.Ord F.rs.length)
  {rs fs rsl hsl : AVal} {h g : AH} (A : FootAt g F rsl hsl) (hrs : SliceOf h 1 rs (ints R)) (hfs : SliceOf h 1 fs (ints fl)) :
  Runs Try.prog 29 [.agg [rs, fs], .agg (F.cells rsl hsl), .int .i64 i, .agg p.cells] h (fun en h' => en = .ret (.bool (decide (F.TK R x p))) ∧ Ext h h') := by
 have hnr := O.nr
 have htwo := fun h (e : Ext h h) a b => twet_ok O hR hRb hx hxb hp (h := h) A (rs := rs) (fs := fs) a b
 have hsc := foot_scal A F.men
 have hsc2 : scalars [rs, fs] = true := by
  unfold scalars
  rw [scal_one' hrs.scal.1]
  simp only [scalars, scal_one' hfs.scal.1, cond_true]
 have yes : F.TK R x p → AEnd.ret (.bool true) = .ret (.bool (decide (F.TK R x p))) := ret_true
 have no : ¬ F.TK R x p → AEnd.ret (.bool false) = .ret (.bool (decide (F.TK R x p))) := ret_false
 unfold FootV.cells Pl.cells at *
 have e0 : Ext h h := Ext.refl _
 refine Runs.intro aFunc29 rfl rfl rfl rfl fun rest => ?_;apply gS;refine gR rfl ?_;refine GoR.box rfl rfl rfl rfl rfl rfl fun h0 x0 f0 => ?_;have := e0.1;replace e0 := e0.trans x0;have := f0.1;refine GoR.box rfl rfl rfl rfl rfl rfl fun h1 x1 f1 => ?_;have := e0.1;have := f0.1;replace f0 := f0.ext x1;replace e0 := e0.trans x1;have := f1.1;refine GoR.box rfl rfl rfl rfl rfl rfl fun h2 x2 f2 => ?_;have := e0.1;have := f1.1;have := f0.1;replace f1 := f1.ext x2;replace f0 := f0.ext x2;replace e0 := e0.trans x2;have := f2.1;refine gP ?_;apply gE;apply gS;refine gR rfl ?_;refine gO rfl rfl (ld51 rfl f0 rfl) rfl ?_;refine gO rfl rfl (ld26 rfl f1 rfl) rfl ?_;refine gP ?_;refine gO rfl rfl (ld27 rfl f2 rfl) rfl ?_;refine GoR.call rfl rfl (aCF aFunc27 rfl) (htwo _ (Ext.refl _) (hrs.ext e0) (hfs.ext e0)) ?_ (by rintro _ _ ⟨s, q, _, S, hss⟩; cases q);rintro v3 h3 ⟨s, q, x3, S, hss⟩;cases q;refine ⟨_, rfl, ?_⟩;have := e0.1;replace f2 := f2.ext x3;replace f1 := f1.ext x3;replace e0 := e0.trans x3;refine gP ?_;apply gE;iterate 2 apply gS
 refine gR rfl ?_;refine gO rfl rfl (ld27 rfl f2 rfl) rfl ?_;refine gP ?_;apply gE;refine Go.block noJ_ok ?_
 obtain ⟨b, o, s1, s2⟩ := (ints_all S).resolve_left (by rw [List.range_succ]; simp)
 rw [List.length_map, List.length_range] at s1
 have e3 : Ext h3 h3 := Ext.refl _
 refine Go.loopKeep (fun k : Nat => [(5, .ptr h0.next 0), (9, v3), (17, .agg [.int .i64 p.a, .int .i64 p.b, .int .i64 p.c]), (18, .int .i64 (k : Nat))])
  (fun m k h' => m + k = 3 ∧ Ext h h' ∧ Ext h3 h' ∧ Has h' h0.next (.cells .plain [rsl, .int .i64 F.men, .int .i64 F.l0, .int .i64 F.l1, .int .i64 F.l2, .int .i64 F.d0, .int .i64 F.d1, .int .i64 F.d2, hsl] 26) ∧ ∀ j, j < k → p.at j = -1 ∨ F.tw R x p (p.at j).toNat ≤ F.lm j)
  (n := 3) 0 ⟨rfl, rfl, rfl, rfl, trivial⟩ ⟨rfl, e0, e3, f1, fun j q => by omega⟩ ?_
 clear e0 e3 f0 f1 f2;rintro m k h20 ⟨hm, e0, e3, f1, hj⟩ again
 by_cases hk : k < 3
 ·have hget := at_get (p := p) hk
  rw [Nat.zero_add] at hget
  have hn := at_num (ord_num hp) k
  have hlm := lm_in O k
  by_cases c1 : p.at k = -1
  ·apply gS;refine gR rfl ?_;refine gO rfl rfl (kLT rfl rfl) rfl ?_;apply gE;apply gS;refine gC (b := true) rfl ?_;refine gD ?_;apply gS;refine Go.block noJ_ok ?_;apply gS;refine gR rfl ?_;refine gP ?_;refine gO rfl rfl (aOp_indexArr (i := k) Try.underlying27 sz3 rfl rfl (Nat.ble_eq_true_of_le hk) (partT_one ag3 hget)) rfl ?_;iterate 2 refine gP ?_
   apply gE;apply gS;refine Go.drawnE plan29_0 ?_;refine gQ rfl rfl rfl rfl ?_;refine gQ rfl rfl (kNF rfl rfl) rfl ?_;refine gQ rfl rfl rfl rfl ?_;iterate 9 refine GoE.skip rfl rfl rfl ?_
   refine gQ rfl rfl rfl rfl ?_;refine GoE.end rfl ?_;refine gC (b := false) rfl ?_;refine gD ?_;refine Go.inBlock noJ_ok ?_;refine gR rfl ?_;refine gO rfl rfl (aA rfl rfl) rfl ?_;refine gP ?_;apply gE;refine again (m - 1) (k + 1) _ _ (by omega) ⟨rfl, rfl, rfl, rfl, trivial⟩ ⟨by omega, e0, e3, f1, fun j q => ?_⟩
   rcases Nat.lt_or_ge j k with q' | q'
   ·exact hj j q'
   ·rw [show j = k by omega];exact .inl c1
  ·have hn' : 0 ≤ p.at k ∧ p.at k ≤ (F.rs.length : Int) - 1 := by omega
   have hcell := s2 (p.at k).toNat _ (by rw [List.getElem?_map, List.getElem?_range (by omega)]; rfl)
   have htw := tw_in O hRb hxb (p := p) (p.at k).toNat
   obtain ⟨w, hw⟩ : ∃ w, F.tw R x p (p.at k).toNat = w := ⟨_, rfl⟩
   rw [hw] at hcell htw
   by_cases c2 : w ≤ F.lm k
   ·apply gS;refine gR rfl ?_;refine gO rfl rfl (kLT rfl rfl) rfl ?_;apply gE;apply gS;refine gC (b := true) rfl ?_;refine gD ?_;apply gS;refine Go.block noJ_ok ?_;apply gS;refine gR rfl ?_;refine gP ?_;refine gO rfl rfl (aOp_indexArr (i := k) Try.underlying27 sz3 rfl rfl (Nat.ble_eq_true_of_le hk) (partT_one ag3 hget)) rfl ?_;iterate 2 refine gP ?_
    apply gE;apply gS;refine Go.drawnE plan29_0 ?_;refine gQ rfl rfl rfl rfl ?_;refine gQ rfl rfl (kNT rfl rfl) rfl ?_;iterate 3 refine gQ rfl rfl rfl rfl ?_
    refine gQ rfl rfl (aOp_indexAddrI Try.underlying49 sz3 rfl s1 rfl (by omega)) rfl ?_;refine gQ rfl rfl (aOp_loadE1 (k := 0) ag3 rfl (hcell.ext e3) rfl) rfl ?_;refine gQ rfl rfl rfl rfl ?_;refine gQ rfl rfl (fa26_2 rfl) rfl ?_;refine gQ rfl rfl (aOp_indexAddrArr (i := k) Try.underlying23 sz3 rfl rfl (Nat.ble_eq_true_of_le hk)) rfl ?_;refine gQ rfl rfl (ld3 rfl f1 (lm_get hk)) rfl ?_;refine gQ rfl rfl (kGF rfl rfl) rfl ?_;refine gQ rfl rfl rfl rfl ?_;refine GoE.end rfl ?_;refine gC (b := false) rfl ?_;refine gD ?_;refine Go.inBlock noJ_ok ?_;refine gR rfl ?_;refine gO rfl rfl (aA rfl rfl) rfl ?_;refine gP ?_;apply gE;refine again (m - 1) (k + 1) _ _ (by omega) ⟨rfl, rfl, rfl, rfl, trivial⟩ ⟨by omega, e0, e3, f1, fun j q => ?_⟩
    rcases Nat.lt_or_ge j k with q' | q'
    ·exact hj j q'
    ·rw [show j = k by omega, hw];exact .inr c2
   ·have hno := no fun z => by
     have := z k hk
     omega
    apply gS;refine gR rfl ?_;refine gO rfl rfl (kLT rfl rfl) rfl ?_;apply gE;apply gS;refine gC (b := true) rfl ?_;refine gD ?_;apply gS;refine Go.block noJ_ok ?_;apply gS;refine gR rfl ?_;refine gP ?_;refine gO rfl rfl (aOp_indexArr (i := k) Try.underlying27 sz3 rfl rfl (Nat.ble_eq_true_of_le hk) (partT_one ag3 hget)) rfl ?_;iterate 2 refine gP ?_
    apply gE;apply gS;refine Go.drawnE plan29_0 ?_;refine gQ rfl rfl rfl rfl ?_;refine gQ rfl rfl (kNT rfl rfl) rfl ?_;iterate 3 refine gQ rfl rfl rfl rfl ?_
    refine gQ rfl rfl (aOp_indexAddrI Try.underlying49 sz3 rfl s1 rfl (by omega)) rfl ?_;refine gQ rfl rfl (aOp_loadE1 (k := 0) ag3 rfl (hcell.ext e3) rfl) rfl ?_;refine gQ rfl rfl rfl rfl ?_;refine gQ rfl rfl (fa26_2 rfl) rfl ?_;refine gQ rfl rfl (aOp_indexAddrArr (i := k) Try.underlying23 sz3 rfl rfl (Nat.ble_eq_true_of_le hk)) rfl ?_;refine gQ rfl rfl (ld3 rfl f1 (lm_get hk)) rfl ?_;refine gQ rfl rfl (kGT rfl rfl) rfl ?_;refine gQ rfl rfl rfl rfl ?_;refine GoE.end rfl ?_;refine gC (b := true) rfl ?_;apply gS;refine gR rfl ?_;refine gP ?_;apply gE;exact gV (ret_end (aResult_of Try.func29 rfl rfl) ⟨hno, e0⟩)
 ·have hy := yes fun j q => hj j (by omega)
  apply gS;refine gR rfl ?_;refine gO rfl rfl (kLF rfl rfl) rfl ?_;apply gE;apply gS;refine gC (b := false) rfl ?_;refine gD ?_;apply gS;refine gR rfl ?_;refine gP ?_;apply gE;exact gV (ret_end (aResult_of Try.func29 rfl rfl) ⟨hy, e0⟩)
end Go.Proofs.Ytmimdgjehnhnoaa

namespace Go.Proofs.Ytmimdgjehnhnoaa
open Go Go.AbsE
set_option linter.unusedSimpArgs false
set_option maxRecDepth 100000
set_option maxHeartbeats 0
set_option linter.unusedVariables false
def u16s (l : List Int) : List (List AVal) := l.map fun x => [AVal.int .u16 x]
theorem grow_scal {h : AH} {el : TypeId} {sz lo : Nat} {s : AVal} {n : Nat} {cs : List AVal} (k : Grow h el sz lo s n cs) : scalars [s] = true ∧ s.cells = [s] := by
 rcases k.2 with ⟨rfl, _⟩ | ⟨_, b, _, rfl, _⟩ <;> exact ⟨rfl, rfl⟩
theorem grow_same {h : AH} {el : TypeId} {sz lo : Nat} {s : AVal} {n : Nat} {cs : List AVal} (k : Grow h el sz lo s n cs) : sameA s s = true := by
 rcases k.2 with ⟨rfl, _⟩ | ⟨_, b, _, rfl, _⟩
 ·rfl
 ·simp [sameA]
theorem fs_more {α : Type} {hs : List α} {lo hi : α → Int} {fs : List Int} (H : ∀ (k : Nat) x w, hs[k]? = some x → fs[k]? = some w → lo x ≤ w ∧ w ≤ hi x) {i : Nat} (hl : fs.length = i) {x : α} (hx : hs[i]? = some x) {w : Int} (hw : lo x ≤ w ∧ w ≤ hi x) :
  ∀ (k : Nat) y v, hs[k]? = some y → (fs ++ [w])[k]? = some v → lo y ≤ v ∧ v ≤ hi y := by
 intro k y v q1 q2
 by_cases hk : k < fs.length
 ·rw [List.getElem?_append_left hk] at q2;exact H k y v q1 q2
 ·rw [List.getElem?_append_right (by omega)] at q2
  have hk2 : k = i := by
   rcases Nat.lt_or_ge (k - fs.length) 1 with h1 | h1
   ·omega
   ·rw [List.getElem?_eq_none (by simpa using h1)] at q2;cases q2
  subst hk2;rw [hl, Nat.sub_self] at q2;cases q2;rw [hx] at q1;cases q1;exact hw
theorem draws71_ok (s : AVal) (h : AH) (hs : scalars [s] = true) (hc : s.cells = [s]) : Runs Try.prog 71 [s] h (fun en h' => ∃ ba bb, en = .ret (.func (.func 99) [] [.ptr ba 0, .ptr bb 0]) ∧ Ext h h' ∧ h.next ≤ ba ∧ h.next ≤ bb ∧ ba ≠ bb ∧ Has h' ba (.cells .plain [.int .i64 0] 3) ∧ Has h' bb (.cells .plain [s] 46)) := by
 have e0 : Ext h h := Ext.refl _
 refine Runs.intro aFunc71 rfl rfl rfl rfl fun rest => ?_;apply gS;refine gR rfl ?_;refine GoR.box rfl rfl rfl rfl rfl rfl fun h0 x0 f0 => ?_;have := e0.1;replace e0 := e0.trans x0;have := f0.1;refine gP ?_;apply gE;apply gS;refine gR rfl ?_;refine GoR.alloc rfl rfl rfl zt3 rfl rfl fun h1 x1 f1 => ?_;have := e0.1;have := f0.1;replace f0 := f0.ext x1;replace e0 := e0.trans x1;have := f1.1;refine GoR.store rfl rfl rfl rfl rfl rfl f1 rfl sz3 rfl rfl rfl fun h2 u2 => ?_;replace f1 := u2.has f1;replace f0 := f0.upd u2 (by omega);replace e0 := e0.upd u2 (by omega);apply gE;apply gS;refine gR rfl ?_;iterate 2 refine gP ?_
 apply gE;rw [hc] at f0
 have l0 := x0.1
 have l1 := f0.1
 exact gV (ret_end (aResult_of Try.func71 rfl rfl) ⟨h0.next, h.next, rfl, e0, l0, Nat.le_refl _, by omega, f1, f0⟩)
theorem draw99_ok {bs : List Int} (hbs : ∀ x, x ∈ bs → 0 ≤ x ∧ x < 65536) {s : AVal} {ba bb : Nat} {n lo hi : Int} {h g : AH} (fa : Has h ba (.cells .plain [.int .i64 n] 3)) (fb : Has h bb (.cells .plain [s] 46)) (eg : Ext g h) (hab : ba ≠ bb) (hs : SliceOf g 1 s (u16s bs)) (hga : g.next ≤ ba) (hlen : bs.length < 9223372036854775808) (hn : 0 ≤ n ∧ n ≤ 1000) (hl : 0 ≤ lo ∧ lo ≤ hi ∧ hi ≤ 1000) :
  Runs Try.prog 99 [.agg [.int .i64 lo, .int .i64 hi], .ptr ba 0, .ptr bb 0] h (fun en h' => ∃ v, en = .ret (.int .i64 v) ∧ lo ≤ v ∧ v ≤ hi ∧ ExtF (fun b => b = ba) h h' ∧ Has h' ba (.cells .plain [.int .i64 (n + 1)] 3)) := by
 have hsl := hs.len
 unfold u16s at hsl
 rw [List.length_map] at hsl
 have y0 : ExtF (fun b => b = ba) h h := ExtF.of (Ext.refl _)
 have la := fa.1
 have lb := fb.1
 obtain ⟨nl, hnl⟩ : ∃ nl, bs.length = nl := ⟨_, rfl⟩
 rw [hnl] at hsl hlen
 by_cases h0' : nl = 0
 ·have hz : decide (((nl : Nat) : Int) = 0) = true := decide_eq_true (by omega)
  refine Runs.intro aFunc99 rfl rfl rfl rfl fun rest => ?_;apply gS;refine gR rfl ?_;refine GoR.box rfl rfl rfl rfl rfl rfl fun h0 x0 f0 => ?_;have := eg.1;have := fa.1;have := fb.1;replace fa := fa.ext x0;replace fb := fb.ext x0;replace eg := eg.trans x0;replace y0 := y0.ext x0;have := f0.1;refine gP ?_;apply gE;apply gS;refine gR rfl ?_;refine gO rfl rfl (ld3 rfl fa rfl) rfl ?_;refine gO rfl rfl (aA rfl rfl) rfl ?_;refine GoR.store rfl rfl rfl rfl rfl rfl fa rfl sz3 rfl rfl rfl fun h1 u1 => ?_;replace f0 := f0.upd u1 (by omega);replace fa := u1.has fa;replace fb := fb.upd u1 (by omega);replace eg := eg.upd u1 (by omega);replace y0 := y0.upd u1 (.inl rfl);apply gE;iterate 2 apply gS
  refine gR rfl ?_;refine gO rfl rfl (ld46 rfl fb rfl) rfl ?_;refine gO rfl rfl (aOp_lenSlice Try.underlying46 rfl hsl) rfl ?_;refine gO rfl rfl (aOp_eql rfl rfl hz) rfl ?_;apply gE;refine gC (b := true) rfl ?_;apply gS;refine gR rfl ?_;refine gO rfl rfl (fa31_0 rfl) rfl ?_;refine gO rfl rfl (ld3 rfl f0 rfl) rfl ?_;refine gP ?_;apply gE;exact gV (ret_end (aResult_of Try.func99 rfl rfl) ⟨_, rfl, Int.le_refl _, hl.2.1, y0, fa⟩)
 ·have hz : decide (((nl : Nat) : Int) = 0) = false := decide_eq_false (by omega)
  obtain ⟨n', hn'⟩ : ∃ n' : Nat, n + 1 = (n' : Nat) := ⟨(n + 1).toNat, by omega⟩
  obtain ⟨k, hk⟩ : ∃ k, n' % nl = k := ⟨_, rfl⟩
  have hk2 : k < nl := by rw [← hk]; exact Nat.mod_lt _ (by omega)
  have hrem : (n + 1).tmod ((nl : Nat) : Int) = (k : Nat) := by rw [hn', ← hk]; rfl
  obtain ⟨x, hx⟩ : ∃ x, bs[k]? = some x := ⟨bs[k]'(by omega), by simp⟩
  have hxb := hbs x (List.mem_of_getElem? hx)
  obtain ⟨bq, off, p1, p2⟩ := hs.at (i := k) (l := [AVal.int .u16 x]) (by unfold u16s; rw [List.getElem?_map, hx]; rfl)
  unfold u16s at p1
  rw [List.length_map, hnl] at p1
  have he : ∀ h', ExtF (fun b => b = ba) h h' → Ext g h' := fun h' y => y.low eg (fun b q => by have : b = ba := q; omega)
  obtain ⟨m, hm⟩ : ∃ m, (47 : Int) * (n + 1) = m := ⟨_, rfl⟩
  obtain ⟨q, hq2⟩ : ∃ q, (x + m).tmod (hi - lo + 1) = q := ⟨_, rfl⟩
  have hq3 : 0 ≤ q ∧ q ≤ hi - lo := by
   have h1 : 0 ≤ x + m := by omega
   rw [Int.tmod_eq_emod_of_nonneg h1] at hq2
   have h2 := Int.emod_nonneg (x + m) (b := hi - lo + 1) (by omega)
   have h3 := Int.emod_lt_of_pos (x + m) (b := hi - lo + 1) (by omega)
   omega
  refine Runs.intro aFunc99 rfl rfl rfl rfl fun rest => ?_;apply gS;refine gR rfl ?_;refine GoR.box rfl rfl rfl rfl rfl rfl fun h0 x0 f0 => ?_;have := eg.1;have := fa.1;have := fb.1;replace fa := fa.ext x0;replace fb := fb.ext x0;replace eg := eg.trans x0;replace y0 := y0.ext x0;have := f0.1;refine gP ?_;apply gE;apply gS;refine gR rfl ?_;refine gO rfl rfl (ld3 rfl fa rfl) rfl ?_;refine gO rfl rfl (aA rfl rfl) rfl ?_;refine GoR.store rfl rfl rfl rfl rfl rfl fa rfl sz3 rfl rfl rfl fun h1 u1 => ?_;replace f0 := f0.upd u1 (by omega);replace fa := u1.has fa;replace fb := fb.upd u1 (by omega);replace eg := eg.upd u1 (by omega);replace y0 := y0.upd u1 (.inl rfl);apply gE;iterate 2 apply gS
  refine gR rfl ?_;refine gO rfl rfl (ld46 rfl fb rfl) rfl ?_;refine gO rfl rfl (aOp_lenSlice Try.underlying46 rfl hsl) rfl ?_;refine gO rfl rfl (aOp_eql rfl rfl hz) rfl ?_;apply gE;refine gC (b := false) rfl ?_;refine gD ?_;apply gS;refine Go.drawnE plan99_0 ?_;refine gQ rfl rfl (fa31_0 rfl) rfl ?_;refine gQ rfl rfl (ld3 rfl f0 rfl) rfl ?_;refine gQ rfl rfl (ld46 rfl fb rfl) rfl ?_;refine gQ rfl rfl (ld3 rfl fa rfl) rfl ?_;refine gQ rfl rfl (ld46 rfl fb rfl) rfl ?_;refine gQ rfl rfl (aOp_lenSlice Try.underlying46 rfl hsl) rfl ?_;refine gQ rfl rfl (aOp_rem rfl rfl (by omega) hrem) rfl ?_;refine gQ rfl rfl (aOp_indexAddr Try.underlying46 sz45 rfl p1 rfl (Nat.ble_eq_true_of_le hk2)) rfl ?_;refine gQ rfl rfl (aOp_loadE1 (k := 0) ag45 rfl (p2.ext (he _ y0)) rfl) rfl ?_;refine gQ rfl rfl (aOp_convU16 rfl Try.underlying45 Try.underlying3 hxb) rfl ?_;refine gQ rfl rfl (ld3 rfl fa rfl) rfl ?_;refine gQ rfl rfl (aOp_mul rfl rfl hm (by omega)) rfl ?_;refine gQ rfl rfl (aA rfl rfl) rfl ?_;refine gQ rfl rfl (fa31_1 rfl) rfl ?_;refine gQ rfl rfl (ld3 rfl f0 rfl) rfl ?_;refine gQ rfl rfl (fa31_0 rfl) rfl ?_;refine gQ rfl rfl (ld3 rfl f0 rfl) rfl ?_;refine gQ rfl rfl (aS rfl rfl) rfl ?_;refine gQ rfl rfl (aA rfl rfl) rfl ?_;refine gQ rfl rfl (aOp_rem rfl rfl (by omega) hq2) rfl ?_;refine gQ rfl rfl (aA rfl rfl) rfl ?_;refine gQ rfl rfl rfl rfl ?_;refine GoE.end rfl ?_;exact gV (ret_end (aResult_of Try.func99 rfl rfl) ⟨_, rfl, by omega, by omega, y0, fa⟩)
end Go.Proofs.Ytmimdgjehnhnoaa

namespace Go.Proofs.Ytmimdgjehnhnoaa
open Go Go.AbsE
set_option linter.unusedSimpArgs false
set_option maxRecDepth 100000
set_option maxHeartbeats 0
set_option linter.unusedVariables false
theorem truly26_gr {F : FootV} (O : F.Ok) {bs : List Int} (hbs : ∀ x, x ∈ bs → 0 ≤ x ∧ x < 65536) (hlen : bs.length < 9223372036854775808) {s rsl hsl : AVal} {h : AH} (A : FootAt h F rsl hsl) (hs : SliceOf h 1 s (u16s bs)) :
  Runs Try.prog 26 [.agg (F.cells rsl hsl), s] h (fun en h' => ∃ (rs fs : AVal) (R fl : List Int), en = .ret (.agg [rs, fs]) ∧ Ext h h' ∧ R.length = F.rs.length ∧ (∀ (k : Nat) r x, F.rs[k]? = some r → R[k]? = some x → r.1 ≤ x ∧ x ≤ r.2) ∧ fl.length = F.hs.length ∧ (∀ (k : Nat) x w, F.hs[k]? = some x → fl[k]? = some w → x.lo ≤ w ∧ w ≤ x.hi)
   ∧ Grow h' 3 1 h.next rs F.rs.length (i64s R) ∧ Grow h' 3 1 h.next fs F.hs.length (i64s fl) ∧ scalars [rs, fs] = true ∧ sameA rs rs = true ∧ sameA fs fs = true) := by
 have hl1 := A.rs.len
 have hl2 := A.hs.len
 rw [List.length_map] at hl1 hl2
 have hnh := O.nh
 have hnr := O.nr
 have hsc1 := hs.scal.1
 have hsc2 := hs.scal.2
 unfold FootV.cells
 have e0 : Ext h h := Ext.refl _
 refine Runs.intro aFunc26 rfl rfl rfl rfl fun rest => ?_;apply gS;refine gR rfl ?_;refine GoR.box rfl rfl rfl rfl rfl rfl fun h0 x0 f0 => ?_;have := e0.1;replace e0 := e0.trans x0;have := f0.1;refine GoR.alloc rfl rfl rfl zt51 rfl rfl fun h1 x1 f1 => ?_;have := e0.1;have := f0.1;replace f0 := f0.ext x1;replace e0 := e0.trans x1;have := f1.1;apply gE;apply gS;refine gR rfl ?_;refine gP ?_;refine GoR.call rfl rfl (aCF aFunc71 rfl) (draws71_ok s _ hsc1 hsc2) ?_ (by rintro _ _ ⟨ba, bb, q, _, hba, hbb, hab, _, fb⟩; cases q);rintro v2 h2 ⟨ba, bb, q, x2, hba, hbb, hab, f2, fb⟩;cases q;refine ⟨_, rfl, ?_⟩;have := e0.1;replace f1 := f1.ext x2;replace f0 := f0.ext x2;replace e0 := e0.trans x2;refine gP ?_;apply gE;iterate 2 apply gS
 refine gR rfl ?_;refine gO rfl rfl (fa26_0 rfl) rfl ?_;refine gO rfl rfl (ld22 rfl f0 rfl) rfl ?_;refine gO rfl rfl (aOp_lenSlice Try.underlying22 rfl hl1) rfl ?_;refine gP ?_;apply gE;refine Go.block noJ_ok ?_
 have m0 := f2.1
 have m1 := fb.1
 refine Go.loopKeep (fun a : Nat × AVal × List Int => [(2, .ptr h.next 0), (4, .ptr h0.next 0), (5, .func (.func 99) [] [.ptr ba 0, .ptr bb 0]), (13, rsl), (14, .int .i64 F.rs.length), (15, .int .i64 (a.1 : Nat))])
  (fun m a h' => m + a.1 = F.rs.length ∧ Ext h h' ∧ h2.next ≤ h'.next ∧ Has h' h.next (.cells .plain [rsl, .int .i64 F.men, .int .i64 F.l0, .int .i64 F.l1, .int .i64 F.l2, .int .i64 F.d0, .int .i64 F.d1, .int .i64 F.d2, hsl] 26) ∧ Has h' h0.next (.cells .plain [a.2.1, .nilslice] 51) ∧ Has h' ba (.cells .plain [.int .i64 (a.1 : Nat)] 3) ∧ Has h' bb (.cells .plain [s] 46) ∧ a.2.2.length = a.1 ∧ (∀ (k : Nat) r x, F.rs[k]? = some r → a.2.2[k]? = some x → r.1 ≤ x ∧ x ≤ r.2) ∧ Grow h' 3 1 h2.next a.2.1 a.1 (i64s a.2.2))
  (n := F.rs.length) (0, .nilslice, []) ⟨rfl, rfl, rfl, rfl, rfl, rfl, trivial⟩ ⟨rfl, e0, Nat.le_refl _, f0, f1, f2, fb, rfl, (by intro k r x _ q; simp at q), Grow.nil _ _ _ _⟩ ?_
 clear e0 f0 f1 f2 fb;rintro m ⟨i, sa, R⟩ h20 ⟨hm, e0, hle, f0, f1, fa, fb, hRl, hRb, G⟩ again
 dsimp only at hm f1 fa hRl hRb G ⊢
 have hn9 := f0.1
 have hn8 := f1.1
 have hn7 := fa.1
 have hn6 := fb.1
 by_cases hi : i < F.rs.length
 ·obtain ⟨r, hr⟩ : ∃ r, F.rs[i]? = some r := ⟨F.rs[i], by simp [hi]⟩
  have hrO := O.r r (List.mem_of_getElem? hr)
  obtain ⟨bq, off, q1, q2⟩ := A.rs.at (i := i) (l := spC r) (by rw [List.getElem?_map, hr]; rfl)
  rw [List.length_map] at q1
  obtain ⟨r1, r2⟩ := r
  unfold spC at q2
  dsimp only at q2 hrO
  have y5 : ExtF (fun b => b = ba) h20 h20 := .of (Ext.refl _)
  have hsame := grow_same G
  have hst1 : ∀ {h : AH} {lo m : Nat} {z : AVal} {cs : List AVal}, Grow h 3 1 lo z m cs → Nat.beq z.cells.length 1 = true := fun k => by rw [(grow_scal k).2]; rfl
  have hst2 : ∀ {h : AH} {lo m : Nat} {z : AVal} {cs : List AVal}, Grow h 3 1 lo z m cs → scalars z.cells = true := fun k => by rw [(grow_scal k).2]; exact (grow_scal k).1
  have hst3 : ∀ {h : AH} {lo m : Nat} {z : AVal} {cs : List AVal}, Grow h 3 1 lo z m cs → splice [sa, .nilslice] (0 + 0) z.cells = some [z, .nilslice] := fun k => by rw [(grow_scal k).2]; rfl
  apply gS;refine gR rfl ?_;refine gO rfl rfl (kLT rfl rfl) rfl ?_;apply gE;apply gS;refine gC (b := true) rfl ?_;refine gD ?_;apply gS;refine Go.block noJ_ok ?_;apply gS;refine gR rfl ?_;refine gO rfl rfl (aOp_indexAddr (i := i) Try.underlying22 sz31 rfl q1 rfl (Nat.ble_eq_true_of_le hi)) rfl ?_;refine gO rfl rfl (aOp_loadE ag31 sz31 rfl (q2.ext e0)) rfl ?_;refine GoR.alloc rfl rfl rfl zt31 rfl rfl fun h21 x21 f21 => ?_;have := e0.1;have := f0.1;have := f1.1;have := fa.1;have := fb.1;replace f0 := f0.ext x21;replace f1 := f1.ext x21;replace fa := fa.ext x21;replace fb := fb.ext x21;replace e0 := e0.trans x21;replace y5 := y5.ext x21;have := f21.1;refine GoR.store rfl rfl rfl rfl rfl rfl f21 rfl sz31 rfl rfl rfl fun h22 u22 => ?_;replace f21 := u22.has f21;replace f0 := f0.upd u22 (by omega);replace f1 := f1.upd u22 (by omega);replace fa := fa.upd u22 (by omega);replace fb := fb.upd u22 (by omega);replace e0 := e0.upd u22 (by omega);replace y5 := y5.upd u22 (.inr (by omega));apply gE;refine Go.drawnE plan26_0 ?_;refine gQ rfl rfl (fa51_0 rfl) rfl ?_;refine gQ rfl rfl (ld49 rfl f1 rfl) rfl ?_;refine gQ rfl rfl rfl rfl ?_;refine gQ rfl rfl (ld31 rfl f21 rfl) rfl ?_;refine GoE.call rfl rfl (aOp_callVal rfl aFunc99 rfl) (draw99_ok hbs (by assumption) (by assumption) e0 hab hs (by omega) hlen (by constructor <;> omega) (by omega)) (dD 12 3 (dD 12 2 (dK 12 1 (dK 12 0 rfl)))) ?_ (by rintro _ _ ⟨w, q, wl, wh, _, _⟩; cases q);rintro v23 h23 ⟨w, q, wl, wh, y23, f23⟩;cases q;have := e0.1;have := f21.1;have := f0.1;have := f1.1;have := fa.1;have := fb.1;have := e0.1;have := f21.1;have := f0.1;have := f1.1;have := fa.1;have := fb.1;replace f21 := f21.extF y23 (fun q => by omega);replace f0 := f0.extF y23 (fun q => by omega);replace f1 := f1.extF y23 (fun q => by omega);clear fa;replace fb := fb.extF y23 (fun q => by omega);replace e0 := y23.low e0 (fun b q => by omega);replace y5 := y5.trans (fun b q => .inl q) y23;have := y23.1;refine ⟨(rck (h2 := h23) rfl (ld49 rfl f1 rfl) (rck (h2 := h23) rfl (fa51_0 rfl) recheck_nil)), _, rfl, ?_⟩;refine GoE.quietX rfl rfl (aOpX_lit (ps := [(0, .int .i64 w)]) (cs := [.int .i64 w]) Try.underlying49 rfl sz3 zt3 rfl rfl rfl) rfl ?_;refine GoE.append1L rfl rfl Try.underlying49 Try.underlying49 sz3 by3 zt3 rfl rfl rfl rfl rfl rfl (grow_extF G y5 (fun b q => by have : b = ba := q; omega)) (by omega) (dD 63 5 (dD 63 1 (dD 63 0 rfl))) rfl rfl fun s24 h24 y24 g24 => ?_;replace f23 := f23.extF y24 (fun q => by have := grow_own G q; omega);replace f21 := f21.extF y24 (fun q => by have := grow_own G q; omega);replace f0 := f0.extF y24 (fun q => by have := grow_own G q; omega);replace f1 := f1.extF y24 (fun q => by have := grow_own G q; omega);replace fb := fb.extF y24 (fun q => by have := grow_own G q; omega);replace e0 := y24.low e0 (fun b q => by have := grow_own G q; omega);clear y23;clear y5;have := y24.1;refine ⟨recheck_nil, ?_⟩;refine gQ rfl rfl (fa51_0 rfl) rfl ?_;refine GoE.store rfl rfl rfl rfl (dD 255 7 rfl) rfl rfl f1 rfl sz49 (hst1 (by assumption)) (hst2 (by assumption)) (hst3 (by assumption)) fun h25 u25 => ?_;replace f23 := f23.upd u25 (by omega);replace f0 := f0.upd u25 (by omega);replace f1 := u25.has f1;replace fb := fb.upd u25 (by omega);replace e0 := e0.upd u25 (by omega);refine ⟨recheck_nil, ?_⟩;refine GoE.end rfl ?_;refine Go.inBlock noJ_ok ?_;refine gR rfl ?_;refine gO rfl rfl (aA rfl rfl) rfl ?_;refine gP ?_;apply gE
  have m2 := x21.1
  have m3 := u22.1
  have m4 := u25.1
  have g26 := grow_extF (S := fun b => b = h0.next) g24 ((ExtF.of (Ext.refl h24)).upd u25 (.inl rfl)) (fun b q => by have : b = h0.next := q; omega)
  have g27 := g26.low (lo' := h2.next) (by omega)
  refine again (m - 1) (i + 1, s24, R ++ [w]) _ _ (by omega) ⟨rfl, rfl, rfl, rfl, rfl, rfl, trivial⟩ ⟨by dsimp only; omega, e0, by omega, f0, f1, (by rw [show (((i + 1 : Nat)) : Int) = (i : Int) + 1 from by omega]; exact f23), fb, by rw [List.length_append, hRl]; rfl, fs_more (lo := fun r : Int × Int => r.1) (hi := fun r => r.2) hRb hRl hr ⟨wl, wh⟩, ?_⟩
  dsimp only
  unfold i64s at g27 ⊢
  rw [List.map_append];exact g27
 ·apply gS;refine gR rfl ?_;refine gO rfl rfl (kLF rfl rfl) rfl ?_;apply gE;apply gS;refine gC (b := false) rfl ?_;refine gD ?_;iterate 2 apply gS
  refine gR rfl ?_;refine gO rfl rfl (fa26_4 rfl) rfl ?_;refine gO rfl rfl (ld24 rfl f0 rfl) rfl ?_;refine gO rfl rfl (aOp_lenSlice Try.underlying24 rfl hl2) rfl ?_;refine gP ?_;apply gE;refine Go.block noJ_ok ?_
  have hii : i = F.rs.length := by omega
  subst hii;clear again
  have yy : ExtF (fun b => b = ba ∨ b = h0.next) h20 h20 := .of (Ext.refl _)
  refine Go.loopKeep (fun a : Nat × AVal × List Int => [(2, .ptr h.next 0), (4, .ptr h0.next 0), (5, .func (.func 99) [] [.ptr ba 0, .ptr bb 0]), (29, hsl), (30, .int .i64 F.hs.length), (31, .int .i64 (a.1 : Nat))])
   (fun m a h' => m + a.1 = F.hs.length ∧ Ext h h' ∧ h20.next ≤ h'.next ∧ ExtF (fun b => b = ba ∨ b = h0.next) h20 h' ∧ Has h' h.next (.cells .plain [rsl, .int .i64 F.men, .int .i64 F.l0, .int .i64 F.l1, .int .i64 F.l2, .int .i64 F.d0, .int .i64 F.d1, .int .i64 F.d2, hsl] 26) ∧ Has h' h0.next (.cells .plain [sa, a.2.1] 51) ∧ Has h' ba (.cells .plain [.int .i64 (F.rs.length + a.1 : Nat)] 3) ∧ Has h' bb (.cells .plain [s] 46) ∧ a.2.2.length = a.1 ∧ (∀ (k : Nat) x w, F.hs[k]? = some x → a.2.2[k]? = some w → x.lo ≤ w ∧ w ≤ x.hi) ∧ Grow h' 3 1 h20.next a.2.1 a.1 (i64s a.2.2))
   (n := F.hs.length) (0, .nilslice, []) ⟨rfl, rfl, rfl, rfl, rfl, rfl, trivial⟩ ⟨rfl, e0, Nat.le_refl _, yy, f0, f1, fa, fb, rfl, (by intro k r x _ q; simp at q), Grow.nil _ _ _ _⟩ ?_
  have hsame := grow_same G
  have hsca := grow_scal G
  have G0 := G
  clear e0 f0 f1 fa fb hm G yy;rintro m ⟨i, sb, fl⟩ h40 ⟨hm, e0, hle2, y6, f0, f1, fa, fb, hfl, hfb, G⟩ again
  dsimp only at hm f1 fa hfl hfb G ⊢
  have hn9 := f0.1
  have hn8 := f1.1
  have hn7 := fa.1
  have hn6 := fb.1
  by_cases hi : i < F.hs.length
  ·obtain ⟨x, hx⟩ : ∃ x, F.hs[i]? = some x := ⟨F.hs[i], by simp [hi]⟩
   have hxO := O.h x (List.mem_of_getElem? hx)
   obtain ⟨bq, off, q1, q2⟩ := A.hs.at (i := i) (l := HF.cells x) (by rw [List.getElem?_map, hx]; rfl)
   rw [List.length_map] at q1
   unfold HF.cells at q2
   have y5 : ExtF (fun b => b = ba) h40 h40 := .of (Ext.refl _)
   have hsame2 := grow_same G
   have hst1 : ∀ {h : AH} {lo m : Nat} {z : AVal} {cs : List AVal}, Grow h 3 1 lo z m cs → Nat.beq z.cells.length 1 = true := fun k => by rw [(grow_scal k).2]; rfl
   have hst2 : ∀ {h : AH} {lo m : Nat} {z : AVal} {cs : List AVal}, Grow h 3 1 lo z m cs → scalars z.cells = true := fun k => by rw [(grow_scal k).2]; exact (grow_scal k).1
   have hst3 : ∀ {h : AH} {lo m : Nat} {z : AVal} {cs : List AVal}, Grow h 3 1 lo z m cs → splice [sa, sb] (0 + 1) z.cells = some [sa, z] := fun k => by rw [(grow_scal k).2]; rfl
   apply gS;refine gR rfl ?_;refine gO rfl rfl (kLT rfl rfl) rfl ?_;apply gE;apply gS;refine gC (b := true) rfl ?_;refine gD ?_;apply gS;refine Go.block noJ_ok ?_;apply gS;refine gR rfl ?_;refine gO rfl rfl (aOp_indexAddr (i := i) Try.underlying24 sz72 rfl q1 rfl (Nat.ble_eq_true_of_le hi)) rfl ?_;refine gO rfl rfl (aOp_loadE ag72 sz72 rfl (q2.ext e0)) rfl ?_;refine GoR.alloc rfl rfl rfl zt72 rfl rfl fun h41 x41 f41 => ?_;have := e0.1;have := f0.1;have := f1.1;have := fa.1;have := fb.1;replace f0 := f0.ext x41;replace f1 := f1.ext x41;replace fa := fa.ext x41;replace fb := fb.ext x41;replace e0 := e0.trans x41;replace y6 := y6.ext x41;replace y5 := y5.ext x41;have := f41.1;refine GoR.store rfl rfl rfl rfl rfl rfl f41 rfl sz72 rfl rfl rfl fun h42 u42 => ?_;replace f41 := u42.has f41;replace f0 := f0.upd u42 (by omega);replace f1 := f1.upd u42 (by omega);replace fa := fa.upd u42 (by omega);replace fb := fb.upd u42 (by omega);replace e0 := e0.upd u42 (by omega);replace y6 := y6.upd u42 (.inr (by omega));replace y5 := y5.upd u42 (.inr (by omega));apply gE;refine Go.drawnE plan26_1 ?_;refine gQ rfl rfl (fa51_1 rfl) rfl ?_;refine gQ rfl rfl (ld49 rfl f1 rfl) rfl ?_;refine gQ rfl rfl rfl rfl ?_;refine gQ rfl rfl (fa72_0 rfl) rfl ?_;refine gQ rfl rfl (ld31 rfl f41 rfl) rfl ?_;refine GoE.call rfl rfl (aOp_callVal rfl aFunc99 rfl) (draw99_ok hbs (by assumption) (by assumption) e0 hab hs (by omega) hlen (by constructor <;> omega) (by omega)) (dD 28 4 (dD 28 3 (dD 28 2 (dK 28 1 (dK 28 0 rfl))))) ?_ (by rintro _ _ ⟨w, q, wl, wh, _, _⟩; cases q);rintro v43 h43 ⟨w, q, wl, wh, y43, f43⟩;cases q;have := e0.1;have := f41.1;have := f0.1;have := f1.1;have := fa.1;have := fb.1;have := e0.1;have := f41.1;have := f0.1;have := f1.1;have := fa.1;have := fb.1;replace f41 := f41.extF y43 (fun q => by omega);replace f0 := f0.extF y43 (fun q => by omega);replace f1 := f1.extF y43 (fun q => by omega);clear fa;replace fb := fb.extF y43 (fun q => by omega);replace e0 := y43.low e0 (fun b q => by omega);replace y6 := y6.trans (fun b q => .inl (.inl q)) y43;replace y5 := y5.trans (fun b q => .inl q) y43;have := y43.1;refine ⟨(rck (h2 := h43) rfl (ld49 rfl f1 rfl) (rck (h2 := h43) rfl (fa51_1 rfl) recheck_nil)), _, rfl, ?_⟩;refine GoE.quietX rfl rfl (aOpX_lit (ps := [(0, .int .i64 w)]) (cs := [.int .i64 w]) Try.underlying49 rfl sz3 zt3 rfl rfl rfl) rfl ?_;refine GoE.append1L rfl rfl Try.underlying49 Try.underlying49 sz3 by3 zt3 rfl rfl rfl rfl rfl rfl (grow_extF G y5 (fun b q => by have : b = ba := q; omega)) (by omega) (dD 127 6 (dD 127 1 (dD 127 0 rfl))) rfl rfl fun s44 h44 y44 g44 => ?_;replace f43 := f43.extF y44 (fun q => by have := grow_own G q; omega);replace f41 := f41.extF y44 (fun q => by have := grow_own G q; omega);replace f0 := f0.extF y44 (fun q => by have := grow_own G q; omega);replace f1 := f1.extF y44 (fun q => by have := grow_own G q; omega);replace fb := fb.extF y44 (fun q => by have := grow_own G q; omega);replace e0 := y44.low e0 (fun b q => by have := grow_own G q; omega);clear y43;replace y6 := y6.trans (fun b q => .inr (by have := grow_own G q; omega)) y44;clear y5;have := y44.1;refine ⟨recheck_nil, ?_⟩;refine gQ rfl rfl (fa51_1 rfl) rfl ?_;refine GoE.store rfl rfl rfl rfl (dD 511 8 rfl) rfl rfl f1 rfl sz49 (hst1 (by assumption)) (hst2 (by assumption)) (hst3 (by assumption)) fun h45 u45 => ?_;replace f43 := f43.upd u45 (by omega);replace f0 := f0.upd u45 (by omega);replace f1 := u45.has f1;replace fb := fb.upd u45 (by omega);replace e0 := e0.upd u45 (by omega);replace y6 := y6.upd u45 (by omega);refine ⟨recheck_nil, ?_⟩;refine GoE.end rfl ?_;refine Go.inBlock noJ_ok ?_;refine gR rfl ?_;refine gO rfl rfl (aA rfl rfl) rfl ?_;refine gP ?_;apply gE
   have m2 := x41.1
   have m3 := u42.1
   have m4 := u45.1
   have g46 := grow_extF (S := fun b => b = h0.next) g44 ((ExtF.of (Ext.refl h44)).upd u45 (.inl rfl)) (fun b q => by have : b = h0.next := q; omega)
   have g47 := g46.low (lo' := h20.next) (by omega)
   refine again (m - 1) (i + 1, s44, fl ++ [w]) _ _ (by omega) ⟨rfl, rfl, rfl, rfl, rfl, rfl, trivial⟩ ⟨by dsimp only; omega, e0, by omega, y6, f0, f1, (by rw [show (((F.rs.length + (i + 1) : Nat)) : Int) = ((F.rs.length + i : Nat) : Int) + 1 from by omega]; exact f43), fb, by rw [List.length_append, hfl]; rfl, fs_more (lo := fun x : HF => x.lo) (hi := fun x => x.hi) hfb hfl hx ⟨wl, wh⟩, ?_⟩
   dsimp only
   unfold i64s at g47 ⊢
   rw [List.map_append];exact g47
  ·have hii : i = F.hs.length := by omega
   subst hii
   have hsc2 : scalars [sa, sb] = true := by
    unfold scalars
    rw [scal_one' (grow_scal G0).1]
    simp only [scalars, scal_one' (grow_scal G).1, cond_true]
   have hrs : ∀ h', ExtF (fun b => b = ba ∨ b = h0.next) h20 h' → Grow h' 3 1 h.next sa F.rs.length (i64s R) := fun h' y => (grow_extF G0 y (fun b q => by have : b = ba ∨ b = h0.next := q; omega)).low (by omega)
   have hfs : ∀ h', ExtF (fun b => b = h0.next) h40 h' → Grow h' 3 1 h.next sb F.hs.length (i64s fl) := fun h' y => (grow_extF G y (fun b q => by have : b = h0.next := q; omega)).low (by omega)
   have y7 : ExtF (fun b => b = h0.next) h40 h40 := .of (Ext.refl _)
   have hss1 := grow_same G0
   have hss2 := grow_same G
   apply gS;refine gR rfl ?_;refine gO rfl rfl (kLF rfl rfl) rfl ?_;apply gE;apply gS;refine gC (b := false) rfl ?_;refine gD ?_;apply gS;refine gR rfl ?_;refine gO rfl rfl (ld51 rfl f1 rfl) rfl ?_;refine GoR.store rfl rfl rfl rfl rfl rfl f1 rfl sz51 rfl hsc2 rfl fun h41 u41 => ?_;replace f1 := u41.has f1;replace fb := fb.upd u41 (by omega);replace fa := fa.upd u41 (by omega);replace e0 := e0.upd u41 (by omega);replace y6 := y6.upd u41 (by omega);replace y7 := y7.upd u41 (.inl rfl);apply gE;exact gV (ret_end (aResult_of Try.func26 rfl (aResults_c rfl f1 (inCells_agg ag51 sz51 rfl) rfl)) (⟨sa, sb, R, fl, rfl, e0, hRl, hRb, hfl, hfb, hrs _ y6, hfs _ y7, hsc2, hss1, hss2⟩))
end Go.Proofs.Ytmimdgjehnhnoaa

namespace Go.Proofs.Ytmimdgjehnhnoaa
open Go Go.AbsE
set_option linter.unusedSimpArgs false
set_option maxRecDepth 100000
set_option maxHeartbeats 0
set_option linter.unusedVariables false
theorem kept_at {F : FootV} {T : Bool} {i : Nat} {p : Pl} : F.Kept T i p ↔ ∀ k, k < 3 → p.at k = -1 ∨ F.w T i p (p.at k).toNat ≤ F.lm k := by
 constructor
 ·intro h k hk
  match k, hk with
  | 0, _ => exact h.1
  | 1, _ => exact h.2.1
  | 2, _ => exact h.2.2
 ·intro h
  exact ⟨h 0 (by omega), h 1 (by omega), h 2 (by omega)⟩
end Go.Proofs.Ytmimdgjehnhnoaa

namespace Go.Proofs.Ytmimdgjehnhnoaa
open Go Go.AbsE
set_option linter.unusedSimpArgs false
set_option maxRecDepth 100000
set_option maxHeartbeats 0
set_option linter.unusedVariables false
def FootV.rain (F : FootV) (T : Bool) : List Int := F.rs.map fun r => if T then r.2 else r.1
def FootV.first (F : FootV) (T : Bool) : List Int := F.hs.map fun x => if T then x.hi else x.lo
theorem rain_get {F : FootV} {T : Bool} (d : Nat) : ((F.rain T)[d]?).getD 0 = F.rn T d := by
 unfold FootV.rain FootV.rn
 rw [List.getElem?_map]
 cases F.rs[d]? <;> rfl
theorem w_tw {F : FootV} {T : Bool} {i : Nat} {p : Pl} : ∀ d : Nat, F.w T i p d = F.tw (F.rain T) (F.st T i) p d
 | 0 => rfl
 | d + 1 => by
  have ih := w_tw (F := F) (T := T) (i := i) (p := p) d
  unfold FootV.w FootV.tw
  rw [ih, rain_get]
theorem tw_mono {F : FootV} {R R' : List Int} {x x' : Int} {p : Pl} (hx : x ≤ x') (hR : ∀ d : Nat, (R[d]?).getD 0 ≤ (R'[d]?).getD 0) : ∀ d : Nat, F.tw R x p d ≤ F.tw R' x' p d
 | 0 => hx
 | d + 1 => by
  have ih := tw_mono (F := F) (p := p) hx hR d
  have := hR d
  unfold FootV.tw
  split <;> omega
structure Truth (F : FootV) (R fl : List Int) : Prop where
 lr : R.length = F.rs.length
 r : ∀ (k : Nat) r x, F.rs[k]? = some r → R[k]? = some x → r.1 ≤ x ∧ x ≤ r.2
 lf : fl.length = F.hs.length
 f : ∀ (k : Nat) x w, F.hs[k]? = some x → fl[k]? = some w → x.lo ≤ w ∧ w ≤ x.hi
theorem Truth.rin {F : FootV} (O : F.Ok) {R fl : List Int} (t : Truth F R fl) : ∀ x, x ∈ R → 0 ≤ x ∧ x ≤ 10 := by
 intro x hx
 obtain ⟨k, hk⟩ := List.mem_iff_getElem?.1 hx
 have hl := (List.getElem?_eq_some_iff.1 hk).1
 have hr : F.rs[k]? = some (F.rs[k]'(by rw [← t.lr]; exact hl)) := List.getElem?_eq_getElem _
 have h1 := t.r k _ x hr hk
 have h2 := O.r _ (List.mem_of_getElem? hr)
 omega
theorem Truth.get {F : FootV} {R fl : List Int} (t : Truth F R fl) (d : Nat) : F.rn false d ≤ (R[d]?).getD 0 ∧ (R[d]?).getD 0 ≤ F.rn true d := by
 unfold FootV.rn
 have hl := t.lr
 cases e : F.rs[d]? with
 | none =>
  have : R[d]? = none := by
   rw [List.getElem?_eq_none_iff] at e ⊢
   omega
  rw [this];exact ⟨Int.le_refl _, Int.le_refl _⟩
 | some r =>
  have hd := (List.getElem?_eq_some_iff.1 e).1
  have hx : R[d]? = some (R[d]'(by omega)) := List.getElem?_eq_getElem _
  rw [hx];exact t.r d r _ e hx
theorem Truth.first {F : FootV} (O : F.Ok) {R fl : List Int} (t : Truth F R fl) {i : Nat} (hi : i < F.hs.length) : ∃ x, fl[i]? = some x ∧ F.st false i ≤ x ∧ x ≤ F.st true i ∧ 0 ≤ x ∧ x ≤ 60 := by
 have hl := t.lf
 have hx : fl[i]? = some (fl[i]'(by omega)) := List.getElem?_eq_getElem _
 have hh : F.hs[i]? = some F.hs[i] := List.getElem?_eq_getElem hi
 have h1 := t.f i _ _ hh hx
 have h2 := O.h _ (List.getElem_mem hi)
 refine ⟨_, hx, ?_⟩
 unfold FootV.st
 rw [hh]
 dsimp only
 rw [if_neg (by simp), if_pos rfl]
 omega
theorem Truth.wet {F : FootV} {R fl : List Int} (t : Truth F R fl) {i : Nat} {x : Int} (h1 : F.st false i ≤ x) (h2 : x ≤ F.st true i) {p : Pl} (d : Nat) : F.w false i p d ≤ F.tw R x p d ∧ F.tw R x p d ≤ F.w true i p d := by
 rw [w_tw, w_tw];exact ⟨tw_mono h1 (fun d => by rw [rain_get]; exact (t.get d).1) d, tw_mono h2 (fun d => by rw [rain_get]; exact (t.get d).2) d⟩
theorem Truth.keeps {F : FootV} {R fl : List Int} (t : Truth F R fl) {i : Nat} {x : Int} (h1 : F.st false i ≤ x) (h2 : x ≤ F.st true i) {p : Pl} : (F.Kept true i p → F.TK R x p) ∧ (F.TK R x p → F.Kept false i p) := by
 constructor
 ·intro h k hk
  rcases kept_at.1 h k hk with q | q
  ·exact .inl q
  ·have := (t.wet h1 h2 (p := p) (p.at k).toNat).2
   exact .inr (by omega)
 ·intro h
  refine kept_at.2 fun k hk => ?_
  rcases h k hk with q | q
  ·exact .inl q
  ·have := (t.wet h1 h2 (p := p) (p.at k).toNat).1
   exact .inr (by omega)
end Go.Proofs.Ytmimdgjehnhnoaa

namespace Go.Proofs.Ytmimdgjehnhnoaa
open Go Go.AbsE
set_option linter.unusedSimpArgs false
set_option maxRecDepth 100000
set_option maxHeartbeats 0
set_option linter.unusedVariables false
end Go.Proofs.Ytmimdgjehnhnoaa

namespace Go.Proofs.Ytmimdgjehnhnoaa
open Go Go.AbsE
set_option linter.unusedSimpArgs false
set_option maxRecDepth 100000
set_option maxHeartbeats 0
set_option linter.unusedVariables false
theorem Plan_yes {F : FootV} {rsl hsl : AVal} {p : Pl} {h : AH} (A : FootAt h F rsl hsl) (hl : F.rs.length ≤ 40) (hp : p.Ord F.rs.length) :
  Runs Try.prog 31 [.agg (F.cells rsl hsl), .agg p.cells] h (fun en h' => en = .ret (.bool true) ∧ Ext h h') := by
 have := Plan_ok A hl (p := p)
 rw [decide_eq_true hp] at this;exact this
end Go.Proofs.Ytmimdgjehnhnoaa

namespace Go.Proofs.Ytmimdgjehnhnoaa
open Go Go.AbsE
set_option linter.unusedSimpArgs false
set_option maxRecDepth 100000
set_option maxHeartbeats 0
set_option linter.unusedVariables false
noncomputable def opsT5 : Array Oper := ((drawnOps Try.f5)[0]?).getD #[]
theorem befsT5 : befs0 opsT5 = [0, 1, 0, 4, 12, 31, 0, 0, 128, 448, 0, 0, 4032, 0, 0, 32767, 65535, 131071] := by kernel_rfl
theorem sizeT5 : opsT5.size = 18 := by kernel_rfl
theorem plT5_9_12_13_14 : planX opsT5 [0, 1, 0, 4, 12, 31, 0, 0, 128, 448, 0, 0, 4032, 8128, 16320, 32767, 65535, 131071] [0, 1, 2, 3, 4, 5, 6, 7, 8, 10, 11, 9, 12, 13, 14, 15, 16, 17] = some (mkPlan opsT5.toList [(0, 0, true, false), (1, 1, true, false), (2, 0, true, false), (3, 4, true, false), (4, 12, true, false), (5, 31, true, false), (6, 0, true, false), (7, 0, true, false), (8, 128, true, false), (10, 0, true, false), (11, 0, true, false), (9, 448, false, false), (12, 4032, false, false), (13, 8128, false, false), (14, 16320, false, false), (15, 32767, true, false), (16, 65535, false, false), (17, 131071, false, false)]) := by kernel_rfl
theorem plT5_9_12_14_13 : planX opsT5 [0, 1, 0, 4, 12, 31, 0, 0, 128, 448, 0, 0, 4032, 24512, 8128, 32767, 65535, 131071] [0, 1, 2, 3, 4, 5, 6, 7, 8, 10, 11, 9, 12, 14, 13, 15, 16, 17] = some (mkPlan opsT5.toList [(0, 0, true, false), (1, 1, true, false), (2, 0, true, false), (3, 4, true, false), (4, 12, true, false), (5, 31, true, false), (6, 0, true, false), (7, 0, true, false), (8, 128, true, false), (10, 0, true, false), (11, 0, true, false), (9, 448, false, false), (12, 4032, false, false), (14, 8128, false, false), (13, 24512, false, false), (15, 32767, true, false), (16, 65535, false, false), (17, 131071, false, false)]) := by kernel_rfl
theorem plT5_9_13_12_14 : planX opsT5 [0, 1, 0, 4, 12, 31, 0, 0, 128, 448, 0, 0, 12224, 960, 16320, 32767, 65535, 131071] [0, 1, 2, 3, 4, 5, 6, 7, 8, 10, 11, 9, 13, 12, 14, 15, 16, 17] = some (mkPlan opsT5.toList [(0, 0, true, false), (1, 1, true, false), (2, 0, true, false), (3, 4, true, false), (4, 12, true, false), (5, 31, true, false), (6, 0, true, false), (7, 0, true, false), (8, 128, true, false), (10, 0, true, false), (11, 0, true, false), (9, 448, false, false), (13, 960, false, false), (12, 12224, false, false), (14, 16320, false, false), (15, 32767, true, false), (16, 65535, false, false), (17, 131071, false, false)]) := by kernel_rfl
theorem plT5_9_13_14_12 : planX opsT5 [0, 1, 0, 4, 12, 31, 0, 0, 128, 448, 0, 0, 28608, 960, 9152, 32767, 65535, 131071] [0, 1, 2, 3, 4, 5, 6, 7, 8, 10, 11, 9, 13, 14, 12, 15, 16, 17] = some (mkPlan opsT5.toList [(0, 0, true, false), (1, 1, true, false), (2, 0, true, false), (3, 4, true, false), (4, 12, true, false), (5, 31, true, false), (6, 0, true, false), (7, 0, true, false), (8, 128, true, false), (10, 0, true, false), (11, 0, true, false), (9, 448, false, false), (13, 960, false, false), (14, 9152, false, false), (12, 28608, false, false), (15, 32767, true, false), (16, 65535, false, false), (17, 131071, false, false)]) := by kernel_rfl
theorem plT5_9_14_12_13 : planX opsT5 [0, 1, 0, 4, 12, 31, 0, 0, 128, 448, 0, 0, 20416, 24512, 960, 32767, 65535, 131071] [0, 1, 2, 3, 4, 5, 6, 7, 8, 10, 11, 9, 14, 12, 13, 15, 16, 17] = some (mkPlan opsT5.toList [(0, 0, true, false), (1, 1, true, false), (2, 0, true, false), (3, 4, true, false), (4, 12, true, false), (5, 31, true, false), (6, 0, true, false), (7, 0, true, false), (8, 128, true, false), (10, 0, true, false), (11, 0, true, false), (9, 448, false, false), (14, 960, false, false), (12, 20416, false, false), (13, 24512, false, false), (15, 32767, true, false), (16, 65535, false, false), (17, 131071, false, false)]) := by kernel_rfl
theorem plT5_9_14_13_12 : planX opsT5 [0, 1, 0, 4, 12, 31, 0, 0, 128, 448, 0, 0, 28608, 17344, 960, 32767, 65535, 131071] [0, 1, 2, 3, 4, 5, 6, 7, 8, 10, 11, 9, 14, 13, 12, 15, 16, 17] = some (mkPlan opsT5.toList [(0, 0, true, false), (1, 1, true, false), (2, 0, true, false), (3, 4, true, false), (4, 12, true, false), (5, 31, true, false), (6, 0, true, false), (7, 0, true, false), (8, 128, true, false), (10, 0, true, false), (11, 0, true, false), (9, 448, false, false), (14, 960, false, false), (13, 17344, false, false), (12, 28608, false, false), (15, 32767, true, false), (16, 65535, false, false), (17, 131071, false, false)]) := by kernel_rfl
theorem plT5_13_9_12_14 : planX opsT5 [0, 1, 0, 4, 12, 31, 0, 0, 128, 8640, 0, 0, 12224, 0, 16320, 32767, 65535, 131071] [0, 1, 2, 3, 4, 5, 6, 7, 8, 10, 11, 13, 9, 12, 14, 15, 16, 17] = some (mkPlan opsT5.toList [(0, 0, true, false), (1, 1, true, false), (2, 0, true, false), (3, 4, true, false), (4, 12, true, false), (5, 31, true, false), (6, 0, true, false), (7, 0, true, false), (8, 128, true, false), (10, 0, true, false), (11, 0, true, false), (13, 0, false, false), (9, 8640, false, false), (12, 12224, false, false), (14, 16320, false, false), (15, 32767, true, false), (16, 65535, false, false), (17, 131071, false, false)]) := by kernel_rfl
theorem plT5_13_9_14_12 : planX opsT5 [0, 1, 0, 4, 12, 31, 0, 0, 128, 8640, 0, 0, 28608, 0, 9152, 32767, 65535, 131071] [0, 1, 2, 3, 4, 5, 6, 7, 8, 10, 11, 13, 9, 14, 12, 15, 16, 17] = some (mkPlan opsT5.toList [(0, 0, true, false), (1, 1, true, false), (2, 0, true, false), (3, 4, true, false), (4, 12, true, false), (5, 31, true, false), (6, 0, true, false), (7, 0, true, false), (8, 128, true, false), (10, 0, true, false), (11, 0, true, false), (13, 0, false, false), (9, 8640, false, false), (14, 9152, false, false), (12, 28608, false, false), (15, 32767, true, false), (16, 65535, false, false), (17, 131071, false, false)]) := by kernel_rfl
theorem plT5_13_14_9_12 : planX opsT5 [0, 1, 0, 4, 12, 31, 0, 0, 128, 25024, 0, 0, 28608, 0, 8192, 32767, 65535, 131071] [0, 1, 2, 3, 4, 5, 6, 7, 8, 10, 11, 13, 14, 9, 12, 15, 16, 17] = some (mkPlan opsT5.toList [(0, 0, true, false), (1, 1, true, false), (2, 0, true, false), (3, 4, true, false), (4, 12, true, false), (5, 31, true, false), (6, 0, true, false), (7, 0, true, false), (8, 128, true, false), (10, 0, true, false), (11, 0, true, false), (13, 0, false, false), (14, 8192, false, false), (9, 25024, false, false), (12, 28608, false, false), (15, 32767, true, false), (16, 65535, false, false), (17, 131071, false, false)]) := by kernel_rfl
theorem plT5_14_9_12_13 : planX opsT5 [0, 1, 0, 4, 12, 31, 0, 0, 128, 16832, 0, 0, 20416, 24512, 0, 32767, 65535, 131071] [0, 1, 2, 3, 4, 5, 6, 7, 8, 10, 11, 14, 9, 12, 13, 15, 16, 17] = some (mkPlan opsT5.toList [(0, 0, true, false), (1, 1, true, false), (2, 0, true, false), (3, 4, true, false), (4, 12, true, false), (5, 31, true, false), (6, 0, true, false), (7, 0, true, false), (8, 128, true, false), (10, 0, true, false), (11, 0, true, false), (14, 0, false, false), (9, 16832, false, false), (12, 20416, false, false), (13, 24512, false, false), (15, 32767, true, false), (16, 65535, false, false), (17, 131071, false, false)]) := by kernel_rfl
theorem plT5_14_9_13_12 : planX opsT5 [0, 1, 0, 4, 12, 31, 0, 0, 128, 16832, 0, 0, 28608, 17344, 0, 32767, 65535, 131071] [0, 1, 2, 3, 4, 5, 6, 7, 8, 10, 11, 14, 9, 13, 12, 15, 16, 17] = some (mkPlan opsT5.toList [(0, 0, true, false), (1, 1, true, false), (2, 0, true, false), (3, 4, true, false), (4, 12, true, false), (5, 31, true, false), (6, 0, true, false), (7, 0, true, false), (8, 128, true, false), (10, 0, true, false), (11, 0, true, false), (14, 0, false, false), (9, 16832, false, false), (13, 17344, false, false), (12, 28608, false, false), (15, 32767, true, false), (16, 65535, false, false), (17, 131071, false, false)]) := by kernel_rfl
theorem plT5_14_13_9_12 : planX opsT5 [0, 1, 0, 4, 12, 31, 0, 0, 128, 25024, 0, 0, 28608, 16384, 0, 32767, 65535, 131071] [0, 1, 2, 3, 4, 5, 6, 7, 8, 10, 11, 14, 13, 9, 12, 15, 16, 17] = some (mkPlan opsT5.toList [(0, 0, true, false), (1, 1, true, false), (2, 0, true, false), (3, 4, true, false), (4, 12, true, false), (5, 31, true, false), (6, 0, true, false), (7, 0, true, false), (8, 128, true, false), (10, 0, true, false), (11, 0, true, false), (14, 0, false, false), (13, 16384, false, false), (9, 25024, false, false), (12, 28608, false, false), (15, 32767, true, false), (16, 65535, false, false), (17, 131071, false, false)]) := by kernel_rfl
theorem altsT5 {P : Program} {c : FC} {k : List AItem} {id : Nat} {t : Tr AVal} {h : AH} {Q : AM → Prop}
  (g9_12_13_14 : ∀ pl, planX opsT5 [0, 1, 0, 4, 12, 31, 0, 0, 128, 448, 0, 0, 4032, 8128, 16320, 32767, 65535, 131071] [0, 1, 2, 3, 4, 5, 6, 7, 8, 10, 11, 9, 12, 13, 14, 15, 16, 17] = some pl → GoE P c k Q opsT5 pl (eraseT opsT5.toList t) [] t h)
  (g9_12_14_13 : ∀ pl, planX opsT5 [0, 1, 0, 4, 12, 31, 0, 0, 128, 448, 0, 0, 4032, 24512, 8128, 32767, 65535, 131071] [0, 1, 2, 3, 4, 5, 6, 7, 8, 10, 11, 9, 12, 14, 13, 15, 16, 17] = some pl → GoE P c k Q opsT5 pl (eraseT opsT5.toList t) [] t h)
  (g9_13_12_14 : ∀ pl, planX opsT5 [0, 1, 0, 4, 12, 31, 0, 0, 128, 448, 0, 0, 12224, 960, 16320, 32767, 65535, 131071] [0, 1, 2, 3, 4, 5, 6, 7, 8, 10, 11, 9, 13, 12, 14, 15, 16, 17] = some pl → GoE P c k Q opsT5 pl (eraseT opsT5.toList t) [] t h)
  (g9_13_14_12 : ∀ pl, planX opsT5 [0, 1, 0, 4, 12, 31, 0, 0, 128, 448, 0, 0, 28608, 960, 9152, 32767, 65535, 131071] [0, 1, 2, 3, 4, 5, 6, 7, 8, 10, 11, 9, 13, 14, 12, 15, 16, 17] = some pl → GoE P c k Q opsT5 pl (eraseT opsT5.toList t) [] t h)
  (g9_14_12_13 : ∀ pl, planX opsT5 [0, 1, 0, 4, 12, 31, 0, 0, 128, 448, 0, 0, 20416, 24512, 960, 32767, 65535, 131071] [0, 1, 2, 3, 4, 5, 6, 7, 8, 10, 11, 9, 14, 12, 13, 15, 16, 17] = some pl → GoE P c k Q opsT5 pl (eraseT opsT5.toList t) [] t h)
  (g9_14_13_12 : ∀ pl, planX opsT5 [0, 1, 0, 4, 12, 31, 0, 0, 128, 448, 0, 0, 28608, 17344, 960, 32767, 65535, 131071] [0, 1, 2, 3, 4, 5, 6, 7, 8, 10, 11, 9, 14, 13, 12, 15, 16, 17] = some pl → GoE P c k Q opsT5 pl (eraseT opsT5.toList t) [] t h)
  (g13_9_12_14 : ∀ pl, planX opsT5 [0, 1, 0, 4, 12, 31, 0, 0, 128, 8640, 0, 0, 12224, 0, 16320, 32767, 65535, 131071] [0, 1, 2, 3, 4, 5, 6, 7, 8, 10, 11, 13, 9, 12, 14, 15, 16, 17] = some pl → GoE P c k Q opsT5 pl (eraseT opsT5.toList t) [] t h)
  (g13_9_14_12 : ∀ pl, planX opsT5 [0, 1, 0, 4, 12, 31, 0, 0, 128, 8640, 0, 0, 28608, 0, 9152, 32767, 65535, 131071] [0, 1, 2, 3, 4, 5, 6, 7, 8, 10, 11, 13, 9, 14, 12, 15, 16, 17] = some pl → GoE P c k Q opsT5 pl (eraseT opsT5.toList t) [] t h)
  (g13_14_9_12 : ∀ pl, planX opsT5 [0, 1, 0, 4, 12, 31, 0, 0, 128, 25024, 0, 0, 28608, 0, 8192, 32767, 65535, 131071] [0, 1, 2, 3, 4, 5, 6, 7, 8, 10, 11, 13, 14, 9, 12, 15, 16, 17] = some pl → GoE P c k Q opsT5 pl (eraseT opsT5.toList t) [] t h)
  (g14_9_12_13 : ∀ pl, planX opsT5 [0, 1, 0, 4, 12, 31, 0, 0, 128, 16832, 0, 0, 20416, 24512, 0, 32767, 65535, 131071] [0, 1, 2, 3, 4, 5, 6, 7, 8, 10, 11, 14, 9, 12, 13, 15, 16, 17] = some pl → GoE P c k Q opsT5 pl (eraseT opsT5.toList t) [] t h)
  (g14_9_13_12 : ∀ pl, planX opsT5 [0, 1, 0, 4, 12, 31, 0, 0, 128, 16832, 0, 0, 28608, 17344, 0, 32767, 65535, 131071] [0, 1, 2, 3, 4, 5, 6, 7, 8, 10, 11, 14, 9, 13, 12, 15, 16, 17] = some pl → GoE P c k Q opsT5 pl (eraseT opsT5.toList t) [] t h)
  (g14_13_9_12 : ∀ pl, planX opsT5 [0, 1, 0, 4, 12, 31, 0, 0, 128, 25024, 0, 0, 28608, 16384, 0, 32767, 65535, 131071] [0, 1, 2, 3, 4, 5, 6, 7, 8, 10, 11, 14, 13, 9, 12, 15, 16, 17] = some pl → GoE P c k Q opsT5 pl (eraseT opsT5.toList t) [] t h) :
  Go P c (.code (.region id opsT5 true) :: k) t h Q := by
 refine Go.drawnX plT5_14_13_9_12 fun s hv => ?_
 have hb := fun i k hi hk => VB.before hv befsT5 i k (by rw [sizeT5]; exact hi) hk
 have h8_7 := hb 8 7 (by decide) (by decide)
 have h9_6 := hb 9 6 (by decide) (by decide)
 have h9_7 := hb 9 7 (by decide) (by decide)
 have h9_8 := hb 9 8 (by decide) (by decide)
 have h12_6 := hb 12 6 (by decide) (by decide)
 have h12_7 := hb 12 7 (by decide) (by decide)
 have h12_8 := hb 12 8 (by decide) (by decide)
 have h12_9 := hb 12 9 (by decide) (by decide)
 have h12_10 := hb 12 10 (by decide) (by decide)
 have h12_11 := hb 12 11 (by decide) (by decide)
 have d13_9 := VB.apart hv befsT5 13 9 (by rw [sizeT5]; decide) (by decide)
 have d13_12 := VB.apart hv befsT5 13 12 (by rw [sizeT5]; decide) (by decide)
 have d14_9 := VB.apart hv befsT5 14 9 (by rw [sizeT5]; decide) (by decide)
 have d14_12 := VB.apart hv befsT5 14 12 (by rw [sizeT5]; decide) (by decide)
 have d13_14 := VB.apart hv befsT5 13 14 (by rw [sizeT5]; decide) (by decide)
 by_cases q13_9 : s.idxOf 13 < s.idxOf 9
 ·by_cases q14_9 : s.idxOf 14 < s.idxOf 9
  ·by_cases q13_14 : s.idxOf 13 < s.idxOf 14
   ·refine ⟨_, _, _, plT5_13_14_9_12, VB.alt hv befsT5 sizeT5 [(13, 9), (14, 9), (13, 12), (14, 12), (13, 14)] (by kernel_rfl) ?_, g13_14_9_12 _ plT5_13_14_9_12⟩
    intro e he
    simp only [List.mem_cons, List.not_mem_nil, or_false] at he
    rcases he with rfl | rfl | rfl | rfl | rfl <;> dsimp only <;> omega
   ·refine ⟨_, _, _, plT5_14_13_9_12, VB.alt hv befsT5 sizeT5 [(13, 9), (14, 9), (13, 12), (14, 12), (14, 13)] (by kernel_rfl) ?_, g14_13_9_12 _ plT5_14_13_9_12⟩
    intro e he
    simp only [List.mem_cons, List.not_mem_nil, or_false] at he
    rcases he with rfl | rfl | rfl | rfl | rfl <;> dsimp only <;> omega
  ·by_cases q14_12 : s.idxOf 14 < s.idxOf 12
   ·refine ⟨_, _, _, plT5_13_9_14_12, VB.alt hv befsT5 sizeT5 [(13, 9), (13, 12), (14, 12), (6, 14), (7, 14), (8, 14), (9, 14), (13, 14)] (by kernel_rfl) ?_, g13_9_14_12 _ plT5_13_9_14_12⟩
    intro e he
    simp only [List.mem_cons, List.not_mem_nil, or_false] at he
    rcases he with rfl | rfl | rfl | rfl | rfl | rfl | rfl | rfl <;> dsimp only <;> omega
   ·refine ⟨_, _, _, plT5_13_9_12_14, VB.alt hv befsT5 sizeT5 [(13, 9), (13, 12), (6, 14), (7, 14), (8, 14), (9, 14), (10, 14), (11, 14), (12, 14), (13, 14)] (by kernel_rfl) ?_, g13_9_12_14 _ plT5_13_9_12_14⟩
    intro e he
    simp only [List.mem_cons, List.not_mem_nil, or_false] at he
    rcases he with rfl | rfl | rfl | rfl | rfl | rfl | rfl | rfl | rfl | rfl <;> dsimp only <;> omega
 ·by_cases q13_12 : s.idxOf 13 < s.idxOf 12
  ·by_cases q14_9 : s.idxOf 14 < s.idxOf 9
   ·refine ⟨_, _, _, plT5_14_9_13_12, VB.alt hv befsT5 sizeT5 [(14, 9), (13, 12), (14, 12), (6, 13), (7, 13), (8, 13), (9, 13), (14, 13)] (by kernel_rfl) ?_, g14_9_13_12 _ plT5_14_9_13_12⟩
    intro e he
    simp only [List.mem_cons, List.not_mem_nil, or_false] at he
    rcases he with rfl | rfl | rfl | rfl | rfl | rfl | rfl | rfl <;> dsimp only <;> omega
   ·by_cases q14_12 : s.idxOf 14 < s.idxOf 12
    ·by_cases q13_14 : s.idxOf 13 < s.idxOf 14
     ·refine ⟨_, _, _, plT5_9_13_14_12, VB.alt hv befsT5 sizeT5 [(13, 12), (14, 12), (6, 13), (7, 13), (8, 13), (9, 13), (6, 14), (7, 14), (8, 14), (9, 14), (13, 14)] (by kernel_rfl) ?_, g9_13_14_12 _ plT5_9_13_14_12⟩
      intro e he
      simp only [List.mem_cons, List.not_mem_nil, or_false] at he
      rcases he with rfl | rfl | rfl | rfl | rfl | rfl | rfl | rfl | rfl | rfl | rfl <;> dsimp only <;> omega
     ·refine ⟨_, _, _, plT5_9_14_13_12, VB.alt hv befsT5 sizeT5 [(13, 12), (14, 12), (6, 13), (7, 13), (8, 13), (9, 13), (14, 13), (6, 14), (7, 14), (8, 14), (9, 14)] (by kernel_rfl) ?_, g9_14_13_12 _ plT5_9_14_13_12⟩
      intro e he
      simp only [List.mem_cons, List.not_mem_nil, or_false] at he
      rcases he with rfl | rfl | rfl | rfl | rfl | rfl | rfl | rfl | rfl | rfl | rfl <;> dsimp only <;> omega
    ·refine ⟨_, _, _, plT5_9_13_12_14, VB.alt hv befsT5 sizeT5 [(13, 12), (6, 13), (7, 13), (8, 13), (9, 13), (6, 14), (7, 14), (8, 14), (9, 14), (10, 14), (11, 14), (12, 14), (13, 14)] (by kernel_rfl) ?_, g9_13_12_14 _ plT5_9_13_12_14⟩
     intro e he
     simp only [List.mem_cons, List.not_mem_nil, or_false] at he
     rcases he with rfl | rfl | rfl | rfl | rfl | rfl | rfl | rfl | rfl | rfl | rfl | rfl | rfl <;> dsimp only <;> omega
  ·by_cases q14_9 : s.idxOf 14 < s.idxOf 9
   ·refine ⟨_, _, _, plT5_14_9_12_13, VB.alt hv befsT5 sizeT5 [(14, 9), (14, 12), (6, 13), (7, 13), (8, 13), (9, 13), (10, 13), (11, 13), (12, 13), (14, 13)] (by kernel_rfl) ?_, g14_9_12_13 _ plT5_14_9_12_13⟩
    intro e he
    simp only [List.mem_cons, List.not_mem_nil, or_false] at he
    rcases he with rfl | rfl | rfl | rfl | rfl | rfl | rfl | rfl | rfl | rfl <;> dsimp only <;> omega
   ·by_cases q14_12 : s.idxOf 14 < s.idxOf 12
    ·refine ⟨_, _, _, plT5_9_14_12_13, VB.alt hv befsT5 sizeT5 [(14, 12), (6, 13), (7, 13), (8, 13), (9, 13), (10, 13), (11, 13), (12, 13), (14, 13), (6, 14), (7, 14), (8, 14), (9, 14)] (by kernel_rfl) ?_, g9_14_12_13 _ plT5_9_14_12_13⟩
     intro e he
     simp only [List.mem_cons, List.not_mem_nil, or_false] at he
     rcases he with rfl | rfl | rfl | rfl | rfl | rfl | rfl | rfl | rfl | rfl | rfl | rfl | rfl <;> dsimp only <;> omega
    ·by_cases q13_14 : s.idxOf 13 < s.idxOf 14
     ·refine ⟨_, _, _, plT5_9_12_13_14, VB.alt hv befsT5 sizeT5 [(6, 13), (7, 13), (8, 13), (9, 13), (10, 13), (11, 13), (12, 13), (6, 14), (7, 14), (8, 14), (9, 14), (10, 14), (11, 14), (12, 14), (13, 14)] (by kernel_rfl) ?_, g9_12_13_14 _ plT5_9_12_13_14⟩
      intro e he
      simp only [List.mem_cons, List.not_mem_nil, or_false] at he
      rcases he with rfl | rfl | rfl | rfl | rfl | rfl | rfl | rfl | rfl | rfl | rfl | rfl | rfl | rfl | rfl <;> dsimp only <;> omega
     ·refine ⟨_, _, _, plT5_9_12_14_13, VB.alt hv befsT5 sizeT5 [(6, 13), (7, 13), (8, 13), (9, 13), (10, 13), (11, 13), (12, 13), (14, 13), (6, 14), (7, 14), (8, 14), (9, 14), (10, 14), (11, 14), (12, 14)] (by kernel_rfl) ?_, g9_12_14_13 _ plT5_9_12_14_13⟩
      intro e he
      simp only [List.mem_cons, List.not_mem_nil, or_false] at he
      rcases he with rfl | rfl | rfl | rfl | rfl | rfl | rfl | rfl | rfl | rfl | rfl | rfl | rfl | rfl | rfl <;> dsimp only <;> omega
end Go.Proofs.Ytmimdgjehnhnoaa
