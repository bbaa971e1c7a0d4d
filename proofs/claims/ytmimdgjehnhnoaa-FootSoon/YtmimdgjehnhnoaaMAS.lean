import Derived.Test.YtmimdgjehnhnoaaMAR
import Derived.Test.YtmimdgjehnhnoaaMAN
import Derived.Test.YtmimdgjehnhnoaaMAG
import Derived.Deep.Slices
import Derived.Lib.SmallJoins
import Derived.Carry
import Derived.Laws.IdiomArrays
import Derived.Test.YtmimdgjehnhnoaaRows
import Derived.WalkKit
import Derived.ProofKit
import Derived.OpenShut
namespace Go.Proofs.Ytmimdgjehnhnoaa
open Go Go.AbsE
set_option linter.unusedSimpArgs false
set_option maxRecDepth 100000
set_option maxHeartbeats 0
set_option linter.unusedVariables false
theorem w_mono {F : FootV} (O : F.Ok) {i : Nat} (hi : i < F.hs.length) {p : Pl} : ∀ d, d ≤ F.rs.length → F.w false i p d ≤ F.w true i p d
 | 0, _ => by
  show F.st false i ≤ F.st true i
  unfold FootV.st
  have hx : F.hs[i]? = some F.hs[i] := List.getElem?_eq_getElem hi
  rw [hx]
  have := O.h _ (List.getElem_mem hi)
  show F.hs[i].lo ≤ F.hs[i].hi
  omega
 | d + 1, hd => by
  have ih := w_mono O hi (p := p) d (by omega)
  have hr : F.rn false d ≤ F.rn true d := by
   unfold FootV.rn
   have hx : F.rs[d]? = some F.rs[d] := List.getElem?_eq_getElem (by omega)
   rw [hx]
   have := O.r _ (List.getElem_mem (show d < F.rs.length by omega))
   show F.rs[d].1 ≤ F.rs[d].2
   omega
  unfold FootV.w
  split <;> omega
theorem kept_mono {F : FootV} (O : F.Ok) {i : Nat} (hi : i < F.hs.length) {p : Pl} (hp : p.Ord F.rs.length) (h : F.Kept true i p) : F.Kept false i p := by
 have hw := fun d hd => w_mono O hi (p := p) d hd
 obtain ⟨h1, h2, h3⟩ := h
 unfold Pl.Ord at hp
 refine ⟨h1.elim .inl fun q => ?_, h2.elim .inl fun q => ?_, h3.elim .inl fun q => ?_⟩
 ·by_cases c : p.a = -1
  ·exact .inl c
  ·have := hw p.a.toNat (by omega)
   exact .inr (by omega)
 ·by_cases c : p.b = -1
  ·exact .inl c
  ·have := hw p.b.toNat (by omega)
   exact .inr (by omega)
 ·by_cases c : p.c = -1
  ·exact .inl c
  ·have := hw p.c.toNat (by omega)
   exact .inr (by omega)
def Sooner (x q : Pl) : Prop := x.c < q.c ∨ (x.c = q.c ∧ (x = q ∨ x.lt q))
theorem firstV_is {p : Pl → Bool} : ∀ (Q P : List Pl) (st : Option Pl), (P ++ Q).Pairwise Pl.lt →
  (match st with | none => ∀ q, q ∈ P → p q = false | some x => x ∈ P ∧ p x = true ∧ ∀ q, q ∈ P → p q = true → Sooner x q) →
  (match Q.foldl (stepV p) st with | none => ∀ q, q ∈ P ++ Q → p q = false | some x => x ∈ P ++ Q ∧ p x = true ∧ ∀ q, q ∈ P ++ Q → p q = true → Sooner x q) := by
 intro Q
 induction Q with
 | nil => intro P st _ h; rw [List.append_nil]; exact h
 | cons y Q ih =>
  intro P st hs h
  rw [List.foldl_cons]
  have e : P ++ y :: Q = (P ++ [y]) ++ Q := by simp
  rw [e]
  rw [e] at hs
  refine ih (P ++ [y]) _ hs ?_
  have hlt : ∀ x, x ∈ P → x.lt y := fun x hx => (List.pairwise_append.1 (List.pairwise_append.1 hs).1).2.2 x hx y (by simp)
  unfold stepV
  cases hy : p y with
  | false =>
   rw [if_neg (by simp)]
   cases st with
   | none =>
    intro q hq
    rcases List.mem_append.1 hq with hq | hq
    ·exact h q hq
    ·rw [show q = y by simpa using hq]; exact hy
   | some x =>
    refine ⟨List.mem_append.2 (.inl h.1), h.2.1, fun q hq hp => ?_⟩
    rcases List.mem_append.1 hq with hq | hq
    ·exact h.2.2 q hq hp
    ·rw [show q = y by simpa using hq, hy] at hp; cases hp
  | true =>
   rw [if_pos rfl]
   cases st with
   | none =>
    refine ⟨by simp, hy, fun q hq hp => ?_⟩
    rcases List.mem_append.1 hq with hq | hq
    ·rw [h q hq] at hp; cases hp
    ·rw [show q = y by simpa using hq]; exact .inr ⟨rfl, .inl rfl⟩
   | some x =>
    by_cases hc : y.c < x.c
    ·simp only [if_pos hc]
     refine ⟨by simp, hy, fun q hq hp => ?_⟩
     rcases List.mem_append.1 hq with hq | hq
     ·have := h.2.2 q hq hp
      unfold Sooner at this
      exact .inl (by omega)
     ·rw [show q = y by simpa using hq]; exact .inr ⟨rfl, .inl rfl⟩
    ·simp only [if_neg hc]
     refine ⟨List.mem_append.2 (.inl h.1), h.2.1, fun q hq hp => ?_⟩
     rcases List.mem_append.1 hq with hq | hq
     ·exact h.2.2 q hq hp
     ·rw [show q = y by simpa using hq]
      by_cases c : x.c = y.c
      ·exact .inr ⟨c, .inr (hlt x h.1)⟩
      ·exact .inl (by omega)
theorem soon_some {F : FootV} {T : Bool} {i : Nat} {s : Pl} (h : F.soon T i = some s) : s ∈ wholeL F.rs.length ∧ F.Kept T i s ∧ ∀ q, q ∈ wholeL F.rs.length → F.Kept T i q → Sooner s q := by
 have := firstV_is (p := fun p => decide (F.Kept T i p)) (wholeL F.rs.length) [] none (by rw [List.nil_append]; exact whole_sorted _) (fun q hq => by cases hq)
 rw [List.nil_append] at this
 unfold FootV.soon firstV at h
 rw [h] at this
 exact ⟨this.1, of_decide_eq_true this.2.1, fun q hq hk => this.2.2 q hq (decide_eq_true hk)⟩
theorem soon_none {F : FootV} {T : Bool} {i : Nat} (h : F.soon T i = none) : ∀ q, q ∈ wholeL F.rs.length → ¬ F.Kept T i q := by
 have := firstV_is (p := fun p => decide (F.Kept T i p)) (wholeL F.rs.length) [] none (by rw [List.nil_append]; exact whole_sorted _) (fun q hq => by cases hq)
 rw [List.nil_append] at this
 unfold FootV.soon firstV at h
 rw [h] at this
 exact fun q hq => of_decide_eq_false (this q hq)
theorem soon_of {F : FootV} {T : Bool} {i : Nat} {q : Pl} (hq : q ∈ wholeL F.rs.length) (hk : F.Kept T i q) : ∃ s, F.soon T i = some s := by
 cases e : F.soon T i with
 | none => exact absurd hk (soon_none e q hq)
 | some s => exact ⟨s, rfl⟩
theorem set_test {F : FootV} {T : Bool} : ∀ (n i : Nat), (F.set T n).testBit i = (decide (i < n) && (F.soon T i).isSome)
 | 0, i => by simp [FootV.set]
 | n + 1, i => by
  have ih := set_test (F := F) (T := T) n i
  unfold FootV.set
  split
  ·rename_i h
   rw [Nat.testBit_or, ih, Nat.testBit_two_pow]
   by_cases c : i = n
   ·subst c
    simp [h]
   ·have e1 : decide (n = i) = false := decide_eq_false (by omega)
    have e2 : decide (i < n + 1) = decide (i < n) := decide_eq_decide.2 (by omega)
    rw [e1, e2, Bool.or_false]
  ·rename_i h
   rw [ih]
   by_cases c : i = n
   ·subst c
    simp [h]
   ·have e2 : decide (i < n + 1) = decide (i < n) := decide_eq_decide.2 (by omega)
    rw [e2]
theorem set_bit {F : FootV} {T : Bool} {n i : Nat} (hi : i < n) : F.set T n / 2 ^ i % 2 = if (F.soon T i).isSome then 1 else 0 := by
 have := set_test (F := F) (T := T) n i
 rw [Nat.testBit_eq_decide_div_mod_eq, decide_eq_true hi, Bool.true_and] at this
 split
 ·rename_i h
  rw [h] at this
  exact of_decide_eq_true this
 ·rename_i h
  have h : (F.soon T i).isSome = false := by simpa using h
  rw [h] at this
  have := of_decide_eq_false this
  omega
theorem bits3 : ∀ a : Fin 8, ∀ b : Fin 8, (∀ i : Fin 3, a.1.testBit i.1 = true → b.1.testBit i.1 = true) → andNot a.1 b.1 = 0 := by decide +kernel
theorem soon_mono {F : FootV} (O : F.Ok) {i : Nat} (hi : i < F.hs.length) (h : (F.soon true i).isSome = true) : (F.soon false i).isSome = true := by
 obtain ⟨s, hs⟩ := Option.isSome_iff_exists.1 h
 obtain ⟨h1, h2, _⟩ := soon_some hs
 obtain ⟨s', hs'⟩ := soon_of h1 (kept_mono O hi (whole_ord h1) h2)
 rw [hs']
 rfl
theorem set_sub {F : FootV} (O : F.Ok) : andNot (F.set true F.hs.length) (F.set false F.hs.length) = 0 := by
 have hn := O.nh
 have h1 := set_lt F true F.hs.length
 have h2 := set_lt F false F.hs.length
 have h8 : 2 ^ F.hs.length ≤ 2 ^ 3 := Nat.pow_le_pow_right (by omega) hn
 refine bits3 ⟨_, by omega⟩ ⟨_, by omega⟩ fun i hb => ?_
 dsimp only at hb ⊢
 rw [set_test, Bool.and_eq_true] at hb ⊢
 exact ⟨hb.1, soon_mono O (of_decide_eq_true hb.1) hb.2⟩
theorem ord_whole {n : Nat} {p : Pl} (h : p.Ord n) (h0 : wholeP p) : p ∈ wholeL n := by
 unfold Pl.Ord at h
 unfold wholeP at h0
 exact whole_mem.2 (by omega)
end Go.Proofs.Ytmimdgjehnhnoaa

namespace Go.Proofs.Ytmimdgjehnhnoaa
open Go Go.AbsE
set_option linter.unusedSimpArgs false
set_option maxRecDepth 100000
set_option maxHeartbeats 0
set_option linter.unusedVariables false
theorem bit_fdiv (a k : Nat) : ((a : Nat) : Int).fdiv (2 ^ k) = ((a / 2 ^ k : Nat) : Int) := by
 rw [Int.fdiv_eq_ediv_of_nonneg _ (by exact_mod_cast Nat.zero_le _)]
 norm_cast
theorem bit_mod (a : Nat) : ((a : Nat) : Int) % 2 = ((a % 2 : Nat) : Int) := rfl
theorem Whole_is {a b c : Int} {r : Bool} (hr : decide (0 ≤ a ∧ 0 ≤ b ∧ 0 ≤ c) = r) {h : AH} : Runs Try.prog 30 [.agg [.int .i64 a, .int .i64 b, .int .i64 c]] h (fun en h' => en = .ret (.bool r) ∧ Ext h h') := by
 rw [← hr]
 exact Whole_ok
theorem Can_ord {F : FootV} (O : F.Ok) {k : Nat} (hk : k < F.hs.length) {p : Pl} (hp : p.Ord F.rs.length) {rsl hsl : AVal} {h : AH} (A : FootAt h F rsl hsl) :
  Runs Try.prog 16 [.agg (F.cells rsl hsl), .int .i64 (k : Nat), .agg p.cells] h (fun en h' => en = .ret (.tuple [.int .i64 (F.can k p), .int .i64 0]) ∧ Ext h h') := by
 have h1 := O.nr
 have h2 := O.nh
 have := Can_ok A (by omega) (by omega) (k : Nat) p
 unfold FootV.canR at this
 rw [if_pos O, if_pos ⟨by omega, hp⟩, Int.toNat_natCast] at this
 exact this
theorem law7_none {F : FootV} (O : F.Ok) (h0 : F.hs.length = 0) {rsl hsl a b c d : AVal} {h : AH} (A : FootAt h F rsl hsl) :
  Runs Try.prog 7 [.agg (F.cells rsl hsl), a, b, c, d] h (fun en h' => en = .ret (.bool true) ∧ Ext h h') := by
 have hnr := O.nr
 have hl2 := A.hs.len
 rw [List.length_map] at hl2
 have hfi := fun h A => fine_ok (F := F) (h := h) (rsl := rsl) (hsl := hsl) A (by omega) (by omega)
 rw [(okB_iff F).2 O] at hfi
 unfold FootV.cells at hfi ⊢
 have e0 : Ext h h := Ext.refl _
 refine Runs.intro aFunc7 rfl rfl rfl rfl fun rest => ?_
 apply gS
 refine gR rfl ?_
 refine GoR.box rfl rfl rfl rfl rfl rfl fun h1 x1 f1 => ?_
 have := e0.1
 replace e0 := e0.trans x1
 have := f1.1
 refine gO rfl rfl rfl rfl ?_
 apply gE
 iterate 2 apply gS
 refine gR rfl ?_
 refine gO rfl rfl (ld26 rfl f1 rfl) rfl ?_
 refine GoR.call rfl rfl (aCF aFunc24 rfl) (hfi _ (A.ext e0)) ?_ np
 rintro v2 h2 ⟨q, x2⟩
 cases q
 refine ⟨_, rfl, ?_⟩
 replace f1 := f1.ext x2
 replace e0 := e0.trans x2
 iterate 2 refine gO rfl rfl rfl rfl ?_
 refine gO rfl rfl (fa26_4 rfl) rfl ?_
 refine gO rfl rfl (ld24 rfl f1 rfl) rfl ?_
 refine gO rfl rfl (aOp_lenSlice Try.underlying24 rfl hl2) rfl ?_
 refine gO rfl rfl (aOp_eql rfl rfl (r := true) (dt (by omega))) rfl ?_
 refine gO rfl rfl rfl rfl ?_
 apply gE
 refine gC (b := true) rfl ?_
 apply gS
 refine gR rfl ?_
 refine GoR.call rfl rfl (aCF aFunc13 rfl) (awake_ok) ?_ np
 rintro v3 h3 ⟨q, x3⟩
 cases q
 refine ⟨_, rfl, ?_⟩
 replace f1 := f1.ext x3
 replace e0 := e0.trans x3
 refine gO rfl rfl rfl rfl ?_
 apply gE
 exact gV (ret_end (aResult_of Try.func7 rfl rfl) ⟨rfl, e0⟩)
theorem law7_no {F : FootV} {rsl hsl a b c d : AVal} {h : AH} (hf : ∀ h', Ext h h' → Runs Try.prog 24 [.agg (F.cells rsl hsl)] h' (fun en h2 => en = .ret (.bool false) ∧ Ext h' h2)) :
  Runs Try.prog 7 [.agg (F.cells rsl hsl), a, b, c, d] h (fun en h' => en = .ret (.bool true) ∧ Ext h h') := by
 unfold FootV.cells at hf ⊢
 have e0 : Ext h h := Ext.refl _
 refine Runs.intro aFunc7 rfl rfl rfl rfl fun rest => ?_
 apply gS
 refine gR rfl ?_
 refine GoR.box rfl rfl rfl rfl rfl rfl fun h0 x0 f0 => ?_
 have := e0.1
 replace e0 := e0.trans x0
 have := f0.1
 refine gO rfl rfl rfl rfl ?_
 apply gE
 iterate 2 apply gS
 refine gR rfl ?_
 refine gO rfl rfl (ld26 rfl f0 rfl) rfl ?_
 refine GoR.call rfl rfl (aCF aFunc24 rfl) (hf _ e0) ?_ np
 rintro v1 h1 ⟨q, x1⟩
 cases q
 refine ⟨_, rfl, ?_⟩
 replace f0 := f0.ext x1
 replace e0 := e0.trans x1
 iterate 2 refine gO rfl rfl rfl rfl ?_
 iterate 4 refine GoR.skip rfl rfl rfl ?_
 refine gO rfl rfl rfl rfl ?_
 apply gE
 refine gC (b := true) rfl ?_
 apply gS
 refine gR rfl ?_
 refine GoR.call rfl rfl (aCF aFunc13 rfl) (awake_ok) ?_ np
 rintro v2 h2 ⟨q, x2⟩
 cases q
 refine ⟨_, rfl, ?_⟩
 replace f0 := f0.ext x2
 replace e0 := e0.trans x2
 refine gO rfl rfl rfl rfl ?_
 apply gE
 exact gV (ret_end (aResult_of Try.func7 rfl rfl) ⟨rfl, e0⟩)
theorem law7_ok {F : FootV} (O : F.Ok) (h0 : F.hs.length ≠ 0) {rsl hsl : AVal} {a b c d : Nat} (ha : a < 256) (hb : b < 256) (hc : c < 256) (hd : d < 256) {h : AH} (A : FootAt h F rsl hsl) :
  Runs Try.prog 7 [.agg (F.cells rsl hsl), .int .u8 a, .int .u8 b, .int .u8 c, .int .u8 d] h (fun en h' => en = .ret (.bool true) ∧ Ext h h') := by
 have hnr := O.nr
 have hnh := O.nh
 have hl1 := A.rs.len
 have hl2 := A.hs.len
 rw [List.length_map] at hl1 hl2
 have hfi := fun h A => fine_ok (F := F) (h := h) (rsl := rsl) (hsl := hsl) A (by omega) (by omega)
 rw [(okB_iff F).2 O] at hfi
 obtain ⟨k, hk⟩ : ∃ k, a % F.hs.length = k := ⟨_, rfl⟩
 have hkl : k < F.hs.length := by rw [← hk]; exact Nat.mod_lt _ (by omega)
 obtain ⟨s, e, hse, hcase⟩ : ∃ (s : Pl) (e : Int), F.soonR (k : Nat) = (s, e) ∧ ((e = 0 ∧ F.soon true k = some s) ∨ (e = 4 ∧ s = zeroPl ∧ F.soon true k = none)) := by
  unfold FootV.soonR
  rw [if_pos O, if_pos (by omega), Int.toNat_natCast]
  cases F.soon true k with
  | none => exact ⟨_, _, rfl, .inr ⟨rfl, rfl, rfl⟩⟩
  | some s => exact ⟨s, 0, rfl, .inl ⟨rfl, rfl⟩⟩
 have hC := fun (p : Pl) (hp : p.Ord F.rs.length) h A => Can_ord O hkl hp (h := h) (rsl := rsl) (hsl := hsl) A
 have hS := fun h A => Soonest_ok (F := F) (h := h) (rsl := rsl) (hsl := hsl) A (by omega) (by omega) (k : Nat)
 have hK := fun h A => Clamped_ok (F := F) (h := h) (rsl := rsl) (hsl := hsl) A (by omega) (by omega)
 rw [hse] at hS
 have hcr : F.clampR = (F.set true F.hs.length, F.set false F.hs.length, 0) := by unfold FootV.clampR; exact if_pos O
 rw [hcr] at hK
 obtain ⟨sv, hsv⟩ : ∃ sv, F.set true F.hs.length = sv := ⟨_, rfl⟩
 obtain ⟨pv, hpv⟩ : ∃ pv, F.set false F.hs.length = pv := ⟨_, rfl⟩
 have hsub := set_sub O
 have hlt1 := set_lt F true F.hs.length
 have hlt2 := set_lt F false F.hs.length
 have h8 : 2 ^ F.hs.length ≤ 2 ^ 3 := Nat.pow_le_pow_right (by omega) hnh
 have hb1 := set_bit (F := F) (T := true) hkl
 have hb2 := set_bit (F := F) (T := false) hkl
 rw [hsv] at hK hsub hlt1 hb1
 rw [hpv] at hK hsub hlt2 hb2
 have hsh : pv / 2 ^ F.hs.length = 0 := Nat.div_eq_of_lt hlt2
 dsimp only at hS hK
 unfold FootV.cells Pl.cells at *
 have e0 : Ext h h := Ext.refl _
 refine Runs.intro aFunc7 rfl rfl rfl rfl fun rest => ?_
 apply gS
 refine gR rfl ?_
 refine GoR.box rfl rfl rfl rfl rfl rfl fun h9 x9 f9 => ?_
 have := e0.1
 replace e0 := e0.trans x9
 have := f9.1
 refine gO rfl rfl rfl rfl ?_
 apply gE
 iterate 2 apply gS
 refine gR rfl ?_
 refine gO rfl rfl (ld26 rfl f9 rfl) rfl ?_
 refine GoR.call rfl rfl (aCF aFunc24 rfl) (hfi _ (A.ext e0)) ?_ np
 rintro v10 h10 ⟨q, x10⟩
 cases q
 refine ⟨_, rfl, ?_⟩
 replace f9 := f9.ext x10
 replace e0 := e0.trans x10
 iterate 2 refine gO rfl rfl rfl rfl ?_
 refine gO rfl rfl (fa26_4 rfl) rfl ?_
 refine gO rfl rfl (ld24 rfl f9 rfl) rfl ?_
 refine gO rfl rfl (aOp_lenSlice Try.underlying24 rfl hl2) rfl ?_
 refine gO rfl rfl (aOp_eql rfl rfl (r := false) (df (by omega))) rfl ?_
 refine gO rfl rfl rfl rfl ?_
 apply gE
 refine gC (b := false) rfl ?_
 refine gD ?_
 apply gS
 refine Go.drawnE plan7_0 ?_
 refine gQ rfl rfl rfl rfl ?_
 refine gQ rfl rfl (aOp_convU8 rfl Try.underlying5 Try.underlying3 (by omega)) rfl ?_
 refine gQ rfl rfl (fa26_4 rfl) rfl ?_
 refine gQ rfl rfl (ld24 rfl f9 rfl) rfl ?_
 refine gQ rfl rfl (aOp_lenSlice Try.underlying24 rfl hl2) rfl ?_
 refine gQ rfl rfl (aOp_rem (r := ((k : Nat) : Int)) rfl rfl (by omega) (by rw [← hk]; rfl)) rfl ?_
 refine gQ rfl rfl (fa26_0 rfl) rfl ?_
 refine gQ rfl rfl (ld22 rfl f9 rfl) rfl ?_
 refine gQ rfl rfl (aOp_lenSlice Try.underlying22 rfl hl1) rfl ?_
 iterate 2 refine gQ rfl rfl rfl rfl ?_
 refine GoE.end rfl ?_
 apply gS
 refine gR rfl ?_
 refine gO rfl rfl (ld26 rfl f9 rfl) rfl ?_
 refine gO rfl rfl rfl rfl ?_
 refine GoR.call rfl rfl (aCF aFunc18 rfl) (hS _ (A.ext e0)) ?_ np
 rintro v11 h11 ⟨q, x11⟩
 cases q
 refine ⟨_, rfl, ?_⟩
 replace f9 := f9.ext x11
 replace e0 := e0.trans x11
 iterate 3 refine gO rfl rfl rfl rfl ?_
 refine GoR.alloc rfl rfl rfl zt27 rfl rfl fun h12 x12 f12 => ?_
 have := e0.1
 have := f9.1
 replace f9 := f9.ext x12
 replace e0 := e0.trans x12
 have := f12.1
 refine GoR.store rfl rfl rfl rfl rfl rfl f12 rfl sz27 rfl rfl rfl fun h13 u13 => ?_
 replace f12 := u13.has f12
 replace f9 := f9.upd u13 (by omega)
 replace e0 := e0.upd u13 (by omega)
 refine gO rfl rfl rfl rfl ?_
 apply gE
 apply gS
 refine gR rfl ?_
 refine gO rfl rfl (ld26 rfl f9 rfl) rfl ?_
 refine GoR.call rfl rfl (aCF aFunc20 rfl) (hK _ (A.ext e0)) ?_ np
 rintro v14 h14 ⟨q, x14⟩
 cases q
 refine ⟨_, rfl, ?_⟩
 replace f12 := f12.ext x14
 replace f9 := f9.ext x14
 replace e0 := e0.trans x14
 iterate 7 refine gO rfl rfl rfl rfl ?_
 apply gE
 have g1 := f9.1
 have g2 := f12.1
 have g3 : h.next < h11.next := by omega
 refine Go.seq noJ_ok (Go.join (fun _ : Unit => [(2, .int .u8 b), (3, .int .u8 c), (4, .int .u8 d), (5, .ptr h.next 0), (11, .int .i64 (k : Nat)), (12, .int .i64 F.rs.length), (13, .ptr h11.next 0), (14, .int .i64 e), (16, .int .i64 (pv : Nat))]) (fun _ h' => Ext h h' ∧ Has h' h.next (.cells .plain [rsl, .int .i64 F.men, .int .i64 F.l0, .int .i64 F.l1, .int .i64 F.l2, .int .i64 F.d0, .int .i64 F.d1, .int .i64 F.d2, hsl] 26) ∧ Has h' h11.next (.cells .plain [.int .i64 s.a, .int .i64 s.b, .int .i64 s.c] 27)) ?_ ?_)
 ·intro k' done
  rcases hcase with ⟨rfl, hs⟩ | ⟨rfl, rfl, hs⟩
  ·rw [hs, Option.isSome_some, if_pos rfl] at hb1
   apply gS
   refine gR rfl ?_
   refine gO rfl rfl rfl rfl ?_
   refine gO rfl rfl (aOp_neq rfl rfl (r := false) (dt (by omega))) rfl ?_
   iterate 3 refine gO rfl rfl rfl rfl ?_
   refine gO rfl rfl (aOp_andNot (r := 0) rfl rfl (by omega) hsub) rfl ?_
   refine gO rfl rfl (aOp_neq rfl rfl (r := false) (dt (by omega))) rfl ?_
   iterate 3 refine gO rfl rfl rfl rfl ?_
   refine gO rfl rfl (aOp_lss rfl rfl (r := false) (df (by omega))) rfl ?_
   iterate 3 refine gO rfl rfl rfl rfl ?_
   refine gO rfl rfl (fa26_4 rfl) rfl ?_
   refine gO rfl rfl (ld24 rfl f9 rfl) rfl ?_
   refine gO rfl rfl (aOp_lenSlice Try.underlying24 rfl hl2) rfl ?_
   refine gO rfl rfl (aOp_shr (i := F.hs.length) (r := ((0 : Nat) : Int)) rfl rfl (by omega) (by rw [bit_fdiv, hsh])) rfl ?_
   refine gO rfl rfl (aOp_neq rfl rfl (r := false) (dt (by omega))) rfl ?_
   iterate 4 refine gO rfl rfl rfl rfl ?_
   refine gO rfl rfl (aOp_shr (i := k) (r := ((sv / 2 ^ k : Nat) : Int)) rfl rfl (by omega) (bit_fdiv _ _)) rfl ?_
   refine gO rfl rfl (aOp_and1 rfl rfl (by rw [bit_mod, hb1])) rfl ?_
   refine gO rfl rfl (aOp_eql rfl rfl (r := true) (dt (by omega))) rfl ?_
   refine gO rfl rfl rfl rfl ?_
   refine gO rfl rfl (aOp_eql rfl rfl (r := true) (dt (by omega))) rfl ?_
   refine gO rfl rfl (aOp_neqBool rfl rfl Try.underlying4 (r := false) rfl) rfl ?_
   iterate 3 refine gO rfl rfl rfl rfl ?_
   refine gO rfl rfl (aOp_neq rfl rfl (r := false) (dt (by omega))) rfl ?_
   refine gO rfl rfl rfl rfl ?_
   iterate 7 refine GoR.skip rfl rfl rfl ?_
   iterate 2 refine gO rfl rfl rfl rfl ?_
   apply gE
   refine gC (b := false) rfl ?_
   refine gD ?_
   exact done () _ _ ⟨rfl, rfl, rfl, rfl, rfl, rfl, rfl, rfl, rfl, trivial⟩ ⟨e0, f9, f12⟩
  ·rw [hs, Option.isSome_none, if_neg (by simp)] at hb1
   apply gS
   refine gR rfl ?_
   refine gO rfl rfl rfl rfl ?_
   refine gO rfl rfl (aOp_neq rfl rfl (r := false) (dt (by omega))) rfl ?_
   iterate 3 refine gO rfl rfl rfl rfl ?_
   refine gO rfl rfl (aOp_andNot (r := 0) rfl rfl (by omega) hsub) rfl ?_
   refine gO rfl rfl (aOp_neq rfl rfl (r := false) (dt (by omega))) rfl ?_
   iterate 3 refine gO rfl rfl rfl rfl ?_
   refine gO rfl rfl (aOp_lss rfl rfl (r := false) (df (by omega))) rfl ?_
   iterate 3 refine gO rfl rfl rfl rfl ?_
   refine gO rfl rfl (fa26_4 rfl) rfl ?_
   refine gO rfl rfl (ld24 rfl f9 rfl) rfl ?_
   refine gO rfl rfl (aOp_lenSlice Try.underlying24 rfl hl2) rfl ?_
   refine gO rfl rfl (aOp_shr (i := F.hs.length) (r := ((0 : Nat) : Int)) rfl rfl (by omega) (by rw [bit_fdiv, hsh])) rfl ?_
   refine gO rfl rfl (aOp_neq rfl rfl (r := false) (dt (by omega))) rfl ?_
   iterate 4 refine gO rfl rfl rfl rfl ?_
   refine gO rfl rfl (aOp_shr (i := k) (r := ((sv / 2 ^ k : Nat) : Int)) rfl rfl (by omega) (bit_fdiv _ _)) rfl ?_
   refine gO rfl rfl (aOp_and1 rfl rfl (by rw [bit_mod, hb1])) rfl ?_
   refine gO rfl rfl (aOp_eql rfl rfl (r := false) (df (by omega))) rfl ?_
   refine gO rfl rfl rfl rfl ?_
   refine gO rfl rfl (aOp_eql rfl rfl (r := false) (df (by omega))) rfl ?_
   refine gO rfl rfl (aOp_neqBool rfl rfl Try.underlying4 (r := false) rfl) rfl ?_
   iterate 3 refine gO rfl rfl rfl rfl ?_
   refine gO rfl rfl (aOp_neq rfl rfl (r := true) (df (by omega))) rfl ?_
   iterate 2 refine gO rfl rfl rfl rfl ?_
   refine gO rfl rfl (aOp_neq rfl rfl (r := false) (dt (by omega))) rfl ?_
   refine gO rfl rfl rfl rfl ?_
   refine gO rfl rfl (ld27 rfl f12 rfl) rfl ?_
   refine gO rfl rfl (aOp_buildArr zt27 Try.underlying27 sz3 rfl rfl) rfl ?_
   refine gO rfl rfl (aOp_neqArr (a := [0, 0, 0]) (b := [0, 0, 0]) (r := false) Try.underlying27 Try.underlying3 sz3 eqG27 rfl rfl rfl rfl rfl) rfl ?_
   iterate 3 refine gO rfl rfl rfl rfl ?_
   apply gE
   refine gC (b := false) rfl ?_
   refine gD ?_
   exact done () _ _ ⟨rfl, rfl, rfl, rfl, rfl, rfl, rfl, rfl, rfl, trivial⟩ ⟨e0, f9, f12⟩
 clear e0 f9 f12 hS hK
 rintro _ h20 ⟨e0, f0, f1⟩
 refine Go.seq noJ_ok (Go.join (fun _ : Unit => [(2, .int .u8 b), (3, .int .u8 c), (4, .int .u8 d), (5, .ptr h.next 0), (11, .int .i64 (k : Nat)), (12, .int .i64 F.rs.length), (13, .ptr h11.next 0), (14, .int .i64 e), (16, .int .i64 (pv : Nat))]) (fun _ h' => Ext h h' ∧ Has h' h.next (.cells .plain [rsl, .int .i64 F.men, .int .i64 F.l0, .int .i64 F.l1, .int .i64 F.l2, .int .i64 F.d0, .int .i64 F.d1, .int .i64 F.d2, hsl] 26) ∧ Has h' h11.next (.cells .plain [.int .i64 s.a, .int .i64 s.b, .int .i64 s.c] 27)) ?_ ?_)
 ·intro k' done
  rcases hcase with ⟨rfl, hs⟩ | ⟨rfl, rfl, hs⟩
  ·obtain ⟨w1, w2, _⟩ := soon_some hs
   have w3 := whole_mem.1 w1
   have hcn := hC s (whole_ord w1)
   rw [show F.can k s = 2 from if_pos w2] at hcn
   apply gS
   refine gR rfl ?_
   refine gO rfl rfl rfl rfl ?_
   refine gO rfl rfl (aOp_eql rfl rfl (r := true) (dt (by omega))) rfl ?_
   apply gE
   refine gC (b := true) rfl ?_
   apply gS
   refine gR rfl ?_
   refine gO rfl rfl (ld26 rfl f0 rfl) rfl ?_
   refine gO rfl rfl rfl rfl ?_
   refine gO rfl rfl (ld27 rfl f1 rfl) rfl ?_
   refine GoR.call rfl rfl (aCF aFunc16 rfl) (hcn _ (A.ext e0)) ?_ np
   rintro v21 h21 ⟨q, x21⟩
   cases q
   refine ⟨_, rfl, ?_⟩
   replace f0 := f0.ext x21
   replace f1 := f1.ext x21
   replace e0 := e0.trans x21
   iterate 5 refine gO rfl rfl rfl rfl ?_
   apply gE
   apply gS
   refine gR rfl ?_
   refine gO rfl rfl rfl rfl ?_
   refine gO rfl rfl (aOp_neq rfl rfl (r := false) (dt (by omega))) rfl ?_
   iterate 2 refine gO rfl rfl rfl rfl ?_
   refine gO rfl rfl (aOp_neq rfl rfl (r := false) (dt (by omega))) rfl ?_
   iterate 2 refine gO rfl rfl rfl rfl ?_
   refine gO rfl rfl (ld27 rfl f1 rfl) rfl ?_
   refine GoR.call rfl rfl (aCF aFunc30 rfl) (Whole_is (r := true) (dt (by omega))) ?_ np
   rintro v22 h22 ⟨q, x22⟩
   cases q
   refine ⟨_, rfl, ?_⟩
   replace f0 := f0.ext x22
   replace f1 := f1.ext x22
   replace e0 := e0.trans x22
   iterate 2 refine gO rfl rfl rfl rfl ?_
   apply gE
   refine gC (b := false) rfl ?_
   refine gD ?_
   exact done () _ _ ⟨rfl, rfl, rfl, rfl, rfl, rfl, rfl, rfl, rfl, trivial⟩ ⟨e0, f0, f1⟩
  ·apply gS
   refine gR rfl ?_
   refine gO rfl rfl rfl rfl ?_
   refine gO rfl rfl (aOp_eql rfl rfl (r := false) (df (by omega))) rfl ?_
   apply gE
   refine gC (b := false) rfl ?_
   refine gD ?_
   exact done () _ _ ⟨rfl, rfl, rfl, rfl, rfl, rfl, rfl, rfl, rfl, trivial⟩ ⟨e0, f0, f1⟩
 clear e0 f0 f1
 rintro _ h30 ⟨e0, f0, f1⟩
 obtain ⟨pa, hpa⟩ : ∃ x, b % F.rs.length = x := ⟨_, rfl⟩
 obtain ⟨pb, hpb⟩ : ∃ x, c % F.rs.length = x := ⟨_, rfl⟩
 obtain ⟨pc, hpc⟩ : ∃ x, d % F.rs.length = x := ⟨_, rfl⟩
 have hP := fun h A => Plan_ok (F := F) (h := h) (rsl := rsl) (hsl := hsl) (p := ⟨(pa : Nat), (pb : Nat), (pc : Nat)⟩) A (by omega)
 by_cases cO : (⟨(pa : Nat), (pb : Nat), (pc : Nat)⟩ : Pl).Ord F.rs.length
 ·rw [decide_eq_true cO] at hP
  have hwh : (⟨(pa : Nat), (pb : Nat), (pc : Nat)⟩ : Pl) ∈ wholeL F.rs.length := ord_whole cO ⟨by dsimp only; omega, by dsimp only; omega, by dsimp only; omega⟩
  have hcn := hC _ cO
  obtain ⟨cv, hcv, hcc⟩ : ∃ cv : Int, F.can k ⟨(pa : Nat), (pb : Nat), (pc : Nat)⟩ = cv ∧ ((cv = 2 ∧ F.Kept true k ⟨(pa : Nat), (pb : Nat), (pc : Nat)⟩) ∨ (cv = 1 ∧ F.Kept false k ⟨(pa : Nat), (pb : Nat), (pc : Nat)⟩) ∨ cv = 0) := by
   unfold FootV.can
   split
   ·rename_i q; exact ⟨_, rfl, .inl ⟨rfl, q⟩⟩
   ·split
    ·rename_i q; exact ⟨_, rfl, .inr (.inl ⟨rfl, q⟩)⟩
    ·exact ⟨_, rfl, .inr (.inr rfl)⟩
  rw [hcv] at hcn
  unfold FootV.cells Pl.cells at hP
  dsimp only at hcn hP
  apply gS
  refine Go.drawnE plan7_1 ?_
  refine gQ rfl rfl rfl rfl ?_
  refine gQ rfl rfl (aOp_convU8 rfl Try.underlying5 Try.underlying3 (by omega)) rfl ?_
  refine gQ rfl rfl rfl rfl ?_
  refine gQ rfl rfl (aOp_rem (r := ((pa : Nat) : Int)) rfl rfl (by omega) (by rw [← hpa]; rfl)) rfl ?_
  refine gQ rfl rfl rfl rfl ?_
  refine gQ rfl rfl (aOp_convU8 rfl Try.underlying5 Try.underlying3 (by omega)) rfl ?_
  refine gQ rfl rfl rfl rfl ?_
  refine gQ rfl rfl (aOp_rem (r := ((pb : Nat) : Int)) rfl rfl (by omega) (by rw [← hpb]; rfl)) rfl ?_
  refine gQ rfl rfl rfl rfl ?_
  refine gQ rfl rfl (aOp_convU8 rfl Try.underlying5 Try.underlying3 (by omega)) rfl ?_
  refine gQ rfl rfl rfl rfl ?_
  refine gQ rfl rfl (aOp_rem (r := ((pc : Nat) : Int)) rfl rfl (by omega) (by rw [← hpc]; rfl)) rfl ?_
  refine gQ rfl rfl (aOp_buildArr (ps := [(0, .int .i64 (pa : Nat)), (1, .int .i64 (pb : Nat)), (2, .int .i64 (pc : Nat))]) zt27 Try.underlying27 sz3 rfl rfl) rfl ?_
  refine GoE.alloc rfl rfl zt27 (dK 0 12 (dK 0 11 (dK 0 10 (dK 0 9 (dK 0 8 (dK 0 7 (dK 0 6 (dK 0 5 (dK 0 4 (dK 0 3 (dK 0 2 (dK 0 1 (dK 0 0 rfl))))))))))))) rfl rfl fun h31 x31 f31 => ?_
  have := e0.1
  have := f0.1
  have := f1.1
  replace f0 := f0.ext x31
  replace f1 := f1.ext x31
  replace e0 := e0.trans x31
  have := f31.1
  refine ⟨(rck (h2 := h31) rfl (aOp_buildArr (ps := [(0, .int .i64 (pa : Nat)), (1, .int .i64 (pb : Nat)), (2, .int .i64 (pc : Nat))]) zt27 Try.underlying27 sz3 rfl rfl) (rck (h2 := h31) rfl (aOp_rem (r := ((pc : Nat) : Int)) rfl rfl (by omega) (by rw [← hpc]; rfl)) (rck (h2 := h31) rfl (rfl) (rck (h2 := h31) rfl (aOp_convU8 rfl Try.underlying5 Try.underlying3 (by omega)) (rck (h2 := h31) rfl (rfl) (rck (h2 := h31) rfl (aOp_rem (r := ((pb : Nat) : Int)) rfl rfl (by omega) (by rw [← hpb]; rfl)) (rck (h2 := h31) rfl (rfl) (rck (h2 := h31) rfl (aOp_convU8 rfl Try.underlying5 Try.underlying3 (by omega)) (rck (h2 := h31) rfl (rfl) (rck (h2 := h31) rfl (aOp_rem (r := ((pa : Nat) : Int)) rfl rfl (by omega) (by rw [← hpa]; rfl)) (rck (h2 := h31) rfl (rfl) (rck (h2 := h31) rfl (aOp_convU8 rfl Try.underlying5 Try.underlying3 (by omega)) (rck (h2 := h31) rfl (rfl) recheck_nil))))))))))))), ?_⟩
  refine GoE.store rfl rfl rfl rfl (dD 16383 12 (dD 16383 11 (dD 16383 10 (dD 16383 9 (dD 16383 8 (dD 16383 7 (dD 16383 6 (dD 16383 5 (dD 16383 4 (dD 16383 3 (dD 16383 2 (dD 16383 1 (dD 16383 0 rfl))))))))))))) rfl rfl f31 rfl sz27 rfl rfl rfl fun h32 u32 => ?_
  replace f31 := u32.has f31
  replace f0 := f0.upd u32 (by omega)
  replace f1 := f1.upd u32 (by omega)
  replace e0 := e0.upd u32 (by omega)
  refine ⟨recheck_nil, ?_⟩
  refine GoE.end rfl ?_
  iterate 2 apply gS
  refine gR rfl ?_
  refine gO rfl rfl (ld26 rfl f0 rfl) rfl ?_
  refine gO rfl rfl (ld27 rfl f31 rfl) rfl ?_
  refine GoR.call rfl rfl (aCF aFunc31 rfl) (hP _ (A.ext e0)) ?_ np
  rintro v33 h33 ⟨q, x33⟩
  cases q
  refine ⟨_, rfl, ?_⟩
  replace f31 := f31.ext x33
  replace f0 := f0.ext x33
  replace f1 := f1.ext x33
  replace e0 := e0.trans x33
  refine gO rfl rfl rfl rfl ?_
  apply gE
  refine gC (b := false) rfl ?_
  refine gD ?_
  apply gS
  refine gR rfl ?_
  refine gO rfl rfl (ld26 rfl f0 rfl) rfl ?_
  refine gO rfl rfl rfl rfl ?_
  refine gO rfl rfl (ld27 rfl f31 rfl) rfl ?_
  refine GoR.call rfl rfl (aCF aFunc16 rfl) (hcn _ (A.ext e0)) ?_ np
  rintro v34 h34 ⟨q, x34⟩
  cases q
  refine ⟨_, rfl, ?_⟩
  replace f31 := f31.ext x34
  replace f0 := f0.ext x34
  replace f1 := f1.ext x34
  replace e0 := e0.trans x34
  iterate 5 refine gO rfl rfl rfl rfl ?_
  apply gE
  apply gS
  have hone : ∀ q, F.Kept false k q → q ∈ wholeL F.rs.length → (F.soon false k).isSome = true := fun q h1 h2 => by
   obtain ⟨s', hs'⟩ := soon_of h2 h1
   rw [hs']
   rfl
  rcases hcc with ⟨rfl, hk1⟩ | ⟨rfl, hk1⟩ | rfl
  ·obtain ⟨s', hs'⟩ := soon_of hwh hk1
   rcases hcase with ⟨rfl, hs⟩ | ⟨_, _, hs⟩
   ·rw [hs] at hs'
    cases hs'
    have hso := (soon_some hs).2.2 _ hwh hk1
    rw [hone _ (kept_mono O hkl cO hk1) hwh, if_pos rfl] at hb2
    unfold Sooner Pl.lt at hso
    dsimp only at hso
    by_cases c1 : s.c < (pc : Int)
    ·apply gS
     refine gR rfl ?_
     refine gO rfl rfl rfl rfl ?_
     refine gO rfl rfl (aOp_neq rfl rfl (r := false) (dt (by omega))) rfl ?_
     iterate 2 refine gO rfl rfl rfl rfl ?_
     refine gO rfl rfl (aOp_neq rfl rfl (r := true) (df (by omega))) rfl ?_
     iterate 3 refine gO rfl rfl rfl rfl ?_
     refine gO rfl rfl (aOp_shr (i := k) (r := ((pv / 2 ^ k : Nat) : Int)) rfl rfl (by omega) (bit_fdiv _ _)) rfl ?_
     refine gO rfl rfl (aOp_and1 rfl rfl (by rw [bit_mod, hb2])) rfl ?_
     refine gO rfl rfl (aOp_eql rfl rfl (r := false) (df (by omega))) rfl ?_
     iterate 4 refine gO rfl rfl rfl rfl ?_
     refine gO rfl rfl (aOp_eql rfl rfl (r := true) (dt (by omega))) rfl ?_
     iterate 2 refine gO rfl rfl rfl rfl ?_
     refine gO rfl rfl (aOp_neq rfl rfl (r := false) (dt (by omega))) rfl ?_
     iterate 2 refine gO rfl rfl rfl rfl ?_
     apply gE
     refine gC (b := false) rfl ?_
     refine gD ?_
     iterate 2 apply gS
     refine gR rfl ?_
     refine gO rfl rfl rfl rfl ?_
     refine gO rfl rfl (aOp_neq rfl rfl (r := false) (dt (by omega))) rfl ?_
     refine gO rfl rfl rfl rfl ?_
     refine gO rfl rfl (aOp_indexAddrArr (i := 2) Try.underlying27 sz3 rfl rfl rfl) rfl ?_
     refine gO rfl rfl (ld3 rfl f1 rfl) rfl ?_
     refine gO rfl rfl (aOp_indexAddrArr (i := 2) Try.underlying27 sz3 rfl rfl rfl) rfl ?_
     refine gO rfl rfl (ld3 rfl f31 rfl) rfl ?_
     refine gO rfl rfl (aOp_lss rfl rfl (r := true) (dt (by omega))) rfl ?_
     refine gO rfl rfl rfl rfl ?_
     apply gE
     refine gC (b := true) rfl ?_
     apply gS
     refine gR rfl ?_
     refine GoR.call rfl rfl (aCF aFunc13 rfl) (awake_ok) ?_ np
     rintro v35 h35 ⟨q, x35⟩
     cases q
     refine ⟨_, rfl, ?_⟩
     replace f31 := f31.ext x35
     replace f0 := f0.ext x35
     replace f1 := f1.ext x35
     replace e0 := e0.trans x35
     refine gO rfl rfl rfl rfl ?_
     apply gE
     exact gV (ret_end (aResult_of Try.func7 rfl rfl) ⟨rfl, e0⟩)
    ·have hso2 : s.c = pc ∧ ((s.a = pa ∧ s.b = pb) ∨ (s.a < pa ∨ (s.a = pa ∧ s.b < pb))) := by
      rcases hso with q | ⟨q, rfl | q⟩
      ·omega
      ·dsimp only at q ⊢; omega
      ·omega
     apply gS
     refine gR rfl ?_
     refine gO rfl rfl rfl rfl ?_
     refine gO rfl rfl (aOp_neq rfl rfl (r := false) (dt (by omega))) rfl ?_
     iterate 2 refine gO rfl rfl rfl rfl ?_
     refine gO rfl rfl (aOp_neq rfl rfl (r := true) (df (by omega))) rfl ?_
     iterate 3 refine gO rfl rfl rfl rfl ?_
     refine gO rfl rfl (aOp_shr (i := k) (r := ((pv / 2 ^ k : Nat) : Int)) rfl rfl (by omega) (bit_fdiv _ _)) rfl ?_
     refine gO rfl rfl (aOp_and1 rfl rfl (by rw [bit_mod, hb2])) rfl ?_
     refine gO rfl rfl (aOp_eql rfl rfl (r := false) (df (by omega))) rfl ?_
     iterate 4 refine gO rfl rfl rfl rfl ?_
     refine gO rfl rfl (aOp_eql rfl rfl (r := true) (dt (by omega))) rfl ?_
     iterate 2 refine gO rfl rfl rfl rfl ?_
     refine gO rfl rfl (aOp_neq rfl rfl (r := false) (dt (by omega))) rfl ?_
     iterate 2 refine gO rfl rfl rfl rfl ?_
     apply gE
     refine gC (b := false) rfl ?_
     refine gD ?_
     iterate 2 apply gS
     refine gR rfl ?_
     refine gO rfl rfl rfl rfl ?_
     refine gO rfl rfl (aOp_neq rfl rfl (r := false) (dt (by omega))) rfl ?_
     refine gO rfl rfl rfl rfl ?_
     refine gO rfl rfl (aOp_indexAddrArr (i := 2) Try.underlying27 sz3 rfl rfl rfl) rfl ?_
     refine gO rfl rfl (ld3 rfl f1 rfl) rfl ?_
     refine gO rfl rfl (aOp_indexAddrArr (i := 2) Try.underlying27 sz3 rfl rfl rfl) rfl ?_
     refine gO rfl rfl (ld3 rfl f31 rfl) rfl ?_
     refine gO rfl rfl (aOp_lss rfl rfl (r := false) (df (by omega))) rfl ?_
     refine gO rfl rfl rfl rfl ?_
     apply gE
     refine gC (b := false) rfl ?_
     refine gD ?_
     iterate 2 apply gS
     refine gR rfl ?_
     refine gO rfl rfl rfl rfl ?_
     apply gE
     refine Go.block noJ_ok ?_
     refine Go.loop noJ_ok ?_
     apply gS
     refine gR rfl ?_
     refine gO rfl rfl (aOp_lss rfl rfl (r := true) (dt (by omega))) rfl ?_
     apply gE
     apply gS
     refine gC (b := true) rfl ?_
     refine gD ?_
     apply gS
     refine Go.block noJ_ok ?_
     apply gS
     refine gR rfl ?_
     iterate 2 refine gO rfl rfl rfl rfl ?_
     apply gE
     apply gS
     refine Go.drawnE plan7_2 ?_
     refine gQ rfl rfl rfl rfl ?_
     refine gQ rfl rfl (aOp_indexAddrArr (i := 0) Try.underlying27 sz3 rfl rfl rfl) rfl ?_
     refine gQ rfl rfl (ld3 rfl f31 rfl) rfl ?_
     refine gQ rfl rfl rfl rfl ?_
     refine gQ rfl rfl (aOp_indexAddrArr (i := 0) Try.underlying27 sz3 rfl rfl rfl) rfl ?_
     refine gQ rfl rfl (ld3 rfl f1 rfl) rfl ?_
     by_cases hs0 : ((↑pa : Int) : Int) = s.a
     ·refine gQ rfl rfl (aOp_neq rfl rfl (r := false) (dt (by omega))) rfl ?_
      refine GoE.end rfl ?_
      refine gC (b := false) rfl ?_
      refine gD ?_
      refine Go.inBlock noJ_ok ?_
      refine gR rfl ?_
      refine gO rfl rfl (aOp_add rfl rfl (by constructor <;> omega) rfl) rfl ?_
      refine gO rfl rfl rfl rfl ?_
      apply gE
      refine Go.inLoop noJ_ok ?_
      apply gS
      refine gR rfl ?_
      refine gO rfl rfl (aOp_lss rfl rfl (r := true) (dt (by omega))) rfl ?_
      apply gE
      apply gS
      refine gC (b := true) rfl ?_
      refine gD ?_
      apply gS
      refine Go.block noJ_ok ?_
      apply gS
      refine gR rfl ?_
      iterate 2 refine gO rfl rfl rfl rfl ?_
      apply gE
      apply gS
      refine Go.drawnE plan7_2 ?_
      refine gQ rfl rfl rfl rfl ?_
      refine gQ rfl rfl (aOp_indexAddrArr (i := 1) Try.underlying27 sz3 rfl rfl rfl) rfl ?_
      refine gQ rfl rfl (ld3 rfl f31 rfl) rfl ?_
      refine gQ rfl rfl rfl rfl ?_
      refine gQ rfl rfl (aOp_indexAddrArr (i := 1) Try.underlying27 sz3 rfl rfl rfl) rfl ?_
      refine gQ rfl rfl (ld3 rfl f1 rfl) rfl ?_
      by_cases hs1 : ((↑pb : Int) : Int) = s.b
      ·refine gQ rfl rfl (aOp_neq rfl rfl (r := false) (dt (by omega))) rfl ?_
       refine GoE.end rfl ?_
       refine gC (b := false) rfl ?_
       refine gD ?_
       refine Go.inBlock noJ_ok ?_
       refine gR rfl ?_
       refine gO rfl rfl (aOp_add rfl rfl (by constructor <;> omega) rfl) rfl ?_
       refine gO rfl rfl rfl rfl ?_
       apply gE
       refine Go.inLoop noJ_ok ?_
       apply gS
       refine gR rfl ?_
       refine gO rfl rfl (aOp_lss rfl rfl (r := true) (dt (by omega))) rfl ?_
       apply gE
       apply gS
       refine gC (b := true) rfl ?_
       refine gD ?_
       apply gS
       refine Go.block noJ_ok ?_
       apply gS
       refine gR rfl ?_
       iterate 2 refine gO rfl rfl rfl rfl ?_
       apply gE
       apply gS
       refine Go.drawnE plan7_2 ?_
       refine gQ rfl rfl rfl rfl ?_
       refine gQ rfl rfl (aOp_indexAddrArr (i := 2) Try.underlying27 sz3 rfl rfl rfl) rfl ?_
       refine gQ rfl rfl (ld3 rfl f31 rfl) rfl ?_
       refine gQ rfl rfl rfl rfl ?_
       refine gQ rfl rfl (aOp_indexAddrArr (i := 2) Try.underlying27 sz3 rfl rfl rfl) rfl ?_
       refine gQ rfl rfl (ld3 rfl f1 rfl) rfl ?_
       refine gQ rfl rfl (aOp_neq rfl rfl (r := false) (dt (by omega))) rfl ?_
       refine GoE.end rfl ?_
       refine gC (b := false) rfl ?_
       refine gD ?_
       refine Go.inBlock noJ_ok ?_
       refine gR rfl ?_
       refine gO rfl rfl (aOp_add rfl rfl (by constructor <;> omega) rfl) rfl ?_
       refine gO rfl rfl rfl rfl ?_
       apply gE
       refine Go.inLoop noJ_ok ?_
       apply gS
       refine gR rfl ?_
       refine gO rfl rfl (aOp_lss rfl rfl (r := false) (df (by omega))) rfl ?_
       apply gE
       apply gS
       refine gC (b := false) rfl ?_
       refine gD ?_
       apply gS
       refine gR rfl ?_
       refine GoR.call rfl rfl (aCF aFunc13 rfl) (awake_ok) ?_ np
       rintro v35 h35 ⟨q, x35⟩
       cases q
       refine ⟨_, rfl, ?_⟩
       replace f31 := f31.ext x35
       replace f0 := f0.ext x35
       replace f1 := f1.ext x35
       replace e0 := e0.trans x35
       refine gO rfl rfl rfl rfl ?_
       apply gE
       exact gV (ret_end (aResult_of Try.func7 rfl rfl) ⟨rfl, e0⟩)
      ·refine gQ rfl rfl (aOp_neq rfl rfl (r := true) (df (by omega))) rfl ?_
       refine GoE.end rfl ?_
       refine gC (b := true) rfl ?_
       apply gS
       refine Go.drawnE plan7_3 ?_
       refine gQ rfl rfl (aOp_indexAddrArr (i := 2) Try.underlying27 sz3 rfl rfl rfl) rfl ?_
       refine gQ rfl rfl (ld3 rfl f1 rfl) rfl ?_
       refine gQ rfl rfl (aOp_indexAddrArr (i := 2) Try.underlying27 sz3 rfl rfl rfl) rfl ?_
       refine gQ rfl rfl (ld3 rfl f31 rfl) rfl ?_
       refine gQ rfl rfl (aOp_eql rfl rfl (r := true) (dt (by omega))) rfl ?_
       iterate 2 refine gQ rfl rfl rfl rfl ?_
       refine gQ rfl rfl (aOp_indexAddrArr (i := 1) Try.underlying27 sz3 rfl rfl rfl) rfl ?_
       refine gQ rfl rfl (ld3 rfl f1 rfl) rfl ?_
       refine gQ rfl rfl rfl rfl ?_
       refine gQ rfl rfl (aOp_indexAddrArr (i := 1) Try.underlying27 sz3 rfl rfl rfl) rfl ?_
       refine gQ rfl rfl (ld3 rfl f31 rfl) rfl ?_
       refine gQ rfl rfl (aOp_lss rfl rfl (r := true) (dt (by omega))) rfl ?_
       iterate 2 refine gQ rfl rfl rfl rfl ?_
       refine GoE.call rfl rfl (aCF aFunc13 rfl) (awake_ok) (dD 32767 14 (dD 32767 13 (dD 32767 12 (dD 32767 11 (dD 32767 10 (dD 32767 9 (dD 32767 8 (dD 32767 7 (dD 32767 6 (dD 32767 5 (dD 32767 4 (dD 32767 3 (dD 32767 2 (dD 32767 1 (dD 32767 0 rfl))))))))))))))) ?_ np
       rintro v35 h35 ⟨q, x35⟩
       cases q
       replace f31 := f31.ext x35
       replace f0 := f0.ext x35
       replace f1 := f1.ext x35
       replace e0 := e0.trans x35
       refine ⟨recheck_nil, _, rfl, ?_⟩
       iterate 2 refine gQ rfl rfl rfl rfl ?_
       refine GoE.end rfl ?_
       exact gV (ret_end (aResult_of Try.func7 rfl rfl) ⟨rfl, e0⟩)
     ·refine gQ rfl rfl (aOp_neq rfl rfl (r := true) (df (by omega))) rfl ?_
      refine GoE.end rfl ?_
      refine gC (b := true) rfl ?_
      apply gS
      refine Go.drawnE plan7_3 ?_
      refine gQ rfl rfl (aOp_indexAddrArr (i := 2) Try.underlying27 sz3 rfl rfl rfl) rfl ?_
      refine gQ rfl rfl (ld3 rfl f1 rfl) rfl ?_
      refine gQ rfl rfl (aOp_indexAddrArr (i := 2) Try.underlying27 sz3 rfl rfl rfl) rfl ?_
      refine gQ rfl rfl (ld3 rfl f31 rfl) rfl ?_
      refine gQ rfl rfl (aOp_eql rfl rfl (r := true) (dt (by omega))) rfl ?_
      iterate 2 refine gQ rfl rfl rfl rfl ?_
      refine gQ rfl rfl (aOp_indexAddrArr (i := 0) Try.underlying27 sz3 rfl rfl rfl) rfl ?_
      refine gQ rfl rfl (ld3 rfl f1 rfl) rfl ?_
      refine gQ rfl rfl rfl rfl ?_
      refine gQ rfl rfl (aOp_indexAddrArr (i := 0) Try.underlying27 sz3 rfl rfl rfl) rfl ?_
      refine gQ rfl rfl (ld3 rfl f31 rfl) rfl ?_
      refine gQ rfl rfl (aOp_lss rfl rfl (r := true) (dt (by omega))) rfl ?_
      iterate 2 refine gQ rfl rfl rfl rfl ?_
      refine GoE.call rfl rfl (aCF aFunc13 rfl) (awake_ok) (dD 32767 14 (dD 32767 13 (dD 32767 12 (dD 32767 11 (dD 32767 10 (dD 32767 9 (dD 32767 8 (dD 32767 7 (dD 32767 6 (dD 32767 5 (dD 32767 4 (dD 32767 3 (dD 32767 2 (dD 32767 1 (dD 32767 0 rfl))))))))))))))) ?_ np
      rintro v35 h35 ⟨q, x35⟩
      cases q
      replace f31 := f31.ext x35
      replace f0 := f0.ext x35
      replace f1 := f1.ext x35
      replace e0 := e0.trans x35
      refine ⟨recheck_nil, _, rfl, ?_⟩
      iterate 2 refine gQ rfl rfl rfl rfl ?_
      refine GoE.end rfl ?_
      exact gV (ret_end (aResult_of Try.func7 rfl rfl) ⟨rfl, e0⟩)
   ·rw [hs] at hs'
    cases hs'
  ·rw [hone _ hk1 hwh, if_pos rfl] at hb2
   apply gS
   refine gR rfl ?_
   refine gO rfl rfl rfl rfl ?_
   refine gO rfl rfl (aOp_neq rfl rfl (r := false) (dt (by omega))) rfl ?_
   iterate 2 refine gO rfl rfl rfl rfl ?_
   refine gO rfl rfl (aOp_neq rfl rfl (r := true) (df (by omega))) rfl ?_
   iterate 3 refine gO rfl rfl rfl rfl ?_
   refine gO rfl rfl (aOp_shr (i := k) (r := ((pv / 2 ^ k : Nat) : Int)) rfl rfl (by omega) (bit_fdiv _ _)) rfl ?_
   refine gO rfl rfl (aOp_and1 rfl rfl (by rw [bit_mod, hb2])) rfl ?_
   refine gO rfl rfl (aOp_eql rfl rfl (r := false) (df (by omega))) rfl ?_
   iterate 4 refine gO rfl rfl rfl rfl ?_
   refine gO rfl rfl (aOp_eql rfl rfl (r := false) (df (by omega))) rfl ?_
   refine gO rfl rfl rfl rfl ?_
   iterate 2 refine GoR.skip rfl rfl rfl ?_
   iterate 2 refine gO rfl rfl rfl rfl ?_
   apply gE
   refine gC (b := false) rfl ?_
   refine gD ?_
   iterate 2 apply gS
   refine gR rfl ?_
   refine gO rfl rfl rfl rfl ?_
   refine gO rfl rfl (aOp_neq rfl rfl (r := true) (df (by omega))) rfl ?_
   refine gO rfl rfl rfl rfl ?_
   iterate 5 refine GoR.skip rfl rfl rfl ?_
   refine gO rfl rfl rfl rfl ?_
   apply gE
   refine gC (b := true) rfl ?_
   apply gS
   refine gR rfl ?_
   refine GoR.call rfl rfl (aCF aFunc13 rfl) (awake_ok) ?_ np
   rintro v35 h35 ⟨q, x35⟩
   cases q
   refine ⟨_, rfl, ?_⟩
   replace f31 := f31.ext x35
   replace f0 := f0.ext x35
   replace f1 := f1.ext x35
   replace e0 := e0.trans x35
   refine gO rfl rfl rfl rfl ?_
   apply gE
   exact gV (ret_end (aResult_of Try.func7 rfl rfl) ⟨rfl, e0⟩)
  ·apply gS
   refine gR rfl ?_
   refine gO rfl rfl rfl rfl ?_
   refine gO rfl rfl (aOp_neq rfl rfl (r := false) (dt (by omega))) rfl ?_
   iterate 2 refine gO rfl rfl rfl rfl ?_
   refine gO rfl rfl (aOp_neq rfl rfl (r := false) (dt (by omega))) rfl ?_
   refine gO rfl rfl rfl rfl ?_
   iterate 5 refine GoR.skip rfl rfl rfl ?_
   iterate 4 refine gO rfl rfl rfl rfl ?_
   refine gO rfl rfl (aOp_eql rfl rfl (r := false) (df (by omega))) rfl ?_
   refine gO rfl rfl rfl rfl ?_
   iterate 2 refine GoR.skip rfl rfl rfl ?_
   iterate 2 refine gO rfl rfl rfl rfl ?_
   apply gE
   refine gC (b := false) rfl ?_
   refine gD ?_
   iterate 2 apply gS
   refine gR rfl ?_
   refine gO rfl rfl rfl rfl ?_
   refine gO rfl rfl (aOp_neq rfl rfl (r := true) (df (by omega))) rfl ?_
   refine gO rfl rfl rfl rfl ?_
   iterate 5 refine GoR.skip rfl rfl rfl ?_
   refine gO rfl rfl rfl rfl ?_
   apply gE
   refine gC (b := true) rfl ?_
   apply gS
   refine gR rfl ?_
   refine GoR.call rfl rfl (aCF aFunc13 rfl) (awake_ok) ?_ np
   rintro v35 h35 ⟨q, x35⟩
   cases q
   refine ⟨_, rfl, ?_⟩
   replace f31 := f31.ext x35
   replace f0 := f0.ext x35
   replace f1 := f1.ext x35
   replace e0 := e0.trans x35
   refine gO rfl rfl rfl rfl ?_
   apply gE
   exact gV (ret_end (aResult_of Try.func7 rfl rfl) ⟨rfl, e0⟩)
 ·rw [decide_eq_false cO] at hP
  unfold FootV.cells Pl.cells at hP
  apply gS
  refine Go.drawnE plan7_1 ?_
  refine gQ rfl rfl rfl rfl ?_
  refine gQ rfl rfl (aOp_convU8 rfl Try.underlying5 Try.underlying3 (by omega)) rfl ?_
  refine gQ rfl rfl rfl rfl ?_
  refine gQ rfl rfl (aOp_rem (r := ((pa : Nat) : Int)) rfl rfl (by omega) (by rw [← hpa]; rfl)) rfl ?_
  refine gQ rfl rfl rfl rfl ?_
  refine gQ rfl rfl (aOp_convU8 rfl Try.underlying5 Try.underlying3 (by omega)) rfl ?_
  refine gQ rfl rfl rfl rfl ?_
  refine gQ rfl rfl (aOp_rem (r := ((pb : Nat) : Int)) rfl rfl (by omega) (by rw [← hpb]; rfl)) rfl ?_
  refine gQ rfl rfl rfl rfl ?_
  refine gQ rfl rfl (aOp_convU8 rfl Try.underlying5 Try.underlying3 (by omega)) rfl ?_
  refine gQ rfl rfl rfl rfl ?_
  refine gQ rfl rfl (aOp_rem (r := ((pc : Nat) : Int)) rfl rfl (by omega) (by rw [← hpc]; rfl)) rfl ?_
  refine gQ rfl rfl (aOp_buildArr (ps := [(0, .int .i64 (pa : Nat)), (1, .int .i64 (pb : Nat)), (2, .int .i64 (pc : Nat))]) zt27 Try.underlying27 sz3 rfl rfl) rfl ?_
  refine GoE.alloc rfl rfl zt27 (dK 0 12 (dK 0 11 (dK 0 10 (dK 0 9 (dK 0 8 (dK 0 7 (dK 0 6 (dK 0 5 (dK 0 4 (dK 0 3 (dK 0 2 (dK 0 1 (dK 0 0 rfl))))))))))))) rfl rfl fun h31 x31 f31 => ?_
  have := e0.1
  have := f0.1
  have := f1.1
  replace f0 := f0.ext x31
  replace f1 := f1.ext x31
  replace e0 := e0.trans x31
  have := f31.1
  refine ⟨(rck (h2 := h31) rfl (aOp_buildArr (ps := [(0, .int .i64 (pa : Nat)), (1, .int .i64 (pb : Nat)), (2, .int .i64 (pc : Nat))]) zt27 Try.underlying27 sz3 rfl rfl) (rck (h2 := h31) rfl (aOp_rem (r := ((pc : Nat) : Int)) rfl rfl (by omega) (by rw [← hpc]; rfl)) (rck (h2 := h31) rfl (rfl) (rck (h2 := h31) rfl (aOp_convU8 rfl Try.underlying5 Try.underlying3 (by omega)) (rck (h2 := h31) rfl (rfl) (rck (h2 := h31) rfl (aOp_rem (r := ((pb : Nat) : Int)) rfl rfl (by omega) (by rw [← hpb]; rfl)) (rck (h2 := h31) rfl (rfl) (rck (h2 := h31) rfl (aOp_convU8 rfl Try.underlying5 Try.underlying3 (by omega)) (rck (h2 := h31) rfl (rfl) (rck (h2 := h31) rfl (aOp_rem (r := ((pa : Nat) : Int)) rfl rfl (by omega) (by rw [← hpa]; rfl)) (rck (h2 := h31) rfl (rfl) (rck (h2 := h31) rfl (aOp_convU8 rfl Try.underlying5 Try.underlying3 (by omega)) (rck (h2 := h31) rfl (rfl) recheck_nil))))))))))))), ?_⟩
  refine GoE.store rfl rfl rfl rfl (dD 16383 12 (dD 16383 11 (dD 16383 10 (dD 16383 9 (dD 16383 8 (dD 16383 7 (dD 16383 6 (dD 16383 5 (dD 16383 4 (dD 16383 3 (dD 16383 2 (dD 16383 1 (dD 16383 0 rfl))))))))))))) rfl rfl f31 rfl sz27 rfl rfl rfl fun h32 u32 => ?_
  replace f31 := u32.has f31
  replace f0 := f0.upd u32 (by omega)
  replace f1 := f1.upd u32 (by omega)
  replace e0 := e0.upd u32 (by omega)
  refine ⟨recheck_nil, ?_⟩
  refine GoE.end rfl ?_
  iterate 2 apply gS
  refine gR rfl ?_
  refine gO rfl rfl (ld26 rfl f0 rfl) rfl ?_
  refine gO rfl rfl (ld27 rfl f31 rfl) rfl ?_
  refine GoR.call rfl rfl (aCF aFunc31 rfl) (hP _ (A.ext e0)) ?_ np
  rintro v33 h33 ⟨q, x33⟩
  cases q
  refine ⟨_, rfl, ?_⟩
  replace f31 := f31.ext x33
  replace f0 := f0.ext x33
  replace f1 := f1.ext x33
  replace e0 := e0.trans x33
  refine gO rfl rfl rfl rfl ?_
  apply gE
  refine gC (b := true) rfl ?_
  apply gS
  refine gR rfl ?_
  refine GoR.call rfl rfl (aCF aFunc13 rfl) (awake_ok) ?_ np
  rintro v34 h34 ⟨q, x34⟩
  cases q
  refine ⟨_, rfl, ?_⟩
  replace f31 := f31.ext x34
  replace f0 := f0.ext x34
  replace f1 := f1.ext x34
  replace e0 := e0.trans x34
  refine gO rfl rfl rfl rfl ?_
  apply gE
  exact gV (ret_end (aResult_of Try.func7 rfl rfl) ⟨rfl, e0⟩)
theorem law7 {F : FootV} {rsl hsl : AVal} {h : AH} (A : FootAt h F rsl hsl) {a b c d : Int} (ha : 0 ≤ a ∧ a < 256) (hb : 0 ≤ b ∧ b < 256) (hc : 0 ≤ c ∧ c < 256) (hd : 0 ≤ d ∧ d < 256) :
  Runs Try.prog 7 [.agg (F.cells rsl hsl), .int .u8 a, .int .u8 b, .int .u8 c, .int .u8 d] h (fun en h' => en = .ret (.bool true) ∧ Ext h h') := by
 by_cases O : F.Ok
 ·by_cases h0 : F.hs.length = 0
  ·exact law7_none O h0 A
  ·obtain ⟨a', rfl⟩ := Int.eq_ofNat_of_zero_le ha.1
   obtain ⟨b', rfl⟩ := Int.eq_ofNat_of_zero_le hb.1
   obtain ⟨c', rfl⟩ := Int.eq_ofNat_of_zero_le hc.1
   obtain ⟨d', rfl⟩ := Int.eq_ofNat_of_zero_le hd.1
   exact law7_ok O h0 (by omega) (by omega) (by omega) (by omega) A
 ·exact law7_no (not_fine O A)
end Go.Proofs.Ytmimdgjehnhnoaa

namespace Go.AbsE
open Go Go.RowKit
section
variable {P : Program}
theorem HR.openWin {e : Env} {h : AH} {W : World} (r : HR P (Base.all W) e h W) {B lo : Nat} {PRE CS junk : List Value} {el : TypeId} {fr : Nat × Nat} {cs : List AVal} (hB : W.heap[B]? = some (.cells (PRE ++ (CS ++ junk)).toArray el fr)) (hp : PRE.length = lo) (hv : ∀ e, VRs e cs CS) :
  ∃ e' h', Env.le e e' ∧ HR P (Base.all W) e' h' W ∧ Ext h h' ∧ e' h.next = some (B, 0) ∧ Has h' h.next (.win lo cs) := by
 obtain ⟨h', k⟩ := new_some h (.win lo cs)
 obtain ⟨_, x1, x2⟩ := new_ext k
 obtain ⟨n1, n2, n3⟩ := AH.get_new k
 have hle := Env.le_ext (x := (B, 0)) r.fresh
 have hlt := (Array.getElem?_eq_some_iff.1 hB).1
 refine ⟨e.ext h.next (B, 0), h', hle, ?_, x1, Env.ext_same _ _ _, x2⟩
 refine { dom := ?_, blk := ?_, inj := ?_, imm := ?_, os := r.os, tape := r.tape, output := r.output, size := r.size, old := r.old, young := r.young }
 ·intro b' x kx
  rw [Env.ext_at] at kx
  by_cases hb' : b' = h.next
  ·omega
  ·rw [if_neg hb'] at kx; have := r.dom _ _ kx; omega
 ·intro b' o' kx
  rw [n3] at kx
  by_cases hb' : b' = h.next
  ·rw [if_pos hb'] at kx
   cases kx
   subst hb'
   exact ⟨B, 0, _, Env.ext_same _ _ _, (fun q => by cases q), hB, .win (hv _) hp⟩
  ·rw [if_neg hb'] at kx
   obtain ⟨B', c', O', k1, k2, k3, k4⟩ := r.blk _ _ kx
   exact ⟨B', c', O', hle.1 _ _ k1, k2, k3, k4.mono hle⟩
 ·intro b1 b2 B1 c1 c2 o1 o2 k1 k2 hro e1 e2
  rw [n3] at k1 k2
  rw [Env.ext_at] at e1 e2
  by_cases q1 : b1 = h.next
  ·rw [if_pos q1] at k1; cases k1; cases hro
  ·rw [if_neg q1] at k1 e1
   by_cases q2 : b2 = h.next
   ·rw [if_pos q2] at e2
    cases e2
    obtain ⟨B', c', O', j1, j2, _, _⟩ := r.blk _ _ k1
    rw [e1] at j1
    cases j1
    exact absurd hlt (j2 hro)
   ·rw [if_neg q2] at k2 e2
    exact r.inj _ _ _ _ _ _ _ k1 k2 hro e1 e2
 ·intro B1 CS' hi
  obtain ⟨i1, i2⟩ := r.imm B1 CS' hi
  refine ⟨i1, fun b' o' c' kx hro ke => ?_⟩
  rw [n3] at kx
  rw [Env.ext_at] at ke
  by_cases q : b' = h.next
  ·rw [if_pos q] at kx; cases kx; cases hro
  ·rw [if_neg q] at kx ke; exact i2 b' o' c' kx hro ke
end
end Go.AbsE

namespace Go.AbsE
open Go Go.RowKit
section
variable {P : Program}
theorem VRs.kinds {K : Type} {va : K → AVal} {vv : K → Value} (hvr : ∀ e x, VR e (va x) (vv x)) {e : Env} : ∀ l : List K, VRs e (l.map fun x => va x) (l.map fun x => vv x) := by
 intro l
 induction l with
 | nil => exact .nil
 | cons a l ih => exact .cons (hvr _ _) ih
theorem rowsG_eq {K : Type} {vv : K → Value} {C : List Value} {off sz : Nat} : ∀ (len : Nat) (f : Nat → List K), (∀ i, i < len → (f i).length = sz ∧ ∀ k n, (f i)[k]? = some n → C[off + i * sz + k]? = some (vv n)) →
  (C.drop off).take (len * sz) = (((List.range len).map f).flatten).map fun x => vv x := by
 intro len
 induction len with
 | zero => intro f _; simp
 | succ len ih =>
  intro f hf
  have h1 := ih f fun i hi => hf i (by omega)
  obtain ⟨l1, l2⟩ := hf len (by omega)
  rw [Nat.add_mul, Nat.one_mul, List.take_add, h1, List.range_succ, List.map_append, List.flatten_append, List.map_append]
  congr 1
  simp only [List.map_cons, List.map_nil, List.flatten_cons, List.flatten_nil, List.append_nil]
  rw [List.drop_drop]
  refine List.ext_getElem? fun k => ?_
  rw [List.getElem?_take, List.getElem?_drop, List.getElem?_map]
  by_cases hk : k < sz
  ·rw [if_pos hk]
   obtain ⟨n, hn⟩ : ∃ n, (f len)[k]? = some n := ⟨(f len)[k]'(by omega), by simp⟩
   rw [hn]
   exact l2 k n hn
  ·rw [if_neg hk]
   have : (f len)[k]? = none := by simp; omega
   rw [this]
   rfl
end
end Go.AbsE

namespace Go.AbsE
open Go Go.RowKit
section
variable {P : Program}
theorem HR.openRowsC {K : Type} (va : K → AVal) (vv : K → Value) (hvr : ∀ e x, VR e (va x) (vv x)) {e : Env} {h : AH} {W : World} (r : HR P (Base.all W) e h W) {a : Addr} {len cap sz : Nat} {C : Array Value} {el : TypeId} {fr : Nat × Nat} (hB : W.heap[a.block]? = some (.cells C el fr)) (hspot : a.spot = none) (f : Nat → List K)
  (hf : ∀ i, i < len → (f i).length = sz ∧ ∀ k n, (f i)[k]? = some n → W.cell? (a.add (i * sz + k)) = some (vv n)) :
  ∃ e' h' s, Env.le e e' ∧ HR P (Base.all W) e' h' W ∧ Ext h h' ∧ VR e' s (.slice (some a) len cap) ∧ SliceOf h' sz s (((List.range len).map f).map fun l => l.map fun x => va x) ∧ sameA s s = true ∧ ∃ b o, s = .slice b o len cap := by
 obtain ⟨B, off, spot⟩ := a
 dsimp only at hB hspot
 subst hspot
 have hcell : ∀ i, i < len → (f i).length = sz ∧ ∀ k n, (f i)[k]? = some n → C.toList[off + i * sz + k]? = some (vv n) := fun i hi => by
  obtain ⟨h1, h2⟩ := hf i hi
  refine ⟨h1, fun k n hn => ?_⟩
  have := h2 k n hn
  have e1 := addr_add B off (i * sz + k)
  rw [e1] at this
  unfold World.cell? at this
  rw [hB] at this
  simp only [Option.isSome_none, Bool.false_eq_true, if_false] at this
  rw [Array.getElem?_toList, Nat.add_assoc]
  exact this
 have hrows := rowsG_eq len f hcell
 let R := (List.range len).map f
 have hRl : ∀ l, l ∈ R → l.length = sz := fun l hl => by
  obtain ⟨i, hi, rfl⟩ := List.mem_map.1 hl
  exact (hf i (List.mem_range.1 hi)).1
 have hRlen : R.length = len := by simp [R]
 have hlen : (C.toList.drop off).take (len * sz) = (R.flatten).map fun x => vv x := hrows
 have hfl : R.flatten.length = len * sz := by
  have : ∀ {L : List (List K)}, (∀ l, l ∈ L → l.length = sz) → L.flatten.length = L.length * sz := by
   intro L
   induction L with
   | nil => intro _; simp
   | cons a L ih => intro h; simp only [List.flatten_cons, List.length_append, h a (by simp), ih fun l q => h l (by simp [q]), List.length_cons, Nat.add_mul]; omega
  rw [this hRl, hRlen]
 by_cases h0 : len * sz = 0
 ·-- nothing of it is read
  obtain ⟨e', h', k1, k2, k3, k4, k5⟩ := r.openWin (B := B) (lo := 0) (PRE := []) (CS := []) (junk := C.toList) (el := el) (fr := fr) (cs := []) (by simpa using hB) rfl (fun _ => .nil)
  refine ⟨e', h', .slice h.next off len cap, k1, k2, k3, .slice k4, .mk rfl rfl k5.1 (by simp) (fun l hl => ?_) ?_, by simp [sameA], _, _, rfl⟩
  ·obtain ⟨x, hx, rfl⟩ := List.mem_map.1 hl
   rw [List.length_map]
   exact hRl x hx
  ·have hnil : R.flatten = [] := List.eq_nil_of_length_eq_zero (by omega)
   unfold loadCells
   rw [k5.2]
   have e1 : ((R.map fun l => l.map fun x => va x).length * sz) = 0 := by rw [List.length_map, hRlen]; exact h0
   have e2 : (R.map fun l => l.map fun x => va x).flatten = [] := by rw [← List.map_flatten, hnil]; rfl
   show cond (Nat.ble 0 off) (slice? [] (off - 0) ((R.map fun l => l.map fun x => va x).length * sz)) none = some _
   rw [e1, e2, show Nat.ble 0 off = true from Nat.ble_eq_true_of_le (Nat.zero_le _)]
   simp [slice?]
 ·have hle : off + len * sz ≤ C.toList.length := by
   have : ((C.toList.drop off).take (len * sz)).length = len * sz := by rw [hlen, List.length_map, hfl]
   rw [List.length_take, List.length_drop] at this
   omega
  have hC : C = (C.toList.take off ++ ((R.flatten.map fun x => vv x) ++ C.toList.drop (off + len * sz))).toArray := by
   rw [← hlen]
   have : C.toList.take off ++ ((C.toList.drop off).take (len * sz) ++ C.toList.drop (off + len * sz)) = C.toList := by
    rw [← List.drop_drop, List.take_append_drop, List.take_append_drop]
   rw [this]
  obtain ⟨e', h', k1, k2, k3, k4, k5⟩ := r.openWin (B := B) (lo := off) (PRE := C.toList.take off) (CS := R.flatten.map fun x => vv x) (junk := C.toList.drop (off + len * sz)) (el := el) (fr := fr) (cs := R.flatten.map fun x => va x) (by rw [← hC]; exact hB) (by rw [List.length_take]; omega) (fun _ => VRs.kinds hvr _)
  refine ⟨e', h', .slice h.next off len cap, k1, k2, k3, .slice k4, .mk rfl rfl k5.1 (by simp) (fun l hl => ?_) ?_, by simp [sameA], _, _, rfl⟩
  ·obtain ⟨x, hx, rfl⟩ := List.mem_map.1 hl
   rw [List.length_map]
   exact hRl x hx
  ·unfold loadCells
   rw [k5.2]
   have e1 : ((R.map fun l => l.map fun x => va x).length * sz) = len * sz := by rw [List.length_map, hRlen]
   have e2 : (R.map fun l => l.map fun x => va x).flatten = R.flatten.map fun x => va x := by rw [← List.map_flatten]
   show cond (Nat.ble off off) (slice? (R.flatten.map fun x => va x) (off - off) ((R.map fun l => l.map fun x => va x).length * sz)) none = some _
   rw [e1, e2, show Nat.ble off off = true from Nat.ble_eq_true_of_le (Nat.le_refl _), Nat.sub_self]
   exact slice_all (by rw [List.length_map, hfl])
end
end Go.AbsE

namespace Go.Proofs.Ytmimdgjehnhnoaa
open Go Go.AbsE Go.ChangeShapes Go.WideShapes Go.ChangeAt Go.RowKit
set_option linter.unusedSimpArgs false
set_option maxRecDepth 100000
set_option linter.unusedVariables false
theorem cells26 : Try.prog.cellsOf 26 = 9 := by kernel_rfl
theorem cells3 : Try.prog.cellsOf 3 = 1 := by kernel_rfl
theorem cells72 : Try.prog.cellsOf 72 = 3 := by kernel_rfl
theorem cells31 : Try.prog.cellsOf 31 = 2 := by kernel_rfl
theorem cells22 : Try.prog.cellsOf 22 = 1 := by kernel_rfl
theorem cells23 : Try.prog.cellsOf 23 = 3 := by kernel_rfl
theorem cells24 : Try.prog.cellsOf 24 = 1 := by kernel_rfl
theorem ctypes26 : Try.prog.cellTypes Try.prog.depth 26 = some [22, 3, 3, 3, 3, 3, 3, 3, 24] := by kernel_rfl
theorem laidOut : laidOutB Try.prog = true := by kernel_rfl
def inI64 (n : Int) : Prop := -9223372036854775808 ≤ n ∧ n ≤ 9223372036854775807
theorem wf_in {n : Int} (h : (Lit.int .i64 n).wf = true) : inI64 n := by
 simp only [Lit.wf, Bool.and_eq_true, decide_eq_true_eq] at h
 have h1 : IntKind.i64.min = -9223372036854775808 := by decide
 have h2 : IntKind.i64.max = 9223372036854775807 := by decide
 rw [h1, h2] at h
 constructor <;> omega
variable {H : Type} {enc : TypeId × Value → H} {W : World} {base : Nat} {spare : Nat → Bool} {held : Bool}
theorem int_row {n : Nat} {cs : List Value} {x : DataW H × List MemPlace} (h : DataW.trod enc Try.prog W base spare held n 3 cs = some x) : ∃ a : Int, cs = [.int .i64 a] ∧ inI64 a := by
 obtain ⟨a, h1, _, h3⟩ := DataW.trod_int Try.underlying3 h
 exact ⟨a, h1, wf_in h3⟩
theorem span_row {n : Nat} {cs : List Value} {x : DataW H × List MemPlace} (h : DataW.trod enc Try.prog W base spare held n 31 cs = some x) : ∃ a b : Int, cs = [.int .i64 a, .int .i64 b] := by
 obtain ⟨y0, y1, k, _, hl, h0, h1⟩ := ChangeShapes.trod_struct2 Try.underlying31 h
 rw [cells31] at hl
 dsimp only at h0 h1
 rw [cells3] at h0 h1
 obtain ⟨a, ha, _⟩ := int_row h0
 obtain ⟨b, hb, _⟩ := int_row h1
 match cs, hl with
 | [c0, c1], _ =>
  simp at ha hb
  exact ⟨a, b, by rw [ha, hb]⟩
theorem rain_row {n : Nat} {cs : List Value} {x : DataW H × List MemPlace} (h : DataW.trod enc Try.prog W base spare held n 31 cs = some x) : ∃ r : List Int, r.length = 2 ∧ cs = r.map fun x => Value.int .i64 x := by
 obtain ⟨a, b, q⟩ := span_row h
 exact ⟨[a, b], rfl, q⟩
theorem heap_row {n : Nat} {cs : List Value} {x : DataW H × List MemPlace} (h : DataW.trod enc Try.prog W base spare held n 72 cs = some x) : ∃ r : List Int, r.length = 3 ∧ cs = r.map fun x => Value.int .i64 x := by
 obtain ⟨y0, y1, k, _, hl, h0, h1⟩ := ChangeShapes.trod_struct2 Try.underlying72 h
 rw [cells72] at hl
 dsimp only at h0 h1
 rw [cells31] at h0
 rw [cells3] at h1
 obtain ⟨a, b, ha⟩ := span_row h0
 obtain ⟨c, hc, _⟩ := int_row h1
 match cs, hl with
 | [c0, c1, c2], _ =>
  simp at ha hc
  exact ⟨[a, b, c], rfl, by rw [ha.1, ha.2, hc]; rfl⟩
theorem slice_okw {t el : TypeId} {a : Addr} {len cap : Nat} {bs : Nat} (ht : Try.prog.underlying t = some (.slice el)) (h : Cell.okWide Try.prog W .any bs t (.slice (some a) len cap)) : a.spot = none ∧ ∃ C e fr, W.heap[a.block]? = some (.cells C e fr) := by
 unfold Cell.okWide at h
 rw [ht] at h
 dsimp only at h
 unfold Cell.ok at h
 rw [ht] at h
 dsimp only at h
 obtain ⟨_, _, _, h2, row, n, h3, _⟩ := h
 refine ⟨h2, ?_⟩
 unfold World.shape? at h3
 split at h3
 ·rename_i c e fr hq
  exact ⟨c, e, fr, hq⟩
 ·cases h3
theorem rows_of {t el : TypeId} {sz fuel : Nat} {c : Value} {y : DataW H × List MemPlace} {bs : Nat} (ht : Try.prog.underlying t = some (.slice el)) (hsz : Try.prog.cellsOf el = sz)
  (hrow : ∀ {n : Nat} {cs : List Value} {x : DataW H × List MemPlace}, DataW.trod enc Try.prog W 0 (fun _ => true) true n el cs = some x → ∃ r : List Int, r.length = sz ∧ cs = r.map fun x => Value.int .i64 x)
  (h : DataW.trod enc Try.prog W 0 (fun _ => true) true fuel t [c] = some y) (hok : Cell.okWide Try.prog W .any bs t c) {e : Env} {hh : AH} (r : HR Try.prog (Base.all W) e hh W) :
  ∃ e' h' s, ∃ R : List (List Int), Env.le e e' ∧ HR Try.prog (Base.all W) e' h' W ∧ Ext hh h' ∧ VR e' s c ∧ (∀ l, l ∈ R → l.length = sz) ∧ SliceOf h' sz s (R.map fun l => l.map fun x => AVal.int .i64 x) ∧ Cut Try.prog h' sz s R.length := by
 rcases Deep.open_slice ht h with ⟨hcs, _⟩ | ⟨a, len, cap, m, n, D, Pl, hcs, _, hl, _, hmm, _, hx⟩
 ·simp at hcs
  subst hcs
  exact ⟨e, hh, .nilslice, [], Env.le_refl e, r, Ext.refl _, .nilslice, (fun _ q => by cases q), .nil, .nil⟩
 ·simp at hcs
  subst hcs
  obtain ⟨hs, C, el', fr, hB⟩ := slice_okw ht hok
  have hm : m = cap := by simpa using hmm
  have each : ∀ i, ∃ rr : List Int, i < len → rr.length = sz ∧ ∀ k n, rr[k]? = some n → W.cell? (a.add (i * sz + k)) = some (.int .i64 n) := by
   intro i
   by_cases hi : i < len
   ·obtain ⟨cs', h1, h2⟩ := hx i (by omega)
    obtain ⟨rr, hr1, hr2⟩ := hrow h2
    rw [hsz] at h1
    obtain ⟨_, hlen, hc⟩ := World.cells?_some h1
    refine ⟨rr, fun _ => ⟨hr1, fun k n hk => ?_⟩⟩
    have hkl := (List.getElem?_eq_some_iff.1 hk).1
    have := hc k (by omega)
    obtain ⟨B, off, spot⟩ := a
    dsimp only at hs
    subst hs
    rw [addr_add, addr_add] at this
    rw [addr_add, ← Nat.add_assoc, this, hr2, List.getElem?_map, hk]
    rfl
   ·exact ⟨[], fun q => absurd q hi⟩
  obtain ⟨f, hf⟩ := Classical.axiomOfChoice each
  obtain ⟨e', h', s, k1, k2, k3, k4, k5, _, b, o, rfl⟩ := r.openRowsC (fun x => AVal.int .i64 x) (fun x => Value.int .i64 x) (fun _ _ => .int _ _) (cap := cap) (len := len) (sz := sz) hB hs f hf
  exact ⟨e', h', _, (List.range len).map f, k1, k2, k3, k4, fun l hl => by
   obtain ⟨i, hi, rfl⟩ := List.mem_map.1 hl
   exact (hf i (List.mem_range.1 hi)).1, k5, by rw [List.length_map, List.length_range]; exact .sl hl⟩
def toH : List Int → HF
 | [a, b, c] => ⟨a, b, c⟩
 | _ => ⟨0, 0, 0⟩
def toR : List Int → Int × Int
 | [a, b] => (a, b)
 | _ => (0, 0)
theorem hs_eq {R : List (List Int)} (h : ∀ l, l ∈ R → l.length = 3) : (R.map fun l => l.map fun x => AVal.int .i64 x) = (R.map toH).map HF.cells := by
 rw [List.map_map]
 refine List.map_congr_left fun l hl => ?_
 match l, h l hl with
 | [a, b, c], _ => rfl
theorem rs_eq {R : List (List Int)} (h : ∀ l, l ∈ R → l.length = 2) : (R.map fun l => l.map fun x => AVal.int .i64 x) = (R.map toR).map spC := by
 rw [List.map_map]
 refine List.map_congr_left fun l hl => ?_
 match l, h l hl with
 | [a, b], _ => rfl
theorem array9 {α : Type} {cs : Array α} (h : cs.size = 9) : ∃ c0 c1 c2 c3 c4 c5 c6 c7 c8, cs = #[c0, c1, c2, c3, c4, c5, c6, c7, c8] := by
 obtain ⟨l⟩ := cs
 match l, h with
 | [c0, c1, c2, c3, c4, c5, c6, c7, c8], _ => exact ⟨c0, c1, c2, c3, c4, c5, c6, c7, c8, rfl⟩
theorem list5 {α : Type} {l : List α} (h : l.length = 5) : ∃ c0 c1 c2 c3 c4, l = [c0, c1, c2, c3, c4] := by
 match l, h with
 | [c0, c1, c2, c3, c4], _ => exact ⟨c0, c1, c2, c3, c4, rfl⟩
theorem trodAll_mk5 {t0 t1 t2 t3 t4 : TypeId} {v0 v1 v2 v3 v4 : Value} {d0 d1 d2 d3 d4 : DataW H} {p0 p1 p2 p3 p4 : List MemPlace} (h0 : DataW.Trod enc Try.prog W base spare held t0 v0 d0 p0) (h1 : DataW.Trod enc Try.prog W base spare held t1 v1 d1 p1)
  (h2 : DataW.Trod enc Try.prog W base spare held t2 v2 d2 p2) (h3 : DataW.Trod enc Try.prog W base spare held t3 v3 d3 p3) (h4 : DataW.Trod enc Try.prog W base spare held t4 v4 d4 p4) : DataW.TrodAll enc Try.prog W base spare held [t0, t1, t2, t3, t4] [v0, v1, v2, v3, v4] [d0, d1, d2, d3, d4] (p0 ++ (p1 ++ (p2 ++ (p3 ++ p4)))) :=
 ⟨p0, p1 ++ (p2 ++ (p3 ++ p4)), h0, trodAll_mk4 h1 h2 h3 h4, rfl⟩
theorem foot_of {bs : Nat} {v : Value} {d : DataW H} {p : List MemPlace} (hv : Value.okWide Try.prog W .any bs 26 v) (h : DataW.Trod enc Try.prog W 0 (fun _ => true) true 26 v d p) {e : Env} {hh : AH} (r : HR Try.prog (Base.all W) e hh W) :
  ∃ e' h' F rsl hsl, Env.le e e' ∧ HR Try.prog (Base.all W) e' h' W ∧ Ext hh h' ∧ VR e' (.agg (FootV.cells F rsl hsl)) v ∧ FootAt h' F rsl hsl := by
 have hv2 := hv
 obtain ⟨cs, rfl, hsz⟩ := okWide_struct Try.underlying26 hv
 obtain ⟨c0, c1, c2, c3, c4, c5, c6, c7, c8, rfl⟩ := array9 (hsz.trans cells26)
 obtain ⟨fuel, hf⟩ := h
 obtain ⟨xs, n, _, _, hl, hlen, hfl⟩ := DataW.trod_struct Try.underlying26 hf
 obtain ⟨y0, y1, y2, y3, y4, rfl⟩ := list5 hlen
 have t0 : DataW.trod enc Try.prog W 0 (fun _ => true) true n 22 [c0] = some y0 := by
  have this : DataW.trod enc Try.prog W 0 (fun _ => true) true n 22 (([c0, c1, c2, c3, c4, c5, c6, c7, c8].drop 0).take (Try.prog.cellsOf 22)) = [y0, y1, y2, y3, y4][0]? := hfl 0 _ rfl
  rw [cells22] at this
  exact this
 have t1 : DataW.trod enc Try.prog W 0 (fun _ => true) true n 3 [c1] = some y1 := by
  have this : DataW.trod enc Try.prog W 0 (fun _ => true) true n 3 (([c0, c1, c2, c3, c4, c5, c6, c7, c8].drop 1).take (Try.prog.cellsOf 3)) = [y0, y1, y2, y3, y4][1]? := hfl 1 _ rfl
  rw [cells3] at this
  exact this
 have t2 : DataW.trod enc Try.prog W 0 (fun _ => true) true n 23 [c2, c3, c4] = some y2 := by
  have this : DataW.trod enc Try.prog W 0 (fun _ => true) true n 23 (([c0, c1, c2, c3, c4, c5, c6, c7, c8].drop 2).take (Try.prog.cellsOf 23)) = [y0, y1, y2, y3, y4][2]? := hfl 2 _ rfl
  rw [cells23] at this
  exact this
 have t3 : DataW.trod enc Try.prog W 0 (fun _ => true) true n 23 [c5, c6, c7] = some y3 := by
  have this : DataW.trod enc Try.prog W 0 (fun _ => true) true n 23 (([c0, c1, c2, c3, c4, c5, c6, c7, c8].drop 5).take (Try.prog.cellsOf 23)) = [y0, y1, y2, y3, y4][3]? := hfl 3 _ rfl
  rw [cells23] at this
  exact this
 have t4 : DataW.trod enc Try.prog W 0 (fun _ => true) true n 24 [c8] = some y4 := by
  have this : DataW.trod enc Try.prog W 0 (fun _ => true) true n 24 (([c0, c1, c2, c3, c4, c5, c6, c7, c8].drop 8).take (Try.prog.cellsOf 24)) = [y0, y1, y2, y3, y4][4]? := hfl 4 _ rfl
  rw [cells24] at this
  exact this
 obtain ⟨z0, z1, z2, n2, _, g0, g1, g2⟩ := trod_array3 Try.underlying23 cells3 t2
 obtain ⟨da, e2, _⟩ := int_row g0
 obtain ⟨db, e3, _⟩ := int_row g1
 obtain ⟨dc, e4, _⟩ := int_row g2
 obtain ⟨z3, z4, z5, n3, _, g3, g4, g5⟩ := trod_array3 Try.underlying23 cells3 t3
 obtain ⟨dd, e5, _⟩ := int_row g3
 obtain ⟨de, e6, _⟩ := int_row g4
 obtain ⟨df, e7, _⟩ := int_row g5
 obtain ⟨men, e1, _⟩ := int_row t1
 simp at e1 e2 e3 e4 e5 e6 e7
 subst e1 e2 e3 e4 e5 e6 e7
 unfold Value.okWide at hv2
 rw [Try.underlying26] at hv2
 obtain ⟨cs, hcs, _, ts, hts, _, hrow⟩ := hv2
 injection hcs with hcs
 subst hcs
 rw [ctypes26] at hts
 cases hts
 obtain ⟨u0, hu0, ok0⟩ := hrow 0 c0 rfl
 obtain ⟨u8, hu8, ok8⟩ := hrow 8 c8 rfl
 cases hu0
 cases hu8
 obtain ⟨ea, ha, s0, R0, a1, a2, a3, a4, a5, a6, a7⟩ := rows_of Try.underlying22 cells31 rain_row t0 ok0 r
 obtain ⟨eb, hb, s1, R1, b1, b2, b3, b4, b5, b6, b7⟩ := rows_of Try.underlying24 cells72 heap_row t4 ok8 a2
 rw [rs_eq a5] at a6
 rw [hs_eq b5] at b6
 refine ⟨eb, hb, ⟨R0.map toR, men, da, db, dc, dd, de, df, R1.map toH⟩, s0, s1, Env.le_trans a1 b1, b2, a3.trans b3, ?_, ⟨a6.ext b3, b6, by show Cut _ _ _ _ (R1.map toH).length; rw [List.length_map]; exact b7⟩⟩
 exact .agg (CS := [_, _, _, _, _, _, _, _, _]) (.cons (a4.mono b1) (.cons (.int _ _) (.cons (.int _ _) (.cons (.int _ _) (.cons (.int _ _) (.cons (.int _ _) (.cons (.int _ _) (.cons (.int _ _) (.cons b4 .nil)))))))))
end Go.Proofs.Ytmimdgjehnhnoaa
