import Derived.Test.YteibheeleeengaaMAR
import Derived.Test.YteibheeleeengaaMAJ
import Derived.Test.YteibheeleeengaaMAG
import Derived.Test.YteibheeleeengaaMAL
import Derived.Test.YteibheeleeengaaMAK
import Derived.Test.YteibheeleeengaaMAM
import Derived.Deep.Slices
import Derived.Lib.SmallJoins
import Derived.Carry
namespace Go.Proofs.Yteibheeleeengaa
open Go Go.AbsE
set_option linter.unusedSimpArgs false
set_option maxRecDepth 100000
set_option maxHeartbeats 0
set_option linter.unusedVariables false
theorem mem_subs {n s : Nat} : s ∈ subs n ↔ s < 2 ^ n ∧ popc s < n + 1 := by
 unfold subs subA subB
 simp only [List.mem_flatMap, List.mem_range, List.mem_filter, decide_eq_true_eq]
 constructor
 ·rintro ⟨j, hj, h1, h3⟩;exact ⟨h1, by omega⟩
 ·rintro ⟨h1, h3⟩;exact ⟨popc s, h3, h1, rfl⟩
theorem subs_pair (n : Nat) : (subs n).Pairwise fun a b => popc a < popc b ∨ (popc a = popc b ∧ a < b) := by
 unfold subs subA
 rw [List.pairwise_flatMap];refine ⟨fun j _ => ?_, List.pairwise_lt_range.imp fun {i j} hij x hx y hy => ?_⟩
 ·unfold subB
  refine (List.Pairwise.filter _ (List.pairwise_lt_range (n := 2 ^ n))).imp_of_mem fun {a b} ha hb hab => ?_
  have h1 := (List.mem_filter.1 ha).2
  have h2 := (List.mem_filter.1 hb).2
  simp only [decide_eq_true_eq] at h1 h2
  exact .inr ⟨by omega, hab⟩
 ·have h1 := (List.mem_filter.1 hx).2
  have h2 := (List.mem_filter.1 hy).2
  simp only [decide_eq_true_eq] at h1 h2
  exact .inl (by omega)
theorem subs_first {of q : Nat} {p : Nat → Bool} (h : (subs of).find? p = some q) : q ∈ subs of ∧ p q = true ∧ ∀ s, s ∈ subs of → p s = true → popc q < popc s ∨ (popc q = popc s ∧ q ≤ s) := by
 refine ⟨List.mem_of_find?_eq_some h, List.find?_some h, fun s hs ps => ?_⟩
 obtain ⟨_, aa, bb, hl, has⟩ := List.find?_eq_some_iff_append.1 h
 have hP := subs_pair of
 rw [hl] at hs hP
 rcases List.mem_append.1 hs with q1 | q1
 ·have := has s q1
  rw [ps] at this;cases this
 ·rcases List.mem_cons.1 q1 with q2 | q2
  ·subst q2;exact .inr ⟨rfl, Nat.le_refl _⟩
  ·have := List.rel_of_pairwise_cons (List.pairwise_append.1 hP).2.1 q2
   omega
theorem andNot_le (a b : Nat) (ha : a < 2 ^ 64) : andNot a b ≤ a := by
 unfold andNot
 rw [BitVec.toNat_and, BitVec.toNat_ofNat, Nat.mod_eq_of_lt ha];exact Nat.and_le_left
theorem popc_lt : ∀ n, n ≤ 5 → ∀ s, s < 2 ^ n → popc s < n + 1 := by decide +kernel
theorem in_subs {n s : Nat} (hn : n ≤ 5) (h : s < 2 ^ n) : s ∈ subs n := mem_subs.2 ⟨h, popc_lt n hn s h⟩
def CutV.clashes (C : CutV) (s : Nat) : Bool := (C.learnL (upto C.kl C.kh) s).isEmpty
theorem truths_is (C : CutV) : C.truths.isEmpty = C.clashes C.all := by
 unfold CutV.truths CutV.learn CutV.clashes
 rw [List.flatMap_cons, List.flatMap_nil, List.append_nil]
theorem only_none : ∀ (L : List LV) (i : Nat), onlyV 0 i L = []
 | [], _ => rfl
 | l :: L, i => by
  unfold onlyV
  rw [Nat.zero_testBit, if_neg (by decide)];exact only_none L (i + 1)
def freeP (C : CutV) (k : Int) : Nat → Int
 | 0 => C.dl
 | d + 1 => match C.rs[d]? with
  | some r => heldV C.most (freeP C k d + r.1 - k)
  | none => 0
theorem clashes_zero {C : CutV} (O : C.Ok) : C.clashes 0 = false := by
 have hk := O.k
 have hd := O.d
 unfold CutV.clashes
 rw [learnL_empty]
 cases q : (upto C.kl C.kh).all fun k => !(C.course k 0).isSome with
 | false => rfl
 | true =>
  have h1 := List.all_eq_true.1 q C.kl (mem_upto.2 ⟨Int.le_refl _, hk.1⟩)
  cases hc : C.course C.kl 0 with
  | some c => rw [hc] at h1; cases h1
  | none =>
   refine absurd ?_ (course_none O hc (freeP C C.kl));rw [only_none];refine ⟨⟨Int.le_refl _, hd.1⟩, fun d r hr => ⟨r.1, Int.le_refl _, (O.r r (List.mem_of_getElem? hr)).1, ?_⟩, fun l hl => by cases hl⟩
   show (match C.rs[d]? with | some r => heldV C.most (freeP C C.kl d + r.1 - C.kl) | none => 0) = _
   rw [hr]
theorem clash_ex {C : CutV} (O : C.Ok) (hT : C.truths = []) : ∃ q : Nat, C.clashV = some q ∧ 1 ≤ q ∧ q < 2 ^ C.ls.length ∧ C.clashes q = true ∧ ∀ s, s < 2 ^ C.ls.length → C.clashes s = true → popc q < popc s ∨ (popc q = popc s ∧ q ≤ s) := by
 have hn := O.nl
 have hall : C.clashes C.all = true := by rw [← truths_is, hT]; rfl
 have hal : C.all < 2 ^ C.ls.length := by unfold CutV.all; have := Nat.two_pow_pos C.ls.length; omega
 cases q : C.clashV with
 | none =>
  unfold CutV.clashV at q
  rw [List.find?_eq_none] at q;exact absurd hall (q _ (in_subs hn hal))
 | some c =>
  have q' := q
  unfold CutV.clashV at q'
  obtain ⟨m1, m2, m3⟩ := subs_first q'
  obtain ⟨s1, s2⟩ := mem_subs.1 m1
  refine ⟨c, rfl, ?_, s1, m2, fun s hs h => m3 s (in_subs hn hs) h⟩
  rcases Nat.eq_zero_or_pos c with z | z
  ·have h0 := clashes_zero O
   rw [z] at m2
   unfold CutV.clashes at h0
   rw [m2] at h0;cases h0
  ·exact z
theorem noclash {C : CutV} (O : C.Ok) (hT : C.truths ≠ []) (hm : ∀ s, s < 2 ^ C.ls.length → C.clashes s = true → C.clashes C.all = true) : C.clashV = none := by
 cases q : C.clashV with
 | none => rfl
 | some c =>
  unfold CutV.clashV at q
  obtain ⟨m1, m2, _⟩ := subs_first q
  have := hm c (mem_subs.1 m1).1 m2
  rw [← truths_is] at this
  cases h : C.truths with
  | nil => exact absurd h hT
  | cons a b => rw [h] at this; cases this
theorem only_sub {s : Nat} : ∀ {L : List LV} {i : Nat} {l : LV}, l ∈ onlyV s i L → l ∈ L
 | [], _, _, h => by cases h
 | x :: L, i, l, h => by
  unfold onlyV at h
  split at h
  ·rcases List.mem_cons.1 h with rfl | h
   ·exact .head _
   ·exact .tail _ (only_sub h)
  ·exact .tail _ (only_sub h)
theorem clash_more {C : CutV} (O : C.Ok) {s : Nat} (h : C.clashes s = true) : C.clashes C.all = true := by
 unfold CutV.clashes at h ⊢
 rw [learnL_empty, List.all_eq_true] at h ⊢
 intro k hk
 have h1 := h k hk
 cases hc : C.course k C.all with
 | none => rfl
 | some c =>
  obtain ⟨⟨P, hP⟩, _⟩ := course_some O hc
  rw [only_all] at hP
  cases hs : C.course k s with
  | some c2 => rw [hs] at h1; cases h1
  | none => exact absurd ⟨hP.p0, hP.next, fun l hl => hP.look l (only_sub hl)⟩ (course_none O hs P)
def CutV.with (C : CutV) (L : List LV) : CutV := ⟨C.dl, C.dh, C.kl, C.kh, C.rs, C.most, C.bs, L⟩
end Go.Proofs.Yteibheeleeengaa

namespace Go.Proofs.Yteibheeleeengaa
open Go Go.AbsE
set_option linter.unusedSimpArgs false
set_option maxRecDepth 100000
set_option maxHeartbeats 0
set_option linter.unusedVariables false
theorem clashR_is {C : CutV} (O : C.Ok) : C.clashR = C.clashQ := CutV.ok_yes O
end Go.Proofs.Yteibheeleeengaa

namespace Go.Proofs.Yteibheeleeengaa
open Go Go.AbsE
set_option linter.unusedSimpArgs false
set_option maxRecDepth 100000
set_option linter.unusedVariables false
def endV (C : CutV) (s : Int) (f : Int × Int → Int) (k : Int) : Nat → Int
 | 0 => s
 | d + 1 => match C.rs[d]? with
  | some r => heldV C.most (endV C s f k d + f r - k)
  | none => 0
def CutV.lo (C : CutV) (k : Int) : Nat → Int := endV C C.dl Prod.fst k
def CutV.hi (C : CutV) (k : Int) : Nat → Int := endV C C.dh Prod.snd k
theorem andNot_bit {a b i : Nat} (ha : a < 2 ^ 64) (hi : i < 64) : (andNot a b).testBit i = (a.testBit i && !b.testBit i) := by
 unfold andNot
 rw [BitVec.testBit_toNat, BitVec.getLsbD_and, BitVec.getLsbD_not, BitVec.getLsbD_ofNat, BitVec.getLsbD_ofNat]
 simp [hi]
theorem bits_sub {n : Nat} {p q : Nat → Bool} (hn : n ≤ 9) (h : ∀ i, i < n → p i = true → q i = true) : andNot (bitsV n p) (bitsV n q) = 0 := by
 have hlt := bitsV_lt p n
 have h9 : 2 ^ n ≤ 2 ^ 9 := Nat.pow_le_pow_right (by decide) hn
 refine Nat.eq_of_testBit_eq fun i => ?_;rw [Nat.zero_testBit]
 by_cases hi : i < 64
 ·rw [andNot_bit (by omega) hi, bitsV_test, bitsV_test]
  by_cases hin : i < n
  ·rw [decide_eq_true hin, Bool.true_and, Bool.true_and]
   cases hp : p i with
   | false => rfl
   | true => rw [h i hin hp]; rfl
  ·rw [decide_eq_false hin]
   rfl
 ·have h1 := andNot_le (bitsV n p) (bitsV n q) (by omega)
  have : 2 ^ 64 ≤ 2 ^ i := Nat.pow_le_pow_right (by decide) (by omega)
  exact Nat.testBit_lt_two_pow (by omega)
end Go.Proofs.Yteibheeleeengaa

namespace Go.Proofs.Yteibheeleeengaa
open Go Go.AbsE
set_option linter.unusedSimpArgs false
set_option maxRecDepth 100000
set_option linter.unusedVariables false
theorem join_mem {L : List (Int × Int)} {p : Int × Int} (hp : p ∈ L) : (joinL L).1 ≤ p.1 ∧ p.2 ≤ (joinL L).2 := by
 have key : ∀ (L : List (Int × Int)) (a : Int × Int), ((L.foldl joinP a).1 ≤ a.1 ∧ a.2 ≤ (L.foldl joinP a).2) ∧ (∀ p, p ∈ L → (L.foldl joinP a).1 ≤ p.1 ∧ p.2 ≤ (L.foldl joinP a).2) := by
  intro L
  induction L with
  | nil => exact fun a => ⟨⟨Int.le_refl _, Int.le_refl _⟩, (fun p q => by cases q)⟩
  | cons z L ih =>
   intro a
   obtain ⟨⟨i1, i2⟩, i3⟩ := ih (joinP a z)
   rw [List.foldl_cons]
   have j1 : (joinP a z).1 = min a.1 z.1 := rfl
   have j2 : (joinP a z).2 = max a.2 z.2 := rfl
   refine ⟨⟨by omega, by omega⟩, fun p hp => ?_⟩
   rcases List.mem_cons.1 hp with rfl | hp
   ·omega
   ·exact i3 p hp
 exact (key L _).2 p hp
theorem truth_in {C : CutV} (O : C.Ok) {k : Int} (hk : C.kl ≤ k ∧ k ≤ C.kh) {P : Nat → Int} (hP : C.Path k C.ls P) :
  C.truths ≠ [] ∧ C.clashV = none ∧ ((joinL (C.truths.map leakK)).1 ≤ k ∧ k ≤ (joinL (C.truths.map leakK)).2) ∧ ∀ d, d ≤ C.rs.length → (C.at d).1 ≤ P d ∧ P d ≤ (C.at d).2 := by
 have hP2 : C.Path k (onlyV C.all 0 C.ls) P := by rw [only_all]; exact hP
 cases hc : C.course k C.all with
 | none => exact absurd hP2 (course_none O hc P)
 | some c =>
  have hx : ((k, (C.all : Int)), c) ∈ C.truths := by
   unfold CutV.truths CutV.learn
   rw [List.flatMap_cons, List.flatMap_nil, List.append_nil]
   unfold CutV.learnL
   refine List.mem_filterMap.2 ⟨k, mem_upto.2 hk, ?_⟩;rw [hc]
   rfl
  have hT : C.truths ≠ [] := fun q => by rw [q] at hx; cases hx
  refine ⟨hT, noclash O hT fun s _ h => clash_more O h, join_mem (p := (k, k)) (List.mem_map.2 ⟨_, hx, rfl⟩), fun d hd => ?_⟩
  have hlt : d < c.length := by rw [course_len hc]; omega
  have h1 := ((course_some O hc).2 d c[d] (List.getElem?_eq_getElem hlt) (P d)).2 ⟨P, hP2, rfl⟩
  have h2 := join_mem (L := C.truths.map (atK d)) (p := c[d]) (List.mem_map.2 ⟨_, hx, by unfold atK; rw [List.getElem?_eq_getElem hlt]; rfl⟩)
  unfold InS at h1
  unfold CutV.at
  omega
theorem saw_ok {C : CutV} (O : C.Ok) {L : List LV} (hl : L.length ≤ 5) (h : ∀ l, l ∈ L → l.Ok C.rs.length) : (C.with L).Ok := ⟨O.nr, O.r, O.m, O.d, O.k, O.nb, O.b, hl, h⟩
theorem sure_in {C : CutV} {d : Nat} {N : Int × Int} {p v : Int} (h : (C.at d).1 ≤ p ∧ p ≤ (C.at d).2) (hv : N.1 ≤ v ∧ v ≤ N.2) : (surelyV (C.at d) N = true → v ≤ p) ∧ (perhapsV (C.at d) N = false → p < v) := by
 unfold surelyV perhapsV
 constructor
 ·intro q
  have := of_decide_eq_true q
  omega
 ·intro q
  have := of_decide_eq_false q
  omega
end Go.Proofs.Yteibheeleeengaa

namespace Go.Proofs.Yteibheeleeengaa
open Go Go.AbsE
set_option linter.unusedSimpArgs false
set_option maxRecDepth 100000
set_option linter.unusedVariables false
theorem clash_iff {X : CutV} (O : X.Ok) : (X.truths ≠ [] → X.clashR = (0, 4)) ∧ (X.truths = [] → ∃ q : Nat, X.clashR = ((q : Int), 0)) := by
 rw [clashR_is O]
 unfold CutV.clashQ
 constructor
 ·intro hT
  rw [noclash O hT fun s _ h => clash_more O h]
 ·intro hT
  obtain ⟨q, hq, _⟩ := clash_ex O hT
  rw [hq];exact ⟨q, rfl⟩
end Go.Proofs.Yteibheeleeengaa

namespace Go.Proofs.Yteibheeleeengaa
open Go Go.AbsE
set_option linter.unusedSimpArgs false
set_option maxRecDepth 100000
set_option maxHeartbeats 0
set_option linter.unusedVariables false
def u16s (l : List Int) : List (List AVal) := l.map fun x => [AVal.int .u16 x]
theorem draws12_ok (s : AVal) (h : AH) (hs : scalars [s] = true) (hc : s.cells = [s]) : Runs Try.prog 12 [s] h (fun en h' => ∃ ba bb, en = .ret (.func (.func 31) [] [.ptr ba 0, .ptr bb 0]) ∧ Ext h h' ∧ h.next ≤ ba ∧ h.next ≤ bb ∧ ba ≠ bb ∧ Has h' ba (.cells .plain [.int .i64 0] 3) ∧ Has h' bb (.cells .plain [s] 29)) := by
 have e0 : Ext h h := Ext.refl _
 refine Runs.intro aFunc12 rfl rfl rfl rfl fun rest => ?_;apply gS;refine gR rfl ?_;refine GoR.box rfl rfl rfl rfl rfl rfl fun h0 x0 f0 => ?_;have := e0.1;replace e0 := e0.trans x0;have := f0.1;refine gP ?_;apply gE;apply gS;refine gR rfl ?_;refine GoR.alloc rfl rfl rfl zt3 rfl rfl fun h1 x1 f1 => ?_;have := e0.1;have := f0.1;replace f0 := f0.ext x1;replace e0 := e0.trans x1;have := f1.1;refine GoR.store rfl rfl rfl rfl rfl rfl f1 rfl sz3 rfl rfl rfl fun h2 u2 => ?_;replace f1 := u2.has f1;replace f0 := f0.upd u2 (by omega);replace e0 := e0.upd u2 (by omega);apply gE;apply gS;refine gR rfl ?_;iterate 2 refine gP ?_
 apply gE;rw [hc] at f0
 have l0 := x0.1
 have l1 := f0.1
 exact gV (ret_end (aResult_of Try.func12 rfl rfl) ⟨h0.next, h.next, rfl, e0, l0, Nat.le_refl _, by omega, f1, f0⟩)
theorem draw31_ok {bs : List Int} (hbs : ∀ x, x ∈ bs → 0 ≤ x ∧ x < 65536) {s : AVal} {ba bb : Nat} {n lo hi : Int} {h g : AH} (fa : Has h ba (.cells .plain [.int .i64 n] 3)) (fb : Has h bb (.cells .plain [s] 29)) (eg : Ext g h) (hab : ba ≠ bb) (hs : SliceOf g 1 s (u16s bs)) (hga : g.next ≤ ba) (hlen : bs.length < 9223372036854775808) (hn : 0 ≤ n ∧ n ≤ 1000) (hl : 0 ≤ lo ∧ lo ≤ hi ∧ hi ≤ 1000) :
  Runs Try.prog 31 [.agg [.int .i64 lo, .int .i64 hi], .ptr ba 0, .ptr bb 0] h (fun en h' => ∃ v, en = .ret (.int .i64 v) ∧ lo ≤ v ∧ v ≤ hi ∧ ExtF (fun b => b = ba) h h' ∧ Has h' ba (.cells .plain [.int .i64 (n + 1)] 3)) := by
 have hsl := hs.len
 unfold u16s at hsl
 rw [List.length_map] at hsl
 have y0 : ExtF (fun b => b = ba) h h := ExtF.of (Ext.refl _)
 have la := fa.1
 have lb := fb.1
 obtain ⟨nl, hnl⟩ : ∃ nl, bs.length = nl := ⟨_, rfl⟩
 rw [hnl] at hsl hlen
 by_cases h0' : nl = 0
 ·have hz : decide (((nl : Nat) : Int) = 0) = true := decide_eq_true (by omega)
  refine Runs.intro aFunc31 rfl rfl rfl rfl fun rest => ?_;apply gS;refine gR rfl ?_;refine GoR.box rfl rfl rfl rfl rfl rfl fun h0 x0 f0 => ?_;have := eg.1;have := fa.1;have := fb.1;replace fa := fa.ext x0;replace fb := fb.ext x0;replace eg := eg.trans x0;replace y0 := y0.ext x0;have := f0.1;refine gP ?_;apply gE;apply gS;refine gR rfl ?_;refine gO rfl rfl (ld3 rfl fa rfl) rfl ?_;refine gO rfl rfl (aA rfl rfl) rfl ?_;refine GoR.store rfl rfl rfl rfl rfl rfl fa rfl sz3 rfl rfl rfl fun h1 u1 => ?_;replace f0 := f0.upd u1 (by omega);replace fa := u1.has fa;replace fb := fb.upd u1 (by omega);replace eg := eg.upd u1 (by omega);replace y0 := y0.upd u1 (.inl rfl);apply gE;iterate 2 apply gS
  refine gR rfl ?_;refine gO rfl rfl (ld29 rfl fb rfl) rfl ?_;refine gO rfl rfl (aOp_lenSlice Try.underlying29 rfl hsl) rfl ?_;refine gO rfl rfl (aOp_eql rfl rfl hz) rfl ?_;apply gE;refine gC (b := true) rfl ?_;apply gS;refine gR rfl ?_;refine gO rfl rfl (fa23_0 rfl) rfl ?_;refine gO rfl rfl (ld3 rfl f0 rfl) rfl ?_;refine gP ?_;apply gE;exact gV (ret_end (aResult_of Try.func31 rfl rfl) ⟨_, rfl, Int.le_refl _, hl.2.1, y0, fa⟩)
 ·have hz : decide (((nl : Nat) : Int) = 0) = false := decide_eq_false (by omega)
  obtain ⟨n', hn'⟩ : ∃ n' : Nat, n + 1 = (n' : Nat) := ⟨(n + 1).toNat, by omega⟩
  obtain ⟨k, hk⟩ : ∃ k, n' % nl = k := ⟨_, rfl⟩
  have hk2 : k < nl := by rw [← hk]; exact Nat.mod_lt _ (by omega)
  have hrem : (n + 1).tmod ((nl : Nat) : Int) = (k : Nat) := by rw [hn', ← hk]; rfl
  obtain ⟨x, hx⟩ : ∃ x, bs[k]? = some x := ⟨bs[k]'(by omega), by simp⟩
  have hxb := hbs x (List.mem_of_getElem? hx)
  obtain ⟨bq, off, p1, p2⟩ := hs.at (i := k) (l := [AVal.int .u16 x]) (by unfold u16s; rw [List.getElem?_map, hx]; rfl)
  unfold u16s at p1
  rw [List.length_map, hnl] at p1
  have he : ∀ h', ExtF (fun b => b = ba) h h' → Ext g h' := fun h' y => y.low eg (fun b q => by have : b = ba := q; omega)
  obtain ⟨m, hm⟩ : ∃ m, (59 : Int) * (n + 1) = m := ⟨_, rfl⟩
  obtain ⟨q, hq2⟩ : ∃ q, (x + m).tmod (hi - lo + 1) = q := ⟨_, rfl⟩
  have hq3 : 0 ≤ q ∧ q ≤ hi - lo := by
   have h1 : 0 ≤ x + m := by omega
   rw [Int.tmod_eq_emod_of_nonneg h1] at hq2
   have h2 := Int.emod_nonneg (x + m) (b := hi - lo + 1) (by omega)
   have h3 := Int.emod_lt_of_pos (x + m) (b := hi - lo + 1) (by omega)
   omega
  refine Runs.intro aFunc31 rfl rfl rfl rfl fun rest => ?_;apply gS;refine gR rfl ?_;refine GoR.box rfl rfl rfl rfl rfl rfl fun h0 x0 f0 => ?_;have := eg.1;have := fa.1;have := fb.1;replace fa := fa.ext x0;replace fb := fb.ext x0;replace eg := eg.trans x0;replace y0 := y0.ext x0;have := f0.1;refine gP ?_;apply gE;apply gS;refine gR rfl ?_;refine gO rfl rfl (ld3 rfl fa rfl) rfl ?_;refine gO rfl rfl (aA rfl rfl) rfl ?_;refine GoR.store rfl rfl rfl rfl rfl rfl fa rfl sz3 rfl rfl rfl fun h1 u1 => ?_;replace f0 := f0.upd u1 (by omega);replace fa := u1.has fa;replace fb := fb.upd u1 (by omega);replace eg := eg.upd u1 (by omega);replace y0 := y0.upd u1 (.inl rfl);apply gE;iterate 2 apply gS
  refine gR rfl ?_;refine gO rfl rfl (ld29 rfl fb rfl) rfl ?_;refine gO rfl rfl (aOp_lenSlice Try.underlying29 rfl hsl) rfl ?_;refine gO rfl rfl (aOp_eql rfl rfl hz) rfl ?_;apply gE;refine gC (b := false) rfl ?_;refine gD ?_;apply gS;refine Go.drawnE plan31_0 ?_;refine gQ rfl rfl (fa23_0 rfl) rfl ?_;refine gQ rfl rfl (ld3 rfl f0 rfl) rfl ?_;refine gQ rfl rfl (ld29 rfl fb rfl) rfl ?_;refine gQ rfl rfl (ld3 rfl fa rfl) rfl ?_;refine gQ rfl rfl (ld29 rfl fb rfl) rfl ?_;refine gQ rfl rfl (aOp_lenSlice Try.underlying29 rfl hsl) rfl ?_;refine gQ rfl rfl (aOp_rem rfl rfl (by omega) hrem) rfl ?_;refine gQ rfl rfl (aOp_indexAddr Try.underlying29 sz66 rfl p1 rfl (Nat.ble_eq_true_of_le hk2)) rfl ?_;refine gQ rfl rfl (aOp_loadE1 (k := 0) ag66 rfl (p2.ext (he _ y0)) rfl) rfl ?_;refine gQ rfl rfl (aOp_convU16 rfl Try.underlying66 Try.underlying3 hxb) rfl ?_;refine gQ rfl rfl (ld3 rfl fa rfl) rfl ?_;refine gQ rfl rfl (aOp_mul rfl rfl hm (by omega)) rfl ?_;refine gQ rfl rfl (aA rfl rfl) rfl ?_;refine gQ rfl rfl (fa23_1 rfl) rfl ?_;refine gQ rfl rfl (ld3 rfl f0 rfl) rfl ?_;refine gQ rfl rfl (fa23_0 rfl) rfl ?_;refine gQ rfl rfl (ld3 rfl f0 rfl) rfl ?_;refine gQ rfl rfl (aS rfl rfl) rfl ?_;refine gQ rfl rfl (aA rfl rfl) rfl ?_;refine gQ rfl rfl (aOp_rem rfl rfl (by omega) hq2) rfl ?_;refine gQ rfl rfl (aA rfl rfl) rfl ?_;refine gQ rfl rfl rfl rfl ?_;refine GoE.end rfl ?_;exact gV (ret_end (aResult_of Try.func31 rfl rfl) ⟨_, rfl, by omega, by omega, y0, fa⟩)
end Go.Proofs.Yteibheeleeengaa

set_option linter.unusedSimpArgs false
set_option linter.unusedVariables false
namespace Go.AbsE
open Go
section
variable {P : Program} {t : Tr AVal} {h : AH} {dst : Option Tmp} {tt : TypeId} {pos : String} {after : Array Edge} {guard : Option (Nat × Bool)} {x y : Operand}
variable {c : FC} {k : List AItem} {Q : AM → Prop} {J : Jump} {all : Array Oper} {l lrest : List Oper} {i d : Nat}
def CopR (h : AH) (el eb : TypeId) (b lo : Nat) (v : AVal) (L : List (List AVal)) : Prop := (L = [] ∧ v = .slice b 0 0 0 ∧ Has h b (.cells .plain [] eb)) ∨ (0 < L.length ∧ ∃ B, lo ≤ B ∧ v = .gsl B 0 0 L.length ∧ Has h B (.cells .grow L.flatten el))
theorem CopR.ext {h h' : AH} {el eb : TypeId} {b lo : Nat} {v : AVal} {L : List (List AVal)} (k : CopR h el eb b lo v L) (e : Ext h h') : CopR h' el eb b lo v L := by
 rcases k with ⟨k1, k2, k3⟩ | ⟨k, b, k1, k2, k3⟩
 ·exact .inl ⟨k1, k2, k3.ext e⟩
 ·exact .inr ⟨k, b, k1, k2, k3.ext e⟩
theorem aOp_appendFullG {el el2 eb t1 t2 : TypeId} {sz bytes b len : Nat} {z s : AVal} {g0 : Kd} {Lx L : List (List AVal)} (hu1 : P.underlying t1 = some (.slice el)) (hu2 : P.underlying t2 = some (.slice el2)) (hs : sizeT P el = some sz) (hby : bytesT P el = some bytes) (hz : zeroT P el = some z) (hzl : Nat.beq z.cells.length sz = true) (hsz : Nat.blt 0 sz = true)
  (hx : ev t x = some (.slice b 0 len len)) (hb : Has h b (.cells g0 Lx.flatten eb)) (hg : g0.isRo = false) (hlx : Lx.length = len) (hzx : ∀ l, l ∈ Lx → l.length = sz) (hy : ev t y = some s) (hsl : SliceOf h sz s L) (hzL : ∀ l, l ∈ L → l.length = sz) (hroom : (len + L.length + 300) * 2 * (bytes + 1) < 281474976710656) (hL : L ≠ []) :
  ∃ h1, aOp P t h ⟨dst, .call ⟨.builtin .append, #[x, y], #[t1, t2]⟩, tt, pos, after, guard⟩ = some (.val (.gsl h.next 0 0 (len + L.length)) h1) ∧ Ext h h1 ∧ Grow h1 el sz h.next (.gsl h.next 0 0 (len + L.length)) (len + L.length) (Lx ++ L).flatten := by
 subst hlx
 have hfx := flatten_len hzx
 have hL0 : 0 < L.length := List.length_pos_iff.2 hL
 obtain ⟨h1, q⟩ := new_some h (.cells .grow (Lx ++ L).flatten el)
 obtain ⟨_, q2, q3⟩ := new_ext q
 refine ⟨h1, ?_, q2, ?_⟩
 ·show opCall P t h ⟨.builtin .append, #[x, y], #[t1, t2]⟩ tt = _
  have he : evs t [x, y] = some [.slice b 0 Lx.length Lx.length, s] := by simp only [evs, mapO, hx, hy]
  have hlt : Nat.blt ((Lx.length + L.length + 300) * 2 * (bytes + 1)) 281474976710656 = true := Nat.ble_eq_true_of_le hroom
  have hold : srcCells h sz Lx.length (.slice b 0 Lx.length Lx.length) = some Lx.flatten := by
   show AbsE.loadCells h b 0 (Lx.length * sz) = _
   unfold AbsE.loadCells
   rw [hb.2]
   exact slice_all0 hfx
  have hle : Nat.ble (Lx.length + L.length) Lx.length = false := by
   cases q : Nat.ble (Lx.length + L.length) Lx.length with
   | false => rfl
   | true => have := Nat.le_of_ble_eq_true q; omega
  have ha : aAppend P h t1 t2 (.slice b 0 Lx.length Lx.length) s = some (.val (.gsl h.next 0 0 (Lx.length + L.length)) h1) := by
   unfold aAppend
   rw [hu1, hu2]
   simp only [hs, hby, hz, show lenA (.slice b 0 Lx.length Lx.length) = some Lx.length from rfl, hsl.len, hsl.src, hlt, hsz, hzl, cond_true]
   unfold appSlice
   rw [hle, hold]
   simp only [cond_false]
   unfold growNew
   rw [← List.flatten_append, q]
  simp only [opCall, he, callWith, aBuiltin, ha]
 ·refine ⟨?_, .inr ⟨by omega, _, Nat.le_refl _, rfl, q3⟩⟩
  have := flatten_len (sz := sz) (L := Lx ++ L) (fun l hl => by
   rcases List.mem_append.1 hl with hl | hl
   ·exact hzx l hl
   ·exact hzL l hl)
  rw [List.length_append] at this
  exact this
theorem GoR.appendFullG {el el2 eb t1 t2 : TypeId} {sz bytes b len : Nat} {z s : AVal} {g0 : Kd} {Lx L : List (List AVal)} (hl : l = ⟨dst, .call ⟨.builtin .append, #[x, y], #[t1, t2]⟩, tt, pos, after, guard⟩ :: lrest) (hw : wantedA all t ⟨dst, .call ⟨.builtin .append, #[x, y], #[t1, t2]⟩, tt, pos, after, guard⟩ = some true)
  (hu1 : P.underlying t1 = some (.slice el)) (hu2 : P.underlying t2 = some (.slice el2)) (hs : sizeT P el = some sz) (hby : bytesT P el = some bytes) (hz : zeroT P el = some z) (hzl : Nat.beq z.cells.length sz = true) (hsz : Nat.blt 0 sz = true)
  (hx : ev t x = some (.slice b 0 len len)) (hb : Has h b (.cells g0 Lx.flatten eb)) (hg : g0.isRo = false) (hlx : Lx.length = len) (hzx : ∀ l, l ∈ Lx → l.length = sz) (hy : ev t y = some s) (hsl : SliceOf h sz s L) (hzL : ∀ l, l ∈ L → l.length = sz) (hroom : (len + L.length + 300) * 2 * (bytes + 1) < 281474976710656) (hd : dst = some d) (hdn : Nat.blt d c.n = true)
  (hL : L ≠ []) (g : ∀ h1, Ext h h1 → Grow h1 el sz h.next (.gsl h.next 0 0 (len + L.length)) (len + L.length) (Lx ++ L).flatten → GoR P J c k Q (runOps P c.n all lrest (i + 1) (t.put (pth d) (some (.gsl h.next 0 0 (len + L.length)))) h1)) : GoR P J c k Q (runOps P c.n all l i t h) := by
 obtain ⟨h1, q1, q2, q3⟩ := aOp_appendFullG (P := P) (dst := dst) (tt := tt) (pos := pos) (after := after) (guard := guard) hu1 hu2 hs hby hz hzl hsz hx hb hg hlx hzx hy hsl hzL hroom hL
 refine GoR.op hl hw q1 ?_ (g h1 q2 q3)
 unfold prepD
 rw [show (⟨dst, .call ⟨.builtin .append, #[x, y], #[t1, t2]⟩, tt, pos, after, guard⟩ : Oper).dst = some d from hd]
 simp only [hdn, cond_true]
 rw [Tr.mkPut_eq]
end
end Go.AbsE

namespace Go.Proofs.Yteibheeleeengaa
open Go Go.AbsE
set_option linter.unusedSimpArgs false
set_option maxRecDepth 100000
set_option maxHeartbeats 0
set_option linter.unusedVariables false
structure Depths (C : CutV) (k : Int) (n : Nat) (L : List Int) : Prop where
 len : L.length = n + 1
 p0 : ∀ x, L[0]? = some x → C.dl ≤ x ∧ x ≤ C.dh
 next : ∀ (d : Nat) r x y, d < n → C.rs[d]? = some r → L[d]? = some x → L[d + 1]? = some y → ∃ w, r.1 ≤ w ∧ w ≤ r.2 ∧ y = heldV C.most (x + w - k)
def dep (L : List Int) (d : Nat) : Int := (L[d]?).getD 0
theorem dep_at {L : List Int} {d : Nat} (h : d < L.length) : L[d]? = some (dep L d) := by
 unfold dep
 rw [List.getElem?_eq_getElem h]
 rfl
theorem Depths.path {C : CutV} {k : Int} {L : List Int} (D : Depths C k C.rs.length L) : C.Path k [] (dep L) where
 p0 := D.p0 _ (dep_at (by rw [D.len]; omega))
 next d r hr := by
  have hd := (List.getElem?_eq_some_iff.1 hr).1
  exact D.next d r _ _ hd hr (dep_at (by rw [D.len]; omega)) (dep_at (by rw [D.len]; omega))
 look l q := by cases q
theorem Depths.one {C : CutV} {k x : Int} (h : C.dl ≤ x ∧ x ≤ C.dh) : Depths C k 0 [x] := ⟨rfl, fun y q => by cases q; exact h, fun d _ _ _ hd => absurd hd (by omega)⟩
theorem Depths.more {C : CutV} {k : Int} {n : Nat} {L : List Int} (D : Depths C k n L) {r : Int × Int} (hr : C.rs[n]? = some r) {w y : Int} (hw : r.1 ≤ w ∧ w ≤ r.2) (hy : y = heldV C.most (dep L n + w - k)) : Depths C k (n + 1) (L ++ [y]) := by
 have hl := D.len
 refine ⟨by rw [List.length_append, hl]; rfl, fun x q => ?_, fun d r' x y' hd hr' hx hy' => ?_⟩
 ·rw [List.getElem?_append_left (by omega)] at q;exact D.p0 x q
 ·rw [List.getElem?_append_left (by omega)] at hx
  by_cases hdn : d < n
  ·rw [List.getElem?_append_left (by omega)] at hy';exact D.next d r' x y' hdn hr' hx hy'
  ·have : d = n := by omega
   subst this;rw [List.getElem?_append_right (by omega), show d + 1 - L.length = 0 by omega] at hy'
   cases hy'
   rw [hr] at hr'
   cases hr'
   have h2 := dep_at (L := L) (d := d) (by omega)
   rw [hx] at h2;cases h2;exact ⟨w, hw.1, hw.2, hy⟩
theorem Depths.in {C : CutV} (O : C.Ok) {k : Int} {n : Nat} {L : List Int} (D : Depths C k n L) : ∀ {d : Nat}, d ≤ n → n ≤ C.rs.length → 0 ≤ dep L d ∧ dep L d ≤ C.most
 | 0, _, _ => by
  have h1 := D.p0 _ (dep_at (by rw [D.len]; omega))
  have h2 := O.d
  omega
 | d + 1, hd, hn => by
  obtain ⟨w, _, _, hw⟩ := D.next d _ _ _ (by omega) (List.getElem?_eq_getElem (show d < C.rs.length by omega)) (dep_at (by rw [D.len]; omega)) (dep_at (by rw [D.len]; omega))
  rw [hw];exact held_in (by have := O.m; omega)
structure LooksR (C : CutV) (P : List Int) (S : List LV) : Prop where
 ok : ∀ l, l ∈ S → l.Ok C.rs.length
 r : ∀ l, l ∈ S → l.lo ≤ dep P l.day.toNat ∧ dep P l.day.toNat ≤ l.hi
theorem truly13_ok {C : CutV} (O : C.Ok) {bs : List Int} (hbs : ∀ x, x ∈ bs → 0 ≤ x ∧ x < 65536) (hlen : bs.length < 9223372036854775808) {r b l qv : AVal} {ba bb : Nat} {g h : AH} (A : CutAt g C r b l) (eg : Ext g h) (hga : g.next ≤ ba) (hgb : g.next ≤ bb) (hab : ba ≠ bb) (Q : SliceOf g 1 qv (u16s bs)) (fa : Has h ba (.cells .plain [.int .i64 0] 3)) (fb : Has h bb (.cells .plain [qv] 29)) :
  Runs Try.prog 13 [.agg (C.cells r b l), .func (.func 31) [] [.ptr ba 0, .ptr bb 0]] h (fun en h' => ∃ (lw sd : AVal) (k : Int) (P : List Int) (S : List LV), en = .ret (.tuple [.agg (C.cells r b lw), .int .i64 k, sd]) ∧ ExtF (fun b => b = ba) h h' ∧ (C.kl ≤ k ∧ k ≤ C.kh) ∧ Depths C k C.rs.length P ∧ LooksR C P S ∧ S.length ≤ 5 ∧ Has h' ba (.cells .plain [.int .i64 (2 + C.rs.length : Nat)] 3) ∧ ∀ h2, ExtF (fun b => b < h.next) h' h2 → SliceOf h2 3 lw (S.map LV.cells) ∧ SliceOf h2 1 sd (P.map fun x => [.int .i64 x])) := by
 have hnr := O.nr
 have hnl := O.nl
 have hk := O.k
 have hd := O.d
 have hm := O.m
 have hl1 := A.rs.len
 have hl2 := A.ls.len
 rw [List.length_map] at hl1 hl2
 have hsm := A.same
 have hsr := A.rs.scal
 have hsb := A.bs.scal
 have hsl := A.ls.scal
 unfold CutV.cells at *
 have hba := fa.1
 have hbb := fb.1
 have y0 : ExtF (fun b => b = ba) h h := ExtF.of (Ext.refl _)
 refine Runs.intro aFunc13 rfl rfl rfl rfl fun rest => ?_;apply gS;refine gR rfl ?_;refine GoR.box rfl rfl rfl rfl rfl rfl fun h0 x0 f0 => ?_;have := eg.1;have := fa.1;have := fb.1;replace fa := fa.ext x0;replace fb := fb.ext x0;replace eg := eg.trans x0;replace y0 := y0.ext x0;have := f0.1;refine GoR.alloc rfl rfl rfl zt28 rfl rfl fun h1 x1 f1 => ?_;have := eg.1;have := f0.1;have := fa.1;have := fb.1;replace f0 := f0.ext x1;replace fa := fa.ext x1;replace fb := fb.ext x1;replace eg := eg.trans x1;replace y0 := y0.ext x1;have := f1.1;iterate 2 refine gP ?_
 apply gE;apply gS;refine gR rfl ?_;refine gP ?_;refine gO rfl rfl (fa28_1 rfl) rfl ?_;refine gO rfl rfl (ld23 rfl f0 rfl) rfl ?_;refine GoR.call rfl rfl (aOp_callVal rfl aFunc31 rfl) (draw31_ok hbs (by assumption) (by assumption) eg hab Q (by omega) hlen (by constructor <;> omega) (by omega)) ?_ (by rintro _ _ ⟨w, q, wl, wh, _, _⟩; cases q);rintro v2 h2 ⟨w, q, wl, wh, y2, f2⟩;cases q;refine ⟨_, rfl, ?_⟩;iterate 2 have := eg.1
 have := f1.1;have := f0.1;have := fa.1;have := fb.1;replace f1 := f1.extF y2 (fun q => by omega);replace f0 := f0.extF y2 (fun q => by omega);clear fa;replace fb := fb.extF y2 (fun q => by omega);replace eg := y2.low eg (fun b q => by omega);replace y0 := y0.trans (fun b q => .inl q) y2;have := y2.1;refine gP ?_;apply gE
 obtain ⟨k, hk'⟩ : ∃ k, k = w := ⟨_, rfl⟩
 subst hk'
 have kl := wl
 have kh := wh
 apply gS;refine gR rfl ?_;refine gP ?_;refine gO rfl rfl (fa28_0 rfl) rfl ?_;refine gO rfl rfl (ld23 rfl f0 rfl) rfl ?_;refine GoR.call rfl rfl (aOp_callVal rfl aFunc31 rfl) (draw31_ok hbs (by assumption) (by assumption) eg hab Q (by omega) hlen (by constructor <;> omega) (by omega)) ?_ (by rintro _ _ ⟨w, q, wl, wh, _, _⟩; cases q);rintro v3 h3 ⟨w, q, wl, wh, y3, f3⟩;cases q;refine ⟨_, rfl, ?_⟩;iterate 2 have := eg.1
 have := f2.1;have := f1.1;have := f0.1;have := fb.1;clear f2;replace f1 := f1.extF y3 (fun q => by omega);replace f0 := f0.extF y3 (fun q => by omega);replace fb := fb.extF y3 (fun q => by omega);replace eg := y3.low eg (fun b q => by omega);replace y2 := y2.trans (fun b q => .inl q) y3;replace y0 := y0.trans (fun b q => .inl q) y3;have := y3.1;refine gP ?_;apply gE;apply gS;refine gR rfl ?_;refine gP ?_;refine GoR.buildSl rfl rfl (ps := [(0, .int .i64 w)]) (cs := [.int .i64 w]) Try.underlying34 rfl sz3 zt3 rfl rfl rfl rfl fun h4 x4 f4 => ?_;have := eg.1;have := f3.1;have := f1.1;have := f0.1;have := fb.1;replace f3 := f3.ext x4;replace f1 := f1.ext x4;replace f0 := f0.ext x4;replace fb := fb.ext x4;replace eg := eg.trans x4;replace y3 := y3.ext x4;replace y2 := y2.ext x4;replace y0 := y0.ext x4;have := f4.1;refine gP ?_;apply gE;iterate 2 apply gS
 refine gR rfl ?_;refine gO rfl rfl (fa28_2 rfl) rfl ?_;refine gO rfl rfl (ld24 rfl f0 rfl) rfl ?_;refine gO rfl rfl (aOp_lenSlice Try.underlying24 rfl hl1) rfl ?_;refine gP ?_;apply gE;refine Go.block noJ_ok ?_
 have m0 := f4.1
 have m1 := f1.1
 have m2 := f0.1
 have m3 := f3.1
 refine Go.loopKeep (fun a : Nat × AVal × List Int => [(1, .func (.func 31) [] [.ptr ba 0, .ptr bb 0]), (2, .ptr h.next 0), (4, .ptr h0.next 0), (5, .int .i64 k), (6, a.2.1), (7, .int .i64 (dep a.2.2 a.1)), (25, r), (26, .int .i64 C.rs.length), (27, .int .i64 (a.1 : Nat))])
  (fun m a h' => m + a.1 = C.rs.length ∧ Ext g h' ∧ ExtF (fun b => b = ba) h h' ∧ h4.next ≤ h'.next ∧ Has h' h.next (.cells .plain [.int .i64 C.dl, .int .i64 C.dh, .int .i64 C.kl, .int .i64 C.kh, r, .int .i64 C.most, b, l] 28) ∧ Has h' h0.next (.cells .plain [.int .i64 0, .int .i64 0, .int .i64 0, .int .i64 0, .nilslice, .int .i64 0, .nilslice, .nilslice] 28) ∧ Has h' ba (.cells .plain [.int .i64 (2 + a.1 : Nat)] 3) ∧ Has h' bb (.cells .plain [qv] 29) ∧ Depths C k a.1 a.2.2 ∧ ((a.1 = 0 ∧ a.2.1 = .slice h3.next 0 1 1 ∧ ∃ x, a.2.2 = [x] ∧ Has h' h3.next (.cells .plain [.int .i64 x] 3)) ∨ Grow h' 3 1 h4.next a.2.1 (a.1 + 1) (i64s a.2.2)))
  (n := C.rs.length) (0, .slice h3.next 0 1 1, [w]) ⟨rfl, rfl, rfl, rfl, rfl, rfl, rfl, rfl, rfl, trivial⟩ ⟨rfl, eg, y0, Nat.le_refl _, f0, f1, f3, fb, Depths.one ⟨wl, wh⟩, .inl ⟨rfl, rfl, _, rfl, f4⟩⟩ ?_
 clear eg y0 f0 f1 f3 fb f4;rintro m ⟨i, sd, P⟩ h20 ⟨hmi, eg, y0, hle, f0, f1, fa, fb, hP, hG⟩ again
 dsimp only at hmi fa hP hG ⊢
 have hn9 := f0.1
 have hn8 := f1.1
 have hn7 := fa.1
 have hn6 := fb.1
 by_cases hi : i < C.rs.length
 ·obtain ⟨x, hx⟩ : ∃ x, C.rs[i]? = some x := ⟨C.rs[i], by simp [hi]⟩
  have hxO := O.r x (List.mem_of_getElem? hx)
  unfold RainOk at hxO
  obtain ⟨bq, off, q1, q2⟩ := A.rs.at (i := i) (l := spC x) (by rw [List.getElem?_map, hx]; rfl)
  rw [List.length_map] at q1
  obtain ⟨x1, x2⟩ := x
  unfold spC at q2
  dsimp only at hxO q2
  have hpd := hP.in O (d := i) (by omega) (by omega)
  have y11 : ExtF (fun b => b = ba) h20 h20 := .of (Ext.refl _)
  apply gS;refine gR rfl ?_;refine gO rfl rfl (kLT rfl rfl) rfl ?_;apply gE;apply gS;refine gC (b := true) rfl ?_;refine gD ?_;apply gS;refine Go.block noJ_ok ?_;apply gS;refine gR rfl ?_;refine gO rfl rfl (aOp_indexAddr (i := i) Try.underlying24 sz23 rfl q1 rfl (Nat.ble_eq_true_of_le hi)) rfl ?_;refine gO rfl rfl (aOp_loadE ag23 sz23 rfl (q2.ext eg)) rfl ?_;refine GoR.alloc rfl rfl rfl zt23 rfl rfl fun h21 x21 f21 => ?_;have := eg.1;have := f0.1;have := f1.1;have := fa.1;have := fb.1;replace f0 := f0.ext x21;replace f1 := f1.ext x21;replace fa := fa.ext x21;replace fb := fb.ext x21;replace eg := eg.trans x21;replace y0 := y0.ext x21;replace y11 := y11.ext x21;have := f21.1;refine GoR.store rfl rfl rfl rfl rfl rfl f21 rfl sz23 rfl rfl rfl fun h22 u22 => ?_;replace f21 := u22.has f21;replace f0 := f0.upd u22 (by omega);replace f1 := f1.upd u22 (by omega);replace fa := fa.upd u22 (by omega);replace fb := fb.upd u22 (by omega);replace eg := eg.upd u22 (by omega);replace y0 := y0.upd u22 (.inr (by omega));replace y11 := y11.upd u22 (.inr (by omega));apply gE;apply gS;refine gR rfl ?_;iterate 2 refine gP ?_
  refine gO rfl rfl (ld23 rfl f21 rfl) rfl ?_;refine GoR.call rfl rfl (aOp_callVal rfl aFunc31 rfl) (draw31_ok hbs (by assumption) (by assumption) eg hab Q (by omega) hlen (by constructor <;> omega) (by omega)) ?_ (by rintro _ _ ⟨w, q, wl, wh, _, _⟩; cases q);rintro v23 h23 ⟨w, q, wl, wh, y23, f23⟩;cases q;refine ⟨_, rfl, ?_⟩;iterate 2 have := eg.1
  have := f21.1;have := f0.1;have := f1.1;have := fa.1;have := fb.1;replace f21 := f21.extF y23 (fun q => by omega);replace f0 := f0.extF y23 (fun q => by omega);replace f1 := f1.extF y23 (fun q => by omega);clear fa;replace fb := fb.extF y23 (fun q => by omega);replace eg := y23.low eg (fun b q => by omega);replace y0 := y0.trans (fun b q => .inl q) y23;replace y11 := y11.trans (fun b q => .inl q) y23;have := y23.1;refine gP ?_;refine gO rfl rfl (aS rfl rfl) rfl ?_;refine gO rfl rfl (aA rfl rfl) rfl ?_;refine gP ?_;apply gE
  obtain ⟨v1, hv1⟩ : ∃ v, (if dep P i + (w - k) < C.most then dep P i + (w - k) else C.most) = v := ⟨_, rfl⟩
  obtain ⟨y, hy⟩ : ∃ v, (if (0 : Int) < v1 then v1 else 0) = v := ⟨_, rfl⟩
  have hyv : y = heldV C.most (dep P i + w - k) := by
   unfold heldV
   rw [← hy, ← hv1]
   split <;> split <;> omega
  have hPn := hP.more hx ⟨wl, wh⟩ hyv
  have hlP := hP.len
  have hdn : dep (P ++ [y]) (i + 1) = y := by
   unfold dep
   rw [List.getElem?_append_right (by omega), show i + 1 - P.length = 0 by omega]
   rfl
  have hm21 := y11.1
  rcases hG with ⟨hi0, rfl, x0, rfl, fx⟩ | hG
  ·have fy := fx.extF y11 (fun q => by omega)
   clear fx;apply gS;refine gR rfl ?_;refine gO rfl rfl (fa28_3 rfl) rfl ?_;refine gO rfl rfl (ld3 rfl f0 rfl) rfl ?_;refine gP ?_;refine gO rfl rfl (aOp_min2 rfl rfl hv1) rfl ?_;refine gO rfl rfl (aOp_max2 rfl rfl hy) rfl ?_;refine gP ?_;apply gE;refine gR rfl ?_;iterate 2 refine gP ?_
   refine GoR.buildSl rfl rfl (ps := [(0, .int .i64 y)]) (cs := [.int .i64 y]) Try.underlying34 rfl sz3 zt3 rfl rfl rfl rfl fun h24 x24 f24 => ?_;have := eg.1;have := f23.1;have := f21.1;have := f0.1;have := f1.1;have := fb.1;have := fy.1;replace f23 := f23.ext x24;replace f0 := f0.ext x24;replace f1 := f1.ext x24;replace fb := fb.ext x24;replace fy := fy.ext x24;replace eg := eg.trans x24;replace y0 := y0.ext x24;have := f24.1;subst hi0;refine GoR.appendFullG (Lx := [[.int .i64 x0]]) rfl rfl Try.underlying34 Try.underlying34 sz3 by3 zt3 rfl rfl rfl fy rfl rfl (fun l hl => by rw [List.mem_singleton.1 hl]; rfl) rfl (sl1 f24) (fun l hl => by rw [List.mem_singleton.1 hl]; rfl) (by show (1 + 1 + 300) * 2 * (8 + 1) < 281474976710656; decide) rfl rfl (by simp) fun h25 x25 g25 => ?_
   have f0' := f0.ext x25
   have f1' := f1.ext x25
   have fb' := fb.ext x25
   have f23' := f23.ext x25
   have eg' := eg.trans x25
   have y0' := y0.ext x25
   clear f0 f1 fb f23 eg y0 fy f24 y11
   have f0 := f0'
   have f1 := f1'
   have fb := fb'
   have f23 := f23'
   have eg := eg'
   have y0 := y0'
   clear f0' f1' fb' f23' eg' y0'
   have hm25 := x25.1
   have hm24 := x24.1
   refine gP ?_;apply gE;refine Go.inBlock noJ_ok ?_;refine gR rfl ?_;refine gO rfl rfl (aA rfl rfl) rfl ?_;refine gP ?_;apply gE;exact again (m - 1) (0 + 1, _, [x0] ++ [y]) _ _ (by omega) ⟨rfl, rfl, rfl, rfl, rfl, (by rw [hdn]; rfl), rfl, rfl, rfl, trivial⟩ ⟨by dsimp only; omega, eg, y0, by omega, f0, f1, f23, fb, hPn, .inr (g25.low (by omega))⟩
  ·have hsG := grow_same hG
   apply gS;refine gR rfl ?_;refine gO rfl rfl (fa28_3 rfl) rfl ?_;refine gO rfl rfl (ld3 rfl f0 rfl) rfl ?_;refine gP ?_;refine gO rfl rfl (aOp_min2 rfl rfl hv1) rfl ?_;refine gO rfl rfl (aOp_max2 rfl rfl hy) rfl ?_;refine gP ?_;apply gE;refine gR rfl ?_;iterate 2 refine gP ?_
   refine GoR.buildSl rfl rfl (ps := [(0, .int .i64 y)]) (cs := [.int .i64 y]) Try.underlying34 rfl sz3 zt3 rfl rfl rfl rfl fun h24 x24 f24 => ?_;have := eg.1;have := f23.1;have := f21.1;have := f0.1;have := f1.1;have := fb.1;replace f23 := f23.ext x24;replace f21 := f21.ext x24;replace f0 := f0.ext x24;replace f1 := f1.ext x24;replace fb := fb.ext x24;replace eg := eg.trans x24;replace y23 := y23.ext x24;replace y0 := y0.ext x24;replace y11 := y11.ext x24;have := f24.1;refine GoR.append1F rfl rfl rfl Try.underlying34 Try.underlying34 sz3 by3 zt3 rfl rfl rfl rfl f24 rfl rfl (grow_extF hG y11 (fun b q => by have : b = ba := q; omega)) (by omega) rfl rfl fun s25 h25 y25 g25 => ?_;have := f24.1;have := f23.1;have := f21.1;have := f0.1;have := f1.1;have := fb.1;have := eg.1;clear f24;replace f23 := f23.extF y25 (fun q => by have := (grow_own (grow_extF hG y11 (fun b q => by have : b = ba := q; omega)) q).1; omega);clear f21;replace f0 := f0.extF y25 (fun q => by have := (grow_own (grow_extF hG y11 (fun b q => by have : b = ba := q; omega)) q).1; omega);replace f1 := f1.extF y25 (fun q => by have := (grow_own (grow_extF hG y11 (fun b q => by have : b = ba := q; omega)) q).1; omega);replace fb := fb.extF y25 (fun q => by have := (grow_own (grow_extF hG y11 (fun b q => by have : b = ba := q; omega)) q).1; omega);replace eg := y25.low eg (fun b q => by have := (grow_own (grow_extF hG y11 (fun b q => by have : b = ba := q; omega)) q).1; omega);clear y23;replace y0 := y0.trans (fun b q => .inr (by have := (grow_own (grow_extF hG y11 (fun b q => by have : b = ba := q; omega)) q).1; omega)) y25;clear y11;have := y25.1;refine gP ?_;apply gE;refine Go.inBlock noJ_ok ?_;refine gR rfl ?_;refine gO rfl rfl (aA rfl rfl) rfl ?_;refine gP ?_;apply gE
   have hm25 := y25.1
   have hm24 := x24.1
   refine again (m - 1) (i + 1, s25, P ++ [y]) _ _ (by omega) ⟨rfl, rfl, rfl, rfl, rfl, (by rw [hdn]; rfl), rfl, rfl, rfl, trivial⟩ ⟨by dsimp only; omega, eg, y0, by omega, f0, f1, (by rw [show ((2 + (i + 1) : Nat) : Int) = ((2 + i : Nat) : Int) + 1 from by omega]; assumption), fb, hPn, .inr ?_⟩
   dsimp only
   unfold i64s at g25 ⊢
   rw [List.map_append];exact g25.low (by omega)
 ·have hii : i = C.rs.length := by omega
  subst hii;clear again
  have hlP := hP.len
  have hPS : ∀ {h'}, ExtF (fun b => b = ba ∨ b = h0.next) h20 h' → SliceOf h' 1 sd (P.map fun x => [AVal.int .i64 x]) := fun {h'} y => by
   rcases hG with ⟨h1, _⟩ | hG
   ·omega
   ·exact nums_sl (by rw [hlP]) (grow_extF hG y (fun b q => by rcases q with q | q <;> omega))
  have hlsd : lenA sd = some (C.rs.length + 1) := by
   have := (hPS (.of (Ext.refl _))).len
   rw [List.length_map, hlP] at this;exact this
  have hssd := (hPS (.of (Ext.refl _))).same
  have y9 : ExtF (fun b => b = ba ∨ b = h0.next) h20 h20 := .of (Ext.refl _)
  have hsx : scalars [.int .i64 C.dl, .int .i64 C.dh, .int .i64 C.kl, .int .i64 C.kh, r, .int .i64 C.most, b, l] = true := A.scal
  have hsx2 : scalars [.int .i64 C.dl, .int .i64 C.dh, .int .i64 C.kl, .int .i64 C.kh, r, .int .i64 C.most, b, .nilslice] = true := scal_app (a := [.int .i64 C.dl, .int .i64 C.dh, .int .i64 C.kl, .int .i64 C.kh]) rfl (scal_app (a := [r]) hsr.1 (scal_app (a := [.int .i64 C.most]) rfl (scal_app (a := [b]) hsb.1 rfl)))
  apply gS;refine gR rfl ?_;refine gO rfl rfl (kLF rfl rfl) rfl ?_;apply gE;apply gS;refine gC (b := false) rfl ?_;refine gD ?_;apply gS;refine gR rfl ?_;refine gO rfl rfl (ld28 rfl f0 rfl) rfl ?_;refine GoR.store rfl rfl rfl rfl rfl rfl f1 rfl sz28 rfl hsx rfl fun h21 u21 => ?_;replace f0 := f0.upd u21 (by omega);replace f1 := u21.has f1;replace fb := fb.upd u21 (by omega);replace fa := fa.upd u21 (by omega);replace eg := eg.upd u21 (by omega);replace y0 := y0.upd u21 (.inr (by omega));replace y9 := y9.upd u21 (by omega);apply gE;apply gS;refine gR rfl ?_;refine gO rfl rfl (fa28_5 rfl) rfl ?_;refine GoR.store rfl rfl rfl rfl rfl rfl f1 rfl sz26 rfl rfl rfl fun h22 u22 => ?_;replace f0 := f0.upd u22 (by omega);replace f1 := u22.has f1;replace fb := fb.upd u22 (by omega);replace fa := fa.upd u22 (by omega);replace eg := eg.upd u22 (by omega);replace y0 := y0.upd u22 (.inr (by omega));replace y9 := y9.upd u22 (by omega);apply gE;iterate 2 apply gS
  refine gR rfl ?_;refine gO rfl rfl (fa28_5 rfl) rfl ?_;refine gO rfl rfl (ld26 rfl f0 rfl) rfl ?_;refine gO rfl rfl (aOp_lenSlice Try.underlying26 rfl hl2) rfl ?_;refine gP ?_;apply gE;refine Go.block noJ_ok ?_
  have m5 := u21.1
  have m6 := u22.1
  refine Go.loopKeep (fun a : Nat × AVal × List LV => [(4, .ptr h0.next 0), (5, .int .i64 k), (6, sd), (51, l), (52, .int .i64 C.ls.length), (53, .int .i64 (a.1 : Nat))])
   (fun m a h' => m + a.1 = C.ls.length ∧ Ext g h' ∧ ExtF (fun b => b = ba) h h' ∧ ExtF (fun b => b = ba ∨ b = h0.next) h20 h' ∧ h22.next ≤ h'.next ∧ Has h' h0.next (.cells .plain [.int .i64 C.dl, .int .i64 C.dh, .int .i64 C.kl, .int .i64 C.kh, r, .int .i64 C.most, b, a.2.1] 28) ∧ Has h' ba (.cells .plain [.int .i64 (2 + C.rs.length : Nat)] 3) ∧ LooksR C P a.2.2 ∧ a.2.2.length = a.1 ∧ Grow h' 53 3 h22.next a.2.1 a.1 (a.2.2.flatMap LV.cells))
   (n := C.ls.length) (0, .nilslice, []) ⟨rfl, rfl, rfl, rfl, rfl, rfl, trivial⟩ ⟨rfl, eg, y0, y9, Nat.le_refl _, f1, fa, ⟨fun w q => (by cases q), fun w q => (by cases q)⟩, rfl, Grow.nil _ _ _ _⟩ ?_
  clear eg y0 y9 f0 f1 fa fb;rintro m ⟨j, lw, S⟩ h30 ⟨hmj, eg, y0, y9, hle2, f1, fa, hS, hSl, G3⟩ again
  dsimp only at hmj f1 hS hSl G3 ⊢
  have hn5 := f1.1
  have hn4 := fa.1
  have hsw := grow_same G3
  have hsc := grow_scal G3
  by_cases hj : j < C.ls.length
  ·obtain ⟨⟨xd, xl, xh⟩, hx⟩ : ∃ x, C.ls[j]? = some x := ⟨C.ls[j], by simp [hj]⟩
   have hxO := O.l _ (List.mem_of_getElem? hx)
   unfold LV.Ok at hxO
   dsimp only at hxO
   obtain ⟨dd, rfl⟩ := Int.eq_ofNat_of_zero_le hxO.1.1
   obtain ⟨bq, off, q1, q2⟩ := A.ls.at (i := j) (l := LV.cells ⟨(dd : Int), xl, xh⟩) (by rw [List.getElem?_map, hx]; rfl)
   rw [List.length_map] at q1
   unfold LV.cells at q2
   obtain ⟨bp, op, p1, p2⟩ := (hPS y9).at (i := dd) (l := [.int .i64 (dep P dd)]) (by rw [List.getElem?_map, dep_at (by omega)]; rfl)
   rw [List.length_map, hlP] at p1
   have hpd := hP.in O (d := dd) (by omega) (by omega)
   obtain ⟨wd, hwd⟩ : ∃ v, (if xh - xl < 20 then xh - xl else 20) = v := ⟨_, rfl⟩
   have hwd2 : 0 ≤ wd ∧ wd ≤ 20 := by split at hwd <;> omega
   obtain ⟨hf, hhf⟩ : ∃ v, wd.tdiv 2 = v := ⟨_, rfl⟩
   have hhf2 : 0 ≤ hf ∧ hf ≤ wd := by
    rw [Int.tdiv_eq_ediv_of_nonneg hwd2.1] at hhf
    omega
   obtain ⟨l1, hl1'⟩ : ∃ v, (if (0 : Int) < dep P dd - hf then dep P dd - hf else 0) = v := ⟨_, rfl⟩
   obtain ⟨l2, hl2'⟩ : ∃ v, (if dep P dd + wd - hf < 100 then dep P dd + wd - hf else 100) = v := ⟨_, rfl⟩
   have hl1b : 0 ≤ l1 ∧ l1 ≤ dep P dd := by split at hl1' <;> omega
   have hl2b : dep P dd ≤ l2 ∧ l2 ≤ 100 := by have := O.m; split at hl2' <;> omega
   have y11 : ExtF (fun b => b = ba) h30 h30 := .of (Ext.refl _)
   have e30 : Ext h30 h30 := Ext.refl _
   have hst1 : ∀ {h : AH} {lo m : Nat} {z : AVal} {cs : List AVal}, Grow h 53 3 lo z m cs → Nat.beq z.cells.length 1 = true := fun k => by rw [(grow_scal k).2]; rfl
   have hst2 : ∀ {h : AH} {lo m : Nat} {z : AVal} {cs : List AVal}, Grow h 53 3 lo z m cs → scalars z.cells = true := fun k => by rw [(grow_scal k).2]; exact (grow_scal k).1
   have hst3 : ∀ {h : AH} {lo m : Nat} {z : AVal} {cs : List AVal}, Grow h 53 3 lo z m cs → splice [.int .i64 C.dl, .int .i64 C.dh, .int .i64 C.kl, .int .i64 C.kh, r, .int .i64 C.most, b, lw] (0 + 7) z.cells = some [.int .i64 C.dl, .int .i64 C.dh, .int .i64 C.kl, .int .i64 C.kh, r, .int .i64 C.most, b, z] := fun k => by rw [(grow_scal k).2]; rfl
   apply gS;refine gR rfl ?_;refine gO rfl rfl (kLT rfl rfl) rfl ?_;apply gE;apply gS;refine gC (b := true) rfl ?_;refine gD ?_;apply gS;refine Go.block noJ_ok ?_;apply gS;refine gR rfl ?_;refine gO rfl rfl (aOp_indexAddr (i := j) Try.underlying26 sz53 rfl q1 rfl (Nat.ble_eq_true_of_le hj)) rfl ?_;refine gO rfl rfl (aOp_loadE ag53 sz53 rfl (q2.ext eg)) rfl ?_;refine GoR.alloc rfl rfl rfl zt53 rfl rfl fun h31 x31 f31 => ?_;have := eg.1;have := e30.1;have := f1.1;have := fa.1;replace f1 := f1.ext x31;replace fa := fa.ext x31;replace eg := eg.trans x31;replace e30 := e30.trans x31;replace y0 := y0.ext x31;replace y9 := y9.ext x31;replace y11 := y11.ext x31;have := f31.1;refine GoR.store rfl rfl rfl rfl rfl rfl f31 rfl sz53 rfl rfl rfl fun h32 u32 => ?_;replace f31 := u32.has f31;replace f1 := f1.upd u32 (by omega);replace fa := fa.upd u32 (by omega);replace eg := eg.upd u32 (by omega);replace e30 := e30.upd u32 (by omega);replace y0 := y0.upd u32 (.inr (by omega));replace y9 := y9.upd u32 (.inr (by omega));replace y11 := y11.upd u32 (.inr (by omega));apply gE;apply gS;refine gR rfl ?_;refine gO rfl rfl (fa53_1 rfl) rfl ?_;refine gO rfl rfl (fa23_1 rfl) rfl ?_;refine gO rfl rfl (ld3 rfl f31 rfl) rfl ?_;refine gO rfl rfl (fa53_1 rfl) rfl ?_;refine gO rfl rfl (fa23_0 rfl) rfl ?_;refine gO rfl rfl (ld3 rfl f31 rfl) rfl ?_;refine gO rfl rfl (aOp_sub rfl rfl (by constructor <;> simp <;> omega) rfl) rfl ?_;refine gO rfl rfl (aOp_min2 rfl rfl hwd) rfl ?_;refine gP ?_;apply gE;apply gS;refine gR rfl ?_;refine gP ?_;refine gO rfl rfl (fa53_0 rfl) rfl ?_;refine gO rfl rfl (ld3 rfl f31 rfl) rfl ?_;refine gO rfl rfl (aOp_indexAddr (i := dd) Try.underlying34 sz3 rfl p1 rfl (Nat.ble_eq_true_of_le (by omega))) rfl ?_;refine gO rfl rfl (aOp_loadE1 (k := 0) ag3 rfl (p2.ext e30) rfl) rfl ?_;refine gP ?_;apply gE;refine Go.drawnE plan13_0 ?_;refine gQ rfl rfl (fa28_5 rfl) rfl ?_;refine gQ rfl rfl (ld26 rfl f1 rfl) rfl ?_;refine gQ rfl rfl (fa53_0 rfl) rfl ?_;refine gQ rfl rfl (ld3 rfl f31 rfl) rfl ?_;iterate 2 refine gQ rfl rfl rfl rfl ?_
   refine gQ rfl rfl (aOp_quo rfl rfl (by omega) hhf (by omega)) rfl ?_;refine gQ rfl rfl (aS rfl rfl) rfl ?_;refine gQ rfl rfl (aOp_max2 rfl rfl hl1') rfl ?_;iterate 2 refine gQ rfl rfl rfl rfl ?_
   refine gQ rfl rfl (aA rfl rfl) rfl ?_;refine gQ rfl rfl rfl rfl ?_;refine gQ rfl rfl (aOp_quo rfl rfl (by omega) hhf (by omega)) rfl ?_;refine gQ rfl rfl (aS rfl rfl) rfl ?_;refine gQ rfl rfl (aOp_min2 rfl rfl hl2') rfl ?_;refine GoE.call rfl rfl (aCF aFunc25 rfl) (look25_ok) (dD 65532 15 (dD 65532 14 (dD 65532 13 (dD 65532 12 (dD 65532 11 (dD 65532 10 (dD 65532 9 (dD 65532 8 (dD 65532 7 (dD 65532 6 (dD 65532 5 (dD 65532 4 (dD 65532 3 (dD 65532 2 (dK 65532 1 (dK 65532 0 rfl)))))))))))))))) ?_ np;rintro v33 h33 ⟨q, x33⟩;cases q;replace f31 := f31.ext x33;replace f1 := f1.ext x33;replace fa := fa.ext x33;replace eg := eg.trans x33;replace e30 := e30.trans x33;replace y0 := y0.ext x33;replace y9 := y9.ext x33;replace y11 := y11.ext x33;refine ⟨(rck (h2 := h33) rfl (ld26 rfl f1 rfl) (rck (h2 := h33) rfl (fa28_5 rfl) recheck_nil)), _, rfl, ?_⟩;refine GoE.quietX rfl rfl (aOpX_lit (ps := [(0, .agg [.int .i64 (dd : Nat), .int .i64 l1, .int .i64 l2])]) (cs := [.int .i64 (dd : Nat), .int .i64 l1, .int .i64 l2]) Try.underlying26 rfl sz53 zt53 rfl rfl rfl) rfl ?_;refine GoE.append1L rfl rfl Try.underlying26 Try.underlying26 sz53 by53 zt53 rfl rfl rfl rfl rfl rfl (grow_extF G3 y11 (fun b q => by have : b = ba := q; omega)) (by omega) (dD 262143 17 (dD 262143 1 (dD 262143 0 rfl))) rfl rfl fun s34 h34 y34 g34 => ?_;replace f31 := f31.extF y34 (fun q => by have := grow_own G3 q; omega);replace f1 := f1.extF y34 (fun q => by have := grow_own G3 q; omega);replace fa := fa.extF y34 (fun q => by have := grow_own G3 q; omega);replace eg := y34.low eg (fun b q => by have := grow_own G3 q; omega);replace y0 := y0.trans (fun b q => .inr (by have := grow_own G3 q; omega)) y34;replace y9 := y9.trans (fun b q => .inr (by have := grow_own G3 q; omega)) y34;clear y11;have := y34.1;refine ⟨recheck_nil, ?_⟩;refine gQ rfl rfl (fa28_5 rfl) rfl ?_;refine GoE.store rfl rfl rfl rfl (dD 1048575 19 rfl) rfl rfl f1 rfl sz26 (hst1 (by assumption)) (hst2 (by assumption)) (hst3 (by assumption)) fun h35 u35 => ?_;replace f1 := u35.has f1;replace fa := fa.upd u35 (by omega);replace eg := eg.upd u35 (by omega);replace y0 := y0.upd u35 (.inr (by omega));replace y9 := y9.upd u35 (by omega);refine ⟨recheck_nil, ?_⟩;refine GoE.end rfl ?_;refine Go.inBlock noJ_ok ?_;refine gR rfl ?_;refine gO rfl rfl (aA rfl rfl) rfl ?_;refine gP ?_;apply gE
   have m9 := e30.1
   have m10 := y34.1
   have m11 := u35.1
   refine again (m - 1) (j + 1, s34, S ++ [⟨(dd : Int), l1, l2⟩]) _ _ (by omega) ⟨rfl, rfl, rfl, rfl, rfl, rfl, trivial⟩ ⟨by dsimp only; omega, eg, y0, y9, by omega, f1, fa, ⟨fun w hw => ?_, fun w hw => ?_⟩, by rw [List.length_append, hSl]; rfl, ?_⟩
   ·rcases List.mem_append.1 hw with hw | hw
    ·exact hS.ok w hw
    ·cases List.mem_singleton.1 hw
     unfold LV.Ok
     dsimp only
     omega
   ·rcases List.mem_append.1 hw with hw | hw
    ·exact hS.r w hw
    ·cases List.mem_singleton.1 hw
     dsimp only
     rw [Int.toNat_natCast]
     omega
   ·dsimp only
    rw [List.flatMap_append];exact (g34.upd u35 (by omega)).low (by omega)
  ·have hjj : j = C.ls.length := by omega
   subst hjj;clear again
   have hsx3 : scalars [.int .i64 C.dl, .int .i64 C.dh, .int .i64 C.kl, .int .i64 C.kh, r, .int .i64 C.most, b, lw] = true := scal_app (a := [.int .i64 C.dl, .int .i64 C.dh, .int .i64 C.kl, .int .i64 C.kh]) rfl (scal_app (a := [r]) hsr.1 (scal_app (a := [.int .i64 C.most]) rfl (scal_app (a := [b]) hsb.1 hsc.1)))
   have y12 : ExtF (fun b => b = h0.next) h30 h30 := .of (Ext.refl _)
   have T1 : ∀ h' h2, ExtF (fun b => b = ba ∨ b = h0.next) h20 h' → ExtF (fun b => b < h.next) h' h2 → SliceOf h2 1 sd (P.map fun x => [AVal.int .i64 x]) := fun h' h2 y z => by
    rcases hG with ⟨h1, _⟩ | hG
    ·omega
    ·exact nums_sl (by rw [hlP]) (grow_extF (grow_extF hG y (fun b q => by rcases q with q | q <;> omega)) z (fun b q => by have : b < h.next := q; omega))
   have T3 : ∀ h' h2, ExtF (fun b => b = h0.next) h30 h' → ExtF (fun b => b < h.next) h' h2 → SliceOf h2 3 lw (S.map LV.cells) := fun h' h2 y z => Grow.sliceOf (L := S.map LV.cells) (by rw [List.length_map, hSl]; exact grow_extF (grow_extF G3 y (fun b q => by have : b = h0.next := q; omega)) z (fun b q => by have : b < h.next := q; omega)) (fun i l q => by
    rw [List.getElem?_map] at q
    cases q2 : S[i]? with
    | none => rw [q2] at q; cases q
    | some w =>
     rw [q2] at q;cases q
     exact flatten_at (f := LV.cells) lv_len i _ (by rw [List.getElem?_map, q2]; rfl))
   apply gS;refine gR rfl ?_;refine gO rfl rfl (kLF rfl rfl) rfl ?_;apply gE;apply gS;refine gC (b := false) rfl ?_;refine gD ?_;apply gS;refine gR rfl ?_;refine gO rfl rfl (ld28 rfl f1 rfl) rfl ?_;iterate 2 refine gP ?_
   refine GoR.store rfl rfl rfl rfl rfl rfl f1 rfl sz28 rfl hsx3 rfl fun h31 u31 => ?_;replace f1 := u31.has f1;replace fa := fa.upd u31 (by omega);replace eg := eg.upd u31 (by omega);replace y0 := y0.upd u31 (.inr (by omega));replace y9 := y9.upd u31 (by omega);replace y12 := y12.upd u31 (.inl rfl);iterate 2 refine gP ?_
   apply gE;exact gV (ret_end (aResult_of Try.func13 rfl (aResults_c rfl f1 (inCells_agg ag28 sz28 rfl) rfl)) (⟨lw, sd, k, P, S, rfl, y0, ⟨kl, kh⟩, hP, hS, by omega, fa, fun h2 z => ⟨T3 _ _ y12 z, T1 _ _ y9 z⟩⟩))
end Go.Proofs.Yteibheeleeengaa

namespace Go.Proofs.Yteibheeleeengaa
open Go Go.AbsE
set_option linter.unusedSimpArgs false
set_option maxRecDepth 100000
set_option maxHeartbeats 0
set_option linter.unusedVariables false
theorem law3_bad {C : CutV} {r b l qv : AVal} {h : AH} (A : CutAt h C r b l) (hb : C.rs.length < 9223372036854775808 ∧ C.bs.length < 9223372036854775808 ∧ C.ls.length < 9223372036854775808) {w1 w2 : Int} (O : ¬ C.Ok) : Runs Try.prog 3 [.agg (C.cells r b l), .int .u8 w1, .int .u8 w2, qv] h (fun en h' => en = .ret (.bool true) ∧ Ext h h') := by
 have hF := fun {h'} (e : Ext h h') => fine_ok (A.ext e) hb
 rw [decide_eq_false O] at hF
 have hsm := A.same
 unfold CutV.cells at *
 have e0 : Ext h h := Ext.refl _
 refine Runs.intro aFunc3 rfl rfl rfl rfl fun rest => ?_;apply gS;refine gR rfl ?_;refine GoR.box rfl rfl rfl rfl rfl rfl fun h0 x0 f0 => ?_;replace e0 := e0.trans x0;refine gP ?_;apply gE;iterate 2 apply gS
 refine gR rfl ?_;refine gO rfl rfl (ld28 rfl f0 rfl) rfl ?_;refine GoR.call rfl rfl (aCF aFunc10 rfl) (hF e0) ?_ np;rintro v1 h1 ⟨q, x1⟩;cases q;refine ⟨_, rfl, ?_⟩;replace e0 := e0.trans x1;refine gP ?_;apply gE;refine gC (b := true) rfl ?_;apply gS;refine gR rfl ?_;refine GoR.call rfl rfl (aCF aFunc11 rfl) (awake_ok) ?_ np;rintro v2 h2 ⟨q, x2⟩;cases q;refine ⟨_, rfl, ?_⟩;replace e0 := e0.trans x2;refine gP ?_;apply gE;exact gW Try.func3 rfl rfl ⟨rfl, e0⟩
theorem law3_ok {C : CutV} {r b l qv : AVal} {h : AH} (A : CutAt h C r b l) (O : C.Ok) {a1 a2 : Nat} (g1 : a1 < 256) (g2 : a2 < 256) {bs : List Int} (hbs : ∀ x, x ∈ bs → 0 ≤ x ∧ x < 65536) (hlen : bs.length < 9223372036854775808) (Q : SliceOf h 1 qv (u16s bs)) : Runs Try.prog 3 [.agg (C.cells r b l), .int .u8 (a1 : Nat), .int .u8 (a2 : Nat), qv] h (fun en h' => en = .ret (.bool true) ∧ Ext h h') := by
 have hnr := O.nr
 have hnb := O.nb
 have hnl := O.nl
 have hF := fun {h'} (e : Ext h h') => fine_ok (A.ext e) (by omega)
 rw [decide_eq_true O] at hF
 have hl2 := A.bs.len
 rw [List.length_map] at hl2
 have hsm := A.same
 have hqs := Q.scal
 have hsq := Q.same
 have hdr := fun h => draws12_ok qv h hqs.1 hqs.2
 have htr : ∀ {ba bb : Nat} {h1 : AH} (e : Ext h h1) (h1' : h.next ≤ ba) (h2' : h.next ≤ bb) (hab : ba ≠ bb) (fa : Has h1 ba (.cells .plain [.int .i64 0] 3)) (fb : Has h1 bb (.cells .plain [qv] 29)), Runs Try.prog 13 [.agg (C.cells r b l), .func (.func 31) [] [.ptr ba 0, .ptr bb 0]] h1 (fun en h' => ∃ (lw sd : AVal) (k : Int) (P : List Int) (S : List LV), en = .ret (.tuple [.agg (C.cells r b lw), .int .i64 k, sd]) ∧ ExtF (fun b => b = ba) h1 h' ∧ (C.kl ≤ k ∧ k ≤ C.kh) ∧ Depths C k C.rs.length P ∧ LooksR C P S ∧ S.length ≤ 5 ∧ Has h' ba (.cells .plain [.int .i64 (2 + C.rs.length : Nat)] 3) ∧ (∀ h2, ExtF (fun b => b < h1.next) h' h2 → SliceOf h2 3 lw (S.map LV.cells) ∧ SliceOf h2 1 sd (P.map fun x => [.int .i64 x])) ∧ ExtF (fun b => b < h1.next) h' h' ∧ sameA (.agg (C.cells r b lw)) (.agg (C.cells r b lw)) = true ∧ scalars (C.cells r b lw) = true) := fun e h1' h2' hab fa fb =>
  (truly13_ok O hbs hlen A e h1' h2' hab Q (fa := fa) (fb := fb)).mono fun en h' ⟨lw, sd, k, P, S, q, y, hk, hP, hS, h5, fa', tt⟩ => by
   obtain ⟨t1, t2⟩ := tt h' (.of (Ext.refl _))
   exact ⟨lw, sd, k, P, S, q, y, hk, hP, hS, h5, fa', tt, .of (Ext.refl _), same_cut A.rs.same A.bs.same t1.same, scal_app (a := [.int .i64 C.dl, .int .i64 C.dh, .int .i64 C.kl, .int .i64 C.kh]) rfl (scal_app (a := [r]) A.rs.scal.1 (scal_app (a := [.int .i64 C.most]) rfl (scal_app (a := [b]) A.bs.scal.1 t1.scal.1)))⟩
 unfold CutV.cells at *
 have e0 : Ext h h := Ext.refl _
 refine Runs.intro aFunc3 rfl rfl rfl rfl fun rest => ?_;apply gS;refine gR rfl ?_;refine GoR.box rfl rfl rfl rfl rfl rfl fun h0 x0 f0 => ?_;have := e0.1;replace e0 := e0.trans x0;have := f0.1;refine gP ?_;apply gE;iterate 2 apply gS
 refine gR rfl ?_;refine gO rfl rfl (ld28 rfl f0 rfl) rfl ?_;refine GoR.call rfl rfl (aCF aFunc10 rfl) (hF e0) ?_ np;rintro v1 h1 ⟨q, x1⟩;cases q;refine ⟨_, rfl, ?_⟩;replace f0 := f0.ext x1;replace e0 := e0.trans x1;refine gP ?_;apply gE;refine gC (b := false) rfl ?_;refine gD ?_;apply gS;refine gR rfl ?_;refine gP ?_
 have hx1 := x1.1
 refine GoR.call rfl rfl (aCF aFunc12 rfl) (hdr _) ?_ (by rintro _ _ ⟨ba, bb, q, _, hba, hbb, hab, fa, fb⟩; cases q);rintro v2 h2 ⟨ba, bb, q, x2, hba, hbb, hab, fa, fb⟩;cases q;refine ⟨_, rfl, ?_⟩;have := e0.1;replace f0 := f0.ext x2;replace e0 := e0.trans x2;refine gP ?_;apply gE;apply gS;refine gR rfl ?_;refine gO rfl rfl (ld28 rfl f0 rfl) rfl ?_;refine gP ?_;refine GoR.call rfl rfl (aCF aFunc13 rfl) (htr e0 (by omega) (by omega) hab (by assumption) (by assumption)) ?_ (by rintro _ _ ⟨lw, sd, k, P, S, q, _, hk, hP, hS, hS5, _, T1, y31, hs1, hs4⟩; cases q);rintro v3 h3 ⟨lw, sd, k, P, S, q, y3, hk, hP, hS, hS5, f3, T1, y31, hs1, hs4⟩;cases q;refine ⟨_, rfl, ?_⟩;iterate 2 have := e0.1
 have := fa.1;have := fb.1;have := f0.1;clear fa;replace fb := fb.extF y3 (fun q => by omega);replace f0 := f0.extF y3 (fun q => by omega);replace e0 := y3.low e0 (fun b q => by omega);have := y3.1;iterate 4 refine gP ?_
 refine GoR.alloc rfl rfl rfl zt28 rfl rfl fun h4 x4 f4 => ?_;have := e0.1;have := f3.1;have := fb.1;have := f0.1;replace f3 := f3.ext x4;replace fb := fb.ext x4;replace f0 := f0.ext x4;replace e0 := e0.trans x4;replace y3 := y3.ext x4;replace y31 := y31.ext x4;have := f4.1;refine GoR.store rfl rfl rfl rfl rfl rfl f4 rfl sz28 rfl hs4 rfl fun h5 u5 => ?_;replace f4 := u5.has f4;replace f3 := f3.upd u5 (by omega);replace fb := fb.upd u5 (by omega);replace f0 := f0.upd u5 (by omega);replace e0 := e0.upd u5 (by omega);replace y3 := y3.upd u5 (.inr (by omega));replace y31 := y31.upd u5 (.inr (by omega));iterate 2 refine gP ?_
 apply gE;apply gS;refine gR rfl ?_;refine gO rfl rfl (ld28 rfl f4 rfl) rfl ?_
 have OX := saw_ok O hS5 hS.ok
 have hPX : (C.with S).Path k (C.with S).ls (dep P) := ⟨hP.path.p0, hP.path.next, fun l q => hS.r l q⟩
 obtain ⟨hT, hcl, hlk, hat⟩ := truth_in OX (k := k) hk hPX
 have AX : ∀ {h'}, Ext h h' → ExtF (fun b => b < h2.next) h3 h' → CutAt h' (C.with S) r b lw := fun e y => ⟨A.rs.ext e, A.bs.ext e, (T1 _ y).1⟩
 have hSD : ∀ {h'}, ExtF (fun b => b < h2.next) h3 h' → SliceOf h' 1 sd (P.map fun x => [AVal.int .i64 x]) := fun y => (T1 _ y).2
 have hlP := hP.len
 have hlsd : lenA sd = some (C.rs.length + 1) := by
  have := (hSD y31).len
  rw [List.length_map, hlP] at this;exact this
 have hssd := (hSD y31).same
 have hw40 : (C.with S).rs.length ≤ 40 ∧ (C.with S).bs.length ≤ 40 ∧ (C.with S).ls.length ≤ 40 := ⟨by show C.rs.length ≤ 40; omega, by show C.bs.length ≤ 40; omega, by show S.length ≤ 40; omega⟩
 have hC := fun {h'} (e : Ext h h') y => Clash_ok (AX (h' := h') e y) hw40.1 hw40.2.1 hw40.2.2
 rw [(clash_iff OX).1 hT] at hC
 have hL := fun {h'} (e : Ext h h') y => Leak_ok (AX (h' := h') e y) hw40.1 hw40.2.1 hw40.2.2
 obtain ⟨⟨L1, L2⟩, hLL⟩ : ∃ s, joinL ((C.with S).truths.map leakK) = s := ⟨_, rfl⟩
 rw [show (C.with S).leakR = (joinL ((C.with S).truths.map leakK), 0) from (CutV.ok_yes OX).trans (CutV.tr_yes hT), hLL] at hL;rw [hLL] at hlk
 unfold spC at hL
 have hC : ∀ {h'}, Ext h h' → ExtF (fun b => b < h2.next) h3 h' → Runs Try.prog 14 [.agg [.int .i64 C.dl, .int .i64 C.dh, .int .i64 C.kl, .int .i64 C.kh, r, .int .i64 C.most, b, lw]] h' _ := hC
 have hL : ∀ {h'}, Ext h h' → ExtF (fun b => b < h2.next) h3 h' → Runs Try.prog 15 [.agg [.int .i64 C.dl, .int .i64 C.dh, .int .i64 C.kl, .int .i64 C.kh, r, .int .i64 C.most, b, lw]] h' _ := hL
 dsimp only at hC hL hlk
 have hin := decide_eq_true hlk
 refine GoR.call rfl rfl (aCF aFunc14 rfl) (hC e0 y31) ?_ np;rintro v6 h6 ⟨q, x6⟩;cases q;refine ⟨_, rfl, ?_⟩;replace f4 := f4.ext x6;replace f3 := f3.ext x6;replace fb := fb.ext x6;replace f0 := f0.ext x6;replace e0 := e0.trans x6;replace y3 := y3.ext x6;replace y31 := y31.ext x6;iterate 5 refine gP ?_
 apply gE;apply gS;refine gR rfl ?_;refine gO rfl rfl (ld28 rfl f4 rfl) rfl ?_;refine GoR.call rfl rfl (aCF aFunc15 rfl) (hL e0 y31) ?_ np;rintro v7 h7 ⟨q, x7⟩;cases q;refine ⟨_, rfl, ?_⟩;replace f4 := f4.ext x7;replace f3 := f3.ext x7;replace fb := fb.ext x7;replace f0 := f0.ext x7;replace e0 := e0.trans x7;replace y3 := y3.ext x7;replace y31 := y31.ext x7;iterate 3 refine gP ?_
 refine GoR.alloc rfl rfl rfl zt23 rfl rfl fun h8 x8 f8 => ?_;have := e0.1;have := f4.1;have := f3.1;have := fb.1;have := f0.1;replace f4 := f4.ext x8;replace f3 := f3.ext x8;replace fb := fb.ext x8;replace f0 := f0.ext x8;replace e0 := e0.trans x8;replace y3 := y3.ext x8;replace y31 := y31.ext x8;have := f8.1;refine GoR.store rfl rfl rfl rfl rfl rfl f8 rfl sz23 rfl rfl rfl fun h9 u9 => ?_;replace f8 := u9.has f8;replace f4 := f4.upd u9 (by omega);replace f3 := f3.upd u9 (by omega);replace fb := fb.upd u9 (by omega);replace f0 := f0.upd u9 (by omega);replace e0 := e0.upd u9 (by omega);replace y3 := y3.upd u9 (.inr (by omega));replace y31 := y31.upd u9 (.inr (by omega));refine gP ?_;apply gE;iterate 2 apply gS
 refine gR rfl ?_;refine gP ?_;refine gO rfl rfl (kXF rfl rfl) rfl ?_;iterate 2 refine gP ?_
 refine gO rfl rfl (kXF rfl rfl) rfl ?_;iterate 3 refine gP ?_
 refine gO rfl rfl (ld23 rfl f8 rfl) rfl ?_;refine GoR.call rfl rfl (aCF aFunc16 rfl) (inside16_is hin) ?_ np;rintro v10 h10 ⟨q, x10⟩;cases q;refine ⟨_, rfl, ?_⟩;replace f8 := f8.ext x10;replace f4 := f4.ext x10;replace f3 := f3.ext x10;replace fb := fb.ext x10;replace f0 := f0.ext x10;replace e0 := e0.trans x10;replace y3 := y3.ext x10;replace y31 := y31.ext x10;iterate 2 refine gP ?_
 apply gE;refine gC (b := false) rfl ?_;refine gD ?_;iterate 2 apply gS
 refine gR rfl ?_;refine gP ?_;refine gO rfl rfl (aOp_lenSlice Try.underlying34 rfl hlsd) rfl ?_;refine gP ?_;apply gE;refine Go.block noJ_ok ?_
 have m1 := f4.1
 refine Go.loopKeep (fun i : Nat => [(1, .int .u8 (a1 : Nat)), (2, .int .u8 (a2 : Nat)), (4, .ptr h.next 0), (9, .func (.func 31) [] [.ptr ba 0, .ptr bb 0]), (10, .ptr h3.next 0), (12, sd), (67, sd), (68, .int .i64 (C.rs.length + 1 : Nat)), (69, .int .i64 (i : Nat))])
  (fun m i h' => m + i = C.rs.length + 1 ∧ Ext h h' ∧ ExtF (fun b => b < h2.next) h3 h' ∧ Has h' h.next (.cells .plain [.int .i64 C.dl, .int .i64 C.dh, .int .i64 C.kl, .int .i64 C.kh, r, .int .i64 C.most, b, l] 28) ∧ Has h' h3.next (.cells .plain [.int .i64 C.dl, .int .i64 C.dh, .int .i64 C.kl, .int .i64 C.kh, r, .int .i64 C.most, b, lw] 28) ∧ Has h' ba (.cells .plain [.int .i64 (2 + C.rs.length : Nat)] 3) ∧ Has h' bb (.cells .plain [qv] 29))
  (n := C.rs.length + 1) 0 ⟨rfl, rfl, rfl, rfl, rfl, rfl, rfl, rfl, rfl, trivial⟩ ⟨rfl, e0, y31, f0, f4, f3, fb⟩ ?_
 clear e0 y31 f0 f4 f3 fb f8 y3;rintro m i h20 ⟨hmi, e0, y31, f0, f4, f3, fb⟩ again
 have m2 := f4.1
 have m3 := f0.1
 have m4 := f3.1
 have m5 := fb.1
 by_cases hi : i < C.rs.length + 1
 ·obtain ⟨bp, op, p1, p2⟩ := (hSD y31).at (i := i) (l := [.int .i64 (dep P i)]) (by rw [List.getElem?_map, dep_at (by omega)]; rfl)
  rw [List.length_map, hlP] at p1
  have hai := hat i (by show i ≤ C.rs.length; omega)
  obtain ⟨⟨d1, d2⟩, hdd⟩ : ∃ s, (C.with S).at i = s := ⟨_, rfl⟩
  have hD := fun {h'} (e : Ext h h') y => Depth_ok (AX (h' := h') e y) hw40.1 hw40.2.1 hw40.2.2 (i : Nat)
  rw [show (C.with S).depthR (i : Nat) = ((C.with S).at i, 0) from (depthR_is OX (show i ≤ C.rs.length by omega)).trans (CutV.tr_yes hT), hdd] at hD;rw [hdd] at hai
  unfold spC at hD
  have hD : ∀ {h'}, Ext h h' → ExtF (fun b => b < h2.next) h3 h' → Runs Try.prog 17 [.agg [.int .i64 C.dl, .int .i64 C.dh, .int .i64 C.kl, .int .i64 C.kh, r, .int .i64 C.most, b, lw], .int .i64 (i : Nat)] h' _ := hD
  dsimp only at hD hai
  have hin2 := decide_eq_true hai
  have e20 : Ext h20 h20 := Ext.refl _
  apply gS;refine gR rfl ?_;refine gO rfl rfl (kLT rfl rfl) rfl ?_;apply gE;apply gS;refine gC (b := true) rfl ?_;refine gD ?_;apply gS;refine Go.block noJ_ok ?_;apply gS;refine gR rfl ?_;refine gP ?_;refine gO rfl rfl (aOp_indexAddr (i := i) Try.underlying34 sz3 rfl p1 rfl (Nat.ble_eq_true_of_le (by omega))) rfl ?_;refine gO rfl rfl (aOp_loadE1 (k := 0) ag3 rfl (p2.ext e20) rfl) rfl ?_;iterate 2 refine gP ?_
  apply gE;apply gS;refine gR rfl ?_;refine gO rfl rfl (ld28 rfl f4 rfl) rfl ?_;refine gP ?_;refine GoR.call rfl rfl (aCF aFunc17 rfl) (hD e0 y31) ?_ np;rintro v21 h21 ⟨q, x21⟩;cases q;refine ⟨_, rfl, ?_⟩;replace f0 := f0.ext x21;replace f4 := f4.ext x21;replace f3 := f3.ext x21;replace fb := fb.ext x21;replace e0 := e0.trans x21;replace e20 := e20.trans x21;replace y31 := y31.ext x21;iterate 3 refine gP ?_
  refine GoR.alloc rfl rfl rfl zt23 rfl rfl fun h22 x22 f22 => ?_;have := e0.1;have := e20.1;have := f0.1;have := f4.1;have := f3.1;have := fb.1;replace f0 := f0.ext x22;replace f4 := f4.ext x22;replace f3 := f3.ext x22;replace fb := fb.ext x22;replace e0 := e0.trans x22;replace y31 := y31.ext x22;have := f22.1;refine GoR.store rfl rfl rfl rfl rfl rfl f22 rfl sz23 rfl rfl rfl fun h23 u23 => ?_;replace f22 := u23.has f22;replace f0 := f0.upd u23 (by omega);replace f4 := f4.upd u23 (by omega);replace f3 := f3.upd u23 (by omega);replace fb := fb.upd u23 (by omega);replace e0 := e0.upd u23 (by omega);replace y31 := y31.upd u23 (.inr (by omega));refine gP ?_;apply gE;apply gS;refine gR rfl ?_;refine gP ?_;refine gO rfl rfl (kXF rfl rfl) rfl ?_;iterate 2 refine gP ?_
  refine gO rfl rfl (ld23 rfl f22 rfl) rfl ?_;refine GoR.call rfl rfl (aCF aFunc16 rfl) (inside16_is hin2) ?_ np;rintro v24 h24 ⟨q, x24⟩;cases q;refine ⟨_, rfl, ?_⟩;replace f0 := f0.ext x24;replace f4 := f4.ext x24;replace f3 := f3.ext x24;replace fb := fb.ext x24;replace e0 := e0.trans x24;replace y31 := y31.ext x24;iterate 2 refine gP ?_
  apply gE;refine gC (b := false) rfl ?_;refine gD ?_;refine Go.inBlock noJ_ok ?_;refine gR rfl ?_;refine gO rfl rfl (aA rfl rfl) rfl ?_;refine gP ?_;apply gE;exact again (m - 1) (i + 1) _ _ (by omega) ⟨rfl, rfl, rfl, rfl, rfl, rfl, rfl, rfl, rfl, trivial⟩ ⟨by omega, e0, y31, f0, f4, f3, fb⟩
 ·clear again
  by_cases hne : C.bs.length = 0
  ·apply gS;refine gR rfl ?_;refine gO rfl rfl (kLF rfl rfl) rfl ?_;apply gE;apply gS;refine gC (b := false) rfl ?_;refine gD ?_;iterate 2 apply gS
   refine gR rfl ?_;refine gO rfl rfl (fa28_4 rfl) rfl ?_;refine gO rfl rfl (ld25 rfl f0 rfl) rfl ?_;refine gO rfl rfl (aOp_lenSlice Try.underlying25 rfl hl2) rfl ?_;refine gO rfl rfl (kET rfl rfl) rfl ?_;apply gE;refine gC (b := true) rfl ?_;apply gS;refine gR rfl ?_;refine GoR.call rfl rfl (aCF aFunc11 rfl) (awake_ok) ?_ np;rintro v21 h21 ⟨q, x21⟩;cases q;refine ⟨_, rfl, ?_⟩;replace fb := fb.ext x21;replace e0 := e0.trans x21;refine gP ?_;apply gE;exact gW Try.func3 rfl rfl ⟨rfl, e0⟩
  ·obtain ⟨i1, hi1⟩ : ∃ i, a1 % C.bs.length = i := ⟨_, rfl⟩
   have hil : i1 < C.bs.length := by rw [← hi1]; exact Nat.mod_lt _ (by omega)
   obtain ⟨x, hx⟩ : ∃ x, C.bs[i1]? = some x := ⟨C.bs[i1]'(by omega), by simp⟩
   have hxO := O.b x (List.mem_of_getElem? hx)
   have hxO2 := hxO
   unfold BV.Ok at hxO2
   obtain ⟨bq, off, u1, u2⟩ := A.bs.at (i := i1) (l := x.cells) (by rw [List.getElem?_map, hx]; rfl)
   rw [List.length_map] at u1
   unfold BV.cells at u2
   obtain ⟨R, hR⟩ : ∃ R : Nat, x.room = R := ⟨x.room.toNat, by omega⟩
   obtain ⟨n, hn⟩ : ∃ n, a2 % (R + 1) = n := ⟨_, rfl⟩
   have hnR : n ≤ R := by have := Nat.mod_lt a2 (y := R + 1) (by omega); omega
   have hnn : 0 ≤ (n : Int) ∧ (n : Int) ≤ x.room := by omega
   obtain ⟨d, hd⟩ : ∃ d, a2 % (C.rs.length + 1) = d := ⟨_, rfl⟩
   have hdl : d ≤ C.rs.length := by have := Nat.mod_lt a2 (y := C.rs.length + 1) (by omega); omega
   obtain ⟨pn, hpn⟩ : ∃ v, x.per * (n : Int) = v := ⟨_, rfl⟩
   have hpn2 : 0 ≤ pn ∧ pn ≤ 100 := by
    rw [← hpn]
    have h1 : 0 ≤ x.per * (n : Int) := Int.mul_nonneg (by omega) (by omega)
    have h2 : x.per * (n : Int) ≤ 10 * 10 := Int.mul_le_mul (by omega) (by omega) (by omega) (by omega)
    omega
   have hry : x.room + 1 = ((R + 1 : Nat) : Int) := by omega
   apply gS;refine gR rfl ?_;refine gO rfl rfl (kLF rfl rfl) rfl ?_;apply gE;apply gS;refine gC (b := false) rfl ?_;refine gD ?_;iterate 2 apply gS
   refine gR rfl ?_;refine gO rfl rfl (fa28_4 rfl) rfl ?_;refine gO rfl rfl (ld25 rfl f0 rfl) rfl ?_;refine gO rfl rfl (aOp_lenSlice Try.underlying25 rfl hl2) rfl ?_;refine gO rfl rfl (kEF rfl rfl) rfl ?_;apply gE;refine gC (b := false) rfl ?_;refine gD ?_;apply gS;refine gR rfl ?_;refine gP ?_;refine gO rfl rfl (aOp_convU8 rfl Try.underlying5 Try.underlying3 (by omega)) rfl ?_;refine gO rfl rfl (fa28_4 rfl) rfl ?_;refine gO rfl rfl (ld25 rfl f0 rfl) rfl ?_;refine gO rfl rfl (aOp_lenSlice Try.underlying25 rfl hl2) rfl ?_;refine gO rfl rfl (aOp_rem (r := ((i1 : Nat) : Int)) rfl rfl (by omega) (by rw [← hi1]; rfl)) rfl ?_;refine gP ?_;apply gE;apply gS;refine gR rfl ?_;refine gO rfl rfl (fa28_4 rfl) rfl ?_;refine gO rfl rfl (ld25 rfl f0 rfl) rfl ?_;refine gP ?_;refine gO rfl rfl (aOp_indexAddr (i := i1) Try.underlying25 sz45 rfl u1 rfl (Nat.ble_eq_true_of_le hil)) rfl ?_;refine gO rfl rfl (aOp_loadE ag45 sz45 rfl (u2.ext e0)) rfl ?_;refine GoR.alloc rfl rfl rfl zt45 rfl rfl fun h21 x21 f21 => ?_;have := e0.1;have := f0.1;have := f4.1;have := f3.1;have := fb.1;replace f0 := f0.ext x21;replace f4 := f4.ext x21;replace f3 := f3.ext x21;replace fb := fb.ext x21;replace e0 := e0.trans x21;replace y31 := y31.ext x21;have := f21.1;refine GoR.store rfl rfl rfl rfl rfl rfl f21 rfl sz45 rfl rfl rfl fun h22 u22 => ?_;replace f21 := u22.has f21;replace f0 := f0.upd u22 (by omega);replace f4 := f4.upd u22 (by omega);replace f3 := f3.upd u22 (by omega);replace fb := fb.upd u22 (by omega);replace e0 := e0.upd u22 (by omega);replace y31 := y31.upd u22 (.inr (by omega));apply gE;apply gS;refine gR rfl ?_;refine gP ?_;refine gO rfl rfl (aOp_convU8 rfl Try.underlying5 Try.underlying3 (by omega)) rfl ?_;refine gO rfl rfl (fa45_2 rfl) rfl ?_;refine gO rfl rfl (ld3 rfl f21 rfl) rfl ?_;refine gO rfl rfl (aA rfl rfl) rfl ?_;refine gO rfl rfl (aOp_rem (r := ((n : Nat) : Int)) rfl rfl (by omega) (by rw [hry, ← hn]; rfl)) rfl ?_;refine gP ?_;apply gE;apply gS;refine Go.drawnE plan3_0 ?_;refine gQ rfl rfl rfl rfl ?_;refine gQ rfl rfl (fa45_0 rfl) rfl ?_;refine gQ rfl rfl (ld23 rfl f21 rfl) rfl ?_;refine gQ rfl rfl (fa45_1 rfl) rfl ?_;refine gQ rfl rfl (ld3 rfl f21 rfl) rfl ?_;refine gQ rfl rfl rfl rfl ?_;refine gQ rfl rfl (aOp_mul rfl rfl hpn (by omega)) rfl ?_;refine GoE.call rfl rfl (aOp_callVal rfl aFunc31 rfl) (draw31_ok hbs (by assumption) (by assumption) e0 hab Q (by omega) hlen (by constructor <;> omega) (by omega)) (dK 7 7 (dK 7 6 (dK 7 5 (dK 7 4 (dD 7 2 (dD 7 1 (dD 7 0 rfl))))))) ?_ (by rintro _ _ ⟨w, q, wl, wh, _, _⟩; cases q);rintro v23 h23 ⟨w, q, wl, wh, y23, f23⟩;cases q;have := e0.1;have := f21.1;have := f0.1;have := f4.1;have := f3.1;have := fb.1;have := e0.1;have := f21.1;have := f0.1;have := f4.1;have := f3.1;have := fb.1;replace f21 := f21.extF y23 (fun q => by omega);replace f4 := f4.extF y23 (fun q => by omega);clear f3;replace fb := fb.extF y23 (fun q => by omega);replace e0 := y23.low e0 (fun b q => by omega);replace y31 := y31.trans (fun b q => by (try dsimp only at q ⊢) <;> omega) y23;have := y23.1;refine ⟨(rck (h2 := h23) rfl (aOp_mul rfl rfl hpn (by omega)) (rck (h2 := h23) rfl (rfl) (rck (h2 := h23) rfl (ld3 rfl f21 rfl) (rck (h2 := h23) rfl (fa45_1 rfl) recheck_nil)))), _, rfl, ?_⟩;refine gQ rfl rfl (aA rfl rfl) rfl ?_;refine gQ rfl rfl rfl rfl ?_;refine GoE.end rfl ?_;apply gS;refine gR rfl ?_;refine gO rfl rfl (ld28 rfl f4 rfl) rfl ?_;iterate 2 refine gP ?_
   have hxX : (C.with S).bs[i1]? = some x := hx
   have hDy := fun {h'} (e : Ext h h') y => Days_ok (AX (h' := h') e y) hw40.1 hw40.2.1 hw40.2.2 (i1 : Nat) (n : Nat)
   rw [daysR_is OX hxX hnn, CutV.tr_yes hT] at hDy
   obtain ⟨SU, hSU⟩ : ∃ v, (C.with S).bits surelyV (x.needs n) = v := ⟨_, rfl⟩
   obtain ⟨PE, hPE⟩ : ∃ v, (C.with S).bits perhapsV (x.needs n) = v := ⟨_, rfl⟩
   rw [hSU, hPE] at hDy
   have hUn := fun {h'} (e : Ext h h') y => Until_ok (AX (h' := h') e y) hw40.1 hw40.2.1 hw40.2.2 (i1 : Nat) (n : Nat) (d : Nat)
   rw [untilR_is OX hxX hnn (show d ≤ C.rs.length by omega)] at hUn
   obtain ⟨⟨u, ce⟩, hu⟩ : ∃ z, (C.with S).untilQ (x.needs n) (d : Nat) = z := ⟨_, rfl⟩
   rw [hu] at hUn
   have hDy : ∀ {h'}, Ext h h' → ExtF (fun b => b < h2.next) h3 h' → Runs Try.prog 18 [.agg [.int .i64 C.dl, .int .i64 C.dh, .int .i64 C.kl, .int .i64 C.kh, r, .int .i64 C.most, b, lw], .int .i64 (i1 : Nat), .int .i64 (n : Nat)] h' _ := hDy
   have hUn : ∀ {h'}, Ext h h' → ExtF (fun b => b < h2.next) h3 h' → Runs Try.prog 19 [.agg [.int .i64 C.dl, .int .i64 C.dh, .int .i64 C.kl, .int .i64 C.kh, r, .int .i64 C.most, b, lw], .int .i64 (i1 : Nat), .int .i64 (n : Nat), .int .i64 (d : Nat)] h' _ := hUn
   dsimp only at hDy hUn
   obtain ⟨v, hv⟩ : ∃ v, w + pn = v := ⟨_, rfl⟩
   have hvN : (x.needs n).1 ≤ v ∧ v ≤ (x.needs n).2 := by
    unfold BV.needs
    dsimp only
    omega
   have hsure : ∀ i, i ≤ C.rs.length → (surelyV ((C.with S).at i) (x.needs n) = true → v ≤ dep P i) ∧ (perhapsV ((C.with S).at i) (x.needs n) = false → dep P i < v) := fun i hi => sure_in (hat i hi) hvN
   have hu2 : (ce = 0 ∧ 0 ≤ u ∧ u ≤ C.rs.length ∧ v ≤ dep P u.toNat) ∨ (ce = 4 ∧ u = 0) := by
    cases hq : (C.with S).untilV (x.needs n) (d : Nat) with
    | none =>
     rw [untilQ_none hT hq] at hu;cases hu;exact .inr ⟨rfl, rfl⟩
    | some z =>
     rw [untilQ_some hT hq] at hu
     have hu1 : z = u := congrArg Prod.fst hu
     have hu3 : (0 : Int) = ce := congrArg Prod.snd hu
     subst hu1;subst hu3
     unfold CutV.untilV at hq
     obtain ⟨h1, h2', h3', _⟩ := find_upto.1 z hq
     have h4' : z ≤ C.rs.length := h2'
     exact .inl ⟨rfl, by omega, h4', (hsure z.toNat (by omega)).1 h3'⟩
   have hSU2 : SU < 2 ^ 9 := by
    rw [← hSU]
    have h1 : 2 ^ (C.rs.length + 1) ≤ 2 ^ 9 := Nat.pow_le_pow_right (by decide) (by omega)
    exact Nat.lt_of_lt_of_le (bitsV_lt _ _) h1
   have hsub : andNot SU PE = 0 := by
    rw [← hSU, ← hPE]
    exact bits_sub (by show C.rs.length + 1 ≤ 9; omega) fun i hi q => sure_perhaps hxO (at_ord OX hT (show i ≤ C.rs.length by have : i < C.rs.length + 1 := hi; omega)) q
   have hbS : ∀ i, i < C.rs.length + 1 → (((SU : Nat) : Int).fdiv (2 ^ i)) % 2 = if surelyV ((C.with S).at i) (x.needs n) = true then 1 else 0 := fun i hi => by
    rw [← hSU]
    exact bits_shr (n := C.rs.length + 1) (p := fun d => surelyV ((C.with S).at d) (x.needs n)) hi
   have hbP : ∀ i, i < C.rs.length + 1 → (((PE : Nat) : Int).fdiv (2 ^ i)) % 2 = if perhapsV ((C.with S).at i) (x.needs n) = true then 1 else 0 := fun i hi => by
    rw [← hPE]
    exact bits_shr (n := C.rs.length + 1) (p := fun d => perhapsV ((C.with S).at d) (x.needs n)) hi
   rw [hv];refine GoR.call rfl rfl (aCF aFunc18 rfl) (hDy e0 y31) ?_ np;rintro v24 h24 ⟨q, x24⟩;cases q;refine ⟨_, rfl, ?_⟩;replace f4 := f4.ext x24;replace fb := fb.ext x24;replace e0 := e0.trans x24;replace y31 := y31.ext x24;iterate 7 refine gP ?_
   apply gE;apply gS;refine Go.drawnE plan3_1 ?_;refine gQ rfl rfl (ld28 rfl f4 rfl) rfl ?_;iterate 3 refine gQ rfl rfl rfl rfl ?_
   refine gQ rfl rfl (aOp_convU8 rfl Try.underlying5 Try.underlying3 (by omega)) rfl ?_;refine gQ rfl rfl rfl rfl ?_;refine gQ rfl rfl (aOp_lenSlice Try.underlying34 rfl hlsd) rfl ?_;refine gQ rfl rfl (aOp_rem (r := ((d : Nat) : Int)) rfl rfl (by omega) (by rw [← hd]; rfl)) rfl ?_;refine GoE.call rfl rfl (aCF aFunc19 rfl) (hUn e0 y31) (dD 255 7 (dD 255 6 (dD 255 5 (dD 255 4 (dD 255 3 (dD 255 2 (dD 255 1 (dD 255 0 rfl)))))))) ?_ np;rintro v25 h25 ⟨q, x25⟩;cases q;replace fb := fb.ext x25;replace e0 := e0.trans x25;replace y31 := y31.ext x25;refine ⟨recheck_nil, _, rfl, ?_⟩;iterate 5 refine gQ rfl rfl rfl rfl ?_
   refine GoE.end rfl ?_;iterate 2 apply gS
   refine gR rfl ?_;refine gP ?_;refine gO rfl rfl (kXF rfl rfl) rfl ?_;iterate 3 refine gP ?_
   refine gO rfl rfl (aOp_andNot (r := 0) rfl rfl (by omega) hsub) rfl ?_;refine gO rfl rfl (kXF rfl rfl) rfl ?_;refine gP ?_;apply gE;refine gC (b := false) rfl ?_;refine gD ?_;iterate 2 apply gS
   refine gR rfl ?_;refine gP ?_;refine gO rfl rfl (aOp_lenSlice Try.underlying34 rfl hlsd) rfl ?_;refine gP ?_;apply gE;refine Go.block noJ_ok ?_
   refine Go.loopKeep (fun i : Nat => [(12, sd), (24, .int .i64 v), (25, .int .i64 (SU : Nat)), (26, .int .i64 (PE : Nat)), (28, .int .i64 u), (29, .int .i64 ce), (148, sd), (149, .int .i64 (C.rs.length + 1 : Nat)), (150, .int .i64 (i : Nat))])
    (fun m i h' => m + i = C.rs.length + 1 ∧ Ext h h' ∧ ExtF (fun b => b < h2.next) h3 h')
    (n := C.rs.length + 1) 0 ⟨rfl, rfl, rfl, rfl, rfl, rfl, rfl, rfl, rfl, trivial⟩ ⟨rfl, e0, y31⟩ ?_
   clear e0 y31 f0 f4 fb;rintro m i hh ⟨hmi, e0, y31⟩ again
   by_cases hi : i < C.rs.length + 1
   ·obtain ⟨bp, op, p1, p2⟩ := (hSD y31).at (i := i) (l := [.int .i64 (dep P i)]) (by rw [List.getElem?_map, dep_at (by omega)]; rfl)
    rw [List.length_map, hlP] at p1
    obtain ⟨z1, z2⟩ := hsure i (by omega)
    have b1 := hbS i hi
    have b2 := hbP i hi
    obtain ⟨qs, hqs⟩ : ∃ q, ((SU : Nat) : Int).fdiv (2 ^ i) = q := ⟨_, rfl⟩
    obtain ⟨qp, hqp⟩ : ∃ q, ((PE : Nat) : Int).fdiv (2 ^ i) = q := ⟨_, rfl⟩
    rw [hqs] at b1;rw [hqp] at b2
    have e21 : Ext hh hh := Ext.refl _
    cases qq : surelyV ((C.with S).at i) (x.needs n) with
    | true =>
     rw [qq] at b1 z1
     have z1 := z1 rfl
     cases qr : perhapsV ((C.with S).at i) (x.needs n) with
     | false =>
      rw [qr] at z2
      have z2 := z2 rfl
      omega
     | true =>
      rw [qr] at b2;apply gS;refine gR rfl ?_;refine gO rfl rfl (kLT rfl rfl) rfl ?_;apply gE;apply gS;refine gC (b := true) rfl ?_;refine gD ?_;apply gS;refine Go.block noJ_ok ?_;apply gS;refine gR rfl ?_;refine gP ?_;refine gO rfl rfl (aOp_indexAddr (i := i) Try.underlying34 sz3 rfl p1 rfl (Nat.ble_eq_true_of_le (by omega))) rfl ?_;refine gO rfl rfl (aOp_loadE1 (k := 0) ag3 rfl (p2.ext e21) rfl) rfl ?_;iterate 2 refine gP ?_
      apply gE;apply gS;refine gR rfl ?_;iterate 2 refine gP ?_
      refine gO rfl rfl (aOp_shr rfl rfl (by omega) hqs) rfl ?_;refine gO rfl rfl (aOp_and1 rfl rfl b1) rfl ?_;refine gO rfl rfl (aOp_eql rfl rfl (r := true) (decide_eq_true (by simp))) rfl ?_;iterate 3 refine gP ?_
      refine gO rfl rfl (kLF rfl rfl) rfl ?_;iterate 4 refine gP ?_
      refine gO rfl rfl (aOp_shr rfl rfl (by omega) hqp) rfl ?_;refine gO rfl rfl (aOp_and1 rfl rfl b2) rfl ?_;refine gO rfl rfl (aOp_eql rfl rfl (r := false) (decide_eq_false (by simp))) rfl ?_;refine gP ?_;iterate 3 refine GoR.skip rfl rfl rfl ?_
      iterate 2 refine gP ?_
      apply gE;refine gC (b := false) rfl ?_;refine gD ?_;refine Go.inBlock noJ_ok ?_;refine gR rfl ?_;refine gO rfl rfl (aA rfl rfl) rfl ?_;refine gP ?_;apply gE;exact again (m - 1) (i + 1) _ _ (by omega) ⟨rfl, rfl, rfl, rfl, rfl, rfl, rfl, rfl, rfl, trivial⟩ ⟨by omega, e0, y31⟩
    | false =>
     rw [qq] at b1
     cases qr : perhapsV ((C.with S).at i) (x.needs n) with
     | false =>
      rw [qr] at z2 b2
      have z2 := z2 rfl
      apply gS;refine gR rfl ?_;refine gO rfl rfl (kLT rfl rfl) rfl ?_;apply gE;apply gS;refine gC (b := true) rfl ?_;refine gD ?_;apply gS;refine Go.block noJ_ok ?_;apply gS;refine gR rfl ?_;refine gP ?_;refine gO rfl rfl (aOp_indexAddr (i := i) Try.underlying34 sz3 rfl p1 rfl (Nat.ble_eq_true_of_le (by omega))) rfl ?_;refine gO rfl rfl (aOp_loadE1 (k := 0) ag3 rfl (p2.ext e21) rfl) rfl ?_;iterate 2 refine gP ?_
      apply gE;apply gS;refine gR rfl ?_;iterate 2 refine gP ?_
      refine gO rfl rfl (aOp_shr rfl rfl (by omega) hqs) rfl ?_;refine gO rfl rfl (aOp_and1 rfl rfl b1) rfl ?_;refine gO rfl rfl (aOp_eql rfl rfl (r := false) (decide_eq_false (by simp))) rfl ?_;refine gP ?_;iterate 3 refine GoR.skip rfl rfl rfl ?_
      iterate 4 refine gP ?_
      refine gO rfl rfl (aOp_shr rfl rfl (by omega) hqp) rfl ?_;refine gO rfl rfl (aOp_and1 rfl rfl b2) rfl ?_;refine gO rfl rfl (aOp_eql rfl rfl (r := true) (decide_eq_true (by simp))) rfl ?_;iterate 3 refine gP ?_
      refine gO rfl rfl (kNF rfl rfl) rfl ?_;iterate 2 refine gP ?_
      apply gE;refine gC (b := false) rfl ?_;refine gD ?_;refine Go.inBlock noJ_ok ?_;refine gR rfl ?_;refine gO rfl rfl (aA rfl rfl) rfl ?_;refine gP ?_;apply gE;exact again (m - 1) (i + 1) _ _ (by omega) ⟨rfl, rfl, rfl, rfl, rfl, rfl, rfl, rfl, rfl, trivial⟩ ⟨by omega, e0, y31⟩
     | true =>
      rw [qr] at b2;apply gS;refine gR rfl ?_;refine gO rfl rfl (kLT rfl rfl) rfl ?_;apply gE;apply gS;refine gC (b := true) rfl ?_;refine gD ?_;apply gS;refine Go.block noJ_ok ?_;apply gS;refine gR rfl ?_;refine gP ?_;refine gO rfl rfl (aOp_indexAddr (i := i) Try.underlying34 sz3 rfl p1 rfl (Nat.ble_eq_true_of_le (by omega))) rfl ?_;refine gO rfl rfl (aOp_loadE1 (k := 0) ag3 rfl (p2.ext e21) rfl) rfl ?_;iterate 2 refine gP ?_
      apply gE;apply gS;refine gR rfl ?_;iterate 2 refine gP ?_
      refine gO rfl rfl (aOp_shr rfl rfl (by omega) hqs) rfl ?_;refine gO rfl rfl (aOp_and1 rfl rfl b1) rfl ?_;refine gO rfl rfl (aOp_eql rfl rfl (r := false) (decide_eq_false (by simp))) rfl ?_;refine gP ?_;iterate 3 refine GoR.skip rfl rfl rfl ?_
      iterate 4 refine gP ?_
      refine gO rfl rfl (aOp_shr rfl rfl (by omega) hqp) rfl ?_;refine gO rfl rfl (aOp_and1 rfl rfl b2) rfl ?_;refine gO rfl rfl (aOp_eql rfl rfl (r := false) (decide_eq_false (by simp))) rfl ?_;refine gP ?_;iterate 3 refine GoR.skip rfl rfl rfl ?_
      iterate 2 refine gP ?_
      apply gE;refine gC (b := false) rfl ?_;refine gD ?_;refine Go.inBlock noJ_ok ?_;refine gR rfl ?_;refine gO rfl rfl (aA rfl rfl) rfl ?_;refine gP ?_;apply gE;exact again (m - 1) (i + 1) _ _ (by omega) ⟨rfl, rfl, rfl, rfl, rfl, rfl, rfl, rfl, rfl, trivial⟩ ⟨by omega, e0, y31⟩
   ·clear again
    rcases hu2 with ⟨rfl, hu0, hul, huv⟩ | ⟨rfl, rfl⟩
    ·obtain ⟨un, rfl⟩ := Int.eq_ofNat_of_zero_le hu0
     rw [Int.toNat_natCast] at huv
     obtain ⟨bp, op, p1, p2⟩ := (hSD y31).at (i := un) (l := [.int .i64 (dep P un)]) (by rw [List.getElem?_map, dep_at (by omega)]; rfl)
     rw [List.length_map, hlP] at p1
     have e21 : Ext hh hh := Ext.refl _
     apply gS;refine gR rfl ?_;refine gO rfl rfl (kLF rfl rfl) rfl ?_;apply gE;apply gS;refine gC (b := false) rfl ?_;refine gD ?_;iterate 2 apply gS
     refine gR rfl ?_;refine gP ?_;refine gO rfl rfl (kET rfl rfl) rfl ?_;iterate 2 refine gP ?_
     refine gO rfl rfl (kLF rfl rfl) rfl ?_;iterate 3 refine gP ?_
     refine gO rfl rfl (aOp_lenSlice Try.underlying34 rfl hlsd) rfl ?_;refine gO rfl rfl (kNF rfl rfl) rfl ?_;iterate 4 refine gP ?_
     refine gO rfl rfl (aOp_indexAddr (i := un) Try.underlying34 sz3 rfl p1 rfl (Nat.ble_eq_true_of_le (by omega))) rfl ?_;refine gO rfl rfl (aOp_loadE1 (k := 0) ag3 rfl (p2.ext e21) rfl) rfl ?_;refine gP ?_;refine gO rfl rfl (kLF rfl rfl) rfl ?_;iterate 2 refine gP ?_
     apply gE;refine gC (b := false) rfl ?_;refine gD ?_;apply gS;refine gR rfl ?_;refine gP ?_;refine gO rfl rfl (kET rfl rfl) rfl ?_;refine gP ?_;iterate 6 refine GoR.skip rfl rfl rfl ?_
     iterate 2 refine gP ?_
     refine GoR.call rfl rfl (aCF aFunc11 rfl) (awake_ok) ?_ np;rintro v26 h26 ⟨q, x26⟩;cases q;refine ⟨_, rfl, ?_⟩;replace e0 := e0.trans x26;iterate 2 refine gP ?_
     apply gE;exact gW Try.func3 rfl rfl ⟨rfl, e0⟩
    ·apply gS;refine gR rfl ?_;refine gO rfl rfl (kLF rfl rfl) rfl ?_;apply gE;apply gS;refine gC (b := false) rfl ?_;refine gD ?_;iterate 2 apply gS
     refine gR rfl ?_;refine gP ?_;refine gO rfl rfl (kEF rfl rfl) rfl ?_;refine gP ?_;iterate 16 refine GoR.skip rfl rfl rfl ?_
     refine gP ?_;apply gE;refine gC (b := false) rfl ?_;refine gD ?_;apply gS;refine gR rfl ?_;refine gP ?_;refine gO rfl rfl (kEF rfl rfl) rfl ?_;iterate 2 refine gP ?_
     refine gO rfl rfl (kET rfl rfl) rfl ?_;iterate 2 refine gP ?_
     refine gO rfl rfl (kET rfl rfl) rfl ?_;iterate 3 refine gP ?_
     refine GoR.call rfl rfl (aCF aFunc11 rfl) (awake_ok) ?_ np;rintro v26 h26 ⟨q, x26⟩;cases q;refine ⟨_, rfl, ?_⟩;replace e0 := e0.trans x26;iterate 2 refine gP ?_
     apply gE;exact gW Try.func3 rfl rfl ⟨rfl, e0⟩
theorem law3 {C : CutV} {r b l qv : AVal} {h : AH} (A : CutAt h C r b l) (hb : C.rs.length < 9223372036854775808 ∧ C.bs.length < 9223372036854775808 ∧ C.ls.length < 9223372036854775808) {w1 w2 : Int} (h1 : 0 ≤ w1 ∧ w1 < 256) (h2 : 0 ≤ w2 ∧ w2 < 256) {bs : List Int} (hbs : ∀ x, x ∈ bs → 0 ≤ x ∧ x < 65536) (hlen : bs.length < 9223372036854775808) (Q : SliceOf h 1 qv (u16s bs)) : Runs Try.prog 3 [.agg (C.cells r b l), .int .u8 w1, .int .u8 w2, qv] h (fun en h' => en = .ret (.bool true) ∧ Ext h h') := by
 by_cases O : C.Ok
 ·obtain ⟨a1, rfl⟩ := Int.eq_ofNat_of_zero_le h1.1
  obtain ⟨a2, rfl⟩ := Int.eq_ofNat_of_zero_le h2.1
  exact law3_ok A O (by omega) (by omega) hbs hlen Q
 ·exact law3_bad A hb O
end Go.Proofs.Yteibheeleeengaa

namespace Go.AbsE
open Go Go.RowKit
section
variable {P : Program}
theorem HR.openWin {e : Env} {h : AH} {W : World} (r : HR P (Base.all W) e h W) {B lo : Nat} {PRE CS junk : List Value} {el : TypeId} {fr : Nat × Nat} {cs : List AVal} (hB : W.heap[B]? = some (.cells (PRE ++ (CS ++ junk)).toArray el fr)) (hp : PRE.length = lo) (hv : ∀ e, VRs e cs CS) :
  ∃ e' h', Env.le e e' ∧ HR P (Base.all W) e' h' W ∧ Ext h h' ∧ e' h.next = some (B, 0) ∧ Has h' h.next (.win lo cs) := by
 obtain ⟨h', k⟩ := new_some h (.win lo cs)
 obtain ⟨_, x1, x2⟩ := new_ext k
 obtain ⟨n1, n2, n3⟩ := AH.get_new k
 have hle := Env.le_ext (x := (B, 0)) r.fresh
 have hlt := (Array.getElem?_eq_some_iff.1 hB).1
 refine ⟨e.ext h.next (B, 0), h', hle, ?_, x1, Env.ext_same _ _ _, x2⟩
 refine { dom := ?_, blk := ?_, inj := ?_, imm := ?_, os := r.os, tape := r.tape, output := r.output, size := r.size, old := r.old, young := r.young }
 ·intro b' x kx
  rw [Env.ext_at] at kx
  by_cases hb' : b' = h.next
  ·omega
  ·rw [if_neg hb'] at kx; have := r.dom _ _ kx; omega
 ·intro b' o' kx
  rw [n3] at kx
  by_cases hb' : b' = h.next
  ·rw [if_pos hb'] at kx
   cases kx
   subst hb'
   exact ⟨B, 0, _, Env.ext_same _ _ _, (fun q => by cases q), hB, .win (hv _) hp⟩
  ·rw [if_neg hb'] at kx
   obtain ⟨B', c', O', k1, k2, k3, k4⟩ := r.blk _ _ kx
   exact ⟨B', c', O', hle.1 _ _ k1, k2, k3, k4.mono hle⟩
 ·intro b1 b2 B1 c1 c2 o1 o2 k1 k2 hro e1 e2
  rw [n3] at k1 k2
  rw [Env.ext_at] at e1 e2
  by_cases q1 : b1 = h.next
  ·rw [if_pos q1] at k1; cases k1; cases hro
  ·rw [if_neg q1] at k1 e1
   by_cases q2 : b2 = h.next
   ·rw [if_pos q2] at e2
    cases e2
    obtain ⟨B', c', O', j1, j2, _, _⟩ := r.blk _ _ k1
    rw [e1] at j1
    cases j1
    exact absurd hlt (j2 hro)
   ·rw [if_neg q2] at k2 e2
    exact r.inj _ _ _ _ _ _ _ k1 k2 hro e1 e2
 ·intro B1 CS' hi
  obtain ⟨i1, i2⟩ := r.imm B1 CS' hi
  refine ⟨i1, fun b' o' c' kx hro ke => ?_⟩
  rw [n3] at kx
  rw [Env.ext_at] at ke
  by_cases q : b' = h.next
  ·rw [if_pos q] at kx; cases kx; cases hro
  ·rw [if_neg q] at kx ke; exact i2 b' o' c' kx hro ke
end
end Go.AbsE
