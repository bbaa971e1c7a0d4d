import Derived.Test.YteibheeleeengaaMAR
import Derived.Test.YteibheeleeengaaMAJ
import Derived.Test.YteibheeleeengaaMAL
import Derived.Test.YteibheeleeengaaMAK
import Derived.Test.YteibheeleeengaaMAM
import Derived.Test.YteibheeleeengaaMAG
import Derived.Deep.Slices
import Derived.Lib.SmallJoins
import Derived.Carry
import Derived.Laws.IdiomArrays
import Derived.Test.YteibheeleeengaaRows
import Derived.WalkKit
import Derived.ProofKit
import Derived.OpenShut
namespace Go.Proofs.Yteibheeleeengaa
open Go Go.AbsE
set_option linter.unusedSimpArgs false
set_option maxRecDepth 100000
set_option linter.unusedVariables false
theorem held_mono {m x y : Int} (h : x ≤ y) : heldV m x ≤ heldV m y := by
 unfold heldV
 omega
def endV (C : CutV) (s : Int) (f : Int × Int → Int) (k : Int) : Nat → Int
 | 0 => s
 | d + 1 => match C.rs[d]? with
  | some r => heldV C.most (endV C s f k d + f r - k)
  | none => 0
def CutV.lo (C : CutV) (k : Int) : Nat → Int := endV C C.dl Prod.fst k
def CutV.hi (C : CutV) (k : Int) : Nat → Int := endV C C.dh Prod.snd k
theorem end_next {C : CutV} {s : Int} {f : Int × Int → Int} {k : Int} {d : Nat} {r : Int × Int} (h : C.rs[d]? = some r) : endV C s f k (d + 1) = heldV C.most (endV C s f k d + f r - k) := by
 show (match C.rs[d]? with | some r => heldV C.most (endV C s f k d + f r - k) | none => 0) = _
 rw [h]
theorem path_ends {C : CutV} {k : Int} {L : List LV} {P : Nat → Int} (h : C.Path k L P) : ∀ {d : Nat}, d ≤ C.rs.length → C.lo k d ≤ P d ∧ P d ≤ C.hi k d
 | 0, _ => h.p0
 | d + 1, hd => by
  obtain ⟨r, hr⟩ : ∃ r, C.rs[d]? = some r := ⟨C.rs[d]'(by omega), by simp⟩
  have ih := path_ends h (d := d) (by omega)
  obtain ⟨w, w1, w2, hw⟩ := h.next d r hr
  unfold CutV.lo CutV.hi at ih ⊢
  rw [end_next hr, end_next hr, hw];exact ⟨held_mono (by omega), held_mono (by omega)⟩
theorem held_reach {m a b v : Int} (hab : a ≤ b) (h1 : heldV m a ≤ v) (h2 : v ≤ heldV m b) : ∃ x, a ≤ x ∧ x ≤ b ∧ heldV m x = v := by
 unfold heldV at *
 by_cases q1 : v < a
 ·exact ⟨a, Int.le_refl _, hab, by omega⟩
 ·by_cases q2 : b < v
  ·exact ⟨b, hab, Int.le_refl _, by omega⟩
  ·by_cases q3 : min (max v 0) m = v
   ·exact ⟨v, by omega, by omega, q3⟩
   ·exact ⟨b, hab, Int.le_refl _, by omega⟩
def goV (C : CutV) (k x : Int) (d : Nat) : Nat → Int
 | 0 => x
 | n + 1 => match C.rs[d + n]? with
  | some r => heldV C.most (goV C k x d n + r.1 - k)
  | none => 0
theorem reach_start {C : CutV} (O : C.Ok) {k : Int} : ∀ {d : Nat}, d ≤ C.rs.length → C.lo k d ≤ C.hi k d ∧ ∀ v, C.lo k d ≤ v → v ≤ C.hi k d → ∃ P : Nat → Int, (C.dl ≤ P 0 ∧ P 0 ≤ C.dh) ∧ (∀ (e : Nat) r, e < d → C.rs[e]? = some r → ∃ w, r.1 ≤ w ∧ w ≤ r.2 ∧ P (e + 1) = heldV C.most (P e + w - k)) ∧ P d = v
 | 0, _ => ⟨O.d.1, fun v h1 h2 => ⟨fun _ => v, ⟨h1, h2⟩, fun e r he => absurd he (by omega), rfl⟩⟩
 | d + 1, hd => by
  obtain ⟨r, hr⟩ : ∃ r, C.rs[d]? = some r := ⟨C.rs[d]'(by omega), by simp⟩
  obtain ⟨ih1, ih2⟩ := reach_start O (k := k) (d := d) (by omega)
  have hrk := O.r r (List.mem_of_getElem? hr)
  have h12 := hrk.1
  have n1 : C.lo k (d + 1) = heldV C.most (C.lo k d + r.1 - k) := end_next hr
  have n2 : C.hi k (d + 1) = heldV C.most (C.hi k d + r.2 - k) := end_next hr
  refine ⟨by rw [n1, n2]; exact held_mono (by omega), fun v h1 h2 => ?_⟩;rw [n1] at h1;rw [n2] at h2
  obtain ⟨x, x1, x2, hx⟩ := held_reach (by omega) h1 h2
  obtain ⟨u, w, u1, u2, w1, w2, huw⟩ : ∃ u w, C.lo k d ≤ u ∧ u ≤ C.hi k d ∧ r.1 ≤ w ∧ w ≤ r.2 ∧ u + w - k = x := by
   by_cases q : x - r.1 + k ≤ C.hi k d
   ·exact ⟨x - r.1 + k, r.1, by omega, q, Int.le_refl _, h12, by omega⟩
   ·exact ⟨C.hi k d, x - C.hi k d + k, ih1, Int.le_refl _, by omega, by omega, by omega⟩
  obtain ⟨P, p0, pn, pd⟩ := ih2 u u1 u2
  refine ⟨fun j => if j ≤ d then P j else v, by simpa using p0, fun e r' he hr' => ?_, by show (if d + 1 ≤ d then P (d + 1) else v) = v; rw [if_neg (by omega)]⟩
  by_cases q : e < d
  ·obtain ⟨w', a1, a2, a3⟩ := pn e r' q hr'
   refine ⟨w', a1, a2, ?_⟩
   simp only [if_pos (show e + 1 ≤ d by omega), if_pos (show e ≤ d by omega)]
   exact a3
  ·have : e = d := by omega
   subst this;rw [hr] at hr'
   cases hr'
   refine ⟨w, w1, w2, ?_⟩
   simp only [if_neg (show ¬ e + 1 ≤ e by omega), if_pos (Nat.le_refl e)]
   rw [pd, huw, hx]
theorem free_path {C : CutV} (O : C.Ok) {k : Int} {d : Nat} (hd : d ≤ C.rs.length) {v : Int} (h1 : C.lo k d ≤ v) (h2 : v ≤ C.hi k d) : ∃ P, C.Path k [] P ∧ P d = v := by
 obtain ⟨P, p0, pn, pd⟩ := (reach_start O hd).2 v h1 h2
 refine ⟨fun j => if j ≤ d then P j else goV C k v d (j - d), ⟨by simpa using p0, fun e r hr => ?_, fun l q => by cases q⟩, by simpa using pd⟩
 by_cases q : e < d
 ·obtain ⟨w', a1, a2, a3⟩ := pn e r q hr
  refine ⟨w', a1, a2, ?_⟩
  simp only [if_pos (show e + 1 ≤ d by omega), if_pos (show e ≤ d by omega)]
  exact a3
 ·refine ⟨r.1, Int.le_refl _, (O.r r (List.mem_of_getElem? hr)).1, ?_⟩
  have hj : (if e ≤ d then P e else goV C k v d (e - d)) = goV C k v d (e - d) := by
   by_cases q2 : e ≤ d
   ·have : e = d := by omega
    subst this;rw [if_pos q2, Nat.sub_self, pd]
    rfl
   ·rw [if_neg q2]
  show (if e + 1 ≤ d then P (e + 1) else goV C k v d (e + 1 - d)) = heldV C.most ((if e ≤ d then P e else goV C k v d (e - d)) + r.1 - k)
  rw [hj, if_neg (by omega), show e + 1 - d = (e - d) + 1 by omega]
  show (match C.rs[d + (e - d)]? with | some r => heldV C.most (goV C k v d (e - d) + r.1 - k) | none => 0) = _
  rw [show d + (e - d) = e by omega, hr]
theorem lo_anti {C : CutV} {s : Int} {f : Int × Int → Int} {k j : Int} (h : k ≤ j) : ∀ d, endV C s f j d ≤ endV C s f k d
 | 0 => Int.le_refl _
 | d + 1 => by
  have ih := lo_anti (C := C) (s := s) (f := f) h d
  cases hr : C.rs[d]? with
  | none =>
   show (match C.rs[d]? with | some r => heldV C.most (endV C s f j d + f r - j) | none => 0) ≤ (match C.rs[d]? with | some r => heldV C.most (endV C s f k d + f r - k) | none => 0)
   rw [hr];exact Int.le_refl _
  | some r =>
   rw [end_next hr, end_next hr];exact held_mono (by omega)
theorem free_course {C : CutV} (O : C.Ok) {k : Int} {s : Nat} (hn : onlyV s 0 C.ls = []) : ∃ c, C.course k s = some c ∧ ∀ d, d ≤ C.rs.length → c[d]? = some (C.lo k d, C.hi k d) := by
 cases hc : C.course k s with
 | none =>
  obtain ⟨P, hP, _⟩ := free_path O (k := k) (d := 0) (by omega) (v := C.dl) (Int.le_refl _) O.d.1
  exact absurd (by rw [hn]; exact hP) (course_none O hc P)
 | some c =>
  refine ⟨c, rfl, fun d hd => ?_⟩
  have hlen := course_len hc
  have hlt : d < c.length := by omega
  obtain ⟨_, h2⟩ := course_some O hc
  have h3 := h2 d c[d] (List.getElem?_eq_getElem hlt)
  rw [hn] at h3;rw [List.getElem?_eq_getElem hlt]
  have hlh := (reach_start O (k := k) hd).1
  have key : ∀ v, InS c[d] v ↔ C.lo k d ≤ v ∧ v ≤ C.hi k d := fun v => by
   rw [h3 v]
   constructor
   ·rintro ⟨P, hP, rfl⟩;exact path_ends hP hd
   ·rintro ⟨a, b⟩;exact free_path O hd a b
  unfold InS at key
  have k1 := (key (C.lo k d)).2 ⟨Int.le_refl _, hlh⟩
  have k2 := (key (C.hi k d)).2 ⟨hlh, Int.le_refl _⟩
  have k3 := (key c[d].1).1 ⟨Int.le_refl _, by omega⟩
  have k4 := (key c[d].2).1 ⟨by omega, Int.le_refl _⟩
  congr 1
  apply Prod.ext
  ·show c[d].1 = C.lo k d
   omega
  ·show c[d].2 = C.hi k d
   omega
theorem join_spec {L : List (Int × Int)} (hne : L ≠ []) (hin : ∀ p, p ∈ L → InSp p) : (∀ p, p ∈ L → (joinL L).1 ≤ p.1 ∧ p.2 ≤ (joinL L).2) ∧ (∃ p, p ∈ L ∧ p.1 = (joinL L).1) ∧ ∃ p, p ∈ L ∧ p.2 = (joinL L).2 := by
 have key : ∀ (L : List (Int × Int)) (a : Int × Int), ((L.foldl joinP a).1 ≤ a.1 ∧ a.2 ≤ (L.foldl joinP a).2) ∧ (∀ p, p ∈ L → (L.foldl joinP a).1 ≤ p.1 ∧ p.2 ≤ (L.foldl joinP a).2) ∧ ((L.foldl joinP a).1 = a.1 ∨ ∃ p, p ∈ L ∧ p.1 = (L.foldl joinP a).1) ∧ ((L.foldl joinP a).2 = a.2 ∨ ∃ p, p ∈ L ∧ p.2 = (L.foldl joinP a).2) := by
  intro L
  induction L with
  | nil => exact fun a => ⟨⟨Int.le_refl _, Int.le_refl _⟩, (fun p q => by cases q), .inl rfl, .inl rfl⟩
  | cons z L ih =>
   intro a
   obtain ⟨⟨i1, i2⟩, i3, i4, i5⟩ := ih (joinP a z)
   rw [List.foldl_cons]
   have j1 : (joinP a z).1 = min a.1 z.1 := rfl
   have j2 : (joinP a z).2 = max a.2 z.2 := rfl
   refine ⟨⟨by omega, by omega⟩, fun p hp => ?_, ?_, ?_⟩
   ·rcases List.mem_cons.1 hp with rfl | hp
    ·omega
    ·exact i3 p hp
   ·rcases i4 with q | ⟨p, hp, q⟩
    ·by_cases w : a.1 ≤ z.1
     ·exact .inl (by omega)
     ·exact .inr ⟨z, .head _, by omega⟩
    ·exact .inr ⟨p, .tail _ hp, q⟩
   ·rcases i5 with q | ⟨p, hp, q⟩
    ·by_cases w : z.2 ≤ a.2
     ·exact .inl (by omega)
     ·exact .inr ⟨z, .head _, by omega⟩
    ·exact .inr ⟨p, .tail _ hp, q⟩
 match L, hne with
 | z :: L, _ =>
  obtain ⟨⟨i1, i2⟩, i3, i4, i5⟩ := key L (joinP topS z)
  have hz := hin z (.head _)
  unfold InSp at hz
  have j1 : (joinP topS z).1 = min 9223372036854775807 z.1 := rfl
  have j2 : (joinP topS z).2 = max (-9223372036854775808) z.2 := rfl
  have hj : joinL (z :: L) = L.foldl joinP (joinP topS z) := rfl
  rw [hj];refine ⟨fun p hp => ?_, ?_, ?_⟩
  ·rcases List.mem_cons.1 hp with rfl | hp
   ·omega
   ·exact i3 p hp
  ·rcases i4 with q | ⟨p, hp, q⟩
   ·exact ⟨z, .head _, by omega⟩
   ·exact ⟨p, .tail _ hp, q⟩
  ·rcases i5 with q | ⟨p, hp, q⟩
   ·exact ⟨z, .head _, by omega⟩
   ·exact ⟨p, .tail _ hp, q⟩
theorem free_at {C : CutV} (O : C.Ok) (hls : C.ls = []) : C.truths ≠ [] ∧ ∀ d, d ≤ C.rs.length → C.at d = (C.lo C.kh d, C.hi C.kl d) := by
 have hk := O.k
 have hn : onlyV C.all 0 C.ls = [] := by rw [hls]; rfl
 have hm : ∀ x, x ∈ C.truths → ∃ k, C.kl ≤ k ∧ k ≤ C.kh ∧ ∀ d, d ≤ C.rs.length → atK d x = (C.lo k d, C.hi k d) := fun x hx => by
  obtain ⟨s, hs, hl⟩ := learn_mem hx
  obtain ⟨h1, _, h3⟩ := learnL_mem hl
  have hsa : s = C.all := List.mem_singleton.1 hs
  subst hsa
  obtain ⟨c, c1, c2⟩ := free_course O (k := x.1.1) hn
  rw [c1] at h3;cases h3
  have := mem_upto.1 h1
  refine ⟨x.1.1, this.1, this.2, fun d hd => ?_⟩
  unfold atK
  rw [c2 d hd]
  rfl
 have hex : ∀ k, C.kl ≤ k → k ≤ C.kh → ∃ x, x ∈ C.truths ∧ ∀ d, d ≤ C.rs.length → atK d x = (C.lo k d, C.hi k d) := fun k k1 k2 => by
  obtain ⟨c, c1, c2⟩ := free_course O (k := k) hn
  refine ⟨((k, (C.all : Int)), c), ?_, fun d hd => by unfold atK; rw [c2 d hd]; rfl⟩
  unfold CutV.truths CutV.learn
  rw [List.flatMap_cons, List.flatMap_nil, List.append_nil]
  unfold CutV.learnL
  refine List.mem_filterMap.2 ⟨k, mem_upto.2 ⟨k1, k2⟩, ?_⟩;rw [c1]
  rfl
 obtain ⟨x1, m1, v1⟩ := hex C.kh hk.1 (Int.le_refl _)
 obtain ⟨x2, m2, v2⟩ := hex C.kl (Int.le_refl _) hk.1
 have hT : C.truths ≠ [] := fun q => by rw [q] at m1; cases m1
 refine ⟨hT, fun d hd => ?_⟩
 have hin : ∀ p, p ∈ C.truths.map (atK d) → InSp p := fun p hp => by
  obtain ⟨x, hx, rfl⟩ := List.mem_map.1 hp
  have hf := learn_fit O hx
  have hlt : d < x.2.length := by rw [hf.1]; omega
  unfold atK
  rw [List.getElem?_eq_getElem hlt];exact hf.2.2 _ (List.getElem_mem hlt)
 obtain ⟨j1, ⟨p, p1, p2⟩, ⟨q, q1, q2⟩⟩ := join_spec (L := C.truths.map (atK d)) (by simpa using hT) hin
 obtain ⟨y1, y2, y3⟩ := List.mem_map.1 p1
 obtain ⟨z1, z2, z3⟩ := List.mem_map.1 q1
 obtain ⟨k1, ka, kb, kc⟩ := hm y1 y2
 obtain ⟨k2, la, lb, lc⟩ := hm z1 z2
 have a1 := j1 _ (List.mem_map.2 ⟨x1, m1, v1 d hd⟩)
 have a2 := j1 _ (List.mem_map.2 ⟨x2, m2, v2 d hd⟩)
 rw [kc d hd] at y3;rw [lc d hd] at z3
 have b1 := lo_anti (C := C) (s := C.dl) (f := Prod.fst) kb d
 have b2 := lo_anti (C := C) (s := C.dh) (f := Prod.snd) la d
 rw [← y3] at p2
 rw [← z3] at q2
 unfold CutV.at
 apply Prod.ext
 ·show _ = C.lo C.kh d
  have : C.lo C.kh d ≤ C.lo k1 d := b1
  dsimp only at a1 p2
  omega
 ·show _ = C.hi C.kl d
  have : C.hi k2 d ≤ C.hi C.kl d := b2
  dsimp only at a2 q2
  omega
theorem end_more {C C' : CutV} {s : Int} {f : Int × Int → Int} {k : Int} (hm : C'.most = C.most) (h : ∀ (d : Nat) r, C.rs[d]? = some r → ∃ r', C'.rs[d]? = some r' ∧ f r ≤ f r') : ∀ d, d ≤ C.rs.length → endV C s f k d ≤ endV C' s f k d
 | 0, _ => Int.le_refl _
 | d + 1, hd => by
  have ih := end_more (s := s) (k := k) hm h d (by omega)
  obtain ⟨r, hr⟩ : ∃ r, C.rs[d]? = some r := ⟨C.rs[d]'(by omega), by simp⟩
  obtain ⟨r', hr', hf⟩ := h d r hr
  rw [end_next hr, end_next hr', hm];exact held_mono (by omega)
theorem andNot_bit {a b i : Nat} (ha : a < 2 ^ 64) (hi : i < 64) : (andNot a b).testBit i = (a.testBit i && !b.testBit i) := by
 unfold andNot
 rw [BitVec.testBit_toNat, BitVec.getLsbD_and, BitVec.getLsbD_not, BitVec.getLsbD_ofNat, BitVec.getLsbD_ofNat]
 simp [hi]
theorem bits_sub {n : Nat} {p q : Nat → Bool} (hn : n ≤ 9) (h : ∀ i, i < n → p i = true → q i = true) : andNot (bitsV n p) (bitsV n q) = 0 := by
 have hlt := bitsV_lt p n
 have h9 : 2 ^ n ≤ 2 ^ 9 := Nat.pow_le_pow_right (by decide) hn
 refine Nat.eq_of_testBit_eq fun i => ?_;rw [Nat.zero_testBit]
 by_cases hi : i < 64
 ·rw [andNot_bit (by omega) hi, bitsV_test, bitsV_test]
  by_cases hin : i < n
  ·rw [decide_eq_true hin, Bool.true_and, Bool.true_and]
   cases hp : p i with
   | false => rfl
   | true => rw [h i hin hp]; rfl
  ·rw [decide_eq_false hin]
   rfl
 ·have h1 := andNot_le (bitsV n p) (bitsV n q) (by omega)
  have : 2 ^ 64 ≤ 2 ^ i := Nat.pow_le_pow_right (by decide) (by omega)
  exact Nat.testBit_lt_two_pow (by omega)
def CutV.rain (C : CutV) (R : List (Int × Int)) : CutV := ⟨C.dl, C.dh, C.kl, C.kh, R, C.most, C.bs, C.ls⟩
theorem rain_ok {C : CutV} (O : C.Ok) {R : List (Int × Int)} (hl : R.length = C.rs.length) (h : ∀ x, x ∈ R → RainOk x) : (C.rain R).Ok := ⟨by show 1 ≤ R.length ∧ R.length ≤ 8; rw [hl]; exact O.nr, h, O.m, O.d, O.k, O.nb, O.b, O.nl, fun l q => by show l.Ok R.length; rw [hl]; exact O.l l q⟩
end Go.Proofs.Yteibheeleeengaa

namespace Go.Proofs.Yteibheeleeengaa
open Go Go.AbsE
set_option linter.unusedSimpArgs false
set_option maxRecDepth 100000
set_option linter.unusedVariables false
theorem saw_ok {C : CutV} (O : C.Ok) {L : List LV} (hl : L.length ≤ 5) (h : ∀ l, l ∈ L → l.Ok C.rs.length) : (C.with L).Ok := ⟨O.nr, O.r, O.m, O.d, O.k, O.nb, O.b, hl, h⟩
end Go.Proofs.Yteibheeleeengaa

namespace Go.Proofs.Yteibheeleeengaa
open Go Go.AbsE
set_option linter.unusedSimpArgs false
set_option maxRecDepth 100000
set_option linter.unusedVariables false
end Go.Proofs.Yteibheeleeengaa

set_option linter.unusedSimpArgs false
set_option linter.unusedVariables false
namespace Go.AbsE
open Go
section
variable {P : Program} {t : Tr AVal} {h : AH} {dst : Option Tmp} {tt : TypeId} {pos : String} {after : Array Edge} {guard : Option (Nat × Bool)} {x y : Operand}
variable {c : FC} {k : List AItem} {Q : AM → Prop} {J : Jump} {all : Array Oper} {l lrest : List Oper} {i d : Nat}
def CopR (h : AH) (el eb : TypeId) (b lo : Nat) (v : AVal) (L : List (List AVal)) : Prop := (L = [] ∧ v = .slice b 0 0 0 ∧ Has h b (.cells .plain [] eb)) ∨ (0 < L.length ∧ ∃ B, lo ≤ B ∧ v = .gsl B 0 0 L.length ∧ Has h B (.cells .grow L.flatten el))
theorem CopR.ext {h h' : AH} {el eb : TypeId} {b lo : Nat} {v : AVal} {L : List (List AVal)} (k : CopR h el eb b lo v L) (e : Ext h h') : CopR h' el eb b lo v L := by
 rcases k with ⟨k1, k2, k3⟩ | ⟨k, b, k1, k2, k3⟩
 ·exact .inl ⟨k1, k2, k3.ext e⟩
 ·exact .inr ⟨k, b, k1, k2, k3.ext e⟩
end
end Go.AbsE

namespace Go.Proofs.Yteibheeleeengaa
open Go Go.AbsE
set_option linter.unusedSimpArgs false
set_option maxRecDepth 100000
set_option maxHeartbeats 0
set_option linter.unusedVariables false
theorem law8_bad {C : CutV} {r b l : AVal} {h : AH} (A : CutAt h C r b l) (hb : C.rs.length < 9223372036854775808 ∧ C.bs.length < 9223372036854775808 ∧ C.ls.length < 9223372036854775808) {w1 w2 w3 : Int} (O : ¬ C.Ok) : Runs Try.prog 8 [.agg (C.cells r b l), .int .u8 w1, .int .u8 w2, .int .u8 w3] h (fun en h' => en = .ret (.bool true) ∧ Ext h h') := by
 have hF := fun {h'} (e : Ext h h') => fine_ok (A.ext e) hb
 rw [decide_eq_false O] at hF
 have hsm := A.same
 unfold CutV.cells at *
 have e0 : Ext h h := Ext.refl _
 refine Runs.intro aFunc8 rfl rfl rfl rfl fun rest => ?_;apply gS;refine gR rfl ?_;refine GoR.box rfl rfl rfl rfl rfl rfl fun h0 x0 f0 => ?_;replace e0 := e0.trans x0;refine gP ?_;apply gE;iterate 2 apply gS
 refine gR rfl ?_;refine gO rfl rfl (ld28 rfl f0 rfl) rfl ?_;refine GoR.call rfl rfl (aCF aFunc10 rfl) (hF e0) ?_ np;rintro v1 h1 ⟨q, x1⟩;cases q;refine ⟨_, rfl, ?_⟩;replace e0 := e0.trans x1;refine gP ?_;apply gE;refine gC (b := true) rfl ?_;apply gS;refine gR rfl ?_;refine GoR.call rfl rfl (aCF aFunc11 rfl) (awake_ok) ?_ np;rintro v2 h2 ⟨q, x2⟩;cases q;refine ⟨_, rfl, ?_⟩;replace e0 := e0.trans x2;refine gP ?_;apply gE;exact gW Try.func8 rfl rfl ⟨rfl, e0⟩
theorem set_two {a b : Int} : ∀ {L : List (Int × Int)} {i : Nat}, i < L.length → (((L.map spC).flatten.set (i * 2) (.int .i64 a)).set (i * 2 + 1) (.int .i64 b)) = (L.set i (a, b)).flatMap spC
 | [], i, h => absurd h (by simp)
 | x :: L, 0, _ => rfl
 | x :: L, i + 1, h => by
  have ih := set_two (a := a) (b := b) (L := L) (i := i) (by simpa using h)
  show ((AVal.int .i64 x.1 :: AVal.int .i64 x.2 :: (L.map spC).flatten).set ((i + 1) * 2) _).set ((i + 1) * 2 + 1) _ = AVal.int .i64 x.1 :: AVal.int .i64 x.2 :: (L.set i (a, b)).flatMap spC
  rw [show (i + 1) * 2 = i * 2 + 1 + 1 by omega, List.set_cons_succ, List.set_cons_succ, List.set_cons_succ, List.set_cons_succ, ih]
theorem end_in {C : CutV} (O : C.Ok) {s : Int} {f : Int × Int → Int} {k : Int} (hs : 0 ≤ s ∧ s ≤ C.most) : ∀ {d : Nat}, d ≤ C.rs.length → 0 ≤ endV C s f k d ∧ endV C s f k d ≤ C.most
 | 0, _ => hs
 | d + 1, hd => by
  rw [end_next (List.getElem?_eq_getElem (show d < C.rs.length by omega))];exact held_in (by have := O.m; omega)
theorem law8_ok {C : CutV} {r b l : AVal} {h : AH} (A : CutAt h C r b l) (O : C.Ok) {a1 a2 a3 : Nat} (g1 : a1 < 256) (g2 : a2 < 256) (g3 : a3 < 256) : Runs Try.prog 8 [.agg (C.cells r b l), .int .u8 (a1 : Nat), .int .u8 (a2 : Nat), .int .u8 (a3 : Nat)] h (fun en h' => en = .ret (.bool true) ∧ Ext h h') := by
 have hnr := O.nr
 have hnb := O.nb
 have hnl := O.nl
 have hF := fun {h'} (e : Ext h h') => fine_ok (A.ext e) (by omega)
 rw [decide_eq_true O] at hF
 have hl1 := A.rs.len
 have hl2 := A.bs.len
 rw [List.length_map] at hl1 hl2
 have hsm := A.same
 have hsc := A.scal
 have hst : scalars (C.cells r b .nilslice) = true := scal_app (a := [.int .i64 C.dl, .int .i64 C.dh, .int .i64 C.kl, .int .i64 C.kh]) rfl (scal_app (a := [r]) A.rs.scal.1 (scal_app (a := [.int .i64 C.most]) rfl (scal_app (a := [b]) A.bs.scal.1 rfl)))
 unfold CutV.cells at *
 have e0 : Ext h h := Ext.refl _
 refine Runs.intro aFunc8 rfl rfl rfl rfl fun rest => ?_;apply gS;refine gR rfl ?_;refine GoR.box rfl rfl rfl rfl rfl rfl fun h0 x0 f0 => ?_;have := e0.1;replace e0 := e0.trans x0;have := f0.1;refine gP ?_;apply gE;iterate 2 apply gS
 refine gR rfl ?_;refine gO rfl rfl (ld28 rfl f0 rfl) rfl ?_;refine GoR.call rfl rfl (aCF aFunc10 rfl) (hF e0) ?_ np;rintro v1 h1 ⟨q, x1⟩;cases q;refine ⟨_, rfl, ?_⟩;replace f0 := f0.ext x1;replace e0 := e0.trans x1;refine gP ?_;apply gE;refine gC (b := false) rfl ?_;refine gD ?_;apply gS;refine gR rfl ?_;refine gO rfl rfl (ld28 rfl f0 rfl) rfl ?_;refine GoR.alloc rfl rfl rfl zt28 rfl rfl fun h2 x2 f2 => ?_;have := e0.1;have := f0.1;replace f0 := f0.ext x2;replace e0 := e0.trans x2;have := f2.1;refine GoR.store rfl rfl rfl rfl rfl rfl f2 rfl sz28 rfl hsc rfl fun h3 u3 => ?_;replace f2 := u3.has f2;replace f0 := f0.upd u3 (by omega);replace e0 := e0.upd u3 (by omega);apply gE;apply gS;refine gR rfl ?_;refine gO rfl rfl (fa28_5 rfl) rfl ?_;refine GoR.store rfl rfl rfl rfl rfl rfl f2 rfl sz26 rfl rfl rfl fun h4 u4 => ?_;replace f2 := u4.has f2;replace f0 := f0.upd u4 (by omega);replace e0 := e0.upd u4 (by omega);apply gE;apply gS;refine gR rfl ?_;refine gO rfl rfl (ld28 rfl f2 rfl) rfl ?_;refine GoR.alloc rfl rfl rfl zt28 rfl rfl fun h5 x5 f5 => ?_;have := e0.1;have := f2.1;have := f0.1;replace f2 := f2.ext x5;replace f0 := f0.ext x5;replace e0 := e0.trans x5;have := f5.1;refine GoR.store rfl rfl rfl rfl rfl rfl f5 rfl sz28 rfl hst rfl fun h6 u6 => ?_;replace f5 := u6.has f5;replace f2 := f2.upd u6 (by omega);replace f0 := f0.upd u6 (by omega);replace e0 := e0.upd u6 (by omega);apply gE;apply gS;refine gR rfl ?_;refine GoR.buildSl rfl rfl (ps := []) (cs := []) Try.underlying24 rfl sz23 zt23 rfl rfl rfl rfl fun h7 x7 f7 => ?_;have := e0.1;have := f5.1;have := f2.1;have := f0.1;replace f5 := f5.ext x7;replace f2 := f2.ext x7;replace f0 := f0.ext x7;replace e0 := e0.trans x7;have := f7.1;refine gO rfl rfl (fa28_2 rfl) rfl ?_;refine gO rfl rfl (ld24 rfl f0 rfl) rfl ?_;refine GoR.appendNew rfl rfl Try.underlying24 Try.underlying24 sz23 by23 zt23 rfl rfl rfl f7 rfl (A.rs.ext e0) (by rw [List.length_map]; omega) (by rw [List.length_map]; omega) rfl rfl fun h9 x9 f9 => ?_;rw [List.length_map] at *
 have hx9 := x9.1
 have hb9 := f9.1
 replace f0 := f0.ext x9;replace f2 := f2.ext x9;replace f5 := f5.ext x9;replace e0 := e0.trans x9;clear f7 x9
 obtain ⟨iw, hiw⟩ : ∃ i, a1 % C.rs.length = i := ⟨_, rfl⟩
 have hiwl : iw < C.rs.length := by rw [← hiw]; exact Nat.mod_lt _ (by omega)
 obtain ⟨⟨x1, x2⟩, hx⟩ : ∃ x, C.rs[iw]? = some x := ⟨C.rs[iw]'(by omega), by simp⟩
 have hxO := O.r _ (List.mem_of_getElem? hx)
 unfold RainOk at hxO
 dsimp only at hxO
 obtain ⟨mo, hmo⟩ : ∃ i, a3 % 5 = i := ⟨_, rfl⟩
 have hmol : mo < 5 := by omega
 obtain ⟨v1, hv1⟩ : ∃ v, (if x1 + (mo : Nat) < 30 then x1 + (mo : Nat) else 30) = v := ⟨_, rfl⟩
 obtain ⟨v2, hv2⟩ : ∃ v, (if x2 + (mo : Nat) < 30 then x2 + (mo : Nat) else 30) = v := ⟨_, rfl⟩
 have hv12 : x1 ≤ v1 ∧ x2 ≤ v2 ∧ v1 ≤ v2 ∧ v2 ≤ 30 := by split at hv1 <;> split at hv2 <;> omega
 have hfl : (C.rs.map spC).flatten.length = C.rs.length * 2 := (flatten_len (sz := 2) (L := C.rs.map spC) (fun l hl => by obtain ⟨_, _, rfl⟩ := List.mem_map.1 hl; rfl)).trans (by rw [List.length_map])
 have c2 : ∀ {h'}, Has h' h7.next (.cells .grow (C.rs.map spC).flatten 23) → CellsAt h' h7.next (0 + iw * 2) 2 [.int .i64 x1, .int .i64 x2] := fun f => ⟨f.1, by
  unfold AbsE.loadCells
  rw [f.2]
  show slice? (C.rs.flatMap spC) (0 + iw * 2) 2 = _
  rw [Nat.zero_add]
  exact flatten_at (f := spC) spC_len iw _ (by rw [List.getElem?_map, hx]; rfl)⟩
 have hsp1 : splice (C.rs.map spC).flatten (0 + iw * 2 + 0) [.int .i64 v1] = some ((C.rs.map spC).flatten.set (iw * 2) (.int .i64 v1)) := by
  rw [Nat.zero_add, Nat.add_zero];exact splice_at (by omega)
 have hsp2 : splice ((C.rs.map spC).flatten.set (iw * 2) (.int .i64 v1)) (0 + iw * 2 + 1) [.int .i64 v2] = some ((C.rs.set iw (v1, v2)).flatMap spC) := by
  rw [Nat.zero_add, splice_at (by rw [List.length_set]; omega)];exact congrArg some (set_two hiwl)
 refine gO rfl rfl (fa28_2 rfl) rfl ?_;refine GoR.store rfl rfl rfl rfl rfl rfl f5 rfl sz24 rfl rfl rfl fun h10 u10 => ?_;replace f9 := f9.upd u10 (by omega);replace f0 := f0.upd u10 (by omega);replace f2 := f2.upd u10 (by omega);replace f5 := u10.has f5;replace e0 := e0.upd u10 (by omega);apply gE;apply gS;refine Go.drawnE plan8_0 ?_;refine gQ rfl rfl (fa28_2 rfl) rfl ?_;refine gQ rfl rfl (ld24 rfl f5 rfl) rfl ?_;refine gQ rfl rfl rfl rfl ?_;refine gQ rfl rfl (aOp_convU8 rfl Try.underlying5 Try.underlying3 (by omega)) rfl ?_;refine gQ rfl rfl (fa28_2 rfl) rfl ?_;refine gQ rfl rfl (ld24 rfl f5 rfl) rfl ?_;refine gQ rfl rfl (aOp_lenSlice Try.underlying24 rfl rfl) rfl ?_;refine gQ rfl rfl (aOp_rem (r := ((iw : Nat) : Int)) rfl rfl (by omega) (by rw [← hiw]; rfl)) rfl ?_;refine gQ rfl rfl (aOp_indexAddr (i := iw) Try.underlying24 sz23 rfl rfl rfl (Nat.ble_eq_true_of_le hiwl)) rfl ?_;refine gQ rfl rfl rfl rfl ?_;refine GoE.end rfl ?_;apply gS;refine Go.drawnE plan8_1 ?_;iterate 4 refine gQ rfl rfl rfl rfl ?_
 refine gQ rfl rfl (fa23_0 rfl) rfl ?_;refine gQ rfl rfl (aOp_loadE1 (k := 0) ag3 rfl (c2 f9) rfl) rfl ?_;refine gQ rfl rfl rfl rfl ?_;refine gQ rfl rfl (aOp_convU8 rfl Try.underlying5 Try.underlying3 (by omega)) rfl ?_;refine gQ rfl rfl (aOp_rem (r := ((mo : Nat) : Int)) rfl rfl (by omega) (by rw [← hmo]; rfl)) rfl ?_;refine gQ rfl rfl (aA rfl rfl) rfl ?_;refine gQ rfl rfl (aOp_min2 rfl rfl hv1) rfl ?_;iterate 2 refine gQ rfl rfl rfl rfl ?_
 refine gQ rfl rfl (fa23_1 rfl) rfl ?_;refine gQ rfl rfl (aOp_loadE1 (k := 1) ag3 rfl (c2 f9) rfl) rfl ?_;refine gQ rfl rfl rfl rfl ?_;refine gQ rfl rfl (aOp_convU8 rfl Try.underlying5 Try.underlying3 (by omega)) rfl ?_;refine gQ rfl rfl (aOp_rem (r := ((mo : Nat) : Int)) rfl rfl (by omega) (by rw [← hmo]; rfl)) rfl ?_;refine gQ rfl rfl (aA rfl rfl) rfl ?_;refine gQ rfl rfl (aOp_min2 rfl rfl hv2) rfl ?_;refine gQ rfl rfl rfl rfl ?_;refine gQ rfl rfl (fa23_0 rfl) rfl ?_;refine GoE.store rfl rfl rfl rfl (dD 3178493 21 (dD 3178493 20 (dK 3178493 19 (dK 3178493 18 (dK 3178493 17 (dK 3178493 16 (dK 3178493 15 (dD 3178493 14 (dD 3178493 13 (dD 3178493 12 (dD 3178493 11 (dD 3178493 10 (dD 3178493 9 (dD 3178493 8 (dD 3178493 7 (dD 3178493 6 (dD 3178493 5 (dD 3178493 4 (dD 3178493 3 (dD 3178493 2 (dK 3178493 1 (dD 3178493 0 rfl)))))))))))))))))))))) rfl rfl f9 rfl sz3 rfl rfl hsp1 fun h11 u11 => ?_;replace f9 := u11.has f9;replace f0 := f0.upd u11 (by omega);replace f2 := f2.upd u11 (by omega);replace f5 := f5.upd u11 (by omega);replace e0 := e0.upd u11 (by omega);refine ⟨(rck (h2 := h11) rfl (aOp_min2 rfl rfl hv2) (rck (h2 := h11) rfl (aA rfl rfl) (rck (h2 := h11) rfl (aOp_rem (r := ((mo : Nat) : Int)) rfl rfl (by omega) (by rw [← hmo]; rfl)) (rck (h2 := h11) rfl (aOp_convU8 rfl Try.underlying5 Try.underlying3 (by omega)) (rck (h2 := h11) rfl (rfl) (rck (h2 := h11) rfl (rfl) recheck_nil)))))), ?_⟩;refine gQ rfl rfl rfl rfl ?_;refine gQ rfl rfl (fa23_1 rfl) rfl ?_;refine GoE.store rfl rfl rfl rfl (dD 33554431 24 (dD 33554431 23 (dD 33554431 19 (dD 33554431 18 (dD 33554431 17 (dD 33554431 16 (dD 33554431 15 (dD 33554431 1 rfl)))))))) rfl rfl f9 rfl sz3 rfl rfl hsp2 fun h12 u12 => ?_;replace f9 := u12.has f9;replace f0 := f0.upd u12 (by omega);replace f2 := f2.upd u12 (by omega);replace f5 := f5.upd u12 (by omega);replace e0 := e0.upd u12 (by omega);refine ⟨recheck_nil, ?_⟩;refine GoE.end rfl ?_;apply gS;refine Go.drawnE plan8_2 ?_;refine gQ rfl rfl (fa28_0 rfl) rfl ?_;refine gQ rfl rfl (fa23_0 rfl) rfl ?_;refine gQ rfl rfl (ld3 rfl f0 rfl) rfl ?_;refine gQ rfl rfl (fa28_0 rfl) rfl ?_;refine gQ rfl rfl (fa23_1 rfl) rfl ?_;refine gQ rfl rfl (ld3 rfl f0 rfl) rfl ?_;iterate 2 refine gQ rfl rfl rfl rfl ?_
 refine GoE.end rfl ?_;iterate 2 apply gS
 refine gR rfl ?_;refine gO rfl rfl (fa28_2 rfl) rfl ?_;refine gO rfl rfl (ld24 rfl f0 rfl) rfl ?_;refine gO rfl rfl (aOp_lenSlice Try.underlying24 rfl hl1) rfl ?_;refine gO rfl rfl (aA rfl rfl) rfl ?_;refine gP ?_;apply gE;refine Go.block noJ_ok ?_
 obtain ⟨R', hR'⟩ : ∃ R, C.rs.set iw (v1, v2) = R := ⟨_, rfl⟩
 rw [hR'] at f9
 have hRl : R'.length = C.rs.length := by rw [← hR', List.length_set]
 have OX : (C.with []).Ok := saw_ok O (by decide) fun l q => by cases q
 have hRok : ∀ x, x ∈ R' → RainOk x := fun x hx' => by
  rw [← hR'] at hx'
  rcases List.mem_or_eq_of_mem_set hx' with q | q
  ·exact O.r x q
  ·rw [q]
   unfold RainOk
   dsimp only
   omega
 have OY : ((C.with []).rain R').Ok := rain_ok OX (by rw [hRl]; rfl) hRok
 have hmore : ∀ (d : Nat) r, (C.with []).rs[d]? = some r → ∃ r', ((C.with []).rain R').rs[d]? = some r' ∧ r.1 ≤ r'.1 ∧ r.2 ≤ r'.2 := fun d r' hr => by
  have hr : C.rs[d]? = some r' := hr
  show ∃ r'', R'[d]? = some r'' ∧ _
  rw [← hR', List.getElem?_set]
  split
  ·rename_i q
   subst q;rw [hx] at hr;cases hr;exact ⟨(v1, v2), (by first | rfl | exact if_pos hiwl), hv12.1, hv12.2.1⟩
  ·exact ⟨r', hr, Int.le_refl _, Int.le_refl _⟩
 obtain ⟨hTX, hXat⟩ := free_at OX rfl
 obtain ⟨hTY, hYat⟩ := free_at OY rfl
 have hLo : ∀ d, d ≤ C.rs.length → (C.with []).lo C.kh d ≤ ((C.with []).rain R').lo C.kh d := end_more (C := C.with []) (C' := (C.with []).rain R') rfl fun d r' hr => by
  obtain ⟨z, z1, z2, _⟩ := hmore d r' hr
  exact ⟨z, z1, z2⟩
 have hHi : ∀ d, d ≤ C.rs.length → (C.with []).hi C.kl d ≤ ((C.with []).rain R').hi C.kl d := end_more (C := C.with []) (C' := (C.with []).rain R') rfl fun d r' hr => by
  obtain ⟨z, z1, _, z2⟩ := hmore d r' hr
  exact ⟨z, z1, z2⟩
 have hbl : ∀ d, d ≤ C.rs.length → 0 ≤ (C.with []).lo C.kh d ∧ (C.with []).lo C.kh d ≤ C.most := fun d hd => end_in OX (by have := O.d; show 0 ≤ C.dl ∧ C.dl ≤ C.most; omega) hd
 have hbh : ∀ d, d ≤ C.rs.length → 0 ≤ (C.with []).hi C.kl d ∧ (C.with []).hi C.kl d ≤ C.most := fun d hd => end_in OX (by have := O.d; show 0 ≤ C.dh ∧ C.dh ≤ C.most; omega) hd
 have AX : ∀ {h'}, Ext h h' → CutAt h' (C.with []) r b .nilslice := fun e => ⟨A.rs.ext e, A.bs.ext e, .nil⟩
 have AY : ∀ {h'}, Ext h h' → Has h' h7.next (.cells .grow (R'.flatMap spC) 23) → CutAt h' ((C.with []).rain R') (.gsl h7.next 0 0 C.rs.length) b .nilslice := fun e f => ⟨SliceOf.mk' rfl rfl f (by rw [List.length_map]; exact hRl) (fun i l hl => by rw [Nat.zero_add]; exact flatten_at (f := spC) spC_len i l hl), A.bs.ext e, .nil⟩
 have hDX := fun {h'} (e : Ext h h') (i : Nat) => Depth_ok (AX e) (by show C.rs.length ≤ 40; omega) (by show C.bs.length ≤ 40; omega) (Nat.zero_le _) (i : Nat)
 have hDY := fun {h'} (e : Ext h h') f (i : Nat) => Depth_ok (AY (h' := h') e f) (by show R'.length ≤ 40; omega) (by show C.bs.length ≤ 40; omega) (Nat.zero_le _) (i : Nat)
 have hEX := fun {h'} (e : Ext h h') (i n : Int) => Days_ok (AX e) (by show C.rs.length ≤ 40; omega) (by show C.bs.length ≤ 40; omega) (Nat.zero_le _) i n
 have hEY := fun {h'} (e : Ext h h') f (i n : Int) => Days_ok (AY (h' := h') e f) (by show R'.length ≤ 40; omega) (by show C.bs.length ≤ 40; omega) (Nat.zero_le _) i n
 have hs1 : sameA (.agg [.int .i64 C.dl, .int .i64 C.dh, .int .i64 C.kl, .int .i64 C.kh, r, .int .i64 C.most, b, .nilslice]) (.agg [.int .i64 C.dl, .int .i64 C.dh, .int .i64 C.kl, .int .i64 C.kh, r, .int .i64 C.most, b, .nilslice]) = true := same_cut (C := C.with []) A.rs.same A.bs.same rfl
 have hs2 : sameA (.agg [.int .i64 C.dl, .int .i64 C.dh, .int .i64 C.kl, .int .i64 C.kh, .gsl h7.next 0 0 C.rs.length, .int .i64 C.most, b, .nilslice]) (.agg [.int .i64 C.dl, .int .i64 C.dh, .int .i64 C.kl, .int .i64 C.kh, .gsl h7.next 0 0 C.rs.length, .int .i64 C.most, b, .nilslice]) = true := same_cut (C := C.with []) (by simp [sameA]) A.bs.same rfl
 refine Go.loopKeep (fun i : Nat => [(2, .int .u8 (a2 : Nat)), (4, .ptr h.next 0), (9, .ptr h1.next 0), (10, .ptr h4.next 0), (12, .int .i64 ((C.with []).lo C.kh (i - 1))), (13, .int .i64 ((C.with []).hi C.kl (i - 1))), (81, .int .i64 ((C.rs.length : Nat) + 1)), (82, .int .i64 (i : Nat))])
  (fun m i h' => m + i = C.rs.length + 1 ∧ Ext h h' ∧ Has h' h.next (.cells .plain [.int .i64 C.dl, .int .i64 C.dh, .int .i64 C.kl, .int .i64 C.kh, r, .int .i64 C.most, b, l] 28) ∧ Has h' h1.next (.cells .plain [.int .i64 C.dl, .int .i64 C.dh, .int .i64 C.kl, .int .i64 C.kh, r, .int .i64 C.most, b, .nilslice] 28) ∧ Has h' h4.next (.cells .plain [.int .i64 C.dl, .int .i64 C.dh, .int .i64 C.kl, .int .i64 C.kh, .gsl h7.next 0 0 C.rs.length, .int .i64 C.most, b, .nilslice] 28) ∧ Has h' h7.next (.cells .grow (R'.flatMap spC) 23))
  (n := C.rs.length + 1) 0 ⟨rfl, rfl, rfl, rfl, rfl, rfl, rfl, rfl, trivial⟩ ⟨rfl, e0, f0, f2, f5, f9⟩ ?_
 clear e0 f0 f2 f5 f9;rintro m i h20 ⟨hmi, e0, f0, f2, f5, f9⟩ again
 have m1 := f0.1
 have m2 := f2.1
 have m3 := f5.1
 have m4 := f9.1
 by_cases hi : i < C.rs.length + 1
 ·have hlx := hbl i (by omega)
  have hhx := hbh i (by omega)
  have hl0 := hbl (i - 1) (by omega)
  have hh0 := hbh (i - 1) (by omega)
  have hly := hLo i (by omega)
  have hhy := hHi i (by omega)
  have hOd := O.d
  have hOk := O.k
  have hOm := O.m
  apply gS;refine gR rfl ?_;refine gO rfl rfl (kLT rfl rfl) rfl ?_;apply gE;apply gS;refine gC (b := true) rfl ?_;refine gD ?_;apply gS;refine Go.block noJ_ok ?_;apply gS;refine gR rfl ?_;iterate 2 refine gP ?_
  apply gE
  refine Go.seq noJ_ok (Go.join (fun _ : Unit => [(2, .int .u8 (a2 : Nat)), (4, .ptr h.next 0), (9, .ptr h1.next 0), (10, .ptr h4.next 0), (12, .int .i64 ((C.with []).lo C.kh i)), (13, .int .i64 ((C.with []).hi C.kl i)), (81, .int .i64 ((C.rs.length : Nat) + 1)), (82, .int .i64 (i : Nat)), (14, .int .i64 (i : Nat))])
   (fun _ h' => Ext h h' ∧ Has h' h.next (.cells .plain [.int .i64 C.dl, .int .i64 C.dh, .int .i64 C.kl, .int .i64 C.kh, r, .int .i64 C.most, b, l] 28) ∧ Has h' h1.next (.cells .plain [.int .i64 C.dl, .int .i64 C.dh, .int .i64 C.kl, .int .i64 C.kh, r, .int .i64 C.most, b, .nilslice] 28) ∧ Has h' h4.next (.cells .plain [.int .i64 C.dl, .int .i64 C.dh, .int .i64 C.kl, .int .i64 C.kh, .gsl h7.next 0 0 C.rs.length, .int .i64 C.most, b, .nilslice] 28) ∧ Has h' h7.next (.cells .grow (R'.flatMap spC) 23)) ?_ ?_)
  ·intro k' done
   by_cases hi0 : i = 0
   ·subst hi0;apply gS;refine gR rfl ?_;refine gP ?_;refine gO rfl rfl (kGF rfl rfl) rfl ?_;apply gE;refine gC (b := false) rfl ?_;refine gD ?_;exact done () _ _ ⟨rfl, rfl, rfl, rfl, rfl, rfl, rfl, rfl, rfl, trivial⟩ ⟨e0, f0, f2, f5, f9⟩
   ·obtain ⟨j, rfl⟩ : ∃ j, i = j + 1 := ⟨i - 1, by omega⟩
    have hj1 : j + 1 - 1 = j := by omega
    rw [hj1] at hl0 hh0 ⊢
    obtain ⟨⟨y1, y2⟩, hy⟩ : ∃ x, C.rs[j]? = some x := ⟨C.rs[j]'(by omega), by simp⟩
    have hyO := O.r _ (List.mem_of_getElem? hy)
    unfold RainOk at hyO
    dsimp only at hyO
    obtain ⟨bq, off, q1, q2⟩ := A.rs.at (i := j) (l := spC (y1, y2)) (by rw [List.getElem?_map, hy]; rfl)
    rw [List.length_map] at q1
    unfold spC at q2
    have n1 : (C.with []).lo C.kh (j + 1) = heldV C.most ((C.with []).lo C.kh j + y1 - C.kh) := end_next (C := C.with []) (show (C.with []).rs[j]? = some (y1, y2) from hy)
    have n2 : (C.with []).hi C.kl (j + 1) = heldV C.most ((C.with []).hi C.kl j + y2 - C.kl) := end_next (C := C.with []) (show (C.with []).rs[j]? = some (y1, y2) from hy)
    obtain ⟨w1, hw1⟩ : ∃ v, (if (C.with []).lo C.kh j + y1 - C.kh < C.most then (C.with []).lo C.kh j + y1 - C.kh else C.most) = v := ⟨_, rfl⟩
    obtain ⟨w2, hw2⟩ : ∃ v, (if (C.with []).hi C.kl j + y2 - C.kl < C.most then (C.with []).hi C.kl j + y2 - C.kl else C.most) = v := ⟨_, rfl⟩
    have z1 : (if (0 : Int) < w1 then w1 else 0) = (C.with []).lo C.kh (j + 1) := by
     rw [n1]
     unfold heldV
     rw [← hw1]
     split <;> split <;> omega
    have z2 : (if (0 : Int) < w2 then w2 else 0) = (C.with []).hi C.kl (j + 1) := by
     rw [n2]
     unfold heldV
     rw [← hw2]
     split <;> split <;> omega
    have hjs : ((j + 1 : Nat) : Int) - 1 = ((j : Nat) : Int) := by omega
    apply gS;refine gR rfl ?_;refine gP ?_;refine gO rfl rfl (kGT rfl rfl) rfl ?_;apply gE;refine gC (b := true) rfl ?_;refine Go.drawnE plan8_3 ?_;refine gQ rfl rfl (fa28_3 rfl) rfl ?_;refine gQ rfl rfl (ld3 rfl f0 rfl) rfl ?_;refine gQ rfl rfl rfl rfl ?_;refine gQ rfl rfl (fa28_2 rfl) rfl ?_;refine gQ rfl rfl (ld24 rfl f0 rfl) rfl ?_;refine gQ rfl rfl rfl rfl ?_;refine gQ rfl rfl (aOp_sub rfl rfl (by constructor <;> omega) hjs) rfl ?_;refine gQ rfl rfl (aOp_indexAddr (i := j) Try.underlying24 sz23 rfl q1 rfl (Nat.ble_eq_true_of_le (by omega))) rfl ?_;refine gQ rfl rfl (fa23_0 rfl) rfl ?_;refine gQ rfl rfl (aOp_loadE1 (k := 0) ag3 rfl (q2.ext e0) rfl) rfl ?_;refine gQ rfl rfl (aA rfl rfl) rfl ?_;refine gQ rfl rfl (fa28_1 rfl) rfl ?_;refine gQ rfl rfl (fa23_1 rfl) rfl ?_;refine gQ rfl rfl (ld3 rfl f0 rfl) rfl ?_;refine gQ rfl rfl (aS rfl rfl) rfl ?_;refine gQ rfl rfl (aOp_min2 rfl rfl hw1) rfl ?_;refine gQ rfl rfl (aOp_max2 rfl rfl z1) rfl ?_;refine gQ rfl rfl (fa28_3 rfl) rfl ?_;refine gQ rfl rfl (ld3 rfl f0 rfl) rfl ?_;refine gQ rfl rfl rfl rfl ?_;refine gQ rfl rfl (fa28_2 rfl) rfl ?_;refine gQ rfl rfl (ld24 rfl f0 rfl) rfl ?_;refine gQ rfl rfl rfl rfl ?_;refine gQ rfl rfl (aOp_sub rfl rfl (by constructor <;> omega) hjs) rfl ?_;refine gQ rfl rfl (aOp_indexAddr (i := j) Try.underlying24 sz23 rfl q1 rfl (Nat.ble_eq_true_of_le (by omega))) rfl ?_;refine gQ rfl rfl (fa23_1 rfl) rfl ?_;refine gQ rfl rfl (aOp_loadE1 (k := 1) ag3 rfl (q2.ext e0) rfl) rfl ?_;refine gQ rfl rfl (aA rfl rfl) rfl ?_;refine gQ rfl rfl (fa28_1 rfl) rfl ?_;refine gQ rfl rfl (fa23_0 rfl) rfl ?_;refine gQ rfl rfl (ld3 rfl f0 rfl) rfl ?_;refine gQ rfl rfl (aS rfl rfl) rfl ?_;refine gQ rfl rfl (aOp_min2 rfl rfl hw2) rfl ?_;refine gQ rfl rfl (aOp_max2 rfl rfl z2) rfl ?_;iterate 2 refine gQ rfl rfl rfl rfl ?_
    refine GoE.end rfl ?_;exact done () _ _ ⟨rfl, rfl, rfl, rfl, rfl, rfl, rfl, rfl, rfl, trivial⟩ ⟨e0, f0, f2, f5, f9⟩
  ·clear e0 f0 f2 f5 f9;rintro _ h30 ⟨e0, f0, f2, f5, f9⟩
   have hX1 := fun {h'} (e : Ext h h') => hDX e i
   rw [show (C.with []).depthR (i : Nat) = (((C.with []).lo C.kh i, (C.with []).hi C.kl i), 0) from (depthR_is OX (show i ≤ C.rs.length by omega)).trans (by rw [CutV.tr_yes hTX, hXat i (show i ≤ C.rs.length by omega)]; rfl)] at hX1
   have hY1 := fun {h'} (e : Ext h h') f => hDY (h' := h') e f i
   rw [show ((C.with []).rain R').depthR (i : Nat) = ((((C.with []).rain R').lo C.kh i, ((C.with []).rain R').hi C.kl i), 0) from (depthR_is OY (show i ≤ R'.length by omega)).trans (by rw [CutV.tr_yes hTY, hYat i (show i ≤ R'.length by omega)]; rfl)] at hY1
   obtain ⟨ya, hya⟩ : ∃ v, ((C.with []).rain R').lo C.kh i = v := ⟨_, rfl⟩
   obtain ⟨yb, hyb⟩ : ∃ v, ((C.with []).rain R').hi C.kl i = v := ⟨_, rfl⟩
   rw [hya, hyb] at hY1;rw [hya] at hly;rw [hyb] at hhy
   unfold spC at hX1 hY1
   have hX1 : ∀ {h'}, Ext h h' → Runs Try.prog 17 [.agg [.int .i64 C.dl, .int .i64 C.dh, .int .i64 C.kl, .int .i64 C.kh, r, .int .i64 C.most, b, .nilslice], .int .i64 (i : Nat)] h' _ := hX1
   have hY1 : ∀ {h'}, Ext h h' → Has h' h7.next (.cells .grow (R'.flatMap spC) 23) → Runs Try.prog 17 [.agg [.int .i64 C.dl, .int .i64 C.dh, .int .i64 C.kl, .int .i64 C.kh, .gsl h7.next 0 0 C.rs.length, .int .i64 C.most, b, .nilslice], .int .i64 (i : Nat)] h' _ := hY1
   dsimp only at hX1 hY1
   apply gS;refine gR rfl ?_;refine gO rfl rfl (ld28 rfl f2 rfl) rfl ?_;refine gP ?_;refine GoR.call rfl rfl (aCF aFunc17 rfl) (hX1 e0) ?_ np;rintro v31 h31 ⟨q, x31⟩;cases q;refine ⟨_, rfl, ?_⟩;replace f0 := f0.ext x31;replace f2 := f2.ext x31;replace f5 := f5.ext x31;replace f9 := f9.ext x31;replace e0 := e0.trans x31;iterate 3 refine gP ?_
   refine GoR.alloc rfl rfl rfl zt23 rfl rfl fun h32 x32 f32 => ?_;have := e0.1;have := f0.1;have := f2.1;have := f5.1;have := f9.1;replace f0 := f0.ext x32;replace f2 := f2.ext x32;replace f5 := f5.ext x32;replace f9 := f9.ext x32;replace e0 := e0.trans x32;have := f32.1;refine GoR.store rfl rfl rfl rfl rfl rfl f32 rfl sz23 rfl rfl rfl fun h33 u33 => ?_;replace f32 := u33.has f32;replace f0 := f0.upd u33 (by omega);replace f2 := f2.upd u33 (by omega);replace f5 := f5.upd u33 (by omega);replace f9 := f9.upd u33 (by omega);replace e0 := e0.upd u33 (by omega);refine gP ?_;apply gE;apply gS;refine gR rfl ?_;refine gO rfl rfl (ld28 rfl f5 rfl) rfl ?_;refine gP ?_;refine GoR.call rfl rfl (aCF aFunc17 rfl) (hY1 e0 f9) ?_ np;rintro v34 h34 ⟨q, x34⟩;cases q;refine ⟨_, rfl, ?_⟩;replace f32 := f32.ext x34;replace f0 := f0.ext x34;replace f2 := f2.ext x34;replace f5 := f5.ext x34;replace f9 := f9.ext x34;replace e0 := e0.trans x34;iterate 3 refine gP ?_
   refine GoR.alloc rfl rfl rfl zt23 rfl rfl fun h35 x35 f35 => ?_;have := e0.1;have := f32.1;have := f0.1;have := f2.1;have := f5.1;have := f9.1;replace f32 := f32.ext x35;replace f0 := f0.ext x35;replace f2 := f2.ext x35;replace f5 := f5.ext x35;replace f9 := f9.ext x35;replace e0 := e0.trans x35;have := f35.1;refine GoR.store rfl rfl rfl rfl rfl rfl f35 rfl sz23 rfl rfl rfl fun h36 u36 => ?_;replace f35 := u36.has f35;replace f32 := f32.upd u36 (by omega);replace f0 := f0.upd u36 (by omega);replace f2 := f2.upd u36 (by omega);replace f5 := f5.upd u36 (by omega);replace f9 := f9.upd u36 (by omega);replace e0 := e0.upd u36 (by omega);refine gP ?_;apply gE;apply gS;refine Go.drawnE plan8_4 ?_;refine gQ rfl rfl rfl rfl ?_;refine gQ rfl rfl (kXF rfl rfl) rfl ?_;iterate 2 refine gQ rfl rfl rfl rfl ?_
   refine gQ rfl rfl (kXF rfl rfl) rfl ?_;iterate 2 refine gQ rfl rfl rfl rfl ?_
   refine gQ rfl rfl (ld23 rfl f32 rfl) rfl ?_;iterate 2 refine gQ rfl rfl rfl rfl ?_
   refine GoE.call rfl rfl (aCF aFunc24 rfl) (span24_ok) (dD 895 9 (dD 895 8 (dK 895 7 (dD 895 6 (dD 895 5 (dD 895 4 (dD 895 3 (dD 895 2 (dD 895 1 (dD 895 0 rfl)))))))))) ?_ np;rintro v37 h37 ⟨q, x37⟩;cases q;replace f35 := f35.ext x37;replace f32 := f32.ext x37;replace f0 := f0.ext x37;replace f2 := f2.ext x37;replace f5 := f5.ext x37;replace f9 := f9.ext x37;replace e0 := e0.trans x37;refine ⟨(rck (h2 := h37) rfl (ld23 rfl f32 rfl) recheck_nil), _, rfl, ?_⟩;refine gQ rfl rfl (aOp_neqSpan spanT23 rfl rfl (r := false) (by simp)) rfl ?_;iterate 2 refine gQ rfl rfl rfl rfl ?_
   refine gQ rfl rfl (fa23_0 rfl) rfl ?_;refine gQ rfl rfl (ld3 rfl f35 rfl) rfl ?_;refine gQ rfl rfl (fa23_0 rfl) rfl ?_;refine gQ rfl rfl (ld3 rfl f32 rfl) rfl ?_;refine gQ rfl rfl (kLF rfl rfl) rfl ?_;iterate 2 refine gQ rfl rfl rfl rfl ?_
   refine gQ rfl rfl (fa23_1 rfl) rfl ?_;refine gQ rfl rfl (ld3 rfl f35 rfl) rfl ?_;refine gQ rfl rfl (fa23_1 rfl) rfl ?_;refine gQ rfl rfl (ld3 rfl f32 rfl) rfl ?_;refine gQ rfl rfl (kLF rfl rfl) rfl ?_;refine gQ rfl rfl rfl rfl ?_;refine GoE.end rfl ?_;refine gC (b := false) rfl ?_;refine gD ?_;refine Go.inBlock noJ_ok ?_;refine gR rfl ?_;refine gO rfl rfl (aA rfl rfl) rfl ?_;refine gP ?_;apply gE;exact again (m - 1) (i + 1) _ _ (by omega) ⟨rfl, rfl, rfl, rfl, rfl, rfl, rfl, rfl, trivial⟩ ⟨by omega, e0, f0, f2, f5, f9⟩
 ·clear again;apply gS;refine gR rfl ?_;refine gO rfl rfl (kLF rfl rfl) rfl ?_;apply gE;apply gS;refine gC (b := false) rfl ?_;refine gD ?_;iterate 2 apply gS
  refine gR rfl ?_;refine gO rfl rfl (fa28_4 rfl) rfl ?_;refine gO rfl rfl (ld25 rfl f0 rfl) rfl ?_;refine gO rfl rfl (aOp_lenSlice Try.underlying25 rfl hl2) rfl ?_;refine gP ?_;apply gE;refine Go.block noJ_ok ?_
  refine Go.loopKeep (fun i : Nat => [(2, .int .u8 (a2 : Nat)), (4, .ptr h.next 0), (9, .ptr h1.next 0), (10, .ptr h4.next 0), (162, b), (163, .int .i64 C.bs.length), (164, .int .i64 (i : Nat))])
   (fun m i h' => m + i = C.bs.length ∧ Ext h h' ∧ Has h' h.next (.cells .plain [.int .i64 C.dl, .int .i64 C.dh, .int .i64 C.kl, .int .i64 C.kh, r, .int .i64 C.most, b, l] 28) ∧ Has h' h1.next (.cells .plain [.int .i64 C.dl, .int .i64 C.dh, .int .i64 C.kl, .int .i64 C.kh, r, .int .i64 C.most, b, .nilslice] 28) ∧ Has h' h4.next (.cells .plain [.int .i64 C.dl, .int .i64 C.dh, .int .i64 C.kl, .int .i64 C.kh, .gsl h7.next 0 0 C.rs.length, .int .i64 C.most, b, .nilslice] 28) ∧ Has h' h7.next (.cells .grow (R'.flatMap spC) 23))
   (n := C.bs.length) 0 ⟨rfl, rfl, rfl, rfl, rfl, rfl, rfl, trivial⟩ ⟨rfl, e0, f0, f2, f5, f9⟩ ?_
  clear e0 f0 f2 f5 f9;rintro m i h40 ⟨hmi, e0, f0, f2, f5, f9⟩ again
  have m5 := f0.1
  have m6 := f2.1
  have m7 := f5.1
  have m8 := f9.1
  by_cases hi : i < C.bs.length
  ·obtain ⟨x, hx'⟩ : ∃ x, C.bs[i]? = some x := ⟨C.bs[i]'(by omega), by simp⟩
   have hxO := O.b x (List.mem_of_getElem? hx')
   have hxO2 := hxO
   unfold BV.Ok at hxO2
   obtain ⟨bq, off, u1, u2⟩ := A.bs.at (i := i) (l := x.cells) (by rw [List.getElem?_map, hx']; rfl)
   rw [List.length_map] at u1
   unfold BV.cells at u2
   obtain ⟨R, hR⟩ : ∃ R : Nat, x.room = R := ⟨x.room.toNat, by omega⟩
   obtain ⟨n, hn⟩ : ∃ n, a2 % (R + 1) = n := ⟨_, rfl⟩
   have hnR : n ≤ R := by have := Nat.mod_lt a2 (y := R + 1) (by omega); omega
   have hnn : 0 ≤ (n : Int) ∧ (n : Int) ≤ x.room := by omega
   have hry : x.room + 1 = ((R + 1 : Nat) : Int) := by omega
   have hX1 := fun {h'} (e : Ext h h') => hEX e (i : Nat) (n : Nat)
   rw [daysR_is OX (show (C.with []).bs[i]? = some x from hx') hnn, CutV.tr_yes hTX] at hX1
   have hY1 := fun {h'} (e : Ext h h') f => hEY (h' := h') e f (i : Nat) (n : Nat)
   rw [daysR_is OY (show ((C.with []).rain R').bs[i]? = some x from hx') hnn, CutV.tr_yes hTY] at hY1
   have hlt9 : ∀ (D : CutV) (p : Int × Int → Int × Int → Bool), D.rs.length ≤ 8 → D.bits p (x.needs n) < 2 ^ 9 := fun D p hD => by
    have h1 : 2 ^ (D.rs.length + 1) ≤ 2 ^ 9 := Nat.pow_le_pow_right (by decide) (by omega)
    exact Nat.lt_of_lt_of_le (bitsV_lt _ _) h1
   have g1 := hlt9 (C.with []) surelyV (by show C.rs.length ≤ 8; omega)
   have g2 := hlt9 (C.with []) perhapsV (by show C.rs.length ≤ 8; omega)
   have hsub : ∀ p : Int × Int → Int × Int → Bool, (∀ D E : Int × Int, D.1 ≤ E.1 → D.2 ≤ E.2 → p D (x.needs n) = true → p E (x.needs n) = true) → andNot ((C.with []).bits p (x.needs n)) (((C.with []).rain R').bits p (x.needs n)) = 0 := fun p hp => by
    unfold CutV.bits
    rw [show ((C.with []).rain R').rs.length = C.rs.length from hRl];refine bits_sub (by show C.rs.length + 1 ≤ 9; omega) fun d hd q => ?_
    have hd2 : d ≤ C.rs.length := by have : d < C.rs.length + 1 := hd; omega
    refine hp _ _ ?_ ?_ q
    ·rw [hXat d hd2, hYat d (show d ≤ R'.length by omega)];exact hLo d hd2
    ·rw [hXat d hd2, hYat d (show d ≤ R'.length by omega)];exact hHi d hd2
   have s1 := hsub surelyV fun D E q1 q2 q => by
    unfold surelyV at *
    have := of_decide_eq_true q
    exact decide_eq_true (by omega)
   have s2 := hsub perhapsV fun D E q1 q2 q => by
    unfold perhapsV at *
    have := of_decide_eq_true q
    exact decide_eq_true (by omega)
   obtain ⟨t1, ht1⟩ : ∃ v, (C.with []).bits surelyV (x.needs n) = v := ⟨_, rfl⟩
   obtain ⟨t2, ht2⟩ : ∃ v, (C.with []).bits perhapsV (x.needs n) = v := ⟨_, rfl⟩
   obtain ⟨t3, ht3⟩ : ∃ v, ((C.with []).rain R').bits surelyV (x.needs n) = v := ⟨_, rfl⟩
   obtain ⟨t4, ht4⟩ : ∃ v, ((C.with []).rain R').bits perhapsV (x.needs n) = v := ⟨_, rfl⟩
   rw [ht1, ht2] at hX1;rw [ht3, ht4] at hY1;rw [ht1] at g1;rw [ht2] at g2;rw [ht1, ht3] at s1;rw [ht2, ht4] at s2
   have hX1 : ∀ {h'}, Ext h h' → Runs Try.prog 18 [.agg [.int .i64 C.dl, .int .i64 C.dh, .int .i64 C.kl, .int .i64 C.kh, r, .int .i64 C.most, b, .nilslice], .int .i64 (i : Nat), .int .i64 (n : Nat)] h' _ := hX1
   have hY1 : ∀ {h'}, Ext h h' → Has h' h7.next (.cells .grow (R'.flatMap spC) 23) → Runs Try.prog 18 [.agg [.int .i64 C.dl, .int .i64 C.dh, .int .i64 C.kl, .int .i64 C.kh, .gsl h7.next 0 0 C.rs.length, .int .i64 C.most, b, .nilslice], .int .i64 (i : Nat), .int .i64 (n : Nat)] h' _ := hY1
   dsimp only at hX1 hY1
   apply gS;refine gR rfl ?_;refine gO rfl rfl (kLT rfl rfl) rfl ?_;apply gE;apply gS;refine gC (b := true) rfl ?_;refine gD ?_;apply gS;refine Go.block noJ_ok ?_;apply gS;refine gR rfl ?_;refine gP ?_;refine gO rfl rfl (aOp_indexAddr (i := i) Try.underlying25 sz45 rfl u1 rfl (Nat.ble_eq_true_of_le hi)) rfl ?_;refine gO rfl rfl (aOp_loadE ag45 sz45 rfl (u2.ext e0)) rfl ?_;refine GoR.alloc rfl rfl rfl zt45 rfl rfl fun h41 x41 f41 => ?_;have := e0.1;have := f0.1;have := f2.1;have := f5.1;have := f9.1;replace f0 := f0.ext x41;replace f2 := f2.ext x41;replace f5 := f5.ext x41;replace f9 := f9.ext x41;replace e0 := e0.trans x41;have := f41.1;refine gP ?_;refine GoR.store rfl rfl rfl rfl rfl rfl f41 rfl sz45 rfl rfl rfl fun h42 u42 => ?_;replace f41 := u42.has f41;replace f0 := f0.upd u42 (by omega);replace f2 := f2.upd u42 (by omega);replace f5 := f5.upd u42 (by omega);replace f9 := f9.upd u42 (by omega);replace e0 := e0.upd u42 (by omega);apply gE;apply gS;refine Go.drawnE plan8_5 ?_;refine gQ rfl rfl (ld28 rfl f2 rfl) rfl ?_;iterate 2 refine gQ rfl rfl rfl rfl ?_
   refine gQ rfl rfl (aOp_convU8 rfl Try.underlying5 Try.underlying3 (by omega)) rfl ?_;refine gQ rfl rfl (fa45_2 rfl) rfl ?_;refine gQ rfl rfl (ld3 rfl f41 rfl) rfl ?_;refine gQ rfl rfl (aA rfl rfl) rfl ?_;refine gQ rfl rfl (aOp_rem (r := ((n : Nat) : Int)) rfl rfl (by omega) (by rw [hry, ← hn]; rfl)) rfl ?_;refine GoE.call rfl rfl (aCF aFunc18 rfl) (hX1 e0) (dD 255 7 (dD 255 6 (dD 255 5 (dD 255 4 (dD 255 3 (dD 255 2 (dD 255 1 (dD 255 0 rfl)))))))) ?_ np;rintro v43 h43 ⟨q, x43⟩;cases q;replace f41 := f41.ext x43;replace f0 := f0.ext x43;replace f2 := f2.ext x43;replace f5 := f5.ext x43;replace f9 := f9.ext x43;replace e0 := e0.trans x43;refine ⟨recheck_nil, _, rfl, ?_⟩;iterate 7 refine gQ rfl rfl rfl rfl ?_
   refine GoE.end rfl ?_;apply gS;refine Go.drawnE plan8_6 ?_;refine gQ rfl rfl (ld28 rfl f5 rfl) rfl ?_;iterate 2 refine gQ rfl rfl rfl rfl ?_
   refine gQ rfl rfl (aOp_convU8 rfl Try.underlying5 Try.underlying3 (by omega)) rfl ?_;refine gQ rfl rfl (fa45_2 rfl) rfl ?_;refine gQ rfl rfl (ld3 rfl f41 rfl) rfl ?_;refine gQ rfl rfl (aA rfl rfl) rfl ?_;refine gQ rfl rfl (aOp_rem (r := ((n : Nat) : Int)) rfl rfl (by omega) (by rw [hry, ← hn]; rfl)) rfl ?_;refine GoE.call rfl rfl (aCF aFunc18 rfl) (hY1 e0 f9) (dD 255 7 (dD 255 6 (dD 255 5 (dD 255 4 (dD 255 3 (dD 255 2 (dD 255 1 (dD 255 0 rfl)))))))) ?_ np;rintro v44 h44 ⟨q, x44⟩;cases q;replace f0 := f0.ext x44;replace f2 := f2.ext x44;replace f5 := f5.ext x44;replace f9 := f9.ext x44;replace e0 := e0.trans x44;refine ⟨recheck_nil, _, rfl, ?_⟩;iterate 7 refine gQ rfl rfl rfl rfl ?_
   refine GoE.end rfl ?_;apply gS;refine gR rfl ?_;refine gP ?_;refine gO rfl rfl (kXF rfl rfl) rfl ?_;iterate 2 refine gP ?_
   refine gO rfl rfl (kXF rfl rfl) rfl ?_;iterate 4 refine gP ?_
   refine gO rfl rfl (aOp_andNot (r := 0) rfl rfl (by omega) s1) rfl ?_;refine gO rfl rfl (kXF rfl rfl) rfl ?_;iterate 4 refine gP ?_
   refine gO rfl rfl (aOp_andNot (r := 0) rfl rfl (by omega) s2) rfl ?_;refine gO rfl rfl (kXF rfl rfl) rfl ?_;refine gP ?_;apply gE;refine gC (b := false) rfl ?_;refine gD ?_;refine Go.inBlock noJ_ok ?_;refine gR rfl ?_;refine gO rfl rfl (aA rfl rfl) rfl ?_;refine gP ?_;apply gE;exact again (m - 1) (i + 1) _ _ (by omega) ⟨rfl, rfl, rfl, rfl, rfl, rfl, rfl, trivial⟩ ⟨by omega, e0, f0, f2, f5, f9⟩
  ·clear again;apply gS;refine gR rfl ?_;refine gO rfl rfl (kLF rfl rfl) rfl ?_;apply gE;apply gS;refine gC (b := false) rfl ?_;refine gD ?_;apply gS;refine gR rfl ?_;refine GoR.call rfl rfl (aCF aFunc11 rfl) (awake_ok) ?_ np;rintro v41 h41 ⟨q, x41⟩;cases q;refine ⟨_, rfl, ?_⟩;replace e0 := e0.trans x41;refine gP ?_;apply gE;exact gW Try.func8 rfl rfl ⟨rfl, e0⟩
theorem law8 {C : CutV} {r b l : AVal} {h : AH} (A : CutAt h C r b l) (hb : C.rs.length < 9223372036854775808 ∧ C.bs.length < 9223372036854775808 ∧ C.ls.length < 9223372036854775808) {w1 w2 w3 : Int} (h1 : 0 ≤ w1 ∧ w1 < 256) (h2 : 0 ≤ w2 ∧ w2 < 256) (h3 : 0 ≤ w3 ∧ w3 < 256) : Runs Try.prog 8 [.agg (C.cells r b l), .int .u8 w1, .int .u8 w2, .int .u8 w3] h (fun en h' => en = .ret (.bool true) ∧ Ext h h') := by
 by_cases O : C.Ok
 ·obtain ⟨a1, rfl⟩ := Int.eq_ofNat_of_zero_le h1.1
  obtain ⟨a2, rfl⟩ := Int.eq_ofNat_of_zero_le h2.1
  obtain ⟨a3, rfl⟩ := Int.eq_ofNat_of_zero_le h3.1
  exact law8_ok A O (by omega) (by omega) (by omega)
 ·exact law8_bad A hb O
end Go.Proofs.Yteibheeleeengaa

namespace Go.AbsE
open Go Go.RowKit
section
variable {P : Program}
theorem HR.openWin {e : Env} {h : AH} {W : World} (r : HR P (Base.all W) e h W) {B lo : Nat} {PRE CS junk : List Value} {el : TypeId} {fr : Nat × Nat} {cs : List AVal} (hB : W.heap[B]? = some (.cells (PRE ++ (CS ++ junk)).toArray el fr)) (hp : PRE.length = lo) (hv : ∀ e, VRs e cs CS) :
  ∃ e' h', Env.le e e' ∧ HR P (Base.all W) e' h' W ∧ Ext h h' ∧ e' h.next = some (B, 0) ∧ Has h' h.next (.win lo cs) := by
 obtain ⟨h', k⟩ := new_some h (.win lo cs)
 obtain ⟨_, x1, x2⟩ := new_ext k
 obtain ⟨n1, n2, n3⟩ := AH.get_new k
 have hle := Env.le_ext (x := (B, 0)) r.fresh
 have hlt := (Array.getElem?_eq_some_iff.1 hB).1
 refine ⟨e.ext h.next (B, 0), h', hle, ?_, x1, Env.ext_same _ _ _, x2⟩
 refine { dom := ?_, blk := ?_, inj := ?_, imm := ?_, os := r.os, tape := r.tape, output := r.output, size := r.size, old := r.old, young := r.young }
 ·intro b' x kx
  rw [Env.ext_at] at kx
  by_cases hb' : b' = h.next
  ·omega
  ·rw [if_neg hb'] at kx; have := r.dom _ _ kx; omega
 ·intro b' o' kx
  rw [n3] at kx
  by_cases hb' : b' = h.next
  ·rw [if_pos hb'] at kx
   cases kx
   subst hb'
   exact ⟨B, 0, _, Env.ext_same _ _ _, (fun q => by cases q), hB, .win (hv _) hp⟩
  ·rw [if_neg hb'] at kx
   obtain ⟨B', c', O', k1, k2, k3, k4⟩ := r.blk _ _ kx
   exact ⟨B', c', O', hle.1 _ _ k1, k2, k3, k4.mono hle⟩
 ·intro b1 b2 B1 c1 c2 o1 o2 k1 k2 hro e1 e2
  rw [n3] at k1 k2
  rw [Env.ext_at] at e1 e2
  by_cases q1 : b1 = h.next
  ·rw [if_pos q1] at k1; cases k1; cases hro
  ·rw [if_neg q1] at k1 e1
   by_cases q2 : b2 = h.next
   ·rw [if_pos q2] at e2
    cases e2
    obtain ⟨B', c', O', j1, j2, _, _⟩ := r.blk _ _ k1
    rw [e1] at j1
    cases j1
    exact absurd hlt (j2 hro)
   ·rw [if_neg q2] at k2 e2
    exact r.inj _ _ _ _ _ _ _ k1 k2 hro e1 e2
 ·intro B1 CS' hi
  obtain ⟨i1, i2⟩ := r.imm B1 CS' hi
  refine ⟨i1, fun b' o' c' kx hro ke => ?_⟩
  rw [n3] at kx
  rw [Env.ext_at] at ke
  by_cases q : b' = h.next
  ·rw [if_pos q] at kx; cases kx; cases hro
  ·rw [if_neg q] at kx ke; exact i2 b' o' c' kx hro ke
end
end Go.AbsE

namespace Go.AbsE
open Go Go.RowKit
section
variable {P : Program}
theorem VRs.kinds {K : Type} {va : K → AVal} {vv : K → Value} (hvr : ∀ e x, VR e (va x) (vv x)) {e : Env} : ∀ l : List K, VRs e (l.map fun x => va x) (l.map fun x => vv x) := by
 intro l
 induction l with
 | nil => exact .nil
 | cons a l ih => exact .cons (hvr _ _) ih
theorem rowsG_eq {K : Type} {vv : K → Value} {C : List Value} {off sz : Nat} : ∀ (len : Nat) (f : Nat → List K), (∀ i, i < len → (f i).length = sz ∧ ∀ k n, (f i)[k]? = some n → C[off + i * sz + k]? = some (vv n)) →
  (C.drop off).take (len * sz) = (((List.range len).map f).flatten).map fun x => vv x := by
 intro len
 induction len with
 | zero => intro f _; simp
 | succ len ih =>
  intro f hf
  have h1 := ih f fun i hi => hf i (by omega)
  obtain ⟨l1, l2⟩ := hf len (by omega)
  rw [Nat.add_mul, Nat.one_mul, List.take_add, h1, List.range_succ, List.map_append, List.flatten_append, List.map_append]
  congr 1
  simp only [List.map_cons, List.map_nil, List.flatten_cons, List.flatten_nil, List.append_nil]
  rw [List.drop_drop]
  refine List.ext_getElem? fun k => ?_
  rw [List.getElem?_take, List.getElem?_drop, List.getElem?_map]
  by_cases hk : k < sz
  ·rw [if_pos hk]
   obtain ⟨n, hn⟩ : ∃ n, (f len)[k]? = some n := ⟨(f len)[k]'(by omega), by simp⟩
   rw [hn]
   exact l2 k n hn
  ·rw [if_neg hk]
   have : (f len)[k]? = none := by simp; omega
   rw [this]
   rfl
end
end Go.AbsE

namespace Go.AbsE
open Go Go.RowKit
section
variable {P : Program}
theorem HR.openRowsC {K : Type} (va : K → AVal) (vv : K → Value) (hvr : ∀ e x, VR e (va x) (vv x)) {e : Env} {h : AH} {W : World} (r : HR P (Base.all W) e h W) {a : Addr} {len cap sz : Nat} {C : Array Value} {el : TypeId} {fr : Nat × Nat} (hB : W.heap[a.block]? = some (.cells C el fr)) (hspot : a.spot = none) (f : Nat → List K)
  (hf : ∀ i, i < len → (f i).length = sz ∧ ∀ k n, (f i)[k]? = some n → W.cell? (a.add (i * sz + k)) = some (vv n)) :
  ∃ e' h' s, Env.le e e' ∧ HR P (Base.all W) e' h' W ∧ Ext h h' ∧ VR e' s (.slice (some a) len cap) ∧ SliceOf h' sz s (((List.range len).map f).map fun l => l.map fun x => va x) ∧ sameA s s = true ∧ ∃ b o, s = .slice b o len cap := by
 obtain ⟨B, off, spot⟩ := a
 dsimp only at hB hspot
 subst hspot
 have hcell : ∀ i, i < len → (f i).length = sz ∧ ∀ k n, (f i)[k]? = some n → C.toList[off + i * sz + k]? = some (vv n) := fun i hi => by
  obtain ⟨h1, h2⟩ := hf i hi
  refine ⟨h1, fun k n hn => ?_⟩
  have := h2 k n hn
  have e1 := addr_add B off (i * sz + k)
  rw [e1] at this
  unfold World.cell? at this
  rw [hB] at this
  simp only [Option.isSome_none, Bool.false_eq_true, if_false] at this
  rw [Array.getElem?_toList, Nat.add_assoc]
  exact this
 have hrows := rowsG_eq len f hcell
 let R := (List.range len).map f
 have hRl : ∀ l, l ∈ R → l.length = sz := fun l hl => by
  obtain ⟨i, hi, rfl⟩ := List.mem_map.1 hl
  exact (hf i (List.mem_range.1 hi)).1
 have hRlen : R.length = len := by simp [R]
 have hlen : (C.toList.drop off).take (len * sz) = (R.flatten).map fun x => vv x := hrows
 have hfl : R.flatten.length = len * sz := by
  have : ∀ {L : List (List K)}, (∀ l, l ∈ L → l.length = sz) → L.flatten.length = L.length * sz := by
   intro L
   induction L with
   | nil => intro _; simp
   | cons a L ih => intro h; simp only [List.flatten_cons, List.length_append, h a (by simp), ih fun l q => h l (by simp [q]), List.length_cons, Nat.add_mul]; omega
  rw [this hRl, hRlen]
 by_cases h0 : len * sz = 0
 ·-- nothing of it is read
  obtain ⟨e', h', k1, k2, k3, k4, k5⟩ := r.openWin (B := B) (lo := 0) (PRE := []) (CS := []) (junk := C.toList) (el := el) (fr := fr) (cs := []) (by simpa using hB) rfl (fun _ => .nil)
  refine ⟨e', h', .slice h.next off len cap, k1, k2, k3, .slice k4, .mk rfl rfl k5.1 (by simp) (fun l hl => ?_) ?_, by simp [sameA], _, _, rfl⟩
  ·obtain ⟨x, hx, rfl⟩ := List.mem_map.1 hl
   rw [List.length_map]
   exact hRl x hx
  ·have hnil : R.flatten = [] := List.eq_nil_of_length_eq_zero (by omega)
   unfold loadCells
   rw [k5.2]
   have e1 : ((R.map fun l => l.map fun x => va x).length * sz) = 0 := by rw [List.length_map, hRlen]; exact h0
   have e2 : (R.map fun l => l.map fun x => va x).flatten = [] := by rw [← List.map_flatten, hnil]; rfl
   show cond (Nat.ble 0 off) (slice? [] (off - 0) ((R.map fun l => l.map fun x => va x).length * sz)) none = some _
   rw [e1, e2, show Nat.ble 0 off = true from Nat.ble_eq_true_of_le (Nat.zero_le _)]
   simp [slice?]
 ·have hle : off + len * sz ≤ C.toList.length := by
   have : ((C.toList.drop off).take (len * sz)).length = len * sz := by rw [hlen, List.length_map, hfl]
   rw [List.length_take, List.length_drop] at this
   omega
  have hC : C = (C.toList.take off ++ ((R.flatten.map fun x => vv x) ++ C.toList.drop (off + len * sz))).toArray := by
   rw [← hlen]
   have : C.toList.take off ++ ((C.toList.drop off).take (len * sz) ++ C.toList.drop (off + len * sz)) = C.toList := by
    rw [← List.drop_drop, List.take_append_drop, List.take_append_drop]
   rw [this]
  obtain ⟨e', h', k1, k2, k3, k4, k5⟩ := r.openWin (B := B) (lo := off) (PRE := C.toList.take off) (CS := R.flatten.map fun x => vv x) (junk := C.toList.drop (off + len * sz)) (el := el) (fr := fr) (cs := R.flatten.map fun x => va x) (by rw [← hC]; exact hB) (by rw [List.length_take]; omega) (fun _ => VRs.kinds hvr _)
  refine ⟨e', h', .slice h.next off len cap, k1, k2, k3, .slice k4, .mk rfl rfl k5.1 (by simp) (fun l hl => ?_) ?_, by simp [sameA], _, _, rfl⟩
  ·obtain ⟨x, hx, rfl⟩ := List.mem_map.1 hl
   rw [List.length_map]
   exact hRl x hx
  ·unfold loadCells
   rw [k5.2]
   have e1 : ((R.map fun l => l.map fun x => va x).length * sz) = len * sz := by rw [List.length_map, hRlen]
   have e2 : (R.map fun l => l.map fun x => va x).flatten = R.flatten.map fun x => va x := by rw [← List.map_flatten]
   show cond (Nat.ble off off) (slice? (R.flatten.map fun x => va x) (off - off) ((R.map fun l => l.map fun x => va x).length * sz)) none = some _
   rw [e1, e2, show Nat.ble off off = true from Nat.ble_eq_true_of_le (Nat.le_refl _), Nat.sub_self]
   exact slice_all (by rw [List.length_map, hfl])
end
end Go.AbsE

namespace Go.AbsE
open Go
set_option linter.unusedSimpArgs false
set_option linter.unusedVariables false
section
variable {P : Program} {h : AH} {dst : Option Tmp} {ty tt el : TypeId} {pos : String} {after : Array Edge} {guard : Option (Nat × Bool)} {x y : Operand}
def CutS (s : AVal) (n : Nat) : Prop := n ≠ 0 → ∃ b off cap, s = .slice b off n cap ∧ n ≤ cap
theorem SliceOf.take {sz b off n cap cap' i : Nat} {L : List (List AVal)} (k : SliceOf h sz (.slice b off n cap) L) (hL : L.length = n) (hi : i ≤ n) : SliceOf h sz (.slice b off i cap') (L.take i) := by
 cases k with
 | mk hs hn hb hl hz hc =>
  rw [show aSlElems (.slice b off n cap) = some (b, off, n) from rfl] at hs
  cases hs
  have hlen : (L.take i).length = i := by rw [List.length_take]; omega
  refine .mk (b := b) (off := off) (len := i) rfl rfl hb hlen (fun l hl => hz l (List.mem_of_mem_take hl)) ?_
  have hp := loadCells_part (k := 0) (m := i * sz) hc (by rw [Nat.zero_add]; exact Nat.mul_le_mul_right _ (by omega))
  rw [Nat.add_zero] at hp
  rw [hlen, hp]
  congr 1
  have e1 : (L.take i).flatten.length = i * sz := by
   rw [flatten_len (sz := sz) (fun l hl => hz l (List.mem_of_mem_take hl)), hlen]
  have e3 : L.flatten = (L.take i).flatten ++ (L.drop i).flatten := by rw [← List.flatten_append, List.take_append_drop]
  rw [List.drop_zero, e3, ← e1, List.take_left]
end
end Go.AbsE

namespace Go.Proofs.Yteibheeleeengaa
open Go Go.AbsE Go.ChangeShapes Go.WideShapes Go.ChangeAt Go.RowKit
set_option linter.unusedSimpArgs false
set_option maxRecDepth 100000
set_option linter.unusedVariables false
theorem cells28 : Try.prog.cellsOf 28 = 8 := by kernel_rfl
theorem cells3 : Try.prog.cellsOf 3 = 1 := by kernel_rfl
theorem cells23 : Try.prog.cellsOf 23 = 2 := by kernel_rfl
theorem cells45 : Try.prog.cellsOf 45 = 4 := by kernel_rfl
theorem cells53 : Try.prog.cellsOf 53 = 3 := by kernel_rfl
theorem cells24 : Try.prog.cellsOf 24 = 1 := by kernel_rfl
theorem cells25 : Try.prog.cellsOf 25 = 1 := by kernel_rfl
theorem cells26 : Try.prog.cellsOf 26 = 1 := by kernel_rfl
theorem ctypes28 : Try.prog.cellTypes Try.prog.depth 28 = some [3, 3, 3, 3, 24, 3, 25, 26] := by kernel_rfl
theorem laidOut : laidOutB Try.prog = true := by kernel_rfl
def inI64 (n : Int) : Prop := -9223372036854775808 ≤ n ∧ n ≤ 9223372036854775807
theorem wf_in {n : Int} (h : (Lit.int .i64 n).wf = true) : inI64 n := by
 simp only [Lit.wf, Bool.and_eq_true, decide_eq_true_eq] at h
 have h1 : IntKind.i64.min = -9223372036854775808 := by decide
 have h2 : IntKind.i64.max = 9223372036854775807 := by decide
 rw [h1, h2] at h
 constructor <;> omega
variable {H : Type} {enc : TypeId × Value → H} {W : World} {base : Nat} {spare : Nat → Bool} {held : Bool}
theorem int_row {n : Nat} {cs : List Value} {x : DataW H × List MemPlace} (h : DataW.trod enc Try.prog W base spare held n 3 cs = some x) : ∃ a : Int, cs = [.int .i64 a] ∧ inI64 a := by
 obtain ⟨a, h1, _, h3⟩ := DataW.trod_int Try.underlying3 h
 exact ⟨a, h1, wf_in h3⟩
theorem span_row {n : Nat} {cs : List Value} {x : DataW H × List MemPlace} (h : DataW.trod enc Try.prog W base spare held n 23 cs = some x) : ∃ a b : Int, cs = [.int .i64 a, .int .i64 b] := by
 obtain ⟨y0, y1, k, _, hl, h0, h1⟩ := ChangeShapes.trod_struct2 Try.underlying23 h
 rw [cells23] at hl
 dsimp only at h0 h1
 rw [cells3] at h0 h1
 obtain ⟨a, ha, _⟩ := int_row h0
 obtain ⟨b, hb, _⟩ := int_row h1
 match cs, hl with
 | [c0, c1], _ =>
  simp at ha hb
  exact ⟨a, b, by rw [ha, hb]⟩
theorem list2 {α : Type} {l : List α} (h : l.length = 2) : ∃ c0 c1, l = [c0, c1] := by
 match l, h with
 | [c0, c1], _ => exact ⟨c0, c1, rfl⟩
theorem list3 {α : Type} {l : List α} (h : l.length = 3) : ∃ c0 c1 c2, l = [c0, c1, c2] := by
 match l, h with
 | [c0, c1, c2], _ => exact ⟨c0, c1, c2, rfl⟩
theorem list4 {α : Type} {l : List α} (h : l.length = 4) : ∃ c0 c1 c2 c3, l = [c0, c1, c2, c3] := by
 match l, h with
 | [c0, c1, c2, c3], _ => exact ⟨c0, c1, c2, c3, rfl⟩
theorem list6 {α : Type} {l : List α} (h : l.length = 6) : ∃ c0 c1 c2 c3 c4 c5, l = [c0, c1, c2, c3, c4, c5] := by
 match l, h with
 | [c0, c1, c2, c3, c4, c5], _ => exact ⟨c0, c1, c2, c3, c4, c5, rfl⟩
theorem sp_row {n : Nat} {cs : List Value} {x : DataW H × List MemPlace} (h : DataW.trod enc Try.prog W base spare held n 23 cs = some x) : ∃ r : List Int, r.length = 2 ∧ cs = r.map fun x => Value.int .i64 x := by
 obtain ⟨a, b, rfl⟩ := span_row h
 exact ⟨[a, b], rfl, rfl⟩
theorem boat_row {n : Nat} {cs : List Value} {x : DataW H × List MemPlace} (h : DataW.trod enc Try.prog W base spare held n 45 cs = some x) : ∃ r : List Int, r.length = 4 ∧ cs = r.map fun x => Value.int .i64 x := by
 obtain ⟨xs, m, _, _, hl, hlen, hfl⟩ := DataW.trod_struct Try.underlying45 h
 rw [cells45] at hl
 obtain ⟨c0, c1, c2, c3, rfl⟩ := list4 hl
 obtain ⟨y0, y1, y2, rfl⟩ := list3 hlen
 have t0 : DataW.trod enc Try.prog W base spare held m 23 [c0, c1] = some y0 := by
  have this : DataW.trod enc Try.prog W base spare held m 23 (([c0, c1, c2, c3].drop 0).take (Try.prog.cellsOf 23)) = [y0, y1, y2][0]? := hfl 0 _ rfl
  rw [cells23] at this;exact this
 have t1 : DataW.trod enc Try.prog W base spare held m 3 [c2] = some y1 := by
  have this : DataW.trod enc Try.prog W base spare held m 3 (([c0, c1, c2, c3].drop 2).take (Try.prog.cellsOf 3)) = [y0, y1, y2][1]? := hfl 1 _ rfl
  rw [cells3] at this;exact this
 have t2 : DataW.trod enc Try.prog W base spare held m 3 [c3] = some y2 := by
  have this : DataW.trod enc Try.prog W base spare held m 3 (([c0, c1, c2, c3].drop 3).take (Try.prog.cellsOf 3)) = [y0, y1, y2][2]? := hfl 2 _ rfl
  rw [cells3] at this;exact this
 obtain ⟨a0, a1, e0⟩ := span_row t0
 obtain ⟨a2, e1, _⟩ := int_row t1
 obtain ⟨a3, e2, _⟩ := int_row t2
 simp at e0 e1 e2
 exact ⟨[a0, a1, a2, a3], rfl, by rw [e0.1, e0.2, e1, e2]; rfl⟩
theorem look_row {n : Nat} {cs : List Value} {x : DataW H × List MemPlace} (h : DataW.trod enc Try.prog W base spare held n 53 cs = some x) : ∃ r : List Int, r.length = 3 ∧ cs = r.map fun x => Value.int .i64 x := by
 obtain ⟨xs, m, _, _, hl, hlen, hfl⟩ := DataW.trod_struct Try.underlying53 h
 rw [cells53] at hl
 obtain ⟨c0, c1, c2, rfl⟩ := list3 hl
 obtain ⟨y0, y1, rfl⟩ := list2 hlen
 have t0 : DataW.trod enc Try.prog W base spare held m 3 [c0] = some y0 := by
  have this : DataW.trod enc Try.prog W base spare held m 3 (([c0, c1, c2].drop 0).take (Try.prog.cellsOf 3)) = [y0, y1][0]? := hfl 0 _ rfl
  rw [cells3] at this;exact this
 have t1 : DataW.trod enc Try.prog W base spare held m 23 [c1, c2] = some y1 := by
  have this : DataW.trod enc Try.prog W base spare held m 23 (([c0, c1, c2].drop 1).take (Try.prog.cellsOf 23)) = [y0, y1][1]? := hfl 1 _ rfl
  rw [cells23] at this;exact this
 obtain ⟨a0, e0, _⟩ := int_row t0
 obtain ⟨a1, a2, e1⟩ := span_row t1
 simp at e0 e1
 exact ⟨[a0, a1, a2], rfl, by rw [e0, e1.1, e1.2]; rfl⟩
theorem slice_okw {t el : TypeId} {a : Addr} {len cap : Nat} {bs : Nat} (ht : Try.prog.underlying t = some (.slice el)) (h : Cell.okWide Try.prog W .any bs t (.slice (some a) len cap)) : a.spot = none ∧ ∃ C e fr, W.heap[a.block]? = some (.cells C e fr) := by
 unfold Cell.okWide at h
 rw [ht] at h
 dsimp only at h
 unfold Cell.ok at h
 rw [ht] at h
 dsimp only at h
 obtain ⟨_, _, _, h2, row, n, h3, _⟩ := h
 refine ⟨h2, ?_⟩
 unfold World.shape? at h3
 split at h3
 ·rename_i c e fr hq
  exact ⟨c, e, fr, hq⟩
 ·cases h3
theorem slice_cap {t el : TypeId} {a : Addr} {len cap : Nat} {bs : Nat} (ht : Try.prog.underlying t = some (.slice el)) (h : Cell.okWide Try.prog W .any bs t (.slice (some a) len cap)) : len < 9223372036854775808 := by
 unfold Cell.okWide at h
 rw [ht] at h
 dsimp only at h
 unfold Cell.ok at h
 rw [ht] at h
 dsimp only at h
 obtain ⟨h1, h2, _⟩ := h
 have : IntKind.i64.max = 9223372036854775807 := by decide
 rw [this] at h2
 omega
theorem slice_le {t el : TypeId} {a : Addr} {len cap : Nat} {bs : Nat} (ht : Try.prog.underlying t = some (.slice el)) (h : Cell.okWide Try.prog W .any bs t (.slice (some a) len cap)) : len ≤ cap := by
 unfold Cell.okWide at h
 rw [ht] at h
 dsimp only at h
 unfold Cell.ok at h
 rw [ht] at h
 dsimp only at h
 exact h.1
theorem rows_of {t el : TypeId} {sz fuel : Nat} {c : Value} {y : DataW H × List MemPlace} {bs : Nat} (ht : Try.prog.underlying t = some (.slice el)) (hsz : Try.prog.cellsOf el = sz)
  (hrow : ∀ {n : Nat} {cs : List Value} {x : DataW H × List MemPlace}, DataW.trod enc Try.prog W 0 (fun _ => true) true n el cs = some x → ∃ r : List Int, r.length = sz ∧ cs = r.map fun x => Value.int .i64 x)
  (h : DataW.trod enc Try.prog W 0 (fun _ => true) true fuel t [c] = some y) (hok : Cell.okWide Try.prog W .any bs t c) {e : Env} {hh : AH} (r : HR Try.prog (Base.all W) e hh W) :
  ∃ e' h' s, ∃ R : List (List Int), Env.le e e' ∧ HR Try.prog (Base.all W) e' h' W ∧ Ext hh h' ∧ VR e' s c ∧ (∀ l, l ∈ R → l.length = sz) ∧ SliceOf h' sz s (R.map fun l => l.map fun x => AVal.int .i64 x) ∧ R.length < 9223372036854775808 ∧ CutS s R.length := by
 rcases Deep.open_slice ht h with ⟨hcs, _⟩ | ⟨a, len, cap, m, n, D, Pl, hcs, _, hl, _, hmm, _, hx⟩
 ·simp at hcs
  subst hcs;exact ⟨e, hh, .nilslice, [], Env.le_refl e, r, Ext.refl _, .nilslice, (fun _ q => by cases q), .nil, by decide, fun q => absurd rfl q⟩
 ·simp at hcs
  subst hcs
  obtain ⟨hs, C, el', fr, hB⟩ := slice_okw ht hok
  have hcap := slice_cap ht hok
  have hle := slice_le ht hok
  have hm : m = cap := by simpa using hmm
  have each : ∀ i, ∃ rr : List Int, i < len → rr.length = sz ∧ ∀ k n, rr[k]? = some n → W.cell? (a.add (i * sz + k)) = some (.int .i64 n) := by
   intro i
   by_cases hi : i < len
   ·obtain ⟨cs', h1, h2⟩ := hx i (by omega)
    obtain ⟨rr, hr1, hr2⟩ := hrow h2
    rw [hsz] at h1
    obtain ⟨_, hlen, hc⟩ := World.cells?_some h1
    refine ⟨rr, fun _ => ⟨hr1, fun k n hk => ?_⟩⟩
    have hkl := (List.getElem?_eq_some_iff.1 hk).1
    have := hc k (by omega)
    obtain ⟨B, off, spot⟩ := a
    dsimp only at hs
    subst hs;rw [addr_add, addr_add] at this;rw [addr_add, ← Nat.add_assoc, this, hr2, List.getElem?_map, hk]
    rfl
   ·exact ⟨[], fun q => absurd q hi⟩
  obtain ⟨f, hf⟩ := Classical.axiomOfChoice each
  obtain ⟨e', h', s, k1, k2, k3, k4, k5, _, b, o, rfl⟩ := r.openRowsC (fun x => AVal.int .i64 x) (fun x => Value.int .i64 x) (fun _ _ => .int _ _) (cap := cap) (len := len) (sz := sz) hB hs f hf
  exact ⟨e', h', _, (List.range len).map f, k1, k2, k3, k4, fun l hl => by
   obtain ⟨i, hi, rfl⟩ := List.mem_map.1 hl
   exact (hf i (List.mem_range.1 hi)).1, k5, by rw [List.length_map, List.length_range]; exact hcap, fun _ => ⟨b, o, cap, by rw [List.length_map, List.length_range], by rw [List.length_map, List.length_range]; exact hle⟩⟩
def toS : List Int → Int × Int
 | [a, b] => (a, b)
 | _ => (0, 0)
def toB : List Int → BV
 | [a, b, c, d] => ⟨a, b, c, d⟩
 | _ => ⟨0, 0, 0, 0⟩
def toL : List Int → LV
 | [a, b, c] => ⟨a, b, c⟩
 | _ => ⟨0, 0, 0⟩
theorem ss_eq {R : List (List Int)} (h : ∀ l, l ∈ R → l.length = 2) : (R.map fun l => l.map fun x => AVal.int .i64 x) = (R.map toS).map spC := by
 rw [List.map_map];refine List.map_congr_left fun l hl => ?_
 match l, h l hl with
 | [a, b], _ => rfl
theorem bs_eq {R : List (List Int)} (h : ∀ l, l ∈ R → l.length = 4) : (R.map fun l => l.map fun x => AVal.int .i64 x) = (R.map toB).map BV.cells := by
 rw [List.map_map];refine List.map_congr_left fun l hl => ?_
 match l, h l hl with
 | [a, b, c, d], _ => rfl
theorem ls_eq {R : List (List Int)} (h : ∀ l, l ∈ R → l.length = 3) : (R.map fun l => l.map fun x => AVal.int .i64 x) = (R.map toL).map LV.cells := by
 rw [List.map_map];refine List.map_congr_left fun l hl => ?_
 match l, h l hl with
 | [a, b, c], _ => rfl
theorem array8 {α : Type} {cs : Array α} (h : cs.size = 8) : ∃ c0 c1 c2 c3 c4 c5 c6 c7, cs = #[c0, c1, c2, c3, c4, c5, c6, c7] := by
 obtain ⟨l⟩ := cs
 match l, h with
 | [c0, c1, c2, c3, c4, c5, c6, c7], _ => exact ⟨c0, c1, c2, c3, c4, c5, c6, c7, rfl⟩
theorem cut_of {bs : Nat} {v : Value} {d : DataW H} {p : List MemPlace} (hv : Value.okWide Try.prog W .any bs 28 v) (h : DataW.Trod enc Try.prog W 0 (fun _ => true) true 28 v d p) {e : Env} {hh : AH} (r : HR Try.prog (Base.all W) e hh W) :
  ∃ e' h' C sr sb sl, Env.le e e' ∧ HR Try.prog (Base.all W) e' h' W ∧ Ext hh h' ∧ VR e' (.agg (C.cells sr sb sl)) v ∧ CutAt h' C sr sb sl ∧ C.rs.length < 9223372036854775808 ∧ C.bs.length < 9223372036854775808 ∧ C.ls.length < 9223372036854775808 ∧ CutS sl C.ls.length := by
 have hv2 := hv
 obtain ⟨cs, rfl, hsz⟩ := okWide_struct Try.underlying28 hv
 obtain ⟨c0, c1, c2, c3, c4, c5, c6, c7, rfl⟩ := array8 (hsz.trans cells28)
 obtain ⟨fuel, hf⟩ := h
 obtain ⟨xs, n, _, _, hl, hlen, hfl⟩ := DataW.trod_struct Try.underlying28 hf
 obtain ⟨y0, y1, y2, y3, y4, y5, rfl⟩ := list6 hlen
 have t0 : DataW.trod enc Try.prog W 0 (fun _ => true) true n 23 [c0, c1] = some y0 := by
  have this : DataW.trod enc Try.prog W 0 (fun _ => true) true n 23 (([c0, c1, c2, c3, c4, c5, c6, c7].drop 0).take (Try.prog.cellsOf 23)) = [y0, y1, y2, y3, y4, y5][0]? := hfl 0 _ rfl
  rw [cells23] at this;exact this
 have t1 : DataW.trod enc Try.prog W 0 (fun _ => true) true n 23 [c2, c3] = some y1 := by
  have this : DataW.trod enc Try.prog W 0 (fun _ => true) true n 23 (([c0, c1, c2, c3, c4, c5, c6, c7].drop 2).take (Try.prog.cellsOf 23)) = [y0, y1, y2, y3, y4, y5][1]? := hfl 1 _ rfl
  rw [cells23] at this;exact this
 have t2 : DataW.trod enc Try.prog W 0 (fun _ => true) true n 24 [c4] = some y2 := by
  have this : DataW.trod enc Try.prog W 0 (fun _ => true) true n 24 (([c0, c1, c2, c3, c4, c5, c6, c7].drop 4).take (Try.prog.cellsOf 24)) = [y0, y1, y2, y3, y4, y5][2]? := hfl 2 _ rfl
  rw [cells24] at this;exact this
 have t3 : DataW.trod enc Try.prog W 0 (fun _ => true) true n 3 [c5] = some y3 := by
  have this : DataW.trod enc Try.prog W 0 (fun _ => true) true n 3 (([c0, c1, c2, c3, c4, c5, c6, c7].drop 5).take (Try.prog.cellsOf 3)) = [y0, y1, y2, y3, y4, y5][3]? := hfl 3 _ rfl
  rw [cells3] at this;exact this
 have t4 : DataW.trod enc Try.prog W 0 (fun _ => true) true n 25 [c6] = some y4 := by
  have this : DataW.trod enc Try.prog W 0 (fun _ => true) true n 25 (([c0, c1, c2, c3, c4, c5, c6, c7].drop 6).take (Try.prog.cellsOf 25)) = [y0, y1, y2, y3, y4, y5][4]? := hfl 4 _ rfl
  rw [cells25] at this;exact this
 have t5 : DataW.trod enc Try.prog W 0 (fun _ => true) true n 26 [c7] = some y5 := by
  have this : DataW.trod enc Try.prog W 0 (fun _ => true) true n 26 (([c0, c1, c2, c3, c4, c5, c6, c7].drop 7).take (Try.prog.cellsOf 26)) = [y0, y1, y2, y3, y4, y5][5]? := hfl 5 _ rfl
  rw [cells26] at this;exact this
 unfold Value.okWide at hv2
 rw [Try.underlying28] at hv2
 obtain ⟨cs, hcs, _, ts, hts, _, hrow⟩ := hv2
 injection hcs with hcs
 subst hcs;rw [ctypes28] at hts;cases hts
 obtain ⟨u4, hu4, ok4⟩ := hrow 4 c4 rfl
 obtain ⟨u6, hu6, ok6⟩ := hrow 6 c6 rfl
 obtain ⟨u7, hu7, ok7⟩ := hrow 7 c7 rfl
 cases hu4;cases hu6;cases hu7
 obtain ⟨n0, n1, e0⟩ := span_row t0
 obtain ⟨n2, n3, e1⟩ := span_row t1
 obtain ⟨n5, e3, _⟩ := int_row t3
 simp at e0 e1 e3
 obtain ⟨rfl, rfl⟩ := e0
 obtain ⟨rfl, rfl⟩ := e1
 subst e3
 obtain ⟨ea, ha, s0, R0, a1, a2, a3, a4, a5, a6, a7, a8⟩ := rows_of Try.underlying24 cells23 sp_row t2 ok4 r
 obtain ⟨eb, hb, s1, R1, b1, b2, b3, b4, b5, b6, b7, b8⟩ := rows_of Try.underlying25 cells45 boat_row t4 ok6 a2
 obtain ⟨ec, hc, s2, R2, g1, g2, g3, g4, g5, g6, g7, g8⟩ := rows_of Try.underlying26 cells53 look_row t5 ok7 b2
 rw [ss_eq a5] at a6;rw [bs_eq b5] at b6;rw [ls_eq g5] at g6;refine ⟨ec, hc, ⟨n0, n1, n2, n3, R0.map toS, n5, R1.map toB, R2.map toL⟩, s0, s1, s2, Env.le_trans a1 (Env.le_trans b1 g1), g2, a3.trans (b3.trans g3), ?_, ⟨(a6.ext b3).ext g3, b6.ext g3, g6⟩, by simpa using a7, by simpa using b7, by simpa using g7, by show CutS s2 (R2.map toL).length; rw [List.length_map]; exact g8⟩;exact .agg (CS := [_, _, _, _, _, _, _, _]) (.cons (.int _ _) (.cons (.int _ _) (.cons (.int _ _) (.cons (.int _ _) (.cons ((a4.mono b1).mono g1) (.cons (.int _ _) (.cons (b4.mono g1) (.cons g4 .nil))))))))
end Go.Proofs.Yteibheeleeengaa
