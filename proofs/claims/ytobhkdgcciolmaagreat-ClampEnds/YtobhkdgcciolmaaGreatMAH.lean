import Derived.Test.YtobhkdgcciolmaaGreatMAG
import Derived.Test.YtobhkdgcciolmaaGreatMAF
namespace Go.Proofs.YtobhkdgcciolmaaGreat
open Go Go.AbsE
set_option linter.unusedSimpArgs false
set_option linter.unusedVariables false
structure PV where
 ll : Int
 lh : Int
 wl : Int
 wh : Int
 hl : Int
 hh : Int
structure EV where
 kind : Int
 cl : Int
 lo : Int
 hi : Int
structure ClampV where
 ps : List PV
 pl : Int
 ph : Int
 es : List EV
def spC (s : Int × Int) : List AVal := [.int .i64 s.1, .int .i64 s.2]
def PV.cells (p : PV) : List AVal := [.int .i64 p.ll, .int .i64 p.lh, .int .i64 p.wl, .int .i64 p.wh, .int .i64 p.hl, .int .i64 p.hh]
def EV.cells (e : EV) : List AVal := [.int .i64 e.kind, .int .i64 e.cl, .int .i64 e.lo, .int .i64 e.hi]
def ClampV.cells (C : ClampV) (p e : AVal) : List AVal := [p, .int .i64 C.pl, .int .i64 C.ph, e]
def FeetOk (a b : Int) : Prop := (a ≤ b ∧ 1 ≤ a ∧ b ≤ 10) ∧ b - a ≤ 1
instance (a b : Int) : Decidable (FeetOk a b) := by unfold FeetOk; infer_instance
def PV.Ok (p : PV) : Prop := FeetOk p.ll p.lh ∧ FeetOk p.wl p.wh ∧ FeetOk p.hl p.hh
instance (p : PV) : Decidable p.Ok := by unfold PV.Ok; infer_instance
def EV.Ok (n : Nat) (e : EV) : Prop := (0 ≤ e.cl ∧ e.cl ≤ (n : Int) - 1) ∧ (e.lo ≤ e.hi ∧ 0 ≤ e.lo ∧ e.hi ≤ 5000) ∧ ((e.kind = 0 ∧ e.hi - e.lo ≤ 3) ∨ e.kind = 1)
instance (n : Nat) (e : EV) : Decidable (e.Ok n) := by unfold EV.Ok; infer_instance
structure ClampV.Ok (C : ClampV) : Prop where
 np : 1 ≤ C.ps.length ∧ C.ps.length ≤ 4
 p : ∀ x, x ∈ C.ps → x.Ok
 k : (C.pl ≤ C.ph ∧ 1 ≤ C.pl ∧ C.ph ≤ 5) ∧ C.ph - C.pl ≤ 2
 ne : C.es.length ≤ 6
 e : ∀ x, x ∈ C.es → x.Ok C.ps.length
def ClampV.okB (C : ClampV) : Bool := decide (1 ≤ C.ps.length ∧ C.ps.length ≤ 4) && C.ps.all (fun x => decide x.Ok) && decide ((C.pl ≤ C.ph ∧ 1 ≤ C.pl ∧ C.ph ≤ 5) ∧ C.ph - C.pl ≤ 2) && decide (C.es.length ≤ 6) && C.es.all (fun x => decide (x.Ok C.ps.length))
theorem okB_iff (C : ClampV) : C.okB = true ↔ C.Ok := by
 unfold ClampV.okB
 simp only [Bool.and_eq_true, decide_eq_true_eq, List.all_eq_true]
 constructor
 ·rintro ⟨⟨⟨⟨h1, h2⟩, h3⟩, h4⟩, h5⟩;exact ⟨h1, h2, h3, h4, h5⟩
 ·rintro ⟨h1, h2, h3, h4, h5⟩;exact ⟨⟨⟨⟨h1, h2⟩, h3⟩, h4⟩, h5⟩
instance (C : ClampV) : Decidable C.Ok := decidable_of_iff _ (okB_iff C)
def meetV (a b : Int × Int) : Int × Int := (max a.1 b.1, min a.2 b.2)
def joinP (a b : Int × Int) : Int × Int := (min a.1 b.1, max a.2 b.2)
def plusV (a b : Int × Int) : Int × Int := (a.1 + b.1, a.2 + b.2)
def minusV (a b : Int × Int) : Int × Int := (max (a.1 - b.2) 0, a.2 - b.1)
def EV.fwd (e : EV) (s : Int × Int) : Int × Int := if e.kind = 0 then minusV s (e.lo, e.hi) else meetV s (e.lo, e.hi)
def EV.back (e : EV) (s : Int × Int) : Int × Int := if e.kind = 0 then (if s.1 > s.2 then s else plusV s (e.lo, e.hi)) else meetV s (e.lo, e.hi)
def backE (i : Nat) (es : List EV) (s : Int × Int) : Int × Int := es.foldr (fun e s => if e.cl = (i : Int) then e.back s else s) s
def fwdE (i : Nat) (es : List EV) (s : Int × Int) : Int × Int := es.foldl (fun s e => if e.cl = (i : Int) then e.fwd s else s) s
def ClampV.canI (C : ClampV) (i : Nat) : Int × Int := backE i C.es (0, 5000)
def hasB (s : Int × Int) (n : Int) : Bool := decide (s.1 ≤ n ∧ n ≤ s.2)
def upto (a b : Int) : List Int := (List.range (b - a + 1).toNat).map fun i => a + (i : Nat)
theorem mem_upto {a b x : Int} : x ∈ upto a b ↔ a ≤ x ∧ x ≤ b := by
 unfold upto
 rw [List.mem_map]
 constructor
 ·rintro ⟨i, hi, rfl⟩
  have := List.mem_range.1 hi
  omega
 ·intro h
  exact ⟨(x - a).toNat, List.mem_range.2 (by omega), by omega⟩
def PV.sizes (p : PV) : List Int := (upto p.ll p.lh).flatMap fun l => (upto p.wl p.wh).flatMap fun w => (upto p.hl p.hh).map fun h => l * w * h
def ClampV.from (C : ClampV) (k : Int) : Nat → List PV → List (List Int)
 | _, [] => [[]]
 | i, p :: ps => p.sizes.flatMap fun f => if hasB (C.canI i) (f * k) = true then (C.from k (i + 1) ps).map (f :: ·) else []
abbrev BT := List Int × Int
def ClampV.builds (C : ClampV) : List BT := (upto C.pl C.ph).flatMap fun k => (C.from k 0 C.ps).map fun fs => (fs, k)
def firstV (b : BT) (i : Nat) : Int := b.1.getD i 0 * b.2
def ClampV.aft (C : ClampV) (b : BT) (i : Nat) : Int × Int := if i < C.ps.length then fwdE i C.es (firstV b i, firstV b i) else (0, 0)
def ClampV.stock (C : ClampV) (b : BT) : List (Int × Int) := (List.range 4).map (C.aft b)
def ClampV.can (C : ClampV) : List (Int × Int) := (List.range 4).map fun i => if i < C.ps.length then C.canI i else (0, 0)
def topS : Int × Int := (9223372036854775807, -9223372036854775808)
def joinL (l : List (Int × Int)) : Int × Int := l.foldl joinP topS
def ClampV.possible (C : ClampV) : Bool := !C.builds.isEmpty
def ClampV.first (C : ClampV) (i : Nat) : Int × Int := joinL (C.builds.map fun b => (firstV b i, firstV b i))
def ClampV.left (C : ClampV) (i : Nat) : Int × Int := joinL (C.builds.map fun b => C.aft b i)
def ClampV.sold (C : ClampV) (i : Nat) : Int × Int := joinL (C.builds.map fun b => minusV (firstV b i, firstV b i) (C.aft b i))
def sumIn (s : Nat) : Nat → List (Int × Int) → Int × Int
 | _, [] => (0, 0)
 | i, x :: l => if s.testBit i = true then plusV x (sumIn s (i + 1) l) else sumIn s (i + 1) l
def ClampV.sumB (C : ClampV) (s : Nat) (b : BT) : Int × Int := sumIn s 0 (C.stock b)
def ClampV.total (C : ClampV) (s : Nat) : Int × Int := joinL (C.builds.map fun b => C.sumB s b)
def dropV (s : Nat) : Nat → List EV → List EV
 | _, [] => []
 | i, e :: l => if s.testBit i = true then dropV s (i + 1) l else e :: dropV s (i + 1) l
def ClampV.drop (C : ClampV) (s : Nat) : ClampV := { C with es := dropV s 0 C.es }
def countsV : Nat → List EV → Nat
 | _, [] => 0
 | i, e :: l => (if e.kind = 0 then 0 else 2 ^ i) + countsV (i + 1) l
def ClampV.counts (C : ClampV) : Nat := countsV 0 C.es
def ClampV.all (C : ClampV) : Nat := 2 ^ C.ps.length - 1
theorem joinL_iff {l : List (Int × Int)} : (∀ c, c ≤ (joinL l).1 ↔ c ≤ topS.1 ∧ ∀ p, p ∈ l → c ≤ p.1) ∧ (∀ c, (joinL l).2 ≤ c ↔ topS.2 ≤ c ∧ ∀ p, p ∈ l → p.2 ≤ c) := by
 have key : ∀ (l : List (Int × Int)) (a : Int × Int), (∀ c, c ≤ (l.foldl joinP a).1 ↔ c ≤ a.1 ∧ ∀ p, p ∈ l → c ≤ p.1) ∧ (∀ c, (l.foldl joinP a).2 ≤ c ↔ a.2 ≤ c ∧ ∀ p, p ∈ l → p.2 ≤ c) := by
  intro l
  induction l with
  | nil => intro a; simp
  | cons x l ih =>
   intro a
   obtain ⟨h1, h2⟩ := ih (joinP a x)
   constructor
   ·intro c
    rw [List.foldl_cons, h1]
    simp only [List.mem_cons, forall_eq_or_imp, joinP]
    constructor
    ·rintro ⟨q1, q2⟩; exact ⟨by omega, by omega, q2⟩
    ·rintro ⟨q1, q2, q3⟩; exact ⟨by omega, q3⟩
   ·intro c
    rw [List.foldl_cons, h2]
    simp only [List.mem_cons, forall_eq_or_imp, joinP]
    constructor
    ·rintro ⟨q1, q2⟩; exact ⟨by omega, by omega, q2⟩
    ·rintro ⟨q1, q2, q3⟩; exact ⟨by omega, q3⟩
 exact key l topS
theorem joinL_mem {l m : List (Int × Int)} (h : ∀ x, x ∈ l ↔ x ∈ m) : joinL l = joinL m := by
 have a := joinL_iff (l := l)
 have b := joinL_iff (l := m)
 have e1 : ∀ c, c ≤ (joinL l).1 ↔ c ≤ (joinL m).1 := fun c => by rw [a.1, b.1]; simp only [h]
 have e2 : ∀ c, (joinL l).2 ≤ c ↔ (joinL m).2 ≤ c := fun c => by rw [a.2, b.2]; simp only [h]
 have := (e1 _).1 (Int.le_refl _)
 have := (e1 _).2 (Int.le_refl _)
 have := (e2 _).1 (Int.le_refl _)
 have := (e2 _).2 (Int.le_refl _)
 ext <;> omega
theorem joinL_le {l : List (Int × Int)} {p : Int × Int} (h : p ∈ l) : (joinL l).1 ≤ p.1 ∧ p.2 ≤ (joinL l).2 :=
 ⟨((joinL_iff.1 _).1 (Int.le_refl _)).2 p h, ((joinL_iff.2 _).1 (Int.le_refl _)).2 p h⟩
theorem joinL_lo {l : List (Int × Int)} {c : Int} (hc : c ≤ topS.1) (h : ∀ p, p ∈ l → c ≤ p.1) : c ≤ (joinL l).1 := (joinL_iff.1 c).2 ⟨hc, h⟩
theorem joinL_hi {l : List (Int × Int)} {c : Int} (hc : topS.2 ≤ c) (h : ∀ p, p ∈ l → p.2 ≤ c) : (joinL l).2 ≤ c := (joinL_iff.2 c).2 ⟨hc, h⟩
end Go.Proofs.YtobhkdgcciolmaaGreat
