import Derived.Test.YtkhiagdmbajimaaMAP
import Derived.Test.YtkhiagdmbajimaaMAG
import Derived.KernelRfl
import Derived.Test.YtkhiagdmbajimaaMAJ
namespace Go.Proofs.Ytkhiagdmbajimaa
open Go Go.AbsE
set_option linter.unusedSimpArgs false
set_option maxRecDepth 100000
set_option maxHeartbeats 0
set_option linter.unusedVariables false
theorem aOp_max4 {t : Tr AVal} {h : AH} {dst : Option Tmp} {tt : TypeId} {pos : String} {after : Array Edge} {guard : Option (Nat × Bool)} {x y z w : Operand} {tys : Array TypeId} {a b c d r : Int} (hx : ev t x = some (.int .i64 a)) (hy : ev t y = some (.int .i64 b)) (hz : ev t z = some (.int .i64 c)) (hw : ev t w = some (.int .i64 d))
  (hr : (if (if (if a < b then b else a) < c then c else (if a < b then b else a)) < d then d else (if (if a < b then b else a) < c then c else (if a < b then b else a))) = r) :
  aOp Try.prog t h ⟨dst, .call ⟨.builtin .max, #[x, y, z, w], tys⟩, tt, pos, after, guard⟩ = some (.val (.int .i64 r) h) := by
 show opCall Try.prog t h ⟨.builtin .max, #[x, y, z, w], tys⟩ tt = _
 have he : evs t [x, y, z, w] = some [.int .i64 a, .int .i64 b, .int .i64 c, .int .i64 d] := by simp only [evs, mapO, hx, hy, hz, hw]
 simp only [opCall, he, callWith, aBuiltin, grounds, AVal.ground]
 subst hr
 rfl
structure DrainL (D : DrainV) : Prop where
 b : D.bs.length < 9223372036854775808
 d : D.ds.length < 9223372036854775808
 r : D.rs.length < 9223372036854775808
 s : D.ss.length < 9223372036854775808
instance (D : DrainV) : Decidable (DrainB D) := decidable_of_iff (D.bs.length ≤ 40 ∧ D.ds.length ≤ 40 ∧ D.rs.length ≤ 40 ∧ D.ss.length ≤ 40) ⟨fun ⟨a, b, c, d⟩ => ⟨a, b, c, d⟩, fun k => ⟨k.b, k.d, k.r, k.s⟩⟩
theorem far_ok {D : DrainV} {b d r s : AVal} {h : AH} (A : DrainAt h D b d r s) (B : DrainL D) : Runs Try.prog 22 [.agg (dC b d r s)] h (fun en h' => en = .ret (.bool (decide (¬ DrainB D))) ∧ Ext h h') := by
 have hl1 := A.bs.len
 have hl2 := A.ds.len
 have hl3 := A.rs.len
 have hl4 := A.ss.len
 rw [List.length_map] at hl1 hl2 hl3 hl4
 have b1 := B.b
 have b2 := B.d
 have b3 := B.r
 have b4 := B.s
 obtain ⟨n1, hn1⟩ : ∃ n : Int, (D.bs.length : Int) = n := ⟨_, rfl⟩
 obtain ⟨n2, hn2⟩ : ∃ n : Int, (D.ds.length : Int) = n := ⟨_, rfl⟩
 obtain ⟨n3, hn3⟩ : ∃ n : Int, (D.rs.length : Int) = n := ⟨_, rfl⟩
 obtain ⟨n4, hn4⟩ : ∃ n : Int, (D.ss.length : Int) = n := ⟨_, rfl⟩
 obtain ⟨m, hm⟩ : ∃ m : Int, (if (if (if (D.bs.length : Int) < (D.ds.length : Int) then (D.ds.length : Int) else (D.bs.length : Int)) < (D.rs.length : Int) then (D.rs.length : Int) else (if (D.bs.length : Int) < (D.ds.length : Int) then (D.ds.length : Int) else (D.bs.length : Int))) < (D.ss.length : Int) then (D.ss.length : Int) else (if (if (D.bs.length : Int) < (D.ds.length : Int) then (D.ds.length : Int) else (D.bs.length : Int)) < (D.rs.length : Int) then (D.rs.length : Int) else (if (D.bs.length : Int) < (D.ds.length : Int) then (D.ds.length : Int) else (D.bs.length : Int)))) = m := ⟨_, rfl⟩
 have hm2 : 40 < m ↔ ¬ DrainB D := by
  rw [← hm]
  constructor
  ·intro q w
   have := w.b
   have := w.d
   have := w.r
   have := w.s
   split at q <;> (try split at q) <;> (try split at q) <;> omega
  ·intro q
   by_cases k : D.bs.length ≤ 40 ∧ D.ds.length ≤ 40 ∧ D.rs.length ≤ 40 ∧ D.ss.length ≤ 40
   ·exact absurd ⟨k.1, k.2.1, k.2.2.1, k.2.2.2⟩ q
   ·repeat' split
    all_goals omega
 have hsm := A.same
 unfold dC at *
 by_cases q : DrainB D
 ·rw [decide_eq_false (fun w => w q)]
  have hm3 : ¬ 40 < m := fun w => hm2.1 w q
  have e0 : Ext h h := Ext.refl _
  refine Runs.intro aFunc22 rfl rfl rfl rfl fun rest => ?_;apply gS;refine gR rfl ?_;refine GoR.box rfl rfl rfl rfl rfl rfl fun h0 x0 f0 => ?_;replace e0 := e0.trans x0;refine gP ?_;apply gE;apply gS;refine gR rfl ?_;refine gO rfl rfl (fa29_0 rfl) rfl ?_;refine gO rfl rfl (ld25 rfl f0 rfl) rfl ?_;refine gO rfl rfl (aOp_lenSlice Try.underlying25 rfl hl1) rfl ?_;refine gO rfl rfl (fa29_1 rfl) rfl ?_;refine gO rfl rfl (ld26 rfl f0 rfl) rfl ?_;refine gO rfl rfl (aOp_lenSlice Try.underlying26 rfl hl2) rfl ?_;refine gO rfl rfl (fa29_2 rfl) rfl ?_;refine gO rfl rfl (ld27 rfl f0 rfl) rfl ?_;refine gO rfl rfl (aOp_lenSlice Try.underlying27 rfl hl3) rfl ?_;refine gO rfl rfl (fa29_3 rfl) rfl ?_;refine gO rfl rfl (ld26 rfl f0 rfl) rfl ?_;refine gO rfl rfl (aOp_lenSlice Try.underlying26 rfl hl4) rfl ?_;refine gO rfl rfl (aOp_max4 rfl rfl rfl rfl hm) rfl ?_;refine gO rfl rfl (kGF rfl rfl) rfl ?_;refine gP ?_;apply gE;exact gW Try.func22 rfl rfl ⟨rfl, e0⟩
 ·rw [decide_eq_true q]
  have hm3 : 40 < m := hm2.2 q
  have e0 : Ext h h := Ext.refl _
  refine Runs.intro aFunc22 rfl rfl rfl rfl fun rest => ?_;apply gS;refine gR rfl ?_;refine GoR.box rfl rfl rfl rfl rfl rfl fun h0 x0 f0 => ?_;replace e0 := e0.trans x0;refine gP ?_;apply gE;apply gS;refine gR rfl ?_;refine gO rfl rfl (fa29_0 rfl) rfl ?_;refine gO rfl rfl (ld25 rfl f0 rfl) rfl ?_;refine gO rfl rfl (aOp_lenSlice Try.underlying25 rfl hl1) rfl ?_;refine gO rfl rfl (fa29_1 rfl) rfl ?_;refine gO rfl rfl (ld26 rfl f0 rfl) rfl ?_;refine gO rfl rfl (aOp_lenSlice Try.underlying26 rfl hl2) rfl ?_;refine gO rfl rfl (fa29_2 rfl) rfl ?_;refine gO rfl rfl (ld27 rfl f0 rfl) rfl ?_;refine gO rfl rfl (aOp_lenSlice Try.underlying27 rfl hl3) rfl ?_;refine gO rfl rfl (fa29_3 rfl) rfl ?_;refine gO rfl rfl (ld26 rfl f0 rfl) rfl ?_;refine gO rfl rfl (aOp_lenSlice Try.underlying26 rfl hl4) rfl ?_;refine gO rfl rfl (aOp_max4 rfl rfl rfl rfl hm) rfl ?_;refine gO rfl rfl (kGT rfl rfl) rfl ?_;refine gP ?_;apply gE;exact gW Try.func22 rfl rfl ⟨rfl, e0⟩
theorem in61_is {n a b : Int} {r : Bool} (hr : decide (a ≤ n ∧ n ≤ b) = r) {h : AH} : Runs Try.prog 61 [.int .i64 n, .int .i64 a, .int .i64 b] h (fun en h' => en = .ret (.bool r) ∧ Ext h h') := by
 rw [← hr]
 have e0 : Ext h h := Ext.refl _
 refine Runs.intro aFunc61 rfl rfl rfl rfl fun rest => ?_;apply gS;refine gR rfl ?_;refine gP ?_;apply gE;apply gS;refine gR rfl ?_;iterate 2 refine gP ?_
 by_cases hs0 : (a : Int) ≤ n
 ·refine gO rfl rfl (kMT rfl rfl) rfl ?_;iterate 3 refine gP ?_
  by_cases hs1 : (n : Int) ≤ b
  ·refine gO rfl rfl (kMT rfl rfl) rfl ?_;iterate 2 refine gP ?_
   apply gE;exact gV (ret_end (aResult_of Try.func61 rfl rfl) ⟨ret_true (by omega), e0⟩)
  ·refine gO rfl rfl (kMF rfl rfl) rfl ?_;iterate 2 refine gP ?_
   apply gE;exact gV (ret_end (aResult_of Try.func61 rfl rfl) ⟨ret_false (by omega), e0⟩)
 ·refine gO rfl rfl (kMF rfl rfl) rfl ?_;refine gP ?_;iterate 3 refine GoR.skip rfl rfl rfl ?_
  iterate 2 refine gP ?_
  apply gE;exact gV (ret_end (aResult_of Try.func61 rfl rfl) ⟨ret_false (by omega), e0⟩)
theorem span62_is {lo hi n : Int} {r : Bool} (hn : n ≤ 1000) (hr : decide (lo ≤ hi ∧ 0 ≤ lo ∧ hi ≤ n ∧ hi - lo ≤ 2) = r) {h : AH} : Runs Try.prog 62 [.agg [.int .i64 lo, .int .i64 hi], .int .i64 n] h (fun en h' => en = .ret (.bool r) ∧ Ext h h') := by
 rw [← hr]
 have e0 : Ext h h := Ext.refl _
 refine Runs.intro aFunc62 rfl rfl rfl rfl fun rest => ?_;apply gS;refine gR rfl ?_;refine GoR.box rfl rfl rfl rfl rfl rfl fun h0 x0 f0 => ?_;have := e0.1;replace e0 := e0.trans x0;have := f0.1;refine gP ?_;apply gE;apply gS;refine gR rfl ?_;refine gO rfl rfl (fa35_0 rfl) rfl ?_;refine gO rfl rfl (ld3 rfl f0 rfl) rfl ?_
 by_cases hs0 : ((0 : Int) : Int) ≤ lo
 ·refine gO rfl rfl (kMT rfl rfl) rfl ?_;refine gP ?_;refine gO rfl rfl (fa35_0 rfl) rfl ?_;refine gO rfl rfl (ld3 rfl f0 rfl) rfl ?_;refine gO rfl rfl (fa35_1 rfl) rfl ?_;refine gO rfl rfl (ld3 rfl f0 rfl) rfl ?_
  by_cases hs1 : (lo : Int) ≤ hi
  ·refine gO rfl rfl (kMT rfl rfl) rfl ?_;iterate 2 refine gP ?_
   refine gO rfl rfl (fa35_1 rfl) rfl ?_;refine gO rfl rfl (ld3 rfl f0 rfl) rfl ?_;refine gP ?_
   by_cases hs2 : (hi : Int) ≤ n
   ·refine gO rfl rfl (kMT rfl rfl) rfl ?_;iterate 2 refine gP ?_
    refine gO rfl rfl (fa35_1 rfl) rfl ?_;refine gO rfl rfl (ld3 rfl f0 rfl) rfl ?_;refine gO rfl rfl (fa35_0 rfl) rfl ?_;refine gO rfl rfl (ld3 rfl f0 rfl) rfl ?_;refine gO rfl rfl (aS rfl rfl) rfl ?_
    by_cases hs3 : (hi - lo : Int) ≤ (2 : Int)
    ·refine gO rfl rfl (kMT rfl rfl) rfl ?_;iterate 2 refine gP ?_
     apply gE;exact gV (ret_end (aResult_of Try.func62 rfl rfl) ⟨ret_true (by omega), e0⟩)
    ·refine gO rfl rfl (kMF rfl rfl) rfl ?_;iterate 2 refine gP ?_
     apply gE;exact gV (ret_end (aResult_of Try.func62 rfl rfl) ⟨ret_false (by omega), e0⟩)
   ·refine gO rfl rfl (kMF rfl rfl) rfl ?_;iterate 2 refine gP ?_
    iterate 6 refine GoR.skip rfl rfl rfl ?_
    iterate 2 refine gP ?_
    apply gE;exact gV (ret_end (aResult_of Try.func62 rfl rfl) ⟨ret_false (by omega), e0⟩)
  ·refine gO rfl rfl (kMF rfl rfl) rfl ?_;iterate 2 refine gP ?_
   iterate 4 refine GoR.skip rfl rfl rfl ?_
   iterate 2 refine gP ?_
   iterate 6 refine GoR.skip rfl rfl rfl ?_
   iterate 2 refine gP ?_
   apply gE;exact gV (ret_end (aResult_of Try.func62 rfl rfl) ⟨ret_false (by omega), e0⟩)
 ·refine gO rfl rfl (kMF rfl rfl) rfl ?_;refine gP ?_;iterate 5 refine GoR.skip rfl rfl rfl ?_
  iterate 2 refine gP ?_
  iterate 4 refine GoR.skip rfl rfl rfl ?_
  iterate 2 refine gP ?_
  iterate 6 refine GoR.skip rfl rfl rfl ?_
  iterate 2 refine gP ?_
  apply gE;exact gV (ret_end (aResult_of Try.func62 rfl rfl) ⟨ret_false (by omega), e0⟩)
theorem Bank83_is {D : DrainV} {b d r s : AVal} {h : AH} (A : DrainAt h D b d r s) (B : DrainB D) {n : Int} {x : Bool} (hx : decide (0 ≤ n ∧ n ≤ (D.bs.length : Int) - 1) = x) : Runs Try.prog 83 [.agg (dC b d r s), .int .i64 n] h (fun en h' => en = .ret (.bool x) ∧ Ext h h') := by
 have hl1 := A.bs.len
 rw [List.length_map] at hl1
 have hB := B.b
 have hsm := A.same
 unfold dC at *
 have e0 : Ext h h := Ext.refl _
 refine Runs.intro aFunc83 rfl rfl rfl rfl fun rest => ?_;apply gS;refine gR rfl ?_;refine GoR.box rfl rfl rfl rfl rfl rfl fun h0 x0 f0 => ?_;replace e0 := e0.trans x0;refine gP ?_;apply gE;apply gS;refine gR rfl ?_;refine gP ?_;refine gO rfl rfl (fa29_0 rfl) rfl ?_;refine gO rfl rfl (ld25 rfl f0 rfl) rfl ?_;refine gO rfl rfl (aOp_lenSlice Try.underlying25 rfl hl1) rfl ?_;refine gO rfl rfl (aS rfl rfl) rfl ?_;refine GoR.call rfl rfl (aCF aFunc61 rfl) (in61_is hx) ?_ np;rintro v1 h1 ⟨q, x1⟩;cases q;refine ⟨_, rfl, ?_⟩;replace e0 := e0.trans x1;refine gP ?_;apply gE;exact gW Try.func83 rfl rfl ⟨rfl, e0⟩
theorem Two63_is {D : DrainV} {b d r s : AVal} {h : AH} (A : DrainAt h D b d r s) (B : DrainB D) {n m : Int} {x : Bool} (hx : decide (PairOk D.bs.length (n, m)) = x) : Runs Try.prog 63 [.agg (dC b d r s), .int .i64 n, .int .i64 m] h (fun en h' => en = .ret (.bool x) ∧ Ext h h') := by
 rw [← hx]
 have hsm := A.same
 have hbt := fun h A n c => Bank83_is (D := D) (b := b) (d := d) (r := r) (s := s) (h := h) A B (n := n) (x := true) (decide_eq_true c)
 have hbf := fun h A n c => Bank83_is (D := D) (b := b) (d := d) (r := r) (s := s) (h := h) A B (n := n) (x := false) (decide_eq_false c)
 unfold dC at *
 unfold PairOk
 dsimp only
 by_cases q1 : 0 ≤ n ∧ n ≤ (D.bs.length : Int) - 1
 ·by_cases q2 : 0 ≤ m ∧ m ≤ (D.bs.length : Int) - 1
  ·by_cases q3 : n = m
   ·have e0 : Ext h h := Ext.refl _
    refine Runs.intro aFunc63 rfl rfl rfl rfl fun rest => ?_;apply gS;refine gR rfl ?_;refine GoR.box rfl rfl rfl rfl rfl rfl fun h0 x0 f0 => ?_;have := e0.1;replace e0 := e0.trans x0;have := f0.1;refine gP ?_;apply gE;apply gS;refine gR rfl ?_;refine gO rfl rfl (ld29 rfl f0 rfl) rfl ?_;refine gP ?_;refine GoR.call rfl rfl (aCF aFunc83 rfl) (hbt _ (A.ext e0) _ (by omega)) ?_ np;rintro v1 h1 ⟨q, x1⟩;cases q;refine ⟨_, rfl, ?_⟩;replace f0 := f0.ext x1;replace e0 := e0.trans x1;refine gP ?_;refine gO rfl rfl (ld29 rfl f0 rfl) rfl ?_;refine gP ?_;refine GoR.call rfl rfl (aCF aFunc83 rfl) (hbt _ (A.ext e0) _ (by omega)) ?_ np;rintro v2 h2 ⟨q, x2⟩;cases q;refine ⟨_, rfl, ?_⟩;replace e0 := e0.trans x2;iterate 4 refine gP ?_
    refine gO rfl rfl (kXF rfl rfl) rfl ?_;iterate 2 refine gP ?_
    apply gE;exact gV (ret_end (aResult_of Try.func63 rfl rfl) ⟨ret_false (by omega), e0⟩)
   ·have e0 : Ext h h := Ext.refl _
    refine Runs.intro aFunc63 rfl rfl rfl rfl fun rest => ?_;apply gS;refine gR rfl ?_;refine GoR.box rfl rfl rfl rfl rfl rfl fun h0 x0 f0 => ?_;have := e0.1;replace e0 := e0.trans x0;have := f0.1;refine gP ?_;apply gE;apply gS;refine gR rfl ?_;refine gO rfl rfl (ld29 rfl f0 rfl) rfl ?_;refine gP ?_;refine GoR.call rfl rfl (aCF aFunc83 rfl) (hbt _ (A.ext e0) _ (by omega)) ?_ np;rintro v1 h1 ⟨q, x1⟩;cases q;refine ⟨_, rfl, ?_⟩;replace f0 := f0.ext x1;replace e0 := e0.trans x1;refine gP ?_;refine gO rfl rfl (ld29 rfl f0 rfl) rfl ?_;refine gP ?_;refine GoR.call rfl rfl (aCF aFunc83 rfl) (hbt _ (A.ext e0) _ (by omega)) ?_ np;rintro v2 h2 ⟨q, x2⟩;cases q;refine ⟨_, rfl, ?_⟩;replace e0 := e0.trans x2;iterate 4 refine gP ?_
    refine gO rfl rfl (kXT rfl rfl) rfl ?_;iterate 2 refine gP ?_
    apply gE;exact gV (ret_end (aResult_of Try.func63 rfl rfl) ⟨ret_true (by omega), e0⟩)
  ·have e0 : Ext h h := Ext.refl _
   refine Runs.intro aFunc63 rfl rfl rfl rfl fun rest => ?_;apply gS;refine gR rfl ?_;refine GoR.box rfl rfl rfl rfl rfl rfl fun h0 x0 f0 => ?_;have := e0.1;replace e0 := e0.trans x0;have := f0.1;refine gP ?_;apply gE;apply gS;refine gR rfl ?_;refine gO rfl rfl (ld29 rfl f0 rfl) rfl ?_;refine gP ?_;refine GoR.call rfl rfl (aCF aFunc83 rfl) (hbt _ (A.ext e0) _ (by omega)) ?_ np;rintro v1 h1 ⟨q, x1⟩;cases q;refine ⟨_, rfl, ?_⟩;replace f0 := f0.ext x1;replace e0 := e0.trans x1;refine gP ?_;refine gO rfl rfl (ld29 rfl f0 rfl) rfl ?_;refine gP ?_;refine GoR.call rfl rfl (aCF aFunc83 rfl) (hbf _ (A.ext e0) _ (by omega)) ?_ np;rintro v2 h2 ⟨q, x2⟩;cases q;refine ⟨_, rfl, ?_⟩;replace e0 := e0.trans x2;iterate 2 refine gP ?_
   iterate 3 refine GoR.skip rfl rfl rfl ?_
   iterate 2 refine gP ?_
   apply gE;exact gV (ret_end (aResult_of Try.func63 rfl rfl) ⟨ret_false (by omega), e0⟩)
 ·have e0 : Ext h h := Ext.refl _
  refine Runs.intro aFunc63 rfl rfl rfl rfl fun rest => ?_;apply gS;refine gR rfl ?_;refine GoR.box rfl rfl rfl rfl rfl rfl fun h0 x0 f0 => ?_;have := e0.1;replace e0 := e0.trans x0;have := f0.1;refine gP ?_;apply gE;apply gS;refine gR rfl ?_;refine gO rfl rfl (ld29 rfl f0 rfl) rfl ?_;refine gP ?_;refine GoR.call rfl rfl (aCF aFunc83 rfl) (hbf _ (A.ext e0) _ (by omega)) ?_ np;rintro v1 h1 ⟨q, x1⟩;cases q;refine ⟨_, rfl, ?_⟩;replace e0 := e0.trans x1;refine gP ?_;iterate 3 refine GoR.skip rfl rfl rfl ?_
  iterate 2 refine gP ?_
  iterate 3 refine GoR.skip rfl rfl rfl ?_
  iterate 2 refine gP ?_
  apply gE;exact gV (ret_end (aResult_of Try.func63 rfl rfl) ⟨ret_false (by omega), e0⟩)
theorem Drain23_ok {D : DrainV} {b d r s : AVal} {h : AH} (A : DrainAt h D b d r s) (B : DrainB D) : Runs Try.prog 23 [.agg (dC b d r s)] h (fun en h' => en = .ret (.bool (decide D.Ok)) ∧ Ext h h') := by
 have hl1 := A.bs.len
 have hl2 := A.ds.len
 have hl3 := A.rs.len
 have hl4 := A.ss.len
 rw [List.length_map] at hl1 hl2 hl3 hl4
 have b1 := B.b
 have b2 := B.d
 have b3 := B.r
 have b4 := B.s
 have hsm := A.same
 have hT := fun h A n m x c => Two63_is (D := D) (b := b) (d := d) (r := r) (s := s) (h := h) A B (n := n) (m := m) (x := x) c
 unfold dC at *
 by_cases q0 : 1 ≤ D.bs.length ∧ D.bs.length ≤ 5
 ·by_cases q1 : D.ds.length ≤ 7
  ·by_cases q2 : D.rs.length ≤ 4
   ·by_cases q3 : D.ss.length ≤ 4
    ·have e0 : Ext h h := Ext.refl _
     refine Runs.intro aFunc23 rfl rfl rfl rfl fun rest => ?_;apply gS;refine gR rfl ?_;refine GoR.box rfl rfl rfl rfl rfl rfl fun h0 x0 f0 => ?_;have := e0.1;replace e0 := e0.trans x0;have := f0.1;refine gP ?_;apply gE;iterate 2 apply gS
     refine gR rfl ?_;refine gO rfl rfl (fa29_0 rfl) rfl ?_;refine gO rfl rfl (ld25 rfl f0 rfl) rfl ?_;refine gO rfl rfl (aOp_lenSlice Try.underlying25 rfl hl1) rfl ?_;refine GoR.call rfl rfl (aCF aFunc61 rfl) (in61_is (r := true) (dt (by omega))) ?_ np;rintro v1 h1 ⟨q, x1⟩;cases q;refine ⟨_, rfl, ?_⟩;replace f0 := f0.ext x1;replace e0 := e0.trans x1;iterate 2 refine gP ?_
     refine gO rfl rfl (fa29_1 rfl) rfl ?_;refine gO rfl rfl (ld26 rfl f0 rfl) rfl ?_;refine gO rfl rfl (aOp_lenSlice Try.underlying26 rfl hl2) rfl ?_;refine gO rfl rfl (kGF rfl rfl) rfl ?_;iterate 2 refine gP ?_
     refine gO rfl rfl (fa29_2 rfl) rfl ?_;refine gO rfl rfl (ld27 rfl f0 rfl) rfl ?_;refine gO rfl rfl (aOp_lenSlice Try.underlying27 rfl hl3) rfl ?_;refine gO rfl rfl (kGF rfl rfl) rfl ?_;iterate 2 refine gP ?_
     refine gO rfl rfl (fa29_3 rfl) rfl ?_;refine gO rfl rfl (ld26 rfl f0 rfl) rfl ?_;refine gO rfl rfl (aOp_lenSlice Try.underlying26 rfl hl4) rfl ?_;refine gO rfl rfl (kGF rfl rfl) rfl ?_;refine gP ?_;apply gE;refine gC (b := false) rfl ?_;refine gD ?_;iterate 2 apply gS
     refine gR rfl ?_;refine gP ?_;apply gE;refine Go.block noJ_ok ?_
     have hb0 := f0.1
     refine Go.loopKeep (fun i : Nat => [(1, .ptr h.next 0), (3, .int .i64 (i : Nat))]) (fun m i h' => m + i = D.bs.length ∧ Ext h h' ∧ Has h' h.next (.cells .plain [b, d, r, s] 29) ∧ ∀ p, p ∈ D.bs.take i → p.Ok) (n := D.bs.length) 0 ⟨rfl, rfl, trivial⟩ ⟨rfl, e0, f0, fun p hp => by simp at hp⟩ ?_;clear e0 f0;rintro m i hc ⟨hm, e0, f0, hk1⟩ again
     have hce := e0.1
     have hb0 := f0.1
     by_cases hi : i < D.bs.length
     ·obtain ⟨p, hp⟩ : ∃ p, D.bs[i]? = some p := ⟨D.bs[i], by simp [hi]⟩
      have hpm := List.mem_of_getElem? hp
      obtain ⟨bq, off, u1, u2⟩ := A.bs.at (i := i) (l := p.cells) (by rw [List.getElem?_map, hp]; rfl)
      rw [List.length_map] at u1
      obtain ⟨pll, plh, pyl, pyh⟩ := p
      have u3 := cells_sub (k := 0) (m := 2) u2 (by omega)
      have u4 := cells_sub (k := 2) (m := 2) u2 (by omega)
      unfold BkV.cells at u3 u4
      replace u3 : CellsAt h bq (off + i * 4 + 0) 2 [.int .i64 pll, .int .i64 plh] := u3;replace u4 : CellsAt h bq (off + i * 4 + 2) 2 [.int .i64 pyl, .int .i64 pyh] := u4
      by_cases q6 : pll ≤ plh ∧ 0 ≤ pll ∧ plh ≤ 20 ∧ plh - pll ≤ 2
      ·by_cases q7 : pyl ≤ pyh ∧ 0 ≤ pyl ∧ pyh ≤ 20 ∧ pyh - pyl ≤ 2
       ·iterate 2 apply gS
        refine gR rfl ?_;refine gP ?_;refine gO rfl rfl (fa29_0 rfl) rfl ?_;refine gO rfl rfl (ld25 rfl f0 rfl) rfl ?_;refine gO rfl rfl (aOp_lenSlice Try.underlying25 rfl hl1) rfl ?_;refine gO rfl rfl (kLT rfl rfl) rfl ?_;apply gE;refine gC (b := true) rfl ?_;refine gD ?_;apply gS;refine Go.block noJ_ok ?_;apply gS;refine gR rfl ?_;refine gO rfl rfl (fa29_0 rfl) rfl ?_;refine gO rfl rfl (ld25 rfl f0 rfl) rfl ?_;refine gP ?_;refine gO rfl rfl (aOp_indexAddr (i := i) Try.underlying25 sz60 rfl u1 rfl (Nat.ble_eq_true_of_le hi)) rfl ?_;refine gO rfl rfl (fa60_0 rfl) rfl ?_;refine gO rfl rfl (aOp_loadE ag35 sz35 rfl (u3.ext e0)) rfl ?_;refine GoR.call rfl rfl (aCF aFunc62 rfl) (span62_is (r := true) (by omega) (dt (by omega))) ?_ np;rintro v2 h2 ⟨q, x2⟩;cases q;refine ⟨_, rfl, ?_⟩;replace f0 := f0.ext x2;replace e0 := e0.trans x2;iterate 2 refine gP ?_
        refine gO rfl rfl (fa29_0 rfl) rfl ?_;refine gO rfl rfl (ld25 rfl f0 rfl) rfl ?_;refine gP ?_;refine gO rfl rfl (aOp_indexAddr (i := i) Try.underlying25 sz60 rfl u1 rfl (Nat.ble_eq_true_of_le hi)) rfl ?_;refine gO rfl rfl (fa60_1 rfl) rfl ?_;refine gO rfl rfl (aOp_loadE ag35 sz35 rfl (u4.ext e0)) rfl ?_;refine GoR.call rfl rfl (aCF aFunc62 rfl) (span62_is (r := true) (by omega) (dt (by omega))) ?_ np;rintro v3 h3 ⟨q, x3⟩;cases q;refine ⟨_, rfl, ?_⟩;replace f0 := f0.ext x3;replace e0 := e0.trans x3;iterate 2 refine gP ?_
        apply gE;refine gC (b := false) rfl ?_;refine gD ?_;refine Go.inBlock noJ_ok ?_;refine gR rfl ?_;refine gP ?_;refine gO rfl rfl (aA rfl rfl) rfl ?_;refine gP ?_;apply gE;refine again (m - 1) (i + 1) _ _ (by omega) ⟨rfl, rfl, trivial⟩ ⟨by omega, e0, f0, fun p' hp' => ?_⟩;rw [List.take_add_one, hp, Option.toList_some, List.mem_append, List.mem_singleton] at hp'
        rcases hp' with hp' | rfl
        ·exact hk1 p' hp'
        ·exact ⟨q6, q7⟩
       ·rw [show decide D.Ok = false from decide_eq_false fun O => q7 (O.b _ hpm).2];iterate 2 apply gS
        refine gR rfl ?_;refine gP ?_;refine gO rfl rfl (fa29_0 rfl) rfl ?_;refine gO rfl rfl (ld25 rfl f0 rfl) rfl ?_;refine gO rfl rfl (aOp_lenSlice Try.underlying25 rfl hl1) rfl ?_;refine gO rfl rfl (kLT rfl rfl) rfl ?_;apply gE;refine gC (b := true) rfl ?_;refine gD ?_;apply gS;refine Go.block noJ_ok ?_;apply gS;refine gR rfl ?_;refine gO rfl rfl (fa29_0 rfl) rfl ?_;refine gO rfl rfl (ld25 rfl f0 rfl) rfl ?_;refine gP ?_;refine gO rfl rfl (aOp_indexAddr (i := i) Try.underlying25 sz60 rfl u1 rfl (Nat.ble_eq_true_of_le hi)) rfl ?_;refine gO rfl rfl (fa60_0 rfl) rfl ?_;refine gO rfl rfl (aOp_loadE ag35 sz35 rfl (u3.ext e0)) rfl ?_;refine GoR.call rfl rfl (aCF aFunc62 rfl) (span62_is (r := true) (by omega) (dt (by omega))) ?_ np;rintro v2 h2 ⟨q, x2⟩;cases q;refine ⟨_, rfl, ?_⟩;replace f0 := f0.ext x2;replace e0 := e0.trans x2;iterate 2 refine gP ?_
        refine gO rfl rfl (fa29_0 rfl) rfl ?_;refine gO rfl rfl (ld25 rfl f0 rfl) rfl ?_;refine gP ?_;refine gO rfl rfl (aOp_indexAddr (i := i) Try.underlying25 sz60 rfl u1 rfl (Nat.ble_eq_true_of_le hi)) rfl ?_;refine gO rfl rfl (fa60_1 rfl) rfl ?_;refine gO rfl rfl (aOp_loadE ag35 sz35 rfl (u4.ext e0)) rfl ?_;refine GoR.call rfl rfl (aCF aFunc62 rfl) (span62_is (r := false) (by omega) (df (by omega))) ?_ np;rintro v3 h3 ⟨q, x3⟩;cases q;refine ⟨_, rfl, ?_⟩;replace e0 := e0.trans x3;iterate 2 refine gP ?_
        apply gE;refine gC (b := true) rfl ?_;apply gS;refine gR rfl ?_;refine gP ?_;apply gE;exact gW Try.func23 rfl rfl ⟨rfl, e0⟩
      ·rw [show decide D.Ok = false from decide_eq_false fun O => q6 (O.b _ hpm).1];iterate 2 apply gS
       refine gR rfl ?_;refine gP ?_;refine gO rfl rfl (fa29_0 rfl) rfl ?_;refine gO rfl rfl (ld25 rfl f0 rfl) rfl ?_;refine gO rfl rfl (aOp_lenSlice Try.underlying25 rfl hl1) rfl ?_;refine gO rfl rfl (kLT rfl rfl) rfl ?_;apply gE;refine gC (b := true) rfl ?_;refine gD ?_;apply gS;refine Go.block noJ_ok ?_;apply gS;refine gR rfl ?_;refine gO rfl rfl (fa29_0 rfl) rfl ?_;refine gO rfl rfl (ld25 rfl f0 rfl) rfl ?_;refine gP ?_;refine gO rfl rfl (aOp_indexAddr (i := i) Try.underlying25 sz60 rfl u1 rfl (Nat.ble_eq_true_of_le hi)) rfl ?_;refine gO rfl rfl (fa60_0 rfl) rfl ?_;refine gO rfl rfl (aOp_loadE ag35 sz35 rfl (u3.ext e0)) rfl ?_;refine GoR.call rfl rfl (aCF aFunc62 rfl) (span62_is (r := false) (by omega) (df (by omega))) ?_ np;rintro v2 h2 ⟨q, x2⟩;cases q;refine ⟨_, rfl, ?_⟩;replace e0 := e0.trans x2;iterate 2 refine gP ?_
       iterate 8 refine GoR.skip rfl rfl rfl ?_
       refine gP ?_;apply gE;refine gC (b := true) rfl ?_;apply gS;refine gR rfl ?_;refine gP ?_;apply gE;exact gW Try.func23 rfl rfl ⟨rfl, e0⟩
     ·rw [List.take_of_length_le (by omega)] at hk1;iterate 2 apply gS
      refine gR rfl ?_;refine gP ?_;refine gO rfl rfl (fa29_0 rfl) rfl ?_;refine gO rfl rfl (ld25 rfl f0 rfl) rfl ?_;refine gO rfl rfl (aOp_lenSlice Try.underlying25 rfl hl1) rfl ?_;refine gO rfl rfl (kLF rfl rfl) rfl ?_;apply gE;refine gC (b := false) rfl ?_;refine gD ?_;iterate 2 apply gS
      refine gR rfl ?_;refine gP ?_;apply gE;refine Go.block noJ_ok ?_
      have hb0 := f0.1
      refine Go.loopKeep (fun i : Nat => [(1, .ptr h.next 0), (4, .int .i64 (i : Nat))]) (fun m i h' => m + i = D.ds.length ∧ Ext h h' ∧ Has h' h.next (.cells .plain [b, d, r, s] 29) ∧ ∀ p, p ∈ D.ds.take i → PairOk D.bs.length p) (n := D.ds.length) 0 ⟨rfl, rfl, trivial⟩ ⟨rfl, e0, f0, fun p hp => by simp at hp⟩ ?_;clear e0 f0 again;rintro m i hc ⟨hm, e0, f0, hk2⟩ again
      have hce := e0.1
      have hb0 := f0.1
      by_cases hi : i < D.ds.length
      ·obtain ⟨p, hp⟩ : ∃ p, D.ds[i]? = some p := ⟨D.ds[i], by simp [hi]⟩
       have hpm := List.mem_of_getElem? hp
       obtain ⟨bq, off, u1, u2⟩ := A.ds.at (i := i) (l := spC p) (by rw [List.getElem?_map, hp]; rfl)
       rw [List.length_map] at u1
       obtain ⟨pa, pb⟩ := p
       unfold spC at u2
       dsimp only at u2
       by_cases q6 : PairOk D.bs.length (pa, pb)
       ·iterate 2 apply gS
        refine gR rfl ?_;refine gP ?_;refine gO rfl rfl (fa29_1 rfl) rfl ?_;refine gO rfl rfl (ld26 rfl f0 rfl) rfl ?_;refine gO rfl rfl (aOp_lenSlice Try.underlying26 rfl hl2) rfl ?_;refine gO rfl rfl (kLT rfl rfl) rfl ?_;apply gE;refine gC (b := true) rfl ?_;refine gD ?_;apply gS;refine Go.block noJ_ok ?_;apply gS;refine Go.drawnE plan23_0 ?_;refine gQ rfl rfl (ld29 rfl f0 rfl) rfl ?_;refine gQ rfl rfl (fa29_1 rfl) rfl ?_;refine gQ rfl rfl (ld26 rfl f0 rfl) rfl ?_;refine gQ rfl rfl rfl rfl ?_;refine gQ rfl rfl (aOp_indexAddr (i := i) Try.underlying26 sz32 rfl u1 rfl (Nat.ble_eq_true_of_le hi)) rfl ?_;refine gQ rfl rfl (fa32_0 rfl) rfl ?_;refine gQ rfl rfl ((aOp_loadE1 (k := 0) ag3 rfl (u2.ext e0) rfl)) rfl ?_;refine gQ rfl rfl (fa29_1 rfl) rfl ?_;refine gQ rfl rfl (ld26 rfl f0 rfl) rfl ?_;refine gQ rfl rfl rfl rfl ?_;refine gQ rfl rfl (aOp_indexAddr (i := i) Try.underlying26 sz32 rfl u1 rfl (Nat.ble_eq_true_of_le hi)) rfl ?_;refine gQ rfl rfl (fa32_1 rfl) rfl ?_;refine gQ rfl rfl ((aOp_loadE1 (k := 1) ag3 rfl (u2.ext e0) rfl)) rfl ?_;refine GoE.call rfl rfl (aCF aFunc63 rfl) (hT _ (A.ext e0) _ _ true (decide_eq_true q6)) (dD 8191 12 (dD 8191 11 (dD 8191 10 (dD 8191 9 (dD 8191 8 (dD 8191 7 (dD 8191 6 (dD 8191 5 (dD 8191 4 (dD 8191 3 (dD 8191 2 (dD 8191 1 (dD 8191 0 rfl))))))))))))) ?_ np;rintro v2 h2 ⟨q, x2⟩;cases q;replace f0 := f0.ext x2;replace e0 := e0.trans x2;refine ⟨recheck_nil, _, rfl, ?_⟩;refine gQ rfl rfl rfl rfl ?_;refine GoE.end rfl ?_;refine gC (b := false) rfl ?_;refine gD ?_;refine Go.inBlock noJ_ok ?_;refine gR rfl ?_;refine gP ?_;refine gO rfl rfl (aA rfl rfl) rfl ?_;refine gP ?_;apply gE;refine again (m - 1) (i + 1) _ _ (by omega) ⟨rfl, rfl, trivial⟩ ⟨by omega, e0, f0, fun p' hp' => ?_⟩;rw [List.take_add_one, hp, Option.toList_some, List.mem_append, List.mem_singleton] at hp'
        rcases hp' with hp' | rfl
        ·exact hk2 p' hp'
        ·exact q6
       ·rw [show decide D.Ok = false from decide_eq_false fun O => q6 (O.d _ hpm)];iterate 2 apply gS
        refine gR rfl ?_;refine gP ?_;refine gO rfl rfl (fa29_1 rfl) rfl ?_;refine gO rfl rfl (ld26 rfl f0 rfl) rfl ?_;refine gO rfl rfl (aOp_lenSlice Try.underlying26 rfl hl2) rfl ?_;refine gO rfl rfl (kLT rfl rfl) rfl ?_;apply gE;refine gC (b := true) rfl ?_;refine gD ?_;apply gS;refine Go.block noJ_ok ?_;apply gS;refine Go.drawnE plan23_0 ?_;refine gQ rfl rfl (ld29 rfl f0 rfl) rfl ?_;refine gQ rfl rfl (fa29_1 rfl) rfl ?_;refine gQ rfl rfl (ld26 rfl f0 rfl) rfl ?_;refine gQ rfl rfl rfl rfl ?_;refine gQ rfl rfl (aOp_indexAddr (i := i) Try.underlying26 sz32 rfl u1 rfl (Nat.ble_eq_true_of_le hi)) rfl ?_;refine gQ rfl rfl (fa32_0 rfl) rfl ?_;refine gQ rfl rfl ((aOp_loadE1 (k := 0) ag3 rfl (u2.ext e0) rfl)) rfl ?_;refine gQ rfl rfl (fa29_1 rfl) rfl ?_;refine gQ rfl rfl (ld26 rfl f0 rfl) rfl ?_;refine gQ rfl rfl rfl rfl ?_;refine gQ rfl rfl (aOp_indexAddr (i := i) Try.underlying26 sz32 rfl u1 rfl (Nat.ble_eq_true_of_le hi)) rfl ?_;refine gQ rfl rfl (fa32_1 rfl) rfl ?_;refine gQ rfl rfl ((aOp_loadE1 (k := 1) ag3 rfl (u2.ext e0) rfl)) rfl ?_;refine GoE.call rfl rfl (aCF aFunc63 rfl) (hT _ (A.ext e0) _ _ false (decide_eq_false q6)) (dD 8191 12 (dD 8191 11 (dD 8191 10 (dD 8191 9 (dD 8191 8 (dD 8191 7 (dD 8191 6 (dD 8191 5 (dD 8191 4 (dD 8191 3 (dD 8191 2 (dD 8191 1 (dD 8191 0 rfl))))))))))))) ?_ np;rintro v2 h2 ⟨q, x2⟩;cases q;replace e0 := e0.trans x2;refine ⟨recheck_nil, _, rfl, ?_⟩;refine gQ rfl rfl rfl rfl ?_;refine GoE.end rfl ?_;refine gC (b := true) rfl ?_;apply gS;refine gR rfl ?_;refine gP ?_;apply gE;exact gW Try.func23 rfl rfl ⟨rfl, e0⟩
      ·rw [List.take_of_length_le (by omega)] at hk2;iterate 2 apply gS
       refine gR rfl ?_;refine gP ?_;refine gO rfl rfl (fa29_1 rfl) rfl ?_;refine gO rfl rfl (ld26 rfl f0 rfl) rfl ?_;refine gO rfl rfl (aOp_lenSlice Try.underlying26 rfl hl2) rfl ?_;refine gO rfl rfl (kLF rfl rfl) rfl ?_;apply gE;refine gC (b := false) rfl ?_;refine gD ?_;iterate 2 apply gS
       refine gR rfl ?_;refine gP ?_;apply gE;refine Go.block noJ_ok ?_
       have hb0 := f0.1
       refine Go.loopKeep (fun i : Nat => [(1, .ptr h.next 0), (5, .int .i64 (i : Nat))]) (fun m i h' => m + i = D.rs.length ∧ Ext h h' ∧ Has h' h.next (.cells .plain [b, d, r, s] 29) ∧ ∀ p, p ∈ D.rs.take i → p.Ok D.bs.length) (n := D.rs.length) 0 ⟨rfl, rfl, trivial⟩ ⟨rfl, e0, f0, fun p hp => by simp at hp⟩ ?_;clear e0 f0 again;rintro m i hc ⟨hm, e0, f0, hk3⟩ again
       have hce := e0.1
       have hb0 := f0.1
       by_cases hi : i < D.rs.length
       ·obtain ⟨p, hp⟩ : ∃ p, D.rs[i]? = some p := ⟨D.rs[i], by simp [hi]⟩
        have hpm := List.mem_of_getElem? hp
        obtain ⟨bq, off, u1, u2⟩ := A.rs.at (i := i) (l := p.cells) (by rw [List.getElem?_map, hp]; rfl)
        rw [List.length_map] at u1
        obtain ⟨po, pt, pm⟩ := p
        unfold RtV.cells at u2
        dsimp only at u2
        by_cases q6 : PairOk D.bs.length (po, pt)
        ·by_cases q7 : 0 ≤ pm ∧ pm ≤ 100
         ·iterate 2 apply gS
          refine gR rfl ?_;refine gP ?_;refine gO rfl rfl (fa29_2 rfl) rfl ?_;refine gO rfl rfl (ld27 rfl f0 rfl) rfl ?_;refine gO rfl rfl (aOp_lenSlice Try.underlying27 rfl hl3) rfl ?_;refine gO rfl rfl (kLT rfl rfl) rfl ?_;apply gE;refine gC (b := true) rfl ?_;refine gD ?_;apply gS;refine Go.block noJ_ok ?_;apply gS;refine gR rfl ?_;refine gO rfl rfl (fa29_2 rfl) rfl ?_;refine gO rfl rfl (ld27 rfl f0 rfl) rfl ?_;refine gP ?_;refine gO rfl rfl (aOp_indexAddr (i := i) Try.underlying27 sz57 rfl u1 rfl (Nat.ble_eq_true_of_le hi)) rfl ?_;refine gO rfl rfl (aOp_loadE ag57 sz57 rfl (u2.ext e0)) rfl ?_;refine GoR.alloc rfl rfl rfl zt57 rfl rfl fun h2 x2 f2 => ?_;have := e0.1;have := f0.1;replace f0 := f0.ext x2;replace e0 := e0.trans x2;have := f2.1;refine GoR.store rfl rfl rfl rfl rfl rfl f2 rfl sz57 rfl rfl rfl fun h3 u3 => ?_;replace f2 := u3.has f2;replace f0 := f0.upd u3 (by omega);replace e0 := e0.upd u3 (by omega);apply gE;apply gS;refine gR rfl ?_;refine gO rfl rfl (ld29 rfl f0 rfl) rfl ?_;refine gO rfl rfl (fa57_0 rfl) rfl ?_;refine gO rfl rfl (ld3 rfl f2 rfl) rfl ?_;refine gO rfl rfl (fa57_1 rfl) rfl ?_;refine gO rfl rfl (ld3 rfl f2 rfl) rfl ?_;refine GoR.call rfl rfl (aCF aFunc63 rfl) (hT _ (A.ext e0) _ _ true (decide_eq_true q6)) ?_ np;rintro v4 h4 ⟨q, x4⟩;cases q;refine ⟨_, rfl, ?_⟩;replace f2 := f2.ext x4;replace f0 := f0.ext x4;replace e0 := e0.trans x4;iterate 2 refine gP ?_
          refine gO rfl rfl (fa57_2 rfl) rfl ?_;refine gO rfl rfl (ld3 rfl f2 rfl) rfl ?_;refine GoR.call rfl rfl (aCF aFunc61 rfl) (in61_is (r := true) (dt (by omega))) ?_ np;rintro v5 h5 ⟨q, x5⟩;cases q;refine ⟨_, rfl, ?_⟩;replace f0 := f0.ext x5;replace e0 := e0.trans x5;iterate 2 refine gP ?_
          apply gE;refine gC (b := false) rfl ?_;refine gD ?_;refine Go.inBlock noJ_ok ?_;refine gR rfl ?_;refine gP ?_;refine gO rfl rfl (aA rfl rfl) rfl ?_;refine gP ?_;apply gE;refine again (m - 1) (i + 1) _ _ (by omega) ⟨rfl, rfl, trivial⟩ ⟨by omega, e0, f0, fun p' hp' => ?_⟩;rw [List.take_add_one, hp, Option.toList_some, List.mem_append, List.mem_singleton] at hp'
          rcases hp' with hp' | rfl
          ·exact hk3 p' hp'
          ·exact ⟨q6, q7⟩
         ·rw [show decide D.Ok = false from decide_eq_false fun O => q7 (O.r _ hpm).2];iterate 2 apply gS
          refine gR rfl ?_;refine gP ?_;refine gO rfl rfl (fa29_2 rfl) rfl ?_;refine gO rfl rfl (ld27 rfl f0 rfl) rfl ?_;refine gO rfl rfl (aOp_lenSlice Try.underlying27 rfl hl3) rfl ?_;refine gO rfl rfl (kLT rfl rfl) rfl ?_;apply gE;refine gC (b := true) rfl ?_;refine gD ?_;apply gS;refine Go.block noJ_ok ?_;apply gS;refine gR rfl ?_;refine gO rfl rfl (fa29_2 rfl) rfl ?_;refine gO rfl rfl (ld27 rfl f0 rfl) rfl ?_;refine gP ?_;refine gO rfl rfl (aOp_indexAddr (i := i) Try.underlying27 sz57 rfl u1 rfl (Nat.ble_eq_true_of_le hi)) rfl ?_;refine gO rfl rfl (aOp_loadE ag57 sz57 rfl (u2.ext e0)) rfl ?_;refine GoR.alloc rfl rfl rfl zt57 rfl rfl fun h2 x2 f2 => ?_;have := e0.1;have := f0.1;replace f0 := f0.ext x2;replace e0 := e0.trans x2;have := f2.1;refine GoR.store rfl rfl rfl rfl rfl rfl f2 rfl sz57 rfl rfl rfl fun h3 u3 => ?_;replace f2 := u3.has f2;replace f0 := f0.upd u3 (by omega);replace e0 := e0.upd u3 (by omega);apply gE;apply gS;refine gR rfl ?_;refine gO rfl rfl (ld29 rfl f0 rfl) rfl ?_;refine gO rfl rfl (fa57_0 rfl) rfl ?_;refine gO rfl rfl (ld3 rfl f2 rfl) rfl ?_;refine gO rfl rfl (fa57_1 rfl) rfl ?_;refine gO rfl rfl (ld3 rfl f2 rfl) rfl ?_;refine GoR.call rfl rfl (aCF aFunc63 rfl) (hT _ (A.ext e0) _ _ true (decide_eq_true q6)) ?_ np;rintro v4 h4 ⟨q, x4⟩;cases q;refine ⟨_, rfl, ?_⟩;replace f2 := f2.ext x4;replace e0 := e0.trans x4;iterate 2 refine gP ?_
          refine gO rfl rfl (fa57_2 rfl) rfl ?_;refine gO rfl rfl (ld3 rfl f2 rfl) rfl ?_;refine GoR.call rfl rfl (aCF aFunc61 rfl) (in61_is (r := false) (df (by omega))) ?_ np;rintro v5 h5 ⟨q, x5⟩;cases q;refine ⟨_, rfl, ?_⟩;replace e0 := e0.trans x5;iterate 2 refine gP ?_
          apply gE;refine gC (b := true) rfl ?_;apply gS;refine gR rfl ?_;refine gP ?_;apply gE;exact gW Try.func23 rfl rfl ⟨rfl, e0⟩
        ·rw [show decide D.Ok = false from decide_eq_false fun O => q6 (O.r _ hpm).1];iterate 2 apply gS
         refine gR rfl ?_;refine gP ?_;refine gO rfl rfl (fa29_2 rfl) rfl ?_;refine gO rfl rfl (ld27 rfl f0 rfl) rfl ?_;refine gO rfl rfl (aOp_lenSlice Try.underlying27 rfl hl3) rfl ?_;refine gO rfl rfl (kLT rfl rfl) rfl ?_;apply gE;refine gC (b := true) rfl ?_;refine gD ?_;apply gS;refine Go.block noJ_ok ?_;apply gS;refine gR rfl ?_;refine gO rfl rfl (fa29_2 rfl) rfl ?_;refine gO rfl rfl (ld27 rfl f0 rfl) rfl ?_;refine gP ?_;refine gO rfl rfl (aOp_indexAddr (i := i) Try.underlying27 sz57 rfl u1 rfl (Nat.ble_eq_true_of_le hi)) rfl ?_;refine gO rfl rfl (aOp_loadE ag57 sz57 rfl (u2.ext e0)) rfl ?_;refine GoR.alloc rfl rfl rfl zt57 rfl rfl fun h2 x2 f2 => ?_;have := e0.1;have := f0.1;replace f0 := f0.ext x2;replace e0 := e0.trans x2;have := f2.1;refine GoR.store rfl rfl rfl rfl rfl rfl f2 rfl sz57 rfl rfl rfl fun h3 u3 => ?_;replace f2 := u3.has f2;replace f0 := f0.upd u3 (by omega);replace e0 := e0.upd u3 (by omega);apply gE;apply gS;refine gR rfl ?_;refine gO rfl rfl (ld29 rfl f0 rfl) rfl ?_;refine gO rfl rfl (fa57_0 rfl) rfl ?_;refine gO rfl rfl (ld3 rfl f2 rfl) rfl ?_;refine gO rfl rfl (fa57_1 rfl) rfl ?_;refine gO rfl rfl (ld3 rfl f2 rfl) rfl ?_;refine GoR.call rfl rfl (aCF aFunc63 rfl) (hT _ (A.ext e0) _ _ false (decide_eq_false q6)) ?_ np;rintro v4 h4 ⟨q, x4⟩;cases q;refine ⟨_, rfl, ?_⟩;replace e0 := e0.trans x4;iterate 2 refine gP ?_
         iterate 4 refine GoR.skip rfl rfl rfl ?_
         refine gP ?_;apply gE;refine gC (b := true) rfl ?_;apply gS;refine gR rfl ?_;refine gP ?_;apply gE;exact gW Try.func23 rfl rfl ⟨rfl, e0⟩
       ·rw [List.take_of_length_le (by omega)] at hk3;iterate 2 apply gS
        refine gR rfl ?_;refine gP ?_;refine gO rfl rfl (fa29_2 rfl) rfl ?_;refine gO rfl rfl (ld27 rfl f0 rfl) rfl ?_;refine gO rfl rfl (aOp_lenSlice Try.underlying27 rfl hl3) rfl ?_;refine gO rfl rfl (kLF rfl rfl) rfl ?_;apply gE;refine gC (b := false) rfl ?_;refine gD ?_;iterate 2 apply gS
        refine gR rfl ?_;refine gP ?_;apply gE;refine Go.block noJ_ok ?_
        have hb0 := f0.1
        refine Go.loopKeep (fun i : Nat => [(1, .ptr h.next 0), (7, .int .i64 (i : Nat))]) (fun m i h' => m + i = D.ss.length ∧ Ext h h' ∧ Has h' h.next (.cells .plain [b, d, r, s] 29) ∧ ∀ p, p ∈ D.ss.take i → PairOk D.bs.length p) (n := D.ss.length) 0 ⟨rfl, rfl, trivial⟩ ⟨rfl, e0, f0, fun p hp => by simp at hp⟩ ?_;clear e0 f0 again;rintro m i hc ⟨hm, e0, f0, hk4⟩ again
        have hce := e0.1
        have hb0 := f0.1
        by_cases hi : i < D.ss.length
        ·obtain ⟨p, hp⟩ : ∃ p, D.ss[i]? = some p := ⟨D.ss[i], by simp [hi]⟩
         have hpm := List.mem_of_getElem? hp
         obtain ⟨bq, off, u1, u2⟩ := A.ss.at (i := i) (l := spC p) (by rw [List.getElem?_map, hp]; rfl)
         rw [List.length_map] at u1
         obtain ⟨pa, pb⟩ := p
         unfold spC at u2
         dsimp only at u2
         by_cases q6 : PairOk D.bs.length (pa, pb)
         ·iterate 2 apply gS
          refine gR rfl ?_;refine gP ?_;refine gO rfl rfl (fa29_3 rfl) rfl ?_;refine gO rfl rfl (ld26 rfl f0 rfl) rfl ?_;refine gO rfl rfl (aOp_lenSlice Try.underlying26 rfl hl4) rfl ?_;refine gO rfl rfl (kLT rfl rfl) rfl ?_;apply gE;refine gC (b := true) rfl ?_;refine gD ?_;apply gS;refine Go.block noJ_ok ?_;apply gS;refine Go.drawnE plan23_1 ?_;refine gQ rfl rfl (ld29 rfl f0 rfl) rfl ?_;refine gQ rfl rfl (fa29_3 rfl) rfl ?_;refine gQ rfl rfl (ld26 rfl f0 rfl) rfl ?_;refine gQ rfl rfl rfl rfl ?_;refine gQ rfl rfl (aOp_indexAddr (i := i) Try.underlying26 sz32 rfl u1 rfl (Nat.ble_eq_true_of_le hi)) rfl ?_;refine gQ rfl rfl (fa32_0 rfl) rfl ?_;refine gQ rfl rfl ((aOp_loadE1 (k := 0) ag3 rfl (u2.ext e0) rfl)) rfl ?_;refine gQ rfl rfl (fa29_3 rfl) rfl ?_;refine gQ rfl rfl (ld26 rfl f0 rfl) rfl ?_;refine gQ rfl rfl rfl rfl ?_;refine gQ rfl rfl (aOp_indexAddr (i := i) Try.underlying26 sz32 rfl u1 rfl (Nat.ble_eq_true_of_le hi)) rfl ?_;refine gQ rfl rfl (fa32_1 rfl) rfl ?_;refine gQ rfl rfl ((aOp_loadE1 (k := 1) ag3 rfl (u2.ext e0) rfl)) rfl ?_;refine GoE.call rfl rfl (aCF aFunc63 rfl) (hT _ (A.ext e0) _ _ true (decide_eq_true q6)) (dD 8191 12 (dD 8191 11 (dD 8191 10 (dD 8191 9 (dD 8191 8 (dD 8191 7 (dD 8191 6 (dD 8191 5 (dD 8191 4 (dD 8191 3 (dD 8191 2 (dD 8191 1 (dD 8191 0 rfl))))))))))))) ?_ np;rintro v2 h2 ⟨q, x2⟩;cases q;replace f0 := f0.ext x2;replace e0 := e0.trans x2;refine ⟨recheck_nil, _, rfl, ?_⟩;refine gQ rfl rfl rfl rfl ?_;refine GoE.end rfl ?_;refine gC (b := false) rfl ?_;refine gD ?_;refine Go.inBlock noJ_ok ?_;refine gR rfl ?_;refine gP ?_;refine gO rfl rfl (aA rfl rfl) rfl ?_;refine gP ?_;apply gE;refine again (m - 1) (i + 1) _ _ (by omega) ⟨rfl, rfl, trivial⟩ ⟨by omega, e0, f0, fun p' hp' => ?_⟩;rw [List.take_add_one, hp, Option.toList_some, List.mem_append, List.mem_singleton] at hp'
          rcases hp' with hp' | rfl
          ·exact hk4 p' hp'
          ·exact q6
         ·rw [show decide D.Ok = false from decide_eq_false fun O => q6 (O.s _ hpm)];iterate 2 apply gS
          refine gR rfl ?_;refine gP ?_;refine gO rfl rfl (fa29_3 rfl) rfl ?_;refine gO rfl rfl (ld26 rfl f0 rfl) rfl ?_;refine gO rfl rfl (aOp_lenSlice Try.underlying26 rfl hl4) rfl ?_;refine gO rfl rfl (kLT rfl rfl) rfl ?_;apply gE;refine gC (b := true) rfl ?_;refine gD ?_;apply gS;refine Go.block noJ_ok ?_;apply gS;refine Go.drawnE plan23_1 ?_;refine gQ rfl rfl (ld29 rfl f0 rfl) rfl ?_;refine gQ rfl rfl (fa29_3 rfl) rfl ?_;refine gQ rfl rfl (ld26 rfl f0 rfl) rfl ?_;refine gQ rfl rfl rfl rfl ?_;refine gQ rfl rfl (aOp_indexAddr (i := i) Try.underlying26 sz32 rfl u1 rfl (Nat.ble_eq_true_of_le hi)) rfl ?_;refine gQ rfl rfl (fa32_0 rfl) rfl ?_;refine gQ rfl rfl ((aOp_loadE1 (k := 0) ag3 rfl (u2.ext e0) rfl)) rfl ?_;refine gQ rfl rfl (fa29_3 rfl) rfl ?_;refine gQ rfl rfl (ld26 rfl f0 rfl) rfl ?_;refine gQ rfl rfl rfl rfl ?_;refine gQ rfl rfl (aOp_indexAddr (i := i) Try.underlying26 sz32 rfl u1 rfl (Nat.ble_eq_true_of_le hi)) rfl ?_;refine gQ rfl rfl (fa32_1 rfl) rfl ?_;refine gQ rfl rfl ((aOp_loadE1 (k := 1) ag3 rfl (u2.ext e0) rfl)) rfl ?_;refine GoE.call rfl rfl (aCF aFunc63 rfl) (hT _ (A.ext e0) _ _ false (decide_eq_false q6)) (dD 8191 12 (dD 8191 11 (dD 8191 10 (dD 8191 9 (dD 8191 8 (dD 8191 7 (dD 8191 6 (dD 8191 5 (dD 8191 4 (dD 8191 3 (dD 8191 2 (dD 8191 1 (dD 8191 0 rfl))))))))))))) ?_ np;rintro v2 h2 ⟨q, x2⟩;cases q;replace e0 := e0.trans x2;refine ⟨recheck_nil, _, rfl, ?_⟩;refine gQ rfl rfl rfl rfl ?_;refine GoE.end rfl ?_;refine gC (b := true) rfl ?_;apply gS;refine gR rfl ?_;refine gP ?_;apply gE;exact gW Try.func23 rfl rfl ⟨rfl, e0⟩
        ·rw [List.take_of_length_le (by omega)] at hk4
         have O : D.Ok := ⟨q0, hk1, q1, hk2, q2, hk3, q3, hk4⟩
         rw [decide_eq_true O];iterate 2 apply gS
         refine gR rfl ?_;refine gP ?_;refine gO rfl rfl (fa29_3 rfl) rfl ?_;refine gO rfl rfl (ld26 rfl f0 rfl) rfl ?_;refine gO rfl rfl (aOp_lenSlice Try.underlying26 rfl hl4) rfl ?_;refine gO rfl rfl (kLF rfl rfl) rfl ?_;apply gE;refine gC (b := false) rfl ?_;refine gD ?_;apply gS;refine gR rfl ?_;refine gP ?_;apply gE;exact gW Try.func23 rfl rfl ⟨rfl, e0⟩
    ·rw [show decide D.Ok = false from decide_eq_false fun O => q3 O.ns]
     have e0 : Ext h h := Ext.refl _
     refine Runs.intro aFunc23 rfl rfl rfl rfl fun rest => ?_;apply gS;refine gR rfl ?_;refine GoR.box rfl rfl rfl rfl rfl rfl fun h0 x0 f0 => ?_;replace e0 := e0.trans x0;refine gP ?_;apply gE;iterate 2 apply gS
     refine gR rfl ?_;refine gO rfl rfl (fa29_0 rfl) rfl ?_;refine gO rfl rfl (ld25 rfl f0 rfl) rfl ?_;refine gO rfl rfl (aOp_lenSlice Try.underlying25 rfl hl1) rfl ?_;refine GoR.call rfl rfl (aCF aFunc61 rfl) (in61_is (r := true) (dt (by omega))) ?_ np;rintro v1 h1 ⟨q, x1⟩;cases q;refine ⟨_, rfl, ?_⟩;replace f0 := f0.ext x1;replace e0 := e0.trans x1;iterate 2 refine gP ?_
     refine gO rfl rfl (fa29_1 rfl) rfl ?_;refine gO rfl rfl (ld26 rfl f0 rfl) rfl ?_;refine gO rfl rfl (aOp_lenSlice Try.underlying26 rfl hl2) rfl ?_;refine gO rfl rfl (kGF rfl rfl) rfl ?_;iterate 2 refine gP ?_
     refine gO rfl rfl (fa29_2 rfl) rfl ?_;refine gO rfl rfl (ld27 rfl f0 rfl) rfl ?_;refine gO rfl rfl (aOp_lenSlice Try.underlying27 rfl hl3) rfl ?_;refine gO rfl rfl (kGF rfl rfl) rfl ?_;iterate 2 refine gP ?_
     refine gO rfl rfl (fa29_3 rfl) rfl ?_;refine gO rfl rfl (ld26 rfl f0 rfl) rfl ?_;refine gO rfl rfl (aOp_lenSlice Try.underlying26 rfl hl4) rfl ?_;refine gO rfl rfl (kGT rfl rfl) rfl ?_;refine gP ?_;apply gE;refine gC (b := true) rfl ?_;apply gS;refine gR rfl ?_;refine gP ?_;apply gE;exact gW Try.func23 rfl rfl ⟨rfl, e0⟩
   ·rw [show decide D.Ok = false from decide_eq_false fun O => q2 O.nr]
    have e0 : Ext h h := Ext.refl _
    refine Runs.intro aFunc23 rfl rfl rfl rfl fun rest => ?_;apply gS;refine gR rfl ?_;refine GoR.box rfl rfl rfl rfl rfl rfl fun h0 x0 f0 => ?_;replace e0 := e0.trans x0;refine gP ?_;apply gE;iterate 2 apply gS
    refine gR rfl ?_;refine gO rfl rfl (fa29_0 rfl) rfl ?_;refine gO rfl rfl (ld25 rfl f0 rfl) rfl ?_;refine gO rfl rfl (aOp_lenSlice Try.underlying25 rfl hl1) rfl ?_;refine GoR.call rfl rfl (aCF aFunc61 rfl) (in61_is (r := true) (dt (by omega))) ?_ np;rintro v1 h1 ⟨q, x1⟩;cases q;refine ⟨_, rfl, ?_⟩;replace f0 := f0.ext x1;replace e0 := e0.trans x1;iterate 2 refine gP ?_
    refine gO rfl rfl (fa29_1 rfl) rfl ?_;refine gO rfl rfl (ld26 rfl f0 rfl) rfl ?_;refine gO rfl rfl (aOp_lenSlice Try.underlying26 rfl hl2) rfl ?_;refine gO rfl rfl (kGF rfl rfl) rfl ?_;iterate 2 refine gP ?_
    refine gO rfl rfl (fa29_2 rfl) rfl ?_;refine gO rfl rfl (ld27 rfl f0 rfl) rfl ?_;refine gO rfl rfl (aOp_lenSlice Try.underlying27 rfl hl3) rfl ?_;refine gO rfl rfl (kGT rfl rfl) rfl ?_;iterate 2 refine gP ?_
    iterate 4 refine GoR.skip rfl rfl rfl ?_
    refine gP ?_;apply gE;refine gC (b := true) rfl ?_;apply gS;refine gR rfl ?_;refine gP ?_;apply gE;exact gW Try.func23 rfl rfl ⟨rfl, e0⟩
  ·rw [show decide D.Ok = false from decide_eq_false fun O => q1 O.nd]
   have e0 : Ext h h := Ext.refl _
   refine Runs.intro aFunc23 rfl rfl rfl rfl fun rest => ?_;apply gS;refine gR rfl ?_;refine GoR.box rfl rfl rfl rfl rfl rfl fun h0 x0 f0 => ?_;replace e0 := e0.trans x0;refine gP ?_;apply gE;iterate 2 apply gS
   refine gR rfl ?_;refine gO rfl rfl (fa29_0 rfl) rfl ?_;refine gO rfl rfl (ld25 rfl f0 rfl) rfl ?_;refine gO rfl rfl (aOp_lenSlice Try.underlying25 rfl hl1) rfl ?_;refine GoR.call rfl rfl (aCF aFunc61 rfl) (in61_is (r := true) (dt (by omega))) ?_ np;rintro v1 h1 ⟨q, x1⟩;cases q;refine ⟨_, rfl, ?_⟩;replace f0 := f0.ext x1;replace e0 := e0.trans x1;iterate 2 refine gP ?_
   refine gO rfl rfl (fa29_1 rfl) rfl ?_;refine gO rfl rfl (ld26 rfl f0 rfl) rfl ?_;refine gO rfl rfl (aOp_lenSlice Try.underlying26 rfl hl2) rfl ?_;refine gO rfl rfl (kGT rfl rfl) rfl ?_;iterate 2 refine gP ?_
   iterate 4 refine GoR.skip rfl rfl rfl ?_
   iterate 2 refine gP ?_
   iterate 4 refine GoR.skip rfl rfl rfl ?_
   refine gP ?_;apply gE;refine gC (b := true) rfl ?_;apply gS;refine gR rfl ?_;refine gP ?_;apply gE;exact gW Try.func23 rfl rfl ⟨rfl, e0⟩
 ·rw [show decide D.Ok = false from decide_eq_false fun O => q0 O.nb]
  have e0 : Ext h h := Ext.refl _
  refine Runs.intro aFunc23 rfl rfl rfl rfl fun rest => ?_;apply gS;refine gR rfl ?_;refine GoR.box rfl rfl rfl rfl rfl rfl fun h0 x0 f0 => ?_;replace e0 := e0.trans x0;refine gP ?_;apply gE;iterate 2 apply gS
  refine gR rfl ?_;refine gO rfl rfl (fa29_0 rfl) rfl ?_;refine gO rfl rfl (ld25 rfl f0 rfl) rfl ?_;refine gO rfl rfl (aOp_lenSlice Try.underlying25 rfl hl1) rfl ?_;refine GoR.call rfl rfl (aCF aFunc61 rfl) (in61_is (r := false) (df (by omega))) ?_ np;rintro v1 h1 ⟨q, x1⟩;cases q;refine ⟨_, rfl, ?_⟩;replace e0 := e0.trans x1;iterate 2 refine gP ?_
  iterate 4 refine GoR.skip rfl rfl rfl ?_
  iterate 2 refine gP ?_
  iterate 4 refine GoR.skip rfl rfl rfl ?_
  iterate 2 refine gP ?_
  iterate 4 refine GoR.skip rfl rfl rfl ?_
  refine gP ?_;apply gE;refine gC (b := true) rfl ?_;apply gS;refine gR rfl ?_;refine gP ?_;apply gE;exact gW Try.func23 rfl rfl ⟨rfl, e0⟩
theorem way12_ok {a b : Int} {h : AH} : Runs Try.prog 12 [.int .i64 a, .int .i64 b] h (fun en h' => en = .ret (.agg [.int .i64 a, .int .i64 b]) ∧ Ext h h') := by
 have e0 : Ext h h := Ext.refl _
 refine Runs.intro aFunc12 rfl rfl rfl rfl fun rest => ?_;apply gS;refine gR rfl ?_;refine GoR.alloc rfl rfl rfl zt32 rfl rfl fun h0 x0 f0 => ?_;have := e0.1;replace e0 := e0.trans x0;have := f0.1;apply gE;apply gS;refine gR rfl ?_;iterate 2 refine gP ?_
 refine gO rfl rfl (aOp_build zt32 hu32 pl32 rfl rfl) rfl ?_;refine GoR.store rfl rfl rfl rfl rfl rfl f0 rfl sz32 rfl rfl rfl fun h1 u1 => ?_;replace f0 := u1.has f0;replace e0 := e0.upd u1 (by omega);apply gE;exact gV (ret_end (aResult_of Try.func12 rfl (aResults_cell rfl f0 (inCells_agg ag32 sz32 rfl))) ⟨rfl, e0⟩)
theorem span21_ok {a b : Int} {h : AH} : Runs Try.prog 21 [.int .i64 a, .int .i64 b] h (fun en h' => en = .ret (.agg [.int .i64 a, .int .i64 b]) ∧ Ext h h') := by
 have e0 : Ext h h := Ext.refl _
 refine Runs.intro aFunc21 rfl rfl rfl rfl fun rest => ?_;apply gS;refine gR rfl ?_;refine GoR.alloc rfl rfl rfl zt35 rfl rfl fun h0 x0 f0 => ?_;have := e0.1;replace e0 := e0.trans x0;have := f0.1;apply gE;apply gS;refine gR rfl ?_;iterate 2 refine gP ?_
 refine gO rfl rfl (aOp_build zt35 hu35 pl35 rfl rfl) rfl ?_;refine GoR.store rfl rfl rfl rfl rfl rfl f0 rfl sz35 rfl rfl rfl fun h1 u1 => ?_;replace f0 := u1.has f0;replace e0 := e0.upd u1 (by omega);apply gE;exact gV (ret_end (aResult_of Try.func21 rfl (aResults_cell rfl f0 (inCells_agg ag35 sz35 rfl))) ⟨rfl, e0⟩)
theorem bank43_ok {a b c d : Int} {h : AH} : Runs Try.prog 43 [.int .i64 a, .int .i64 b, .int .i64 c, .int .i64 d] h (fun en h' => en = .ret (.agg [.int .i64 a, .int .i64 b, .int .i64 c, .int .i64 d]) ∧ Ext h h') := by
 have e0 : Ext h h := Ext.refl _
 refine Runs.intro aFunc43 rfl rfl rfl rfl fun rest => ?_;apply gS;refine gR rfl ?_;refine GoR.alloc rfl rfl rfl zt60 rfl rfl fun h0 x0 f0 => ?_;have := e0.1;replace e0 := e0.trans x0;have := f0.1;apply gE;apply gS;refine gR rfl ?_;iterate 2 refine gP ?_
 refine GoR.call rfl rfl (aCF aFunc21 rfl) (span21_ok) ?_ np;rintro v1 h1 ⟨q, x1⟩;cases q;refine ⟨_, rfl, ?_⟩;replace f0 := f0.ext x1;replace e0 := e0.trans x1;iterate 2 refine gP ?_
 refine GoR.call rfl rfl (aCF aFunc21 rfl) (span21_ok) ?_ np;rintro v2 h2 ⟨q, x2⟩;cases q;refine ⟨_, rfl, ?_⟩;replace f0 := f0.ext x2;replace e0 := e0.trans x2;refine gO rfl rfl (aOp_build zt60 hu60 pl60 rfl rfl) rfl ?_;refine GoR.store rfl rfl rfl rfl rfl rfl f0 rfl sz60 rfl rfl rfl fun h3 u3 => ?_;replace f0 := u3.has f0;replace e0 := e0.upd u3 (by omega);apply gE;exact gV (ret_end (aResult_of Try.func43 rfl (aResults_cell rfl f0 (inCells_agg ag60 sz60 rfl))) ⟨rfl, e0⟩)
def sampleV (L : List (Int × Int)) : DrainV := ⟨[⟨10, 10, 4, 5⟩, ⟨8, 9, 2, 2⟩, ⟨8, 8, 3, 3⟩, ⟨5, 5, 1, 1⟩], [(0, 1), (0, 2), (1, 3), (2, 3)], [⟨0, 2, 3⟩, ⟨1, 3, 7⟩], L⟩
theorem flatten_at {α : Type} {f : α → List AVal} {sz : Nat} (hf : ∀ p, (f p).length = sz) {l : List α} : ∀ i v, (l.map f)[i]? = some v → slice? (l.flatMap f) (i * sz) sz = some v := fun i v q => flat_slice (f := f) (sz := sz) hf q
theorem sp_slice {h : AH} {b n : Nat} {g : Kd} {el : TypeId} {L : List (Int × Int)} (hn : L.length = n) (f : Has h b (.cells g (L.flatMap spC) el)) : SliceOf h 2 (.slice b 0 n n) (L.map spC) :=
 SliceOf.mk' rfl rfl f (by rw [List.length_map, hn]) fun i v q => by rw [Nat.zero_add]; exact flatten_at (f := spC) (sz := 2) (fun _ => rfl) i v q
theorem bk_slice {h : AH} {b n : Nat} {g : Kd} {el : TypeId} {L : List BkV} (hn : L.length = n) (f : Has h b (.cells g (L.flatMap BkV.cells) el)) : SliceOf h 4 (.slice b 0 n n) (L.map BkV.cells) :=
 SliceOf.mk' rfl rfl f (by rw [List.length_map, hn]) fun i v q => by rw [Nat.zero_add]; exact flatten_at (f := BkV.cells) (sz := 4) (fun _ => rfl) i v q
theorem rt_slice {h : AH} {b n : Nat} {g : Kd} {el : TypeId} {L : List RtV} (hn : L.length = n) (f : Has h b (.cells g (L.flatMap RtV.cells) el)) : SliceOf h 3 (.slice b 0 n n) (L.map RtV.cells) :=
 SliceOf.mk' rfl rfl f (by rw [List.length_map, hn]) fun i v q => by rw [Nat.zero_add]; exact flatten_at (f := RtV.cells) (sz := 3) (fun _ => rfl) i v q
theorem slice_form {h : AH} {sz : Nat} {s : AVal} {L : List (List AVal)} (k : SliceOf h sz s L) : s = .nilslice ∨ (∃ b o n c, s = .slice b o n c) ∨ ∃ b o k n, s = .gsl b o k n := by
 cases k with
 | nil => exact .inl rfl
 | mk hs hn hb hl hz hc =>
  cases s <;> first | exact .inl rfl | exact .inr (.inl ⟨_, _, _, _, rfl⟩) | exact .inr (.inr ⟨_, _, _, _, rfl⟩) | cases hs
theorem sample_ok {L : List (Int × Int)} {s : AVal} {h : AH} (hs : SliceOf h 2 s (L.map spC)) : Runs Try.prog 11 [s] h (fun en h' => ∃ b d r, en = .ret (.agg (dC b d r s)) ∧ Ext h h' ∧ DrainAt h' (sampleV L) b d r s ∧ Ext h' h') := by
 unfold dC
 rcases slice_form hs with rfl | ⟨sb, so, sn, sc, rfl⟩ | ⟨sb, so, sn, sc, rfl⟩
 ·have e0 : Ext h h := Ext.refl _
  refine Runs.intro aFunc11 rfl rfl rfl rfl fun rest => ?_;apply gS;refine gR rfl ?_;refine GoR.alloc rfl rfl rfl zt29 rfl rfl fun h0 x0 f0 => ?_;have := e0.1;replace e0 := e0.trans x0;have := f0.1;apply gE;apply gS;refine gR rfl ?_;refine GoR.call rfl rfl (aCF aFunc43 rfl) (bank43_ok) ?_ np;rintro v1 h1 ⟨q, x1⟩;cases q;refine ⟨_, rfl, ?_⟩;replace f0 := f0.ext x1;replace e0 := e0.trans x1;refine GoR.call rfl rfl (aCF aFunc43 rfl) (bank43_ok) ?_ np;rintro v2 h2 ⟨q, x2⟩;cases q;refine ⟨_, rfl, ?_⟩;replace f0 := f0.ext x2;replace e0 := e0.trans x2;refine GoR.call rfl rfl (aCF aFunc43 rfl) (bank43_ok) ?_ np;rintro v3 h3 ⟨q, x3⟩;cases q;refine ⟨_, rfl, ?_⟩;replace f0 := f0.ext x3;replace e0 := e0.trans x3;refine GoR.call rfl rfl (aCF aFunc43 rfl) (bank43_ok) ?_ np;rintro v4 h4 ⟨q, x4⟩;cases q;refine ⟨_, rfl, ?_⟩;replace f0 := f0.ext x4;replace e0 := e0.trans x4;refine GoR.buildSl rfl rfl (ps := [(0, .agg [.int .i64 10, .int .i64 10, .int .i64 4, .int .i64 5]), (1, .agg [.int .i64 8, .int .i64 9, .int .i64 2, .int .i64 2]), (2, .agg [.int .i64 8, .int .i64 8, .int .i64 3, .int .i64 3]), (3, .agg [.int .i64 5, .int .i64 5, .int .i64 1, .int .i64 1])]) (cs := ([⟨10, 10, 4, 5⟩, ⟨8, 9, 2, 2⟩, ⟨8, 8, 3, 3⟩, ⟨5, 5, 1, 1⟩] : List BkV).flatMap BkV.cells) Try.underlying25 rfl sz60 zt60 rfl rfl rfl rfl fun h5 x5 f5 => ?_;have := e0.1;have := f0.1;replace f0 := f0.ext x5;replace e0 := e0.trans x5;have := f5.1;refine GoR.call rfl rfl (aCF aFunc12 rfl) (way12_ok) ?_ np;rintro v6 h6 ⟨q, x6⟩;cases q;refine ⟨_, rfl, ?_⟩;replace f5 := f5.ext x6;replace f0 := f0.ext x6;replace e0 := e0.trans x6;refine GoR.call rfl rfl (aCF aFunc12 rfl) (way12_ok) ?_ np;rintro v7 h7 ⟨q, x7⟩;cases q;refine ⟨_, rfl, ?_⟩;replace f5 := f5.ext x7;replace f0 := f0.ext x7;replace e0 := e0.trans x7;refine GoR.call rfl rfl (aCF aFunc12 rfl) (way12_ok) ?_ np;rintro v8 h8 ⟨q, x8⟩;cases q;refine ⟨_, rfl, ?_⟩;replace f5 := f5.ext x8;replace f0 := f0.ext x8;replace e0 := e0.trans x8;refine GoR.call rfl rfl (aCF aFunc12 rfl) (way12_ok) ?_ np;rintro v9 h9 ⟨q, x9⟩;cases q;refine ⟨_, rfl, ?_⟩;replace f5 := f5.ext x9;replace f0 := f0.ext x9;replace e0 := e0.trans x9;refine GoR.buildSl rfl rfl (ps := [(0, .agg [.int .i64 0, .int .i64 1]), (1, .agg [.int .i64 0, .int .i64 2]), (2, .agg [.int .i64 1, .int .i64 3]), (3, .agg [.int .i64 2, .int .i64 3])]) (cs := ([(0, 1), (0, 2), (1, 3), (2, 3)] : List (Int × Int)).flatMap spC) Try.underlying26 rfl sz32 zt32 rfl rfl rfl rfl fun h10 x10 f10 => ?_;have := e0.1;have := f5.1;have := f0.1;replace f5 := f5.ext x10;replace f0 := f0.ext x10;replace e0 := e0.trans x10;have := f10.1;iterate 2 refine gO rfl rfl (aOp_build zt57 hu57 pl57 rfl rfl) rfl ?_
  refine GoR.buildSl rfl rfl (ps := [(0, .agg [.int .i64 0, .int .i64 2, .int .i64 3]), (1, .agg [.int .i64 1, .int .i64 3, .int .i64 7])]) (cs := ([⟨0, 2, 3⟩, ⟨1, 3, 7⟩] : List RtV).flatMap RtV.cells) Try.underlying27 rfl sz57 zt57 rfl rfl rfl rfl fun h11 x11 f11 => ?_;have := e0.1;have := f10.1;have := f5.1;have := f0.1;replace f10 := f10.ext x11;replace f5 := f5.ext x11;replace f0 := f0.ext x11;replace e0 := e0.trans x11;have := f11.1;refine gP ?_;refine gO rfl rfl (aOp_build zt29 hu29 pl29 rfl rfl) rfl ?_;refine GoR.store rfl rfl rfl rfl rfl rfl f0 rfl sz29 rfl rfl rfl fun h12 u12 => ?_;replace f11 := f11.upd u12 (by omega);replace f10 := f10.upd u12 (by omega);replace f5 := f5.upd u12 (by omega);replace f0 := u12.has f0;replace e0 := e0.upd u12 (by omega);apply gE;exact gV (ret_end (aResult_of Try.func11 rfl (aResults_cell rfl f0 (inCells_agg ag29 sz29 rfl))) ⟨_, _, _, rfl, e0, ⟨bk_slice rfl (by assumption), sp_slice rfl (by assumption), rt_slice rfl (by assumption), hs.ext e0⟩, Ext.refl _⟩)
 ·have e0 : Ext h h := Ext.refl _
  refine Runs.intro aFunc11 rfl rfl rfl rfl fun rest => ?_;apply gS;refine gR rfl ?_;refine GoR.alloc rfl rfl rfl zt29 rfl rfl fun h0 x0 f0 => ?_;have := e0.1;replace e0 := e0.trans x0;have := f0.1;apply gE;apply gS;refine gR rfl ?_;refine GoR.call rfl rfl (aCF aFunc43 rfl) (bank43_ok) ?_ np;rintro v1 h1 ⟨q, x1⟩;cases q;refine ⟨_, rfl, ?_⟩;replace f0 := f0.ext x1;replace e0 := e0.trans x1;refine GoR.call rfl rfl (aCF aFunc43 rfl) (bank43_ok) ?_ np;rintro v2 h2 ⟨q, x2⟩;cases q;refine ⟨_, rfl, ?_⟩;replace f0 := f0.ext x2;replace e0 := e0.trans x2;refine GoR.call rfl rfl (aCF aFunc43 rfl) (bank43_ok) ?_ np;rintro v3 h3 ⟨q, x3⟩;cases q;refine ⟨_, rfl, ?_⟩;replace f0 := f0.ext x3;replace e0 := e0.trans x3;refine GoR.call rfl rfl (aCF aFunc43 rfl) (bank43_ok) ?_ np;rintro v4 h4 ⟨q, x4⟩;cases q;refine ⟨_, rfl, ?_⟩;replace f0 := f0.ext x4;replace e0 := e0.trans x4;refine GoR.buildSl rfl rfl (ps := [(0, .agg [.int .i64 10, .int .i64 10, .int .i64 4, .int .i64 5]), (1, .agg [.int .i64 8, .int .i64 9, .int .i64 2, .int .i64 2]), (2, .agg [.int .i64 8, .int .i64 8, .int .i64 3, .int .i64 3]), (3, .agg [.int .i64 5, .int .i64 5, .int .i64 1, .int .i64 1])]) (cs := ([⟨10, 10, 4, 5⟩, ⟨8, 9, 2, 2⟩, ⟨8, 8, 3, 3⟩, ⟨5, 5, 1, 1⟩] : List BkV).flatMap BkV.cells) Try.underlying25 rfl sz60 zt60 rfl rfl rfl rfl fun h5 x5 f5 => ?_;have := e0.1;have := f0.1;replace f0 := f0.ext x5;replace e0 := e0.trans x5;have := f5.1;refine GoR.call rfl rfl (aCF aFunc12 rfl) (way12_ok) ?_ np;rintro v6 h6 ⟨q, x6⟩;cases q;refine ⟨_, rfl, ?_⟩;replace f5 := f5.ext x6;replace f0 := f0.ext x6;replace e0 := e0.trans x6;refine GoR.call rfl rfl (aCF aFunc12 rfl) (way12_ok) ?_ np;rintro v7 h7 ⟨q, x7⟩;cases q;refine ⟨_, rfl, ?_⟩;replace f5 := f5.ext x7;replace f0 := f0.ext x7;replace e0 := e0.trans x7;refine GoR.call rfl rfl (aCF aFunc12 rfl) (way12_ok) ?_ np;rintro v8 h8 ⟨q, x8⟩;cases q;refine ⟨_, rfl, ?_⟩;replace f5 := f5.ext x8;replace f0 := f0.ext x8;replace e0 := e0.trans x8;refine GoR.call rfl rfl (aCF aFunc12 rfl) (way12_ok) ?_ np;rintro v9 h9 ⟨q, x9⟩;cases q;refine ⟨_, rfl, ?_⟩;replace f5 := f5.ext x9;replace f0 := f0.ext x9;replace e0 := e0.trans x9;refine GoR.buildSl rfl rfl (ps := [(0, .agg [.int .i64 0, .int .i64 1]), (1, .agg [.int .i64 0, .int .i64 2]), (2, .agg [.int .i64 1, .int .i64 3]), (3, .agg [.int .i64 2, .int .i64 3])]) (cs := ([(0, 1), (0, 2), (1, 3), (2, 3)] : List (Int × Int)).flatMap spC) Try.underlying26 rfl sz32 zt32 rfl rfl rfl rfl fun h10 x10 f10 => ?_;have := e0.1;have := f5.1;have := f0.1;replace f5 := f5.ext x10;replace f0 := f0.ext x10;replace e0 := e0.trans x10;have := f10.1;iterate 2 refine gO rfl rfl (aOp_build zt57 hu57 pl57 rfl rfl) rfl ?_
  refine GoR.buildSl rfl rfl (ps := [(0, .agg [.int .i64 0, .int .i64 2, .int .i64 3]), (1, .agg [.int .i64 1, .int .i64 3, .int .i64 7])]) (cs := ([⟨0, 2, 3⟩, ⟨1, 3, 7⟩] : List RtV).flatMap RtV.cells) Try.underlying27 rfl sz57 zt57 rfl rfl rfl rfl fun h11 x11 f11 => ?_;have := e0.1;have := f10.1;have := f5.1;have := f0.1;replace f10 := f10.ext x11;replace f5 := f5.ext x11;replace f0 := f0.ext x11;replace e0 := e0.trans x11;have := f11.1;refine gP ?_;refine gO rfl rfl (aOp_build zt29 hu29 pl29 rfl rfl) rfl ?_;refine GoR.store rfl rfl rfl rfl rfl rfl f0 rfl sz29 rfl rfl rfl fun h12 u12 => ?_;replace f11 := f11.upd u12 (by omega);replace f10 := f10.upd u12 (by omega);replace f5 := f5.upd u12 (by omega);replace f0 := u12.has f0;replace e0 := e0.upd u12 (by omega);apply gE;exact gV (ret_end (aResult_of Try.func11 rfl (aResults_cell rfl f0 (inCells_agg ag29 sz29 rfl))) ⟨_, _, _, rfl, e0, ⟨bk_slice rfl (by assumption), sp_slice rfl (by assumption), rt_slice rfl (by assumption), hs.ext e0⟩, Ext.refl _⟩)
 ·have e0 : Ext h h := Ext.refl _
  refine Runs.intro aFunc11 rfl rfl rfl rfl fun rest => ?_;apply gS;refine gR rfl ?_;refine GoR.alloc rfl rfl rfl zt29 rfl rfl fun h0 x0 f0 => ?_;have := e0.1;replace e0 := e0.trans x0;have := f0.1;apply gE;apply gS;refine gR rfl ?_;refine GoR.call rfl rfl (aCF aFunc43 rfl) (bank43_ok) ?_ np;rintro v1 h1 ⟨q, x1⟩;cases q;refine ⟨_, rfl, ?_⟩;replace f0 := f0.ext x1;replace e0 := e0.trans x1;refine GoR.call rfl rfl (aCF aFunc43 rfl) (bank43_ok) ?_ np;rintro v2 h2 ⟨q, x2⟩;cases q;refine ⟨_, rfl, ?_⟩;replace f0 := f0.ext x2;replace e0 := e0.trans x2;refine GoR.call rfl rfl (aCF aFunc43 rfl) (bank43_ok) ?_ np;rintro v3 h3 ⟨q, x3⟩;cases q;refine ⟨_, rfl, ?_⟩;replace f0 := f0.ext x3;replace e0 := e0.trans x3;refine GoR.call rfl rfl (aCF aFunc43 rfl) (bank43_ok) ?_ np;rintro v4 h4 ⟨q, x4⟩;cases q;refine ⟨_, rfl, ?_⟩;replace f0 := f0.ext x4;replace e0 := e0.trans x4;refine GoR.buildSl rfl rfl (ps := [(0, .agg [.int .i64 10, .int .i64 10, .int .i64 4, .int .i64 5]), (1, .agg [.int .i64 8, .int .i64 9, .int .i64 2, .int .i64 2]), (2, .agg [.int .i64 8, .int .i64 8, .int .i64 3, .int .i64 3]), (3, .agg [.int .i64 5, .int .i64 5, .int .i64 1, .int .i64 1])]) (cs := ([⟨10, 10, 4, 5⟩, ⟨8, 9, 2, 2⟩, ⟨8, 8, 3, 3⟩, ⟨5, 5, 1, 1⟩] : List BkV).flatMap BkV.cells) Try.underlying25 rfl sz60 zt60 rfl rfl rfl rfl fun h5 x5 f5 => ?_;have := e0.1;have := f0.1;replace f0 := f0.ext x5;replace e0 := e0.trans x5;have := f5.1;refine GoR.call rfl rfl (aCF aFunc12 rfl) (way12_ok) ?_ np;rintro v6 h6 ⟨q, x6⟩;cases q;refine ⟨_, rfl, ?_⟩;replace f5 := f5.ext x6;replace f0 := f0.ext x6;replace e0 := e0.trans x6;refine GoR.call rfl rfl (aCF aFunc12 rfl) (way12_ok) ?_ np;rintro v7 h7 ⟨q, x7⟩;cases q;refine ⟨_, rfl, ?_⟩;replace f5 := f5.ext x7;replace f0 := f0.ext x7;replace e0 := e0.trans x7;refine GoR.call rfl rfl (aCF aFunc12 rfl) (way12_ok) ?_ np;rintro v8 h8 ⟨q, x8⟩;cases q;refine ⟨_, rfl, ?_⟩;replace f5 := f5.ext x8;replace f0 := f0.ext x8;replace e0 := e0.trans x8;refine GoR.call rfl rfl (aCF aFunc12 rfl) (way12_ok) ?_ np;rintro v9 h9 ⟨q, x9⟩;cases q;refine ⟨_, rfl, ?_⟩;replace f5 := f5.ext x9;replace f0 := f0.ext x9;replace e0 := e0.trans x9;refine GoR.buildSl rfl rfl (ps := [(0, .agg [.int .i64 0, .int .i64 1]), (1, .agg [.int .i64 0, .int .i64 2]), (2, .agg [.int .i64 1, .int .i64 3]), (3, .agg [.int .i64 2, .int .i64 3])]) (cs := ([(0, 1), (0, 2), (1, 3), (2, 3)] : List (Int × Int)).flatMap spC) Try.underlying26 rfl sz32 zt32 rfl rfl rfl rfl fun h10 x10 f10 => ?_;have := e0.1;have := f5.1;have := f0.1;replace f5 := f5.ext x10;replace f0 := f0.ext x10;replace e0 := e0.trans x10;have := f10.1;iterate 2 refine gO rfl rfl (aOp_build zt57 hu57 pl57 rfl rfl) rfl ?_
  refine GoR.buildSl rfl rfl (ps := [(0, .agg [.int .i64 0, .int .i64 2, .int .i64 3]), (1, .agg [.int .i64 1, .int .i64 3, .int .i64 7])]) (cs := ([⟨0, 2, 3⟩, ⟨1, 3, 7⟩] : List RtV).flatMap RtV.cells) Try.underlying27 rfl sz57 zt57 rfl rfl rfl rfl fun h11 x11 f11 => ?_;have := e0.1;have := f10.1;have := f5.1;have := f0.1;replace f10 := f10.ext x11;replace f5 := f5.ext x11;replace f0 := f0.ext x11;replace e0 := e0.trans x11;have := f11.1;refine gP ?_;refine gO rfl rfl (aOp_build zt29 hu29 pl29 rfl rfl) rfl ?_;refine GoR.store rfl rfl rfl rfl rfl rfl f0 rfl sz29 rfl rfl rfl fun h12 u12 => ?_;replace f11 := f11.upd u12 (by omega);replace f10 := f10.upd u12 (by omega);replace f5 := f5.upd u12 (by omega);replace f0 := u12.has f0;replace e0 := e0.upd u12 (by omega);apply gE;exact gV (ret_end (aResult_of Try.func11 rfl (aResults_cell rfl f0 (inCells_agg ag29 sz29 rfl))) ⟨_, _, _, rfl, e0, ⟨bk_slice rfl (by assumption), sp_slice rfl (by assumption), rt_slice rfl (by assumption), hs.ext e0⟩, Ext.refl _⟩)
end Go.Proofs.Ytkhiagdmbajimaa

namespace Go.Proofs.Ytkhiagdmbajimaa
open Go Go.AbsE
set_option linter.unusedSimpArgs false
set_option maxRecDepth 100000
set_option maxHeartbeats 0
set_option linter.unusedVariables false
theorem spanT35 : SpanT Try.prog 35 := ⟨⟨_, _, Try.underlying35, by decide, by decide, rfl, rfl, ⟨_, Try.underlying3⟩, ⟨_, Try.underlying3⟩⟩, by kernel_rfl, by kernel_rfl⟩
theorem v0 : (sampleV []).nextR 0 = (6, 0) := by decide +kernel
theorem cv0 {h : AH} {b d r s : AVal} (A : DrainAt h (sampleV []) b d r s) : Runs Try.prog 10 [.agg (dC b d r s), .int .i64 0] h (fun en h' => en = .ret (.tuple [.int .i64 6, .int .i64 0]) ∧ Ext h h') := by
 have q := Next_ok A (by decide) 0
 rw [v0] at q;exact q
theorem v1 : (sampleV []).endsR 0 = (8, 0) := by decide +kernel
theorem cv1 {h : AH} {b d r s : AVal} (A : DrainAt h (sampleV []) b d r s) : Runs Try.prog 13 [.agg (dC b d r s), .int .i64 0] h (fun en h' => en = .ret (.tuple [.int .i64 8, .int .i64 0]) ∧ Ext h h') := by
 have q := Ends_ok A (by decide) 0
 rw [v1] at q;exact q
theorem v2 : (sampleV []).waterR 1 = ((2, 7), 0) := by decide +kernel
theorem cv2 {h : AH} {b d r s : AVal} (A : DrainAt h (sampleV []) b d r s) : Runs Try.prog 14 [.agg (dC b d r s), .int .i64 1] h (fun en h' => en = .ret (.tuple [.agg [.int .i64 2, .int .i64 7], .int .i64 0]) ∧ Ext h h') := by
 have q := Water_ok A (by decide) 1
 rw [v2] at q;exact q
theorem v3 : (sampleV []).flowR 0 1 = ((0, 5), 0) := by decide +kernel
theorem cv3 {h : AH} {b d r s : AVal} (A : DrainAt h (sampleV []) b d r s) : Runs Try.prog 15 [.agg (dC b d r s), .int .i64 0, .int .i64 1] h (fun en h' => en = .ret (.tuple [.agg [.int .i64 0, .int .i64 5], .int .i64 0]) ∧ Ext h h') := by
 have q := Flow_ok A (by decide) 0 1
 rw [v3] at q;exact q
theorem v4 : (sampleV []).breaksR = ((0, 1), 0) := by decide +kernel
theorem cv4 {h : AH} {b d r s : AVal} (A : DrainAt h (sampleV []) b d r s) : Runs Try.prog 16 [.agg (dC b d r s)] h (fun en h' => en = .ret (.tuple [.int .i64 0, .int .i64 1, .int .i64 0]) ∧ Ext h h') := by
 have q := Breaks_ok A (by decide)
 rw [v4] at q;exact q
theorem v5 : (sampleV []).digR 1 2 = (1, 0) := by decide +kernel
theorem cv5 {h : AH} {b d r s : AVal} (A : DrainAt h (sampleV []) b d r s) : Runs Try.prog 17 [.agg (dC b d r s), .int .i64 1, .int .i64 2] h (fun en h' => en = .ret (.tuple [.int .i64 1, .int .i64 0]) ∧ Ext h h') := by
 have q := Dig_ok A (by decide) 1 2
 rw [v5] at q;exact q
theorem v6 : (sampleV []).stopR = ((1, 2), 0) := by decide +kernel
theorem cv6 {h : AH} {b d r s : AVal} (A : DrainAt h (sampleV []) b d r s) : Runs Try.prog 18 [.agg (dC b d r s)] h (fun en h' => en = .ret (.tuple [.int .i64 1, .int .i64 2, .int .i64 0]) ∧ Ext h h') := by
 have q := Stop_ok A (by decide)
 rw [v6] at q;exact q
theorem v7 : (sampleV [(0, 1), (0, 2)]).clashR = (3, 0) := by decide +kernel
theorem cv7 {h : AH} {b d r s : AVal} (A : DrainAt h (sampleV [(0, 1), (0, 2)]) b d r s) : Runs Try.prog 19 [.agg (dC b d r s)] h (fun en h' => en = .ret (.tuple [.int .i64 3, .int .i64 0]) ∧ Ext h h') := by
 have q := Clash_ok A (by decide)
 rw [v7] at q;exact q
theorem v8 : (sampleV []).nextR 1 = (8, 0) := by decide +kernel
theorem v9 : (sampleV []).nextR 3 = (16, 0) := by decide +kernel
theorem v10 : (sampleV [(0, 1)]).nextR 0 = (2, 0) := by decide +kernel
theorem v11 : (sampleV []).endsR 3 = (8, 0) := by decide +kernel
theorem v12 : (sampleV []).waterR 3 = ((10, 11), 0) := by decide +kernel
theorem v13 : (sampleV [(0, 1)]).waterR 1 = ((6, 7), 0) := by decide +kernel
theorem v14 : (sampleV []).flowR 1 3 = ((2, 7), 0) := by decide +kernel
theorem v15 : (sampleV []).flowR 3 1 = ((0, 0), 0) := by decide +kernel
theorem v16 : (sampleV [(0, 1)]).breaksR = ((0, 0), 0) := by decide +kernel
theorem v17 : (sampleV []).digR 0 3 = (2, 0) := by decide +kernel
theorem v18 : (sampleV [(0, 1)]).stopR = ((0, 0), 0) := by decide +kernel
theorem v19 : (sampleV [(0, 1)]).clashR = (0, 4) := by decide +kernel
theorem awake_ok {h : AH} : Runs Try.prog 20 [] h (fun en h' => en = .ret (.bool true) ∧ Ext h h') := by
 have e0 : Ext h h := Ext.refl _
 refine Runs.intro aFunc20 rfl rfl rfl rfl fun rest => ?_;apply gS;refine gR rfl ?_;refine gP ?_;apply gE;apply gS;refine gR rfl ?_;refine GoR.call rfl rfl (aCF aFunc11 rfl) (sample_ok (L := []) .nil) ?_ (by rintro _ _ ⟨b0, d0, r0, q, _, A0, _⟩; cases q);rintro v0 h0 ⟨b0, d0, r0, q, x0, A0, _⟩;cases q;refine ⟨_, rfl, ?_⟩;have := e0.1;replace e0 := e0.trans x0;refine GoR.call rfl rfl (aCF aFunc10 rfl) (cv0 A0) ?_ np;rintro v1 h1 ⟨q, x1⟩;cases q;refine ⟨_, rfl, ?_⟩;replace e0 := e0.trans x1;iterate 5 refine gP ?_
 apply gE;apply gS;refine gR rfl ?_;refine GoR.call rfl rfl (aCF aFunc11 rfl) (sample_ok (L := []) .nil) ?_ (by rintro _ _ ⟨b0, d0, r0, q, _, A0, _⟩; cases q);rintro v2 h2 ⟨b0, d0, r0, q, x2, A0, _⟩;cases q;refine ⟨_, rfl, ?_⟩;have := e0.1;replace e0 := e0.trans x2;refine GoR.call rfl rfl (aCF aFunc13 rfl) (cv1 A0) ?_ np;rintro v3 h3 ⟨q, x3⟩;cases q;refine ⟨_, rfl, ?_⟩;replace e0 := e0.trans x3;iterate 5 refine gP ?_
 apply gE;apply gS;refine gR rfl ?_;refine GoR.call rfl rfl (aCF aFunc11 rfl) (sample_ok (L := []) .nil) ?_ (by rintro _ _ ⟨b0, d0, r0, q, _, A0, _⟩; cases q);rintro v4 h4 ⟨b0, d0, r0, q, x4, A0, _⟩;cases q;refine ⟨_, rfl, ?_⟩;have := e0.1;replace e0 := e0.trans x4;refine GoR.call rfl rfl (aCF aFunc14 rfl) (cv2 A0) ?_ np;rintro v5 h5 ⟨q, x5⟩;cases q;refine ⟨_, rfl, ?_⟩;replace e0 := e0.trans x5;iterate 3 refine gP ?_
 refine GoR.alloc rfl rfl rfl zt35 rfl rfl fun h6 x6 f6 => ?_;have := e0.1;replace e0 := e0.trans x6;have := f6.1;refine GoR.store rfl rfl rfl rfl rfl rfl f6 rfl sz35 rfl rfl rfl fun h7 u7 => ?_;replace f6 := u7.has f6;replace e0 := e0.upd u7 (by omega);refine gP ?_;apply gE;apply gS;refine gR rfl ?_;refine GoR.call rfl rfl (aCF aFunc11 rfl) (sample_ok (L := []) .nil) ?_ (by rintro _ _ ⟨b0, d0, r0, q, _, A0, _⟩; cases q);rintro v8 h8 ⟨b0, d0, r0, q, x8, A0, _⟩;cases q;refine ⟨_, rfl, ?_⟩;have := e0.1;replace f6 := f6.ext x8;replace e0 := e0.trans x8;refine GoR.call rfl rfl (aCF aFunc15 rfl) (cv3 A0) ?_ np;rintro v9 h9 ⟨q, x9⟩;cases q;refine ⟨_, rfl, ?_⟩;replace f6 := f6.ext x9;replace e0 := e0.trans x9;iterate 3 refine gP ?_
 refine GoR.alloc rfl rfl rfl zt35 rfl rfl fun h10 x10 f10 => ?_;have := e0.1;have := f6.1;replace f6 := f6.ext x10;replace e0 := e0.trans x10;have := f10.1;refine GoR.store rfl rfl rfl rfl rfl rfl f10 rfl sz35 rfl rfl rfl fun h11 u11 => ?_;replace f10 := u11.has f10;replace f6 := f6.upd u11 (by omega);replace e0 := e0.upd u11 (by omega);refine gP ?_;apply gE;apply gS;refine gR rfl ?_;refine GoR.call rfl rfl (aCF aFunc11 rfl) (sample_ok (L := []) .nil) ?_ (by rintro _ _ ⟨b0, d0, r0, q, _, A0, _⟩; cases q);rintro v12 h12 ⟨b0, d0, r0, q, x12, A0, _⟩;cases q;refine ⟨_, rfl, ?_⟩;have := e0.1;replace f10 := f10.ext x12;replace f6 := f6.ext x12;replace e0 := e0.trans x12;refine GoR.call rfl rfl (aCF aFunc16 rfl) (cv4 A0) ?_ np;rintro v13 h13 ⟨q, x13⟩;cases q;refine ⟨_, rfl, ?_⟩;replace f10 := f10.ext x13;replace f6 := f6.ext x13;replace e0 := e0.trans x13;iterate 7 refine gP ?_
 apply gE;apply gS;refine gR rfl ?_;refine GoR.call rfl rfl (aCF aFunc11 rfl) (sample_ok (L := []) .nil) ?_ (by rintro _ _ ⟨b0, d0, r0, q, _, A0, _⟩; cases q);rintro v14 h14 ⟨b0, d0, r0, q, x14, A0, _⟩;cases q;refine ⟨_, rfl, ?_⟩;have := e0.1;replace f10 := f10.ext x14;replace f6 := f6.ext x14;replace e0 := e0.trans x14;refine GoR.call rfl rfl (aCF aFunc17 rfl) (cv5 A0) ?_ np;rintro v15 h15 ⟨q, x15⟩;cases q;refine ⟨_, rfl, ?_⟩;replace f10 := f10.ext x15;replace f6 := f6.ext x15;replace e0 := e0.trans x15;iterate 5 refine gP ?_
 apply gE;apply gS;refine gR rfl ?_;refine GoR.call rfl rfl (aCF aFunc11 rfl) (sample_ok (L := []) .nil) ?_ (by rintro _ _ ⟨b0, d0, r0, q, _, A0, _⟩; cases q);rintro v16 h16 ⟨b0, d0, r0, q, x16, A0, _⟩;cases q;refine ⟨_, rfl, ?_⟩;have := e0.1;replace f10 := f10.ext x16;replace f6 := f6.ext x16;replace e0 := e0.trans x16;refine GoR.call rfl rfl (aCF aFunc18 rfl) (cv6 A0) ?_ np;rintro v17 h17 ⟨q, x17⟩;cases q;refine ⟨_, rfl, ?_⟩;replace f10 := f10.ext x17;replace f6 := f6.ext x17;replace e0 := e0.trans x17;iterate 7 refine gP ?_
 apply gE;apply gS;refine gR rfl ?_;refine GoR.call rfl rfl (aCF aFunc12 rfl) (way12_ok) ?_ np;rintro v18 h18 ⟨q, x18⟩;cases q;refine ⟨_, rfl, ?_⟩;replace f10 := f10.ext x18;replace f6 := f6.ext x18;replace e0 := e0.trans x18;refine GoR.call rfl rfl (aCF aFunc12 rfl) (way12_ok) ?_ np;rintro v19 h19 ⟨q, x19⟩;cases q;refine ⟨_, rfl, ?_⟩;replace f10 := f10.ext x19;replace f6 := f6.ext x19;replace e0 := e0.trans x19;refine GoR.buildSl rfl rfl (ps := [(0, .agg [.int .i64 0, .int .i64 1]), (1, .agg [.int .i64 0, .int .i64 2])]) (cs := ([(0, 1), (0, 2)] : List (Int × Int)).flatMap spC) Try.underlying26 rfl sz32 zt32 rfl rfl rfl rfl fun h20 x20 f20 => ?_;have := e0.1;have := f10.1;have := f6.1;replace f10 := f10.ext x20;replace f6 := f6.ext x20;replace e0 := e0.trans x20;have := f20.1;refine GoR.call rfl rfl (aCF aFunc11 rfl) (sample_ok (L := [(0, 1), (0, 2)]) (sp_slice rfl (by assumption))) ?_ (by rintro _ _ ⟨b2, d2, r2, q, _, A2, _⟩; cases q);rintro v21 h21 ⟨b2, d2, r2, q, x21, A2, _⟩;cases q;refine ⟨_, rfl, ?_⟩;have := e0.1;replace f10 := f10.ext x21;replace f6 := f6.ext x21;replace e0 := e0.trans x21;refine GoR.call rfl rfl (aCF aFunc19 rfl) (cv7 A2) ?_ np;rintro v22 h22 ⟨q, x22⟩;cases q;refine ⟨_, rfl, ?_⟩;replace f10 := f10.ext x22;replace f6 := f6.ext x22;replace e0 := e0.trans x22;iterate 5 refine gP ?_
 apply gE;apply gS;refine Go.drawnE plan20_0 ?_;refine gQ rfl rfl rfl rfl ?_;refine gQ rfl rfl (kET rfl rfl) rfl ?_;iterate 2 refine gQ rfl rfl rfl rfl ?_
 refine gQ rfl rfl (kET rfl rfl) rfl ?_;iterate 3 refine gQ rfl rfl rfl rfl ?_
 refine gQ rfl rfl (kET rfl rfl) rfl ?_;iterate 3 refine gQ rfl rfl rfl rfl ?_
 refine gQ rfl rfl (kET rfl rfl) rfl ?_;iterate 2 refine gQ rfl rfl rfl rfl ?_
 refine gQ rfl rfl (ld35 rfl f6 rfl) rfl ?_;refine GoE.call rfl rfl (aCF aFunc21 rfl) (span21_ok) (dK 32767 15 (dD 32767 14 (dD 32767 13 (dD 32767 12 (dD 32767 11 (dD 32767 10 (dD 32767 9 (dD 32767 8 (dD 32767 7 (dD 32767 6 (dD 32767 5 (dD 32767 4 (dD 32767 3 (dD 32767 2 (dD 32767 1 (dD 32767 0 rfl)))))))))))))))) ?_ np;rintro v23 h23 ⟨q, x23⟩;cases q;replace f10 := f10.ext x23;replace f6 := f6.ext x23;replace e0 := e0.trans x23;refine ⟨(rck (h2 := h23) rfl (ld35 rfl f6 rfl) recheck_nil), _, rfl, ?_⟩;refine gQ rfl rfl (aOp_eqlSpan spanT35 rfl rfl rfl) rfl ?_;iterate 3 refine gQ rfl rfl rfl rfl ?_
 refine gQ rfl rfl (kET rfl rfl) rfl ?_;iterate 2 refine gQ rfl rfl rfl rfl ?_
 refine gQ rfl rfl (ld35 rfl f10 rfl) rfl ?_;refine GoE.call rfl rfl (aCF aFunc21 rfl) (span21_ok) (dK 16777215 24 (dD 16777215 23 (dD 16777215 22 (dD 16777215 21 (dD 16777215 20 (dD 16777215 19 (dD 16777215 18 (dD 16777215 17 (dD 16777215 15 rfl))))))))) ?_ np;rintro v24 h24 ⟨q, x24⟩;cases q;replace f10 := f10.ext x24;replace e0 := e0.trans x24;refine ⟨(rck (h2 := h24) rfl (ld35 rfl f10 rfl) recheck_nil), _, rfl, ?_⟩;refine gQ rfl rfl (aOp_eqlSpan spanT35 rfl rfl rfl) rfl ?_;iterate 3 refine gQ rfl rfl rfl rfl ?_
 refine gQ rfl rfl (kET rfl rfl) rfl ?_;iterate 3 refine gQ rfl rfl rfl rfl ?_
 refine gQ rfl rfl (kET rfl rfl) rfl ?_;iterate 3 refine gQ rfl rfl rfl rfl ?_
 refine gQ rfl rfl (kET rfl rfl) rfl ?_;iterate 3 refine gQ rfl rfl rfl rfl ?_
 refine gQ rfl rfl (kET rfl rfl) rfl ?_;iterate 3 refine gQ rfl rfl rfl rfl ?_
 refine gQ rfl rfl (kET rfl rfl) rfl ?_;iterate 3 refine gQ rfl rfl rfl rfl ?_
 refine gQ rfl rfl (kET rfl rfl) rfl ?_;iterate 3 refine gQ rfl rfl rfl rfl ?_
 refine gQ rfl rfl (kET rfl rfl) rfl ?_;iterate 3 refine gQ rfl rfl rfl rfl ?_
 refine gQ rfl rfl (kET rfl rfl) rfl ?_;iterate 3 refine gQ rfl rfl rfl rfl ?_
 refine gQ rfl rfl (kET rfl rfl) rfl ?_;iterate 3 refine gQ rfl rfl rfl rfl ?_
 refine gQ rfl rfl (kET rfl rfl) rfl ?_;iterate 3 refine gQ rfl rfl rfl rfl ?_
 refine gQ rfl rfl (kET rfl rfl) rfl ?_;iterate 2 refine gQ rfl rfl rfl rfl ?_
 refine GoE.end rfl ?_;exact gW Try.func20 rfl rfl ⟨rfl, e0⟩
end Go.Proofs.Ytkhiagdmbajimaa

namespace Go.Proofs.Ytkhiagdmbajimaa
open Go Go.AbsE
set_option linter.unusedSimpArgs false
set_option maxRecDepth 100000
set_option maxHeartbeats 0
set_option linter.unusedVariables false
theorem popc_half : ∀ s, s < 1024 → popc s = s % 2 + popc (s / 2) := by decide +kernel
theorem size28_ok (s : Nat) (hs : s < 1024) {h : AH} : Runs Try.prog 28 [.int .i64 (s : Nat)] h (fun en h' => en = .ret (.int .i64 (popc s : Nat)) ∧ Ext h h') := by
 have e0 : Ext h h := Ext.refl _
 refine Runs.intro aFunc28 rfl rfl rfl rfl fun rest => ?_;apply gS;refine gR rfl ?_;refine gP ?_;apply gE;apply gS;refine gR rfl ?_;refine gP ?_;apply gE;apply gS;refine Go.block noJ_ok ?_;refine Go.loopKeep (fun a : Nat × Nat => [(0, .int .i64 (a.1 : Nat)), (3, .int .i64 (a.2 : Nat))]) (fun m a h' => a.1 ≤ m ∧ a.1 < 1024 ∧ a.2 + popc a.1 = popc s ∧ Ext h h') (n := s) (s, 0) ⟨rfl, rfl, trivial⟩ ⟨Nat.le_refl _, hs, by simp, e0⟩ ?_;clear e0;rintro m ⟨z, n⟩ h2' ⟨hm, hz, hn, e0⟩ again
 dsimp only at hm hz hn ⊢
 have hp5 := popc_le s
 have hph := popc_half z hz
 by_cases hz0 : 0 < z
 ·have hr : ((z : Nat) : Int).tmod 2 = ((z % 2 : Nat) : Int) := rfl
  have hq : ((z : Nat) : Int).tdiv 2 = ((z / 2 : Nat) : Int) := rfl
  have hsum : ((n : Nat) : Int) + ((z % 2 : Nat) : Int) = ((n + z % 2 : Nat) : Int) := by push_cast; rfl
  have again2 := again (z / 2) (z / 2, n + z % 2)
  dsimp only at again2
  rw [← hsum] at again2
  obtain ⟨zr, hzr⟩ : ∃ zr, ((z % 2 : Nat) : Int) = zr := ⟨_, rfl⟩
  obtain ⟨zq, hzq⟩ : ∃ zq, ((z / 2 : Nat) : Int) = zq := ⟨_, rfl⟩
  rw [hzr] at hr again2;rw [hzq] at hq again2
  have hzr2 : 0 ≤ zr ∧ zr ≤ 1 := by omega
  have hzq2 : 0 ≤ zq ∧ zq ≤ 512 := by omega
  iterate 2 apply gS
  refine gR rfl ?_;refine gP ?_;refine gO rfl rfl (kGT rfl rfl) rfl ?_;apply gE;refine gC (b := true) rfl ?_;refine gD ?_;refine Go.block noJ_ok ?_;refine gR rfl ?_;iterate 2 refine gP ?_
  refine gO rfl rfl (aOp_rem rfl rfl (by decide) hr) rfl ?_;refine gO rfl rfl (aA rfl rfl) rfl ?_;refine gP ?_;refine gO rfl rfl (aOp_quo rfl rfl (by decide) hq (by omega)) rfl ?_;iterate 2 refine gP ?_
  apply gE;refine Go.inBlock noJ_ok ?_;exact again2 _ _ (by omega) ⟨rfl, rfl, trivial⟩ ⟨Nat.le_refl _, by omega, by omega, e0⟩
 ·have hz00 : z = 0 := by omega
  subst hz00
  have hp0 : popc 0 = 0 := by decide
  have hns : n = popc s := by omega
  subst hns;iterate 2 apply gS
  refine gR rfl ?_;refine gP ?_;refine gO rfl rfl (kGF rfl rfl) rfl ?_;apply gE;refine gC (b := false) rfl ?_;refine gD ?_;apply gS;refine gR rfl ?_;iterate 2 refine gP ?_
  apply gE;exact gW Try.func28 rfl rfl ⟨rfl, e0⟩
theorem mem_subs2 {n s : Nat} : s ∈ subs n ↔ s < 2 ^ n ∧ popc s < n + 1 := by
 unfold subs subA subB
 simp only [List.mem_flatMap, List.mem_range, List.mem_filter, decide_eq_true_eq]
 constructor
 ·rintro ⟨j, hj, h1, h3⟩;exact ⟨h1, by omega⟩
 ·rintro ⟨h1, h3⟩;exact ⟨popc s, h3, h1, rfl⟩
theorem subs_pair (n : Nat) : (subs n).Pairwise fun a b => popc a < popc b ∨ (popc a = popc b ∧ a < b) := by
 unfold subs subA
 rw [List.pairwise_flatMap];refine ⟨fun j _ => ?_, List.pairwise_lt_range.imp fun {i j} hij x hx y hy => ?_⟩
 ·unfold subB
  refine (List.Pairwise.filter _ (List.pairwise_lt_range (n := 2 ^ n))).imp_of_mem fun {a b} ha hb hab => ?_
  have h1 := (List.mem_filter.1 ha).2
  have h2 := (List.mem_filter.1 hb).2
  simp only [decide_eq_true_eq] at h1 h2
  exact .inr ⟨by omega, hab⟩
 ·have h1 := (List.mem_filter.1 hx).2
  have h2 := (List.mem_filter.1 hy).2
  simp only [decide_eq_true_eq] at h1 h2
  exact .inl (by omega)
theorem subs_first {of q : Nat} {p : Nat → Bool} (h : (subs of).find? p = some q) : q ∈ subs of ∧ p q = true ∧ ∀ s, s ∈ subs of → p s = true → popc q < popc s ∨ (popc q = popc s ∧ q ≤ s) := by
 refine ⟨List.mem_of_find?_eq_some h, List.find?_some h, fun s hs ps => ?_⟩
 obtain ⟨_, aa, bb, hl, has⟩ := List.find?_eq_some_iff_append.1 h
 have hP := subs_pair of
 rw [hl] at hs hP
 rcases List.mem_append.1 hs with q1 | q1
 ·have := has s q1
  rw [ps] at this;cases this
 ·rcases List.mem_cons.1 q1 with q2 | q2
  ·subst q2;exact .inr ⟨rfl, Nat.le_refl _⟩
  ·have := List.rel_of_pairwise_cons (List.pairwise_append.1 hP).2.1 q2
   omega
theorem andNot_le (a b : Nat) (ha : a < 2 ^ 64) : andNot a b ≤ a := by
 unfold andNot
 rw [BitVec.toNat_and, BitVec.toNat_ofNat, Nat.mod_eq_of_lt ha];exact Nat.and_le_left
theorem popc_lt : ∀ n, n ≤ 7 → ∀ s, s < 2 ^ n → popc s < n + 1 := by decide +kernel
theorem in_subs {n s : Nat} (hn : n ≤ 7) (h : s < 2 ^ n) : s ∈ subs n := mem_subs2.2 ⟨h, popc_lt n hn s h⟩
def DrainV.with (D : DrainV) (L : List (Int × Int)) : DrainV := { D with ss := L }
theorem scal_app {a b : List AVal} (ha : scalars a = true) (hb : scalars b = true) : scalars (a ++ b) = true := by
 induction a with
 | nil => exact hb
 | cons x a ih =>
  show cond (scalar x) (scalars (a ++ b)) false = true
  have h1 : cond (scalar x) (scalars a) false = true := ha
  cases q : scalar x with
  | true => rw [q] at h1; exact ih h1
  | false => rw [q] at h1; cases h1
theorem DrainAt.scal {D : DrainV} {b d r s : AVal} {h : AH} (A : DrainAt h D b d r s) : scalars (dC b d r s) = true := by
 have h2 := scal2 A.rs.scal.1 A.ss.scal.1
 have h0 := scal2 A.bs.scal.1 A.ds.scal.1
 unfold dC
 have := scal_app h0 h2
 exact this
end Go.Proofs.Ytkhiagdmbajimaa

namespace Go.Proofs.Ytkhiagdmbajimaa
open Go Go.AbsE
set_option linter.unusedSimpArgs false
set_option maxRecDepth 100000
set_option maxHeartbeats 0
set_option linter.unusedVariables false
theorem DrainB.L {D : DrainV} (B : DrainB D) : DrainL D := ⟨by have := B.b; omega, by have := B.d; omega, by have := B.r; omega, by have := B.s; omega⟩
end Go.Proofs.Ytkhiagdmbajimaa
