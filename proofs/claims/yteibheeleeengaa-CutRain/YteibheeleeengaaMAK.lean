import Derived.Test.YteibheeleeengaaMAJ
import Derived.Test.YteibheeleeengaaMAG
import Derived.Test.YteibheeleeengaaMAF
namespace Go.Proofs.Yteibheeleeengaa
open Go Go.AbsE
set_option linter.unusedSimpArgs false
set_option maxRecDepth 100000
set_option maxHeartbeats 0
set_option linter.unusedVariables false
structure CutAt (h : AH) (C : CutV) (r b l : AVal) : Prop where
 rs : SliceOf h 2 r (C.rs.map spC)
 bs : SliceOf h 4 b (C.bs.map BV.cells)
 ls : SliceOf h 3 l (C.ls.map LV.cells)
theorem CutAt.ext {h h' : AH} {C : CutV} {r b l : AVal} (k : CutAt h C r b l) (e : Ext h h') : CutAt h' C r b l := ⟨k.rs.ext e, k.bs.ext e, k.ls.ext e⟩
theorem grow_scal {h : AH} {el : TypeId} {sz lo : Nat} {s : AVal} {n : Nat} {cs : List AVal} (k : Grow h el sz lo s n cs) : scalars [s] = true ∧ s.cells = [s] := by
 rcases k.2 with ⟨rfl, _⟩ | ⟨_, b, _, rfl, _⟩
 ·exact ⟨rfl, rfl⟩
 ·exact ⟨rfl, rfl⟩
theorem grow_same {h : AH} {el : TypeId} {sz lo : Nat} {s : AVal} {n : Nat} {cs : List AVal} (k : Grow h el sz lo s n cs) : sameA s s = true := by
 rcases k.2 with ⟨rfl, _⟩ | ⟨_, b, _, rfl, _⟩
 ·rfl
 ·simp [sameA]
theorem same_cut {C : CutV} {r b l : AVal} (h1 : sameA r r = true) (h2 : sameA b b = true) (h3 : sameA l l = true) : sameA (.agg (C.cells r b l)) (.agg (C.cells r b l)) = true := by
 unfold CutV.cells
 simp [sameA, sameAs, eqI_eq, h1, h2, h3]
theorem CutAt.same {h : AH} {C : CutV} {r b l : AVal} (A : CutAt h C r b l) : sameA (.agg (C.cells r b l)) (.agg (C.cells r b l)) = true := same_cut A.rs.same A.bs.same A.ls.same
theorem any_not {α : Type} (L : List α) (p : α → Bool) : (!(L.any fun x => !p x)) = L.all p := by
 induction L with
 | nil => rfl
 | cons x L ih => rw [List.any_cons, List.all_cons, ← ih]; cases p x <;> rfl
theorem badRain_ok (x : Int × Int) (h : AH) : Runs Try.prog 71 [.agg (spC x)] h (fun en h' => en = .ret (.bool (!decide (RainOk x))) ∧ Ext h h') := by
 by_cases q : RainOk x
 ·rw [decide_eq_true q]
  unfold RainOk at q
  unfold spC
  have e0 : Ext h h := Ext.refl _
  refine Runs.intro aFunc71 rfl rfl rfl rfl fun rest => ?_;apply gS;refine gR rfl ?_;refine GoR.box rfl rfl rfl rfl rfl rfl fun h0 x0 f0 => ?_;replace e0 := e0.trans x0;refine gP ?_;apply gE;apply gS;refine gR rfl ?_;refine gO rfl rfl (ld23 rfl f0 rfl) rfl ?_;refine GoR.call rfl rfl (aCF aFunc72 rfl) (within_is (r := true) (dt (by omega))) ?_ np;rintro v1 h1 ⟨q, x1⟩;cases q;refine ⟨_, rfl, ?_⟩;replace e0 := e0.trans x1;iterate 2 refine gP ?_
  apply gE;exact gW Try.func71 rfl rfl ⟨rfl, e0⟩
 ·rw [decide_eq_false q]
  unfold RainOk at q
  unfold spC
  have e0 : Ext h h := Ext.refl _
  refine Runs.intro aFunc71 rfl rfl rfl rfl fun rest => ?_;apply gS;refine gR rfl ?_;refine GoR.box rfl rfl rfl rfl rfl rfl fun h0 x0 f0 => ?_;replace e0 := e0.trans x0;refine gP ?_;apply gE;apply gS;refine gR rfl ?_;refine gO rfl rfl (ld23 rfl f0 rfl) rfl ?_;refine GoR.call rfl rfl (aCF aFunc72 rfl) (within_is (r := false) (df (by omega))) ?_ np;rintro v1 h1 ⟨q, x1⟩;cases q;refine ⟨_, rfl, ?_⟩;replace e0 := e0.trans x1;iterate 2 refine gP ?_
  apply gE;exact gW Try.func71 rfl rfl ⟨rfl, e0⟩
theorem badBoat_ok (x : BV) (h : AH) : Runs Try.prog 76 [.agg x.cells] h (fun en h' => en = .ret (.bool (!decide x.Ok)) ∧ Ext h h') := by
 unfold BV.cells
 by_cases q1 : x.lo ≤ x.hi ∧ 0 ≤ x.lo ∧ x.hi ≤ 100
 ·by_cases q2 : 0 ≤ x.per ∧ x.per ≤ 10
  ·by_cases q3 : 0 ≤ x.room ∧ x.room ≤ 10
   ·rw [decide_eq_true (p := x.Ok) ⟨q1, q2, q3⟩]
    have e0 : Ext h h := Ext.refl _
    refine Runs.intro aFunc76 rfl rfl rfl rfl fun rest => ?_;apply gS;refine gR rfl ?_;refine GoR.box rfl rfl rfl rfl rfl rfl fun h0 x0 f0 => ?_;replace e0 := e0.trans x0;refine gP ?_;apply gE;apply gS;refine gR rfl ?_;refine gO rfl rfl (fa45_0 rfl) rfl ?_;refine gO rfl rfl (ld23 rfl f0 rfl) rfl ?_;refine GoR.call rfl rfl (aCF aFunc72 rfl) (within_is (r := true) (dt (by omega))) ?_ np;rintro v1 h1 ⟨q, x1⟩;cases q;refine ⟨_, rfl, ?_⟩;replace f0 := f0.ext x1;replace e0 := e0.trans x1;iterate 2 refine gP ?_
    refine gO rfl rfl (fa45_1 rfl) rfl ?_;refine gO rfl rfl (ld3 rfl f0 rfl) rfl ?_;refine GoR.call rfl rfl (aCF aFunc67 rfl) (inside_is (r := true) (dt (by omega))) ?_ np;rintro v2 h2 ⟨q, x2⟩;cases q;refine ⟨_, rfl, ?_⟩;replace f0 := f0.ext x2;replace e0 := e0.trans x2;iterate 3 refine gP ?_
    refine gO rfl rfl (fa45_2 rfl) rfl ?_;refine gO rfl rfl (ld3 rfl f0 rfl) rfl ?_;refine GoR.call rfl rfl (aCF aFunc67 rfl) (inside_is (r := true) (dt (by omega))) ?_ np;rintro v3 h3 ⟨q, x3⟩;cases q;refine ⟨_, rfl, ?_⟩;replace e0 := e0.trans x3;iterate 3 refine gP ?_
    apply gE;exact gW Try.func76 rfl rfl ⟨rfl, e0⟩
   ·rw [decide_eq_false (p := x.Ok) (fun w => q3 w.2.2)]
    have e0 : Ext h h := Ext.refl _
    refine Runs.intro aFunc76 rfl rfl rfl rfl fun rest => ?_;apply gS;refine gR rfl ?_;refine GoR.box rfl rfl rfl rfl rfl rfl fun h0 x0 f0 => ?_;replace e0 := e0.trans x0;refine gP ?_;apply gE;apply gS;refine gR rfl ?_;refine gO rfl rfl (fa45_0 rfl) rfl ?_;refine gO rfl rfl (ld23 rfl f0 rfl) rfl ?_;refine GoR.call rfl rfl (aCF aFunc72 rfl) (within_is (r := true) (dt (by omega))) ?_ np;rintro v1 h1 ⟨q, x1⟩;cases q;refine ⟨_, rfl, ?_⟩;replace f0 := f0.ext x1;replace e0 := e0.trans x1;iterate 2 refine gP ?_
    refine gO rfl rfl (fa45_1 rfl) rfl ?_;refine gO rfl rfl (ld3 rfl f0 rfl) rfl ?_;refine GoR.call rfl rfl (aCF aFunc67 rfl) (inside_is (r := true) (dt (by omega))) ?_ np;rintro v2 h2 ⟨q, x2⟩;cases q;refine ⟨_, rfl, ?_⟩;replace f0 := f0.ext x2;replace e0 := e0.trans x2;iterate 3 refine gP ?_
    refine gO rfl rfl (fa45_2 rfl) rfl ?_;refine gO rfl rfl (ld3 rfl f0 rfl) rfl ?_;refine GoR.call rfl rfl (aCF aFunc67 rfl) (inside_is (r := false) (df (by omega))) ?_ np;rintro v3 h3 ⟨q, x3⟩;cases q;refine ⟨_, rfl, ?_⟩;replace e0 := e0.trans x3;iterate 3 refine gP ?_
    apply gE;exact gW Try.func76 rfl rfl ⟨rfl, e0⟩
  ·rw [decide_eq_false (p := x.Ok) (fun w => q2 w.2.1)]
   have e0 : Ext h h := Ext.refl _
   refine Runs.intro aFunc76 rfl rfl rfl rfl fun rest => ?_;apply gS;refine gR rfl ?_;refine GoR.box rfl rfl rfl rfl rfl rfl fun h0 x0 f0 => ?_;replace e0 := e0.trans x0;refine gP ?_;apply gE;apply gS;refine gR rfl ?_;refine gO rfl rfl (fa45_0 rfl) rfl ?_;refine gO rfl rfl (ld23 rfl f0 rfl) rfl ?_;refine GoR.call rfl rfl (aCF aFunc72 rfl) (within_is (r := true) (dt (by omega))) ?_ np;rintro v1 h1 ⟨q, x1⟩;cases q;refine ⟨_, rfl, ?_⟩;replace f0 := f0.ext x1;replace e0 := e0.trans x1;iterate 2 refine gP ?_
   refine gO rfl rfl (fa45_1 rfl) rfl ?_;refine gO rfl rfl (ld3 rfl f0 rfl) rfl ?_;refine GoR.call rfl rfl (aCF aFunc67 rfl) (inside_is (r := false) (df (by omega))) ?_ np;rintro v2 h2 ⟨q, x2⟩;cases q;refine ⟨_, rfl, ?_⟩;replace e0 := e0.trans x2;iterate 3 refine gP ?_
   iterate 4 refine GoR.skip rfl rfl rfl ?_
   iterate 2 refine gP ?_
   apply gE;exact gW Try.func76 rfl rfl ⟨rfl, e0⟩
 ·rw [decide_eq_false (p := x.Ok) (fun w => q1 w.1)]
  have e0 : Ext h h := Ext.refl _
  refine Runs.intro aFunc76 rfl rfl rfl rfl fun rest => ?_;apply gS;refine gR rfl ?_;refine GoR.box rfl rfl rfl rfl rfl rfl fun h0 x0 f0 => ?_;replace e0 := e0.trans x0;refine gP ?_;apply gE;apply gS;refine gR rfl ?_;refine gO rfl rfl (fa45_0 rfl) rfl ?_;refine gO rfl rfl (ld23 rfl f0 rfl) rfl ?_;refine GoR.call rfl rfl (aCF aFunc72 rfl) (within_is (r := false) (df (by omega))) ?_ np;rintro v1 h1 ⟨q, x1⟩;cases q;refine ⟨_, rfl, ?_⟩;replace e0 := e0.trans x1;iterate 2 refine gP ?_
  iterate 4 refine GoR.skip rfl rfl rfl ?_
  iterate 2 refine gP ?_
  iterate 4 refine GoR.skip rfl rfl rfl ?_
  iterate 2 refine gP ?_
  apply gE;exact gW Try.func76 rfl rfl ⟨rfl, e0⟩
theorem valid_ok {C : CutV} {r b l : AVal} {h : AH} (A : CutAt h C r b l) (hb1 : C.rs.length ≤ 40) (hb2 : C.bs.length ≤ 40) (hb3 : C.ls.length ≤ 40) :
  Runs Try.prog 61 [.agg (C.cells r b l)] h (fun en h' => en = .ret (.bool C.okB) ∧ Ext h h') := by
 have hl1 := A.rs.len
 have hl2 := A.bs.len
 have hl3 := A.ls.len
 rw [List.length_map] at hl1 hl2 hl3
 have hcr : ∀ {h'}, Ext h h' → Runs Try.prog 74 [r, .func (.func 71) [] []] h' (fun en h'' => en = .ret (.bool (C.rs.any fun x => !decide (RainOk x))) ∧ Ext h' h'') := fun e =>
  cont74_ok (caps := []) aFunc71 _ (A.rs.ext e) (by omega) fun x h' hx e => badRain_ok x h'
 have hcb : ∀ {h'}, Ext h h' → Runs Try.prog 75 [b, .func (.func 76) [] []] h' (fun en h'' => en = .ret (.bool (C.bs.any fun x => !decide x.Ok)) ∧ Ext h' h'') := fun e =>
  cont75_ok (caps := []) aFunc76 _ (A.bs.ext e) (by omega) fun x h' hx e => badBoat_ok x h'
 have hcl : ∀ {h' : AH} {bb : Nat}, Ext h h' → Has h' bb (.cells .plain (C.cells r b l) 28) → Runs Try.prog 77 [l, .func (.func 73) [] [.ptr bb 0]] h' (fun en h'' => en = .ret (.bool (C.ls.any fun x => !decide (x.Ok C.rs.length))) ∧ Ext h' h'') := fun {h' bb} e f => by
  have hfb := f.1
  refine cont77_ok (caps := [.ptr bb 0]) aFunc73 _ (A.ls.ext e) (by omega) fun x h'' hx k9 => ?_
  have f0 := f.ext k9
  clear k9 f hfb
  unfold CutV.cells LV.cells at *
  by_cases q1 : 0 ≤ x.day ∧ x.day ≤ C.rs.length
  ·by_cases q2 : x.lo ≤ x.hi ∧ 0 ≤ x.lo ∧ x.hi ≤ 100
   ·rw [decide_eq_true (p := x.Ok C.rs.length) ⟨q1, q2⟩]
    have e0 : Ext h'' h'' := Ext.refl _
    refine Runs.intro aFunc73 rfl rfl rfl rfl fun rest => ?_;apply gS;refine gR rfl ?_;refine GoR.box rfl rfl rfl rfl rfl rfl fun h1 x1 f1 => ?_;replace f0 := f0.ext x1;replace e0 := e0.trans x1;refine gP ?_;apply gE;apply gS;refine gR rfl ?_;refine gO rfl rfl (fa53_0 rfl) rfl ?_;refine gO rfl rfl (ld3 rfl f1 rfl) rfl ?_;refine gO rfl rfl (fa28_2 rfl) rfl ?_;refine gO rfl rfl (ld24 rfl f0 rfl) rfl ?_;refine gO rfl rfl (aOp_lenSlice Try.underlying24 rfl hl1) rfl ?_;refine GoR.call rfl rfl (aCF aFunc67 rfl) (inside_is (r := true) (dt (by omega))) ?_ np;rintro v2 h2 ⟨q, x2⟩;cases q;refine ⟨_, rfl, ?_⟩;replace f1 := f1.ext x2;replace e0 := e0.trans x2;iterate 2 refine gP ?_
    refine gO rfl rfl (fa53_1 rfl) rfl ?_;refine gO rfl rfl (ld23 rfl f1 rfl) rfl ?_;refine GoR.call rfl rfl (aCF aFunc72 rfl) (within_is (r := true) (dt (by omega))) ?_ np;rintro v3 h3 ⟨q, x3⟩;cases q;refine ⟨_, rfl, ?_⟩;replace e0 := e0.trans x3;iterate 3 refine gP ?_
    apply gE;exact gW Try.func73 rfl rfl ⟨rfl, e0⟩
   ·rw [decide_eq_false (p := x.Ok C.rs.length) (fun w => q2 w.2)]
    have e0 : Ext h'' h'' := Ext.refl _
    refine Runs.intro aFunc73 rfl rfl rfl rfl fun rest => ?_;apply gS;refine gR rfl ?_;refine GoR.box rfl rfl rfl rfl rfl rfl fun h1 x1 f1 => ?_;replace f0 := f0.ext x1;replace e0 := e0.trans x1;refine gP ?_;apply gE;apply gS;refine gR rfl ?_;refine gO rfl rfl (fa53_0 rfl) rfl ?_;refine gO rfl rfl (ld3 rfl f1 rfl) rfl ?_;refine gO rfl rfl (fa28_2 rfl) rfl ?_;refine gO rfl rfl (ld24 rfl f0 rfl) rfl ?_;refine gO rfl rfl (aOp_lenSlice Try.underlying24 rfl hl1) rfl ?_;refine GoR.call rfl rfl (aCF aFunc67 rfl) (inside_is (r := true) (dt (by omega))) ?_ np;rintro v2 h2 ⟨q, x2⟩;cases q;refine ⟨_, rfl, ?_⟩;replace f1 := f1.ext x2;replace e0 := e0.trans x2;iterate 2 refine gP ?_
    refine gO rfl rfl (fa53_1 rfl) rfl ?_;refine gO rfl rfl (ld23 rfl f1 rfl) rfl ?_;refine GoR.call rfl rfl (aCF aFunc72 rfl) (within_is (r := false) (df (by omega))) ?_ np;rintro v3 h3 ⟨q, x3⟩;cases q;refine ⟨_, rfl, ?_⟩;replace e0 := e0.trans x3;iterate 3 refine gP ?_
    apply gE;exact gW Try.func73 rfl rfl ⟨rfl, e0⟩
  ·rw [decide_eq_false (p := x.Ok C.rs.length) (fun w => q1 w.1)]
   have e0 : Ext h'' h'' := Ext.refl _
   refine Runs.intro aFunc73 rfl rfl rfl rfl fun rest => ?_;apply gS;refine gR rfl ?_;refine GoR.box rfl rfl rfl rfl rfl rfl fun h1 x1 f1 => ?_;replace f0 := f0.ext x1;replace e0 := e0.trans x1;refine gP ?_;apply gE;apply gS;refine gR rfl ?_;refine gO rfl rfl (fa53_0 rfl) rfl ?_;refine gO rfl rfl (ld3 rfl f1 rfl) rfl ?_;refine gO rfl rfl (fa28_2 rfl) rfl ?_;refine gO rfl rfl (ld24 rfl f0 rfl) rfl ?_;refine gO rfl rfl (aOp_lenSlice Try.underlying24 rfl hl1) rfl ?_;refine GoR.call rfl rfl (aCF aFunc67 rfl) (inside_is (r := false) (df (by omega))) ?_ np;rintro v2 h2 ⟨q, x2⟩;cases q;refine ⟨_, rfl, ?_⟩;replace e0 := e0.trans x2;iterate 2 refine gP ?_
   iterate 4 refine GoR.skip rfl rfl rfl ?_
   iterate 2 refine gP ?_
   apply gE;exact gW Try.func73 rfl rfl ⟨rfl, e0⟩
 unfold CutV.okB
 by_cases q0 : 1 ≤ C.rs.length ∧ C.rs.length ≤ 8
 ·rw [decide_eq_true q0]
  cases q1 : C.rs.all (fun x => decide (RainOk x)) with
  | true =>
   have w1 : C.rs.any (fun x => !decide (RainOk x)) = false := by rw [← any_not] at q1; simpa using q1
   rw [w1] at hcr
   by_cases q2 : 1 ≤ C.most ∧ C.most ≤ 100
   ·rw [decide_eq_true q2]
    by_cases q3 : C.dl ≤ C.dh ∧ 0 ≤ C.dl ∧ C.dh ≤ C.most
    ·rw [decide_eq_true q3]
     by_cases q4 : C.kl ≤ C.kh ∧ 0 ≤ C.kl ∧ C.kh ≤ 10
     ·rw [decide_eq_true q4]
      by_cases q5 : C.bs.length ≤ 4
      ·rw [decide_eq_true q5]
       cases q6 : C.bs.all (fun x => decide x.Ok) with
       | true =>
        have w6 : C.bs.any (fun x => !decide x.Ok) = false := by rw [← any_not] at q6; simpa using q6
        rw [w6] at hcb
        by_cases q7 : C.ls.length ≤ 5
        ·rw [decide_eq_true q7]
         cases q8 : C.ls.all (fun x => decide (x.Ok C.rs.length)) with
         | true =>
          have w8 : C.ls.any (fun x => !decide (x.Ok C.rs.length)) = false := by rw [← any_not] at q8; simpa using q8
          rw [w8] at hcl
          unfold CutV.cells at *
          have e0 : Ext h h := Ext.refl _
          refine Runs.intro aFunc61 rfl rfl rfl rfl fun rest => ?_;apply gS;refine gR rfl ?_;refine GoR.box rfl rfl rfl rfl rfl rfl fun h0 x0 f0 => ?_;replace e0 := e0.trans x0;refine gP ?_;apply gE;apply gS;refine gR rfl ?_;refine gP ?_;apply gE;apply gS;refine gR rfl ?_;iterate 2 refine gP ?_
          apply gE;apply gS;refine gR rfl ?_;refine gO rfl rfl (fa28_2 rfl) rfl ?_;refine gO rfl rfl (ld24 rfl f0 rfl) rfl ?_;refine gO rfl rfl (aOp_lenSlice Try.underlying24 rfl hl1) rfl ?_;refine GoR.call rfl rfl (aCF aFunc67 rfl) (inside_is (r := true) (dt (by omega))) ?_ np;rintro v1 h1 ⟨q, x1⟩;cases q;refine ⟨_, rfl, ?_⟩;replace f0 := f0.ext x1;replace e0 := e0.trans x1;refine gP ?_;refine gO rfl rfl (fa28_2 rfl) rfl ?_;refine gO rfl rfl (ld24 rfl f0 rfl) rfl ?_;refine gP ?_;refine GoR.call rfl rfl (aCF aFunc74 rfl) (hcr e0) ?_ np;rintro v2 h2 ⟨q, x2⟩;cases q;refine ⟨_, rfl, ?_⟩;replace f0 := f0.ext x2;replace e0 := e0.trans x2;iterate 3 refine gP ?_
          refine gO rfl rfl (fa28_3 rfl) rfl ?_;refine gO rfl rfl (ld3 rfl f0 rfl) rfl ?_;refine GoR.call rfl rfl (aCF aFunc67 rfl) (inside_is (r := true) (dt (by omega))) ?_ np;rintro v3 h3 ⟨q, x3⟩;cases q;refine ⟨_, rfl, ?_⟩;replace f0 := f0.ext x3;replace e0 := e0.trans x3;iterate 2 refine gP ?_
          refine gO rfl rfl (fa28_0 rfl) rfl ?_;refine gO rfl rfl (ld23 rfl f0 rfl) rfl ?_;refine gO rfl rfl (fa28_3 rfl) rfl ?_;refine gO rfl rfl (ld3 rfl f0 rfl) rfl ?_;refine GoR.call rfl rfl (aCF aFunc72 rfl) (within_is (r := true) (dt (by omega))) ?_ np;rintro v4 h4 ⟨q, x4⟩;cases q;refine ⟨_, rfl, ?_⟩;replace f0 := f0.ext x4;replace e0 := e0.trans x4;iterate 2 refine gP ?_
          refine gO rfl rfl (fa28_1 rfl) rfl ?_;refine gO rfl rfl (ld23 rfl f0 rfl) rfl ?_;refine GoR.call rfl rfl (aCF aFunc72 rfl) (within_is (r := true) (dt (by omega))) ?_ np;rintro v5 h5 ⟨q, x5⟩;cases q;refine ⟨_, rfl, ?_⟩;replace f0 := f0.ext x5;replace e0 := e0.trans x5;iterate 2 refine gP ?_
          refine gO rfl rfl (fa28_4 rfl) rfl ?_;refine gO rfl rfl (ld25 rfl f0 rfl) rfl ?_;refine gO rfl rfl (aOp_lenSlice Try.underlying25 rfl hl2) rfl ?_;refine gO rfl rfl (kMT rfl rfl) rfl ?_;iterate 2 refine gP ?_
          refine gO rfl rfl (fa28_4 rfl) rfl ?_;refine gO rfl rfl (ld25 rfl f0 rfl) rfl ?_;refine GoR.call rfl rfl (aCF aFunc75 rfl) (hcb e0) ?_ np;rintro v6 h6 ⟨q, x6⟩;cases q;refine ⟨_, rfl, ?_⟩;replace f0 := f0.ext x6;replace e0 := e0.trans x6;iterate 3 refine gP ?_
          refine gO rfl rfl (fa28_5 rfl) rfl ?_;refine gO rfl rfl (ld26 rfl f0 rfl) rfl ?_;refine gO rfl rfl (aOp_lenSlice Try.underlying26 rfl hl3) rfl ?_;refine gO rfl rfl (kMT rfl rfl) rfl ?_;iterate 2 refine gP ?_
          refine gO rfl rfl (fa28_5 rfl) rfl ?_;refine gO rfl rfl (ld26 rfl f0 rfl) rfl ?_;refine gP ?_;refine GoR.call rfl rfl (aCF aFunc77 rfl) (hcl e0 (by assumption)) ?_ np;rintro v7 h7 ⟨q, x7⟩;cases q;refine ⟨_, rfl, ?_⟩;replace f0 := f0.ext x7;replace e0 := e0.trans x7;iterate 3 refine gP ?_
          apply gE;exact gW Try.func61 rfl rfl ⟨rfl, e0⟩
         | false =>
          have w8 : C.ls.any (fun x => !decide (x.Ok C.rs.length)) = true := by rw [← any_not] at q8; simpa using q8
          rw [w8] at hcl
          unfold CutV.cells at *
          have e0 : Ext h h := Ext.refl _
          refine Runs.intro aFunc61 rfl rfl rfl rfl fun rest => ?_;apply gS;refine gR rfl ?_;refine GoR.box rfl rfl rfl rfl rfl rfl fun h0 x0 f0 => ?_;replace e0 := e0.trans x0;refine gP ?_;apply gE;apply gS;refine gR rfl ?_;refine gP ?_;apply gE;apply gS;refine gR rfl ?_;iterate 2 refine gP ?_
          apply gE;apply gS;refine gR rfl ?_;refine gO rfl rfl (fa28_2 rfl) rfl ?_;refine gO rfl rfl (ld24 rfl f0 rfl) rfl ?_;refine gO rfl rfl (aOp_lenSlice Try.underlying24 rfl hl1) rfl ?_;refine GoR.call rfl rfl (aCF aFunc67 rfl) (inside_is (r := true) (dt (by omega))) ?_ np;rintro v1 h1 ⟨q, x1⟩;cases q;refine ⟨_, rfl, ?_⟩;replace f0 := f0.ext x1;replace e0 := e0.trans x1;refine gP ?_;refine gO rfl rfl (fa28_2 rfl) rfl ?_;refine gO rfl rfl (ld24 rfl f0 rfl) rfl ?_;refine gP ?_;refine GoR.call rfl rfl (aCF aFunc74 rfl) (hcr e0) ?_ np;rintro v2 h2 ⟨q, x2⟩;cases q;refine ⟨_, rfl, ?_⟩;replace f0 := f0.ext x2;replace e0 := e0.trans x2;iterate 3 refine gP ?_
          refine gO rfl rfl (fa28_3 rfl) rfl ?_;refine gO rfl rfl (ld3 rfl f0 rfl) rfl ?_;refine GoR.call rfl rfl (aCF aFunc67 rfl) (inside_is (r := true) (dt (by omega))) ?_ np;rintro v3 h3 ⟨q, x3⟩;cases q;refine ⟨_, rfl, ?_⟩;replace f0 := f0.ext x3;replace e0 := e0.trans x3;iterate 2 refine gP ?_
          refine gO rfl rfl (fa28_0 rfl) rfl ?_;refine gO rfl rfl (ld23 rfl f0 rfl) rfl ?_;refine gO rfl rfl (fa28_3 rfl) rfl ?_;refine gO rfl rfl (ld3 rfl f0 rfl) rfl ?_;refine GoR.call rfl rfl (aCF aFunc72 rfl) (within_is (r := true) (dt (by omega))) ?_ np;rintro v4 h4 ⟨q, x4⟩;cases q;refine ⟨_, rfl, ?_⟩;replace f0 := f0.ext x4;replace e0 := e0.trans x4;iterate 2 refine gP ?_
          refine gO rfl rfl (fa28_1 rfl) rfl ?_;refine gO rfl rfl (ld23 rfl f0 rfl) rfl ?_;refine GoR.call rfl rfl (aCF aFunc72 rfl) (within_is (r := true) (dt (by omega))) ?_ np;rintro v5 h5 ⟨q, x5⟩;cases q;refine ⟨_, rfl, ?_⟩;replace f0 := f0.ext x5;replace e0 := e0.trans x5;iterate 2 refine gP ?_
          refine gO rfl rfl (fa28_4 rfl) rfl ?_;refine gO rfl rfl (ld25 rfl f0 rfl) rfl ?_;refine gO rfl rfl (aOp_lenSlice Try.underlying25 rfl hl2) rfl ?_;refine gO rfl rfl (kMT rfl rfl) rfl ?_;iterate 2 refine gP ?_
          refine gO rfl rfl (fa28_4 rfl) rfl ?_;refine gO rfl rfl (ld25 rfl f0 rfl) rfl ?_;refine GoR.call rfl rfl (aCF aFunc75 rfl) (hcb e0) ?_ np;rintro v6 h6 ⟨q, x6⟩;cases q;refine ⟨_, rfl, ?_⟩;replace f0 := f0.ext x6;replace e0 := e0.trans x6;iterate 3 refine gP ?_
          refine gO rfl rfl (fa28_5 rfl) rfl ?_;refine gO rfl rfl (ld26 rfl f0 rfl) rfl ?_;refine gO rfl rfl (aOp_lenSlice Try.underlying26 rfl hl3) rfl ?_;refine gO rfl rfl (kMT rfl rfl) rfl ?_;iterate 2 refine gP ?_
          refine gO rfl rfl (fa28_5 rfl) rfl ?_;refine gO rfl rfl (ld26 rfl f0 rfl) rfl ?_;refine gP ?_;refine GoR.call rfl rfl (aCF aFunc77 rfl) (hcl e0 (by assumption)) ?_ np;rintro v7 h7 ⟨q, x7⟩;cases q;refine ⟨_, rfl, ?_⟩;replace e0 := e0.trans x7;iterate 3 refine gP ?_
          apply gE;exact gW Try.func61 rfl rfl ⟨rfl, e0⟩
        ·rw [decide_eq_false q7]
         unfold CutV.cells at *
         have e0 : Ext h h := Ext.refl _
         refine Runs.intro aFunc61 rfl rfl rfl rfl fun rest => ?_;apply gS;refine gR rfl ?_;refine GoR.box rfl rfl rfl rfl rfl rfl fun h0 x0 f0 => ?_;replace e0 := e0.trans x0;refine gP ?_;apply gE;apply gS;refine gR rfl ?_;refine gP ?_;apply gE;apply gS;refine gR rfl ?_;iterate 2 refine gP ?_
         apply gE;apply gS;refine gR rfl ?_;refine gO rfl rfl (fa28_2 rfl) rfl ?_;refine gO rfl rfl (ld24 rfl f0 rfl) rfl ?_;refine gO rfl rfl (aOp_lenSlice Try.underlying24 rfl hl1) rfl ?_;refine GoR.call rfl rfl (aCF aFunc67 rfl) (inside_is (r := true) (dt (by omega))) ?_ np;rintro v1 h1 ⟨q, x1⟩;cases q;refine ⟨_, rfl, ?_⟩;replace f0 := f0.ext x1;replace e0 := e0.trans x1;refine gP ?_;refine gO rfl rfl (fa28_2 rfl) rfl ?_;refine gO rfl rfl (ld24 rfl f0 rfl) rfl ?_;refine gP ?_;refine GoR.call rfl rfl (aCF aFunc74 rfl) (hcr e0) ?_ np;rintro v2 h2 ⟨q, x2⟩;cases q;refine ⟨_, rfl, ?_⟩;replace f0 := f0.ext x2;replace e0 := e0.trans x2;iterate 3 refine gP ?_
         refine gO rfl rfl (fa28_3 rfl) rfl ?_;refine gO rfl rfl (ld3 rfl f0 rfl) rfl ?_;refine GoR.call rfl rfl (aCF aFunc67 rfl) (inside_is (r := true) (dt (by omega))) ?_ np;rintro v3 h3 ⟨q, x3⟩;cases q;refine ⟨_, rfl, ?_⟩;replace f0 := f0.ext x3;replace e0 := e0.trans x3;iterate 2 refine gP ?_
         refine gO rfl rfl (fa28_0 rfl) rfl ?_;refine gO rfl rfl (ld23 rfl f0 rfl) rfl ?_;refine gO rfl rfl (fa28_3 rfl) rfl ?_;refine gO rfl rfl (ld3 rfl f0 rfl) rfl ?_;refine GoR.call rfl rfl (aCF aFunc72 rfl) (within_is (r := true) (dt (by omega))) ?_ np;rintro v4 h4 ⟨q, x4⟩;cases q;refine ⟨_, rfl, ?_⟩;replace f0 := f0.ext x4;replace e0 := e0.trans x4;iterate 2 refine gP ?_
         refine gO rfl rfl (fa28_1 rfl) rfl ?_;refine gO rfl rfl (ld23 rfl f0 rfl) rfl ?_;refine GoR.call rfl rfl (aCF aFunc72 rfl) (within_is (r := true) (dt (by omega))) ?_ np;rintro v5 h5 ⟨q, x5⟩;cases q;refine ⟨_, rfl, ?_⟩;replace f0 := f0.ext x5;replace e0 := e0.trans x5;iterate 2 refine gP ?_
         refine gO rfl rfl (fa28_4 rfl) rfl ?_;refine gO rfl rfl (ld25 rfl f0 rfl) rfl ?_;refine gO rfl rfl (aOp_lenSlice Try.underlying25 rfl hl2) rfl ?_;refine gO rfl rfl (kMT rfl rfl) rfl ?_;iterate 2 refine gP ?_
         refine gO rfl rfl (fa28_4 rfl) rfl ?_;refine gO rfl rfl (ld25 rfl f0 rfl) rfl ?_;refine GoR.call rfl rfl (aCF aFunc75 rfl) (hcb e0) ?_ np;rintro v6 h6 ⟨q, x6⟩;cases q;refine ⟨_, rfl, ?_⟩;replace f0 := f0.ext x6;replace e0 := e0.trans x6;iterate 3 refine gP ?_
         refine gO rfl rfl (fa28_5 rfl) rfl ?_;refine gO rfl rfl (ld26 rfl f0 rfl) rfl ?_;refine gO rfl rfl (aOp_lenSlice Try.underlying26 rfl hl3) rfl ?_;refine gO rfl rfl (kMF rfl rfl) rfl ?_;iterate 2 refine gP ?_
         iterate 5 refine GoR.skip rfl rfl rfl ?_
         iterate 2 refine gP ?_
         apply gE;exact gW Try.func61 rfl rfl ⟨rfl, e0⟩
       | false =>
        have w6 : C.bs.any (fun x => !decide x.Ok) = true := by rw [← any_not] at q6; simpa using q6
        rw [w6] at hcb
        unfold CutV.cells at *
        have e0 : Ext h h := Ext.refl _
        refine Runs.intro aFunc61 rfl rfl rfl rfl fun rest => ?_;apply gS;refine gR rfl ?_;refine GoR.box rfl rfl rfl rfl rfl rfl fun h0 x0 f0 => ?_;replace e0 := e0.trans x0;refine gP ?_;apply gE;apply gS;refine gR rfl ?_;refine gP ?_;apply gE;apply gS;refine gR rfl ?_;iterate 2 refine gP ?_
        apply gE;apply gS;refine gR rfl ?_;refine gO rfl rfl (fa28_2 rfl) rfl ?_;refine gO rfl rfl (ld24 rfl f0 rfl) rfl ?_;refine gO rfl rfl (aOp_lenSlice Try.underlying24 rfl hl1) rfl ?_;refine GoR.call rfl rfl (aCF aFunc67 rfl) (inside_is (r := true) (dt (by omega))) ?_ np;rintro v1 h1 ⟨q, x1⟩;cases q;refine ⟨_, rfl, ?_⟩;replace f0 := f0.ext x1;replace e0 := e0.trans x1;refine gP ?_;refine gO rfl rfl (fa28_2 rfl) rfl ?_;refine gO rfl rfl (ld24 rfl f0 rfl) rfl ?_;refine gP ?_;refine GoR.call rfl rfl (aCF aFunc74 rfl) (hcr e0) ?_ np;rintro v2 h2 ⟨q, x2⟩;cases q;refine ⟨_, rfl, ?_⟩;replace f0 := f0.ext x2;replace e0 := e0.trans x2;iterate 3 refine gP ?_
        refine gO rfl rfl (fa28_3 rfl) rfl ?_;refine gO rfl rfl (ld3 rfl f0 rfl) rfl ?_;refine GoR.call rfl rfl (aCF aFunc67 rfl) (inside_is (r := true) (dt (by omega))) ?_ np;rintro v3 h3 ⟨q, x3⟩;cases q;refine ⟨_, rfl, ?_⟩;replace f0 := f0.ext x3;replace e0 := e0.trans x3;iterate 2 refine gP ?_
        refine gO rfl rfl (fa28_0 rfl) rfl ?_;refine gO rfl rfl (ld23 rfl f0 rfl) rfl ?_;refine gO rfl rfl (fa28_3 rfl) rfl ?_;refine gO rfl rfl (ld3 rfl f0 rfl) rfl ?_;refine GoR.call rfl rfl (aCF aFunc72 rfl) (within_is (r := true) (dt (by omega))) ?_ np;rintro v4 h4 ⟨q, x4⟩;cases q;refine ⟨_, rfl, ?_⟩;replace f0 := f0.ext x4;replace e0 := e0.trans x4;iterate 2 refine gP ?_
        refine gO rfl rfl (fa28_1 rfl) rfl ?_;refine gO rfl rfl (ld23 rfl f0 rfl) rfl ?_;refine GoR.call rfl rfl (aCF aFunc72 rfl) (within_is (r := true) (dt (by omega))) ?_ np;rintro v5 h5 ⟨q, x5⟩;cases q;refine ⟨_, rfl, ?_⟩;replace f0 := f0.ext x5;replace e0 := e0.trans x5;iterate 2 refine gP ?_
        refine gO rfl rfl (fa28_4 rfl) rfl ?_;refine gO rfl rfl (ld25 rfl f0 rfl) rfl ?_;refine gO rfl rfl (aOp_lenSlice Try.underlying25 rfl hl2) rfl ?_;refine gO rfl rfl (kMT rfl rfl) rfl ?_;iterate 2 refine gP ?_
        refine gO rfl rfl (fa28_4 rfl) rfl ?_;refine gO rfl rfl (ld25 rfl f0 rfl) rfl ?_;refine GoR.call rfl rfl (aCF aFunc75 rfl) (hcb e0) ?_ np;rintro v6 h6 ⟨q, x6⟩;cases q;refine ⟨_, rfl, ?_⟩;replace e0 := e0.trans x6;iterate 3 refine gP ?_
        iterate 4 refine GoR.skip rfl rfl rfl ?_
        iterate 2 refine gP ?_
        iterate 5 refine GoR.skip rfl rfl rfl ?_
        iterate 2 refine gP ?_
        apply gE;exact gW Try.func61 rfl rfl ⟨rfl, e0⟩
      ·rw [decide_eq_false q5]
       unfold CutV.cells at *
       have e0 : Ext h h := Ext.refl _
       refine Runs.intro aFunc61 rfl rfl rfl rfl fun rest => ?_;apply gS;refine gR rfl ?_;refine GoR.box rfl rfl rfl rfl rfl rfl fun h0 x0 f0 => ?_;replace e0 := e0.trans x0;refine gP ?_;apply gE;apply gS;refine gR rfl ?_;refine gP ?_;apply gE;apply gS;refine gR rfl ?_;iterate 2 refine gP ?_
       apply gE;apply gS;refine gR rfl ?_;refine gO rfl rfl (fa28_2 rfl) rfl ?_;refine gO rfl rfl (ld24 rfl f0 rfl) rfl ?_;refine gO rfl rfl (aOp_lenSlice Try.underlying24 rfl hl1) rfl ?_;refine GoR.call rfl rfl (aCF aFunc67 rfl) (inside_is (r := true) (dt (by omega))) ?_ np;rintro v1 h1 ⟨q, x1⟩;cases q;refine ⟨_, rfl, ?_⟩;replace f0 := f0.ext x1;replace e0 := e0.trans x1;refine gP ?_;refine gO rfl rfl (fa28_2 rfl) rfl ?_;refine gO rfl rfl (ld24 rfl f0 rfl) rfl ?_;refine gP ?_;refine GoR.call rfl rfl (aCF aFunc74 rfl) (hcr e0) ?_ np;rintro v2 h2 ⟨q, x2⟩;cases q;refine ⟨_, rfl, ?_⟩;replace f0 := f0.ext x2;replace e0 := e0.trans x2;iterate 3 refine gP ?_
       refine gO rfl rfl (fa28_3 rfl) rfl ?_;refine gO rfl rfl (ld3 rfl f0 rfl) rfl ?_;refine GoR.call rfl rfl (aCF aFunc67 rfl) (inside_is (r := true) (dt (by omega))) ?_ np;rintro v3 h3 ⟨q, x3⟩;cases q;refine ⟨_, rfl, ?_⟩;replace f0 := f0.ext x3;replace e0 := e0.trans x3;iterate 2 refine gP ?_
       refine gO rfl rfl (fa28_0 rfl) rfl ?_;refine gO rfl rfl (ld23 rfl f0 rfl) rfl ?_;refine gO rfl rfl (fa28_3 rfl) rfl ?_;refine gO rfl rfl (ld3 rfl f0 rfl) rfl ?_;refine GoR.call rfl rfl (aCF aFunc72 rfl) (within_is (r := true) (dt (by omega))) ?_ np;rintro v4 h4 ⟨q, x4⟩;cases q;refine ⟨_, rfl, ?_⟩;replace f0 := f0.ext x4;replace e0 := e0.trans x4;iterate 2 refine gP ?_
       refine gO rfl rfl (fa28_1 rfl) rfl ?_;refine gO rfl rfl (ld23 rfl f0 rfl) rfl ?_;refine GoR.call rfl rfl (aCF aFunc72 rfl) (within_is (r := true) (dt (by omega))) ?_ np;rintro v5 h5 ⟨q, x5⟩;cases q;refine ⟨_, rfl, ?_⟩;replace f0 := f0.ext x5;replace e0 := e0.trans x5;iterate 2 refine gP ?_
       refine gO rfl rfl (fa28_4 rfl) rfl ?_;refine gO rfl rfl (ld25 rfl f0 rfl) rfl ?_;refine gO rfl rfl (aOp_lenSlice Try.underlying25 rfl hl2) rfl ?_;refine gO rfl rfl (kMF rfl rfl) rfl ?_;iterate 2 refine gP ?_
       iterate 4 refine GoR.skip rfl rfl rfl ?_
       iterate 2 refine gP ?_
       iterate 4 refine GoR.skip rfl rfl rfl ?_
       iterate 2 refine gP ?_
       iterate 5 refine GoR.skip rfl rfl rfl ?_
       iterate 2 refine gP ?_
       apply gE;exact gW Try.func61 rfl rfl ⟨rfl, e0⟩
     ·rw [decide_eq_false q4]
      unfold CutV.cells at *
      have e0 : Ext h h := Ext.refl _
      refine Runs.intro aFunc61 rfl rfl rfl rfl fun rest => ?_;apply gS;refine gR rfl ?_;refine GoR.box rfl rfl rfl rfl rfl rfl fun h0 x0 f0 => ?_;replace e0 := e0.trans x0;refine gP ?_;apply gE;apply gS;refine gR rfl ?_;refine gP ?_;apply gE;apply gS;refine gR rfl ?_;iterate 2 refine gP ?_
      apply gE;apply gS;refine gR rfl ?_;refine gO rfl rfl (fa28_2 rfl) rfl ?_;refine gO rfl rfl (ld24 rfl f0 rfl) rfl ?_;refine gO rfl rfl (aOp_lenSlice Try.underlying24 rfl hl1) rfl ?_;refine GoR.call rfl rfl (aCF aFunc67 rfl) (inside_is (r := true) (dt (by omega))) ?_ np;rintro v1 h1 ⟨q, x1⟩;cases q;refine ⟨_, rfl, ?_⟩;replace f0 := f0.ext x1;replace e0 := e0.trans x1;refine gP ?_;refine gO rfl rfl (fa28_2 rfl) rfl ?_;refine gO rfl rfl (ld24 rfl f0 rfl) rfl ?_;refine gP ?_;refine GoR.call rfl rfl (aCF aFunc74 rfl) (hcr e0) ?_ np;rintro v2 h2 ⟨q, x2⟩;cases q;refine ⟨_, rfl, ?_⟩;replace f0 := f0.ext x2;replace e0 := e0.trans x2;iterate 3 refine gP ?_
      refine gO rfl rfl (fa28_3 rfl) rfl ?_;refine gO rfl rfl (ld3 rfl f0 rfl) rfl ?_;refine GoR.call rfl rfl (aCF aFunc67 rfl) (inside_is (r := true) (dt (by omega))) ?_ np;rintro v3 h3 ⟨q, x3⟩;cases q;refine ⟨_, rfl, ?_⟩;replace f0 := f0.ext x3;replace e0 := e0.trans x3;iterate 2 refine gP ?_
      refine gO rfl rfl (fa28_0 rfl) rfl ?_;refine gO rfl rfl (ld23 rfl f0 rfl) rfl ?_;refine gO rfl rfl (fa28_3 rfl) rfl ?_;refine gO rfl rfl (ld3 rfl f0 rfl) rfl ?_;refine GoR.call rfl rfl (aCF aFunc72 rfl) (within_is (r := true) (dt (by omega))) ?_ np;rintro v4 h4 ⟨q, x4⟩;cases q;refine ⟨_, rfl, ?_⟩;replace f0 := f0.ext x4;replace e0 := e0.trans x4;iterate 2 refine gP ?_
      refine gO rfl rfl (fa28_1 rfl) rfl ?_;refine gO rfl rfl (ld23 rfl f0 rfl) rfl ?_;refine GoR.call rfl rfl (aCF aFunc72 rfl) (within_is (r := false) (df (by omega))) ?_ np;rintro v5 h5 ⟨q, x5⟩;cases q;refine ⟨_, rfl, ?_⟩;replace e0 := e0.trans x5;iterate 2 refine gP ?_
      iterate 4 refine GoR.skip rfl rfl rfl ?_
      iterate 2 refine gP ?_
      iterate 4 refine GoR.skip rfl rfl rfl ?_
      iterate 2 refine gP ?_
      iterate 4 refine GoR.skip rfl rfl rfl ?_
      iterate 2 refine gP ?_
      iterate 5 refine GoR.skip rfl rfl rfl ?_
      iterate 2 refine gP ?_
      apply gE;exact gW Try.func61 rfl rfl ⟨rfl, e0⟩
    ·rw [decide_eq_false q3]
     unfold CutV.cells at *
     have e0 : Ext h h := Ext.refl _
     refine Runs.intro aFunc61 rfl rfl rfl rfl fun rest => ?_;apply gS;refine gR rfl ?_;refine GoR.box rfl rfl rfl rfl rfl rfl fun h0 x0 f0 => ?_;replace e0 := e0.trans x0;refine gP ?_;apply gE;apply gS;refine gR rfl ?_;refine gP ?_;apply gE;apply gS;refine gR rfl ?_;iterate 2 refine gP ?_
     apply gE;apply gS;refine gR rfl ?_;refine gO rfl rfl (fa28_2 rfl) rfl ?_;refine gO rfl rfl (ld24 rfl f0 rfl) rfl ?_;refine gO rfl rfl (aOp_lenSlice Try.underlying24 rfl hl1) rfl ?_;refine GoR.call rfl rfl (aCF aFunc67 rfl) (inside_is (r := true) (dt (by omega))) ?_ np;rintro v1 h1 ⟨q, x1⟩;cases q;refine ⟨_, rfl, ?_⟩;replace f0 := f0.ext x1;replace e0 := e0.trans x1;refine gP ?_;refine gO rfl rfl (fa28_2 rfl) rfl ?_;refine gO rfl rfl (ld24 rfl f0 rfl) rfl ?_;refine gP ?_;refine GoR.call rfl rfl (aCF aFunc74 rfl) (hcr e0) ?_ np;rintro v2 h2 ⟨q, x2⟩;cases q;refine ⟨_, rfl, ?_⟩;replace f0 := f0.ext x2;replace e0 := e0.trans x2;iterate 3 refine gP ?_
     refine gO rfl rfl (fa28_3 rfl) rfl ?_;refine gO rfl rfl (ld3 rfl f0 rfl) rfl ?_;refine GoR.call rfl rfl (aCF aFunc67 rfl) (inside_is (r := true) (dt (by omega))) ?_ np;rintro v3 h3 ⟨q, x3⟩;cases q;refine ⟨_, rfl, ?_⟩;replace f0 := f0.ext x3;replace e0 := e0.trans x3;iterate 2 refine gP ?_
     refine gO rfl rfl (fa28_0 rfl) rfl ?_;refine gO rfl rfl (ld23 rfl f0 rfl) rfl ?_;refine gO rfl rfl (fa28_3 rfl) rfl ?_;refine gO rfl rfl (ld3 rfl f0 rfl) rfl ?_;refine GoR.call rfl rfl (aCF aFunc72 rfl) (within_is (r := false) (df (by omega))) ?_ np;rintro v4 h4 ⟨q, x4⟩;cases q;refine ⟨_, rfl, ?_⟩;replace e0 := e0.trans x4;iterate 2 refine gP ?_
     iterate 3 refine GoR.skip rfl rfl rfl ?_
     iterate 2 refine gP ?_
     iterate 4 refine GoR.skip rfl rfl rfl ?_
     iterate 2 refine gP ?_
     iterate 4 refine GoR.skip rfl rfl rfl ?_
     iterate 2 refine gP ?_
     iterate 4 refine GoR.skip rfl rfl rfl ?_
     iterate 2 refine gP ?_
     iterate 5 refine GoR.skip rfl rfl rfl ?_
     iterate 2 refine gP ?_
     apply gE;exact gW Try.func61 rfl rfl ⟨rfl, e0⟩
   ·rw [decide_eq_false q2]
    unfold CutV.cells at *
    have e0 : Ext h h := Ext.refl _
    refine Runs.intro aFunc61 rfl rfl rfl rfl fun rest => ?_;apply gS;refine gR rfl ?_;refine GoR.box rfl rfl rfl rfl rfl rfl fun h0 x0 f0 => ?_;replace e0 := e0.trans x0;refine gP ?_;apply gE;apply gS;refine gR rfl ?_;refine gP ?_;apply gE;apply gS;refine gR rfl ?_;iterate 2 refine gP ?_
    apply gE;apply gS;refine gR rfl ?_;refine gO rfl rfl (fa28_2 rfl) rfl ?_;refine gO rfl rfl (ld24 rfl f0 rfl) rfl ?_;refine gO rfl rfl (aOp_lenSlice Try.underlying24 rfl hl1) rfl ?_;refine GoR.call rfl rfl (aCF aFunc67 rfl) (inside_is (r := true) (dt (by omega))) ?_ np;rintro v1 h1 ⟨q, x1⟩;cases q;refine ⟨_, rfl, ?_⟩;replace f0 := f0.ext x1;replace e0 := e0.trans x1;refine gP ?_;refine gO rfl rfl (fa28_2 rfl) rfl ?_;refine gO rfl rfl (ld24 rfl f0 rfl) rfl ?_;refine gP ?_;refine GoR.call rfl rfl (aCF aFunc74 rfl) (hcr e0) ?_ np;rintro v2 h2 ⟨q, x2⟩;cases q;refine ⟨_, rfl, ?_⟩;replace f0 := f0.ext x2;replace e0 := e0.trans x2;iterate 3 refine gP ?_
    refine gO rfl rfl (fa28_3 rfl) rfl ?_;refine gO rfl rfl (ld3 rfl f0 rfl) rfl ?_;refine GoR.call rfl rfl (aCF aFunc67 rfl) (inside_is (r := false) (df (by omega))) ?_ np;rintro v3 h3 ⟨q, x3⟩;cases q;refine ⟨_, rfl, ?_⟩;replace e0 := e0.trans x3;iterate 2 refine gP ?_
    iterate 5 refine GoR.skip rfl rfl rfl ?_
    iterate 2 refine gP ?_
    iterate 3 refine GoR.skip rfl rfl rfl ?_
    iterate 2 refine gP ?_
    iterate 4 refine GoR.skip rfl rfl rfl ?_
    iterate 2 refine gP ?_
    iterate 4 refine GoR.skip rfl rfl rfl ?_
    iterate 2 refine gP ?_
    iterate 4 refine GoR.skip rfl rfl rfl ?_
    iterate 2 refine gP ?_
    iterate 5 refine GoR.skip rfl rfl rfl ?_
    iterate 2 refine gP ?_
    apply gE;exact gW Try.func61 rfl rfl ⟨rfl, e0⟩
  | false =>
   have w1 : C.rs.any (fun x => !decide (RainOk x)) = true := by rw [← any_not] at q1; simpa using q1
   rw [w1] at hcr
   unfold CutV.cells at *
   have e0 : Ext h h := Ext.refl _
   refine Runs.intro aFunc61 rfl rfl rfl rfl fun rest => ?_;apply gS;refine gR rfl ?_;refine GoR.box rfl rfl rfl rfl rfl rfl fun h0 x0 f0 => ?_;replace e0 := e0.trans x0;refine gP ?_;apply gE;apply gS;refine gR rfl ?_;refine gP ?_;apply gE;apply gS;refine gR rfl ?_;iterate 2 refine gP ?_
   apply gE;apply gS;refine gR rfl ?_;refine gO rfl rfl (fa28_2 rfl) rfl ?_;refine gO rfl rfl (ld24 rfl f0 rfl) rfl ?_;refine gO rfl rfl (aOp_lenSlice Try.underlying24 rfl hl1) rfl ?_;refine GoR.call rfl rfl (aCF aFunc67 rfl) (inside_is (r := true) (dt (by omega))) ?_ np;rintro v1 h1 ⟨q, x1⟩;cases q;refine ⟨_, rfl, ?_⟩;replace f0 := f0.ext x1;replace e0 := e0.trans x1;refine gP ?_;refine gO rfl rfl (fa28_2 rfl) rfl ?_;refine gO rfl rfl (ld24 rfl f0 rfl) rfl ?_;refine gP ?_;refine GoR.call rfl rfl (aCF aFunc74 rfl) (hcr e0) ?_ np;rintro v2 h2 ⟨q, x2⟩;cases q;refine ⟨_, rfl, ?_⟩;replace e0 := e0.trans x2;iterate 3 refine gP ?_
   iterate 3 refine GoR.skip rfl rfl rfl ?_
   iterate 2 refine gP ?_
   iterate 5 refine GoR.skip rfl rfl rfl ?_
   iterate 2 refine gP ?_
   iterate 3 refine GoR.skip rfl rfl rfl ?_
   iterate 2 refine gP ?_
   iterate 4 refine GoR.skip rfl rfl rfl ?_
   iterate 2 refine gP ?_
   iterate 4 refine GoR.skip rfl rfl rfl ?_
   iterate 2 refine gP ?_
   iterate 4 refine GoR.skip rfl rfl rfl ?_
   iterate 2 refine gP ?_
   iterate 5 refine GoR.skip rfl rfl rfl ?_
   iterate 2 refine gP ?_
   apply gE;exact gW Try.func61 rfl rfl ⟨rfl, e0⟩
 ·rw [decide_eq_false q0]
  unfold CutV.cells at *
  have e0 : Ext h h := Ext.refl _
  refine Runs.intro aFunc61 rfl rfl rfl rfl fun rest => ?_;apply gS;refine gR rfl ?_;refine GoR.box rfl rfl rfl rfl rfl rfl fun h0 x0 f0 => ?_;replace e0 := e0.trans x0;refine gP ?_;apply gE;apply gS;refine gR rfl ?_;refine gP ?_;apply gE;apply gS;refine gR rfl ?_;iterate 2 refine gP ?_
  apply gE;apply gS;refine gR rfl ?_;refine gO rfl rfl (fa28_2 rfl) rfl ?_;refine gO rfl rfl (ld24 rfl f0 rfl) rfl ?_;refine gO rfl rfl (aOp_lenSlice Try.underlying24 rfl hl1) rfl ?_;refine GoR.call rfl rfl (aCF aFunc67 rfl) (inside_is (r := false) (df (by omega))) ?_ np;rintro v1 h1 ⟨q, x1⟩;cases q;refine ⟨_, rfl, ?_⟩;replace e0 := e0.trans x1;refine gP ?_;iterate 5 refine GoR.skip rfl rfl rfl ?_
  iterate 2 refine gP ?_
  iterate 3 refine GoR.skip rfl rfl rfl ?_
  iterate 2 refine gP ?_
  iterate 5 refine GoR.skip rfl rfl rfl ?_
  iterate 2 refine gP ?_
  iterate 3 refine GoR.skip rfl rfl rfl ?_
  iterate 2 refine gP ?_
  iterate 4 refine GoR.skip rfl rfl rfl ?_
  iterate 2 refine gP ?_
  iterate 4 refine GoR.skip rfl rfl rfl ?_
  iterate 2 refine gP ?_
  iterate 4 refine GoR.skip rfl rfl rfl ?_
  iterate 2 refine gP ?_
  iterate 5 refine GoR.skip rfl rfl rfl ?_
  iterate 2 refine gP ?_
  apply gE;exact gW Try.func61 rfl rfl ⟨rfl, e0⟩
theorem valid_yes {C : CutV} (O : C.Ok) {r b l : AVal} {h : AH} (A : CutAt h C r b l) : Runs Try.prog 61 [.agg (C.cells r b l)] h (fun en h' => en = .ret (.bool true) ∧ Ext h h') := by
 have := O.nr
 have := O.nb
 have := O.nl
 have k := valid_ok A (by omega) (by omega) (by omega)
 rw [(okB_iff C).2 O] at k
 exact k
theorem valid_no {C : CutV} (hno : ¬ C.Ok) {r b l : AVal} {h : AH} (A : CutAt h C r b l) (hb1 : C.rs.length ≤ 40) (hb2 : C.bs.length ≤ 40) (hb3 : C.ls.length ≤ 40) : Runs Try.prog 61 [.agg (C.cells r b l)] h (fun en h' => en = .ret (.bool false) ∧ Ext h h') := by
 have k := valid_ok A hb1 hb2 hb3
 have : C.okB = false := by
  cases q : C.okB with
  | false => rfl
  | true => exact absurd ((okB_iff C).1 q) hno
 rw [this] at k;exact k
end Go.Proofs.Yteibheeleeengaa

set_option linter.unusedSimpArgs false
namespace Go.AbsE
open Go
section
variable {P : Program}
def vints (l : List Int) : Array Value := (l.map fun x => Value.int .i64 x).toArray
theorem vints_at {l : List Int} {i : Nat} {x : Int} (h : l[i]? = some x) : (vints l)[i]? = some (.int .i64 x) := by
 unfold vints
 simp [h]
theorem pr_eq_arr {t e : TypeId} {k : IntKind} {n : Nat} (h : P.underlying t = some (.array n e)) (he : P.underlying e = some (.int k)) (hs : sizeT P e = some 1) {d : Nat} {a b : List Int} (ha : a.length = n) (hb : b.length = n) :
  pureRun P (Op.equalIn (d + 2) t (.agg (vints a)) (.agg (vints b))) = some (decide (a = b)) := by
 unfold Op.equalIn
 rw [pureRun_bind, pr_underlying h]
 simp only [Option.bind_some, pureRun_bind, pr_sizeOf hs, Std.Legacy.Range.forIn_eq_forIn_range', Std.Legacy.Range.size, Nat.sub_zero, Nat.add_one_sub_one, Nat.div_one]
 have key : ∀ m s, s + m = n → pureRun P (forIn (List.range' s m) (none, ()) fun i __s => do
      let __do_lift ← part e (vints a) (i * 1)
      let __do_lift_1 ← part e (vints b) (i * 1)
      let __do_lift ← Op.equalIn (d + 1) e __do_lift __do_lift_1
      if (!__do_lift) = true then pure (ForInStep.done (some false, ()))
       else pure (ForInStep.yield ((none : Option Bool), ()))) = some (if a.drop s = b.drop s then (none, ()) else (some false, ())) := by
  intro m
  induction m with
  | zero =>
   intro s hs
   have h1 : a.drop s = [] := List.drop_of_length_le (by omega)
   have h2 : b.drop s = [] := List.drop_of_length_le (by omega)
   rw [h1, h2, if_pos rfl]
   rfl
  | succ m ih =>
   intro s hs
   have hsa : s < a.length := by omega
   have hsb : s < b.length := by omega
   have h1 : a.drop s = a[s] :: a.drop (s + 1) := List.drop_eq_getElem_cons hsa
   have h2 : b.drop s = b[s] :: b.drop (s + 1) := List.drop_eq_getElem_cons hsb
   have p1 : pureRun P (part e (vints a) (s * 1)) = some (.int .i64 a[s]) := pr_part_one he (by rw [Nat.mul_one]; exact vints_at (List.getElem?_eq_getElem hsa))
   have p2 : pureRun P (part e (vints b) (s * 1)) = some (.int .i64 b[s]) := pr_part_one he (by rw [Nat.mul_one]; exact vints_at (List.getElem?_eq_getElem hsb))
   have hr : List.range' s (m + 1) = s :: List.range' (s + 1) m := rfl
   rw [hr, List.forIn_cons, h1, h2]
   simp only [pureRun_bind, p1, p2, Option.bind_some, pr_eq_int he]
   by_cases q : a[s] = b[s]
   ·rw [beq_iff_eq.2 q]
    simp only [Bool.not_true, Bool.false_eq_true, if_false, pureRun_pure, Option.bind_some]
    rw [ih (s + 1) (by omega), q]
    simp only [List.cons.injEq, true_and]
   ·rw [beq_eq_false_iff_ne.2 q]
    simp only [Bool.not_false, if_true, pureRun_pure, Option.bind_some]
    rw [if_neg (fun z => q (by injection z))]
 have k0 := key n 0 (by omega)
 rw [k0]
 simp only [List.drop_zero]
 by_cases q : a = b
 ·rw [if_pos q, decide_eq_true q]; rfl
 ·rw [if_neg q, decide_eq_false q]; rfl
theorem pr_check_arr {t e : TypeId} {k : IntKind} {n : Nat} (h : P.underlying t = some (.array n e)) (he : P.underlying e = some (.int k)) (hs : sizeT P e = some 1) {d : Nat} {c : Bool} {a : List Int} (ha : a.length = n) :
  pureRun P (Instr.checkKey c (d + 2) t (.agg (vints a))) = some () := by
 unfold Instr.checkKey
 rw [pureRun_bind, pr_underlying h]
 simp only [Option.bind_some, pureRun_bind, pr_sizeOf hs, Std.Legacy.Range.forIn_eq_forIn_range', Std.Legacy.Range.size, Nat.sub_zero, Nat.add_one_sub_one, Nat.div_one]
 have key : ∀ m s, s + m = n → pureRun P (forIn (List.range' s m) PUnit.unit fun i __s => do
      let __do_lift ← sizeOf e
      let __do_lift ← part e (vints a) (i * __do_lift)
      Instr.checkKey c (d + 1) e __do_lift
      pure (ForInStep.yield PUnit.unit)) = some PUnit.unit := by
  intro m
  induction m with
  | zero => intro s _; rfl
  | succ m ih =>
   intro s hsm
   have hsa : s < a.length := by omega
   have p1 : pureRun P (part e (vints a) (s * 1)) = some (.int .i64 a[s]) := pr_part_one he (by rw [Nat.mul_one]; exact vints_at (List.getElem?_eq_getElem hsa))
   have hr : List.range' s (m + 1) = s :: List.range' (s + 1) m := rfl
   rw [hr, List.forIn_cons]
   simp only [pureRun_bind, pr_sizeOf hs, p1, Option.bind_some, pr_check_int he, pureRun_pure]
   exact ih (s + 1) (by omega)
 rw [key n 0 (by omega)]
 rfl
def FieldI (P : Program) (f : Field) (n : Nat) : Prop := f.name ≠ "_" ∧ ((n = 1 ∧ ∃ k, P.underlying f.type = some (.int k)) ∨ (sizeT P f.type = some n ∧ ∃ e k, P.underlying f.type = some (.array n e) ∧ P.underlying e = some (.int k) ∧ sizeT P e = some 1))
inductive FieldsI (P : Program) : Nat → List Field → Nat → Prop
 | nil (o : Nat) : FieldsI P o [] o
 | cons {o n N : Nat} {f : Field} {l : List Field} (h1 : FieldI P f n) (h2 : f.offset = o) (h3 : FieldsI P (o + n) l N) : FieldsI P o (f :: l) N
theorem FieldsI.le {o N : Nat} {l : List Field} (h : FieldsI P o l N) : o ≤ N := by
 induction h with
 | nil o => exact Nat.le_refl _
 | cons _ _ _ ih => omega
theorem vints_ext {a : List Int} {o n : Nat} : (vints a).extract o (o + n) = vints ((a.drop o).take n) := by
 unfold vints
 rw [List.extract_toArray, List.extract_eq_take_drop, ← List.map_drop, ← List.map_take]
 congr 3
 omega
theorem pr_eq_field {f : Field} {n o N : Nat} (F : FieldI P f n) {a b : List Int} (ha : a.length = N) (hb : b.length = N) (ho : o + n ≤ N) {d : Nat} :
  ((pureRun P (part f.type (vints a) o)).bind fun x => (pureRun P (part f.type (vints b) o)).bind fun y => pureRun P (Op.equalIn (d + 2) f.type x y)) = some (decide ((a.drop o).take n = (b.drop o).take n)) := by
 obtain ⟨_, ⟨rfl, k, hk⟩ | ⟨hs, e, k, h1, h2, h3⟩⟩ := F
 ·have hsa : o < a.length := by omega
  have hsb : o < b.length := by omega
  rw [pr_part_one hk (vints_at (List.getElem?_eq_getElem hsa)), pr_part_one hk (vints_at (List.getElem?_eq_getElem hsb))]
  simp only [Option.bind_some]
  rw [pr_eq_int hk, List.drop_eq_getElem_cons hsa, List.drop_eq_getElem_cons hsb, List.take_succ_cons, List.take_succ_cons, List.take_zero, List.take_zero]
  by_cases q : a[o] = b[o]
  ·rw [beq_iff_eq.2 q, q, decide_eq_true rfl]
  ·rw [beq_eq_false_iff_ne.2 q, decide_eq_false (fun z => q (by injection z))]
 ·rw [pr_part_array h1 hs, pr_part_array h1 hs]
  simp only [Option.bind_some]
  rw [vints_ext, vints_ext, pr_eq_arr h1 h2 h3 (by rw [List.length_take, List.length_drop]; omega) (by rw [List.length_take, List.length_drop]; omega)]
theorem pr_check_field {f : Field} {n o N : Nat} (F : FieldI P f n) {a : List Int} (ha : a.length = N) (ho : o + n ≤ N) {d : Nat} {c : Bool} :
  ((pureRun P (part f.type (vints a) o)).bind fun x => pureRun P (Instr.checkKey c (d + 2) f.type x)) = some () := by
 obtain ⟨_, ⟨rfl, k, hk⟩ | ⟨hs, e, k, h1, h2, h3⟩⟩ := F
 ·have hsa : o < a.length := by omega
  rw [pr_part_one hk (vints_at (List.getElem?_eq_getElem hsa))]
  simp only [Option.bind_some]
  exact pr_check_int hk
 ·rw [pr_part_array h1 hs]
  simp only [Option.bind_some]
  rw [vints_ext, pr_check_arr h1 h2 h3 (by rw [List.length_take, List.length_drop]; omega)]
structure KeyN (P : Program) (kt : TypeId) (N : Nat) : Prop where
 fs : ∃ fs : Array Field, P.underlying kt = some (.struct fs) ∧ FieldsI P 0 fs.toList N
 std : P.stoodInHeld kt = false
theorem pr_eq_keyN {kt : TypeId} {N : Nat} (K : KeyN P kt N) {a b : List Int} (ha : a.length = N) (hb : b.length = N) : pureRun P (Op.equal kt (.agg (vints a)) (.agg (vints b))) = some (decide (a = b)) := by
 obtain ⟨⟨fs, hu, hf⟩, hst⟩ := K
 show pureRun P (Op.equalIn (9999 + 1) kt _ _) = _
 unfold Op.equalIn
 rw [pureRun_bind, pr_underlying hu]
 simp only [Option.bind_some, pureRun_bind, pr_program, hst, Bool.false_eq_true, if_false, ← Array.forIn_toList]
 have key : ∀ (l : List Field) (o : Nat), FieldsI P o l N → pureRun P (forIn l (none, ()) fun f __s =>
      if f.name ≠ "_" then do
       let __do_lift ← part f.type (vints a) f.offset
       let __do_lift_1 ← part f.type (vints b) f.offset
       let __do_lift ← Op.equalIn 9999 f.type __do_lift __do_lift_1
       if (!__do_lift) = true then pure (ForInStep.done (some false, ()))
        else pure (ForInStep.yield ((none : Option Bool), ()))
      else pure (ForInStep.yield ((none : Option Bool), ()))) = some (if a.drop o = b.drop o then (none, ()) else (some false, ())) := by
  intro l o hl
  clear hf hu
  induction hl with
  | nil o =>
   rw [List.drop_of_length_le (by omega), List.drop_of_length_le (by omega), if_pos rfl]
   rfl
  | cons h1 h2 h3 ih =>
   rename_i o n N f l
   have hle := h3.le
   have e1 := pr_eq_field (d := 9997) h1 ha hb (by omega)
   rw [List.forIn_cons, if_pos h1.1]
   simp only [pureRun_bind]
   rw [h2]
   obtain ⟨x, hx⟩ : ∃ x, pureRun P (part f.type (vints a) o) = some x := by
    cases q : pureRun P (part f.type (vints a) o) with
    | none => rw [q] at e1; cases e1
    | some x => exact ⟨x, rfl⟩
   obtain ⟨y, hy⟩ : ∃ y, pureRun P (part f.type (vints b) o) = some y := by
    rw [hx] at e1
    cases q : pureRun P (part f.type (vints b) o) with
    | none => rw [q] at e1; cases e1
    | some x => exact ⟨x, rfl⟩
   rw [hx, hy] at e1
   simp only [Option.bind_some] at e1
   rw [hx, hy]
   simp only [Option.bind_some]
   rw [e1]
   have ha2 : a.drop o = (a.drop o).take n ++ a.drop (o + n) := by rw [← List.drop_drop, List.take_append_drop]
   have hb2 : b.drop o = (b.drop o).take n ++ b.drop (o + n) := by rw [← List.drop_drop, List.take_append_drop]
   have hla : ((a.drop o).take n).length = n := by rw [List.length_take, List.length_drop]; omega
   have hlb : ((b.drop o).take n).length = n := by rw [List.length_take, List.length_drop]; omega
   have iff : a.drop o = b.drop o ↔ (a.drop o).take n = (b.drop o).take n ∧ a.drop (o + n) = b.drop (o + n) := by
    constructor
    ·intro q
     refine ⟨by rw [q], ?_⟩
     rw [← List.drop_drop, ← List.drop_drop, q]
    ·rintro ⟨q1, q2⟩
     rw [ha2, hb2, q1, q2]
   by_cases q : (a.drop o).take n = (b.drop o).take n
   ·rw [decide_eq_true q]
    simp only [Option.bind_some, Bool.not_true, Bool.false_eq_true, if_false, pureRun_pure]
    rw [ih ha hb]
    by_cases q2 : a.drop (o + n) = b.drop (o + n)
    ·rw [if_pos q2, if_pos (iff.2 ⟨q, q2⟩)]
    ·rw [if_neg q2, if_neg (fun z => q2 (iff.1 z).2)]
   ·rw [decide_eq_false q]
    simp only [Option.bind_some, Bool.not_false, if_true, pureRun_pure]
    rw [if_neg (fun z => q (iff.1 z).1)]
 rw [key _ _ hf]
 simp only [List.drop_zero]
 by_cases q : a = b
 ·rw [if_pos q, decide_eq_true q]; rfl
 ·rw [if_neg q, decide_eq_false q]; rfl
theorem pr_check_keyN {kt : TypeId} {N : Nat} (K : KeyN P kt N) {a : List Int} (ha : a.length = N) {c : Bool} : pureRun P (Instr.checkKey c 10000 kt (.agg (vints a))) = some () := by
 obtain ⟨⟨fs, hu, hf⟩, hst⟩ := K
 show pureRun P (Instr.checkKey c (9999 + 1) kt _) = _
 unfold Instr.checkKey
 rw [pureRun_bind, pr_underlying hu]
 simp only [Option.bind_some, pureRun_bind, ← Array.forIn_toList]
 have key : ∀ (l : List Field) (o : Nat), FieldsI P o l N → pureRun P (forIn l PUnit.unit fun f __s =>
      if f.name ≠ "_" then do
       let __do_lift ← part f.type (vints a) f.offset
       Instr.checkKey c 9999 f.type __do_lift
       pure (ForInStep.yield PUnit.unit)
      else pure (ForInStep.yield PUnit.unit)) = some PUnit.unit := by
  intro l o hl
  clear hf hu
  induction hl with
  | nil o => rfl
  | cons h1 h2 h3 ih =>
   rename_i o n N f l
   have hle := h3.le
   have e1 := pr_check_field (d := 9997) (c := c) h1 ha (by omega)
   rw [List.forIn_cons, if_pos h1.1]
   simp only [pureRun_bind]
   rw [h2]
   obtain ⟨x, hx⟩ : ∃ x, pureRun P (part f.type (vints a) o) = some x := by
    cases q : pureRun P (part f.type (vints a) o) with
    | none => rw [q] at e1; cases e1
    | some x => exact ⟨x, rfl⟩
   rw [hx] at e1
   simp only [Option.bind_some] at e1
   rw [hx]
   simp only [Option.bind_some]
   rw [e1]
   simp only [Option.bind_some, pureRun_pure]
   exact ih ha
 rw [key _ _ hf]
 rfl
def MapN (es : List AMapE) (f : List (List Int × AVal)) : Prop := es.map (fun e => (e.key, e.val)) = f.map fun x => (Value.agg (vints x.1), x.2)
def LenN (N : Nat) (f : List (List Int × AVal)) : Prop := ∀ x, x ∈ f → x.1.length = N
noncomputable def findN (k : List Int) : List (List Int × AVal) → Option AVal
 | [] => none
 | x :: f => if k = x.1 then some x.2 else findN k f
theorem findN_ok {kt : TypeId} {N : Nat} (K : KeyN P kt N) {k : List Int} (hk : k.length = N) : ∀ {es : List AMapE} {f : List (List Int × AVal)}, MapN es f → LenN N f → aMapFind P kt (Value.agg (vints k)) es = some (findN k f) := by
 intro es
 induction es with
 | nil =>
  intro f h _
  cases f with
  | nil => rfl
  | cons x f => cases h
 | cons e es ih =>
  intro f h h4
  cases f with
  | nil => cases h
  | cons x f =>
   simp only [MapN, List.map_cons, List.cons.injEq, Prod.mk.injEq] at h
   obtain ⟨⟨hk1, hv1⟩, h⟩ := h
   have hih := ih (f := f) h fun y hy => h4 y (by simp [hy])
   obtain ⟨x, v⟩ := x
   have hx4 := h4 (x, v) (by simp)
   unfold aMapFind findN
   dsimp only at hk1 hv1 hih ⊢
   rw [hk1, pr_eq_keyN K hk hx4]
   by_cases q : k = x
   ·rw [if_pos q, decide_eq_true q, hv1]
   ·rw [if_neg q, decide_eq_false q]; exact hih
theorem findN_mem {k : List Int} {v : AVal} : ∀ {f : List (List Int × AVal)}, findN k f = some v → (k, v) ∈ f := by
 intro f
 induction f with
 | nil => intro h; cases h
 | cons y f ih =>
  intro h
  unfold findN at h
  split at h
  ·rename_i q; cases h; rw [q]; simp
  ·simp [ih h]
theorem findN_none {k : List Int} : ∀ {f : List (List Int × AVal)}, findN k f = none ↔ ∀ x, x ∈ f → x.1 ≠ k := by
 intro f
 induction f with
 | nil => simp [findN]
 | cons y f ih =>
  unfold findN
  split
  ·rename_i q; simp; exact fun e => absurd q.symm e
  ·rename_i q
   rw [ih]
   simp only [List.mem_cons, forall_eq_or_imp]
   exact ⟨fun h => ⟨fun e => q e.symm, h⟩, fun h => h.2⟩
theorem grounds_i64s : ∀ l : List Int, grounds (i64s l) = some (l.map fun x => Value.int .i64 x) := by
 intro l
 induction l with
 | nil => rfl
 | cons a l ih =>
  unfold i64s at ih ⊢
  simp only [List.map_cons, grounds, AVal.ground, ih]
theorem ground_vints (l : List Int) : (AVal.agg (i64s l)).ground = some (.agg (vints l)) := by
 simp only [AVal.ground, grounds_i64s]
 rfl
theorem aOp_lookupN {t : Tr AVal} {h : AH} {dst : Option Tmp} {tt : TypeId} {pos : String} {after : Array Edge} {guard : Option (Nat × Bool)} {ty kt vt : TypeId} {N : Nat} {x k : Operand} {commaOk : Bool} {b clock : Nat} {es : List AMapE} {f : List (List Int × AVal)} {key : List Int} {z : AVal}
  (K : KeyN P kt N) (hu : P.underlying ty = some (.map kt vt)) (hz : zeroT P vt = some z) (hx : ev t x = some (.map b)) (hk : ev t k = some (.agg (i64s key))) (h4 : key.length = N)
  (hb : Has h b (.map es clock)) (hm : MapN es f) (hf : LenN N f) :
  aOp P t h ⟨dst, .lookup ty x k commaOk, tt, pos, after, guard⟩ = some (.val (match findN key f with | some v => cond commaOk (.tuple [v, .bool true]) v | none => cond commaOk (.tuple [z, .bool false]) z) h) := by
 show opLookup P t h ty x k commaOk = _
 unfold opLookup
 rw [hu, hx, hk]
 dsimp only
 rw [hb.2, ground_vints, hz]
 dsimp only
 have hc : pureRun P (Instr.checkKey es.isEmpty 10000 kt (Value.agg (vints key))) = some () := by
  exact pr_check_keyN K h4
 rw [hc, findN_ok K h4 hm hf]
 cases findN key f with
 | none => rfl
 | some v => rfl
end
section
variable {P : Program} {t : Tr AVal} {h : AH} {dst : Option Tmp} {ty tt : TypeId} {pos : String} {after : Array Edge} {guard : Option (Nat × Bool)} {x y : Operand} {c : FC} {k : List AItem} {Q : AM → Prop} {J : Jump} {all : Array Oper} {pl rest : List DOp} {tf ta : Tr AVal} {facts left : List DFact} {i bef d : Nat} {l lrest : List Oper}
theorem GoE.copyIn {t1 t2 el eb : TypeId} {sz b off len cap n : Nat} {s : AVal} {cs cs' new : List AVal} {g0 : Kd} (hl : pl = ⟨i, bef, false, ⟨dst, .call ⟨.builtin .copy, #[x, y], #[t1, t2]⟩, tt, pos, after, guard⟩, false⟩ :: rest) (hw : wantedA all ta ⟨dst, .call ⟨.builtin .copy, #[x, y], #[t1, t2]⟩, tt, pos, after, guard⟩ = some true)
  (hu1 : P.underlying t1 = some (.slice el)) (hs : sizeT P el = some sz) (hx : ev ta x = some (.slice b off len cap)) (hy : ev ta y = some s) (hn : lenA s = some n) (hm : Nat.min n len = n)
  (hsrc : srcCells h sz n s = some new) (hb : Has h b (.cells g0 cs eb)) (hg : g0.isRo = false) (hns : scalars new = true) (hsp : splice cs off new = some cs') (hleft : dropF bef facts = left) (hd : dst = some d) (hdn : Nat.blt d c.n = true)
  (g : ∀ h1, Upd h b (.cells g0 cs' eb) h1 → recheck P h1 left = true ∧ GoE P c k Q all rest tf left (ta.put (pth d) (some (.int .i64 n))) h1) : GoE P c k Q all pl tf facts ta h := by
 obtain ⟨h1, q1, q2⟩ := aOp_copyIn (P := P) (dst := dst) (tt := tt) (pos := pos) (after := after) (guard := guard) (t2 := t2) hu1 hs hx hy hn hm hsrc hb hg hns hsp
 obtain ⟨g1, g2⟩ := g h1 q2
 exact GoE.noisy0 hl hw q1 hleft g1 (prepD_some hd hdn) g2
end
end Go.AbsE

set_option linter.unusedSimpArgs false
namespace Go.AbsE
open Go
inductive Cut (P : Program) (h : AH) (sz : Nat) : AVal → Nat → Prop
 | nil : Cut P h sz .nilslice 0
 | sl {b off n cap : Nat} (hle : n ≤ cap) : Cut P h sz (.slice b off n cap) n
 | gsl {b off i n : Nat} {cs : List AVal} {el : TypeId} (hb : Has h b (.cells .grow cs el)) (ho : off = i * sz) (hl : off + n * sz ≤ cs.length) (he : eqSize P el sz = true) : Cut P h sz (.gsl b off i n) n
theorem Cut.ext {P : Program} {h h' : AH} {sz n : Nat} {s : AVal} (k : Cut P h sz s n) (e : Ext h h') : Cut P h' sz s n := by
 cases k with
 | nil => exact .nil
 | sl hle => exact .sl hle
 | gsl hb ho hl he => exact .gsl (hb.ext e) ho hl he
theorem SliceOf.drop {h : AH} {sz b off i : Nat} {s s' : AVal} {L : List (List AVal)} (k : SliceOf h sz s L) (hs : aSlElems s = some (b, off, L.length)) (hs' : aSlElems s' = some (b, off + i * sz, L.length - i)) (hn' : lenA s' = some (L.length - i)) (hi : i ≤ L.length) : SliceOf h sz s' (L.drop i) := by
 cases k with
 | nil => simp [aSlElems] at hs
 | mk hs2 hn hb hl hz hc =>
  rw [hs] at hs2
  cases hs2
  refine .mk hs' hn' hb (by rw [List.length_drop]) (fun l hl => hz l (List.mem_of_mem_drop hl)) ?_
  have hp := loadCells_part (k := i * sz) (m := (L.length - i) * sz) hc (by rw [← Nat.add_mul, Nat.add_sub_cancel' hi]; exact Nat.le_refl _)
  rw [List.length_drop, hp]
  congr 1
  have e1 : (L.take i).flatten.length = i * sz := by
   rw [flatten_len (sz := sz) (fun l hl => hz l (List.mem_of_mem_take hl)), List.length_take, Nat.min_eq_left hi]
  have e2 : (L.drop i).flatten.length = (L.length - i) * sz := by
   rw [flatten_len (sz := sz) (fun l hl => hz l (List.mem_of_mem_drop hl)), List.length_drop]
  have e3 : L.flatten = (L.take i).flatten ++ (L.drop i).flatten := by rw [← List.flatten_append, List.take_append_drop]
  rw [e3, ← e1, List.drop_left, ← e2, List.take_length]
theorem grow_own {h : AH} {el : TypeId} {sz lo : Nat} {s : AVal} {n : Nat} {cs : List AVal} (k : Grow h el sz lo s n cs) {b : Nat} (hs : s = .gsl b 0 0 n) : lo ≤ b ∧ b < h.next := by
 rcases k.2 with ⟨rfl, _⟩ | ⟨_, b', h1, rfl, h3⟩
 ·cases hs
 ·cases hs; exact ⟨h1, h3.1⟩
theorem flat_slice {α : Type} {f : α → List AVal} {sz : Nat} (hf : ∀ p, (f p).length = sz) {l : List α} {d : Nat} {p : List AVal} (h : (l.map f)[d]? = some p) : slice? (l.flatMap f) (d * sz) sz = some p := by
 have := slice_flatten (sz := sz) (L := l.map f) (fun x hx => by obtain ⟨q, _, rfl⟩ := List.mem_map.1 hx; exact hf q) d p h
 rwa [← List.flatMap_def] at this
def CutAt (P : Program) (h : AH) (sz i : Nat) (s s' : AVal) : Prop := ∀ {t : Tr AVal} {dst : Option Tmp} {ty tt el : TypeId} {pos : String} {after : Array Edge} {guard : Option (Nat × Bool)} {x lo : Operand}, P.underlying ty = some (.slice el) → sizeT P el = some sz → ev t x = some s → ev t lo = some (.int .i64 (i : Nat)) →
 aOp P t h ⟨dst, .slice ty x (some lo) none none, tt, pos, after, guard⟩ = some (.val s' h)
theorem Cut.at {P : Program} {h : AH} {sz n i : Nat} {s : AVal} {L : List (List AVal)} (C : Cut P h sz s n) (S : SliceOf h sz s L) (hL : L.length = n) (hi : i < n) (h0 : 0 < sz) : ∃ s', CutAt P h sz i s s' ∧ SliceOf h sz s' (L.drop i) := by
 have hlo' : ∀ {t : Tr AVal} {lo : Operand}, ev t lo = some (.int .i64 (i : Nat)) → evO t (some lo) = some (some (.int .i64 (i : Nat))) := by
  intro t lo hlo
  show (match ev t lo with | some v => some (some v) | none => none) = _
  rw [hlo]
 cases C with
 | nil => omega
 | sl hle =>
  rename_i b off cap
  exact ⟨_, fun hu hs hx hlo => aOp_slice hu hs hx (hlo' hlo) rfl (cut_lo (by omega)) hle (by omega), S.drop (by rw [hL]; rfl) (by rw [hL]; rfl) (by rw [hL]; rfl) (by omega)⟩
 | gsl hb ho hl he =>
  rename_i b off j cs el2
  have key : ∀ s', (cond (Nat.beq i 0) (some (ANext.val (.gsl b off j n) h)) (cond (Nat.blt i n) (some (.val (.gsl b (off + i * sz) (j + i) (n - i)) h)) none)) = some (.val s' h) → CutAt P h sz i (.gsl b off j n) s' := by
   intro s' q t dst ty tt el pos after guard x lo hu hs hx hlo
   show opSlice P t h ty x (some lo) none = _
   unfold opSlice
   rw [hx, hlo' hlo, show evO t none = some none from rfl, hu]
   dsimp only
   rw [hs]
   show sliceOf P h sz (.gsl b off j n) (some (.int .i64 (i : Nat))) none = _
   unfold sliceOf
   simp only [cut_lo (n := n) (cap := n) (i := i) (by omega), hb.2]
   rw [show Nat.beq off (j * sz) = true by rw [ho]; exact Nat.beq_refl _, Nat.ble_eq_true_of_le hl, show Nat.blt 0 sz = true from Nat.ble_eq_true_of_le h0, he]
   exact q
  by_cases hi0 : i = 0
  ·subst hi0
   exact ⟨_, key _ rfl, S.drop (by rw [hL]; rfl) (by rw [hL]; simp [aSlElems]) (by rw [hL]; rfl) (by omega)⟩
  ·have h1 : Nat.beq i 0 = false := by
    cases q : Nat.beq i 0 with
    | false => rfl
    | true => exact absurd (Nat.eq_of_beq_eq_true q) hi0
   have h2 : Nat.blt i n = true := Nat.ble_eq_true_of_le hi
   exact ⟨_, key _ (by rw [h1, h2]; rfl), S.drop (by rw [hL]; rfl) (by rw [hL]; rfl) (by rw [hL]; rfl) (by omega)⟩
end Go.AbsE

set_option linter.unusedSimpArgs false
namespace Go.AbsE
open Go
section
variable {P : Program}
def IterP (P : Program) (g : FuncId) (first cap : List AVal) (items : List (List AVal)) (A : AH → Prop) : Prop :=
 ∀ (y : AVal) (J E : Nat → AH → Prop) (h : AH), y.cells = [y] → scalars [y] = true → (∀ k h, J k h → A h) →
  (∀ (k : Nat) item h, items[k]? = some item → J k h → ∃ x, callY P y [.agg item] h = some x ∧ (∀ v h', x ≠ .val v h') ∧ Does P x (fun en h' => (en = .ret (.bool true) ∧ J (k + 1) h') ∨ (en = .ret (.bool false) ∧ E k h'))) →
  J 0 h → Runs P g (first ++ [y] ++ cap) h (fun en h' => en = .ret (.tuple []) ∧ (J items.length h' ∨ ∃ k, k < items.length ∧ E k h'))
theorem IterP.iter {g : FuncId} {first cap : List AVal} {items : List (List AVal)} {A : AH → Prop} (k : IterP P g first cap items A) : Iter P g first cap items A := by
 intro y base S J E h hyc hys hA hb T j0
 obtain ⟨fr, hfr, hr⟩ := k y (fun n h' => ExtF S h h' ∧ J n h') (fun n h' => ExtF S h h' ∧ E n h') h hyc hys (fun _ h' q => hA h' q.1) (fun n item h' hit q => by
  obtain ⟨x, c1, c2, c3⟩ := T.take hit q.2
  refine ⟨x, c1, c2, c3.mono fun en h'' r => ?_⟩
  have x2 : ExtF S h h'' := q.1.trans (fun _ w => .inl w) r.1
  exact r.2.elim (fun r => .inl ⟨r.1, x2, r.2⟩) (fun r => .inr ⟨r.1, x2, r.2⟩)) ⟨ExtF.of (Ext.refl _), j0⟩
 exact Runs.mono ⟨fr, hfr, hr⟩ fun en h' q => ⟨q.1, q.2.elim (fun r => r.1) (fun ⟨_, _, r⟩ => r.1), q.2.elim (fun r => .inl r.2) (fun ⟨m, hm, r⟩ => .inr ⟨m, hm, r.2⟩)⟩
end
end Go.AbsE

set_option linter.unusedSimpArgs false
namespace Go.AbsE
open Go
section
variable {P : Program}
theorem Takes.keep {base : Nat} {y : AVal} {items : List (List AVal)} {J E : Nat → AH → (Nat → Prop) → Prop} (T : Takes P base y items J E) {k : Nat} {h h' : AH} {F : Nat → Prop} (j : J k h F) (hn : h.next ≤ h'.next) (he : ∀ b, b < h.next → (b < base ∨ F b) → h'.get b = h.get b) : J k h' F := T.keepJ j hn he
theorem Takes.shift {base : Nat} {y : AVal} {items sub : List (List AVal)} {J E : Nat → AH → (Nat → Prop) → Prop} (T : Takes P base y items J E) (o : Nat) (hs : ∀ (n : Nat) v, sub[n]? = some v → items[o + n]? = some v) :
  Takes P base y sub (fun n => J (o + n)) (fun n => E (o + n)) where
 ltJ := fun j => T.ltJ j
 keepJ := fun j => T.keepJ j
 ltE := fun j => T.ltE j
 keepE := fun j => T.keepE j
 take := fun h j => T.take (hs _ _ h) j
def IterFR (F : Nat → Prop) (J E : Nat → AH → (Nat → Prop) → Prop) (n : Nat) (h : AH) (en : AEnd) (h' : AH) : Prop := en = .ret (.tuple []) ∧ ExtF F h h' ∧ ∃ F', (∀ b, F' b → F b ∨ h.next ≤ b) ∧ (J n h' F' ∨ ∃ k, k < n ∧ E k h' F')
def IterF (P : Program) (g : FuncId) (first cap : List AVal) (items : List (List AVal)) (A : AH → Prop) : Prop :=
 ∀ (y : AVal) (base : Nat) (J E : Nat → AH → (Nat → Prop) → Prop) (h : AH) (F : Nat → Prop), y.cells = [y] → scalars [y] = true → (∀ h', ExtF F h h' → A h') → base ≤ h.next → Takes P base y items J E → J 0 h F → Runs P g (first ++ [y] ++ cap) h (IterFR F J E items.length h)
theorem IterF.mono {g : FuncId} {first cap : List AVal} {items : List (List AVal)} {A A' : AH → Prop} (k : IterF P g first cap items A) (hA : ∀ h, A' h → A h) : IterF P g first cap items A' :=
 fun y base J E h F hyc hys hA' => k y base J E h F hyc hys fun h' x => hA h' (hA' h' x)
end
end Go.AbsE

set_option linter.unusedSimpArgs false
namespace Go.AbsE
open Go
section
variable {P : Program}
structure TakesV (P : Program) (base : Nat) (y : AVal) (items : List AVal) (J E : Nat → AH → (Nat → Prop) → Prop) : Prop where
 ltJ : ∀ {k h F b}, J k h F → F b → b < h.next
 keepJ : ∀ {k h F h'}, J k h F → h.next ≤ h'.next → (∀ b, b < h.next → (b < base ∨ F b) → h'.get b = h.get b) → J k h' F
 ltE : ∀ {k h F b}, E k h F → F b → b < h.next
 keepE : ∀ {k h F h'}, E k h F → h.next ≤ h'.next → (∀ b, b < h.next → (b < base ∨ F b) → h'.get b = h.get b) → E k h' F
 take : ∀ {k item h F}, items[k]? = some item → J k h F → ∃ x, callY P y [item] h = some x ∧ (∀ v h', x ≠ .val v h') ∧
  Does P x (fun en h' => ExtF F h h' ∧ ∃ F', (∀ b, F' b → F b ∨ h.next ≤ b) ∧ ((en = .ret (.bool true) ∧ J (k + 1) h' F') ∨ (en = .ret (.bool false) ∧ E k h' F')))
theorem TakesV.ext {base : Nat} {y : AVal} {items : List AVal} {J E : Nat → AH → (Nat → Prop) → Prop} (T : TakesV P base y items J E) {k : Nat} {h h' : AH} {F : Nat → Prop} (j : J k h F) (e : Ext h h') : J k h' F := T.keepJ j e.1 fun b hb _ => e.2 b hb
theorem TakesV.keep {base : Nat} {y : AVal} {items : List AVal} {J E : Nat → AH → (Nat → Prop) → Prop} (T : TakesV P base y items J E) {k : Nat} {h h' : AH} {F : Nat → Prop} (j : J k h F) (hn : h.next ≤ h'.next) (he : ∀ b, b < h.next → (b < base ∨ F b) → h'.get b = h.get b) : J k h' F := T.keepJ j hn he
theorem TakesV.shift {base : Nat} {y : AVal} {items sub : List AVal} {J E : Nat → AH → (Nat → Prop) → Prop} (T : TakesV P base y items J E) (o : Nat) (hs : ∀ (n : Nat) v, sub[n]? = some v → items[o + n]? = some v) :
  TakesV P base y sub (fun n => J (o + n)) (fun n => E (o + n)) where
 ltJ := fun j => T.ltJ j
 keepJ := fun j => T.keepJ j
 ltE := fun j => T.ltE j
 keepE := fun j => T.keepE j
 take := fun h j => T.take (hs _ _ h) j
def IterV (P : Program) (g : FuncId) (first cap : List AVal) (items : List AVal) (A : AH → Prop) : Prop :=
 ∀ (y : AVal) (base : Nat) (J E : Nat → AH → (Nat → Prop) → Prop) (h : AH) (F : Nat → Prop), y.cells = [y] → scalars [y] = true → (∀ h', ExtF F h h' → A h') → base ≤ h.next → TakesV P base y items J E → J 0 h F → Runs P g (first ++ [y] ++ cap) h (IterFR F J E items.length h)
theorem IterV.mono {g : FuncId} {first cap : List AVal} {items : List AVal} {A A' : AH → Prop} (k : IterV P g first cap items A) (hA : ∀ h, A' h → A h) : IterV P g first cap items A' :=
 fun y base J E h F hyc hys hA' => k y base J E h F hyc hys fun h' x => hA h' (hA' h' x)
end
end Go.AbsE

namespace Go.Proofs.Yteibheeleeengaa
open Go Go.AbsE
set_option linter.unusedSimpArgs false
set_option maxRecDepth 100000
set_option maxHeartbeats 0
set_option linter.unusedVariables false
def refusal (code : Int) : List AEntry := [⟨.iface 93 (.int .i64 code), false⟩]
theorem refuse_ok (b : Bool) (code : Int) (h : AH) : Runs Try.prog 60 [.bool b, .int .i64 code] h (fun en h' => h' = h ∧ ((b = false ∧ en = .ret (.tuple [])) ∨ (b = true ∧ en = .pan (refusal code)))) := by
 refine Runs.intro aFunc60 rfl rfl rfl rfl fun rest => ?_;refine Go.seq noJ_ok (gR rfl ?_);refine gP ?_
 cases b with
 | false =>
  refine GoR.end (gC (b := false) rfl (gD (Go.endL (FLeft.ret (v := .tuple []) ?_ ⟨rfl, .inl ⟨rfl, rfl⟩⟩))));exact aResult_of Try.func60 rfl rfl
 | true =>
  refine GoR.end (gC (b := true) rfl (gR rfl ?_));refine gP ?_;refine gP ?_;refine GoR.panic rfl rfl rfl (FLeft.pan ⟨rfl, .inr ⟨rfl, rfl⟩⟩)
theorem attempt_pan {rest : List AFr} {t : Tr AVal} {h : AH} {b : Nat} {c0 code : Int} {R : AEnd → AH → Prop} (ht : t.get (pth 4) = some (.ptr b 0)) (hb : Has h b (.cells .plain [.int .i64 c0] 37))
  (hR : ∀ h', h.next ≤ h'.next → (∀ x, x < h.next → x ≠ b → h'.get x = h.get x) → R (.ret (.int .i64 code)) h') :
  FLeft Try.prog ⟨32, 13, [.call (.func 59) [.ptr b 0] []], false, none, rest⟩ (.panicking (refusal code)) t h (Post Try.prog 32 rest R) := by
 refine FLeft.defer (fun q => by cases q) aFunc59 rfl rfl rfl rfl fun todo => ?_;refine Go.seq noJ_ok (gR rfl ?_);refine GoR.recover1 rfl rfl rfl rfl rfl ?_
 have y0 : ExtF (fun x => x = b) h h := ExtF.of (Ext.refl _)
 apply gE;refine Go.block noJ_ok ?_;apply gS;refine gR rfl ?_;refine gP ?_;apply gE;refine gC (b := false) rfl ?_;apply gS;refine gR rfl ?_;iterate 3 refine gP ?_
 apply gE;refine gC (b := true) rfl ?_;apply gS;refine gR rfl ?_;refine gP ?_;apply gE;refine gR rfl ?_;refine gP ?_;refine GoR.store rfl rfl rfl rfl rfl rfl hb rfl sz37 rfl rfl rfl fun h0 u0 => ?_;replace hb := u0.has hb;replace y0 := y0.upd u0 (.inl rfl);apply gE;refine Go.inBlock noJ_ok ?_;refine Go.endL ?_;refine FLeft.settle (v := .tuple []) (aResult_of Try.func59 rfl rfl) ?_;exact FLeft.ret (v := .int .i64 code) (aResult_of Try.func32 rfl (aResults_cell ht hb (inCells_one ag37 rfl))) (hR _ y0.1 fun x hx hn => y0.2 x hx hn) todo
theorem attempt_ret {rest : List AFr} {t : Tr AVal} {h : AH} {b : Nat} {code : Int} {R : AEnd → AH → Prop} (ht : t.get (pth 4) = some (.ptr b 0)) (hb : Has h b (.cells .plain [.int .i64 code] 37)) (hR : R (.ret (.int .i64 code)) h) :
  FLeft Try.prog ⟨32, 13, [.call (.func 59) [.ptr b 0] []], false, none, rest⟩ .returning t h (Post Try.prog 32 rest R) := by
 refine FLeft.defer (fun q => by cases q) aFunc59 rfl rfl rfl rfl fun todo => ?_;refine Go.seq noJ_ok (gR rfl ?_);refine GoR.recover0 rfl rfl rfl rfl rfl ?_;apply gE;refine Go.block noJ_ok ?_;apply gS;refine gR rfl ?_;refine gP ?_;apply gE;refine gC (b := true) rfl ?_;refine gR rfl ?_;refine gP ?_;apply gE;refine Go.inBlock noJ_ok ?_;refine Go.endL ?_;refine FLeft.settle (v := .tuple []) (aResult_of Try.func59 rfl rfl) ?_;exact FLeft.ret (v := .int .i64 code) (aResult_of Try.func32 rfl (aResults_cell ht hb (inCells_one ag37 rfl))) hR todo
theorem refuse_no (code : Int) (h : AH) : Runs Try.prog 60 [.bool false, .int .i64 code] h (fun en h' => en = .ret (.tuple []) ∧ Ext h h') :=
 (refuse_ok false code h).mono fun en h' k => by
  rcases k with ⟨rfl, ⟨_, q⟩ | ⟨q, _⟩⟩
  ·exact ⟨q, Ext.refl _⟩
  ·cases q
theorem refuse_yes (code : Int) (h : AH) : Runs Try.prog 60 [.bool true, .int .i64 code] h (fun en h' => en = .pan (refusal code) ∧ Ext h h') :=
 (refuse_ok true code h).mono fun en h' k => by
  rcases k with ⟨rfl, ⟨q, _⟩ | ⟨_, q⟩⟩
  ·cases q
  ·exact ⟨q, Ext.refl _⟩
theorem attempt_ok {C : CutV} (O : C.Ok) (r b l : AVal) (h : AH) (A : CutAt h C r b l) (W : FuncId) (fW : Func) (hfid : aFunc Try.prog W = some fW) (caps : List AVal) (hsm : sameA (.func (.func W) [] caps) (.func (.func W) [] caps) = true) (S : Nat → Prop) (hS : ∀ b, S b → b < h.next) (T : Int → AH → Prop)
  (hbody : ∀ h', Ext h h' → Runs Try.prog W ([.agg (C.cells r b l)] ++ caps) h' (fun en h'' => ExtF S h' h'' ∧ ((en = .ret (.tuple []) ∧ T 0 h'') ∨ ∃ code, en = .pan (refusal code) ∧ T code h''))) :
  Runs Try.prog 32 [.agg (C.cells r b l), .func (.func W) [] caps] h (fun en h' => ∃ code h2, en = .ret (.int .i64 code) ∧ T code h2 ∧ ExtF S h h' ∧ h2.next ≤ h'.next ∧ ∀ b, b < h.next → h'.get b = h2.get b) := by
 have hv := fun h A => valid_yes O (r := r) (b := b) (l := l) (h := h) A
 have s1 := A.same
 unfold CutV.cells at hbody s1 ⊢
 unfold CutV.cells at hv
 have e0 : Ext h h := Ext.refl _
 refine Runs.intro aFunc32 rfl rfl rfl rfl fun rest => ?_;apply gS;refine gR rfl ?_;refine GoR.box rfl rfl rfl rfl rfl rfl fun h0 x0 f0 => ?_;have := e0.1;replace e0 := e0.trans x0;have := f0.1;refine GoR.alloc rfl rfl rfl zt37 rfl rfl fun h1 x1 f1 => ?_;have := e0.1;have := f0.1;replace f0 := f0.ext x1;replace e0 := e0.trans x1;have := f1.1;apply gE;apply gS;refine gR rfl ?_;refine gP ?_
 have hx0 := x0.1
 have hx1 := x1.1
 refine GoR.defer rfl rfl rfl rfl ?_;apply gE;apply gS;refine gR rfl ?_;refine gO rfl rfl (ld28 rfl f0 rfl) rfl ?_;refine GoR.call rfl rfl (aCF aFunc61 rfl) (hv _ (A.ext e0)) ?_ np;rintro v2 h2 ⟨q, x2⟩;cases q;refine ⟨_, rfl, ?_⟩;replace f1 := f1.ext x2;replace f0 := f0.ext x2;replace e0 := e0.trans x2;refine gP ?_;refine GoR.call rfl rfl (aCF aFunc60 rfl) (refuse_no 1 _) ?_ np;rintro v3 h3 ⟨q, x3⟩;cases q;refine ⟨_, rfl, ?_⟩;replace f1 := f1.ext x3;replace f0 := f0.ext x3;replace e0 := e0.trans x3;apply gE;apply gS;refine gR rfl ?_;refine gP ?_;refine gO rfl rfl (ld28 rfl f0 rfl) rfl ?_
 have he5 := e0.1
 have nf1 := f1.1
 have hnS : ¬ S h0.next := fun q => by have := hS _ q; omega
 refine GoR.callP rfl rfl (aOp_callVal rfl hfid rfl) (hbody _ e0) ?_ ?_
 ·rintro v h6 ⟨x6, ⟨q, t6⟩ | ⟨code, q, _⟩⟩
  ·cases q;refine ⟨_, rfl, ?_⟩
   have hx6 := x6.1
   replace f1 := f1.extF x6 hnS
   have y9 : ExtF S h h6 := (ExtF.of e0).trans (fun _ q => .inl q) x6
   clear e0 f0;apply gE;apply gS;refine gR rfl ?_;refine GoR.store rfl rfl rfl rfl rfl rfl f1 rfl sz37 rfl rfl rfl fun h7 u7 => ?_;replace f1 := u7.has f1;replace y9 := y9.upd u7 (.inr (by omega));apply gE;exact Go.retL (attempt_ret rfl f1 ⟨0, h6, rfl, t6, y9, by rw [u7.1]; exact Nat.le_refl _, fun b hb => u7.2.2 b (by omega)⟩)
  ·cases q
 ·rintro chain h6 ⟨x6, ⟨q, _⟩ | ⟨code, q, t6⟩⟩
  ·cases q
  have q := AEnd.pan.inj q
  subst q
  have hx6 := x6.1
  refine attempt_pan rfl (f1.extF x6 hnS) fun h' n1 n2 => ⟨code, h6, rfl, t6, ⟨by omega, fun b hb hbS => by rw [n2 b (by omega) (by omega), x6.2 b (by omega) hbS, e0.2 b hb]⟩, n1, fun b hlt => n2 b (by omega) (by omega)⟩
theorem attempt_bad {C : CutV} (hno : ¬ C.Ok) (hb1 : C.rs.length ≤ 40) (hb2 : C.bs.length ≤ 40) (hb3 : C.ls.length ≤ 40) (r b l : AVal) (h : AH) (A : CutAt h C r b l) (W : FuncId) (caps : List AVal) :
  Runs Try.prog 32 [.agg (C.cells r b l), .func (.func W) [] caps] h (fun en h' => en = .ret (.int .i64 1) ∧ Ext h h') := by
 have hv := fun h A => valid_no hno (r := r) (b := b) (l := l) (h := h) A hb1 hb2 hb3
 unfold CutV.cells at hv ⊢
 have e0 : Ext h h := Ext.refl _
 refine Runs.intro aFunc32 rfl rfl rfl rfl fun rest => ?_;apply gS;refine gR rfl ?_;refine GoR.box rfl rfl rfl rfl rfl rfl fun h0 x0 f0 => ?_;replace e0 := e0.trans x0;refine GoR.alloc rfl rfl rfl zt37 rfl rfl fun h1 x1 f1 => ?_;replace f0 := f0.ext x1;replace e0 := e0.trans x1;apply gE;apply gS;refine gR rfl ?_;refine gP ?_
 have hx0 := x0.1
 have hx1 := x1.1
 refine GoR.defer rfl rfl rfl rfl ?_;apply gE;apply gS;refine gR rfl ?_;refine gO rfl rfl (ld28 rfl f0 rfl) rfl ?_;refine GoR.call rfl rfl (aCF aFunc61 rfl) (hv _ (A.ext e0)) ?_ np;rintro v2 h2 ⟨q, x2⟩;cases q;refine ⟨_, rfl, ?_⟩;replace f1 := f1.ext x2;replace e0 := e0.trans x2;refine gP ?_;refine GoR.callP rfl rfl (aCF aFunc60 rfl) (refuse_ok true 1 _) (by rintro _ _ ⟨_, ⟨q, _⟩ | ⟨_, q⟩⟩ <;> cases q) ?_;rintro chain h9 ⟨rfl, ⟨q, _⟩ | ⟨_, q⟩⟩
 ·cases q
 have q := AEnd.pan.inj q
 subst q
 have hx9 := e0.1
 refine attempt_pan rfl f1 fun h' n1 n2 => ⟨rfl, ?_, fun b hb => by rw [n2 b (by omega) (by omega), e0.2 b hb]⟩
 omega
theorem needDay_ok {C : CutV} {r b l : AVal} {n : Int} {h : AH} (A : CutAt h C r b l) (hl : C.rs.length ≤ 40) : Runs Try.prog 39 [.agg (C.cells r b l), .int .i64 n] h (fun en h' => en = (if 0 ≤ n ∧ n ≤ C.rs.length then .ret (.tuple []) else .pan (refusal 2)) ∧ Ext h h') := by
 have hl1 := A.rs.len
 rw [List.length_map] at hl1
 unfold CutV.cells
 by_cases hq : 0 ≤ n ∧ n ≤ C.rs.length
 ·rw [if_pos hq]
  have e0 : Ext h h := Ext.refl _
  refine Runs.intro aFunc39 rfl rfl rfl rfl fun rest => ?_;apply gS;refine gR rfl ?_;refine GoR.box rfl rfl rfl rfl rfl rfl fun h0 x0 f0 => ?_;replace e0 := e0.trans x0;apply gE;refine gR rfl ?_;refine gP ?_;refine gO rfl rfl (fa68_2 rfl) rfl ?_;refine gO rfl rfl (ld24 rfl f0 rfl) rfl ?_;refine gO rfl rfl (aOp_lenSlice Try.underlying24 rfl hl1) rfl ?_;refine GoR.call rfl rfl (aCF aFunc67 rfl) (inside_is (r := true) (dt (by omega))) ?_ np;rintro v1 h1 ⟨q, x1⟩;cases q;refine ⟨_, rfl, ?_⟩;replace e0 := e0.trans x1;refine gP ?_;refine GoR.call rfl rfl (aCF aFunc60 rfl) (refuse_no _ _) ?_ np;rintro v2 h2 ⟨q, x2⟩;cases q;refine ⟨_, rfl, ?_⟩;replace e0 := e0.trans x2;apply gE;exact Go.endL (FLeft.ret (v := .tuple []) (aResult_of Try.func39 rfl rfl) ⟨rfl, e0⟩)
 ·rw [if_neg hq]
  have e0 : Ext h h := Ext.refl _
  refine Runs.intro aFunc39 rfl rfl rfl rfl fun rest => ?_;apply gS;refine gR rfl ?_;refine GoR.box rfl rfl rfl rfl rfl rfl fun h0 x0 f0 => ?_;replace e0 := e0.trans x0;apply gE;refine gR rfl ?_;refine gP ?_;refine gO rfl rfl (fa68_2 rfl) rfl ?_;refine gO rfl rfl (ld24 rfl f0 rfl) rfl ?_;refine gO rfl rfl (aOp_lenSlice Try.underlying24 rfl hl1) rfl ?_;refine GoR.call rfl rfl (aCF aFunc67 rfl) (inside_is (r := false) (df (by omega))) ?_ np;rintro v1 h1 ⟨q, x1⟩;cases q;refine ⟨_, rfl, ?_⟩;replace e0 := e0.trans x1;refine gP ?_;refine GoR.callP rfl rfl (aCF aFunc60 rfl) (refuse_yes _ _) (by rintro _ _ ⟨q, _⟩; cases q) ?_;rintro chain h2 ⟨q, x2⟩
  have q := AEnd.pan.inj q
  subst q;replace e0 := e0.trans x2;exact FLeft.pan (⟨rfl, e0⟩)
theorem vessel_no {C : CutV} {r b l : AVal} {n : Int} {h : AH} (A : CutAt h C r b l) (hl : C.bs.length ≤ 40) (hq : ¬ (0 ≤ n ∧ n < C.bs.length)) : Runs Try.prog 42 [.agg (C.cells r b l), .int .i64 n] h (fun en h' => en = .pan (refusal 2) ∧ Ext h h') := by
 have hl2 := A.bs.len
 rw [List.length_map] at hl2
 unfold CutV.cells
 have e0 : Ext h h := Ext.refl _
 refine Runs.intro aFunc42 rfl rfl rfl rfl fun rest => ?_;apply gS;refine gR rfl ?_;refine GoR.box rfl rfl rfl rfl rfl rfl fun h0 x0 f0 => ?_;replace e0 := e0.trans x0;refine GoR.alloc rfl rfl rfl zt79 rfl rfl fun h1 x1 f1 => ?_;replace f0 := f0.ext x1;replace e0 := e0.trans x1;apply gE;apply gS;refine gR rfl ?_;refine gP ?_;refine gO rfl rfl (fa68_4 rfl) rfl ?_;refine gO rfl rfl (ld25 rfl f0 rfl) rfl ?_;refine gO rfl rfl (aOp_lenSlice Try.underlying25 rfl hl2) rfl ?_;refine gO rfl rfl (aS rfl rfl) rfl ?_;refine GoR.call rfl rfl (aCF aFunc67 rfl) (inside_is (r := false) (df (by omega))) ?_ np;rintro v2 h2 ⟨q, x2⟩;cases q;refine ⟨_, rfl, ?_⟩;replace e0 := e0.trans x2;refine gP ?_;refine GoR.callP rfl rfl (aCF aFunc60 rfl) (refuse_yes _ _) (by rintro _ _ ⟨q, _⟩; cases q) ?_;rintro chain h3 ⟨q, x3⟩
 have q := AEnd.pan.inj q
 subst q;replace e0 := e0.trans x3;exact FLeft.pan (⟨rfl, e0⟩)
theorem vessel_ok {C : CutV} {r b l : AVal} {n : Nat} {h : AH} (A : CutAt h C r b l) (hl : C.bs.length ≤ 40) {x : BV} (hx : C.bs[n]? = some x) : Runs Try.prog 42 [.agg (C.cells r b l), .int .i64 n] h (fun en h' => en = .ret (.agg x.cells) ∧ Ext h h') := by
 have hl2 := A.bs.len
 rw [List.length_map] at hl2
 have hn := (List.getElem?_eq_some_iff.1 hx).1
 unfold CutV.cells
 obtain ⟨bq, off, q1, q2⟩ := A.bs.at (i := n) (l := BV.cells x) (by rw [List.getElem?_map, hx]; rfl)
 rw [List.length_map] at q1
 unfold BV.cells at q2 ⊢
 have e9 : Ext h h := Ext.refl _
 refine Runs.intro aFunc42 rfl rfl rfl rfl fun rest => ?_;apply gS;refine gR rfl ?_;refine GoR.box rfl rfl rfl rfl rfl rfl fun h0 x0 f0 => ?_;have := e9.1;replace e9 := e9.trans x0;have := f0.1;refine GoR.alloc rfl rfl rfl zt79 rfl rfl fun h1 x1 f1 => ?_;have := e9.1;have := f0.1;replace f0 := f0.ext x1;replace e9 := e9.trans x1;have := f1.1;apply gE;apply gS;refine gR rfl ?_;refine gP ?_;refine gO rfl rfl (fa68_4 rfl) rfl ?_;refine gO rfl rfl (ld25 rfl f0 rfl) rfl ?_;refine gO rfl rfl (aOp_lenSlice Try.underlying25 rfl hl2) rfl ?_;refine gO rfl rfl (aS rfl rfl) rfl ?_;refine GoR.call rfl rfl (aCF aFunc67 rfl) (inside_is (r := true) (dt (by omega))) ?_ np;rintro v2 h2 ⟨q, x2⟩;cases q;refine ⟨_, rfl, ?_⟩;replace f1 := f1.ext x2;replace f0 := f0.ext x2;replace e9 := e9.trans x2;refine gP ?_;refine GoR.call rfl rfl (aCF aFunc60 rfl) (refuse_no _ _) ?_ np;rintro v3 h3 ⟨q, x3⟩;cases q;refine ⟨_, rfl, ?_⟩;replace f1 := f1.ext x3;replace f0 := f0.ext x3;replace e9 := e9.trans x3;apply gE;apply gS;refine gR rfl ?_;refine gO rfl rfl (fa68_4 rfl) rfl ?_;refine gO rfl rfl (ld25 rfl f0 rfl) rfl ?_;refine gP ?_;refine gO rfl rfl (aOp_indexAddr (i := n) Try.underlying25 sz45 rfl q1 rfl (Nat.ble_eq_true_of_le hn)) rfl ?_;refine gO rfl rfl (aOp_loadE ag45 sz45 rfl (q2.ext e9)) rfl ?_;refine GoR.store rfl rfl rfl rfl rfl rfl f1 rfl sz79 rfl rfl rfl fun h4 u4 => ?_;replace f1 := u4.has f1;replace e9 := e9.upd u4 (by omega);apply gE;exact gV (ret_end (aResult_of Try.func42 rfl (aResults_cell rfl f1 (inCells_agg ag79 sz79 rfl))) ⟨rfl, e9⟩)
theorem mul_small {a b A B : Int} (h1 : 0 ≤ a ∧ a ≤ A) (h2 : 0 ≤ b ∧ b ≤ B) : 0 ≤ a * b ∧ a * b ≤ A * B :=
 ⟨Int.mul_nonneg h1.1 h2.1, Int.mul_le_mul h1.2 h2.2 h2.1 (by omega)⟩
theorem needs_ok {x : BV} (O : x.Ok) {n : Int} {h : AH} : Runs Try.prog 43 [.agg x.cells, .int .i64 n] h (fun en h' => en = (if 0 ≤ n ∧ n ≤ x.room then .ret (.agg (spC (x.needs n))) else .pan (refusal 2)) ∧ Ext h h') := by
 obtain ⟨o1, o2, o3⟩ := O
 by_cases hq : 0 ≤ n ∧ n ≤ x.room
 ·have hm := mul_small (A := 10) (B := 10) o2 ⟨hq.1, by omega⟩
  rw [if_pos hq]
  unfold BV.needs spC BV.cells
  have e0 : Ext h h := Ext.refl _
  refine Runs.intro aFunc43 rfl rfl rfl rfl fun rest => ?_;apply gS;refine gR rfl ?_;refine GoR.box rfl rfl rfl rfl rfl rfl fun h0 x0 f0 => ?_;have := e0.1;replace e0 := e0.trans x0;have := f0.1;refine GoR.alloc rfl rfl rfl zt23 rfl rfl fun h1 x1 f1 => ?_;have := e0.1;have := f0.1;replace f0 := f0.ext x1;replace e0 := e0.trans x1;have := f1.1;apply gE;apply gS;refine gR rfl ?_;refine gP ?_;refine gO rfl rfl (fa79_2 rfl) rfl ?_;refine gO rfl rfl (ld3 rfl f0 rfl) rfl ?_;refine GoR.call rfl rfl (aCF aFunc67 rfl) (inside_is (r := true) (dt (by omega))) ?_ np;rintro v2 h2 ⟨q, x2⟩;cases q;refine ⟨_, rfl, ?_⟩;replace f1 := f1.ext x2;replace f0 := f0.ext x2;replace e0 := e0.trans x2;refine gP ?_;refine GoR.call rfl rfl (aCF aFunc60 rfl) (refuse_no _ _) ?_ np;rintro v3 h3 ⟨q, x3⟩;cases q;refine ⟨_, rfl, ?_⟩;replace f1 := f1.ext x3;replace f0 := f0.ext x3;replace e0 := e0.trans x3;apply gE;apply gS;refine gR rfl ?_;refine gO rfl rfl (fa79_0 rfl) rfl ?_;refine gO rfl rfl (fa23_0 rfl) rfl ?_;refine gO rfl rfl (ld3 rfl f0 rfl) rfl ?_;refine gO rfl rfl (fa79_1 rfl) rfl ?_;refine gO rfl rfl (ld3 rfl f0 rfl) rfl ?_;refine gP ?_;refine gO rfl rfl (aOp_mul rfl rfl rfl (by omega)) rfl ?_;refine gO rfl rfl (aA rfl rfl) rfl ?_;refine gO rfl rfl (fa79_0 rfl) rfl ?_;refine gO rfl rfl (fa23_1 rfl) rfl ?_;refine gO rfl rfl (ld3 rfl f0 rfl) rfl ?_;refine gO rfl rfl (fa79_1 rfl) rfl ?_;refine gO rfl rfl (ld3 rfl f0 rfl) rfl ?_;refine gP ?_;refine gO rfl rfl (aOp_mul rfl rfl rfl (by omega)) rfl ?_;refine gO rfl rfl (aA rfl rfl) rfl ?_;refine gO rfl rfl (aOp_build zt23 hu23 pl23 rfl rfl) rfl ?_;refine GoR.store rfl rfl rfl rfl rfl rfl f1 rfl sz23 rfl rfl rfl fun h4 u4 => ?_;replace f1 := u4.has f1;replace e0 := e0.upd u4 (by omega);apply gE;exact gV (ret_end (aResult_of Try.func43 rfl (aResults_cell rfl f1 (inCells_agg ag23 sz23 rfl))) ⟨rfl, e0⟩)
 ·rw [if_neg hq]
  unfold BV.cells
  have e0 : Ext h h := Ext.refl _
  refine Runs.intro aFunc43 rfl rfl rfl rfl fun rest => ?_;apply gS;refine gR rfl ?_;refine GoR.box rfl rfl rfl rfl rfl rfl fun h0 x0 f0 => ?_;replace e0 := e0.trans x0;refine GoR.alloc rfl rfl rfl zt23 rfl rfl fun h1 x1 f1 => ?_;replace f0 := f0.ext x1;replace e0 := e0.trans x1;apply gE;apply gS;refine gR rfl ?_;refine gP ?_;refine gO rfl rfl (fa79_2 rfl) rfl ?_;refine gO rfl rfl (ld3 rfl f0 rfl) rfl ?_;refine GoR.call rfl rfl (aCF aFunc67 rfl) (inside_is (r := false) (df (by omega))) ?_ np;rintro v2 h2 ⟨q, x2⟩;cases q;refine ⟨_, rfl, ?_⟩;replace e0 := e0.trans x2;refine gP ?_;refine GoR.callP rfl rfl (aCF aFunc60 rfl) (refuse_yes _ _) (by rintro _ _ ⟨q, _⟩; cases q) ?_;rintro chain h3 ⟨q, x3⟩
  have q := AEnd.pan.inj q
  subst q;replace e0 := e0.trans x3;exact FLeft.pan (⟨rfl, e0⟩)
end Go.Proofs.Yteibheeleeengaa

set_option linter.unusedSimpArgs false
namespace Go.AbsE
open Go
section
variable {P : Program}
end
end Go.AbsE
