import Derived.Test.YtidfcmjlfadieaaFacts
import Derived.Test.YtidfcmjlfadieaaRB
namespace Go.Proofs.Ytidfcmjlfadieaa
open Go Go.AbsE
set_option maxRecDepth 100000
set_option linter.unusedVariables false
theorem zt52 : zeroT Try.prog 52 = some (.agg [.int .i64 0, .int .i64 0]) := by kernel_rfl
theorem splice_all {α : Type} : ∀ {l m : List α}, l.length = m.length → splice l 0 m = some m := by
  intro l
  induction l with
  | nil => intro m hm; cases m with | nil => rfl | cons a m => simp at hm
  | cons a l ih =>
    intro m hm
    cases m with
    | nil => simp at hm
    | cons b m => simp only [splice, ih (m := m) (by simpa using hm)]

theorem zt57 : zeroT Try.prog 57 = some (.agg [.int .i64 0, .int .i64 0, .int .i64 0, .int .i64 0, .int .i64 0]) := by kernel_rfl
theorem by195 : bytesT Try.prog 195 = some 40 := by kernel_rfl
theorem zt195 : zeroT Try.prog 195 = some (.agg [.int .i64 0, .int .i64 0, .int .i64 0, .int .i64 0, .int .i64 0]) := by kernel_rfl

theorem zt92 : zeroT Try.prog 92 = some (.agg [.int .i64 0, .int .i64 0, .nilslice, .nilslice]) := by kernel_rfl
theorem zt90 : zeroT Try.prog 90 = some (.agg [.nilslice]) := by kernel_rfl
theorem pl92 : ∀ fs, Try.prog.underlying 92 = some (.struct fs) → placesT Try.prog fs.toList = some [(0, 1), (1, 1), (2, 1), (3, 1)] := by
  intro fs h
  rw [Try.underlying92] at h
  cases h
  kernel_rfl
theorem pl90 : ∀ fs, Try.prog.underlying 90 = some (.struct fs) → placesT Try.prog fs.toList = some [(0, 1)] := by
  intro fs h
  rw [Try.underlying90] at h
  cases h
  kernel_rfl
theorem cells_agg (l : List AVal) : (AVal.agg l).cells = l := rfl
theorem scal1 {v : AVal} (h : scalars [v] = true) : scalar v = true := by
  unfold scalars at h
  cases q : scalar v with
  | true => rfl
  | false => rw [q] at h; cases h
theorem scal4 {a b : Int} {s m : AVal} (hs : scalars [s] = true) (hm : scalars [m] = true) : scalars (AVal.agg [.int .i64 a, .int .i64 b, s, m]).cells = true := by
  show scalars [.int .i64 a, .int .i64 b, s, m] = true
  have e1 := scal1 hs
  have e2 := scal1 hm
  simp [scalars, e1, e2, show ∀ k n, scalar (.int k n) = true from fun _ _ => rfl]
end Go.Proofs.Ytidfcmjlfadieaa

namespace Go.Proofs.Ytidfcmjlfadieaa
open Go Go.AbsE
set_option maxRecDepth 100000
set_option linter.unusedVariables false
theorem inside_ok (n a b : Int) {r : Bool} (hr : decide (a ≤ n ∧ n ≤ b) = r) (h : AH) : Runs Try.prog 75 [.int .i64 n, .int .i64 a, .int .i64 b] h (fun en h' => en = .ret (.bool r) ∧ Ext h h') := by
  refine Runs.intro aFunc75 rfl rfl rfl rfl fun rest => ?_
  refine Go.seq noJ_ok (Go.region noJ_ok rfl ?_)
  refine GoR.op rfl rfl rfl rfl ?_
  refine GoR.end (Go.seq noJ_ok (Go.region noJ_ok rfl ?_))
  cases e1 : decide (a ≤ n) with
  | false =>
    refine GoR.op rfl rfl rfl rfl ?_
    refine GoR.op rfl rfl rfl rfl ?_
    refine GoR.op rfl rfl (aOp_leq rfl rfl e1) rfl ?_
    refine GoR.op rfl rfl rfl rfl ?_
    refine GoR.skip rfl rfl rfl ?_
    refine GoR.skip rfl rfl rfl ?_
    refine GoR.skip rfl rfl rfl ?_
    refine GoR.op rfl rfl rfl rfl ?_
    refine GoR.op rfl rfl rfl rfl ?_
    refine GoR.end (Go.ret noJ_ok (ret_end (aResult_of Try.func75 rfl rfl) ⟨?_, Ext.refl _⟩))
    rw [← hr]
    simp only [decide_eq_true_eq, decide_eq_false_iff_not] at e1
    simp [oneOrTuple]
    try omega
  | true =>
    cases e2 : decide (n ≤ b) with
    | false =>
      refine GoR.op rfl rfl rfl rfl ?_
      refine GoR.op rfl rfl rfl rfl ?_
      refine GoR.op rfl rfl (aOp_leq rfl rfl e1) rfl ?_
      refine GoR.op rfl rfl rfl rfl ?_
      refine GoR.op rfl rfl rfl rfl ?_
      refine GoR.op rfl rfl rfl rfl ?_
      refine GoR.op rfl rfl (aOp_leq rfl rfl e2) rfl ?_
      refine GoR.op rfl rfl rfl rfl ?_
      refine GoR.op rfl rfl rfl rfl ?_
      refine GoR.end (Go.ret noJ_ok (ret_end (aResult_of Try.func75 rfl rfl) ⟨?_, Ext.refl _⟩))
      rw [← hr]
      simp only [decide_eq_true_eq, decide_eq_false_iff_not] at e1 e2
      simp [oneOrTuple]
      try omega
    | true =>
      refine GoR.op rfl rfl rfl rfl ?_
      refine GoR.op rfl rfl rfl rfl ?_
      refine GoR.op rfl rfl (aOp_leq rfl rfl e1) rfl ?_
      refine GoR.op rfl rfl rfl rfl ?_
      refine GoR.op rfl rfl rfl rfl ?_
      refine GoR.op rfl rfl rfl rfl ?_
      refine GoR.op rfl rfl (aOp_leq rfl rfl e2) rfl ?_
      refine GoR.op rfl rfl rfl rfl ?_
      refine GoR.op rfl rfl rfl rfl ?_
      refine GoR.end (Go.ret noJ_ok (ret_end (aResult_of Try.func75 rfl rfl) ⟨?_, Ext.refl _⟩))
      rw [← hr]
      simp only [decide_eq_true_eq, decide_eq_false_iff_not] at e1 e2
      simp [oneOrTuple]
      try omega

theorem placed_ok (lo hi a b : Int) (hi64 : lo ≤ hi → a ≤ lo → hi ≤ b → inI64 (hi - lo)) {r : Bool} (hr : decide (lo ≤ hi ∧ a ≤ lo ∧ hi ≤ b ∧ hi - lo ≤ 2) = r) (h : AH) : Runs Try.prog 179 [.agg [.int .i64 lo, .int .i64 hi], .int .i64 a, .int .i64 b] h (fun en h' => en = .ret (.bool r) ∧ Ext h h') := by
  refine Runs.intro aFunc179 rfl rfl rfl rfl fun rest => ?_
  refine Go.seq noJ_ok (Go.region noJ_ok rfl ?_)
  refine GoR.box rfl rfl rfl rfl rfl rfl fun h1 x1 f1 => ?_
  refine GoR.op rfl rfl rfl rfl ?_
  refine GoR.end (Go.seq noJ_ok (Go.region noJ_ok rfl ?_))
  cases e1 : decide (lo ≤ hi) with
  | false =>
    refine GoR.op rfl rfl (fa40_0 rfl) rfl ?_
    refine GoR.op rfl rfl (ld3 rfl f1 rfl) rfl ?_
    refine GoR.op rfl rfl (fa40_1 rfl) rfl ?_
    refine GoR.op rfl rfl (ld3 rfl f1 rfl) rfl ?_
    refine GoR.op rfl rfl (aOp_leq rfl rfl e1) rfl ?_
    refine GoR.op rfl rfl rfl rfl ?_
    refine GoR.skip rfl rfl rfl ?_
    refine GoR.skip rfl rfl rfl ?_
    refine GoR.skip rfl rfl rfl ?_
    refine GoR.skip rfl rfl rfl ?_
    refine GoR.op rfl rfl rfl rfl ?_
    refine GoR.op rfl rfl rfl rfl ?_
    refine GoR.skip rfl rfl rfl ?_
    refine GoR.skip rfl rfl rfl ?_
    refine GoR.skip rfl rfl rfl ?_
    refine GoR.skip rfl rfl rfl ?_
    refine GoR.op rfl rfl rfl rfl ?_
    refine GoR.op rfl rfl rfl rfl ?_
    refine GoR.skip rfl rfl rfl ?_
    refine GoR.skip rfl rfl rfl ?_
    refine GoR.skip rfl rfl rfl ?_
    refine GoR.skip rfl rfl rfl ?_
    refine GoR.skip rfl rfl rfl ?_
    refine GoR.skip rfl rfl rfl ?_
    refine GoR.op rfl rfl rfl rfl ?_
    refine GoR.op rfl rfl rfl rfl ?_
    refine GoR.end (Go.ret noJ_ok (ret_end (aResult_of Try.func179 rfl rfl) ⟨?_, x1⟩))
    rw [← hr]
    simp only [decide_eq_true_eq, decide_eq_false_iff_not] at e1
    simp [oneOrTuple]
    try omega
  | true =>
    cases e2 : decide (a ≤ lo) with
    | false =>
      refine GoR.op rfl rfl (fa40_0 rfl) rfl ?_
      refine GoR.op rfl rfl (ld3 rfl f1 rfl) rfl ?_
      refine GoR.op rfl rfl (fa40_1 rfl) rfl ?_
      refine GoR.op rfl rfl (ld3 rfl f1 rfl) rfl ?_
      refine GoR.op rfl rfl (aOp_leq rfl rfl e1) rfl ?_
      refine GoR.op rfl rfl rfl rfl ?_
      refine GoR.op rfl rfl rfl rfl ?_
      refine GoR.op rfl rfl (fa40_0 rfl) rfl ?_
      refine GoR.op rfl rfl (ld3 rfl f1 rfl) rfl ?_
      refine GoR.op rfl rfl (aOp_leq rfl rfl e2) rfl ?_
      refine GoR.op rfl rfl rfl rfl ?_
      refine GoR.op rfl rfl rfl rfl ?_
      refine GoR.skip rfl rfl rfl ?_
      refine GoR.skip rfl rfl rfl ?_
      refine GoR.skip rfl rfl rfl ?_
      refine GoR.skip rfl rfl rfl ?_
      refine GoR.op rfl rfl rfl rfl ?_
      refine GoR.op rfl rfl rfl rfl ?_
      refine GoR.skip rfl rfl rfl ?_
      refine GoR.skip rfl rfl rfl ?_
      refine GoR.skip rfl rfl rfl ?_
      refine GoR.skip rfl rfl rfl ?_
      refine GoR.skip rfl rfl rfl ?_
      refine GoR.skip rfl rfl rfl ?_
      refine GoR.op rfl rfl rfl rfl ?_
      refine GoR.op rfl rfl rfl rfl ?_
      refine GoR.end (Go.ret noJ_ok (ret_end (aResult_of Try.func179 rfl rfl) ⟨?_, x1⟩))
      rw [← hr]
      simp only [decide_eq_true_eq, decide_eq_false_iff_not] at e1 e2
      simp [oneOrTuple]
      try omega
    | true =>
      cases e3 : decide (hi ≤ b) with
      | false =>
        refine GoR.op rfl rfl (fa40_0 rfl) rfl ?_
        refine GoR.op rfl rfl (ld3 rfl f1 rfl) rfl ?_
        refine GoR.op rfl rfl (fa40_1 rfl) rfl ?_
        refine GoR.op rfl rfl (ld3 rfl f1 rfl) rfl ?_
        refine GoR.op rfl rfl (aOp_leq rfl rfl e1) rfl ?_
        refine GoR.op rfl rfl rfl rfl ?_
        refine GoR.op rfl rfl rfl rfl ?_
        refine GoR.op rfl rfl (fa40_0 rfl) rfl ?_
        refine GoR.op rfl rfl (ld3 rfl f1 rfl) rfl ?_
        refine GoR.op rfl rfl (aOp_leq rfl rfl e2) rfl ?_
        refine GoR.op rfl rfl rfl rfl ?_
        refine GoR.op rfl rfl rfl rfl ?_
        refine GoR.op rfl rfl (fa40_1 rfl) rfl ?_
        refine GoR.op rfl rfl (ld3 rfl f1 rfl) rfl ?_
        refine GoR.op rfl rfl rfl rfl ?_
        refine GoR.op rfl rfl (aOp_leq rfl rfl e3) rfl ?_
        refine GoR.op rfl rfl rfl rfl ?_
        refine GoR.op rfl rfl rfl rfl ?_
        refine GoR.skip rfl rfl rfl ?_
        refine GoR.skip rfl rfl rfl ?_
        refine GoR.skip rfl rfl rfl ?_
        refine GoR.skip rfl rfl rfl ?_
        refine GoR.skip rfl rfl rfl ?_
        refine GoR.skip rfl rfl rfl ?_
        refine GoR.op rfl rfl rfl rfl ?_
        refine GoR.op rfl rfl rfl rfl ?_
        refine GoR.end (Go.ret noJ_ok (ret_end (aResult_of Try.func179 rfl rfl) ⟨?_, x1⟩))
        rw [← hr]
        simp only [decide_eq_true_eq, decide_eq_false_iff_not] at e1 e2 e3
        simp [oneOrTuple]
        try omega
      | true =>
        have hd : inI64 (hi - lo) := hi64 (by simpa using e1) (by simpa using e2) (by simpa using e3)
        cases e4 : decide (hi - lo ≤ 2) with
        | false =>
          refine GoR.op rfl rfl (fa40_0 rfl) rfl ?_
          refine GoR.op rfl rfl (ld3 rfl f1 rfl) rfl ?_
          refine GoR.op rfl rfl (fa40_1 rfl) rfl ?_
          refine GoR.op rfl rfl (ld3 rfl f1 rfl) rfl ?_
          refine GoR.op rfl rfl (aOp_leq rfl rfl e1) rfl ?_
          refine GoR.op rfl rfl rfl rfl ?_
          refine GoR.op rfl rfl rfl rfl ?_
          refine GoR.op rfl rfl (fa40_0 rfl) rfl ?_
          refine GoR.op rfl rfl (ld3 rfl f1 rfl) rfl ?_
          refine GoR.op rfl rfl (aOp_leq rfl rfl e2) rfl ?_
          refine GoR.op rfl rfl rfl rfl ?_
          refine GoR.op rfl rfl rfl rfl ?_
          refine GoR.op rfl rfl (fa40_1 rfl) rfl ?_
          refine GoR.op rfl rfl (ld3 rfl f1 rfl) rfl ?_
          refine GoR.op rfl rfl rfl rfl ?_
          refine GoR.op rfl rfl (aOp_leq rfl rfl e3) rfl ?_
          refine GoR.op rfl rfl rfl rfl ?_
          refine GoR.op rfl rfl rfl rfl ?_
          refine GoR.op rfl rfl (fa40_1 rfl) rfl ?_
          refine GoR.op rfl rfl (ld3 rfl f1 rfl) rfl ?_
          refine GoR.op rfl rfl (fa40_0 rfl) rfl ?_
          refine GoR.op rfl rfl (ld3 rfl f1 rfl) rfl ?_
          refine GoR.op rfl rfl (aOp_sub rfl rfl hd rfl) rfl ?_
          refine GoR.op rfl rfl (aOp_leq rfl rfl e4) rfl ?_
          refine GoR.op rfl rfl rfl rfl ?_
          refine GoR.op rfl rfl rfl rfl ?_
          refine GoR.end (Go.ret noJ_ok (ret_end (aResult_of Try.func179 rfl rfl) ⟨?_, x1⟩))
          rw [← hr]
          simp only [decide_eq_true_eq, decide_eq_false_iff_not] at e1 e2 e3 e4
          simp [oneOrTuple]
          try omega
        | true =>
          refine GoR.op rfl rfl (fa40_0 rfl) rfl ?_
          refine GoR.op rfl rfl (ld3 rfl f1 rfl) rfl ?_
          refine GoR.op rfl rfl (fa40_1 rfl) rfl ?_
          refine GoR.op rfl rfl (ld3 rfl f1 rfl) rfl ?_
          refine GoR.op rfl rfl (aOp_leq rfl rfl e1) rfl ?_
          refine GoR.op rfl rfl rfl rfl ?_
          refine GoR.op rfl rfl rfl rfl ?_
          refine GoR.op rfl rfl (fa40_0 rfl) rfl ?_
          refine GoR.op rfl rfl (ld3 rfl f1 rfl) rfl ?_
          refine GoR.op rfl rfl (aOp_leq rfl rfl e2) rfl ?_
          refine GoR.op rfl rfl rfl rfl ?_
          refine GoR.op rfl rfl rfl rfl ?_
          refine GoR.op rfl rfl (fa40_1 rfl) rfl ?_
          refine GoR.op rfl rfl (ld3 rfl f1 rfl) rfl ?_
          refine GoR.op rfl rfl rfl rfl ?_
          refine GoR.op rfl rfl (aOp_leq rfl rfl e3) rfl ?_
          refine GoR.op rfl rfl rfl rfl ?_
          refine GoR.op rfl rfl rfl rfl ?_
          refine GoR.op rfl rfl (fa40_1 rfl) rfl ?_
          refine GoR.op rfl rfl (ld3 rfl f1 rfl) rfl ?_
          refine GoR.op rfl rfl (fa40_0 rfl) rfl ?_
          refine GoR.op rfl rfl (ld3 rfl f1 rfl) rfl ?_
          refine GoR.op rfl rfl (aOp_sub rfl rfl hd rfl) rfl ?_
          refine GoR.op rfl rfl (aOp_leq rfl rfl e4) rfl ?_
          refine GoR.op rfl rfl rfl rfl ?_
          refine GoR.op rfl rfl rfl rfl ?_
          refine GoR.end (Go.ret noJ_ok (ret_end (aResult_of Try.func179 rfl rfl) ⟨?_, x1⟩))
          rw [← hr]
          simp only [decide_eq_true_eq, decide_eq_false_iff_not] at e1 e2 e3 e4
          simp [oneOrTuple]
          try omega

theorem markFits_ok (p hh np nh : Int) (s1 s2 : AVal) (hi64 : inI64 (np - 1)) {r : Bool} (hr : decide (0 ≤ p ∧ p ≤ np - 1 ∧ 0 ≤ hh ∧ hh ≤ nh) = r) (h : AH) : Runs Try.prog 162 [.agg [.int .i64 p, .int .i64 hh], .agg [.int .i64 np, .int .i64 nh, s1, s2]] h (fun en h' => en = .ret (.bool r) ∧ Ext h h') := by
  refine Runs.intro aFunc162 rfl rfl rfl rfl fun rest => ?_
  refine Go.seq noJ_ok (Go.region noJ_ok rfl ?_)
  refine GoR.box rfl rfl rfl rfl rfl rfl fun h1 x1 f1 => ?_
  refine GoR.box rfl rfl rfl rfl rfl rfl fun h2 x2 f2 => ?_
  replace f1 := f1.ext x2
  refine GoR.op rfl rfl rfl rfl ?_
  refine GoR.end (Go.seq noJ_ok (Go.region noJ_ok rfl ?_))
  cases e1 : decide (0 ≤ p ∧ p ≤ np - 1) with
  | false =>
    refine GoR.op rfl rfl (fa52_0 rfl) rfl ?_
    refine GoR.op rfl rfl (ld3 rfl f1 rfl) rfl ?_
    refine GoR.op rfl rfl (fa25_0 rfl) rfl ?_
    refine GoR.op rfl rfl (ld3 rfl f2 rfl) rfl ?_
    refine GoR.op rfl rfl (aOp_sub rfl rfl hi64 rfl) rfl ?_
    refine GoR.call rfl rfl (aOp_callFunc aFunc75 rfl) (inside_ok _ _ _ e1 _) ?_ (by rintro _ _ ⟨q, _⟩; cases q)
    rintro _ h3 ⟨q, x3⟩
    cases q
    replace f1 := f1.ext x3
    replace f2 := f2.ext x3
    refine ⟨_, rfl, ?_⟩
    refine GoR.op rfl rfl rfl rfl ?_
    refine GoR.skip rfl rfl rfl ?_
    refine GoR.skip rfl rfl rfl ?_
    refine GoR.skip rfl rfl rfl ?_
    refine GoR.skip rfl rfl rfl ?_
    refine GoR.skip rfl rfl rfl ?_
    refine GoR.op rfl rfl rfl rfl ?_
    refine GoR.op rfl rfl rfl rfl ?_
    refine GoR.end (Go.ret noJ_ok (ret_end (aResult_of Try.func162 rfl rfl) ⟨?_, ((x1).trans x2).trans x3⟩))
    rw [← hr]
    simp only [decide_eq_true_eq, decide_eq_false_iff_not] at e1
    simp [oneOrTuple]
    try omega
  | true =>
    cases e2 : decide (0 ≤ hh ∧ hh ≤ nh) with
    | false =>
      refine GoR.op rfl rfl (fa52_0 rfl) rfl ?_
      refine GoR.op rfl rfl (ld3 rfl f1 rfl) rfl ?_
      refine GoR.op rfl rfl (fa25_0 rfl) rfl ?_
      refine GoR.op rfl rfl (ld3 rfl f2 rfl) rfl ?_
      refine GoR.op rfl rfl (aOp_sub rfl rfl hi64 rfl) rfl ?_
      refine GoR.call rfl rfl (aOp_callFunc aFunc75 rfl) (inside_ok _ _ _ e1 _) ?_ (by rintro _ _ ⟨q, _⟩; cases q)
      rintro _ h3 ⟨q, x3⟩
      cases q
      replace f1 := f1.ext x3
      replace f2 := f2.ext x3
      refine ⟨_, rfl, ?_⟩
      refine GoR.op rfl rfl rfl rfl ?_
      refine GoR.op rfl rfl (fa52_1 rfl) rfl ?_
      refine GoR.op rfl rfl (ld3 rfl f1 rfl) rfl ?_
      refine GoR.op rfl rfl (fa25_1 rfl) rfl ?_
      refine GoR.op rfl rfl (ld3 rfl f2 rfl) rfl ?_
      refine GoR.call rfl rfl (aOp_callFunc aFunc75 rfl) (inside_ok _ _ _ e2 _) ?_ (by rintro _ _ ⟨q, _⟩; cases q)
      rintro _ h4 ⟨q, x4⟩
      cases q
      replace f1 := f1.ext x4
      replace f2 := f2.ext x4
      refine ⟨_, rfl, ?_⟩
      refine GoR.op rfl rfl rfl rfl ?_
      refine GoR.op rfl rfl rfl rfl ?_
      refine GoR.end (Go.ret noJ_ok (ret_end (aResult_of Try.func162 rfl rfl) ⟨?_, (((x1).trans x2).trans x3).trans x4⟩))
      rw [← hr]
      simp only [decide_eq_true_eq, decide_eq_false_iff_not] at e1 e2
      simp [oneOrTuple]
      try omega
    | true =>
      refine GoR.op rfl rfl (fa52_0 rfl) rfl ?_
      refine GoR.op rfl rfl (ld3 rfl f1 rfl) rfl ?_
      refine GoR.op rfl rfl (fa25_0 rfl) rfl ?_
      refine GoR.op rfl rfl (ld3 rfl f2 rfl) rfl ?_
      refine GoR.op rfl rfl (aOp_sub rfl rfl hi64 rfl) rfl ?_
      refine GoR.call rfl rfl (aOp_callFunc aFunc75 rfl) (inside_ok _ _ _ e1 _) ?_ (by rintro _ _ ⟨q, _⟩; cases q)
      rintro _ h3 ⟨q, x3⟩
      cases q
      replace f1 := f1.ext x3
      replace f2 := f2.ext x3
      refine ⟨_, rfl, ?_⟩
      refine GoR.op rfl rfl rfl rfl ?_
      refine GoR.op rfl rfl (fa52_1 rfl) rfl ?_
      refine GoR.op rfl rfl (ld3 rfl f1 rfl) rfl ?_
      refine GoR.op rfl rfl (fa25_1 rfl) rfl ?_
      refine GoR.op rfl rfl (ld3 rfl f2 rfl) rfl ?_
      refine GoR.call rfl rfl (aOp_callFunc aFunc75 rfl) (inside_ok _ _ _ e2 _) ?_ (by rintro _ _ ⟨q, _⟩; cases q)
      rintro _ h4 ⟨q, x4⟩
      cases q
      replace f1 := f1.ext x4
      replace f2 := f2.ext x4
      refine ⟨_, rfl, ?_⟩
      refine GoR.op rfl rfl rfl rfl ?_
      refine GoR.op rfl rfl rfl rfl ?_
      refine GoR.end (Go.ret noJ_ok (ret_end (aResult_of Try.func162 rfl rfl) ⟨?_, (((x1).trans x2).trans x3).trans x4⟩))
      rw [← hr]
      simp only [decide_eq_true_eq, decide_eq_false_iff_not] at e1 e2
      simp [oneOrTuple]
      try omega

theorem fits_ok (o fl fh tl th np nh : Int) (s1 s2 : AVal) (hp : inI64 np) (hp1 : inI64 (np - 1)) (hh1 : inI64 (nh - 1)) {r : Bool} (hr : decide (0 ≤ o ∧ o ≤ nh - 1 ∧ fl ≤ fh ∧ 0 ≤ fl ∧ fh ≤ np - 1 ∧ fh - fl ≤ 2 ∧ tl ≤ th ∧ 1 ≤ tl ∧ th ≤ np ∧ th - tl ≤ 2 ∧ fl < th) = r) (h : AH) : Runs Try.prog 160 [.agg [.int .i64 o, .int .i64 fl, .int .i64 fh, .int .i64 tl, .int .i64 th], .agg [.int .i64 np, .int .i64 nh, s1, s2]] h (fun en h' => en = .ret (.bool r) ∧ Ext h h') := by
  refine Runs.intro aFunc160 rfl rfl rfl rfl fun rest => ?_
  refine Go.seq noJ_ok (Go.region noJ_ok rfl ?_)
  refine GoR.box rfl rfl rfl rfl rfl rfl fun h1 x1 f1 => ?_
  refine GoR.box rfl rfl rfl rfl rfl rfl fun h2 x2 f2 => ?_
  replace f1 := f1.ext x2
  refine GoR.op rfl rfl rfl rfl ?_
  refine GoR.end (Go.seq noJ_ok (Go.region noJ_ok rfl ?_))
  have g1 : fl ≤ fh → 0 ≤ fl → fh ≤ np - 1 → inI64 (fh - fl) := by obtain ⟨q1, q2⟩ := hp1; intros; constructor <;> omega
  have g2 : tl ≤ th → 1 ≤ tl → th ≤ np → inI64 (th - tl) := by obtain ⟨q1, q2⟩ := hp; intros; constructor <;> omega
  cases e1 : decide (0 ≤ o ∧ o ≤ nh - 1) with
  | false =>
    refine GoR.op rfl rfl (fa195_0 rfl) rfl ?_
    refine GoR.op rfl rfl (ld3 rfl f1 rfl) rfl ?_
    refine GoR.op rfl rfl (fa25_1 rfl) rfl ?_
    refine GoR.op rfl rfl (ld3 rfl f2 rfl) rfl ?_
    refine GoR.op rfl rfl (aOp_sub rfl rfl hh1 rfl) rfl ?_
    refine GoR.call rfl rfl (aOp_callFunc aFunc75 rfl) (inside_ok _ _ _ e1 _) ?_ (by rintro _ _ ⟨q, _⟩; cases q)
    rintro _ h3 ⟨q, x3⟩
    cases q
    replace f1 := f1.ext x3
    replace f2 := f2.ext x3
    refine ⟨_, rfl, ?_⟩
    refine GoR.op rfl rfl rfl rfl ?_
    refine GoR.skip rfl rfl rfl ?_
    refine GoR.skip rfl rfl rfl ?_
    refine GoR.skip rfl rfl rfl ?_
    refine GoR.skip rfl rfl rfl ?_
    refine GoR.skip rfl rfl rfl ?_
    refine GoR.skip rfl rfl rfl ?_
    refine GoR.op rfl rfl rfl rfl ?_
    refine GoR.op rfl rfl rfl rfl ?_
    refine GoR.skip rfl rfl rfl ?_
    refine GoR.skip rfl rfl rfl ?_
    refine GoR.skip rfl rfl rfl ?_
    refine GoR.skip rfl rfl rfl ?_
    refine GoR.skip rfl rfl rfl ?_
    refine GoR.op rfl rfl rfl rfl ?_
    refine GoR.op rfl rfl rfl rfl ?_
    refine GoR.skip rfl rfl rfl ?_
    refine GoR.skip rfl rfl rfl ?_
    refine GoR.skip rfl rfl rfl ?_
    refine GoR.skip rfl rfl rfl ?_
    refine GoR.skip rfl rfl rfl ?_
    refine GoR.skip rfl rfl rfl ?_
    refine GoR.skip rfl rfl rfl ?_
    refine GoR.op rfl rfl rfl rfl ?_
    refine GoR.op rfl rfl rfl rfl ?_
    refine GoR.end (Go.ret noJ_ok (ret_end (aResult_of Try.func160 rfl rfl) ⟨?_, ((x1).trans x2).trans x3⟩))
    rw [← hr]
    simp only [decide_eq_true_eq, decide_eq_false_iff_not] at e1
    simp [oneOrTuple]
    try omega
  | true =>
    cases e2 : decide (fl ≤ fh ∧ 0 ≤ fl ∧ fh ≤ np - 1 ∧ fh - fl ≤ 2) with
    | false =>
      refine GoR.op rfl rfl (fa195_0 rfl) rfl ?_
      refine GoR.op rfl rfl (ld3 rfl f1 rfl) rfl ?_
      refine GoR.op rfl rfl (fa25_1 rfl) rfl ?_
      refine GoR.op rfl rfl (ld3 rfl f2 rfl) rfl ?_
      refine GoR.op rfl rfl (aOp_sub rfl rfl hh1 rfl) rfl ?_
      refine GoR.call rfl rfl (aOp_callFunc aFunc75 rfl) (inside_ok _ _ _ e1 _) ?_ (by rintro _ _ ⟨q, _⟩; cases q)
      rintro _ h3 ⟨q, x3⟩
      cases q
      replace f1 := f1.ext x3
      replace f2 := f2.ext x3
      refine ⟨_, rfl, ?_⟩
      refine GoR.op rfl rfl rfl rfl ?_
      refine GoR.op rfl rfl (fa195_1 rfl) rfl ?_
      refine GoR.op rfl rfl (ld40 rfl f1 rfl) rfl ?_
      refine GoR.op rfl rfl (fa25_0 rfl) rfl ?_
      refine GoR.op rfl rfl (ld3 rfl f2 rfl) rfl ?_
      refine GoR.op rfl rfl (aOp_sub rfl rfl hp1 rfl) rfl ?_
      refine GoR.call rfl rfl (aOp_callFunc aFunc179 rfl) (placed_ok _ _ _ _ g1 e2 _) ?_ (by rintro _ _ ⟨q, _⟩; cases q)
      rintro _ h4 ⟨q, x4⟩
      cases q
      replace f1 := f1.ext x4
      replace f2 := f2.ext x4
      refine ⟨_, rfl, ?_⟩
      refine GoR.op rfl rfl rfl rfl ?_
      refine GoR.op rfl rfl rfl rfl ?_
      refine GoR.skip rfl rfl rfl ?_
      refine GoR.skip rfl rfl rfl ?_
      refine GoR.skip rfl rfl rfl ?_
      refine GoR.skip rfl rfl rfl ?_
      refine GoR.skip rfl rfl rfl ?_
      refine GoR.op rfl rfl rfl rfl ?_
      refine GoR.op rfl rfl rfl rfl ?_
      refine GoR.skip rfl rfl rfl ?_
      refine GoR.skip rfl rfl rfl ?_
      refine GoR.skip rfl rfl rfl ?_
      refine GoR.skip rfl rfl rfl ?_
      refine GoR.skip rfl rfl rfl ?_
      refine GoR.skip rfl rfl rfl ?_
      refine GoR.skip rfl rfl rfl ?_
      refine GoR.op rfl rfl rfl rfl ?_
      refine GoR.op rfl rfl rfl rfl ?_
      refine GoR.end (Go.ret noJ_ok (ret_end (aResult_of Try.func160 rfl rfl) ⟨?_, (((x1).trans x2).trans x3).trans x4⟩))
      rw [← hr]
      simp only [decide_eq_true_eq, decide_eq_false_iff_not] at e1 e2
      simp [oneOrTuple]
      try omega
    | true =>
      cases e3 : decide (tl ≤ th ∧ 1 ≤ tl ∧ th ≤ np ∧ th - tl ≤ 2) with
      | false =>
        refine GoR.op rfl rfl (fa195_0 rfl) rfl ?_
        refine GoR.op rfl rfl (ld3 rfl f1 rfl) rfl ?_
        refine GoR.op rfl rfl (fa25_1 rfl) rfl ?_
        refine GoR.op rfl rfl (ld3 rfl f2 rfl) rfl ?_
        refine GoR.op rfl rfl (aOp_sub rfl rfl hh1 rfl) rfl ?_
        refine GoR.call rfl rfl (aOp_callFunc aFunc75 rfl) (inside_ok _ _ _ e1 _) ?_ (by rintro _ _ ⟨q, _⟩; cases q)
        rintro _ h3 ⟨q, x3⟩
        cases q
        replace f1 := f1.ext x3
        replace f2 := f2.ext x3
        refine ⟨_, rfl, ?_⟩
        refine GoR.op rfl rfl rfl rfl ?_
        refine GoR.op rfl rfl (fa195_1 rfl) rfl ?_
        refine GoR.op rfl rfl (ld40 rfl f1 rfl) rfl ?_
        refine GoR.op rfl rfl (fa25_0 rfl) rfl ?_
        refine GoR.op rfl rfl (ld3 rfl f2 rfl) rfl ?_
        refine GoR.op rfl rfl (aOp_sub rfl rfl hp1 rfl) rfl ?_
        refine GoR.call rfl rfl (aOp_callFunc aFunc179 rfl) (placed_ok _ _ _ _ g1 e2 _) ?_ (by rintro _ _ ⟨q, _⟩; cases q)
        rintro _ h4 ⟨q, x4⟩
        cases q
        replace f1 := f1.ext x4
        replace f2 := f2.ext x4
        refine ⟨_, rfl, ?_⟩
        refine GoR.op rfl rfl rfl rfl ?_
        refine GoR.op rfl rfl rfl rfl ?_
        refine GoR.op rfl rfl (fa195_2 rfl) rfl ?_
        refine GoR.op rfl rfl (ld40 rfl f1 rfl) rfl ?_
        refine GoR.op rfl rfl (fa25_0 rfl) rfl ?_
        refine GoR.op rfl rfl (ld3 rfl f2 rfl) rfl ?_
        refine GoR.call rfl rfl (aOp_callFunc aFunc179 rfl) (placed_ok _ _ _ _ g2 e3 _) ?_ (by rintro _ _ ⟨q, _⟩; cases q)
        rintro _ h5 ⟨q, x5⟩
        cases q
        replace f1 := f1.ext x5
        replace f2 := f2.ext x5
        refine ⟨_, rfl, ?_⟩
        refine GoR.op rfl rfl rfl rfl ?_
        refine GoR.op rfl rfl rfl rfl ?_
        refine GoR.skip rfl rfl rfl ?_
        refine GoR.skip rfl rfl rfl ?_
        refine GoR.skip rfl rfl rfl ?_
        refine GoR.skip rfl rfl rfl ?_
        refine GoR.skip rfl rfl rfl ?_
        refine GoR.skip rfl rfl rfl ?_
        refine GoR.skip rfl rfl rfl ?_
        refine GoR.op rfl rfl rfl rfl ?_
        refine GoR.op rfl rfl rfl rfl ?_
        refine GoR.end (Go.ret noJ_ok (ret_end (aResult_of Try.func160 rfl rfl) ⟨?_, ((((x1).trans x2).trans x3).trans x4).trans x5⟩))
        rw [← hr]
        simp only [decide_eq_true_eq, decide_eq_false_iff_not] at e1 e2 e3
        simp [oneOrTuple]
        try omega
      | true =>
        cases e4 : decide (fl < th) with
        | false =>
          refine GoR.op rfl rfl (fa195_0 rfl) rfl ?_
          refine GoR.op rfl rfl (ld3 rfl f1 rfl) rfl ?_
          refine GoR.op rfl rfl (fa25_1 rfl) rfl ?_
          refine GoR.op rfl rfl (ld3 rfl f2 rfl) rfl ?_
          refine GoR.op rfl rfl (aOp_sub rfl rfl hh1 rfl) rfl ?_
          refine GoR.call rfl rfl (aOp_callFunc aFunc75 rfl) (inside_ok _ _ _ e1 _) ?_ (by rintro _ _ ⟨q, _⟩; cases q)
          rintro _ h3 ⟨q, x3⟩
          cases q
          replace f1 := f1.ext x3
          replace f2 := f2.ext x3
          refine ⟨_, rfl, ?_⟩
          refine GoR.op rfl rfl rfl rfl ?_
          refine GoR.op rfl rfl (fa195_1 rfl) rfl ?_
          refine GoR.op rfl rfl (ld40 rfl f1 rfl) rfl ?_
          refine GoR.op rfl rfl (fa25_0 rfl) rfl ?_
          refine GoR.op rfl rfl (ld3 rfl f2 rfl) rfl ?_
          refine GoR.op rfl rfl (aOp_sub rfl rfl hp1 rfl) rfl ?_
          refine GoR.call rfl rfl (aOp_callFunc aFunc179 rfl) (placed_ok _ _ _ _ g1 e2 _) ?_ (by rintro _ _ ⟨q, _⟩; cases q)
          rintro _ h4 ⟨q, x4⟩
          cases q
          replace f1 := f1.ext x4
          replace f2 := f2.ext x4
          refine ⟨_, rfl, ?_⟩
          refine GoR.op rfl rfl rfl rfl ?_
          refine GoR.op rfl rfl rfl rfl ?_
          refine GoR.op rfl rfl (fa195_2 rfl) rfl ?_
          refine GoR.op rfl rfl (ld40 rfl f1 rfl) rfl ?_
          refine GoR.op rfl rfl (fa25_0 rfl) rfl ?_
          refine GoR.op rfl rfl (ld3 rfl f2 rfl) rfl ?_
          refine GoR.call rfl rfl (aOp_callFunc aFunc179 rfl) (placed_ok _ _ _ _ g2 e3 _) ?_ (by rintro _ _ ⟨q, _⟩; cases q)
          rintro _ h5 ⟨q, x5⟩
          cases q
          replace f1 := f1.ext x5
          replace f2 := f2.ext x5
          refine ⟨_, rfl, ?_⟩
          refine GoR.op rfl rfl rfl rfl ?_
          refine GoR.op rfl rfl rfl rfl ?_
          refine GoR.op rfl rfl (fa195_1 rfl) rfl ?_
          refine GoR.op rfl rfl (fa40_0 rfl) rfl ?_
          refine GoR.op rfl rfl (ld3 rfl f1 rfl) rfl ?_
          refine GoR.op rfl rfl (fa195_2 rfl) rfl ?_
          refine GoR.op rfl rfl (fa40_1 rfl) rfl ?_
          refine GoR.op rfl rfl (ld3 rfl f1 rfl) rfl ?_
          refine GoR.op rfl rfl (aOp_lss rfl rfl e4) rfl ?_
          refine GoR.op rfl rfl rfl rfl ?_
          refine GoR.op rfl rfl rfl rfl ?_
          refine GoR.end (Go.ret noJ_ok (ret_end (aResult_of Try.func160 rfl rfl) ⟨?_, ((((x1).trans x2).trans x3).trans x4).trans x5⟩))
          rw [← hr]
          simp only [decide_eq_true_eq, decide_eq_false_iff_not] at e1 e2 e3 e4
          simp [oneOrTuple]
          try omega
        | true =>
          refine GoR.op rfl rfl (fa195_0 rfl) rfl ?_
          refine GoR.op rfl rfl (ld3 rfl f1 rfl) rfl ?_
          refine GoR.op rfl rfl (fa25_1 rfl) rfl ?_
          refine GoR.op rfl rfl (ld3 rfl f2 rfl) rfl ?_
          refine GoR.op rfl rfl (aOp_sub rfl rfl hh1 rfl) rfl ?_
          refine GoR.call rfl rfl (aOp_callFunc aFunc75 rfl) (inside_ok _ _ _ e1 _) ?_ (by rintro _ _ ⟨q, _⟩; cases q)
          rintro _ h3 ⟨q, x3⟩
          cases q
          replace f1 := f1.ext x3
          replace f2 := f2.ext x3
          refine ⟨_, rfl, ?_⟩
          refine GoR.op rfl rfl rfl rfl ?_
          refine GoR.op rfl rfl (fa195_1 rfl) rfl ?_
          refine GoR.op rfl rfl (ld40 rfl f1 rfl) rfl ?_
          refine GoR.op rfl rfl (fa25_0 rfl) rfl ?_
          refine GoR.op rfl rfl (ld3 rfl f2 rfl) rfl ?_
          refine GoR.op rfl rfl (aOp_sub rfl rfl hp1 rfl) rfl ?_
          refine GoR.call rfl rfl (aOp_callFunc aFunc179 rfl) (placed_ok _ _ _ _ g1 e2 _) ?_ (by rintro _ _ ⟨q, _⟩; cases q)
          rintro _ h4 ⟨q, x4⟩
          cases q
          replace f1 := f1.ext x4
          replace f2 := f2.ext x4
          refine ⟨_, rfl, ?_⟩
          refine GoR.op rfl rfl rfl rfl ?_
          refine GoR.op rfl rfl rfl rfl ?_
          refine GoR.op rfl rfl (fa195_2 rfl) rfl ?_
          refine GoR.op rfl rfl (ld40 rfl f1 rfl) rfl ?_
          refine GoR.op rfl rfl (fa25_0 rfl) rfl ?_
          refine GoR.op rfl rfl (ld3 rfl f2 rfl) rfl ?_
          refine GoR.call rfl rfl (aOp_callFunc aFunc179 rfl) (placed_ok _ _ _ _ g2 e3 _) ?_ (by rintro _ _ ⟨q, _⟩; cases q)
          rintro _ h5 ⟨q, x5⟩
          cases q
          replace f1 := f1.ext x5
          replace f2 := f2.ext x5
          refine ⟨_, rfl, ?_⟩
          refine GoR.op rfl rfl rfl rfl ?_
          refine GoR.op rfl rfl rfl rfl ?_
          refine GoR.op rfl rfl (fa195_1 rfl) rfl ?_
          refine GoR.op rfl rfl (fa40_0 rfl) rfl ?_
          refine GoR.op rfl rfl (ld3 rfl f1 rfl) rfl ?_
          refine GoR.op rfl rfl (fa195_2 rfl) rfl ?_
          refine GoR.op rfl rfl (fa40_1 rfl) rfl ?_
          refine GoR.op rfl rfl (ld3 rfl f1 rfl) rfl ?_
          refine GoR.op rfl rfl (aOp_lss rfl rfl e4) rfl ?_
          refine GoR.op rfl rfl rfl rfl ?_
          refine GoR.op rfl rfl rfl rfl ?_
          refine GoR.end (Go.ret noJ_ok (ret_end (aResult_of Try.func160 rfl rfl) ⟨?_, ((((x1).trans x2).trans x3).trans x4).trans x5⟩))
          rw [← hr]
          simp only [decide_eq_true_eq, decide_eq_false_iff_not] at e1 e2 e3 e4
          simp [oneOrTuple]
          try omega

end Go.Proofs.Ytidfcmjlfadieaa

namespace Go.Proofs.Ytidfcmjlfadieaa
open Go Go.AbsE
set_option maxRecDepth 100000
set_option linter.unusedVariables false
def Five (l : List AVal) : Prop := ∃ a b c d e : AVal, l = [a, b, c, d, e] ∧ scalars l = true

theorem leases_ok (np nh : Int) (s marks : AVal) (L : List (List AVal)) (h : AH) (hL : L.length ≤ 100) (h5 : ∀ l, l ∈ L → Five l) (hs : SliceOf h 5 s L) :
    Runs Try.prog 159 [.agg [.int .i64 np, .int .i64 nh, s, marks]] h (fun en h' => ∃ s', en = .ret s' ∧ Ext h h' ∧ Grow h' 195 5 h.next s' L.length L.flatten) := by
  refine Runs.intro aFunc159 rfl rfl rfl rfl fun rest => ?_
  refine Go.seq noJ_ok (Go.region noJ_ok rfl ?_)
  refine GoR.box rfl rfl rfl rfl rfl rfl fun h1 x1 f1 => ?_
  refine GoR.op rfl rfl rfl rfl ?_
  refine GoR.end (Go.seq noJ_ok (Go.region noJ_ok rfl ?_))
  refine GoR.op rfl rfl rfl rfl ?_
  refine GoR.end (Go.seq noJ_ok (Go.seq noJ_ok (Go.region noJ_ok rfl ?_)))
  refine GoR.op rfl rfl (fa25_2 rfl) rfl ?_
  refine GoR.op rfl rfl (ld22 rfl f1 rfl) rfl ?_
  refine GoR.op rfl rfl (aOp_lenSlice Try.underlying22 rfl hs.len) rfl ?_
  refine GoR.op rfl rfl rfl rfl ?_
  refine GoR.end (Go.block noJ_ok ?_)
  refine Go.keep [(3, .nilslice), (7, s), (8, .int .i64 L.length), (9, .int .i64 0)] ⟨rfl, rfl, rfl, rfl, trivial⟩ ?_
  refine Go.loopInv (fun n t h' => ∃ i s', n + i = L.length ∧ t = keepT [(3, s'), (7, s), (8, .int .i64 L.length), (9, .int .i64 (Int.ofNat i))] ∧ Ext h h' ∧ Grow h' 195 5 h.next s' i (L.take i).flatten) (n := L.length) ⟨0, .nilslice, rfl, rfl, x1, rfl, .inl ⟨rfl, rfl⟩⟩ ?_
  rintro n t h2 ⟨i, s', hn, rfl, x2, hg⟩ again
  refine Go.seq noJ_ok (Go.region noJ_ok rfl ?_)
  by_cases hi : i < L.length
  · refine GoR.op rfl rfl (aOp_lss rfl rfl (r := true) (by simp; omega)) rfl ?_
    refine GoR.end (Go.seq noJ_ok (Go.cond noJ_ok rfl (Go.code noJ_ok ?_)))
    refine Go.seq noJ_ok (Go.block noJ_ok (Go.seq noJ_ok (Go.region noJ_ok rfl ?_)))
    obtain ⟨l, hl⟩ : ∃ l, L[i]? = some l := ⟨L[i], by simp [hi]⟩
    obtain ⟨b, off, k1, k2⟩ := (hs.ext x2).at hl
    refine GoR.op rfl rfl (aOp_indexAddr Try.underlying22 sz57 rfl k1 rfl (Nat.ble_eq_true_of_le hi)) rfl ?_
    refine GoR.op rfl rfl (aOp_loadE ag57 sz57 rfl k2) rfl ?_
    obtain ⟨c0, c1, c2, c3, c4, rfl, hsc⟩ := h5 l (List.mem_of_getElem? hl)
    refine GoR.alloc rfl rfl rfl zt57 rfl rfl fun h3 x3 f3 => ?_
    refine GoR.store rfl rfl rfl rfl rfl rfl f3 rfl sz57 rfl hsc rfl fun h4 u4 => ?_
    refine GoR.end (Go.region noJ_ok rfl ?_)
    refine GoR.op rfl rfl rfl rfl ?_
    refine GoR.op rfl rfl (ld57 rfl (u4.has f3) rfl) rfl ?_
    refine GoR.build1 rfl rfl rfl Try.underlying88 sz195 zt195 rfl rfl rfl rfl rfl rfl fun h5 x5 f5 => ?_
    have x4 : Ext h h5 := (x2.trans (x3.upd u4 (Nat.le_refl _))).trans x5
    refine GoR.append1 (h0 := h) (s := s') (n := i) (cs := (L.take i).flatten) rfl rfl rfl Try.underlying88 Try.underlying88 sz195 by195 zt195 rfl rfl rfl rfl f5 rfl hsc ((hg.ext (x3.upd u4 (Nat.le_refl _))).ext x5) (by omega) x4 rfl rfl fun s1 h6 x6 g6 => ?_
    refine GoR.op rfl rfl rfl rfl ?_
    refine GoR.end (Go.inBlock noJ_ok (Go.region noJ_ok rfl ?_))
    have hi64 : inI64 (Int.ofNat i + 1) := by constructor <;> simp <;> omega
    refine GoR.op rfl rfl (aOp_add rfl rfl hi64 rfl) rfl ?_
    refine GoR.op rfl rfl rfl rfl ?_
    refine GoR.end ?_
    refine Go.keep [(3, s1), (7, s), (8, .int .i64 L.length), (9, .int .i64 (Int.ofNat i + 1))] ⟨rfl, rfl, rfl, rfl, trivial⟩ ?_
    refine again (n - 1) _ _ (by omega) ⟨i + 1, s1, by omega, rfl, x6, ?_⟩
    rw [List.take_add_one, hl]
    simpa [AVal.cells] using g6
  · refine GoR.op rfl rfl (aOp_lss rfl rfl (r := false) (by simp; omega)) rfl ?_
    refine GoR.end (Go.seq noJ_ok (Go.cond noJ_ok rfl (Go.code noJ_ok ?_)))
    refine Go.seq noJ_ok (Go.region noJ_ok rfl ?_)
    refine GoR.op rfl rfl rfl rfl ?_
    refine GoR.op rfl rfl rfl rfl ?_
    refine GoR.end (Go.ret noJ_ok (ret_end (aResult_of Try.func159 rfl rfl) ?_))
    have : i = L.length := by omega
    subst this
    rw [List.take_length] at hg
    exact ⟨s', rfl, x2, hg⟩

noncomputable def ops118 : Array Oper := ((drawnOps Try.f118)[0]?).getD #[]
theorem plan118 : plan ops118 = some (mkPlan ops118.toList [(0, 0, true, false), (1, 1, true, false), (2, 0, true, false), (3, 4, true, false), (4, 0, true, false),
        (6, 0, true, false), (7, 64, true, false), (8, 192, true, false), (5, 16, false, false), (9, 511, true, false),
        (10, 1023, false, false)]) := by kernel_rfl

theorem survey_ok (np nh : Int) (s marks : AVal) (L : List (List AVal)) (h : AH) (hL : L.length ≤ 100) (h5 : ∀ l, l ∈ L → Five l) (hs : SliceOf h 5 s L) (hss : sameA s s = true) (hsm : sameA marks marks = true) (hmc : marks.cells = [marks]) (hms : scalars [marks] = true) :
    Runs Try.prog 118 [.agg [.int .i64 np, .int .i64 nh, s, marks]] h (fun en h' => ∃ s', en = .ret (.agg [.int .i64 np, .int .i64 nh, s', marks]) ∧ Ext h h' ∧ Grow h' 195 5 h.next s' L.length L.flatten) := by
  refine Runs.intro aFunc118 rfl rfl rfl rfl fun rest => ?_
  refine Go.seq noJ_ok (Go.region noJ_ok rfl ?_)
  refine GoR.box rfl rfl rfl rfl rfl rfl fun h1 x1 f1 => ?_
  refine GoR.alloc rfl rfl rfl zt92 rfl rfl fun h2 x2 f2 => ?_
  replace f1 := f1.ext x2
  refine GoR.end (Go.seq noJ_ok (Go.drawn plan118 ?_))
  refine GoD.quiet rfl rfl (fun h' x => fa25_0 rfl) (by simp [sameA]) rfl ?_
  refine GoD.quiet rfl rfl (fun h' x => ld3 rfl (f1.ext x) rfl) (sameA_int _ _) rfl ?_
  refine GoD.quiet rfl rfl (fun h' x => fa25_1 rfl) (by simp [sameA]) rfl ?_
  refine GoD.quiet rfl rfl (fun h' x => ld3 rfl (f1.ext x) rfl) (sameA_int _ _) rfl ?_
  refine GoD.quiet (v := .agg [.int .i64 np, .int .i64 nh, s, marks]) rfl rfl (fun h' x => ld25 rfl (f1.ext x) rfl) (by simp [sameA, sameAs, eqI_eq, hss, hsm]) rfl ?_
  refine GoD.quiet rfl rfl (fun h' x => fa25_3 rfl) (by simp [sameA]) rfl ?_
  refine GoD.quiet rfl rfl (fun h' x => ld23 rfl (f1.ext x) rfl) hsm rfl ?_
  refine GoD.quiet (v := .agg [marks]) rfl rfl (fun h' x => aOp_build zt90 Try.underlying90 (pl90 _ Try.underlying90) rfl (by simp [aFillA, hmc, cells_agg, splice])) (by simp [sameA, sameAs, hsm]) rfl ?_
  refine GoD.call rfl rfl (aOp_callFunc aFunc159 rfl) (leases_ok np nh s marks L h2 hL h5 (hs.ext (x1.trans x2))) ?_ (by rintro _ _ ⟨_, q, _⟩; cases q)
  rintro _ h3 ⟨s', q, x3, g3⟩
  have q := (AEnd.ret.inj q).symm
  subst q
  refine ⟨x3, _, rfl, ?_⟩
  have hsc' : s'.cells = [s'] ∧ scalars [s'] = true ∧ sameA s' s' = true := by
    obtain ⟨_, ⟨rfl, _⟩ | ⟨_, b, _, rfl, _⟩⟩ := g3
    · exact ⟨rfl, rfl, rfl⟩
    · exact ⟨rfl, rfl, by simp [sameA]⟩
  obtain ⟨k1, k2, k3⟩ := hsc'
  refine GoD.quiet (v := .agg [.int .i64 np, .int .i64 nh, s', marks]) rfl rfl (fun h' x => aOp_build zt92 Try.underlying92 (pl92 _ Try.underlying92) rfl (by simp [aFillA, k1, cells_agg, splice, AVal.cells.eq_def (.int _ _)])) (by simp [sameA, sameAs, eqI_eq, k3, hsm]) rfl ?_
  refine GoD.store rfl rfl rfl rfl (by kernel_rfl) rfl rfl (f2.ext x3) rfl sz92 rfl (scal4 k2 hms) rfl fun h4 u4 => ?_
  refine GoD.end rfl (Go.ret noJ_ok (ret_end (aResult_of Try.func118 rfl (aResults_cell rfl (u4.has (f2.ext x3)) (inCells_agg ag92 sz92 rfl))) ⟨s', rfl, ?_, ?_⟩))
  · exact ((x1.trans x2).trans x3).upd u4 x1.1
  · exact (g3.upd u4 f2.1).low (x1.trans x2).1
end Go.Proofs.Ytidfcmjlfadieaa

namespace Go.Proofs.Ytidfcmjlfadieaa
open Go Go.AbsE
set_option maxRecDepth 100000
set_option linter.unusedVariables false
theorem all158_ok (F : FuncId) (fF : Func) (hF : aFunc Try.prog F = some fF) (bank : List AVal) (hbl : bank.length = 4) (s : AVal) (L : List (List AVal)) (f : List AVal → Bool) (h : AH) (hL : L.length ≤ 100) (h5 : ∀ l, l ∈ L → l.length = 5 ∧ scalars l = true) (hs : SliceOf h 5 s L)
    (hf : ∀ l, l ∈ L → ∀ h', Runs Try.prog F [.agg l, .agg bank] h' (fun en h'' => en = .ret (.bool (f l)) ∧ Ext h' h'')) :
    Runs Try.prog 158 [s, .func (.func F) [] [], .agg bank] h (fun en h' => en = .ret (.bool (L.all f)) ∧ Ext h h') := by
  refine Runs.intro aFunc158 rfl rfl rfl rfl fun rest => ?_
  refine Go.seq noJ_ok (Go.region noJ_ok rfl ?_)
  refine GoR.box rfl rfl rfl rfl rfl rfl fun h1 x1 f1 => ?_
  refine GoR.op rfl rfl rfl rfl ?_
  refine GoR.end (Go.seq noJ_ok (Go.seq noJ_ok (Go.region noJ_ok rfl ?_)))
  refine GoR.op rfl rfl rfl rfl ?_
  refine GoR.op rfl rfl (aOp_lenSlice Try.underlying88 rfl hs.len) rfl ?_
  refine GoR.op rfl rfl rfl rfl ?_
  refine GoR.end (Go.block noJ_ok ?_)
  refine Go.keep [(1, .func (.func F) [] []), (5, .ptr h.next 0), (9, s), (10, .int .i64 L.length), (11, .int .i64 0)] ⟨rfl, rfl, rfl, rfl, rfl, trivial⟩ ?_
  refine Go.loopInv (fun n t h' => ∃ i, n + i = L.length ∧ t = keepT [(1, .func (.func F) [] []), (5, .ptr h.next 0), (9, s), (10, .int .i64 L.length), (11, .int .i64 (Int.ofNat i))] ∧ Ext h1 h' ∧ (L.take i).all f = true) (n := L.length) ⟨0, rfl, rfl, Ext.refl _, rfl⟩ ?_
  rintro n t h2 ⟨i, hn, rfl, x2, ha⟩ again
  replace f1 := f1.ext x2
  refine Go.seq noJ_ok (Go.region noJ_ok rfl ?_)
  by_cases hi : i < L.length
  · refine GoR.op rfl rfl (aOp_lss rfl rfl (r := true) (by simp; omega)) rfl ?_
    refine GoR.end (Go.seq noJ_ok (Go.cond noJ_ok rfl (Go.code noJ_ok ?_)))
    refine Go.seq noJ_ok (Go.block noJ_ok (Go.seq noJ_ok (Go.region noJ_ok rfl ?_)))
    obtain ⟨l, hl⟩ : ∃ l, L[i]? = some l := ⟨L[i], by simp [hi]⟩
    have hm := List.mem_of_getElem? hl
    obtain ⟨b, off, k1, k2⟩ := (hs.ext (x1.trans x2)).at hl
    refine GoR.op rfl rfl (aOp_indexAddr Try.underlying88 sz195 rfl k1 rfl (Nat.ble_eq_true_of_le hi)) rfl ?_
    refine GoR.op rfl rfl (aOp_loadE ag195 sz195 rfl k2) rfl ?_
    obtain ⟨hl5, hsc⟩ := h5 l hm
    refine GoR.alloc rfl rfl rfl zt195 rfl rfl fun h3 x3 f3 => ?_
    refine GoR.store rfl rfl rfl rfl rfl rfl f3 rfl sz195 (by simp [cells_agg, hl5]) hsc (splice_all (by simp [cells_agg, hl5])) fun h4 u4 => ?_
    have x4 : Ext h2 h4 := x3.upd u4 (Nat.le_refl _)
    replace f1 := f1.ext x4
    refine GoR.end (Go.seq noJ_ok (Go.region noJ_ok rfl ?_))
    refine GoR.op rfl rfl rfl rfl ?_
    refine GoR.op rfl rfl (ld195 rfl (u4.has f3) (slice_all (by simp [cells_agg, hl5]))) rfl ?_
    refine GoR.op rfl rfl (ld25 rfl f1 (slice_all (by simp [cells_agg, hbl]))) rfl ?_
    refine GoR.call rfl rfl (aOp_callVal rfl hF rfl) (hf l hm h4) ?_ (by rintro _ _ ⟨q, _⟩; cases q)
    rintro _ h5 ⟨q, x5⟩
    have q := (AEnd.ret.inj q).symm
    subst q
    refine ⟨_, rfl, ?_⟩
    refine GoR.op rfl rfl rfl rfl ?_
    have hmore : (L.take (i + 1)).all f = f l := by rw [List.take_add_one, hl]; simp [ha]
    cases hfl : f l with
    | true =>
      rw [hfl] at hmore
      refine GoR.end (Go.cond noJ_ok (b := false) rfl (Go.code noJ_ok ?_))
      refine Go.inBlock noJ_ok (Go.region noJ_ok rfl ?_)
      have hi64 : inI64 (Int.ofNat i + 1) := by constructor <;> simp <;> omega
      refine GoR.op rfl rfl (aOp_add rfl rfl hi64 rfl) rfl ?_
      refine GoR.op rfl rfl rfl rfl ?_
      refine GoR.end ?_
      refine Go.keep [(1, .func (.func F) [] []), (5, .ptr h.next 0), (9, s), (10, .int .i64 L.length), (11, .int .i64 (Int.ofNat i + 1))] ⟨rfl, rfl, rfl, rfl, rfl, trivial⟩ ?_
      exact again (n - 1) _ _ (by omega) ⟨i + 1, by omega, rfl, (x2.trans x4).trans x5, hmore⟩
    | false =>
      rw [hfl] at hmore
      refine GoR.end (Go.cond noJ_ok (b := true) rfl (Go.seq noJ_ok (Go.region noJ_ok rfl ?_)))
      refine GoR.op rfl rfl rfl rfl ?_
      refine GoR.end (Go.ret noJ_ok (ret_end (aResult_of Try.func158 rfl rfl) ⟨?_, ((x1.trans x2).trans x4).trans x5⟩))
      have : L.all f = false := by
        cases hq : L.all f with
        | false => rfl
        | true => rw [List.all_eq_true] at hq; rw [hq l hm] at hfl; cases hfl
      rw [this]
      rfl
  · refine GoR.op rfl rfl (aOp_lss rfl rfl (r := false) (by simp; omega)) rfl ?_
    refine GoR.end (Go.seq noJ_ok (Go.cond noJ_ok rfl (Go.code noJ_ok ?_)))
    refine Go.seq noJ_ok (Go.region noJ_ok rfl ?_)
    refine GoR.op rfl rfl rfl rfl ?_
    refine GoR.end (Go.ret noJ_ok (ret_end (aResult_of Try.func158 rfl rfl) ⟨?_, x1.trans x2⟩))
    have : i = L.length := by omega
    subst this
    rw [List.take_length] at ha
    rw [ha]
    rfl

theorem all161_ok (F : FuncId) (fF : Func) (hF : aFunc Try.prog F = some fF) (bank : List AVal) (hbl : bank.length = 4) (s : AVal) (L : List (List AVal)) (f : List AVal → Bool) (h : AH) (hL : L.length ≤ 100) (h5 : ∀ l, l ∈ L → l.length = 2 ∧ scalars l = true) (hs : SliceOf h 2 s L)
    (hf : ∀ l, l ∈ L → ∀ h', Runs Try.prog F [.agg l, .agg bank] h' (fun en h'' => en = .ret (.bool (f l)) ∧ Ext h' h'')) :
    Runs Try.prog 161 [s, .func (.func F) [] [], .agg bank] h (fun en h' => en = .ret (.bool (L.all f)) ∧ Ext h h') := by
  refine Runs.intro aFunc161 rfl rfl rfl rfl fun rest => ?_
  refine Go.seq noJ_ok (Go.region noJ_ok rfl ?_)
  refine GoR.box rfl rfl rfl rfl rfl rfl fun h1 x1 f1 => ?_
  refine GoR.op rfl rfl rfl rfl ?_
  refine GoR.end (Go.seq noJ_ok (Go.seq noJ_ok (Go.region noJ_ok rfl ?_)))
  refine GoR.op rfl rfl rfl rfl ?_
  refine GoR.op rfl rfl (aOp_lenSlice Try.underlying23 rfl hs.len) rfl ?_
  refine GoR.op rfl rfl rfl rfl ?_
  refine GoR.end (Go.block noJ_ok ?_)
  refine Go.keep [(1, .func (.func F) [] []), (5, .ptr h.next 0), (9, s), (10, .int .i64 L.length), (11, .int .i64 0)] ⟨rfl, rfl, rfl, rfl, rfl, trivial⟩ ?_
  refine Go.loopInv (fun n t h' => ∃ i, n + i = L.length ∧ t = keepT [(1, .func (.func F) [] []), (5, .ptr h.next 0), (9, s), (10, .int .i64 L.length), (11, .int .i64 (Int.ofNat i))] ∧ Ext h1 h' ∧ (L.take i).all f = true) (n := L.length) ⟨0, rfl, rfl, Ext.refl _, rfl⟩ ?_
  rintro n t h2 ⟨i, hn, rfl, x2, ha⟩ again
  replace f1 := f1.ext x2
  refine Go.seq noJ_ok (Go.region noJ_ok rfl ?_)
  by_cases hi : i < L.length
  · refine GoR.op rfl rfl (aOp_lss rfl rfl (r := true) (by simp; omega)) rfl ?_
    refine GoR.end (Go.seq noJ_ok (Go.cond noJ_ok rfl (Go.code noJ_ok ?_)))
    refine Go.seq noJ_ok (Go.block noJ_ok (Go.seq noJ_ok (Go.region noJ_ok rfl ?_)))
    obtain ⟨l, hl⟩ : ∃ l, L[i]? = some l := ⟨L[i], by simp [hi]⟩
    have hm := List.mem_of_getElem? hl
    obtain ⟨b, off, k1, k2⟩ := (hs.ext (x1.trans x2)).at hl
    refine GoR.op rfl rfl (aOp_indexAddr Try.underlying23 sz52 rfl k1 rfl (Nat.ble_eq_true_of_le hi)) rfl ?_
    refine GoR.op rfl rfl (aOp_loadE ag52 sz52 rfl k2) rfl ?_
    obtain ⟨hl5, hsc⟩ := h5 l hm
    refine GoR.alloc rfl rfl rfl zt52 rfl rfl fun h3 x3 f3 => ?_
    refine GoR.store rfl rfl rfl rfl rfl rfl f3 rfl sz52 (by simp [cells_agg, hl5]) hsc (splice_all (by simp [cells_agg, hl5])) fun h4 u4 => ?_
    have x4 : Ext h2 h4 := x3.upd u4 (Nat.le_refl _)
    replace f1 := f1.ext x4
    refine GoR.end (Go.seq noJ_ok (Go.region noJ_ok rfl ?_))
    refine GoR.op rfl rfl rfl rfl ?_
    refine GoR.op rfl rfl (ld52 rfl (u4.has f3) (slice_all (by simp [cells_agg, hl5]))) rfl ?_
    refine GoR.op rfl rfl (ld25 rfl f1 (slice_all (by simp [cells_agg, hbl]))) rfl ?_
    refine GoR.call rfl rfl (aOp_callVal rfl hF rfl) (hf l hm h4) ?_ (by rintro _ _ ⟨q, _⟩; cases q)
    rintro _ h5 ⟨q, x5⟩
    have q := (AEnd.ret.inj q).symm
    subst q
    refine ⟨_, rfl, ?_⟩
    refine GoR.op rfl rfl rfl rfl ?_
    have hmore : (L.take (i + 1)).all f = f l := by rw [List.take_add_one, hl]; simp [ha]
    cases hfl : f l with
    | true =>
      rw [hfl] at hmore
      refine GoR.end (Go.cond noJ_ok (b := false) rfl (Go.code noJ_ok ?_))
      refine Go.inBlock noJ_ok (Go.region noJ_ok rfl ?_)
      have hi64 : inI64 (Int.ofNat i + 1) := by constructor <;> simp <;> omega
      refine GoR.op rfl rfl (aOp_add rfl rfl hi64 rfl) rfl ?_
      refine GoR.op rfl rfl rfl rfl ?_
      refine GoR.end ?_
      refine Go.keep [(1, .func (.func F) [] []), (5, .ptr h.next 0), (9, s), (10, .int .i64 L.length), (11, .int .i64 (Int.ofNat i + 1))] ⟨rfl, rfl, rfl, rfl, rfl, trivial⟩ ?_
      exact again (n - 1) _ _ (by omega) ⟨i + 1, by omega, rfl, (x2.trans x4).trans x5, hmore⟩
    | false =>
      rw [hfl] at hmore
      refine GoR.end (Go.cond noJ_ok (b := true) rfl (Go.seq noJ_ok (Go.region noJ_ok rfl ?_)))
      refine GoR.op rfl rfl rfl rfl ?_
      refine GoR.end (Go.ret noJ_ok (ret_end (aResult_of Try.func161 rfl rfl) ⟨?_, ((x1.trans x2).trans x4).trans x5⟩))
      have : L.all f = false := by
        cases hq : L.all f with
        | false => rfl
        | true => rw [List.all_eq_true] at hq; rw [hq l hm] at hfl; cases hfl
      rw [this]
      rfl
  · refine GoR.op rfl rfl (aOp_lss rfl rfl (r := false) (by simp; omega)) rfl ?_
    refine GoR.end (Go.seq noJ_ok (Go.cond noJ_ok rfl (Go.code noJ_ok ?_)))
    refine Go.seq noJ_ok (Go.region noJ_ok rfl ?_)
    refine GoR.op rfl rfl rfl rfl ?_
    refine GoR.end (Go.ret noJ_ok (ret_end (aResult_of Try.func161 rfl rfl) ⟨?_, x1.trans x2⟩))
    have : i = L.length := by omega
    subst this
    rw [List.take_length] at ha
    rw [ha]
    rfl
end Go.Proofs.Ytidfcmjlfadieaa

namespace Go.Proofs.Ytidfcmjlfadieaa
open Go Go.AbsE
set_option maxRecDepth 100000
set_option linter.unusedVariables false

/-- A lease, as numbers. -/
structure LeaseV where
  o : Int
  fl : Int
  fh : Int
  tl : Int
  th : Int
def LeaseV.cells (l : LeaseV) : List AVal := [.int .i64 l.o, .int .i64 l.fl, .int .i64 l.fh, .int .i64 l.tl, .int .i64 l.th]
/-- A mark, as numbers. -/
structure MarkV where
  p : Int
  h : Int
def MarkV.cells (m : MarkV) : List AVal := [.int .i64 m.p, .int .i64 m.h]
def fitsF (np nh : Int) : List AVal → Bool
  | [.int _ o, .int _ fl, .int _ fh, .int _ tl, .int _ th] => decide (0 ≤ o ∧ o ≤ nh - 1 ∧ fl ≤ fh ∧ 0 ≤ fl ∧ fh ≤ np - 1 ∧ fh - fl ≤ 2 ∧ tl ≤ th ∧ 1 ≤ tl ∧ th ≤ np ∧ th - tl ≤ 2 ∧ fl < th)
  | _ => false
def markF (np nh : Int) : List AVal → Bool
  | [.int _ p, .int _ h] => decide (0 ≤ p ∧ p ≤ np - 1 ∧ 0 ≤ h ∧ h ≤ nh)
  | _ => false
theorem scal_int (k : IntKind) (n : Int) (l : List AVal) : scalars (.int k n :: l) = scalars l := rfl
theorem five_all {Ls : List LeaseV} : ∀ l, l ∈ Ls.map LeaseV.cells → Five l := by
  intro l hl
  obtain ⟨a, _, rfl⟩ := List.mem_map.1 hl
  exact ⟨_, _, _, _, _, rfl, rfl⟩
theorem five_len {Ls : List LeaseV} : ∀ l, l ∈ Ls.map LeaseV.cells → l.length = 5 := by
  intro l hl
  obtain ⟨a, _, rfl⟩ := List.mem_map.1 hl
  rfl
theorem lease_len {Ls : List LeaseV} : ∀ l, l ∈ Ls.map LeaseV.cells → l.length = 5 ∧ scalars l = true := by
  intro l hl
  obtain ⟨a, _, rfl⟩ := List.mem_map.1 hl
  exact ⟨rfl, rfl⟩
theorem mark_len {Ms : List MarkV} : ∀ l, l ∈ Ms.map MarkV.cells → l.length = 2 ∧ scalars l = true := by
  intro l hl
  obtain ⟨a, _, rfl⟩ := List.mem_map.1 hl
  exact ⟨rfl, rfl⟩
theorem sameA_ptr (b o : Nat) : sameA (.ptr b o) (.ptr b o) = true := by simp [sameA]
theorem bankSame (np nh : Int) {s marks : AVal} (hs : sameA s s = true) (hm : sameA marks marks = true) : sameA (.agg [.int .i64 np, .int .i64 nh, s, marks]) (.agg [.int .i64 np, .int .i64 nh, s, marks]) = true := by simp [sameA, sameAs, eqI_eq, hs, hm]
theorem fits_all {np nh : Int} {Ls : List LeaseV} (hp : inI64 np) (hh : inI64 nh) (h1 : 1 ≤ np ∧ np ≤ 10) (h2 : 1 ≤ nh ∧ nh ≤ 4) (s marks : AVal) : ∀ l, l ∈ Ls.map LeaseV.cells → ∀ h', Runs Try.prog 160 [.agg l, .agg [.int .i64 np, .int .i64 nh, s, marks]] h' (fun en h'' => en = .ret (.bool (fitsF np nh l)) ∧ Ext h' h'') := by
  intro l hl h'
  obtain ⟨a, _, rfl⟩ := List.mem_map.1 hl
  exact fits_ok a.o a.fl a.fh a.tl a.th np nh s marks hp (by constructor <;> omega) (by constructor <;> omega) rfl h'
theorem mark_all {np nh : Int} {Ms : List MarkV} (hp : inI64 np) (hh : inI64 nh) (h1 : 1 ≤ np ∧ np ≤ 10) (s marks : AVal) : ∀ l, l ∈ Ms.map MarkV.cells → ∀ h', Runs Try.prog 162 [.agg l, .agg [.int .i64 np, .int .i64 nh, s, marks]] h' (fun en h'' => en = .ret (.bool (markF np nh l)) ∧ Ext h' h'') := by
  intro l hl h'
  obtain ⟨a, _, rfl⟩ := List.mem_map.1 hl
  exact markFits_ok a.p a.h np nh s marks (by constructor <;> omega) rfl h'
noncomputable def ops117 : Array Oper := ((drawnOps Try.f117)[0]?).getD #[]
theorem plan117 : plan ops117 = some (mkPlan ops117.toList [(0, 0, true, false), (1, 1, true, false), (2, 3, false, false), (3, 7, true, false), (4, 15, true, false), (5, 31, true, false), (6, 63, false, false), (7, 127, true, false), (8, 255, true, false), (9, 511, true, false), (10, 1023, true, false), (11, 2047, true, false), (12, 4095, true, false), (13, 8191, true, false), (14, 16383, true, false), (15, 32767, true, false), (17, 32767, true, false), (16, 65535, false, false), (18, 262143, false, false), (19, 524287, true, false), (20, 1048575, true, false), (21, 2097151, true, false), (22, 4194303, true, false), (23, 8388607, true, false), (24, 16777215, true, false), (25, 33554431, true, false), (26, 67108863, true, false), (27, 134217727, true, false), (28, 268435455, true, false), (29, 134217727, true, false), (30, 1073741823, false, false), (31, 2147483647, true, false), (32, 4294967295, true, false)]) := by kernel_rfl

theorem valid_ok (np nh : Int) (s marks : AVal) (Ls : List LeaseV) (Ms : List MarkV) (hp : inI64 np) (hh : inI64 nh) (h : AH) (hs : SliceOf h 5 s (Ls.map LeaseV.cells)) (hm : SliceOf h 2 marks (Ms.map MarkV.cells)) (hss : sameA s s = true) (hsm : sameA marks marks = true)
    {r : Bool} (hr : (decide (1 ≤ np ∧ np ≤ 10) && decide (1 ≤ nh ∧ nh ≤ 4) && decide ((Ls.length : Int) ≤ 4) && (Ls.map LeaseV.cells).all (fitsF np nh) && decide ((Ms.length : Int) ≤ 6) && (Ms.map MarkV.cells).all (markF np nh)) = r) :
    Runs Try.prog 117 [.agg [.int .i64 np, .int .i64 nh, s, marks]] h (fun en h' => en = .ret (.bool r) ∧ Ext h h') := by
  refine Runs.intro aFunc117 rfl rfl rfl rfl fun rest => ?_
  refine Go.seq noJ_ok (Go.region noJ_ok rfl ?_)
  refine GoR.box rfl rfl rfl rfl rfl rfl fun h1 x1 f1 => ?_
  refine GoR.op rfl rfl rfl rfl ?_
  refine GoR.end (Go.seq noJ_ok (Go.drawn plan117 ?_))
  cases e1 : decide (1 ≤ np ∧ np ≤ 10) with
  | false =>
    refine GoD.quiet rfl rfl (fun h' x => fa25_0 rfl) (sameA_ptr _ _) rfl ?_
    refine GoD.quiet rfl rfl (fun h' x => ld3 rfl (f1.ext x) rfl) (sameA_int _ _) rfl ?_
    refine GoD.call rfl rfl (aOp_callFunc aFunc75 rfl) (inside_ok _ _ _ e1 _) ?_ (by rintro _ _ ⟨q, _⟩; cases q)
    rintro _ k2 ⟨q, x2⟩
    cases q
    replace f1 := f1.ext x2
    refine ⟨x2, _, rfl, ?_⟩
    refine GoD.quiet rfl rfl (fun h' x => rfl) (rfl) rfl ?_
    refine GoD.skip rfl rfl rfl ?_
    refine GoD.skip rfl rfl rfl ?_
    refine GoD.skip rfl rfl rfl ?_
    refine GoD.quiet rfl rfl (fun h' x => rfl) (rfl) rfl ?_
    refine GoD.quiet rfl rfl (fun h' x => rfl) (rfl) rfl ?_
    refine GoD.skip rfl rfl rfl ?_
    refine GoD.skip rfl rfl rfl ?_
    refine GoD.skip rfl rfl rfl ?_
    refine GoD.skip rfl rfl rfl ?_
    refine GoD.quiet rfl rfl (fun h' x => rfl) (rfl) rfl ?_
    refine GoD.quiet rfl rfl (fun h' x => rfl) (rfl) rfl ?_
    refine GoD.skip rfl rfl rfl ?_
    refine GoD.skip rfl rfl rfl ?_
    refine GoD.skip rfl rfl rfl ?_
    refine GoD.skip rfl rfl rfl ?_
    refine GoD.quiet rfl rfl (fun h' x => rfl) (rfl) rfl ?_
    refine GoD.quiet rfl rfl (fun h' x => rfl) (rfl) rfl ?_
    refine GoD.skip rfl rfl rfl ?_
    refine GoD.skip rfl rfl rfl ?_
    refine GoD.skip rfl rfl rfl ?_
    refine GoD.skip rfl rfl rfl ?_
    refine GoD.quiet rfl rfl (fun h' x => rfl) (rfl) rfl ?_
    refine GoD.quiet rfl rfl (fun h' x => rfl) (rfl) rfl ?_
    refine GoD.skip rfl rfl rfl ?_
    refine GoD.skip rfl rfl rfl ?_
    refine GoD.skip rfl rfl rfl ?_
    refine GoD.skip rfl rfl rfl ?_
    refine GoD.quiet rfl rfl (fun h' x => rfl) (rfl) rfl ?_
    refine GoD.quiet rfl rfl (fun h' x => rfl) (rfl) rfl ?_
    refine GoD.end rfl (Go.ret noJ_ok (ret_end (aResult_of Try.func117 rfl rfl) ⟨?_, (x1).trans x2⟩))
    rw [← hr]
    simp only [e1]
    rfl
  | true =>
    cases e2 : decide (1 ≤ nh ∧ nh ≤ 4) with
    | false =>
      refine GoD.quiet rfl rfl (fun h' x => fa25_0 rfl) (sameA_ptr _ _) rfl ?_
      refine GoD.quiet rfl rfl (fun h' x => ld3 rfl (f1.ext x) rfl) (sameA_int _ _) rfl ?_
      refine GoD.call rfl rfl (aOp_callFunc aFunc75 rfl) (inside_ok _ _ _ e1 _) ?_ (by rintro _ _ ⟨q, _⟩; cases q)
      rintro _ k2 ⟨q, x2⟩
      cases q
      replace f1 := f1.ext x2
      refine ⟨x2, _, rfl, ?_⟩
      refine GoD.quiet rfl rfl (fun h' x => rfl) (rfl) rfl ?_
      refine GoD.quiet rfl rfl (fun h' x => fa25_1 rfl) (sameA_ptr _ _) rfl ?_
      refine GoD.quiet rfl rfl (fun h' x => ld3 rfl (f1.ext x) rfl) (sameA_int _ _) rfl ?_
      refine GoD.call rfl rfl (aOp_callFunc aFunc75 rfl) (inside_ok _ _ _ e2 _) ?_ (by rintro _ _ ⟨q, _⟩; cases q)
      rintro _ k6 ⟨q, x6⟩
      cases q
      replace f1 := f1.ext x6
      refine ⟨x6, _, rfl, ?_⟩
      refine GoD.quiet rfl rfl (fun h' x => rfl) (rfl) rfl ?_
      refine GoD.quiet rfl rfl (fun h' x => rfl) (rfl) rfl ?_
      refine GoD.skip rfl rfl rfl ?_
      refine GoD.skip rfl rfl rfl ?_
      refine GoD.skip rfl rfl rfl ?_
      refine GoD.skip rfl rfl rfl ?_
      refine GoD.quiet rfl rfl (fun h' x => rfl) (rfl) rfl ?_
      refine GoD.quiet rfl rfl (fun h' x => rfl) (rfl) rfl ?_
      refine GoD.skip rfl rfl rfl ?_
      refine GoD.skip rfl rfl rfl ?_
      refine GoD.skip rfl rfl rfl ?_
      refine GoD.skip rfl rfl rfl ?_
      refine GoD.quiet rfl rfl (fun h' x => rfl) (rfl) rfl ?_
      refine GoD.quiet rfl rfl (fun h' x => rfl) (rfl) rfl ?_
      refine GoD.skip rfl rfl rfl ?_
      refine GoD.skip rfl rfl rfl ?_
      refine GoD.skip rfl rfl rfl ?_
      refine GoD.skip rfl rfl rfl ?_
      refine GoD.quiet rfl rfl (fun h' x => rfl) (rfl) rfl ?_
      refine GoD.quiet rfl rfl (fun h' x => rfl) (rfl) rfl ?_
      refine GoD.skip rfl rfl rfl ?_
      refine GoD.skip rfl rfl rfl ?_
      refine GoD.skip rfl rfl rfl ?_
      refine GoD.skip rfl rfl rfl ?_
      refine GoD.quiet rfl rfl (fun h' x => rfl) (rfl) rfl ?_
      refine GoD.quiet rfl rfl (fun h' x => rfl) (rfl) rfl ?_
      refine GoD.end rfl (Go.ret noJ_ok (ret_end (aResult_of Try.func117 rfl rfl) ⟨?_, ((x1).trans x2).trans x6⟩))
      rw [← hr]
      simp only [e1, e2]
      rfl
    | true =>
      cases e3 : decide ((Ls.length : Int) ≤ 4) with
      | false =>
        refine GoD.quiet rfl rfl (fun h' x => fa25_0 rfl) (sameA_ptr _ _) rfl ?_
        refine GoD.quiet rfl rfl (fun h' x => ld3 rfl (f1.ext x) rfl) (sameA_int _ _) rfl ?_
        refine GoD.call rfl rfl (aOp_callFunc aFunc75 rfl) (inside_ok _ _ _ e1 _) ?_ (by rintro _ _ ⟨q, _⟩; cases q)
        rintro _ k2 ⟨q, x2⟩
        cases q
        replace f1 := f1.ext x2
        refine ⟨x2, _, rfl, ?_⟩
        refine GoD.quiet rfl rfl (fun h' x => rfl) (rfl) rfl ?_
        refine GoD.quiet rfl rfl (fun h' x => fa25_1 rfl) (sameA_ptr _ _) rfl ?_
        refine GoD.quiet rfl rfl (fun h' x => ld3 rfl (f1.ext x) rfl) (sameA_int _ _) rfl ?_
        refine GoD.call rfl rfl (aOp_callFunc aFunc75 rfl) (inside_ok _ _ _ e2 _) ?_ (by rintro _ _ ⟨q, _⟩; cases q)
        rintro _ k6 ⟨q, x6⟩
        cases q
        replace f1 := f1.ext x6
        refine ⟨x6, _, rfl, ?_⟩
        refine GoD.quiet rfl rfl (fun h' x => rfl) (rfl) rfl ?_
        refine GoD.quiet rfl rfl (fun h' x => rfl) (rfl) rfl ?_
        refine GoD.quiet rfl rfl (fun h' x => fa25_2 rfl) (sameA_ptr _ _) rfl ?_
        refine GoD.quiet rfl rfl (fun h' x => ld22 rfl (f1.ext x) rfl) (hss) rfl ?_
        refine GoD.quiet rfl rfl (fun h' x => aOp_lenSlice Try.underlying22 rfl (by rw [hs.len, List.length_map])) (sameA_int _ _) rfl ?_
        refine GoD.quiet rfl rfl (fun h' x => aOp_leq rfl rfl (r := false) e3) (rfl) rfl ?_
        refine GoD.quiet rfl rfl (fun h' x => rfl) (rfl) rfl ?_
        refine GoD.quiet rfl rfl (fun h' x => rfl) (rfl) rfl ?_
        refine GoD.skip rfl rfl rfl ?_
        refine GoD.skip rfl rfl rfl ?_
        refine GoD.skip rfl rfl rfl ?_
        refine GoD.skip rfl rfl rfl ?_
        refine GoD.quiet rfl rfl (fun h' x => rfl) (rfl) rfl ?_
        refine GoD.quiet rfl rfl (fun h' x => rfl) (rfl) rfl ?_
        refine GoD.skip rfl rfl rfl ?_
        refine GoD.skip rfl rfl rfl ?_
        refine GoD.skip rfl rfl rfl ?_
        refine GoD.skip rfl rfl rfl ?_
        refine GoD.quiet rfl rfl (fun h' x => rfl) (rfl) rfl ?_
        refine GoD.quiet rfl rfl (fun h' x => rfl) (rfl) rfl ?_
        refine GoD.skip rfl rfl rfl ?_
        refine GoD.skip rfl rfl rfl ?_
        refine GoD.skip rfl rfl rfl ?_
        refine GoD.skip rfl rfl rfl ?_
        refine GoD.quiet rfl rfl (fun h' x => rfl) (rfl) rfl ?_
        refine GoD.quiet rfl rfl (fun h' x => rfl) (rfl) rfl ?_
        refine GoD.end rfl (Go.ret noJ_ok (ret_end (aResult_of Try.func117 rfl rfl) ⟨?_, ((x1).trans x2).trans x6⟩))
        rw [← hr]
        simp only [e1, e2, e3]
        rfl
      | true =>
        cases e4 : (Ls.map LeaseV.cells).all (fitsF np nh) with
        | false =>
          refine GoD.quiet rfl rfl (fun h' x => fa25_0 rfl) (sameA_ptr _ _) rfl ?_
          refine GoD.quiet rfl rfl (fun h' x => ld3 rfl (f1.ext x) rfl) (sameA_int _ _) rfl ?_
          refine GoD.call rfl rfl (aOp_callFunc aFunc75 rfl) (inside_ok _ _ _ e1 _) ?_ (by rintro _ _ ⟨q, _⟩; cases q)
          rintro _ k2 ⟨q, x2⟩
          cases q
          replace f1 := f1.ext x2
          refine ⟨x2, _, rfl, ?_⟩
          refine GoD.quiet rfl rfl (fun h' x => rfl) (rfl) rfl ?_
          refine GoD.quiet rfl rfl (fun h' x => fa25_1 rfl) (sameA_ptr _ _) rfl ?_
          refine GoD.quiet rfl rfl (fun h' x => ld3 rfl (f1.ext x) rfl) (sameA_int _ _) rfl ?_
          refine GoD.call rfl rfl (aOp_callFunc aFunc75 rfl) (inside_ok _ _ _ e2 _) ?_ (by rintro _ _ ⟨q, _⟩; cases q)
          rintro _ k6 ⟨q, x6⟩
          cases q
          replace f1 := f1.ext x6
          refine ⟨x6, _, rfl, ?_⟩
          refine GoD.quiet rfl rfl (fun h' x => rfl) (rfl) rfl ?_
          refine GoD.quiet rfl rfl (fun h' x => rfl) (rfl) rfl ?_
          refine GoD.quiet rfl rfl (fun h' x => fa25_2 rfl) (sameA_ptr _ _) rfl ?_
          refine GoD.quiet rfl rfl (fun h' x => ld22 rfl (f1.ext x) rfl) (hss) rfl ?_
          refine GoD.quiet rfl rfl (fun h' x => aOp_lenSlice Try.underlying22 rfl (by rw [hs.len, List.length_map])) (sameA_int _ _) rfl ?_
          refine GoD.quiet rfl rfl (fun h' x => aOp_leq rfl rfl (r := true) e3) (rfl) rfl ?_
          refine GoD.quiet rfl rfl (fun h' x => rfl) (rfl) rfl ?_
          refine GoD.quiet rfl rfl (fun h' x => rfl) (rfl) rfl ?_
          refine GoD.quiet rfl rfl (fun h' x => ld25 rfl (f1.ext x) rfl) (bankSame _ _ hss hsm) rfl ?_
          refine GoD.quiet rfl rfl (fun h' x => ld25 rfl (f1.ext x) rfl) (bankSame _ _ hss hsm) rfl ?_
          refine GoD.call rfl rfl (aOp_callFunc aFunc159 rfl) (leases_ok np nh s marks (Ls.map LeaseV.cells) _ (by rw [List.length_map]; simp only [decide_eq_true_eq] at e3; omega) five_all (hs.ext (x1.trans (x2.trans x6)))) ?_ (by rintro _ _ ⟨_, q, _⟩; cases q)
          rintro _ k16 ⟨s', q, x16, g3⟩
          have q := (AEnd.ret.inj q).symm
          subst q
          replace f1 := f1.ext x16
          have hs' := g3.sliceOf (slice_flatten five_len)
          refine ⟨x16, _, rfl, ?_⟩
          refine GoD.call rfl rfl (aOp_callFunc aFunc158 rfl) (all158_ok 160 Try.f160 aFunc160 [.int .i64 np, .int .i64 nh, s, marks] rfl s' (Ls.map LeaseV.cells) (fitsF np nh) _ (by rw [List.length_map]; simp only [decide_eq_true_eq] at e3; omega) lease_len hs' (fits_all hp hh (by simpa using e1) (by simpa using e2) s marks) |> (e4 ▸ ·)) ?_ (by rintro _ _ ⟨q, _⟩; cases q)
          rintro _ k18 ⟨q, x18⟩
          cases q
          replace f1 := f1.ext x18
          refine ⟨x18, _, rfl, ?_⟩
          refine GoD.quiet rfl rfl (fun h' x => rfl) (rfl) rfl ?_
          refine GoD.quiet rfl rfl (fun h' x => rfl) (rfl) rfl ?_
          refine GoD.skip rfl rfl rfl ?_
          refine GoD.skip rfl rfl rfl ?_
          refine GoD.skip rfl rfl rfl ?_
          refine GoD.skip rfl rfl rfl ?_
          refine GoD.quiet rfl rfl (fun h' x => rfl) (rfl) rfl ?_
          refine GoD.quiet rfl rfl (fun h' x => rfl) (rfl) rfl ?_
          refine GoD.skip rfl rfl rfl ?_
          refine GoD.skip rfl rfl rfl ?_
          refine GoD.skip rfl rfl rfl ?_
          refine GoD.skip rfl rfl rfl ?_
          refine GoD.quiet rfl rfl (fun h' x => rfl) (rfl) rfl ?_
          refine GoD.quiet rfl rfl (fun h' x => rfl) (rfl) rfl ?_
          refine GoD.end rfl (Go.ret noJ_ok (ret_end (aResult_of Try.func117 rfl rfl) ⟨?_, ((((x1).trans x2).trans x6).trans x16).trans x18⟩))
          rw [← hr]
          simp only [e1, e2, e3, e4]
          rfl
        | true =>
          cases e5 : decide ((Ms.length : Int) ≤ 6) with
          | false =>
            refine GoD.quiet rfl rfl (fun h' x => fa25_0 rfl) (sameA_ptr _ _) rfl ?_
            refine GoD.quiet rfl rfl (fun h' x => ld3 rfl (f1.ext x) rfl) (sameA_int _ _) rfl ?_
            refine GoD.call rfl rfl (aOp_callFunc aFunc75 rfl) (inside_ok _ _ _ e1 _) ?_ (by rintro _ _ ⟨q, _⟩; cases q)
            rintro _ k2 ⟨q, x2⟩
            cases q
            replace f1 := f1.ext x2
            refine ⟨x2, _, rfl, ?_⟩
            refine GoD.quiet rfl rfl (fun h' x => rfl) (rfl) rfl ?_
            refine GoD.quiet rfl rfl (fun h' x => fa25_1 rfl) (sameA_ptr _ _) rfl ?_
            refine GoD.quiet rfl rfl (fun h' x => ld3 rfl (f1.ext x) rfl) (sameA_int _ _) rfl ?_
            refine GoD.call rfl rfl (aOp_callFunc aFunc75 rfl) (inside_ok _ _ _ e2 _) ?_ (by rintro _ _ ⟨q, _⟩; cases q)
            rintro _ k6 ⟨q, x6⟩
            cases q
            replace f1 := f1.ext x6
            refine ⟨x6, _, rfl, ?_⟩
            refine GoD.quiet rfl rfl (fun h' x => rfl) (rfl) rfl ?_
            refine GoD.quiet rfl rfl (fun h' x => rfl) (rfl) rfl ?_
            refine GoD.quiet rfl rfl (fun h' x => fa25_2 rfl) (sameA_ptr _ _) rfl ?_
            refine GoD.quiet rfl rfl (fun h' x => ld22 rfl (f1.ext x) rfl) (hss) rfl ?_
            refine GoD.quiet rfl rfl (fun h' x => aOp_lenSlice Try.underlying22 rfl (by rw [hs.len, List.length_map])) (sameA_int _ _) rfl ?_
            refine GoD.quiet rfl rfl (fun h' x => aOp_leq rfl rfl (r := true) e3) (rfl) rfl ?_
            refine GoD.quiet rfl rfl (fun h' x => rfl) (rfl) rfl ?_
            refine GoD.quiet rfl rfl (fun h' x => rfl) (rfl) rfl ?_
            refine GoD.quiet rfl rfl (fun h' x => ld25 rfl (f1.ext x) rfl) (bankSame _ _ hss hsm) rfl ?_
            refine GoD.quiet rfl rfl (fun h' x => ld25 rfl (f1.ext x) rfl) (bankSame _ _ hss hsm) rfl ?_
            refine GoD.call rfl rfl (aOp_callFunc aFunc159 rfl) (leases_ok np nh s marks (Ls.map LeaseV.cells) _ (by rw [List.length_map]; simp only [decide_eq_true_eq] at e3; omega) five_all (hs.ext (x1.trans (x2.trans x6)))) ?_ (by rintro _ _ ⟨_, q, _⟩; cases q)
            rintro _ k16 ⟨s', q, x16, g3⟩
            have q := (AEnd.ret.inj q).symm
            subst q
            replace f1 := f1.ext x16
            have hs' := g3.sliceOf (slice_flatten five_len)
            refine ⟨x16, _, rfl, ?_⟩
            refine GoD.call rfl rfl (aOp_callFunc aFunc158 rfl) (all158_ok 160 Try.f160 aFunc160 [.int .i64 np, .int .i64 nh, s, marks] rfl s' (Ls.map LeaseV.cells) (fitsF np nh) _ (by rw [List.length_map]; simp only [decide_eq_true_eq] at e3; omega) lease_len hs' (fits_all hp hh (by simpa using e1) (by simpa using e2) s marks) |> (e4 ▸ ·)) ?_ (by rintro _ _ ⟨q, _⟩; cases q)
            rintro _ k18 ⟨q, x18⟩
            cases q
            replace f1 := f1.ext x18
            refine ⟨x18, _, rfl, ?_⟩
            refine GoD.quiet rfl rfl (fun h' x => rfl) (rfl) rfl ?_
            refine GoD.quiet rfl rfl (fun h' x => rfl) (rfl) rfl ?_
            refine GoD.quiet rfl rfl (fun h' x => fa25_3 rfl) (sameA_ptr _ _) rfl ?_
            refine GoD.quiet rfl rfl (fun h' x => ld23 rfl (f1.ext x) rfl) (hsm) rfl ?_
            refine GoD.quiet rfl rfl (fun h' x => aOp_lenSlice Try.underlying23 rfl (by rw [hm.len, List.length_map])) (sameA_int _ _) rfl ?_
            refine GoD.quiet rfl rfl (fun h' x => aOp_leq rfl rfl (r := false) e5) (rfl) rfl ?_
            refine GoD.quiet rfl rfl (fun h' x => rfl) (rfl) rfl ?_
            refine GoD.quiet rfl rfl (fun h' x => rfl) (rfl) rfl ?_
            refine GoD.skip rfl rfl rfl ?_
            refine GoD.skip rfl rfl rfl ?_
            refine GoD.skip rfl rfl rfl ?_
            refine GoD.skip rfl rfl rfl ?_
            refine GoD.quiet rfl rfl (fun h' x => rfl) (rfl) rfl ?_
            refine GoD.quiet rfl rfl (fun h' x => rfl) (rfl) rfl ?_
            refine GoD.end rfl (Go.ret noJ_ok (ret_end (aResult_of Try.func117 rfl rfl) ⟨?_, ((((x1).trans x2).trans x6).trans x16).trans x18⟩))
            rw [← hr]
            simp only [e1, e2, e3, e4, e5]
            rfl
          | true =>
            cases e6 : (Ms.map MarkV.cells).all (markF np nh) with
            | false =>
              refine GoD.quiet rfl rfl (fun h' x => fa25_0 rfl) (sameA_ptr _ _) rfl ?_
              refine GoD.quiet rfl rfl (fun h' x => ld3 rfl (f1.ext x) rfl) (sameA_int _ _) rfl ?_
              refine GoD.call rfl rfl (aOp_callFunc aFunc75 rfl) (inside_ok _ _ _ e1 _) ?_ (by rintro _ _ ⟨q, _⟩; cases q)
              rintro _ k2 ⟨q, x2⟩
              cases q
              replace f1 := f1.ext x2
              refine ⟨x2, _, rfl, ?_⟩
              refine GoD.quiet rfl rfl (fun h' x => rfl) (rfl) rfl ?_
              refine GoD.quiet rfl rfl (fun h' x => fa25_1 rfl) (sameA_ptr _ _) rfl ?_
              refine GoD.quiet rfl rfl (fun h' x => ld3 rfl (f1.ext x) rfl) (sameA_int _ _) rfl ?_
              refine GoD.call rfl rfl (aOp_callFunc aFunc75 rfl) (inside_ok _ _ _ e2 _) ?_ (by rintro _ _ ⟨q, _⟩; cases q)
              rintro _ k6 ⟨q, x6⟩
              cases q
              replace f1 := f1.ext x6
              refine ⟨x6, _, rfl, ?_⟩
              refine GoD.quiet rfl rfl (fun h' x => rfl) (rfl) rfl ?_
              refine GoD.quiet rfl rfl (fun h' x => rfl) (rfl) rfl ?_
              refine GoD.quiet rfl rfl (fun h' x => fa25_2 rfl) (sameA_ptr _ _) rfl ?_
              refine GoD.quiet rfl rfl (fun h' x => ld22 rfl (f1.ext x) rfl) (hss) rfl ?_
              refine GoD.quiet rfl rfl (fun h' x => aOp_lenSlice Try.underlying22 rfl (by rw [hs.len, List.length_map])) (sameA_int _ _) rfl ?_
              refine GoD.quiet rfl rfl (fun h' x => aOp_leq rfl rfl (r := true) e3) (rfl) rfl ?_
              refine GoD.quiet rfl rfl (fun h' x => rfl) (rfl) rfl ?_
              refine GoD.quiet rfl rfl (fun h' x => rfl) (rfl) rfl ?_
              refine GoD.quiet rfl rfl (fun h' x => ld25 rfl (f1.ext x) rfl) (bankSame _ _ hss hsm) rfl ?_
              refine GoD.quiet rfl rfl (fun h' x => ld25 rfl (f1.ext x) rfl) (bankSame _ _ hss hsm) rfl ?_
              refine GoD.call rfl rfl (aOp_callFunc aFunc159 rfl) (leases_ok np nh s marks (Ls.map LeaseV.cells) _ (by rw [List.length_map]; simp only [decide_eq_true_eq] at e3; omega) five_all (hs.ext (x1.trans (x2.trans x6)))) ?_ (by rintro _ _ ⟨_, q, _⟩; cases q)
              rintro _ k16 ⟨s', q, x16, g3⟩
              have q := (AEnd.ret.inj q).symm
              subst q
              replace f1 := f1.ext x16
              have hs' := g3.sliceOf (slice_flatten five_len)
              refine ⟨x16, _, rfl, ?_⟩
              refine GoD.call rfl rfl (aOp_callFunc aFunc158 rfl) (all158_ok 160 Try.f160 aFunc160 [.int .i64 np, .int .i64 nh, s, marks] rfl s' (Ls.map LeaseV.cells) (fitsF np nh) _ (by rw [List.length_map]; simp only [decide_eq_true_eq] at e3; omega) lease_len hs' (fits_all hp hh (by simpa using e1) (by simpa using e2) s marks) |> (e4 ▸ ·)) ?_ (by rintro _ _ ⟨q, _⟩; cases q)
              rintro _ k18 ⟨q, x18⟩
              cases q
              replace f1 := f1.ext x18
              refine ⟨x18, _, rfl, ?_⟩
              refine GoD.quiet rfl rfl (fun h' x => rfl) (rfl) rfl ?_
              refine GoD.quiet rfl rfl (fun h' x => rfl) (rfl) rfl ?_
              refine GoD.quiet rfl rfl (fun h' x => fa25_3 rfl) (sameA_ptr _ _) rfl ?_
              refine GoD.quiet rfl rfl (fun h' x => ld23 rfl (f1.ext x) rfl) (hsm) rfl ?_
              refine GoD.quiet rfl rfl (fun h' x => aOp_lenSlice Try.underlying23 rfl (by rw [hm.len, List.length_map])) (sameA_int _ _) rfl ?_
              refine GoD.quiet rfl rfl (fun h' x => aOp_leq rfl rfl (r := true) e5) (rfl) rfl ?_
              refine GoD.quiet rfl rfl (fun h' x => rfl) (rfl) rfl ?_
              refine GoD.quiet rfl rfl (fun h' x => rfl) (rfl) rfl ?_
              refine GoD.quiet rfl rfl (fun h' x => fa25_3 rfl) (sameA_ptr _ _) rfl ?_
              refine GoD.quiet rfl rfl (fun h' x => ld23 rfl (f1.ext x) rfl) (hsm) rfl ?_
              refine GoD.quiet rfl rfl (fun h' x => ld25 rfl (f1.ext x) rfl) (bankSame _ _ hss hsm) rfl ?_
              refine GoD.call rfl rfl (aOp_callFunc aFunc161 rfl) (all161_ok 162 Try.f162 aFunc162 [.int .i64 np, .int .i64 nh, s, marks] rfl marks (Ms.map MarkV.cells) (markF np nh) _ (by rw [List.length_map]; simp only [decide_eq_true_eq] at e5; omega) mark_len (hm.ext (x1.trans (x2.trans (x6.trans (x16.trans x18))))) (mark_all hp hh (by simpa using e1) s marks) |> (e6 ▸ ·)) ?_ (by rintro _ _ ⟨q, _⟩; cases q)
              rintro _ k30 ⟨q, x30⟩
              cases q
              replace f1 := f1.ext x30
              refine ⟨x30, _, rfl, ?_⟩
              refine GoD.quiet rfl rfl (fun h' x => rfl) (rfl) rfl ?_
              refine GoD.quiet rfl rfl (fun h' x => rfl) (rfl) rfl ?_
              refine GoD.end rfl (Go.ret noJ_ok (ret_end (aResult_of Try.func117 rfl rfl) ⟨?_, (((((x1).trans x2).trans x6).trans x16).trans x18).trans x30⟩))
              rw [← hr]
              simp only [e1, e2, e3, e4, e5, e6]
              rfl
            | true =>
              refine GoD.quiet rfl rfl (fun h' x => fa25_0 rfl) (sameA_ptr _ _) rfl ?_
              refine GoD.quiet rfl rfl (fun h' x => ld3 rfl (f1.ext x) rfl) (sameA_int _ _) rfl ?_
              refine GoD.call rfl rfl (aOp_callFunc aFunc75 rfl) (inside_ok _ _ _ e1 _) ?_ (by rintro _ _ ⟨q, _⟩; cases q)
              rintro _ k2 ⟨q, x2⟩
              cases q
              replace f1 := f1.ext x2
              refine ⟨x2, _, rfl, ?_⟩
              refine GoD.quiet rfl rfl (fun h' x => rfl) (rfl) rfl ?_
              refine GoD.quiet rfl rfl (fun h' x => fa25_1 rfl) (sameA_ptr _ _) rfl ?_
              refine GoD.quiet rfl rfl (fun h' x => ld3 rfl (f1.ext x) rfl) (sameA_int _ _) rfl ?_
              refine GoD.call rfl rfl (aOp_callFunc aFunc75 rfl) (inside_ok _ _ _ e2 _) ?_ (by rintro _ _ ⟨q, _⟩; cases q)
              rintro _ k6 ⟨q, x6⟩
              cases q
              replace f1 := f1.ext x6
              refine ⟨x6, _, rfl, ?_⟩
              refine GoD.quiet rfl rfl (fun h' x => rfl) (rfl) rfl ?_
              refine GoD.quiet rfl rfl (fun h' x => rfl) (rfl) rfl ?_
              refine GoD.quiet rfl rfl (fun h' x => fa25_2 rfl) (sameA_ptr _ _) rfl ?_
              refine GoD.quiet rfl rfl (fun h' x => ld22 rfl (f1.ext x) rfl) (hss) rfl ?_
              refine GoD.quiet rfl rfl (fun h' x => aOp_lenSlice Try.underlying22 rfl (by rw [hs.len, List.length_map])) (sameA_int _ _) rfl ?_
              refine GoD.quiet rfl rfl (fun h' x => aOp_leq rfl rfl (r := true) e3) (rfl) rfl ?_
              refine GoD.quiet rfl rfl (fun h' x => rfl) (rfl) rfl ?_
              refine GoD.quiet rfl rfl (fun h' x => rfl) (rfl) rfl ?_
              refine GoD.quiet rfl rfl (fun h' x => ld25 rfl (f1.ext x) rfl) (bankSame _ _ hss hsm) rfl ?_
              refine GoD.quiet rfl rfl (fun h' x => ld25 rfl (f1.ext x) rfl) (bankSame _ _ hss hsm) rfl ?_
              refine GoD.call rfl rfl (aOp_callFunc aFunc159 rfl) (leases_ok np nh s marks (Ls.map LeaseV.cells) _ (by rw [List.length_map]; simp only [decide_eq_true_eq] at e3; omega) five_all (hs.ext (x1.trans (x2.trans x6)))) ?_ (by rintro _ _ ⟨_, q, _⟩; cases q)
              rintro _ k16 ⟨s', q, x16, g3⟩
              have q := (AEnd.ret.inj q).symm
              subst q
              replace f1 := f1.ext x16
              have hs' := g3.sliceOf (slice_flatten five_len)
              refine ⟨x16, _, rfl, ?_⟩
              refine GoD.call rfl rfl (aOp_callFunc aFunc158 rfl) (all158_ok 160 Try.f160 aFunc160 [.int .i64 np, .int .i64 nh, s, marks] rfl s' (Ls.map LeaseV.cells) (fitsF np nh) _ (by rw [List.length_map]; simp only [decide_eq_true_eq] at e3; omega) lease_len hs' (fits_all hp hh (by simpa using e1) (by simpa using e2) s marks) |> (e4 ▸ ·)) ?_ (by rintro _ _ ⟨q, _⟩; cases q)
              rintro _ k18 ⟨q, x18⟩
              cases q
              replace f1 := f1.ext x18
              refine ⟨x18, _, rfl, ?_⟩
              refine GoD.quiet rfl rfl (fun h' x => rfl) (rfl) rfl ?_
              refine GoD.quiet rfl rfl (fun h' x => rfl) (rfl) rfl ?_
              refine GoD.quiet rfl rfl (fun h' x => fa25_3 rfl) (sameA_ptr _ _) rfl ?_
              refine GoD.quiet rfl rfl (fun h' x => ld23 rfl (f1.ext x) rfl) (hsm) rfl ?_
              refine GoD.quiet rfl rfl (fun h' x => aOp_lenSlice Try.underlying23 rfl (by rw [hm.len, List.length_map])) (sameA_int _ _) rfl ?_
              refine GoD.quiet rfl rfl (fun h' x => aOp_leq rfl rfl (r := true) e5) (rfl) rfl ?_
              refine GoD.quiet rfl rfl (fun h' x => rfl) (rfl) rfl ?_
              refine GoD.quiet rfl rfl (fun h' x => rfl) (rfl) rfl ?_
              refine GoD.quiet rfl rfl (fun h' x => fa25_3 rfl) (sameA_ptr _ _) rfl ?_
              refine GoD.quiet rfl rfl (fun h' x => ld23 rfl (f1.ext x) rfl) (hsm) rfl ?_
              refine GoD.quiet rfl rfl (fun h' x => ld25 rfl (f1.ext x) rfl) (bankSame _ _ hss hsm) rfl ?_
              refine GoD.call rfl rfl (aOp_callFunc aFunc161 rfl) (all161_ok 162 Try.f162 aFunc162 [.int .i64 np, .int .i64 nh, s, marks] rfl marks (Ms.map MarkV.cells) (markF np nh) _ (by rw [List.length_map]; simp only [decide_eq_true_eq] at e5; omega) mark_len (hm.ext (x1.trans (x2.trans (x6.trans (x16.trans x18))))) (mark_all hp hh (by simpa using e1) s marks) |> (e6 ▸ ·)) ?_ (by rintro _ _ ⟨q, _⟩; cases q)
              rintro _ k30 ⟨q, x30⟩
              cases q
              replace f1 := f1.ext x30
              refine ⟨x30, _, rfl, ?_⟩
              refine GoD.quiet rfl rfl (fun h' x => rfl) (rfl) rfl ?_
              refine GoD.quiet rfl rfl (fun h' x => rfl) (rfl) rfl ?_
              refine GoD.end rfl (Go.ret noJ_ok (ret_end (aResult_of Try.func117 rfl rfl) ⟨?_, (((((x1).trans x2).trans x6).trans x16).trans x18).trans x30⟩))
              rw [← hr]
              simp only [e1, e2, e3, e4, e5, e6]
              rfl
end Go.Proofs.Ytidfcmjlfadieaa
