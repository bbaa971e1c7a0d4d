import Derived.Test.YtmdheijpnlonoaaMAQ
namespace Go.Proofs.Ytmdheijpnlonoaa
open Go Go.AbsE
set_option linter.unusedSimpArgs false
set_option maxRecDepth 100000
set_option maxHeartbeats 0
set_option linter.unusedVariables false
def hokB (x : HTurf) : Bool := decide (0 ≤ x.p ∧ x.p ≤ 2 ∧ 0 ≤ x.lo ∧ x.lo ≤ x.hi ∧ x.hi ≤ 100 ∧ x.hi - x.lo ≤ 5)
def rokB (r : Int × Int) : Bool := decide (0 ≤ r.1 ∧ r.1 ≤ r.2 ∧ r.2 ≤ 10 ∧ r.2 - r.1 ≤ 3)
def lokB (F : FieldV) (l : LookV) : Bool := decide (0 ≤ l.heap ∧ l.heap < F.hs.length ∧ 0 ≤ l.day ∧ l.day < F.rs.length ∧ 0 ≤ l.lo ∧ l.lo ≤ l.hi ∧ l.hi ≤ 100)
theorem within_is (lo hi a b : Int) {r : Bool} (hr : decide (lo ≤ hi ∧ a ≤ lo ∧ hi ≤ b) = r) (h : AH) : Runs Try.prog 85 [.agg [.int .i64 lo, .int .i64 hi], .int .i64 a, .int .i64 b] h (fun en h' => en = .ret (.bool r) ∧ Ext h h') := by
  by_cases h1 : lo ≤ hi
  · by_cases h2 : a ≤ lo
    · by_cases h3 : hi ≤ b
      · have : r = true := by rw [← hr]; exact decide_eq_true ⟨h1, h2, h3⟩
        subst this
        refine Runs.intro aFunc85 rfl rfl rfl rfl fun rest => ?_
        refine Go.seq noJ_ok ?_
        refine Go.region noJ_ok rfl ?_
        refine GoR.box rfl rfl rfl rfl rfl rfl fun h4 x4 f4 => ?_
        have e0 := x4
        have := f4.1
        refine GoR.op rfl rfl rfl rfl ?_
        refine GoR.end ?_
        refine Go.seq noJ_ok ?_
        refine Go.region noJ_ok rfl ?_
        refine GoR.op rfl rfl (fa30_0 rfl) rfl ?_
        refine GoR.op rfl rfl (ld3 rfl f4 rfl) rfl ?_
        refine GoR.op rfl rfl (fa30_1 rfl) rfl ?_
        refine GoR.op rfl rfl (ld3 rfl f4 rfl) rfl ?_
        refine GoR.op rfl rfl (aOp_leq rfl rfl (r := true) (decide_eq_true (by omega))) rfl ?_
        iterate 2 refine GoR.op rfl rfl rfl rfl ?_
        refine GoR.op rfl rfl (fa30_0 rfl) rfl ?_
        refine GoR.op rfl rfl (ld3 rfl f4 rfl) rfl ?_
        refine GoR.op rfl rfl (aOp_leq rfl rfl (r := true) (decide_eq_true (by omega))) rfl ?_
        iterate 2 refine GoR.op rfl rfl rfl rfl ?_
        refine GoR.op rfl rfl (fa30_1 rfl) rfl ?_
        refine GoR.op rfl rfl (ld3 rfl f4 rfl) rfl ?_
        refine GoR.op rfl rfl rfl rfl ?_
        refine GoR.op rfl rfl (aOp_leq rfl rfl (r := true) (decide_eq_true (by omega))) rfl ?_
        iterate 2 refine GoR.op rfl rfl rfl rfl ?_
        refine GoR.end ?_
        exact Go.ret noJ_ok (ret_end (aResult_of Try.func85 rfl rfl) ⟨rfl, e0⟩)
      · have : r = false := by rw [← hr]; exact decide_eq_false (by omega)
        subst this
        refine Runs.intro aFunc85 rfl rfl rfl rfl fun rest => ?_
        refine Go.seq noJ_ok ?_
        refine Go.region noJ_ok rfl ?_
        refine GoR.box rfl rfl rfl rfl rfl rfl fun h4 x4 f4 => ?_
        have e0 := x4
        have := f4.1
        refine GoR.op rfl rfl rfl rfl ?_
        refine GoR.end ?_
        refine Go.seq noJ_ok ?_
        refine Go.region noJ_ok rfl ?_
        refine GoR.op rfl rfl (fa30_0 rfl) rfl ?_
        refine GoR.op rfl rfl (ld3 rfl f4 rfl) rfl ?_
        refine GoR.op rfl rfl (fa30_1 rfl) rfl ?_
        refine GoR.op rfl rfl (ld3 rfl f4 rfl) rfl ?_
        refine GoR.op rfl rfl (aOp_leq rfl rfl (r := true) (decide_eq_true (by omega))) rfl ?_
        iterate 2 refine GoR.op rfl rfl rfl rfl ?_
        refine GoR.op rfl rfl (fa30_0 rfl) rfl ?_
        refine GoR.op rfl rfl (ld3 rfl f4 rfl) rfl ?_
        refine GoR.op rfl rfl (aOp_leq rfl rfl (r := true) (decide_eq_true (by omega))) rfl ?_
        iterate 2 refine GoR.op rfl rfl rfl rfl ?_
        refine GoR.op rfl rfl (fa30_1 rfl) rfl ?_
        refine GoR.op rfl rfl (ld3 rfl f4 rfl) rfl ?_
        refine GoR.op rfl rfl rfl rfl ?_
        refine GoR.op rfl rfl (aOp_leq rfl rfl (r := false) (decide_eq_false (by omega))) rfl ?_
        iterate 2 refine GoR.op rfl rfl rfl rfl ?_
        refine GoR.end ?_
        exact Go.ret noJ_ok (ret_end (aResult_of Try.func85 rfl rfl) ⟨rfl, e0⟩)
    · have : r = false := by rw [← hr]; exact decide_eq_false (by omega)
      subst this
      refine Runs.intro aFunc85 rfl rfl rfl rfl fun rest => ?_
      refine Go.seq noJ_ok ?_
      refine Go.region noJ_ok rfl ?_
      refine GoR.box rfl rfl rfl rfl rfl rfl fun h3 x3 f3 => ?_
      have e0 := x3
      have := f3.1
      refine GoR.op rfl rfl rfl rfl ?_
      refine GoR.end ?_
      refine Go.seq noJ_ok ?_
      refine Go.region noJ_ok rfl ?_
      refine GoR.op rfl rfl (fa30_0 rfl) rfl ?_
      refine GoR.op rfl rfl (ld3 rfl f3 rfl) rfl ?_
      refine GoR.op rfl rfl (fa30_1 rfl) rfl ?_
      refine GoR.op rfl rfl (ld3 rfl f3 rfl) rfl ?_
      refine GoR.op rfl rfl (aOp_leq rfl rfl (r := true) (decide_eq_true (by omega))) rfl ?_
      iterate 2 refine GoR.op rfl rfl rfl rfl ?_
      refine GoR.op rfl rfl (fa30_0 rfl) rfl ?_
      refine GoR.op rfl rfl (ld3 rfl f3 rfl) rfl ?_
      refine GoR.op rfl rfl (aOp_leq rfl rfl (r := false) (decide_eq_false (by omega))) rfl ?_
      iterate 2 refine GoR.op rfl rfl rfl rfl ?_
      iterate 4 refine GoR.skip rfl rfl rfl ?_
      iterate 2 refine GoR.op rfl rfl rfl rfl ?_
      refine GoR.end ?_
      exact Go.ret noJ_ok (ret_end (aResult_of Try.func85 rfl rfl) ⟨rfl, e0⟩)
  · have : r = false := by rw [← hr]; exact decide_eq_false (by omega)
    subst this
    refine Runs.intro aFunc85 rfl rfl rfl rfl fun rest => ?_
    refine Go.seq noJ_ok ?_
    refine Go.region noJ_ok rfl ?_
    refine GoR.box rfl rfl rfl rfl rfl rfl fun h2 x2 f2 => ?_
    have e0 := x2
    have := f2.1
    refine GoR.op rfl rfl rfl rfl ?_
    refine GoR.end ?_
    refine Go.seq noJ_ok ?_
    refine Go.region noJ_ok rfl ?_
    refine GoR.op rfl rfl (fa30_0 rfl) rfl ?_
    refine GoR.op rfl rfl (ld3 rfl f2 rfl) rfl ?_
    refine GoR.op rfl rfl (fa30_1 rfl) rfl ?_
    refine GoR.op rfl rfl (ld3 rfl f2 rfl) rfl ?_
    refine GoR.op rfl rfl (aOp_leq rfl rfl (r := false) (decide_eq_false (by omega))) rfl ?_
    refine GoR.op rfl rfl rfl rfl ?_
    iterate 4 refine GoR.skip rfl rfl rfl ?_
    iterate 2 refine GoR.op rfl rfl rfl rfl ?_
    iterate 4 refine GoR.skip rfl rfl rfl ?_
    iterate 2 refine GoR.op rfl rfl rfl rfl ?_
    refine GoR.end ?_
    exact Go.ret noJ_ok (ret_end (aResult_of Try.func85 rfl rfl) ⟨rfl, e0⟩)
theorem bad_is (x : HTurf) {r : Bool} (hr : hokB x = !r) (h : AH) : Runs Try.prog 87 [.agg (x.cells ++ [.nilslice])] h (fun en h' => en = .ret (.bool r) ∧ Ext h h') := by
  obtain ⟨p, lo, hi⟩ := x
  unfold hokB at hr
  dsimp only at hr
  show Runs Try.prog 87 [.agg [.int .i64 p, .int .i64 lo, .int .i64 hi, .nilslice]] h _
  cases s1 : decide (0 ≤ p ∧ p ≤ 2) with
  | false =>
    have k1 := of_decide_eq_false s1
    have : r = true := by
      have := hr.symm.trans (decide_eq_false (by omega))
      simpa using this
    subst this
    refine Runs.intro aFunc87 rfl rfl rfl rfl fun rest => ?_
    refine Go.seq noJ_ok ?_
    refine Go.region noJ_ok rfl ?_
    refine GoR.box rfl rfl rfl rfl rfl rfl fun h0 x0 f0 => ?_
    have e0 := x0
    have := f0.1
    refine GoR.op rfl rfl rfl rfl ?_
    refine GoR.end ?_
    refine Go.seq noJ_ok ?_
    refine Go.region noJ_ok rfl ?_
    refine GoR.op rfl rfl (fa106_0 rfl) rfl ?_
    refine GoR.op rfl rfl (fa63_0 rfl) rfl ?_
    refine GoR.op rfl rfl (ld3 rfl f0 rfl) rfl ?_
    refine GoR.call rfl rfl (aOp_callFunc aFunc66 rfl) (inside_ok p 0 2 s1 _) ?_ (by rintro _ _ ⟨q, _⟩; cases q)
    rintro v1 h1 ⟨q, x1⟩
    cases q
    refine ⟨_, rfl, ?_⟩
    replace f0 := f0.ext x1
    replace e0 := e0.trans x1
    iterate 2 refine GoR.op rfl rfl rfl rfl ?_
    iterate 5 refine GoR.skip rfl rfl rfl ?_
    iterate 2 refine GoR.op rfl rfl rfl rfl ?_
    iterate 10 refine GoR.skip rfl rfl rfl ?_
    iterate 2 refine GoR.op rfl rfl rfl rfl ?_
    refine GoR.end ?_
    exact Go.ret noJ_ok (ret_end (aResult_of Try.func87 rfl rfl) ⟨rfl, e0⟩)
  | true =>
  have k1 := of_decide_eq_true s1
  cases s2 : decide (lo ≤ hi ∧ 0 ≤ lo ∧ hi ≤ 100) with
  | false =>
    have k2 := of_decide_eq_false s2
    have : r = true := by
      have := hr.symm.trans (decide_eq_false (by omega))
      simpa using this
    subst this
    refine Runs.intro aFunc87 rfl rfl rfl rfl fun rest => ?_
    refine Go.seq noJ_ok ?_
    refine Go.region noJ_ok rfl ?_
    refine GoR.box rfl rfl rfl rfl rfl rfl fun h0 x0 f0 => ?_
    have e0 := x0
    have := f0.1
    refine GoR.op rfl rfl rfl rfl ?_
    refine GoR.end ?_
    refine Go.seq noJ_ok ?_
    refine Go.region noJ_ok rfl ?_
    refine GoR.op rfl rfl (fa106_0 rfl) rfl ?_
    refine GoR.op rfl rfl (fa63_0 rfl) rfl ?_
    refine GoR.op rfl rfl (ld3 rfl f0 rfl) rfl ?_
    refine GoR.call rfl rfl (aOp_callFunc aFunc66 rfl) (inside_ok p 0 2 s1 _) ?_ (by rintro _ _ ⟨q, _⟩; cases q)
    rintro v1 h1 ⟨q, x1⟩
    cases q
    refine ⟨_, rfl, ?_⟩
    replace f0 := f0.ext x1
    replace e0 := e0.trans x1
    iterate 2 refine GoR.op rfl rfl rfl rfl ?_
    refine GoR.op rfl rfl (fa106_0 rfl) rfl ?_
    refine GoR.op rfl rfl (fa63_1 rfl) rfl ?_
    refine GoR.op rfl rfl (ld30 rfl f0 rfl) rfl ?_
    refine GoR.call rfl rfl (aOp_callFunc aFunc85 rfl) (within_is lo hi 0 100 s2 _) ?_ (by rintro _ _ ⟨q, _⟩; cases q)
    rintro v2 h2 ⟨q, x2⟩
    cases q
    refine ⟨_, rfl, ?_⟩
    replace f0 := f0.ext x2
    replace e0 := e0.trans x2
    iterate 3 refine GoR.op rfl rfl rfl rfl ?_
    iterate 10 refine GoR.skip rfl rfl rfl ?_
    iterate 2 refine GoR.op rfl rfl rfl rfl ?_
    refine GoR.end ?_
    exact Go.ret noJ_ok (ret_end (aResult_of Try.func87 rfl rfl) ⟨rfl, e0⟩)
  | true =>
  have k2 := of_decide_eq_true s2
  by_cases s3 : hi - lo ≤ 5
  · have : r = false := by
      have := hr.symm.trans (decide_eq_true (by omega))
      simpa using this
    subst this
    refine Runs.intro aFunc87 rfl rfl rfl rfl fun rest => ?_
    refine Go.seq noJ_ok ?_
    refine Go.region noJ_ok rfl ?_
    refine GoR.box rfl rfl rfl rfl rfl rfl fun h0 x0 f0 => ?_
    have e0 := x0
    have := f0.1
    refine GoR.op rfl rfl rfl rfl ?_
    refine GoR.end ?_
    refine Go.seq noJ_ok ?_
    refine Go.region noJ_ok rfl ?_
    refine GoR.op rfl rfl (fa106_0 rfl) rfl ?_
    refine GoR.op rfl rfl (fa63_0 rfl) rfl ?_
    refine GoR.op rfl rfl (ld3 rfl f0 rfl) rfl ?_
    refine GoR.call rfl rfl (aOp_callFunc aFunc66 rfl) (inside_ok p 0 2 s1 _) ?_ (by rintro _ _ ⟨q, _⟩; cases q)
    rintro v1 h1 ⟨q, x1⟩
    cases q
    refine ⟨_, rfl, ?_⟩
    replace f0 := f0.ext x1
    replace e0 := e0.trans x1
    iterate 2 refine GoR.op rfl rfl rfl rfl ?_
    refine GoR.op rfl rfl (fa106_0 rfl) rfl ?_
    refine GoR.op rfl rfl (fa63_1 rfl) rfl ?_
    refine GoR.op rfl rfl (ld30 rfl f0 rfl) rfl ?_
    refine GoR.call rfl rfl (aOp_callFunc aFunc85 rfl) (within_is lo hi 0 100 s2 _) ?_ (by rintro _ _ ⟨q, _⟩; cases q)
    rintro v2 h2 ⟨q, x2⟩
    cases q
    refine ⟨_, rfl, ?_⟩
    replace f0 := f0.ext x2
    replace e0 := e0.trans x2
    iterate 3 refine GoR.op rfl rfl rfl rfl ?_
    refine GoR.op rfl rfl (fa106_0 rfl) rfl ?_
    refine GoR.op rfl rfl (fa63_1 rfl) rfl ?_
    refine GoR.op rfl rfl (fa30_1 rfl) rfl ?_
    refine GoR.op rfl rfl (ld3 rfl f0 rfl) rfl ?_
    refine GoR.op rfl rfl (fa106_0 rfl) rfl ?_
    refine GoR.op rfl rfl (fa63_1 rfl) rfl ?_
    refine GoR.op rfl rfl (fa30_0 rfl) rfl ?_
    refine GoR.op rfl rfl (ld3 rfl f0 rfl) rfl ?_
    refine GoR.op rfl rfl (aOp_sub rfl rfl (by constructor <;> omega) rfl) rfl ?_
    refine GoR.op rfl rfl (aOp_gtr rfl rfl (r := false) (decide_eq_false (by omega))) rfl ?_
    iterate 2 refine GoR.op rfl rfl rfl rfl ?_
    refine GoR.end ?_
    exact Go.ret noJ_ok (ret_end (aResult_of Try.func87 rfl rfl) ⟨rfl, e0⟩)
  · have : r = true := by
      have := hr.symm.trans (decide_eq_false (by omega))
      simpa using this
    subst this
    refine Runs.intro aFunc87 rfl rfl rfl rfl fun rest => ?_
    refine Go.seq noJ_ok ?_
    refine Go.region noJ_ok rfl ?_
    refine GoR.box rfl rfl rfl rfl rfl rfl fun h0 x0 f0 => ?_
    have e0 := x0
    have := f0.1
    refine GoR.op rfl rfl rfl rfl ?_
    refine GoR.end ?_
    refine Go.seq noJ_ok ?_
    refine Go.region noJ_ok rfl ?_
    refine GoR.op rfl rfl (fa106_0 rfl) rfl ?_
    refine GoR.op rfl rfl (fa63_0 rfl) rfl ?_
    refine GoR.op rfl rfl (ld3 rfl f0 rfl) rfl ?_
    refine GoR.call rfl rfl (aOp_callFunc aFunc66 rfl) (inside_ok p 0 2 s1 _) ?_ (by rintro _ _ ⟨q, _⟩; cases q)
    rintro v1 h1 ⟨q, x1⟩
    cases q
    refine ⟨_, rfl, ?_⟩
    replace f0 := f0.ext x1
    replace e0 := e0.trans x1
    iterate 2 refine GoR.op rfl rfl rfl rfl ?_
    refine GoR.op rfl rfl (fa106_0 rfl) rfl ?_
    refine GoR.op rfl rfl (fa63_1 rfl) rfl ?_
    refine GoR.op rfl rfl (ld30 rfl f0 rfl) rfl ?_
    refine GoR.call rfl rfl (aOp_callFunc aFunc85 rfl) (within_is lo hi 0 100 s2 _) ?_ (by rintro _ _ ⟨q, _⟩; cases q)
    rintro v2 h2 ⟨q, x2⟩
    cases q
    refine ⟨_, rfl, ?_⟩
    replace f0 := f0.ext x2
    replace e0 := e0.trans x2
    iterate 3 refine GoR.op rfl rfl rfl rfl ?_
    refine GoR.op rfl rfl (fa106_0 rfl) rfl ?_
    refine GoR.op rfl rfl (fa63_1 rfl) rfl ?_
    refine GoR.op rfl rfl (fa30_1 rfl) rfl ?_
    refine GoR.op rfl rfl (ld3 rfl f0 rfl) rfl ?_
    refine GoR.op rfl rfl (fa106_0 rfl) rfl ?_
    refine GoR.op rfl rfl (fa63_1 rfl) rfl ?_
    refine GoR.op rfl rfl (fa30_0 rfl) rfl ?_
    refine GoR.op rfl rfl (ld3 rfl f0 rfl) rfl ?_
    refine GoR.op rfl rfl (aOp_sub rfl rfl (by constructor <;> omega) rfl) rfl ?_
    refine GoR.op rfl rfl (aOp_gtr rfl rfl (r := true) (decide_eq_true (by omega))) rfl ?_
    iterate 2 refine GoR.op rfl rfl rfl rfl ?_
    refine GoR.end ?_
    exact Go.ret noJ_ok (ret_end (aResult_of Try.func87 rfl rfl) ⟨rfl, e0⟩)
theorem badRain_is (x : Int × Int) {r : Bool} (hr : rokB x = !r) (h : AH) : Runs Try.prog 89 [.agg (spC x)] h (fun en h' => en = .ret (.bool r) ∧ Ext h h') := by
  obtain ⟨lo, hi⟩ := x
  unfold rokB at hr
  dsimp only at hr
  unfold spC
  dsimp only
  cases s2 : decide (lo ≤ hi ∧ 0 ≤ lo ∧ hi ≤ 10) with
  | false =>
    have k2 := of_decide_eq_false s2
    have : r = true := by
      have := hr.symm.trans (decide_eq_false (by omega))
      simpa using this
    subst this
    refine Runs.intro aFunc89 rfl rfl rfl rfl fun rest => ?_
    refine Go.seq noJ_ok ?_
    refine Go.region noJ_ok rfl ?_
    refine GoR.box rfl rfl rfl rfl rfl rfl fun h0 x0 f0 => ?_
    have e0 := x0
    have := f0.1
    refine GoR.op rfl rfl rfl rfl ?_
    refine GoR.end ?_
    refine Go.seq noJ_ok ?_
    refine Go.region noJ_ok rfl ?_
    refine GoR.op rfl rfl (ld30 rfl f0 rfl) rfl ?_
    refine GoR.call rfl rfl (aOp_callFunc aFunc85 rfl) (within_is lo hi 0 10 s2 _) ?_ (by rintro _ _ ⟨q, _⟩; cases q)
    rintro v1 h1 ⟨q, x1⟩
    cases q
    refine ⟨_, rfl, ?_⟩
    replace f0 := f0.ext x1
    replace e0 := e0.trans x1
    iterate 2 refine GoR.op rfl rfl rfl rfl ?_
    iterate 6 refine GoR.skip rfl rfl rfl ?_
    iterate 2 refine GoR.op rfl rfl rfl rfl ?_
    refine GoR.end ?_
    exact Go.ret noJ_ok (ret_end (aResult_of Try.func89 rfl rfl) ⟨rfl, e0⟩)
  | true =>
  have k2 := of_decide_eq_true s2
  by_cases s3 : hi - lo ≤ 3
  · have : r = false := by
      have := hr.symm.trans (decide_eq_true (by omega))
      simpa using this
    subst this
    refine Runs.intro aFunc89 rfl rfl rfl rfl fun rest => ?_
    refine Go.seq noJ_ok ?_
    refine Go.region noJ_ok rfl ?_
    refine GoR.box rfl rfl rfl rfl rfl rfl fun h0 x0 f0 => ?_
    have e0 := x0
    have := f0.1
    refine GoR.op rfl rfl rfl rfl ?_
    refine GoR.end ?_
    refine Go.seq noJ_ok ?_
    refine Go.region noJ_ok rfl ?_
    refine GoR.op rfl rfl (ld30 rfl f0 rfl) rfl ?_
    refine GoR.call rfl rfl (aOp_callFunc aFunc85 rfl) (within_is lo hi 0 10 s2 _) ?_ (by rintro _ _ ⟨q, _⟩; cases q)
    rintro v1 h1 ⟨q, x1⟩
    cases q
    refine ⟨_, rfl, ?_⟩
    replace f0 := f0.ext x1
    replace e0 := e0.trans x1
    iterate 2 refine GoR.op rfl rfl rfl rfl ?_
    refine GoR.op rfl rfl (fa30_1 rfl) rfl ?_
    refine GoR.op rfl rfl (ld3 rfl f0 rfl) rfl ?_
    refine GoR.op rfl rfl (fa30_0 rfl) rfl ?_
    refine GoR.op rfl rfl (ld3 rfl f0 rfl) rfl ?_
    refine GoR.op rfl rfl (aOp_sub rfl rfl (by constructor <;> omega) rfl) rfl ?_
    refine GoR.op rfl rfl (aOp_gtr rfl rfl (r := false) (decide_eq_false (by omega))) rfl ?_
    iterate 2 refine GoR.op rfl rfl rfl rfl ?_
    refine GoR.end ?_
    exact Go.ret noJ_ok (ret_end (aResult_of Try.func89 rfl rfl) ⟨rfl, e0⟩)
  · have : r = true := by
      have := hr.symm.trans (decide_eq_false (by omega))
      simpa using this
    subst this
    refine Runs.intro aFunc89 rfl rfl rfl rfl fun rest => ?_
    refine Go.seq noJ_ok ?_
    refine Go.region noJ_ok rfl ?_
    refine GoR.box rfl rfl rfl rfl rfl rfl fun h0 x0 f0 => ?_
    have e0 := x0
    have := f0.1
    refine GoR.op rfl rfl rfl rfl ?_
    refine GoR.end ?_
    refine Go.seq noJ_ok ?_
    refine Go.region noJ_ok rfl ?_
    refine GoR.op rfl rfl (ld30 rfl f0 rfl) rfl ?_
    refine GoR.call rfl rfl (aOp_callFunc aFunc85 rfl) (within_is lo hi 0 10 s2 _) ?_ (by rintro _ _ ⟨q, _⟩; cases q)
    rintro v1 h1 ⟨q, x1⟩
    cases q
    refine ⟨_, rfl, ?_⟩
    replace f0 := f0.ext x1
    replace e0 := e0.trans x1
    iterate 2 refine GoR.op rfl rfl rfl rfl ?_
    refine GoR.op rfl rfl (fa30_1 rfl) rfl ?_
    refine GoR.op rfl rfl (ld3 rfl f0 rfl) rfl ?_
    refine GoR.op rfl rfl (fa30_0 rfl) rfl ?_
    refine GoR.op rfl rfl (ld3 rfl f0 rfl) rfl ?_
    refine GoR.op rfl rfl (aOp_sub rfl rfl (by constructor <;> omega) rfl) rfl ?_
    refine GoR.op rfl rfl (aOp_gtr rfl rfl (r := true) (decide_eq_true (by omega))) rfl ?_
    iterate 2 refine GoR.op rfl rfl rfl rfl ?_
    refine GoR.end ?_
    exact Go.ret noJ_ok (ret_end (aResult_of Try.func89 rfl rfl) ⟨rfl, e0⟩)
theorem badDry_is (d : Int) {r : Bool} (hr : decide (0 ≤ d ∧ d ≤ 20) = !r) (h : AH) : Runs Try.prog 86 [.int .i64 d] h (fun en h' => en = .ret (.bool r) ∧ Ext h h') := by
  have e0 : Ext h h := Ext.refl _
  cases r with
  | false =>
    refine Runs.intro aFunc86 rfl rfl rfl rfl fun rest => ?_
    refine Go.seq noJ_ok ?_
    refine Go.region noJ_ok rfl ?_
    refine GoR.op rfl rfl rfl rfl ?_
    refine GoR.end ?_
    refine Go.seq noJ_ok ?_
    refine Go.region noJ_ok rfl ?_
    refine GoR.op rfl rfl rfl rfl ?_
    refine GoR.call rfl rfl (aOp_callFunc aFunc66 rfl) (inside_ok d 0 20 hr _) ?_ (by rintro _ _ ⟨q, _⟩; cases q)
    rintro v0 h0 ⟨q, x0⟩
    cases q
    refine ⟨_, rfl, ?_⟩
    replace e0 := e0.trans x0
    iterate 2 refine GoR.op rfl rfl rfl rfl ?_
    refine GoR.end ?_
    exact Go.ret noJ_ok (ret_end (aResult_of Try.func86 rfl rfl) ⟨rfl, e0⟩)
  | true =>
    refine Runs.intro aFunc86 rfl rfl rfl rfl fun rest => ?_
    refine Go.seq noJ_ok ?_
    refine Go.region noJ_ok rfl ?_
    refine GoR.op rfl rfl rfl rfl ?_
    refine GoR.end ?_
    refine Go.seq noJ_ok ?_
    refine Go.region noJ_ok rfl ?_
    refine GoR.op rfl rfl rfl rfl ?_
    refine GoR.call rfl rfl (aOp_callFunc aFunc66 rfl) (inside_ok d 0 20 hr _) ?_ (by rintro _ _ ⟨q, _⟩; cases q)
    rintro v0 h0 ⟨q, x0⟩
    cases q
    refine ⟨_, rfl, ?_⟩
    replace e0 := e0.trans x0
    iterate 2 refine GoR.op rfl rfl rfl rfl ?_
    refine GoR.end ?_
    exact Go.ret noJ_ok (ret_end (aResult_of Try.func86 rfl rfl) ⟨rfl, e0⟩)
theorem badLook_is {F : FieldV} (l : LookV) {r : Bool} (hr : lokB F l = !r) (hsl rsl lsl : AVal) (bp : Nat) (h : AH) (f : Has h bp (.cells .plain (fieldC hsl rsl lsl F.a F.b F.c F.lim) 27)) (hl1 : lenA hsl = some F.hs.length) (hl2 : lenA rsl = some F.rs.length) (hb1 : F.hs.length ≤ 40) (hb2 : F.rs.length ≤ 40) :
    Runs Try.prog 84 [.agg l.cells, .ptr bp 0] h (fun en h' => en = .ret (.bool r) ∧ Ext h h') := by
  obtain ⟨xh, xd, lo, hi⟩ := l
  unfold lokB at hr
  dsimp only at hr
  unfold LookV.cells
  dsimp only
  unfold fieldC at f
  cases s1 : decide (0 ≤ xh ∧ xh ≤ (F.hs.length : Int) - 1) with
  | false =>
    have k1 := of_decide_eq_false s1
    have : r = true := by
      have := hr.symm.trans (decide_eq_false (by omega))
      simpa using this
    subst this
    refine Runs.intro aFunc84 rfl rfl rfl rfl fun rest => ?_
    refine Go.seq noJ_ok ?_
    refine Go.region noJ_ok rfl ?_
    refine GoR.box rfl rfl rfl rfl rfl rfl fun h0 x0 f0 => ?_
    have := f.1
    replace f := f.ext x0
    have e0 := x0
    have := f0.1
    refine GoR.op rfl rfl rfl rfl ?_
    refine GoR.end ?_
    refine Go.seq noJ_ok ?_
    refine Go.region noJ_ok rfl ?_
    refine GoR.op rfl rfl (fa59_0 rfl) rfl ?_
    refine GoR.op rfl rfl (ld3 rfl f0 rfl) rfl ?_
    refine GoR.op rfl rfl (fa27_0 rfl) rfl ?_
    refine GoR.op rfl rfl (ld22 rfl f rfl) rfl ?_
    refine GoR.op rfl rfl (aOp_lenSlice Try.underlying22 rfl hl1) rfl ?_
    refine GoR.op rfl rfl (aOp_sub rfl rfl (by constructor <;> omega) rfl) rfl ?_
    refine GoR.call rfl rfl (aOp_callFunc aFunc66 rfl) (inside_ok xh 0 (F.hs.length - 1) s1 _) ?_ (by rintro _ _ ⟨q, _⟩; cases q)
    rintro v1 h1 ⟨q, x1⟩
    cases q
    refine ⟨_, rfl, ?_⟩
    replace f0 := f0.ext x1
    replace f := f.ext x1
    replace e0 := e0.trans x1
    iterate 2 refine GoR.op rfl rfl rfl rfl ?_
    iterate 8 refine GoR.skip rfl rfl rfl ?_
    iterate 2 refine GoR.op rfl rfl rfl rfl ?_
    iterate 4 refine GoR.skip rfl rfl rfl ?_
    iterate 2 refine GoR.op rfl rfl rfl rfl ?_
    refine GoR.end ?_
    exact Go.ret noJ_ok (ret_end (aResult_of Try.func84 rfl rfl) ⟨rfl, e0⟩)
  | true =>
  have k1 := of_decide_eq_true s1
  cases s3 : decide (0 ≤ xd ∧ xd ≤ (F.rs.length : Int) - 1) with
  | false =>
    have k3 := of_decide_eq_false s3
    have : r = true := by
      have := hr.symm.trans (decide_eq_false (by omega))
      simpa using this
    subst this
    refine Runs.intro aFunc84 rfl rfl rfl rfl fun rest => ?_
    refine Go.seq noJ_ok ?_
    refine Go.region noJ_ok rfl ?_
    refine GoR.box rfl rfl rfl rfl rfl rfl fun h0 x0 f0 => ?_
    have := f.1
    replace f := f.ext x0
    have e0 := x0
    have := f0.1
    refine GoR.op rfl rfl rfl rfl ?_
    refine GoR.end ?_
    refine Go.seq noJ_ok ?_
    refine Go.region noJ_ok rfl ?_
    refine GoR.op rfl rfl (fa59_0 rfl) rfl ?_
    refine GoR.op rfl rfl (ld3 rfl f0 rfl) rfl ?_
    refine GoR.op rfl rfl (fa27_0 rfl) rfl ?_
    refine GoR.op rfl rfl (ld22 rfl f rfl) rfl ?_
    refine GoR.op rfl rfl (aOp_lenSlice Try.underlying22 rfl hl1) rfl ?_
    refine GoR.op rfl rfl (aOp_sub rfl rfl (by constructor <;> omega) rfl) rfl ?_
    refine GoR.call rfl rfl (aOp_callFunc aFunc66 rfl) (inside_ok xh 0 (F.hs.length - 1) s1 _) ?_ (by rintro _ _ ⟨q, _⟩; cases q)
    rintro v1 h1 ⟨q, x1⟩
    cases q
    refine ⟨_, rfl, ?_⟩
    replace f0 := f0.ext x1
    replace f := f.ext x1
    replace e0 := e0.trans x1
    iterate 2 refine GoR.op rfl rfl rfl rfl ?_
    refine GoR.op rfl rfl (fa59_1 rfl) rfl ?_
    refine GoR.op rfl rfl (ld3 rfl f0 rfl) rfl ?_
    refine GoR.op rfl rfl (fa27_1 rfl) rfl ?_
    refine GoR.op rfl rfl (ld23 rfl f rfl) rfl ?_
    refine GoR.op rfl rfl (aOp_lenSlice Try.underlying23 rfl hl2) rfl ?_
    refine GoR.op rfl rfl (aOp_sub rfl rfl (by constructor <;> omega) rfl) rfl ?_
    refine GoR.call rfl rfl (aOp_callFunc aFunc66 rfl) (inside_ok xd 0 (F.rs.length - 1) s3 _) ?_ (by rintro _ _ ⟨q, _⟩; cases q)
    rintro v2 h2 ⟨q, x2⟩
    cases q
    refine ⟨_, rfl, ?_⟩
    replace f0 := f0.ext x2
    replace f := f.ext x2
    replace e0 := e0.trans x2
    iterate 3 refine GoR.op rfl rfl rfl rfl ?_
    iterate 4 refine GoR.skip rfl rfl rfl ?_
    iterate 2 refine GoR.op rfl rfl rfl rfl ?_
    refine GoR.end ?_
    exact Go.ret noJ_ok (ret_end (aResult_of Try.func84 rfl rfl) ⟨rfl, e0⟩)
  | true =>
  have k3 := of_decide_eq_true s3
  cases s2 : decide (lo ≤ hi ∧ 0 ≤ lo ∧ hi ≤ 100) with
  | false =>
    have k2 := of_decide_eq_false s2
    have : r = true := by
      have := hr.symm.trans (decide_eq_false (by omega))
      simpa using this
    subst this
    refine Runs.intro aFunc84 rfl rfl rfl rfl fun rest => ?_
    refine Go.seq noJ_ok ?_
    refine Go.region noJ_ok rfl ?_
    refine GoR.box rfl rfl rfl rfl rfl rfl fun h0 x0 f0 => ?_
    have := f.1
    replace f := f.ext x0
    have e0 := x0
    have := f0.1
    refine GoR.op rfl rfl rfl rfl ?_
    refine GoR.end ?_
    refine Go.seq noJ_ok ?_
    refine Go.region noJ_ok rfl ?_
    refine GoR.op rfl rfl (fa59_0 rfl) rfl ?_
    refine GoR.op rfl rfl (ld3 rfl f0 rfl) rfl ?_
    refine GoR.op rfl rfl (fa27_0 rfl) rfl ?_
    refine GoR.op rfl rfl (ld22 rfl f rfl) rfl ?_
    refine GoR.op rfl rfl (aOp_lenSlice Try.underlying22 rfl hl1) rfl ?_
    refine GoR.op rfl rfl (aOp_sub rfl rfl (by constructor <;> omega) rfl) rfl ?_
    refine GoR.call rfl rfl (aOp_callFunc aFunc66 rfl) (inside_ok xh 0 (F.hs.length - 1) s1 _) ?_ (by rintro _ _ ⟨q, _⟩; cases q)
    rintro v1 h1 ⟨q, x1⟩
    cases q
    refine ⟨_, rfl, ?_⟩
    replace f0 := f0.ext x1
    replace f := f.ext x1
    replace e0 := e0.trans x1
    iterate 2 refine GoR.op rfl rfl rfl rfl ?_
    refine GoR.op rfl rfl (fa59_1 rfl) rfl ?_
    refine GoR.op rfl rfl (ld3 rfl f0 rfl) rfl ?_
    refine GoR.op rfl rfl (fa27_1 rfl) rfl ?_
    refine GoR.op rfl rfl (ld23 rfl f rfl) rfl ?_
    refine GoR.op rfl rfl (aOp_lenSlice Try.underlying23 rfl hl2) rfl ?_
    refine GoR.op rfl rfl (aOp_sub rfl rfl (by constructor <;> omega) rfl) rfl ?_
    refine GoR.call rfl rfl (aOp_callFunc aFunc66 rfl) (inside_ok xd 0 (F.rs.length - 1) s3 _) ?_ (by rintro _ _ ⟨q, _⟩; cases q)
    rintro v2 h2 ⟨q, x2⟩
    cases q
    refine ⟨_, rfl, ?_⟩
    replace f0 := f0.ext x2
    replace f := f.ext x2
    replace e0 := e0.trans x2
    iterate 3 refine GoR.op rfl rfl rfl rfl ?_
    refine GoR.op rfl rfl (fa59_2 rfl) rfl ?_
    refine GoR.op rfl rfl (ld30 rfl f0 rfl) rfl ?_
    refine GoR.call rfl rfl (aOp_callFunc aFunc85 rfl) (within_is lo hi 0 100 s2 _) ?_ (by rintro _ _ ⟨q, _⟩; cases q)
    rintro v3 h3 ⟨q, x3⟩
    cases q
    refine ⟨_, rfl, ?_⟩
    replace f0 := f0.ext x3
    replace f := f.ext x3
    replace e0 := e0.trans x3
    iterate 3 refine GoR.op rfl rfl rfl rfl ?_
    refine GoR.end ?_
    exact Go.ret noJ_ok (ret_end (aResult_of Try.func84 rfl rfl) ⟨rfl, e0⟩)
  | true =>
    have k2 := of_decide_eq_true s2
    have : r = false := by
      have := hr.symm.trans (decide_eq_true (by omega))
      simpa using this
    subst this
    refine Runs.intro aFunc84 rfl rfl rfl rfl fun rest => ?_
    refine Go.seq noJ_ok ?_
    refine Go.region noJ_ok rfl ?_
    refine GoR.box rfl rfl rfl rfl rfl rfl fun h0 x0 f0 => ?_
    have := f.1
    replace f := f.ext x0
    have e0 := x0
    have := f0.1
    refine GoR.op rfl rfl rfl rfl ?_
    refine GoR.end ?_
    refine Go.seq noJ_ok ?_
    refine Go.region noJ_ok rfl ?_
    refine GoR.op rfl rfl (fa59_0 rfl) rfl ?_
    refine GoR.op rfl rfl (ld3 rfl f0 rfl) rfl ?_
    refine GoR.op rfl rfl (fa27_0 rfl) rfl ?_
    refine GoR.op rfl rfl (ld22 rfl f rfl) rfl ?_
    refine GoR.op rfl rfl (aOp_lenSlice Try.underlying22 rfl hl1) rfl ?_
    refine GoR.op rfl rfl (aOp_sub rfl rfl (by constructor <;> omega) rfl) rfl ?_
    refine GoR.call rfl rfl (aOp_callFunc aFunc66 rfl) (inside_ok xh 0 (F.hs.length - 1) s1 _) ?_ (by rintro _ _ ⟨q, _⟩; cases q)
    rintro v1 h1 ⟨q, x1⟩
    cases q
    refine ⟨_, rfl, ?_⟩
    replace f0 := f0.ext x1
    replace f := f.ext x1
    replace e0 := e0.trans x1
    iterate 2 refine GoR.op rfl rfl rfl rfl ?_
    refine GoR.op rfl rfl (fa59_1 rfl) rfl ?_
    refine GoR.op rfl rfl (ld3 rfl f0 rfl) rfl ?_
    refine GoR.op rfl rfl (fa27_1 rfl) rfl ?_
    refine GoR.op rfl rfl (ld23 rfl f rfl) rfl ?_
    refine GoR.op rfl rfl (aOp_lenSlice Try.underlying23 rfl hl2) rfl ?_
    refine GoR.op rfl rfl (aOp_sub rfl rfl (by constructor <;> omega) rfl) rfl ?_
    refine GoR.call rfl rfl (aOp_callFunc aFunc66 rfl) (inside_ok xd 0 (F.rs.length - 1) s3 _) ?_ (by rintro _ _ ⟨q, _⟩; cases q)
    rintro v2 h2 ⟨q, x2⟩
    cases q
    refine ⟨_, rfl, ?_⟩
    replace f0 := f0.ext x2
    replace f := f.ext x2
    replace e0 := e0.trans x2
    iterate 3 refine GoR.op rfl rfl rfl rfl ?_
    refine GoR.op rfl rfl (fa59_2 rfl) rfl ?_
    refine GoR.op rfl rfl (ld30 rfl f0 rfl) rfl ?_
    refine GoR.call rfl rfl (aOp_callFunc aFunc85 rfl) (within_is lo hi 0 100 s2 _) ?_ (by rintro _ _ ⟨q, _⟩; cases q)
    rintro v3 h3 ⟨q, x3⟩
    cases q
    refine ⟨_, rfl, ?_⟩
    replace f0 := f0.ext x3
    replace f := f.ext x3
    replace e0 := e0.trans x3
    iterate 3 refine GoR.op rfl rfl rfl rfl ?_
    refine GoR.end ?_
    exact Go.ret noJ_ok (ret_end (aResult_of Try.func84 rfl rfl) ⟨rfl, e0⟩)
theorem less_is (a b : Int) {r : Bool} (hr : decide (a < b) = r) (h : AH) : Runs Try.prog 99 [.int .i64 a, .int .i64 b] h (fun en h' => en = .ret (.bool r) ∧ Ext h h') := by
  have e0 : Ext h h := Ext.refl _
  cases r with
  | false =>
    refine Runs.intro aFunc99 rfl rfl rfl rfl fun rest => ?_
    refine Go.seq noJ_ok ?_
    refine Go.region noJ_ok rfl ?_
    refine GoR.op rfl rfl rfl rfl ?_
    refine GoR.end ?_
    refine Go.seq noJ_ok ?_
    refine Go.region noJ_ok rfl ?_
    refine GoR.op rfl rfl rfl rfl ?_
    refine GoR.call rfl rfl (aOp_callFunc aFunc104 rfl) (isNaN_ok a _) ?_ (by rintro _ _ ⟨q, _⟩; cases q)
    rintro v0 h0 ⟨q, x0⟩
    cases q
    refine ⟨_, rfl, ?_⟩
    replace e0 := e0.trans x0
    refine GoR.op rfl rfl rfl rfl ?_
    iterate 3 refine GoR.skip rfl rfl rfl ?_
    iterate 4 refine GoR.op rfl rfl rfl rfl ?_
    refine GoR.op rfl rfl (aOp_lss rfl rfl hr) rfl ?_
    iterate 2 refine GoR.op rfl rfl rfl rfl ?_
    refine GoR.end ?_
    exact Go.ret noJ_ok (ret_end (aResult_of Try.func99 rfl rfl) ⟨rfl, e0⟩)
  | true =>
    refine Runs.intro aFunc99 rfl rfl rfl rfl fun rest => ?_
    refine Go.seq noJ_ok ?_
    refine Go.region noJ_ok rfl ?_
    refine GoR.op rfl rfl rfl rfl ?_
    refine GoR.end ?_
    refine Go.seq noJ_ok ?_
    refine Go.region noJ_ok rfl ?_
    refine GoR.op rfl rfl rfl rfl ?_
    refine GoR.call rfl rfl (aOp_callFunc aFunc104 rfl) (isNaN_ok a _) ?_ (by rintro _ _ ⟨q, _⟩; cases q)
    rintro v0 h0 ⟨q, x0⟩
    cases q
    refine ⟨_, rfl, ?_⟩
    replace e0 := e0.trans x0
    refine GoR.op rfl rfl rfl rfl ?_
    iterate 3 refine GoR.skip rfl rfl rfl ?_
    iterate 4 refine GoR.op rfl rfl rfl rfl ?_
    refine GoR.op rfl rfl (aOp_lss rfl rfl hr) rfl ?_
    iterate 2 refine GoR.op rfl rfl rfl rfl ?_
    refine GoR.end ?_
    exact Go.ret noJ_ok (ret_end (aResult_of Try.func99 rfl rfl) ⟨rfl, e0⟩)
theorem sorted_is (s : AVal) (a b c : Int) {r : Bool} (hr : decide (a ≤ b ∧ b ≤ c) = r) (h : AH) (hs : SliceOf h 1 s [[.int .i64 a], [.int .i64 b], [.int .i64 c]]) : Runs Try.prog 90 [s] h (fun en h' => en = .ret (.bool r) ∧ Ext h h') := by
  have hlen := hs.len
  have e0 : Ext h h := Ext.refl _
  refine Runs.intro aFunc90 rfl rfl rfl rfl fun rest => ?_
  refine Go.seq noJ_ok ?_
  refine Go.region noJ_ok rfl ?_
  refine GoR.op rfl rfl rfl rfl ?_
  refine GoR.end ?_
  iterate 2 refine Go.seq noJ_ok ?_
  refine Go.region noJ_ok rfl ?_
  refine GoR.op rfl rfl rfl rfl ?_
  refine GoR.op rfl rfl (aOp_lenSlice Try.underlying50 rfl hlen) rfl ?_
  refine GoR.op rfl rfl (aOp_sub rfl rfl (by constructor <;> simp <;> omega) rfl) rfl ?_
  refine GoR.op rfl rfl rfl rfl ?_
  refine GoR.end ?_
  refine Go.block noJ_ok ?_
  refine Go.loopKeep (fun i : Nat => [(0, s), (3, .int .i64 (2 - (i : Int)))]) (fun m i h' => m + i = 2 ∧ Ext h h' ∧ (1 ≤ i → b ≤ c) ∧ (2 ≤ i → a ≤ b)) (n := 2) 0 ⟨rfl, rfl, trivial⟩ ⟨rfl, e0, fun q => by omega, fun q => by omega⟩ ?_
  clear e0
  rintro m i h4 ⟨hm, e0, c1, c2⟩ again
  have hq := (hs.ext e0)
  obtain ⟨b0, o0, p0, r0⟩ := hq.at (i := 0) rfl
  obtain ⟨b1, o1, p1, r1⟩ := hq.at (i := 1) rfl
  obtain ⟨b2, o2, p2, r2⟩ := hq.at (i := 2) rfl
  match i, hm, c1, c2 with
  | 0, hm, c1, c2 =>
    by_cases hbc : c < b
    · have : r = false := by rw [← hr]; exact decide_eq_false (by omega)
      subst this
      iterate 2 refine Go.seq noJ_ok ?_
      refine Go.region noJ_ok rfl ?_
      refine GoR.op rfl rfl rfl rfl ?_
      refine GoR.op rfl rfl (aOp_gtr rfl rfl (r := true) (decide_eq_true (by omega))) rfl ?_
      refine GoR.end ?_
      refine Go.cond noJ_ok (b := true) rfl ?_
      refine Go.code noJ_ok ?_
      refine Go.seq noJ_ok ?_
      refine Go.block noJ_ok ?_
      refine Go.seq noJ_ok ?_
      refine Go.drawnE plan90_0 ?_
      iterate 2 refine GoE.quiet rfl rfl rfl rfl ?_
      refine GoE.quiet rfl rfl (aOp_indexAddr (i := 2) Try.underlying50 sz3 rfl p2 rfl rfl) rfl ?_
      refine GoE.quiet rfl rfl (aOp_loadE1 (k := 0) ag3 rfl r2 rfl) rfl ?_
      iterate 2 refine GoE.quiet rfl rfl rfl rfl ?_
      refine GoE.quiet rfl rfl (aOp_sub rfl rfl (by constructor <;> omega) rfl) rfl ?_
      refine GoE.quiet rfl rfl (aOp_indexAddr (i := 1) Try.underlying50 sz3 rfl p1 rfl rfl) rfl ?_
      refine GoE.quiet rfl rfl (aOp_loadE1 (k := 0) ag3 rfl r1 rfl) rfl ?_
      refine GoE.call rfl rfl (aOp_callFunc aFunc99 rfl) (less_is c b (decide_eq_true hbc) _) (dropF_drop (show bit? 511 8 = true from rfl) (dropF_drop (show bit? 511 7 = true from rfl) (dropF_drop (show bit? 511 6 = true from rfl) (dropF_drop (show bit? 511 5 = true from rfl) (dropF_drop (show bit? 511 4 = true from rfl) (dropF_drop (show bit? 511 3 = true from rfl) (dropF_drop (show bit? 511 2 = true from rfl) (dropF_drop (show bit? 511 1 = true from rfl) (dropF_drop (show bit? 511 0 = true from rfl) rfl))))))))) ?_ (by rintro _ _ ⟨q, _⟩; cases q)
      rintro v5 h5 ⟨q, x5⟩
      cases q
      replace e0 := e0.trans x5
      refine ⟨recheck_nil, _, rfl, ?_⟩
      refine GoE.end rfl ?_
      refine Go.cond noJ_ok (b := true) rfl ?_
      refine Go.seq noJ_ok ?_
      refine Go.region noJ_ok rfl ?_
      refine GoR.op rfl rfl rfl rfl ?_
      refine GoR.end ?_
      exact Go.ret noJ_ok (ret_end (aResult_of Try.func90 rfl rfl) ⟨rfl, e0⟩)
    · iterate 2 refine Go.seq noJ_ok ?_
      refine Go.region noJ_ok rfl ?_
      refine GoR.op rfl rfl rfl rfl ?_
      refine GoR.op rfl rfl (aOp_gtr rfl rfl (r := true) (decide_eq_true (by omega))) rfl ?_
      refine GoR.end ?_
      refine Go.cond noJ_ok (b := true) rfl ?_
      refine Go.code noJ_ok ?_
      refine Go.seq noJ_ok ?_
      refine Go.block noJ_ok ?_
      refine Go.seq noJ_ok ?_
      refine Go.drawnE plan90_0 ?_
      iterate 2 refine GoE.quiet rfl rfl rfl rfl ?_
      refine GoE.quiet rfl rfl (aOp_indexAddr (i := 2) Try.underlying50 sz3 rfl p2 rfl rfl) rfl ?_
      refine GoE.quiet rfl rfl (aOp_loadE1 (k := 0) ag3 rfl r2 rfl) rfl ?_
      iterate 2 refine GoE.quiet rfl rfl rfl rfl ?_
      refine GoE.quiet rfl rfl (aOp_sub rfl rfl (by constructor <;> omega) rfl) rfl ?_
      refine GoE.quiet rfl rfl (aOp_indexAddr (i := 1) Try.underlying50 sz3 rfl p1 rfl rfl) rfl ?_
      refine GoE.quiet rfl rfl (aOp_loadE1 (k := 0) ag3 rfl r1 rfl) rfl ?_
      refine GoE.call rfl rfl (aOp_callFunc aFunc99 rfl) (less_is c b (decide_eq_false hbc) _) (dropF_drop (show bit? 511 8 = true from rfl) (dropF_drop (show bit? 511 7 = true from rfl) (dropF_drop (show bit? 511 6 = true from rfl) (dropF_drop (show bit? 511 5 = true from rfl) (dropF_drop (show bit? 511 4 = true from rfl) (dropF_drop (show bit? 511 3 = true from rfl) (dropF_drop (show bit? 511 2 = true from rfl) (dropF_drop (show bit? 511 1 = true from rfl) (dropF_drop (show bit? 511 0 = true from rfl) rfl))))))))) ?_ (by rintro _ _ ⟨q, _⟩; cases q)
      rintro v5 h5 ⟨q, x5⟩
      cases q
      replace e0 := e0.trans x5
      refine ⟨recheck_nil, _, rfl, ?_⟩
      refine GoE.end rfl ?_
      refine Go.cond noJ_ok (b := false) rfl ?_
      refine Go.code noJ_ok ?_
      refine Go.inBlock noJ_ok ?_
      refine Go.region noJ_ok rfl ?_
      refine GoR.op rfl rfl rfl rfl ?_
      refine GoR.op rfl rfl (aOp_sub rfl rfl (by constructor <;> omega) rfl) rfl ?_
      refine GoR.op rfl rfl rfl rfl ?_
      refine GoR.end ?_
      exact again 1 1 _ _ (by omega) ⟨rfl, rfl, trivial⟩ ⟨rfl, e0, fun _ => by omega, fun q => by omega⟩
  | 1, hm, c1, c2 =>
    by_cases hab : b < a
    · have : r = false := by rw [← hr]; exact decide_eq_false (by omega)
      subst this
      iterate 2 refine Go.seq noJ_ok ?_
      refine Go.region noJ_ok rfl ?_
      refine GoR.op rfl rfl rfl rfl ?_
      refine GoR.op rfl rfl (aOp_gtr rfl rfl (r := true) (decide_eq_true (by omega))) rfl ?_
      refine GoR.end ?_
      refine Go.cond noJ_ok (b := true) rfl ?_
      refine Go.code noJ_ok ?_
      refine Go.seq noJ_ok ?_
      refine Go.block noJ_ok ?_
      refine Go.seq noJ_ok ?_
      refine Go.drawnE plan90_0 ?_
      iterate 2 refine GoE.quiet rfl rfl rfl rfl ?_
      refine GoE.quiet rfl rfl (aOp_indexAddr (i := 1) Try.underlying50 sz3 rfl p1 rfl rfl) rfl ?_
      refine GoE.quiet rfl rfl (aOp_loadE1 (k := 0) ag3 rfl r1 rfl) rfl ?_
      iterate 2 refine GoE.quiet rfl rfl rfl rfl ?_
      refine GoE.quiet rfl rfl (aOp_sub rfl rfl (by constructor <;> omega) rfl) rfl ?_
      refine GoE.quiet rfl rfl (aOp_indexAddr (i := 0) Try.underlying50 sz3 rfl p0 rfl rfl) rfl ?_
      refine GoE.quiet rfl rfl (aOp_loadE1 (k := 0) ag3 rfl r0 rfl) rfl ?_
      refine GoE.call rfl rfl (aOp_callFunc aFunc99 rfl) (less_is b a (decide_eq_true hab) _) (dropF_drop (show bit? 511 8 = true from rfl) (dropF_drop (show bit? 511 7 = true from rfl) (dropF_drop (show bit? 511 6 = true from rfl) (dropF_drop (show bit? 511 5 = true from rfl) (dropF_drop (show bit? 511 4 = true from rfl) (dropF_drop (show bit? 511 3 = true from rfl) (dropF_drop (show bit? 511 2 = true from rfl) (dropF_drop (show bit? 511 1 = true from rfl) (dropF_drop (show bit? 511 0 = true from rfl) rfl))))))))) ?_ (by rintro _ _ ⟨q, _⟩; cases q)
      rintro v5 h5 ⟨q, x5⟩
      cases q
      replace e0 := e0.trans x5
      refine ⟨recheck_nil, _, rfl, ?_⟩
      refine GoE.end rfl ?_
      refine Go.cond noJ_ok (b := true) rfl ?_
      refine Go.seq noJ_ok ?_
      refine Go.region noJ_ok rfl ?_
      refine GoR.op rfl rfl rfl rfl ?_
      refine GoR.end ?_
      exact Go.ret noJ_ok (ret_end (aResult_of Try.func90 rfl rfl) ⟨rfl, e0⟩)
    · iterate 2 refine Go.seq noJ_ok ?_
      refine Go.region noJ_ok rfl ?_
      refine GoR.op rfl rfl rfl rfl ?_
      refine GoR.op rfl rfl (aOp_gtr rfl rfl (r := true) (decide_eq_true (by omega))) rfl ?_
      refine GoR.end ?_
      refine Go.cond noJ_ok (b := true) rfl ?_
      refine Go.code noJ_ok ?_
      refine Go.seq noJ_ok ?_
      refine Go.block noJ_ok ?_
      refine Go.seq noJ_ok ?_
      refine Go.drawnE plan90_0 ?_
      iterate 2 refine GoE.quiet rfl rfl rfl rfl ?_
      refine GoE.quiet rfl rfl (aOp_indexAddr (i := 1) Try.underlying50 sz3 rfl p1 rfl rfl) rfl ?_
      refine GoE.quiet rfl rfl (aOp_loadE1 (k := 0) ag3 rfl r1 rfl) rfl ?_
      iterate 2 refine GoE.quiet rfl rfl rfl rfl ?_
      refine GoE.quiet rfl rfl (aOp_sub rfl rfl (by constructor <;> omega) rfl) rfl ?_
      refine GoE.quiet rfl rfl (aOp_indexAddr (i := 0) Try.underlying50 sz3 rfl p0 rfl rfl) rfl ?_
      refine GoE.quiet rfl rfl (aOp_loadE1 (k := 0) ag3 rfl r0 rfl) rfl ?_
      refine GoE.call rfl rfl (aOp_callFunc aFunc99 rfl) (less_is b a (decide_eq_false hab) _) (dropF_drop (show bit? 511 8 = true from rfl) (dropF_drop (show bit? 511 7 = true from rfl) (dropF_drop (show bit? 511 6 = true from rfl) (dropF_drop (show bit? 511 5 = true from rfl) (dropF_drop (show bit? 511 4 = true from rfl) (dropF_drop (show bit? 511 3 = true from rfl) (dropF_drop (show bit? 511 2 = true from rfl) (dropF_drop (show bit? 511 1 = true from rfl) (dropF_drop (show bit? 511 0 = true from rfl) rfl))))))))) ?_ (by rintro _ _ ⟨q, _⟩; cases q)
      rintro v5 h5 ⟨q, x5⟩
      cases q
      replace e0 := e0.trans x5
      refine ⟨recheck_nil, _, rfl, ?_⟩
      refine GoE.end rfl ?_
      refine Go.cond noJ_ok (b := false) rfl ?_
      refine Go.code noJ_ok ?_
      refine Go.inBlock noJ_ok ?_
      refine Go.region noJ_ok rfl ?_
      refine GoR.op rfl rfl rfl rfl ?_
      refine GoR.op rfl rfl (aOp_sub rfl rfl (by constructor <;> omega) rfl) rfl ?_
      refine GoR.op rfl rfl rfl rfl ?_
      refine GoR.end ?_
      exact again 0 2 _ _ (by omega) ⟨rfl, rfl, trivial⟩ ⟨rfl, e0, fun _ => c1 (by omega), fun q => by omega⟩
  | 2, hm, c1, c2 =>
    have : r = true := by rw [← hr]; exact decide_eq_true ⟨c2 (by omega), c1 (by omega)⟩
    subst this
    iterate 2 refine Go.seq noJ_ok ?_
    refine Go.region noJ_ok rfl ?_
    refine GoR.op rfl rfl rfl rfl ?_
    refine GoR.op rfl rfl (aOp_gtr rfl rfl (r := false) (decide_eq_false (by omega))) rfl ?_
    refine GoR.end ?_
    refine Go.cond noJ_ok (b := false) rfl ?_
    refine Go.code noJ_ok ?_
    refine Go.seq noJ_ok ?_
    refine Go.region noJ_ok rfl ?_
    refine GoR.op rfl rfl rfl rfl ?_
    refine GoR.end ?_
    exact Go.ret noJ_ok (ret_end (aResult_of Try.func90 rfl rfl) ⟨rfl, e0⟩)
end Go.Proofs.Ytmdheijpnlonoaa

namespace Go.Proofs.Ytmdheijpnlonoaa
open Go Go.AbsE
set_option linter.unusedSimpArgs false
set_option maxRecDepth 100000
set_option maxHeartbeats 0
set_option linter.unusedVariables false
def bareC (x : HTurf) : List AVal := [.int .i64 x.p, .int .i64 x.lo, .int .i64 x.hi, .nilslice]
theorem turfs0_ok (s1 : AVal) (hs : List HTurf) (h : AH) (hh1 : SliceOf h 3 s1 (hs.map HTurf.cells)) (hl1 : hs.length ≤ 100) :
    Runs Try.prog 67 [s1, .nilslice] h (fun en h' => ∃ s, en = .ret s ∧ Ext h h' ∧ SliceOf h' 4 s (hs.map bareC)) := by
  have hn1 := hh1.len
  rw [List.length_map] at hn1
  obtain ⟨fs106, hu106, pl106⟩ := flds106
  have e0 : Ext h h := Ext.refl _
  refine Runs.intro aFunc67 rfl rfl rfl rfl fun rest => ?_
  refine Go.seq noJ_ok ?_
  refine Go.region noJ_ok rfl ?_
  refine GoR.op rfl rfl rfl rfl ?_
  refine GoR.end ?_
  refine Go.seq noJ_ok ?_
  refine Go.region noJ_ok rfl ?_
  refine GoR.op rfl rfl rfl rfl ?_
  refine GoR.end ?_
  iterate 2 refine Go.seq noJ_ok ?_
  refine Go.region noJ_ok rfl ?_
  refine GoR.op rfl rfl rfl rfl ?_
  refine GoR.op rfl rfl (aOp_lenSlice Try.underlying22 rfl hn1) rfl ?_
  refine GoR.op rfl rfl rfl rfl ?_
  refine GoR.end ?_
  refine Go.block noJ_ok ?_
  refine Go.loopKeep (fun a : Nat × AVal => [(1, .nilslice), (5, a.2), (11, s1), (12, .int .i64 hs.length), (13, .int .i64 (a.1 : Nat))])
    (fun m a h' => m + a.1 = hs.length ∧ Ext h h' ∧ Grow h' 106 4 h.next a.2 a.1 ((hs.take a.1).flatMap bareC))
    (n := hs.length) (0, .nilslice) ⟨rfl, rfl, rfl, rfl, rfl, trivial⟩ ⟨rfl, e0, Grow.nil _ _ _ _⟩ ?_
  clear e0
  rintro m ⟨i, s⟩ h5 ⟨hm, e0, G⟩ again
  dsimp only at hm G ⊢
  have he5 := e0.1
  by_cases hi' : i < hs.length
  · obtain ⟨x, hx⟩ : ∃ x, hs[i]? = some x := ⟨hs[i], by simp [hi']⟩
    obtain ⟨bq, off, q1, q2⟩ := (hh1.ext e0).at (i := i) (l := HTurf.cells x) (by rw [List.getElem?_map, hx]; rfl)
    rw [List.length_map] at q1
    have htk := take_succ hx
    obtain ⟨xp, xlo, xhi⟩ := x
    unfold HTurf.cells at q2
    dsimp only at q2
    have e1 : Ext h5 h5 := Ext.refl _
    refine Go.seq noJ_ok ?_
    refine Go.region noJ_ok rfl ?_
    refine GoR.op rfl rfl (aOp_lss rfl rfl (r := true) (decide_eq_true (by omega))) rfl ?_
    refine GoR.end ?_
    refine Go.seq noJ_ok ?_
    refine Go.cond noJ_ok (b := true) rfl ?_
    refine Go.code noJ_ok ?_
    refine Go.seq noJ_ok ?_
    refine Go.block noJ_ok ?_
    refine Go.seq noJ_ok ?_
    refine Go.region noJ_ok rfl ?_
    refine GoR.op rfl rfl rfl rfl ?_
    refine GoR.op rfl rfl (aOp_indexAddr Try.underlying22 sz63 rfl q1 rfl (Nat.ble_eq_true_of_le hi')) rfl ?_
    refine GoR.op rfl rfl (aOp_loadE ag63 sz63 rfl (q2.ext e1)) rfl ?_
    refine GoR.alloc rfl rfl rfl zt63 rfl rfl fun h6 x6 f6 => ?_
    have := e0.1
    have := e1.1
    replace e0 := e0.trans x6
    replace e1 := e1.trans x6
    have := f6.1
    refine GoR.op rfl rfl rfl rfl ?_
    refine GoR.store rfl rfl rfl rfl rfl rfl f6 rfl sz63 rfl rfl rfl fun h7 u7 => ?_
    replace f6 := u7.has f6
    first | replace e0 := e0.upd u7 (by omega) | clear e0
    first | replace e1 := e1.upd u7 (by omega) | clear e1
    refine GoR.end ?_
    refine Go.seq noJ_ok ?_
    refine Go.region noJ_ok rfl ?_
    refine GoR.op rfl rfl (ld63 rfl f6 rfl) rfl ?_
    refine GoR.op rfl rfl (aOp_build (ps := [(0, .agg [.int .i64 xp, .int .i64 xlo, .int .i64 xhi])]) (cs := [.int .i64 xp, .int .i64 xlo, .int .i64 xhi, .nilslice]) zt106 hu106 pl106 rfl rfl) rfl ?_
    refine GoR.alloc rfl rfl rfl zt106 rfl rfl fun h8 x8 f8 => ?_
    have := e0.1
    have := e1.1
    have := f6.1
    replace f6 := f6.ext x8
    replace e0 := e0.trans x8
    replace e1 := e1.trans x8
    have := f8.1
    refine GoR.store rfl rfl rfl rfl rfl rfl f8 rfl sz106 rfl rfl rfl fun h9 u9 => ?_
    replace f8 := u9.has f8
    replace f6 := f6.upd u9 (by omega)
    first | replace e0 := e0.upd u9 (by omega) | clear e0
    first | replace e1 := e1.upd u9 (by omega) | clear e1
    refine GoR.end ?_
    iterate 2 refine Go.seq noJ_ok ?_
    refine Go.region noJ_ok rfl ?_
    refine GoR.op rfl rfl rfl rfl ?_
    refine GoR.op rfl rfl (aOp_lenSlice Try.underlying25 rfl (n := 0) rfl) rfl ?_
    refine GoR.op rfl rfl rfl rfl ?_
    refine GoR.end ?_
    refine Go.block noJ_ok ?_
    have hb8 := f8.1
    refine Go.loopKeep (fun _ : Nat => [(1, .nilslice), (5, s), (8, .ptr h7.next 0), (11, s1), (12, .int .i64 hs.length), (13, .int .i64 (i : Nat)), (21, .int .i64 (0 : Nat)), (22, .int .i64 0)])
      (fun m _ h' => Ext h h' ∧ Ext h5 h' ∧ Has h' h7.next (.cells .plain [.int .i64 xp, .int .i64 xlo, .int .i64 xhi, .nilslice] 106)) (n := 0) 0 ⟨rfl, rfl, rfl, rfl, rfl, rfl, rfl, rfl, trivial⟩ ⟨e0, e1, f8⟩ ?_
    clear e0 e1 f8 f6
    rintro m2 z h10 ⟨e0, e1, f8⟩ again2
    clear again2
    refine Go.seq noJ_ok ?_
    refine Go.region noJ_ok rfl ?_
    refine GoR.op rfl rfl (aOp_lss rfl rfl (r := false) (decide_eq_false (by omega))) rfl ?_
    refine GoR.end ?_
    refine Go.seq noJ_ok ?_
    refine Go.cond noJ_ok (b := false) rfl ?_
    refine Go.code noJ_ok ?_
    refine Go.region noJ_ok rfl ?_
    refine GoR.op rfl rfl rfl rfl ?_
    refine GoR.op rfl rfl (ld106 rfl f8 rfl) rfl ?_
    refine GoR.buildSl rfl rfl (ps := [(0, .agg [.int .i64 xp, .int .i64 xlo, .int .i64 xhi, .nilslice])]) (cs := [.int .i64 xp, .int .i64 xlo, .int .i64 xhi, .nilslice]) Try.underlying96 rfl sz106 zt106 rfl rfl rfl rfl fun h11 x11 f11 => ?_
    have := e0.1
    have := e1.1
    have := f8.1
    replace f8 := f8.ext x11
    replace e0 := e0.trans x11
    replace e1 := e1.trans x11
    have := f11.1
    have G' := G.ext e1
    refine GoR.append1F (lo := h.next) (s := s) rfl rfl rfl Try.underlying96 Try.underlying96 sz106 by106 zt106 rfl rfl rfl rfl f11 rfl rfl G' (by omega) rfl rfl fun s6 h59 y59 g59 => ?_
    have e5'' : Ext h h59 := y59.low e0 (fun b q => (grow_own G' q).1)
    have hy := y59.1
    have he1 := e1.1
    clear e0 e1 f8 f11 y59
    have e0 := e5''
    refine GoR.op rfl rfl rfl rfl ?_
    refine GoR.end ?_
    refine Go.inBlock noJ_ok ?_
    refine Go.region noJ_ok rfl ?_
    refine GoR.op rfl rfl (aOp_add rfl rfl (by constructor <;> omega) rfl) rfl ?_
    refine GoR.op rfl rfl rfl rfl ?_
    refine GoR.end ?_
    refine again (m - 1) (i + 1, s6) _ _ (by omega) ⟨rfl, rfl, rfl, rfl, rfl, trivial⟩ ⟨by dsimp only; omega, e0, ?_⟩
    dsimp only
    rw [htk, List.flatMap_append]
    exact g59.low (by omega)
  · have hin : i = hs.length := by omega
    subst hin
    rw [List.take_length] at G
    have hres : SliceOf h5 4 s (hs.map bareC) := by
      have k : Grow h5 106 4 h.next s (hs.map bareC).length ((hs.map bareC).flatten) := by
        rw [List.length_map, ← List.flatMap_def]
        exact G
      exact k.sliceOf (slice_flatten fun l hl => by obtain ⟨_, _, rfl⟩ := List.mem_map.1 hl; rfl)
    refine Go.seq noJ_ok ?_
    refine Go.region noJ_ok rfl ?_
    refine GoR.op rfl rfl (aOp_lss rfl rfl (r := false) (decide_eq_false (by omega))) rfl ?_
    refine GoR.end ?_
    refine Go.seq noJ_ok ?_
    refine Go.cond noJ_ok (b := false) rfl ?_
    refine Go.code noJ_ok ?_
    refine Go.seq noJ_ok ?_
    refine Go.region noJ_ok rfl ?_
    iterate 2 refine GoR.op rfl rfl rfl rfl ?_
    refine GoR.end ?_
    exact Go.ret noJ_ok (ret_end (aResult_of Try.func67 rfl rfl) ⟨s, rfl, e0, hres⟩)
theorem any_no {α : Type} {p : α → Bool} {L : List α} (h : ∀ x, x ∈ L → p x = true) : (L.any fun x => !p x) = false := by
  rw [List.any_eq_false]
  intro x hx
  rw [h x hx]
  decide
theorem no_any {α : Type} {p : α → Bool} {L : List α} (h : (L.any fun x => !p x) = false) : ∀ x, x ∈ L → p x = true := by
  intro x hx
  have := (List.any_eq_false.1 h) x hx
  cases q : p x with
  | true => rfl
  | false => rw [q] at this; exact absurd rfl this
theorem valid_is (F : FieldV) (hsl rsl lsl : AVal) (h : AH) (A : FieldAt h F hsl rsl lsl) (hb1 : F.hs.length ≤ 40) (hb2 : F.rs.length ≤ 40) (hb3 : F.looks.length ≤ 40) :
    Runs Try.prog 65 [.agg (F.cells hsl rsl lsl)] h (fun en h' => ∃ r, en = .ret (.bool r) ∧ (r = true ↔ F.Ok) ∧ Ext h h') := by
  have hl1 := A.hs.len
  have hl2 := A.rs.len
  have hl3 := A.ls.len
  rw [List.length_map] at hl1 hl2 hl3
  have hO2 : F.Ok → F.hs.any (fun x => !hokB x) = false := fun O => any_no fun x hx => decide_eq_true (O.h x hx)
  have hO4 : F.Ok → F.rs.any (fun x => !rokB x) = false := fun O => any_no fun x hx => decide_eq_true (O.r x hx)
  have hO5 : F.Ok → [F.a, F.b, F.c].any (fun d => !decide (0 ≤ d ∧ d ≤ 20)) = false := fun O => any_no fun d hd => decide_eq_true (by have := O.d; simp at hd; omega)
  have hO9 : F.Ok → F.looks.any (fun l => !lokB F l) = false := fun O => any_no fun l hl => decide_eq_true (O.l l hl)
  have hc2 := fun (s : AVal) (h' : AH) (hs : SliceOf h' 4 s (F.hs.map bareC)) => cont72_ok (caps := []) bareC aFunc87 s F.hs (fun x => !hokB x) h' hs (by omega) (fun x h'' hx e => bad_is x (by simp) h'')
  have hc4 := fun (h' : AH) (e : Ext h h') => cont88_ok (caps := []) spC aFunc89 rsl F.rs (fun x => !rokB x) h' (A.rs.ext e) (by omega) (fun x h'' hx e => badRain_is x (by simp) h'')
  have hsd : ∀ h', Has h' h.next (.cells .plain [hsl, rsl, .int .i64 F.a, .int .i64 F.b, .int .i64 F.c, .int .i64 F.lim, lsl] 27) → SliceOf h' 1 (.slice h.next 2 3 3) ([F.a, F.b, F.c].map fun x => [AVal.int .i64 x]) := fun h' f => SliceOf.mk' rfl rfl f rfl (fun i l hl => by
    match i, hl with
    | 0, hl => cases hl; rfl
    | 1, hl => cases hl; rfl
    | 2, hl => cases hl; rfl)
  have hc5 := fun (h' : AH) (f : Has h' h.next (.cells .plain [hsl, rsl, .int .i64 F.a, .int .i64 F.b, .int .i64 F.c, .int .i64 F.lim, lsl] 27)) => cont80_ok (caps := []) aFunc86 (.slice h.next 2 3 3) [F.a, F.b, F.c] (fun d => !decide (0 ≤ d ∧ d ≤ 20)) h' (hsd h' f) (by simp) (fun x h'' hx e => badDry_is x (by simp) h'')
  have hc9 := fun (h' : AH) (f : Has h' h.next (.cells .plain [hsl, rsl, .int .i64 F.a, .int .i64 F.b, .int .i64 F.c, .int .i64 F.lim, lsl] 27)) (e : Ext h h') => cont91_ok (caps := [.ptr h.next 0]) LookV.cells aFunc84 lsl F.looks (fun l => !lokB F l) h' (A.ls.ext e) (by omega) (fun x h'' hx e' => badLook_is (F := F) x (by simp) hsl rsl lsl h.next h'' (f.ext e') hl1 hl2 hb1 hb2)
  show Runs Try.prog 65 [.agg [hsl, rsl, .int .i64 F.a, .int .i64 F.b, .int .i64 F.c, .int .i64 F.lim, lsl]] h _
  cases c1 : decide ((1 : Int) ≤ F.hs.length ∧ (F.hs.length : Int) ≤ 3) with
  | false =>
    refine Runs.intro aFunc65 rfl rfl rfl rfl fun rest => ?_
    refine Go.seq noJ_ok ?_
    refine Go.region noJ_ok rfl ?_
    refine GoR.box rfl rfl rfl rfl rfl rfl fun h0 x0 f0 => ?_
    have e0 := x0
    have := f0.1
    refine GoR.op rfl rfl rfl rfl ?_
    refine GoR.end ?_
    refine Go.seq noJ_ok ?_
    refine Go.region noJ_ok rfl ?_
    iterate 2 refine GoR.op rfl rfl rfl rfl ?_
    refine GoR.end ?_
    refine Go.seq noJ_ok ?_
    refine Go.region noJ_ok rfl ?_
    refine GoR.op rfl rfl rfl rfl ?_
    refine GoR.end ?_
    refine Go.seq noJ_ok ?_
    refine Go.region noJ_ok rfl ?_
    refine GoR.op rfl rfl (fa27_0 rfl) rfl ?_
    refine GoR.op rfl rfl (ld22 rfl f0 rfl) rfl ?_
    refine GoR.op rfl rfl (aOp_lenSlice Try.underlying22 rfl hl1) rfl ?_
    refine GoR.call rfl rfl (aOp_callFunc aFunc66 rfl) (inside_ok F.hs.length 1 3 c1 _) ?_ (by rintro _ _ ⟨q, _⟩; cases q)
    rintro v1 h1 ⟨q, x1⟩
    cases q
    refine ⟨_, rfl, ?_⟩
    replace f0 := f0.ext x1
    replace e0 := e0.trans x1
    refine GoR.op rfl rfl rfl rfl ?_
    iterate 5 refine GoR.skip rfl rfl rfl ?_
    iterate 2 refine GoR.op rfl rfl rfl rfl ?_
    iterate 4 refine GoR.skip rfl rfl rfl ?_
    iterate 2 refine GoR.op rfl rfl rfl rfl ?_
    iterate 4 refine GoR.skip rfl rfl rfl ?_
    iterate 2 refine GoR.op rfl rfl rfl rfl ?_
    iterate 5 refine GoR.skip rfl rfl rfl ?_
    iterate 2 refine GoR.op rfl rfl rfl rfl ?_
    iterate 3 refine GoR.skip rfl rfl rfl ?_
    iterate 2 refine GoR.op rfl rfl rfl rfl ?_
    iterate 3 refine GoR.skip rfl rfl rfl ?_
    iterate 2 refine GoR.op rfl rfl rfl rfl ?_
    iterate 4 refine GoR.skip rfl rfl rfl ?_
    iterate 2 refine GoR.op rfl rfl rfl rfl ?_
    iterate 5 refine GoR.skip rfl rfl rfl ?_
    iterate 2 refine GoR.op rfl rfl rfl rfl ?_
    refine GoR.end ?_
    exact Go.ret noJ_ok (ret_end (aResult_of Try.func65 rfl rfl) ⟨false, rfl, (no_iff fun O => by have k := O.nh; have q := of_decide_eq_false c1; omega), e0⟩)
  | true =>
  cases c2 : F.hs.any (fun x => !hokB x) with
  | true =>
    rw [c2] at hc2
    refine Runs.intro aFunc65 rfl rfl rfl rfl fun rest => ?_
    refine Go.seq noJ_ok ?_
    refine Go.region noJ_ok rfl ?_
    refine GoR.box rfl rfl rfl rfl rfl rfl fun h0 x0 f0 => ?_
    have e0 := x0
    have := f0.1
    refine GoR.op rfl rfl rfl rfl ?_
    refine GoR.end ?_
    refine Go.seq noJ_ok ?_
    refine Go.region noJ_ok rfl ?_
    iterate 2 refine GoR.op rfl rfl rfl rfl ?_
    refine GoR.end ?_
    refine Go.seq noJ_ok ?_
    refine Go.region noJ_ok rfl ?_
    refine GoR.op rfl rfl rfl rfl ?_
    refine GoR.end ?_
    refine Go.seq noJ_ok ?_
    refine Go.region noJ_ok rfl ?_
    refine GoR.op rfl rfl (fa27_0 rfl) rfl ?_
    refine GoR.op rfl rfl (ld22 rfl f0 rfl) rfl ?_
    refine GoR.op rfl rfl (aOp_lenSlice Try.underlying22 rfl hl1) rfl ?_
    refine GoR.call rfl rfl (aOp_callFunc aFunc66 rfl) (inside_ok F.hs.length 1 3 c1 _) ?_ (by rintro _ _ ⟨q, _⟩; cases q)
    rintro v1 h1 ⟨q, x1⟩
    cases q
    refine ⟨_, rfl, ?_⟩
    replace f0 := f0.ext x1
    replace e0 := e0.trans x1
    refine GoR.op rfl rfl rfl rfl ?_
    refine GoR.op rfl rfl (fa27_0 rfl) rfl ?_
    refine GoR.op rfl rfl (ld22 rfl f0 rfl) rfl ?_
    refine GoR.call rfl rfl (aOp_callFunc aFunc67 rfl) (turfs0_ok hsl F.hs _ (A.hs.ext e0) (by omega)) ?_ (by rintro _ _ ⟨s, q, _, hsS⟩; cases q)
    rintro v2 h2 ⟨s, q, x2, hsS⟩
    cases q
    refine ⟨_, rfl, ?_⟩
    have := e0.1
    replace f0 := f0.ext x2
    replace e0 := e0.trans x2
    refine GoR.call rfl rfl (aOp_callFunc aFunc72 rfl) (hc2 _ _ hsS) ?_ (by rintro _ _ ⟨q, _⟩; cases q)
    rintro v3 h3 ⟨q, x3⟩
    cases q
    refine ⟨_, rfl, ?_⟩
    replace f0 := f0.ext x3
    replace e0 := e0.trans x3
    iterate 3 refine GoR.op rfl rfl rfl rfl ?_
    iterate 4 refine GoR.skip rfl rfl rfl ?_
    iterate 2 refine GoR.op rfl rfl rfl rfl ?_
    iterate 4 refine GoR.skip rfl rfl rfl ?_
    iterate 2 refine GoR.op rfl rfl rfl rfl ?_
    iterate 5 refine GoR.skip rfl rfl rfl ?_
    iterate 2 refine GoR.op rfl rfl rfl rfl ?_
    iterate 3 refine GoR.skip rfl rfl rfl ?_
    iterate 2 refine GoR.op rfl rfl rfl rfl ?_
    iterate 3 refine GoR.skip rfl rfl rfl ?_
    iterate 2 refine GoR.op rfl rfl rfl rfl ?_
    iterate 4 refine GoR.skip rfl rfl rfl ?_
    iterate 2 refine GoR.op rfl rfl rfl rfl ?_
    iterate 5 refine GoR.skip rfl rfl rfl ?_
    iterate 2 refine GoR.op rfl rfl rfl rfl ?_
    refine GoR.end ?_
    exact Go.ret noJ_ok (ret_end (aResult_of Try.func65 rfl rfl) ⟨false, rfl, (no_iff fun O => by rw [hO2 O] at c2; cases c2), e0⟩)
  | false =>
  rw [c2] at hc2
  cases c3 : decide ((1 : Int) ≤ F.rs.length ∧ (F.rs.length : Int) ≤ 6) with
  | false =>
    refine Runs.intro aFunc65 rfl rfl rfl rfl fun rest => ?_
    refine Go.seq noJ_ok ?_
    refine Go.region noJ_ok rfl ?_
    refine GoR.box rfl rfl rfl rfl rfl rfl fun h0 x0 f0 => ?_
    have e0 := x0
    have := f0.1
    refine GoR.op rfl rfl rfl rfl ?_
    refine GoR.end ?_
    refine Go.seq noJ_ok ?_
    refine Go.region noJ_ok rfl ?_
    iterate 2 refine GoR.op rfl rfl rfl rfl ?_
    refine GoR.end ?_
    refine Go.seq noJ_ok ?_
    refine Go.region noJ_ok rfl ?_
    refine GoR.op rfl rfl rfl rfl ?_
    refine GoR.end ?_
    refine Go.seq noJ_ok ?_
    refine Go.region noJ_ok rfl ?_
    refine GoR.op rfl rfl (fa27_0 rfl) rfl ?_
    refine GoR.op rfl rfl (ld22 rfl f0 rfl) rfl ?_
    refine GoR.op rfl rfl (aOp_lenSlice Try.underlying22 rfl hl1) rfl ?_
    refine GoR.call rfl rfl (aOp_callFunc aFunc66 rfl) (inside_ok F.hs.length 1 3 c1 _) ?_ (by rintro _ _ ⟨q, _⟩; cases q)
    rintro v1 h1 ⟨q, x1⟩
    cases q
    refine ⟨_, rfl, ?_⟩
    replace f0 := f0.ext x1
    replace e0 := e0.trans x1
    refine GoR.op rfl rfl rfl rfl ?_
    refine GoR.op rfl rfl (fa27_0 rfl) rfl ?_
    refine GoR.op rfl rfl (ld22 rfl f0 rfl) rfl ?_
    refine GoR.call rfl rfl (aOp_callFunc aFunc67 rfl) (turfs0_ok hsl F.hs _ (A.hs.ext e0) (by omega)) ?_ (by rintro _ _ ⟨s, q, _, hsS⟩; cases q)
    rintro v2 h2 ⟨s, q, x2, hsS⟩
    cases q
    refine ⟨_, rfl, ?_⟩
    have := e0.1
    replace f0 := f0.ext x2
    replace e0 := e0.trans x2
    refine GoR.call rfl rfl (aOp_callFunc aFunc72 rfl) (hc2 _ _ hsS) ?_ (by rintro _ _ ⟨q, _⟩; cases q)
    rintro v3 h3 ⟨q, x3⟩
    cases q
    refine ⟨_, rfl, ?_⟩
    replace f0 := f0.ext x3
    replace e0 := e0.trans x3
    iterate 3 refine GoR.op rfl rfl rfl rfl ?_
    refine GoR.op rfl rfl (fa27_1 rfl) rfl ?_
    refine GoR.op rfl rfl (ld23 rfl f0 rfl) rfl ?_
    refine GoR.op rfl rfl (aOp_lenSlice Try.underlying23 rfl hl2) rfl ?_
    refine GoR.call rfl rfl (aOp_callFunc aFunc66 rfl) (inside_ok F.rs.length 1 6 c3 _) ?_ (by rintro _ _ ⟨q, _⟩; cases q)
    rintro v4 h4 ⟨q, x4⟩
    cases q
    refine ⟨_, rfl, ?_⟩
    replace f0 := f0.ext x4
    replace e0 := e0.trans x4
    iterate 2 refine GoR.op rfl rfl rfl rfl ?_
    iterate 4 refine GoR.skip rfl rfl rfl ?_
    iterate 2 refine GoR.op rfl rfl rfl rfl ?_
    iterate 5 refine GoR.skip rfl rfl rfl ?_
    iterate 2 refine GoR.op rfl rfl rfl rfl ?_
    iterate 3 refine GoR.skip rfl rfl rfl ?_
    iterate 2 refine GoR.op rfl rfl rfl rfl ?_
    iterate 3 refine GoR.skip rfl rfl rfl ?_
    iterate 2 refine GoR.op rfl rfl rfl rfl ?_
    iterate 4 refine GoR.skip rfl rfl rfl ?_
    iterate 2 refine GoR.op rfl rfl rfl rfl ?_
    iterate 5 refine GoR.skip rfl rfl rfl ?_
    iterate 2 refine GoR.op rfl rfl rfl rfl ?_
    refine GoR.end ?_
    exact Go.ret noJ_ok (ret_end (aResult_of Try.func65 rfl rfl) ⟨false, rfl, (no_iff fun O => by have k := O.nr; have q := of_decide_eq_false c3; omega), e0⟩)
  | true =>
  cases c4 : F.rs.any (fun x => !rokB x) with
  | true =>
    rw [c4] at hc4
    refine Runs.intro aFunc65 rfl rfl rfl rfl fun rest => ?_
    refine Go.seq noJ_ok ?_
    refine Go.region noJ_ok rfl ?_
    refine GoR.box rfl rfl rfl rfl rfl rfl fun h0 x0 f0 => ?_
    have e0 := x0
    have := f0.1
    refine GoR.op rfl rfl rfl rfl ?_
    refine GoR.end ?_
    refine Go.seq noJ_ok ?_
    refine Go.region noJ_ok rfl ?_
    iterate 2 refine GoR.op rfl rfl rfl rfl ?_
    refine GoR.end ?_
    refine Go.seq noJ_ok ?_
    refine Go.region noJ_ok rfl ?_
    refine GoR.op rfl rfl rfl rfl ?_
    refine GoR.end ?_
    refine Go.seq noJ_ok ?_
    refine Go.region noJ_ok rfl ?_
    refine GoR.op rfl rfl (fa27_0 rfl) rfl ?_
    refine GoR.op rfl rfl (ld22 rfl f0 rfl) rfl ?_
    refine GoR.op rfl rfl (aOp_lenSlice Try.underlying22 rfl hl1) rfl ?_
    refine GoR.call rfl rfl (aOp_callFunc aFunc66 rfl) (inside_ok F.hs.length 1 3 c1 _) ?_ (by rintro _ _ ⟨q, _⟩; cases q)
    rintro v1 h1 ⟨q, x1⟩
    cases q
    refine ⟨_, rfl, ?_⟩
    replace f0 := f0.ext x1
    replace e0 := e0.trans x1
    refine GoR.op rfl rfl rfl rfl ?_
    refine GoR.op rfl rfl (fa27_0 rfl) rfl ?_
    refine GoR.op rfl rfl (ld22 rfl f0 rfl) rfl ?_
    refine GoR.call rfl rfl (aOp_callFunc aFunc67 rfl) (turfs0_ok hsl F.hs _ (A.hs.ext e0) (by omega)) ?_ (by rintro _ _ ⟨s, q, _, hsS⟩; cases q)
    rintro v2 h2 ⟨s, q, x2, hsS⟩
    cases q
    refine ⟨_, rfl, ?_⟩
    have := e0.1
    replace f0 := f0.ext x2
    replace e0 := e0.trans x2
    refine GoR.call rfl rfl (aOp_callFunc aFunc72 rfl) (hc2 _ _ hsS) ?_ (by rintro _ _ ⟨q, _⟩; cases q)
    rintro v3 h3 ⟨q, x3⟩
    cases q
    refine ⟨_, rfl, ?_⟩
    replace f0 := f0.ext x3
    replace e0 := e0.trans x3
    iterate 3 refine GoR.op rfl rfl rfl rfl ?_
    refine GoR.op rfl rfl (fa27_1 rfl) rfl ?_
    refine GoR.op rfl rfl (ld23 rfl f0 rfl) rfl ?_
    refine GoR.op rfl rfl (aOp_lenSlice Try.underlying23 rfl hl2) rfl ?_
    refine GoR.call rfl rfl (aOp_callFunc aFunc66 rfl) (inside_ok F.rs.length 1 6 c3 _) ?_ (by rintro _ _ ⟨q, _⟩; cases q)
    rintro v4 h4 ⟨q, x4⟩
    cases q
    refine ⟨_, rfl, ?_⟩
    replace f0 := f0.ext x4
    replace e0 := e0.trans x4
    iterate 2 refine GoR.op rfl rfl rfl rfl ?_
    refine GoR.op rfl rfl (fa27_1 rfl) rfl ?_
    refine GoR.op rfl rfl (ld23 rfl f0 rfl) rfl ?_
    refine GoR.call rfl rfl (aOp_callFunc aFunc88 rfl) (hc4 _ e0) ?_ (by rintro _ _ ⟨q, _⟩; cases q)
    rintro v5 h5 ⟨q, x5⟩
    cases q
    refine ⟨_, rfl, ?_⟩
    replace f0 := f0.ext x5
    replace e0 := e0.trans x5
    iterate 3 refine GoR.op rfl rfl rfl rfl ?_
    iterate 5 refine GoR.skip rfl rfl rfl ?_
    iterate 2 refine GoR.op rfl rfl rfl rfl ?_
    iterate 3 refine GoR.skip rfl rfl rfl ?_
    iterate 2 refine GoR.op rfl rfl rfl rfl ?_
    iterate 3 refine GoR.skip rfl rfl rfl ?_
    iterate 2 refine GoR.op rfl rfl rfl rfl ?_
    iterate 4 refine GoR.skip rfl rfl rfl ?_
    iterate 2 refine GoR.op rfl rfl rfl rfl ?_
    iterate 5 refine GoR.skip rfl rfl rfl ?_
    iterate 2 refine GoR.op rfl rfl rfl rfl ?_
    refine GoR.end ?_
    exact Go.ret noJ_ok (ret_end (aResult_of Try.func65 rfl rfl) ⟨false, rfl, (no_iff fun O => by rw [hO4 O] at c4; cases c4), e0⟩)
  | false =>
  rw [c4] at hc4
  cases c5 : [F.a, F.b, F.c].any (fun d => !decide (0 ≤ d ∧ d ≤ 20)) with
  | true =>
    rw [c5] at hc5
    refine Runs.intro aFunc65 rfl rfl rfl rfl fun rest => ?_
    refine Go.seq noJ_ok ?_
    refine Go.region noJ_ok rfl ?_
    refine GoR.box rfl rfl rfl rfl rfl rfl fun h0 x0 f0 => ?_
    have e0 := x0
    have := f0.1
    refine GoR.op rfl rfl rfl rfl ?_
    refine GoR.end ?_
    refine Go.seq noJ_ok ?_
    refine Go.region noJ_ok rfl ?_
    iterate 2 refine GoR.op rfl rfl rfl rfl ?_
    refine GoR.end ?_
    refine Go.seq noJ_ok ?_
    refine Go.region noJ_ok rfl ?_
    refine GoR.op rfl rfl rfl rfl ?_
    refine GoR.end ?_
    refine Go.seq noJ_ok ?_
    refine Go.region noJ_ok rfl ?_
    refine GoR.op rfl rfl (fa27_0 rfl) rfl ?_
    refine GoR.op rfl rfl (ld22 rfl f0 rfl) rfl ?_
    refine GoR.op rfl rfl (aOp_lenSlice Try.underlying22 rfl hl1) rfl ?_
    refine GoR.call rfl rfl (aOp_callFunc aFunc66 rfl) (inside_ok F.hs.length 1 3 c1 _) ?_ (by rintro _ _ ⟨q, _⟩; cases q)
    rintro v1 h1 ⟨q, x1⟩
    cases q
    refine ⟨_, rfl, ?_⟩
    replace f0 := f0.ext x1
    replace e0 := e0.trans x1
    refine GoR.op rfl rfl rfl rfl ?_
    refine GoR.op rfl rfl (fa27_0 rfl) rfl ?_
    refine GoR.op rfl rfl (ld22 rfl f0 rfl) rfl ?_
    refine GoR.call rfl rfl (aOp_callFunc aFunc67 rfl) (turfs0_ok hsl F.hs _ (A.hs.ext e0) (by omega)) ?_ (by rintro _ _ ⟨s, q, _, hsS⟩; cases q)
    rintro v2 h2 ⟨s, q, x2, hsS⟩
    cases q
    refine ⟨_, rfl, ?_⟩
    have := e0.1
    replace f0 := f0.ext x2
    replace e0 := e0.trans x2
    refine GoR.call rfl rfl (aOp_callFunc aFunc72 rfl) (hc2 _ _ hsS) ?_ (by rintro _ _ ⟨q, _⟩; cases q)
    rintro v3 h3 ⟨q, x3⟩
    cases q
    refine ⟨_, rfl, ?_⟩
    replace f0 := f0.ext x3
    replace e0 := e0.trans x3
    iterate 3 refine GoR.op rfl rfl rfl rfl ?_
    refine GoR.op rfl rfl (fa27_1 rfl) rfl ?_
    refine GoR.op rfl rfl (ld23 rfl f0 rfl) rfl ?_
    refine GoR.op rfl rfl (aOp_lenSlice Try.underlying23 rfl hl2) rfl ?_
    refine GoR.call rfl rfl (aOp_callFunc aFunc66 rfl) (inside_ok F.rs.length 1 6 c3 _) ?_ (by rintro _ _ ⟨q, _⟩; cases q)
    rintro v4 h4 ⟨q, x4⟩
    cases q
    refine ⟨_, rfl, ?_⟩
    replace f0 := f0.ext x4
    replace e0 := e0.trans x4
    iterate 2 refine GoR.op rfl rfl rfl rfl ?_
    refine GoR.op rfl rfl (fa27_1 rfl) rfl ?_
    refine GoR.op rfl rfl (ld23 rfl f0 rfl) rfl ?_
    refine GoR.call rfl rfl (aOp_callFunc aFunc88 rfl) (hc4 _ e0) ?_ (by rintro _ _ ⟨q, _⟩; cases q)
    rintro v5 h5 ⟨q, x5⟩
    cases q
    refine ⟨_, rfl, ?_⟩
    replace f0 := f0.ext x5
    replace e0 := e0.trans x5
    iterate 3 refine GoR.op rfl rfl rfl rfl ?_
    refine GoR.op rfl rfl (fa27_2 rfl) rfl ?_
    iterate 2 refine GoR.op rfl rfl rfl rfl ?_
    refine GoR.call rfl rfl (aOp_callFunc aFunc80 rfl) (hc5 _ (by assumption)) ?_ (by rintro _ _ ⟨q, _⟩; cases q)
    rintro v6 h6 ⟨q, x6⟩
    cases q
    refine ⟨_, rfl, ?_⟩
    replace f0 := f0.ext x6
    replace e0 := e0.trans x6
    iterate 3 refine GoR.op rfl rfl rfl rfl ?_
    iterate 3 refine GoR.skip rfl rfl rfl ?_
    iterate 2 refine GoR.op rfl rfl rfl rfl ?_
    iterate 3 refine GoR.skip rfl rfl rfl ?_
    iterate 2 refine GoR.op rfl rfl rfl rfl ?_
    iterate 4 refine GoR.skip rfl rfl rfl ?_
    iterate 2 refine GoR.op rfl rfl rfl rfl ?_
    iterate 5 refine GoR.skip rfl rfl rfl ?_
    iterate 2 refine GoR.op rfl rfl rfl rfl ?_
    refine GoR.end ?_
    exact Go.ret noJ_ok (ret_end (aResult_of Try.func65 rfl rfl) ⟨false, rfl, (no_iff fun O => by rw [hO5 O] at c5; cases c5), e0⟩)
  | false =>
  rw [c5] at hc5
  cases c6 : decide (F.a ≤ F.b ∧ F.b ≤ F.c) with
  | false =>
    refine Runs.intro aFunc65 rfl rfl rfl rfl fun rest => ?_
    refine Go.seq noJ_ok ?_
    refine Go.region noJ_ok rfl ?_
    refine GoR.box rfl rfl rfl rfl rfl rfl fun h0 x0 f0 => ?_
    have e0 := x0
    have := f0.1
    refine GoR.op rfl rfl rfl rfl ?_
    refine GoR.end ?_
    refine Go.seq noJ_ok ?_
    refine Go.region noJ_ok rfl ?_
    iterate 2 refine GoR.op rfl rfl rfl rfl ?_
    refine GoR.end ?_
    refine Go.seq noJ_ok ?_
    refine Go.region noJ_ok rfl ?_
    refine GoR.op rfl rfl rfl rfl ?_
    refine GoR.end ?_
    refine Go.seq noJ_ok ?_
    refine Go.region noJ_ok rfl ?_
    refine GoR.op rfl rfl (fa27_0 rfl) rfl ?_
    refine GoR.op rfl rfl (ld22 rfl f0 rfl) rfl ?_
    refine GoR.op rfl rfl (aOp_lenSlice Try.underlying22 rfl hl1) rfl ?_
    refine GoR.call rfl rfl (aOp_callFunc aFunc66 rfl) (inside_ok F.hs.length 1 3 c1 _) ?_ (by rintro _ _ ⟨q, _⟩; cases q)
    rintro v1 h1 ⟨q, x1⟩
    cases q
    refine ⟨_, rfl, ?_⟩
    replace f0 := f0.ext x1
    replace e0 := e0.trans x1
    refine GoR.op rfl rfl rfl rfl ?_
    refine GoR.op rfl rfl (fa27_0 rfl) rfl ?_
    refine GoR.op rfl rfl (ld22 rfl f0 rfl) rfl ?_
    refine GoR.call rfl rfl (aOp_callFunc aFunc67 rfl) (turfs0_ok hsl F.hs _ (A.hs.ext e0) (by omega)) ?_ (by rintro _ _ ⟨s, q, _, hsS⟩; cases q)
    rintro v2 h2 ⟨s, q, x2, hsS⟩
    cases q
    refine ⟨_, rfl, ?_⟩
    have := e0.1
    replace f0 := f0.ext x2
    replace e0 := e0.trans x2
    refine GoR.call rfl rfl (aOp_callFunc aFunc72 rfl) (hc2 _ _ hsS) ?_ (by rintro _ _ ⟨q, _⟩; cases q)
    rintro v3 h3 ⟨q, x3⟩
    cases q
    refine ⟨_, rfl, ?_⟩
    replace f0 := f0.ext x3
    replace e0 := e0.trans x3
    iterate 3 refine GoR.op rfl rfl rfl rfl ?_
    refine GoR.op rfl rfl (fa27_1 rfl) rfl ?_
    refine GoR.op rfl rfl (ld23 rfl f0 rfl) rfl ?_
    refine GoR.op rfl rfl (aOp_lenSlice Try.underlying23 rfl hl2) rfl ?_
    refine GoR.call rfl rfl (aOp_callFunc aFunc66 rfl) (inside_ok F.rs.length 1 6 c3 _) ?_ (by rintro _ _ ⟨q, _⟩; cases q)
    rintro v4 h4 ⟨q, x4⟩
    cases q
    refine ⟨_, rfl, ?_⟩
    replace f0 := f0.ext x4
    replace e0 := e0.trans x4
    iterate 2 refine GoR.op rfl rfl rfl rfl ?_
    refine GoR.op rfl rfl (fa27_1 rfl) rfl ?_
    refine GoR.op rfl rfl (ld23 rfl f0 rfl) rfl ?_
    refine GoR.call rfl rfl (aOp_callFunc aFunc88 rfl) (hc4 _ e0) ?_ (by rintro _ _ ⟨q, _⟩; cases q)
    rintro v5 h5 ⟨q, x5⟩
    cases q
    refine ⟨_, rfl, ?_⟩
    replace f0 := f0.ext x5
    replace e0 := e0.trans x5
    iterate 3 refine GoR.op rfl rfl rfl rfl ?_
    refine GoR.op rfl rfl (fa27_2 rfl) rfl ?_
    iterate 2 refine GoR.op rfl rfl rfl rfl ?_
    refine GoR.call rfl rfl (aOp_callFunc aFunc80 rfl) (hc5 _ (by assumption)) ?_ (by rintro _ _ ⟨q, _⟩; cases q)
    rintro v6 h6 ⟨q, x6⟩
    cases q
    refine ⟨_, rfl, ?_⟩
    replace f0 := f0.ext x6
    replace e0 := e0.trans x6
    iterate 3 refine GoR.op rfl rfl rfl rfl ?_
    refine GoR.op rfl rfl (fa27_2 rfl) rfl ?_
    refine GoR.op rfl rfl rfl rfl ?_
    refine GoR.call rfl rfl (aOp_callFunc aFunc90 rfl) (sorted_is (.slice h.next 2 3 3) F.a F.b F.c c6 _ (hsd _ (by assumption))) ?_ (by rintro _ _ ⟨q, _⟩; cases q)
    rintro v7 h7 ⟨q, x7⟩
    cases q
    refine ⟨_, rfl, ?_⟩
    replace f0 := f0.ext x7
    replace e0 := e0.trans x7
    iterate 2 refine GoR.op rfl rfl rfl rfl ?_
    iterate 3 refine GoR.skip rfl rfl rfl ?_
    iterate 2 refine GoR.op rfl rfl rfl rfl ?_
    iterate 4 refine GoR.skip rfl rfl rfl ?_
    iterate 2 refine GoR.op rfl rfl rfl rfl ?_
    iterate 5 refine GoR.skip rfl rfl rfl ?_
    iterate 2 refine GoR.op rfl rfl rfl rfl ?_
    refine GoR.end ?_
    exact Go.ret noJ_ok (ret_end (aResult_of Try.func65 rfl rfl) ⟨false, rfl, (no_iff fun O => by have k := O.d; have q := of_decide_eq_false c6; omega), e0⟩)
  | true =>
  cases c7 : decide (0 ≤ F.lim ∧ F.lim ≤ 100) with
  | false =>
    refine Runs.intro aFunc65 rfl rfl rfl rfl fun rest => ?_
    refine Go.seq noJ_ok ?_
    refine Go.region noJ_ok rfl ?_
    refine GoR.box rfl rfl rfl rfl rfl rfl fun h0 x0 f0 => ?_
    have e0 := x0
    have := f0.1
    refine GoR.op rfl rfl rfl rfl ?_
    refine GoR.end ?_
    refine Go.seq noJ_ok ?_
    refine Go.region noJ_ok rfl ?_
    iterate 2 refine GoR.op rfl rfl rfl rfl ?_
    refine GoR.end ?_
    refine Go.seq noJ_ok ?_
    refine Go.region noJ_ok rfl ?_
    refine GoR.op rfl rfl rfl rfl ?_
    refine GoR.end ?_
    refine Go.seq noJ_ok ?_
    refine Go.region noJ_ok rfl ?_
    refine GoR.op rfl rfl (fa27_0 rfl) rfl ?_
    refine GoR.op rfl rfl (ld22 rfl f0 rfl) rfl ?_
    refine GoR.op rfl rfl (aOp_lenSlice Try.underlying22 rfl hl1) rfl ?_
    refine GoR.call rfl rfl (aOp_callFunc aFunc66 rfl) (inside_ok F.hs.length 1 3 c1 _) ?_ (by rintro _ _ ⟨q, _⟩; cases q)
    rintro v1 h1 ⟨q, x1⟩
    cases q
    refine ⟨_, rfl, ?_⟩
    replace f0 := f0.ext x1
    replace e0 := e0.trans x1
    refine GoR.op rfl rfl rfl rfl ?_
    refine GoR.op rfl rfl (fa27_0 rfl) rfl ?_
    refine GoR.op rfl rfl (ld22 rfl f0 rfl) rfl ?_
    refine GoR.call rfl rfl (aOp_callFunc aFunc67 rfl) (turfs0_ok hsl F.hs _ (A.hs.ext e0) (by omega)) ?_ (by rintro _ _ ⟨s, q, _, hsS⟩; cases q)
    rintro v2 h2 ⟨s, q, x2, hsS⟩
    cases q
    refine ⟨_, rfl, ?_⟩
    have := e0.1
    replace f0 := f0.ext x2
    replace e0 := e0.trans x2
    refine GoR.call rfl rfl (aOp_callFunc aFunc72 rfl) (hc2 _ _ hsS) ?_ (by rintro _ _ ⟨q, _⟩; cases q)
    rintro v3 h3 ⟨q, x3⟩
    cases q
    refine ⟨_, rfl, ?_⟩
    replace f0 := f0.ext x3
    replace e0 := e0.trans x3
    iterate 3 refine GoR.op rfl rfl rfl rfl ?_
    refine GoR.op rfl rfl (fa27_1 rfl) rfl ?_
    refine GoR.op rfl rfl (ld23 rfl f0 rfl) rfl ?_
    refine GoR.op rfl rfl (aOp_lenSlice Try.underlying23 rfl hl2) rfl ?_
    refine GoR.call rfl rfl (aOp_callFunc aFunc66 rfl) (inside_ok F.rs.length 1 6 c3 _) ?_ (by rintro _ _ ⟨q, _⟩; cases q)
    rintro v4 h4 ⟨q, x4⟩
    cases q
    refine ⟨_, rfl, ?_⟩
    replace f0 := f0.ext x4
    replace e0 := e0.trans x4
    iterate 2 refine GoR.op rfl rfl rfl rfl ?_
    refine GoR.op rfl rfl (fa27_1 rfl) rfl ?_
    refine GoR.op rfl rfl (ld23 rfl f0 rfl) rfl ?_
    refine GoR.call rfl rfl (aOp_callFunc aFunc88 rfl) (hc4 _ e0) ?_ (by rintro _ _ ⟨q, _⟩; cases q)
    rintro v5 h5 ⟨q, x5⟩
    cases q
    refine ⟨_, rfl, ?_⟩
    replace f0 := f0.ext x5
    replace e0 := e0.trans x5
    iterate 3 refine GoR.op rfl rfl rfl rfl ?_
    refine GoR.op rfl rfl (fa27_2 rfl) rfl ?_
    iterate 2 refine GoR.op rfl rfl rfl rfl ?_
    refine GoR.call rfl rfl (aOp_callFunc aFunc80 rfl) (hc5 _ (by assumption)) ?_ (by rintro _ _ ⟨q, _⟩; cases q)
    rintro v6 h6 ⟨q, x6⟩
    cases q
    refine ⟨_, rfl, ?_⟩
    replace f0 := f0.ext x6
    replace e0 := e0.trans x6
    iterate 3 refine GoR.op rfl rfl rfl rfl ?_
    refine GoR.op rfl rfl (fa27_2 rfl) rfl ?_
    refine GoR.op rfl rfl rfl rfl ?_
    refine GoR.call rfl rfl (aOp_callFunc aFunc90 rfl) (sorted_is (.slice h.next 2 3 3) F.a F.b F.c c6 _ (hsd _ (by assumption))) ?_ (by rintro _ _ ⟨q, _⟩; cases q)
    rintro v7 h7 ⟨q, x7⟩
    cases q
    refine ⟨_, rfl, ?_⟩
    replace f0 := f0.ext x7
    replace e0 := e0.trans x7
    iterate 2 refine GoR.op rfl rfl rfl rfl ?_
    refine GoR.op rfl rfl (fa27_3 rfl) rfl ?_
    refine GoR.op rfl rfl (ld3 rfl f0 rfl) rfl ?_
    refine GoR.call rfl rfl (aOp_callFunc aFunc66 rfl) (inside_ok F.lim 0 100 c7 _) ?_ (by rintro _ _ ⟨q, _⟩; cases q)
    rintro v8 h8 ⟨q, x8⟩
    cases q
    refine ⟨_, rfl, ?_⟩
    replace f0 := f0.ext x8
    replace e0 := e0.trans x8
    iterate 2 refine GoR.op rfl rfl rfl rfl ?_
    iterate 4 refine GoR.skip rfl rfl rfl ?_
    iterate 2 refine GoR.op rfl rfl rfl rfl ?_
    iterate 5 refine GoR.skip rfl rfl rfl ?_
    iterate 2 refine GoR.op rfl rfl rfl rfl ?_
    refine GoR.end ?_
    exact Go.ret noJ_ok (ret_end (aResult_of Try.func65 rfl rfl) ⟨false, rfl, (no_iff fun O => by have k := O.lim; have q := of_decide_eq_false c7; omega), e0⟩)
  | true =>
  cases c8 : decide ((F.looks.length : Int) ≤ 5) with
  | false =>
    refine Runs.intro aFunc65 rfl rfl rfl rfl fun rest => ?_
    refine Go.seq noJ_ok ?_
    refine Go.region noJ_ok rfl ?_
    refine GoR.box rfl rfl rfl rfl rfl rfl fun h0 x0 f0 => ?_
    have e0 := x0
    have := f0.1
    refine GoR.op rfl rfl rfl rfl ?_
    refine GoR.end ?_
    refine Go.seq noJ_ok ?_
    refine Go.region noJ_ok rfl ?_
    iterate 2 refine GoR.op rfl rfl rfl rfl ?_
    refine GoR.end ?_
    refine Go.seq noJ_ok ?_
    refine Go.region noJ_ok rfl ?_
    refine GoR.op rfl rfl rfl rfl ?_
    refine GoR.end ?_
    refine Go.seq noJ_ok ?_
    refine Go.region noJ_ok rfl ?_
    refine GoR.op rfl rfl (fa27_0 rfl) rfl ?_
    refine GoR.op rfl rfl (ld22 rfl f0 rfl) rfl ?_
    refine GoR.op rfl rfl (aOp_lenSlice Try.underlying22 rfl hl1) rfl ?_
    refine GoR.call rfl rfl (aOp_callFunc aFunc66 rfl) (inside_ok F.hs.length 1 3 c1 _) ?_ (by rintro _ _ ⟨q, _⟩; cases q)
    rintro v1 h1 ⟨q, x1⟩
    cases q
    refine ⟨_, rfl, ?_⟩
    replace f0 := f0.ext x1
    replace e0 := e0.trans x1
    refine GoR.op rfl rfl rfl rfl ?_
    refine GoR.op rfl rfl (fa27_0 rfl) rfl ?_
    refine GoR.op rfl rfl (ld22 rfl f0 rfl) rfl ?_
    refine GoR.call rfl rfl (aOp_callFunc aFunc67 rfl) (turfs0_ok hsl F.hs _ (A.hs.ext e0) (by omega)) ?_ (by rintro _ _ ⟨s, q, _, hsS⟩; cases q)
    rintro v2 h2 ⟨s, q, x2, hsS⟩
    cases q
    refine ⟨_, rfl, ?_⟩
    have := e0.1
    replace f0 := f0.ext x2
    replace e0 := e0.trans x2
    refine GoR.call rfl rfl (aOp_callFunc aFunc72 rfl) (hc2 _ _ hsS) ?_ (by rintro _ _ ⟨q, _⟩; cases q)
    rintro v3 h3 ⟨q, x3⟩
    cases q
    refine ⟨_, rfl, ?_⟩
    replace f0 := f0.ext x3
    replace e0 := e0.trans x3
    iterate 3 refine GoR.op rfl rfl rfl rfl ?_
    refine GoR.op rfl rfl (fa27_1 rfl) rfl ?_
    refine GoR.op rfl rfl (ld23 rfl f0 rfl) rfl ?_
    refine GoR.op rfl rfl (aOp_lenSlice Try.underlying23 rfl hl2) rfl ?_
    refine GoR.call rfl rfl (aOp_callFunc aFunc66 rfl) (inside_ok F.rs.length 1 6 c3 _) ?_ (by rintro _ _ ⟨q, _⟩; cases q)
    rintro v4 h4 ⟨q, x4⟩
    cases q
    refine ⟨_, rfl, ?_⟩
    replace f0 := f0.ext x4
    replace e0 := e0.trans x4
    iterate 2 refine GoR.op rfl rfl rfl rfl ?_
    refine GoR.op rfl rfl (fa27_1 rfl) rfl ?_
    refine GoR.op rfl rfl (ld23 rfl f0 rfl) rfl ?_
    refine GoR.call rfl rfl (aOp_callFunc aFunc88 rfl) (hc4 _ e0) ?_ (by rintro _ _ ⟨q, _⟩; cases q)
    rintro v5 h5 ⟨q, x5⟩
    cases q
    refine ⟨_, rfl, ?_⟩
    replace f0 := f0.ext x5
    replace e0 := e0.trans x5
    iterate 3 refine GoR.op rfl rfl rfl rfl ?_
    refine GoR.op rfl rfl (fa27_2 rfl) rfl ?_
    iterate 2 refine GoR.op rfl rfl rfl rfl ?_
    refine GoR.call rfl rfl (aOp_callFunc aFunc80 rfl) (hc5 _ (by assumption)) ?_ (by rintro _ _ ⟨q, _⟩; cases q)
    rintro v6 h6 ⟨q, x6⟩
    cases q
    refine ⟨_, rfl, ?_⟩
    replace f0 := f0.ext x6
    replace e0 := e0.trans x6
    iterate 3 refine GoR.op rfl rfl rfl rfl ?_
    refine GoR.op rfl rfl (fa27_2 rfl) rfl ?_
    refine GoR.op rfl rfl rfl rfl ?_
    refine GoR.call rfl rfl (aOp_callFunc aFunc90 rfl) (sorted_is (.slice h.next 2 3 3) F.a F.b F.c c6 _ (hsd _ (by assumption))) ?_ (by rintro _ _ ⟨q, _⟩; cases q)
    rintro v7 h7 ⟨q, x7⟩
    cases q
    refine ⟨_, rfl, ?_⟩
    replace f0 := f0.ext x7
    replace e0 := e0.trans x7
    iterate 2 refine GoR.op rfl rfl rfl rfl ?_
    refine GoR.op rfl rfl (fa27_3 rfl) rfl ?_
    refine GoR.op rfl rfl (ld3 rfl f0 rfl) rfl ?_
    refine GoR.call rfl rfl (aOp_callFunc aFunc66 rfl) (inside_ok F.lim 0 100 c7 _) ?_ (by rintro _ _ ⟨q, _⟩; cases q)
    rintro v8 h8 ⟨q, x8⟩
    cases q
    refine ⟨_, rfl, ?_⟩
    replace f0 := f0.ext x8
    replace e0 := e0.trans x8
    iterate 2 refine GoR.op rfl rfl rfl rfl ?_
    refine GoR.op rfl rfl (fa27_4 rfl) rfl ?_
    refine GoR.op rfl rfl (ld25 rfl f0 rfl) rfl ?_
    refine GoR.op rfl rfl (aOp_lenSlice Try.underlying25 rfl hl3) rfl ?_
    refine GoR.op rfl rfl (aOp_leq rfl rfl c8) rfl ?_
    iterate 2 refine GoR.op rfl rfl rfl rfl ?_
    iterate 5 refine GoR.skip rfl rfl rfl ?_
    iterate 2 refine GoR.op rfl rfl rfl rfl ?_
    refine GoR.end ?_
    exact Go.ret noJ_ok (ret_end (aResult_of Try.func65 rfl rfl) ⟨false, rfl, (no_iff fun O => by have k := O.nl; have q := of_decide_eq_false c8; omega), e0⟩)
  | true =>
  cases c9 : F.looks.any (fun l => !lokB F l) with
  | true =>
    rw [c9] at hc9
    refine Runs.intro aFunc65 rfl rfl rfl rfl fun rest => ?_
    refine Go.seq noJ_ok ?_
    refine Go.region noJ_ok rfl ?_
    refine GoR.box rfl rfl rfl rfl rfl rfl fun h0 x0 f0 => ?_
    have e0 := x0
    have := f0.1
    refine GoR.op rfl rfl rfl rfl ?_
    refine GoR.end ?_
    refine Go.seq noJ_ok ?_
    refine Go.region noJ_ok rfl ?_
    iterate 2 refine GoR.op rfl rfl rfl rfl ?_
    refine GoR.end ?_
    refine Go.seq noJ_ok ?_
    refine Go.region noJ_ok rfl ?_
    refine GoR.op rfl rfl rfl rfl ?_
    refine GoR.end ?_
    refine Go.seq noJ_ok ?_
    refine Go.region noJ_ok rfl ?_
    refine GoR.op rfl rfl (fa27_0 rfl) rfl ?_
    refine GoR.op rfl rfl (ld22 rfl f0 rfl) rfl ?_
    refine GoR.op rfl rfl (aOp_lenSlice Try.underlying22 rfl hl1) rfl ?_
    refine GoR.call rfl rfl (aOp_callFunc aFunc66 rfl) (inside_ok F.hs.length 1 3 c1 _) ?_ (by rintro _ _ ⟨q, _⟩; cases q)
    rintro v1 h1 ⟨q, x1⟩
    cases q
    refine ⟨_, rfl, ?_⟩
    replace f0 := f0.ext x1
    replace e0 := e0.trans x1
    refine GoR.op rfl rfl rfl rfl ?_
    refine GoR.op rfl rfl (fa27_0 rfl) rfl ?_
    refine GoR.op rfl rfl (ld22 rfl f0 rfl) rfl ?_
    refine GoR.call rfl rfl (aOp_callFunc aFunc67 rfl) (turfs0_ok hsl F.hs _ (A.hs.ext e0) (by omega)) ?_ (by rintro _ _ ⟨s, q, _, hsS⟩; cases q)
    rintro v2 h2 ⟨s, q, x2, hsS⟩
    cases q
    refine ⟨_, rfl, ?_⟩
    have := e0.1
    replace f0 := f0.ext x2
    replace e0 := e0.trans x2
    refine GoR.call rfl rfl (aOp_callFunc aFunc72 rfl) (hc2 _ _ hsS) ?_ (by rintro _ _ ⟨q, _⟩; cases q)
    rintro v3 h3 ⟨q, x3⟩
    cases q
    refine ⟨_, rfl, ?_⟩
    replace f0 := f0.ext x3
    replace e0 := e0.trans x3
    iterate 3 refine GoR.op rfl rfl rfl rfl ?_
    refine GoR.op rfl rfl (fa27_1 rfl) rfl ?_
    refine GoR.op rfl rfl (ld23 rfl f0 rfl) rfl ?_
    refine GoR.op rfl rfl (aOp_lenSlice Try.underlying23 rfl hl2) rfl ?_
    refine GoR.call rfl rfl (aOp_callFunc aFunc66 rfl) (inside_ok F.rs.length 1 6 c3 _) ?_ (by rintro _ _ ⟨q, _⟩; cases q)
    rintro v4 h4 ⟨q, x4⟩
    cases q
    refine ⟨_, rfl, ?_⟩
    replace f0 := f0.ext x4
    replace e0 := e0.trans x4
    iterate 2 refine GoR.op rfl rfl rfl rfl ?_
    refine GoR.op rfl rfl (fa27_1 rfl) rfl ?_
    refine GoR.op rfl rfl (ld23 rfl f0 rfl) rfl ?_
    refine GoR.call rfl rfl (aOp_callFunc aFunc88 rfl) (hc4 _ e0) ?_ (by rintro _ _ ⟨q, _⟩; cases q)
    rintro v5 h5 ⟨q, x5⟩
    cases q
    refine ⟨_, rfl, ?_⟩
    replace f0 := f0.ext x5
    replace e0 := e0.trans x5
    iterate 3 refine GoR.op rfl rfl rfl rfl ?_
    refine GoR.op rfl rfl (fa27_2 rfl) rfl ?_
    iterate 2 refine GoR.op rfl rfl rfl rfl ?_
    refine GoR.call rfl rfl (aOp_callFunc aFunc80 rfl) (hc5 _ (by assumption)) ?_ (by rintro _ _ ⟨q, _⟩; cases q)
    rintro v6 h6 ⟨q, x6⟩
    cases q
    refine ⟨_, rfl, ?_⟩
    replace f0 := f0.ext x6
    replace e0 := e0.trans x6
    iterate 3 refine GoR.op rfl rfl rfl rfl ?_
    refine GoR.op rfl rfl (fa27_2 rfl) rfl ?_
    refine GoR.op rfl rfl rfl rfl ?_
    refine GoR.call rfl rfl (aOp_callFunc aFunc90 rfl) (sorted_is (.slice h.next 2 3 3) F.a F.b F.c c6 _ (hsd _ (by assumption))) ?_ (by rintro _ _ ⟨q, _⟩; cases q)
    rintro v7 h7 ⟨q, x7⟩
    cases q
    refine ⟨_, rfl, ?_⟩
    replace f0 := f0.ext x7
    replace e0 := e0.trans x7
    iterate 2 refine GoR.op rfl rfl rfl rfl ?_
    refine GoR.op rfl rfl (fa27_3 rfl) rfl ?_
    refine GoR.op rfl rfl (ld3 rfl f0 rfl) rfl ?_
    refine GoR.call rfl rfl (aOp_callFunc aFunc66 rfl) (inside_ok F.lim 0 100 c7 _) ?_ (by rintro _ _ ⟨q, _⟩; cases q)
    rintro v8 h8 ⟨q, x8⟩
    cases q
    refine ⟨_, rfl, ?_⟩
    replace f0 := f0.ext x8
    replace e0 := e0.trans x8
    iterate 2 refine GoR.op rfl rfl rfl rfl ?_
    refine GoR.op rfl rfl (fa27_4 rfl) rfl ?_
    refine GoR.op rfl rfl (ld25 rfl f0 rfl) rfl ?_
    refine GoR.op rfl rfl (aOp_lenSlice Try.underlying25 rfl hl3) rfl ?_
    refine GoR.op rfl rfl (aOp_leq rfl rfl c8) rfl ?_
    iterate 2 refine GoR.op rfl rfl rfl rfl ?_
    refine GoR.op rfl rfl (fa27_4 rfl) rfl ?_
    refine GoR.op rfl rfl (ld25 rfl f0 rfl) rfl ?_
    refine GoR.op rfl rfl rfl rfl ?_
    refine GoR.call rfl rfl (aOp_callFunc aFunc91 rfl) (hc9 _ (by assumption) e0) ?_ (by rintro _ _ ⟨q, _⟩; cases q)
    rintro v9 h9 ⟨q, x9⟩
    cases q
    refine ⟨_, rfl, ?_⟩
    replace f0 := f0.ext x9
    replace e0 := e0.trans x9
    iterate 3 refine GoR.op rfl rfl rfl rfl ?_
    refine GoR.end ?_
    exact Go.ret noJ_ok (ret_end (aResult_of Try.func65 rfl rfl) ⟨false, rfl, (no_iff fun O => by rw [hO9 O] at c9; cases c9), e0⟩)
  | false =>
  rw [c9] at hc9
  have OK : F.Ok := ⟨by have := of_decide_eq_true c1; omega, fun x hx => of_decide_eq_true (no_any c2 x hx), by have := of_decide_eq_true c3; omega, fun x hx => of_decide_eq_true (no_any c4 x hx),
    by
      have k1 := of_decide_eq_true (no_any c5 F.a (by simp))
      have k2 := of_decide_eq_true (no_any c5 F.c (by simp))
      have k3 := of_decide_eq_true c6
      omega, of_decide_eq_true c7, by have := of_decide_eq_true c8; omega, fun x hx => of_decide_eq_true (no_any c9 x hx)⟩
  refine Runs.intro aFunc65 rfl rfl rfl rfl fun rest => ?_
  refine Go.seq noJ_ok ?_
  refine Go.region noJ_ok rfl ?_
  refine GoR.box rfl rfl rfl rfl rfl rfl fun h0 x0 f0 => ?_
  have e0 := x0
  have := f0.1
  refine GoR.op rfl rfl rfl rfl ?_
  refine GoR.end ?_
  refine Go.seq noJ_ok ?_
  refine Go.region noJ_ok rfl ?_
  iterate 2 refine GoR.op rfl rfl rfl rfl ?_
  refine GoR.end ?_
  refine Go.seq noJ_ok ?_
  refine Go.region noJ_ok rfl ?_
  refine GoR.op rfl rfl rfl rfl ?_
  refine GoR.end ?_
  refine Go.seq noJ_ok ?_
  refine Go.region noJ_ok rfl ?_
  refine GoR.op rfl rfl (fa27_0 rfl) rfl ?_
  refine GoR.op rfl rfl (ld22 rfl f0 rfl) rfl ?_
  refine GoR.op rfl rfl (aOp_lenSlice Try.underlying22 rfl hl1) rfl ?_
  refine GoR.call rfl rfl (aOp_callFunc aFunc66 rfl) (inside_ok F.hs.length 1 3 c1 _) ?_ (by rintro _ _ ⟨q, _⟩; cases q)
  rintro v1 h1 ⟨q, x1⟩
  cases q
  refine ⟨_, rfl, ?_⟩
  replace f0 := f0.ext x1
  replace e0 := e0.trans x1
  refine GoR.op rfl rfl rfl rfl ?_
  refine GoR.op rfl rfl (fa27_0 rfl) rfl ?_
  refine GoR.op rfl rfl (ld22 rfl f0 rfl) rfl ?_
  refine GoR.call rfl rfl (aOp_callFunc aFunc67 rfl) (turfs0_ok hsl F.hs _ (A.hs.ext e0) (by omega)) ?_ (by rintro _ _ ⟨s, q, _, hsS⟩; cases q)
  rintro v2 h2 ⟨s, q, x2, hsS⟩
  cases q
  refine ⟨_, rfl, ?_⟩
  have := e0.1
  replace f0 := f0.ext x2
  replace e0 := e0.trans x2
  refine GoR.call rfl rfl (aOp_callFunc aFunc72 rfl) (hc2 _ _ hsS) ?_ (by rintro _ _ ⟨q, _⟩; cases q)
  rintro v3 h3 ⟨q, x3⟩
  cases q
  refine ⟨_, rfl, ?_⟩
  replace f0 := f0.ext x3
  replace e0 := e0.trans x3
  iterate 3 refine GoR.op rfl rfl rfl rfl ?_
  refine GoR.op rfl rfl (fa27_1 rfl) rfl ?_
  refine GoR.op rfl rfl (ld23 rfl f0 rfl) rfl ?_
  refine GoR.op rfl rfl (aOp_lenSlice Try.underlying23 rfl hl2) rfl ?_
  refine GoR.call rfl rfl (aOp_callFunc aFunc66 rfl) (inside_ok F.rs.length 1 6 c3 _) ?_ (by rintro _ _ ⟨q, _⟩; cases q)
  rintro v4 h4 ⟨q, x4⟩
  cases q
  refine ⟨_, rfl, ?_⟩
  replace f0 := f0.ext x4
  replace e0 := e0.trans x4
  iterate 2 refine GoR.op rfl rfl rfl rfl ?_
  refine GoR.op rfl rfl (fa27_1 rfl) rfl ?_
  refine GoR.op rfl rfl (ld23 rfl f0 rfl) rfl ?_
  refine GoR.call rfl rfl (aOp_callFunc aFunc88 rfl) (hc4 _ e0) ?_ (by rintro _ _ ⟨q, _⟩; cases q)
  rintro v5 h5 ⟨q, x5⟩
  cases q
  refine ⟨_, rfl, ?_⟩
  replace f0 := f0.ext x5
  replace e0 := e0.trans x5
  iterate 3 refine GoR.op rfl rfl rfl rfl ?_
  refine GoR.op rfl rfl (fa27_2 rfl) rfl ?_
  iterate 2 refine GoR.op rfl rfl rfl rfl ?_
  refine GoR.call rfl rfl (aOp_callFunc aFunc80 rfl) (hc5 _ (by assumption)) ?_ (by rintro _ _ ⟨q, _⟩; cases q)
  rintro v6 h6 ⟨q, x6⟩
  cases q
  refine ⟨_, rfl, ?_⟩
  replace f0 := f0.ext x6
  replace e0 := e0.trans x6
  iterate 3 refine GoR.op rfl rfl rfl rfl ?_
  refine GoR.op rfl rfl (fa27_2 rfl) rfl ?_
  refine GoR.op rfl rfl rfl rfl ?_
  refine GoR.call rfl rfl (aOp_callFunc aFunc90 rfl) (sorted_is (.slice h.next 2 3 3) F.a F.b F.c c6 _ (hsd _ (by assumption))) ?_ (by rintro _ _ ⟨q, _⟩; cases q)
  rintro v7 h7 ⟨q, x7⟩
  cases q
  refine ⟨_, rfl, ?_⟩
  replace f0 := f0.ext x7
  replace e0 := e0.trans x7
  iterate 2 refine GoR.op rfl rfl rfl rfl ?_
  refine GoR.op rfl rfl (fa27_3 rfl) rfl ?_
  refine GoR.op rfl rfl (ld3 rfl f0 rfl) rfl ?_
  refine GoR.call rfl rfl (aOp_callFunc aFunc66 rfl) (inside_ok F.lim 0 100 c7 _) ?_ (by rintro _ _ ⟨q, _⟩; cases q)
  rintro v8 h8 ⟨q, x8⟩
  cases q
  refine ⟨_, rfl, ?_⟩
  replace f0 := f0.ext x8
  replace e0 := e0.trans x8
  iterate 2 refine GoR.op rfl rfl rfl rfl ?_
  refine GoR.op rfl rfl (fa27_4 rfl) rfl ?_
  refine GoR.op rfl rfl (ld25 rfl f0 rfl) rfl ?_
  refine GoR.op rfl rfl (aOp_lenSlice Try.underlying25 rfl hl3) rfl ?_
  refine GoR.op rfl rfl (aOp_leq rfl rfl c8) rfl ?_
  iterate 2 refine GoR.op rfl rfl rfl rfl ?_
  refine GoR.op rfl rfl (fa27_4 rfl) rfl ?_
  refine GoR.op rfl rfl (ld25 rfl f0 rfl) rfl ?_
  refine GoR.op rfl rfl rfl rfl ?_
  refine GoR.call rfl rfl (aOp_callFunc aFunc91 rfl) (hc9 _ (by assumption) e0) ?_ (by rintro _ _ ⟨q, _⟩; cases q)
  rintro v9 h9 ⟨q, x9⟩
  cases q
  refine ⟨_, rfl, ?_⟩
  replace f0 := f0.ext x9
  replace e0 := e0.trans x9
  iterate 3 refine GoR.op rfl rfl rfl rfl ?_
  refine GoR.end ?_
  exact Go.ret noJ_ok (ret_end (aResult_of Try.func65 rfl rfl) ⟨true, rfl, (iff_of_true rfl OK), e0⟩)
end Go.Proofs.Ytmdheijpnlonoaa
