import Derived.Test.YtmdheijpnlonoaaMAN
import Derived.Test.YtmdheijpnlonoaaMAL
import Derived.Test.YtmdheijpnlonoaaMAJ
namespace Go.Proofs.Ytmdheijpnlonoaa
open Go Go.AbsE
set_option linter.unusedSimpArgs false
set_option maxRecDepth 100000
set_option maxHeartbeats 0
set_option linter.unusedVariables false

theorem in57_ok (n a b : Int) {r : Bool} (hr : decide (a ≤ n ∧ n ≤ b) = r) (h : AH) : Runs Try.prog 57 [.int .i64 n, .int .i64 a, .int .i64 b] h (fun en h' => en = .ret (.bool r) ∧ Ext h h') := by
  have e0 : Ext h h := Ext.refl _
  by_cases h1 : a ≤ n
  · by_cases h2 : n ≤ b
    · have : r = true := by rw [← hr]; simp; omega
      subst this
      refine Runs.intro aFunc57 rfl rfl rfl rfl fun rest => ?_
      refine Go.seq noJ_ok ?_
      refine Go.region noJ_ok rfl ?_
      refine GoR.op rfl rfl rfl rfl ?_
      refine GoR.end ?_
      refine Go.seq noJ_ok ?_
      refine Go.region noJ_ok rfl ?_
      iterate 2 refine GoR.op rfl rfl rfl rfl ?_
      refine GoR.op rfl rfl (aOp_leq rfl rfl (r := true) (decide_eq_true (by omega))) rfl ?_
      iterate 3 refine GoR.op rfl rfl rfl rfl ?_
      refine GoR.op rfl rfl (aOp_leq rfl rfl (r := true) (decide_eq_true (by omega))) rfl ?_
      iterate 2 refine GoR.op rfl rfl rfl rfl ?_
      refine GoR.end ?_
      exact Go.ret noJ_ok (ret_end (aResult_of Try.func57 rfl rfl) ⟨rfl, e0⟩)
    · have : r = false := by rw [← hr]; simp; omega
      subst this
      refine Runs.intro aFunc57 rfl rfl rfl rfl fun rest => ?_
      refine Go.seq noJ_ok ?_
      refine Go.region noJ_ok rfl ?_
      refine GoR.op rfl rfl rfl rfl ?_
      refine GoR.end ?_
      refine Go.seq noJ_ok ?_
      refine Go.region noJ_ok rfl ?_
      iterate 2 refine GoR.op rfl rfl rfl rfl ?_
      refine GoR.op rfl rfl (aOp_leq rfl rfl (r := true) (decide_eq_true (by omega))) rfl ?_
      iterate 3 refine GoR.op rfl rfl rfl rfl ?_
      refine GoR.op rfl rfl (aOp_leq rfl rfl (r := false) (decide_eq_false (by omega))) rfl ?_
      iterate 2 refine GoR.op rfl rfl rfl rfl ?_
      refine GoR.end ?_
      exact Go.ret noJ_ok (ret_end (aResult_of Try.func57 rfl rfl) ⟨rfl, e0⟩)
  · have : r = false := by rw [← hr]; simp; omega
    subst this
    refine Runs.intro aFunc57 rfl rfl rfl rfl fun rest => ?_
    refine Go.seq noJ_ok ?_
    refine Go.region noJ_ok rfl ?_
    refine GoR.op rfl rfl rfl rfl ?_
    refine GoR.end ?_
    refine Go.seq noJ_ok ?_
    refine Go.region noJ_ok rfl ?_
    iterate 2 refine GoR.op rfl rfl rfl rfl ?_
    refine GoR.op rfl rfl (aOp_leq rfl rfl (r := false) (decide_eq_false (by omega))) rfl ?_
    refine GoR.op rfl rfl rfl rfl ?_
    iterate 3 refine GoR.skip rfl rfl rfl ?_
    iterate 2 refine GoR.op rfl rfl rfl rfl ?_
    refine GoR.end ?_
    exact Go.ret noJ_ok (ret_end (aResult_of Try.func57 rfl rfl) ⟨rfl, e0⟩)
theorem span58_ok (lo hi a b : Int) {r : Bool} (hr : decide (0 ≤ lo ∧ lo ≤ hi ∧ hi ≤ a ∧ hi - lo ≤ b) = r) (ha : a ≤ 1000) (h : AH) : Runs Try.prog 58 [.agg [.int .i64 lo, .int .i64 hi], .int .i64 a, .int .i64 b] h (fun en h' => en = .ret (.bool r) ∧ Ext h h') := by
  by_cases h1 : 0 ≤ lo
  · by_cases h2 : lo ≤ hi
    · by_cases h3 : hi ≤ a
      · by_cases h4 : hi - lo ≤ b
        · have : r = true := by rw [← hr]; simp; omega
          subst this
          refine Runs.intro aFunc58 rfl rfl rfl rfl fun rest => ?_
          refine Go.seq noJ_ok ?_
          refine Go.region noJ_ok rfl ?_
          refine GoR.box rfl rfl rfl rfl rfl rfl fun h5 x5 f5 => ?_
          have e0 := x5
          have := f5.1
          refine GoR.op rfl rfl rfl rfl ?_
          refine GoR.end ?_
          refine Go.seq noJ_ok ?_
          refine Go.region noJ_ok rfl ?_
          refine GoR.op rfl rfl (fa30_0 rfl) rfl ?_
          refine GoR.op rfl rfl (ld3 rfl f5 rfl) rfl ?_
          refine GoR.op rfl rfl (aOp_leq rfl rfl (r := true) (decide_eq_true (by omega))) rfl ?_
          refine GoR.op rfl rfl rfl rfl ?_
          refine GoR.op rfl rfl (fa30_0 rfl) rfl ?_
          refine GoR.op rfl rfl (ld3 rfl f5 rfl) rfl ?_
          refine GoR.op rfl rfl (fa30_1 rfl) rfl ?_
          refine GoR.op rfl rfl (ld3 rfl f5 rfl) rfl ?_
          refine GoR.op rfl rfl (aOp_leq rfl rfl (r := true) (decide_eq_true (by omega))) rfl ?_
          iterate 2 refine GoR.op rfl rfl rfl rfl ?_
          refine GoR.op rfl rfl (fa30_1 rfl) rfl ?_
          refine GoR.op rfl rfl (ld3 rfl f5 rfl) rfl ?_
          refine GoR.op rfl rfl rfl rfl ?_
          refine GoR.op rfl rfl (aOp_leq rfl rfl (r := true) (decide_eq_true (by omega))) rfl ?_
          iterate 2 refine GoR.op rfl rfl rfl rfl ?_
          refine GoR.op rfl rfl (fa30_1 rfl) rfl ?_
          refine GoR.op rfl rfl (ld3 rfl f5 rfl) rfl ?_
          refine GoR.op rfl rfl (fa30_0 rfl) rfl ?_
          refine GoR.op rfl rfl (ld3 rfl f5 rfl) rfl ?_
          refine GoR.op rfl rfl (aOp_sub rfl rfl (by constructor <;> omega) rfl) rfl ?_
          refine GoR.op rfl rfl rfl rfl ?_
          refine GoR.op rfl rfl (aOp_leq rfl rfl (r := true) (decide_eq_true (by omega))) rfl ?_
          iterate 2 refine GoR.op rfl rfl rfl rfl ?_
          refine GoR.end ?_
          exact Go.ret noJ_ok (ret_end (aResult_of Try.func58 rfl rfl) ⟨rfl, e0⟩)
        · have : r = false := by rw [← hr]; simp; omega
          subst this
          refine Runs.intro aFunc58 rfl rfl rfl rfl fun rest => ?_
          refine Go.seq noJ_ok ?_
          refine Go.region noJ_ok rfl ?_
          refine GoR.box rfl rfl rfl rfl rfl rfl fun h5 x5 f5 => ?_
          have e0 := x5
          have := f5.1
          refine GoR.op rfl rfl rfl rfl ?_
          refine GoR.end ?_
          refine Go.seq noJ_ok ?_
          refine Go.region noJ_ok rfl ?_
          refine GoR.op rfl rfl (fa30_0 rfl) rfl ?_
          refine GoR.op rfl rfl (ld3 rfl f5 rfl) rfl ?_
          refine GoR.op rfl rfl (aOp_leq rfl rfl (r := true) (decide_eq_true (by omega))) rfl ?_
          refine GoR.op rfl rfl rfl rfl ?_
          refine GoR.op rfl rfl (fa30_0 rfl) rfl ?_
          refine GoR.op rfl rfl (ld3 rfl f5 rfl) rfl ?_
          refine GoR.op rfl rfl (fa30_1 rfl) rfl ?_
          refine GoR.op rfl rfl (ld3 rfl f5 rfl) rfl ?_
          refine GoR.op rfl rfl (aOp_leq rfl rfl (r := true) (decide_eq_true (by omega))) rfl ?_
          iterate 2 refine GoR.op rfl rfl rfl rfl ?_
          refine GoR.op rfl rfl (fa30_1 rfl) rfl ?_
          refine GoR.op rfl rfl (ld3 rfl f5 rfl) rfl ?_
          refine GoR.op rfl rfl rfl rfl ?_
          refine GoR.op rfl rfl (aOp_leq rfl rfl (r := true) (decide_eq_true (by omega))) rfl ?_
          iterate 2 refine GoR.op rfl rfl rfl rfl ?_
          refine GoR.op rfl rfl (fa30_1 rfl) rfl ?_
          refine GoR.op rfl rfl (ld3 rfl f5 rfl) rfl ?_
          refine GoR.op rfl rfl (fa30_0 rfl) rfl ?_
          refine GoR.op rfl rfl (ld3 rfl f5 rfl) rfl ?_
          refine GoR.op rfl rfl (aOp_sub rfl rfl (by constructor <;> omega) rfl) rfl ?_
          refine GoR.op rfl rfl rfl rfl ?_
          refine GoR.op rfl rfl (aOp_leq rfl rfl (r := false) (decide_eq_false (by omega))) rfl ?_
          iterate 2 refine GoR.op rfl rfl rfl rfl ?_
          refine GoR.end ?_
          exact Go.ret noJ_ok (ret_end (aResult_of Try.func58 rfl rfl) ⟨rfl, e0⟩)
      · have : r = false := by rw [← hr]; simp; omega
        subst this
        refine Runs.intro aFunc58 rfl rfl rfl rfl fun rest => ?_
        refine Go.seq noJ_ok ?_
        refine Go.region noJ_ok rfl ?_
        refine GoR.box rfl rfl rfl rfl rfl rfl fun h4 x4 f4 => ?_
        have e0 := x4
        have := f4.1
        refine GoR.op rfl rfl rfl rfl ?_
        refine GoR.end ?_
        refine Go.seq noJ_ok ?_
        refine Go.region noJ_ok rfl ?_
        refine GoR.op rfl rfl (fa30_0 rfl) rfl ?_
        refine GoR.op rfl rfl (ld3 rfl f4 rfl) rfl ?_
        refine GoR.op rfl rfl (aOp_leq rfl rfl (r := true) (decide_eq_true (by omega))) rfl ?_
        refine GoR.op rfl rfl rfl rfl ?_
        refine GoR.op rfl rfl (fa30_0 rfl) rfl ?_
        refine GoR.op rfl rfl (ld3 rfl f4 rfl) rfl ?_
        refine GoR.op rfl rfl (fa30_1 rfl) rfl ?_
        refine GoR.op rfl rfl (ld3 rfl f4 rfl) rfl ?_
        refine GoR.op rfl rfl (aOp_leq rfl rfl (r := true) (decide_eq_true (by omega))) rfl ?_
        iterate 2 refine GoR.op rfl rfl rfl rfl ?_
        refine GoR.op rfl rfl (fa30_1 rfl) rfl ?_
        refine GoR.op rfl rfl (ld3 rfl f4 rfl) rfl ?_
        refine GoR.op rfl rfl rfl rfl ?_
        refine GoR.op rfl rfl (aOp_leq rfl rfl (r := false) (decide_eq_false (by omega))) rfl ?_
        iterate 2 refine GoR.op rfl rfl rfl rfl ?_
        iterate 7 refine GoR.skip rfl rfl rfl ?_
        iterate 2 refine GoR.op rfl rfl rfl rfl ?_
        refine GoR.end ?_
        exact Go.ret noJ_ok (ret_end (aResult_of Try.func58 rfl rfl) ⟨rfl, e0⟩)
    · have : r = false := by rw [← hr]; simp; omega
      subst this
      refine Runs.intro aFunc58 rfl rfl rfl rfl fun rest => ?_
      refine Go.seq noJ_ok ?_
      refine Go.region noJ_ok rfl ?_
      refine GoR.box rfl rfl rfl rfl rfl rfl fun h3 x3 f3 => ?_
      have e0 := x3
      have := f3.1
      refine GoR.op rfl rfl rfl rfl ?_
      refine GoR.end ?_
      refine Go.seq noJ_ok ?_
      refine Go.region noJ_ok rfl ?_
      refine GoR.op rfl rfl (fa30_0 rfl) rfl ?_
      refine GoR.op rfl rfl (ld3 rfl f3 rfl) rfl ?_
      refine GoR.op rfl rfl (aOp_leq rfl rfl (r := true) (decide_eq_true (by omega))) rfl ?_
      refine GoR.op rfl rfl rfl rfl ?_
      refine GoR.op rfl rfl (fa30_0 rfl) rfl ?_
      refine GoR.op rfl rfl (ld3 rfl f3 rfl) rfl ?_
      refine GoR.op rfl rfl (fa30_1 rfl) rfl ?_
      refine GoR.op rfl rfl (ld3 rfl f3 rfl) rfl ?_
      refine GoR.op rfl rfl (aOp_leq rfl rfl (r := false) (decide_eq_false (by omega))) rfl ?_
      iterate 2 refine GoR.op rfl rfl rfl rfl ?_
      iterate 4 refine GoR.skip rfl rfl rfl ?_
      iterate 2 refine GoR.op rfl rfl rfl rfl ?_
      iterate 7 refine GoR.skip rfl rfl rfl ?_
      iterate 2 refine GoR.op rfl rfl rfl rfl ?_
      refine GoR.end ?_
      exact Go.ret noJ_ok (ret_end (aResult_of Try.func58 rfl rfl) ⟨rfl, e0⟩)
  · have : r = false := by rw [← hr]; simp; omega
    subst this
    refine Runs.intro aFunc58 rfl rfl rfl rfl fun rest => ?_
    refine Go.seq noJ_ok ?_
    refine Go.region noJ_ok rfl ?_
    refine GoR.box rfl rfl rfl rfl rfl rfl fun h2 x2 f2 => ?_
    have e0 := x2
    have := f2.1
    refine GoR.op rfl rfl rfl rfl ?_
    refine GoR.end ?_
    refine Go.seq noJ_ok ?_
    refine Go.region noJ_ok rfl ?_
    refine GoR.op rfl rfl (fa30_0 rfl) rfl ?_
    refine GoR.op rfl rfl (ld3 rfl f2 rfl) rfl ?_
    refine GoR.op rfl rfl (aOp_leq rfl rfl (r := false) (decide_eq_false (by omega))) rfl ?_
    refine GoR.op rfl rfl rfl rfl ?_
    iterate 5 refine GoR.skip rfl rfl rfl ?_
    iterate 2 refine GoR.op rfl rfl rfl rfl ?_
    iterate 4 refine GoR.skip rfl rfl rfl ?_
    iterate 2 refine GoR.op rfl rfl rfl rfl ?_
    iterate 7 refine GoR.skip rfl rfl rfl ?_
    iterate 2 refine GoR.op rfl rfl rfl rfl ?_
    refine GoR.end ?_
    exact Go.ret noJ_ok (ret_end (aResult_of Try.func58 rfl rfl) ⟨rfl, e0⟩)
theorem heap59_ok {F : FieldV} (hsl rsl lsl : AVal) (h1 : lenA hsl = some F.hs.length) (hn : F.hs.length ≤ 100) (n : Int) {r : Bool} (hr : decide (0 ≤ n ∧ n < F.hs.length) = r) (h : AH) : Runs Try.prog 59 [.agg (F.cells hsl rsl lsl), .int .i64 n] h (fun en h' => en = .ret (.bool r) ∧ Ext h h') := by
  have hr' : decide (0 ≤ n ∧ n ≤ (F.hs.length : Int) - 1) = r := by
    rw [← hr]
    exact decide_eq_decide.2 ⟨fun ⟨a, b⟩ => ⟨a, by omega⟩, fun ⟨a, b⟩ => ⟨a, by omega⟩⟩
  unfold FieldV.cells fieldC
  refine Runs.intro aFunc59 rfl rfl rfl rfl fun rest => ?_
  refine Go.seq noJ_ok ?_
  refine Go.region noJ_ok rfl ?_
  refine GoR.box rfl rfl rfl rfl rfl rfl fun h2 x2 f2 => ?_
  have e0 := x2
  have := f2.1
  refine GoR.op rfl rfl rfl rfl ?_
  refine GoR.end ?_
  refine Go.seq noJ_ok ?_
  refine Go.region noJ_ok rfl ?_
  refine GoR.op rfl rfl rfl rfl ?_
  refine GoR.op rfl rfl (fa27_0 rfl) rfl ?_
  refine GoR.op rfl rfl (ld22 rfl f2 rfl) rfl ?_
  refine GoR.op rfl rfl (aOp_lenSlice Try.underlying22 rfl h1) rfl ?_
  refine GoR.op rfl rfl (aOp_sub rfl rfl (by constructor <;> omega) rfl) rfl ?_
  refine GoR.call rfl rfl (aOp_callFunc aFunc57 rfl) (in57_ok n 0 (F.hs.length - 1) hr' _) ?_ (by rintro _ _ ⟨q, _⟩; cases q)
  rintro v3 h3 ⟨q, x3⟩
  cases q
  refine ⟨_, rfl, ?_⟩
  replace f2 := f2.ext x3
  replace e0 := e0.trans x3
  refine GoR.op rfl rfl rfl rfl ?_
  refine GoR.end ?_
  exact Go.ret noJ_ok (ret_end (aResult_of Try.func59 rfl rfl) ⟨rfl, e0⟩)
theorem day60_ok {F : FieldV} (hsl rsl lsl : AVal) (h1 : lenA rsl = some F.rs.length) (hn : F.rs.length ≤ 100) (n : Int) {r : Bool} (hr : decide (0 ≤ n ∧ n < F.rs.length) = r) (h : AH) : Runs Try.prog 60 [.agg (F.cells hsl rsl lsl), .int .i64 n] h (fun en h' => en = .ret (.bool r) ∧ Ext h h') := by
  have hr' : decide (0 ≤ n ∧ n ≤ (F.rs.length : Int) - 1) = r := by
    rw [← hr]
    exact decide_eq_decide.2 ⟨fun ⟨a, b⟩ => ⟨a, by omega⟩, fun ⟨a, b⟩ => ⟨a, by omega⟩⟩
  unfold FieldV.cells fieldC
  refine Runs.intro aFunc60 rfl rfl rfl rfl fun rest => ?_
  refine Go.seq noJ_ok ?_
  refine Go.region noJ_ok rfl ?_
  refine GoR.box rfl rfl rfl rfl rfl rfl fun h2 x2 f2 => ?_
  have e0 := x2
  have := f2.1
  refine GoR.op rfl rfl rfl rfl ?_
  refine GoR.end ?_
  refine Go.seq noJ_ok ?_
  refine Go.region noJ_ok rfl ?_
  refine GoR.op rfl rfl rfl rfl ?_
  refine GoR.op rfl rfl (fa27_1 rfl) rfl ?_
  refine GoR.op rfl rfl (ld23 rfl f2 rfl) rfl ?_
  refine GoR.op rfl rfl (aOp_lenSlice Try.underlying23 rfl h1) rfl ?_
  refine GoR.op rfl rfl (aOp_sub rfl rfl (by constructor <;> omega) rfl) rfl ?_
  refine GoR.call rfl rfl (aOp_callFunc aFunc57 rfl) (in57_ok n 0 (F.rs.length - 1) hr' _) ?_ (by rintro _ _ ⟨q, _⟩; cases q)
  rintro v3 h3 ⟨q, x3⟩
  cases q
  refine ⟨_, rfl, ?_⟩
  replace f2 := f2.ext x3
  replace e0 := e0.trans x3
  refine GoR.op rfl rfl rfl rfl ?_
  refine GoR.end ?_
  exact Go.ret noJ_ok (ret_end (aResult_of Try.func60 rfl rfl) ⟨rfl, e0⟩)

theorem take_all {α : Type} {P : α → Prop} {l : List α} {i : Nat} {x : α} (hx : l[i]? = some x) (h : ∀ y, y ∈ l.take i → P y) (hp : P x) : ∀ y, y ∈ l.take (i + 1) → P y := by
  intro y hy
  rw [List.take_add_one, hx, Option.toList_some] at hy
  rcases List.mem_append.1 hy with hy | hy
  · exact h y hy
  · rw [List.mem_singleton] at hy
    rw [hy]
    exact hp

def HOk (x : HTurf) : Prop := 0 ≤ x.p ∧ x.p ≤ 2 ∧ 0 ≤ x.lo ∧ x.lo ≤ x.hi ∧ x.hi ≤ 100 ∧ x.hi - x.lo ≤ 5
def ROk (r : Int × Int) : Prop := 0 ≤ r.1 ∧ r.1 ≤ r.2 ∧ r.2 ≤ 10 ∧ r.2 - r.1 ≤ 3
def LOk (F : FieldV) (l : LookV) : Prop := 0 ≤ l.heap ∧ l.heap < F.hs.length ∧ 0 ≤ l.day ∧ l.day < F.rs.length ∧ 0 ≤ l.lo ∧ l.lo ≤ l.hi ∧ l.hi ≤ 100

theorem heaps23_ok (F : FieldV) (hsl rsl lsl : AVal) (h : AH) (A : FieldAt h F hsl rsl lsl) (hb1 : F.hs.length ≤ 40) (hb2 : F.rs.length ≤ 40) (hb3 : F.looks.length ≤ 40) :
    Runs Try.prog 23 [.agg (F.cells hsl rsl lsl)] h (fun en h' => ∃ r, en = .ret (.bool r) ∧ (r = true → F.Ok) ∧ Ext h h') := by
  have hl1 := A.hs.len
  have hl2 := A.rs.len
  have hl3 := A.ls.len
  rw [List.length_map] at hl1 hl2 hl3
  have h59 := fun n r hr h => heap59_ok (F := F) hsl rsl lsl hl1 (by omega) n (r := r) hr h
  have h60 := fun n r hr h => day60_ok (F := F) hsl rsl lsl hl2 (by omega) n (r := r) hr h
  unfold FieldV.cells fieldC at h59 h60 ⊢
  cases r1 : decide ((1 : Int) ≤ F.hs.length ∧ (F.hs.length : Int) ≤ 3) with
  | false =>
    refine Runs.intro aFunc23 rfl rfl rfl rfl fun rest => ?_
    refine Go.seq noJ_ok ?_
    refine Go.region noJ_ok rfl ?_
    refine GoR.box rfl rfl rfl rfl rfl rfl fun h61 x61 f61 => ?_
    have e0 := x61
    have := f61.1
    refine GoR.op rfl rfl rfl rfl ?_
    refine GoR.end ?_
    iterate 2 refine Go.seq noJ_ok ?_
    refine Go.region noJ_ok rfl ?_
    refine GoR.op rfl rfl (fa27_0 rfl) rfl ?_
    refine GoR.op rfl rfl (ld22 rfl f61 rfl) rfl ?_
    refine GoR.op rfl rfl (aOp_lenSlice Try.underlying22 rfl hl1) rfl ?_
    refine GoR.call rfl rfl (aOp_callFunc aFunc57 rfl) (in57_ok F.hs.length 1 3 r1 _) ?_ (by rintro _ _ ⟨q, _⟩; cases q)
    rintro v62 h62 ⟨q, x62⟩
    cases q
    refine ⟨_, rfl, ?_⟩
    replace f61 := f61.ext x62
    replace e0 := e0.trans x62
    iterate 2 refine GoR.op rfl rfl rfl rfl ?_
    iterate 5 refine GoR.skip rfl rfl rfl ?_
    iterate 2 refine GoR.op rfl rfl rfl rfl ?_
    iterate 4 refine GoR.skip rfl rfl rfl ?_
    iterate 2 refine GoR.op rfl rfl rfl rfl ?_
    iterate 4 refine GoR.skip rfl rfl rfl ?_
    refine GoR.op rfl rfl rfl rfl ?_
    refine GoR.end ?_
    refine Go.cond noJ_ok (b := true) rfl ?_
    refine Go.seq noJ_ok ?_
    refine Go.region noJ_ok rfl ?_
    refine GoR.op rfl rfl rfl rfl ?_
    refine GoR.end ?_
    exact Go.ret noJ_ok (ret_end (aResult_of Try.func23 rfl rfl) ⟨false, rfl, (fun q => by cases q), e0⟩)
  | true =>
  cases r2 : decide ((1 : Int) ≤ F.rs.length ∧ (F.rs.length : Int) ≤ 6) with
  | false =>
    refine Runs.intro aFunc23 rfl rfl rfl rfl fun rest => ?_
    refine Go.seq noJ_ok ?_
    refine Go.region noJ_ok rfl ?_
    refine GoR.box rfl rfl rfl rfl rfl rfl fun h61 x61 f61 => ?_
    have e0 := x61
    have := f61.1
    refine GoR.op rfl rfl rfl rfl ?_
    refine GoR.end ?_
    iterate 2 refine Go.seq noJ_ok ?_
    refine Go.region noJ_ok rfl ?_
    refine GoR.op rfl rfl (fa27_0 rfl) rfl ?_
    refine GoR.op rfl rfl (ld22 rfl f61 rfl) rfl ?_
    refine GoR.op rfl rfl (aOp_lenSlice Try.underlying22 rfl hl1) rfl ?_
    refine GoR.call rfl rfl (aOp_callFunc aFunc57 rfl) (in57_ok F.hs.length 1 3 r1 _) ?_ (by rintro _ _ ⟨q, _⟩; cases q)
    rintro v62 h62 ⟨q, x62⟩
    cases q
    refine ⟨_, rfl, ?_⟩
    replace f61 := f61.ext x62
    replace e0 := e0.trans x62
    iterate 2 refine GoR.op rfl rfl rfl rfl ?_
    refine GoR.op rfl rfl (fa27_1 rfl) rfl ?_
    refine GoR.op rfl rfl (ld23 rfl f61 rfl) rfl ?_
    refine GoR.op rfl rfl (aOp_lenSlice Try.underlying23 rfl hl2) rfl ?_
    refine GoR.call rfl rfl (aOp_callFunc aFunc57 rfl) (in57_ok F.rs.length 1 6 r2 _) ?_ (by rintro _ _ ⟨q, _⟩; cases q)
    rintro v63 h63 ⟨q, x63⟩
    cases q
    refine ⟨_, rfl, ?_⟩
    replace f61 := f61.ext x63
    replace e0 := e0.trans x63
    iterate 3 refine GoR.op rfl rfl rfl rfl ?_
    iterate 4 refine GoR.skip rfl rfl rfl ?_
    iterate 2 refine GoR.op rfl rfl rfl rfl ?_
    iterate 4 refine GoR.skip rfl rfl rfl ?_
    refine GoR.op rfl rfl rfl rfl ?_
    refine GoR.end ?_
    refine Go.cond noJ_ok (b := true) rfl ?_
    refine Go.seq noJ_ok ?_
    refine Go.region noJ_ok rfl ?_
    refine GoR.op rfl rfl rfl rfl ?_
    refine GoR.end ?_
    exact Go.ret noJ_ok (ret_end (aResult_of Try.func23 rfl rfl) ⟨false, rfl, (fun q => by cases q), e0⟩)
  | true =>
  cases r3 : decide (0 ≤ F.lim ∧ F.lim ≤ 100) with
  | false =>
    refine Runs.intro aFunc23 rfl rfl rfl rfl fun rest => ?_
    refine Go.seq noJ_ok ?_
    refine Go.region noJ_ok rfl ?_
    refine GoR.box rfl rfl rfl rfl rfl rfl fun h61 x61 f61 => ?_
    have e0 := x61
    have := f61.1
    refine GoR.op rfl rfl rfl rfl ?_
    refine GoR.end ?_
    iterate 2 refine Go.seq noJ_ok ?_
    refine Go.region noJ_ok rfl ?_
    refine GoR.op rfl rfl (fa27_0 rfl) rfl ?_
    refine GoR.op rfl rfl (ld22 rfl f61 rfl) rfl ?_
    refine GoR.op rfl rfl (aOp_lenSlice Try.underlying22 rfl hl1) rfl ?_
    refine GoR.call rfl rfl (aOp_callFunc aFunc57 rfl) (in57_ok F.hs.length 1 3 r1 _) ?_ (by rintro _ _ ⟨q, _⟩; cases q)
    rintro v62 h62 ⟨q, x62⟩
    cases q
    refine ⟨_, rfl, ?_⟩
    replace f61 := f61.ext x62
    replace e0 := e0.trans x62
    iterate 2 refine GoR.op rfl rfl rfl rfl ?_
    refine GoR.op rfl rfl (fa27_1 rfl) rfl ?_
    refine GoR.op rfl rfl (ld23 rfl f61 rfl) rfl ?_
    refine GoR.op rfl rfl (aOp_lenSlice Try.underlying23 rfl hl2) rfl ?_
    refine GoR.call rfl rfl (aOp_callFunc aFunc57 rfl) (in57_ok F.rs.length 1 6 r2 _) ?_ (by rintro _ _ ⟨q, _⟩; cases q)
    rintro v63 h63 ⟨q, x63⟩
    cases q
    refine ⟨_, rfl, ?_⟩
    replace f61 := f61.ext x63
    replace e0 := e0.trans x63
    iterate 3 refine GoR.op rfl rfl rfl rfl ?_
    refine GoR.op rfl rfl (fa27_3 rfl) rfl ?_
    refine GoR.op rfl rfl (ld3 rfl f61 rfl) rfl ?_
    refine GoR.call rfl rfl (aOp_callFunc aFunc57 rfl) (in57_ok F.lim 0 100 r3 _) ?_ (by rintro _ _ ⟨q, _⟩; cases q)
    rintro v64 h64 ⟨q, x64⟩
    cases q
    refine ⟨_, rfl, ?_⟩
    replace f61 := f61.ext x64
    replace e0 := e0.trans x64
    iterate 3 refine GoR.op rfl rfl rfl rfl ?_
    iterate 4 refine GoR.skip rfl rfl rfl ?_
    refine GoR.op rfl rfl rfl rfl ?_
    refine GoR.end ?_
    refine Go.cond noJ_ok (b := true) rfl ?_
    refine Go.seq noJ_ok ?_
    refine Go.region noJ_ok rfl ?_
    refine GoR.op rfl rfl rfl rfl ?_
    refine GoR.end ?_
    exact Go.ret noJ_ok (ret_end (aResult_of Try.func23 rfl rfl) ⟨false, rfl, (fun q => by cases q), e0⟩)
  | true =>
  by_cases r4 : F.looks.length ≤ 5
  · refine Runs.intro aFunc23 rfl rfl rfl rfl fun rest => ?_
    refine Go.seq noJ_ok ?_
    refine Go.region noJ_ok rfl ?_
    refine GoR.box rfl rfl rfl rfl rfl rfl fun h61 x61 f61 => ?_
    have e0 := x61
    have := f61.1
    refine GoR.op rfl rfl rfl rfl ?_
    refine GoR.end ?_
    iterate 2 refine Go.seq noJ_ok ?_
    refine Go.region noJ_ok rfl ?_
    refine GoR.op rfl rfl (fa27_0 rfl) rfl ?_
    refine GoR.op rfl rfl (ld22 rfl f61 rfl) rfl ?_
    refine GoR.op rfl rfl (aOp_lenSlice Try.underlying22 rfl hl1) rfl ?_
    refine GoR.call rfl rfl (aOp_callFunc aFunc57 rfl) (in57_ok F.hs.length 1 3 r1 _) ?_ (by rintro _ _ ⟨q, _⟩; cases q)
    rintro v62 h62 ⟨q, x62⟩
    cases q
    refine ⟨_, rfl, ?_⟩
    replace f61 := f61.ext x62
    replace e0 := e0.trans x62
    iterate 2 refine GoR.op rfl rfl rfl rfl ?_
    refine GoR.op rfl rfl (fa27_1 rfl) rfl ?_
    refine GoR.op rfl rfl (ld23 rfl f61 rfl) rfl ?_
    refine GoR.op rfl rfl (aOp_lenSlice Try.underlying23 rfl hl2) rfl ?_
    refine GoR.call rfl rfl (aOp_callFunc aFunc57 rfl) (in57_ok F.rs.length 1 6 r2 _) ?_ (by rintro _ _ ⟨q, _⟩; cases q)
    rintro v63 h63 ⟨q, x63⟩
    cases q
    refine ⟨_, rfl, ?_⟩
    replace f61 := f61.ext x63
    replace e0 := e0.trans x63
    iterate 3 refine GoR.op rfl rfl rfl rfl ?_
    refine GoR.op rfl rfl (fa27_3 rfl) rfl ?_
    refine GoR.op rfl rfl (ld3 rfl f61 rfl) rfl ?_
    refine GoR.call rfl rfl (aOp_callFunc aFunc57 rfl) (in57_ok F.lim 0 100 r3 _) ?_ (by rintro _ _ ⟨q, _⟩; cases q)
    rintro v64 h64 ⟨q, x64⟩
    cases q
    refine ⟨_, rfl, ?_⟩
    replace f61 := f61.ext x64
    replace e0 := e0.trans x64
    iterate 3 refine GoR.op rfl rfl rfl rfl ?_
    refine GoR.op rfl rfl (fa27_4 rfl) rfl ?_
    refine GoR.op rfl rfl (ld25 rfl f61 rfl) rfl ?_
    refine GoR.op rfl rfl (aOp_lenSlice Try.underlying25 rfl hl3) rfl ?_
    refine GoR.op rfl rfl (aOp_gtr rfl rfl (r := false) (decide_eq_false (by omega))) rfl ?_
    refine GoR.op rfl rfl rfl rfl ?_
    refine GoR.end ?_
    refine Go.cond noJ_ok (b := false) rfl ?_
    refine Go.code noJ_ok ?_
    iterate 2 refine Go.seq noJ_ok ?_
    refine Go.region noJ_ok rfl ?_
    refine GoR.op rfl rfl rfl rfl ?_
    refine GoR.end ?_
    refine Go.block noJ_ok ?_
    simp only [decide_eq_true_eq] at r1 r2 r3
    refine Go.loopKeep (fun i : Nat => [(1, .ptr h.next 0), (3, .int .i64 (i : Nat))]) (fun m i h' => m + i = F.hs.length ∧ Ext h h' ∧ Has h' h.next (.cells .plain [hsl, rsl, .int .i64 F.a, .int .i64 F.b, .int .i64 F.c, .int .i64 F.lim, lsl] 27) ∧ ∀ x, x ∈ F.hs.take i → HOk x) (n := F.hs.length) 0 ⟨rfl, rfl, trivial⟩ ⟨rfl, e0, by assumption, (by simp)⟩ ?_
    clear e0
    rintro m i h4 ⟨hm, e0, f0, hin⟩ again
    by_cases hi : i < F.hs.length
    · obtain ⟨x, hx⟩ : ∃ x, F.hs[i]? = some x := ⟨F.hs[i], by simp [hi]⟩
      obtain ⟨bq, off, q1, q2⟩ := (A.hs.ext e0).at (i := i) (l := HTurf.cells x) (by rw [List.getElem?_map, hx]; rfl)
      rw [List.length_map] at q1
      have hstep := take_all (P := HOk) hx hin
      obtain ⟨xp, xlo, xhi⟩ := x
      unfold HTurf.cells at q2
      dsimp only at q2
      unfold HOk at hstep
      dsimp only at hstep
      cases s1 : decide (0 ≤ xp ∧ xp ≤ 2) with
      | false =>
        iterate 2 refine Go.seq noJ_ok ?_
        refine Go.region noJ_ok rfl ?_
        refine GoR.op rfl rfl rfl rfl ?_
        refine GoR.op rfl rfl (fa27_0 rfl) rfl ?_
        refine GoR.op rfl rfl (ld22 rfl f0 rfl) rfl ?_
        refine GoR.op rfl rfl (aOp_lenSlice Try.underlying22 rfl hl1) rfl ?_
        refine GoR.op rfl rfl (aOp_lss rfl rfl (r := true) (decide_eq_true (by omega))) rfl ?_
        refine GoR.end ?_
        refine Go.cond noJ_ok (b := true) rfl ?_
        refine Go.code noJ_ok ?_
        refine Go.seq noJ_ok ?_
        refine Go.block noJ_ok ?_
        refine Go.seq noJ_ok ?_
        refine Go.region noJ_ok rfl ?_
        refine GoR.op rfl rfl (fa27_0 rfl) rfl ?_
        refine GoR.op rfl rfl (ld22 rfl f0 rfl) rfl ?_
        refine GoR.op rfl rfl rfl rfl ?_
        refine GoR.op rfl rfl (aOp_indexAddr Try.underlying22 sz63 rfl q1 rfl (Nat.ble_eq_true_of_le hi)) rfl ?_
        refine GoR.op rfl rfl (fa63_0 rfl) rfl ?_
        refine GoR.op rfl rfl (aOp_loadE1 (k := 0) ag3 rfl q2 rfl) rfl ?_
        refine GoR.call rfl rfl (aOp_callFunc aFunc57 rfl) (in57_ok xp 0 2 s1 _) ?_ (by rintro _ _ ⟨q, _⟩; cases q)
        rintro v65 h65 ⟨q, x65⟩
        cases q
        refine ⟨_, rfl, ?_⟩
        replace f0 := f0.ext x65
        replace e0 := e0.trans x65
        iterate 2 refine GoR.op rfl rfl rfl rfl ?_
        iterate 8 refine GoR.skip rfl rfl rfl ?_
        refine GoR.op rfl rfl rfl rfl ?_
        refine GoR.end ?_
        refine Go.cond noJ_ok (b := true) rfl ?_
        refine Go.seq noJ_ok ?_
        refine Go.region noJ_ok rfl ?_
        refine GoR.op rfl rfl rfl rfl ?_
        refine GoR.end ?_
        exact Go.ret noJ_ok (ret_end (aResult_of Try.func23 rfl rfl) ⟨false, rfl, (fun q => by cases q), e0⟩)
      | true =>
      have q3 : ∀ h', Ext h4 h' → Go.AbsE.loadCells h' bq (off + i * 3 + 1) 2 = some [AVal.int .i64 xlo, .int .i64 xhi] := fun h' e => loadCells_part (k := 1) (m := 2) (q2.ext e).2 (by decide)
      have e9 : Ext h4 h4 := Ext.refl _
      cases s2 : decide (0 ≤ xlo ∧ xlo ≤ xhi ∧ xhi ≤ 100 ∧ xhi - xlo ≤ 5) with
      | false =>
        iterate 2 refine Go.seq noJ_ok ?_
        refine Go.region noJ_ok rfl ?_
        refine GoR.op rfl rfl rfl rfl ?_
        refine GoR.op rfl rfl (fa27_0 rfl) rfl ?_
        refine GoR.op rfl rfl (ld22 rfl f0 rfl) rfl ?_
        refine GoR.op rfl rfl (aOp_lenSlice Try.underlying22 rfl hl1) rfl ?_
        refine GoR.op rfl rfl (aOp_lss rfl rfl (r := true) (decide_eq_true (by omega))) rfl ?_
        refine GoR.end ?_
        refine Go.cond noJ_ok (b := true) rfl ?_
        refine Go.code noJ_ok ?_
        refine Go.seq noJ_ok ?_
        refine Go.block noJ_ok ?_
        refine Go.seq noJ_ok ?_
        refine Go.region noJ_ok rfl ?_
        refine GoR.op rfl rfl (fa27_0 rfl) rfl ?_
        refine GoR.op rfl rfl (ld22 rfl f0 rfl) rfl ?_
        refine GoR.op rfl rfl rfl rfl ?_
        refine GoR.op rfl rfl (aOp_indexAddr Try.underlying22 sz63 rfl q1 rfl (Nat.ble_eq_true_of_le hi)) rfl ?_
        refine GoR.op rfl rfl (fa63_0 rfl) rfl ?_
        refine GoR.op rfl rfl (aOp_loadE1 (k := 0) ag3 rfl (q2.ext e9) rfl) rfl ?_
        refine GoR.call rfl rfl (aOp_callFunc aFunc57 rfl) (in57_ok xp 0 2 s1 _) ?_ (by rintro _ _ ⟨q, _⟩; cases q)
        rintro v65 h65 ⟨q, x65⟩
        cases q
        refine ⟨_, rfl, ?_⟩
        replace f0 := f0.ext x65
        replace e0 := e0.trans x65
        replace e9 := e9.trans x65
        iterate 2 refine GoR.op rfl rfl rfl rfl ?_
        refine GoR.op rfl rfl (fa27_0 rfl) rfl ?_
        refine GoR.op rfl rfl (ld22 rfl f0 rfl) rfl ?_
        refine GoR.op rfl rfl rfl rfl ?_
        refine GoR.op rfl rfl (aOp_indexAddr Try.underlying22 sz63 rfl q1 rfl (Nat.ble_eq_true_of_le hi)) rfl ?_
        refine GoR.op rfl rfl (fa63_1 rfl) rfl ?_
        refine GoR.op rfl rfl (aOp_loadE ag30 sz30 rfl ⟨Nat.lt_of_lt_of_le q2.1 e9.1, q3 _ e9⟩) rfl ?_
        refine GoR.call rfl rfl (aOp_callFunc aFunc58 rfl) (span58_ok xlo xhi 100 5 s2 (by decide) _) ?_ (by rintro _ _ ⟨q, _⟩; cases q)
        rintro v66 h66 ⟨q, x66⟩
        cases q
        refine ⟨_, rfl, ?_⟩
        replace f0 := f0.ext x66
        replace e0 := e0.trans x66
        replace e9 := e9.trans x66
        iterate 2 refine GoR.op rfl rfl rfl rfl ?_
        refine GoR.end ?_
        refine Go.cond noJ_ok (b := true) rfl ?_
        refine Go.seq noJ_ok ?_
        refine Go.region noJ_ok rfl ?_
        refine GoR.op rfl rfl rfl rfl ?_
        refine GoR.end ?_
        exact Go.ret noJ_ok (ret_end (aResult_of Try.func23 rfl rfl) ⟨false, rfl, (fun q => by cases q), e0⟩)
      | true =>
        iterate 2 refine Go.seq noJ_ok ?_
        refine Go.region noJ_ok rfl ?_
        refine GoR.op rfl rfl rfl rfl ?_
        refine GoR.op rfl rfl (fa27_0 rfl) rfl ?_
        refine GoR.op rfl rfl (ld22 rfl f0 rfl) rfl ?_
        refine GoR.op rfl rfl (aOp_lenSlice Try.underlying22 rfl hl1) rfl ?_
        refine GoR.op rfl rfl (aOp_lss rfl rfl (r := true) (decide_eq_true (by omega))) rfl ?_
        refine GoR.end ?_
        refine Go.cond noJ_ok (b := true) rfl ?_
        refine Go.code noJ_ok ?_
        refine Go.seq noJ_ok ?_
        refine Go.block noJ_ok ?_
        refine Go.seq noJ_ok ?_
        refine Go.region noJ_ok rfl ?_
        refine GoR.op rfl rfl (fa27_0 rfl) rfl ?_
        refine GoR.op rfl rfl (ld22 rfl f0 rfl) rfl ?_
        refine GoR.op rfl rfl rfl rfl ?_
        refine GoR.op rfl rfl (aOp_indexAddr Try.underlying22 sz63 rfl q1 rfl (Nat.ble_eq_true_of_le hi)) rfl ?_
        refine GoR.op rfl rfl (fa63_0 rfl) rfl ?_
        refine GoR.op rfl rfl (aOp_loadE1 (k := 0) ag3 rfl (q2.ext e9) rfl) rfl ?_
        refine GoR.call rfl rfl (aOp_callFunc aFunc57 rfl) (in57_ok xp 0 2 s1 _) ?_ (by rintro _ _ ⟨q, _⟩; cases q)
        rintro v65 h65 ⟨q, x65⟩
        cases q
        refine ⟨_, rfl, ?_⟩
        replace f0 := f0.ext x65
        replace e0 := e0.trans x65
        replace e9 := e9.trans x65
        iterate 2 refine GoR.op rfl rfl rfl rfl ?_
        refine GoR.op rfl rfl (fa27_0 rfl) rfl ?_
        refine GoR.op rfl rfl (ld22 rfl f0 rfl) rfl ?_
        refine GoR.op rfl rfl rfl rfl ?_
        refine GoR.op rfl rfl (aOp_indexAddr Try.underlying22 sz63 rfl q1 rfl (Nat.ble_eq_true_of_le hi)) rfl ?_
        refine GoR.op rfl rfl (fa63_1 rfl) rfl ?_
        refine GoR.op rfl rfl (aOp_loadE ag30 sz30 rfl ⟨Nat.lt_of_lt_of_le q2.1 e9.1, q3 _ e9⟩) rfl ?_
        refine GoR.call rfl rfl (aOp_callFunc aFunc58 rfl) (span58_ok xlo xhi 100 5 s2 (by decide) _) ?_ (by rintro _ _ ⟨q, _⟩; cases q)
        rintro v66 h66 ⟨q, x66⟩
        cases q
        refine ⟨_, rfl, ?_⟩
        replace f0 := f0.ext x66
        replace e0 := e0.trans x66
        replace e9 := e9.trans x66
        iterate 2 refine GoR.op rfl rfl rfl rfl ?_
        refine GoR.end ?_
        refine Go.cond noJ_ok (b := false) rfl ?_
        refine Go.code noJ_ok ?_
        refine Go.inBlock noJ_ok ?_
        refine Go.region noJ_ok rfl ?_
        refine GoR.op rfl rfl rfl rfl ?_
        refine GoR.op rfl rfl (aOp_add rfl rfl (by constructor <;> omega) rfl) rfl ?_
        refine GoR.op rfl rfl rfl rfl ?_
        refine GoR.end ?_
        simp only [decide_eq_true_eq] at s1 s2
        exact again (m - 1) (i + 1) _ _ (by omega) ⟨rfl, rfl, trivial⟩ ⟨by omega, e0, f0, hstep ⟨s1.1, s1.2, s2.1, s2.2.1, s2.2.2.1, s2.2.2.2⟩⟩
    have hH : ∀ x, x ∈ F.hs → HOk x := by
      rw [List.take_of_length_le (by omega)] at hin
      exact hin
    clear again hin
    iterate 2 refine Go.seq noJ_ok ?_
    refine Go.region noJ_ok rfl ?_
    refine GoR.op rfl rfl rfl rfl ?_
    refine GoR.op rfl rfl (fa27_0 rfl) rfl ?_
    refine GoR.op rfl rfl (ld22 rfl f0 rfl) rfl ?_
    refine GoR.op rfl rfl (aOp_lenSlice Try.underlying22 rfl hl1) rfl ?_
    refine GoR.op rfl rfl (aOp_lss rfl rfl (r := false) (decide_eq_false (by omega))) rfl ?_
    refine GoR.end ?_
    refine Go.cond noJ_ok (b := false) rfl ?_
    refine Go.code noJ_ok ?_
    iterate 2 refine Go.seq noJ_ok ?_
    refine Go.region noJ_ok rfl ?_
    refine GoR.op rfl rfl rfl rfl ?_
    refine GoR.end ?_
    refine Go.block noJ_ok ?_
    refine Go.loopKeep (fun i : Nat => [(1, .ptr h.next 0), (4, .int .i64 (i : Nat))]) (fun m i h' => m + i = F.rs.length ∧ Ext h h' ∧ Has h' h.next (.cells .plain [hsl, rsl, .int .i64 F.a, .int .i64 F.b, .int .i64 F.c, .int .i64 F.lim, lsl] 27) ∧ ∀ x, x ∈ F.rs.take i → ROk x) (n := F.rs.length) 0 ⟨rfl, rfl, trivial⟩ ⟨rfl, e0, by assumption, (by simp)⟩ ?_
    clear e0 f0
    rintro m i h4 ⟨hm, e0, f0, hin⟩ again
    by_cases hi : i < F.rs.length
    · obtain ⟨x, hx⟩ : ∃ x, F.rs[i]? = some x := ⟨F.rs[i], by simp [hi]⟩
      obtain ⟨bq, off, q1, q2⟩ := (A.rs.ext e0).at (i := i) (l := spC x) (by rw [List.getElem?_map, hx]; rfl)
      rw [List.length_map] at q1
      have hstep := take_all (P := ROk) hx hin
      obtain ⟨xlo, xhi⟩ := x
      unfold spC at q2
      dsimp only at q2
      unfold ROk at hstep
      dsimp only at hstep
      cases s2 : decide (0 ≤ xlo ∧ xlo ≤ xhi ∧ xhi ≤ 10 ∧ xhi - xlo ≤ 3) with
      | false =>
        iterate 2 refine Go.seq noJ_ok ?_
        refine Go.region noJ_ok rfl ?_
        refine GoR.op rfl rfl rfl rfl ?_
        refine GoR.op rfl rfl (fa27_1 rfl) rfl ?_
        refine GoR.op rfl rfl (ld23 rfl f0 rfl) rfl ?_
        refine GoR.op rfl rfl (aOp_lenSlice Try.underlying23 rfl hl2) rfl ?_
        refine GoR.op rfl rfl (aOp_lss rfl rfl (r := true) (decide_eq_true (by omega))) rfl ?_
        refine GoR.end ?_
        refine Go.cond noJ_ok (b := true) rfl ?_
        refine Go.code noJ_ok ?_
        refine Go.seq noJ_ok ?_
        refine Go.block noJ_ok ?_
        refine Go.seq noJ_ok ?_
        refine Go.region noJ_ok rfl ?_
        refine GoR.op rfl rfl (fa27_1 rfl) rfl ?_
        refine GoR.op rfl rfl (ld23 rfl f0 rfl) rfl ?_
        refine GoR.op rfl rfl rfl rfl ?_
        refine GoR.op rfl rfl (aOp_indexAddr Try.underlying23 sz30 rfl q1 rfl (Nat.ble_eq_true_of_le hi)) rfl ?_
        refine GoR.op rfl rfl (aOp_loadE ag30 sz30 rfl q2) rfl ?_
        refine GoR.call rfl rfl (aOp_callFunc aFunc58 rfl) (span58_ok xlo xhi 10 3 s2 (by decide) _) ?_ (by rintro _ _ ⟨q, _⟩; cases q)
        rintro v65 h65 ⟨q, x65⟩
        cases q
        refine ⟨_, rfl, ?_⟩
        replace f0 := f0.ext x65
        replace e0 := e0.trans x65
        refine GoR.op rfl rfl rfl rfl ?_
        refine GoR.end ?_
        refine Go.cond noJ_ok (b := true) rfl ?_
        refine Go.seq noJ_ok ?_
        refine Go.region noJ_ok rfl ?_
        refine GoR.op rfl rfl rfl rfl ?_
        refine GoR.end ?_
        exact Go.ret noJ_ok (ret_end (aResult_of Try.func23 rfl rfl) ⟨false, rfl, (fun q => by cases q), e0⟩)
      | true =>
        iterate 2 refine Go.seq noJ_ok ?_
        refine Go.region noJ_ok rfl ?_
        refine GoR.op rfl rfl rfl rfl ?_
        refine GoR.op rfl rfl (fa27_1 rfl) rfl ?_
        refine GoR.op rfl rfl (ld23 rfl f0 rfl) rfl ?_
        refine GoR.op rfl rfl (aOp_lenSlice Try.underlying23 rfl hl2) rfl ?_
        refine GoR.op rfl rfl (aOp_lss rfl rfl (r := true) (decide_eq_true (by omega))) rfl ?_
        refine GoR.end ?_
        refine Go.cond noJ_ok (b := true) rfl ?_
        refine Go.code noJ_ok ?_
        refine Go.seq noJ_ok ?_
        refine Go.block noJ_ok ?_
        refine Go.seq noJ_ok ?_
        refine Go.region noJ_ok rfl ?_
        refine GoR.op rfl rfl (fa27_1 rfl) rfl ?_
        refine GoR.op rfl rfl (ld23 rfl f0 rfl) rfl ?_
        refine GoR.op rfl rfl rfl rfl ?_
        refine GoR.op rfl rfl (aOp_indexAddr Try.underlying23 sz30 rfl q1 rfl (Nat.ble_eq_true_of_le hi)) rfl ?_
        refine GoR.op rfl rfl (aOp_loadE ag30 sz30 rfl q2) rfl ?_
        refine GoR.call rfl rfl (aOp_callFunc aFunc58 rfl) (span58_ok xlo xhi 10 3 s2 (by decide) _) ?_ (by rintro _ _ ⟨q, _⟩; cases q)
        rintro v65 h65 ⟨q, x65⟩
        cases q
        refine ⟨_, rfl, ?_⟩
        replace f0 := f0.ext x65
        replace e0 := e0.trans x65
        refine GoR.op rfl rfl rfl rfl ?_
        refine GoR.end ?_
        refine Go.cond noJ_ok (b := false) rfl ?_
        refine Go.code noJ_ok ?_
        refine Go.inBlock noJ_ok ?_
        refine Go.region noJ_ok rfl ?_
        refine GoR.op rfl rfl rfl rfl ?_
        refine GoR.op rfl rfl (aOp_add rfl rfl (by constructor <;> omega) rfl) rfl ?_
        refine GoR.op rfl rfl rfl rfl ?_
        refine GoR.end ?_
        simp only [decide_eq_true_eq] at s2
        exact again (m - 1) (i + 1) _ _ (by omega) ⟨rfl, rfl, trivial⟩ ⟨by omega, e0, f0, hstep s2⟩
    have hRr : ∀ x, x ∈ F.rs → ROk x := by
      rw [List.take_of_length_le (by omega)] at hin
      exact hin
    clear again hin
    iterate 2 refine Go.seq noJ_ok ?_
    refine Go.region noJ_ok rfl ?_
    refine GoR.op rfl rfl rfl rfl ?_
    refine GoR.op rfl rfl (fa27_1 rfl) rfl ?_
    refine GoR.op rfl rfl (ld23 rfl f0 rfl) rfl ?_
    refine GoR.op rfl rfl (aOp_lenSlice Try.underlying23 rfl hl2) rfl ?_
    refine GoR.op rfl rfl (aOp_lss rfl rfl (r := false) (decide_eq_false (by omega))) rfl ?_
    refine GoR.end ?_
    refine Go.cond noJ_ok (b := false) rfl ?_
    refine Go.code noJ_ok ?_
    iterate 2 refine Go.seq noJ_ok ?_
    refine Go.region noJ_ok rfl ?_
    refine GoR.op rfl rfl rfl rfl ?_
    refine GoR.end ?_
    refine Go.block noJ_ok ?_
    refine Go.loopKeep (fun i : Nat => [(1, .ptr h.next 0), (5, .int .i64 (i : Nat))]) (fun m i h' => m + i = 3 ∧ Ext h h' ∧ Has h' h.next (.cells .plain [hsl, rsl, .int .i64 F.a, .int .i64 F.b, .int .i64 F.c, .int .i64 F.lim, lsl] 27) ∧ (1 ≤ i → 0 ≤ F.a ∧ F.a ≤ 20) ∧ (2 ≤ i → 0 ≤ F.b ∧ F.b ≤ 20 ∧ F.a ≤ F.b) ∧ (3 ≤ i → 0 ≤ F.c ∧ F.c ≤ 20 ∧ F.b ≤ F.c)) (n := 3) 0 ⟨rfl, rfl, trivial⟩ ⟨rfl, e0, by assumption, ⟨fun q => by omega, fun q => by omega, fun q => by omega⟩⟩ ?_
    clear e0 f0
    rintro m i h4 ⟨hm, e0, f0, d1, d2, d3⟩ again
    match i, hm, d1, d2, d3 with
    | 0, hm, d1, d2, d3 =>
      cases s1 : decide (0 ≤ F.a ∧ F.a ≤ 20) with
      | false =>
        iterate 2 refine Go.seq noJ_ok ?_
        refine Go.region noJ_ok rfl ?_
        refine GoR.op rfl rfl rfl rfl ?_
        refine GoR.op rfl rfl (aOp_lss rfl rfl (r := true) (decide_eq_true (by omega))) rfl ?_
        refine GoR.end ?_
        refine Go.cond noJ_ok (b := true) rfl ?_
        refine Go.code noJ_ok ?_
        refine Go.seq noJ_ok ?_
        refine Go.block noJ_ok ?_
        refine Go.seq noJ_ok ?_
        refine Go.drawnE plan23_0 ?_
        refine GoE.quiet rfl rfl rfl rfl ?_
        refine GoE.quiet rfl rfl (fa27_2 rfl) rfl ?_
        refine GoE.quiet rfl rfl (aOp_indexAddrArr (i := 0) Try.underlying24 sz3 rfl rfl rfl) rfl ?_
        refine GoE.quiet rfl rfl (ld3 rfl f0 rfl) rfl ?_
        refine GoE.call rfl rfl (aOp_callFunc aFunc57 rfl) (in57_ok F.a 0 20 s1 _) (dropF_drop (show bit? 15 3 = true from rfl) (dropF_drop (show bit? 15 2 = true from rfl) (dropF_drop (show bit? 15 1 = true from rfl) (dropF_drop (show bit? 15 0 = true from rfl) rfl)))) ?_ (by rintro _ _ ⟨q, _⟩; cases q)
        rintro v65 h65 ⟨q, x65⟩
        cases q
        replace f0 := f0.ext x65
        replace e0 := e0.trans x65
        refine ⟨recheck_nil, _, rfl, ?_⟩
        iterate 2 refine GoE.quiet rfl rfl rfl rfl ?_
        iterate 14 refine GoE.skip rfl rfl rfl ?_
        refine GoE.quiet rfl rfl rfl rfl ?_
        refine GoE.end rfl ?_
        refine Go.cond noJ_ok (b := true) rfl ?_
        refine Go.seq noJ_ok ?_
        refine Go.region noJ_ok rfl ?_
        refine GoR.op rfl rfl rfl rfl ?_
        refine GoR.end ?_
        exact Go.ret noJ_ok (ret_end (aResult_of Try.func23 rfl rfl) ⟨false, rfl, (fun q => by cases q), e0⟩)
      | true =>
        iterate 2 refine Go.seq noJ_ok ?_
        refine Go.region noJ_ok rfl ?_
        refine GoR.op rfl rfl rfl rfl ?_
        refine GoR.op rfl rfl (aOp_lss rfl rfl (r := true) (decide_eq_true (by omega))) rfl ?_
        refine GoR.end ?_
        refine Go.cond noJ_ok (b := true) rfl ?_
        refine Go.code noJ_ok ?_
        refine Go.seq noJ_ok ?_
        refine Go.block noJ_ok ?_
        refine Go.seq noJ_ok ?_
        refine Go.drawnE plan23_0 ?_
        refine GoE.quiet rfl rfl rfl rfl ?_
        refine GoE.quiet rfl rfl (fa27_2 rfl) rfl ?_
        refine GoE.quiet rfl rfl (aOp_indexAddrArr (i := 0) Try.underlying24 sz3 rfl rfl rfl) rfl ?_
        refine GoE.quiet rfl rfl (ld3 rfl f0 rfl) rfl ?_
        refine GoE.call rfl rfl (aOp_callFunc aFunc57 rfl) (in57_ok F.a 0 20 s1 _) (dropF_drop (show bit? 15 3 = true from rfl) (dropF_drop (show bit? 15 2 = true from rfl) (dropF_drop (show bit? 15 1 = true from rfl) (dropF_drop (show bit? 15 0 = true from rfl) rfl)))) ?_ (by rintro _ _ ⟨q, _⟩; cases q)
        rintro v65 h65 ⟨q, x65⟩
        cases q
        replace f0 := f0.ext x65
        replace e0 := e0.trans x65
        refine ⟨recheck_nil, _, rfl, ?_⟩
        iterate 3 refine GoE.quiet rfl rfl rfl rfl ?_
        refine GoE.quiet rfl rfl (aOp_gtr rfl rfl (r := false) (decide_eq_false (by omega))) rfl ?_
        refine GoE.quiet rfl rfl rfl rfl ?_
        iterate 10 refine GoE.skip rfl rfl rfl ?_
        iterate 2 refine GoE.quiet rfl rfl rfl rfl ?_
        refine GoE.end rfl ?_
        refine Go.cond noJ_ok (b := false) rfl ?_
        refine Go.code noJ_ok ?_
        refine Go.inBlock noJ_ok ?_
        refine Go.region noJ_ok rfl ?_
        refine GoR.op rfl rfl rfl rfl ?_
        refine GoR.op rfl rfl (aOp_add rfl rfl (by constructor <;> omega) rfl) rfl ?_
        refine GoR.op rfl rfl rfl rfl ?_
        refine GoR.end ?_
        simp only [decide_eq_true_eq] at s1
        exact again 2 1 _ _ (by omega) ⟨rfl, rfl, trivial⟩ ⟨rfl, e0, f0, fun _ => s1, fun q => by omega, fun q => by omega⟩
    | 1, hm, d1, d2, d3 =>
      cases s1 : decide (0 ≤ F.b ∧ F.b ≤ 20) with
      | false =>
        iterate 2 refine Go.seq noJ_ok ?_
        refine Go.region noJ_ok rfl ?_
        refine GoR.op rfl rfl rfl rfl ?_
        refine GoR.op rfl rfl (aOp_lss rfl rfl (r := true) (decide_eq_true (by omega))) rfl ?_
        refine GoR.end ?_
        refine Go.cond noJ_ok (b := true) rfl ?_
        refine Go.code noJ_ok ?_
        refine Go.seq noJ_ok ?_
        refine Go.block noJ_ok ?_
        refine Go.seq noJ_ok ?_
        refine Go.drawnE plan23_0 ?_
        refine GoE.quiet rfl rfl rfl rfl ?_
        refine GoE.quiet rfl rfl (fa27_2 rfl) rfl ?_
        refine GoE.quiet rfl rfl (aOp_indexAddrArr (i := 1) Try.underlying24 sz3 rfl rfl rfl) rfl ?_
        refine GoE.quiet rfl rfl (ld3 rfl f0 rfl) rfl ?_
        refine GoE.call rfl rfl (aOp_callFunc aFunc57 rfl) (in57_ok F.b 0 20 s1 _) (dropF_drop (show bit? 15 3 = true from rfl) (dropF_drop (show bit? 15 2 = true from rfl) (dropF_drop (show bit? 15 1 = true from rfl) (dropF_drop (show bit? 15 0 = true from rfl) rfl)))) ?_ (by rintro _ _ ⟨q, _⟩; cases q)
        rintro v65 h65 ⟨q, x65⟩
        cases q
        replace f0 := f0.ext x65
        replace e0 := e0.trans x65
        refine ⟨recheck_nil, _, rfl, ?_⟩
        iterate 2 refine GoE.quiet rfl rfl rfl rfl ?_
        iterate 14 refine GoE.skip rfl rfl rfl ?_
        refine GoE.quiet rfl rfl rfl rfl ?_
        refine GoE.end rfl ?_
        refine Go.cond noJ_ok (b := true) rfl ?_
        refine Go.seq noJ_ok ?_
        refine Go.region noJ_ok rfl ?_
        refine GoR.op rfl rfl rfl rfl ?_
        refine GoR.end ?_
        exact Go.ret noJ_ok (ret_end (aResult_of Try.func23 rfl rfl) ⟨false, rfl, (fun q => by cases q), e0⟩)
      | true =>
      by_cases s2 : F.b < F.a
      · iterate 2 refine Go.seq noJ_ok ?_
        refine Go.region noJ_ok rfl ?_
        refine GoR.op rfl rfl rfl rfl ?_
        refine GoR.op rfl rfl (aOp_lss rfl rfl (r := true) (decide_eq_true (by omega))) rfl ?_
        refine GoR.end ?_
        refine Go.cond noJ_ok (b := true) rfl ?_
        refine Go.code noJ_ok ?_
        refine Go.seq noJ_ok ?_
        refine Go.block noJ_ok ?_
        refine Go.seq noJ_ok ?_
        refine Go.drawnE plan23_0 ?_
        refine GoE.quiet rfl rfl rfl rfl ?_
        refine GoE.quiet rfl rfl (fa27_2 rfl) rfl ?_
        refine GoE.quiet rfl rfl (aOp_indexAddrArr (i := 1) Try.underlying24 sz3 rfl rfl rfl) rfl ?_
        refine GoE.quiet rfl rfl (ld3 rfl f0 rfl) rfl ?_
        refine GoE.call rfl rfl (aOp_callFunc aFunc57 rfl) (in57_ok F.b 0 20 s1 _) (dropF_drop (show bit? 15 3 = true from rfl) (dropF_drop (show bit? 15 2 = true from rfl) (dropF_drop (show bit? 15 1 = true from rfl) (dropF_drop (show bit? 15 0 = true from rfl) rfl)))) ?_ (by rintro _ _ ⟨q, _⟩; cases q)
        rintro v65 h65 ⟨q, x65⟩
        cases q
        replace f0 := f0.ext x65
        replace e0 := e0.trans x65
        refine ⟨recheck_nil, _, rfl, ?_⟩
        iterate 3 refine GoE.quiet rfl rfl rfl rfl ?_
        refine GoE.quiet rfl rfl (aOp_gtr rfl rfl (r := true) (decide_eq_true (by omega))) rfl ?_
        iterate 2 refine GoE.quiet rfl rfl rfl rfl ?_
        refine GoE.quiet rfl rfl (fa27_2 rfl) rfl ?_
        refine GoE.quiet rfl rfl (aOp_indexAddrArr (i := 1) Try.underlying24 sz3 rfl rfl rfl) rfl ?_
        refine GoE.quiet rfl rfl (ld3 rfl f0 rfl) rfl ?_
        refine GoE.quiet rfl rfl rfl rfl ?_
        refine GoE.quiet rfl rfl (aOp_sub rfl rfl (by constructor <;> omega) rfl) rfl ?_
        refine GoE.quiet rfl rfl (fa27_2 rfl) rfl ?_
        refine GoE.quiet rfl rfl (aOp_indexAddrArr (i := 0) Try.underlying24 sz3 rfl rfl rfl) rfl ?_
        refine GoE.quiet rfl rfl (ld3 rfl f0 rfl) rfl ?_
        refine GoE.quiet rfl rfl (aOp_lss rfl rfl (r := true) (decide_eq_true (by omega))) rfl ?_
        iterate 2 refine GoE.quiet rfl rfl rfl rfl ?_
        refine GoE.end rfl ?_
        refine Go.cond noJ_ok (b := true) rfl ?_
        refine Go.seq noJ_ok ?_
        refine Go.region noJ_ok rfl ?_
        refine GoR.op rfl rfl rfl rfl ?_
        refine GoR.end ?_
        exact Go.ret noJ_ok (ret_end (aResult_of Try.func23 rfl rfl) ⟨false, rfl, (fun q => by cases q), e0⟩)
      · iterate 2 refine Go.seq noJ_ok ?_
        refine Go.region noJ_ok rfl ?_
        refine GoR.op rfl rfl rfl rfl ?_
        refine GoR.op rfl rfl (aOp_lss rfl rfl (r := true) (decide_eq_true (by omega))) rfl ?_
        refine GoR.end ?_
        refine Go.cond noJ_ok (b := true) rfl ?_
        refine Go.code noJ_ok ?_
        refine Go.seq noJ_ok ?_
        refine Go.block noJ_ok ?_
        refine Go.seq noJ_ok ?_
        refine Go.drawnE plan23_0 ?_
        refine GoE.quiet rfl rfl rfl rfl ?_
        refine GoE.quiet rfl rfl (fa27_2 rfl) rfl ?_
        refine GoE.quiet rfl rfl (aOp_indexAddrArr (i := 1) Try.underlying24 sz3 rfl rfl rfl) rfl ?_
        refine GoE.quiet rfl rfl (ld3 rfl f0 rfl) rfl ?_
        refine GoE.call rfl rfl (aOp_callFunc aFunc57 rfl) (in57_ok F.b 0 20 s1 _) (dropF_drop (show bit? 15 3 = true from rfl) (dropF_drop (show bit? 15 2 = true from rfl) (dropF_drop (show bit? 15 1 = true from rfl) (dropF_drop (show bit? 15 0 = true from rfl) rfl)))) ?_ (by rintro _ _ ⟨q, _⟩; cases q)
        rintro v65 h65 ⟨q, x65⟩
        cases q
        replace f0 := f0.ext x65
        replace e0 := e0.trans x65
        refine ⟨recheck_nil, _, rfl, ?_⟩
        iterate 3 refine GoE.quiet rfl rfl rfl rfl ?_
        refine GoE.quiet rfl rfl (aOp_gtr rfl rfl (r := true) (decide_eq_true (by omega))) rfl ?_
        iterate 2 refine GoE.quiet rfl rfl rfl rfl ?_
        refine GoE.quiet rfl rfl (fa27_2 rfl) rfl ?_
        refine GoE.quiet rfl rfl (aOp_indexAddrArr (i := 1) Try.underlying24 sz3 rfl rfl rfl) rfl ?_
        refine GoE.quiet rfl rfl (ld3 rfl f0 rfl) rfl ?_
        refine GoE.quiet rfl rfl rfl rfl ?_
        refine GoE.quiet rfl rfl (aOp_sub rfl rfl (by constructor <;> omega) rfl) rfl ?_
        refine GoE.quiet rfl rfl (fa27_2 rfl) rfl ?_
        refine GoE.quiet rfl rfl (aOp_indexAddrArr (i := 0) Try.underlying24 sz3 rfl rfl rfl) rfl ?_
        refine GoE.quiet rfl rfl (ld3 rfl f0 rfl) rfl ?_
        refine GoE.quiet rfl rfl (aOp_lss rfl rfl (r := false) (decide_eq_false (by omega))) rfl ?_
        iterate 2 refine GoE.quiet rfl rfl rfl rfl ?_
        refine GoE.end rfl ?_
        refine Go.cond noJ_ok (b := false) rfl ?_
        refine Go.code noJ_ok ?_
        refine Go.inBlock noJ_ok ?_
        refine Go.region noJ_ok rfl ?_
        refine GoR.op rfl rfl rfl rfl ?_
        refine GoR.op rfl rfl (aOp_add rfl rfl (by constructor <;> omega) rfl) rfl ?_
        refine GoR.op rfl rfl rfl rfl ?_
        refine GoR.end ?_
        simp only [decide_eq_true_eq] at s1
        exact again 1 2 _ _ (by omega) ⟨rfl, rfl, trivial⟩ ⟨rfl, e0, f0, fun _ => d1 (by omega), fun _ => ⟨s1.1, s1.2, by omega⟩, fun q => by omega⟩
    | 2, hm, d1, d2, d3 =>
      cases s1 : decide (0 ≤ F.c ∧ F.c ≤ 20) with
      | false =>
        iterate 2 refine Go.seq noJ_ok ?_
        refine Go.region noJ_ok rfl ?_
        refine GoR.op rfl rfl rfl rfl ?_
        refine GoR.op rfl rfl (aOp_lss rfl rfl (r := true) (decide_eq_true (by omega))) rfl ?_
        refine GoR.end ?_
        refine Go.cond noJ_ok (b := true) rfl ?_
        refine Go.code noJ_ok ?_
        refine Go.seq noJ_ok ?_
        refine Go.block noJ_ok ?_
        refine Go.seq noJ_ok ?_
        refine Go.drawnE plan23_0 ?_
        refine GoE.quiet rfl rfl rfl rfl ?_
        refine GoE.quiet rfl rfl (fa27_2 rfl) rfl ?_
        refine GoE.quiet rfl rfl (aOp_indexAddrArr (i := 2) Try.underlying24 sz3 rfl rfl rfl) rfl ?_
        refine GoE.quiet rfl rfl (ld3 rfl f0 rfl) rfl ?_
        refine GoE.call rfl rfl (aOp_callFunc aFunc57 rfl) (in57_ok F.c 0 20 s1 _) (dropF_drop (show bit? 15 3 = true from rfl) (dropF_drop (show bit? 15 2 = true from rfl) (dropF_drop (show bit? 15 1 = true from rfl) (dropF_drop (show bit? 15 0 = true from rfl) rfl)))) ?_ (by rintro _ _ ⟨q, _⟩; cases q)
        rintro v65 h65 ⟨q, x65⟩
        cases q
        replace f0 := f0.ext x65
        replace e0 := e0.trans x65
        refine ⟨recheck_nil, _, rfl, ?_⟩
        iterate 2 refine GoE.quiet rfl rfl rfl rfl ?_
        iterate 14 refine GoE.skip rfl rfl rfl ?_
        refine GoE.quiet rfl rfl rfl rfl ?_
        refine GoE.end rfl ?_
        refine Go.cond noJ_ok (b := true) rfl ?_
        refine Go.seq noJ_ok ?_
        refine Go.region noJ_ok rfl ?_
        refine GoR.op rfl rfl rfl rfl ?_
        refine GoR.end ?_
        exact Go.ret noJ_ok (ret_end (aResult_of Try.func23 rfl rfl) ⟨false, rfl, (fun q => by cases q), e0⟩)
      | true =>
      by_cases s2 : F.c < F.b
      · iterate 2 refine Go.seq noJ_ok ?_
        refine Go.region noJ_ok rfl ?_
        refine GoR.op rfl rfl rfl rfl ?_
        refine GoR.op rfl rfl (aOp_lss rfl rfl (r := true) (decide_eq_true (by omega))) rfl ?_
        refine GoR.end ?_
        refine Go.cond noJ_ok (b := true) rfl ?_
        refine Go.code noJ_ok ?_
        refine Go.seq noJ_ok ?_
        refine Go.block noJ_ok ?_
        refine Go.seq noJ_ok ?_
        refine Go.drawnE plan23_0 ?_
        refine GoE.quiet rfl rfl rfl rfl ?_
        refine GoE.quiet rfl rfl (fa27_2 rfl) rfl ?_
        refine GoE.quiet rfl rfl (aOp_indexAddrArr (i := 2) Try.underlying24 sz3 rfl rfl rfl) rfl ?_
        refine GoE.quiet rfl rfl (ld3 rfl f0 rfl) rfl ?_
        refine GoE.call rfl rfl (aOp_callFunc aFunc57 rfl) (in57_ok F.c 0 20 s1 _) (dropF_drop (show bit? 15 3 = true from rfl) (dropF_drop (show bit? 15 2 = true from rfl) (dropF_drop (show bit? 15 1 = true from rfl) (dropF_drop (show bit? 15 0 = true from rfl) rfl)))) ?_ (by rintro _ _ ⟨q, _⟩; cases q)
        rintro v65 h65 ⟨q, x65⟩
        cases q
        replace f0 := f0.ext x65
        replace e0 := e0.trans x65
        refine ⟨recheck_nil, _, rfl, ?_⟩
        iterate 3 refine GoE.quiet rfl rfl rfl rfl ?_
        refine GoE.quiet rfl rfl (aOp_gtr rfl rfl (r := true) (decide_eq_true (by omega))) rfl ?_
        iterate 2 refine GoE.quiet rfl rfl rfl rfl ?_
        refine GoE.quiet rfl rfl (fa27_2 rfl) rfl ?_
        refine GoE.quiet rfl rfl (aOp_indexAddrArr (i := 2) Try.underlying24 sz3 rfl rfl rfl) rfl ?_
        refine GoE.quiet rfl rfl (ld3 rfl f0 rfl) rfl ?_
        refine GoE.quiet rfl rfl rfl rfl ?_
        refine GoE.quiet rfl rfl (aOp_sub rfl rfl (by constructor <;> omega) rfl) rfl ?_
        refine GoE.quiet rfl rfl (fa27_2 rfl) rfl ?_
        refine GoE.quiet rfl rfl (aOp_indexAddrArr (i := 1) Try.underlying24 sz3 rfl rfl rfl) rfl ?_
        refine GoE.quiet rfl rfl (ld3 rfl f0 rfl) rfl ?_
        refine GoE.quiet rfl rfl (aOp_lss rfl rfl (r := true) (decide_eq_true (by omega))) rfl ?_
        iterate 2 refine GoE.quiet rfl rfl rfl rfl ?_
        refine GoE.end rfl ?_
        refine Go.cond noJ_ok (b := true) rfl ?_
        refine Go.seq noJ_ok ?_
        refine Go.region noJ_ok rfl ?_
        refine GoR.op rfl rfl rfl rfl ?_
        refine GoR.end ?_
        exact Go.ret noJ_ok (ret_end (aResult_of Try.func23 rfl rfl) ⟨false, rfl, (fun q => by cases q), e0⟩)
      · iterate 2 refine Go.seq noJ_ok ?_
        refine Go.region noJ_ok rfl ?_
        refine GoR.op rfl rfl rfl rfl ?_
        refine GoR.op rfl rfl (aOp_lss rfl rfl (r := true) (decide_eq_true (by omega))) rfl ?_
        refine GoR.end ?_
        refine Go.cond noJ_ok (b := true) rfl ?_
        refine Go.code noJ_ok ?_
        refine Go.seq noJ_ok ?_
        refine Go.block noJ_ok ?_
        refine Go.seq noJ_ok ?_
        refine Go.drawnE plan23_0 ?_
        refine GoE.quiet rfl rfl rfl rfl ?_
        refine GoE.quiet rfl rfl (fa27_2 rfl) rfl ?_
        refine GoE.quiet rfl rfl (aOp_indexAddrArr (i := 2) Try.underlying24 sz3 rfl rfl rfl) rfl ?_
        refine GoE.quiet rfl rfl (ld3 rfl f0 rfl) rfl ?_
        refine GoE.call rfl rfl (aOp_callFunc aFunc57 rfl) (in57_ok F.c 0 20 s1 _) (dropF_drop (show bit? 15 3 = true from rfl) (dropF_drop (show bit? 15 2 = true from rfl) (dropF_drop (show bit? 15 1 = true from rfl) (dropF_drop (show bit? 15 0 = true from rfl) rfl)))) ?_ (by rintro _ _ ⟨q, _⟩; cases q)
        rintro v65 h65 ⟨q, x65⟩
        cases q
        replace f0 := f0.ext x65
        replace e0 := e0.trans x65
        refine ⟨recheck_nil, _, rfl, ?_⟩
        iterate 3 refine GoE.quiet rfl rfl rfl rfl ?_
        refine GoE.quiet rfl rfl (aOp_gtr rfl rfl (r := true) (decide_eq_true (by omega))) rfl ?_
        iterate 2 refine GoE.quiet rfl rfl rfl rfl ?_
        refine GoE.quiet rfl rfl (fa27_2 rfl) rfl ?_
        refine GoE.quiet rfl rfl (aOp_indexAddrArr (i := 2) Try.underlying24 sz3 rfl rfl rfl) rfl ?_
        refine GoE.quiet rfl rfl (ld3 rfl f0 rfl) rfl ?_
        refine GoE.quiet rfl rfl rfl rfl ?_
        refine GoE.quiet rfl rfl (aOp_sub rfl rfl (by constructor <;> omega) rfl) rfl ?_
        refine GoE.quiet rfl rfl (fa27_2 rfl) rfl ?_
        refine GoE.quiet rfl rfl (aOp_indexAddrArr (i := 1) Try.underlying24 sz3 rfl rfl rfl) rfl ?_
        refine GoE.quiet rfl rfl (ld3 rfl f0 rfl) rfl ?_
        refine GoE.quiet rfl rfl (aOp_lss rfl rfl (r := false) (decide_eq_false (by omega))) rfl ?_
        iterate 2 refine GoE.quiet rfl rfl rfl rfl ?_
        refine GoE.end rfl ?_
        refine Go.cond noJ_ok (b := false) rfl ?_
        refine Go.code noJ_ok ?_
        refine Go.inBlock noJ_ok ?_
        refine Go.region noJ_ok rfl ?_
        refine GoR.op rfl rfl rfl rfl ?_
        refine GoR.op rfl rfl (aOp_add rfl rfl (by constructor <;> omega) rfl) rfl ?_
        refine GoR.op rfl rfl rfl rfl ?_
        refine GoR.end ?_
        simp only [decide_eq_true_eq] at s1
        exact again 0 3 _ _ (by omega) ⟨rfl, rfl, trivial⟩ ⟨rfl, e0, f0, fun _ => d1 (by omega), fun _ => d2 (by omega), fun _ => ⟨s1.1, s1.2, by omega⟩⟩
    | 3, hm, d1, d2, d3 =>
    replace d1 := d1 (by omega)
    replace d2 := d2 (by omega)
    replace d3 := d3 (by omega)
    clear again
    iterate 2 refine Go.seq noJ_ok ?_
    refine Go.region noJ_ok rfl ?_
    refine GoR.op rfl rfl rfl rfl ?_
    refine GoR.op rfl rfl (aOp_lss rfl rfl (r := false) (decide_eq_false (by omega))) rfl ?_
    refine GoR.end ?_
    refine Go.cond noJ_ok (b := false) rfl ?_
    refine Go.code noJ_ok ?_
    iterate 2 refine Go.seq noJ_ok ?_
    refine Go.region noJ_ok rfl ?_
    refine GoR.op rfl rfl rfl rfl ?_
    refine GoR.end ?_
    refine Go.block noJ_ok ?_
    refine Go.loopKeep (fun i : Nat => [(1, .ptr h.next 0), (6, .int .i64 (i : Nat))]) (fun m i h' => m + i = F.looks.length ∧ Ext h h' ∧ Has h' h.next (.cells .plain [hsl, rsl, .int .i64 F.a, .int .i64 F.b, .int .i64 F.c, .int .i64 F.lim, lsl] 27) ∧ ∀ x, x ∈ F.looks.take i → LOk F x) (n := F.looks.length) 0 ⟨rfl, rfl, trivial⟩ ⟨rfl, e0, by assumption, (by simp)⟩ ?_
    clear e0 f0
    rintro m i h4 ⟨hm, e0, f0, hin⟩ again
    by_cases hi : i < F.looks.length
    · obtain ⟨x, hx⟩ : ∃ x, F.looks[i]? = some x := ⟨F.looks[i], by simp [hi]⟩
      obtain ⟨bq, off, q1, q2⟩ := (A.ls.ext e0).at (i := i) (l := LookV.cells x) (by rw [List.getElem?_map, hx]; rfl)
      rw [List.length_map] at q1
      have hstep := take_all (P := LOk F) hx hin
      obtain ⟨xh, xd, xlo, xhi⟩ := x
      unfold LookV.cells at q2
      dsimp only at q2
      unfold LOk at hstep
      dsimp only at hstep
      cases s1 : decide (0 ≤ xh ∧ xh < (F.hs.length : Int)) with
      | false =>
        iterate 2 refine Go.seq noJ_ok ?_
        refine Go.region noJ_ok rfl ?_
        refine GoR.op rfl rfl rfl rfl ?_
        refine GoR.op rfl rfl (fa27_4 rfl) rfl ?_
        refine GoR.op rfl rfl (ld25 rfl f0 rfl) rfl ?_
        refine GoR.op rfl rfl (aOp_lenSlice Try.underlying25 rfl hl3) rfl ?_
        refine GoR.op rfl rfl (aOp_lss rfl rfl (r := true) (decide_eq_true (by omega))) rfl ?_
        refine GoR.end ?_
        refine Go.cond noJ_ok (b := true) rfl ?_
        refine Go.code noJ_ok ?_
        refine Go.seq noJ_ok ?_
        refine Go.block noJ_ok ?_
        refine Go.seq noJ_ok ?_
        refine Go.region noJ_ok rfl ?_
        refine GoR.op rfl rfl (fa27_4 rfl) rfl ?_
        refine GoR.op rfl rfl (ld25 rfl f0 rfl) rfl ?_
        refine GoR.op rfl rfl rfl rfl ?_
        refine GoR.op rfl rfl (aOp_indexAddr Try.underlying25 sz59 rfl q1 rfl (Nat.ble_eq_true_of_le hi)) rfl ?_
        refine GoR.op rfl rfl (aOp_loadE ag59 sz59 rfl q2) rfl ?_
        refine GoR.alloc rfl rfl rfl zt59 rfl rfl fun h65 x65 f65 => ?_
        have := e0.1
        have := f0.1
        replace f0 := f0.ext x65
        replace e0 := e0.trans x65
        have := f65.1
        refine GoR.store rfl rfl rfl rfl rfl rfl f65 rfl sz59 rfl rfl rfl fun h66 u66 => ?_
        replace f65 := u66.has f65
        replace f0 := f0.upd u66 (by omega)
        first | replace e0 := e0.upd u66 (by omega) | clear e0
        refine GoR.end ?_
        refine Go.seq noJ_ok ?_
        refine Go.region noJ_ok rfl ?_
        refine GoR.op rfl rfl (ld27 rfl f0 rfl) rfl ?_
        refine GoR.op rfl rfl (fa59_0 rfl) rfl ?_
        refine GoR.op rfl rfl (ld3 rfl f65 rfl) rfl ?_
        refine GoR.call rfl rfl (aOp_callFunc aFunc59 rfl) (h59 xh _ s1 _) ?_ (by rintro _ _ ⟨q, _⟩; cases q)
        rintro v67 h67 ⟨q, x67⟩
        cases q
        refine ⟨_, rfl, ?_⟩
        replace f65 := f65.ext x67
        replace f0 := f0.ext x67
        replace e0 := e0.trans x67
        iterate 2 refine GoR.op rfl rfl rfl rfl ?_
        iterate 5 refine GoR.skip rfl rfl rfl ?_
        iterate 2 refine GoR.op rfl rfl rfl rfl ?_
        iterate 4 refine GoR.skip rfl rfl rfl ?_
        refine GoR.op rfl rfl rfl rfl ?_
        refine GoR.end ?_
        refine Go.cond noJ_ok (b := true) rfl ?_
        refine Go.seq noJ_ok ?_
        refine Go.region noJ_ok rfl ?_
        refine GoR.op rfl rfl rfl rfl ?_
        refine GoR.end ?_
        exact Go.ret noJ_ok (ret_end (aResult_of Try.func23 rfl rfl) ⟨false, rfl, (fun q => by cases q), e0⟩)
      | true =>
      cases s2 : decide (0 ≤ xd ∧ xd < (F.rs.length : Int)) with
      | false =>
        iterate 2 refine Go.seq noJ_ok ?_
        refine Go.region noJ_ok rfl ?_
        refine GoR.op rfl rfl rfl rfl ?_
        refine GoR.op rfl rfl (fa27_4 rfl) rfl ?_
        refine GoR.op rfl rfl (ld25 rfl f0 rfl) rfl ?_
        refine GoR.op rfl rfl (aOp_lenSlice Try.underlying25 rfl hl3) rfl ?_
        refine GoR.op rfl rfl (aOp_lss rfl rfl (r := true) (decide_eq_true (by omega))) rfl ?_
        refine GoR.end ?_
        refine Go.cond noJ_ok (b := true) rfl ?_
        refine Go.code noJ_ok ?_
        refine Go.seq noJ_ok ?_
        refine Go.block noJ_ok ?_
        refine Go.seq noJ_ok ?_
        refine Go.region noJ_ok rfl ?_
        refine GoR.op rfl rfl (fa27_4 rfl) rfl ?_
        refine GoR.op rfl rfl (ld25 rfl f0 rfl) rfl ?_
        refine GoR.op rfl rfl rfl rfl ?_
        refine GoR.op rfl rfl (aOp_indexAddr Try.underlying25 sz59 rfl q1 rfl (Nat.ble_eq_true_of_le hi)) rfl ?_
        refine GoR.op rfl rfl (aOp_loadE ag59 sz59 rfl q2) rfl ?_
        refine GoR.alloc rfl rfl rfl zt59 rfl rfl fun h65 x65 f65 => ?_
        have := e0.1
        have := f0.1
        replace f0 := f0.ext x65
        replace e0 := e0.trans x65
        have := f65.1
        refine GoR.store rfl rfl rfl rfl rfl rfl f65 rfl sz59 rfl rfl rfl fun h66 u66 => ?_
        replace f65 := u66.has f65
        replace f0 := f0.upd u66 (by omega)
        first | replace e0 := e0.upd u66 (by omega) | clear e0
        refine GoR.end ?_
        refine Go.seq noJ_ok ?_
        refine Go.region noJ_ok rfl ?_
        refine GoR.op rfl rfl (ld27 rfl f0 rfl) rfl ?_
        refine GoR.op rfl rfl (fa59_0 rfl) rfl ?_
        refine GoR.op rfl rfl (ld3 rfl f65 rfl) rfl ?_
        refine GoR.call rfl rfl (aOp_callFunc aFunc59 rfl) (h59 xh _ s1 _) ?_ (by rintro _ _ ⟨q, _⟩; cases q)
        rintro v67 h67 ⟨q, x67⟩
        cases q
        refine ⟨_, rfl, ?_⟩
        replace f65 := f65.ext x67
        replace f0 := f0.ext x67
        replace e0 := e0.trans x67
        iterate 2 refine GoR.op rfl rfl rfl rfl ?_
        refine GoR.op rfl rfl (ld27 rfl f0 rfl) rfl ?_
        refine GoR.op rfl rfl (fa59_1 rfl) rfl ?_
        refine GoR.op rfl rfl (ld3 rfl f65 rfl) rfl ?_
        refine GoR.call rfl rfl (aOp_callFunc aFunc60 rfl) (h60 xd _ s2 _) ?_ (by rintro _ _ ⟨q, _⟩; cases q)
        rintro v68 h68 ⟨q, x68⟩
        cases q
        refine ⟨_, rfl, ?_⟩
        replace f65 := f65.ext x68
        replace f0 := f0.ext x68
        replace e0 := e0.trans x68
        iterate 3 refine GoR.op rfl rfl rfl rfl ?_
        iterate 4 refine GoR.skip rfl rfl rfl ?_
        refine GoR.op rfl rfl rfl rfl ?_
        refine GoR.end ?_
        refine Go.cond noJ_ok (b := true) rfl ?_
        refine Go.seq noJ_ok ?_
        refine Go.region noJ_ok rfl ?_
        refine GoR.op rfl rfl rfl rfl ?_
        refine GoR.end ?_
        exact Go.ret noJ_ok (ret_end (aResult_of Try.func23 rfl rfl) ⟨false, rfl, (fun q => by cases q), e0⟩)
      | true =>
      cases s3 : decide (0 ≤ xlo ∧ xlo ≤ xhi ∧ xhi ≤ 100 ∧ xhi - xlo ≤ 100) with
      | false =>
        iterate 2 refine Go.seq noJ_ok ?_
        refine Go.region noJ_ok rfl ?_
        refine GoR.op rfl rfl rfl rfl ?_
        refine GoR.op rfl rfl (fa27_4 rfl) rfl ?_
        refine GoR.op rfl rfl (ld25 rfl f0 rfl) rfl ?_
        refine GoR.op rfl rfl (aOp_lenSlice Try.underlying25 rfl hl3) rfl ?_
        refine GoR.op rfl rfl (aOp_lss rfl rfl (r := true) (decide_eq_true (by omega))) rfl ?_
        refine GoR.end ?_
        refine Go.cond noJ_ok (b := true) rfl ?_
        refine Go.code noJ_ok ?_
        refine Go.seq noJ_ok ?_
        refine Go.block noJ_ok ?_
        refine Go.seq noJ_ok ?_
        refine Go.region noJ_ok rfl ?_
        refine GoR.op rfl rfl (fa27_4 rfl) rfl ?_
        refine GoR.op rfl rfl (ld25 rfl f0 rfl) rfl ?_
        refine GoR.op rfl rfl rfl rfl ?_
        refine GoR.op rfl rfl (aOp_indexAddr Try.underlying25 sz59 rfl q1 rfl (Nat.ble_eq_true_of_le hi)) rfl ?_
        refine GoR.op rfl rfl (aOp_loadE ag59 sz59 rfl q2) rfl ?_
        refine GoR.alloc rfl rfl rfl zt59 rfl rfl fun h65 x65 f65 => ?_
        have := e0.1
        have := f0.1
        replace f0 := f0.ext x65
        replace e0 := e0.trans x65
        have := f65.1
        refine GoR.store rfl rfl rfl rfl rfl rfl f65 rfl sz59 rfl rfl rfl fun h66 u66 => ?_
        replace f65 := u66.has f65
        replace f0 := f0.upd u66 (by omega)
        first | replace e0 := e0.upd u66 (by omega) | clear e0
        refine GoR.end ?_
        refine Go.seq noJ_ok ?_
        refine Go.region noJ_ok rfl ?_
        refine GoR.op rfl rfl (ld27 rfl f0 rfl) rfl ?_
        refine GoR.op rfl rfl (fa59_0 rfl) rfl ?_
        refine GoR.op rfl rfl (ld3 rfl f65 rfl) rfl ?_
        refine GoR.call rfl rfl (aOp_callFunc aFunc59 rfl) (h59 xh _ s1 _) ?_ (by rintro _ _ ⟨q, _⟩; cases q)
        rintro v67 h67 ⟨q, x67⟩
        cases q
        refine ⟨_, rfl, ?_⟩
        replace f65 := f65.ext x67
        replace f0 := f0.ext x67
        replace e0 := e0.trans x67
        iterate 2 refine GoR.op rfl rfl rfl rfl ?_
        refine GoR.op rfl rfl (ld27 rfl f0 rfl) rfl ?_
        refine GoR.op rfl rfl (fa59_1 rfl) rfl ?_
        refine GoR.op rfl rfl (ld3 rfl f65 rfl) rfl ?_
        refine GoR.call rfl rfl (aOp_callFunc aFunc60 rfl) (h60 xd _ s2 _) ?_ (by rintro _ _ ⟨q, _⟩; cases q)
        rintro v68 h68 ⟨q, x68⟩
        cases q
        refine ⟨_, rfl, ?_⟩
        replace f65 := f65.ext x68
        replace f0 := f0.ext x68
        replace e0 := e0.trans x68
        iterate 3 refine GoR.op rfl rfl rfl rfl ?_
        refine GoR.op rfl rfl (fa59_2 rfl) rfl ?_
        refine GoR.op rfl rfl (ld30 rfl f65 rfl) rfl ?_
        refine GoR.call rfl rfl (aOp_callFunc aFunc58 rfl) (span58_ok xlo xhi 100 100 s3 (by decide) _) ?_ (by rintro _ _ ⟨q, _⟩; cases q)
        rintro v69 h69 ⟨q, x69⟩
        cases q
        refine ⟨_, rfl, ?_⟩
        replace f65 := f65.ext x69
        replace f0 := f0.ext x69
        replace e0 := e0.trans x69
        iterate 2 refine GoR.op rfl rfl rfl rfl ?_
        refine GoR.end ?_
        refine Go.cond noJ_ok (b := true) rfl ?_
        refine Go.seq noJ_ok ?_
        refine Go.region noJ_ok rfl ?_
        refine GoR.op rfl rfl rfl rfl ?_
        refine GoR.end ?_
        exact Go.ret noJ_ok (ret_end (aResult_of Try.func23 rfl rfl) ⟨false, rfl, (fun q => by cases q), e0⟩)
      | true =>
        iterate 2 refine Go.seq noJ_ok ?_
        refine Go.region noJ_ok rfl ?_
        refine GoR.op rfl rfl rfl rfl ?_
        refine GoR.op rfl rfl (fa27_4 rfl) rfl ?_
        refine GoR.op rfl rfl (ld25 rfl f0 rfl) rfl ?_
        refine GoR.op rfl rfl (aOp_lenSlice Try.underlying25 rfl hl3) rfl ?_
        refine GoR.op rfl rfl (aOp_lss rfl rfl (r := true) (decide_eq_true (by omega))) rfl ?_
        refine GoR.end ?_
        refine Go.cond noJ_ok (b := true) rfl ?_
        refine Go.code noJ_ok ?_
        refine Go.seq noJ_ok ?_
        refine Go.block noJ_ok ?_
        refine Go.seq noJ_ok ?_
        refine Go.region noJ_ok rfl ?_
        refine GoR.op rfl rfl (fa27_4 rfl) rfl ?_
        refine GoR.op rfl rfl (ld25 rfl f0 rfl) rfl ?_
        refine GoR.op rfl rfl rfl rfl ?_
        refine GoR.op rfl rfl (aOp_indexAddr Try.underlying25 sz59 rfl q1 rfl (Nat.ble_eq_true_of_le hi)) rfl ?_
        refine GoR.op rfl rfl (aOp_loadE ag59 sz59 rfl q2) rfl ?_
        refine GoR.alloc rfl rfl rfl zt59 rfl rfl fun h65 x65 f65 => ?_
        have := e0.1
        have := f0.1
        replace f0 := f0.ext x65
        replace e0 := e0.trans x65
        have := f65.1
        refine GoR.store rfl rfl rfl rfl rfl rfl f65 rfl sz59 rfl rfl rfl fun h66 u66 => ?_
        replace f65 := u66.has f65
        replace f0 := f0.upd u66 (by omega)
        first | replace e0 := e0.upd u66 (by omega) | clear e0
        refine GoR.end ?_
        refine Go.seq noJ_ok ?_
        refine Go.region noJ_ok rfl ?_
        refine GoR.op rfl rfl (ld27 rfl f0 rfl) rfl ?_
        refine GoR.op rfl rfl (fa59_0 rfl) rfl ?_
        refine GoR.op rfl rfl (ld3 rfl f65 rfl) rfl ?_
        refine GoR.call rfl rfl (aOp_callFunc aFunc59 rfl) (h59 xh _ s1 _) ?_ (by rintro _ _ ⟨q, _⟩; cases q)
        rintro v67 h67 ⟨q, x67⟩
        cases q
        refine ⟨_, rfl, ?_⟩
        replace f65 := f65.ext x67
        replace f0 := f0.ext x67
        replace e0 := e0.trans x67
        iterate 2 refine GoR.op rfl rfl rfl rfl ?_
        refine GoR.op rfl rfl (ld27 rfl f0 rfl) rfl ?_
        refine GoR.op rfl rfl (fa59_1 rfl) rfl ?_
        refine GoR.op rfl rfl (ld3 rfl f65 rfl) rfl ?_
        refine GoR.call rfl rfl (aOp_callFunc aFunc60 rfl) (h60 xd _ s2 _) ?_ (by rintro _ _ ⟨q, _⟩; cases q)
        rintro v68 h68 ⟨q, x68⟩
        cases q
        refine ⟨_, rfl, ?_⟩
        replace f65 := f65.ext x68
        replace f0 := f0.ext x68
        replace e0 := e0.trans x68
        iterate 3 refine GoR.op rfl rfl rfl rfl ?_
        refine GoR.op rfl rfl (fa59_2 rfl) rfl ?_
        refine GoR.op rfl rfl (ld30 rfl f65 rfl) rfl ?_
        refine GoR.call rfl rfl (aOp_callFunc aFunc58 rfl) (span58_ok xlo xhi 100 100 s3 (by decide) _) ?_ (by rintro _ _ ⟨q, _⟩; cases q)
        rintro v69 h69 ⟨q, x69⟩
        cases q
        refine ⟨_, rfl, ?_⟩
        replace f65 := f65.ext x69
        replace f0 := f0.ext x69
        replace e0 := e0.trans x69
        iterate 2 refine GoR.op rfl rfl rfl rfl ?_
        refine GoR.end ?_
        refine Go.cond noJ_ok (b := false) rfl ?_
        refine Go.code noJ_ok ?_
        refine Go.inBlock noJ_ok ?_
        refine Go.region noJ_ok rfl ?_
        refine GoR.op rfl rfl rfl rfl ?_
        refine GoR.op rfl rfl (aOp_add rfl rfl (by constructor <;> omega) rfl) rfl ?_
        refine GoR.op rfl rfl rfl rfl ?_
        refine GoR.end ?_
        simp only [decide_eq_true_eq] at s1 s2 s3
        exact again (m - 1) (i + 1) _ _ (by omega) ⟨rfl, rfl, trivial⟩ ⟨by omega, e0, f0, hstep ⟨s1.1, s1.2, s2.1, s2.2, s3.1, s3.2.1, s3.2.2.1⟩⟩
    have hLl : ∀ x, x ∈ F.looks → LOk F x := by
      rw [List.take_of_length_le (by omega)] at hin
      exact hin
    clear again hin
    have OK : F.Ok := ⟨by omega, hH, by omega, hRr, by omega, r3, r4, hLl⟩
    iterate 2 refine Go.seq noJ_ok ?_
    refine Go.region noJ_ok rfl ?_
    refine GoR.op rfl rfl rfl rfl ?_
    refine GoR.op rfl rfl (fa27_4 rfl) rfl ?_
    refine GoR.op rfl rfl (ld25 rfl f0 rfl) rfl ?_
    refine GoR.op rfl rfl (aOp_lenSlice Try.underlying25 rfl hl3) rfl ?_
    refine GoR.op rfl rfl (aOp_lss rfl rfl (r := false) (decide_eq_false (by omega))) rfl ?_
    refine GoR.end ?_
    refine Go.cond noJ_ok (b := false) rfl ?_
    refine Go.code noJ_ok ?_
    refine Go.seq noJ_ok ?_
    refine Go.region noJ_ok rfl ?_
    refine GoR.op rfl rfl rfl rfl ?_
    refine GoR.end ?_
    exact Go.ret noJ_ok (ret_end (aResult_of Try.func23 rfl rfl) ⟨true, rfl, (fun _ => OK), e0⟩)
  · refine Runs.intro aFunc23 rfl rfl rfl rfl fun rest => ?_
    refine Go.seq noJ_ok ?_
    refine Go.region noJ_ok rfl ?_
    refine GoR.box rfl rfl rfl rfl rfl rfl fun h61 x61 f61 => ?_
    have e0 := x61
    have := f61.1
    refine GoR.op rfl rfl rfl rfl ?_
    refine GoR.end ?_
    iterate 2 refine Go.seq noJ_ok ?_
    refine Go.region noJ_ok rfl ?_
    refine GoR.op rfl rfl (fa27_0 rfl) rfl ?_
    refine GoR.op rfl rfl (ld22 rfl f61 rfl) rfl ?_
    refine GoR.op rfl rfl (aOp_lenSlice Try.underlying22 rfl hl1) rfl ?_
    refine GoR.call rfl rfl (aOp_callFunc aFunc57 rfl) (in57_ok F.hs.length 1 3 r1 _) ?_ (by rintro _ _ ⟨q, _⟩; cases q)
    rintro v62 h62 ⟨q, x62⟩
    cases q
    refine ⟨_, rfl, ?_⟩
    replace f61 := f61.ext x62
    replace e0 := e0.trans x62
    iterate 2 refine GoR.op rfl rfl rfl rfl ?_
    refine GoR.op rfl rfl (fa27_1 rfl) rfl ?_
    refine GoR.op rfl rfl (ld23 rfl f61 rfl) rfl ?_
    refine GoR.op rfl rfl (aOp_lenSlice Try.underlying23 rfl hl2) rfl ?_
    refine GoR.call rfl rfl (aOp_callFunc aFunc57 rfl) (in57_ok F.rs.length 1 6 r2 _) ?_ (by rintro _ _ ⟨q, _⟩; cases q)
    rintro v63 h63 ⟨q, x63⟩
    cases q
    refine ⟨_, rfl, ?_⟩
    replace f61 := f61.ext x63
    replace e0 := e0.trans x63
    iterate 3 refine GoR.op rfl rfl rfl rfl ?_
    refine GoR.op rfl rfl (fa27_3 rfl) rfl ?_
    refine GoR.op rfl rfl (ld3 rfl f61 rfl) rfl ?_
    refine GoR.call rfl rfl (aOp_callFunc aFunc57 rfl) (in57_ok F.lim 0 100 r3 _) ?_ (by rintro _ _ ⟨q, _⟩; cases q)
    rintro v64 h64 ⟨q, x64⟩
    cases q
    refine ⟨_, rfl, ?_⟩
    replace f61 := f61.ext x64
    replace e0 := e0.trans x64
    iterate 3 refine GoR.op rfl rfl rfl rfl ?_
    refine GoR.op rfl rfl (fa27_4 rfl) rfl ?_
    refine GoR.op rfl rfl (ld25 rfl f61 rfl) rfl ?_
    refine GoR.op rfl rfl (aOp_lenSlice Try.underlying25 rfl hl3) rfl ?_
    refine GoR.op rfl rfl (aOp_gtr rfl rfl (r := true) (decide_eq_true (by omega))) rfl ?_
    refine GoR.op rfl rfl rfl rfl ?_
    refine GoR.end ?_
    refine Go.cond noJ_ok (b := true) rfl ?_
    refine Go.seq noJ_ok ?_
    refine Go.region noJ_ok rfl ?_
    refine GoR.op rfl rfl rfl rfl ?_
    refine GoR.end ?_
    exact Go.ret noJ_ok (ret_end (aResult_of Try.func23 rfl rfl) ⟨false, rfl, (fun q => by cases q), e0⟩)
end Go.Proofs.Ytmdheijpnlonoaa

set_option linter.unusedSimpArgs false
namespace Go.AbsE
open Go
section
variable {P : Program} {t : Tr AVal} {h : AH} {dst : Option Tmp} {ty tt ty2 : TypeId} {pos : String} {after : Array Edge} {guard : Option (Nat × Bool)} {x y : Operand} {a b : Int}
theorem aOp_rem {r : Int} (hx : ev t x = some (.int .i64 a)) (hy : ev t y = some (.int .i64 b)) (hb : b ≠ 0) (hr : a.tmod b = r) : aOp P t h ⟨dst, .binOp .rem ty x y ty2, tt, pos, after, guard⟩ = some (.val (.int .i64 r) h) := by
  refine aOp_bin hx hy ?_
  have : pureRun P (binOp .rem ty (.int .i64 a) (.int .i64 b)) = some (.int .i64 (a.tmod b)) := by
    show pureRun P (if IntKind.i64 ≠ IntKind.i64 then stuck "BinOp: operands of different kinds" else Op.intDiv .rem .i64 a b) = _
    rw [if_neg (fun h => h rfl)]
    unfold Op.intDiv
    rw [if_neg hb]
    rfl
  show (match pureRun P (binOp .rem ty (.int .i64 a) (.int .i64 b)) with | some v => absV v | none => none) = _
  rw [this, ← hr]
  rfl
theorem aOp_convU8 {src dt : TypeId} {sd : TypeDesc} {w : Int} (hx : ev t x = some (.int .u8 w)) (hs : P.underlying src = some sd) (hu : P.underlying dt = some (.int .i64)) (hw : 0 ≤ w ∧ w < 256) : aOp P t h ⟨dst, .convert src dt x, tt, pos, after, guard⟩ = some (.val (.int .i64 w) h) := by
  show opConvert P t h src dt x = _
  unfold opConvert
  rw [hx]
  have : pureRun P (convert src dt (.int .u8 w)) = some (.int .i64 w) := by
    unfold convert
    rw [pureRun_bind, pr_underlying hs]
    simp only [Option.bind_some, pureRun_bind, pr_underlying hu]
    have : IntKind.i64.wrap w = w := by
      rw [← wrap64_eq]
      exact wrap64_in (by constructor <;> omega)
    cases sd <;> (show pureRun P (Conv.intToInt .i64 w) = _; unfold Conv.intToInt; rw [this]; rfl)
  simp only [this]
  rfl
end
section
variable {h : AH}
theorem aOp_neqBool {P : Program} {t : Tr AVal} {dst : Option Tmp} {ty tt ty2 : TypeId} {pos : String} {after : Array Edge} {guard : Option (Nat × Bool)} {x y : Operand} {a b r : Bool} (hx : ev t x = some (.bool a)) (hy : ev t y = some (.bool b)) (hu : P.underlying ty = some .bool) (hr : (!(a == b)) = r) : aOp P t h ⟨dst, .binOp .neq ty x y ty2, tt, pos, after, guard⟩ = some (.val (.bool r) h) := by
  show opBin P t h .neq ty x y = _
  unfold opBin
  rw [hx, hy]
  have : pureRun P (binOp .neq ty (.bool a) (.bool b)) = some (.bool (!(a == b))) := by
    show pureRun P (Op.equal ty (.bool a) (.bool b) >>= fun r => pure (Value.bool (!r))) = _
    rw [pureRun_bind]
    have : pureRun P (Op.equal ty (.bool a) (.bool b)) = some (a == b) := by
      show pureRun P (Op.equalIn (9999 + 1) ty (.bool a) (.bool b)) = _
      unfold Op.equalIn
      rw [pureRun_bind, pr_underlying hu]
      rfl
    rw [this]
    rfl
  show valO h (match pureRun P (binOp .neq ty (.bool a) (.bool b)) with | some v => absV v | none => none) = _
  rw [this, ← hr]
  rfl


theorem aOp_eqlBool {P : Program} {t : Tr AVal} {dst : Option Tmp} {ty tt ty2 : TypeId} {pos : String} {after : Array Edge} {guard : Option (Nat × Bool)} {x y : Operand} {a b r : Bool} (hx : ev t x = some (.bool a)) (hy : ev t y = some (.bool b)) (hu : P.underlying ty = some .bool) (hr : (a == b) = r) : aOp P t h ⟨dst, .binOp .eql ty x y ty2, tt, pos, after, guard⟩ = some (.val (.bool r) h) := by
  show opBin P t h .eql ty x y = _
  unfold opBin
  rw [hx, hy]
  have : pureRun P (binOp .eql ty (.bool a) (.bool b)) = some (.bool (a == b)) := by
    show pureRun P (Op.equal ty (.bool a) (.bool b) >>= fun r => pure (Value.bool r)) = _
    rw [pureRun_bind]
    have : pureRun P (Op.equal ty (.bool a) (.bool b)) = some (a == b) := by
      show pureRun P (Op.equalIn (9999 + 1) ty (.bool a) (.bool b)) = _
      unfold Op.equalIn
      rw [pureRun_bind, pr_underlying hu]
      rfl
    rw [this]
    rfl
  show valO h (match pureRun P (binOp .eql ty (.bool a) (.bool b)) with | some v => absV v | none => none) = _
  rw [this, ← hr]
  rfl
end
section
variable {P : Program}
theorem aOp_max3 {t : Tr AVal} {h : AH} {dst : Option Tmp} {tt : TypeId} {pos : String} {after : Array Edge} {guard : Option (Nat × Bool)} {x y z : Operand} {tys : Array TypeId} {a b c r : Int} (hx : ev t x = some (.int .i64 a)) (hy : ev t y = some (.int .i64 b)) (hz : ev t z = some (.int .i64 c)) (hr : (if (if a < b then b else a) < c then c else (if a < b then b else a)) = r) :
    aOp P t h ⟨dst, .call ⟨.builtin .max, #[x, y, z], tys⟩, tt, pos, after, guard⟩ = some (.val (.int .i64 r) h) := by
  show opCall P t h ⟨.builtin .max, #[x, y, z], tys⟩ tt = _
  have he : evs t [x, y, z] = some [.int .i64 a, .int .i64 b, .int .i64 c] := by simp only [evs, mapO, hx, hy, hz]
  simp only [opCall, he, callWith, aBuiltin, grounds, AVal.ground]
  subst hr
  rfl

/-- Ways that part and come together again. -/
theorem Go.join {c : FC} {k : List AItem} {Q : AM → Prop} {x : Code} {t : Tr AVal} {h : AH} {α : Type} (L : α → List (Nat × AVal)) (M : α → AH → Prop)
    (first : ∀ k', (∀ a t' h', keepOk t' (L a) → M a h' → Go P c k' t' h' Q) → Go P c (.code x :: k') t h Q)
    (next : ∀ a h', M a h' → Go P c k (keepT (L a)) h' Q) : Go P c (.code x :: k) t h Q :=
  first k fun a t' h' hk hm => Go.keep (L a) hk (next a h' hm)
end
end Go.AbsE

namespace Go.Proofs.Ytmdheijpnlonoaa
open Go Go.AbsE
set_option linter.unusedSimpArgs false
/-! How wet heaps are by what is known, as calls that are known. -/
noncomputable def toInts : List AVal → Option (List Int)
  | [] => some []
  | .int .i64 n :: l => match toInts l with | some r => some (n :: r) | none => none
  | _ => none
noncomputable def toSps : List AVal → Option (List (Int × Int))
  | [] => some []
  | .int .i64 a :: .int .i64 b :: l => match toSps l with | some r => some ((a, b) :: r) | none => none
  | _ => none
noncomputable def intIn (n : Int) : Bool := match n with | .ofNat m => Nat.ble m 9223372036854775807 | .negSucc m => Nat.ble m 9223372036854775807
noncomputable def allB {α : Type} (f : α → Bool) : List α → Bool
  | [] => true
  | a :: l => cond (f a) (allB f l) false
noncomputable def decE (en : AMapE) : Option (Int × List Int × List (Int × Int)) :=
  match absV en.key, en.val with
  | some (.agg (.int .i64 k :: l)), .agg cs => match toInts l, toSps cs with
    | some fs, some vs => cond (Nat.beq fs.length 6) (cond (Nat.beq vs.length 6) (cond (allB intIn fs) (cond (allB (fun p => cond (intIn p.1) (intIn p.2) false) vs) (some (k, fs, vs)) none) none) none) none
    | _, _ => none
  | _, _ => none
noncomputable def decF (en : AMapE) : Int × List Int × List (Int × Int) := (decE en).getD default
noncomputable def freshB (n : Nat) : List AMapE → Bool
  | [] => true
  | e :: l => cond (Nat.beq e.born n) false (freshB n l)
noncomputable def goodM (clock : Nat) : List AMapE → Bool
  | [] => true
  | e :: l => cond (Nat.blt e.born clock) (cond (freshB e.born l) (cond (decE e).isSome (goodM clock l) false) false) false

noncomputable def jwRun (f : FuncId) (args : List AVal) (h : AH) : Option AVal :=
  cond (Nat.beq f 39)
    (match args with
      | [.map b, .int .i64 hp, .int .i64 (.ofNat d)] => match mapB h b with
        | some (es, clock) => cond (goodM clock es) (cond (Nat.blt d 6) (cond (Nat.blt b h.next) (some (.agg (spC (joinL (es.map (wetM decF hp d)))))) none) none) none
        | none => none
      | _ => none)
    (cond (Nat.beq f 41)
      (match args with
        | [.map b, .int .i64 (.ofNat d)] => match mapB h b with
          | some (es, clock) => cond (goodM clock es) (cond (Nat.blt d 6) (cond (Nat.blt b h.next) (some (.agg (spC (joinL (es.map (rainM decF d)))))) none) none) none
          | none => none
        | _ => none) none)
noncomputable def JW : Jump := ⟨jwRun⟩

theorem toInts_ok : ∀ {l : List AVal} {r : List Int}, toInts l = some r → l = r.map (.int .i64)
  | [], r, h => by cases h; rfl
  | a :: l, r, h => by
    unfold toInts at h
    split at h
    · rename_i heq; cases heq
    · rename_i n l' heq
      cases heq
      split at h
      · rename_i r' hr
        cases h
        rw [toInts_ok hr]; rfl
      · cases h
    · cases h
theorem toSps_ok : ∀ (n : Nat) {l : List AVal} {r : List (Int × Int)}, l.length ≤ n → toSps l = some r → l = r.flatMap spC
  | 0, l, r, hn, h => by
    have : l = [] := List.eq_nil_of_length_eq_zero (by omega)
    subst this
    cases h; rfl
  | n + 1, l, r, hn, h => by
    unfold toSps at h
    split at h
    · cases h; rfl
    · rename_i a b l' 
      split at h
      · rename_i r' hr
        cases h
        rw [toSps_ok n (by simp at hn; omega) hr]; rfl
      · cases h
    · cases h
theorem intIn_ok {n : Int} (h : intIn n = true) : I64 n := by
  unfold intIn at h
  unfold I64
  split at h
  · have := Nat.le_of_ble_eq_true h
    simp only [Int.ofNat_eq_natCast]
    omega
  · have := Nat.le_of_ble_eq_true h
    omega
theorem allB_ok {α : Type} {f : α → Bool} : ∀ {l : List α}, allB f l = true → ∀ a, a ∈ l → f a = true
  | [], _, a, h => by cases h
  | x :: l, h, a, ha => by
    unfold allB at h
    cases hx : f x with
    | false => rw [hx] at h; cases h
    | true =>
      rw [hx] at h
      rcases List.mem_cons.1 ha with rfl | ha
      · exact hx
      · exact allB_ok h a ha
theorem decE_ok {en : AMapE} {x : Int × List Int × List (Int × Int)} (h : decE en = some x) : EntryIs en x.1 x.2.1 x.2.2 ∧ (∀ n, n ∈ x.2.1 → I64 n) ∧ ∀ p, p ∈ x.2.2 → InSp p := by
  unfold decE at h
  split at h
  · rename_i k l cs hk hv
    split at h
    · rename_i fs vs h1 h2
      cases a1 : Nat.beq fs.length 6 <;> rw [a1] at h <;> first | (cases h; done) | skip
      cases a2 : Nat.beq vs.length 6 <;> rw [a2] at h <;> first | (cases h; done) | skip
      cases a3 : allB intIn fs <;> rw [a3] at h <;> first | (cases h; done) | skip
      cases a4 : allB (fun p : Int × Int => cond (intIn p.1) (intIn p.2) false) vs <;> rw [a4] at h <;> first | (cases h; done) | skip
      cases h
      refine ⟨⟨by rw [hk, toInts_ok h1], by rw [hv, toSps_ok _ (Nat.le_refl _) h2], Nat.eq_of_beq_eq_true a1, Nat.eq_of_beq_eq_true a2⟩, fun n hn => intIn_ok (allB_ok a3 n hn), fun p hp => ?_⟩
      have := allB_ok a4 p hp
      cases q : intIn p.1 with
      | false => rw [q] at this; cases this
      | true =>
        rw [q] at this
        exact ⟨(intIn_ok q).2, (intIn_ok this).1⟩
    · cases h
  · cases h
theorem freshB_ok {n : Nat} : ∀ {l : List AMapE}, freshB n l = true → ∀ a, a ∈ l → n ≠ a.born
  | [], _, a, h => by cases h
  | x :: l, h, a, ha => by
    unfold freshB at h
    cases hx : Nat.beq x.born n with
    | true => rw [hx] at h; cases h
    | false =>
      rw [hx] at h
      rcases List.mem_cons.1 ha with rfl | ha
      · exact fun q => by rw [q, Nat.beq_refl] at hx; cases hx
      · exact freshB_ok h a ha
theorem goodM_ok {clock : Nat} : ∀ {l : List AMapE}, goodM clock l = true → (∀ en, en ∈ l → en.born < clock ∧ (decE en).isSome = true) ∧ l.Pairwise fun a b => a.born ≠ b.born
  | [], _ => ⟨fun _ h => (by cases h), List.Pairwise.nil⟩
  | x :: l, h => by
    unfold goodM at h
    cases a1 : Nat.blt x.born clock <;> rw [a1] at h <;> first | (cases h; done) | skip
    cases a2 : freshB x.born l <;> rw [a2] at h <;> first | (cases h; done) | skip
    cases a3 : (decE x).isSome <;> rw [a3] at h <;> first | (cases h; done) | skip
    obtain ⟨q1, q2⟩ := goodM_ok h
    refine ⟨fun en hen => ?_, List.pairwise_cons.2 ⟨fun b hb => freshB_ok a2 b hb, q2⟩⟩
    rcases List.mem_cons.1 hen with rfl | hen
    · exact ⟨blt_true a1, a3⟩
    · exact q1 en hen
theorem known_of {h : AH} {b clock : Nat} {es : List AMapE} (hb : b < h.next) (hm : mapB h b = some (es, clock)) (hg : goodM clock es = true) : Known h b es clock decF := by
  obtain ⟨q1, q2⟩ := goodM_ok hg
  have hd : ∀ en, en ∈ es → decE en = some (decF en) := fun en hen => by
    have := (q1 en hen).2
    unfold decF
    cases q : decE en with
    | none => rw [q] at this; cases this
    | some x => rfl
  exact ⟨⟨hb, hm, fun en hen => (q1 en hen).1, q2⟩, fun en hen => (decE_ok (hd en hen)).1, fun en hen => (decE_ok (hd en hen)).2.1, fun en hen => (decE_ok (hd en hen)).2.2⟩

/-- A memory with one map, which is only read. -/
noncomputable def oneMap (n b : Nat) (es : List AMapE) (clock : Nat) : AH := ⟨Tr.leaf.put (pth b) (some (.romap es clock)), n⟩
theorem oneMap_get {n b : Nat} {es : List AMapE} {clock : Nat} (b' : Nat) : (oneMap n b es clock).get b' = if b = b' then some (.romap es clock) else none := by
  show (Tr.put _ _ _).get (pth b') = _
  rw [Tr.get_put _ _ (pth_ok' _)]
  by_cases h : b = b'
  · rw [if_pos h, if_pos (by rw [h])]
  · rw [if_neg h, if_neg (fun q => h (pth_inj' q)), Tr.get_leaf]
theorem JW_ok : JOk Try.prog JW := by
  refine JOk.ofRuns fun f args h v hv => ?_
  change jwRun f args h = some v at hv
  unfold jwRun at hv
  have key : ∀ {b es clock}, mapB h b = some (es, clock) → goodM clock es = true → b < h.next → Known (oneMap h.next b es clock) b es clock decF ∧ (∀ b' o, (oneMap h.next b es clock).get b' = some o → ∃ es' c, o = .romap es' c ∧ mapB h b' = some (es', c)) := by
    intro b es clock h1 h2 h3
    refine ⟨known_of (by exact h3) (by unfold mapB; rw [oneMap_get, if_pos rfl]) h2, fun b' o q => ?_⟩
    rw [oneMap_get] at q
    by_cases hb : b = b'
    · rw [if_pos hb] at q
      cases q
      subst hb
      exact ⟨es, clock, rfl, h1⟩
    · rw [if_neg hb] at q; cases q
  cases a1 : Nat.beq f 39 with
  | true =>
    rw [a1, cond_true] at hv
    have := Nat.eq_of_beq_eq_true a1
    subst this
    split at hv
    · rename_i b hp d
      split at hv
      · rename_i es clock hm
        cases b1 : goodM clock es <;> rw [b1] at hv <;> first | (cases hv; done) | skip
        cases b2 : Nat.blt d 6 <;> rw [b2] at hv <;> first | (cases hv; done) | skip
        cases b3 : Nat.blt b h.next <;> rw [b3] at hv <;> first | (cases hv; done) | skip
        cases hv
        obtain ⟨k1, k2⟩ := key hm b1 (blt_true b3)
        exact ⟨rfl, oneMap h.next b es clock, rfl, k2, (wet_ok k1 hp d (blt_true b2)).mono fun en h' q => q.1⟩
      · cases hv
    · cases hv
  | false =>
    rw [a1, cond_false] at hv
    cases a2 : Nat.beq f 41 with
    | false => rw [a2] at hv; cases hv
    | true =>
      rw [a2, cond_true] at hv
      have := Nat.eq_of_beq_eq_true a2
      subst this
      split at hv
      · rename_i b d
        split at hv
        · rename_i es clock hm
          cases b1 : goodM clock es <;> rw [b1] at hv <;> first | (cases hv; done) | skip
          cases b2 : Nat.blt d 6 <;> rw [b2] at hv <;> first | (cases hv; done) | skip
          cases b3 : Nat.blt b h.next <;> rw [b3] at hv <;> first | (cases hv; done) | skip
          cases hv
          obtain ⟨k1, k2⟩ := key hm b1 (blt_true b3)
          exact ⟨rfl, oneMap h.next b es clock, rfl, k2, (rain_ok k1 d (blt_true b2)).mono fun en h' q => q.1⟩
        · cases hv
      · cases hv
end Go.Proofs.Ytmdheijpnlonoaa
