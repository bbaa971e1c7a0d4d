import Derived.Test.YtmdheijpnlonoaaMAN
import Derived.Test.YtmdheijpnlonoaaMAK
import Derived.Test.YtmdheijpnlonoaaChecked
import Derived.KernelRfl
import Derived.Test.YtmdheijpnlonoaaMAH
namespace Go.Proofs.Ytmdheijpnlonoaa
open Go Go.AbsE
set_option linter.unusedSimpArgs false
set_option maxRecDepth 100000
set_option maxHeartbeats 0
set_option linter.unusedVariables false
theorem Wet_yes {F : FieldV} (O : F.Ok) (hne : F.ents ≠ []) (hsl rsl lsl : AVal) (i : Nat) (hi : i < F.hs.length) (d : Nat) (hd : d < F.rs.length) (h : AH) (A : FieldAt h F hsl rsl lsl) :
    Runs Try.prog 13 [.agg (F.cells hsl rsl lsl), .int .i64 i, .int .i64 d] h (fun en h' => en = .ret (.tuple [.agg (spC (F.wet (i : Nat) d)), .int .i64 0]) ∧ Ext h h') := by
  have hB := wetB_ok O hne hsl rsl lsl i d hi hd
  have hat := attempt_does O hsl rsl lsl
  unfold FieldV.cells fieldC at hat hB ⊢
  refine Runs.intro aFunc13 rfl rfl rfl rfl fun rest => ?_
  refine Go.seq noJ_ok ?_
  refine Go.region noJ_ok rfl ?_
  refine GoR.box rfl rfl rfl rfl rfl rfl fun h0 x0 f0 => ?_
  have e0 := x0
  have := f0.1
  refine GoR.box rfl rfl rfl rfl rfl rfl fun h1 x1 f1 => ?_
  have := e0.1
  have := f0.1
  replace f0 := f0.ext x1
  replace e0 := e0.trans x1
  have := f1.1
  refine GoR.box rfl rfl rfl rfl rfl rfl fun h2 x2 f2 => ?_
  have := e0.1
  have := f1.1
  have := f0.1
  replace f1 := f1.ext x2
  replace f0 := f0.ext x2
  replace e0 := e0.trans x2
  have := f2.1
  refine GoR.alloc rfl rfl rfl zt30 rfl rfl fun h3 x3 f3 => ?_
  have := e0.1
  have := f2.1
  have := f1.1
  have := f0.1
  replace f2 := f2.ext x3
  replace f1 := f1.ext x3
  replace f0 := f0.ext x3
  replace e0 := e0.trans x3
  have := f3.1
  refine GoR.op rfl rfl rfl rfl ?_
  refine GoR.end ?_
  refine Go.seq noJ_ok ?_
  refine Go.region noJ_ok rfl ?_
  refine GoR.op rfl rfl (ld27 rfl f0 rfl) rfl ?_
  refine GoR.op rfl rfl rfl rfl ?_
  have hS : ∀ b, (fun b => b = h2.next) b → b < h3.next := fun b q => by omega
  refine GoR.call rfl rfl (aOp_callFunc aFunc34 rfl) (hat _ (A.ext e0) 35 _ aFunc35 _ (fun b => b = h2.next) hS (fun h' => Has h' h2.next (.cells .plain (spC (F.wet (i : Nat) d)) 30)) (fun h4 h' le same t => t.keep le (same _ (by assumption))) (fun h' e => hB _ _ _ h' ((A.ext e0).ext e) (f1.ext e) (f2.ext e) (f3.ext e) (by omega) (by omega))) ?_ (by rintro _ _ ⟨q, _⟩; cases q)
  rintro v9 h9 ⟨q, y9, f9⟩
  cases q
  refine ⟨_, rfl, ?_⟩
  have e9 := y9.low e0 (fun b q => by omega)
  clear e0 y9
  refine GoR.op rfl rfl rfl rfl ?_
  refine GoR.end ?_
  refine Go.seq noJ_ok ?_
  refine Go.region noJ_ok rfl ?_
  refine GoR.op rfl rfl (ld30 rfl f9 rfl) rfl ?_
  refine GoR.op rfl rfl rfl rfl ?_
  refine GoR.store rfl rfl rfl rfl rfl rfl f9 rfl sz30 rfl rfl rfl fun h10 u10 => ?_
  replace f9 := u10.has f9
  first | replace e9 := e9.upd u10 (by omega) | clear e9
  refine GoR.op rfl rfl rfl rfl ?_
  refine GoR.end ?_
  exact Go.ret noJ_ok (ret_end (aResult_of Try.func13 rfl (aResults_cellC rfl f9 (inCells_agg ag30 sz30 rfl) rfl)) ⟨rfl, e9⟩)
end Go.Proofs.Ytmdheijpnlonoaa

namespace Go.Proofs.Ytmdheijpnlonoaa
open Go Go.AbsE
set_option linter.unusedSimpArgs false
set_option maxRecDepth 100000
set_option maxHeartbeats 0
set_option linter.unusedVariables false
theorem in57_ok (n a b : Int) {r : Bool} (hr : decide (a ≤ n ∧ n ≤ b) = r) (h : AH) : Runs Try.prog 57 [.int .i64 n, .int .i64 a, .int .i64 b] h (fun en h' => en = .ret (.bool r) ∧ Ext h h') := by
  have e0 : Ext h h := Ext.refl _
  by_cases h1 : a ≤ n
  · by_cases h2 : n ≤ b
    · have : r = true := by rw [← hr]; simp; omega
      subst this
      refine Runs.intro aFunc57 rfl rfl rfl rfl fun rest => ?_
      refine Go.seq noJ_ok ?_
      refine Go.region noJ_ok rfl ?_
      refine GoR.op rfl rfl rfl rfl ?_
      refine GoR.end ?_
      refine Go.seq noJ_ok ?_
      refine Go.region noJ_ok rfl ?_
      iterate 2 refine GoR.op rfl rfl rfl rfl ?_
      refine GoR.op rfl rfl (aOp_leq rfl rfl (r := true) (decide_eq_true (by omega))) rfl ?_
      iterate 3 refine GoR.op rfl rfl rfl rfl ?_
      refine GoR.op rfl rfl (aOp_leq rfl rfl (r := true) (decide_eq_true (by omega))) rfl ?_
      iterate 2 refine GoR.op rfl rfl rfl rfl ?_
      refine GoR.end ?_
      exact Go.ret noJ_ok (ret_end (aResult_of Try.func57 rfl rfl) ⟨rfl, e0⟩)
    · have : r = false := by rw [← hr]; simp; omega
      subst this
      refine Runs.intro aFunc57 rfl rfl rfl rfl fun rest => ?_
      refine Go.seq noJ_ok ?_
      refine Go.region noJ_ok rfl ?_
      refine GoR.op rfl rfl rfl rfl ?_
      refine GoR.end ?_
      refine Go.seq noJ_ok ?_
      refine Go.region noJ_ok rfl ?_
      iterate 2 refine GoR.op rfl rfl rfl rfl ?_
      refine GoR.op rfl rfl (aOp_leq rfl rfl (r := true) (decide_eq_true (by omega))) rfl ?_
      iterate 3 refine GoR.op rfl rfl rfl rfl ?_
      refine GoR.op rfl rfl (aOp_leq rfl rfl (r := false) (decide_eq_false (by omega))) rfl ?_
      iterate 2 refine GoR.op rfl rfl rfl rfl ?_
      refine GoR.end ?_
      exact Go.ret noJ_ok (ret_end (aResult_of Try.func57 rfl rfl) ⟨rfl, e0⟩)
  · have : r = false := by rw [← hr]; simp; omega
    subst this
    refine Runs.intro aFunc57 rfl rfl rfl rfl fun rest => ?_
    refine Go.seq noJ_ok ?_
    refine Go.region noJ_ok rfl ?_
    refine GoR.op rfl rfl rfl rfl ?_
    refine GoR.end ?_
    refine Go.seq noJ_ok ?_
    refine Go.region noJ_ok rfl ?_
    iterate 2 refine GoR.op rfl rfl rfl rfl ?_
    refine GoR.op rfl rfl (aOp_leq rfl rfl (r := false) (decide_eq_false (by omega))) rfl ?_
    refine GoR.op rfl rfl rfl rfl ?_
    iterate 3 refine GoR.skip rfl rfl rfl ?_
    iterate 2 refine GoR.op rfl rfl rfl rfl ?_
    refine GoR.end ?_
    exact Go.ret noJ_ok (ret_end (aResult_of Try.func57 rfl rfl) ⟨rfl, e0⟩)
theorem span58_ok (lo hi a b : Int) {r : Bool} (hr : decide (0 ≤ lo ∧ lo ≤ hi ∧ hi ≤ a ∧ hi - lo ≤ b) = r) (ha : a ≤ 1000) (h : AH) : Runs Try.prog 58 [.agg [.int .i64 lo, .int .i64 hi], .int .i64 a, .int .i64 b] h (fun en h' => en = .ret (.bool r) ∧ Ext h h') := by
  by_cases h1 : 0 ≤ lo
  · by_cases h2 : lo ≤ hi
    · by_cases h3 : hi ≤ a
      · by_cases h4 : hi - lo ≤ b
        · have : r = true := by rw [← hr]; simp; omega
          subst this
          refine Runs.intro aFunc58 rfl rfl rfl rfl fun rest => ?_
          refine Go.seq noJ_ok ?_
          refine Go.region noJ_ok rfl ?_
          refine GoR.box rfl rfl rfl rfl rfl rfl fun h5 x5 f5 => ?_
          have e0 := x5
          have := f5.1
          refine GoR.op rfl rfl rfl rfl ?_
          refine GoR.end ?_
          refine Go.seq noJ_ok ?_
          refine Go.region noJ_ok rfl ?_
          refine GoR.op rfl rfl (fa30_0 rfl) rfl ?_
          refine GoR.op rfl rfl (ld3 rfl f5 rfl) rfl ?_
          refine GoR.op rfl rfl (aOp_leq rfl rfl (r := true) (decide_eq_true (by omega))) rfl ?_
          refine GoR.op rfl rfl rfl rfl ?_
          refine GoR.op rfl rfl (fa30_0 rfl) rfl ?_
          refine GoR.op rfl rfl (ld3 rfl f5 rfl) rfl ?_
          refine GoR.op rfl rfl (fa30_1 rfl) rfl ?_
          refine GoR.op rfl rfl (ld3 rfl f5 rfl) rfl ?_
          refine GoR.op rfl rfl (aOp_leq rfl rfl (r := true) (decide_eq_true (by omega))) rfl ?_
          iterate 2 refine GoR.op rfl rfl rfl rfl ?_
          refine GoR.op rfl rfl (fa30_1 rfl) rfl ?_
          refine GoR.op rfl rfl (ld3 rfl f5 rfl) rfl ?_
          refine GoR.op rfl rfl rfl rfl ?_
          refine GoR.op rfl rfl (aOp_leq rfl rfl (r := true) (decide_eq_true (by omega))) rfl ?_
          iterate 2 refine GoR.op rfl rfl rfl rfl ?_
          refine GoR.op rfl rfl (fa30_1 rfl) rfl ?_
          refine GoR.op rfl rfl (ld3 rfl f5 rfl) rfl ?_
          refine GoR.op rfl rfl (fa30_0 rfl) rfl ?_
          refine GoR.op rfl rfl (ld3 rfl f5 rfl) rfl ?_
          refine GoR.op rfl rfl (aOp_sub rfl rfl (by constructor <;> omega) rfl) rfl ?_
          refine GoR.op rfl rfl rfl rfl ?_
          refine GoR.op rfl rfl (aOp_leq rfl rfl (r := true) (decide_eq_true (by omega))) rfl ?_
          iterate 2 refine GoR.op rfl rfl rfl rfl ?_
          refine GoR.end ?_
          exact Go.ret noJ_ok (ret_end (aResult_of Try.func58 rfl rfl) ⟨rfl, e0⟩)
        · have : r = false := by rw [← hr]; simp; omega
          subst this
          refine Runs.intro aFunc58 rfl rfl rfl rfl fun rest => ?_
          refine Go.seq noJ_ok ?_
          refine Go.region noJ_ok rfl ?_
          refine GoR.box rfl rfl rfl rfl rfl rfl fun h5 x5 f5 => ?_
          have e0 := x5
          have := f5.1
          refine GoR.op rfl rfl rfl rfl ?_
          refine GoR.end ?_
          refine Go.seq noJ_ok ?_
          refine Go.region noJ_ok rfl ?_
          refine GoR.op rfl rfl (fa30_0 rfl) rfl ?_
          refine GoR.op rfl rfl (ld3 rfl f5 rfl) rfl ?_
          refine GoR.op rfl rfl (aOp_leq rfl rfl (r := true) (decide_eq_true (by omega))) rfl ?_
          refine GoR.op rfl rfl rfl rfl ?_
          refine GoR.op rfl rfl (fa30_0 rfl) rfl ?_
          refine GoR.op rfl rfl (ld3 rfl f5 rfl) rfl ?_
          refine GoR.op rfl rfl (fa30_1 rfl) rfl ?_
          refine GoR.op rfl rfl (ld3 rfl f5 rfl) rfl ?_
          refine GoR.op rfl rfl (aOp_leq rfl rfl (r := true) (decide_eq_true (by omega))) rfl ?_
          iterate 2 refine GoR.op rfl rfl rfl rfl ?_
          refine GoR.op rfl rfl (fa30_1 rfl) rfl ?_
          refine GoR.op rfl rfl (ld3 rfl f5 rfl) rfl ?_
          refine GoR.op rfl rfl rfl rfl ?_
          refine GoR.op rfl rfl (aOp_leq rfl rfl (r := true) (decide_eq_true (by omega))) rfl ?_
          iterate 2 refine GoR.op rfl rfl rfl rfl ?_
          refine GoR.op rfl rfl (fa30_1 rfl) rfl ?_
          refine GoR.op rfl rfl (ld3 rfl f5 rfl) rfl ?_
          refine GoR.op rfl rfl (fa30_0 rfl) rfl ?_
          refine GoR.op rfl rfl (ld3 rfl f5 rfl) rfl ?_
          refine GoR.op rfl rfl (aOp_sub rfl rfl (by constructor <;> omega) rfl) rfl ?_
          refine GoR.op rfl rfl rfl rfl ?_
          refine GoR.op rfl rfl (aOp_leq rfl rfl (r := false) (decide_eq_false (by omega))) rfl ?_
          iterate 2 refine GoR.op rfl rfl rfl rfl ?_
          refine GoR.end ?_
          exact Go.ret noJ_ok (ret_end (aResult_of Try.func58 rfl rfl) ⟨rfl, e0⟩)
      · have : r = false := by rw [← hr]; simp; omega
        subst this
        refine Runs.intro aFunc58 rfl rfl rfl rfl fun rest => ?_
        refine Go.seq noJ_ok ?_
        refine Go.region noJ_ok rfl ?_
        refine GoR.box rfl rfl rfl rfl rfl rfl fun h4 x4 f4 => ?_
        have e0 := x4
        have := f4.1
        refine GoR.op rfl rfl rfl rfl ?_
        refine GoR.end ?_
        refine Go.seq noJ_ok ?_
        refine Go.region noJ_ok rfl ?_
        refine GoR.op rfl rfl (fa30_0 rfl) rfl ?_
        refine GoR.op rfl rfl (ld3 rfl f4 rfl) rfl ?_
        refine GoR.op rfl rfl (aOp_leq rfl rfl (r := true) (decide_eq_true (by omega))) rfl ?_
        refine GoR.op rfl rfl rfl rfl ?_
        refine GoR.op rfl rfl (fa30_0 rfl) rfl ?_
        refine GoR.op rfl rfl (ld3 rfl f4 rfl) rfl ?_
        refine GoR.op rfl rfl (fa30_1 rfl) rfl ?_
        refine GoR.op rfl rfl (ld3 rfl f4 rfl) rfl ?_
        refine GoR.op rfl rfl (aOp_leq rfl rfl (r := true) (decide_eq_true (by omega))) rfl ?_
        iterate 2 refine GoR.op rfl rfl rfl rfl ?_
        refine GoR.op rfl rfl (fa30_1 rfl) rfl ?_
        refine GoR.op rfl rfl (ld3 rfl f4 rfl) rfl ?_
        refine GoR.op rfl rfl rfl rfl ?_
        refine GoR.op rfl rfl (aOp_leq rfl rfl (r := false) (decide_eq_false (by omega))) rfl ?_
        iterate 2 refine GoR.op rfl rfl rfl rfl ?_
        iterate 7 refine GoR.skip rfl rfl rfl ?_
        iterate 2 refine GoR.op rfl rfl rfl rfl ?_
        refine GoR.end ?_
        exact Go.ret noJ_ok (ret_end (aResult_of Try.func58 rfl rfl) ⟨rfl, e0⟩)
    · have : r = false := by rw [← hr]; simp; omega
      subst this
      refine Runs.intro aFunc58 rfl rfl rfl rfl fun rest => ?_
      refine Go.seq noJ_ok ?_
      refine Go.region noJ_ok rfl ?_
      refine GoR.box rfl rfl rfl rfl rfl rfl fun h3 x3 f3 => ?_
      have e0 := x3
      have := f3.1
      refine GoR.op rfl rfl rfl rfl ?_
      refine GoR.end ?_
      refine Go.seq noJ_ok ?_
      refine Go.region noJ_ok rfl ?_
      refine GoR.op rfl rfl (fa30_0 rfl) rfl ?_
      refine GoR.op rfl rfl (ld3 rfl f3 rfl) rfl ?_
      refine GoR.op rfl rfl (aOp_leq rfl rfl (r := true) (decide_eq_true (by omega))) rfl ?_
      refine GoR.op rfl rfl rfl rfl ?_
      refine GoR.op rfl rfl (fa30_0 rfl) rfl ?_
      refine GoR.op rfl rfl (ld3 rfl f3 rfl) rfl ?_
      refine GoR.op rfl rfl (fa30_1 rfl) rfl ?_
      refine GoR.op rfl rfl (ld3 rfl f3 rfl) rfl ?_
      refine GoR.op rfl rfl (aOp_leq rfl rfl (r := false) (decide_eq_false (by omega))) rfl ?_
      iterate 2 refine GoR.op rfl rfl rfl rfl ?_
      iterate 4 refine GoR.skip rfl rfl rfl ?_
      iterate 2 refine GoR.op rfl rfl rfl rfl ?_
      iterate 7 refine GoR.skip rfl rfl rfl ?_
      iterate 2 refine GoR.op rfl rfl rfl rfl ?_
      refine GoR.end ?_
      exact Go.ret noJ_ok (ret_end (aResult_of Try.func58 rfl rfl) ⟨rfl, e0⟩)
  · have : r = false := by rw [← hr]; simp; omega
    subst this
    refine Runs.intro aFunc58 rfl rfl rfl rfl fun rest => ?_
    refine Go.seq noJ_ok ?_
    refine Go.region noJ_ok rfl ?_
    refine GoR.box rfl rfl rfl rfl rfl rfl fun h2 x2 f2 => ?_
    have e0 := x2
    have := f2.1
    refine GoR.op rfl rfl rfl rfl ?_
    refine GoR.end ?_
    refine Go.seq noJ_ok ?_
    refine Go.region noJ_ok rfl ?_
    refine GoR.op rfl rfl (fa30_0 rfl) rfl ?_
    refine GoR.op rfl rfl (ld3 rfl f2 rfl) rfl ?_
    refine GoR.op rfl rfl (aOp_leq rfl rfl (r := false) (decide_eq_false (by omega))) rfl ?_
    refine GoR.op rfl rfl rfl rfl ?_
    iterate 5 refine GoR.skip rfl rfl rfl ?_
    iterate 2 refine GoR.op rfl rfl rfl rfl ?_
    iterate 4 refine GoR.skip rfl rfl rfl ?_
    iterate 2 refine GoR.op rfl rfl rfl rfl ?_
    iterate 7 refine GoR.skip rfl rfl rfl ?_
    iterate 2 refine GoR.op rfl rfl rfl rfl ?_
    refine GoR.end ?_
    exact Go.ret noJ_ok (ret_end (aResult_of Try.func58 rfl rfl) ⟨rfl, e0⟩)
theorem heap59_ok {F : FieldV} (hsl rsl lsl : AVal) (h1 : lenA hsl = some F.hs.length) (hn : F.hs.length ≤ 100) (n : Int) {r : Bool} (hr : decide (0 ≤ n ∧ n < F.hs.length) = r) (h : AH) : Runs Try.prog 59 [.agg (F.cells hsl rsl lsl), .int .i64 n] h (fun en h' => en = .ret (.bool r) ∧ Ext h h') := by
  have hr' : decide (0 ≤ n ∧ n ≤ (F.hs.length : Int) - 1) = r := by
    rw [← hr]
    exact decide_eq_decide.2 ⟨fun ⟨a, b⟩ => ⟨a, by omega⟩, fun ⟨a, b⟩ => ⟨a, by omega⟩⟩
  unfold FieldV.cells fieldC
  refine Runs.intro aFunc59 rfl rfl rfl rfl fun rest => ?_
  refine Go.seq noJ_ok ?_
  refine Go.region noJ_ok rfl ?_
  refine GoR.box rfl rfl rfl rfl rfl rfl fun h2 x2 f2 => ?_
  have e0 := x2
  have := f2.1
  refine GoR.op rfl rfl rfl rfl ?_
  refine GoR.end ?_
  refine Go.seq noJ_ok ?_
  refine Go.region noJ_ok rfl ?_
  refine GoR.op rfl rfl rfl rfl ?_
  refine GoR.op rfl rfl (fa27_0 rfl) rfl ?_
  refine GoR.op rfl rfl (ld22 rfl f2 rfl) rfl ?_
  refine GoR.op rfl rfl (aOp_lenSlice Try.underlying22 rfl h1) rfl ?_
  refine GoR.op rfl rfl (aOp_sub rfl rfl (by constructor <;> omega) rfl) rfl ?_
  refine GoR.call rfl rfl (aOp_callFunc aFunc57 rfl) (in57_ok n 0 (F.hs.length - 1) hr' _) ?_ (by rintro _ _ ⟨q, _⟩; cases q)
  rintro v3 h3 ⟨q, x3⟩
  cases q
  refine ⟨_, rfl, ?_⟩
  replace f2 := f2.ext x3
  replace e0 := e0.trans x3
  refine GoR.op rfl rfl rfl rfl ?_
  refine GoR.end ?_
  exact Go.ret noJ_ok (ret_end (aResult_of Try.func59 rfl rfl) ⟨rfl, e0⟩)
theorem day60_ok {F : FieldV} (hsl rsl lsl : AVal) (h1 : lenA rsl = some F.rs.length) (hn : F.rs.length ≤ 100) (n : Int) {r : Bool} (hr : decide (0 ≤ n ∧ n < F.rs.length) = r) (h : AH) : Runs Try.prog 60 [.agg (F.cells hsl rsl lsl), .int .i64 n] h (fun en h' => en = .ret (.bool r) ∧ Ext h h') := by
  have hr' : decide (0 ≤ n ∧ n ≤ (F.rs.length : Int) - 1) = r := by
    rw [← hr]
    exact decide_eq_decide.2 ⟨fun ⟨a, b⟩ => ⟨a, by omega⟩, fun ⟨a, b⟩ => ⟨a, by omega⟩⟩
  unfold FieldV.cells fieldC
  refine Runs.intro aFunc60 rfl rfl rfl rfl fun rest => ?_
  refine Go.seq noJ_ok ?_
  refine Go.region noJ_ok rfl ?_
  refine GoR.box rfl rfl rfl rfl rfl rfl fun h2 x2 f2 => ?_
  have e0 := x2
  have := f2.1
  refine GoR.op rfl rfl rfl rfl ?_
  refine GoR.end ?_
  refine Go.seq noJ_ok ?_
  refine Go.region noJ_ok rfl ?_
  refine GoR.op rfl rfl rfl rfl ?_
  refine GoR.op rfl rfl (fa27_1 rfl) rfl ?_
  refine GoR.op rfl rfl (ld23 rfl f2 rfl) rfl ?_
  refine GoR.op rfl rfl (aOp_lenSlice Try.underlying23 rfl h1) rfl ?_
  refine GoR.op rfl rfl (aOp_sub rfl rfl (by constructor <;> omega) rfl) rfl ?_
  refine GoR.call rfl rfl (aOp_callFunc aFunc57 rfl) (in57_ok n 0 (F.rs.length - 1) hr' _) ?_ (by rintro _ _ ⟨q, _⟩; cases q)
  rintro v3 h3 ⟨q, x3⟩
  cases q
  refine ⟨_, rfl, ?_⟩
  replace f2 := f2.ext x3
  replace e0 := e0.trans x3
  refine GoR.op rfl rfl rfl rfl ?_
  refine GoR.end ?_
  exact Go.ret noJ_ok (ret_end (aResult_of Try.func60 rfl rfl) ⟨rfl, e0⟩)
theorem take_all {α : Type} {P : α → Prop} {l : List α} {i : Nat} {x : α} (hx : l[i]? = some x) (h : ∀ y, y ∈ l.take i → P y) (hp : P x) : ∀ y, y ∈ l.take (i + 1) → P y := by
  intro y hy
  rw [List.take_add_one, hx, Option.toList_some] at hy
  rcases List.mem_append.1 hy with hy | hy
  · exact h y hy
  · rw [List.mem_singleton] at hy
    rw [hy]
    exact hp
def HOk (x : HTurf) : Prop := 0 ≤ x.p ∧ x.p ≤ 2 ∧ 0 ≤ x.lo ∧ x.lo ≤ x.hi ∧ x.hi ≤ 100 ∧ x.hi - x.lo ≤ 5
def ROk (r : Int × Int) : Prop := 0 ≤ r.1 ∧ r.1 ≤ r.2 ∧ r.2 ≤ 10 ∧ r.2 - r.1 ≤ 3
def LOk (F : FieldV) (l : LookV) : Prop := 0 ≤ l.heap ∧ l.heap < F.hs.length ∧ 0 ≤ l.day ∧ l.day < F.rs.length ∧ 0 ≤ l.lo ∧ l.lo ≤ l.hi ∧ l.hi ≤ 100
end Go.Proofs.Ytmdheijpnlonoaa

namespace Go.Proofs.Ytmdheijpnlonoaa
open Go Go.AbsE
set_option linter.unusedSimpArgs false
noncomputable def toInts : List AVal → Option (List Int)
  | [] => some []
  | .int .i64 n :: l => match toInts l with | some r => some (n :: r) | none => none
  | _ => none
noncomputable def toSps : List AVal → Option (List (Int × Int))
  | [] => some []
  | .int .i64 a :: .int .i64 b :: l => match toSps l with | some r => some ((a, b) :: r) | none => none
  | _ => none
noncomputable def intIn (n : Int) : Bool := match n with | .ofNat m => Nat.ble m 9223372036854775807 | .negSucc m => Nat.ble m 9223372036854775807
noncomputable def allB {α : Type} (f : α → Bool) : List α → Bool
  | [] => true
  | a :: l => cond (f a) (allB f l) false
noncomputable def decE (en : AMapE) : Option (Int × List Int × List (Int × Int)) :=
  match absV en.key, en.val with
  | some (.agg (.int .i64 k :: l)), .agg cs => match toInts l, toSps cs with
    | some fs, some vs => cond (Nat.beq fs.length 6) (cond (Nat.beq vs.length 6) (cond (allB intIn fs) (cond (allB (fun p => cond (intIn p.1) (intIn p.2) false) vs) (some (k, fs, vs)) none) none) none) none
    | _, _ => none
  | _, _ => none
noncomputable def decF (en : AMapE) : Int × List Int × List (Int × Int) := (decE en).getD default
noncomputable def freshB (n : Nat) : List AMapE → Bool
  | [] => true
  | e :: l => cond (Nat.beq e.born n) false (freshB n l)
noncomputable def goodM (clock : Nat) : List AMapE → Bool
  | [] => true
  | e :: l => cond (Nat.blt e.born clock) (cond (freshB e.born l) (cond (decE e).isSome (goodM clock l) false) false) false
noncomputable def jwRun (f : FuncId) (args : List AVal) (h : AH) : Option AVal :=
  cond (Nat.beq f 39)
    (match args with
      | [.map b, .int .i64 hp, .int .i64 (.ofNat d)] => match mapB h b with
        | some (es, clock) => cond (goodM clock es) (cond (Nat.blt d 6) (cond (Nat.blt b h.next) (some (.agg (spC (joinL (es.map (wetM decF hp d)))))) none) none) none
        | none => none
      | _ => none)
    (cond (Nat.beq f 41)
      (match args with
        | [.map b, .int .i64 (.ofNat d)] => match mapB h b with
          | some (es, clock) => cond (goodM clock es) (cond (Nat.blt d 6) (cond (Nat.blt b h.next) (some (.agg (spC (joinL (es.map (rainM decF d)))))) none) none) none
          | none => none
        | _ => none) none)
noncomputable def JW : Jump := ⟨jwRun⟩
theorem toInts_ok : ∀ {l : List AVal} {r : List Int}, toInts l = some r → l = r.map (.int .i64)
  | [], r, h => by cases h; rfl
  | a :: l, r, h => by
    unfold toInts at h
    split at h
    · rename_i heq; cases heq
    · rename_i n l' heq
      cases heq
      split at h
      · rename_i r' hr
        cases h
        rw [toInts_ok hr]; rfl
      · cases h
    · cases h
theorem toSps_ok : ∀ (n : Nat) {l : List AVal} {r : List (Int × Int)}, l.length ≤ n → toSps l = some r → l = r.flatMap spC
  | 0, l, r, hn, h => by
    have : l = [] := List.eq_nil_of_length_eq_zero (by omega)
    subst this
    cases h; rfl
  | n + 1, l, r, hn, h => by
    unfold toSps at h
    split at h
    · cases h; rfl
    · rename_i a b l'
      split at h
      · rename_i r' hr
        cases h
        rw [toSps_ok n (by simp at hn; omega) hr]; rfl
      · cases h
    · cases h
theorem intIn_ok {n : Int} (h : intIn n = true) : I64 n := by
  unfold intIn at h
  unfold I64
  split at h
  · have := Nat.le_of_ble_eq_true h
    simp only [Int.ofNat_eq_natCast]
    omega
  · have := Nat.le_of_ble_eq_true h
    omega
theorem allB_ok {α : Type} {f : α → Bool} : ∀ {l : List α}, allB f l = true → ∀ a, a ∈ l → f a = true
  | [], _, a, h => by cases h
  | x :: l, h, a, ha => by
    unfold allB at h
    cases hx : f x with
    | false => rw [hx] at h; cases h
    | true =>
      rw [hx] at h
      rcases List.mem_cons.1 ha with rfl | ha
      · exact hx
      · exact allB_ok h a ha
theorem decE_ok {en : AMapE} {x : Int × List Int × List (Int × Int)} (h : decE en = some x) : EntryIs en x.1 x.2.1 x.2.2 ∧ (∀ n, n ∈ x.2.1 → I64 n) ∧ ∀ p, p ∈ x.2.2 → InSp p := by
  unfold decE at h
  split at h
  · rename_i k l cs hk hv
    split at h
    · rename_i fs vs h1 h2
      cases a1 : Nat.beq fs.length 6 <;> rw [a1] at h <;> first | (cases h; done) | skip
      cases a2 : Nat.beq vs.length 6 <;> rw [a2] at h <;> first | (cases h; done) | skip
      cases a3 : allB intIn fs <;> rw [a3] at h <;> first | (cases h; done) | skip
      cases a4 : allB (fun p : Int × Int => cond (intIn p.1) (intIn p.2) false) vs <;> rw [a4] at h <;> first | (cases h; done) | skip
      cases h
      refine ⟨⟨by rw [hk, toInts_ok h1], by rw [hv, toSps_ok _ (Nat.le_refl _) h2], Nat.eq_of_beq_eq_true a1, Nat.eq_of_beq_eq_true a2⟩, fun n hn => intIn_ok (allB_ok a3 n hn), fun p hp => ?_⟩
      have := allB_ok a4 p hp
      cases q : intIn p.1 with
      | false => rw [q] at this; cases this
      | true =>
        rw [q] at this
        exact ⟨(intIn_ok q).2, (intIn_ok this).1⟩
    · cases h
  · cases h
theorem freshB_ok {n : Nat} : ∀ {l : List AMapE}, freshB n l = true → ∀ a, a ∈ l → n ≠ a.born
  | [], _, a, h => by cases h
  | x :: l, h, a, ha => by
    unfold freshB at h
    cases hx : Nat.beq x.born n with
    | true => rw [hx] at h; cases h
    | false =>
      rw [hx] at h
      rcases List.mem_cons.1 ha with rfl | ha
      · exact fun q => by rw [q, Nat.beq_refl] at hx; cases hx
      · exact freshB_ok h a ha
theorem goodM_ok {clock : Nat} : ∀ {l : List AMapE}, goodM clock l = true → (∀ en, en ∈ l → en.born < clock ∧ (decE en).isSome = true) ∧ l.Pairwise fun a b => a.born ≠ b.born
  | [], _ => ⟨fun _ h => (by cases h), List.Pairwise.nil⟩
  | x :: l, h => by
    unfold goodM at h
    cases a1 : Nat.blt x.born clock <;> rw [a1] at h <;> first | (cases h; done) | skip
    cases a2 : freshB x.born l <;> rw [a2] at h <;> first | (cases h; done) | skip
    cases a3 : (decE x).isSome <;> rw [a3] at h <;> first | (cases h; done) | skip
    obtain ⟨q1, q2⟩ := goodM_ok h
    refine ⟨fun en hen => ?_, List.pairwise_cons.2 ⟨fun b hb => freshB_ok a2 b hb, q2⟩⟩
    rcases List.mem_cons.1 hen with rfl | hen
    · exact ⟨blt_true a1, a3⟩
    · exact q1 en hen
theorem known_of {h : AH} {b clock : Nat} {es : List AMapE} (hb : b < h.next) (hm : mapB h b = some (es, clock)) (hg : goodM clock es = true) : Known h b es clock decF := by
  obtain ⟨q1, q2⟩ := goodM_ok hg
  have hd : ∀ en, en ∈ es → decE en = some (decF en) := fun en hen => by
    have := (q1 en hen).2
    unfold decF
    cases q : decE en with
    | none => rw [q] at this; cases this
    | some x => rfl
  exact ⟨⟨hb, hm, fun en hen => (q1 en hen).1, q2⟩, fun en hen => (decE_ok (hd en hen)).1, fun en hen => (decE_ok (hd en hen)).2.1, fun en hen => (decE_ok (hd en hen)).2.2⟩
noncomputable def oneMap (n b : Nat) (es : List AMapE) (clock : Nat) : AH := ⟨Tr.leaf.put (pth b) (some (.romap es clock)), n⟩
theorem oneMap_get {n b : Nat} {es : List AMapE} {clock : Nat} (b' : Nat) : (oneMap n b es clock).get b' = if b = b' then some (.romap es clock) else none := by
  show (Tr.put _ _ _).get (pth b') = _
  rw [Tr.get_put _ _ (pth_ok' _)]
  by_cases h : b = b'
  · rw [if_pos h, if_pos (by rw [h])]
  · rw [if_neg h, if_neg (fun q => h (pth_inj' q)), Tr.get_leaf]
theorem JW_ok : JOk Try.prog JW := by
  refine JOk.ofRuns fun f args h v hv => ?_
  change jwRun f args h = some v at hv
  unfold jwRun at hv
  have key : ∀ {b es clock}, mapB h b = some (es, clock) → goodM clock es = true → b < h.next → Known (oneMap h.next b es clock) b es clock decF ∧ (∀ b' o, (oneMap h.next b es clock).get b' = some o → ∃ es' c, o = .romap es' c ∧ mapB h b' = some (es', c)) := by
    intro b es clock h1 h2 h3
    refine ⟨known_of (by exact h3) (by unfold mapB; rw [oneMap_get, if_pos rfl]) h2, fun b' o q => ?_⟩
    rw [oneMap_get] at q
    by_cases hb : b = b'
    · rw [if_pos hb] at q
      cases q
      subst hb
      exact ⟨es, clock, rfl, h1⟩
    · rw [if_neg hb] at q; cases q
  cases a1 : Nat.beq f 39 with
  | true =>
    rw [a1, cond_true] at hv
    have := Nat.eq_of_beq_eq_true a1
    subst this
    split at hv
    · rename_i b hp d
      split at hv
      · rename_i es clock hm
        cases b1 : goodM clock es <;> rw [b1] at hv <;> first | (cases hv; done) | skip
        cases b2 : Nat.blt d 6 <;> rw [b2] at hv <;> first | (cases hv; done) | skip
        cases b3 : Nat.blt b h.next <;> rw [b3] at hv <;> first | (cases hv; done) | skip
        cases hv
        obtain ⟨k1, k2⟩ := key hm b1 (blt_true b3)
        exact ⟨rfl, oneMap h.next b es clock, rfl, k2, (wet_ok k1 hp d (blt_true b2)).mono fun en h' q => q.1⟩
      · cases hv
    · cases hv
  | false =>
    rw [a1, cond_false] at hv
    cases a2 : Nat.beq f 41 with
    | false => rw [a2] at hv; cases hv
    | true =>
      rw [a2, cond_true] at hv
      have := Nat.eq_of_beq_eq_true a2
      subst this
      split at hv
      · rename_i b d
        split at hv
        · rename_i es clock hm
          cases b1 : goodM clock es <;> rw [b1] at hv <;> first | (cases hv; done) | skip
          cases b2 : Nat.blt d 6 <;> rw [b2] at hv <;> first | (cases hv; done) | skip
          cases b3 : Nat.blt b h.next <;> rw [b3] at hv <;> first | (cases hv; done) | skip
          cases hv
          obtain ⟨k1, k2⟩ := key hm b1 (blt_true b3)
          exact ⟨rfl, oneMap h.next b es clock, rfl, k2, (rain_ok k1 d (blt_true b2)).mono fun en h' q => q.1⟩
        · cases hv
      · cases hv
end Go.Proofs.Ytmdheijpnlonoaa

/- Calls that a run makes, each by a run of its own. -/
namespace Go.Proofs.Ytmdheijpnlonoaa
open Go Go.AbsE
set_option linter.unusedSimpArgs false
noncomputable def entA1 : Go.AbsE.Ent := ⟨13, (.agg ((.slice 0 0 2 2) :: (.slice 1 0 3 3) :: (.int .i64 (Int.ofNat 3)) :: (.int .i64 (Int.ofNat 5)) :: (.int .i64 (Int.ofNat 8)) :: (.int .i64 (Int.ofNat 20)) :: .nilslice :: [])) :: (.int .i64 (Int.ofNat 0)) :: (.int .i64 (Int.ofNat 2)) :: [], ((.int .i64 (Int.ofNat 0)) :: (.int .i64 (Int.ofNat 30)) :: (.int .i64 (Int.ofNat 31)) :: (.int .i64 (Int.ofNat 2)) :: (.int .i64 (Int.ofNat 30)) :: (.int .i64 (Int.ofNat 30)) :: [], 63) :: ((.int .i64 (Int.ofNat 0)) :: (.int .i64 (Int.ofNat 0)) :: (.int .i64 (Int.ofNat 0)) :: (.int .i64 (Int.ofNat 1)) :: (.int .i64 (Int.ofNat 0)) :: (.int .i64 (Int.ofNat 0)) :: [], 30) :: [], (.tuple ((.agg ((.int .i64 (Int.ofNat 21)) :: (.int .i64 (Int.ofNat 26)) :: [])) :: (.int .i64 (Int.ofNat 0)) :: []))⟩
theorem entA1Ok : EntOk Try.prog entA1 := entRun_ok JW_ok (fuel := 1000000) (by kernel_rfl)
noncomputable def entA2 : Go.AbsE.Ent := ⟨14, (.agg ((.slice 0 0 2 2) :: (.slice 1 0 3 3) :: (.int .i64 (Int.ofNat 3)) :: (.int .i64 (Int.ofNat 5)) :: (.int .i64 (Int.ofNat 8)) :: (.int .i64 (Int.ofNat 20)) :: (.slice 2 0 1 1) :: [])) :: (.int .i64 (Int.ofNat 1)) :: [], ((.int .i64 (Int.ofNat 0)) :: (.int .i64 (Int.ofNat 30)) :: (.int .i64 (Int.ofNat 31)) :: (.int .i64 (Int.ofNat 2)) :: (.int .i64 (Int.ofNat 30)) :: (.int .i64 (Int.ofNat 30)) :: [], 63) :: ((.int .i64 (Int.ofNat 0)) :: (.int .i64 (Int.ofNat 0)) :: (.int .i64 (Int.ofNat 0)) :: (.int .i64 (Int.ofNat 1)) :: (.int .i64 (Int.ofNat 0)) :: (.int .i64 (Int.ofNat 0)) :: [], 30) :: ((.int .i64 (Int.ofNat 1)) :: (.int .i64 (Int.ofNat 1)) :: (.int .i64 (Int.ofNat 20)) :: (.int .i64 (Int.ofNat 25)) :: [], 59) :: [], (.tuple ((.agg ((.int .i64 (Int.ofNat 1)) :: (.int .i64 (Int.ofNat 1)) :: [])) :: (.int .i64 (Int.ofNat 0)) :: []))⟩
theorem entA2Ok : EntOk Try.prog entA2 := entRun_ok JW_ok (fuel := 1000000) (by kernel_rfl)
noncomputable def entA3 : Go.AbsE.Ent := ⟨15, (.agg ((.slice 0 0 2 2) :: (.slice 1 0 3 3) :: (.int .i64 (Int.ofNat 3)) :: (.int .i64 (Int.ofNat 5)) :: (.int .i64 (Int.ofNat 8)) :: (.int .i64 (Int.ofNat 20)) :: .nilslice :: [])) :: (.int .i64 (Int.ofNat 1)) :: (.int .i64 (Int.ofNat 1)) :: [], ((.int .i64 (Int.ofNat 0)) :: (.int .i64 (Int.ofNat 30)) :: (.int .i64 (Int.ofNat 31)) :: (.int .i64 (Int.ofNat 2)) :: (.int .i64 (Int.ofNat 30)) :: (.int .i64 (Int.ofNat 30)) :: [], 63) :: ((.int .i64 (Int.ofNat 0)) :: (.int .i64 (Int.ofNat 0)) :: (.int .i64 (Int.ofNat 0)) :: (.int .i64 (Int.ofNat 1)) :: (.int .i64 (Int.ofNat 0)) :: (.int .i64 (Int.ofNat 0)) :: [], 30) :: [], (.tuple ((.int .i64 (Int.ofNat 1)) :: (.int .i64 (Int.ofNat 0)) :: []))⟩
theorem entA3Ok : EntOk Try.prog entA3 := entRun_ok JW_ok (fuel := 1000000) (by kernel_rfl)
noncomputable def entA4 : Go.AbsE.Ent := ⟨16, (.agg ((.slice 0 0 2 2) :: (.slice 1 0 3 3) :: (.int .i64 (Int.ofNat 3)) :: (.int .i64 (Int.ofNat 5)) :: (.int .i64 (Int.ofNat 8)) :: (.int .i64 (Int.ofNat 20)) :: .nilslice :: [])) :: (.int .i64 (Int.ofNat 1)) :: [], ((.int .i64 (Int.ofNat 0)) :: (.int .i64 (Int.ofNat 30)) :: (.int .i64 (Int.ofNat 31)) :: (.int .i64 (Int.ofNat 2)) :: (.int .i64 (Int.ofNat 30)) :: (.int .i64 (Int.ofNat 30)) :: [], 63) :: ((.int .i64 (Int.ofNat 0)) :: (.int .i64 (Int.ofNat 0)) :: (.int .i64 (Int.ofNat 0)) :: (.int .i64 (Int.ofNat 1)) :: (.int .i64 (Int.ofNat 0)) :: (.int .i64 (Int.ofNat 0)) :: [], 30) :: [], (.tuple ((.int .i64 (Int.ofNat 2)) :: (.int .i64 (Int.ofNat 0)) :: []))⟩
theorem entA4Ok : EntOk Try.prog entA4 := entRun_ok JW_ok (fuel := 1000000) (by kernel_rfl)
noncomputable def entA5 : Go.AbsE.Ent := ⟨26, (.agg ((.slice 0 0 2 2) :: (.slice 1 0 3 3) :: (.int .i64 (Int.ofNat 3)) :: (.int .i64 (Int.ofNat 5)) :: (.int .i64 (Int.ofNat 8)) :: (.int .i64 (Int.ofNat 20)) :: .nilslice :: [])) :: [], ((.int .i64 (Int.ofNat 0)) :: (.int .i64 (Int.ofNat 30)) :: (.int .i64 (Int.ofNat 31)) :: (.int .i64 (Int.ofNat 2)) :: (.int .i64 (Int.ofNat 30)) :: (.int .i64 (Int.ofNat 30)) :: [], 63) :: ((.int .i64 (Int.ofNat 0)) :: (.int .i64 (Int.ofNat 0)) :: (.int .i64 (Int.ofNat 0)) :: (.int .i64 (Int.ofNat 1)) :: (.int .i64 (Int.ofNat 0)) :: (.int .i64 (Int.ofNat 0)) :: [], 30) :: [], (.tuple ((.int .i64 (Int.ofNat 0)) :: (.int .i64 (Int.ofNat 4)) :: []))⟩
theorem entA5Ok : EntOk Try.prog entA5 := entRun_ok JW_ok (fuel := 1000000) (by kernel_rfl)
noncomputable def entA6 : Go.AbsE.Ent := ⟨17, (.agg ((.slice 0 0 2 2) :: (.slice 1 0 3 3) :: (.int .i64 (Int.ofNat 3)) :: (.int .i64 (Int.ofNat 5)) :: (.int .i64 (Int.ofNat 8)) :: (.int .i64 (Int.ofNat 20)) :: .nilslice :: [])) :: (.int .i64 (Int.ofNat 2)) :: [], ((.int .i64 (Int.ofNat 0)) :: (.int .i64 (Int.ofNat 30)) :: (.int .i64 (Int.ofNat 31)) :: (.int .i64 (Int.ofNat 2)) :: (.int .i64 (Int.ofNat 30)) :: (.int .i64 (Int.ofNat 30)) :: [], 63) :: ((.int .i64 (Int.ofNat 0)) :: (.int .i64 (Int.ofNat 0)) :: (.int .i64 (Int.ofNat 0)) :: (.int .i64 (Int.ofNat 1)) :: (.int .i64 (Int.ofNat 0)) :: (.int .i64 (Int.ofNat 0)) :: [], 30) :: [], (.tuple ((.int .i64 (Int.ofNat 1)) :: (.int .i64 (Int.ofNat 9)) :: (.int .i64 (Int.ofNat 0)) :: []))⟩
theorem entA6Ok : EntOk Try.prog entA6 := entRun_ok JW_ok (fuel := 1000000) (by kernel_rfl)
noncomputable def entA7 : Go.AbsE.Ent := ⟨18, (.agg ((.slice 0 0 2 2) :: (.slice 1 0 3 3) :: (.int .i64 (Int.ofNat 3)) :: (.int .i64 (Int.ofNat 5)) :: (.int .i64 (Int.ofNat 8)) :: (.int .i64 (Int.ofNat 20)) :: (.slice 2 0 2 2) :: [])) :: [], ((.int .i64 (Int.ofNat 0)) :: (.int .i64 (Int.ofNat 30)) :: (.int .i64 (Int.ofNat 31)) :: (.int .i64 (Int.ofNat 2)) :: (.int .i64 (Int.ofNat 30)) :: (.int .i64 (Int.ofNat 30)) :: [], 63) :: ((.int .i64 (Int.ofNat 0)) :: (.int .i64 (Int.ofNat 0)) :: (.int .i64 (Int.ofNat 0)) :: (.int .i64 (Int.ofNat 1)) :: (.int .i64 (Int.ofNat 0)) :: (.int .i64 (Int.ofNat 0)) :: [], 30) :: ((.int .i64 (Int.ofNat 1)) :: (.int .i64 (Int.ofNat 1)) :: (.int .i64 (Int.ofNat 20)) :: (.int .i64 (Int.ofNat 25)) :: (.int .i64 (Int.ofNat 0)) :: (.int .i64 (Int.ofNat 2)) :: (.int .i64 (Int.ofNat 21)) :: (.int .i64 (Int.ofNat 22)) :: [], 59) :: [], (.tuple ((.int .i64 (Int.ofNat 1)) :: (.int .i64 (Int.ofNat 1)) :: (.int .i64 (Int.ofNat 0)) :: []))⟩
theorem entA7Ok : EntOk Try.prog entA7 := entRun_ok JW_ok (fuel := 1000000) (by kernel_rfl)
end Go.Proofs.Ytmdheijpnlonoaa

/- Calls that a run makes, each by a run of its own. -/
namespace Go.Proofs.Ytmdheijpnlonoaa
open Go Go.AbsE
set_option linter.unusedSimpArgs false
noncomputable def entA8 : Go.AbsE.Ent := ⟨19, (.agg ((.slice 0 0 2 2) :: (.slice 1 0 3 3) :: (.int .i64 (Int.ofNat 3)) :: (.int .i64 (Int.ofNat 5)) :: (.int .i64 (Int.ofNat 8)) :: (.int .i64 (Int.ofNat 20)) :: (.slice 2 0 2 2) :: [])) :: [], ((.int .i64 (Int.ofNat 0)) :: (.int .i64 (Int.ofNat 30)) :: (.int .i64 (Int.ofNat 31)) :: (.int .i64 (Int.ofNat 2)) :: (.int .i64 (Int.ofNat 30)) :: (.int .i64 (Int.ofNat 30)) :: [], 63) :: ((.int .i64 (Int.ofNat 0)) :: (.int .i64 (Int.ofNat 0)) :: (.int .i64 (Int.ofNat 0)) :: (.int .i64 (Int.ofNat 1)) :: (.int .i64 (Int.ofNat 0)) :: (.int .i64 (Int.ofNat 0)) :: [], 30) :: ((.int .i64 (Int.ofNat 1)) :: (.int .i64 (Int.ofNat 1)) :: (.int .i64 (Int.ofNat 20)) :: (.int .i64 (Int.ofNat 25)) :: (.int .i64 (Int.ofNat 0)) :: (.int .i64 (Int.ofNat 2)) :: (.int .i64 (Int.ofNat 21)) :: (.int .i64 (Int.ofNat 22)) :: [], 59) :: [], (.tuple ((.int .i64 (Int.ofNat 3)) :: (.int .i64 (Int.ofNat 0)) :: []))⟩
theorem entA8Ok : EntOk Try.prog entA8 := entRun_ok JW_ok (fuel := 1000000) (by kernel_rfl)
end Go.Proofs.Ytmdheijpnlonoaa

namespace Go.Proofs.Ytmdheijpnlonoaa
open Go Go.AbsE
set_option linter.unusedSimpArgs false
set_option maxRecDepth 100000
noncomputable def knownA : List Go.AbsE.Ent := [entA1, entA2, entA3, entA4, entA5, entA6, entA7, entA8]
theorem knownAOk : JOk Try.prog (tblJ knownA) := tbl_ok (l := knownA) (EntOk.cons entA1Ok (EntOk.cons entA2Ok (EntOk.cons entA3Ok (EntOk.cons entA4Ok (EntOk.cons entA5Ok (EntOk.cons entA6Ok (EntOk.cons entA7Ok (EntOk.cons entA8Ok (EntOk.nil)))))))))
noncomputable def entAlive : Go.AbsE.Ent := ⟨21, [], [], .bool true⟩
theorem aliveOk : EntOk Try.prog entAlive := entRun_ok (orJ_ok JW_ok knownAOk) (fuel := 1000000) (by kernel_rfl)
noncomputable def JA : Jump := tblJ [entAlive]
theorem JA_ok : JOk Try.prog JA := tbl_ok (EntOk.cons aliveOk EntOk.nil)
end Go.Proofs.Ytmdheijpnlonoaa

namespace Go.Proofs.Ytmdheijpnlonoaa
open Go Go.AbsE
set_option linter.unusedSimpArgs false
set_option maxRecDepth 100000
set_option maxHeartbeats 0
set_option linter.unusedVariables false
theorem long_ok (F : FieldV) (hsl rsl lsl : AVal) (n1 n2 n3 : Nat) (h1 : lenA hsl = some n1) (h2 : lenA rsl = some n2) (h3 : lenA lsl = some n3) {r : Bool} (hr : decide (40 < n1 ∨ 40 < n2 ∨ 40 < n3) = r) (h : AH) :
    Runs Try.prog 22 [.agg (F.cells hsl rsl lsl)] h (fun en h' => en = .ret (.bool r) ∧ Ext h h') := by
  unfold FieldV.cells fieldC
  obtain ⟨m, hm⟩ : ∃ m : Int, (if (if ((n1 : Nat) : Int) < (n2 : Nat) then ((n2 : Nat) : Int) else (n1 : Nat)) < (n3 : Nat) then ((n3 : Nat) : Int) else (if ((n1 : Nat) : Int) < (n2 : Nat) then ((n2 : Nat) : Int) else (n1 : Nat))) = m := ⟨_, rfl⟩
  have hr' : decide (40 < m) = r := by
    rw [← hr]
    refine decide_eq_decide.2 ?_
    rw [← hm]
    split <;> split <;> omega
  refine Runs.intro aFunc22 rfl rfl rfl rfl fun rest => ?_
  refine Go.seq noJ_ok ?_
  refine Go.region noJ_ok rfl ?_
  refine GoR.box rfl rfl rfl rfl rfl rfl fun h4 x4 f4 => ?_
  have e0 := x4
  have := f4.1
  refine GoR.op rfl rfl rfl rfl ?_
  refine GoR.end ?_
  refine Go.seq noJ_ok ?_
  refine Go.region noJ_ok rfl ?_
  refine GoR.op rfl rfl (fa27_0 rfl) rfl ?_
  refine GoR.op rfl rfl (ld22 rfl f4 rfl) rfl ?_
  refine GoR.op rfl rfl (aOp_lenSlice Try.underlying22 rfl h1) rfl ?_
  refine GoR.op rfl rfl (fa27_1 rfl) rfl ?_
  refine GoR.op rfl rfl (ld23 rfl f4 rfl) rfl ?_
  refine GoR.op rfl rfl (aOp_lenSlice Try.underlying23 rfl h2) rfl ?_
  refine GoR.op rfl rfl (fa27_4 rfl) rfl ?_
  refine GoR.op rfl rfl (ld25 rfl f4 rfl) rfl ?_
  refine GoR.op rfl rfl (aOp_lenSlice Try.underlying25 rfl h3) rfl ?_
  refine GoR.op rfl rfl (aOp_max3 rfl rfl rfl hm) rfl ?_
  refine GoR.op rfl rfl (aOp_gtr rfl rfl hr') rfl ?_
  refine GoR.op rfl rfl rfl rfl ?_
  refine GoR.end ?_
  exact Go.ret noJ_ok (ret_end (aResult_of Try.func22 rfl rfl) ⟨rfl, e0⟩)
def FieldV.apart (F : FieldV) (k d : Nat) : Int := (F.wet (k : Nat) d).2 - (F.wet (k : Nat) d).1
end Go.Proofs.Ytmdheijpnlonoaa

namespace Go.Proofs.Ytmdheijpnlonoaa
open Go Go.AbsE
set_option linter.unusedSimpArgs false
set_option maxRecDepth 100000
set_option maxHeartbeats 0
set_option linter.unusedVariables false
theorem foldl_lo : ∀ (l : List (Int × Int)) (a : Int × Int), (∀ p, p = a ∨ p ∈ l → (l.foldl joinP a).1 ≤ p.1) ∧ ∃ p, (p = a ∨ p ∈ l) ∧ (l.foldl joinP a).1 = p.1
  | [], a => ⟨fun p hp => (by
      rcases hp with rfl | hp
      · exact Int.le_refl _
      · cases hp), a, Or.inl rfl, rfl⟩
  | x :: l, a => by
    obtain ⟨h1, p, hp, h2⟩ := foldl_lo l (joinP a x)
    have hj : (joinP a x).1 ≤ a.1 ∧ (joinP a x).1 ≤ x.1 ∧ ((joinP a x).1 = a.1 ∨ (joinP a x).1 = x.1) := by
      unfold joinP; dsimp only; split <;> omega
    have h0 := h1 _ (.inl rfl)
    rw [List.foldl_cons]
    refine ⟨fun q hq => ?_, ?_⟩
    · rcases hq with hq | hq
      · rw [hq]; omega
      · rcases List.mem_cons.1 hq with hq | hq
        · rw [hq]; omega
        · exact h1 q (.inr hq)
    · rcases hp with hp | hp
      · rw [hp] at h2
        rcases hj.2.2 with k | k
        · exact ⟨a, .inl rfl, by omega⟩
        · exact ⟨x, .inr (by simp), by omega⟩
      · exact ⟨p, .inr (by simp [hp]), h2⟩
theorem foldl_hi : ∀ (l : List (Int × Int)) (a : Int × Int), (∀ p, p = a ∨ p ∈ l → p.2 ≤ (l.foldl joinP a).2) ∧ ∃ p, (p = a ∨ p ∈ l) ∧ (l.foldl joinP a).2 = p.2
  | [], a => ⟨fun p hp => (by
      rcases hp with rfl | hp
      · exact Int.le_refl _
      · cases hp), a, Or.inl rfl, rfl⟩
  | x :: l, a => by
    obtain ⟨h1, p, hp, h2⟩ := foldl_hi l (joinP a x)
    have hj : a.2 ≤ (joinP a x).2 ∧ x.2 ≤ (joinP a x).2 ∧ ((joinP a x).2 = a.2 ∨ (joinP a x).2 = x.2) := by
      unfold joinP; dsimp only; split <;> omega
    have h0 := h1 _ (.inl rfl)
    rw [List.foldl_cons]
    refine ⟨fun q hq => ?_, ?_⟩
    · rcases hq with hq | hq
      · rw [hq]; omega
      · rcases List.mem_cons.1 hq with hq | hq
        · rw [hq]; omega
        · exact h1 q (.inr hq)
    · rcases hp with hp | hp
      · rw [hp] at h2
        rcases hj.2.2 with k | k
        · exact ⟨a, .inl rfl, by omega⟩
        · exact ⟨x, .inr (by simp), by omega⟩
      · exact ⟨p, .inr (by simp [hp]), h2⟩
theorem joinL_ends {l : List (Int × Int)} (hl : ∀ p, p ∈ l → NG p) (hg : ∃ p, p ∈ l ∧ Good p) :
    (∀ p, p ∈ l → (joinL l).1 ≤ p.1 ∧ p.2 ≤ (joinL l).2) ∧ (∃ p, p ∈ l ∧ Good p ∧ (joinL l).1 = p.1) ∧ (∃ p, p ∈ l ∧ Good p ∧ (joinL l).2 = p.2) := by
  obtain ⟨g, hgl, hgg⟩ := hg
  obtain ⟨a1, p, hp, a2⟩ := foldl_lo l noSp
  obtain ⟨b1, q, hq, b2⟩ := foldl_hi l noSp
  have a3 := a1 g (.inr hgl)
  have b3 := b1 g (.inr hgl)
  unfold Good at hgg
  have n1 : noSp.1 = 9223372036854775807 := rfl
  have n2 : noSp.2 = -9223372036854775808 := rfl
  refine ⟨fun x hx => ⟨a1 x (.inr hx), b1 x (.inr hx)⟩, ?_, ?_⟩
  · rcases hp with hp | hp
    · rw [hp] at a2; omega
    · rcases hl p hp with k | k
      · rw [k] at a2; omega
      · exact ⟨p, hp, k, a2⟩
  · rcases hq with hq | hq
    · rw [hq] at b2; omega
    · rcases hl q hq with k | k
      · rw [k] at b2; omega
      · exact ⟨q, hq, k, b2⟩
theorem fold_get {n d : Nat} (hd : d < n) (hd6 : d < 6) : ∀ (l : List (List Int)) (st : List (Int × Int)), InSp ((st[d]?).getD noE) → (∀ x, x ∈ l → InSp (atD x d, atD x d)) →
    ((l.foldl (fun st x => stepE n x st) st)[d]?).getD noE = (l.map fun x => (atD x d, atD x d)).foldl joinP ((st[d]?).getD noE)
  | [], st, _, _ => rfl
  | x :: l, st, h, hl => by
    have hx : ((stepE n x st)[d]?).getD noE = joinP ((st[d]?).getD noE) (atD x d, atD x d) := by
      unfold stepE
      rw [range_at _ hd6, if_pos hd, Option.getD_some, joinL_two h]
    rw [List.foldl_cons, fold_get hd hd6 l _ (by rw [hx]; exact joinP_in h (hl x (by simp))) fun y hy => hl y (by simp [hy]), hx]
    rfl
theorem atD_mem {c : List Int} {d : Nat} (hd : d < c.length) : atD c d ∈ c := by
  unfold atD
  have : c[d]? = some (c[d]'hd) := by simp
  rw [this]
  exact List.getElem_mem _
theorem evL_at {a b c : Int} {t : TurfV} {rs : List Int} {d : Nat} (hd : d < rs.length) (hn : rs.length ≤ 6) : ((evL a b c t rs)[d]?).getD noE = joinL ((rightC a b c t rs).map fun x => (atD x d, atD x d)) := by
  unfold evL
  have hs : ((startE rs.length)[d]?).getD noE = noSp := by
    unfold startE
    rw [range_at _ (by omega), if_pos hd]
    rfl
  rw [fold_get hd (by omega) _ _ (by rw [hs]; exact noSp_in) ?_, hs]
  · rfl
  · intro x hx
    have h6 := rightC_len hn hx
    have := rightC_in hx _ (atD_mem (d := d) (by omega))
    unfold InSp
    dsimp only
    omega
theorem right_good {a b c : Int} {t : TurfV} {rs : List Int} {d : Nat} (hd : d < rs.length) (hn : rs.length ≤ 6) {x : List Int} (hx : x ∈ rightC a b c t rs) : Good (atD x d, atD x d) := by
  have h6 := rightC_len hn hx
  have := rightC_in hx _ (atD_mem (d := d) (by omega))
  unfold Good
  dsimp only
  omega
theorem evL_ends {a b c : Int} {t : TurfV} {rs : List Int} {d : Nat} (hd : d < rs.length) (hn : rs.length ≤ 6) (hp : possB a b c t rs = true) :
    (∀ x, x ∈ rightC a b c t rs → (((evL a b c t rs)[d]?).getD noE).1 ≤ atD x d ∧ atD x d ≤ (((evL a b c t rs)[d]?).getD noE).2) ∧
    (∃ x, x ∈ rightC a b c t rs ∧ (((evL a b c t rs)[d]?).getD noE).1 = atD x d) ∧ (∃ x, x ∈ rightC a b c t rs ∧ (((evL a b c t rs)[d]?).getD noE).2 = atD x d) := by
  rw [evL_at hd hn]
  have hne : rightC a b c t rs ≠ [] := by
    intro q
    unfold possB at hp
    rw [q] at hp
    cases hp
  obtain ⟨y, hy⟩ := List.exists_mem_of_ne_nil _ hne
  obtain ⟨j1, ⟨p, hp1, _, hp2⟩, q, hq1, _, hq2⟩ := joinL_ends (l := (rightC a b c t rs).map fun x => (atD x d, atD x d))
    (fun p hp => by obtain ⟨x, hx, rfl⟩ := List.mem_map.1 hp; exact .inr (right_good hd hn hx)) ⟨_, List.mem_map.2 ⟨y, hy, rfl⟩, right_good hd hn hy⟩
  obtain ⟨x, hx, rfl⟩ := List.mem_map.1 hp1
  obtain ⟨z, hz, rfl⟩ := List.mem_map.1 hq1
  exact ⟨fun x hx => j1 _ (List.mem_map.2 ⟨x, hx, rfl⟩), ⟨x, hx, hp2⟩, z, hz, hq2⟩
def FieldV.fell (F : FieldV) (l : List Int) : Prop := l ∈ falls F.rs ∧ ∀ T, T ∈ F.ts → possB F.a F.b F.c T l = true
def FieldV.val (F : FieldV) (i d : Nat) (v : Int) : Prop := ∃ l T c, F.fell l ∧ F.ts[i]? = some T ∧ c ∈ rightC F.a F.b F.c T l ∧ v = atD c d
theorem ents_all {F : FieldV} {x : Ent} (h : x ∈ F.ents) : ∃ (l : List Int) (i : Nat) (T : TurfV), F.fell l ∧ F.ts[i]? = some T ∧ x = ((i : Int), padF l, evL F.a F.b F.c T l) := by
  obtain ⟨l, hl, hx⟩ := List.mem_flatMap.1 h
  have hx2 := entsOf_mem hx
  unfold entsOf at hx
  split at hx
  · cases hx
  · rename_i hany
    obtain ⟨i, hi, rfl⟩ := List.mem_mapIdx.1 hx2
    refine ⟨l, i, F.ts[i], ⟨hl, fun T hT => ?_⟩, by simp, rfl⟩
    cases q : possB F.a F.b F.c T l with
    | true => rfl
    | false => exact absurd (List.any_eq_true.2 ⟨T, hT, by rw [q]; rfl⟩) hany
theorem fell_ent {F : FieldV} {l : List Int} (h : F.fell l) {i : Nat} {T : TurfV} (hT : F.ts[i]? = some T) : ((i : Int), padF l, evL F.a F.b F.c T l) ∈ F.ents := by
  refine List.mem_flatMap.2 ⟨l, h.1, ?_⟩
  unfold entsOf
  rw [if_neg ?_]
  · exact List.mem_of_getElem? (entsF_at hT)
  · intro q
    obtain ⟨T, hT, k⟩ := List.any_eq_true.1 q
    rw [h.2 T hT] at k
    cases k
theorem fell_ne {F : FieldV} (O : F.Ok) {l : List Int} (h : F.fell l) : F.ents ≠ [] := by
  have hts : F.ts.length = F.hs.length := turfsOf_len _ _
  have := O.nh
  have h0 : F.ts[0]? = some (F.ts[0]'(by omega)) := by simp
  intro q
  have := fell_ent h h0
  rw [q] at this
  cases this
theorem ne_fell {F : FieldV} (h : F.ents ≠ []) : ∃ l, F.fell l := by
  obtain ⟨x, hx⟩ := List.exists_mem_of_ne_nil _ h
  obtain ⟨l, _, _, k, _⟩ := ents_all hx
  exact ⟨l, k⟩
theorem wet_ends {F : FieldV} (O : F.Ok) (hne : F.ents ≠ []) {i d : Nat} (hi : i < F.hs.length) (hd : d < F.rs.length) :
    (∀ v, F.val i d v → (F.wet i d).1 ≤ v ∧ v ≤ (F.wet i d).2) ∧ F.val i d (F.wet i d).1 ∧ F.val i d (F.wet i d).2 := by
  have hn6 := O.nr.2
  have hts : F.ts.length = F.hs.length := turfsOf_len _ _
  have hget : ∀ l T, l ∈ falls F.rs → ((evL F.a F.b F.c T l)[d]?).getD noSp = ((evL F.a F.b F.c T l)[d]?).getD noE := by
    intro l T hl
    have h6 := evL_len F.a F.b F.c T l
    have : (evL F.a F.b F.c T l)[d]? = some ((evL F.a F.b F.c T l)[d]'(by omega)) := by simp
    rw [this]
    rfl
  have hev : ∀ l T, F.fell l → T ∈ F.ts → Good (((evL F.a F.b F.c T l)[d]?).getD noE) := by
    intro l T hl hT
    have hll := falls_len hl.1
    exact evL_good (by omega) (hl.2 T hT) (by omega)
  obtain ⟨l0, hl0⟩ := ne_fell hne
  have hTi : F.ts[i]? = some (F.ts[i]'(by omega)) := by simp
  obtain ⟨j1, ⟨p, hp1, hp3, hp2⟩, q, hq1, hq3, hq2⟩ := joinL_ends (l := F.ents.map fun x => if x.1 = (i : Int) then (x.2.2[d]?).getD noSp else noSp)
    (fun p hp => by
      obtain ⟨x, hx, rfl⟩ := List.mem_map.1 hp
      obtain ⟨l, k, T, hl, hT, rfl⟩ := ents_all hx
      split
      · dsimp only
        rw [hget l T hl.1]
        exact .inr (hev l T hl (List.mem_of_getElem? hT))
      · exact .inl rfl)
    ⟨_, List.mem_map.2 ⟨_, fell_ent hl0 hTi, rfl⟩, by
      dsimp only
      rw [if_pos rfl, hget _ _ hl0.1]
      exact hev _ _ hl0 (List.mem_of_getElem? hTi)⟩
  have hng : ¬ Good noSp := by unfold Good noSp; omega
  have back : ∀ p, p ∈ F.ents.map (fun x => if x.1 = (i : Int) then (x.2.2[d]?).getD noSp else noSp) → Good p → F.val i d p.1 ∧ F.val i d p.2 := by
    intro p hp hg
    obtain ⟨x, hx, rfl⟩ := List.mem_map.1 hp
    obtain ⟨l, k, T, hl, hT, rfl⟩ := ents_all hx
    dsimp only at hg ⊢
    by_cases hk : (k : Int) = i
    · rw [if_pos hk, hget l T hl.1] at *
      have hk' : k = i := by omega
      subst hk'
      have hll := falls_len hl.1
      obtain ⟨_, ⟨y, hy, y2⟩, z, hz, z2⟩ := evL_ends (d := d) (a := F.a) (b := F.b) (c := F.c) (t := T) (rs := l) (by omega) (by omega) (hl.2 T (List.mem_of_getElem? hT))
      exact ⟨⟨l, T, y, hl, hT, hy, y2⟩, l, T, z, hl, hT, hz, z2⟩
    · rw [if_neg hk] at hg
      exact absurd hg hng
  refine ⟨?_, ?_, ?_⟩
  · rintro v ⟨l, T, c, hl, hT, hc, rfl⟩
    have hll := falls_len hl.1
    have h1 := j1 _ (List.mem_map.2 ⟨_, fell_ent hl hT, rfl⟩)
    dsimp only at h1
    rw [if_pos rfl, hget l T hl.1] at h1
    have h2 := (evL_ends (d := d) (a := F.a) (b := F.b) (c := F.c) (t := T) (rs := l) (by omega) (by omega) (hl.2 T (List.mem_of_getElem? hT))).1 c hc
    unfold FieldV.wet
    omega
  · unfold FieldV.wet; rw [hp2]; exact (back p hp1 hp3).1
  · unfold FieldV.wet; rw [hq2]; exact (back q hq1 hq3).2
end Go.Proofs.Ytmdheijpnlonoaa

namespace Go.Proofs.Ytmdheijpnlonoaa
open Go Go.AbsE
set_option linter.unusedSimpArgs false
set_option maxRecDepth 100000
set_option maxHeartbeats 0
set_option linter.unusedVariables false
theorem ts_at {F : FieldV} {i : Nat} {x : HTurf} (hx : F.hs[i]? = some x) : F.ts[i]? = some (turfAt F.looks i x) := by
  unfold FieldV.ts turfsOf
  rw [List.getElem?_mapIdx, hx]
  rfl
end Go.Proofs.Ytmdheijpnlonoaa

namespace Go.Proofs.Ytmdheijpnlonoaa
open Go Go.AbsE
set_option linter.unusedSimpArgs false
set_option maxRecDepth 100000
set_option maxHeartbeats 0
set_option linter.unusedVariables false
theorem take_succ {α : Type} {l : List α} {i : Nat} {x : α} (h : l[i]? = some x) : l.take (i + 1) = l.take i ++ [x] := by
  rw [List.take_add_one, h, Option.toList_some]
end Go.Proofs.Ytmdheijpnlonoaa

namespace Go.Proofs.Ytmdheijpnlonoaa
open Go Go.AbsE
set_option linter.unusedSimpArgs false
set_option maxRecDepth 100000
set_option maxHeartbeats 0
set_option linter.unusedVariables false
theorem span11_ok (a b : Int) (h : AH) : Runs Try.prog 11 [.int .i64 a, .int .i64 b] h (fun en h' => en = .ret (.agg [.int .i64 a, .int .i64 b]) ∧ Ext h h') := by
  obtain ⟨fs30, hu30, pl30⟩ := flds30
  refine Runs.intro aFunc11 rfl rfl rfl rfl fun rest => ?_
  refine Go.seq noJ_ok ?_
  refine Go.region noJ_ok rfl ?_
  refine GoR.alloc rfl rfl rfl zt30 rfl rfl fun h0 x0 f0 => ?_
  have e0 := x0
  have := f0.1
  refine GoR.end ?_
  refine Go.seq noJ_ok ?_
  refine Go.region noJ_ok rfl ?_
  iterate 2 refine GoR.op rfl rfl rfl rfl ?_
  refine GoR.op rfl rfl (aOp_build (ps := [(0, .int .i64 a), (1, .int .i64 b)]) (cs := [.int .i64 a, .int .i64 b]) zt30 hu30 pl30 rfl rfl) rfl ?_
  refine GoR.store rfl rfl rfl rfl rfl rfl f0 rfl sz30 rfl rfl rfl fun h1 u1 => ?_
  replace f0 := u1.has f0
  first | replace e0 := e0.upd u1 (by omega) | clear e0
  refine GoR.end ?_
  exact Go.ret noJ_ok (ret_end (aResult_of Try.func11 rfl (aResults_cell rfl f0 (inCells_agg ag30 sz30 rfl))) ⟨rfl, e0⟩)
theorem scal_one {v : AVal} (h : scalars [v] = true) : scalar v = true := by
  cases q : scalar v with
  | true => rfl
  | false =>
    unfold scalars at h
    rw [q] at h
    cases h
theorem by30 : bytesT Try.prog 30 = some 16 := by kernel_rfl
theorem spanT : SpanT Try.prog 30 := ⟨⟨_, _, Try.underlying30, by decide, by decide, rfl, rfl, ⟨_, Try.underlying3⟩, ⟨_, Try.underlying3⟩⟩, by kernel_rfl, by kernel_rfl⟩
end Go.Proofs.Ytmdheijpnlonoaa

namespace Go.Proofs.Ytmdheijpnlonoaa
open Go Go.AbsE
set_option linter.unusedSimpArgs false
set_option maxRecDepth 100000
set_option maxHeartbeats 0
set_option linter.unusedVariables false
def FieldV.withL (F : FieldV) (L : List LookV) : FieldV := ⟨F.hs, F.rs, F.a, F.b, F.c, F.lim, L⟩
def FieldV.canB (F : FieldV) : Bool := (falls F.rs).any fun l => F.ts.all fun T => possB F.a F.b F.c T l
theorem poss51_ok {F : FieldV} {L : List LookV} (O : (F.withL L).Ok) (hsl rsl lsl s2 : AVal) (h : AH) (A : FieldAt h F hsl rsl lsl) (hL : SliceOf h 4 s2 (L.map LookV.cells)) :
    Runs Try.prog 51 [.agg (F.cells hsl rsl lsl), s2] h (fun en h' => en = .ret (.bool (F.withL L).canB) ∧ Ext h h') := by
  obtain ⟨G, hG⟩ : ∃ G, F.withL L = G := ⟨_, rfl⟩
  have hGh : G.hs = F.hs := by rw [← hG]; rfl
  have hGr : G.rs = F.rs := by rw [← hG]; rfl
  have hGa : G.a = F.a := by rw [← hG]; rfl
  have hGb : G.b = F.b := by rw [← hG]; rfl
  have hGc : G.c = F.c := by rw [← hG]; rfl
  have hGl : G.looks = L := by rw [← hG]; rfl
  have hGlim : G.lim = F.lim := by rw [← hG]; rfl
  rw [hG] at O ⊢
  have AH : FieldAt h G hsl rsl lsl → True := fun _ => trivial
  have Ah := A.hs
  have Ar := A.rs
  rw [← hGh] at Ah
  rw [← hGr] at Ar
  rw [← hGl] at hL
  have hcells : F.cells hsl rsl lsl = [hsl, rsl, .int .i64 G.a, .int .i64 G.b, .int .i64 G.c, .int .i64 G.lim, lsl] := by rw [hGa, hGb, hGc, hGlim]; rfl
  rw [hcells]
  have hsA := A.hs.scal.1
  have hsB := A.rs.scal.1
  have hsC := A.ls.scal.1
  clear hG hGh hGr hGa hGb hGc hGl hGlim hcells AH A
  have hF := O.nh
  have hF2 := O.nl
  have hfc : fieldC hsl rsl lsl G.a G.b G.c G.lim = [hsl, rsl, .int .i64 G.a, .int .i64 G.b, .int .i64 G.c, .int .i64 G.lim, lsl] := rfl
  have hfr := rains_ok hsl rsl lsl G.a G.b G.c G.lim
  rw [hfc] at hfr
  refine Runs.intro aFunc51 rfl rfl rfl rfl fun rest => ?_
  refine Go.seq noJ_ok ?_
  refine Go.region noJ_ok rfl ?_
  refine GoR.box rfl rfl rfl rfl rfl rfl fun h0 x0 f0 => ?_
  have e0 := x0
  have := f0.1
  refine GoR.op rfl rfl rfl rfl ?_
  refine GoR.end ?_
  refine Go.scope noJ_ok ?_
  refine Go.seq noJ_ok ?_
  refine Go.region noJ_ok rfl ?_
  refine GoR.op rfl rfl (fa74_0 rfl) rfl ?_
  refine GoR.op rfl rfl (ld22 rfl f0 rfl) rfl ?_
  refine GoR.op rfl rfl rfl rfl ?_
  refine GoR.call rfl rfl (aOp_callFunc aFunc67 rfl) (Runs.flip (turfs_ok hsl s2 G.hs G.looks _ (Ah.ext e0) (hL.ext e0) (fun x hx => (O.h x hx).1) (by omega) (by omega))) ?_ (by rintro _ _ ⟨s, sls, q, _, hsls, GG, LG⟩; cases q)
  rintro v1 h1 ⟨s, sls, q, x1, hsls, GG, LG⟩
  cases q
  refine ⟨_, rfl, ?_⟩
  have := e0.1
  replace f0 := f0.ext x1
  replace e0 := e0.trans x1
  refine GoR.alloc rfl rfl rfl zt96 rfl rfl fun h2 x2 f2 => ?_
  have := e0.1
  have := f0.1
  replace f0 := f0.ext x2
  replace e0 := e0.trans x2
  have := f2.1
  refine GoR.store rfl rfl rfl rfl rfl rfl f2 rfl sz96 (grow_st1 GG) (grow_st2 GG) (grow_st3 GG _) fun h3 u3 => ?_
  replace f2 := u3.has f2
  replace f0 := f0.upd u3 (by omega)
  first | replace e0 := e0.upd u3 (by omega) | clear e0
  refine GoR.end ?_
  refine Go.seq noJ_ok ?_
  refine Go.region noJ_ok rfl ?_
  refine GoR.alloc rfl rfl rfl zt4 rfl rfl fun h4 x4 f4 => ?_
  have := e0.1
  have := f2.1
  have := f0.1
  replace f2 := f2.ext x4
  replace f0 := f0.ext x4
  replace e0 := e0.trans x4
  have := f4.1
  refine GoR.store rfl rfl rfl rfl rfl rfl f4 rfl sz4 rfl rfl rfl fun h5 u5 => ?_
  replace f4 := u5.has f4
  replace f2 := f2.upd u5 (by omega)
  replace f0 := f0.upd u5 (by omega)
  first | replace e0 := e0.upd u5 (by omega) | clear e0
  refine GoR.end ?_
  refine Go.seq noJ_ok ?_
  refine Go.label noJ_ok ?_
  iterate 2 refine Go.seq noJ_ok ?_
  refine Go.region noJ_ok rfl ?_
  refine GoR.op rfl rfl (ld74 rfl f0 rfl) rfl ?_
  refine GoR.call rfl rfl (aOp_callFunc aFunc68 rfl) (hfr _) ?_ (by rintro _ _ ⟨bf, q, _, hbf, f77⟩; cases q)
  rintro v6 h6 ⟨bf, q, x6, hbf, f77⟩
  cases q
  refine ⟨_, rfl, ?_⟩
  have := e0.1
  replace f4 := f4.ext x6
  replace f2 := f2.ext x6
  replace f0 := f0.ext x6
  replace e0 := e0.trans x6
  refine GoR.end ?_
  refine Go.block noJ_ok ?_
  obtain ⟨s, hs⟩ : ∃ s, s = v1 := ⟨_, rfl⟩
  subst hs
  have hx0 := x0.1
  have hx1 := x1.1
  have hx2 := x2.1
  have hu3 := u3.1
  have hx4 := x4.1
  have hu5 := u5.1
  have hx6 := x6.1
  have hlt4 := f4.1
  have e16 : Ext h1 h6 := (((x2.upd u3 (Nat.le_refl _)).trans x4).upd u5 (by omega)).trans x6
  have hz : G.ts.length = G.hs.length := turfsOf_len _ _
  have D := O.dries
  have hn6 := O.nr.2
  obtain ⟨n, hn⟩ : ∃ n, G.rs.length = n := ⟨_, rfl⟩
  rw [hn] at hn6
  have hlenR := Ar.len
  rw [List.length_map, hn] at hlenR
  have TF : ∀ hh, ExtF (fun b => b = h3.next) h6 hh → TurfsAt hh s G.ts sls := fun hh x => by
    have hk : ∀ b, h0.next ≤ b → b < h1.next → hh.get b = h1.get b := fun b b1 b2 => by rw [x.2 b (by omega) (by omega), e16.2 b b2]
    have hxx := x.1
    refine turfsAt_of (lo := h0.next) (by rw [hsls, hz]) ?_ ?_
    · rw [hz]
      exact GG.keep (by omega) fun b b1 b2 _ => hk b b1 b2
    · intro k T sl k1 k2
      exact (LG k T sl k1 k2).keep (by omega) fun b b1 b2 _ => hk b b1 b2
  have FA : ∀ hh, ExtF (fun b => b = h3.next) h6 hh → Ext h hh := fun hh x => x.low e0 (fun b q => by omega)
  obtain ⟨p, hp⟩ : ∃ p : List Int → Bool, (fun l => G.ts.all fun T => possB G.a G.b G.c T l) = p := ⟨_, rfl⟩
  have hcan : G.canB = (falls G.rs).any p := by rw [← hp]; rfl
  refine Go.rangeTk (items := fallI [] G.rs) (A := RainsA bf hsl rsl lsl G.a G.b G.c G.lim G.rs) (fun b => b = h3.next)
    (fun j hh => Has hh h3.next (.cells .plain [.bool false] 4) ∧ ((falls G.rs).take j).any p = false) (fun c hh => c = .exit 0 ∧ Has hh h3.next (.cells .plain [.bool true] 4) ∧ G.canB = true)
    rfl aFunc92 Try.func51 (rains1_it bf hsl rsl lsl G.a G.b G.c G.lim G.rs O.rains) (fun b q => by omega) (fun h' x => ⟨f77.extF x (by omega), Ar.ext (FA h' x)⟩) ⟨f4, by rw [List.take_zero]; rfl⟩ ?_ ?_ ?_ ?_ ?_
  · rintro k p1 p2 ⟨f, g⟩ hn' hk
    exact ⟨f.keep hn' (hk _ hlt4), g⟩
  · rintro c p1 p2 ⟨q, f, g⟩ hn' hk
    exact ⟨q, f.keep hn' (hk _ hlt4), g⟩
  · rintro j item hj
    refine ⟨_, rfl, ?_⟩
    rintro hh lb r0 fr rest' Q' ⟨f, hany⟩ x8 hlb fl hready contT contF
    obtain ⟨l, hl, rfl⟩ : ∃ l, (falls G.rs)[j]? = some l ∧ i64s (padF l) = item := by
      unfold fallI at hj
      rw [List.getElem?_map] at hj
      cases q : (falls G.rs)[j]? with
      | none => rw [q] at hj; cases hj
      | some x => rw [q] at hj; exact ⟨x, rfl, Option.some.inj hj⟩
    have hlm := List.mem_of_getElem? hl
    have hll : l.length = n := by rw [falls_len hlm, hn]
    have hlin := falls_in O.rains.2 hlm
    have hpl := padF_len (l := l) (by omega)
    have htake : (padF l).take n = l := by unfold padF; rw [List.take_append_of_le_length (by omega), List.take_of_length_le (by omega)]
    obtain ⟨w1, w2, w3, w4, w5, w6, hw⟩ := six hpl
    have hnext : ((falls G.rs).take (j + 1)).any p = p l := by
      rw [List.take_add_one, hl, Option.toList_some, List.any_append, hany]
      simp
    rw [hw]
    have hx8 := x8.1
    have hfl := fl.1
    have e9 : Ext h hh := FA hh x8
    have he9 := e9.1
    replace f0 := f0.extF x8 (by omega)
    replace f2 := f2.extF x8 (by omega)
    have y0 : ExtF (fun b => b = h3.next ∨ b = lb) hh hh := ExtF.of (Ext.refl _)
    have y1 := x8
    clear e0 f4 f77
    refine Go.region noJ_ok rfl ?_
    refine GoR.alloc rfl rfl rfl zt102 rfl rfl fun h9 x9 f9 => ?_
    have := e9.1
    have := f.1
    have := fl.1
    have := f0.1
    have := f2.1
    replace f := f.ext x9
    replace fl := fl.ext x9
    replace f0 := f0.ext x9
    replace f2 := f2.ext x9
    replace e9 := e9.trans x9
    replace y0 := y0.ext x9
    replace y1 := y1.ext x9
    have := f9.1
    refine GoR.store rfl rfl rfl rfl rfl rfl f9 rfl sz102 rfl rfl rfl fun h10 u10 => ?_
    replace f9 := u10.has f9
    replace f := f.upd u10 (by omega)
    replace fl := fl.upd u10 (by omega)
    replace f0 := f0.upd u10 (by omega)
    replace f2 := f2.upd u10 (by omega)
    first | replace e9 := e9.upd u10 (by omega) | clear e9
    first | replace y0 := y0.upd u10 (by first | exact .inl rfl | exact .inl (.inl rfl) | exact .inl (.inr rfl) | exact .inl (by assumption) | exact .inr (by omega)) | skip
    first | replace y1 := y1.upd u10 (by first | exact .inl rfl | exact .inl (.inl rfl) | exact .inl (.inr rfl) | exact .inl (by assumption) | exact .inr (by omega)) | skip
    refine GoR.end ?_
    refine Go.beginRound fl hready fun h19 u19 => ?_
    have hu10 := u10.1
    have hx9 := x9.1
    have hu19 := u19.1
    replace f := f.upd u19 (by omega)
    replace f0 := f0.upd u19 (by omega)
    replace f2 := f2.upd u19 (by omega)
    replace f9 := f9.upd u19 (by omega)
    replace fl := u19.has fl
    replace e9 := e9.upd u19 (by omega)
    replace y0 := y0.upd u19 (.inl (.inr rfl))
    replace y1 := y1.upd u19 (.inr (by omega))
    have hlenS := (TF h19 y1).s.len
    rw [List.length_map, List.length_zip, hsls, hz, Nat.min_self] at hlenS
    refine Go.block noJ_ok ?_
    refine Go.seq noJ_ok ?_
    refine Go.region noJ_ok rfl ?_
    refine GoR.op rfl rfl (ld74 rfl f0 rfl) rfl ?_
    refine GoR.op rfl rfl (ld102 rfl f9 rfl) rfl ?_
    refine GoR.call rfl rfl (aOp_callFunc aFunc69 rfl) (days_ok hsl rsl lsl G.a G.b G.c G.lim n hn6 hlenR [w1, w2, w3, w4, w5, w6] rfl _) ?_ (by rintro _ _ ⟨bb, q, _, hbb, f88⟩; cases q)
    rintro v20 h20 ⟨bb, q, x20, hbb, f88⟩
    cases q
    refine ⟨_, rfl, ?_⟩
    have := e9.1
    replace f := f.ext x20
    replace f0 := f0.ext x20
    replace f2 := f2.ext x20
    replace f9 := f9.ext x20
    replace fl := fl.ext x20
    replace e9 := e9.trans x20
    replace y0 := y0.ext x20
    replace y1 := y1.ext x20
    refine GoR.op rfl rfl rfl rfl ?_
    refine GoR.end ?_
    iterate 2 refine Go.seq noJ_ok ?_
    refine Go.region noJ_ok rfl ?_
    refine GoR.op rfl rfl (ld96 rfl f2 rfl) rfl ?_
    refine GoR.op rfl rfl (aOp_lenSlice Try.underlying96 rfl hlenS) rfl ?_
    refine GoR.op rfl rfl rfl rfl ?_
    refine GoR.end ?_
    refine Go.block noJ_ok ?_
    rw [← hw, htake] at f88
    have hr10 : ∀ r, r ∈ l → r ≤ 10 := fun r hr => (hlin r hr).2
    have hpl' : (G.ts.all fun T => possB G.a G.b G.c T l) = p l := by rw [← hp]
    have hb3 : ¬ h3.next = bb := by
      have := hx6
      have := x8.1
      omega
    refine Go.loopKeep (fun i : Nat => [(6, .ptr h3.next 0), (8, .slice bb 0 n n), (21, s), (22, .int .i64 G.hs.length), (23, .int .i64 (i : Nat))])
      (fun m i h' => m + i = G.hs.length ∧ Ext h h' ∧ ExtF (fun b => b = h3.next ∨ b = lb) hh h' ∧ ExtF (fun b => b = h3.next) h6 h' ∧ Has h' h3.next (.cells .plain [.bool false] 4) ∧
        Has h' bb (.cells .plain (l.map (wV G.a G.b G.c)) 134) ∧ Has h' lb (.loop { r0 with state := .busy }) ∧ ((G.ts.take i).all fun T => possB G.a G.b G.c T l) = true)
      (n := G.hs.length) 0 ⟨rfl, rfl, rfl, rfl, rfl, trivial⟩ ⟨rfl, e9, y0, y1, f, f88, fl, by rw [List.take_zero]; rfl⟩ ?_
    clear e9 y0 y1 f f88 fl f0 f2 f9
    rintro m i hc ⟨hm, e0, y0, y1, f, f88, fl, hall⟩ again
    by_cases hi' : i < G.hs.length
    · have TC := TF hc y1
      obtain ⟨T, hT⟩ : ∃ T, G.ts[i]? = some T := ⟨G.ts[i]'(by omega), by simp⟩
      obtain ⟨sl, hsl⟩ : ∃ sl, sls[i]? = some sl := ⟨sls[i]'(by omega), by simp⟩
      obtain ⟨bq, off, q1, q2⟩ := TC.s.at (i := i) (l := T.cells sl) (by rw [List.getElem?_map, List.getElem?_zip_eq_some (z := (T, sl)) |>.2 ⟨hT, hsl⟩]; rfl)
      rw [List.length_map, List.length_zip, hsls, hz, Nat.min_self] at q1
      have hTO := O.ts T (List.mem_of_getElem? hT)
      have hsc := tcells_scal (t := T) (TC.l i T sl hT hsl)
      have htk : ((G.ts.take (i + 1)).all fun T => possB G.a G.b G.c T l) = possB G.a G.b G.c T l := by
        rw [List.take_add_one, hT, Option.toList_some, List.all_append, hall]
        simp
      have hpo := fun h' (y : ExtF (fun b => b = h3.next) h6 h') f => possible_ok D hTO sl bb n l hll hn6 hr10 h' f ((TF _ y).l i T sl hT hsl)
      unfold TurfV.cells at hsc q2 hpo
      cases hb : possB G.a G.b G.c T l with
      | true =>
        rw [hb] at htk hpo
        refine Go.seq noJ_ok ?_
        refine Go.region noJ_ok rfl ?_
        refine GoR.op rfl rfl (aOp_lss rfl rfl (r := true) (decide_eq_true (by omega))) rfl ?_
        refine GoR.end ?_
        refine Go.seq noJ_ok ?_
        refine Go.cond noJ_ok (b := true) rfl ?_
        refine Go.code noJ_ok ?_
        refine Go.seq noJ_ok ?_
        refine Go.block noJ_ok ?_
        refine Go.seq noJ_ok ?_
        refine Go.region noJ_ok rfl ?_
        refine GoR.op rfl rfl (aOp_indexAddr Try.underlying96 sz106 rfl q1 rfl (Nat.ble_eq_true_of_le hi')) rfl ?_
        refine GoR.op rfl rfl (aOp_loadE ag106 sz106 rfl q2) rfl ?_
        refine GoR.alloc rfl rfl rfl zt106 rfl rfl fun h89 x89 f89 => ?_
        have := e0.1
        have := f.1
        have := f88.1
        have := fl.1
        replace f := f.ext x89
        replace f88 := f88.ext x89
        replace fl := fl.ext x89
        replace e0 := e0.trans x89
        replace y0 := y0.ext x89
        replace y1 := y1.ext x89
        have := f89.1
        refine GoR.store rfl rfl rfl rfl rfl rfl f89 rfl sz106 rfl hsc rfl fun h90 u90 => ?_
        replace f89 := u90.has f89
        replace f := f.upd u90 (by omega)
        replace f88 := f88.upd u90 (by omega)
        replace fl := fl.upd u90 (by omega)
        first | replace e0 := e0.upd u90 (by omega) | clear e0
        first | replace y0 := y0.upd u90 (by first | exact .inl rfl | exact .inl (.inl rfl) | exact .inl (.inr rfl) | exact .inl (by assumption) | exact .inr (by omega)) | skip
        first | replace y1 := y1.upd u90 (by first | exact .inl rfl | exact .inl (.inl rfl) | exact .inl (.inr rfl) | exact .inl (by assumption) | exact .inr (by omega)) | skip
        refine GoR.end ?_
        refine Go.seq noJ_ok ?_
        refine Go.region noJ_ok rfl ?_
        refine GoR.op rfl rfl (ld106 rfl f89 rfl) rfl ?_
        refine GoR.op rfl rfl rfl rfl ?_
        refine GoR.call rfl rfl (aOp_callFunc aFunc71 rfl) (hpo _ y1 f88) ?_ (by rintro _ _ ⟨q, _⟩; cases q)
        rintro v91 h91 ⟨q, x91⟩
        cases q
        refine ⟨_, rfl, ?_⟩
        replace f89 := f89.ext x91
        replace f := f.ext x91
        replace f88 := f88.ext x91
        replace fl := fl.ext x91
        replace e0 := e0.trans x91
        replace y0 := y0.ext x91
        replace y1 := y1.ext x91
        refine GoR.op rfl rfl rfl rfl ?_
        refine GoR.end ?_
        refine Go.cond noJ_ok (b := false) rfl ?_
        refine Go.code noJ_ok ?_
        refine Go.inBlock noJ_ok ?_
        refine Go.region noJ_ok rfl ?_
        refine GoR.op rfl rfl (aOp_add rfl rfl (by constructor <;> omega) rfl) rfl ?_
        refine GoR.op rfl rfl rfl rfl ?_
        refine GoR.end ?_
        exact again (m - 1) (i + 1) _ _ (by omega) ⟨rfl, rfl, rfl, rfl, rfl, trivial⟩ ⟨by omega, e0, y0, y1, f, f88, fl, htk⟩
      | false =>
        rw [hb] at hpo
        have hpf : p l = false := by
          rw [← hpl', List.all_eq_false]
          exact ⟨T, List.mem_of_getElem? hT, by rw [hb]; decide⟩
        refine Go.seq noJ_ok ?_
        refine Go.region noJ_ok rfl ?_
        refine GoR.op rfl rfl (aOp_lss rfl rfl (r := true) (decide_eq_true (by omega))) rfl ?_
        refine GoR.end ?_
        refine Go.seq noJ_ok ?_
        refine Go.cond noJ_ok (b := true) rfl ?_
        refine Go.code noJ_ok ?_
        refine Go.seq noJ_ok ?_
        refine Go.block noJ_ok ?_
        refine Go.seq noJ_ok ?_
        refine Go.region noJ_ok rfl ?_
        refine GoR.op rfl rfl (aOp_indexAddr Try.underlying96 sz106 rfl q1 rfl (Nat.ble_eq_true_of_le hi')) rfl ?_
        refine GoR.op rfl rfl (aOp_loadE ag106 sz106 rfl q2) rfl ?_
        refine GoR.alloc rfl rfl rfl zt106 rfl rfl fun h89 x89 f89 => ?_
        have := e0.1
        have := f.1
        have := f88.1
        have := fl.1
        replace f := f.ext x89
        replace f88 := f88.ext x89
        replace fl := fl.ext x89
        replace e0 := e0.trans x89
        replace y0 := y0.ext x89
        replace y1 := y1.ext x89
        have := f89.1
        refine GoR.store rfl rfl rfl rfl rfl rfl f89 rfl sz106 rfl hsc rfl fun h90 u90 => ?_
        replace f89 := u90.has f89
        replace f := f.upd u90 (by omega)
        replace f88 := f88.upd u90 (by omega)
        replace fl := fl.upd u90 (by omega)
        first | replace e0 := e0.upd u90 (by omega) | clear e0
        first | replace y0 := y0.upd u90 (by first | exact .inl rfl | exact .inl (.inl rfl) | exact .inl (.inr rfl) | exact .inl (by assumption) | exact .inr (by omega)) | skip
        first | replace y1 := y1.upd u90 (by first | exact .inl rfl | exact .inl (.inl rfl) | exact .inl (.inr rfl) | exact .inl (by assumption) | exact .inr (by omega)) | skip
        refine GoR.end ?_
        refine Go.seq noJ_ok ?_
        refine Go.region noJ_ok rfl ?_
        refine GoR.op rfl rfl (ld106 rfl f89 rfl) rfl ?_
        refine GoR.op rfl rfl rfl rfl ?_
        refine GoR.call rfl rfl (aOp_callFunc aFunc71 rfl) (hpo _ y1 f88) ?_ (by rintro _ _ ⟨q, _⟩; cases q)
        rintro v91 h91 ⟨q, x91⟩
        cases q
        refine ⟨_, rfl, ?_⟩
        replace f89 := f89.ext x91
        replace f := f.ext x91
        replace f88 := f88.ext x91
        replace fl := fl.ext x91
        replace e0 := e0.trans x91
        replace y0 := y0.ext x91
        replace y1 := y1.ext x91
        refine GoR.op rfl rfl rfl rfl ?_
        refine GoR.end ?_
        refine Go.cond noJ_ok (b := true) rfl ?_
        refine Go.code noJ_ok ?_
        exact contT _ _ ⟨f, by rw [hnext]; exact hpf⟩ y0 fl
    · have hin : i = G.hs.length := by omega
      subst hin
      rw [← hz, List.take_length, hpl'] at hall
      have hcan' : G.canB = true := by
        rw [hcan, List.any_eq_true]
        exact ⟨l, hlm, hall⟩
      refine Go.seq noJ_ok ?_
      refine Go.region noJ_ok rfl ?_
      refine GoR.op rfl rfl (aOp_lss rfl rfl (r := false) (decide_eq_false (by omega))) rfl ?_
      refine GoR.end ?_
      refine Go.seq noJ_ok ?_
      refine Go.cond noJ_ok (b := false) rfl ?_
      refine Go.code noJ_ok ?_
      refine Go.seq noJ_ok ?_
      refine Go.region noJ_ok rfl ?_
      refine GoR.store rfl rfl rfl rfl rfl rfl f rfl sz4 rfl rfl rfl fun h89 u89 => ?_
      replace f := u89.has f
      replace f88 := f88.upd u89 (by omega)
      replace fl := fl.upd u89 (by omega)
      first | replace e0 := e0.upd u89 (by omega) | clear e0
      first | replace y0 := y0.upd u89 (by first | exact .inl rfl | exact .inl (.inl rfl) | exact .inl (.inr rfl) | exact .inl (by assumption) | exact .inr (by omega)) | skip
      first | replace y1 := y1.upd u89 (by first | exact .inl rfl | exact .inl (.inl rfl) | exact .inl (.inr rfl) | exact .inl (by assumption) | exact .inr (by omega)) | skip
      refine GoR.end ?_
      exact contF _ _ _ _ (.inr ⟨0, rfl, rfl⟩) ⟨rfl, f, hcan'⟩ y0 fl
  · intro d h8 x8 hd hdd ⟨f, hany⟩
    have hx8 := x8.1
    have e9 : Ext h h8 := FA h8 x8
    have hfl : (fallI [] G.rs).length = (falls G.rs).length := by simp [fallI]
    rw [hfl, List.take_length, ← hcan] at hany
    clear e0 f0 f2 f4 f77
    refine Go.inBlock noJ_ok ?_
    refine Go.seq noJ_ok ?_
    refine Go.region noJ_ok rfl ?_
    refine GoR.op rfl rfl (ld4 rfl f rfl) rfl ?_
    refine GoR.op rfl rfl rfl rfl ?_
    refine GoR.end ?_
    exact Go.retC hdd fun h10 u10 => ⟨aResult_of Try.func51 rfl rfl, by rw [hany]; rfl, e9.upd u10 (by omega)⟩
  · rintro c' d h8 x8 hd hdd ⟨rfl, f, hcan'⟩
    have hx8 := x8.1
    have e9 : Ext h h8 := FA h8 x8
    clear e0 f0 f2 f4 f77
    refine Go.code noJ_ok ?_
    refine Go.seq noJ_ok ?_
    refine Go.region noJ_ok rfl ?_
    refine GoR.op rfl rfl (ld4 rfl f rfl) rfl ?_
    refine GoR.op rfl rfl rfl rfl ?_
    refine GoR.end ?_
    exact Go.retC hdd fun h10 u10 => ⟨aResult_of Try.func51 rfl rfl, by rw [hcan']; rfl, e9.upd u10 (by omega)⟩
end Go.Proofs.Ytmdheijpnlonoaa

namespace Go.Proofs.Ytmdheijpnlonoaa
open Go Go.AbsE
set_option linter.unusedSimpArgs false
set_option maxRecDepth 100000
set_option maxHeartbeats 0
set_option linter.unusedVariables false
theorem lk_len : ∀ L : List LookV, (L.flatMap LookV.cells).length = L.length * 4
  | [] => rfl
  | x :: L => by rw [List.flatMap_cons, List.length_append, lk_len L, List.length_cons, Nat.add_mul]; show 4 + _ = _; omega
theorem lk_take (L : List LookV) (Z : List AVal) {i : Nat} (hi : i ≤ L.length) : (L.flatMap LookV.cells ++ Z).take (i * 4) = (L.take i).flatMap LookV.cells := by
  have h : L.flatMap LookV.cells = (L.take i).flatMap LookV.cells ++ (L.drop i).flatMap LookV.cells := by rw [← List.flatMap_append, List.take_append_drop]
  have hl : ((L.take i).flatMap LookV.cells).length = i * 4 := by rw [lk_len, List.length_take, Nat.min_eq_left hi]
  rw [h, List.append_assoc, ← hl, List.take_left']
  rfl
theorem lk_drop (L : List LookV) (Z : List AVal) {i : Nat} (hi : i ≤ L.length) : (L.flatMap LookV.cells ++ Z).drop (i * 4) = (L.drop i).flatMap LookV.cells ++ Z := by
  have h : L.flatMap LookV.cells = (L.take i).flatMap LookV.cells ++ (L.drop i).flatMap LookV.cells := by rw [← List.flatMap_append, List.take_append_drop]
  have hl : ((L.take i).flatMap LookV.cells).length = i * 4 := by rw [lk_len, List.length_take, Nat.min_eq_left hi]
  rw [h, List.append_assoc, ← hl, List.drop_left']
  rfl
theorem lk_scal : ∀ L : List LookV, scalars (L.flatMap LookV.cells) = true
  | [] => rfl
  | x :: L => by
    have := lk_scal L
    show scalars ([AVal.int .i64 x.heap, .int .i64 x.day, .int .i64 x.lo, .int .i64 x.hi] ++ L.flatMap LookV.cells) = true
    show cond true (cond true (cond true (cond true (scalars (L.flatMap LookV.cells)) false) false) false) false = true
    rw [this]
    rfl
theorem lk_src {h : AH} {b n off len cap : Nat} {g : Kd} {el : TypeId} (L : List LookV) (Z : List AVal) (f : Has h b (.cells g (L.flatMap LookV.cells ++ Z) el)) {i : Nat} (hi : i + n ≤ L.length) (ho : off = i * 4) : srcCells h 4 n (.slice b off len cap) = some (((L.drop i).take n).flatMap LookV.cells) := by
  subst ho
  have h2 := lk_drop L Z (i := i) (by omega)
  have h3 := lk_take (L.drop i) Z (i := n) (by rw [List.length_drop]; omega)
  show AbsE.loadCells h b (i * 4) (n * 4) = _
  unfold AbsE.loadCells
  rw [f.2]
  show slice? (L.flatMap LookV.cells ++ Z) (i * 4) (n * 4) = _
  unfold slice?
  dsimp only
  rw [h2, h3, lk_len, List.length_take, List.length_drop, Nat.min_eq_left (by omega)]
  simp
theorem lk_move (L : List LookV) (Z : List AVal) {i : Nat} (hi : i < L.length) : ∃ Z', splice (L.flatMap LookV.cells ++ Z) (i * 4) ((L.drop (i + 1)).flatMap LookV.cells) = some ((L.eraseIdx i).flatMap LookV.cells ++ Z') ∧ Z'.length = Z.length + 4 := by
  have hd : ((L.drop (i + 1)).flatMap LookV.cells).length = (L.length - (i + 1)) * 4 := by rw [lk_len, List.length_drop]
  have hsum : i * 4 + (L.length - (i + 1)) * 4 = (L.length - 1) * 4 := by omega
  refine ⟨(L.flatMap LookV.cells ++ Z).drop (i * 4 + ((L.drop (i + 1)).flatMap LookV.cells).length), ?_, ?_⟩
  · rw [splice_eq (by rw [hd, List.length_append, lk_len]; omega), lk_take L Z (by omega), ← List.flatMap_append, ← List.eraseIdx_eq_take_drop_succ]
  · rw [List.length_drop, hd, List.length_append, lk_len]
    omega
theorem lk_put (L : List LookV) (Z : List AVal) {m : Nat} (hL : L.length = m) {new : List AVal} (hn : new.length ≤ Z.length) : splice (L.flatMap LookV.cells ++ Z) (m * 4) new = some (L.flatMap LookV.cells ++ (new ++ Z.drop new.length)) := by
  subst hL
  rw [splice_eq (by rw [List.length_append, lk_len]; omega), lk_take L Z (Nat.le_refl _), List.take_length, List.append_assoc]
  congr 3
  have := List.drop_append (l₁ := L.flatMap LookV.cells) (l₂ := Z) (i := L.length * 4 + new.length)
  rw [this, lk_len, List.drop_eq_nil_of_le (by rw [lk_len]; omega), List.nil_append]
  congr 1
  omega
theorem delete81_ok {b n N i : Nat} (L : List LookV) (Z : List AVal) (hL : L.length = n) (hi : i < n) (hN : n ≤ N) (hN5 : N ≤ 100) (hZ : Z.length = (N - n) * 4) (h : AH) (f : Has h b (.cells .plain (L.flatMap LookV.cells ++ Z) 59)) :
    Runs Try.prog 81 [.slice b 0 n N, .int .i64 (i : Nat), .int .i64 ((i : Nat) + 1)] h (fun en h' => en = .ret (.slice b 0 (n - 1) N) ∧ ExtF (fun c => c = b) h h' ∧ ∃ Z', Z'.length = (N - (n - 1)) * 4 ∧ Has h' b (.cells .plain ((L.eraseIdx i).flatMap LookV.cells ++ Z') 59)) := by
  have y0 : ExtF (fun c => c = b) h h := ExtF.of (Ext.refl _)
  have hfb := f.1
  obtain ⟨Z1, m1, m2⟩ := lk_move L Z (i := i) (by omega)
  by_cases hlast : i + 1 ≠ N
  · refine Runs.intro aFunc81 rfl rfl rfl rfl fun rest => ?_
    refine Go.seq noJ_ok ?_
    refine Go.region noJ_ok rfl ?_
    refine GoR.op rfl rfl rfl rfl ?_
    refine GoR.end ?_
    refine Go.seq noJ_ok ?_
    refine Go.region noJ_ok rfl ?_
    iterate 4 refine GoR.op rfl rfl rfl rfl ?_
    refine GoR.op rfl rfl (aOp_lenSlice Try.underlying25 rfl (n := n) rfl) rfl ?_
    refine GoR.op rfl rfl (aOp_slice3 (l := i) (hh := i + 1) (m := n) Try.underlying25 sz59 rfl rfl rfl rfl (by omega) (by omega) (by omega) (by omega)) rfl ?_
    refine GoR.end ?_
    iterate 2 refine Go.seq noJ_ok ?_
    refine Go.region noJ_ok rfl ?_
    iterate 2 refine GoR.op rfl rfl rfl rfl ?_
    refine GoR.op rfl rfl (aOp_eql rfl rfl (r := false) (decide_eq_false (by omega))) rfl ?_
    refine GoR.end ?_
    refine Go.cond noJ_ok (b := false) rfl ?_
    refine Go.code noJ_ok ?_
    refine Go.seq noJ_ok ?_
    refine Go.region noJ_ok rfl ?_
    refine GoR.op rfl rfl rfl rfl ?_
    refine GoR.op rfl rfl (aOp_lenSlice Try.underlying25 rfl (n := n) rfl) rfl ?_
    refine GoR.op rfl rfl rfl rfl ?_
    refine GoR.end ?_
    refine Go.seq noJ_ok ?_
    refine Go.drawnE plan81_0 ?_
    iterate 2 refine GoE.quiet rfl rfl rfl rfl ?_
    refine GoE.quiet rfl rfl (aOp_slice Try.underlying25 sz59 rfl rfl rfl (cut_hi (i := i) (by omega)) hN (by omega)) rfl ?_
    iterate 2 refine GoE.quiet rfl rfl rfl rfl ?_
    refine GoE.quiet rfl rfl (aOp_slice Try.underlying25 sz59 rfl rfl rfl (cut_lo (i := i + 1) (by omega)) hN hlast) rfl ?_
    refine GoE.appendIn rfl rfl Try.underlying25 Try.underlying25 sz59 by59 zt59 rfl rfl rfl rfl (n := n - (i + 1)) (m := n - 1) (new := (L.drop (i + 1)).flatMap LookV.cells) rfl (by rw [lk_src L Z f (i := i + 1) (n := n - (i + 1)) (by omega) (by omega), List.take_of_length_le (by rw [List.length_drop]; omega)]) (by omega) (by omega) (by omega) f rfl (lk_scal _) (by rw [Nat.zero_add, Nat.sub_zero]; exact m1) (dropF_drop (show bit? 63 5 = true from rfl) (dropF_drop (show bit? 63 4 = true from rfl) (dropF_drop (show bit? 63 3 = true from rfl) (dropF_drop (show bit? 63 2 = true from rfl) (dropF_drop (show bit? 63 1 = true from rfl) (dropF_drop (show bit? 63 0 = true from rfl) rfl)))))) rfl rfl fun h1 u1 => ?_
    refine ⟨recheck_nil, ?_⟩
    replace f := u1.has f
    replace y0 := y0.upd u1 (.inl rfl)
    refine GoE.quiet rfl rfl rfl rfl ?_
    refine GoE.end rfl ?_
    refine Go.seq noJ_ok ?_
    refine Go.region noJ_ok rfl ?_
    iterate 2 refine GoR.op rfl rfl rfl rfl ?_
    refine GoR.op rfl rfl (aOp_lenSlice Try.underlying25 rfl (n := n - 1) rfl) rfl ?_
    refine GoR.op rfl rfl rfl rfl ?_
    refine GoR.op rfl rfl (aOp_slice Try.underlying25 sz59 rfl rfl rfl (cut_both (l := n - 1) (hh := n) (by omega) (by omega)) (by omega) (by omega)) rfl ?_
    refine GoR.clear rfl rfl Try.underlying25 zt59 rfl (by omega) f rfl (by rw [show n - (n - 1) = 1 by omega]; rfl) (by rw [Nat.zero_add, show n - (n - 1) = 1 by omega]; exact lk_put _ _ (by rw [List.length_eraseIdx_of_lt (by omega)]; omega) (new := repl (AVal.agg [.int .i64 0, .int .i64 0, .int .i64 0, .int .i64 0]).cells 1) (by rw [m2]; show 4 ≤ _; omega)) fun h2 u2 => ?_
    replace f := u2.has f
    replace y0 := y0.upd u2 (.inl rfl)
    refine GoR.end ?_
    refine Go.seq noJ_ok ?_
    refine Go.region noJ_ok rfl ?_
    iterate 2 refine GoR.op rfl rfl rfl rfl ?_
    refine GoR.end ?_
    exact Go.ret noJ_ok (ret_end (aResult_of Try.func81 rfl rfl) ⟨rfl, y0, _, (by rw [List.length_append, List.length_drop, m2, hZ]; show 4 + (_ - 4) = _; omega), f⟩)
  · have hlast : i + 1 = N := by omega
    subst hlast
    refine Runs.intro aFunc81 rfl rfl rfl rfl fun rest => ?_
    refine Go.seq noJ_ok ?_
    refine Go.region noJ_ok rfl ?_
    refine GoR.op rfl rfl rfl rfl ?_
    refine GoR.end ?_
    refine Go.seq noJ_ok ?_
    refine Go.region noJ_ok rfl ?_
    iterate 4 refine GoR.op rfl rfl rfl rfl ?_
    refine GoR.op rfl rfl (aOp_lenSlice Try.underlying25 rfl (n := n) rfl) rfl ?_
    refine GoR.op rfl rfl (aOp_slice3 (l := i) (hh := i + 1) (m := n) Try.underlying25 sz59 rfl rfl rfl rfl (by omega) (by omega) (by omega) (by omega)) rfl ?_
    refine GoR.end ?_
    iterate 2 refine Go.seq noJ_ok ?_
    refine Go.region noJ_ok rfl ?_
    iterate 2 refine GoR.op rfl rfl rfl rfl ?_
    refine GoR.op rfl rfl (aOp_eql rfl rfl (r := false) (decide_eq_false (by omega))) rfl ?_
    refine GoR.end ?_
    refine Go.cond noJ_ok (b := false) rfl ?_
    refine Go.code noJ_ok ?_
    refine Go.seq noJ_ok ?_
    refine Go.region noJ_ok rfl ?_
    refine GoR.op rfl rfl rfl rfl ?_
    refine GoR.op rfl rfl (aOp_lenSlice Try.underlying25 rfl (n := n) rfl) rfl ?_
    refine GoR.op rfl rfl rfl rfl ?_
    refine GoR.end ?_
    refine Go.seq noJ_ok ?_
    refine Go.drawnE plan81_0 ?_
    iterate 2 refine GoE.quiet rfl rfl rfl rfl ?_
    refine GoE.quiet rfl rfl (aOp_slice Try.underlying25 sz59 rfl rfl rfl (cut_hi (i := i) (by omega)) hN (by omega)) rfl ?_
    iterate 2 refine GoE.quiet rfl rfl rfl rfl ?_
    refine GoE.quiet rfl rfl (aOp_sliceAll Try.underlying25 sz59 rfl rfl rfl (cut_lo (i := i + 1) (by omega)) hN) rfl ?_
    refine GoE.appendIn rfl rfl Try.underlying25 Try.underlying25 sz59 by59 zt59 rfl rfl rfl rfl (n := n - (i + 1)) (m := n - 1) (new := (L.drop (i + 1)).flatMap LookV.cells) rfl (by rw [lk_src L Z f (i := 0) (n := n - (i + 1)) (by omega) (by omega), show n - (i + 1) = 0 by omega, List.take_zero, List.drop_eq_nil_of_le (by omega)]) (by omega) (by omega) (by omega) f rfl (lk_scal _) (by rw [Nat.zero_add, Nat.sub_zero]; exact m1) (dropF_drop (show bit? 63 5 = true from rfl) (dropF_drop (show bit? 63 4 = true from rfl) (dropF_drop (show bit? 63 3 = true from rfl) (dropF_drop (show bit? 63 2 = true from rfl) (dropF_drop (show bit? 63 1 = true from rfl) (dropF_drop (show bit? 63 0 = true from rfl) rfl)))))) rfl rfl fun h1 u1 => ?_
    refine ⟨recheck_nil, ?_⟩
    replace f := u1.has f
    replace y0 := y0.upd u1 (.inl rfl)
    refine GoE.quiet rfl rfl rfl rfl ?_
    refine GoE.end rfl ?_
    refine Go.seq noJ_ok ?_
    refine Go.region noJ_ok rfl ?_
    iterate 2 refine GoR.op rfl rfl rfl rfl ?_
    refine GoR.op rfl rfl (aOp_lenSlice Try.underlying25 rfl (n := n - 1) rfl) rfl ?_
    refine GoR.op rfl rfl rfl rfl ?_
    refine GoR.op rfl rfl (aOp_slice Try.underlying25 sz59 rfl rfl rfl (cut_both (l := n - 1) (hh := n) (by omega) (by omega)) (by omega) (by omega)) rfl ?_
    refine GoR.clear rfl rfl Try.underlying25 zt59 rfl (by omega) f rfl (by rw [show n - (n - 1) = 1 by omega]; rfl) (by rw [Nat.zero_add, show n - (n - 1) = 1 by omega]; exact lk_put _ _ (by rw [List.length_eraseIdx_of_lt (by omega)]; omega) (new := repl (AVal.agg [.int .i64 0, .int .i64 0, .int .i64 0, .int .i64 0]).cells 1) (by rw [m2]; show 4 ≤ _; omega)) fun h2 u2 => ?_
    replace f := u2.has f
    replace y0 := y0.upd u2 (.inl rfl)
    refine GoR.end ?_
    refine Go.seq noJ_ok ?_
    refine Go.region noJ_ok rfl ?_
    iterate 2 refine GoR.op rfl rfl rfl rfl ?_
    refine GoR.end ?_
    exact Go.ret noJ_ok (ret_end (aResult_of Try.func81 rfl rfl) ⟨rfl, y0, _, (by rw [List.length_append, List.length_drop, m2, hZ]; show 4 + (_ - 4) = _; omega), f⟩)
end Go.Proofs.Ytmdheijpnlonoaa
