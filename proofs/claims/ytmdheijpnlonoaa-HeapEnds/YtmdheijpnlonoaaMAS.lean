import Derived.Test.YtmdheijpnlonoaaMAR
import Derived.Test.YtmdheijpnlonoaaMAI
import Derived.Test.YtmdheijpnlonoaaMAP
import Derived.KernelRfl
import Derived.Test.YtmdheijpnlonoaaMAH
namespace Go.Proofs.Ytmdheijpnlonoaa
open Go Go.AbsE
set_option linter.unusedSimpArgs false
set_option maxRecDepth 100000
set_option maxHeartbeats 0
set_option linter.unusedVariables false
theorem valid_bad {F : FieldV} (hno : ¬ F.Ok) (hsl rsl lsl : AVal) (h : AH) (A : FieldAt h F hsl rsl lsl) (hb1 : F.hs.length ≤ 40) (hb2 : F.rs.length ≤ 40) (hb3 : F.looks.length ≤ 40) :
    Runs Try.prog 65 [.agg (F.cells hsl rsl lsl)] h (fun en h' => en = .ret (.bool false) ∧ Ext h h') :=
  (valid_is F hsl rsl lsl h A hb1 hb2 hb3).mono fun en h' ⟨r, q, k, e⟩ => by
    cases r with
    | true => exact absurd (k.1 rfl) hno
    | false => exact ⟨q, e⟩
theorem attempt_bad {F : FieldV} (hno : ¬ F.Ok) (hb1 : F.hs.length ≤ 40) (hb2 : F.rs.length ≤ 40) (hb3 : F.looks.length ≤ 40) (hsl rsl lsl : AVal) (h : AH) (A : FieldAt h F hsl rsl lsl) (W : FuncId) (caps : List AVal) :
    Runs Try.prog 34 [.agg (F.cells hsl rsl lsl), .func (.func W) [] caps] h (fun en h' => en = .ret (.int .i64 1) ∧ Ext h h') := by
  have hv := fun h A => valid_bad hno hsl rsl lsl h A hb1 hb2 hb3
  unfold FieldV.cells fieldC at hv ⊢
  refine Runs.intro aFunc34 rfl rfl rfl rfl fun rest => ?_
  refine Go.seq noJ_ok ?_
  refine Go.region noJ_ok rfl ?_
  refine GoR.box rfl rfl rfl rfl rfl rfl fun h0 x0 f0 => ?_
  have e0 := x0
  have := f0.1
  refine GoR.alloc rfl rfl rfl zt35 rfl rfl fun h1 x1 f1 => ?_
  have := e0.1
  have := f0.1
  replace f0 := f0.ext x1
  replace e0 := e0.trans x1
  have := f1.1
  refine GoR.end ?_
  refine Go.seq noJ_ok ?_
  refine Go.region noJ_ok rfl ?_
  refine GoR.op rfl rfl rfl rfl ?_
  have hx0 := x0.1
  have hx1 := x1.1
  refine GoR.defer rfl rfl rfl rfl ?_
  refine GoR.end ?_
  refine Go.seq noJ_ok ?_
  refine Go.region noJ_ok rfl ?_
  refine GoR.op rfl rfl (ld27 rfl f0 rfl) rfl ?_
  refine GoR.call rfl rfl (aOp_callFunc aFunc65 rfl) (hv _ (A.ext e0)) ?_ (by rintro _ _ ⟨q, _⟩; cases q)
  rintro v2 h2 ⟨q, x2⟩
  cases q
  refine ⟨_, rfl, ?_⟩
  replace f1 := f1.ext x2
  replace f0 := f0.ext x2
  replace e0 := e0.trans x2
  refine GoR.op rfl rfl rfl rfl ?_
  refine GoR.callP rfl rfl (aOp_callFunc aFunc55 rfl) (refuse_ok true 1 _) (by rintro _ _ ⟨_, ⟨q, _⟩ | ⟨_, q⟩⟩ <;> cases q) ?_
  rintro chain h9 ⟨rfl, ⟨q, _⟩ | ⟨_, q⟩⟩
  · cases q
  have q := AEnd.pan.inj q
  subst q
  have hx9 := e0.1
  refine attempt_pan rfl f1 fun h' n1 n2 => ⟨rfl, ?_, fun b hb => by rw [n2 b (by omega) (by omega), e0.2 b hb]⟩
  omega
end Go.Proofs.Ytmdheijpnlonoaa

namespace Go.Proofs.Ytmdheijpnlonoaa
open Go Go.AbsE
set_option linter.unusedSimpArgs false
set_option maxRecDepth 100000
set_option maxHeartbeats 0
set_option linter.unusedVariables false
theorem needHeap_bad {F : FieldV} (hsl rsl lsl : AVal) (hl : lenA hsl = some F.hs.length) (hn : F.hs.length ≤ 100) (n : Int) (hb : ¬ (0 ≤ n ∧ n < (F.hs.length : Int))) (h : AH) : Runs Try.prog 36 [.agg (F.cells hsl rsl lsl), .int .i64 n] h (fun en h' => en = .pan (refusal 2) ∧ Ext h h') := by
  have s1 : decide (0 ≤ n ∧ n ≤ (F.hs.length : Int) - 1) = false := decide_eq_false (by omega)
  unfold FieldV.cells fieldC
  refine Runs.intro aFunc36 rfl rfl rfl rfl fun rest => ?_
  refine Go.seq noJ_ok ?_
  refine Go.region noJ_ok rfl ?_
  refine GoR.box rfl rfl rfl rfl rfl rfl fun h0 x0 f0 => ?_
  have e0 := x0
  have := f0.1
  refine GoR.end ?_
  refine Go.region noJ_ok rfl ?_
  refine GoR.op rfl rfl rfl rfl ?_
  refine GoR.op rfl rfl (fa74_0 rfl) rfl ?_
  refine GoR.op rfl rfl (ld22 rfl f0 rfl) rfl ?_
  refine GoR.op rfl rfl (aOp_lenSlice Try.underlying22 rfl hl) rfl ?_
  refine GoR.op rfl rfl (aOp_sub rfl rfl (by constructor <;> omega) rfl) rfl ?_
  refine GoR.call rfl rfl (aOp_callFunc aFunc66 rfl) (inside_ok n 0 (F.hs.length - 1) s1 _) ?_ (by rintro _ _ ⟨q, _⟩; cases q)
  rintro v1 h1 ⟨q, x1⟩
  cases q
  refine ⟨_, rfl, ?_⟩
  replace f0 := f0.ext x1
  replace e0 := e0.trans x1
  refine GoR.op rfl rfl rfl rfl ?_
  refine GoR.callP rfl rfl (aOp_callFunc aFunc55 rfl) (refuse_ok true 2 _) (by rintro _ _ ⟨_, ⟨q, _⟩ | ⟨_, q⟩⟩ <;> cases q) ?_
  rintro chain h9 ⟨rfl, ⟨q, _⟩ | ⟨_, q⟩⟩
  · cases q
  have q := AEnd.pan.inj q
  subst q
  exact FLeft.pan ⟨rfl, e0⟩
theorem needDay_bad {F : FieldV} (hsl rsl lsl : AVal) (hl : lenA rsl = some F.rs.length) (hn : F.rs.length ≤ 100) (n : Int) (hb : ¬ (0 ≤ n ∧ n < (F.rs.length : Int))) (h : AH) : Runs Try.prog 37 [.agg (F.cells hsl rsl lsl), .int .i64 n] h (fun en h' => en = .pan (refusal 2) ∧ Ext h h') := by
  have s1 : decide (0 ≤ n ∧ n ≤ (F.rs.length : Int) - 1) = false := decide_eq_false (by omega)
  unfold FieldV.cells fieldC
  refine Runs.intro aFunc37 rfl rfl rfl rfl fun rest => ?_
  refine Go.seq noJ_ok ?_
  refine Go.region noJ_ok rfl ?_
  refine GoR.box rfl rfl rfl rfl rfl rfl fun h0 x0 f0 => ?_
  have e0 := x0
  have := f0.1
  refine GoR.end ?_
  refine Go.region noJ_ok rfl ?_
  refine GoR.op rfl rfl rfl rfl ?_
  refine GoR.op rfl rfl (fa74_1 rfl) rfl ?_
  refine GoR.op rfl rfl (ld23 rfl f0 rfl) rfl ?_
  refine GoR.op rfl rfl (aOp_lenSlice Try.underlying23 rfl hl) rfl ?_
  refine GoR.op rfl rfl (aOp_sub rfl rfl (by constructor <;> omega) rfl) rfl ?_
  refine GoR.call rfl rfl (aOp_callFunc aFunc66 rfl) (inside_ok n 0 (F.rs.length - 1) s1 _) ?_ (by rintro _ _ ⟨q, _⟩; cases q)
  rintro v1 h1 ⟨q, x1⟩
  cases q
  refine ⟨_, rfl, ?_⟩
  replace f0 := f0.ext x1
  replace e0 := e0.trans x1
  refine GoR.op rfl rfl rfl rfl ?_
  refine GoR.callP rfl rfl (aOp_callFunc aFunc55 rfl) (refuse_ok true 2 _) (by rintro _ _ ⟨_, ⟨q, _⟩ | ⟨_, q⟩⟩ <;> cases q) ?_
  rintro chain h9 ⟨rfl, ⟨q, _⟩ | ⟨_, q⟩⟩
  · cases q
  have q := AEnd.pan.inj q
  subst q
  exact FLeft.pan ⟨rfl, e0⟩
theorem wetB_range {F : FieldV} (O : F.Ok) (hsl rsl lsl : AVal) (n : Int) (hb : ¬ (0 ≤ n ∧ n < (F.hs.length : Int))) (bi bd br : Nat) (h : AH) (A : FieldAt h F hsl rsl lsl) (f0 : Has h bi (.cells .plain [.int .i64 n] 3)) :
    Runs Try.prog 35 [.agg (F.cells hsl rsl lsl), .ptr bi 0, .ptr bd 0, .ptr br 0] h (fun en h' => en = .pan (refusal 2) ∧ Ext h h') := by
  have hl1 := A.hs.len
  have hl2 := A.rs.len
  rw [List.length_map] at hl1 hl2
  have hnh := O.nh
  have hnr := O.nr
  have hn2 := fun h => needHeap_bad (F := F) hsl rsl lsl hl1 (by omega) n hb h
  unfold FieldV.cells fieldC at hn2 ⊢
  refine Runs.intro aFunc35 rfl rfl rfl rfl fun rest => ?_
  refine Go.seq noJ_ok ?_
  refine Go.region noJ_ok rfl ?_
  refine GoR.box rfl rfl rfl rfl rfl rfl fun h1 x1 f1 => ?_
  have := f0.1
  replace f0 := f0.ext x1
  have e0 := x1
  have := f1.1
  refine GoR.end ?_
  refine Go.seq noJ_ok ?_
  refine Go.region noJ_ok rfl ?_
  refine GoR.op rfl rfl (ld74 rfl f1 rfl) rfl ?_
  refine GoR.op rfl rfl (ld3 rfl f0 rfl) rfl ?_
  refine GoR.callP rfl rfl (aOp_callFunc aFunc36 rfl) (hn2 _) (by rintro _ _ ⟨q, _⟩; cases q) ?_
  rintro chain h' ⟨q, x⟩
  have q := AEnd.pan.inj q
  subst q
  exact FLeft.pan ⟨rfl, e0.trans x⟩
theorem rainB_range {F : FieldV} (O : F.Ok) (hsl rsl lsl : AVal) (n : Int) (hb : ¬ (0 ≤ n ∧ n < (F.rs.length : Int))) (bi br : Nat) (h : AH) (A : FieldAt h F hsl rsl lsl) (f0 : Has h bi (.cells .plain [.int .i64 n] 3)) :
    Runs Try.prog 40 [.agg (F.cells hsl rsl lsl), .ptr bi 0, .ptr br 0] h (fun en h' => en = .pan (refusal 2) ∧ Ext h h') := by
  have hl1 := A.hs.len
  have hl2 := A.rs.len
  rw [List.length_map] at hl1 hl2
  have hnh := O.nh
  have hnr := O.nr
  have hn2 := fun h => needDay_bad (F := F) hsl rsl lsl hl2 (by omega) n hb h
  unfold FieldV.cells fieldC at hn2 ⊢
  refine Runs.intro aFunc40 rfl rfl rfl rfl fun rest => ?_
  refine Go.seq noJ_ok ?_
  refine Go.region noJ_ok rfl ?_
  refine GoR.box rfl rfl rfl rfl rfl rfl fun h1 x1 f1 => ?_
  have := f0.1
  replace f0 := f0.ext x1
  have e0 := x1
  have := f1.1
  refine GoR.end ?_
  refine Go.seq noJ_ok ?_
  refine Go.region noJ_ok rfl ?_
  refine GoR.op rfl rfl (ld74 rfl f1 rfl) rfl ?_
  refine GoR.op rfl rfl (ld3 rfl f0 rfl) rfl ?_
  refine GoR.callP rfl rfl (aOp_callFunc aFunc37 rfl) (hn2 _) (by rintro _ _ ⟨q, _⟩; cases q) ?_
  rintro chain h' ⟨q, x⟩
  have q := AEnd.pan.inj q
  subst q
  exact FLeft.pan ⟨rfl, e0.trans x⟩
theorem dryB_range {F : FieldV} (O : F.Ok) (hsl rsl lsl : AVal) (i : Nat) (hi : i < F.hs.length) (n : Int) (hb : ¬ (0 ≤ n ∧ n < (F.rs.length : Int))) (b0 bi br : Nat) (h : AH) (A : FieldAt h F hsl rsl lsl) (f0 : Has h bi (.cells .plain [.int .i64 n] 3)) (f9 : Has h b0 (.cells .plain [.int .i64 (i : Nat)] 3)) :
    Runs Try.prog 42 [.agg (F.cells hsl rsl lsl), .ptr b0 0, .ptr bi 0, .ptr br 0] h (fun en h' => en = .pan (refusal 2) ∧ Ext h h') := by
  have hl1 := A.hs.len
  have hl2 := A.rs.len
  rw [List.length_map] at hl1 hl2
  have hnh := O.nh
  have hnr := O.nr
  have hn2 := fun h => needDay_bad (F := F) hsl rsl lsl hl2 (by omega) n hb h
  have hn1 := fun h => needHeap_ok (F := F) hsl rsl lsl hl1 hnh.2 i hi h
  unfold FieldV.cells fieldC at hn2 hn1 ⊢
  refine Runs.intro aFunc42 rfl rfl rfl rfl fun rest => ?_
  refine Go.seq noJ_ok ?_
  refine Go.region noJ_ok rfl ?_
  refine GoR.box rfl rfl rfl rfl rfl rfl fun h10 x10 f10 => ?_
  have := f0.1
  have := f9.1
  replace f0 := f0.ext x10
  replace f9 := f9.ext x10
  have e0 := x10
  have := f10.1
  refine GoR.end ?_
  refine Go.seq noJ_ok ?_
  refine Go.region noJ_ok rfl ?_
  refine GoR.op rfl rfl (ld74 rfl f10 rfl) rfl ?_
  refine GoR.op rfl rfl (ld3 rfl f9 rfl) rfl ?_
  refine GoR.call rfl rfl (aOp_callFunc aFunc36 rfl) (hn1 _) ?_ (by rintro _ _ ⟨q, _⟩; cases q)
  rintro v11 h11 ⟨q, x11⟩
  cases q
  refine ⟨_, rfl, ?_⟩
  replace f10 := f10.ext x11
  replace f0 := f0.ext x11
  replace f9 := f9.ext x11
  replace e0 := e0.trans x11
  refine GoR.end ?_
  refine Go.seq noJ_ok ?_
  refine Go.region noJ_ok rfl ?_
  refine GoR.op rfl rfl (ld74 rfl f10 rfl) rfl ?_
  refine GoR.op rfl rfl (ld3 rfl f0 rfl) rfl ?_
  refine GoR.callP rfl rfl (aOp_callFunc aFunc37 rfl) (hn2 _) (by rintro _ _ ⟨q, _⟩; cases q) ?_
  rintro chain h' ⟨q, x⟩
  have q := AEnd.pan.inj q
  subst q
  exact FLeft.pan ⟨rfl, e0.trans x⟩
theorem doubtB_range {F : FieldV} (O : F.Ok) (hsl rsl lsl : AVal) (n : Int) (hb : ¬ (0 ≤ n ∧ n < (F.rs.length : Int))) (bi b1 b2 : Nat) (h : AH) (A : FieldAt h F hsl rsl lsl) (f0 : Has h bi (.cells .plain [.int .i64 n] 3)) :
    Runs Try.prog 46 [.agg (F.cells hsl rsl lsl), .ptr bi 0, .ptr b1 0, .ptr b2 0] h (fun en h' => en = .pan (refusal 2) ∧ Ext h h') := by
  have hl1 := A.hs.len
  have hl2 := A.rs.len
  rw [List.length_map] at hl1 hl2
  have hnh := O.nh
  have hnr := O.nr
  have hn2 := fun h => needDay_bad (F := F) hsl rsl lsl hl2 (by omega) n hb h
  unfold FieldV.cells fieldC at hn2 ⊢
  refine Runs.intro aFunc46 rfl rfl rfl rfl fun rest => ?_
  refine Go.seq noJ_ok ?_
  refine Go.region noJ_ok rfl ?_
  refine GoR.box rfl rfl rfl rfl rfl rfl fun h1 x1 f1 => ?_
  have := f0.1
  replace f0 := f0.ext x1
  have e0 := x1
  have := f1.1
  refine GoR.end ?_
  refine Go.seq noJ_ok ?_
  refine Go.region noJ_ok rfl ?_
  refine GoR.op rfl rfl (ld74 rfl f1 rfl) rfl ?_
  refine GoR.op rfl rfl (ld3 rfl f0 rfl) rfl ?_
  refine GoR.callP rfl rfl (aOp_callFunc aFunc37 rfl) (hn2 _) (by rintro _ _ ⟨q, _⟩; cases q) ?_
  rintro chain h' ⟨q, x⟩
  have q := AEnd.pan.inj q
  subst q
  exact FLeft.pan ⟨rfl, e0.trans x⟩
theorem whenB_range {F : FieldV} (O : F.Ok) (hsl rsl lsl : AVal) (n : Int) (hb : ¬ (0 ≤ n ∧ n < (F.hs.length : Int))) (bi br : Nat) (h : AH) (A : FieldAt h F hsl rsl lsl) (f0 : Has h bi (.cells .plain [.int .i64 n] 3)) :
    Runs Try.prog 44 [.agg (F.cells hsl rsl lsl), .ptr bi 0, .ptr br 0] h (fun en h' => en = .pan (refusal 2) ∧ Ext h h') := by
  have hl1 := A.hs.len
  have hl2 := A.rs.len
  rw [List.length_map] at hl1 hl2
  have hnh := O.nh
  have hnr := O.nr
  have hn2 := fun h => needHeap_bad (F := F) hsl rsl lsl hl1 (by omega) n hb h
  unfold FieldV.cells fieldC at hn2 ⊢
  refine Runs.intro aFunc44 rfl rfl rfl rfl fun rest => ?_
  refine Go.seq noJ_ok ?_
  refine Go.region noJ_ok rfl ?_
  refine GoR.box rfl rfl rfl rfl rfl rfl fun h1 x1 f1 => ?_
  have := f0.1
  replace f0 := f0.ext x1
  have e0 := x1
  have := f1.1
  refine GoR.end ?_
  refine Go.seq noJ_ok ?_
  refine Go.region noJ_ok rfl ?_
  refine GoR.op rfl rfl (ld74 rfl f1 rfl) rfl ?_
  refine GoR.op rfl rfl (ld3 rfl f0 rfl) rfl ?_
  refine GoR.callP rfl rfl (aOp_callFunc aFunc36 rfl) (hn2 _) (by rintro _ _ ⟨q, _⟩; cases q) ?_
  rintro chain h' ⟨q, x⟩
  have q := AEnd.pan.inj q
  subst q
  exact FLeft.pan ⟨rfl, e0.trans x⟩
theorem Wet_range {F : FieldV} (O : F.Ok) (hsl rsl lsl : AVal) (n : Int) (hb : ¬ (0 ≤ n ∧ n < (F.hs.length : Int))) (d : Int) (h : AH) (A : FieldAt h F hsl rsl lsl) :
    Runs Try.prog 13 [.agg (F.cells hsl rsl lsl), .int .i64 n, .int .i64 d] h (fun en h' => en = .ret (.tuple [.agg [.int .i64 0, .int .i64 0], .int .i64 2]) ∧ Ext h h') := by
  have hat := attempt_gives O hsl rsl lsl
  have hB := wetB_range O hsl rsl lsl n hb
  unfold FieldV.cells fieldC at hat hB ⊢
  refine Runs.intro aFunc13 rfl rfl rfl rfl fun rest => ?_
  refine Go.seq noJ_ok ?_
  refine Go.region noJ_ok rfl ?_
  refine GoR.box rfl rfl rfl rfl rfl rfl fun h0 x0 f0 => ?_
  have e0 := x0
  have := f0.1
  refine GoR.box rfl rfl rfl rfl rfl rfl fun h1 x1 f1 => ?_
  have := e0.1
  have := f0.1
  replace f0 := f0.ext x1
  replace e0 := e0.trans x1
  have := f1.1
  refine GoR.box rfl rfl rfl rfl rfl rfl fun h2 x2 f2 => ?_
  have := e0.1
  have := f1.1
  have := f0.1
  replace f1 := f1.ext x2
  replace f0 := f0.ext x2
  replace e0 := e0.trans x2
  have := f2.1
  refine GoR.alloc rfl rfl rfl zt30 rfl rfl fun h3 x3 f3 => ?_
  have := e0.1
  have := f2.1
  have := f1.1
  have := f0.1
  replace f2 := f2.ext x3
  replace f1 := f1.ext x3
  replace f0 := f0.ext x3
  replace e0 := e0.trans x3
  have := f3.1
  refine GoR.op rfl rfl rfl rfl ?_
  refine GoR.end ?_
  refine Go.seq noJ_ok ?_
  refine Go.region noJ_ok rfl ?_
  refine GoR.op rfl rfl (ld27 rfl f0 rfl) rfl ?_
  refine GoR.op rfl rfl rfl rfl ?_
  refine GoR.call rfl rfl (aOp_callFunc aFunc34 rfl) (hat _ (A.ext e0) 35 _ aFunc35 _ 2 (fun h' e => hB _ _ _ h' ((A.ext e0).ext e) (f1.ext e))) ?_ (by rintro _ _ ⟨q, _⟩; cases q)
  rintro v4 h4 ⟨q, x4⟩
  cases q
  refine ⟨_, rfl, ?_⟩
  replace f3 := f3.ext x4
  replace f2 := f2.ext x4
  replace f1 := f1.ext x4
  replace f0 := f0.ext x4
  replace e0 := e0.trans x4
  refine GoR.op rfl rfl rfl rfl ?_
  refine GoR.end ?_
  refine Go.seq noJ_ok ?_
  refine Go.region noJ_ok rfl ?_
  refine GoR.op rfl rfl (ld30 rfl f3 rfl) rfl ?_
  refine GoR.op rfl rfl rfl rfl ?_
  refine GoR.store rfl rfl rfl rfl rfl rfl f3 rfl sz30 rfl rfl rfl fun h5 u5 => ?_
  replace f3 := u5.has f3
  replace f2 := f2.upd u5 (by omega)
  replace f1 := f1.upd u5 (by omega)
  replace f0 := f0.upd u5 (by omega)
  first | replace e0 := e0.upd u5 (by omega) | clear e0
  refine GoR.op rfl rfl rfl rfl ?_
  refine GoR.end ?_
  exact Go.ret noJ_ok (ret_end (aResult_of Try.func13 rfl (aResults_cellC rfl f3 (inCells_agg ag30 sz30 rfl) rfl)) ⟨rfl, e0⟩)
theorem Rain_range {F : FieldV} (O : F.Ok) (hsl rsl lsl : AVal) (n : Int) (hb : ¬ (0 ≤ n ∧ n < (F.rs.length : Int))) (h : AH) (A : FieldAt h F hsl rsl lsl) :
    Runs Try.prog 14 [.agg (F.cells hsl rsl lsl), .int .i64 n] h (fun en h' => en = .ret (.tuple [.agg [.int .i64 0, .int .i64 0], .int .i64 2]) ∧ Ext h h') := by
  have hat := attempt_gives O hsl rsl lsl
  have hB := rainB_range O hsl rsl lsl n hb
  unfold FieldV.cells fieldC at hat hB ⊢
  refine Runs.intro aFunc14 rfl rfl rfl rfl fun rest => ?_
  refine Go.seq noJ_ok ?_
  refine Go.region noJ_ok rfl ?_
  refine GoR.box rfl rfl rfl rfl rfl rfl fun h0 x0 f0 => ?_
  have e0 := x0
  have := f0.1
  refine GoR.box rfl rfl rfl rfl rfl rfl fun h1 x1 f1 => ?_
  have := e0.1
  have := f0.1
  replace f0 := f0.ext x1
  replace e0 := e0.trans x1
  have := f1.1
  refine GoR.alloc rfl rfl rfl zt30 rfl rfl fun h2 x2 f2 => ?_
  have := e0.1
  have := f1.1
  have := f0.1
  replace f1 := f1.ext x2
  replace f0 := f0.ext x2
  replace e0 := e0.trans x2
  have := f2.1
  refine GoR.op rfl rfl rfl rfl ?_
  refine GoR.end ?_
  refine Go.seq noJ_ok ?_
  refine Go.region noJ_ok rfl ?_
  refine GoR.op rfl rfl (ld27 rfl f0 rfl) rfl ?_
  refine GoR.op rfl rfl rfl rfl ?_
  refine GoR.call rfl rfl (aOp_callFunc aFunc34 rfl) (hat _ (A.ext e0) 40 _ aFunc40 _ 2 (fun h' e => hB _ _ h' ((A.ext e0).ext e) (f1.ext e))) ?_ (by rintro _ _ ⟨q, _⟩; cases q)
  rintro v3 h3 ⟨q, x3⟩
  cases q
  refine ⟨_, rfl, ?_⟩
  replace f2 := f2.ext x3
  replace f1 := f1.ext x3
  replace f0 := f0.ext x3
  replace e0 := e0.trans x3
  refine GoR.op rfl rfl rfl rfl ?_
  refine GoR.end ?_
  refine Go.seq noJ_ok ?_
  refine Go.region noJ_ok rfl ?_
  refine GoR.op rfl rfl (ld30 rfl f2 rfl) rfl ?_
  refine GoR.op rfl rfl rfl rfl ?_
  refine GoR.store rfl rfl rfl rfl rfl rfl f2 rfl sz30 rfl rfl rfl fun h4 u4 => ?_
  replace f2 := u4.has f2
  replace f1 := f1.upd u4 (by omega)
  replace f0 := f0.upd u4 (by omega)
  first | replace e0 := e0.upd u4 (by omega) | clear e0
  refine GoR.op rfl rfl rfl rfl ?_
  refine GoR.end ?_
  exact Go.ret noJ_ok (ret_end (aResult_of Try.func14 rfl (aResults_cellC rfl f2 (inCells_agg ag30 sz30 rfl) rfl)) ⟨rfl, e0⟩)
theorem Dry_range {F : FieldV} (O : F.Ok) (hsl rsl lsl : AVal) (i : Nat) (hi : i < F.hs.length) (n : Int) (hb : ¬ (0 ≤ n ∧ n < (F.rs.length : Int))) (h : AH) (A : FieldAt h F hsl rsl lsl) :
    Runs Try.prog 15 [.agg (F.cells hsl rsl lsl), .int .i64 (i : Nat), .int .i64 n] h (fun en h' => en = .ret (.tuple [.int .i64 0, .int .i64 2]) ∧ Ext h h') := by
  have hat := attempt_gives O hsl rsl lsl
  have hB := dryB_range O hsl rsl lsl i hi n hb
  unfold FieldV.cells fieldC at hat hB ⊢
  refine Runs.intro aFunc15 rfl rfl rfl rfl fun rest => ?_
  refine Go.seq noJ_ok ?_
  refine Go.region noJ_ok rfl ?_
  refine GoR.box rfl rfl rfl rfl rfl rfl fun h0 x0 f0 => ?_
  have e0 := x0
  have := f0.1
  refine GoR.box rfl rfl rfl rfl rfl rfl fun h1 x1 f1 => ?_
  have := e0.1
  have := f0.1
  replace f0 := f0.ext x1
  replace e0 := e0.trans x1
  have := f1.1
  refine GoR.box rfl rfl rfl rfl rfl rfl fun h2 x2 f2 => ?_
  have := e0.1
  have := f1.1
  have := f0.1
  replace f1 := f1.ext x2
  replace f0 := f0.ext x2
  replace e0 := e0.trans x2
  have := f2.1
  refine GoR.alloc rfl rfl rfl zt3 rfl rfl fun h3 x3 f3 => ?_
  have := e0.1
  have := f2.1
  have := f1.1
  have := f0.1
  replace f2 := f2.ext x3
  replace f1 := f1.ext x3
  replace f0 := f0.ext x3
  replace e0 := e0.trans x3
  have := f3.1
  refine GoR.op rfl rfl rfl rfl ?_
  refine GoR.end ?_
  refine Go.seq noJ_ok ?_
  refine Go.region noJ_ok rfl ?_
  refine GoR.op rfl rfl (ld27 rfl f0 rfl) rfl ?_
  refine GoR.op rfl rfl rfl rfl ?_
  refine GoR.call rfl rfl (aOp_callFunc aFunc34 rfl) (hat _ (A.ext e0) 42 _ aFunc42 _ 2 (fun h' e => hB _ _ _ h' ((A.ext e0).ext e) (f2.ext e) (f1.ext e))) ?_ (by rintro _ _ ⟨q, _⟩; cases q)
  rintro v4 h4 ⟨q, x4⟩
  cases q
  refine ⟨_, rfl, ?_⟩
  replace f3 := f3.ext x4
  replace f2 := f2.ext x4
  replace f1 := f1.ext x4
  replace f0 := f0.ext x4
  replace e0 := e0.trans x4
  refine GoR.op rfl rfl rfl rfl ?_
  refine GoR.end ?_
  refine Go.seq noJ_ok ?_
  refine Go.region noJ_ok rfl ?_
  refine GoR.op rfl rfl (ld3 rfl f3 rfl) rfl ?_
  refine GoR.op rfl rfl rfl rfl ?_
  refine GoR.store rfl rfl rfl rfl rfl rfl f3 rfl sz3 rfl rfl rfl fun h5 u5 => ?_
  replace f3 := u5.has f3
  replace f2 := f2.upd u5 (by omega)
  replace f1 := f1.upd u5 (by omega)
  replace f0 := f0.upd u5 (by omega)
  first | replace e0 := e0.upd u5 (by omega) | clear e0
  refine GoR.op rfl rfl rfl rfl ?_
  refine GoR.end ?_
  exact Go.ret noJ_ok (ret_end (aResult_of Try.func15 rfl (aResults_cellC rfl f3 (inCells_one ag3 rfl) rfl)) ⟨rfl, e0⟩)
theorem Doubt_range {F : FieldV} (O : F.Ok) (hsl rsl lsl : AVal) (n : Int) (hb : ¬ (0 ≤ n ∧ n < (F.rs.length : Int))) (h : AH) (A : FieldAt h F hsl rsl lsl) :
    Runs Try.prog 17 [.agg (F.cells hsl rsl lsl), .int .i64 n] h (fun en h' => en = .ret (.tuple [.int .i64 0, .int .i64 0, .int .i64 2]) ∧ Ext h h') := by
  have hat := attempt_gives O hsl rsl lsl
  have hB := doubtB_range O hsl rsl lsl n hb
  unfold FieldV.cells fieldC at hat hB ⊢
  refine Runs.intro aFunc17 rfl rfl rfl rfl fun rest => ?_
  refine Go.seq noJ_ok ?_
  refine Go.region noJ_ok rfl ?_
  refine GoR.box rfl rfl rfl rfl rfl rfl fun h0 x0 f0 => ?_
  have e0 := x0
  have := f0.1
  refine GoR.box rfl rfl rfl rfl rfl rfl fun h1 x1 f1 => ?_
  have := e0.1
  have := f0.1
  replace f0 := f0.ext x1
  replace e0 := e0.trans x1
  have := f1.1
  refine GoR.alloc rfl rfl rfl zt3 rfl rfl fun h2 x2 f2 => ?_
  have := e0.1
  have := f1.1
  have := f0.1
  replace f1 := f1.ext x2
  replace f0 := f0.ext x2
  replace e0 := e0.trans x2
  have := f2.1
  refine GoR.alloc rfl rfl rfl zt3 rfl rfl fun h3 x3 f3 => ?_
  have := e0.1
  have := f2.1
  have := f1.1
  have := f0.1
  replace f2 := f2.ext x3
  replace f1 := f1.ext x3
  replace f0 := f0.ext x3
  replace e0 := e0.trans x3
  have := f3.1
  refine GoR.op rfl rfl rfl rfl ?_
  refine GoR.end ?_
  refine Go.seq noJ_ok ?_
  refine Go.region noJ_ok rfl ?_
  refine GoR.op rfl rfl (ld27 rfl f0 rfl) rfl ?_
  refine GoR.op rfl rfl rfl rfl ?_
  refine GoR.call rfl rfl (aOp_callFunc aFunc34 rfl) (hat _ (A.ext e0) 46 _ aFunc46 _ 2 (fun h' e => hB _ _ _ h' ((A.ext e0).ext e) (f1.ext e))) ?_ (by rintro _ _ ⟨q, _⟩; cases q)
  rintro v4 h4 ⟨q, x4⟩
  cases q
  refine ⟨_, rfl, ?_⟩
  replace f3 := f3.ext x4
  replace f2 := f2.ext x4
  replace f1 := f1.ext x4
  replace f0 := f0.ext x4
  replace e0 := e0.trans x4
  refine GoR.op rfl rfl rfl rfl ?_
  refine GoR.end ?_
  refine Go.seq noJ_ok ?_
  refine Go.drawnE plan17_0 ?_
  refine GoE.quiet rfl rfl (ld3 rfl f2 rfl) rfl ?_
  refine GoE.quiet rfl rfl (ld3 rfl f3 rfl) rfl ?_
  refine GoE.quiet rfl rfl rfl rfl ?_
  refine GoE.store rfl rfl rfl rfl (dropF_keep (show bit? 1 2 = false from rfl) (dropF_keep (show bit? 1 1 = false from rfl) (dropF_drop (show bit? 1 0 = true from rfl) rfl))) rfl rfl f2 rfl sz3 rfl rfl rfl fun h5 u5 => ?_
  replace f3 := f3.upd u5 (by omega)
  replace f2 := u5.has f2
  replace f1 := f1.upd u5 (by omega)
  replace f0 := f0.upd u5 (by omega)
  first | replace e0 := e0.upd u5 (by omega) | clear e0
  refine ⟨(recheck_cons (h2 := h5) rfl (rfl) (by first | rfl | exact sameA_int _ _ | exact sameA_bool _ | exact sameA_agg2 _ _ | assumption | (simp [sameA, sameAs, eqI_eq]; done)) (recheck_cons (h2 := h5) rfl (ld3 rfl f3 rfl) (by first | rfl | exact sameA_int _ _ | exact sameA_bool _ | exact sameA_agg2 _ _ | assumption | (simp [sameA, sameAs, eqI_eq]; done)) recheck_nil)), ?_⟩
  refine GoE.store rfl rfl rfl rfl (dropF_keep (show bit? 11 2 = false from rfl) (dropF_drop (show bit? 11 1 = true from rfl) rfl)) rfl rfl f3 rfl sz3 rfl rfl rfl fun h6 u6 => ?_
  replace f3 := u6.has f3
  replace f2 := f2.upd u6 (by omega)
  replace f1 := f1.upd u6 (by omega)
  replace f0 := f0.upd u6 (by omega)
  first | replace e0 := e0.upd u6 (by omega) | clear e0
  refine ⟨(recheck_cons (h2 := h6) rfl (rfl) (by first | rfl | exact sameA_int _ _ | exact sameA_bool _ | exact sameA_agg2 _ _ | assumption | (simp [sameA, sameAs, eqI_eq]; done)) recheck_nil), ?_⟩
  refine GoE.quiet rfl rfl rfl rfl ?_
  refine GoE.end rfl ?_
  exact Go.ret noJ_ok (ret_end (aResult_of Try.func17 rfl (aResults_cellC rfl f2 (inCells_one ag3 rfl) (aResults_cellC rfl f3 (inCells_one ag3 rfl) rfl))) ⟨rfl, e0⟩)
theorem When_range {F : FieldV} (O : F.Ok) (hsl rsl lsl : AVal) (n : Int) (hb : ¬ (0 ≤ n ∧ n < (F.hs.length : Int))) (h : AH) (A : FieldAt h F hsl rsl lsl) :
    Runs Try.prog 16 [.agg (F.cells hsl rsl lsl), .int .i64 n] h (fun en h' => en = .ret (.tuple [.int .i64 0, .int .i64 2]) ∧ Ext h h') := by
  have hat := attempt_gives O hsl rsl lsl
  have hB := whenB_range O hsl rsl lsl n hb
  unfold FieldV.cells fieldC at hat hB ⊢
  refine Runs.intro aFunc16 rfl rfl rfl rfl fun rest => ?_
  refine Go.seq noJ_ok ?_
  refine Go.region noJ_ok rfl ?_
  refine GoR.box rfl rfl rfl rfl rfl rfl fun h0 x0 f0 => ?_
  have e0 := x0
  have := f0.1
  refine GoR.box rfl rfl rfl rfl rfl rfl fun h1 x1 f1 => ?_
  have := e0.1
  have := f0.1
  replace f0 := f0.ext x1
  replace e0 := e0.trans x1
  have := f1.1
  refine GoR.alloc rfl rfl rfl zt3 rfl rfl fun h2 x2 f2 => ?_
  have := e0.1
  have := f1.1
  have := f0.1
  replace f1 := f1.ext x2
  replace f0 := f0.ext x2
  replace e0 := e0.trans x2
  have := f2.1
  refine GoR.op rfl rfl rfl rfl ?_
  refine GoR.end ?_
  refine Go.seq noJ_ok ?_
  refine Go.region noJ_ok rfl ?_
  refine GoR.op rfl rfl (ld27 rfl f0 rfl) rfl ?_
  refine GoR.op rfl rfl rfl rfl ?_
  refine GoR.call rfl rfl (aOp_callFunc aFunc34 rfl) (hat _ (A.ext e0) 44 _ aFunc44 _ 2 (fun h' e => hB _ _ h' ((A.ext e0).ext e) (f1.ext e))) ?_ (by rintro _ _ ⟨q, _⟩; cases q)
  rintro v3 h3 ⟨q, x3⟩
  cases q
  refine ⟨_, rfl, ?_⟩
  replace f2 := f2.ext x3
  replace f1 := f1.ext x3
  replace f0 := f0.ext x3
  replace e0 := e0.trans x3
  refine GoR.op rfl rfl rfl rfl ?_
  refine GoR.end ?_
  refine Go.seq noJ_ok ?_
  refine Go.region noJ_ok rfl ?_
  refine GoR.op rfl rfl (ld3 rfl f2 rfl) rfl ?_
  refine GoR.op rfl rfl rfl rfl ?_
  refine GoR.store rfl rfl rfl rfl rfl rfl f2 rfl sz3 rfl rfl rfl fun h4 u4 => ?_
  replace f2 := u4.has f2
  replace f1 := f1.upd u4 (by omega)
  replace f0 := f0.upd u4 (by omega)
  first | replace e0 := e0.upd u4 (by omega) | clear e0
  refine GoR.op rfl rfl rfl rfl ?_
  refine GoR.end ?_
  exact Go.ret noJ_ok (ret_end (aResult_of Try.func16 rfl (aResults_cellC rfl f2 (inCells_one ag3 rfl) rfl)) ⟨rfl, e0⟩)
theorem Wet_bad {F : FieldV} (hno : ¬ F.Ok) (hb1 : F.hs.length ≤ 40) (hb2 : F.rs.length ≤ 40) (hb3 : F.looks.length ≤ 40) (hsl rsl lsl : AVal) (i d : Int) (h : AH) (A : FieldAt h F hsl rsl lsl) :
    Runs Try.prog 13 [.agg (F.cells hsl rsl lsl), .int .i64 i, .int .i64 d] h (fun en h' => en = .ret (.tuple [.agg [.int .i64 0, .int .i64 0], .int .i64 1]) ∧ Ext h h') := by
  have hat := attempt_bad hno hb1 hb2 hb3 hsl rsl lsl
  unfold FieldV.cells fieldC at hat ⊢
  refine Runs.intro aFunc13 rfl rfl rfl rfl fun rest => ?_
  refine Go.seq noJ_ok ?_
  refine Go.region noJ_ok rfl ?_
  refine GoR.box rfl rfl rfl rfl rfl rfl fun h0 x0 f0 => ?_
  have e0 := x0
  have := f0.1
  refine GoR.box rfl rfl rfl rfl rfl rfl fun h1 x1 f1 => ?_
  have := e0.1
  have := f0.1
  replace f0 := f0.ext x1
  replace e0 := e0.trans x1
  have := f1.1
  refine GoR.box rfl rfl rfl rfl rfl rfl fun h2 x2 f2 => ?_
  have := e0.1
  have := f1.1
  have := f0.1
  replace f1 := f1.ext x2
  replace f0 := f0.ext x2
  replace e0 := e0.trans x2
  have := f2.1
  refine GoR.alloc rfl rfl rfl zt30 rfl rfl fun h3 x3 f3 => ?_
  have := e0.1
  have := f2.1
  have := f1.1
  have := f0.1
  replace f2 := f2.ext x3
  replace f1 := f1.ext x3
  replace f0 := f0.ext x3
  replace e0 := e0.trans x3
  have := f3.1
  refine GoR.op rfl rfl rfl rfl ?_
  refine GoR.end ?_
  refine Go.seq noJ_ok ?_
  refine Go.region noJ_ok rfl ?_
  refine GoR.op rfl rfl (ld27 rfl f0 rfl) rfl ?_
  refine GoR.op rfl rfl rfl rfl ?_
  refine GoR.call rfl rfl (aOp_callFunc aFunc34 rfl) (hat _ (A.ext e0) 35 _) ?_ (by rintro _ _ ⟨q, _⟩; cases q)
  rintro v4 h4 ⟨q, x4⟩
  cases q
  refine ⟨_, rfl, ?_⟩
  replace f3 := f3.ext x4
  replace f2 := f2.ext x4
  replace f1 := f1.ext x4
  replace f0 := f0.ext x4
  replace e0 := e0.trans x4
  refine GoR.op rfl rfl rfl rfl ?_
  refine GoR.end ?_
  refine Go.seq noJ_ok ?_
  refine Go.region noJ_ok rfl ?_
  refine GoR.op rfl rfl (ld30 rfl f3 rfl) rfl ?_
  refine GoR.op rfl rfl rfl rfl ?_
  refine GoR.store rfl rfl rfl rfl rfl rfl f3 rfl sz30 rfl rfl rfl fun h5 u5 => ?_
  replace f3 := u5.has f3
  replace f2 := f2.upd u5 (by omega)
  replace f1 := f1.upd u5 (by omega)
  replace f0 := f0.upd u5 (by omega)
  first | replace e0 := e0.upd u5 (by omega) | clear e0
  refine GoR.op rfl rfl rfl rfl ?_
  refine GoR.end ?_
  exact Go.ret noJ_ok (ret_end (aResult_of Try.func13 rfl (aResults_cellC rfl f3 (inCells_agg ag30 sz30 rfl) rfl)) ⟨rfl, e0⟩)
theorem All_bad {F : FieldV} (hno : ¬ F.Ok) (hb1 : F.hs.length ≤ 40) (hb2 : F.rs.length ≤ 40) (hb3 : F.looks.length ≤ 40) (hsl rsl lsl : AVal)  (h : AH) (A : FieldAt h F hsl rsl lsl) :
    Runs Try.prog 26 [.agg (F.cells hsl rsl lsl)] h (fun en h' => en = .ret (.tuple [.int .i64 0, .int .i64 1]) ∧ Ext h h') := by
  have hat := attempt_bad hno hb1 hb2 hb3 hsl rsl lsl
  unfold FieldV.cells fieldC at hat ⊢
  refine Runs.intro aFunc26 rfl rfl rfl rfl fun rest => ?_
  refine Go.seq noJ_ok ?_
  refine Go.region noJ_ok rfl ?_
  refine GoR.box rfl rfl rfl rfl rfl rfl fun h0 x0 f0 => ?_
  have e0 := x0
  have := f0.1
  refine GoR.alloc rfl rfl rfl zt3 rfl rfl fun h1 x1 f1 => ?_
  have := e0.1
  have := f0.1
  replace f0 := f0.ext x1
  replace e0 := e0.trans x1
  have := f1.1
  refine GoR.op rfl rfl rfl rfl ?_
  refine GoR.end ?_
  refine Go.seq noJ_ok ?_
  refine Go.region noJ_ok rfl ?_
  refine GoR.op rfl rfl (ld27 rfl f0 rfl) rfl ?_
  refine GoR.op rfl rfl rfl rfl ?_
  refine GoR.call rfl rfl (aOp_callFunc aFunc34 rfl) (hat _ (A.ext e0) 62 _) ?_ (by rintro _ _ ⟨q, _⟩; cases q)
  rintro v2 h2 ⟨q, x2⟩
  cases q
  refine ⟨_, rfl, ?_⟩
  replace f1 := f1.ext x2
  replace f0 := f0.ext x2
  replace e0 := e0.trans x2
  refine GoR.op rfl rfl rfl rfl ?_
  refine GoR.end ?_
  refine Go.seq noJ_ok ?_
  refine Go.region noJ_ok rfl ?_
  refine GoR.op rfl rfl (ld3 rfl f1 rfl) rfl ?_
  refine GoR.op rfl rfl rfl rfl ?_
  refine GoR.store rfl rfl rfl rfl rfl rfl f1 rfl sz3 rfl rfl rfl fun h3 u3 => ?_
  replace f1 := u3.has f1
  replace f0 := f0.upd u3 (by omega)
  first | replace e0 := e0.upd u3 (by omega) | clear e0
  refine GoR.op rfl rfl rfl rfl ?_
  refine GoR.end ?_
  exact Go.ret noJ_ok (ret_end (aResult_of Try.func26 rfl (aResults_cellC rfl f1 (inCells_one ag3 rfl) rfl)) ⟨rfl, e0⟩)
end Go.Proofs.Ytmdheijpnlonoaa

namespace Go.Proofs.Ytmdheijpnlonoaa
open Go Go.AbsE
set_option linter.unusedSimpArgs false
set_option maxRecDepth 100000
set_option maxHeartbeats 0
set_option linter.unusedVariables false
noncomputable def ops35 : Array Oper := ((drawnOps Try.f5)[3]?).getD #[]
theorem befs35 : befs0 ops35 = [0, 0, 0, 0, 0, 30, 63, 0, 0, 511, 1023, 2047, 2047, 0, 12287, 32767] := by kernel_rfl
theorem size35 : ops35.size = 16 := by kernel_rfl
theorem pl35a : planX ops35 [0, 0, 0, 0, 0, 8222, 8255, 0, 0, 8703, 9215, 10239, 10239, 0, 12287, 32767] [0, 1, 2, 3, 4, 7, 8, 13, 5, 6, 9, 10, 11, 12, 14, 15] = some (mkPlan ops35.toList [(0, 0, true, false), (1, 0, true, false), (2, 0, true, false), (3, 0, true, false), (4, 0, true, false),
  (7, 0, true, false), (8, 0, true, false), (13, 0, false, false), (5, 8222, false, false), (6, 8255, false, false), (9, 8703, false, false), (10, 9215, true, false), (11, 10239, true, false), (12, 10239, true, false), (14, 12287, false, false), (15, 32767, true, false)]) := by kernel_rfl
theorem pl35b : planX ops35 [0, 0, 0, 0, 0, 30, 8255, 0, 0, 8703, 9215, 10239, 10239, 32, 12287, 32767] [0, 1, 2, 3, 4, 7, 8, 5, 13, 6, 9, 10, 11, 12, 14, 15] = some (mkPlan ops35.toList [(0, 0, true, false), (1, 0, true, false), (2, 0, true, false), (3, 0, true, false), (4, 0, true, false),
  (7, 0, true, false), (8, 0, true, false), (5, 30, false, false), (13, 32, false, false), (6, 8255, false, false), (9, 8703, false, false), (10, 9215, true, false), (11, 10239, true, false), (12, 10239, true, false), (14, 12287, false, false), (15, 32767, true, false)]) := by kernel_rfl
theorem pl35c : planX ops35 [0, 0, 0, 0, 0, 30, 63, 0, 0, 8703, 9215, 10239, 10239, 96, 12287, 32767] [0, 1, 2, 3, 4, 7, 8, 5, 6, 13, 9, 10, 11, 12, 14, 15] = some (mkPlan ops35.toList [(0, 0, true, false), (1, 0, true, false), (2, 0, true, false), (3, 0, true, false), (4, 0, true, false),
  (7, 0, true, false), (8, 0, true, false), (5, 30, false, false), (6, 63, false, false), (13, 96, false, false), (9, 8703, false, false), (10, 9215, true, false), (11, 10239, true, false), (12, 10239, true, false), (14, 12287, false, false), (15, 32767, true, false)]) := by kernel_rfl
theorem pl35d : planX ops35 [0, 0, 0, 0, 0, 30, 63, 0, 0, 511, 1023, 2047, 2047, 608, 12287, 32767] [0, 1, 2, 3, 4, 7, 8, 5, 6, 9, 10, 11, 12, 13, 14, 15] = some (mkPlan ops35.toList [(0, 0, true, false), (1, 0, true, false), (2, 0, true, false), (3, 0, true, false), (4, 0, true, false),
  (7, 0, true, false), (8, 0, true, false), (5, 30, false, false), (6, 63, false, false), (9, 511, false, false), (10, 1023, true, false), (11, 2047, true, false), (12, 2047, true, false), (13, 608, false, false), (14, 12287, false, false), (15, 32767, true, false)]) := by kernel_rfl
theorem alts35 {P : Program} {c : FC} {k : List AItem} {id : Nat} {t : Tr AVal} {h : AH} {Q : AM → Prop}
    (ga : ∀ pl, planX ops35 [0, 0, 0, 0, 0, 8222, 8255, 0, 0, 8703, 9215, 10239, 10239, 0, 12287, 32767] [0, 1, 2, 3, 4, 7, 8, 13, 5, 6, 9, 10, 11, 12, 14, 15] = some pl → GoE P c k Q ops35 pl (eraseT ops35.toList t) [] t h)
    (gb : ∀ pl, planX ops35 [0, 0, 0, 0, 0, 30, 8255, 0, 0, 8703, 9215, 10239, 10239, 32, 12287, 32767] [0, 1, 2, 3, 4, 7, 8, 5, 13, 6, 9, 10, 11, 12, 14, 15] = some pl → GoE P c k Q ops35 pl (eraseT ops35.toList t) [] t h)
    (gc : ∀ pl, planX ops35 [0, 0, 0, 0, 0, 30, 63, 0, 0, 8703, 9215, 10239, 10239, 96, 12287, 32767] [0, 1, 2, 3, 4, 7, 8, 5, 6, 13, 9, 10, 11, 12, 14, 15] = some pl → GoE P c k Q ops35 pl (eraseT ops35.toList t) [] t h)
    (gd : ∀ pl, planX ops35 [0, 0, 0, 0, 0, 30, 63, 0, 0, 511, 1023, 2047, 2047, 608, 12287, 32767] [0, 1, 2, 3, 4, 7, 8, 5, 6, 9, 10, 11, 12, 13, 14, 15] = some pl → GoE P c k Q ops35 pl (eraseT ops35.toList t) [] t h) :
    Go P c (.code (.region id ops35 true) :: k) t h Q := by
  refine Go.drawnX pl35d fun s hv => ?_
  have hb := fun i k hi hk => VB.before hv befs35 i k (by rw [size35]; exact hi) hk
  have h65 := hb 6 5 (by decide) (by decide)
  have h96 := hb 9 6 (by decide) (by decide)
  have h10 := hb 10 9 (by decide) (by decide)
  have h11 := hb 11 9 (by decide) (by decide)
  have h12 := hb 12 9 (by decide) (by decide)
  have d5 := VB.apart hv befs35 13 5 (by rw [size35]; decide) (by decide)
  have d6 := VB.apart hv befs35 13 6 (by rw [size35]; decide) (by decide)
  have d9 := VB.apart hv befs35 13 9 (by rw [size35]; decide) (by decide)
  by_cases q5 : s.idxOf 13 < s.idxOf 5
  · refine ⟨_, _, _, pl35a, VB.alt hv befs35 size35 [(13, 5), (13, 6), (13, 9), (13, 10), (13, 11), (13, 12)] (by kernel_rfl) ?_, ga _ pl35a⟩
    intro e he
    simp only [List.mem_cons, List.not_mem_nil, or_false] at he
    rcases he with rfl | rfl | rfl | rfl | rfl | rfl <;> dsimp only <;> omega
  · by_cases q6 : s.idxOf 13 < s.idxOf 6
    · refine ⟨_, _, _, pl35b, VB.alt hv befs35 size35 [(5, 13), (13, 6), (13, 9), (13, 10), (13, 11), (13, 12)] (by kernel_rfl) ?_, gb _ pl35b⟩
      intro e he
      simp only [List.mem_cons, List.not_mem_nil, or_false] at he
      rcases he with rfl | rfl | rfl | rfl | rfl | rfl <;> dsimp only <;> omega
    · by_cases q9 : s.idxOf 13 < s.idxOf 9
      · refine ⟨_, _, _, pl35c, VB.alt hv befs35 size35 [(5, 13), (6, 13), (13, 9), (13, 10), (13, 11), (13, 12)] (by kernel_rfl) ?_, gc _ pl35c⟩
        intro e he
        simp only [List.mem_cons, List.not_mem_nil, or_false] at he
        rcases he with rfl | rfl | rfl | rfl | rfl | rfl <;> dsimp only <;> omega
      · refine ⟨_, _, _, pl35d, VB.alt hv befs35 size35 [(5, 13), (6, 13), (9, 13)] (by kernel_rfl) ?_, gd _ pl35d⟩
        intro e he
        simp only [List.mem_cons, List.not_mem_nil, or_false] at he
        rcases he with rfl | rfl | rfl <;> dsimp only <;> omega
end Go.Proofs.Ytmdheijpnlonoaa

set_option linter.unusedSimpArgs false
namespace Go.AbsE
open Go
section
variable {P : Program} {t : Tr AVal} {h : AH} {dst : Option Tmp} {tt : TypeId} {pos : String} {after : Array Edge} {guard : Option (Nat × Bool)} {x y : Operand}
theorem aOp_appendNew {el el2 eb t1 t2 : TypeId} {sz bytes b : Nat} {z s : AVal} {g0 : Kd} {L : List (List AVal)} (hu1 : P.underlying t1 = some (.slice el)) (hu2 : P.underlying t2 = some (.slice el2)) (hs : sizeT P el = some sz) (hby : bytesT P el = some bytes) (hz : zeroT P el = some z) (hzl : Nat.beq z.cells.length sz = true) (hsz : Nat.blt 0 sz = true)
    (hx : ev t x = some (.slice b 0 0 0)) (hb : Has h b (.cells g0 [] eb)) (hy : ev t y = some s) (hsl : SliceOf h sz s L) (hL : 0 < L.length) (hroom : (0 + L.length + 300) * 2 * (bytes + 1) < 281474976710656) :
    ∃ h1, aOp P t h ⟨dst, .call ⟨.builtin .append, #[x, y], #[t1, t2]⟩, tt, pos, after, guard⟩ = some (.val (.gsl h.next 0 0 L.length) h1) ∧ Ext h h1 ∧ Has h1 h.next (.cells .grow L.flatten el) := by
  obtain ⟨h1, q⟩ := new_some h (.cells .grow L.flatten el)
  obtain ⟨_, q2, q3⟩ := new_ext q
  refine ⟨h1, ?_, q2, q3⟩
  show opCall P t h ⟨.builtin .append, #[x, y], #[t1, t2]⟩ tt = _
  have he : evs t [x, y] = some [.slice b 0 0 0, s] := by simp only [evs, mapO, hx, hy]
  have hlt : Nat.blt ((0 + L.length + 300) * 2 * (bytes + 1)) 281474976710656 = true := Nat.ble_eq_true_of_le hroom
  have hold : srcCells h sz 0 (.slice b 0 0 0) = some [] := by
    show AbsE.loadCells h b 0 (0 * sz) = _
    unfold AbsE.loadCells
    rw [hb.2, Nat.zero_mul]
    rfl
  have hle : Nat.ble (0 + L.length) 0 = false := by
    cases q : Nat.ble (0 + L.length) 0 with
    | false => rfl
    | true => have := Nat.le_of_ble_eq_true q; omega
  have ha : aAppend P h t1 t2 (.slice b 0 0 0) s = some (.val (.gsl h.next 0 0 L.length) h1) := by
    unfold aAppend
    rw [hu1, hu2]
    simp only [hs, hby, hz, show lenA (.slice b 0 0 0) = some 0 from rfl, hsl.len, hsl.src, hlt, hsz, hzl, cond_true]
    unfold appSlice
    rw [hle, hold]
    simp only [cond_false, List.nil_append, Nat.zero_add]
    unfold growNew
    rw [q]
  simp only [opCall, he, callWith, aBuiltin, ha]
variable {c : FC} {k : List AItem} {Q : AM → Prop} {J : Jump} {all : Array Oper} {l lrest : List Oper} {i d : Nat}
theorem GoR.appendNew {el el2 eb t1 t2 : TypeId} {sz bytes b : Nat} {z s : AVal} {g0 : Kd} {L : List (List AVal)} (hl : l = ⟨dst, .call ⟨.builtin .append, #[x, y], #[t1, t2]⟩, tt, pos, after, guard⟩ :: lrest) (hw : wantedA all t ⟨dst, .call ⟨.builtin .append, #[x, y], #[t1, t2]⟩, tt, pos, after, guard⟩ = some true)
    (hu1 : P.underlying t1 = some (.slice el)) (hu2 : P.underlying t2 = some (.slice el2)) (hs : sizeT P el = some sz) (hby : bytesT P el = some bytes) (hz : zeroT P el = some z) (hzl : Nat.beq z.cells.length sz = true) (hsz : Nat.blt 0 sz = true)
    (hx : ev t x = some (.slice b 0 0 0)) (hb : Has h b (.cells g0 [] eb)) (hy : ev t y = some s) (hsl : SliceOf h sz s L) (hL : 0 < L.length) (hroom : (0 + L.length + 300) * 2 * (bytes + 1) < 281474976710656) (hd : dst = some d) (hdn : Nat.blt d c.n = true)
    (g : ∀ h1, Ext h h1 → Has h1 h.next (.cells .grow L.flatten el) → GoR P J c k Q (runOps P c.n all lrest (i + 1) (t.put (pth d) (some (.gsl h.next 0 0 L.length))) h1)) : GoR P J c k Q (runOps P c.n all l i t h) := by
  obtain ⟨h1, q1, q2, q3⟩ := aOp_appendNew (P := P) (dst := dst) (tt := tt) (pos := pos) (after := after) (guard := guard) hu1 hu2 hs hby hz hzl hsz hx hb hy hsl hL hroom
  exact GoR.op hl hw q1 (prepD_some hd hdn) (g h1 q2 q3)
end
end Go.AbsE

namespace Go.Proofs.Ytmdheijpnlonoaa
open Go Go.AbsE
set_option linter.unusedSimpArgs false
set_option maxRecDepth 100000
set_option maxHeartbeats 0
set_option linter.unusedVariables false
theorem bit_neg : ∀ s, s < 32 → ∀ i, i < 5 → bitB (-(s : Nat) - 1) i = !s.testBit i := by decide
def onL (b : Nat → Bool) : Nat → List LookV → List LookV
  | _, [] => []
  | k, x :: L => if b k then x :: onL b (k + 1) L else onL b (k + 1) L
theorem onL_congr {b b' : Nat → Bool} : ∀ {L : List LookV} {k : Nat}, (∀ i, k ≤ i → i < k + L.length → b i = b' i) → onL b k L = onL b' k L
  | [], _, _ => rfl
  | x :: L, k, h => by
    have ih := onL_congr (b := b) (b' := b') (L := L) (k := k + 1) fun i h1 h2 => h i (by omega) (by simp only [List.length_cons]; omega)
    have h0 := h k (Nat.le_refl _) (by simp)
    unfold onL
    rw [h0, ih]
theorem wo_on (out : Int) : ∀ (L : List LookV) (k : Nat), wo out k L = onL (fun i => !bitB out i) k L
  | [], _ => rfl
  | x :: L, k => by
    unfold wo onL
    rw [wo_on out L (k + 1)]
    cases bitB out k <;> rfl
theorem onL_all : ∀ (L : List LookV) (k : Nat), onL (fun _ => true) k L = L
  | [], _ => rfl
  | x :: L, k => by
    unfold onL
    rw [onL_all L (k + 1), if_pos rfl]
def FieldV.canOn (F : FieldV) (b : Nat → Bool) : Bool := (F.withL (onL b 0 F.looks)).canB
theorem canOn_congr {F : FieldV} {b b' : Nat → Bool} (h : ∀ i, i < F.looks.length → b i = b' i) : F.canOn b = F.canOn b' := by
  unfold FieldV.canOn
  rw [onL_congr fun i h1 h2 => h i (by omega)]
theorem canWo_on (F : FieldV) (out : Int) : F.canWo out = F.canOn fun i => !bitB out i := by
  unfold FieldV.canWo FieldV.canOn
  rw [wo_on]
theorem canOn_all (F : FieldV) : F.canOn (fun _ => true) = F.canB := by
  unfold FieldV.canOn
  rw [onL_all]
  rfl
def FieldV.cl (F : FieldV) (t : Nat) : Bool := !F.canOn fun i => t.testBit i
end Go.Proofs.Ytmdheijpnlonoaa

namespace Go.Proofs.Ytmdheijpnlonoaa
open Go Go.AbsE
set_option linter.unusedSimpArgs false
set_option maxRecDepth 100000
set_option maxHeartbeats 0
set_option linter.unusedVariables false
theorem full_bit : ∀ n, n < 6 → ∀ i, i < n → (2 ^ n - 1).testBit i = true := by decide +kernel
theorem canWo_neg {F : FieldV} (O : F.Ok) {s : Nat} (hs : s < 2 ^ F.looks.length) : (!F.canWo (-(s : Nat) - 1)) = F.cl s := by
  have hn := O.nl
  have h32 : 2 ^ F.looks.length ≤ 32 := Nat.pow_le_pow_right (by omega) hn
  unfold FieldV.cl
  rw [canWo_on]
  congr 1
  refine canOn_congr fun i hi => ?_
  rw [bit_neg s (by omega) i (by omega), Bool.not_not]
theorem cl_every {F : FieldV} (O : F.Ok) : F.cl (2 ^ F.looks.length - 1) = !F.canB := by
  have hn := O.nl
  unfold FieldV.cl
  rw [← canOn_all F]
  congr 1
  exact canOn_congr fun i hi => full_bit _ (by omega) i hi
theorem clash_ex {F : FieldV} (O : F.Ok) (hc : F.canB = false) : ∃ q, FewR F.looks.length (fun s => !F.canWo (-(s : Nat) - 1)) q := by
  have hn := O.nl
  have hpos := Nat.two_pow_pos F.looks.length
  refine few_ex hn ⟨2 ^ F.looks.length - 1, by omega, ?_⟩
  show (!F.canWo (-((2 ^ F.looks.length - 1 : Nat) : Int) - 1)) = true
  rw [canWo_neg O (by omega), cl_every O, hc]
  rfl
end Go.Proofs.Ytmdheijpnlonoaa
