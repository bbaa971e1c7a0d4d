import Derived.Test.YtidfcmjlfadieaaMAN
import Derived.Test.YtidfcmjlfadieaaMAF
import Derived.Test.YtidfcmjlfadieaaChecked
import Derived.KernelRfl
namespace Go.Proofs.Ytidfcmjlfadieaa
open Go Go.AbsE
set_option maxRecDepth 100000
set_option linter.unusedVariables false
variable {np nb : Int} {Ls : List LeaseV} {Ms : List MarkV} {s m : AVal} {h h' : AH}

/-! Whose. -/
def whoseC (np nb : Int) (Ls : List LeaseV) (Ms : List MarkV) (p : Int) : Int × Int :=
  if 0 ≤ p ∧ p ≤ np - 1 then (if 0 < truV np nb Ls Ms then (((whoseV np nb Ls Ms p : Nat) : Int), 0) else (0, 10)) else (0, 2)
theorem whose1_ok (G : Gnd np nb Ls Ms s m h) {bn bp : Nat} {p : Int} (hn : Has h bn (.cells .plain [.int .i64 p] 3)) (hb : Has h bp (.cells .plain [.int .i64 0] 3)) (hne : bn ≠ bp) :
    Runs Try.prog 73 [.agg [.int .i64 np, .int .i64 nb, s, m], .ptr bn 0, .ptr bp 0] h (fun en h' => ExtS [bp] h h' ∧ ∃ code, (en = .ret (.tuple []) ∧ code = 0 ∨ en = .pan (refusal code)) ∧ code = (whoseC np nb Ls Ms p).2 ∧ Has h' bp (.cells .plain [.int .i64 (whoseC np nb Ls Ms p).1] 3)) := by
  refine Runs.intro aFunc73 rfl rfl rfl rfl fun rest => ?_
  refine Go.seq noJ_ok (Go.region noJ_ok rfl ?_)
  refine GoR.box rfl rfl rfl rfl rfl rfl fun h1 x1 f1 => ?_
  refine GoR.end (Go.seq noJ_ok (Go.region noJ_ok rfl ?_))
  have lp := hb.1
  have hnp := G.np
  have hn1 := hn.ext x1
  have G1 := G.ext x1
  refine GoR.op rfl rfl (ld3 rfl hn1 rfl) rfl ?_
  refine GoR.op rfl rfl (fa92_0 rfl) rfl ?_
  refine GoR.op rfl rfl (ld3 rfl f1 rfl) rfl ?_
  refine GoR.op rfl rfl (aOp_sub rfl rfl (by constructor <;> omega) rfl) rfl ?_
  by_cases hin : 0 ≤ p ∧ p ≤ np - 1
  · refine GoR.call rfl rfl (aOp_callFunc aFunc75 rfl) (inside_ok p 0 (np - 1) (decide_eq_true hin) h1) ?_ (by rintro _ _ ⟨q, _⟩; cases q)
    rintro _ h2 ⟨q, x2⟩
    cases q
    refine ⟨_, rfl, ?_⟩
    have x02 := x1.trans x2
    refine GoR.op rfl rfl rfl rfl ?_
    refine GoR.call rfl rfl (aOp_callFunc aFunc74 rfl) (refuse_ok false 2 h2) ?_ (by rintro _ _ ⟨_, ⟨_, q⟩ | ⟨q, _⟩⟩ <;> cases q)
    rintro v h3 ⟨rfl, ⟨_, q⟩ | ⟨q, _⟩⟩
    case inr => cases q
    cases q
    refine ⟨_, rfl, GoR.end (Go.seq noJ_ok (Go.region noJ_ok rfl ?_))⟩
    have f2 := f1.ext x2
    refine GoR.op rfl rfl (ld92 rfl f2 rfl) rfl ?_
    refine GoR.callP rfl rfl (aOp_callFunc aFunc76 rfl) (needTruth_ok (G1.ext x2)) ?_ ?_
    · rintro v h4 ⟨x4, ⟨ht, q⟩ | ⟨_, q⟩⟩
      case inr => cases q
      cases q
      refine ⟨_, rfl, GoR.end (Go.region noJ_ok rfl ?_)⟩
      refine GoR.op rfl rfl (ld92 rfl (f2.ext x4) rfl) rfl ?_
      refine GoR.op rfl rfl (ld3 rfl ((hn1.ext x2).ext x4) rfl) rfl ?_
      refine GoR.call rfl rfl (aOp_callFunc aFunc77 rfl) (whose_ok (G.ext (x02.trans x4)) p) ?_ (by rintro _ _ ⟨q, _⟩; cases q)
      rintro _ h5 ⟨q, x5⟩
      cases q
      refine ⟨_, rfl, ?_⟩
      have x05 := (x02.trans x4).trans x5
      have p5 := hb.ext x05
      refine GoR.store rfl rfl rfl rfl rfl rfl p5 rfl sz3 rfl rfl rfl fun h6 u6 => ?_
      have e : whoseC np nb Ls Ms p = (((whoseV np nb Ls Ms p : Nat) : Int), 0) := by unfold whoseC; rw [if_pos hin, if_pos ht]
      rw [e]
      refine GoR.end (Go.endL (FLeft.ret (v := .tuple []) (aResult_of Try.func73 rfl rfl) ⟨⟨by rw [u6.1]; exact x05.1, fun b hbl hn => ?_⟩, 0, .inl ⟨rfl, rfl⟩, rfl, u6.has p5⟩))
      simp at hn
      rw [u6.2.2 b hn, x05.2 b hbl]
    · rintro chain h4 ⟨x4, ⟨_, q⟩ | ⟨ht, q⟩⟩
      · cases q
      have x04 := x02.trans x4
      have e : whoseC np nb Ls Ms p = (0, 10) := by unfold whoseC; rw [if_pos hin, if_neg ht]
      rw [e]
      exact FLeft.pan ⟨⟨x04.1, fun b hb _ => x04.2 b hb⟩, 10, .inr q, rfl, hb.ext x04⟩
  · refine GoR.call rfl rfl (aOp_callFunc aFunc75 rfl) (inside_ok p 0 (np - 1) (decide_eq_false hin) h1) ?_ (by rintro _ _ ⟨q, _⟩; cases q)
    rintro _ h2 ⟨q, x2⟩
    cases q
    refine ⟨_, rfl, ?_⟩
    have x02 := x1.trans x2
    refine GoR.op rfl rfl rfl rfl ?_
    refine GoR.callP rfl rfl (aOp_callFunc aFunc74 rfl) (refuse_ok true 2 h2) (by rintro _ _ ⟨_, ⟨q, _⟩ | ⟨_, q⟩⟩ <;> cases q) ?_
    rintro chain h3 ⟨rfl, ⟨q, _⟩ | ⟨_, q⟩⟩
    · cases q
    have e : whoseC np nb Ls Ms p = (0, 2) := by unfold whoseC; rw [if_neg hin]
    rw [e]
    exact FLeft.pan ⟨⟨x02.1, fun b hb _ => x02.2 b hb⟩, 2, .inr q, rfl, hb.ext x02⟩

def whoseR (np nb : Int) (Ls : List LeaseV) (Ms : List MarkV) (p : Int) : Int × Int := if bankValid np nb Ls Ms then whoseC np nb Ls Ms p else (0, 1)
theorem Has.kept {S : List Nat} {h2 h3 h2'' : AH} {b : Nat} {o : ABlk} (e1 : ExtS S h2 h3) (e2 : ∀ b, b < h2.next → h3.get b = h2''.get b) (hb : b < h2.next) (k : Has h2'' b o) : Has h3 b o := ⟨by have := e1.1; omega, by rw [e2 _ hb]; exact k.2⟩
/-- Whose. -/
theorem Whose_ok (B : BankIn h np nb s m Ls Ms) (p : Int) : Runs Try.prog 22 [.agg [.int .i64 np, .int .i64 nb, s, m], .int .i64 p] h
    (fun en h' => en = .ret (.tuple [.int .i64 (whoseR np nb Ls Ms p).1, .int .i64 (whoseR np nb Ls Ms p).2]) ∧ Ext h h') := by
  refine Runs.intro aFunc22 rfl rfl rfl rfl fun rest => ?_
  refine Go.seq noJ_ok (Go.region noJ_ok rfl ?_)
  refine GoR.box rfl rfl rfl rfl rfl rfl fun h0 x0 f0 => ?_
  refine GoR.box rfl rfl rfl rfl rfl rfl fun h1 x1 f1 => ?_
  refine GoR.alloc rfl rfl rfl zt3 rfl rfl fun h2 x2 f2 => ?_
  refine GoR.op rfl rfl rfl rfl ?_
  refine GoR.end (Go.seq noJ_ok (Go.region noJ_ok rfl ?_))
  have x12 := (x0.trans x1).trans x2
  have a0 := x0.1
  have a1 := x1.1
  have a2 := x2.1
  have l1 := f1.1
  have l2 := f2.1
  replace f0 := (f0.ext x1).ext x2
  replace f1 := f1.ext x2
  refine GoR.op rfl rfl (ld25 rfl f0 rfl) rfl ?_
  refine GoR.op rfl rfl rfl rfl ?_
  have hne : h0.next ≠ h1.next := by omega
  have hatt : Runs Try.prog 58 [.agg [.int .i64 np, .int .i64 nb, s, m], .func (.func 73) [] [.ptr h0.next 0, .ptr h1.next 0]] h2 (fun en h' => en = .ret (.int .i64 (whoseR np nb Ls Ms p).2) ∧ ExtS [h1.next] h2 h' ∧ Has h' h1.next (.cells .plain [.int .i64 (whoseR np nb Ls Ms p).1] 3)) := by
    unfold whoseR
    cases hv : bankValid np nb Ls Ms with
    | false =>
      refine (attempt_invalid np nb s m Ls Ms 73 [] [.ptr h0.next 0, .ptr h1.next 0] h2 (B.ext x12) hv).mono ?_
      rintro en h' ⟨q, x⟩
      exact ⟨q, ⟨x.1, fun b hb _ => x.2 b hb⟩, f2.ext x⟩
    | true =>
      refine (attempt_valid np nb s m Ls Ms 73 _ aFunc73 [] [.ptr h0.next 0, .ptr h1.next 0] h2 (B.ext x12) hv [h1.next] (by simp; omega) (fun code h'' => code = (whoseC np nb Ls Ms p).2 ∧ Has h'' h1.next (.cells .plain [.int .i64 (whoseC np nb Ls Ms p).1] 3)) ?_).mono ?_
      · intro s' h' x' hs' hss' _ _
        refine (whose1_ok ((B.ext x12).gnd hv x' hs' hss') (f1.ext x') (f2.ext x') hne).mono ?_
        rintro en h'' ⟨e, code, ⟨q, rfl⟩ | q, hc, g⟩
        · exact ⟨e, .inl ⟨q, hc, g⟩⟩
        · exact ⟨e, .inr ⟨code, q, hc, g⟩⟩
      · rintro en h3 ⟨code, h2'', q, ⟨rfl, g⟩, e3, e4⟩
        rw [if_pos rfl]
        exact ⟨q, e3, Has.kept e3 e4 (by omega) g⟩
  refine GoR.call rfl rfl (aOp_callFunc aFunc58 rfl) hatt ?_ (by rintro _ _ ⟨q, _⟩; cases q)
  rintro _ h3 ⟨q, e3, p3⟩
  cases q
  refine ⟨_, rfl, ?_⟩
  refine GoR.op rfl rfl rfl rfl ?_
  refine GoR.end (Go.seq noJ_ok (Go.region noJ_ok rfl ?_))
  refine GoR.op rfl rfl (ld3 rfl p3 rfl) rfl ?_
  refine GoR.op rfl rfl rfl rfl ?_
  refine GoR.store rfl rfl rfl rfl rfl rfl p3 rfl sz3 rfl rfl rfl fun h4 u4 => ?_
  refine GoR.op rfl rfl rfl rfl ?_
  have n3 := e3.1
  have x3 : Ext h h3 := ⟨by have := x12.1; omega, fun b hb => by rw [e3.2 b (by have := x12.1; omega) (by simp; omega), x12.2 b hb]⟩
  refine GoR.end (Go.retL fun _ => ?_)
  exact (FLeft.ret (v := .tuple [.int .i64 (whoseR np nb Ls Ms p).1, .int .i64 (whoseR np nb Ls Ms p).2]) (aResult_of Try.func22 rfl (aResults_cellC rfl (u4.has p3) (inCells_one ag3 rfl) (aResults_tmp rfl))) ⟨rfl, x3.upd u4 (by omega)⟩) _
end Go.Proofs.Ytidfcmjlfadieaa

namespace Go.Proofs.Ytidfcmjlfadieaa
open Go Go.AbsE
set_option maxRecDepth 100000
set_option linter.unusedVariables false
variable {np nb : Int} {Ls : List LeaseV} {Ms : List MarkV} {s m : AVal} {h h' : AH}

/-! Has. -/
def surV (np nb : Int) (Ls : List LeaseV) (Ms : List MarkV) (hd : Nat) : Nat := setB (surF np nb Ls Ms hd) np.toNat
def perV (np nb : Int) (Ls : List LeaseV) (Ms : List MarkV) (hd : Nat) : Nat := setB (perF np nb Ls Ms hd) np.toNat
def hasC (np nb : Int) (Ls : List LeaseV) (Ms : List MarkV) (hd : Nat) : Int × Int × Int :=
  if (hd : Int) ≤ nb then (if 0 < truV np nb Ls Ms then (((surV np nb Ls Ms hd : Nat) : Int), ((perV np nb Ls Ms hd : Nat) : Int), 10 - 10) else (0, 0, 10)) else (0, 0, 2)
theorem has1_ok (G : Gnd np nb Ls Ms s m h) {bn bp bl : Nat} {hd : Nat} (hn : Has h bn (.cells .plain [.int .i64 (hd : Nat)] 3)) (hb : Has h bp (.cells .plain [.int .i64 0] 3)) (hl : Has h bl (.cells .plain [.int .i64 0] 3)) (hne : bp ≠ bl) :
    Runs Try.prog 78 [.agg [.int .i64 np, .int .i64 nb, s, m], .ptr bn 0, .ptr bp 0, .ptr bl 0] h (fun en h' => ExtS [bp, bl] h h' ∧ ∃ code, (en = .ret (.tuple []) ∧ code = 0 ∨ en = .pan (refusal code)) ∧ code = (hasC np nb Ls Ms hd).2.2 ∧ Has h' bp (.cells .plain [.int .i64 (hasC np nb Ls Ms hd).1] 3) ∧ Has h' bl (.cells .plain [.int .i64 (hasC np nb Ls Ms hd).2.1] 3)) := by
  refine Runs.intro aFunc78 rfl rfl rfl rfl fun rest => ?_
  refine Go.seq noJ_ok (Go.region noJ_ok rfl ?_)
  refine GoR.box rfl rfl rfl rfl rfl rfl fun h1 x1 f1 => ?_
  refine GoR.end (Go.seq noJ_ok (Go.region noJ_ok rfl ?_))
  have lp := hb.1
  have ll := hl.1
  have hnb := G.nb
  have hn1 := hn.ext x1
  have G1 := G.ext x1
  refine GoR.op rfl rfl (ld3 rfl hn1 rfl) rfl ?_
  refine GoR.op rfl rfl (fa92_1 rfl) rfl ?_
  refine GoR.op rfl rfl (ld3 rfl f1 rfl) rfl ?_
  by_cases hin : (hd : Int) ≤ nb
  · refine GoR.call rfl rfl (aOp_callFunc aFunc75 rfl) (inside_ok (hd : Int) 0 nb (decide_eq_true (by omega)) h1) ?_ (by rintro _ _ ⟨q, _⟩; cases q)
    rintro _ h2 ⟨q, x2⟩
    cases q
    refine ⟨_, rfl, ?_⟩
    have x02 := x1.trans x2
    refine GoR.op rfl rfl rfl rfl ?_
    refine GoR.call rfl rfl (aOp_callFunc aFunc74 rfl) (refuse_ok false 2 h2) ?_ (by rintro _ _ ⟨_, ⟨_, q⟩ | ⟨q, _⟩⟩ <;> cases q)
    rintro v h3 ⟨rfl, ⟨_, q⟩ | ⟨q, _⟩⟩
    case inr => cases q
    cases q
    refine ⟨_, rfl, GoR.end (Go.seq noJ_ok (Go.region noJ_ok rfl ?_))⟩
    have f2 := f1.ext x2
    refine GoR.op rfl rfl (ld92 rfl f2 rfl) rfl ?_
    refine GoR.callP rfl rfl (aOp_callFunc aFunc76 rfl) (needTruth_ok (G1.ext x2)) ?_ ?_
    · rintro v h4 ⟨x4, ⟨ht, q⟩ | ⟨_, q⟩⟩
      case inr => cases q
      cases q
      refine ⟨_, rfl, GoR.end (Go.region noJ_ok rfl ?_)⟩
      refine GoR.op rfl rfl (ld92 rfl (f2.ext x4) rfl) rfl ?_
      refine GoR.op rfl rfl (ld3 rfl ((hn1.ext x2).ext x4) rfl) rfl ?_
      refine GoR.call rfl rfl (aOp_callFunc aFunc79 rfl) (has_ok (G.ext (x02.trans x4)) hd (by omega)) ?_ (by rintro _ _ ⟨q, _⟩; cases q)
      rintro _ h5 ⟨q, x5⟩
      cases q
      refine ⟨_, rfl, ?_⟩
      have x05 := (x02.trans x4).trans x5
      have p5 := hb.ext x05
      have l5 := hl.ext x05
      refine GoR.op rfl rfl rfl rfl ?_
      refine GoR.op rfl rfl rfl rfl ?_
      refine GoR.op rfl rfl rfl rfl ?_
      refine GoR.store rfl rfl rfl rfl rfl rfl p5 rfl sz3 rfl rfl rfl fun h6 u6 => ?_
      have l6 := l5.upd u6 (fun e => hne e.symm)
      refine GoR.store rfl rfl rfl rfl rfl rfl l6 rfl sz3 rfl rfl rfl fun h7 u7 => ?_
      have e : hasC np nb Ls Ms hd = (((surV np nb Ls Ms hd : Nat) : Int), ((perV np nb Ls Ms hd : Nat) : Int), 0) := by unfold hasC; rw [if_pos hin, if_pos ht]; rfl
      rw [e]
      refine GoR.end (Go.endL (FLeft.ret (v := .tuple []) (aResult_of Try.func78 rfl rfl) ⟨⟨by rw [u7.1, u6.1]; exact x05.1, fun b hbl hn => ?_⟩, 0, .inl ⟨rfl, rfl⟩, rfl, (u6.has p5).upd u7 hne, u7.has l6⟩))
      simp at hn
      rw [u7.2.2 b hn.2, u6.2.2 b hn.1, x05.2 b hbl]
    · rintro chain h4 ⟨x4, ⟨_, q⟩ | ⟨ht, q⟩⟩
      · cases q
      have x04 := x02.trans x4
      have e : hasC np nb Ls Ms hd = (0, 0, 10) := by unfold hasC; rw [if_pos hin, if_neg ht]
      rw [e]
      exact FLeft.pan ⟨⟨x04.1, fun b hb _ => x04.2 b hb⟩, 10, .inr q, rfl, hb.ext x04, hl.ext x04⟩
  · refine GoR.call rfl rfl (aOp_callFunc aFunc75 rfl) (inside_ok (hd : Int) 0 nb (decide_eq_false (by omega)) h1) ?_ (by rintro _ _ ⟨q, _⟩; cases q)
    rintro _ h2 ⟨q, x2⟩
    cases q
    refine ⟨_, rfl, ?_⟩
    have x02 := x1.trans x2
    refine GoR.op rfl rfl rfl rfl ?_
    refine GoR.callP rfl rfl (aOp_callFunc aFunc74 rfl) (refuse_ok true 2 h2) (by rintro _ _ ⟨_, ⟨q, _⟩ | ⟨_, q⟩⟩ <;> cases q) ?_
    rintro chain h3 ⟨rfl, ⟨q, _⟩ | ⟨_, q⟩⟩
    · cases q
    have e : hasC np nb Ls Ms hd = (0, 0, 2) := by unfold hasC; rw [if_neg hin]
    rw [e]
    exact FLeft.pan ⟨⟨x02.1, fun b hb _ => x02.2 b hb⟩, 2, .inr q, rfl, hb.ext x02, hl.ext x02⟩

noncomputable def ops23 : Array Oper := ((drawnOps Try.f23)[0]?).getD #[]
theorem plan23 : plan ops23 = some (mkPlan ops23.toList [(0, 0, true, false), (1, 0, true, false), (2, 0, true, false), (3, 1, false, false), (4, 11, false, false), (5, 31, true, false)]) := by kernel_rfl

/-- Has, of a bank that is valid. -/
theorem Has_ok (B : BankIn h np nb s m Ls Ms) (hv : bankValid np nb Ls Ms = true) (hd : Nat) : Runs Try.prog 23 [.agg [.int .i64 np, .int .i64 nb, s, m], .int .i64 (hd : Nat)] h
    (fun en h' => en = .ret (.tuple [.int .i64 (hasC np nb Ls Ms hd).1, .int .i64 (hasC np nb Ls Ms hd).2.1, .int .i64 (hasC np nb Ls Ms hd).2.2]) ∧ Ext h h') := by
  refine Runs.intro aFunc23 rfl rfl rfl rfl fun rest => ?_
  refine Go.seq noJ_ok (Go.region noJ_ok rfl ?_)
  refine GoR.box rfl rfl rfl rfl rfl rfl fun h0 x0 f0 => ?_
  refine GoR.box rfl rfl rfl rfl rfl rfl fun h1 x1 f1 => ?_
  refine GoR.alloc rfl rfl rfl zt3 rfl rfl fun h2 x2 f2 => ?_
  refine GoR.alloc rfl rfl rfl zt3 rfl rfl fun h2' x2' f2' => ?_
  refine GoR.op rfl rfl rfl rfl ?_
  refine GoR.end (Go.seq noJ_ok (Go.region noJ_ok rfl ?_))
  have x12 := ((x0.trans x1).trans x2).trans x2'
  have a0 := x0.1
  have a1 := x1.1
  have a2 := x2.1
  have a2' := x2'.1
  have l1 := f1.1
  have l2 := f2.1
  have l2' := f2'.1
  replace f0 := ((f0.ext x1).ext x2).ext x2'
  replace f1 := (f1.ext x2).ext x2'
  replace f2 := f2.ext x2'
  refine GoR.op rfl rfl (ld25 rfl f0 rfl) rfl ?_
  refine GoR.op rfl rfl rfl rfl ?_
  have hne : h1.next ≠ h2.next := by omega
  have hatt : Runs Try.prog 58 [.agg [.int .i64 np, .int .i64 nb, s, m], .func (.func 78) [] [.ptr h0.next 0, .ptr h1.next 0, .ptr h2.next 0]] h2' (fun en h' => en = .ret (.int .i64 (hasC np nb Ls Ms hd).2.2) ∧ ExtS [h1.next, h2.next] h2' h' ∧ Has h' h1.next (.cells .plain [.int .i64 (hasC np nb Ls Ms hd).1] 3) ∧ Has h' h2.next (.cells .plain [.int .i64 (hasC np nb Ls Ms hd).2.1] 3)) := by
    refine (attempt_valid np nb s m Ls Ms 78 _ aFunc78 [] [.ptr h0.next 0, .ptr h1.next 0, .ptr h2.next 0] h2' (B.ext x12) hv [h1.next, h2.next] (by simp; omega) (fun code h'' => code = (hasC np nb Ls Ms hd).2.2 ∧ Has h'' h1.next (.cells .plain [.int .i64 (hasC np nb Ls Ms hd).1] 3) ∧ Has h'' h2.next (.cells .plain [.int .i64 (hasC np nb Ls Ms hd).2.1] 3)) ?_).mono ?_
    · intro s' h' x' hs' hss' _ _
      refine (has1_ok ((B.ext x12).gnd hv x' hs' hss') (f1.ext x') (f2.ext x') (f2'.ext x') hne).mono ?_
      rintro en h'' ⟨e, code, ⟨q, rfl⟩ | q, hc, g⟩
      · exact ⟨e, .inl ⟨q, hc, g⟩⟩
      · exact ⟨e, .inr ⟨code, q, hc, g⟩⟩
    · rintro en h3 ⟨code, h2'', q, ⟨rfl, g, g'⟩, e3, e4⟩
      exact ⟨q, e3, Has.kept e3 e4 (by omega) g, Has.kept e3 e4 (by omega) g'⟩
  refine GoR.call rfl rfl (aOp_callFunc aFunc58 rfl) hatt ?_ (by rintro _ _ ⟨q, _⟩; cases q)
  rintro _ h3 ⟨q, e3, p3, l3⟩
  cases q
  refine ⟨_, rfl, ?_⟩
  refine GoR.op rfl rfl rfl rfl ?_
  refine GoR.end (Go.seq noJ_ok (Go.drawnE plan23 ?_))
  refine GoE.quiet rfl rfl (ld3 rfl p3 rfl) rfl ?_
  refine GoE.quiet rfl rfl (ld3 rfl l3 rfl) rfl ?_
  refine GoE.quiet rfl rfl rfl rfl ?_
  refine GoE.store rfl rfl rfl rfl (dropF_keep (show bit? 1 2 = false from rfl) (dropF_keep (show bit? 1 1 = false from rfl) (dropF_drop (show bit? 1 0 = true from rfl) rfl))) rfl rfl p3 rfl sz3 rfl rfl rfl fun h4 u4 => ?_
  have l4 := l3.upd u4 (fun e => hne e.symm)
  refine ⟨?_, ?_⟩
  · exact recheck_cons (h2 := h4) rfl rfl (sameA_int _ _) (recheck_cons (h2 := h4) rfl (ld3 rfl l4 rfl) (sameA_int _ _) recheck_nil)
  refine GoE.store rfl rfl rfl rfl (dropF_keep (show bit? 11 2 = false from rfl) (dropF_drop (show bit? 11 1 = true from rfl) rfl)) rfl rfl l4 rfl sz3 rfl rfl rfl fun h5 u5 => ?_
  refine ⟨?_, ?_⟩
  · exact recheck_cons (h2 := h5) rfl rfl (sameA_int _ _) recheck_nil
  refine GoE.quiet rfl rfl rfl rfl ?_
  have n3 := e3.1
  have n4 : h4.next = h3.next := u4.1
  have n5 : h5.next = h4.next := u5.1
  refine GoE.end rfl (Go.ret noJ_ok (ret_end (aResult_of Try.func23 rfl (aResults_cellC rfl ((u4.has p3).upd u5 hne) (inCells_one ag3 rfl) (aResults_cellC rfl (u5.has l4) (inCells_one ag3 rfl) (aResults_tmp rfl)))) ⟨rfl, by have := x12.1; omega, fun b hb => ?_⟩))
  have := x12.1
  rw [u5.2.2 b (by omega), u4.2.2 b (by omega), e3.2 b (by omega) (by simp; omega), x12.2 b hb]

/-! Line and Wide, of none. -/
theorem line1_ok (G : Gnd np nb Ls Ms s m h) {bn : Nat} (hn : Has h bn (.cells .plain [.int .i64 0] 3)) {w : AVal} :
    Runs Try.prog 83 [.agg [.int .i64 np, .int .i64 nb, s, m], .ptr bn 0, w] h (fun en h' => Ext h h' ∧ en = .pan (refusal 2)) := by
  refine Runs.intro aFunc83 rfl rfl rfl rfl fun rest => ?_
  refine Go.seq noJ_ok (Go.region noJ_ok rfl ?_)
  refine GoR.box rfl rfl rfl rfl rfl rfl fun h1 x1 f1 => ?_
  refine GoR.end (Go.seq noJ_ok (Go.region noJ_ok rfl ?_))
  have hnp := G.np
  have hn1 := hn.ext x1
  refine GoR.op rfl rfl (ld3 rfl hn1 rfl) rfl ?_
  refine GoR.op rfl rfl (fa92_0 rfl) rfl ?_
  refine GoR.op rfl rfl (ld3 rfl f1 rfl) rfl ?_
  refine GoR.op rfl rfl (aOp_sub rfl rfl (by constructor <;> omega) rfl) rfl ?_
  refine GoR.call rfl rfl (aOp_callFunc aFunc75 rfl) (inside_ok 0 1 (np - 1) (decide_eq_false (by omega)) h1) ?_ (by rintro _ _ ⟨q, _⟩; cases q)
  rintro _ h2 ⟨q, x2⟩
  cases q
  refine ⟨_, rfl, ?_⟩
  refine GoR.op rfl rfl rfl rfl ?_
  refine GoR.callP rfl rfl (aOp_callFunc aFunc74 rfl) (refuse_ok true 2 h2) (by rintro _ _ ⟨_, ⟨q, _⟩ | ⟨_, q⟩⟩ <;> cases q) ?_
  rintro chain h3 ⟨rfl, ⟨q, _⟩ | ⟨_, q⟩⟩
  · cases q
  exact FLeft.pan ⟨x1.trans x2, q⟩
theorem wide1_ok (G : Gnd np nb Ls Ms s m h) {bn : Nat} (hn : Has h bn (.cells .plain [.int .i64 (-1)] 3)) {w : AVal} :
    Runs Try.prog 80 [.agg [.int .i64 np, .int .i64 nb, s, m], .ptr bn 0, w] h (fun en h' => Ext h h' ∧ en = .pan (refusal 2)) := by
  refine Runs.intro aFunc80 rfl rfl rfl rfl fun rest => ?_
  refine Go.seq noJ_ok (Go.region noJ_ok rfl ?_)
  refine GoR.box rfl rfl rfl rfl rfl rfl fun h1 x1 f1 => ?_
  refine GoR.end (Go.seq noJ_ok (Go.region noJ_ok rfl ?_))
  have hn1 := hn.ext x1
  refine GoR.op rfl rfl (ld3 rfl hn1 rfl) rfl ?_
  refine GoR.op rfl rfl (fa92_1 rfl) rfl ?_
  refine GoR.op rfl rfl (ld3 rfl f1 rfl) rfl ?_
  refine GoR.call rfl rfl (aOp_callFunc aFunc75 rfl) (inside_ok (-1) 0 nb (decide_eq_false (by omega)) h1) ?_ (by rintro _ _ ⟨q, _⟩; cases q)
  rintro _ h2 ⟨q, x2⟩
  cases q
  refine ⟨_, rfl, ?_⟩
  refine GoR.op rfl rfl rfl rfl ?_
  refine GoR.callP rfl rfl (aOp_callFunc aFunc74 rfl) (refuse_ok true 2 h2) (by rintro _ _ ⟨_, ⟨q, _⟩ | ⟨_, q⟩⟩ <;> cases q) ?_
  rintro chain h3 ⟨rfl, ⟨q, _⟩ | ⟨_, q⟩⟩
  · cases q
  exact FLeft.pan ⟨x1.trans x2, q⟩
/-- A call that is given up leaves nothing. -/
theorem attempt_refused {F : FuncId} {fF : Func} (hF : aFunc Try.prog F = some fF) {cap : List AVal} (B : BankIn h np nb s m Ls Ms) (hv : bankValid np nb Ls Ms = true) {c : Int}
    (hb : ∀ s' h', Ext h h' → Gnd np nb Ls Ms s' m h' → Runs Try.prog F ([.agg [.int .i64 np, .int .i64 nb, s', m]] ++ cap) h' (fun en h'' => Ext h' h'' ∧ en = .pan (refusal c))) :
    Runs Try.prog 58 [.agg [.int .i64 np, .int .i64 nb, s, m], .func (.func F) [] cap] h (fun en h' => en = .ret (.int .i64 c) ∧ Ext h h') := by
  refine (attempt_valid np nb s m Ls Ms F _ hF [] cap h B hv [] (by simp) (fun code _ => code = c) ?_).mono ?_
  · intro s' h' x' hs' hss' _ _
    refine (hb s' h' x' (B.gnd hv x' hs' hss')).mono ?_
    rintro en h'' ⟨e, q⟩
    exact ⟨⟨e.1, fun b hb _ => e.2 b hb⟩, .inr ⟨c, q, rfl⟩⟩
  · rintro en h3 ⟨code, h2'', q, rfl, e3, e4⟩
    exact ⟨q, e3.1, fun b hb => e3.2 b hb (by simp)⟩
theorem Line_none (B : BankIn h np nb s m Ls Ms) (hv : bankValid np nb Ls Ms = true) : Runs Try.prog 26 [.agg [.int .i64 np, .int .i64 nb, s, m], .int .i64 0] h
    (fun en h' => en = .ret (.tuple [.int .i64 0, .int .i64 2]) ∧ Ext h h') := by
  refine Runs.intro aFunc26 rfl rfl rfl rfl fun rest => ?_
  refine Go.seq noJ_ok (Go.region noJ_ok rfl ?_)
  refine GoR.box rfl rfl rfl rfl rfl rfl fun h0 x0 f0 => ?_
  refine GoR.box rfl rfl rfl rfl rfl rfl fun h1 x1 f1 => ?_
  refine GoR.alloc rfl rfl rfl zt3 rfl rfl fun h2 x2 f2 => ?_
  refine GoR.op rfl rfl rfl rfl ?_
  refine GoR.end (Go.seq noJ_ok (Go.region noJ_ok rfl ?_))
  have x12 := (x0.trans x1).trans x2
  have a0 := x0.1
  have a1 := x1.1
  replace f0 := (f0.ext x1).ext x2
  replace f1 := f1.ext x2
  refine GoR.op rfl rfl (ld25 rfl f0 rfl) rfl ?_
  refine GoR.op rfl rfl rfl rfl ?_
  refine GoR.call rfl rfl (aOp_callFunc aFunc58 rfl) (attempt_refused aFunc83 (B.ext x12) hv (fun s' h' x' G => line1_ok G (f1.ext x'))) ?_ (by rintro _ _ ⟨q, _⟩; cases q)
  rintro _ h3 ⟨q, x3⟩
  cases q
  refine ⟨_, rfl, ?_⟩
  have p3 := f2.ext x3
  refine GoR.op rfl rfl rfl rfl ?_
  refine GoR.end (Go.seq noJ_ok (Go.region noJ_ok rfl ?_))
  refine GoR.op rfl rfl (ld3 rfl p3 rfl) rfl ?_
  refine GoR.op rfl rfl rfl rfl ?_
  refine GoR.store rfl rfl rfl rfl rfl rfl p3 rfl sz3 rfl rfl rfl fun h4 u4 => ?_
  refine GoR.op rfl rfl rfl rfl ?_
  refine GoR.end (Go.retL fun _ => ?_)
  exact (FLeft.ret (v := .tuple [.int .i64 0, .int .i64 2]) (aResult_of Try.func26 rfl (aResults_cellC rfl (u4.has p3) (inCells_one ag3 rfl) (aResults_tmp rfl))) ⟨rfl, (x12.trans x3).upd u4 (by omega)⟩) _
theorem Wide_none (B : BankIn h np nb s m Ls Ms) (hv : bankValid np nb Ls Ms = true) : Runs Try.prog 24 [.agg [.int .i64 np, .int .i64 nb, s, m], .int .i64 (-1)] h
    (fun en h' => en = .ret (.tuple [.agg [.int .i64 0, .int .i64 0], .int .i64 2]) ∧ Ext h h') := by
  refine Runs.intro aFunc24 rfl rfl rfl rfl fun rest => ?_
  refine Go.seq noJ_ok (Go.region noJ_ok rfl ?_)
  refine GoR.box rfl rfl rfl rfl rfl rfl fun h0 x0 f0 => ?_
  refine GoR.box rfl rfl rfl rfl rfl rfl fun h1 x1 f1 => ?_
  refine GoR.alloc rfl rfl rfl zt40 rfl rfl fun h2 x2 f2 => ?_
  refine GoR.op rfl rfl rfl rfl ?_
  refine GoR.end (Go.seq noJ_ok (Go.region noJ_ok rfl ?_))
  have x12 := (x0.trans x1).trans x2
  have a0 := x0.1
  have a1 := x1.1
  replace f0 := (f0.ext x1).ext x2
  replace f1 := f1.ext x2
  refine GoR.op rfl rfl (ld25 rfl f0 rfl) rfl ?_
  refine GoR.op rfl rfl rfl rfl ?_
  refine GoR.call rfl rfl (aOp_callFunc aFunc58 rfl) (attempt_refused aFunc80 (B.ext x12) hv (fun s' h' x' G => wide1_ok G (f1.ext x'))) ?_ (by rintro _ _ ⟨q, _⟩; cases q)
  rintro _ h3 ⟨q, x3⟩
  cases q
  refine ⟨_, rfl, ?_⟩
  have p3 := f2.ext x3
  refine GoR.op rfl rfl rfl rfl ?_
  refine GoR.end (Go.seq noJ_ok (Go.region noJ_ok rfl ?_))
  refine GoR.op rfl rfl (ld40 rfl p3 rfl) rfl ?_
  refine GoR.op rfl rfl rfl rfl ?_
  refine GoR.store rfl rfl rfl rfl rfl rfl p3 rfl sz40 rfl rfl rfl fun h4 u4 => ?_
  refine GoR.op rfl rfl rfl rfl ?_
  refine GoR.end (Go.retL fun _ => ?_)
  exact (FLeft.ret (v := .tuple [.agg [.int .i64 0, .int .i64 0], .int .i64 2]) (aResult_of Try.func24 rfl (aResults_cellC rfl (u4.has p3) (inCells_agg ag40 sz40 rfl) (aResults_tmp rfl))) ⟨rfl, (x12.trans x3).upd u4 (by omega)⟩) _
end Go.Proofs.Ytidfcmjlfadieaa

namespace Go.Proofs.Ytidfcmjlfadieaa
open Go Go.AbsE
set_option maxRecDepth 100000
set_option linter.unusedVariables false
variable {np nb : Int} {Ls : List LeaseV} {Ms : List MarkV} {s m : AVal} {h h' : AH}
theorem whoseV_bit (p : Int) (o : Nat) : (whoseV np nb Ls Ms p).testBit o = (decide (o < nb.toNat + 1) && whoF np nb Ls Ms p o) := setB_bit _ _ _
theorem sum_pos_mem : ∀ L : List Int, 0 < L.sum → ∃ x, x ∈ L ∧ 0 < x := by
  intro L
  induction L with
  | nil => intro h; simp at h
  | cons a L ih =>
    intro h
    rw [List.sum_cons] at h
    by_cases ha : 0 < a
    · exact ⟨a, by simp, ha⟩
    · obtain ⟨x, h1, h2⟩ := ih (by omega)
      exact ⟨x, by simp [h1], h2⟩
theorem sum_between {c : Int} : ∀ L : List Int, (∀ x, x ∈ L → 0 ≤ x ∧ x ≤ c) → 0 ≤ L.sum ∧ L.sum ≤ L.length * c := by
  intro L
  induction L with
  | nil => intro _; simp
  | cons a L ih =>
    intro h
    obtain ⟨h1, h2⟩ := ih (fun x hx => h x (by simp [hx]))
    have := h a (by simp)
    rw [List.sum_cons, List.length_cons]
    refine ⟨by omega, ?_⟩
    have e : ((L.length + 1 : Nat) : Int) * c = L.length * c + c := by rw [Int.natCast_add, Int.add_mul]; simp
    rw [e]
    omega
theorem valid_holders (hv : bankValid np nb Ls Ms = true) : ∀ l, l ∈ Ls → 0 ≤ l.o ∧ l.o ≤ nb - 1 := by
  intro l hl
  unfold bankValid at hv
  simp only [Bool.and_eq_true, decide_eq_true_eq] at hv
  obtain ⟨⟨⟨⟨⟨h1, h2⟩, h3⟩, h4⟩, h5⟩, h6⟩ := hv
  have := List.all_eq_true.1 h4 l.cells (List.mem_map_of_mem hl)
  unfold LeaseV.cells fitsF at this
  simp only [decide_eq_true_eq] at this
  constructor <;> omega
theorem claims_tru (hv : bankValid np nb Ls Ms = true) {p : Int} (hp : 0 ≤ p ∧ p ≤ np - 1) : (claimsL np nb Ls Ms p p).sum = truV np nb Ls Ms := by
  have hh := valid_holders hv
  unfold bankValid at hv
  simp only [Bool.and_eq_true, decide_eq_true_eq] at hv
  obtain ⟨⟨⟨⟨⟨h1, h2⟩, h3⟩, h4⟩, h5⟩, h6⟩ := hv
  exact claims_sum (by omega) (by omega) (by omega) hh hp
theorem whose_pos (hv : bankValid np nb Ls Ms = true) {p : Int} (hp : 0 ≤ p ∧ p ≤ np - 1) (ht : 0 < truV np nb Ls Ms) : 1 ≤ whoseV np nb Ls Ms p := by
  rw [← claims_tru hv hp] at ht
  obtain ⟨x, hx, h0⟩ := sum_pos_mem _ ht
  obtain ⟨i, hi, rfl⟩ := List.mem_map.1 hx
  have hi := List.mem_range.1 hi
  have : (whoseV np nb Ls Ms p).testBit i = true := by
    rw [whoseV_bit, decide_eq_true hi]
    exact decide_eq_true h0
  by_cases e : whoseV np nb Ls Ms p = 0
  · rw [e] at this; simp at this
  · omega
theorem sur_bit {hd p : Nat} (hp : (p : Int) < np) : (surV np nb Ls Ms hd).testBit p = decide (whoseV np nb Ls Ms (Int.ofNat p) = 2 ^ hd) := by
  unfold surV
  rw [setB_bit, decide_eq_true (show p < np.toNat by omega)]
  rfl
theorem per_bit {hd p : Nat} (hp : (p : Int) < np) : (perV np nb Ls Ms hd).testBit p = (whoseV np nb Ls Ms (Int.ofNat p)).testBit hd := by
  unfold perV
  rw [setB_bit, decide_eq_true (show p < np.toNat by omega)]
  rfl
theorem setB_div (f : Nat → Bool) (n : Nat) : setB f n / 2 ^ n = 0 := Nat.div_eq_of_lt (setB_lt f n)

/-- Whose, of a perch that there is. -/
theorem Whose_in (B : BankIn h np nb s m Ls Ms) (hv : bankValid np nb Ls Ms = true) {p : Nat} (hp : (p : Int) < np) : Runs Try.prog 22 [.agg [.int .i64 np, .int .i64 nb, s, m], .int .i64 (Int.ofNat p)] h
    (fun en h' => en = .ret (.tuple [.int .i64 (if 0 < truV np nb Ls Ms then (whoseV np nb Ls Ms (Int.ofNat p) : Nat) else (0 : Nat) : Nat), .int .i64 (if 0 < truV np nb Ls Ms then 0 else 10)]) ∧ Ext h h') := by
  have := Whose_ok B (Int.ofNat p)
  unfold whoseR at this
  rw [if_pos hv] at this
  unfold whoseC at this
  rw [if_pos (show 0 ≤ Int.ofNat p ∧ Int.ofNat p ≤ np - 1 by simp; omega)] at this
  by_cases ht : 0 < truV np nb Ls Ms
  · rw [if_pos ht] at this
    rw [if_pos ht, if_pos ht]
    exact this
  · rw [if_neg ht] at this
    rw [if_neg ht, if_neg ht]
    exact this
/-- Whose, of none. -/
theorem Whose_none (B : BankIn h np nb s m Ls Ms) (hv : bankValid np nb Ls Ms = true) : Runs Try.prog 22 [.agg [.int .i64 np, .int .i64 nb, s, m], .int .i64 np] h
    (fun en h' => en = .ret (.tuple [.int .i64 0, .int .i64 2]) ∧ Ext h h') := by
  have := Whose_ok B np
  unfold whoseR at this
  rw [if_pos hv] at this
  unfold whoseC at this
  rw [if_neg (show ¬ (0 ≤ np ∧ np ≤ np - 1) by omega)] at this
  exact this
/-- Whose, of a bank that isn't valid. -/
theorem Whose_bad (B : BankIn h np nb s m Ls Ms) (hv : bankValid np nb Ls Ms = false) (p : Int) : Runs Try.prog 22 [.agg [.int .i64 np, .int .i64 nb, s, m], .int .i64 p] h
    (fun en h' => en = .ret (.tuple [.int .i64 0, .int .i64 1]) ∧ Ext h h') := by
  have := Whose_ok B p
  unfold whoseR at this
  rw [if_neg (show ¬ bankValid np nb Ls Ms = true by rw [hv]; exact fun q => by cases q)] at this
  exact this
theorem Has_in (B : BankIn h np nb s m Ls Ms) (hv : bankValid np nb Ls Ms = true) {hd : Nat} (hh : hd < nb.toNat + 1) : Runs Try.prog 23 [.agg [.int .i64 np, .int .i64 nb, s, m], .int .i64 (Int.ofNat hd)] h
    (fun en h' => en = .ret (.tuple [.int .i64 (if 0 < truV np nb Ls Ms then surV np nb Ls Ms hd else 0 : Nat), .int .i64 (if 0 < truV np nb Ls Ms then perV np nb Ls Ms hd else 0 : Nat), .int .i64 (if 0 < truV np nb Ls Ms then 0 else 10)]) ∧ Ext h h') := by
  have := Has_ok B hv hd
  have v := valid_gnd B hv
  unfold hasC at this
  rw [if_pos (show (hd : Int) ≤ nb by omega)] at this
  by_cases ht : 0 < truV np nb Ls Ms
  · rw [if_pos ht] at this
    rw [if_pos ht, if_pos ht, if_pos ht]
    exact this
  · rw [if_neg ht] at this
    rw [if_neg ht, if_neg ht, if_neg ht]
    exact this
theorem Has_none (B : BankIn h np nb s m Ls Ms) (hv : bankValid np nb Ls Ms = true) : Runs Try.prog 23 [.agg [.int .i64 np, .int .i64 nb, s, m], .int .i64 ((nb.toNat + 1 : Nat) : Int)] h
    (fun en h' => en = .ret (.tuple [.int .i64 0, .int .i64 0, .int .i64 2]) ∧ Ext h h') := by
  have := Has_ok B hv (nb.toNat + 1)
  unfold hasC at this
  rw [if_neg (show ¬ ((nb.toNat + 1 : Nat) : Int) ≤ nb by omega)] at this
  exact this
end Go.Proofs.Ytidfcmjlfadieaa

/- Calls that the run of alive makes, each by a run of its own. -/
namespace Go.Proofs.Ytidfcmjlfadieaa
open Go Go.AbsE
noncomputable def ent1 : Ent := ⟨63, (.agg ((.int .i64 (Int.ofNat 6)) :: (.int .i64 (Int.ofNat 2)) :: (.gsl 0 0 0 2) :: .nilslice :: [])) :: (.iface 90 ((.agg (.nilslice :: [])))) :: [], ((.int .i64 (Int.ofNat 0)) :: (.int .i64 (Int.ofNat 0)) :: (.int .i64 (Int.ofNat 0)) :: (.int .i64 (Int.ofNat 4)) :: (.int .i64 (Int.ofNat 5)) :: (.int .i64 (Int.ofNat 1)) :: (.int .i64 (Int.ofNat 3)) :: (.int .i64 (Int.ofNat 4)) :: (.int .i64 (Int.ofNat 6)) :: (.int .i64 (Int.ofNat 6)) :: [], 195) :: [], (.bool Bool.true)⟩
theorem ent1Ok : EntOk Try.prog ent1 := entRun_ok noJ_ok (fuel := 1000000) (by kernel_rfl)
noncomputable def ent2 : Ent := ⟨81, (.agg ((.int .i64 (Int.ofNat 6)) :: (.int .i64 (Int.ofNat 2)) :: (.gsl 0 0 0 2) :: .nilslice :: [])) :: (.iface 206 ((.agg (.nilslice :: (.int .i64 (Int.ofNat 3)) :: (.int .i64 (Int.ofNat 3)) :: (.int .i64 (Int.ofNat 0)) :: [])))) :: (.int .i64 (Int.ofNat 2)) :: [], ((.int .i64 (Int.ofNat 0)) :: (.int .i64 (Int.ofNat 0)) :: (.int .i64 (Int.ofNat 0)) :: (.int .i64 (Int.ofNat 4)) :: (.int .i64 (Int.ofNat 5)) :: (.int .i64 (Int.ofNat 1)) :: (.int .i64 (Int.ofNat 3)) :: (.int .i64 (Int.ofNat 4)) :: (.int .i64 (Int.ofNat 6)) :: (.int .i64 (Int.ofNat 6)) :: [], 195) :: [], (.agg ((.int .i64 (Int.ofNat 2)) :: (.int .i64 (Int.ofNat 0)) :: (.int .i64 (Int.ofNat 0)) :: (.int .i64 (Int.ofNat 0)) :: (.int .i64 (Int.ofNat 0)) :: (.int .i64 (Int.ofNat 0)) :: (.int .i64 (Int.ofNat 0)) :: (.int .i64 (Int.ofNat 0)) :: (.int .i64 (Int.ofNat 0)) :: (.int .i64 (Int.ofNat 0)) :: (.int .i64 (Int.ofNat 0)) :: []))⟩
theorem ent2Ok : EntOk Try.prog ent2 := entRun_ok noJ_ok (fuel := 1000000) (by kernel_rfl)
noncomputable def ent3 : Ent := ⟨81, (.agg ((.int .i64 (Int.ofNat 6)) :: (.int .i64 (Int.ofNat 2)) :: (.gsl 0 0 0 2) :: .nilslice :: [])) :: (.iface 206 ((.agg (.nilslice :: (.int .i64 (Int.ofNat 3)) :: (.int .i64 (Int.ofNat 3)) :: (.int .i64 (Int.ofNat 1)) :: [])))) :: (.int .i64 (Int.ofNat 2)) :: [], ((.int .i64 (Int.ofNat 0)) :: (.int .i64 (Int.ofNat 0)) :: (.int .i64 (Int.ofNat 0)) :: (.int .i64 (Int.ofNat 4)) :: (.int .i64 (Int.ofNat 5)) :: (.int .i64 (Int.ofNat 1)) :: (.int .i64 (Int.ofNat 3)) :: (.int .i64 (Int.ofNat 4)) :: (.int .i64 (Int.ofNat 6)) :: (.int .i64 (Int.ofNat 6)) :: [], 195) :: [], (.agg ((.int .i64 (Int.ofNat 2)) :: (.int .i64 (Int.ofNat 0)) :: (.int .i64 (Int.ofNat 0)) :: (.int .i64 (Int.ofNat 0)) :: (.int .i64 (Int.ofNat 0)) :: (.int .i64 (Int.ofNat 0)) :: (.int .i64 (Int.ofNat 0)) :: (.int .i64 (Int.ofNat 0)) :: (.int .i64 (Int.ofNat 0)) :: (.int .i64 (Int.ofNat 0)) :: (.int .i64 (Int.ofNat 0)) :: []))⟩
theorem ent3Ok : EntOk Try.prog ent3 := entRun_ok noJ_ok (fuel := 1000000) (by kernel_rfl)
noncomputable def ent4 : Ent := ⟨81, (.agg ((.int .i64 (Int.ofNat 6)) :: (.int .i64 (Int.ofNat 2)) :: (.gsl 0 0 0 2) :: .nilslice :: [])) :: (.iface 206 ((.agg (.nilslice :: (.int .i64 (Int.ofNat 3)) :: (.int .i64 (Int.ofNat 3)) :: (.int .i64 (Int.ofNat 2)) :: [])))) :: (.int .i64 (Int.ofNat 2)) :: [], ((.int .i64 (Int.ofNat 0)) :: (.int .i64 (Int.ofNat 0)) :: (.int .i64 (Int.ofNat 0)) :: (.int .i64 (Int.ofNat 4)) :: (.int .i64 (Int.ofNat 5)) :: (.int .i64 (Int.ofNat 1)) :: (.int .i64 (Int.ofNat 3)) :: (.int .i64 (Int.ofNat 4)) :: (.int .i64 (Int.ofNat 6)) :: (.int .i64 (Int.ofNat 6)) :: [], 195) :: [], (.agg ((.int .i64 (Int.ofNat 0)) :: (.int .i64 (Int.ofNat 0)) :: (.int .i64 (Int.ofNat 0)) :: (.int .i64 (Int.ofNat 0)) :: (.int .i64 (Int.ofNat 0)) :: (.int .i64 (Int.ofNat 0)) :: (.int .i64 (Int.ofNat 0)) :: (.int .i64 (Int.ofNat 0)) :: (.int .i64 (Int.ofNat 0)) :: (.int .i64 (Int.ofNat 0)) :: (.int .i64 (Int.ofNat 0)) :: []))⟩
theorem ent4Ok : EntOk Try.prog ent4 := entRun_ok noJ_ok (fuel := 1000000) (by kernel_rfl)
noncomputable def ent5 : Ent := ⟨81, (.agg ((.int .i64 (Int.ofNat 6)) :: (.int .i64 (Int.ofNat 2)) :: (.gsl 0 0 0 2) :: .nilslice :: [])) :: (.iface 206 ((.agg (.nilslice :: (.int .i64 (Int.ofNat 0)) :: (.int .i64 (Int.ofNat 0)) :: (.int .i64 (Int.ofNat 0)) :: [])))) :: (.int .i64 (Int.ofNat 2)) :: [], ((.int .i64 (Int.ofNat 0)) :: (.int .i64 (Int.ofNat 0)) :: (.int .i64 (Int.ofNat 0)) :: (.int .i64 (Int.ofNat 4)) :: (.int .i64 (Int.ofNat 5)) :: (.int .i64 (Int.ofNat 1)) :: (.int .i64 (Int.ofNat 3)) :: (.int .i64 (Int.ofNat 4)) :: (.int .i64 (Int.ofNat 6)) :: (.int .i64 (Int.ofNat 6)) :: [], 195) :: [], (.agg ((.int .i64 (Int.ofNat 4)) :: (.int .i64 (Int.ofNat 0)) :: (.int .i64 (Int.ofNat 0)) :: (.int .i64 (Int.ofNat 0)) :: (.int .i64 (Int.ofNat 0)) :: (.int .i64 (Int.ofNat 0)) :: (.int .i64 (Int.ofNat 0)) :: (.int .i64 (Int.ofNat 0)) :: (.int .i64 (Int.ofNat 0)) :: (.int .i64 (Int.ofNat 0)) :: (.int .i64 (Int.ofNat 0)) :: []))⟩
theorem ent5Ok : EntOk Try.prog ent5 := entRun_ok noJ_ok (fuel := 1000000) (by kernel_rfl)
noncomputable def ent6 : Ent := ⟨81, (.agg ((.int .i64 (Int.ofNat 6)) :: (.int .i64 (Int.ofNat 2)) :: (.gsl 0 0 0 2) :: .nilslice :: [])) :: (.iface 206 ((.agg (.nilslice :: (.int .i64 (Int.ofNat 0)) :: (.int .i64 (Int.ofNat 0)) :: (.int .i64 (Int.ofNat 1)) :: [])))) :: (.int .i64 (Int.ofNat 2)) :: [], ((.int .i64 (Int.ofNat 0)) :: (.int .i64 (Int.ofNat 0)) :: (.int .i64 (Int.ofNat 0)) :: (.int .i64 (Int.ofNat 4)) :: (.int .i64 (Int.ofNat 5)) :: (.int .i64 (Int.ofNat 1)) :: (.int .i64 (Int.ofNat 3)) :: (.int .i64 (Int.ofNat 4)) :: (.int .i64 (Int.ofNat 6)) :: (.int .i64 (Int.ofNat 6)) :: [], 195) :: [], (.agg ((.int .i64 (Int.ofNat 0)) :: (.int .i64 (Int.ofNat 0)) :: (.int .i64 (Int.ofNat 0)) :: (.int .i64 (Int.ofNat 0)) :: (.int .i64 (Int.ofNat 0)) :: (.int .i64 (Int.ofNat 0)) :: (.int .i64 (Int.ofNat 0)) :: (.int .i64 (Int.ofNat 0)) :: (.int .i64 (Int.ofNat 0)) :: (.int .i64 (Int.ofNat 0)) :: (.int .i64 (Int.ofNat 0)) :: []))⟩
theorem ent6Ok : EntOk Try.prog ent6 := entRun_ok noJ_ok (fuel := 1000000) (by kernel_rfl)
noncomputable def ent7 : Ent := ⟨81, (.agg ((.int .i64 (Int.ofNat 6)) :: (.int .i64 (Int.ofNat 2)) :: (.gsl 0 0 0 2) :: .nilslice :: [])) :: (.iface 206 ((.agg (.nilslice :: (.int .i64 (Int.ofNat 0)) :: (.int .i64 (Int.ofNat 0)) :: (.int .i64 (Int.ofNat 2)) :: [])))) :: (.int .i64 (Int.ofNat 2)) :: [], ((.int .i64 (Int.ofNat 0)) :: (.int .i64 (Int.ofNat 0)) :: (.int .i64 (Int.ofNat 0)) :: (.int .i64 (Int.ofNat 4)) :: (.int .i64 (Int.ofNat 5)) :: (.int .i64 (Int.ofNat 1)) :: (.int .i64 (Int.ofNat 3)) :: (.int .i64 (Int.ofNat 4)) :: (.int .i64 (Int.ofNat 6)) :: (.int .i64 (Int.ofNat 6)) :: [], 195) :: [], (.agg ((.int .i64 (Int.ofNat 0)) :: (.int .i64 (Int.ofNat 0)) :: (.int .i64 (Int.ofNat 0)) :: (.int .i64 (Int.ofNat 0)) :: (.int .i64 (Int.ofNat 0)) :: (.int .i64 (Int.ofNat 0)) :: (.int .i64 (Int.ofNat 0)) :: (.int .i64 (Int.ofNat 0)) :: (.int .i64 (Int.ofNat 0)) :: (.int .i64 (Int.ofNat 0)) :: (.int .i64 (Int.ofNat 0)) :: []))⟩
theorem ent7Ok : EntOk Try.prog ent7 := entRun_ok noJ_ok (fuel := 1000000) (by kernel_rfl)
noncomputable def ent8 : Ent := ⟨81, (.agg ((.int .i64 (Int.ofNat 6)) :: (.int .i64 (Int.ofNat 2)) :: (.gsl 0 0 0 2) :: .nilslice :: [])) :: (.iface 206 ((.agg (.nilslice :: (.int .i64 (Int.ofNat 1)) :: (.int .i64 (Int.ofNat 1)) :: (.int .i64 (Int.ofNat 0)) :: [])))) :: (.int .i64 (Int.ofNat 2)) :: [], ((.int .i64 (Int.ofNat 0)) :: (.int .i64 (Int.ofNat 0)) :: (.int .i64 (Int.ofNat 0)) :: (.int .i64 (Int.ofNat 4)) :: (.int .i64 (Int.ofNat 5)) :: (.int .i64 (Int.ofNat 1)) :: (.int .i64 (Int.ofNat 3)) :: (.int .i64 (Int.ofNat 4)) :: (.int .i64 (Int.ofNat 6)) :: (.int .i64 (Int.ofNat 6)) :: [], 195) :: [], (.agg ((.int .i64 (Int.ofNat 4)) :: (.int .i64 (Int.ofNat 0)) :: (.int .i64 (Int.ofNat 0)) :: (.int .i64 (Int.ofNat 0)) :: (.int .i64 (Int.ofNat 0)) :: (.int .i64 (Int.ofNat 0)) :: (.int .i64 (Int.ofNat 0)) :: (.int .i64 (Int.ofNat 0)) :: (.int .i64 (Int.ofNat 0)) :: (.int .i64 (Int.ofNat 0)) :: (.int .i64 (Int.ofNat 0)) :: []))⟩
theorem ent8Ok : EntOk Try.prog ent8 := entRun_ok noJ_ok (fuel := 1000000) (by kernel_rfl)
noncomputable def ent9 : Ent := ⟨81, (.agg ((.int .i64 (Int.ofNat 6)) :: (.int .i64 (Int.ofNat 2)) :: (.gsl 0 0 0 2) :: .nilslice :: [])) :: (.iface 206 ((.agg (.nilslice :: (.int .i64 (Int.ofNat 1)) :: (.int .i64 (Int.ofNat 1)) :: (.int .i64 (Int.ofNat 1)) :: [])))) :: (.int .i64 (Int.ofNat 2)) :: [], ((.int .i64 (Int.ofNat 0)) :: (.int .i64 (Int.ofNat 0)) :: (.int .i64 (Int.ofNat 0)) :: (.int .i64 (Int.ofNat 4)) :: (.int .i64 (Int.ofNat 5)) :: (.int .i64 (Int.ofNat 1)) :: (.int .i64 (Int.ofNat 3)) :: (.int .i64 (Int.ofNat 4)) :: (.int .i64 (Int.ofNat 6)) :: (.int .i64 (Int.ofNat 6)) :: [], 195) :: [], (.agg ((.int .i64 (Int.ofNat 0)) :: (.int .i64 (Int.ofNat 0)) :: (.int .i64 (Int.ofNat 0)) :: (.int .i64 (Int.ofNat 0)) :: (.int .i64 (Int.ofNat 0)) :: (.int .i64 (Int.ofNat 0)) :: (.int .i64 (Int.ofNat 0)) :: (.int .i64 (Int.ofNat 0)) :: (.int .i64 (Int.ofNat 0)) :: (.int .i64 (Int.ofNat 0)) :: (.int .i64 (Int.ofNat 0)) :: []))⟩
theorem ent9Ok : EntOk Try.prog ent9 := entRun_ok noJ_ok (fuel := 1000000) (by kernel_rfl)
noncomputable def ent10 : Ent := ⟨81, (.agg ((.int .i64 (Int.ofNat 6)) :: (.int .i64 (Int.ofNat 2)) :: (.gsl 0 0 0 2) :: .nilslice :: [])) :: (.iface 206 ((.agg (.nilslice :: (.int .i64 (Int.ofNat 1)) :: (.int .i64 (Int.ofNat 1)) :: (.int .i64 (Int.ofNat 2)) :: [])))) :: (.int .i64 (Int.ofNat 2)) :: [], ((.int .i64 (Int.ofNat 0)) :: (.int .i64 (Int.ofNat 0)) :: (.int .i64 (Int.ofNat 0)) :: (.int .i64 (Int.ofNat 4)) :: (.int .i64 (Int.ofNat 5)) :: (.int .i64 (Int.ofNat 1)) :: (.int .i64 (Int.ofNat 3)) :: (.int .i64 (Int.ofNat 4)) :: (.int .i64 (Int.ofNat 6)) :: (.int .i64 (Int.ofNat 6)) :: [], 195) :: [], (.agg ((.int .i64 (Int.ofNat 0)) :: (.int .i64 (Int.ofNat 0)) :: (.int .i64 (Int.ofNat 0)) :: (.int .i64 (Int.ofNat 0)) :: (.int .i64 (Int.ofNat 0)) :: (.int .i64 (Int.ofNat 0)) :: (.int .i64 (Int.ofNat 0)) :: (.int .i64 (Int.ofNat 0)) :: (.int .i64 (Int.ofNat 0)) :: (.int .i64 (Int.ofNat 0)) :: (.int .i64 (Int.ofNat 0)) :: []))⟩
theorem ent10Ok : EntOk Try.prog ent10 := entRun_ok noJ_ok (fuel := 1000000) (by kernel_rfl)
end Go.Proofs.Ytidfcmjlfadieaa

/- Calls that the run of alive makes, each by a run of its own. -/
namespace Go.Proofs.Ytidfcmjlfadieaa
open Go Go.AbsE
noncomputable def ent11 : Ent := ⟨81, (.agg ((.int .i64 (Int.ofNat 6)) :: (.int .i64 (Int.ofNat 2)) :: (.gsl 0 0 0 2) :: .nilslice :: [])) :: (.iface 206 ((.agg (.nilslice :: (.int .i64 (Int.ofNat 2)) :: (.int .i64 (Int.ofNat 2)) :: (.int .i64 (Int.ofNat 0)) :: [])))) :: (.int .i64 (Int.ofNat 2)) :: [], ((.int .i64 (Int.ofNat 0)) :: (.int .i64 (Int.ofNat 0)) :: (.int .i64 (Int.ofNat 0)) :: (.int .i64 (Int.ofNat 4)) :: (.int .i64 (Int.ofNat 5)) :: (.int .i64 (Int.ofNat 1)) :: (.int .i64 (Int.ofNat 3)) :: (.int .i64 (Int.ofNat 4)) :: (.int .i64 (Int.ofNat 6)) :: (.int .i64 (Int.ofNat 6)) :: [], 195) :: [], (.agg ((.int .i64 (Int.ofNat 4)) :: (.int .i64 (Int.ofNat 0)) :: (.int .i64 (Int.ofNat 0)) :: (.int .i64 (Int.ofNat 0)) :: (.int .i64 (Int.ofNat 0)) :: (.int .i64 (Int.ofNat 0)) :: (.int .i64 (Int.ofNat 0)) :: (.int .i64 (Int.ofNat 0)) :: (.int .i64 (Int.ofNat 0)) :: (.int .i64 (Int.ofNat 0)) :: (.int .i64 (Int.ofNat 0)) :: []))⟩
theorem ent11Ok : EntOk Try.prog ent11 := entRun_ok noJ_ok (fuel := 1000000) (by kernel_rfl)
noncomputable def ent12 : Ent := ⟨81, (.agg ((.int .i64 (Int.ofNat 6)) :: (.int .i64 (Int.ofNat 2)) :: (.gsl 0 0 0 2) :: .nilslice :: [])) :: (.iface 206 ((.agg (.nilslice :: (.int .i64 (Int.ofNat 2)) :: (.int .i64 (Int.ofNat 2)) :: (.int .i64 (Int.ofNat 1)) :: [])))) :: (.int .i64 (Int.ofNat 2)) :: [], ((.int .i64 (Int.ofNat 0)) :: (.int .i64 (Int.ofNat 0)) :: (.int .i64 (Int.ofNat 0)) :: (.int .i64 (Int.ofNat 4)) :: (.int .i64 (Int.ofNat 5)) :: (.int .i64 (Int.ofNat 1)) :: (.int .i64 (Int.ofNat 3)) :: (.int .i64 (Int.ofNat 4)) :: (.int .i64 (Int.ofNat 6)) :: (.int .i64 (Int.ofNat 6)) :: [], 195) :: [], (.agg ((.int .i64 (Int.ofNat 0)) :: (.int .i64 (Int.ofNat 0)) :: (.int .i64 (Int.ofNat 0)) :: (.int .i64 (Int.ofNat 0)) :: (.int .i64 (Int.ofNat 0)) :: (.int .i64 (Int.ofNat 0)) :: (.int .i64 (Int.ofNat 0)) :: (.int .i64 (Int.ofNat 0)) :: (.int .i64 (Int.ofNat 0)) :: (.int .i64 (Int.ofNat 0)) :: (.int .i64 (Int.ofNat 0)) :: []))⟩
theorem ent12Ok : EntOk Try.prog ent12 := entRun_ok noJ_ok (fuel := 1000000) (by kernel_rfl)
noncomputable def ent13 : Ent := ⟨81, (.agg ((.int .i64 (Int.ofNat 6)) :: (.int .i64 (Int.ofNat 2)) :: (.gsl 0 0 0 2) :: .nilslice :: [])) :: (.iface 206 ((.agg (.nilslice :: (.int .i64 (Int.ofNat 2)) :: (.int .i64 (Int.ofNat 2)) :: (.int .i64 (Int.ofNat 2)) :: [])))) :: (.int .i64 (Int.ofNat 2)) :: [], ((.int .i64 (Int.ofNat 0)) :: (.int .i64 (Int.ofNat 0)) :: (.int .i64 (Int.ofNat 0)) :: (.int .i64 (Int.ofNat 4)) :: (.int .i64 (Int.ofNat 5)) :: (.int .i64 (Int.ofNat 1)) :: (.int .i64 (Int.ofNat 3)) :: (.int .i64 (Int.ofNat 4)) :: (.int .i64 (Int.ofNat 6)) :: (.int .i64 (Int.ofNat 6)) :: [], 195) :: [], (.agg ((.int .i64 (Int.ofNat 0)) :: (.int .i64 (Int.ofNat 0)) :: (.int .i64 (Int.ofNat 0)) :: (.int .i64 (Int.ofNat 0)) :: (.int .i64 (Int.ofNat 0)) :: (.int .i64 (Int.ofNat 0)) :: (.int .i64 (Int.ofNat 0)) :: (.int .i64 (Int.ofNat 0)) :: (.int .i64 (Int.ofNat 0)) :: (.int .i64 (Int.ofNat 0)) :: (.int .i64 (Int.ofNat 0)) :: []))⟩
theorem ent13Ok : EntOk Try.prog ent13 := entRun_ok noJ_ok (fuel := 1000000) (by kernel_rfl)
noncomputable def ent14 : Ent := ⟨81, (.agg ((.int .i64 (Int.ofNat 6)) :: (.int .i64 (Int.ofNat 2)) :: (.gsl 0 0 0 2) :: .nilslice :: [])) :: (.iface 206 ((.agg (.nilslice :: (.int .i64 (Int.ofNat 4)) :: (.int .i64 (Int.ofNat 4)) :: (.int .i64 (Int.ofNat 0)) :: [])))) :: (.int .i64 (Int.ofNat 2)) :: [], ((.int .i64 (Int.ofNat 0)) :: (.int .i64 (Int.ofNat 0)) :: (.int .i64 (Int.ofNat 0)) :: (.int .i64 (Int.ofNat 4)) :: (.int .i64 (Int.ofNat 5)) :: (.int .i64 (Int.ofNat 1)) :: (.int .i64 (Int.ofNat 3)) :: (.int .i64 (Int.ofNat 4)) :: (.int .i64 (Int.ofNat 6)) :: (.int .i64 (Int.ofNat 6)) :: [], 195) :: [], (.agg ((.int .i64 (Int.ofNat 0)) :: (.int .i64 (Int.ofNat 0)) :: (.int .i64 (Int.ofNat 0)) :: (.int .i64 (Int.ofNat 0)) :: (.int .i64 (Int.ofNat 0)) :: (.int .i64 (Int.ofNat 0)) :: (.int .i64 (Int.ofNat 0)) :: (.int .i64 (Int.ofNat 0)) :: (.int .i64 (Int.ofNat 0)) :: (.int .i64 (Int.ofNat 0)) :: (.int .i64 (Int.ofNat 0)) :: []))⟩
theorem ent14Ok : EntOk Try.prog ent14 := entRun_ok noJ_ok (fuel := 1000000) (by kernel_rfl)
noncomputable def ent15 : Ent := ⟨81, (.agg ((.int .i64 (Int.ofNat 6)) :: (.int .i64 (Int.ofNat 2)) :: (.gsl 0 0 0 2) :: .nilslice :: [])) :: (.iface 206 ((.agg (.nilslice :: (.int .i64 (Int.ofNat 4)) :: (.int .i64 (Int.ofNat 4)) :: (.int .i64 (Int.ofNat 1)) :: [])))) :: (.int .i64 (Int.ofNat 2)) :: [], ((.int .i64 (Int.ofNat 0)) :: (.int .i64 (Int.ofNat 0)) :: (.int .i64 (Int.ofNat 0)) :: (.int .i64 (Int.ofNat 4)) :: (.int .i64 (Int.ofNat 5)) :: (.int .i64 (Int.ofNat 1)) :: (.int .i64 (Int.ofNat 3)) :: (.int .i64 (Int.ofNat 4)) :: (.int .i64 (Int.ofNat 6)) :: (.int .i64 (Int.ofNat 6)) :: [], 195) :: [], (.agg ((.int .i64 (Int.ofNat 4)) :: (.int .i64 (Int.ofNat 0)) :: (.int .i64 (Int.ofNat 0)) :: (.int .i64 (Int.ofNat 0)) :: (.int .i64 (Int.ofNat 0)) :: (.int .i64 (Int.ofNat 0)) :: (.int .i64 (Int.ofNat 0)) :: (.int .i64 (Int.ofNat 0)) :: (.int .i64 (Int.ofNat 0)) :: (.int .i64 (Int.ofNat 0)) :: (.int .i64 (Int.ofNat 0)) :: []))⟩
theorem ent15Ok : EntOk Try.prog ent15 := entRun_ok noJ_ok (fuel := 1000000) (by kernel_rfl)
noncomputable def ent16 : Ent := ⟨81, (.agg ((.int .i64 (Int.ofNat 6)) :: (.int .i64 (Int.ofNat 2)) :: (.gsl 0 0 0 2) :: .nilslice :: [])) :: (.iface 206 ((.agg (.nilslice :: (.int .i64 (Int.ofNat 4)) :: (.int .i64 (Int.ofNat 4)) :: (.int .i64 (Int.ofNat 2)) :: [])))) :: (.int .i64 (Int.ofNat 2)) :: [], ((.int .i64 (Int.ofNat 0)) :: (.int .i64 (Int.ofNat 0)) :: (.int .i64 (Int.ofNat 0)) :: (.int .i64 (Int.ofNat 4)) :: (.int .i64 (Int.ofNat 5)) :: (.int .i64 (Int.ofNat 1)) :: (.int .i64 (Int.ofNat 3)) :: (.int .i64 (Int.ofNat 4)) :: (.int .i64 (Int.ofNat 6)) :: (.int .i64 (Int.ofNat 6)) :: [], 195) :: [], (.agg ((.int .i64 (Int.ofNat 0)) :: (.int .i64 (Int.ofNat 0)) :: (.int .i64 (Int.ofNat 0)) :: (.int .i64 (Int.ofNat 0)) :: (.int .i64 (Int.ofNat 0)) :: (.int .i64 (Int.ofNat 0)) :: (.int .i64 (Int.ofNat 0)) :: (.int .i64 (Int.ofNat 0)) :: (.int .i64 (Int.ofNat 0)) :: (.int .i64 (Int.ofNat 0)) :: (.int .i64 (Int.ofNat 0)) :: []))⟩
theorem ent16Ok : EntOk Try.prog ent16 := entRun_ok noJ_ok (fuel := 1000000) (by kernel_rfl)
noncomputable def ent17 : Ent := ⟨81, (.agg ((.int .i64 (Int.ofNat 6)) :: (.int .i64 (Int.ofNat 2)) :: (.gsl 0 0 0 2) :: .nilslice :: [])) :: (.iface 206 ((.agg (.nilslice :: (.int .i64 (Int.ofNat 5)) :: (.int .i64 (Int.ofNat 5)) :: (.int .i64 (Int.ofNat 0)) :: [])))) :: (.int .i64 (Int.ofNat 2)) :: [], ((.int .i64 (Int.ofNat 0)) :: (.int .i64 (Int.ofNat 0)) :: (.int .i64 (Int.ofNat 0)) :: (.int .i64 (Int.ofNat 4)) :: (.int .i64 (Int.ofNat 5)) :: (.int .i64 (Int.ofNat 1)) :: (.int .i64 (Int.ofNat 3)) :: (.int .i64 (Int.ofNat 4)) :: (.int .i64 (Int.ofNat 6)) :: (.int .i64 (Int.ofNat 6)) :: [], 195) :: [], (.agg ((.int .i64 (Int.ofNat 0)) :: (.int .i64 (Int.ofNat 0)) :: (.int .i64 (Int.ofNat 0)) :: (.int .i64 (Int.ofNat 0)) :: (.int .i64 (Int.ofNat 0)) :: (.int .i64 (Int.ofNat 0)) :: (.int .i64 (Int.ofNat 0)) :: (.int .i64 (Int.ofNat 0)) :: (.int .i64 (Int.ofNat 0)) :: (.int .i64 (Int.ofNat 0)) :: (.int .i64 (Int.ofNat 0)) :: []))⟩
theorem ent17Ok : EntOk Try.prog ent17 := entRun_ok noJ_ok (fuel := 1000000) (by kernel_rfl)
noncomputable def ent18 : Ent := ⟨81, (.agg ((.int .i64 (Int.ofNat 6)) :: (.int .i64 (Int.ofNat 2)) :: (.gsl 0 0 0 2) :: .nilslice :: [])) :: (.iface 206 ((.agg (.nilslice :: (.int .i64 (Int.ofNat 5)) :: (.int .i64 (Int.ofNat 5)) :: (.int .i64 (Int.ofNat 1)) :: [])))) :: (.int .i64 (Int.ofNat 2)) :: [], ((.int .i64 (Int.ofNat 0)) :: (.int .i64 (Int.ofNat 0)) :: (.int .i64 (Int.ofNat 0)) :: (.int .i64 (Int.ofNat 4)) :: (.int .i64 (Int.ofNat 5)) :: (.int .i64 (Int.ofNat 1)) :: (.int .i64 (Int.ofNat 3)) :: (.int .i64 (Int.ofNat 4)) :: (.int .i64 (Int.ofNat 6)) :: (.int .i64 (Int.ofNat 6)) :: [], 195) :: [], (.agg ((.int .i64 (Int.ofNat 4)) :: (.int .i64 (Int.ofNat 0)) :: (.int .i64 (Int.ofNat 0)) :: (.int .i64 (Int.ofNat 0)) :: (.int .i64 (Int.ofNat 0)) :: (.int .i64 (Int.ofNat 0)) :: (.int .i64 (Int.ofNat 0)) :: (.int .i64 (Int.ofNat 0)) :: (.int .i64 (Int.ofNat 0)) :: (.int .i64 (Int.ofNat 0)) :: (.int .i64 (Int.ofNat 0)) :: []))⟩
theorem ent18Ok : EntOk Try.prog ent18 := entRun_ok noJ_ok (fuel := 1000000) (by kernel_rfl)
noncomputable def ent19 : Ent := ⟨81, (.agg ((.int .i64 (Int.ofNat 6)) :: (.int .i64 (Int.ofNat 2)) :: (.gsl 0 0 0 2) :: .nilslice :: [])) :: (.iface 206 ((.agg (.nilslice :: (.int .i64 (Int.ofNat 5)) :: (.int .i64 (Int.ofNat 5)) :: (.int .i64 (Int.ofNat 2)) :: [])))) :: (.int .i64 (Int.ofNat 2)) :: [], ((.int .i64 (Int.ofNat 0)) :: (.int .i64 (Int.ofNat 0)) :: (.int .i64 (Int.ofNat 0)) :: (.int .i64 (Int.ofNat 4)) :: (.int .i64 (Int.ofNat 5)) :: (.int .i64 (Int.ofNat 1)) :: (.int .i64 (Int.ofNat 3)) :: (.int .i64 (Int.ofNat 4)) :: (.int .i64 (Int.ofNat 6)) :: (.int .i64 (Int.ofNat 6)) :: [], 195) :: [], (.agg ((.int .i64 (Int.ofNat 0)) :: (.int .i64 (Int.ofNat 0)) :: (.int .i64 (Int.ofNat 0)) :: (.int .i64 (Int.ofNat 0)) :: (.int .i64 (Int.ofNat 0)) :: (.int .i64 (Int.ofNat 0)) :: (.int .i64 (Int.ofNat 0)) :: (.int .i64 (Int.ofNat 0)) :: (.int .i64 (Int.ofNat 0)) :: (.int .i64 (Int.ofNat 0)) :: (.int .i64 (Int.ofNat 0)) :: []))⟩
theorem ent19Ok : EntOk Try.prog ent19 := entRun_ok noJ_ok (fuel := 1000000) (by kernel_rfl)
noncomputable def ent20 : Ent := ⟨81, (.agg ((.int .i64 (Int.ofNat 6)) :: (.int .i64 (Int.ofNat 2)) :: (.gsl 0 0 0 2) :: .nilslice :: [])) :: (.iface 90 ((.agg (.nilslice :: [])))) :: (.int .i64 (Int.ofNat 0)) :: [], ((.int .i64 (Int.ofNat 0)) :: (.int .i64 (Int.ofNat 0)) :: (.int .i64 (Int.ofNat 0)) :: (.int .i64 (Int.ofNat 4)) :: (.int .i64 (Int.ofNat 5)) :: (.int .i64 (Int.ofNat 1)) :: (.int .i64 (Int.ofNat 3)) :: (.int .i64 (Int.ofNat 4)) :: (.int .i64 (Int.ofNat 6)) :: (.int .i64 (Int.ofNat 6)) :: [], 195) :: [], (.agg ((.int .i64 (Int.ofNat 0)) :: (.int .i64 (Int.ofNat 0)) :: (.int .i64 (Int.ofNat 0)) :: (.int .i64 (Int.ofNat 2)) :: (.int .i64 (Int.ofNat 2)) :: (.int .i64 (Int.ofNat 0)) :: (.int .i64 (Int.ofNat 0)) :: (.int .i64 (Int.ofNat 0)) :: (.int .i64 (Int.ofNat 0)) :: (.int .i64 (Int.ofNat 0)) :: (.int .i64 (Int.ofNat 0)) :: []))⟩
theorem ent20Ok : EntOk Try.prog ent20 := entRun_ok noJ_ok (fuel := 1000000) (by kernel_rfl)
end Go.Proofs.Ytidfcmjlfadieaa

/- Calls that the run of alive makes, each by a run of its own. -/
namespace Go.Proofs.Ytidfcmjlfadieaa
open Go Go.AbsE
noncomputable def ent21 : Ent := ⟨63, (.agg ((.int .i64 (Int.ofNat 3)) :: (.int .i64 (Int.ofNat 1)) :: (.gsl 0 0 0 1) :: .nilslice :: [])) :: (.iface 90 ((.agg (.nilslice :: [])))) :: [], ((.int .i64 (Int.ofNat 0)) :: (.int .i64 (Int.ofNat 1)) :: (.int .i64 (Int.ofNat 1)) :: (.int .i64 (Int.ofNat 2)) :: (.int .i64 (Int.ofNat 3)) :: [], 195) :: [], (.bool Bool.true)⟩
theorem ent21Ok : EntOk Try.prog ent21 := entRun_ok noJ_ok (fuel := 1000000) (by kernel_rfl)
noncomputable def ent22 : Ent := ⟨81, (.agg ((.int .i64 (Int.ofNat 3)) :: (.int .i64 (Int.ofNat 1)) :: (.gsl 0 0 0 1) :: .nilslice :: [])) :: (.iface 206 ((.agg (.nilslice :: (.int .i64 (Int.ofNat 0)) :: (.int .i64 (Int.ofNat 1)) :: (.int .i64 (Int.ofNat 0)) :: [])))) :: (.int .i64 (Int.ofNat 1)) :: [], ((.int .i64 (Int.ofNat 0)) :: (.int .i64 (Int.ofNat 1)) :: (.int .i64 (Int.ofNat 1)) :: (.int .i64 (Int.ofNat 2)) :: (.int .i64 (Int.ofNat 3)) :: [], 195) :: [], (.agg ((.int .i64 (Int.ofNat 0)) :: (.int .i64 (Int.ofNat 0)) :: (.int .i64 (Int.ofNat 0)) :: (.int .i64 (Int.ofNat 0)) :: (.int .i64 (Int.ofNat 0)) :: (.int .i64 (Int.ofNat 0)) :: (.int .i64 (Int.ofNat 0)) :: (.int .i64 (Int.ofNat 0)) :: (.int .i64 (Int.ofNat 0)) :: (.int .i64 (Int.ofNat 0)) :: (.int .i64 (Int.ofNat 0)) :: []))⟩
theorem ent22Ok : EntOk Try.prog ent22 := entRun_ok noJ_ok (fuel := 1000000) (by kernel_rfl)
noncomputable def ent23 : Ent := ⟨81, (.agg ((.int .i64 (Int.ofNat 3)) :: (.int .i64 (Int.ofNat 1)) :: (.gsl 0 0 0 1) :: .nilslice :: [])) :: (.iface 206 ((.agg (.nilslice :: (.int .i64 (Int.ofNat 0)) :: (.int .i64 (Int.ofNat 1)) :: (.int .i64 (Int.ofNat 1)) :: [])))) :: (.int .i64 (Int.ofNat 1)) :: [], ((.int .i64 (Int.ofNat 0)) :: (.int .i64 (Int.ofNat 1)) :: (.int .i64 (Int.ofNat 1)) :: (.int .i64 (Int.ofNat 2)) :: (.int .i64 (Int.ofNat 3)) :: [], 195) :: [], (.agg ((.int .i64 (Int.ofNat 0)) :: (.int .i64 (Int.ofNat 0)) :: (.int .i64 (Int.ofNat 0)) :: (.int .i64 (Int.ofNat 0)) :: (.int .i64 (Int.ofNat 0)) :: (.int .i64 (Int.ofNat 0)) :: (.int .i64 (Int.ofNat 0)) :: (.int .i64 (Int.ofNat 0)) :: (.int .i64 (Int.ofNat 0)) :: (.int .i64 (Int.ofNat 0)) :: (.int .i64 (Int.ofNat 0)) :: []))⟩
theorem ent23Ok : EntOk Try.prog ent23 := entRun_ok noJ_ok (fuel := 1000000) (by kernel_rfl)
noncomputable def ent24 : Ent := ⟨81, (.agg ((.int .i64 (Int.ofNat 6)) :: (.int .i64 (Int.ofNat 2)) :: (.gsl 0 0 0 2) :: .nilslice :: [])) :: (.iface 90 ((.agg (.nilslice :: [])))) :: (.int .i64 (Int.ofNat 2)) :: [], ((.int .i64 (Int.ofNat 0)) :: (.int .i64 (Int.ofNat 0)) :: (.int .i64 (Int.ofNat 0)) :: (.int .i64 (Int.ofNat 4)) :: (.int .i64 (Int.ofNat 5)) :: (.int .i64 (Int.ofNat 1)) :: (.int .i64 (Int.ofNat 3)) :: (.int .i64 (Int.ofNat 4)) :: (.int .i64 (Int.ofNat 6)) :: (.int .i64 (Int.ofNat 6)) :: [], 195) :: [], (.agg ((.int .i64 (Int.ofNat 4)) :: (.int .i64 (Int.ofNat 0)) :: (.int .i64 (Int.ofNat 0)) :: (.int .i64 (Int.ofNat 0)) :: (.int .i64 (Int.ofNat 0)) :: (.int .i64 (Int.ofNat 0)) :: (.int .i64 (Int.ofNat 0)) :: (.int .i64 (Int.ofNat 0)) :: (.int .i64 (Int.ofNat 0)) :: (.int .i64 (Int.ofNat 0)) :: (.int .i64 (Int.ofNat 0)) :: []))⟩
theorem ent24Ok : EntOk Try.prog ent24 := entRun_ok noJ_ok (fuel := 1000000) (by kernel_rfl)
noncomputable def ent25 : Ent := ⟨63, (.agg ((.int .i64 (Int.ofNat 6)) :: (.int .i64 (Int.ofNat 2)) :: (.gsl 0 0 0 2) :: (.slice 1 0 2 2) :: [])) :: (.iface 90 ((.agg ((.slice 2 0 2 2) :: [])))) :: [], ((.int .i64 (Int.ofNat 0)) :: (.int .i64 (Int.ofNat 0)) :: (.int .i64 (Int.ofNat 0)) :: (.int .i64 (Int.ofNat 4)) :: (.int .i64 (Int.ofNat 5)) :: (.int .i64 (Int.ofNat 1)) :: (.int .i64 (Int.ofNat 3)) :: (.int .i64 (Int.ofNat 4)) :: (.int .i64 (Int.ofNat 6)) :: (.int .i64 (Int.ofNat 6)) :: [], 195) :: ((.int .i64 (Int.ofNat 3)) :: (.int .i64 (Int.ofNat 0)) :: (.int .i64 (Int.ofNat 4)) :: (.int .i64 (Int.ofNat 0)) :: [], 52) :: ((.int .i64 (Int.ofNat 3)) :: (.int .i64 (Int.ofNat 0)) :: (.int .i64 (Int.ofNat 4)) :: (.int .i64 (Int.ofNat 0)) :: [], 52) :: [], (.bool Bool.false)⟩
theorem ent25Ok : EntOk Try.prog ent25 := entRun_ok noJ_ok (fuel := 1000000) (by kernel_rfl)
noncomputable def ent26 : Ent := ⟨63, (.agg ((.int .i64 (Int.ofNat 6)) :: (.int .i64 (Int.ofNat 2)) :: (.gsl 0 0 0 2) :: (.slice 1 0 2 2) :: [])) :: (.iface 90 ((.agg ((.slice 2 0 1 2) :: [])))) :: [], ((.int .i64 (Int.ofNat 0)) :: (.int .i64 (Int.ofNat 0)) :: (.int .i64 (Int.ofNat 0)) :: (.int .i64 (Int.ofNat 4)) :: (.int .i64 (Int.ofNat 5)) :: (.int .i64 (Int.ofNat 1)) :: (.int .i64 (Int.ofNat 3)) :: (.int .i64 (Int.ofNat 4)) :: (.int .i64 (Int.ofNat 6)) :: (.int .i64 (Int.ofNat 6)) :: [], 195) :: ((.int .i64 (Int.ofNat 3)) :: (.int .i64 (Int.ofNat 0)) :: (.int .i64 (Int.ofNat 4)) :: (.int .i64 (Int.ofNat 0)) :: [], 52) :: ((.int .i64 (Int.ofNat 4)) :: (.int .i64 (Int.ofNat 0)) :: (.int .i64 (Int.ofNat 4)) :: (.int .i64 (Int.ofNat 0)) :: [], 52) :: [], (.bool Bool.false)⟩
theorem ent26Ok : EntOk Try.prog ent26 := entRun_ok noJ_ok (fuel := 1000000) (by kernel_rfl)
noncomputable def ent27 : Ent := ⟨63, (.agg ((.int .i64 (Int.ofNat 6)) :: (.int .i64 (Int.ofNat 2)) :: (.gsl 0 0 0 2) :: (.slice 1 0 2 2) :: [])) :: (.iface 90 ((.agg ((.slice 2 0 1 2) :: [])))) :: [], ((.int .i64 (Int.ofNat 0)) :: (.int .i64 (Int.ofNat 0)) :: (.int .i64 (Int.ofNat 0)) :: (.int .i64 (Int.ofNat 4)) :: (.int .i64 (Int.ofNat 5)) :: (.int .i64 (Int.ofNat 1)) :: (.int .i64 (Int.ofNat 3)) :: (.int .i64 (Int.ofNat 4)) :: (.int .i64 (Int.ofNat 6)) :: (.int .i64 (Int.ofNat 6)) :: [], 195) :: ((.int .i64 (Int.ofNat 3)) :: (.int .i64 (Int.ofNat 0)) :: (.int .i64 (Int.ofNat 4)) :: (.int .i64 (Int.ofNat 0)) :: [], 52) :: ((.int .i64 (Int.ofNat 3)) :: (.int .i64 (Int.ofNat 0)) :: (.int .i64 (Int.ofNat 4)) :: (.int .i64 (Int.ofNat 0)) :: [], 52) :: [], (.bool Bool.true)⟩
theorem ent27Ok : EntOk Try.prog ent27 := entRun_ok noJ_ok (fuel := 1000000) (by kernel_rfl)
noncomputable def ent28 : Ent := ⟨63, (.agg ((.int .i64 (Int.ofNat 6)) :: (.int .i64 (Int.ofNat 2)) :: (.gsl 0 0 0 2) :: (.slice 1 0 2 2) :: [])) :: (.iface 90 ((.agg ((.slice 2 0 0 2) :: [])))) :: [], ((.int .i64 (Int.ofNat 0)) :: (.int .i64 (Int.ofNat 0)) :: (.int .i64 (Int.ofNat 0)) :: (.int .i64 (Int.ofNat 4)) :: (.int .i64 (Int.ofNat 5)) :: (.int .i64 (Int.ofNat 1)) :: (.int .i64 (Int.ofNat 3)) :: (.int .i64 (Int.ofNat 4)) :: (.int .i64 (Int.ofNat 6)) :: (.int .i64 (Int.ofNat 6)) :: [], 195) :: ((.int .i64 (Int.ofNat 3)) :: (.int .i64 (Int.ofNat 0)) :: (.int .i64 (Int.ofNat 4)) :: (.int .i64 (Int.ofNat 0)) :: [], 52) :: ((.int .i64 (Int.ofNat 3)) :: (.int .i64 (Int.ofNat 0)) :: (.int .i64 (Int.ofNat 4)) :: (.int .i64 (Int.ofNat 0)) :: [], 52) :: [], (.bool Bool.true)⟩
theorem ent28Ok : EntOk Try.prog ent28 := entRun_ok noJ_ok (fuel := 1000000) (by kernel_rfl)
end Go.Proofs.Ytidfcmjlfadieaa

namespace Go.Proofs.Ytidfcmjlfadieaa
open Go Go.AbsE
set_option maxRecDepth 100000
noncomputable def known : List Ent := [ent1, ent2, ent3, ent4, ent5, ent6, ent7, ent8, ent9, ent10, ent11, ent12, ent13, ent14, ent15, ent16, ent17, ent18, ent19, ent20, ent21, ent22, ent23, ent24, ent25, ent26, ent27, ent28]
theorem knownOk : JOk Try.prog (tblJ known) := tbl_ok (l := known) (EntOk.cons ent1Ok (EntOk.cons ent2Ok (EntOk.cons ent3Ok (EntOk.cons ent4Ok (EntOk.cons ent5Ok (EntOk.cons ent6Ok (EntOk.cons ent7Ok (EntOk.cons ent8Ok (EntOk.cons ent9Ok (EntOk.cons ent10Ok (EntOk.cons ent11Ok (EntOk.cons ent12Ok (EntOk.cons ent13Ok (EntOk.cons ent14Ok (EntOk.cons ent15Ok (EntOk.cons ent16Ok (EntOk.cons ent17Ok (EntOk.cons ent18Ok (EntOk.cons ent19Ok (EntOk.cons ent20Ok (EntOk.cons ent21Ok (EntOk.cons ent22Ok (EntOk.cons ent23Ok (EntOk.cons ent24Ok (EntOk.cons ent25Ok (EntOk.cons ent26Ok (EntOk.cons ent27Ok (EntOk.cons ent28Ok (EntOk.nil)))))))))))))))))))))))))))))
/-- alive, as a call that is known. -/
noncomputable def entAlive : Ent := ⟨14, [], [], .bool true⟩
theorem aliveOk : EntOk Try.prog entAlive := entRun_ok knownOk (fuel := 1000000) (by kernel_rfl)
noncomputable def JA : Jump := tblJ [entAlive]
theorem JA_ok : JOk Try.prog JA := tbl_ok (EntOk.cons aliveOk EntOk.nil)
end Go.Proofs.Ytidfcmjlfadieaa

namespace Go.Proofs.Ytidfcmjlfadieaa
open Go Go.AbsE
set_option maxRecDepth 100000
set_option linter.unusedVariables false
variable {np nb : Int} {Ls : List LeaseV} {Ms : List MarkV} {s m : AVal} {h h' : AH}
theorem aOp_neqBool {P : Program} {t : Tr AVal} {dst : Option Tmp} {ty tt ty2 : TypeId} {pos : String} {after : Array Edge} {guard : Option (Nat × Bool)} {x y : Operand} {a b r : Bool} (hx : ev t x = some (.bool a)) (hy : ev t y = some (.bool b)) (hu : P.underlying ty = some .bool) (hr : (!(a == b)) = r) : aOp P t h ⟨dst, .binOp .neq ty x y ty2, tt, pos, after, guard⟩ = some (.val (.bool r) h) := by
  show opBin P t h .neq ty x y = _
  unfold opBin
  rw [hx, hy]
  have : pureRun P (binOp .neq ty (.bool a) (.bool b)) = some (.bool (!(a == b))) := by
    show pureRun P (Op.equal ty (.bool a) (.bool b) >>= fun r => pure (Value.bool (!r))) = _
    rw [pureRun_bind]
    have : pureRun P (Op.equal ty (.bool a) (.bool b)) = some (a == b) := by
      show pureRun P (Op.equalIn (9999 + 1) ty (.bool a) (.bool b)) = _
      unfold Op.equalIn
      rw [pureRun_bind, pr_underlying hu]
      rfl
    rw [this]
    rfl
  show valO h (match pureRun P (binOp .neq ty (.bool a) (.bool b)) with | some v => absV v | none => none) = _
  rw [this, ← hr]
  rfl

/-- The law BankAsk, where lists are long. -/
theorem law8_long {a b : Nat} (hs : lenA s = some a) (hm : lenA m = some b) (hl : 40 < (if (a : Int) < b then (b : Int) else a)) (w : AVal) : Runs Try.prog 8 [.agg [.int .i64 np, .int .i64 nb, s, m], w] h (fun en h' => en = .ret (.bool true) ∧ Ext h h') := by
  refine Runs.intro aFunc8 rfl rfl rfl rfl fun rest => ?_
  refine Go.seq noJ_ok (Go.region noJ_ok rfl ?_)
  refine GoR.box rfl rfl rfl rfl rfl rfl fun h1 x1 f1 => ?_
  refine GoR.op rfl rfl rfl rfl ?_
  refine GoR.end (Go.seq noJ_ok (Go.seq noJ_ok (Go.region noJ_ok rfl ?_)))
  refine GoR.op rfl rfl (ld25 rfl f1 rfl) rfl ?_
  refine GoR.call rfl rfl (aOp_callFunc aFunc12 rfl) (long_ok hs hm (decide_eq_true hl) _) ?_ (by rintro _ _ ⟨q, _⟩; cases q)
  rintro _ h2 ⟨q, x2⟩
  cases q
  refine ⟨_, rfl, ?_⟩
  refine GoR.op rfl rfl rfl rfl ?_
  refine GoR.skip rfl rfl rfl ?_
  refine GoR.skip rfl rfl rfl ?_
  refine GoR.skip rfl rfl rfl ?_
  refine GoR.op rfl rfl rfl rfl ?_
  refine GoR.op rfl rfl rfl rfl ?_
  refine GoR.skip rfl rfl rfl ?_
  refine GoR.skip rfl rfl rfl ?_
  refine GoR.skip rfl rfl rfl ?_
  refine GoR.skip rfl rfl rfl ?_
  refine GoR.op rfl rfl rfl rfl ?_
  refine GoR.end (Go.cond noJ_ok (b := true) rfl (Go.seq noJ_ok (Go.region JA_ok rfl ?_)))
  refine GoR.jump JA_ok rfl rfl (aOp_callFunc aFunc14 rfl) (v := .bool true) rfl rfl ?_
  refine GoR.op rfl rfl rfl rfl ?_
  exact GoR.end (Go.ret noJ_ok (ret_end (aResult_of Try.func8 rfl rfl) ⟨rfl, x1.trans x2⟩))

/-- The law BankAsk, where lists are not long. -/
theorem law8_short (B : BankIn h np nb s m Ls Ms) (hL : Ls.length ≤ 40) (hM : Ms.length ≤ 40) {w : Int} (hw : 0 ≤ w ∧ w < 256) : Runs Try.prog 8 [.agg [.int .i64 np, .int .i64 nb, s, m], .int .u8 w] h (fun en h' => en = .ret (.bool true) ∧ Ext h h') := by
  have hlong : decide (40 < (if ((Ls.length : Nat) : Int) < (Ms.length : Nat) then ((Ms.length : Nat) : Int) else (Ls.length : Nat))) = false := by
    refine decide_eq_false ?_
    split <;> omega
  refine Runs.intro aFunc8 rfl rfl rfl rfl fun rest => ?_
  refine Go.seq noJ_ok (Go.region noJ_ok rfl ?_)
  refine GoR.box rfl rfl rfl rfl rfl rfl fun h1 x1 f1 => ?_
  refine GoR.op rfl rfl rfl rfl ?_
  refine GoR.end (Go.seq noJ_ok (Go.seq noJ_ok (Go.region noJ_ok rfl ?_)))
  have hsl := (B.hs.ext x1).len
  have hml := (B.hm.ext x1).len
  rw [List.length_map] at hsl hml
  refine GoR.op rfl rfl (ld25 rfl f1 rfl) rfl ?_
  refine GoR.call rfl rfl (aOp_callFunc aFunc12 rfl) (long_ok hsl hml hlong _) ?_ (by rintro _ _ ⟨q, _⟩; cases q)
  rintro _ h2 ⟨q, x2⟩
  cases q
  refine ⟨_, rfl, ?_⟩
  have x02 := x1.trans x2
  replace f1 := f1.ext x2
  refine GoR.op rfl rfl rfl rfl ?_
  refine GoR.op rfl rfl (ld25 rfl f1 rfl) rfl ?_
  refine GoR.call rfl rfl (aOp_callFunc aFunc13 rfl) (refBank_ok (B.ext x02) (by omega) (by omega)) ?_ (by rintro _ _ ⟨q, _⟩; cases q)
  rintro _ h3 ⟨q, x3⟩
  cases q
  refine ⟨_, rfl, ?_⟩
  have x03 := x02.trans x3
  replace f1 := f1.ext x3
  cases hv : bankValid np nb Ls Ms with
  | false =>
    refine GoR.op rfl rfl rfl rfl ?_
    refine GoR.op rfl rfl rfl rfl ?_
    refine GoR.op rfl rfl rfl rfl ?_
    refine GoR.skip rfl rfl rfl ?_
    refine GoR.skip rfl rfl rfl ?_
    refine GoR.skip rfl rfl rfl ?_
    refine GoR.skip rfl rfl rfl ?_
    refine GoR.op rfl rfl rfl rfl ?_
    refine GoR.end (Go.cond noJ_ok (b := true) rfl (Go.seq noJ_ok (Go.region JA_ok rfl ?_)))
    refine GoR.jump JA_ok rfl rfl (aOp_callFunc aFunc14 rfl) (v := .bool true) rfl rfl ?_
    refine GoR.op rfl rfl rfl rfl ?_
    exact GoR.end (Go.ret noJ_ok (ret_end (aResult_of Try.func8 rfl rfl) ⟨rfl, x03⟩))
  | true =>
    refine GoR.op rfl rfl rfl rfl ?_
    refine GoR.op rfl rfl rfl rfl ?_
    refine GoR.op rfl rfl rfl rfl ?_
    have hml3 := (B.hm.ext x03).len
    rw [List.length_map] at hml3
    refine GoR.op rfl rfl (fa25_3 rfl) rfl ?_
    refine GoR.op rfl rfl (ld23 rfl f1 rfl) rfl ?_
    refine GoR.op rfl rfl (aOp_lenSlice Try.underlying23 rfl hml3) rfl ?_
    by_cases h6 : Ms.length = 6
    · refine GoR.op rfl rfl (aOp_eql rfl rfl (r := true) (by simp [h6])) rfl ?_
      refine GoR.op rfl rfl rfl rfl ?_
      refine GoR.end (Go.cond noJ_ok (b := true) rfl (Go.seq noJ_ok (Go.region JA_ok rfl ?_)))
      refine GoR.jump JA_ok rfl rfl (aOp_callFunc aFunc14 rfl) (v := .bool true) rfl rfl ?_
      refine GoR.op rfl rfl rfl rfl ?_
      exact GoR.end (Go.ret noJ_ok (ret_end (aResult_of Try.func8 rfl rfl) ⟨rfl, x03⟩))
    · refine GoR.op rfl rfl (aOp_eql rfl rfl (r := false) (by simp; omega)) rfl ?_
      refine GoR.op rfl rfl rfl rfl ?_
      refine GoR.end (Go.cond noJ_ok (b := false) rfl (Go.code noJ_ok ?_))
      obtain ⟨v1, v2, v3, v4, v5, v6, v7⟩ := valid_gnd B hv
      have hM5 : Ms.length ≤ 5 := by omega
      refine Go.seq noJ_ok (Go.region noJ_ok rfl ?_)
      refine GoR.op rfl rfl (ld25 rfl f1 rfl) rfl ?_
      refine GoR.call rfl rfl (aOp_callFunc aFunc29 rfl) (Ask_ok (B.ext x03)) ?_ (by rintro _ _ ⟨q, _⟩; cases q)
      rintro _ h4 ⟨q, x4⟩
      cases q
      refine ⟨_, rfl, ?_⟩
      have x04 := x03.trans x4
      replace f1 := f1.ext x4
      refine GoR.op rfl rfl rfl rfl ?_
      refine GoR.op rfl rfl rfl rfl ?_
      refine GoR.op rfl rfl rfl rfl ?_
      refine GoR.op rfl rfl rfl rfl ?_
      refine GoR.op rfl rfl rfl rfl ?_
      refine GoR.op rfl rfl rfl rfl ?_
      refine GoR.op rfl rfl rfl rfl ?_
      refine GoR.end (Go.seq noJ_ok (Go.region noJ_ok rfl ?_))
      refine GoR.op rfl rfl (ld25 rfl f1 rfl) rfl ?_
      refine GoR.call rfl rfl (aOp_callFunc aFunc27 rfl) (Count_ok (B.ext x04)) ?_ (by rintro _ _ ⟨q, _⟩; cases q)
      rintro _ h5 ⟨q, x5⟩
      cases q
      refine ⟨_, rfl, ?_⟩
      have x05 := x04.trans x5
      replace f1 := f1.ext x5
      rw [hv, if_pos rfl, if_pos rfl]
      refine GoR.op rfl rfl rfl rfl ?_
      refine GoR.op rfl rfl rfl rfl ?_
      refine GoR.op rfl rfl rfl rfl ?_
      refine GoR.op rfl rfl rfl rfl ?_
      refine GoR.op rfl rfl rfl rfl ?_
      refine GoR.end (Go.seq noJ_ok (Go.seq noJ_ok (Go.region noJ_ok rfl ?_)))
      by_cases ht : 0 < truV np nb Ls Ms
      · have hask : askR np nb Ls Ms = ((askF np nb Ls Ms np.toNat).1, (askF np nb Ls Ms np.toNat).2, 0) := by unfold askR; rw [hv, if_pos rfl, if_pos ht]
        rw [hask]
        refine GoR.op rfl rfl rfl rfl ?_
        refine GoR.op rfl rfl (aOp_neq rfl rfl (r := false) (by simp)) rfl ?_
        refine GoR.op rfl rfl rfl rfl ?_
        refine GoR.op rfl rfl rfl rfl ?_
        refine GoR.op rfl rfl (aOp_eql rfl rfl (r := true) (by simp)) rfl ?_
        refine GoR.op rfl rfl rfl rfl ?_
        refine GoR.op rfl rfl (aOp_gtr rfl rfl (r := true) (by simpa using ht)) rfl ?_
        refine GoR.op rfl rfl (aOp_neqBool rfl rfl Try.underlying4 (r := false) rfl) rfl ?_
        refine GoR.op rfl rfl rfl rfl ?_
        refine GoR.op rfl rfl rfl rfl ?_
        refine GoR.op rfl rfl rfl rfl ?_
        refine GoR.op rfl rfl (aOp_neq rfl rfl (r := false) (by simp)) rfl ?_
        refine GoR.op rfl rfl rfl rfl ?_
        refine GoR.skip rfl rfl rfl ?_
        refine GoR.skip rfl rfl rfl ?_
        refine GoR.skip rfl rfl rfl ?_
        refine GoR.skip rfl rfl rfl ?_
        refine GoR.skip rfl rfl rfl ?_
        refine GoR.skip rfl rfl rfl ?_
        refine GoR.skip rfl rfl rfl ?_
        refine GoR.skip rfl rfl rfl ?_
        refine GoR.skip rfl rfl rfl ?_
        refine GoR.skip rfl rfl rfl ?_
        refine GoR.op rfl rfl rfl rfl ?_
        refine GoR.op rfl rfl rfl rfl ?_
        refine GoR.end (Go.cond noJ_ok (b := false) rfl (Go.code noJ_ok ?_))
        refine Go.seq noJ_ok (Go.seq noJ_ok (Go.region noJ_ok rfl ?_))
        refine GoR.op rfl rfl rfl rfl ?_
        refine GoR.op rfl rfl (aOp_neq rfl rfl (r := false) (by simp)) rfl ?_
        refine GoR.end (Go.cond noJ_ok (b := false) rfl (Go.code noJ_ok ?_))
        obtain ⟨p, hp1, hp2, hp3⟩ := askF_best (np := np) (nb := nb) (Ls := Ls) (Ms := Ms) (np.toNat - 1)
        have hnp : np.toNat - 1 + 1 = np.toNat := by omega
        rw [hnp] at hp1 hp2 hp3
        rw [hp2]
        refine Go.seq noJ_ok (Go.seq noJ_ok (Go.region noJ_ok rfl ?_))
        refine GoR.op rfl rfl rfl rfl ?_
        refine GoR.op rfl rfl (aOp_lss rfl rfl (r := false) (by simp)) rfl ?_
        refine GoR.op rfl rfl rfl rfl ?_
        refine GoR.op rfl rfl rfl rfl ?_
        refine GoR.op rfl rfl (fa25_0 rfl) rfl ?_
        refine GoR.op rfl rfl (ld3 rfl f1 rfl) rfl ?_
        refine GoR.op rfl rfl (aOp_geq rfl rfl (r := false) (by simp; omega)) rfl ?_
        refine GoR.op rfl rfl rfl rfl ?_
        refine GoR.end (Go.cond noJ_ok (b := false) rfl (Go.code noJ_ok ?_))
        refine Go.seq noJ_ok (Go.region noJ_ok rfl ?_)
        refine GoR.op rfl rfl rfl rfl ?_
        refine GoR.op rfl rfl rfl rfl ?_
        refine GoR.end (Go.seq noJ_ok (Go.region noJ_ok rfl ?_))
        refine GoR.op rfl rfl rfl rfl ?_
        refine GoR.op rfl rfl (aOp_convU8 rfl Try.underlying5 Try.underlying3 hw) rfl ?_
        refine GoR.op rfl rfl (fa25_0 rfl) rfl ?_
        refine GoR.op rfl rfl (ld3 rfl f1 rfl) rfl ?_
        obtain ⟨q, hq1, hq2⟩ : ∃ q : Nat, w.tmod np = Int.ofNat q ∧ (q : Int) < np := by
          rw [Int.tmod_eq_emod_of_nonneg hw.1]
          have b1 := Int.emod_nonneg w (show np ≠ 0 by omega)
          have b2 := Int.emod_lt_of_pos w (show 0 < np by omega)
          exact ⟨(w % np).toNat, by simp; omega, by omega⟩
        refine GoR.op rfl rfl (aOp_rem rfl rfl (by omega) hq1) rfl ?_
        refine GoR.op rfl rfl rfl rfl ?_
        refine GoR.end (Go.seq noJ_ok (Go.region noJ_ok rfl ?_))
        refine GoR.op rfl rfl rfl rfl ?_
        refine GoR.op rfl rfl rfl rfl ?_
        refine GoR.call rfl rfl (aOp_callVal rfl aFunc35 rfl) (most_ok (B.ext x05) hv hM5 f1 hq2) ?_ (by rintro _ _ ⟨q, _⟩; cases q)
        rintro _ h6' ⟨qe, x6⟩
        cases qe
        refine ⟨_, rfl, ?_⟩
        have x06 := x05.trans x6
        replace f1 := f1.ext x6
        refine GoR.op rfl rfl rfl rfl ?_
        refine GoR.end (Go.seq noJ_ok (Go.region JA_ok rfl ?_))
        refine GoR.op rfl rfl rfl rfl ?_
        refine GoR.op rfl rfl rfl rfl ?_
        refine GoR.callJ JA_ok rfl rfl (aOp_callVal rfl aFunc35 rfl) rfl (most_ok (p := p) (B.ext x06) hv hM5 f1 (by omega)) ?_ (by rintro _ _ ⟨q, _⟩; cases q)
        rintro _ h7 ⟨qe, x7⟩
        cases qe
        refine ⟨_, rfl, ?_⟩
        have x07 := x06.trans x7
        refine GoR.op rfl rfl rfl rfl ?_
        refine GoR.op rfl rfl (aOp_eql rfl rfl (r := true) (by simp)) rfl ?_
        refine GoR.op rfl rfl rfl rfl ?_
        refine GoR.op rfl rfl rfl rfl ?_
        refine GoR.op rfl rfl rfl rfl ?_
        rcases hp3 q (by omega) with hgt | ⟨heq, hle⟩
        · refine GoR.op rfl rfl (aOp_gtr rfl rfl (r := true) (by simpa using hgt)) rfl ?_
          refine GoR.op rfl rfl rfl rfl ?_
          refine GoR.skip rfl rfl rfl ?_
          refine GoR.skip rfl rfl rfl ?_
          refine GoR.skip rfl rfl rfl ?_
          refine GoR.skip rfl rfl rfl ?_
          refine GoR.skip rfl rfl rfl ?_
          refine GoR.skip rfl rfl rfl ?_
          refine GoR.skip rfl rfl rfl ?_
          refine GoR.skip rfl rfl rfl ?_
          refine GoR.op rfl rfl rfl rfl ?_
          refine GoR.op rfl rfl rfl rfl ?_
          refine GoR.op rfl rfl rfl rfl ?_
          refine GoR.jump JA_ok rfl rfl (aOp_callFunc aFunc14 rfl) (v := .bool true) rfl rfl ?_
          refine GoR.op rfl rfl rfl rfl ?_
          refine GoR.op rfl rfl rfl rfl ?_
          exact GoR.end (Go.ret noJ_ok (ret_end (aResult_of Try.func8 rfl rfl) ⟨rfl, x07⟩))
        · refine GoR.op rfl rfl (aOp_gtr rfl rfl (r := false) (by simp; omega)) rfl ?_
          refine GoR.op rfl rfl rfl rfl ?_
          refine GoR.op rfl rfl rfl rfl ?_
          refine GoR.op rfl rfl rfl rfl ?_
          refine GoR.op rfl rfl (aOp_eql rfl rfl (r := true) (by simpa using heq)) rfl ?_
          refine GoR.op rfl rfl rfl rfl ?_
          refine GoR.op rfl rfl rfl rfl ?_
          refine GoR.op rfl rfl rfl rfl ?_
          refine GoR.op rfl rfl (aOp_geq rfl rfl (r := true) (by simpa using hle)) rfl ?_
          refine GoR.op rfl rfl rfl rfl ?_
          refine GoR.op rfl rfl rfl rfl ?_
          refine GoR.op rfl rfl rfl rfl ?_
          refine GoR.op rfl rfl rfl rfl ?_
          refine GoR.jump JA_ok rfl rfl (aOp_callFunc aFunc14 rfl) (v := .bool true) rfl rfl ?_
          refine GoR.op rfl rfl rfl rfl ?_
          refine GoR.op rfl rfl rfl rfl ?_
          exact GoR.end (Go.ret noJ_ok (ret_end (aResult_of Try.func8 rfl rfl) ⟨rfl, x07⟩))
      · have hask : askR np nb Ls Ms = (0, 0, 10) := by unfold askR; rw [hv, if_pos rfl, if_neg ht]
        rw [hask]
        refine GoR.op rfl rfl rfl rfl ?_
        refine GoR.op rfl rfl (aOp_neq rfl rfl (r := false) (by simp)) rfl ?_
        refine GoR.op rfl rfl rfl rfl ?_
        refine GoR.op rfl rfl rfl rfl ?_
        refine GoR.op rfl rfl (aOp_eql rfl rfl (r := false) (by simp)) rfl ?_
        refine GoR.op rfl rfl rfl rfl ?_
        refine GoR.op rfl rfl (aOp_gtr rfl rfl (r := false) (by simpa using ht)) rfl ?_
        refine GoR.op rfl rfl (aOp_neqBool rfl rfl Try.underlying4 (r := false) rfl) rfl ?_
        refine GoR.op rfl rfl rfl rfl ?_
        refine GoR.op rfl rfl rfl rfl ?_
        refine GoR.op rfl rfl rfl rfl ?_
        refine GoR.op rfl rfl (aOp_neq rfl rfl (r := true) (by simp)) rfl ?_
        refine GoR.op rfl rfl rfl rfl ?_
        refine GoR.op rfl rfl rfl rfl ?_
        refine GoR.op rfl rfl (aOp_neq rfl rfl (r := false) (by simp)) rfl ?_
        refine GoR.op rfl rfl rfl rfl ?_
        refine GoR.op rfl rfl rfl rfl ?_
        refine GoR.op rfl rfl (aOp_neq rfl rfl (r := false) (by simp)) rfl ?_
        refine GoR.op rfl rfl rfl rfl ?_
        refine GoR.op rfl rfl rfl rfl ?_
        refine GoR.op rfl rfl rfl rfl ?_
        refine GoR.op rfl rfl (aOp_neq rfl rfl (r := false) (by simp)) rfl ?_
        refine GoR.op rfl rfl rfl rfl ?_
        refine GoR.op rfl rfl rfl rfl ?_
        refine GoR.op rfl rfl rfl rfl ?_
        refine GoR.end (Go.cond noJ_ok (b := false) rfl (Go.code noJ_ok ?_))
        refine Go.seq noJ_ok (Go.seq noJ_ok (Go.region noJ_ok rfl ?_))
        refine GoR.op rfl rfl rfl rfl ?_
        refine GoR.op rfl rfl (aOp_neq rfl rfl (r := true) (by simp)) rfl ?_
        refine GoR.end (Go.cond noJ_ok (b := true) rfl (Go.seq noJ_ok (Go.region JA_ok rfl ?_)))
        refine GoR.jump JA_ok rfl rfl (aOp_callFunc aFunc14 rfl) (v := .bool true) rfl rfl ?_
        refine GoR.op rfl rfl rfl rfl ?_
        exact GoR.end (Go.ret noJ_ok (ret_end (aResult_of Try.func8 rfl rfl) ⟨rfl, x05⟩))
end Go.Proofs.Ytidfcmjlfadieaa
