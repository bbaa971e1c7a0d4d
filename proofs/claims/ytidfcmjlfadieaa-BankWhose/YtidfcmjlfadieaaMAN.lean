import Derived.Test.YtidfcmjlfadieaaMAM
import Derived.Test.YtidfcmjlfadieaaMAH
namespace Go.Proofs.Ytidfcmjlfadieaa
open Go Go.AbsE
set_option maxRecDepth 100000
set_option linter.unusedVariables false
variable {np nb : Int} {Ls : List LeaseV} {Ms : List MarkV} {s m : AVal} {h h' : AH}
theorem valid_no_lease {i : Nat} {l : LeaseV} (hl : Ls[i]? = some l) (hf : fitsF np nb l.cells = false) : bankValid np nb Ls Ms = false := by
  have : (Ls.map LeaseV.cells).all (fitsF np nb) = false := List.all_eq_false.2 ⟨l.cells, List.mem_map_of_mem (List.mem_of_getElem? hl), by rw [hf]; exact Bool.false_ne_true⟩
  unfold bankValid
  rw [this]
  simp
theorem valid_no_mark {i : Nat} {l : MarkV} (hl : Ms[i]? = some l) (hf : markF np nb l.cells = false) : bankValid np nb Ls Ms = false := by
  have : (Ms.map MarkV.cells).all (markF np nb) = false := List.all_eq_false.2 ⟨l.cells, List.mem_map_of_mem (List.mem_of_getElem? hl), by rw [hf]; exact Bool.false_ne_true⟩
  unfold bankValid
  rw [this]
  simp
theorem valid_no_head (h : ¬ ((1 ≤ np ∧ np ≤ 10) ∧ (1 ≤ nb ∧ nb ≤ 4) ∧ (Ls.length : Int) ≤ 4 ∧ (Ms.length : Int) ≤ 6)) : bankValid np nb Ls Ms = false := by
  cases hq : bankValid np nb Ls Ms with
  | false => rfl
  | true =>
    unfold bankValid at hq
    simp only [Bool.and_eq_true, decide_eq_true_eq] at hq
    omega
theorem valid_yes (h1 : 1 ≤ np ∧ np ≤ 10) (h2 : 1 ≤ nb ∧ nb ≤ 4) (h3 : (Ls.length : Int) ≤ 4) (h4 : (Ms.length : Int) ≤ 6) (h5 : ∀ (j : Nat) l, Ls[j]? = some l → fitsF np nb l.cells = true) (h6 : ∀ (j : Nat) l, Ms[j]? = some l → markF np nb l.cells = true) : bankValid np nb Ls Ms = true := by
  unfold bankValid
  simp only [Bool.and_eq_true, decide_eq_true_eq, List.all_eq_true, List.mem_map]
  refine ⟨⟨⟨⟨⟨h1, h2⟩, h3⟩, ?_⟩, h4⟩, ?_⟩
  · rintro _ ⟨l, hl, rfl⟩
    obtain ⟨j, hj⟩ := List.mem_iff_getElem?.1 hl
    exact h5 j l hj
  · rintro _ ⟨l, hl, rfl⟩
    obtain ⟨j, hj⟩ := List.mem_iff_getElem?.1 hl
    exact h6 j l hj
noncomputable def ops13 : Array Oper := ((drawnOps Try.f13)[0]?).getD #[]
theorem plan13 : plan ops13 = some (mkPlan ops13.toList [(0, 0, true, false), (1, 0, true, false), (2, 2, true, false), (3, 0, true, false), (4, 14, true, false), (5, 30, true, false), (6, 62, true, false), (7, 127, false, false), (8, 255, true, false),
        (9, 511, true, false), (10, 1023, true, false), (11, 1023, true, false), (12, 3071, true, false),
        (13, 1023, true, false), (14, 15359, true, false), (15, 31743, true, false), (16, 64511, true, false),
        (17, 131071, false, false), (18, 262143, true, false), (19, 524287, true, false)]) := by kernel_rfl

/-- The document's own Bank: a bank is valid. -/
theorem refBank_ok (B : BankIn h np nb s m Ls Ms) (hlL : Ls.length ≤ 1000) (hlM : Ms.length ≤ 1000) : Runs Try.prog 13 [.agg [.int .i64 np, .int .i64 nb, s, m]] h (fun en h' => en = .ret (.bool (bankValid np nb Ls Ms)) ∧ Ext h h') := by
  refine Runs.intro aFunc13 rfl rfl rfl rfl fun rest => ?_
  refine Go.seq noJ_ok (Go.region noJ_ok rfl ?_)
  refine GoR.box rfl rfl rfl rfl rfl rfl fun h1 x1 f1 => ?_
  refine GoR.op rfl rfl rfl rfl ?_
  refine GoR.end (Go.seq noJ_ok (Go.seq noJ_ok (Go.region noJ_ok rfl ?_)))
  have hsl := (B.hs.ext x1).len
  have hml := (B.hm.ext x1).len
  rw [List.length_map] at hsl hml
  cases e1 : decide (1 ≤ np ∧ np ≤ 10) with
  | false =>
    refine GoR.op rfl rfl (fa25_0 rfl) rfl ?_
    refine GoR.op rfl rfl (ld3 rfl f1 rfl) rfl ?_
    refine GoR.call rfl rfl (aOp_callFunc aFunc54 rfl) (in_ok np 1 10 e1 _) ?_ (by rintro _ _ ⟨q, _⟩; cases q)
    rintro _ k1 ⟨q, y1⟩
    cases q
    refine ⟨_, rfl, ?_⟩
    replace f1 := f1.ext y1
    refine GoR.op rfl rfl rfl rfl ?_
    refine GoR.op rfl rfl rfl rfl ?_
    refine GoR.skip rfl rfl rfl ?_
    refine GoR.skip rfl rfl rfl ?_
    refine GoR.skip rfl rfl rfl ?_
    refine GoR.skip rfl rfl rfl ?_
    refine GoR.op rfl rfl rfl rfl ?_
    refine GoR.op rfl rfl rfl rfl ?_
    refine GoR.skip rfl rfl rfl ?_
    refine GoR.skip rfl rfl rfl ?_
    refine GoR.skip rfl rfl rfl ?_
    refine GoR.skip rfl rfl rfl ?_
    refine GoR.op rfl rfl rfl rfl ?_
    refine GoR.op rfl rfl rfl rfl ?_
    refine GoR.skip rfl rfl rfl ?_
    refine GoR.skip rfl rfl rfl ?_
    refine GoR.skip rfl rfl rfl ?_
    refine GoR.skip rfl rfl rfl ?_
    refine GoR.op rfl rfl rfl rfl ?_
    refine GoR.end (Go.cond noJ_ok (b := true) rfl (Go.seq noJ_ok (Go.region noJ_ok rfl ?_)))
    refine GoR.op rfl rfl rfl rfl ?_
    refine GoR.end (Go.ret noJ_ok (ret_end (aResult_of Try.func13 rfl rfl) ⟨?_, (x1).trans y1⟩))
    simp only [decide_eq_true_eq, decide_eq_false_iff_not] at e1
    rw [valid_no_head (by omega)]
    rfl
  | true =>
    cases e2 : decide (1 ≤ nb ∧ nb ≤ 4) with
    | false =>
      refine GoR.op rfl rfl (fa25_0 rfl) rfl ?_
      refine GoR.op rfl rfl (ld3 rfl f1 rfl) rfl ?_
      refine GoR.call rfl rfl (aOp_callFunc aFunc54 rfl) (in_ok np 1 10 e1 _) ?_ (by rintro _ _ ⟨q, _⟩; cases q)
      rintro _ k2 ⟨q, y2⟩
      cases q
      refine ⟨_, rfl, ?_⟩
      replace f1 := f1.ext y2
      refine GoR.op rfl rfl rfl rfl ?_
      refine GoR.op rfl rfl rfl rfl ?_
      refine GoR.op rfl rfl (fa25_1 rfl) rfl ?_
      refine GoR.op rfl rfl (ld3 rfl f1 rfl) rfl ?_
      refine GoR.call rfl rfl (aOp_callFunc aFunc54 rfl) (in_ok nb 1 4 e2 _) ?_ (by rintro _ _ ⟨q, _⟩; cases q)
      rintro _ k3 ⟨q, y3⟩
      cases q
      refine ⟨_, rfl, ?_⟩
      replace f1 := f1.ext y3
      refine GoR.op rfl rfl rfl rfl ?_
      refine GoR.op rfl rfl rfl rfl ?_
      refine GoR.op rfl rfl rfl rfl ?_
      refine GoR.skip rfl rfl rfl ?_
      refine GoR.skip rfl rfl rfl ?_
      refine GoR.skip rfl rfl rfl ?_
      refine GoR.skip rfl rfl rfl ?_
      refine GoR.op rfl rfl rfl rfl ?_
      refine GoR.op rfl rfl rfl rfl ?_
      refine GoR.skip rfl rfl rfl ?_
      refine GoR.skip rfl rfl rfl ?_
      refine GoR.skip rfl rfl rfl ?_
      refine GoR.skip rfl rfl rfl ?_
      refine GoR.op rfl rfl rfl rfl ?_
      refine GoR.end (Go.cond noJ_ok (b := true) rfl (Go.seq noJ_ok (Go.region noJ_ok rfl ?_)))
      refine GoR.op rfl rfl rfl rfl ?_
      refine GoR.end (Go.ret noJ_ok (ret_end (aResult_of Try.func13 rfl rfl) ⟨?_, ((x1).trans y2).trans y3⟩))
      simp only [decide_eq_true_eq, decide_eq_false_iff_not] at e1 e2
      rw [valid_no_head (by omega)]
      rfl
    | true =>
      cases e3 : decide ((4 : Int) < Ls.length) with
      | true =>
        refine GoR.op rfl rfl (fa25_0 rfl) rfl ?_
        refine GoR.op rfl rfl (ld3 rfl f1 rfl) rfl ?_
        refine GoR.call rfl rfl (aOp_callFunc aFunc54 rfl) (in_ok np 1 10 e1 _) ?_ (by rintro _ _ ⟨q, _⟩; cases q)
        rintro _ k4 ⟨q, y4⟩
        cases q
        refine ⟨_, rfl, ?_⟩
        replace f1 := f1.ext y4
        refine GoR.op rfl rfl rfl rfl ?_
        refine GoR.op rfl rfl rfl rfl ?_
        refine GoR.op rfl rfl (fa25_1 rfl) rfl ?_
        refine GoR.op rfl rfl (ld3 rfl f1 rfl) rfl ?_
        refine GoR.call rfl rfl (aOp_callFunc aFunc54 rfl) (in_ok nb 1 4 e2 _) ?_ (by rintro _ _ ⟨q, _⟩; cases q)
        rintro _ k5 ⟨q, y5⟩
        cases q
        refine ⟨_, rfl, ?_⟩
        replace f1 := f1.ext y5
        refine GoR.op rfl rfl rfl rfl ?_
        refine GoR.op rfl rfl rfl rfl ?_
        refine GoR.op rfl rfl rfl rfl ?_
        refine GoR.op rfl rfl (fa25_2 rfl) rfl ?_
        refine GoR.op rfl rfl (ld22 rfl f1 rfl) rfl ?_
        refine GoR.op rfl rfl (aOp_lenSlice Try.underlying22 rfl hsl) rfl ?_
        refine GoR.op rfl rfl (aOp_gtr rfl rfl e3) rfl ?_
        refine GoR.op rfl rfl rfl rfl ?_
        refine GoR.op rfl rfl rfl rfl ?_
        refine GoR.skip rfl rfl rfl ?_
        refine GoR.skip rfl rfl rfl ?_
        refine GoR.skip rfl rfl rfl ?_
        refine GoR.skip rfl rfl rfl ?_
        refine GoR.op rfl rfl rfl rfl ?_
        refine GoR.end (Go.cond noJ_ok (b := true) rfl (Go.seq noJ_ok (Go.region noJ_ok rfl ?_)))
        refine GoR.op rfl rfl rfl rfl ?_
        refine GoR.end (Go.ret noJ_ok (ret_end (aResult_of Try.func13 rfl rfl) ⟨?_, ((x1).trans y4).trans y5⟩))
        simp only [decide_eq_true_eq, decide_eq_false_iff_not] at e1 e2 e3
        rw [valid_no_head (by omega)]
        rfl
      | false =>
        cases e4 : decide ((6 : Int) < Ms.length) with
        | true =>
          refine GoR.op rfl rfl (fa25_0 rfl) rfl ?_
          refine GoR.op rfl rfl (ld3 rfl f1 rfl) rfl ?_
          refine GoR.call rfl rfl (aOp_callFunc aFunc54 rfl) (in_ok np 1 10 e1 _) ?_ (by rintro _ _ ⟨q, _⟩; cases q)
          rintro _ k6 ⟨q, y6⟩
          cases q
          refine ⟨_, rfl, ?_⟩
          replace f1 := f1.ext y6
          refine GoR.op rfl rfl rfl rfl ?_
          refine GoR.op rfl rfl rfl rfl ?_
          refine GoR.op rfl rfl (fa25_1 rfl) rfl ?_
          refine GoR.op rfl rfl (ld3 rfl f1 rfl) rfl ?_
          refine GoR.call rfl rfl (aOp_callFunc aFunc54 rfl) (in_ok nb 1 4 e2 _) ?_ (by rintro _ _ ⟨q, _⟩; cases q)
          rintro _ k7 ⟨q, y7⟩
          cases q
          refine ⟨_, rfl, ?_⟩
          replace f1 := f1.ext y7
          refine GoR.op rfl rfl rfl rfl ?_
          refine GoR.op rfl rfl rfl rfl ?_
          refine GoR.op rfl rfl rfl rfl ?_
          refine GoR.op rfl rfl (fa25_2 rfl) rfl ?_
          refine GoR.op rfl rfl (ld22 rfl f1 rfl) rfl ?_
          refine GoR.op rfl rfl (aOp_lenSlice Try.underlying22 rfl hsl) rfl ?_
          refine GoR.op rfl rfl (aOp_gtr rfl rfl e3) rfl ?_
          refine GoR.op rfl rfl rfl rfl ?_
          refine GoR.op rfl rfl rfl rfl ?_
          refine GoR.op rfl rfl (fa25_3 rfl) rfl ?_
          refine GoR.op rfl rfl (ld23 rfl f1 rfl) rfl ?_
          refine GoR.op rfl rfl (aOp_lenSlice Try.underlying23 rfl hml) rfl ?_
          refine GoR.op rfl rfl (aOp_gtr rfl rfl e4) rfl ?_
          refine GoR.op rfl rfl rfl rfl ?_
          refine GoR.end (Go.cond noJ_ok (b := true) rfl (Go.seq noJ_ok (Go.region noJ_ok rfl ?_)))
          refine GoR.op rfl rfl rfl rfl ?_
          refine GoR.end (Go.ret noJ_ok (ret_end (aResult_of Try.func13 rfl rfl) ⟨?_, ((x1).trans y6).trans y7⟩))
          simp only [decide_eq_true_eq, decide_eq_false_iff_not] at e1 e2 e3 e4
          rw [valid_no_head (by omega)]
          rfl
        | false =>
          refine GoR.op rfl rfl (fa25_0 rfl) rfl ?_
          refine GoR.op rfl rfl (ld3 rfl f1 rfl) rfl ?_
          refine GoR.call rfl rfl (aOp_callFunc aFunc54 rfl) (in_ok np 1 10 e1 _) ?_ (by rintro _ _ ⟨q, _⟩; cases q)
          rintro _ k8 ⟨q, y8⟩
          cases q
          refine ⟨_, rfl, ?_⟩
          replace f1 := f1.ext y8
          refine GoR.op rfl rfl rfl rfl ?_
          refine GoR.op rfl rfl rfl rfl ?_
          refine GoR.op rfl rfl (fa25_1 rfl) rfl ?_
          refine GoR.op rfl rfl (ld3 rfl f1 rfl) rfl ?_
          refine GoR.call rfl rfl (aOp_callFunc aFunc54 rfl) (in_ok nb 1 4 e2 _) ?_ (by rintro _ _ ⟨q, _⟩; cases q)
          rintro _ k9 ⟨q, y9⟩
          cases q
          refine ⟨_, rfl, ?_⟩
          replace f1 := f1.ext y9
          refine GoR.op rfl rfl rfl rfl ?_
          refine GoR.op rfl rfl rfl rfl ?_
          refine GoR.op rfl rfl rfl rfl ?_
          refine GoR.op rfl rfl (fa25_2 rfl) rfl ?_
          refine GoR.op rfl rfl (ld22 rfl f1 rfl) rfl ?_
          refine GoR.op rfl rfl (aOp_lenSlice Try.underlying22 rfl hsl) rfl ?_
          refine GoR.op rfl rfl (aOp_gtr rfl rfl e3) rfl ?_
          refine GoR.op rfl rfl rfl rfl ?_
          refine GoR.op rfl rfl rfl rfl ?_
          refine GoR.op rfl rfl (fa25_3 rfl) rfl ?_
          refine GoR.op rfl rfl (ld23 rfl f1 rfl) rfl ?_
          refine GoR.op rfl rfl (aOp_lenSlice Try.underlying23 rfl hml) rfl ?_
          refine GoR.op rfl rfl (aOp_gtr rfl rfl e4) rfl ?_
          refine GoR.op rfl rfl rfl rfl ?_
          refine GoR.end (Go.cond noJ_ok (b := false) rfl (Go.code noJ_ok (Go.seq noJ_ok (Go.seq noJ_ok (Go.region noJ_ok rfl ?_)))))
          simp only [decide_eq_true_eq, decide_eq_false_iff_not] at e1 e2 e3 e4
          have x2 := ((x1).trans y8).trans y9
          have hnp1 : inI64 (np - 1) := by constructor <;> omega
          have hnb1 : inI64 (nb - 1) := by constructor <;> omega
          generalize hk0 : k9 = k0 at *
          refine GoR.op rfl rfl rfl rfl ?_
          refine GoR.end (Go.block noJ_ok ?_)
          refine Go.keep [(1, .ptr h.next 0), (3, .int .i64 0)] ⟨rfl, rfl, trivial⟩ ?_
          refine Go.loopInv (fun n t h' => ∃ i, n + i = Ls.length ∧ t = keepT [(1, .ptr h.next 0), (3, .int .i64 (Int.ofNat i))] ∧ Ext k0 h' ∧ ∀ (j : Nat) l, j < i → Ls[j]? = some l → fitsF np nb l.cells = true) (n := Ls.length) ⟨0, rfl, rfl, Ext.refl _, fun j l hj => absurd hj (Nat.not_lt_zero _)⟩ ?_
          rintro n t h2 ⟨i, hn, rfl, z2, hfit⟩ again
          replace f1 := f1.ext z2
          have hs2 := B.hs.ext (x2.trans z2)
          have hm2 := B.hm.ext (x2.trans z2)
          refine Go.seq noJ_ok (Go.seq noJ_ok (Go.region noJ_ok rfl ?_))
          refine GoR.op rfl rfl rfl rfl ?_
          refine GoR.op rfl rfl (fa25_2 rfl) rfl ?_
          refine GoR.op rfl rfl (ld22 rfl f1 rfl) rfl ?_
          refine GoR.op rfl rfl (aOp_lenSlice Try.underlying22 rfl hs2.len) rfl ?_
          rw [List.length_map]
          by_cases hi : i < Ls.length
          · refine GoR.op rfl rfl (aOp_lss rfl rfl (r := true) (by simp; omega)) rfl ?_
            refine GoR.end (Go.cond noJ_ok (b := true) rfl (Go.code noJ_ok (Go.seq noJ_ok (Go.block noJ_ok (Go.seq noJ_ok (Go.region noJ_ok rfl ?_))))))
            obtain ⟨l, hl⟩ : ∃ l, Ls[i]? = some l := ⟨Ls[i], by simp [hi]⟩
            have hl2 : (Ls.map LeaseV.cells)[i]? = some l.cells := by rw [List.getElem?_map, hl]; rfl
            obtain ⟨b, off, q1, q2⟩ := hs2.at hl2
            rw [List.length_map] at q1
            refine GoR.op rfl rfl (fa25_2 rfl) rfl ?_
            refine GoR.op rfl rfl (ld22 rfl f1 rfl) rfl ?_
            refine GoR.op rfl rfl rfl rfl ?_
            refine GoR.op rfl rfl (aOp_indexAddr Try.underlying22 sz57 rfl q1 rfl (Nat.ble_eq_true_of_le hi)) rfl ?_
            refine GoR.op rfl rfl (aOp_loadE ag57 sz57 rfl q2) rfl ?_
            refine GoR.alloc rfl rfl rfl zt57 rfl rfl fun h3 x3 f3 => ?_
            refine GoR.store rfl rfl rfl rfl rfl rfl f3 rfl sz57 rfl rfl rfl fun h4 u4 => ?_
            have x24 : Ext h2 h4 := x3.upd u4 (Nat.le_refl _)
            replace f3 := u4.has f3
            replace f1 := f1.ext x24
            refine GoR.end (Go.seq noJ_ok (Go.region noJ_ok rfl ?_))
            cases d1 : decide (0 ≤ l.o ∧ l.o ≤ nb - 1) with
            | false =>
              refine GoR.op rfl rfl (fa57_0 rfl) rfl ?_
              refine GoR.op rfl rfl (ld3 rfl f3 rfl) rfl ?_
              refine GoR.op rfl rfl (fa25_1 rfl) rfl ?_
              refine GoR.op rfl rfl (ld3 rfl f1 rfl) rfl ?_
              refine GoR.op rfl rfl (aOp_sub rfl rfl hnb1 rfl) rfl ?_
              refine GoR.call rfl rfl (aOp_callFunc aFunc54 rfl) (in_ok l.o 0 (nb - 1) d1 _) ?_ (by rintro _ _ ⟨q, _⟩; cases q)
              rintro _ k10 ⟨q, y10⟩
              cases q
              refine ⟨_, rfl, ?_⟩
              replace f1 := f1.ext y10
              replace f3 := f3.ext y10
              refine GoR.op rfl rfl rfl rfl ?_
              refine GoR.op rfl rfl rfl rfl ?_
              refine GoR.skip rfl rfl rfl ?_
              refine GoR.skip rfl rfl rfl ?_
              refine GoR.skip rfl rfl rfl ?_
              refine GoR.skip rfl rfl rfl ?_
              refine GoR.skip rfl rfl rfl ?_
              refine GoR.skip rfl rfl rfl ?_
              refine GoR.skip rfl rfl rfl ?_
              refine GoR.op rfl rfl rfl rfl ?_
              refine GoR.op rfl rfl rfl rfl ?_
              refine GoR.skip rfl rfl rfl ?_
              refine GoR.skip rfl rfl rfl ?_
              refine GoR.skip rfl rfl rfl ?_
              refine GoR.skip rfl rfl rfl ?_
              refine GoR.skip rfl rfl rfl ?_
              refine GoR.skip rfl rfl rfl ?_
              refine GoR.op rfl rfl rfl rfl ?_
              refine GoR.op rfl rfl rfl rfl ?_
              refine GoR.skip rfl rfl rfl ?_
              refine GoR.skip rfl rfl rfl ?_
              refine GoR.skip rfl rfl rfl ?_
              refine GoR.skip rfl rfl rfl ?_
              refine GoR.skip rfl rfl rfl ?_
              refine GoR.skip rfl rfl rfl ?_
              refine GoR.skip rfl rfl rfl ?_
              refine GoR.op rfl rfl rfl rfl ?_
              refine GoR.end (Go.cond noJ_ok (b := true) rfl (Go.seq noJ_ok (Go.region noJ_ok rfl ?_)))
              refine GoR.op rfl rfl rfl rfl ?_
              refine GoR.end (Go.ret noJ_ok (ret_end (aResult_of Try.func13 rfl rfl) ⟨?_, (x2.trans z2).trans ((x24).trans y10)⟩))
              simp only [decide_eq_true_eq, decide_eq_false_iff_not] at d1
              rw [valid_no_lease hl (by unfold LeaseV.cells fitsF; simp only [decide_eq_false_iff_not]; omega)]
              rfl
            | true =>
              cases d2 : decide (0 ≤ l.fl ∧ l.fl ≤ l.fh ∧ l.fh ≤ np - 1 ∧ l.fh - l.fl ≤ 2) with
              | false =>
                refine GoR.op rfl rfl (fa57_0 rfl) rfl ?_
                refine GoR.op rfl rfl (ld3 rfl f3 rfl) rfl ?_
                refine GoR.op rfl rfl (fa25_1 rfl) rfl ?_
                refine GoR.op rfl rfl (ld3 rfl f1 rfl) rfl ?_
                refine GoR.op rfl rfl (aOp_sub rfl rfl hnb1 rfl) rfl ?_
                refine GoR.call rfl rfl (aOp_callFunc aFunc54 rfl) (in_ok l.o 0 (nb - 1) d1 _) ?_ (by rintro _ _ ⟨q, _⟩; cases q)
                rintro _ k11 ⟨q, y11⟩
                cases q
                refine ⟨_, rfl, ?_⟩
                replace f1 := f1.ext y11
                replace f3 := f3.ext y11
                refine GoR.op rfl rfl rfl rfl ?_
                refine GoR.op rfl rfl rfl rfl ?_
                refine GoR.op rfl rfl (fa57_1 rfl) rfl ?_
                refine GoR.op rfl rfl (ld40 rfl f3 rfl) rfl ?_
                refine GoR.op rfl rfl (fa25_0 rfl) rfl ?_
                refine GoR.op rfl rfl (ld3 rfl f1 rfl) rfl ?_
                refine GoR.op rfl rfl (aOp_sub rfl rfl hnp1 rfl) rfl ?_
                refine GoR.call rfl rfl (aOp_callFunc aFunc55 rfl) (span_ok l.fl l.fh 0 (np - 1) (by intro _ _ _; constructor <;> omega) d2 _) ?_ (by rintro _ _ ⟨q, _⟩; cases q)
                rintro _ k12 ⟨q, y12⟩
                cases q
                refine ⟨_, rfl, ?_⟩
                replace f1 := f1.ext y12
                replace f3 := f3.ext y12
                refine GoR.op rfl rfl rfl rfl ?_
                refine GoR.op rfl rfl rfl rfl ?_
                refine GoR.op rfl rfl rfl rfl ?_
                refine GoR.skip rfl rfl rfl ?_
                refine GoR.skip rfl rfl rfl ?_
                refine GoR.skip rfl rfl rfl ?_
                refine GoR.skip rfl rfl rfl ?_
                refine GoR.skip rfl rfl rfl ?_
                refine GoR.skip rfl rfl rfl ?_
                refine GoR.op rfl rfl rfl rfl ?_
                refine GoR.op rfl rfl rfl rfl ?_
                refine GoR.skip rfl rfl rfl ?_
                refine GoR.skip rfl rfl rfl ?_
                refine GoR.skip rfl rfl rfl ?_
                refine GoR.skip rfl rfl rfl ?_
                refine GoR.skip rfl rfl rfl ?_
                refine GoR.skip rfl rfl rfl ?_
                refine GoR.skip rfl rfl rfl ?_
                refine GoR.op rfl rfl rfl rfl ?_
                refine GoR.end (Go.cond noJ_ok (b := true) rfl (Go.seq noJ_ok (Go.region noJ_ok rfl ?_)))
                refine GoR.op rfl rfl rfl rfl ?_
                refine GoR.end (Go.ret noJ_ok (ret_end (aResult_of Try.func13 rfl rfl) ⟨?_, (x2.trans z2).trans (((x24).trans y11).trans y12)⟩))
                simp only [decide_eq_true_eq, decide_eq_false_iff_not] at d1 d2
                rw [valid_no_lease hl (by unfold LeaseV.cells fitsF; simp only [decide_eq_false_iff_not]; omega)]
                rfl
              | true =>
                cases d3 : decide (1 ≤ l.tl ∧ l.tl ≤ l.th ∧ l.th ≤ np ∧ l.th - l.tl ≤ 2) with
                | false =>
                  refine GoR.op rfl rfl (fa57_0 rfl) rfl ?_
                  refine GoR.op rfl rfl (ld3 rfl f3 rfl) rfl ?_
                  refine GoR.op rfl rfl (fa25_1 rfl) rfl ?_
                  refine GoR.op rfl rfl (ld3 rfl f1 rfl) rfl ?_
                  refine GoR.op rfl rfl (aOp_sub rfl rfl hnb1 rfl) rfl ?_
                  refine GoR.call rfl rfl (aOp_callFunc aFunc54 rfl) (in_ok l.o 0 (nb - 1) d1 _) ?_ (by rintro _ _ ⟨q, _⟩; cases q)
                  rintro _ k13 ⟨q, y13⟩
                  cases q
                  refine ⟨_, rfl, ?_⟩
                  replace f1 := f1.ext y13
                  replace f3 := f3.ext y13
                  refine GoR.op rfl rfl rfl rfl ?_
                  refine GoR.op rfl rfl rfl rfl ?_
                  refine GoR.op rfl rfl (fa57_1 rfl) rfl ?_
                  refine GoR.op rfl rfl (ld40 rfl f3 rfl) rfl ?_
                  refine GoR.op rfl rfl (fa25_0 rfl) rfl ?_
                  refine GoR.op rfl rfl (ld3 rfl f1 rfl) rfl ?_
                  refine GoR.op rfl rfl (aOp_sub rfl rfl hnp1 rfl) rfl ?_
                  refine GoR.call rfl rfl (aOp_callFunc aFunc55 rfl) (span_ok l.fl l.fh 0 (np - 1) (by intro _ _ _; constructor <;> omega) d2 _) ?_ (by rintro _ _ ⟨q, _⟩; cases q)
                  rintro _ k14 ⟨q, y14⟩
                  cases q
                  refine ⟨_, rfl, ?_⟩
                  replace f1 := f1.ext y14
                  replace f3 := f3.ext y14
                  refine GoR.op rfl rfl rfl rfl ?_
                  refine GoR.op rfl rfl rfl rfl ?_
                  refine GoR.op rfl rfl rfl rfl ?_
                  refine GoR.op rfl rfl (fa57_2 rfl) rfl ?_
                  refine GoR.op rfl rfl (ld40 rfl f3 rfl) rfl ?_
                  refine GoR.op rfl rfl (fa25_0 rfl) rfl ?_
                  refine GoR.op rfl rfl (ld3 rfl f1 rfl) rfl ?_
                  refine GoR.call rfl rfl (aOp_callFunc aFunc55 rfl) (span_ok l.tl l.th 1 np (by intro _ _ _; constructor <;> omega) d3 _) ?_ (by rintro _ _ ⟨q, _⟩; cases q)
                  rintro _ k15 ⟨q, y15⟩
                  cases q
                  refine ⟨_, rfl, ?_⟩
                  replace f1 := f1.ext y15
                  replace f3 := f3.ext y15
                  refine GoR.op rfl rfl rfl rfl ?_
                  refine GoR.op rfl rfl rfl rfl ?_
                  refine GoR.op rfl rfl rfl rfl ?_
                  refine GoR.skip rfl rfl rfl ?_
                  refine GoR.skip rfl rfl rfl ?_
                  refine GoR.skip rfl rfl rfl ?_
                  refine GoR.skip rfl rfl rfl ?_
                  refine GoR.skip rfl rfl rfl ?_
                  refine GoR.skip rfl rfl rfl ?_
                  refine GoR.skip rfl rfl rfl ?_
                  refine GoR.op rfl rfl rfl rfl ?_
                  refine GoR.end (Go.cond noJ_ok (b := true) rfl (Go.seq noJ_ok (Go.region noJ_ok rfl ?_)))
                  refine GoR.op rfl rfl rfl rfl ?_
                  refine GoR.end (Go.ret noJ_ok (ret_end (aResult_of Try.func13 rfl rfl) ⟨?_, (x2.trans z2).trans ((((x24).trans y13).trans y14).trans y15)⟩))
                  simp only [decide_eq_true_eq, decide_eq_false_iff_not] at d1 d2 d3
                  rw [valid_no_lease hl (by unfold LeaseV.cells fitsF; simp only [decide_eq_false_iff_not]; omega)]
                  rfl
                | true =>
                  cases d4 : decide (l.th ≤ l.fl) with
                  | true =>
                    refine GoR.op rfl rfl (fa57_0 rfl) rfl ?_
                    refine GoR.op rfl rfl (ld3 rfl f3 rfl) rfl ?_
                    refine GoR.op rfl rfl (fa25_1 rfl) rfl ?_
                    refine GoR.op rfl rfl (ld3 rfl f1 rfl) rfl ?_
                    refine GoR.op rfl rfl (aOp_sub rfl rfl hnb1 rfl) rfl ?_
                    refine GoR.call rfl rfl (aOp_callFunc aFunc54 rfl) (in_ok l.o 0 (nb - 1) d1 _) ?_ (by rintro _ _ ⟨q, _⟩; cases q)
                    rintro _ k16 ⟨q, y16⟩
                    cases q
                    refine ⟨_, rfl, ?_⟩
                    replace f1 := f1.ext y16
                    replace f3 := f3.ext y16
                    refine GoR.op rfl rfl rfl rfl ?_
                    refine GoR.op rfl rfl rfl rfl ?_
                    refine GoR.op rfl rfl (fa57_1 rfl) rfl ?_
                    refine GoR.op rfl rfl (ld40 rfl f3 rfl) rfl ?_
                    refine GoR.op rfl rfl (fa25_0 rfl) rfl ?_
                    refine GoR.op rfl rfl (ld3 rfl f1 rfl) rfl ?_
                    refine GoR.op rfl rfl (aOp_sub rfl rfl hnp1 rfl) rfl ?_
                    refine GoR.call rfl rfl (aOp_callFunc aFunc55 rfl) (span_ok l.fl l.fh 0 (np - 1) (by intro _ _ _; constructor <;> omega) d2 _) ?_ (by rintro _ _ ⟨q, _⟩; cases q)
                    rintro _ k17 ⟨q, y17⟩
                    cases q
                    refine ⟨_, rfl, ?_⟩
                    replace f1 := f1.ext y17
                    replace f3 := f3.ext y17
                    refine GoR.op rfl rfl rfl rfl ?_
                    refine GoR.op rfl rfl rfl rfl ?_
                    refine GoR.op rfl rfl rfl rfl ?_
                    refine GoR.op rfl rfl (fa57_2 rfl) rfl ?_
                    refine GoR.op rfl rfl (ld40 rfl f3 rfl) rfl ?_
                    refine GoR.op rfl rfl (fa25_0 rfl) rfl ?_
                    refine GoR.op rfl rfl (ld3 rfl f1 rfl) rfl ?_
                    refine GoR.call rfl rfl (aOp_callFunc aFunc55 rfl) (span_ok l.tl l.th 1 np (by intro _ _ _; constructor <;> omega) d3 _) ?_ (by rintro _ _ ⟨q, _⟩; cases q)
                    rintro _ k18 ⟨q, y18⟩
                    cases q
                    refine ⟨_, rfl, ?_⟩
                    replace f1 := f1.ext y18
                    replace f3 := f3.ext y18
                    refine GoR.op rfl rfl rfl rfl ?_
                    refine GoR.op rfl rfl rfl rfl ?_
                    refine GoR.op rfl rfl rfl rfl ?_
                    refine GoR.op rfl rfl (fa57_1 rfl) rfl ?_
                    refine GoR.op rfl rfl (fa40_0 rfl) rfl ?_
                    refine GoR.op rfl rfl (ld3 rfl f3 rfl) rfl ?_
                    refine GoR.op rfl rfl (fa57_2 rfl) rfl ?_
                    refine GoR.op rfl rfl (fa40_1 rfl) rfl ?_
                    refine GoR.op rfl rfl (ld3 rfl f3 rfl) rfl ?_
                    refine GoR.op rfl rfl (aOp_geq rfl rfl d4) rfl ?_
                    refine GoR.op rfl rfl rfl rfl ?_
                    refine GoR.end (Go.cond noJ_ok (b := true) rfl (Go.seq noJ_ok (Go.region noJ_ok rfl ?_)))
                    refine GoR.op rfl rfl rfl rfl ?_
                    refine GoR.end (Go.ret noJ_ok (ret_end (aResult_of Try.func13 rfl rfl) ⟨?_, (x2.trans z2).trans ((((x24).trans y16).trans y17).trans y18)⟩))
                    simp only [decide_eq_true_eq, decide_eq_false_iff_not] at d1 d2 d3 d4
                    rw [valid_no_lease hl (by unfold LeaseV.cells fitsF; simp only [decide_eq_false_iff_not]; omega)]
                    rfl
                  | false =>
                    refine GoR.op rfl rfl (fa57_0 rfl) rfl ?_
                    refine GoR.op rfl rfl (ld3 rfl f3 rfl) rfl ?_
                    refine GoR.op rfl rfl (fa25_1 rfl) rfl ?_
                    refine GoR.op rfl rfl (ld3 rfl f1 rfl) rfl ?_
                    refine GoR.op rfl rfl (aOp_sub rfl rfl hnb1 rfl) rfl ?_
                    refine GoR.call rfl rfl (aOp_callFunc aFunc54 rfl) (in_ok l.o 0 (nb - 1) d1 _) ?_ (by rintro _ _ ⟨q, _⟩; cases q)
                    rintro _ k19 ⟨q, y19⟩
                    cases q
                    refine ⟨_, rfl, ?_⟩
                    replace f1 := f1.ext y19
                    replace f3 := f3.ext y19
                    refine GoR.op rfl rfl rfl rfl ?_
                    refine GoR.op rfl rfl rfl rfl ?_
                    refine GoR.op rfl rfl (fa57_1 rfl) rfl ?_
                    refine GoR.op rfl rfl (ld40 rfl f3 rfl) rfl ?_
                    refine GoR.op rfl rfl (fa25_0 rfl) rfl ?_
                    refine GoR.op rfl rfl (ld3 rfl f1 rfl) rfl ?_
                    refine GoR.op rfl rfl (aOp_sub rfl rfl hnp1 rfl) rfl ?_
                    refine GoR.call rfl rfl (aOp_callFunc aFunc55 rfl) (span_ok l.fl l.fh 0 (np - 1) (by intro _ _ _; constructor <;> omega) d2 _) ?_ (by rintro _ _ ⟨q, _⟩; cases q)
                    rintro _ k20 ⟨q, y20⟩
                    cases q
                    refine ⟨_, rfl, ?_⟩
                    replace f1 := f1.ext y20
                    replace f3 := f3.ext y20
                    refine GoR.op rfl rfl rfl rfl ?_
                    refine GoR.op rfl rfl rfl rfl ?_
                    refine GoR.op rfl rfl rfl rfl ?_
                    refine GoR.op rfl rfl (fa57_2 rfl) rfl ?_
                    refine GoR.op rfl rfl (ld40 rfl f3 rfl) rfl ?_
                    refine GoR.op rfl rfl (fa25_0 rfl) rfl ?_
                    refine GoR.op rfl rfl (ld3 rfl f1 rfl) rfl ?_
                    refine GoR.call rfl rfl (aOp_callFunc aFunc55 rfl) (span_ok l.tl l.th 1 np (by intro _ _ _; constructor <;> omega) d3 _) ?_ (by rintro _ _ ⟨q, _⟩; cases q)
                    rintro _ k21 ⟨q, y21⟩
                    cases q
                    refine ⟨_, rfl, ?_⟩
                    replace f1 := f1.ext y21
                    replace f3 := f3.ext y21
                    refine GoR.op rfl rfl rfl rfl ?_
                    refine GoR.op rfl rfl rfl rfl ?_
                    refine GoR.op rfl rfl rfl rfl ?_
                    refine GoR.op rfl rfl (fa57_1 rfl) rfl ?_
                    refine GoR.op rfl rfl (fa40_0 rfl) rfl ?_
                    refine GoR.op rfl rfl (ld3 rfl f3 rfl) rfl ?_
                    refine GoR.op rfl rfl (fa57_2 rfl) rfl ?_
                    refine GoR.op rfl rfl (fa40_1 rfl) rfl ?_
                    refine GoR.op rfl rfl (ld3 rfl f3 rfl) rfl ?_
                    refine GoR.op rfl rfl (aOp_geq rfl rfl d4) rfl ?_
                    refine GoR.op rfl rfl rfl rfl ?_
                    refine GoR.end (Go.cond noJ_ok (b := false) rfl (Go.code noJ_ok (Go.inBlock noJ_ok (Go.region noJ_ok rfl ?_))))
                    have hi64 : inI64 (Int.ofNat i + 1) := by constructor <;> simp <;> omega
                    refine GoR.op rfl rfl rfl rfl ?_
                    refine GoR.op rfl rfl (aOp_add rfl rfl hi64 rfl) rfl ?_
                    refine GoR.op rfl rfl rfl rfl ?_
                    refine GoR.end ?_
                    refine Go.keep [(1, .ptr h.next 0), (3, .int .i64 (Int.ofNat i + 1))] ⟨rfl, rfl, trivial⟩ ?_
                    refine again (n - 1) _ _ (by omega) ⟨i + 1, by omega, rfl, z2.trans ((((x24).trans y19).trans y20).trans y21), fun j l' hj hl' => ?_⟩
                    by_cases hji : j = i
                    · subst hji
                      rw [hl] at hl'
                      cases hl'
                      simp only [decide_eq_true_eq, decide_eq_false_iff_not] at d1 d2 d3 d4
                      unfold LeaseV.cells fitsF
                      simp only [decide_eq_true_eq]
                      omega
                    · exact hfit j l' (by omega) hl'
          · refine GoR.op rfl rfl (aOp_lss rfl rfl (r := false) (by simp; omega)) rfl ?_
            refine GoR.end (Go.cond noJ_ok (b := false) rfl (Go.code noJ_ok ?_))
            have hfits : ∀ (j : Nat) l, Ls[j]? = some l → fitsF np nb l.cells = true := fun j l hl => hfit j l (by have := (List.getElem?_eq_some_iff.1 hl).1; omega) hl
            clear again hfit
            have z3 := x2.trans z2
            refine Go.seq noJ_ok (Go.seq noJ_ok (Go.region noJ_ok rfl ?_))
            refine GoR.op rfl rfl rfl rfl ?_
            refine GoR.end (Go.block noJ_ok ?_)
            refine Go.keep [(1, .ptr h.next 0), (5, .int .i64 0)] ⟨rfl, rfl, trivial⟩ ?_
            refine Go.loopInv (fun n t h' => ∃ i, n + i = Ms.length ∧ t = keepT [(1, .ptr h.next 0), (5, .int .i64 (Int.ofNat i))] ∧ Ext h2 h' ∧ ∀ (j : Nat) l, j < i → Ms[j]? = some l → markF np nb l.cells = true) (n := Ms.length) ⟨0, rfl, rfl, Ext.refl _, fun j l hj => absurd hj (Nat.not_lt_zero _)⟩ ?_
            rintro n' t h3 ⟨i', hn', rfl, z4, hfit⟩ again
            replace f1 := f1.ext z4
            have hm3 := B.hm.ext (z3.trans z4)
            refine Go.seq noJ_ok (Go.seq noJ_ok (Go.region noJ_ok rfl ?_))
            refine GoR.op rfl rfl rfl rfl ?_
            refine GoR.op rfl rfl (fa25_3 rfl) rfl ?_
            refine GoR.op rfl rfl (ld23 rfl f1 rfl) rfl ?_
            refine GoR.op rfl rfl (aOp_lenSlice Try.underlying23 rfl hm3.len) rfl ?_
            rw [List.length_map]
            by_cases hi' : i' < Ms.length
            · refine GoR.op rfl rfl (aOp_lss rfl rfl (r := true) (by simp; omega)) rfl ?_
              refine GoR.end (Go.cond noJ_ok (b := true) rfl (Go.code noJ_ok (Go.seq noJ_ok (Go.block noJ_ok (Go.seq noJ_ok (Go.drawn plan13 ?_))))))
              obtain ⟨l, hl⟩ : ∃ l, Ms[i']? = some l := ⟨Ms[i'], by simp [hi']⟩
              have hl2 : (Ms.map MarkV.cells)[i']? = some l.cells := by rw [List.getElem?_map, hl]; rfl
              obtain ⟨b, off, q1, q2⟩ := hm3.at hl2
              rw [List.length_map] at q1
              refine GoD.quiet rfl rfl (fun h' x => ld25 rfl (f1.ext x) rfl) (bankSame _ _ B.hss B.hsm) rfl ?_
              refine GoD.quiet rfl rfl (fun h' x => fa25_3 rfl) (sameA_ptr _ _) rfl ?_
              refine GoD.quiet rfl rfl (fun h' x => ld23 rfl (f1.ext x) rfl) B.hsm rfl ?_
              refine GoD.quiet rfl rfl (fun h' x => rfl) (sameA_int _ _) rfl ?_
              refine GoD.quiet rfl rfl (fun h' x => aOp_indexAddr Try.underlying23 sz52 rfl q1 rfl (Nat.ble_eq_true_of_le hi')) (sameA_ptr _ _) rfl ?_
              refine GoD.quiet rfl rfl (fun h' x => fa52_0 rfl) (sameA_ptr _ _) rfl ?_
              refine GoD.quiet rfl rfl (fun h' x => aOp_loadE1 (k := 0) ag3 rfl (q2.ext x) rfl) (sameA_int _ _) rfl ?_
              have hret : ∀ {h5 : AH}, Ext h3 h5 → markF np nb l.cells = false → bankValid np nb Ls Ms = false ∧ Ext h h5 := fun x e => ⟨valid_no_mark hl e, (z3.trans z4).trans x⟩
              cases d1 : decide (0 ≤ l.p ∧ l.p ≤ np - 1) with
              | false =>
                refine GoD.call rfl rfl (aOp_callFunc aFunc56 rfl) (Perch_ok _ s m l.p rfl hnp1 d1 _) ?_ (by rintro _ _ ⟨q, _⟩; cases q)
                rintro _ h4 ⟨q, z5⟩
                cases q
                refine ⟨z5, _, rfl, ?_⟩
                refine GoD.quiet rfl rfl (fun h' x => rfl) rfl rfl ?_
                refine GoD.quiet rfl rfl (fun h' x => rfl) rfl rfl ?_
                refine GoD.skip rfl rfl rfl ?_
                refine GoD.skip rfl rfl rfl ?_
                refine GoD.skip rfl rfl rfl ?_
                refine GoD.skip rfl rfl rfl ?_
                refine GoD.skip rfl rfl rfl ?_
                refine GoD.skip rfl rfl rfl ?_
                refine GoD.skip rfl rfl rfl ?_
                refine GoD.skip rfl rfl rfl ?_
                refine GoD.skip rfl rfl rfl ?_
                refine GoD.quiet rfl rfl (fun h' x => rfl) rfl rfl ?_
                refine GoD.end rfl (Go.cond noJ_ok (b := true) rfl (Go.seq noJ_ok (Go.region noJ_ok rfl ?_)))
                refine GoR.op rfl rfl rfl rfl ?_
                simp only [decide_eq_false_iff_not] at d1
                obtain ⟨v1, v2⟩ := hret z5 (by unfold MarkV.cells markF; simp only [decide_eq_false_iff_not]; omega)
                refine GoR.end (Go.ret noJ_ok (ret_end (aResult_of Try.func13 rfl rfl) ⟨by rw [v1]; rfl, v2⟩))
              | true =>
                refine GoD.call rfl rfl (aOp_callFunc aFunc56 rfl) (Perch_ok _ s m l.p rfl hnp1 d1 _) ?_ (by rintro _ _ ⟨q, _⟩; cases q)
                rintro _ h4 ⟨q, z5⟩
                cases q
                refine ⟨z5, _, rfl, ?_⟩
                have g1 := f1.ext z5
                have q2' := q2.ext z5
                refine GoD.quiet rfl rfl (fun h' x => rfl) rfl rfl ?_
                refine GoD.quiet rfl rfl (fun h' x => rfl) rfl rfl ?_
                refine GoD.quiet rfl rfl (fun h' x => ld25 rfl (g1.ext x) rfl) (bankSame _ _ B.hss B.hsm) rfl ?_
                refine GoD.quiet rfl rfl (fun h' x => fa25_3 rfl) (sameA_ptr _ _) rfl ?_
                refine GoD.quiet rfl rfl (fun h' x => ld23 rfl (g1.ext x) rfl) B.hsm rfl ?_
                refine GoD.quiet rfl rfl (fun h' x => rfl) (sameA_int _ _) rfl ?_
                refine GoD.quiet rfl rfl (fun h' x => aOp_indexAddr Try.underlying23 sz52 rfl q1 rfl (Nat.ble_eq_true_of_le hi')) (sameA_ptr _ _) rfl ?_
                refine GoD.quiet rfl rfl (fun h' x => fa52_1 rfl) (sameA_ptr _ _) rfl ?_
                refine GoD.quiet rfl rfl (fun h' x => aOp_loadE1 (k := 1) ag3 rfl (q2'.ext x) rfl) (sameA_int _ _) rfl ?_
                cases d2 : decide (0 ≤ l.h ∧ l.h ≤ nb) with
                | false =>
                  refine GoD.call rfl rfl (aOp_callFunc aFunc57 rfl) (Holder_ok _ s m l.h rfl d2 _) ?_ (by rintro _ _ ⟨q, _⟩; cases q)
                  rintro _ h5 ⟨q, z6⟩
                  cases q
                  refine ⟨z6, _, rfl, ?_⟩
                  refine GoD.quiet rfl rfl (fun h' x => rfl) rfl rfl ?_
                  refine GoD.quiet rfl rfl (fun h' x => rfl) rfl rfl ?_
                  refine GoD.end rfl (Go.cond noJ_ok (b := true) rfl (Go.seq noJ_ok (Go.region noJ_ok rfl ?_)))
                  refine GoR.op rfl rfl rfl rfl ?_
                  simp only [decide_eq_false_iff_not] at d2
                  obtain ⟨v1, v2⟩ := hret (z5.trans z6) (by unfold MarkV.cells markF; simp only [decide_eq_false_iff_not]; omega)
                  refine GoR.end (Go.ret noJ_ok (ret_end (aResult_of Try.func13 rfl rfl) ⟨by rw [v1]; rfl, v2⟩))
                | true =>
                  refine GoD.call rfl rfl (aOp_callFunc aFunc57 rfl) (Holder_ok _ s m l.h rfl d2 _) ?_ (by rintro _ _ ⟨q, _⟩; cases q)
                  rintro _ h5 ⟨q, z6⟩
                  cases q
                  refine ⟨z6, _, rfl, ?_⟩
                  refine GoD.quiet rfl rfl (fun h' x => rfl) rfl rfl ?_
                  refine GoD.quiet rfl rfl (fun h' x => rfl) rfl rfl ?_
                  refine GoD.end rfl (Go.cond noJ_ok (b := false) rfl (Go.code noJ_ok (Go.inBlock noJ_ok (Go.region noJ_ok rfl ?_))))
                  have hi64 : inI64 (Int.ofNat i' + 1) := by constructor <;> simp <;> omega
                  refine GoR.op rfl rfl rfl rfl ?_
                  refine GoR.op rfl rfl (aOp_add rfl rfl hi64 rfl) rfl ?_
                  refine GoR.op rfl rfl rfl rfl ?_
                  refine GoR.end ?_
                  refine Go.keep [(1, .ptr h.next 0), (5, .int .i64 (Int.ofNat i' + 1))] ⟨rfl, rfl, trivial⟩ ?_
                  refine again (n' - 1) _ _ (by omega) ⟨i' + 1, by omega, rfl, (z4.trans z5).trans z6, fun j l' hj hl' => ?_⟩
                  by_cases hji : j = i'
                  · subst hji
                    rw [hl] at hl'
                    cases hl'
                    simp only [decide_eq_true_eq] at d1 d2
                    unfold MarkV.cells markF
                    simp only [decide_eq_true_eq]
                    omega
                  · exact hfit j l' (by omega) hl'
            · refine GoR.op rfl rfl (aOp_lss rfl rfl (r := false) (by simp; omega)) rfl ?_
              refine GoR.end (Go.cond noJ_ok (b := false) rfl (Go.code noJ_ok ?_))
              refine Go.seq noJ_ok (Go.region noJ_ok rfl ?_)
              refine GoR.op rfl rfl rfl rfl ?_
              refine GoR.end (Go.ret noJ_ok (ret_end (aResult_of Try.func13 rfl rfl) ⟨?_, z3.trans z4⟩))
              rw [valid_yes e1 e2 (by omega) (by omega) hfits fun j l hl => hfit j l (by have := (List.getElem?_eq_some_iff.1 hl).1; omega) hl]
              rfl
end Go.Proofs.Ytidfcmjlfadieaa

namespace Go.Proofs.Ytidfcmjlfadieaa
open Go Go.AbsE
set_option maxRecDepth 100000
set_option linter.unusedVariables false
variable {np nb : Int} {Ls : List LeaseV} {Ms : List MarkV} {s m : AVal} {h h' : AH}

theorem zt25 : zeroT Try.prog 25 = some (.agg [.int .i64 0, .int .i64 0, .nilslice, .nilslice]) := by kernel_rfl
theorem by52 : bytesT Try.prog 52 = some 16 := by kernel_rfl
noncomputable def ops32 : Array Oper := ((drawnOps Try.f32)[0]?).getD #[]
theorem plan32 : plan ops32 = some (mkPlan ops32.toList [(0, 0, true, true), (1, 0, true, false), (2, 2, true, false), (4, 0, true, false), (5, 16, true, true),
        (3, 7, false, false), (6, 63, false, false), (7, 127, true, false), (8, 255, false, false)]) := by kernel_rfl
theorem two_len {Ms : List MarkV} : ∀ l, l ∈ Ms.map MarkV.cells → l.length = 2 := fun l hl => (mark_len l hl).1

/-- with: a mark more. -/
theorem with_ok (B : BankIn h np nb s m Ls Ms) (hM : Ms.length ≤ 1000) (p o : Int) : Runs Try.prog 32 [.agg [.int .i64 np, .int .i64 nb, s, m], .agg [.int .i64 p, .int .i64 o]] h
    (fun en h' => ∃ m', en = .ret (.agg [.int .i64 np, .int .i64 nb, s, m']) ∧ Ext h h' ∧ BankIn h' np nb s m' Ls (Ms ++ [⟨p, o⟩])) := by
  obtain ⟨ss1, ss2⟩ := B.hs.scal
  refine Runs.intro aFunc32 rfl rfl rfl rfl fun rest => ?_
  refine Go.seq noJ_ok (Go.region noJ_ok rfl ?_)
  refine GoR.box rfl rfl rfl rfl rfl rfl fun h1 x1 f1 => ?_
  refine GoR.box rfl rfl rfl rfl rfl rfl fun h2 x2 f2 => ?_
  refine GoR.alloc rfl rfl rfl zt25 rfl rfl fun h3 x3 f3 => ?_
  have a1 := x1.1
  have a2 := x2.1
  have a3 := x3.1
  have l1 := f1.1
  have l2 := f2.1
  have l3 := f3.1
  replace f1 := (f1.ext x2).ext x3
  replace f2 := f2.ext x3
  have x03 := (x1.trans x2).trans x3
  refine GoR.end (Go.seq noJ_ok (Go.drawnE plan32 ?_))
  refine GoE.quietX rfl rfl (aOpX_lit (ps := []) Try.underlying23 rfl sz52 zt52 rfl rfl rfl) rfl ?_
  refine GoE.quiet rfl rfl (fa25_3 rfl) rfl ?_
  refine GoE.quiet rfl rfl (ld23 rfl f1 rfl) rfl ?_
  refine GoE.quiet rfl rfl (ld52 rfl f2 rfl) rfl ?_
  refine GoE.quietX rfl rfl (aOpX_lit (ps := [(0, .agg [.int .i64 p, .int .i64 o])]) (cs := [.int .i64 p, .int .i64 o]) Try.underlying23 rfl sz52 zt52 rfl rfl rfl) rfl ?_
  have hm3 := B.hm.ext x03
  refine GoE.copy (L := Ms.map MarkV.cells) rfl rfl Try.underlying23 Try.underlying23 sz52 by52 zt52 rfl rfl rfl rfl hm3 two_len (by rw [List.length_map]; omega)
    (dropF_keep (show bit? 7 5 = false from rfl) (dropF_keep (show bit? 7 4 = false from rfl) (dropF_drop (show bit? 7 2 = true from rfl) (dropF_drop (show bit? 7 1 = true from rfl) (dropF_drop (show bit? 7 0 = true from rfl) rfl))))) rfl rfl fun v4 h4 x4 c4 => ?_
  have f24 := f2.ext x4
  refine ⟨recheck_consX (h2 := h4) rfl (aOpX_lit (ps := [(0, .agg [.int .i64 p, .int .i64 o])]) (cs := [.int .i64 p, .int .i64 o]) Try.underlying23 rfl sz52 zt52 rfl rfl rfl) (by simp [sameA, sameAs, eqI_eq]) (recheck_cons (h2 := h4) rfl (ld52 rfl f24 rfl) (show sameA (.agg [AVal.int .i64 p, .int .i64 o]) (.agg [.int .i64 p, .int .i64 o]) = true by simp [sameA, sameAs, eqI_eq]) recheck_nil), ?_⟩
  refine GoE.copy1 (L := Ms.map MarkV.cells) rfl rfl Try.underlying23 Try.underlying23 sz52 by52 zt52 rfl rfl rfl rfl c4 two_len rfl rfl (by rw [List.length_map]; omega) x4.1 (dropF_drop (show bit? 63 5 = true from rfl) (dropF_drop (show bit? 63 4 = true from rfl) rfl)) rfl rfl fun b5 h5 n5 m5 o5 g5 => ?_
  refine ⟨recheck_nil, ?_⟩
  have a4 := x4.1
  have low : ∀ b, b < h3.next → h5.get b = h3.get b := fun b hb => by rw [o5 b hb, x4.2 b hb]
  have keep : ∀ {b o}, Has h3 b o → Has h5 b o := fun k => ⟨by have := k.1; omega, by rw [low _ k.1]; exact k.2⟩
  refine GoE.quiet rfl rfl (fa25_3 rfl) rfl ?_
  refine GoE.store rfl rfl rfl rfl (dropF_drop (show bit? 255 7 = true from rfl) rfl) rfl rfl (keep f1) rfl sz23 rfl rfl rfl fun h6 u6 => ?_
  refine ⟨recheck_nil, ?_⟩
  have n6 : h6.next = h5.next := u6.1
  refine GoE.end rfl (Go.seq noJ_ok (Go.region noJ_ok rfl ?_))
  refine GoR.op rfl rfl (ld25 rfl (u6.has (keep f1)) rfl) rfl ?_
  refine GoR.store rfl rfl rfl rfl rfl rfl ((keep f3).upd u6 (by omega)) rfl sz25 rfl (scal4 ss1 rfl) rfl fun h7 u7 => ?_
  have n7 : h7.next = h6.next := u7.1
  refine GoR.end (Go.ret noJ_ok (ret_end (aResult_of Try.func32 rfl (aResults_cell rfl (u7.has ((keep f3).upd u6 (by omega))) (inCells_agg ag25 sz25 rfl))) ?_))
  have x07 : Ext h h7 := ⟨by have := x03.1; omega, fun b hb => by rw [u7.2.2 b (by omega), u6.2.2 b (by omega), low b (by omega), x03.2 b hb]⟩
  refine ⟨.gsl b5 0 0 ((Ms.map MarkV.cells).length + 1), rfl, x07, B.hp, B.hh, B.hs.ext x07, ?_, B.hss, by simp [sameA], rfl, rfl⟩
  have g7 := (g5.upd u6 (by have := f1.1; omega)).upd u7 (by omega)
  have hll : ∀ l, l ∈ Ms.map MarkV.cells ++ [[AVal.int .i64 p, .int .i64 o]] → l.length = 2 := fun l hl => by
    rw [List.mem_append] at hl
    rcases hl with hl | hl
    · exact two_len l hl
    · simp at hl; subst hl; rfl
  refine SliceOf.mk' rfl rfl g7 (by simp) fun i l hl => ?_
  rw [List.map_append] at hl
  rw [Nat.zero_add]
  exact slice_flatten hll i l hl
end Go.Proofs.Ytidfcmjlfadieaa

namespace Go.Proofs.Ytidfcmjlfadieaa
open Go Go.AbsE
set_option maxRecDepth 100000
set_option linter.unusedVariables false
variable {np nb : Int} {Ls : List LeaseV} {Ms : List MarkV} {s m : AVal} {h h' : AH}
section
variable {P : Program} {t : Tr AVal} {dst : Option Tmp} {ty tt ty2 : TypeId} {pos : String} {after : Array Edge} {guard : Option (Nat × Bool)} {x y : Operand} {a b : Int}
theorem aOp_rem {r : Int} (hx : ev t x = some (.int .i64 a)) (hy : ev t y = some (.int .i64 b)) (hb : b ≠ 0) (hr : a.tmod b = r) : aOp P t h ⟨dst, .binOp .rem ty x y ty2, tt, pos, after, guard⟩ = some (.val (.int .i64 r) h) := by
  refine aOp_bin hx hy ?_
  have : pureRun P (binOp .rem ty (.int .i64 a) (.int .i64 b)) = some (.int .i64 (a.tmod b)) := by
    show pureRun P (if IntKind.i64 ≠ IntKind.i64 then stuck "BinOp: operands of different kinds" else Op.intDiv .rem .i64 a b) = _
    rw [if_neg (fun h => h rfl)]
    unfold Op.intDiv
    rw [if_neg hb]
    rfl
  show (match pureRun P (binOp .rem ty (.int .i64 a) (.int .i64 b)) with | some v => absV v | none => none) = _
  rw [this, ← hr]
  rfl
theorem aOp_convU8 {src dt : TypeId} {sd : TypeDesc} {w : Int} (hx : ev t x = some (.int .u8 w)) (hs : P.underlying src = some sd) (hu : P.underlying dt = some (.int .i64)) (hw : 0 ≤ w ∧ w < 256) : aOp P t h ⟨dst, .convert src dt x, tt, pos, after, guard⟩ = some (.val (.int .i64 w) h) := by
  show opConvert P t h src dt x = _
  unfold opConvert
  rw [hx]
  have : pureRun P (convert src dt (.int .u8 w)) = some (.int .i64 w) := by
    unfold convert
    rw [pureRun_bind, pr_underlying hs]
    simp only [Option.bind_some, pureRun_bind, pr_underlying hu]
    have : IntKind.i64.wrap w = w := by
      rw [← wrap64_eq]
      exact wrap64_in (by constructor <;> omega)
    cases sd <;> (show pureRun P (Conv.intToInt .i64 w) = _; unfold Conv.intToInt; rw [this]; rfl)
  simp only [this]
  rfl
end

theorem flds52 : ∃ fs, Try.prog.underlying 52 = some (.struct fs) ∧ placesT Try.prog fs.toList = some [(0, 1), (1, 1)] := ⟨_, Try.underlying52, by kernel_rfl⟩
theorem deny_more (p o : Int) : markA (Ms ++ [⟨p, o⟩]) = claimA Ms p p o := by
  funext p' hd
  unfold markA claimA denyV claimV
  rw [List.any_append]
  simp only [List.any_cons, List.any_nil, Bool.or_false, Bool.not_or]
  congr 1
  by_cases h1 : p = p'
  · subst h1
    by_cases h2 : o = hd
    · subst h2; simp
    · have : hd ≠ o := fun e => h2 e.symm
      simp [h2, this]
  · have : ¬ (p ≤ p' ∧ p' ≤ p) := by omega
    simp [h1, this]
theorem tru_more (p o : Int) : truV np nb Ls (Ms ++ [⟨p, o⟩]) = cntV np nb Ls (claimA Ms p p o) := by
  unfold truV
  rw [deny_more]
theorem valid_more (hv : bankValid np nb Ls Ms = true) {p o : Int} (hM : Ms.length ≤ 5) (hp : 0 ≤ p ∧ p ≤ np - 1) (ho : 0 ≤ o ∧ o ≤ nb) : bankValid np nb Ls (Ms ++ [⟨p, o⟩]) = true := by
  unfold bankValid at hv ⊢
  simp only [Bool.and_eq_true, decide_eq_true_eq] at hv ⊢
  obtain ⟨⟨⟨⟨⟨h1, h2⟩, h3⟩, h4⟩, h5⟩, h6⟩ := hv
  refine ⟨⟨⟨⟨⟨h1, h2⟩, h3⟩, h4⟩, by simp; omega⟩, ?_⟩
  rw [List.map_append, List.all_append, h6]
  simp only [List.map_cons, List.map_nil, List.all_cons, List.all_nil, Bool.and_true, Bool.true_and, MarkV.cells, markF, decide_eq_true_eq]
  omega

theorem Count_more (B : BankIn h np nb s m Ls Ms) (hv : bankValid np nb Ls Ms = true) {p o : Int} (hM : Ms.length ≤ 5) (hp : 0 ≤ p ∧ p ≤ np - 1) (ho : 0 ≤ o ∧ o ≤ nb) {m' : AVal} (B' : BankIn h' np nb s m' Ls (Ms ++ [⟨p, o⟩])) :
    Runs Try.prog 27 [.agg [.int .i64 np, .int .i64 nb, s, m']] h' (fun en h'' => en = .ret (.tuple [.int .i64 (cntV np nb Ls (claimA Ms p p o)), .int .i64 0]) ∧ Ext h' h'') := by
  have := Count_ok B'
  rw [valid_more hv hM hp ho, if_pos rfl, if_pos rfl, tru_more] at this
  exact this

/-- most, of the law BankAsk. -/
theorem most_ok {bb : Nat} (B : BankIn h np nb s m Ls Ms) (hv : bankValid np nb Ls Ms = true) (hM : Ms.length ≤ 5) (fb : Has h bb (.cells .plain [.int .i64 np, .int .i64 nb, s, m] 25)) {p : Nat} (hp : (p : Int) < np) :
    Runs Try.prog 35 [.int .i64 (Int.ofNat p), .ptr bb 0] h (fun en h' => en = .ret (.int .i64 (mostV np nb Ls Ms p)) ∧ Ext h h') := by
  obtain ⟨v1, v2, v3, v4, v5, v6, v7⟩ := valid_gnd B hv
  obtain ⟨fs52, hu52, pl52⟩ := flds52
  refine Runs.intro aFunc35 rfl rfl rfl rfl fun rest => ?_
  refine Go.seq noJ_ok (Go.region noJ_ok rfl ?_)
  refine GoR.op rfl rfl rfl rfl ?_
  refine GoR.end (Go.seq noJ_ok (Go.seq noJ_ok (Go.region noJ_ok rfl ?_)))
  refine GoR.op rfl rfl (fa25_1 rfl) rfl ?_
  refine GoR.op rfl rfl (ld3 rfl fb rfl) rfl ?_
  have hn64 : inI64 (nb + 1) := by constructor <;> omega
  have hnn : nb + 1 = ((nb.toNat + 1 : Nat) : Int) := by omega
  refine GoR.op rfl rfl (aOp_add rfl rfl hn64 hnn) rfl ?_
  refine GoR.op rfl rfl rfl rfl ?_
  refine GoR.end (Go.block noJ_ok ?_)
  let L := claimsL np nb Ls Ms (Int.ofNat p) (Int.ofNat p)
  have hL : L.length = nb.toNat + 1 := claimsL_len
  refine Go.keep [(0, .int .i64 (Int.ofNat p)), (1, .ptr bb 0), (3, .int .i64 0), (9, .int .i64 ((nb.toNat + 1 : Nat) : Int)), (10, .int .i64 0)] ⟨rfl, rfl, rfl, rfl, rfl, trivial⟩ ?_
  refine Go.loopInv (fun n t h' => ∃ i, n + i = nb.toNat + 1 ∧ t = keepT [(0, .int .i64 (Int.ofNat p)), (1, .ptr bb 0), (3, .int .i64 (mostL (L.take i))), (9, .int .i64 ((nb.toNat + 1 : Nat) : Int)), (10, .int .i64 (Int.ofNat i))] ∧ Ext h h') (n := nb.toNat + 1) ⟨0, rfl, rfl, Ext.refl _⟩ ?_
  rintro n t h2 ⟨i, hn, rfl, x2⟩ again
  have g1 := fb.ext x2
  refine Go.seq noJ_ok (Go.region noJ_ok rfl ?_)
  by_cases hi : i < nb.toNat + 1
  · refine GoR.op rfl rfl (aOp_lss rfl rfl (r := true) (by simp; omega)) rfl ?_
    refine GoR.end (Go.seq noJ_ok (Go.cond noJ_ok rfl (Go.code noJ_ok ?_)))
    refine Go.seq noJ_ok (Go.block noJ_ok (Go.seq noJ_ok (Go.region noJ_ok rfl ?_)))
    refine GoR.op rfl rfl rfl rfl ?_
    refine GoR.op rfl rfl rfl rfl ?_
    refine GoR.end (Go.seq noJ_ok (Go.region noJ_ok rfl ?_))
    refine GoR.op rfl rfl (ld25 rfl g1 rfl) rfl ?_
    refine GoR.op rfl rfl rfl rfl ?_
    refine GoR.op rfl rfl rfl rfl ?_
    refine GoR.op rfl rfl (aOp_build (ps := [(0, .int .i64 (Int.ofNat p)), (1, .int .i64 (Int.ofNat i))]) (cs := [.int .i64 (Int.ofNat p), .int .i64 (Int.ofNat i)]) zt52 hu52 pl52 rfl rfl) rfl ?_
    refine GoR.call rfl rfl (aOp_callFunc aFunc32 rfl) (with_ok (B.ext x2) (by omega) (Int.ofNat p) (Int.ofNat i)) ?_ (by rintro _ _ ⟨_, q, _⟩; cases q)
    rintro _ h3 ⟨m', q, x3, B3⟩
    have q := (AEnd.ret.inj q).symm
    subst q
    refine ⟨_, rfl, ?_⟩
    refine GoR.call rfl rfl (aOp_callFunc aFunc27 rfl) (Count_more B hv hM (p := Int.ofNat p) (o := Int.ofNat i) (by simp; omega) (by simp; omega) B3) ?_ (by rintro _ _ ⟨q, _⟩; cases q)
    rintro _ h4 ⟨q, x4⟩
    cases q
    refine ⟨_, rfl, ?_⟩
    refine GoR.op rfl rfl rfl rfl ?_
    refine GoR.op rfl rfl rfl rfl ?_
    refine GoR.op rfl rfl rfl rfl ?_
    refine GoR.op rfl rfl rfl rfl ?_
    refine GoR.op rfl rfl rfl rfl ?_
    refine GoR.end (Go.seq noJ_ok (Go.seq noJ_ok (Go.region noJ_ok rfl ?_)))
    refine GoR.op rfl rfl rfl rfl ?_
    refine GoR.op rfl rfl (aOp_neq rfl rfl (r := false) (by simp)) rfl ?_
    refine GoR.end (Go.cond noJ_ok (b := false) rfl (Go.code noJ_ok (Go.region noJ_ok rfl ?_)))
    refine GoR.op rfl rfl rfl rfl ?_
    refine GoR.op rfl rfl rfl rfl ?_
    refine GoR.op rfl rfl (aOp_max2 rfl rfl rfl) rfl ?_
    refine GoR.op rfl rfl rfl rfl ?_
    refine GoR.end (Go.inBlock noJ_ok (Go.region noJ_ok rfl ?_))
    have hi64 : inI64 (Int.ofNat i + 1) := by constructor <;> simp <;> omega
    refine GoR.op rfl rfl (aOp_add rfl rfl hi64 rfl) rfl ?_
    refine GoR.op rfl rfl rfl rfl ?_
    refine GoR.end ?_
    have hmost : mostL (L.take (i + 1)) = if mostL (L.take i) < cntV np nb Ls (claimA Ms (Int.ofNat p) (Int.ofNat p) (Int.ofNat i)) then cntV np nb Ls (claimA Ms (Int.ofNat p) (Int.ofNat p) (Int.ofNat i)) else mostL (L.take i) := by
      unfold mostL
      rw [foldl_take_succ (claimsL_get hi)]
      rfl
    refine Go.keep [(0, .int .i64 (Int.ofNat p)), (1, .ptr bb 0), (3, .int .i64 (if mostL (L.take i) < cntV np nb Ls (claimA Ms (Int.ofNat p) (Int.ofNat p) (Int.ofNat i)) then cntV np nb Ls (claimA Ms (Int.ofNat p) (Int.ofNat p) (Int.ofNat i)) else mostL (L.take i))), (9, .int .i64 ((nb.toNat + 1 : Nat) : Int)), (10, .int .i64 (Int.ofNat i + 1))] ⟨rfl, rfl, rfl, rfl, rfl, trivial⟩ ?_
    exact again (n - 1) _ _ (by omega) ⟨i + 1, by omega, by rw [hmost]; rfl, (x2.trans x3).trans x4⟩
  · refine GoR.op rfl rfl (aOp_lss rfl rfl (r := false) (by simp; omega)) rfl ?_
    refine GoR.end (Go.seq noJ_ok (Go.cond noJ_ok rfl (Go.code noJ_ok ?_)))
    refine Go.seq noJ_ok (Go.region noJ_ok rfl ?_)
    refine GoR.op rfl rfl rfl rfl ?_
    refine GoR.op rfl rfl rfl rfl ?_
    refine GoR.end (Go.ret noJ_ok (ret_end (aResult_of Try.func35 rfl rfl) ⟨?_, x2⟩))
    have : i = L.length := by omega
    subst this
    rw [List.take_length]
    rfl

/-- What Ask returns is best. -/
theorem askF_best : ∀ (k : Nat), ∃ p : Nat, p < k + 1 ∧ askF np nb Ls Ms (k + 1) = (Int.ofNat p, mostV np nb Ls Ms p) ∧ ∀ j, j < k + 1 → mostV np nb Ls Ms p < mostV np nb Ls Ms j ∨ (mostV np nb Ls Ms j = mostV np nb Ls Ms p ∧ p ≤ j) := by
  intro k
  induction k with
  | zero =>
    refine ⟨0, by omega, by unfold askF; rw [if_pos (.inl rfl)], fun j hj => ?_⟩
    have : j = 0 := by omega
    subst this
    exact .inr ⟨rfl, Nat.le_refl _⟩
  | succ k ih =>
    obtain ⟨p, h1, h2, h3⟩ := ih
    have hs : askF np nb Ls Ms (k + 1 + 1) = if k + 1 = 0 ∨ mostV np nb Ls Ms (k + 1) < (askF np nb Ls Ms (k + 1)).2 then (Int.ofNat (k + 1), mostV np nb Ls Ms (k + 1)) else askF np nb Ls Ms (k + 1) := rfl
    rw [hs, h2]
    by_cases e : mostV np nb Ls Ms (k + 1) < mostV np nb Ls Ms p
    · rw [if_pos (.inr e)]
      refine ⟨k + 1, by omega, rfl, fun j hj => ?_⟩
      by_cases hjk : j = k + 1
      · subst hjk; exact .inr ⟨rfl, Nat.le_refl _⟩
      · rcases h3 j (by omega) with q | q
        · exact .inl (by omega)
        · exact .inl (by omega)
    · rw [if_neg (fun q => q.elim (by omega) e)]
      refine ⟨p, by omega, rfl, fun j hj => ?_⟩
      by_cases hjk : j = k + 1
      · subst hjk
        by_cases e2 : mostV np nb Ls Ms p < mostV np nb Ls Ms (k + 1)
        · exact .inl e2
        · exact .inr ⟨by omega, by omega⟩
      · exact h3 j (by omega)
end Go.Proofs.Ytidfcmjlfadieaa

namespace Go.Proofs.Ytidfcmjlfadieaa
open Go Go.AbsE
set_option maxRecDepth 100000
set_option linter.unusedVariables false

/-! Bits of small numbers. -/
section
variable {P : Program} {t : Tr AVal} {h : AH} {dst : Option Tmp} {ty tt ty2 : TypeId} {pos : String} {after : Array Edge} {guard : Option (Nat × Bool)} {x y : Operand}
theorem wrap_nat {n : Nat} (h : n < 9223372036854775808) : IntKind.i64.wrap (n : Int) = (n : Int) := by
  rw [← wrap64_eq]
  exact wrap64_in (by constructor <;> omega)
theorem aOp_and {a b : Nat} (hx : ev t x = some (.int .i64 (a : Int))) (hy : ev t y = some (.int .i64 (b : Int))) (ha : a < 4611686018427387904) (hb : b < 4611686018427387904) {r : Int} (hr : ((a &&& b : Nat) : Int) = r) : aOp P t h ⟨dst, .binOp .and ty x y ty2, tt, pos, after, guard⟩ = some (.val (.int .i64 r) h) := by
  refine aOp_bin hx hy ?_
  have hle : a &&& b ≤ a := Nat.and_le_left
  have : pureRun P (binOp .and ty (.int .i64 (a : Int)) (.int .i64 (b : Int))) = some (.int .i64 ((a &&& b : Nat) : Int)) := by
    show pureRun P (if IntKind.i64 ≠ IntKind.i64 then stuck "BinOp: operands of different kinds" else Op.intBits .and .i64 a b) = _
    rw [if_neg (fun h => h rfl)]
    show some (Value.int .i64 (IntKind.i64.wrap ((BitVec.ofInt 64 (a : Int) &&& BitVec.ofInt 64 (b : Int)).toNat : Int))) = _
    rw [BitVec.ofInt_natCast, BitVec.ofInt_natCast, BitVec.toNat_and, BitVec.toNat_ofNat, BitVec.toNat_ofNat, Nat.mod_eq_of_lt (by omega), Nat.mod_eq_of_lt (by omega), wrap_nat (by omega)]
  show (match pureRun P (binOp .and ty (.int .i64 (a : Int)) (.int .i64 (b : Int))) with | some v => absV v | none => none) = _
  rw [this, ← hr]
  rfl
theorem aOp_or {a b : Nat} (hx : ev t x = some (.int .i64 (a : Int))) (hy : ev t y = some (.int .i64 (b : Int))) (ha : a < 4611686018427387904) (hb : b < 4611686018427387904) {r : Int} (hr : ((a ||| b : Nat) : Int) = r) : aOp P t h ⟨dst, .binOp .or ty x y ty2, tt, pos, after, guard⟩ = some (.val (.int .i64 r) h) := by
  refine aOp_bin hx hy ?_
  have hle : a ||| b < 2 ^ 62 := Nat.or_lt_two_pow (by omega) (by omega)
  have : pureRun P (binOp .or ty (.int .i64 (a : Int)) (.int .i64 (b : Int))) = some (.int .i64 ((a ||| b : Nat) : Int)) := by
    show pureRun P (if IntKind.i64 ≠ IntKind.i64 then stuck "BinOp: operands of different kinds" else Op.intBits .or .i64 a b) = _
    rw [if_neg (fun h => h rfl)]
    show some (Value.int .i64 (IntKind.i64.wrap ((BitVec.ofInt 64 (a : Int) ||| BitVec.ofInt 64 (b : Int)).toNat : Int))) = _
    rw [BitVec.ofInt_natCast, BitVec.ofInt_natCast, BitVec.toNat_or, BitVec.toNat_ofNat, BitVec.toNat_ofNat, Nat.mod_eq_of_lt (by omega), Nat.mod_eq_of_lt (by omega), wrap_nat (by omega)]
  show (match pureRun P (binOp .or ty (.int .i64 (a : Int)) (.int .i64 (b : Int))) with | some v => absV v | none => none) = _
  rw [this, ← hr]
  rfl
theorem aOp_shl {a k : Nat} (hx : ev t x = some (.int .i64 (a : Int))) (hy : ev t y = some (.int .i64 (k : Int))) (ha : a * 2 ^ k < 4611686018427387904) (hk : k ≤ 60) {r : Int} (hr : ((a * 2 ^ k : Nat) : Int) = r) : aOp P t h ⟨dst, .binOp .shl ty x y ty2, tt, pos, after, guard⟩ = some (.val (.int .i64 r) h) := by
  refine aOp_bin hx hy ?_
  have : pureRun P (binOp .shl ty (.int .i64 (a : Int)) (.int .i64 (k : Int))) = some (.int .i64 ((a * 2 ^ k : Nat) : Int)) := by
    show pureRun P (Op.shift .shl .i64 a .i64 k) = _
    unfold Op.shift
    rw [if_neg (by omega)]
    have e : min (k : Int).toNat IntKind.i64.bits = k := by
      have : IntKind.i64.bits = 64 := rfl
      rw [this]
      simp
      omega
    show some (Value.int .i64 (IntKind.i64.wrap ((a : Int) * 2 ^ (min (k : Int).toNat IntKind.i64.bits)))) = _
    rw [e]
    have : ((a : Int) * 2 ^ k) = ((a * 2 ^ k : Nat) : Int) := by simp
    rw [this, wrap_nat (by omega)]
  show (match pureRun P (binOp .shl ty (.int .i64 (a : Int)) (.int .i64 (k : Int))) with | some v => absV v | none => none) = _
  rw [this, ← hr]
  rfl
theorem aOp_shr {a k : Nat} (hx : ev t x = some (.int .i64 (a : Int))) (hy : ev t y = some (.int .i64 (k : Int))) (hk : k ≤ 60) {r : Int} (hr : ((a / 2 ^ k : Nat) : Int) = r) : aOp P t h ⟨dst, .binOp .shr ty x y ty2, tt, pos, after, guard⟩ = some (.val (.int .i64 r) h) := by
  refine aOp_bin hx hy ?_
  have : pureRun P (binOp .shr ty (.int .i64 (a : Int)) (.int .i64 (k : Int))) = some (.int .i64 ((a / 2 ^ k : Nat) : Int)) := by
    show pureRun P (Op.shift .shr .i64 a .i64 k) = _
    unfold Op.shift
    rw [if_neg (by omega)]
    have e : min (k : Int).toNat IntKind.i64.bits = k := by
      have : IntKind.i64.bits = 64 := rfl
      rw [this]
      simp
      omega
    show some (Value.int .i64 ((a : Int).fdiv (2 ^ (min (k : Int).toNat IntKind.i64.bits)))) = _
    rw [e]
    have e2 : ((2 : Int) ^ k) = ((2 ^ k : Nat) : Int) := by simp
    have : (a : Int).fdiv (2 ^ k) = ((a / 2 ^ k : Nat) : Int) := by
      rw [Int.fdiv_eq_ediv_of_nonneg _ (by rw [e2]; exact Int.natCast_nonneg _), e2]
      rfl
    rw [this]
  show (match pureRun P (binOp .shr ty (.int .i64 (a : Int)) (.int .i64 (k : Int))) with | some v => absV v | none => none) = _
  rw [this, ← hr]
  rfl
end
/-- A set, as a number. -/
def setB (f : Nat → Bool) : Nat → Nat
  | 0 => 0
  | n + 1 => setB f n + if f n then 2 ^ n else 0
theorem setB_lt (f : Nat → Bool) : ∀ n, setB f n < 2 ^ n := by
  intro n
  induction n with
  | zero => simp [setB]
  | succ n ih => unfold setB; rw [Nat.pow_succ]; split <;> omega
theorem setB_or (f : Nat → Bool) (n : Nat) : setB f n ||| 2 ^ n = setB f n + 2 ^ n := by
  have := Nat.two_pow_add_eq_or_of_lt (setB_lt f n) 1
  rw [Nat.mul_one] at this
  rw [Nat.or_comm, ← this, Nat.add_comm]
theorem setB_bit (f : Nat → Bool) : ∀ n i, (setB f n).testBit i = (decide (i < n) && f i) := by
  intro n
  induction n with
  | zero => intro i; simp [setB]
  | succ n ih =>
    intro i
    unfold setB
    cases hf : f n with
    | false =>
      simp only [Bool.false_eq_true, if_false, Nat.add_zero, ih]
      by_cases hi : i = n
      · subst hi; simp [hf]
      · have : (i < n + 1) ↔ (i < n) := by omega
        simp [this]
    | true =>
      simp only [if_true]
      rw [← setB_or, Nat.testBit_or, ih, Nat.testBit_two_pow]
      by_cases hi : i = n
      · subst hi; simp [hf]
      · have h1 : (i < n + 1) ↔ (i < n) := by omega
        have h2 : ¬ n = i := fun e => hi e.symm
        simp [h1, h2]
theorem bit_eq (x i : Nat) : x / 2 ^ i &&& 1 = if x.testBit i then 1 else 0 := by
  rw [Nat.and_one_is_mod, Nat.testBit_eq_decide_div_mod_eq]
  by_cases h : x / 2 ^ i % 2 = 1
  · simp [h]
  · simp [h]; omega

/-! Who has a perch: all of these together are all truths. -/
def Sv.with (S : Sv) (A : Int → Int → Bool) : Sv := ⟨S.np, S.nb, S.hd, S.Ls, A⟩
/-- How many ways. -/
def cntR (np nb : Int) (Ls : List LeaseV) (A : Int → Int → Bool) : Nat → Pr → Int
  | 0, _ => 1
  | r + 1, p => ((passP Ls 0 p.1 p.2).map fun q => if suitsV np nb Ls A q.1 q.2 then cntR np nb Ls A r q else 0).sum
theorem sum_fold {S : Sv} (hS : S.Ok) : ∀ (r : Nat) (p : Pr), S.At p → S.rem p = r → (S.W p).sum = cntR S.np S.nb S.Ls S.A r p := by
  intro r
  induction r with
  | zero =>
    intro p h hr
    rw [S.W_done h ((S.rem_zero h).1 hr)]
    rfl
  | succ r ih =>
    intro p h hr
    have hd : doneV S.np p.1 = false := by
      cases hq : doneV S.np p.1 with
      | false => rfl
      | true => have := (S.rem_zero h).2 hq; omega
    rw [S.W_step h hd]
    have hr10 : r ≤ 10 := by
      have := (S.rem_pos h hd).1
      have := h.ln
      have := hS.np
      omega
    have key : ∀ (l : List Pr) (w : List Int), (∀ q, q ∈ l → q ∈ S.nx p) → Wd w r → Wd (l.foldl (S.stepW S.W) w) r ∧ (l.foldl (S.stepW S.W) w).sum = w.sum + (l.map fun q => if suitsV S.np S.nb S.Ls S.A q.1 q.2 then cntR S.np S.nb S.Ls S.A r q else 0).sum := by
      intro l
      induction l with
      | nil => intro w _ hw; exact ⟨hw, by simp⟩
      | cons q l ihl =>
        intro w hl hw
        obtain ⟨hq1, hq2⟩ := S.rem_nx h hd (hl q (by simp))
        obtain ⟨a1, a2, _⟩ := S.wd hS _ q hq1 rfl
        have a3 := ih q hq1 (by omega)
        rw [List.foldl_cons, List.map_cons, List.sum_cons]
        have one : Wd (S.stepW S.W w q) r ∧ (S.stepW S.W w q).sum = w.sum + if suitsV S.np S.nb S.Ls S.A q.1 q.2 then cntR S.np S.nb S.Ls S.A r q else 0 := by
          unfold Sv.stepW
          cases hs : S.suits q with
          | false =>
            have hs' : suitsV S.np S.nb S.Ls S.A q.1 q.2 = false := hs
            simp only [Bool.false_eq_true, if_false, hs']
            exact ⟨hw, by omega⟩
          | true =>
            have hs' : suitsV S.np S.nb S.Ls S.A q.1 q.2 = true := hs
            simp only [if_true, hs']
            have hown1 := ownN_le S q
            have hown : S.rem q = 0 → S.ownN q = 0 := fun e => by
              unfold Sv.ownN
              rw [(S.rem_zero hq1).1 e]
              rfl
            have hk : r - S.ownN q + S.ownN q = r := by
              by_cases e : r = 0
              · have := hown (by omega); omega
              · omega
            obtain ⟨b1, b2⟩ := plusV_sum (own := S.ownN q) (os := S.W q) (w := w) (k := r - S.ownN q) (by rw [hk]; exact hw) (a1.mono (by omega)) (by omega) 11 (Nat.le_refl _)
            rw [hk] at b1
            rw [List.take_of_length_le (by rw [a1.len]; exact Nat.le_refl _), a3] at b2
            exact ⟨b1, b2⟩
        obtain ⟨i1, i2⟩ := ihl (S.stepW S.W w q) (fun x hx => hl x (by simp [hx])) one.1
        refine ⟨i1, ?_⟩
        rw [i2, one.2]
        omega
    obtain ⟨_, k2⟩ := key (S.nx p) zero11 (fun _ h => h) (wd_zero.mono (by omega))
    have e0 : zero11.sum = 0 := rfl
    rw [k2, e0, Int.zero_add]
    rfl
theorem cntV_R {np nb : Int} {Ls : List LeaseV} {A : Int → Int → Bool} (h1 : 1 ≤ np ∧ np ≤ 10) (hL : Ls.length ≤ 4) : cntV np nb Ls A = cntR np nb Ls A (np + 1).toNat p0 := by
  have hS : (cntS np nb Ls A).Ok := ⟨h1, hL⟩
  have := sum_fold hS _ p0 (Sv.at0 hS) rfl
  have e : (cntS np nb Ls A).rem p0 = (np + 1).toNat := by unfold Sv.rem cntS p0; simp
  rw [e] at this
  exact this

theorem sum_map_add {α : Type} (f g : α → Int) : ∀ l : List α, (l.map fun x => f x + g x).sum = (l.map f).sum + (l.map g).sum := by
  intro l
  induction l with
  | nil => simp
  | cons a l ih => simp only [List.map_cons, List.sum_cons, ih]; omega
theorem sum_swap {α : Type} (f : Nat → α → Int) : ∀ (n : Nat) (l : List α), ((List.range n).map fun o => (l.map fun x => f o x).sum).sum = (l.map fun x => ((List.range n).map fun o => f o x).sum).sum := by
  intro n l
  induction l with
  | nil => simp; induction n with | zero => rfl | succ n ih => rw [List.range_succ, List.map_append, List.sum_append, ih]; simp
  | cons a l ih =>
    simp only [List.map_cons, List.sum_cons]
    rw [sum_map_add (fun o => f o a) (fun o => (l.map fun x => f o x).sum), ih]
theorem sum_one : ∀ (n k : Nat) (c : Int), k < n → ((List.range n).map fun o => if (k = o) then c else 0).sum = c := by
  intro n
  induction n with
  | zero => intro k c h; omega
  | succ n ih =>
    intro k c h
    rw [List.range_succ, List.map_append, List.sum_append]
    by_cases hk : k = n
    · subst hk
      have : ((List.range k).map fun o => if k = o then c else 0) = (List.range k).map fun _ => 0 := List.map_congr_left fun o ho => by
        rw [if_neg (by have := List.mem_range.1 ho; omega)]
      rw [this]
      have h0 : ∀ m, ((List.range m).map fun _ => (0 : Int)).sum = 0 := by
        intro m
        induction m with
        | zero => rfl
        | succ m ih => rw [List.range_succ, List.map_append, List.sum_append, ih]; rfl
      rw [h0]
      simp
    · rw [ih k c (by omega)]
      simp [hk]
theorem owner_in {nb : Int} (hnb : 1 ≤ nb ∧ nb ≤ 4) : ∀ {Ls : List LeaseV} (hh : ∀ l, l ∈ Ls → 0 ≤ l.o ∧ l.o ≤ nb - 1) (st : List Int), ∃ k : Nat, ownerV nb Ls st = (k : Int) ∧ k < nb.toNat + 1 := by
  intro Ls hh st
  unfold ownerV
  have : ∀ (l : List (LeaseV × Int)) (a : Int), (∀ x, x ∈ l → 0 ≤ x.1.o ∧ x.1.o ≤ nb - 1) → (0 ≤ a ∧ a ≤ nb) → 0 ≤ l.foldl (fun acc x => if x.2 = 1 then x.1.o else acc) a ∧ l.foldl (fun acc x => if x.2 = 1 then x.1.o else acc) a ≤ nb := by
    intro l
    induction l with
    | nil => intro a _ ha; exact ha
    | cons x l ih =>
      intro a hl ha
      rw [List.foldl_cons]
      refine ih _ (fun y hy => hl y (by simp [hy])) ?_
      have := hl x (by simp)
      split
      · omega
      · exact ha
  obtain ⟨h1, h2⟩ := this (Ls.zip st) nb (fun x hx => hh x.1 (List.of_mem_zip hx).1) (by omega)
  exact ⟨((Ls.zip st).foldl (fun acc x => if x.2 = 1 then x.1.o else acc) nb).toNat, by omega, by omega⟩
theorem cntR_congr {np nb : Int} {Ls : List LeaseV} {A B : Int → Int → Bool} {p : Int} (h : ∀ p' hd, p < p' → A p' hd = B p' hd) : ∀ (r : Nat) (x : Pr), OkSt x.2 → p < x.1 → cntR np nb Ls A r x = cntR np nb Ls B r x := by
  intro r
  induction r with
  | zero => intro x _ _; rfl
  | succ r ih =>
    intro x hx hp
    unfold cntR
    congr 1
    refine List.map_congr_left fun q hq => ?_
    obtain ⟨q1, q2⟩ := passP_mem hx hq
    have : suitsV np nb Ls A q.1 q.2 = suitsV np nb Ls B q.1 q.2 := by
      unfold suitsV
      rw [h (q.1 - 1) _ (by omega)]
    rw [this, ih q q2 (by omega)]
theorem cntR_sum {np nb : Int} {Ls : List LeaseV} {Ms : List MarkV} (hnb : 1 ≤ nb ∧ nb ≤ 4) (hh : ∀ l, l ∈ Ls → 0 ≤ l.o ∧ l.o ≤ nb - 1) {p : Int} (hp : p ≤ np - 1) : ∀ (r : Nat) (x : Pr), OkSt x.2 → x.1 + r = np + 1 → x.1 ≤ p → 
    ((List.range (nb.toNat + 1)).map fun o => cntR np nb Ls (claimA Ms p p (Int.ofNat o)) r x).sum = cntR np nb Ls (markA Ms) r x := by
  intro r
  induction r with
  | zero => intro x _ h1 h2; omega
  | succ r ih =>
    intro x hx h1 h2
    unfold cntR
    rw [sum_swap]
    congr 1
    refine List.map_congr_left fun q hq => ?_
    obtain ⟨q1, q2⟩ := passP_mem hx hq
    have hnd : doneV np q.1 = false := by unfold doneV; simp; omega
    obtain ⟨k, hk1, hk2⟩ := owner_in hnb hh q.2
    by_cases hlt : q.1 ≤ p
    · -- ahead of the perch
      have hs : ∀ o : Nat, suitsV np nb Ls (claimA Ms p p (Int.ofNat o)) q.1 q.2 = suitsV np nb Ls (markA Ms) q.1 q.2 := fun o => by
        unfold suitsV claimA claimV markA
        have : ¬ (p ≤ q.1 - 1 ∧ q.1 - 1 ≤ p) := by omega
        simp [this]
      simp only [hs]
      cases suitsV np nb Ls (markA Ms) q.1 q.2 with
      | false => simp; exact (by induction (nb.toNat + 1) with | zero => rfl | succ n ih => rw [List.range_succ, List.map_append, List.sum_append, ih]; rfl)
      | true =>
        simp only [if_true]
        exact ih q q2 (by omega) hlt
    · -- at the perch
      have hqp : q.1 - 1 = p := by omega
      have hc : ∀ o : Nat, cntR np nb Ls (claimA Ms p p (Int.ofNat o)) r q = cntR np nb Ls (markA Ms) r q := fun o => cntR_congr (p := p) (fun p' hd hpp => by
        unfold claimA claimV markA
        have : ¬ (p ≤ p' ∧ p' ≤ p) := by omega
        simp [this]) r q q2 (by omega)
      have hs : ∀ o : Nat, suitsV np nb Ls (claimA Ms p p (Int.ofNat o)) q.1 q.2 = (suitsV np nb Ls (markA Ms) q.1 q.2 && decide (k = o)) := fun o => by
        unfold suitsV claimA claimV markA
        rw [hnd, hqp, hk1]
        have e1 : decide (p ≤ p ∧ p ≤ p) = true := by simp
        have e2 : (decide ((k : Int) = Int.ofNat o)) = decide (k = o) := by
          simp
          omega
        rw [e1, e2]
        simp
      simp only [hs, hc]
      cases suitsV np nb Ls (markA Ms) q.1 q.2 with
      | false => simp; exact (by induction (nb.toNat + 1) with | zero => rfl | succ n ih => rw [List.range_succ, List.map_append, List.sum_append, ih]; rfl)
      | true =>
        simp only [Bool.true_and, decide_eq_true_eq, if_true]
        exact sum_one _ k _ hk2
theorem claims_sum {np nb : Int} {Ls : List LeaseV} {Ms : List MarkV} (h1 : 1 ≤ np ∧ np ≤ 10) (hnb : 1 ≤ nb ∧ nb ≤ 4) (hL : Ls.length ≤ 4) (hh : ∀ l, l ∈ Ls → 0 ≤ l.o ∧ l.o ≤ nb - 1) {p : Int} (hp : 0 ≤ p ∧ p ≤ np - 1) : (claimsL np nb Ls Ms p p).sum = truV np nb Ls Ms := by
  unfold claimsL truV
  rw [cntV_R h1 hL]
  have : ((List.range (nb.toNat + 1)).map fun o => cntV np nb Ls (claimA Ms p p (Int.ofNat o))) = (List.range (nb.toNat + 1)).map fun o => cntR np nb Ls (claimA Ms p p (Int.ofNat o)) (np + 1).toNat p0 := List.map_congr_left fun o _ => cntV_R h1 hL
  rw [this]
  exact cntR_sum hnb hh hp.2 _ p0 ⟨rfl, by simp [p0]⟩ (by simp [p0]; omega) (by simp [p0]; omega)
end Go.Proofs.Ytidfcmjlfadieaa

namespace Go.Proofs.Ytidfcmjlfadieaa
open Go Go.AbsE
set_option maxRecDepth 100000
set_option linter.unusedVariables false

/-- Who can have a perch. -/
def whoF (np nb : Int) (Ls : List LeaseV) (Ms : List MarkV) (p : Int) : Nat → Bool := fun o => decide (0 < cntV np nb Ls (claimA Ms p p (Int.ofNat o)))
def whoseV (np nb : Int) (Ls : List LeaseV) (Ms : List MarkV) (p : Int) : Nat := setB (whoF np nb Ls Ms p) (nb.toNat + 1)
theorem pow_small {a b : Nat} (h : a ≤ b) : 2 ^ a ≤ 2 ^ b := Nat.pow_le_pow_right (by omega) h
theorem setB_small (f : Nat → Bool) {n m : Nat} (h : n ≤ m) : setB f n < 2 ^ m := Nat.lt_of_lt_of_le (setB_lt f n) (pow_small h)
theorem whoseV_small {np nb : Int} {Ls : List LeaseV} {Ms : List MarkV} {p : Int} (hnb : 1 ≤ nb ∧ nb ≤ 4) : whoseV np nb Ls Ms p < 32 := setB_small _ (m := 5) (by omega)

theorem setB_step (f : Nat → Bool) (j : Nat) : setB f (j + 1) = if f j then setB f j ||| 2 ^ j else setB f j := by
  rw [setB_or]
  show setB f j + (if f j then 2 ^ j else 0) = _
  split <;> omega

theorem whose_ok {np nb : Int} {Ls : List LeaseV} {Ms : List MarkV} {s m : AVal} {h : AH} (G : Gnd np nb Ls Ms s m h) (p : Int) :
    Runs Try.prog 77 [.agg [.int .i64 np, .int .i64 nb, s, m], .int .i64 p] h (fun en h' => en = .ret (.int .i64 (whoseV np nb Ls Ms p : Nat)) ∧ Ext h h') := by
  refine Runs.intro aFunc77 rfl rfl rfl rfl fun rest => ?_
  refine Go.seq noJ_ok (Go.region noJ_ok rfl ?_)
  refine GoR.box rfl rfl rfl rfl rfl rfl fun h1 x1 f1 => ?_
  refine GoR.op rfl rfl rfl rfl ?_
  refine GoR.end (Go.seq noJ_ok (Go.region noJ_ok rfl ?_))
  refine GoR.op rfl rfl rfl rfl ?_
  refine GoR.end (Go.seq noJ_ok (Go.seq noJ_ok (Go.region noJ_ok rfl ?_)))
  refine GoR.op rfl rfl (ld92 rfl f1 rfl) rfl ?_
  refine GoR.op rfl rfl rfl rfl ?_
  refine GoR.op rfl rfl rfl rfl ?_
  have G1 := G.ext x1
  refine GoR.call rfl rfl (aOp_callFunc aFunc129 rfl) (claims_ok (Ms := Ms) G.np G.nb G.L G.M G.l G.ss G.sm G.mc p p h1 G1.s G1.m) ?_ (by rintro _ _ ⟨_, q, _⟩; cases q)
  rintro _ h3 ⟨v, q, x3, gs⟩
  have q := (AEnd.ret.inj q).symm
  subst q
  refine ⟨_, rfl, ?_⟩
  refine GoR.op rfl rfl (aOp_lenSlice Try.underlying44 rfl gs.len) rfl ?_
  rw [List.length_map]
  refine GoR.op rfl rfl rfl rfl ?_
  refine GoR.end (Go.block noJ_ok ?_)
  let L := claimsL np nb Ls Ms p p
  have hLl : L.length = nb.toNat + 1 := claimsL_len
  have hnb := G.nb
  refine Go.keep [(5, .int .i64 0), (11, v), (12, .int .i64 L.length), (13, .int .i64 0)] ⟨rfl, rfl, rfl, rfl, trivial⟩ ?_
  refine Go.loopInv (fun n2 t h' => ∃ j, n2 + j = L.length ∧ t = keepT [(5, .int .i64 (setB (whoF np nb Ls Ms p) j : Nat)), (11, v), (12, .int .i64 L.length), (13, .int .i64 (Int.ofNat j))] ∧ Ext h3 h') (n := L.length) ⟨0, rfl, rfl, Ext.refl _⟩ ?_
  rintro n2 t h4 ⟨j, hn2, rfl, x4⟩ again2
  refine Go.seq noJ_ok (Go.region noJ_ok rfl ?_)
  by_cases hj : j < L.length
  · refine GoR.op rfl rfl (aOp_lss rfl rfl (r := true) (by simp; omega)) rfl ?_
    refine GoR.end (Go.seq noJ_ok (Go.cond noJ_ok rfl (Go.code noJ_ok ?_)))
    refine Go.seq noJ_ok (Go.block noJ_ok (Go.seq noJ_ok (Go.region noJ_ok rfl ?_)))
    refine GoR.op rfl rfl rfl rfl ?_
    let y := cntV np nb Ls (claimA Ms p p (Int.ofNat j))
    have hy : L[j]? = some y := claimsL_get (by omega)
    have hy1 : (L.map one1)[j]? = some (one1 y) := by rw [List.getElem?_map, hy]; rfl
    obtain ⟨b, off, k1, k2⟩ := (gs.ext x4).at hy1
    rw [List.length_map] at k1
    refine GoR.op rfl rfl (aOp_indexAddr Try.underlying44 sz3 rfl k1 rfl (Nat.ble_eq_true_of_le hj)) rfl ?_
    refine GoR.op rfl rfl (aOp_loadE1 (k := 0) ag3 rfl k2 rfl) rfl ?_
    refine GoR.op rfl rfl rfl rfl ?_
    refine GoR.op rfl rfl rfl rfl ?_
    refine GoR.end (Go.seq noJ_ok (Go.region noJ_ok rfl ?_))
    refine GoR.op rfl rfl rfl rfl ?_
    have hj64 : inI64 (Int.ofNat j + 1) := by constructor <;> simp <;> omega
    have hb1 : setB (whoF np nb Ls Ms p) j < 32 := setB_small _ (m := 5) (by omega)
    have hb2 : 2 ^ j ≤ 32 := pow_small (b := 5) (by omega)
    by_cases e1 : 0 < y
    · refine GoR.op rfl rfl (aOp_gtr rfl rfl (r := true) (by simp [e1])) rfl ?_
      refine GoR.end (Go.cond noJ_ok (b := true) rfl (Go.region noJ_ok rfl ?_))
      refine GoR.op rfl rfl rfl rfl ?_
      refine GoR.op rfl rfl rfl rfl ?_
      refine GoR.op rfl rfl (aOp_shl (a := 1) (k := j) (r := ((2 ^ j : Nat) : Int)) rfl rfl (by omega) (by omega) (by rw [Nat.one_mul])) rfl ?_
      refine GoR.op rfl rfl (aOp_or (a := setB (whoF np nb Ls Ms p) j) (b := 2 ^ j) (r := ((setB (whoF np nb Ls Ms p) (j + 1) : Nat) : Int)) rfl rfl (by omega) (by omega) ?_) rfl ?_
      · rw [setB_step, if_pos (show whoF np nb Ls Ms p j = true from decide_eq_true e1)]
      refine GoR.op rfl rfl rfl rfl ?_
      refine GoR.end (Go.inBlock noJ_ok (Go.region noJ_ok rfl ?_))
      refine GoR.op rfl rfl (aOp_add rfl rfl hj64 rfl) rfl ?_
      refine GoR.op rfl rfl rfl rfl ?_
      refine GoR.end ?_
      refine Go.keep [(5, .int .i64 (setB (whoF np nb Ls Ms p) (j + 1) : Nat)), (11, v), (12, .int .i64 L.length), (13, .int .i64 (Int.ofNat j + 1))] ⟨rfl, rfl, rfl, rfl, trivial⟩ ?_
      exact again2 (n2 - 1) _ _ (by omega) ⟨j + 1, by omega, rfl, x4⟩
    · refine GoR.op rfl rfl (aOp_gtr rfl rfl (r := false) (by simp; omega)) rfl ?_
      refine GoR.end (Go.cond noJ_ok (b := false) rfl (Go.code noJ_ok ?_))
      refine Go.inBlock noJ_ok (Go.region noJ_ok rfl ?_)
      refine GoR.op rfl rfl (aOp_add rfl rfl hj64 rfl) rfl ?_
      refine GoR.op rfl rfl rfl rfl ?_
      refine GoR.end ?_
      have : setB (whoF np nb Ls Ms p) (j + 1) = setB (whoF np nb Ls Ms p) j := by
        rw [setB_step, if_neg (show ¬ whoF np nb Ls Ms p j = true from fun q => e1 (of_decide_eq_true q))]
      refine Go.keep [(5, .int .i64 (setB (whoF np nb Ls Ms p) j : Nat)), (11, v), (12, .int .i64 L.length), (13, .int .i64 (Int.ofNat j + 1))] ⟨rfl, rfl, rfl, rfl, trivial⟩ ?_
      exact again2 (n2 - 1) _ _ (by omega) ⟨j + 1, by omega, by rw [this]; rfl, x4⟩
  · refine GoR.op rfl rfl (aOp_lss rfl rfl (r := false) (by simp; omega)) rfl ?_
    refine GoR.end (Go.seq noJ_ok (Go.cond noJ_ok rfl (Go.code noJ_ok ?_)))
    have hjl : j = nb.toNat + 1 := by omega
    subst hjl
    refine Go.seq noJ_ok (Go.region noJ_ok rfl ?_)
    refine GoR.op rfl rfl rfl rfl ?_
    refine GoR.op rfl rfl rfl rfl ?_
    exact GoR.end (Go.ret noJ_ok (ret_end (aResult_of Try.func77 rfl rfl) ⟨rfl, (x1.trans x3).trans x4⟩))

/-! has -/
def surF (np nb : Int) (Ls : List LeaseV) (Ms : List MarkV) (hd : Nat) : Nat → Bool := fun i => decide (whoseV np nb Ls Ms (Int.ofNat i) = 2 ^ hd)
def perF (np nb : Int) (Ls : List LeaseV) (Ms : List MarkV) (hd : Nat) : Nat → Bool := fun i => (whoseV np nb Ls Ms (Int.ofNat i)).testBit hd
theorem has_ok {np nb : Int} {Ls : List LeaseV} {Ms : List MarkV} {s m : AVal} {h : AH} (G : Gnd np nb Ls Ms s m h) (hd : Nat) (hhd : hd ≤ 4) :
    Runs Try.prog 79 [.agg [.int .i64 np, .int .i64 nb, s, m], .int .i64 (hd : Nat)] h (fun en h' => en = .ret (.tuple [.int .i64 (setB (surF np nb Ls Ms hd) np.toNat : Nat), .int .i64 (setB (perF np nb Ls Ms hd) np.toNat : Nat)]) ∧ Ext h h') := by
  refine Runs.intro aFunc79 rfl rfl rfl rfl fun rest => ?_
  refine Go.seq noJ_ok (Go.region noJ_ok rfl ?_)
  refine GoR.box rfl rfl rfl rfl rfl rfl fun h1' x1 f1 => ?_
  refine GoR.op rfl rfl rfl rfl ?_
  refine GoR.op rfl rfl rfl rfl ?_
  refine GoR.end (Go.seq noJ_ok (Go.seq noJ_ok (Go.region noJ_ok rfl ?_)))
  refine GoR.op rfl rfl (fa92_0 rfl) rfl ?_
  refine GoR.op rfl rfl (ld3 rfl f1 rfl) rfl ?_
  refine GoR.op rfl rfl rfl rfl ?_
  refine GoR.end (Go.block noJ_ok ?_)
  have hnp := G.np
  refine Go.keep [(1, .int .i64 (hd : Nat)), (2, .ptr h.next 0), (4, .int .i64 0), (5, .int .i64 0), (9, .int .i64 np), (10, .int .i64 0)] ⟨rfl, rfl, rfl, rfl, rfl, rfl, trivial⟩ ?_
  refine Go.loopInv (fun n t h' => ∃ i, n + i = np.toNat ∧ t = keepT [(1, .int .i64 (hd : Nat)), (2, .ptr h.next 0), (4, .int .i64 (setB (surF np nb Ls Ms hd) i : Nat)), (5, .int .i64 (setB (perF np nb Ls Ms hd) i : Nat)), (9, .int .i64 np), (10, .int .i64 (Int.ofNat i))] ∧ Ext h1' h') (n := np.toNat) ⟨0, rfl, rfl, Ext.refl _⟩ ?_
  rintro n t h2 ⟨i, hn, rfl, x2⟩ again
  refine Go.seq noJ_ok (Go.region noJ_ok rfl ?_)
  by_cases hi : i < np.toNat
  · refine GoR.op rfl rfl (aOp_lss rfl rfl (r := true) (by simp; omega)) rfl ?_
    refine GoR.end (Go.seq noJ_ok (Go.cond noJ_ok rfl (Go.code noJ_ok ?_)))
    refine Go.seq noJ_ok (Go.block noJ_ok (Go.seq noJ_ok (Go.region noJ_ok rfl ?_)))
    refine GoR.op rfl rfl rfl rfl ?_
    refine GoR.op rfl rfl rfl rfl ?_
    refine GoR.end (Go.seq noJ_ok (Go.region noJ_ok rfl ?_))
    have g1 := f1.ext x2
    refine GoR.op rfl rfl (ld92 rfl g1 rfl) rfl ?_
    refine GoR.op rfl rfl rfl rfl ?_
    refine GoR.call rfl rfl (aOp_callFunc aFunc77 rfl) (whose_ok (G.ext (x1.trans x2)) (Int.ofNat i)) ?_ (by rintro _ _ ⟨q, _⟩; cases q)
    rintro _ h3 ⟨q, x3⟩
    cases q
    refine ⟨_, rfl, ?_⟩
    refine GoR.op rfl rfl rfl rfl ?_
    refine GoR.end (Go.seq noJ_ok (Go.seq noJ_ok (Go.region noJ_ok rfl ?_)))
    refine GoR.op rfl rfl rfl rfl ?_
    refine GoR.op rfl rfl rfl rfl ?_
    have hw := whoseV_small (np := np) (Ls := Ls) (Ms := Ms) (p := Int.ofNat i) G.nb
    have hp4 : 2 ^ hd ≤ 16 := pow_small (b := 4) hhd
    have hpi : 2 ^ i ≤ 1024 := pow_small (b := 10) (by omega)
    have hs1 : setB (surF np nb Ls Ms hd) i < 1024 := setB_small _ (m := 10) (by omega)
    have hs2 : setB (perF np nb Ls Ms hd) i < 1024 := setB_small _ (m := 10) (by omega)
    have hi64 : inI64 (Int.ofNat i + 1) := by constructor <;> simp <;> omega
    refine GoR.op rfl rfl (aOp_shl (a := 1) (k := hd) (r := ((2 ^ hd : Nat) : Int)) rfl rfl (by omega) (by omega) (by rw [Nat.one_mul])) rfl ?_
    have hbit : ∀ x : Nat, x / 2 ^ hd &&& 1 = if x.testBit hd then 1 else 0 := fun x => bit_eq x hd
    by_cases e1 : whoseV np nb Ls Ms (Int.ofNat i) = 2 ^ hd
    · refine GoR.op rfl rfl (aOp_eql rfl rfl (r := true) (by rw [e1]; exact decide_eq_true rfl)) rfl ?_
      have k1 : setB (surF np nb Ls Ms hd) (i + 1) = setB (surF np nb Ls Ms hd) i ||| 2 ^ i := by
        rw [setB_step, if_pos (show surF np nb Ls Ms hd i = true from decide_eq_true e1)]
      have k2 : setB (perF np nb Ls Ms hd) (i + 1) = setB (perF np nb Ls Ms hd) i ||| 2 ^ i := by
        rw [setB_step, if_pos (show perF np nb Ls Ms hd i = true from by unfold perF; rw [e1]; simp)]
      refine GoR.end (Go.cond noJ_ok (b := true) rfl (Go.region noJ_ok rfl ?_))
      refine GoR.op rfl rfl rfl rfl ?_
      refine GoR.op rfl rfl rfl rfl ?_
      refine GoR.op rfl rfl (aOp_shl (a := 1) (k := i) (r := ((2 ^ i : Nat) : Int)) rfl rfl (by omega) (by omega) (by rw [Nat.one_mul])) rfl ?_
      refine GoR.op rfl rfl (aOp_or (a := setB (surF np nb Ls Ms hd) i) (b := 2 ^ i) (r := ((setB (surF np nb Ls Ms hd) (i + 1) : Nat) : Int)) rfl rfl (by omega) (by omega) (by rw [k1])) rfl ?_
      refine GoR.op rfl rfl rfl rfl ?_
      refine GoR.end (Go.seq noJ_ok (Go.region noJ_ok rfl ?_))
      refine GoR.op rfl rfl rfl rfl ?_
      refine GoR.op rfl rfl rfl rfl ?_
      refine GoR.op rfl rfl (aOp_shr (a := whoseV np nb Ls Ms (Int.ofNat i)) (k := hd) rfl rfl (by omega) rfl) rfl ?_
      refine GoR.op rfl rfl (aOp_and (a := whoseV np nb Ls Ms (Int.ofNat i) / 2 ^ hd) (b := 1) (r := 1) rfl rfl (by have := Nat.div_le_self (whoseV np nb Ls Ms (Int.ofNat i)) (2 ^ hd); omega) (by omega) (by rw [hbit, e1]; simp)) rfl ?_
      refine GoR.op rfl rfl (aOp_eql rfl rfl (r := true) rfl) rfl ?_
      refine GoR.end (Go.cond noJ_ok (b := true) rfl (Go.region noJ_ok rfl ?_))
      refine GoR.op rfl rfl rfl rfl ?_
      refine GoR.op rfl rfl rfl rfl ?_
      refine GoR.op rfl rfl (aOp_shl (a := 1) (k := i) (r := ((2 ^ i : Nat) : Int)) rfl rfl (by omega) (by omega) (by rw [Nat.one_mul])) rfl ?_
      refine GoR.op rfl rfl (aOp_or (a := setB (perF np nb Ls Ms hd) i) (b := 2 ^ i) (r := ((setB (perF np nb Ls Ms hd) (i + 1) : Nat) : Int)) rfl rfl (by omega) (by omega) (by rw [k2])) rfl ?_
      refine GoR.op rfl rfl rfl rfl ?_
      refine GoR.end (Go.inBlock noJ_ok (Go.region noJ_ok rfl ?_))
      refine GoR.op rfl rfl (aOp_add rfl rfl hi64 rfl) rfl ?_
      refine GoR.op rfl rfl rfl rfl ?_
      refine GoR.end ?_
      refine Go.keep [(1, .int .i64 (hd : Nat)), (2, .ptr h.next 0), (4, .int .i64 (setB (surF np nb Ls Ms hd) (i + 1) : Nat)), (5, .int .i64 (setB (perF np nb Ls Ms hd) (i + 1) : Nat)), (9, .int .i64 np), (10, .int .i64 (Int.ofNat i + 1))] ⟨rfl, rfl, rfl, rfl, rfl, rfl, trivial⟩ ?_
      exact again (n - 1) _ _ (by omega) ⟨i + 1, by omega, rfl, x2.trans x3⟩
    · refine GoR.op rfl rfl (aOp_eql rfl rfl (r := false) (decide_eq_false fun q => e1 (Int.ofNat.inj q))) rfl ?_
      have k1 : setB (surF np nb Ls Ms hd) (i + 1) = setB (surF np nb Ls Ms hd) i := by
        rw [setB_step, if_neg (show ¬ surF np nb Ls Ms hd i = true from fun q => e1 (of_decide_eq_true q))]
      refine GoR.end (Go.cond noJ_ok (b := false) rfl (Go.code noJ_ok ?_))
      refine Go.seq noJ_ok (Go.region noJ_ok rfl ?_)
      refine GoR.op rfl rfl rfl rfl ?_
      refine GoR.op rfl rfl rfl rfl ?_
      refine GoR.op rfl rfl (aOp_shr (a := whoseV np nb Ls Ms (Int.ofNat i)) (k := hd) rfl rfl (by omega) rfl) rfl ?_
      have hdl := Nat.div_le_self (whoseV np nb Ls Ms (Int.ofNat i)) (2 ^ hd)
      cases e2 : perF np nb Ls Ms hd i with
      | true =>
        have e2' : (whoseV np nb Ls Ms (Int.ofNat i)).testBit hd = true := e2
        have k2 : setB (perF np nb Ls Ms hd) (i + 1) = setB (perF np nb Ls Ms hd) i ||| 2 ^ i := by
          rw [setB_step, if_pos e2]
        refine GoR.op rfl rfl (aOp_and (a := whoseV np nb Ls Ms (Int.ofNat i) / 2 ^ hd) (b := 1) (r := 1) rfl rfl (by omega) (by omega) (by rw [hbit, e2']; rfl)) rfl ?_
        refine GoR.op rfl rfl (aOp_eql rfl rfl (r := true) rfl) rfl ?_
        refine GoR.end (Go.cond noJ_ok (b := true) rfl (Go.region noJ_ok rfl ?_))
        refine GoR.op rfl rfl rfl rfl ?_
        refine GoR.op rfl rfl rfl rfl ?_
        refine GoR.op rfl rfl (aOp_shl (a := 1) (k := i) (r := ((2 ^ i : Nat) : Int)) rfl rfl (by omega) (by omega) (by rw [Nat.one_mul])) rfl ?_
        refine GoR.op rfl rfl (aOp_or (a := setB (perF np nb Ls Ms hd) i) (b := 2 ^ i) (r := ((setB (perF np nb Ls Ms hd) (i + 1) : Nat) : Int)) rfl rfl (by omega) (by omega) (by rw [k2])) rfl ?_
        refine GoR.op rfl rfl rfl rfl ?_
        refine GoR.end (Go.inBlock noJ_ok (Go.region noJ_ok rfl ?_))
        refine GoR.op rfl rfl (aOp_add rfl rfl hi64 rfl) rfl ?_
        refine GoR.op rfl rfl rfl rfl ?_
        refine GoR.end ?_
        refine Go.keep [(1, .int .i64 (hd : Nat)), (2, .ptr h.next 0), (4, .int .i64 (setB (surF np nb Ls Ms hd) i : Nat)), (5, .int .i64 (setB (perF np nb Ls Ms hd) (i + 1) : Nat)), (9, .int .i64 np), (10, .int .i64 (Int.ofNat i + 1))] ⟨rfl, rfl, rfl, rfl, rfl, rfl, trivial⟩ ?_
        exact again (n - 1) _ _ (by omega) ⟨i + 1, by omega, by rw [k1]; rfl, x2.trans x3⟩
      | false =>
        have e2' : (whoseV np nb Ls Ms (Int.ofNat i)).testBit hd = false := e2
        have k2 : setB (perF np nb Ls Ms hd) (i + 1) = setB (perF np nb Ls Ms hd) i := by
          rw [setB_step, if_neg (by rw [e2]; exact fun q => by cases q)]
        refine GoR.op rfl rfl (aOp_and (a := whoseV np nb Ls Ms (Int.ofNat i) / 2 ^ hd) (b := 1) (r := 0) rfl rfl (by omega) (by omega) (by rw [hbit, e2']; rfl)) rfl ?_
        refine GoR.op rfl rfl (aOp_eql rfl rfl (r := false) rfl) rfl ?_
        refine GoR.end (Go.cond noJ_ok (b := false) rfl (Go.code noJ_ok ?_))
        refine Go.inBlock noJ_ok (Go.region noJ_ok rfl ?_)
        refine GoR.op rfl rfl (aOp_add rfl rfl hi64 rfl) rfl ?_
        refine GoR.op rfl rfl rfl rfl ?_
        refine GoR.end ?_
        refine Go.keep [(1, .int .i64 (hd : Nat)), (2, .ptr h.next 0), (4, .int .i64 (setB (surF np nb Ls Ms hd) i : Nat)), (5, .int .i64 (setB (perF np nb Ls Ms hd) i : Nat)), (9, .int .i64 np), (10, .int .i64 (Int.ofNat i + 1))] ⟨rfl, rfl, rfl, rfl, rfl, rfl, trivial⟩ ?_
        exact again (n - 1) _ _ (by omega) ⟨i + 1, by omega, by rw [k1, k2]; rfl, x2.trans x3⟩
  · refine GoR.op rfl rfl (aOp_lss rfl rfl (r := false) (by simp; omega)) rfl ?_
    refine GoR.end (Go.seq noJ_ok (Go.cond noJ_ok rfl (Go.code noJ_ok ?_)))
    have : i = np.toNat := by omega
    subst this
    refine Go.seq noJ_ok (Go.region noJ_ok rfl ?_)
    refine GoR.op rfl rfl rfl rfl ?_
    refine GoR.op rfl rfl rfl rfl ?_
    refine GoR.op rfl rfl rfl rfl ?_
    refine GoR.op rfl rfl rfl rfl ?_
    exact GoR.end (Go.ret noJ_ok (ret_end (aResult_of Try.func79 rfl rfl) ⟨rfl, x1.trans x2⟩))
end Go.Proofs.Ytidfcmjlfadieaa
