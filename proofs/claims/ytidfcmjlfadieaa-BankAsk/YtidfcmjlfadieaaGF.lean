import Derived.Test.YtidfcmjlfadieaaGE
import Derived.Test.YtidfcmjlfadieaaAl
namespace Go.Proofs.Ytidfcmjlfadieaa
open Go Go.AbsE
set_option maxRecDepth 100000
set_option linter.unusedVariables false
variable {np nb : Int} {Ls : List LeaseV} {Ms : List MarkV} {s m : AVal} {h h' : AH}
theorem aOp_neqBool {P : Program} {t : Tr AVal} {dst : Option Tmp} {ty tt ty2 : TypeId} {pos : String} {after : Array Edge} {guard : Option (Nat × Bool)} {x y : Operand} {a b r : Bool} (hx : ev t x = some (.bool a)) (hy : ev t y = some (.bool b)) (hu : P.underlying ty = some .bool) (hr : (!(a == b)) = r) : aOp P t h ⟨dst, .binOp .neq ty x y ty2, tt, pos, after, guard⟩ = some (.val (.bool r) h) := by
  show opBin P t h .neq ty x y = _
  unfold opBin
  rw [hx, hy]
  have : pureRun P (binOp .neq ty (.bool a) (.bool b)) = some (.bool (!(a == b))) := by
    show pureRun P (Op.equal ty (.bool a) (.bool b) >>= fun r => pure (Value.bool (!r))) = _
    rw [pureRun_bind]
    have : pureRun P (Op.equal ty (.bool a) (.bool b)) = some (a == b) := by
      show pureRun P (Op.equalIn (9999 + 1) ty (.bool a) (.bool b)) = _
      unfold Op.equalIn
      rw [pureRun_bind, pr_underlying hu]
      rfl
    rw [this]
    rfl
  show valO h (match pureRun P (binOp .neq ty (.bool a) (.bool b)) with | some v => absV v | none => none) = _
  rw [this, ← hr]
  rfl

/-- The law BankAsk, where lists are long. -/
theorem law8_long {a b : Nat} (hs : lenA s = some a) (hm : lenA m = some b) (hl : 40 < (if (a : Int) < b then (b : Int) else a)) (w : AVal) : Runs Try.prog 8 [.agg [.int .i64 np, .int .i64 nb, s, m], w] h (fun en h' => en = .ret (.bool true) ∧ Ext h h') := by
  refine Runs.intro aFunc8 rfl rfl rfl rfl fun rest => ?_
  refine Go.seq noJ_ok (Go.region noJ_ok rfl ?_)
  refine GoR.box rfl rfl rfl rfl rfl rfl fun h1 x1 f1 => ?_
  refine GoR.op rfl rfl rfl rfl ?_
  refine GoR.end (Go.seq noJ_ok (Go.seq noJ_ok (Go.region noJ_ok rfl ?_)))
  refine GoR.op rfl rfl (ld25 rfl f1 rfl) rfl ?_
  refine GoR.call rfl rfl (aOp_callFunc aFunc12 rfl) (long_ok hs hm (decide_eq_true hl) _) ?_ (by rintro _ _ ⟨q, _⟩; cases q)
  rintro _ h2 ⟨q, x2⟩
  cases q
  refine ⟨_, rfl, ?_⟩
  refine GoR.op rfl rfl rfl rfl ?_
  refine GoR.skip rfl rfl rfl ?_
  refine GoR.skip rfl rfl rfl ?_
  refine GoR.skip rfl rfl rfl ?_
  refine GoR.op rfl rfl rfl rfl ?_
  refine GoR.op rfl rfl rfl rfl ?_
  refine GoR.skip rfl rfl rfl ?_
  refine GoR.skip rfl rfl rfl ?_
  refine GoR.skip rfl rfl rfl ?_
  refine GoR.skip rfl rfl rfl ?_
  refine GoR.op rfl rfl rfl rfl ?_
  refine GoR.end (Go.cond noJ_ok (b := true) rfl (Go.seq noJ_ok (Go.region JA_ok rfl ?_)))
  refine GoR.jump JA_ok rfl rfl (aOp_callFunc aFunc14 rfl) (v := .bool true) rfl rfl ?_
  refine GoR.op rfl rfl rfl rfl ?_
  exact GoR.end (Go.ret noJ_ok (ret_end (aResult_of Try.func8 rfl rfl) ⟨rfl, x1.trans x2⟩))

/-- The law BankAsk, where lists are not long. -/
theorem law8_short (B : BankIn h np nb s m Ls Ms) (hL : Ls.length ≤ 40) (hM : Ms.length ≤ 40) {w : Int} (hw : 0 ≤ w ∧ w < 256) : Runs Try.prog 8 [.agg [.int .i64 np, .int .i64 nb, s, m], .int .u8 w] h (fun en h' => en = .ret (.bool true) ∧ Ext h h') := by
  have hlong : decide (40 < (if ((Ls.length : Nat) : Int) < (Ms.length : Nat) then ((Ms.length : Nat) : Int) else (Ls.length : Nat))) = false := by
    refine decide_eq_false ?_
    split <;> omega
  refine Runs.intro aFunc8 rfl rfl rfl rfl fun rest => ?_
  refine Go.seq noJ_ok (Go.region noJ_ok rfl ?_)
  refine GoR.box rfl rfl rfl rfl rfl rfl fun h1 x1 f1 => ?_
  refine GoR.op rfl rfl rfl rfl ?_
  refine GoR.end (Go.seq noJ_ok (Go.seq noJ_ok (Go.region noJ_ok rfl ?_)))
  have hsl := (B.hs.ext x1).len
  have hml := (B.hm.ext x1).len
  rw [List.length_map] at hsl hml
  refine GoR.op rfl rfl (ld25 rfl f1 rfl) rfl ?_
  refine GoR.call rfl rfl (aOp_callFunc aFunc12 rfl) (long_ok hsl hml hlong _) ?_ (by rintro _ _ ⟨q, _⟩; cases q)
  rintro _ h2 ⟨q, x2⟩
  cases q
  refine ⟨_, rfl, ?_⟩
  have x02 := x1.trans x2
  replace f1 := f1.ext x2
  refine GoR.op rfl rfl rfl rfl ?_
  refine GoR.op rfl rfl (ld25 rfl f1 rfl) rfl ?_
  refine GoR.call rfl rfl (aOp_callFunc aFunc13 rfl) (refBank_ok (B.ext x02) (by omega) (by omega)) ?_ (by rintro _ _ ⟨q, _⟩; cases q)
  rintro _ h3 ⟨q, x3⟩
  cases q
  refine ⟨_, rfl, ?_⟩
  have x03 := x02.trans x3
  replace f1 := f1.ext x3
  cases hv : bankValid np nb Ls Ms with
  | false =>
    refine GoR.op rfl rfl rfl rfl ?_
    refine GoR.op rfl rfl rfl rfl ?_
    refine GoR.op rfl rfl rfl rfl ?_
    refine GoR.skip rfl rfl rfl ?_
    refine GoR.skip rfl rfl rfl ?_
    refine GoR.skip rfl rfl rfl ?_
    refine GoR.skip rfl rfl rfl ?_
    refine GoR.op rfl rfl rfl rfl ?_
    refine GoR.end (Go.cond noJ_ok (b := true) rfl (Go.seq noJ_ok (Go.region JA_ok rfl ?_)))
    refine GoR.jump JA_ok rfl rfl (aOp_callFunc aFunc14 rfl) (v := .bool true) rfl rfl ?_
    refine GoR.op rfl rfl rfl rfl ?_
    exact GoR.end (Go.ret noJ_ok (ret_end (aResult_of Try.func8 rfl rfl) ⟨rfl, x03⟩))
  | true =>
    refine GoR.op rfl rfl rfl rfl ?_
    refine GoR.op rfl rfl rfl rfl ?_
    refine GoR.op rfl rfl rfl rfl ?_
    have hml3 := (B.hm.ext x03).len
    rw [List.length_map] at hml3
    refine GoR.op rfl rfl (fa25_3 rfl) rfl ?_
    refine GoR.op rfl rfl (ld23 rfl f1 rfl) rfl ?_
    refine GoR.op rfl rfl (aOp_lenSlice Try.underlying23 rfl hml3) rfl ?_
    by_cases h6 : Ms.length = 6
    · refine GoR.op rfl rfl (aOp_eql rfl rfl (r := true) (by simp [h6])) rfl ?_
      refine GoR.op rfl rfl rfl rfl ?_
      refine GoR.end (Go.cond noJ_ok (b := true) rfl (Go.seq noJ_ok (Go.region JA_ok rfl ?_)))
      refine GoR.jump JA_ok rfl rfl (aOp_callFunc aFunc14 rfl) (v := .bool true) rfl rfl ?_
      refine GoR.op rfl rfl rfl rfl ?_
      exact GoR.end (Go.ret noJ_ok (ret_end (aResult_of Try.func8 rfl rfl) ⟨rfl, x03⟩))
    · refine GoR.op rfl rfl (aOp_eql rfl rfl (r := false) (by simp; omega)) rfl ?_
      refine GoR.op rfl rfl rfl rfl ?_
      refine GoR.end (Go.cond noJ_ok (b := false) rfl (Go.code noJ_ok ?_))
      obtain ⟨v1, v2, v3, v4, v5, v6, v7⟩ := valid_gnd B hv
      have hM5 : Ms.length ≤ 5 := by omega
      refine Go.seq noJ_ok (Go.region noJ_ok rfl ?_)
      refine GoR.op rfl rfl (ld25 rfl f1 rfl) rfl ?_
      refine GoR.call rfl rfl (aOp_callFunc aFunc29 rfl) (Ask_ok (B.ext x03)) ?_ (by rintro _ _ ⟨q, _⟩; cases q)
      rintro _ h4 ⟨q, x4⟩
      cases q
      refine ⟨_, rfl, ?_⟩
      have x04 := x03.trans x4
      replace f1 := f1.ext x4
      refine GoR.op rfl rfl rfl rfl ?_
      refine GoR.op rfl rfl rfl rfl ?_
      refine GoR.op rfl rfl rfl rfl ?_
      refine GoR.op rfl rfl rfl rfl ?_
      refine GoR.op rfl rfl rfl rfl ?_
      refine GoR.op rfl rfl rfl rfl ?_
      refine GoR.op rfl rfl rfl rfl ?_
      refine GoR.end (Go.seq noJ_ok (Go.region noJ_ok rfl ?_))
      refine GoR.op rfl rfl (ld25 rfl f1 rfl) rfl ?_
      refine GoR.call rfl rfl (aOp_callFunc aFunc27 rfl) (Count_ok (B.ext x04)) ?_ (by rintro _ _ ⟨q, _⟩; cases q)
      rintro _ h5 ⟨q, x5⟩
      cases q
      refine ⟨_, rfl, ?_⟩
      have x05 := x04.trans x5
      replace f1 := f1.ext x5
      rw [hv, if_pos rfl, if_pos rfl]
      refine GoR.op rfl rfl rfl rfl ?_
      refine GoR.op rfl rfl rfl rfl ?_
      refine GoR.op rfl rfl rfl rfl ?_
      refine GoR.op rfl rfl rfl rfl ?_
      refine GoR.op rfl rfl rfl rfl ?_
      refine GoR.end (Go.seq noJ_ok (Go.seq noJ_ok (Go.region noJ_ok rfl ?_)))
      by_cases ht : 0 < truV np nb Ls Ms
      · have hask : askR np nb Ls Ms = ((askF np nb Ls Ms np.toNat).1, (askF np nb Ls Ms np.toNat).2, 0) := by unfold askR; rw [hv, if_pos rfl, if_pos ht]
        rw [hask]
        refine GoR.op rfl rfl rfl rfl ?_
        refine GoR.op rfl rfl (aOp_neq rfl rfl (r := false) (by simp)) rfl ?_
        refine GoR.op rfl rfl rfl rfl ?_
        refine GoR.op rfl rfl rfl rfl ?_
        refine GoR.op rfl rfl (aOp_eql rfl rfl (r := true) (by simp)) rfl ?_
        refine GoR.op rfl rfl rfl rfl ?_
        refine GoR.op rfl rfl (aOp_gtr rfl rfl (r := true) (by simpa using ht)) rfl ?_
        refine GoR.op rfl rfl (aOp_neqBool rfl rfl Try.underlying4 (r := false) rfl) rfl ?_
        refine GoR.op rfl rfl rfl rfl ?_
        refine GoR.op rfl rfl rfl rfl ?_
        refine GoR.op rfl rfl rfl rfl ?_
        refine GoR.op rfl rfl (aOp_neq rfl rfl (r := false) (by simp)) rfl ?_
        refine GoR.op rfl rfl rfl rfl ?_
        refine GoR.skip rfl rfl rfl ?_
        refine GoR.skip rfl rfl rfl ?_
        refine GoR.skip rfl rfl rfl ?_
        refine GoR.skip rfl rfl rfl ?_
        refine GoR.skip rfl rfl rfl ?_
        refine GoR.skip rfl rfl rfl ?_
        refine GoR.skip rfl rfl rfl ?_
        refine GoR.skip rfl rfl rfl ?_
        refine GoR.skip rfl rfl rfl ?_
        refine GoR.skip rfl rfl rfl ?_
        refine GoR.op rfl rfl rfl rfl ?_
        refine GoR.op rfl rfl rfl rfl ?_
        refine GoR.end (Go.cond noJ_ok (b := false) rfl (Go.code noJ_ok ?_))
        refine Go.seq noJ_ok (Go.seq noJ_ok (Go.region noJ_ok rfl ?_))
        refine GoR.op rfl rfl rfl rfl ?_
        refine GoR.op rfl rfl (aOp_neq rfl rfl (r := false) (by simp)) rfl ?_
        refine GoR.end (Go.cond noJ_ok (b := false) rfl (Go.code noJ_ok ?_))
        obtain ⟨p, hp1, hp2, hp3⟩ := askF_best (np := np) (nb := nb) (Ls := Ls) (Ms := Ms) (np.toNat - 1)
        have hnp : np.toNat - 1 + 1 = np.toNat := by omega
        rw [hnp] at hp1 hp2 hp3
        rw [hp2]
        refine Go.seq noJ_ok (Go.seq noJ_ok (Go.region noJ_ok rfl ?_))
        refine GoR.op rfl rfl rfl rfl ?_
        refine GoR.op rfl rfl (aOp_lss rfl rfl (r := false) (by simp)) rfl ?_
        refine GoR.op rfl rfl rfl rfl ?_
        refine GoR.op rfl rfl rfl rfl ?_
        refine GoR.op rfl rfl (fa25_0 rfl) rfl ?_
        refine GoR.op rfl rfl (ld3 rfl f1 rfl) rfl ?_
        refine GoR.op rfl rfl (aOp_geq rfl rfl (r := false) (by simp; omega)) rfl ?_
        refine GoR.op rfl rfl rfl rfl ?_
        refine GoR.end (Go.cond noJ_ok (b := false) rfl (Go.code noJ_ok ?_))
        refine Go.seq noJ_ok (Go.region noJ_ok rfl ?_)
        refine GoR.op rfl rfl rfl rfl ?_
        refine GoR.op rfl rfl rfl rfl ?_
        refine GoR.end (Go.seq noJ_ok (Go.region noJ_ok rfl ?_))
        refine GoR.op rfl rfl rfl rfl ?_
        refine GoR.op rfl rfl (aOp_convU8 rfl Try.underlying5 Try.underlying3 hw) rfl ?_
        refine GoR.op rfl rfl (fa25_0 rfl) rfl ?_
        refine GoR.op rfl rfl (ld3 rfl f1 rfl) rfl ?_
        obtain ⟨q, hq1, hq2⟩ : ∃ q : Nat, w.tmod np = Int.ofNat q ∧ (q : Int) < np := by
          rw [Int.tmod_eq_emod_of_nonneg hw.1]
          have b1 := Int.emod_nonneg w (show np ≠ 0 by omega)
          have b2 := Int.emod_lt_of_pos w (show 0 < np by omega)
          exact ⟨(w % np).toNat, by simp; omega, by omega⟩
        refine GoR.op rfl rfl (aOp_rem rfl rfl (by omega) hq1) rfl ?_
        refine GoR.op rfl rfl rfl rfl ?_
        refine GoR.end (Go.seq noJ_ok (Go.region noJ_ok rfl ?_))
        refine GoR.op rfl rfl rfl rfl ?_
        refine GoR.op rfl rfl rfl rfl ?_
        refine GoR.call rfl rfl (aOp_callVal rfl aFunc35 rfl) (most_ok (B.ext x05) hv hM5 f1 hq2) ?_ (by rintro _ _ ⟨q, _⟩; cases q)
        rintro _ h6' ⟨qe, x6⟩
        cases qe
        refine ⟨_, rfl, ?_⟩
        have x06 := x05.trans x6
        replace f1 := f1.ext x6
        refine GoR.op rfl rfl rfl rfl ?_
        refine GoR.end (Go.seq noJ_ok (Go.region JA_ok rfl ?_))
        refine GoR.op rfl rfl rfl rfl ?_
        refine GoR.op rfl rfl rfl rfl ?_
        refine GoR.callJ JA_ok rfl rfl (aOp_callVal rfl aFunc35 rfl) rfl (most_ok (p := p) (B.ext x06) hv hM5 f1 (by omega)) ?_ (by rintro _ _ ⟨q, _⟩; cases q)
        rintro _ h7 ⟨qe, x7⟩
        cases qe
        refine ⟨_, rfl, ?_⟩
        have x07 := x06.trans x7
        refine GoR.op rfl rfl rfl rfl ?_
        refine GoR.op rfl rfl (aOp_eql rfl rfl (r := true) (by simp)) rfl ?_
        refine GoR.op rfl rfl rfl rfl ?_
        refine GoR.op rfl rfl rfl rfl ?_
        refine GoR.op rfl rfl rfl rfl ?_
        rcases hp3 q (by omega) with hgt | ⟨heq, hle⟩
        · refine GoR.op rfl rfl (aOp_gtr rfl rfl (r := true) (by simpa using hgt)) rfl ?_
          refine GoR.op rfl rfl rfl rfl ?_
          refine GoR.skip rfl rfl rfl ?_
          refine GoR.skip rfl rfl rfl ?_
          refine GoR.skip rfl rfl rfl ?_
          refine GoR.skip rfl rfl rfl ?_
          refine GoR.skip rfl rfl rfl ?_
          refine GoR.skip rfl rfl rfl ?_
          refine GoR.skip rfl rfl rfl ?_
          refine GoR.skip rfl rfl rfl ?_
          refine GoR.op rfl rfl rfl rfl ?_
          refine GoR.op rfl rfl rfl rfl ?_
          refine GoR.op rfl rfl rfl rfl ?_
          refine GoR.jump JA_ok rfl rfl (aOp_callFunc aFunc14 rfl) (v := .bool true) rfl rfl ?_
          refine GoR.op rfl rfl rfl rfl ?_
          refine GoR.op rfl rfl rfl rfl ?_
          exact GoR.end (Go.ret noJ_ok (ret_end (aResult_of Try.func8 rfl rfl) ⟨rfl, x07⟩))
        · refine GoR.op rfl rfl (aOp_gtr rfl rfl (r := false) (by simp; omega)) rfl ?_
          refine GoR.op rfl rfl rfl rfl ?_
          refine GoR.op rfl rfl rfl rfl ?_
          refine GoR.op rfl rfl rfl rfl ?_
          refine GoR.op rfl rfl (aOp_eql rfl rfl (r := true) (by simpa using heq)) rfl ?_
          refine GoR.op rfl rfl rfl rfl ?_
          refine GoR.op rfl rfl rfl rfl ?_
          refine GoR.op rfl rfl rfl rfl ?_
          refine GoR.op rfl rfl (aOp_geq rfl rfl (r := true) (by simpa using hle)) rfl ?_
          refine GoR.op rfl rfl rfl rfl ?_
          refine GoR.op rfl rfl rfl rfl ?_
          refine GoR.op rfl rfl rfl rfl ?_
          refine GoR.op rfl rfl rfl rfl ?_
          refine GoR.jump JA_ok rfl rfl (aOp_callFunc aFunc14 rfl) (v := .bool true) rfl rfl ?_
          refine GoR.op rfl rfl rfl rfl ?_
          refine GoR.op rfl rfl rfl rfl ?_
          exact GoR.end (Go.ret noJ_ok (ret_end (aResult_of Try.func8 rfl rfl) ⟨rfl, x07⟩))
      · have hask : askR np nb Ls Ms = (0, 0, 10) := by unfold askR; rw [hv, if_pos rfl, if_neg ht]
        rw [hask]
        refine GoR.op rfl rfl rfl rfl ?_
        refine GoR.op rfl rfl (aOp_neq rfl rfl (r := false) (by simp)) rfl ?_
        refine GoR.op rfl rfl rfl rfl ?_
        refine GoR.op rfl rfl rfl rfl ?_
        refine GoR.op rfl rfl (aOp_eql rfl rfl (r := false) (by simp)) rfl ?_
        refine GoR.op rfl rfl rfl rfl ?_
        refine GoR.op rfl rfl (aOp_gtr rfl rfl (r := false) (by simpa using ht)) rfl ?_
        refine GoR.op rfl rfl (aOp_neqBool rfl rfl Try.underlying4 (r := false) rfl) rfl ?_
        refine GoR.op rfl rfl rfl rfl ?_
        refine GoR.op rfl rfl rfl rfl ?_
        refine GoR.op rfl rfl rfl rfl ?_
        refine GoR.op rfl rfl (aOp_neq rfl rfl (r := true) (by simp)) rfl ?_
        refine GoR.op rfl rfl rfl rfl ?_
        refine GoR.op rfl rfl rfl rfl ?_
        refine GoR.op rfl rfl (aOp_neq rfl rfl (r := false) (by simp)) rfl ?_
        refine GoR.op rfl rfl rfl rfl ?_
        refine GoR.op rfl rfl rfl rfl ?_
        refine GoR.op rfl rfl (aOp_neq rfl rfl (r := false) (by simp)) rfl ?_
        refine GoR.op rfl rfl rfl rfl ?_
        refine GoR.op rfl rfl rfl rfl ?_
        refine GoR.op rfl rfl rfl rfl ?_
        refine GoR.op rfl rfl (aOp_neq rfl rfl (r := false) (by simp)) rfl ?_
        refine GoR.op rfl rfl rfl rfl ?_
        refine GoR.op rfl rfl rfl rfl ?_
        refine GoR.op rfl rfl rfl rfl ?_
        refine GoR.end (Go.cond noJ_ok (b := false) rfl (Go.code noJ_ok ?_))
        refine Go.seq noJ_ok (Go.seq noJ_ok (Go.region noJ_ok rfl ?_))
        refine GoR.op rfl rfl rfl rfl ?_
        refine GoR.op rfl rfl (aOp_neq rfl rfl (r := true) (by simp)) rfl ?_
        refine GoR.end (Go.cond noJ_ok (b := true) rfl (Go.seq noJ_ok (Go.region JA_ok rfl ?_)))
        refine GoR.jump JA_ok rfl rfl (aOp_callFunc aFunc14 rfl) (v := .bool true) rfl rfl ?_
        refine GoR.op rfl rfl rfl rfl ?_
        exact GoR.end (Go.ret noJ_ok (ret_end (aResult_of Try.func8 rfl rfl) ⟨rfl, x05⟩))
end Go.Proofs.Ytidfcmjlfadieaa
