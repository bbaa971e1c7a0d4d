import Derived.Test.YtidfcmjlfadieaaMAG
import Derived.Test.YtidfcmjlfadieaaMAH
import Derived.Test.YtidfcmjlfadieaaMAO
import Derived.Deep.Slices
import Derived.Lib.SmallJoins
import Derived.Carry
import Derived.Test.YtidfcmjlfadieaaRows
import Derived.WalkKit
import Derived.ProofKit
import Derived.OpenShut
namespace Go.Proofs.Ytidfcmjlfadieaa
open Go Go.AbsE
set_option maxRecDepth 100000
set_option maxHeartbeats 0
set_option linter.unusedVariables false
variable {np nb : Int} {Ls : List LeaseV} {Ms : List MarkV} {s m : AVal} {h h' : AH}
theorem aOp_shr' {P : Program} {t : Tr AVal} {dst : Option Tmp} {ty tt ty2 : TypeId} {pos : String} {after : Array Edge} {guard : Option (Nat × Bool)} {x y : Operand} {a k : Nat} {ka kb : Int} (hx : ev t x = some (.int .i64 ka)) (hy : ev t y = some (.int .i64 kb)) (ha : ka = (a : Int)) (hb : kb = (k : Int)) (hk : k ≤ 60) {r : Int} (hr : ((a / 2 ^ k : Nat) : Int) = r) : aOp P t h ⟨dst, .binOp .shr ty x y ty2, tt, pos, after, guard⟩ = some (.val (.int .i64 r) h) := by
  subst ha hb
  exact aOp_shr hx hy hk hr
theorem law6_short (B : BankIn h np nb s m Ls Ms) (hL : Ls.length ≤ 40) (hM : Ms.length ≤ 40) {w o : Int} (hw : 0 ≤ w ∧ w < 256) (ho : 0 ≤ o ∧ o < 256) : Runs Try.prog 6 [.agg [.int .i64 np, .int .i64 nb, s, m], .int .u8 w, .int .u8 o] h (fun en h' => en = .ret (.bool true) ∧ Ext h h') := by
  have hlong : decide (40 < (if ((Ls.length : Nat) : Int) < (Ms.length : Nat) then ((Ms.length : Nat) : Int) else (Ls.length : Nat))) = false := by
    refine decide_eq_false ?_
    split <;> omega
  have hsl := B.hs.len
  have hml := B.hm.len
  rw [List.length_map] at hsl hml
  refine Runs.intro aFunc6 rfl rfl rfl rfl fun rest => ?_
  refine Go.seq noJ_ok ?_
  refine Go.region noJ_ok rfl ?_
  refine GoR.box rfl rfl rfl rfl rfl rfl fun h0 x0 f0 => ?_
  have e0 := x0
  have := f0.1
  refine GoR.op rfl rfl rfl rfl ?_
  refine GoR.end ?_
  iterate 2 refine Go.seq noJ_ok ?_
  refine Go.region noJ_ok rfl ?_
  refine GoR.op rfl rfl (ld25 rfl f0 rfl) rfl ?_
  refine GoR.call rfl rfl (aOp_callFunc aFunc12 rfl) (long_ok hsl hml hlong _) ?_ (by rintro _ _ ⟨q, _⟩; cases q)
  rintro _ h1 ⟨q, x1⟩
  cases q
  refine ⟨_, rfl, ?_⟩
  replace f0 := f0.ext x1
  replace e0 := e0.trans x1
  refine GoR.end ?_
  refine Go.cond noJ_ok (b := false) rfl ?_
  refine Go.code noJ_ok ?_
  refine Go.seq noJ_ok ?_
  refine Go.region noJ_ok rfl ?_
  refine GoR.op rfl rfl (ld25 rfl f0 rfl) rfl ?_
  refine GoR.call rfl rfl (aOp_callFunc aFunc27 rfl) (Count_ok (B.ext e0)) ?_ (by rintro _ _ ⟨q, _⟩; cases q)
  rintro _ h2 ⟨q, x2⟩
  cases q
  refine ⟨_, rfl, ?_⟩
  replace f0 := f0.ext x2
  replace e0 := e0.trans x2
  iterate 5 refine GoR.op rfl rfl rfl rfl ?_
  refine GoR.end ?_
  iterate 2 refine Go.seq noJ_ok ?_
  refine Go.region noJ_ok rfl ?_
  refine GoR.op rfl rfl (ld25 rfl f0 rfl) rfl ?_
  refine GoR.call rfl rfl (aOp_callFunc aFunc13 rfl) (refBank_ok (B.ext e0) (by omega) (by omega)) ?_ (by rintro _ _ ⟨q, _⟩; cases q)
  rintro _ h3 ⟨q, x3⟩
  cases q
  refine ⟨_, rfl, ?_⟩
  replace f0 := f0.ext x3
  replace e0 := e0.trans x3
  refine GoR.op rfl rfl rfl rfl ?_
  refine GoR.end ?_
  cases hv : bankValid np nb Ls Ms with
  | false =>
    refine Go.cond noJ_ok (b := true) rfl ?_
    refine Go.seq noJ_ok ?_
    refine Go.region noJ_ok rfl ?_
    refine GoR.op rfl rfl (ld25 rfl f0 rfl) rfl ?_
    refine GoR.call rfl rfl (aOp_callFunc aFunc22 rfl) (Whose_bad (B.ext e0) hv 0) ?_ (by rintro _ _ ⟨q, _⟩; cases q)
    rintro _ h4 ⟨q, x4⟩
    cases q
    refine ⟨_, rfl, ?_⟩
    replace f0 := f0.ext x4
    replace e0 := e0.trans x4
    iterate 5 refine GoR.op rfl rfl rfl rfl ?_
    refine GoR.end ?_
    refine Go.seq noJ_ok ?_
    refine Go.region JA_ok rfl ?_
    refine GoR.op rfl rfl rfl rfl ?_
    refine GoR.op rfl rfl (aOp_eql rfl rfl (r := true) (decide_eq_true (by simp))) rfl ?_
    iterate 3 refine GoR.op rfl rfl rfl rfl ?_
    refine GoR.op rfl rfl (aOp_eql rfl rfl (r := true) (decide_eq_true (by simp))) rfl ?_
    iterate 3 refine GoR.op rfl rfl rfl rfl ?_
    refine GoR.op rfl rfl (aOp_eql rfl rfl (r := true) (decide_eq_true (by simp))) rfl ?_
    iterate 3 refine GoR.op rfl rfl rfl rfl ?_
    refine GoR.op rfl rfl (aOp_eql rfl rfl (r := true) (decide_eq_true (by omega))) rfl ?_
    iterate 2 refine GoR.op rfl rfl rfl rfl ?_
    refine GoR.jump JA_ok rfl rfl (aOp_callFunc aFunc14 rfl) (v := .bool true) rfl rfl ?_
    iterate 2 refine GoR.op rfl rfl rfl rfl ?_
    refine GoR.end ?_
    exact Go.ret noJ_ok (ret_end (aResult_of Try.func6 rfl rfl) ⟨rfl, e0⟩)
  | true =>
    obtain ⟨v1, v2, v3, v4, v5, v6, v7⟩ := valid_gnd B hv
    obtain ⟨p, hp1, hp2⟩ : ∃ q : Nat, w.tmod np = (q : Int) ∧ (q : Int) < np := by
      rw [Int.tmod_eq_emod_of_nonneg hw.1]
      have b1 := Int.emod_nonneg w (show np ≠ 0 by omega)
      have b2 := Int.emod_lt_of_pos w (show 0 < np by omega)
      exact ⟨(w % np).toNat, by omega, by omega⟩
    obtain ⟨hd, hd1, hd2⟩ : ∃ q : Nat, o.tmod (nb + 1) = (q : Int) ∧ q < nb.toNat + 1 := by
      rw [Int.tmod_eq_emod_of_nonneg ho.1]
      have b1 := Int.emod_nonneg o (show nb + 1 ≠ 0 by omega)
      have b2 := Int.emod_lt_of_pos o (show 0 < nb + 1 by omega)
      exact ⟨(o % (nb + 1)).toNat, by omega, by omega⟩
    have hnone : ∀ h1, Ext h h1 → Runs Try.prog 23 [.agg [.int .i64 np, .int .i64 nb, s, m], .int .i64 (nb + 1)] h1 (fun en h' => en = .ret (.tuple [.int .i64 0, .int .i64 0, .int .i64 2]) ∧ Ext h1 h') := by
      intro h1 e
      have := Has_none (B.ext e) hv
      rwa [show ((nb.toNat + 1 : Nat) : Int) = nb + 1 by omega] at this
    by_cases ht : 0 < truV np nb Ls Ms
    · have hwho : ∀ h1, Ext h h1 → Runs Try.prog 22 [.agg [.int .i64 np, .int .i64 nb, s, m], .int .i64 (p : Nat)] h1 (fun en h' => en = .ret (.tuple [.int .i64 ((whoseV np nb Ls Ms p : Nat) : Int), .int .i64 0]) ∧ Ext h1 h') := by
        intro h1 e
        have := Whose_in (B.ext e) hv hp2
        rwa [if_pos ht, if_pos ht] at this
      have hhas : ∀ h1, Ext h h1 → Runs Try.prog 23 [.agg [.int .i64 np, .int .i64 nb, s, m], .int .i64 (hd : Nat)] h1 (fun en h' => en = .ret (.tuple [.int .i64 ((surV np nb Ls Ms hd : Nat) : Int), .int .i64 ((perV np nb Ls Ms hd : Nat) : Int), .int .i64 0]) ∧ Ext h1 h') := by
        intro h1 e
        have := Has_in (B.ext e) hv hd2
        rwa [if_pos ht, if_pos ht, if_pos ht] at this
      have hl1 := whose_pos hv (p := p) (by omega) ht
      have hl2 : whoseV np nb Ls Ms p < 32 := whoseV_small ⟨v3, v4⟩
      have hl3 : whoseV np nb Ls Ms p / 2 ^ (nb.toNat + 1) = 0 := setB_div _ _
      have hs3 : surV np nb Ls Ms hd / 2 ^ np.toNat = 0 := setB_div _ _
      have hr3 : perV np nb Ls Ms hd / 2 ^ np.toNat = 0 := setB_div _ _
      have hs2 : surV np nb Ls Ms hd < 1024 := setB_small _ (m := 10) (by omega)
      have hr2 : perV np nb Ls Ms hd < 1024 := setB_small _ (m := 10) (by omega)
      have hb1 := sur_bit (np := np) (nb := nb) (Ls := Ls) (Ms := Ms) (hd := hd) hp2
      have hb2 := per_bit (np := np) (nb := nb) (Ls := Ls) (Ms := Ms) (hd := hd) hp2
      have hp4 : 2 ^ hd ≤ 16 := pow_small (b := 4) (by omega)
      have hd3 : surV np nb Ls Ms hd / 2 ^ p ≤ surV np nb Ls Ms hd := Nat.div_le_self _ _
      have hd4 : perV np nb Ls Ms hd / 2 ^ p ≤ perV np nb Ls Ms hd := Nat.div_le_self _ _
      have hd5 : whoseV np nb Ls Ms p / 2 ^ hd ≤ whoseV np nb Ls Ms p := Nat.div_le_self _ _
      have hnn : nb + 1 = ((nb.toNat + 1 : Nat) : Int) := by omega
      have hpn : np = ((np.toNat : Nat) : Int) := by omega
      have hq1 : decide (((surV np nb Ls Ms hd / 2 ^ p &&& 1 : Nat) : Int) = 1) = decide (whoseV np nb Ls Ms p = 2 ^ hd) := by
        rw [bit_eq, hb1]
        by_cases q : whoseV np nb Ls Ms (Int.ofNat p) = 2 ^ hd
        · have q' : whoseV np nb Ls Ms p = 2 ^ hd := q
          simp [q']
        · have q' : ¬ whoseV np nb Ls Ms p = 2 ^ hd := q
          simp [q']
      have hq2 : decide (((whoseV np nb Ls Ms p : Nat) : Int) = ((2 ^ hd : Nat) : Int)) = decide (whoseV np nb Ls Ms p = 2 ^ hd) := by
        by_cases q : whoseV np nb Ls Ms p = 2 ^ hd
        · rw [q]; simp
        · rw [decide_eq_false q, decide_eq_false (fun e => q (by omega))]
      have hq3 : (perV np nb Ls Ms hd / 2 ^ p &&& 1) = (whoseV np nb Ls Ms p / 2 ^ hd &&& 1) := by
        rw [bit_eq, bit_eq, hb2]
        rfl
      refine Go.cond noJ_ok (b := false) rfl ?_
      refine Go.code noJ_ok ?_
      refine Go.seq noJ_ok ?_
      refine Go.drawnE plan6_0 ?_
      refine GoE.quiet rfl rfl rfl rfl ?_
      refine GoE.quiet rfl rfl (aOp_convU8 rfl Try.underlying5 Try.underlying3 hw) rfl ?_
      refine GoE.quiet rfl rfl (fa25_0 rfl) rfl ?_
      refine GoE.quiet rfl rfl (ld3 rfl f0 rfl) rfl ?_
      refine GoE.quiet rfl rfl (aOp_rem rfl rfl (by omega) hp1) rfl ?_
      refine GoE.quiet rfl rfl rfl rfl ?_
      refine GoE.quiet rfl rfl (aOp_convU8 rfl Try.underlying5 Try.underlying3 ho) rfl ?_
      refine GoE.quiet rfl rfl (fa25_1 rfl) rfl ?_
      refine GoE.quiet rfl rfl (ld3 rfl f0 rfl) rfl ?_
      refine GoE.quiet rfl rfl (aOp_add rfl rfl (by constructor <;> omega) rfl) rfl ?_
      refine GoE.quiet rfl rfl (aOp_rem rfl rfl (by omega) hd1) rfl ?_
      iterate 2 refine GoE.quiet rfl rfl rfl rfl ?_
      refine GoE.end rfl ?_
      refine Go.seq noJ_ok ?_
      refine Go.region noJ_ok rfl ?_
      refine GoR.op rfl rfl (ld25 rfl f0 rfl) rfl ?_
      refine GoR.op rfl rfl rfl rfl ?_
      refine GoR.call rfl rfl (aOp_callFunc aFunc22 rfl) (hwho _ e0) ?_ (by rintro _ _ ⟨q, _⟩; cases q)
      rintro _ h4 ⟨q, x4⟩
      cases q
      refine ⟨_, rfl, ?_⟩
      replace f0 := f0.ext x4
      replace e0 := e0.trans x4
      iterate 5 refine GoR.op rfl rfl rfl rfl ?_
      refine GoR.end ?_
      refine Go.seq noJ_ok ?_
      refine Go.region noJ_ok rfl ?_
      refine GoR.op rfl rfl (ld25 rfl f0 rfl) rfl ?_
      refine GoR.op rfl rfl rfl rfl ?_
      refine GoR.call rfl rfl (aOp_callFunc aFunc23 rfl) (hhas _ e0) ?_ (by rintro _ _ ⟨q, _⟩; cases q)
      rintro _ h5 ⟨q, x5⟩
      cases q
      refine ⟨_, rfl, ?_⟩
      replace f0 := f0.ext x5
      replace e0 := e0.trans x5
      iterate 7 refine GoR.op rfl rfl rfl rfl ?_
      refine GoR.end ?_
      refine Go.seq noJ_ok ?_
      refine Go.region noJ_ok rfl ?_
      refine GoR.op rfl rfl (ld25 rfl f0 rfl) rfl ?_
      refine GoR.op rfl rfl (fa25_0 rfl) rfl ?_
      refine GoR.op rfl rfl (ld3 rfl f0 rfl) rfl ?_
      refine GoR.call rfl rfl (aOp_callFunc aFunc22 rfl) (Whose_none (B.ext e0) hv) ?_ (by rintro _ _ ⟨q, _⟩; cases q)
      rintro _ h6 ⟨q, x6⟩
      cases q
      refine ⟨_, rfl, ?_⟩
      replace f0 := f0.ext x6
      replace e0 := e0.trans x6
      iterate 5 refine GoR.op rfl rfl rfl rfl ?_
      refine GoR.end ?_
      refine Go.seq noJ_ok ?_
      refine Go.region noJ_ok rfl ?_
      refine GoR.op rfl rfl (ld25 rfl f0 rfl) rfl ?_
      refine GoR.op rfl rfl (fa25_1 rfl) rfl ?_
      refine GoR.op rfl rfl (ld3 rfl f0 rfl) rfl ?_
      refine GoR.op rfl rfl (aOp_add rfl rfl (by constructor <;> omega) rfl) rfl ?_
      refine GoR.call rfl rfl (aOp_callFunc aFunc23 rfl) (hnone _ e0) ?_ (by rintro _ _ ⟨q, _⟩; cases q)
      rintro _ h7 ⟨q, x7⟩
      cases q
      refine ⟨_, rfl, ?_⟩
      replace f0 := f0.ext x7
      replace e0 := e0.trans x7
      iterate 7 refine GoR.op rfl rfl rfl rfl ?_
      refine GoR.end ?_
      refine Go.seq noJ_ok ?_
      refine Go.region noJ_ok rfl ?_
      refine GoR.op rfl rfl (ld25 rfl f0 rfl) rfl ?_
      refine GoR.call rfl rfl (aOp_callFunc aFunc26 rfl) (Line_none (B.ext e0) hv) ?_ (by rintro _ _ ⟨q, _⟩; cases q)
      rintro _ h8 ⟨q, x8⟩
      cases q
      refine ⟨_, rfl, ?_⟩
      replace f0 := f0.ext x8
      replace e0 := e0.trans x8
      iterate 5 refine GoR.op rfl rfl rfl rfl ?_
      refine GoR.end ?_
      refine Go.seq noJ_ok ?_
      refine Go.region noJ_ok rfl ?_
      refine GoR.op rfl rfl (ld25 rfl f0 rfl) rfl ?_
      refine GoR.call rfl rfl (aOp_callFunc aFunc24 rfl) (Wide_none (B.ext e0) hv) ?_ (by rintro _ _ ⟨q, _⟩; cases q)
      rintro _ h9 ⟨q, x9⟩
      cases q
      refine ⟨_, rfl, ?_⟩
      replace f0 := f0.ext x9
      replace e0 := e0.trans x9
      iterate 3 refine GoR.op rfl rfl rfl rfl ?_
      refine GoR.alloc rfl rfl rfl zt40 rfl rfl fun h10 x10 f10 => ?_
      have := e0.1
      have := f0.1
      replace f0 := f0.ext x10
      replace e0 := e0.trans x10
      have := f10.1
      refine GoR.store rfl rfl rfl rfl rfl rfl f10 rfl sz40 rfl rfl rfl fun h11 u11 => ?_
      replace f10 := u11.has f10
      replace f0 := f0.upd u11 (by omega)
      replace e0 := e0.upd u11 (by omega)
      refine GoR.op rfl rfl rfl rfl ?_
      refine GoR.end ?_
      iterate 2 refine Go.seq noJ_ok ?_
      refine Go.region noJ_ok rfl ?_
      refine GoR.op rfl rfl rfl rfl ?_
      refine GoR.op rfl rfl (aOp_neq rfl rfl (r := false) (decide_eq_true (by simp))) rfl ?_
      iterate 2 refine GoR.op rfl rfl rfl rfl ?_
      refine GoR.op rfl rfl (aOp_neq rfl rfl (r := false) (decide_eq_true (by omega))) rfl ?_
      iterate 4 refine GoR.op rfl rfl rfl rfl ?_
      refine GoR.op rfl rfl (aOp_neq rfl rfl (r := false) (decide_eq_true (by omega))) rfl ?_
      iterate 4 refine GoR.op rfl rfl rfl rfl ?_
      refine GoR.op rfl rfl (aOp_neq rfl rfl (r := false) (decide_eq_true (by omega))) rfl ?_
      iterate 4 refine GoR.op rfl rfl rfl rfl ?_
      refine GoR.op rfl rfl (aOp_neq rfl rfl (r := false) (decide_eq_true (by omega))) rfl ?_
      iterate 4 refine GoR.op rfl rfl rfl rfl ?_
      refine GoR.op rfl rfl (aOp_neq rfl rfl (r := false) (decide_eq_true (by omega))) rfl ?_
      iterate 3 refine GoR.op rfl rfl rfl rfl ?_
      refine GoR.op rfl rfl (aOp_eql rfl rfl (r := true) (decide_eq_true (by omega))) rfl ?_
      refine GoR.op rfl rfl rfl rfl ?_
      refine GoR.op rfl rfl (aOp_gtr rfl rfl (r := true) (decide_eq_true (by simp; omega))) rfl ?_
      refine GoR.op rfl rfl (aOp_neqBool rfl rfl Try.underlying4 (r := false) (by simp)) rfl ?_
      refine GoR.op rfl rfl rfl rfl ?_
      refine GoR.end ?_
      refine Go.cond noJ_ok (b := false) rfl ?_
      refine Go.code noJ_ok ?_
      iterate 2 refine Go.seq noJ_ok ?_
      refine Go.region noJ_ok rfl ?_
      refine GoR.op rfl rfl rfl rfl ?_
      refine GoR.op rfl rfl (aOp_neq rfl rfl (r := false) (decide_eq_true (by omega))) rfl ?_
      refine GoR.end ?_
      refine Go.cond noJ_ok (b := false) rfl ?_
      refine Go.code noJ_ok ?_
      iterate 2 refine Go.seq noJ_ok ?_
      refine Go.drawnE plan6_1 ?_
      refine GoE.quiet rfl rfl rfl rfl ?_
      refine GoE.quiet rfl rfl (aOp_lss rfl rfl (r := false) (decide_eq_false (by omega))) rfl ?_
      iterate 2 refine GoE.quiet rfl rfl rfl rfl ?_
      refine GoE.quiet rfl rfl (fa25_1 rfl) rfl ?_
      refine GoE.quiet rfl rfl (ld3 rfl f0 rfl) rfl ?_
      refine GoE.quiet rfl rfl (aOp_add rfl rfl (by constructor <;> omega) rfl) rfl ?_
      refine GoE.quiet rfl rfl (aOp_shr' (a := whoseV np nb Ls Ms p) (k := nb.toNat + 1) (r := 0) rfl rfl rfl hnn (by omega) (by rw [hl3]; rfl)) rfl ?_
      refine GoE.quiet rfl rfl (aOp_neq rfl rfl (r := false) (decide_eq_true (by omega))) rfl ?_
      iterate 4 refine GoE.quiet rfl rfl rfl rfl ?_
      refine GoE.quiet rfl rfl (aOp_shr (a := surV np nb Ls Ms hd) (k := p) rfl rfl (by omega) rfl) rfl ?_
      refine GoE.quiet rfl rfl (aOp_and (a := surV np nb Ls Ms hd / 2 ^ p) (b := 1) rfl rfl (by omega) (by omega) rfl) rfl ?_
      refine GoE.quiet rfl rfl (aOp_eql rfl rfl hq1) rfl ?_
      iterate 2 refine GoE.quiet rfl rfl rfl rfl ?_
      refine GoE.quiet rfl rfl (aOp_shl (a := 1) (k := hd) (r := ((2 ^ hd : Nat) : Int)) rfl rfl (by omega) (by omega) (by rw [Nat.one_mul])) rfl ?_
      refine GoE.quiet rfl rfl (aOp_eql rfl rfl hq2) rfl ?_
      refine GoE.quiet rfl rfl (aOp_neqBool rfl rfl Try.underlying4 (r := false) (by simp)) rfl ?_
      iterate 4 refine GoE.quiet rfl rfl rfl rfl ?_
      refine GoE.quiet rfl rfl (aOp_shr (a := perV np nb Ls Ms hd) (k := p) rfl rfl (by omega) rfl) rfl ?_
      refine GoE.quiet rfl rfl (aOp_and (a := perV np nb Ls Ms hd / 2 ^ p) (b := 1) rfl rfl (by omega) (by omega) rfl) rfl ?_
      iterate 2 refine GoE.quiet rfl rfl rfl rfl ?_
      refine GoE.quiet rfl rfl (aOp_shr (a := whoseV np nb Ls Ms p) (k := hd) rfl rfl (by omega) rfl) rfl ?_
      refine GoE.quiet rfl rfl (aOp_and (a := whoseV np nb Ls Ms p / 2 ^ hd) (b := 1) rfl rfl (by omega) (by omega) rfl) rfl ?_
      refine GoE.quiet rfl rfl (aOp_neq rfl rfl (r := false) (decide_eq_true (by rw [hq3]))) rfl ?_
      iterate 3 refine GoE.quiet rfl rfl rfl rfl ?_
      refine GoE.quiet rfl rfl (fa25_0 rfl) rfl ?_
      refine GoE.quiet rfl rfl (ld3 rfl f0 rfl) rfl ?_
      refine GoE.quiet rfl rfl (aOp_shr' (a := surV np nb Ls Ms hd) (k := np.toNat) (r := 0) rfl rfl rfl hpn (by omega) (by rw [hs3]; rfl)) rfl ?_
      refine GoE.quiet rfl rfl (aOp_neq rfl rfl (r := false) (decide_eq_true (by omega))) rfl ?_
      iterate 3 refine GoE.quiet rfl rfl rfl rfl ?_
      refine GoE.quiet rfl rfl (fa25_0 rfl) rfl ?_
      refine GoE.quiet rfl rfl (ld3 rfl f0 rfl) rfl ?_
      refine GoE.quiet rfl rfl (aOp_shr' (a := perV np nb Ls Ms hd) (k := np.toNat) (r := 0) rfl rfl rfl hpn (by omega) (by rw [hr3]; rfl)) rfl ?_
      refine GoE.quiet rfl rfl (aOp_neq rfl rfl (r := false) (decide_eq_true (by omega))) rfl ?_
      refine GoE.quiet rfl rfl rfl rfl ?_
      refine GoE.end rfl ?_
      refine Go.cond noJ_ok (b := false) rfl ?_
      refine Go.code noJ_ok ?_
      iterate 2 refine Go.seq noJ_ok ?_
      refine Go.region noJ_ok rfl ?_
      refine GoR.op rfl rfl (fa25_3 rfl) rfl ?_
      refine GoR.op rfl rfl (ld23 rfl f0 rfl) rfl ?_
      refine GoR.op rfl rfl (aOp_lenSlice Try.underlying23 rfl hml) rfl ?_
      by_cases h6 : Ms.length = 6
      · refine GoR.op rfl rfl (aOp_eql rfl rfl (r := true) (decide_eq_true (by omega))) rfl ?_
        refine GoR.end ?_
        refine Go.cond noJ_ok (b := true) rfl ?_
        refine Go.seq noJ_ok ?_
        refine Go.region JA_ok rfl ?_
        refine GoR.jump JA_ok rfl rfl (aOp_callFunc aFunc14 rfl) (v := .bool true) rfl rfl ?_
        refine GoR.op rfl rfl rfl rfl ?_
        refine GoR.end ?_
        exact Go.ret noJ_ok (ret_end (aResult_of Try.func6 rfl rfl) ⟨rfl, e0⟩)
      · refine GoR.op rfl rfl (aOp_eql rfl rfl (r := false) (decide_eq_false (by omega))) rfl ?_
        refine GoR.end ?_
        refine Go.cond noJ_ok (b := false) rfl ?_
        refine Go.code noJ_ok ?_
        refine Go.seq noJ_ok ?_
        refine Go.region noJ_ok rfl ?_
        refine GoR.op rfl rfl rfl rfl ?_
        refine GoR.end ?_
        iterate 2 refine Go.seq noJ_ok ?_
        refine Go.region noJ_ok rfl ?_
        refine GoR.op rfl rfl (fa25_1 rfl) rfl ?_
        refine GoR.op rfl rfl (ld3 rfl f0 rfl) rfl ?_
        refine GoR.op rfl rfl (aOp_add rfl rfl (by constructor <;> omega) rfl) rfl ?_
        refine GoR.op rfl rfl rfl rfl ?_
        refine GoR.end ?_
        refine Go.block noJ_ok ?_
        have hM5 : Ms.length ≤ 5 := by omega
        let L := claimsL np nb Ls Ms p p
        have hLl : L.length = nb.toNat + 1 := claimsL_len
        obtain ⟨fs52, hu52, pl52⟩ := flds52
        refine Go.loopKeep (fun i : Nat => [(3, .ptr h.next 0), (7, .int .i64 (truV np nb Ls Ms)), (11, .int .i64 (p : Nat)), (13, .int .i64 (whoseV np nb Ls Ms p : Nat)), (27, .int .i64 (L.take i).sum), (221, .int .i64 (nb + 1)), (222, .int .i64 (i : Nat))]) (fun n i h' => n + i = nb.toNat + 1 ∧ Ext h h' ∧ Has h' h.next (.cells .plain [.int .i64 np, .int .i64 nb, s, m] 25)) (n := nb.toNat + 1) 0 ⟨rfl, rfl, rfl, rfl, rfl, rfl, rfl, trivial⟩ ⟨rfl, e0, f0⟩ ?_
        clear e0 f0
        rintro n i hc ⟨hn, e0, f0⟩ again
        by_cases hi : i < nb.toNat + 1
        · have hyb : 0 ≤ cntV np nb Ls (claimA Ms p p i) ∧ cntV np nb Ls (claimA Ms p p i) ≤ 16 ^ 11 := cntV_bound ⟨v1, v2⟩ v5
          have hLi : L[i]? = some (cntV np nb Ls (claimA Ms p p i)) := claimsL_get hi
          have hsum : (L.take (i + 1)).sum = (L.take i).sum + cntV np nb Ls (claimA Ms p p i) := by rw [List.take_add_one, List.sum_append, hLi]; simp
          have hLb : ∀ x, x ∈ L.take i → 0 ≤ x ∧ x ≤ 16 ^ 11 := fun x hx => by
            obtain ⟨k, hk, rfl⟩ := List.mem_map.1 (List.mem_of_mem_take hx)
            exact cntV_bound ⟨v1, v2⟩ v5
          have hbs := sum_between _ hLb
          have hlen : (L.take i).length ≤ 5 := by rw [List.length_take]; omega
          have hbd : inI64 ((L.take i).sum + cntV np nb Ls (claimA Ms p p i)) := by
            have : ((L.take i).length : Int) * 16 ^ 11 ≤ 5 * 16 ^ 11 := Int.mul_le_mul_of_nonneg_right (by omega) (by decide)
            constructor <;> omega
          have hd6 : whoseV np nb Ls Ms p / 2 ^ i ≤ whoseV np nb Ls Ms p := Nat.div_le_self _ _
          have hq4 : decide (((whoseV np nb Ls Ms p / 2 ^ i &&& 1 : Nat) : Int) = 1) = decide (0 < cntV np nb Ls (claimA Ms p p i)) := by
            have h5 := whoseV_bit (np := np) (nb := nb) (Ls := Ls) (Ms := Ms) p i
            rw [decide_eq_true hi, Bool.true_and] at h5
            rw [bit_eq, h5]
            unfold whoF
            by_cases q : 0 < cntV np nb Ls (claimA Ms p p i)
            · have q' : 0 < cntV np nb Ls (claimA Ms p p (Int.ofNat i)) := q
              rw [decide_eq_true q', decide_eq_true q]
              rfl
            · have q' : ¬ 0 < cntV np nb Ls (claimA Ms p p (Int.ofNat i)) := q
              rw [decide_eq_false q', decide_eq_false q]
              rfl
          refine Go.seq noJ_ok ?_
          refine Go.region noJ_ok rfl ?_
          refine GoR.op rfl rfl (aOp_lss rfl rfl (r := true) (decide_eq_true (by omega))) rfl ?_
          refine GoR.end ?_
          refine Go.seq noJ_ok ?_
          refine Go.cond noJ_ok (b := true) rfl ?_
          refine Go.code noJ_ok ?_
          refine Go.seq noJ_ok ?_
          refine Go.block noJ_ok ?_
          refine Go.seq noJ_ok ?_
          refine Go.region noJ_ok rfl ?_
          iterate 2 refine GoR.op rfl rfl rfl rfl ?_
          refine GoR.end ?_
          refine Go.seq noJ_ok ?_
          refine Go.region noJ_ok rfl ?_
          refine GoR.op rfl rfl (ld25 rfl f0 rfl) rfl ?_
          iterate 2 refine GoR.op rfl rfl rfl rfl ?_
          refine GoR.op rfl rfl (aOp_build (ps := [(0, .int .i64 (p : Nat)), (1, .int .i64 (i : Nat))]) (cs := [.int .i64 (p : Nat), .int .i64 (i : Nat)]) zt52 hu52 pl52 rfl rfl) rfl ?_
          refine GoR.call rfl rfl (aOp_callFunc aFunc32 rfl) (with_ok (B.ext e0) (by omega) (p : Int) (i : Int)) ?_ (by rintro _ _ ⟨_, q, _⟩; cases q)
          rintro _ h20 ⟨m', q, x20, B20⟩
          have q := (AEnd.ret.inj q).symm
          subst q
          refine ⟨_, rfl, ?_⟩
          replace f0 := f0.ext x20
          replace e0 := e0.trans x20
          refine GoR.call rfl rfl (aOp_callFunc aFunc27 rfl) (Count_more B hv hM5 (p := p) (o := i) (by omega) (by omega) B20) ?_ (by rintro _ _ ⟨q, _⟩; cases q)
          rintro _ h21 ⟨q, x21⟩
          cases q
          refine ⟨_, rfl, ?_⟩
          replace f0 := f0.ext x21
          replace e0 := e0.trans x21
          iterate 5 refine GoR.op rfl rfl rfl rfl ?_
          refine GoR.end ?_
          iterate 2 refine Go.seq noJ_ok ?_
          refine Go.region noJ_ok rfl ?_
          refine GoR.op rfl rfl rfl rfl ?_
          refine GoR.op rfl rfl (aOp_neq rfl rfl (r := false) (decide_eq_true (by omega))) rfl ?_
          iterate 2 refine GoR.op rfl rfl rfl rfl ?_
          refine GoR.op rfl rfl (aOp_lss rfl rfl (r := false) (decide_eq_false (by omega))) rfl ?_
          iterate 3 refine GoR.op rfl rfl rfl rfl ?_
          refine GoR.op rfl rfl (aOp_gtr rfl rfl (r := decide (0 < cntV np nb Ls (claimA Ms p p i))) rfl) rfl ?_
          iterate 2 refine GoR.op rfl rfl rfl rfl ?_
          refine GoR.op rfl rfl (aOp_shr (a := whoseV np nb Ls Ms p) (k := i) rfl rfl (by omega) rfl) rfl ?_
          refine GoR.op rfl rfl (aOp_and (a := whoseV np nb Ls Ms p / 2 ^ i) (b := 1) rfl rfl (by omega) (by omega) rfl) rfl ?_
          refine GoR.op rfl rfl (aOp_eql rfl rfl hq4) rfl ?_
          refine GoR.op rfl rfl (aOp_neqBool rfl rfl Try.underlying4 (r := false) (by simp)) rfl ?_
          refine GoR.op rfl rfl rfl rfl ?_
          refine GoR.end ?_
          refine Go.cond noJ_ok (b := false) rfl ?_
          refine Go.code noJ_ok ?_
          refine Go.region noJ_ok rfl ?_
          iterate 2 refine GoR.op rfl rfl rfl rfl ?_
          refine GoR.op rfl rfl (aOp_add rfl rfl hbd rfl) rfl ?_
          refine GoR.op rfl rfl rfl rfl ?_
          refine GoR.end ?_
          refine Go.inBlock noJ_ok ?_
          refine Go.region noJ_ok rfl ?_
          refine GoR.op rfl rfl (aOp_add rfl rfl (by constructor <;> omega) rfl) rfl ?_
          refine GoR.op rfl rfl rfl rfl ?_
          refine GoR.end ?_
          exact again (n - 1) (i + 1) _ _ (by omega) ⟨rfl, rfl, rfl, rfl, by rw [hsum]; rfl, rfl, rfl, trivial⟩ ⟨by omega, e0, f0⟩
        · have hend : (L.take i).sum = truV np nb Ls Ms := by
            rw [List.take_of_length_le (by omega)]
            exact claims_tru hv (by omega)
          refine Go.seq noJ_ok ?_
          refine Go.region noJ_ok rfl ?_
          refine GoR.op rfl rfl (aOp_lss rfl rfl (r := false) (decide_eq_false (by omega))) rfl ?_
          refine GoR.end ?_
          refine Go.seq noJ_ok ?_
          refine Go.cond noJ_ok (b := false) rfl ?_
          refine Go.code noJ_ok ?_
          refine Go.seq noJ_ok ?_
          refine Go.region JA_ok rfl ?_
          iterate 2 refine GoR.op rfl rfl rfl rfl ?_
          refine GoR.op rfl rfl (aOp_eql rfl rfl (r := true) (decide_eq_true hend)) rfl ?_
          refine GoR.op rfl rfl rfl rfl ?_
          refine GoR.jump JA_ok rfl rfl (aOp_callFunc aFunc14 rfl) (v := .bool true) rfl rfl ?_
          iterate 2 refine GoR.op rfl rfl rfl rfl ?_
          refine GoR.end ?_
          exact Go.ret noJ_ok (ret_end (aResult_of Try.func6 rfl rfl) ⟨rfl, e0⟩)
    · have hwho : ∀ h1, Ext h h1 → Runs Try.prog 22 [.agg [.int .i64 np, .int .i64 nb, s, m], .int .i64 (p : Nat)] h1 (fun en h' => en = .ret (.tuple [.int .i64 0, .int .i64 10]) ∧ Ext h1 h') := by
        intro h1 e
        have := Whose_in (B.ext e) hv hp2
        rwa [if_neg ht, if_neg ht] at this
      have hhas : ∀ h1, Ext h h1 → Runs Try.prog 23 [.agg [.int .i64 np, .int .i64 nb, s, m], .int .i64 (hd : Nat)] h1 (fun en h' => en = .ret (.tuple [.int .i64 0, .int .i64 0, .int .i64 10]) ∧ Ext h1 h') := by
        intro h1 e
        have := Has_in (B.ext e) hv hd2
        rwa [if_neg ht, if_neg ht, if_neg ht] at this
      refine Go.cond noJ_ok (b := false) rfl ?_
      refine Go.code noJ_ok ?_
      refine Go.seq noJ_ok ?_
      refine Go.drawnE plan6_0 ?_
      refine GoE.quiet rfl rfl rfl rfl ?_
      refine GoE.quiet rfl rfl (aOp_convU8 rfl Try.underlying5 Try.underlying3 hw) rfl ?_
      refine GoE.quiet rfl rfl (fa25_0 rfl) rfl ?_
      refine GoE.quiet rfl rfl (ld3 rfl f0 rfl) rfl ?_
      refine GoE.quiet rfl rfl (aOp_rem rfl rfl (by omega) hp1) rfl ?_
      refine GoE.quiet rfl rfl rfl rfl ?_
      refine GoE.quiet rfl rfl (aOp_convU8 rfl Try.underlying5 Try.underlying3 ho) rfl ?_
      refine GoE.quiet rfl rfl (fa25_1 rfl) rfl ?_
      refine GoE.quiet rfl rfl (ld3 rfl f0 rfl) rfl ?_
      refine GoE.quiet rfl rfl (aOp_add rfl rfl (by constructor <;> omega) rfl) rfl ?_
      refine GoE.quiet rfl rfl (aOp_rem rfl rfl (by omega) hd1) rfl ?_
      iterate 2 refine GoE.quiet rfl rfl rfl rfl ?_
      refine GoE.end rfl ?_
      refine Go.seq noJ_ok ?_
      refine Go.region noJ_ok rfl ?_
      refine GoR.op rfl rfl (ld25 rfl f0 rfl) rfl ?_
      refine GoR.op rfl rfl rfl rfl ?_
      refine GoR.call rfl rfl (aOp_callFunc aFunc22 rfl) (hwho _ e0) ?_ (by rintro _ _ ⟨q, _⟩; cases q)
      rintro _ h4 ⟨q, x4⟩
      cases q
      refine ⟨_, rfl, ?_⟩
      replace f0 := f0.ext x4
      replace e0 := e0.trans x4
      iterate 5 refine GoR.op rfl rfl rfl rfl ?_
      refine GoR.end ?_
      refine Go.seq noJ_ok ?_
      refine Go.region noJ_ok rfl ?_
      refine GoR.op rfl rfl (ld25 rfl f0 rfl) rfl ?_
      refine GoR.op rfl rfl rfl rfl ?_
      refine GoR.call rfl rfl (aOp_callFunc aFunc23 rfl) (hhas _ e0) ?_ (by rintro _ _ ⟨q, _⟩; cases q)
      rintro _ h5 ⟨q, x5⟩
      cases q
      refine ⟨_, rfl, ?_⟩
      replace f0 := f0.ext x5
      replace e0 := e0.trans x5
      iterate 7 refine GoR.op rfl rfl rfl rfl ?_
      refine GoR.end ?_
      refine Go.seq noJ_ok ?_
      refine Go.region noJ_ok rfl ?_
      refine GoR.op rfl rfl (ld25 rfl f0 rfl) rfl ?_
      refine GoR.op rfl rfl (fa25_0 rfl) rfl ?_
      refine GoR.op rfl rfl (ld3 rfl f0 rfl) rfl ?_
      refine GoR.call rfl rfl (aOp_callFunc aFunc22 rfl) (Whose_none (B.ext e0) hv) ?_ (by rintro _ _ ⟨q, _⟩; cases q)
      rintro _ h6 ⟨q, x6⟩
      cases q
      refine ⟨_, rfl, ?_⟩
      replace f0 := f0.ext x6
      replace e0 := e0.trans x6
      iterate 5 refine GoR.op rfl rfl rfl rfl ?_
      refine GoR.end ?_
      refine Go.seq noJ_ok ?_
      refine Go.region noJ_ok rfl ?_
      refine GoR.op rfl rfl (ld25 rfl f0 rfl) rfl ?_
      refine GoR.op rfl rfl (fa25_1 rfl) rfl ?_
      refine GoR.op rfl rfl (ld3 rfl f0 rfl) rfl ?_
      refine GoR.op rfl rfl (aOp_add rfl rfl (by constructor <;> omega) rfl) rfl ?_
      refine GoR.call rfl rfl (aOp_callFunc aFunc23 rfl) (hnone _ e0) ?_ (by rintro _ _ ⟨q, _⟩; cases q)
      rintro _ h7 ⟨q, x7⟩
      cases q
      refine ⟨_, rfl, ?_⟩
      replace f0 := f0.ext x7
      replace e0 := e0.trans x7
      iterate 7 refine GoR.op rfl rfl rfl rfl ?_
      refine GoR.end ?_
      refine Go.seq noJ_ok ?_
      refine Go.region noJ_ok rfl ?_
      refine GoR.op rfl rfl (ld25 rfl f0 rfl) rfl ?_
      refine GoR.call rfl rfl (aOp_callFunc aFunc26 rfl) (Line_none (B.ext e0) hv) ?_ (by rintro _ _ ⟨q, _⟩; cases q)
      rintro _ h8 ⟨q, x8⟩
      cases q
      refine ⟨_, rfl, ?_⟩
      replace f0 := f0.ext x8
      replace e0 := e0.trans x8
      iterate 5 refine GoR.op rfl rfl rfl rfl ?_
      refine GoR.end ?_
      refine Go.seq noJ_ok ?_
      refine Go.region noJ_ok rfl ?_
      refine GoR.op rfl rfl (ld25 rfl f0 rfl) rfl ?_
      refine GoR.call rfl rfl (aOp_callFunc aFunc24 rfl) (Wide_none (B.ext e0) hv) ?_ (by rintro _ _ ⟨q, _⟩; cases q)
      rintro _ h9 ⟨q, x9⟩
      cases q
      refine ⟨_, rfl, ?_⟩
      replace f0 := f0.ext x9
      replace e0 := e0.trans x9
      iterate 3 refine GoR.op rfl rfl rfl rfl ?_
      refine GoR.alloc rfl rfl rfl zt40 rfl rfl fun h10 x10 f10 => ?_
      have := e0.1
      have := f0.1
      replace f0 := f0.ext x10
      replace e0 := e0.trans x10
      have := f10.1
      refine GoR.store rfl rfl rfl rfl rfl rfl f10 rfl sz40 rfl rfl rfl fun h11 u11 => ?_
      replace f10 := u11.has f10
      replace f0 := f0.upd u11 (by omega)
      replace e0 := e0.upd u11 (by omega)
      refine GoR.op rfl rfl rfl rfl ?_
      refine GoR.end ?_
      iterate 2 refine Go.seq noJ_ok ?_
      refine Go.region noJ_ok rfl ?_
      refine GoR.op rfl rfl rfl rfl ?_
      refine GoR.op rfl rfl (aOp_neq rfl rfl (r := false) (decide_eq_true (by simp))) rfl ?_
      iterate 2 refine GoR.op rfl rfl rfl rfl ?_
      refine GoR.op rfl rfl (aOp_neq rfl rfl (r := false) (decide_eq_true (by omega))) rfl ?_
      iterate 4 refine GoR.op rfl rfl rfl rfl ?_
      refine GoR.op rfl rfl (aOp_neq rfl rfl (r := false) (decide_eq_true (by omega))) rfl ?_
      iterate 4 refine GoR.op rfl rfl rfl rfl ?_
      refine GoR.op rfl rfl (aOp_neq rfl rfl (r := false) (decide_eq_true (by omega))) rfl ?_
      iterate 4 refine GoR.op rfl rfl rfl rfl ?_
      refine GoR.op rfl rfl (aOp_neq rfl rfl (r := false) (decide_eq_true (by omega))) rfl ?_
      iterate 4 refine GoR.op rfl rfl rfl rfl ?_
      refine GoR.op rfl rfl (aOp_neq rfl rfl (r := false) (decide_eq_true (by omega))) rfl ?_
      iterate 3 refine GoR.op rfl rfl rfl rfl ?_
      refine GoR.op rfl rfl (aOp_eql rfl rfl (r := false) (decide_eq_false (by omega))) rfl ?_
      refine GoR.op rfl rfl rfl rfl ?_
      refine GoR.op rfl rfl (aOp_gtr rfl rfl (r := false) (decide_eq_false (by omega))) rfl ?_
      refine GoR.op rfl rfl (aOp_neqBool rfl rfl Try.underlying4 (r := false) rfl) rfl ?_
      refine GoR.op rfl rfl rfl rfl ?_
      refine GoR.end ?_
      refine Go.cond noJ_ok (b := false) rfl ?_
      refine Go.code noJ_ok ?_
      iterate 2 refine Go.seq noJ_ok ?_
      refine Go.region noJ_ok rfl ?_
      refine GoR.op rfl rfl rfl rfl ?_
      refine GoR.op rfl rfl (aOp_neq rfl rfl (r := true) (decide_eq_false (by omega))) rfl ?_
      refine GoR.end ?_
      refine Go.cond noJ_ok (b := true) rfl ?_
      refine Go.seq noJ_ok ?_
      refine Go.region JA_ok rfl ?_
      refine GoR.op rfl rfl rfl rfl ?_
      refine GoR.op rfl rfl (aOp_eql rfl rfl (r := true) (decide_eq_true (by omega))) rfl ?_
      iterate 2 refine GoR.op rfl rfl rfl rfl ?_
      refine GoR.op rfl rfl (aOp_eql rfl rfl (r := true) (decide_eq_true (by omega))) rfl ?_
      iterate 3 refine GoR.op rfl rfl rfl rfl ?_
      refine GoR.op rfl rfl (aOp_eql rfl rfl (r := true) (decide_eq_true (by omega))) rfl ?_
      iterate 3 refine GoR.op rfl rfl rfl rfl ?_
      refine GoR.op rfl rfl (aOp_eql rfl rfl (r := true) (decide_eq_true (by omega))) rfl ?_
      iterate 2 refine GoR.op rfl rfl rfl rfl ?_
      refine GoR.jump JA_ok rfl rfl (aOp_callFunc aFunc14 rfl) (v := .bool true) rfl rfl ?_
      iterate 2 refine GoR.op rfl rfl rfl rfl ?_
      refine GoR.end ?_
      exact Go.ret noJ_ok (ret_end (aResult_of Try.func6 rfl rfl) ⟨rfl, e0⟩)
/-- The law BankWhose, where lists are long. -/
theorem law6_long {a b : Nat} (hs : lenA s = some a) (hm : lenA m = some b) (hl : 40 < (if (a : Int) < b then (b : Int) else a)) (w o : AVal) : Runs Try.prog 6 [.agg [.int .i64 np, .int .i64 nb, s, m], w, o] h (fun en h' => en = .ret (.bool true) ∧ Ext h h') := by
  refine Runs.intro aFunc6 rfl rfl rfl rfl fun rest => ?_
  refine Go.seq noJ_ok ?_
  refine Go.region noJ_ok rfl ?_
  refine GoR.box rfl rfl rfl rfl rfl rfl fun h0 x0 f0 => ?_
  have e0 := x0
  have := f0.1
  refine GoR.op rfl rfl rfl rfl ?_
  refine GoR.end ?_
  iterate 2 refine Go.seq noJ_ok ?_
  refine Go.region noJ_ok rfl ?_
  refine GoR.op rfl rfl (ld25 rfl f0 rfl) rfl ?_
  refine GoR.call rfl rfl (aOp_callFunc aFunc12 rfl) (long_ok hs hm (decide_eq_true hl) _) ?_ (by rintro _ _ ⟨q, _⟩; cases q)
  rintro _ h1 ⟨q, x1⟩
  cases q
  refine ⟨_, rfl, ?_⟩
  replace f0 := f0.ext x1
  replace e0 := e0.trans x1
  refine GoR.end ?_
  refine Go.cond noJ_ok (b := true) rfl ?_
  refine Go.seq noJ_ok ?_
  refine Go.region JA_ok rfl ?_
  refine GoR.jump JA_ok rfl rfl (aOp_callFunc aFunc14 rfl) (v := .bool true) rfl rfl ?_
  refine GoR.op rfl rfl rfl rfl ?_
  refine GoR.end ?_
  exact Go.ret noJ_ok (ret_end (aResult_of Try.func6 rfl rfl) ⟨rfl, e0⟩)
end Go.Proofs.Ytidfcmjlfadieaa

namespace Go.AbsE
open Go Go.RowKit

/-! What a call is handed: windows on blocks that are there. -/
section
variable {P : Program}
theorem VRs.ints {e : Env} : ∀ l : List Int, VRs e (l.map fun x => AVal.int .i64 x) (l.map fun x => Value.int .i64 x) := by
  intro l
  induction l with
  | nil => exact .nil
  | cons a l ih => exact .cons (.int _ _) ih
/-- A window on a block. -/
theorem HR.openWin {e : Env} {h : AH} {W : World} (r : HR P (Base.all W) e h W) {B lo : Nat} {PRE CS junk : List Value} {el : TypeId} {fr : Nat × Nat} {cs : List AVal} (hB : W.heap[B]? = some (.cells (PRE ++ (CS ++ junk)).toArray el fr)) (hp : PRE.length = lo) (hv : ∀ e, VRs e cs CS) :
    ∃ e' h', Env.le e e' ∧ HR P (Base.all W) e' h' W ∧ Ext h h' ∧ e' h.next = some (B, 0) ∧ Has h' h.next (.win lo cs) := by
  obtain ⟨h', k⟩ := new_some h (.win lo cs)
  obtain ⟨_, x1, x2⟩ := new_ext k
  obtain ⟨n1, n2, n3⟩ := AH.get_new k
  have hle := Env.le_ext (x := (B, 0)) r.fresh
  have hlt := (Array.getElem?_eq_some_iff.1 hB).1
  refine ⟨e.ext h.next (B, 0), h', hle, ?_, x1, Env.ext_same _ _ _, x2⟩
  refine { dom := ?_, blk := ?_, inj := ?_, imm := ?_, os := r.os, tape := r.tape, output := r.output, size := r.size, old := r.old, young := r.young }
  · intro b' x kx
    rw [Env.ext_at] at kx
    by_cases hb' : b' = h.next
    · omega
    · rw [if_neg hb'] at kx; have := r.dom _ _ kx; omega
  · intro b' o' kx
    rw [n3] at kx
    by_cases hb' : b' = h.next
    · rw [if_pos hb'] at kx
      cases kx
      subst hb'
      exact ⟨B, 0, _, Env.ext_same _ _ _, (fun q => by cases q), hB, .win (hv _) hp⟩
    · rw [if_neg hb'] at kx
      obtain ⟨B', c', O', k1, k2, k3, k4⟩ := r.blk _ _ kx
      exact ⟨B', c', O', hle.1 _ _ k1, k2, k3, k4.mono hle⟩
  · intro b1 b2 B1 c1 c2 o1 o2 k1 k2 hro e1 e2
    rw [n3] at k1 k2
    rw [Env.ext_at] at e1 e2
    by_cases q1 : b1 = h.next
    · rw [if_pos q1] at k1; cases k1; cases hro
    · rw [if_neg q1] at k1 e1
      by_cases q2 : b2 = h.next
      · rw [if_pos q2] at e2
        cases e2
        obtain ⟨B', c', O', j1, j2, _, _⟩ := r.blk _ _ k1
        rw [e1] at j1
        cases j1
        exact absurd hlt (j2 hro)
      · rw [if_neg q2] at k2 e2
        exact r.inj _ _ _ _ _ _ _ k1 k2 hro e1 e2
  · intro B1 CS' hi
    obtain ⟨i1, i2⟩ := r.imm B1 CS' hi
    refine ⟨i1, fun b' o' c' kx hro ke => ?_⟩
    rw [n3] at kx
    rw [Env.ext_at] at ke
    by_cases q : b' = h.next
    · rw [if_pos q] at kx; cases kx; cases hro
    · rw [if_neg q] at kx ke; exact i2 b' o' c' kx hro ke

/-- Rows of numbers, one behind the other. -/
theorem rows_eq {C : List Value} {off sz : Nat} : ∀ (len : Nat) (f : Nat → List Int), (∀ i, i < len → (f i).length = sz ∧ ∀ k n, (f i)[k]? = some n → C[off + i * sz + k]? = some (.int .i64 n)) →
    (C.drop off).take (len * sz) = (((List.range len).map f).flatten).map fun x => Value.int .i64 x := by
  intro len
  induction len with
  | zero => intro f _; simp
  | succ len ih =>
    intro f hf
    have h1 := ih f fun i hi => hf i (by omega)
    obtain ⟨l1, l2⟩ := hf len (by omega)
    rw [Nat.add_mul, Nat.one_mul, List.take_add, h1, List.range_succ, List.map_append, List.flatten_append, List.map_append]
    congr 1
    simp only [List.map_cons, List.map_nil, List.flatten_cons, List.flatten_nil, List.append_nil]
    rw [List.drop_drop]
    refine List.ext_getElem? fun k => ?_
    rw [List.getElem?_take, List.getElem?_drop, List.getElem?_map]
    by_cases hk : k < sz
    · rw [if_pos hk]
      obtain ⟨n, hn⟩ : ∃ n, (f len)[k]? = some n := ⟨(f len)[k]'(by omega), by simp⟩
      rw [hn]
      exact l2 k n hn
    · rw [if_neg hk]
      have : (f len)[k]? = none := by simp; omega
      rw [this]
      rfl

/-- A slice of rows of numbers, as it is handed to a call. -/
theorem HR.openRows {e : Env} {h : AH} {W : World} (r : HR P (Base.all W) e h W) {a : Addr} {len cap sz : Nat} {C : Array Value} {el : TypeId} {fr : Nat × Nat} (hB : W.heap[a.block]? = some (.cells C el fr)) (hspot : a.spot = none) (f : Nat → List Int)
    (hf : ∀ i, i < len → (f i).length = sz ∧ ∀ k n, (f i)[k]? = some n → W.cell? (a.add (i * sz + k)) = some (.int .i64 n)) :
    ∃ e' h' s, Env.le e e' ∧ HR P (Base.all W) e' h' W ∧ Ext h h' ∧ VR e' s (.slice (some a) len cap) ∧ SliceOf h' sz s (((List.range len).map f).map fun l => l.map fun x => AVal.int .i64 x) ∧ sameA s s = true := by
  obtain ⟨B, off, spot⟩ := a
  dsimp only at hB hspot
  subst hspot
  have hcell : ∀ i, i < len → (f i).length = sz ∧ ∀ k n, (f i)[k]? = some n → C.toList[off + i * sz + k]? = some (.int .i64 n) := fun i hi => by
    obtain ⟨h1, h2⟩ := hf i hi
    refine ⟨h1, fun k n hn => ?_⟩
    have := h2 k n hn
    have e1 := addr_add B off (i * sz + k)
    rw [e1] at this
    unfold World.cell? at this
    rw [hB] at this
    simp only [Option.isSome_none, Bool.false_eq_true, if_false] at this
    rw [Array.getElem?_toList, Nat.add_assoc]
    exact this
  have hrows := rows_eq len f hcell
  let R := (List.range len).map f
  have hRl : ∀ l, l ∈ R → l.length = sz := fun l hl => by
    obtain ⟨i, hi, rfl⟩ := List.mem_map.1 hl
    exact (hf i (List.mem_range.1 hi)).1
  have hRlen : R.length = len := by simp [R]
  have hlen : (C.toList.drop off).take (len * sz) = (R.flatten).map fun x => Value.int .i64 x := hrows
  have hfl : R.flatten.length = len * sz := by
    have : ∀ {L : List (List Int)}, (∀ l, l ∈ L → l.length = sz) → L.flatten.length = L.length * sz := by
      intro L
      induction L with
      | nil => intro _; simp
      | cons a L ih => intro h; simp only [List.flatten_cons, List.length_append, h a (by simp), ih fun l q => h l (by simp [q]), List.length_cons, Nat.add_mul]; omega
    rw [this hRl, hRlen]
  by_cases h0 : len * sz = 0
  · -- nothing of it is read
    obtain ⟨e', h', k1, k2, k3, k4, k5⟩ := r.openWin (B := B) (lo := 0) (PRE := []) (CS := []) (junk := C.toList) (el := el) (fr := fr) (cs := []) (by simpa using hB) rfl (fun _ => .nil)
    refine ⟨e', h', .slice h.next off len cap, k1, k2, k3, .slice k4, .mk rfl rfl k5.1 (by simp) (fun l hl => ?_) ?_, by simp [sameA]⟩
    · obtain ⟨x, hx, rfl⟩ := List.mem_map.1 hl
      rw [List.length_map]
      exact hRl x hx
    · have hnil : R.flatten = [] := List.eq_nil_of_length_eq_zero (by omega)
      unfold loadCells
      rw [k5.2]
      have e1 : ((R.map fun l => l.map fun x => AVal.int .i64 x).length * sz) = 0 := by rw [List.length_map, hRlen]; exact h0
      have e2 : (R.map fun l => l.map fun x => AVal.int .i64 x).flatten = [] := by rw [← List.map_flatten, hnil]; rfl
      show cond (Nat.ble 0 off) (slice? [] (off - 0) ((R.map fun l => l.map fun x => AVal.int .i64 x).length * sz)) none = some _
      rw [e1, e2, show Nat.ble 0 off = true from Nat.ble_eq_true_of_le (Nat.zero_le _)]
      simp [slice?]
  · have hle : off + len * sz ≤ C.toList.length := by
      have : ((C.toList.drop off).take (len * sz)).length = len * sz := by rw [hlen, List.length_map, hfl]
      rw [List.length_take, List.length_drop] at this
      omega
    have hC : C = (C.toList.take off ++ ((R.flatten.map fun x => Value.int .i64 x) ++ C.toList.drop (off + len * sz))).toArray := by
      rw [← hlen]
      have : C.toList.take off ++ ((C.toList.drop off).take (len * sz) ++ C.toList.drop (off + len * sz)) = C.toList := by
        rw [← List.drop_drop, List.take_append_drop, List.take_append_drop]
      rw [this]
    obtain ⟨e', h', k1, k2, k3, k4, k5⟩ := r.openWin (B := B) (lo := off) (PRE := C.toList.take off) (CS := R.flatten.map fun x => Value.int .i64 x) (junk := C.toList.drop (off + len * sz)) (el := el) (fr := fr) (cs := R.flatten.map fun x => AVal.int .i64 x) (by rw [← hC]; exact hB) (by rw [List.length_take]; omega) (fun _ => VRs.ints _)
    refine ⟨e', h', .slice h.next off len cap, k1, k2, k3, .slice k4, .mk rfl rfl k5.1 (by simp) (fun l hl => ?_) ?_, by simp [sameA]⟩
    · obtain ⟨x, hx, rfl⟩ := List.mem_map.1 hl
      rw [List.length_map]
      exact hRl x hx
    · unfold loadCells
      rw [k5.2]
      have e1 : ((R.map fun l => l.map fun x => AVal.int .i64 x).length * sz) = len * sz := by rw [List.length_map, hRlen]
      have e2 : (R.map fun l => l.map fun x => AVal.int .i64 x).flatten = R.flatten.map fun x => AVal.int .i64 x := by rw [← List.map_flatten]
      show cond (Nat.ble off off) (slice? (R.flatten.map fun x => AVal.int .i64 x) (off - off) ((R.map fun l => l.map fun x => AVal.int .i64 x).length * sz)) none = some _
      rw [e1, e2, show Nat.ble off off = true from Nat.ble_eq_true_of_le (Nat.le_refl _), Nat.sub_self]
      exact slice_all (by rw [List.length_map, hfl])
end
end Go.AbsE

namespace Go.Proofs.Ytidfcmjlfadieaa
open Go Go.AbsE Go.ChangeShapes Go.WideShapes Go.ChangeAt Go.RowKit
set_option maxRecDepth 100000
set_option linter.unusedVariables false

/-! A bank, as it is handed to a law. -/
theorem cells25 : Try.prog.cellsOf 25 = 4 := by kernel_rfl
theorem cells3 : Try.prog.cellsOf 3 = 1 := by kernel_rfl
theorem cells57 : Try.prog.cellsOf 57 = 5 := by kernel_rfl
theorem cells52 : Try.prog.cellsOf 52 = 2 := by kernel_rfl
theorem cells40 : Try.prog.cellsOf 40 = 2 := by kernel_rfl
theorem ctypes25 : Try.prog.cellTypes Try.prog.depth 25 = some [3, 3, 22, 23] := by kernel_rfl
theorem laidOut : laidOutB Try.prog = true := by kernel_rfl

theorem wf_in {n : Int} (h : (Lit.int .i64 n).wf = true) : inI64 n := by
  simp only [Lit.wf, Bool.and_eq_true, decide_eq_true_eq] at h
  have h1 : IntKind.i64.min = -9223372036854775808 := by decide
  have h2 : IntKind.i64.max = 9223372036854775807 := by decide
  rw [h1, h2] at h
  constructor <;> omega
variable {H : Type} {enc : TypeId × Value → H} {W : World} {base : Nat} {spare : Nat → Bool} {held : Bool}
theorem int_row {n : Nat} {cs : List Value} {x : DataW H × List MemPlace} (h : DataW.trod enc Try.prog W base spare held n 3 cs = some x) : ∃ a : Int, cs = [.int .i64 a] ∧ inI64 a := by
  obtain ⟨a, h1, _, h3⟩ := DataW.trod_int Try.underlying3 h
  exact ⟨a, h1, wf_in h3⟩
theorem span_row {n : Nat} {cs : List Value} {x : DataW H × List MemPlace} (h : DataW.trod enc Try.prog W base spare held n 40 cs = some x) : ∃ a b : Int, cs = [.int .i64 a, .int .i64 b] := by
  obtain ⟨y0, y1, k, _, hl, h0, h1⟩ := ChangeShapes.trod_struct2 Try.underlying40 h
  rw [cells40] at hl
  dsimp only at h0 h1
  rw [cells3] at h0 h1
  obtain ⟨a, ha, _⟩ := int_row h0
  obtain ⟨b, hb, _⟩ := int_row h1
  match cs, hl with
  | [c0, c1], _ =>
    simp at ha hb
    exact ⟨a, b, by rw [ha, hb]⟩
theorem mark_row {n : Nat} {cs : List Value} {x : DataW H × List MemPlace} (h : DataW.trod enc Try.prog W base spare held n 52 cs = some x) : ∃ r : List Int, r.length = 2 ∧ cs = r.map fun x => Value.int .i64 x := by
  obtain ⟨y0, y1, k, _, hl, h0, h1⟩ := ChangeShapes.trod_struct2 Try.underlying52 h
  rw [cells52] at hl
  dsimp only at h0 h1
  rw [cells3] at h0 h1
  obtain ⟨a, ha, _⟩ := int_row h0
  obtain ⟨b, hb, _⟩ := int_row h1
  match cs, hl with
  | [c0, c1], _ =>
    simp at ha hb
    exact ⟨[a, b], rfl, by rw [ha, hb]; rfl⟩
theorem lease_row {n : Nat} {cs : List Value} {x : DataW H × List MemPlace} (h : DataW.trod enc Try.prog W base spare held n 57 cs = some x) : ∃ r : List Int, r.length = 5 ∧ cs = r.map fun x => Value.int .i64 x := by
  obtain ⟨xs, k, _, _, hl, _, hf⟩ := DataW.trod_struct Try.underlying57 h
  rw [cells57] at hl
  have h0 : DataW.trod enc Try.prog W base spare held k 3 ((cs.drop 0).take (Try.prog.cellsOf 3)) = xs[0]? := hf 0 _ rfl
  have h1 : DataW.trod enc Try.prog W base spare held k 40 ((cs.drop 1).take (Try.prog.cellsOf 40)) = xs[1]? := hf 1 _ rfl
  have h2 : DataW.trod enc Try.prog W base spare held k 40 ((cs.drop 3).take (Try.prog.cellsOf 40)) = xs[2]? := hf 2 _ rfl
  rw [cells3] at h0
  rw [cells40] at h1 h2
  have hx : xs.length = 3 := by assumption
  match xs, hx with
  | [x0, x1, x2], _ =>
    obtain ⟨a, ha, _⟩ := int_row (x := x0) h0
    obtain ⟨b, c, hb⟩ := span_row (x := x1) h1
    obtain ⟨d, e, hd⟩ := span_row (x := x2) h2
    match cs, hl with
    | [c0, c1, c2, c3, c4], _ =>
      simp at ha hb hd
      exact ⟨[a, b, c, d, e], rfl, by rw [ha, hb.1, hb.2, hd.1, hd.2]; rfl⟩

theorem slice_okw {t el : TypeId} {a : Addr} {len cap : Nat} {bs : Nat} (ht : Try.prog.underlying t = some (.slice el)) (h : Cell.okWide Try.prog W .any bs t (.slice (some a) len cap)) : a.spot = none ∧ ∃ C e fr, W.heap[a.block]? = some (.cells C e fr) := by
  unfold Cell.okWide at h
  rw [ht] at h
  dsimp only at h
  unfold Cell.ok at h
  rw [ht] at h
  dsimp only at h
  obtain ⟨_, _, _, h2, row, n, h3, _⟩ := h
  refine ⟨h2, ?_⟩
  unfold World.shape? at h3
  split at h3
  · rename_i c e fr hq
    exact ⟨c, e, fr, hq⟩
  · cases h3

/-- Rows of a slice, as windows. -/
theorem rows_of {t el : TypeId} {sz fuel : Nat} {c : Value} {y : DataW H × List MemPlace} {bs : Nat} (ht : Try.prog.underlying t = some (.slice el)) (hsz : Try.prog.cellsOf el = sz)
    (hrow : ∀ {n : Nat} {cs : List Value} {x : DataW H × List MemPlace}, DataW.trod enc Try.prog W 0 (fun _ => true) true n el cs = some x → ∃ r : List Int, r.length = sz ∧ cs = r.map fun x => Value.int .i64 x)
    (h : DataW.trod enc Try.prog W 0 (fun _ => true) true fuel t [c] = some y) (hok : Cell.okWide Try.prog W .any bs t c) {e : Env} {hh : AH} (r : HR Try.prog (Base.all W) e hh W) :
    ∃ e' h' s, ∃ R : List (List Int), Env.le e e' ∧ HR Try.prog (Base.all W) e' h' W ∧ Ext hh h' ∧ VR e' s c ∧ (∀ l, l ∈ R → l.length = sz) ∧ SliceOf h' sz s (R.map fun l => l.map fun x => AVal.int .i64 x) ∧ sameA s s = true := by
  rcases Deep.open_slice ht h with ⟨hcs, _⟩ | ⟨a, len, cap, m, n, D, Pl, hcs, _, hl, _, hmm, _, hx⟩
  · simp at hcs
    subst hcs
    exact ⟨e, hh, .nilslice, [], Env.le_refl e, r, Ext.refl _, .nilslice, (fun _ q => by cases q), .nil, rfl⟩
  · simp at hcs
    subst hcs
    obtain ⟨hs, C, el', fr, hB⟩ := slice_okw ht hok
    have hm : m = cap := by simpa using hmm
    have each : ∀ i, ∃ rr : List Int, i < len → rr.length = sz ∧ ∀ k n, rr[k]? = some n → W.cell? (a.add (i * sz + k)) = some (.int .i64 n) := by
      intro i
      by_cases hi : i < len
      · obtain ⟨cs', h1, h2⟩ := hx i (by omega)
        obtain ⟨rr, hr1, hr2⟩ := hrow h2
        rw [hsz] at h1
        obtain ⟨_, hlen, hc⟩ := World.cells?_some h1
        refine ⟨rr, fun _ => ⟨hr1, fun k n hk => ?_⟩⟩
        have hkl := (List.getElem?_eq_some_iff.1 hk).1
        have := hc k (by omega)
        obtain ⟨B, off, spot⟩ := a
        dsimp only at hs
        subst hs
        rw [addr_add, addr_add] at this
        rw [addr_add, ← Nat.add_assoc, this, hr2, List.getElem?_map, hk]
        rfl
      · exact ⟨[], fun q => absurd q hi⟩
    obtain ⟨f, hf⟩ := Classical.axiomOfChoice each
    obtain ⟨e', h', s, k1, k2, k3, k4, k5, k6⟩ := r.openRows (cap := cap) (len := len) hB hs f hf
    exact ⟨e', h', s, (List.range len).map f, k1, k2, k3, k4, fun l hl => by
      obtain ⟨i, hi, rfl⟩ := List.mem_map.1 hl
      exact (hf i (List.mem_range.1 hi)).1, k5, k6⟩

def toLease : List Int → LeaseV
  | [a, b, c, d, e] => ⟨a, b, c, d, e⟩
  | _ => ⟨0, 0, 0, 0, 0⟩
def toMark : List Int → MarkV
  | [a, b] => ⟨a, b⟩
  | _ => ⟨0, 0⟩
theorem leases_eq {R : List (List Int)} (h : ∀ l, l ∈ R → l.length = 5) : (R.map fun l => l.map fun x => AVal.int .i64 x) = (R.map toLease).map LeaseV.cells := by
  rw [List.map_map]
  refine List.map_congr_left fun l hl => ?_
  match l, h l hl with
  | [a, b, c, d, e], _ => rfl
theorem marks_eq {R : List (List Int)} (h : ∀ l, l ∈ R → l.length = 2) : (R.map fun l => l.map fun x => AVal.int .i64 x) = (R.map toMark).map MarkV.cells := by
  rw [List.map_map]
  refine List.map_congr_left fun l hl => ?_
  match l, h l hl with
  | [a, b], _ => rfl

/-- A bank that is handed over. -/
theorem bank_of {bs : Nat} {v : Value} {d : DataW H} {p : List MemPlace} (hv : Value.okWide Try.prog W .any bs 25 v) (h : DataW.Trod enc Try.prog W 0 (fun _ => true) true 25 v d p) {e : Env} {hh : AH} (r : HR Try.prog (Base.all W) e hh W) :
    ∃ e' h' np nb s m Ls Ms, Env.le e e' ∧ HR Try.prog (Base.all W) e' h' W ∧ Ext hh h' ∧ VR e' (.agg [.int .i64 np, .int .i64 nb, s, m]) v ∧ BankIn h' np nb s m Ls Ms := by
  have hv2 := hv
  obtain ⟨c0, c1, c2, c3, y0, y1, y2, y3, n, rfl, _, _, t0, t1, t2, t3⟩ := Joins.open_agg4 Try.underlying25 (by kernel_rfl) cells25 hv h
  dsimp only at t0 t1 t2 t3
  obtain ⟨np, e0, w0⟩ := int_row t0
  obtain ⟨nb, e1, w1⟩ := int_row t1
  simp at e0 e1
  subst e0 e1
  unfold Value.okWide at hv2
  rw [Try.underlying25] at hv2
  obtain ⟨cs, hcs, _, ts, hts, _, hrow⟩ := hv2
  injection hcs with hcs
  subst hcs
  rw [ctypes25] at hts
  cases hts
  obtain ⟨u2, hu2, ok2⟩ := hrow 2 c2 rfl
  obtain ⟨u3, hu3, ok3⟩ := hrow 3 c3 rfl
  cases hu2
  cases hu3
  obtain ⟨ea, ha, s, R, a1, a2, a3, a4, a5, a6, a7⟩ := rows_of Try.underlying22 cells57 lease_row t2 ok2 r
  obtain ⟨eb, hb, m, R', b1, b2, b3, b4, b5, b6, b7⟩ := rows_of Try.underlying23 cells52 mark_row t3 ok3 a2
  rw [leases_eq a5] at a6
  rw [marks_eq b5] at b6
  refine ⟨eb, hb, np, nb, s, m, R.map toLease, R'.map toMark, Env.le_trans a1 b1, b2, a3.trans b3, ?_, w0, w1, a6.ext b3, b6, a7, b7, b6.scal.2, b6.scal.1⟩
  exact .agg (CS := [_, _, _, _]) (.cons (.int _ _) (.cons (.int _ _) (.cons (a4.mono b1) (.cons b4 .nil))))
end Go.Proofs.Ytidfcmjlfadieaa
