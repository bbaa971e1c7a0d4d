import Derived.Test.YtkcimfopboelaaaGreatMAO
import Derived.Test.YtkcimfopboelaaaGreatMAH
namespace Go.Proofs.YtkcimfopboelaaaGreat
open Go Go.AbsE
set_option linter.unusedSimpArgs false
set_option maxRecDepth 100000
set_option maxHeartbeats 0
set_option linter.unusedVariables false
theorem bearsB_ok {R : RoadV} (O : R.Ok) {lo : Nat} {gp ge : AVal} {load : Int} {b1 : Nat} {br : Nat} {h : AH} (A : GroundAt h R lo gp ge) (f0 : Has h b1 (.cells .plain [.int .i64 load] 3)) (f2 : Has h br (.cells .plain [.int .i64 0] 3)) (hb1 : b1 ≠ br) :
  Runs Tryz.prog 66 [.agg [gp, ge], .ptr b1 0, .ptr br 0] h (fun en h'' => ExtF (fun b => b = br) h h'' ∧ Has h'' br (.cells .plain [.int .i64 (R.bearsR load).1] 3) ∧ (((R.bearsR load).2 = 0 ∧ en = .ret (.tuple [])) ∨ en = .pan (refusal (R.bearsR load).2))) := by
 have hne := O.ne
 have hnp := O.np
 have y0 : ExtF (fun b => b = br) h h := ExtF.of (Ext.refl _)
 have l0 := f0.1
 have l2 := f2.1
 unfold RoadV.bearsR
 rw [if_pos O]
 by_cases c2 : 0 ≤ load ∧ load ≤ 60
 ·rw [if_pos c2]
  cases c3 : R.possible with
  | true =>
   rw [if_pos rfl]
   have e0 : Ext h h := Ext.refl _
   refine Runs.intro aFunc66 rfl rfl rfl rfl fun rest => ?_
   refine Go.seq noJ_ok ?_
   refine Go.region noJ_ok rfl ?_
   refine GoR.box rfl rfl rfl rfl rfl rfl fun h3 x3 f3 => ?_
   have := e0.1
   have := f0.1
   have := f2.1
   replace f0 := f0.ext x3
   replace f2 := f2.ext x3
   replace e0 := e0.trans x3
   replace y0 := y0.ext x3
   have := f3.1
   refine GoR.end ?_
   refine Go.seq noJ_ok ?_
   refine Go.region noJ_ok rfl ?_
   refine GoR.op rfl rfl (ld3 rfl f0 rfl) rfl ?_
   refine GoR.call rfl rfl (aOp_callFunc aFunc60 rfl) (needLoad_yes c2) ?_ (by rintro _ _ ⟨q, _⟩; cases q)
   rintro v4 h4 ⟨q, x4⟩
   cases q
   refine ⟨_, rfl, ?_⟩
   replace f3 := f3.ext x4
   replace f0 := f0.ext x4
   replace f2 := f2.ext x4
   replace e0 := e0.trans x4
   replace y0 := y0.ext x4
   refine GoR.end ?_
   refine Go.drawnE plan66_0 ?_
   refine GoE.quiet rfl rfl (ld77 rfl f3 rfl) rfl ?_
   refine GoE.quiet rfl rfl (ld3 rfl f0 rfl) rfl ?_
   refine GoE.call rfl rfl (aOp_callFunc aFunc52 rfl) (truths_yes O c3 (A.ext e0)) (dropF_keep (show bit? 1 2 = false from rfl) (dropF_drop (show bit? 1 0 = true from rfl) rfl)) ?_ (by rintro _ _ ⟨bm, L, q, _, KK, e9⟩; cases q)
   rintro v5 h5 ⟨bm, L, q, x5, KK, e9⟩
   cases q
   have := e0.1
   have := f3.1
   have := f0.1
   have := f2.1
   replace f3 := f3.ext x5
   replace f0 := f0.ext x5
   replace f2 := f2.ext x5
   replace e0 := e0.trans x5
   replace y0 := y0.ext x5
   refine ⟨(rck (h2 := h5) rfl (ld3 rfl f0 rfl) recheck_nil), _, rfl, ?_⟩
   refine GoE.call rfl rfl (aOp_callFunc aFunc67 rfl) (bears67_ok O KK c2) (dropF_drop (show bit? 7 2 = true from rfl) rfl) ?_ (by rintro _ _ ⟨q, _⟩; cases q)
   rintro v6 h6 ⟨q, x6⟩
   cases q
   replace f3 := f3.ext x6
   replace f0 := f0.ext x6
   replace f2 := f2.ext x6
   replace e0 := e0.trans x6
   replace y0 := y0.ext x6
   refine ⟨recheck_nil, _, rfl, ?_⟩
   refine GoE.store rfl rfl rfl rfl rfl rfl rfl f2 rfl sz3 rfl rfl rfl fun h7 u7 => ?_
   replace f3 := f3.upd u7 (by omega)
   replace f0 := f0.upd u7 (by omega)
   replace f2 := u7.has f2
   clear e9
   clear e0
   replace y0 := y0.upd u7 (.inl rfl)
   refine ⟨recheck_nil, ?_⟩
   refine GoE.end rfl ?_
   exact Go.endL (FLeft.ret (v := .tuple []) (aResult_of Tryz.func66 rfl rfl) ⟨y0, f2, .inl ⟨rfl, rfl⟩⟩)
  | false =>
   rw [if_neg (by simp)]
   have e0 : Ext h h := Ext.refl _
   refine Runs.intro aFunc66 rfl rfl rfl rfl fun rest => ?_
   refine Go.seq noJ_ok ?_
   refine Go.region noJ_ok rfl ?_
   refine GoR.box rfl rfl rfl rfl rfl rfl fun h3 x3 f3 => ?_
   replace f0 := f0.ext x3
   replace f2 := f2.ext x3
   replace e0 := e0.trans x3
   replace y0 := y0.ext x3
   refine GoR.end ?_
   refine Go.seq noJ_ok ?_
   refine Go.region noJ_ok rfl ?_
   refine GoR.op rfl rfl (ld3 rfl f0 rfl) rfl ?_
   refine GoR.call rfl rfl (aOp_callFunc aFunc60 rfl) (needLoad_yes c2) ?_ (by rintro _ _ ⟨q, _⟩; cases q)
   rintro v4 h4 ⟨q, x4⟩
   cases q
   refine ⟨_, rfl, ?_⟩
   replace f3 := f3.ext x4
   replace f0 := f0.ext x4
   replace f2 := f2.ext x4
   replace e0 := e0.trans x4
   replace y0 := y0.ext x4
   refine GoR.end ?_
   refine Go.drawnE plan66_0 ?_
   refine GoE.quiet rfl rfl (ld77 rfl f3 rfl) rfl ?_
   refine GoE.quiet rfl rfl (ld3 rfl f0 rfl) rfl ?_
   refine GoE.callP rfl rfl (aOp_callFunc aFunc52 rfl) (truths_no O c3 (A.ext e0)) rfl (by rintro _ _ ⟨q, _⟩; cases q) ?_
   rintro chain h5 ⟨q, x5⟩
   have q := AEnd.pan.inj q
   subst q
   replace f2 := f2.ext x5
   replace y0 := y0.ext x5
   exact FLeft.pan (⟨y0, f2, .inr rfl⟩)
 ·rw [if_neg c2]
  have e0 : Ext h h := Ext.refl _
  refine Runs.intro aFunc66 rfl rfl rfl rfl fun rest => ?_
  refine Go.seq noJ_ok ?_
  refine Go.region noJ_ok rfl ?_
  refine GoR.box rfl rfl rfl rfl rfl rfl fun h3 x3 f3 => ?_
  replace f0 := f0.ext x3
  replace f2 := f2.ext x3
  replace y0 := y0.ext x3
  refine GoR.end ?_
  refine Go.seq noJ_ok ?_
  refine Go.region noJ_ok rfl ?_
  refine GoR.op rfl rfl (ld3 rfl f0 rfl) rfl ?_
  refine GoR.callP rfl rfl (aOp_callFunc aFunc60 rfl) (needLoad_no c2) (by rintro _ _ ⟨q, _⟩; cases q) ?_
  rintro chain h4 ⟨q, x4⟩
  have q := AEnd.pan.inj q
  subst q
  replace f2 := f2.ext x4
  replace y0 := y0.ext x4
  exact FLeft.pan (⟨y0, f2, .inr rfl⟩)
theorem Bears_ok {R : RoadV} {psl esl : AVal} {h : AH} (A : RoadAt h R psl esl) (hb1 : R.ps.length ≤ 40) (hb2 : R.es.length ≤ 40) (load : Int) :
  Runs Tryz.prog 19 [.agg [psl, esl], .int .i64 load] h (fun en h' => en = .ret (.tuple [.int .i64 (R.bearsR load).1, .int .i64 (R.bearsR load).2]) ∧ Ext h h') := by
 by_cases O : R.Ok
 ·have hB := fun {lo gp ge b1 br h} A => bearsB_ok O (load := load) (lo := lo) (gp := gp) (ge := ge) (b1 := b1) (br := br) (h := h) A
  obtain ⟨r, hr⟩ : ∃ r, R.bearsR load = r := ⟨_, rfl⟩
  rw [hr] at hB ⊢
  obtain ⟨r1, c⟩ := r
  have e0 : Ext h h := Ext.refl _
  refine Runs.intro aFunc19 rfl rfl rfl rfl fun rest => ?_
  refine Go.seq noJ_ok ?_
  refine Go.region noJ_ok rfl ?_
  refine GoR.box rfl rfl rfl rfl rfl rfl fun h0 x0 f0 => ?_
  have := e0.1
  replace e0 := e0.trans x0
  have := f0.1
  refine GoR.box rfl rfl rfl rfl rfl rfl fun h1 x1 f1 => ?_
  have := e0.1
  have := f0.1
  replace f0 := f0.ext x1
  replace e0 := e0.trans x1
  have := f1.1
  refine GoR.alloc rfl rfl rfl zt3 rfl rfl fun h2 x2 f2 => ?_
  have := e0.1
  have := f1.1
  have := f0.1
  replace f1 := f1.ext x2
  replace f0 := f0.ext x2
  replace e0 := e0.trans x2
  have := f2.1
  refine GoR.op rfl rfl rfl rfl ?_
  refine GoR.end ?_
  refine Go.seq noJ_ok ?_
  refine Go.region noJ_ok rfl ?_
  refine GoR.op rfl rfl (ld25 rfl f0 rfl) rfl ?_
  refine GoR.op rfl rfl rfl rfl ?_
  refine GoR.call rfl rfl (aOp_callFunc aFunc48 rfl) (attempt_sets O psl esl _ (A.ext e0) 66 _ aFunc66 _ (by simp [sameA, sameAs, eqI_eq]) h1.next (by omega) [.int .i64 r1] 3 c fun h' gp ge e g => hB g (f1.ext e) (f2.ext e) (by omega)) ?_ (by rintro _ _ ⟨q, _⟩; cases q)
  rintro v9 h9 ⟨q, y9, f9⟩
  cases q
  refine ⟨_, rfl, ?_⟩
  have z9 := y9.low e0 (fun b q => by omega)
  clear e0 y9 f2
  have e0 := z9
  refine GoR.op rfl rfl rfl rfl ?_
  refine GoR.end ?_
  refine Go.seq noJ_ok ?_
  refine Go.region noJ_ok rfl ?_
  refine GoR.op rfl rfl (ld3 rfl f9 rfl) rfl ?_
  refine GoR.op rfl rfl rfl rfl ?_
  refine GoR.store rfl rfl rfl rfl rfl rfl f9 rfl sz3 rfl rfl rfl fun h10 u10 => ?_
  replace f9 := u10.has f9
  replace e0 := e0.upd u10 (by omega)
  refine GoR.op rfl rfl rfl rfl ?_
  refine GoR.end ?_
  exact Go.ret noJ_ok (ret_end (aResult_of Tryz.func19 rfl (aResults_c rfl f9 (inCells_one ag3 rfl) rfl)) ⟨rfl, e0⟩)
 ·have hr : R.bearsR load = (0, 1) := by unfold RoadV.bearsR; rw [if_neg O]
  rw [hr]
  have e0 : Ext h h := Ext.refl _
  refine Runs.intro aFunc19 rfl rfl rfl rfl fun rest => ?_
  refine Go.seq noJ_ok ?_
  refine Go.region noJ_ok rfl ?_
  refine GoR.box rfl rfl rfl rfl rfl rfl fun h0 x0 f0 => ?_
  have := e0.1
  replace e0 := e0.trans x0
  have := f0.1
  refine GoR.box rfl rfl rfl rfl rfl rfl fun h1 x1 f1 => ?_
  have := e0.1
  have := f0.1
  replace f0 := f0.ext x1
  replace e0 := e0.trans x1
  have := f1.1
  refine GoR.alloc rfl rfl rfl zt3 rfl rfl fun h2 x2 f2 => ?_
  have := e0.1
  have := f1.1
  have := f0.1
  replace f0 := f0.ext x2
  replace e0 := e0.trans x2
  have := f2.1
  refine GoR.op rfl rfl rfl rfl ?_
  refine GoR.end ?_
  refine Go.seq noJ_ok ?_
  refine Go.region noJ_ok rfl ?_
  refine GoR.op rfl rfl (ld25 rfl f0 rfl) rfl ?_
  refine GoR.op rfl rfl rfl rfl ?_
  refine GoR.call rfl rfl (aOp_callFunc aFunc48 rfl) (attempt_bad O hb1 hb2 psl esl _ (A.ext e0) 66 _) ?_ (by rintro _ _ ⟨q, _⟩; cases q)
  rintro v3 h3 ⟨q, x3⟩
  cases q
  refine ⟨_, rfl, ?_⟩
  replace f2 := f2.ext x3
  replace e0 := e0.trans x3
  refine GoR.op rfl rfl rfl rfl ?_
  refine GoR.end ?_
  refine Go.seq noJ_ok ?_
  refine Go.region noJ_ok rfl ?_
  refine GoR.op rfl rfl (ld3 rfl f2 rfl) rfl ?_
  refine GoR.op rfl rfl rfl rfl ?_
  refine GoR.store rfl rfl rfl rfl rfl rfl f2 rfl sz3 rfl rfl rfl fun h4 u4 => ?_
  replace f2 := u4.has f2
  replace e0 := e0.upd u4 (by omega)
  refine GoR.op rfl rfl rfl rfl ?_
  refine GoR.end ?_
  exact Go.ret noJ_ok (ret_end (aResult_of Tryz.func19 rfl (aResults_c rfl f2 (inCells_one ag3 rfl) rfl)) ⟨rfl, e0⟩)
theorem restB_ok {R : RoadV} (O : R.Ok) {lo : Nat} {gp ge : AVal} {load : Int} {b1 : Nat} {br : Nat} {h : AH} (A : GroundAt h R lo gp ge) (f0 : Has h b1 (.cells .plain [.int .i64 load] 3)) (f2 : Has h br (.cells .plain [.int .i64 0] 3)) (hb1 : b1 ≠ br) :
  Runs Tryz.prog 75 [.agg [gp, ge], .ptr b1 0, .ptr br 0] h (fun en h'' => ExtF (fun b => b = br) h h'' ∧ Has h'' br (.cells .plain [.int .i64 (R.restR load).1] 3) ∧ (((R.restR load).2 = 0 ∧ en = .ret (.tuple [])) ∨ en = .pan (refusal (R.restR load).2))) := by
 have hne := O.ne
 have hnp := O.np
 have y0 : ExtF (fun b => b = br) h h := ExtF.of (Ext.refl _)
 have l0 := f0.1
 have l2 := f2.1
 unfold RoadV.restR
 rw [if_pos O]
 by_cases c2 : 0 ≤ load ∧ load ≤ 60
 ·rw [if_pos c2]
  cases c3 : R.possible with
  | true =>
   rw [if_pos rfl]
   have hr := fun {h9 lo bm L} K => rest_ok O (h := h9) (lo := lo) (bm := bm) (L := L) K c2
   cases c4 : restV R.known load with
   | none =>
    rw [c4] at hr
    have e0 : Ext h h := Ext.refl _
    refine Runs.intro aFunc75 rfl rfl rfl rfl fun rest => ?_
    refine Go.seq noJ_ok ?_
    refine Go.region noJ_ok rfl ?_
    refine GoR.box rfl rfl rfl rfl rfl rfl fun h3 x3 f3 => ?_
    have := e0.1
    have := f0.1
    have := f2.1
    replace f0 := f0.ext x3
    replace f2 := f2.ext x3
    replace e0 := e0.trans x3
    replace y0 := y0.ext x3
    have := f3.1
    refine GoR.end ?_
    refine Go.seq noJ_ok ?_
    refine Go.region noJ_ok rfl ?_
    refine GoR.op rfl rfl (ld3 rfl f0 rfl) rfl ?_
    refine GoR.call rfl rfl (aOp_callFunc aFunc60 rfl) (needLoad_yes c2) ?_ (by rintro _ _ ⟨q, _⟩; cases q)
    rintro v4 h4 ⟨q, x4⟩
    cases q
    refine ⟨_, rfl, ?_⟩
    replace f3 := f3.ext x4
    replace f0 := f0.ext x4
    replace f2 := f2.ext x4
    replace e0 := e0.trans x4
    replace y0 := y0.ext x4
    refine GoR.end ?_
    refine Go.drawnE plan75_0 ?_
    refine GoE.quiet rfl rfl (ld77 rfl f3 rfl) rfl ?_
    refine GoE.quiet rfl rfl (ld3 rfl f0 rfl) rfl ?_
    refine GoE.call rfl rfl (aOp_callFunc aFunc52 rfl) (truths_yes O c3 (A.ext e0)) (dropF_keep (show bit? 1 2 = false from rfl) (dropF_drop (show bit? 1 0 = true from rfl) rfl)) ?_ (by rintro _ _ ⟨bm, L, q, _, KK, e9⟩; cases q)
    rintro v5 h5 ⟨bm, L, q, x5, KK, e9⟩
    cases q
    have := e0.1
    have := f3.1
    have := f0.1
    have := f2.1
    replace f3 := f3.ext x5
    replace f0 := f0.ext x5
    replace f2 := f2.ext x5
    replace e0 := e0.trans x5
    replace y0 := y0.ext x5
    refine ⟨(rck (h2 := h5) rfl (ld3 rfl f0 rfl) recheck_nil), _, rfl, ?_⟩
    refine GoE.callP rfl rfl (aOp_callFunc aFunc76 rfl) (hr KK) rfl (by rintro _ _ ⟨q, _⟩; cases q) ?_
    rintro chain h6 ⟨q, x6⟩
    have q := AEnd.pan.inj q
    subst q
    replace f3 := f3.ext x6
    replace f0 := f0.ext x6
    replace f2 := f2.ext x6
    replace e9 := e9.trans x6
    replace e0 := e0.trans x6
    replace y0 := y0.ext x6
    exact FLeft.pan (⟨y0, f2, .inr rfl⟩)
   | some l =>
    rw [c4] at hr
    have e0 : Ext h h := Ext.refl _
    refine Runs.intro aFunc75 rfl rfl rfl rfl fun rest => ?_
    refine Go.seq noJ_ok ?_
    refine Go.region noJ_ok rfl ?_
    refine GoR.box rfl rfl rfl rfl rfl rfl fun h3 x3 f3 => ?_
    have := e0.1
    have := f0.1
    have := f2.1
    replace f0 := f0.ext x3
    replace f2 := f2.ext x3
    replace e0 := e0.trans x3
    replace y0 := y0.ext x3
    have := f3.1
    refine GoR.end ?_
    refine Go.seq noJ_ok ?_
    refine Go.region noJ_ok rfl ?_
    refine GoR.op rfl rfl (ld3 rfl f0 rfl) rfl ?_
    refine GoR.call rfl rfl (aOp_callFunc aFunc60 rfl) (needLoad_yes c2) ?_ (by rintro _ _ ⟨q, _⟩; cases q)
    rintro v4 h4 ⟨q, x4⟩
    cases q
    refine ⟨_, rfl, ?_⟩
    replace f3 := f3.ext x4
    replace f0 := f0.ext x4
    replace f2 := f2.ext x4
    replace e0 := e0.trans x4
    replace y0 := y0.ext x4
    refine GoR.end ?_
    refine Go.drawnE plan75_0 ?_
    refine GoE.quiet rfl rfl (ld77 rfl f3 rfl) rfl ?_
    refine GoE.quiet rfl rfl (ld3 rfl f0 rfl) rfl ?_
    refine GoE.call rfl rfl (aOp_callFunc aFunc52 rfl) (truths_yes O c3 (A.ext e0)) (dropF_keep (show bit? 1 2 = false from rfl) (dropF_drop (show bit? 1 0 = true from rfl) rfl)) ?_ (by rintro _ _ ⟨bm, L, q, _, KK, e9⟩; cases q)
    rintro v5 h5 ⟨bm, L, q, x5, KK, e9⟩
    cases q
    have := e0.1
    have := f3.1
    have := f0.1
    have := f2.1
    replace f3 := f3.ext x5
    replace f0 := f0.ext x5
    replace f2 := f2.ext x5
    replace e0 := e0.trans x5
    replace y0 := y0.ext x5
    refine ⟨(rck (h2 := h5) rfl (ld3 rfl f0 rfl) recheck_nil), _, rfl, ?_⟩
    refine GoE.call rfl rfl (aOp_callFunc aFunc76 rfl) (hr KK) (dropF_drop (show bit? 7 2 = true from rfl) rfl) ?_ (by rintro _ _ ⟨q, _⟩; cases q)
    rintro v6 h6 ⟨q, x6⟩
    cases q
    replace f3 := f3.ext x6
    replace f0 := f0.ext x6
    replace f2 := f2.ext x6
    replace e0 := e0.trans x6
    replace y0 := y0.ext x6
    refine ⟨recheck_nil, _, rfl, ?_⟩
    refine GoE.store rfl rfl rfl rfl rfl rfl rfl f2 rfl sz3 rfl rfl rfl fun h7 u7 => ?_
    replace f3 := f3.upd u7 (by omega)
    replace f0 := f0.upd u7 (by omega)
    replace f2 := u7.has f2
    clear e9
    clear e0
    replace y0 := y0.upd u7 (.inl rfl)
    refine ⟨recheck_nil, ?_⟩
    refine GoE.end rfl ?_
    exact Go.endL (FLeft.ret (v := .tuple []) (aResult_of Tryz.func75 rfl rfl) ⟨y0, f2, .inl ⟨rfl, rfl⟩⟩)
  | false =>
   rw [if_neg (by simp)]
   have e0 : Ext h h := Ext.refl _
   refine Runs.intro aFunc75 rfl rfl rfl rfl fun rest => ?_
   refine Go.seq noJ_ok ?_
   refine Go.region noJ_ok rfl ?_
   refine GoR.box rfl rfl rfl rfl rfl rfl fun h3 x3 f3 => ?_
   replace f0 := f0.ext x3
   replace f2 := f2.ext x3
   replace e0 := e0.trans x3
   replace y0 := y0.ext x3
   refine GoR.end ?_
   refine Go.seq noJ_ok ?_
   refine Go.region noJ_ok rfl ?_
   refine GoR.op rfl rfl (ld3 rfl f0 rfl) rfl ?_
   refine GoR.call rfl rfl (aOp_callFunc aFunc60 rfl) (needLoad_yes c2) ?_ (by rintro _ _ ⟨q, _⟩; cases q)
   rintro v4 h4 ⟨q, x4⟩
   cases q
   refine ⟨_, rfl, ?_⟩
   replace f3 := f3.ext x4
   replace f0 := f0.ext x4
   replace f2 := f2.ext x4
   replace e0 := e0.trans x4
   replace y0 := y0.ext x4
   refine GoR.end ?_
   refine Go.drawnE plan75_0 ?_
   refine GoE.quiet rfl rfl (ld77 rfl f3 rfl) rfl ?_
   refine GoE.quiet rfl rfl (ld3 rfl f0 rfl) rfl ?_
   refine GoE.callP rfl rfl (aOp_callFunc aFunc52 rfl) (truths_no O c3 (A.ext e0)) rfl (by rintro _ _ ⟨q, _⟩; cases q) ?_
   rintro chain h5 ⟨q, x5⟩
   have q := AEnd.pan.inj q
   subst q
   replace f2 := f2.ext x5
   replace y0 := y0.ext x5
   exact FLeft.pan (⟨y0, f2, .inr rfl⟩)
 ·rw [if_neg c2]
  have e0 : Ext h h := Ext.refl _
  refine Runs.intro aFunc75 rfl rfl rfl rfl fun rest => ?_
  refine Go.seq noJ_ok ?_
  refine Go.region noJ_ok rfl ?_
  refine GoR.box rfl rfl rfl rfl rfl rfl fun h3 x3 f3 => ?_
  replace f0 := f0.ext x3
  replace f2 := f2.ext x3
  replace y0 := y0.ext x3
  refine GoR.end ?_
  refine Go.seq noJ_ok ?_
  refine Go.region noJ_ok rfl ?_
  refine GoR.op rfl rfl (ld3 rfl f0 rfl) rfl ?_
  refine GoR.callP rfl rfl (aOp_callFunc aFunc60 rfl) (needLoad_no c2) (by rintro _ _ ⟨q, _⟩; cases q) ?_
  rintro chain h4 ⟨q, x4⟩
  have q := AEnd.pan.inj q
  subst q
  replace f2 := f2.ext x4
  replace y0 := y0.ext x4
  exact FLeft.pan (⟨y0, f2, .inr rfl⟩)
theorem Rest_ok {R : RoadV} {psl esl : AVal} {h : AH} (A : RoadAt h R psl esl) (hb1 : R.ps.length ≤ 40) (hb2 : R.es.length ≤ 40) (load : Int) :
  Runs Tryz.prog 26 [.agg [psl, esl], .int .i64 load] h (fun en h' => en = .ret (.tuple [.int .i64 (R.restR load).1, .int .i64 (R.restR load).2]) ∧ Ext h h') := by
 by_cases O : R.Ok
 ·have hB := fun {lo gp ge b1 br h} A => restB_ok O (load := load) (lo := lo) (gp := gp) (ge := ge) (b1 := b1) (br := br) (h := h) A
  obtain ⟨r, hr⟩ : ∃ r, R.restR load = r := ⟨_, rfl⟩
  rw [hr] at hB ⊢
  obtain ⟨r1, c⟩ := r
  have e0 : Ext h h := Ext.refl _
  refine Runs.intro aFunc26 rfl rfl rfl rfl fun rest => ?_
  refine Go.seq noJ_ok ?_
  refine Go.region noJ_ok rfl ?_
  refine GoR.box rfl rfl rfl rfl rfl rfl fun h0 x0 f0 => ?_
  have := e0.1
  replace e0 := e0.trans x0
  have := f0.1
  refine GoR.box rfl rfl rfl rfl rfl rfl fun h1 x1 f1 => ?_
  have := e0.1
  have := f0.1
  replace f0 := f0.ext x1
  replace e0 := e0.trans x1
  have := f1.1
  refine GoR.alloc rfl rfl rfl zt3 rfl rfl fun h2 x2 f2 => ?_
  have := e0.1
  have := f1.1
  have := f0.1
  replace f1 := f1.ext x2
  replace f0 := f0.ext x2
  replace e0 := e0.trans x2
  have := f2.1
  refine GoR.op rfl rfl rfl rfl ?_
  refine GoR.end ?_
  refine Go.seq noJ_ok ?_
  refine Go.region noJ_ok rfl ?_
  refine GoR.op rfl rfl (ld25 rfl f0 rfl) rfl ?_
  refine GoR.op rfl rfl rfl rfl ?_
  refine GoR.call rfl rfl (aOp_callFunc aFunc48 rfl) (attempt_sets O psl esl _ (A.ext e0) 75 _ aFunc75 _ (by simp [sameA, sameAs, eqI_eq]) h1.next (by omega) [.int .i64 r1] 3 c fun h' gp ge e g => hB g (f1.ext e) (f2.ext e) (by omega)) ?_ (by rintro _ _ ⟨q, _⟩; cases q)
  rintro v9 h9 ⟨q, y9, f9⟩
  cases q
  refine ⟨_, rfl, ?_⟩
  have z9 := y9.low e0 (fun b q => by omega)
  clear e0 y9 f2
  have e0 := z9
  refine GoR.op rfl rfl rfl rfl ?_
  refine GoR.end ?_
  refine Go.seq noJ_ok ?_
  refine Go.region noJ_ok rfl ?_
  refine GoR.op rfl rfl (ld3 rfl f9 rfl) rfl ?_
  refine GoR.op rfl rfl rfl rfl ?_
  refine GoR.store rfl rfl rfl rfl rfl rfl f9 rfl sz3 rfl rfl rfl fun h10 u10 => ?_
  replace f9 := u10.has f9
  replace e0 := e0.upd u10 (by omega)
  refine GoR.op rfl rfl rfl rfl ?_
  refine GoR.end ?_
  exact Go.ret noJ_ok (ret_end (aResult_of Tryz.func26 rfl (aResults_c rfl f9 (inCells_one ag3 rfl) rfl)) ⟨rfl, e0⟩)
 ·have hr : R.restR load = (0, 1) := by unfold RoadV.restR; rw [if_neg O]
  rw [hr]
  have e0 : Ext h h := Ext.refl _
  refine Runs.intro aFunc26 rfl rfl rfl rfl fun rest => ?_
  refine Go.seq noJ_ok ?_
  refine Go.region noJ_ok rfl ?_
  refine GoR.box rfl rfl rfl rfl rfl rfl fun h0 x0 f0 => ?_
  have := e0.1
  replace e0 := e0.trans x0
  have := f0.1
  refine GoR.box rfl rfl rfl rfl rfl rfl fun h1 x1 f1 => ?_
  have := e0.1
  have := f0.1
  replace f0 := f0.ext x1
  replace e0 := e0.trans x1
  have := f1.1
  refine GoR.alloc rfl rfl rfl zt3 rfl rfl fun h2 x2 f2 => ?_
  have := e0.1
  have := f1.1
  have := f0.1
  replace f0 := f0.ext x2
  replace e0 := e0.trans x2
  have := f2.1
  refine GoR.op rfl rfl rfl rfl ?_
  refine GoR.end ?_
  refine Go.seq noJ_ok ?_
  refine Go.region noJ_ok rfl ?_
  refine GoR.op rfl rfl (ld25 rfl f0 rfl) rfl ?_
  refine GoR.op rfl rfl rfl rfl ?_
  refine GoR.call rfl rfl (aOp_callFunc aFunc48 rfl) (attempt_bad O hb1 hb2 psl esl _ (A.ext e0) 75 _) ?_ (by rintro _ _ ⟨q, _⟩; cases q)
  rintro v3 h3 ⟨q, x3⟩
  cases q
  refine ⟨_, rfl, ?_⟩
  replace f2 := f2.ext x3
  replace e0 := e0.trans x3
  refine GoR.op rfl rfl rfl rfl ?_
  refine GoR.end ?_
  refine Go.seq noJ_ok ?_
  refine Go.region noJ_ok rfl ?_
  refine GoR.op rfl rfl (ld3 rfl f2 rfl) rfl ?_
  refine GoR.op rfl rfl rfl rfl ?_
  refine GoR.store rfl rfl rfl rfl rfl rfl f2 rfl sz3 rfl rfl rfl fun h4 u4 => ?_
  replace f2 := u4.has f2
  replace e0 := e0.upd u4 (by omega)
  refine GoR.op rfl rfl rfl rfl ?_
  refine GoR.end ?_
  exact Go.ret noJ_ok (ret_end (aResult_of Tryz.func26 rfl (aResults_c rfl f2 (inCells_one ag3 rfl) rfl)) ⟨rfl, e0⟩)
theorem mostB_ok {R : RoadV} (O : R.Ok) {lo : Nat} {gp ge : AVal} {br : Nat} {h : AH} (A : GroundAt h R lo gp ge) (f2 : Has h br (.cells .plain [.int .i64 0] 3)) :
  Runs Tryz.prog 73 [.agg [gp, ge], .ptr br 0] h (fun en h'' => ExtF (fun b => b = br) h h'' ∧ Has h'' br (.cells .plain [.int .i64 (R.mostR).1] 3) ∧ (((R.mostR).2 = 0 ∧ en = .ret (.tuple [])) ∨ en = .pan (refusal (R.mostR).2))) := by
 have hne := O.ne
 have hnp := O.np
 have y0 : ExtF (fun b => b = br) h h := ExtF.of (Ext.refl _)
 skip
 have l2 := f2.1
 unfold RoadV.mostR
 rw [if_pos O]
 cases c3 : R.possible with
 | true =>
  rw [if_pos rfl]
  have hr := fun {h9 lo bm L} K => most_ok O (h := h9) (lo := lo) (bm := bm) (L := L) K
  cases c4 : mostV R.known with
  | none =>
   rw [c4] at hr
   have e0 : Ext h h := Ext.refl _
   refine Runs.intro aFunc73 rfl rfl rfl rfl fun rest => ?_
   refine Go.seq noJ_ok ?_
   refine Go.region noJ_ok rfl ?_
   refine GoR.box rfl rfl rfl rfl rfl rfl fun h3 x3 f3 => ?_
   have := e0.1
   have := f2.1
   replace f2 := f2.ext x3
   replace e0 := e0.trans x3
   replace y0 := y0.ext x3
   have := f3.1
   refine GoR.end ?_
   refine Go.region noJ_ok rfl ?_
   refine GoR.op rfl rfl (ld77 rfl f3 rfl) rfl ?_
   refine GoR.call rfl rfl (aOp_callFunc aFunc52 rfl) (truths_yes O c3 (A.ext e0)) ?_ (by rintro _ _ ⟨bm, L, q, _, KK, e9⟩; cases q)
   rintro v4 h4 ⟨bm, L, q, x4, KK, e9⟩
   cases q
   refine ⟨_, rfl, ?_⟩
   have := e0.1
   replace f3 := f3.ext x4
   replace f2 := f2.ext x4
   replace e0 := e0.trans x4
   replace y0 := y0.ext x4
   refine GoR.callP rfl rfl (aOp_callFunc aFunc74 rfl) (hr KK) (by rintro _ _ ⟨q, _⟩; cases q) ?_
   rintro chain h5 ⟨q, x5⟩
   have q := AEnd.pan.inj q
   subst q
   replace f3 := f3.ext x5
   replace f2 := f2.ext x5
   replace e9 := e9.trans x5
   replace e0 := e0.trans x5
   replace y0 := y0.ext x5
   exact FLeft.pan (⟨y0, f2, .inr rfl⟩)
  | some l =>
   rw [c4] at hr
   have e0 : Ext h h := Ext.refl _
   refine Runs.intro aFunc73 rfl rfl rfl rfl fun rest => ?_
   refine Go.seq noJ_ok ?_
   refine Go.region noJ_ok rfl ?_
   refine GoR.box rfl rfl rfl rfl rfl rfl fun h3 x3 f3 => ?_
   have := e0.1
   have := f2.1
   replace f2 := f2.ext x3
   replace e0 := e0.trans x3
   replace y0 := y0.ext x3
   have := f3.1
   refine GoR.end ?_
   refine Go.region noJ_ok rfl ?_
   refine GoR.op rfl rfl (ld77 rfl f3 rfl) rfl ?_
   refine GoR.call rfl rfl (aOp_callFunc aFunc52 rfl) (truths_yes O c3 (A.ext e0)) ?_ (by rintro _ _ ⟨bm, L, q, _, KK, e9⟩; cases q)
   rintro v4 h4 ⟨bm, L, q, x4, KK, e9⟩
   cases q
   refine ⟨_, rfl, ?_⟩
   have := e0.1
   replace f3 := f3.ext x4
   replace f2 := f2.ext x4
   replace e0 := e0.trans x4
   replace y0 := y0.ext x4
   refine GoR.call rfl rfl (aOp_callFunc aFunc74 rfl) (hr KK) ?_ (by rintro _ _ ⟨q, _⟩; cases q)
   rintro v5 h5 ⟨q, x5⟩
   cases q
   refine ⟨_, rfl, ?_⟩
   replace f3 := f3.ext x5
   replace f2 := f2.ext x5
   replace e0 := e0.trans x5
   replace y0 := y0.ext x5
   refine GoR.store rfl rfl rfl rfl rfl rfl f2 rfl sz3 rfl rfl rfl fun h6 u6 => ?_
   replace f3 := f3.upd u6 (by omega)
   replace f2 := u6.has f2
   clear e9
   clear e0
   replace y0 := y0.upd u6 (.inl rfl)
   refine GoR.end ?_
   exact Go.endL (FLeft.ret (v := .tuple []) (aResult_of Tryz.func73 rfl rfl) ⟨y0, f2, .inl ⟨rfl, rfl⟩⟩)
 | false =>
  rw [if_neg (by simp)]
  have e0 : Ext h h := Ext.refl _
  refine Runs.intro aFunc73 rfl rfl rfl rfl fun rest => ?_
  refine Go.seq noJ_ok ?_
  refine Go.region noJ_ok rfl ?_
  refine GoR.box rfl rfl rfl rfl rfl rfl fun h3 x3 f3 => ?_
  replace f2 := f2.ext x3
  replace e0 := e0.trans x3
  replace y0 := y0.ext x3
  refine GoR.end ?_
  refine Go.region noJ_ok rfl ?_
  refine GoR.op rfl rfl (ld77 rfl f3 rfl) rfl ?_
  refine GoR.callP rfl rfl (aOp_callFunc aFunc52 rfl) (truths_no O c3 (A.ext e0)) (by rintro _ _ ⟨q, _⟩; cases q) ?_
  rintro chain h4 ⟨q, x4⟩
  have q := AEnd.pan.inj q
  subst q
  replace f2 := f2.ext x4
  replace y0 := y0.ext x4
  exact FLeft.pan (⟨y0, f2, .inr rfl⟩)
theorem Most_ok {R : RoadV} {psl esl : AVal} {h : AH} (A : RoadAt h R psl esl) (hb1 : R.ps.length ≤ 40) (hb2 : R.es.length ≤ 40) :
  Runs Tryz.prog 24 [.agg [psl, esl]] h (fun en h' => en = .ret (.tuple [.int .i64 (R.mostR).1, .int .i64 (R.mostR).2]) ∧ Ext h h') := by
 by_cases O : R.Ok
 ·have hB := fun {lo gp ge br h} A => mostB_ok O (lo := lo) (gp := gp) (ge := ge) (br := br) (h := h) A
  obtain ⟨r, hr⟩ : ∃ r, R.mostR = r := ⟨_, rfl⟩
  rw [hr] at hB ⊢
  obtain ⟨r1, c⟩ := r
  have e0 : Ext h h := Ext.refl _
  refine Runs.intro aFunc24 rfl rfl rfl rfl fun rest => ?_
  refine Go.seq noJ_ok ?_
  refine Go.region noJ_ok rfl ?_
  refine GoR.box rfl rfl rfl rfl rfl rfl fun h0 x0 f0 => ?_
  have := e0.1
  replace e0 := e0.trans x0
  have := f0.1
  refine GoR.alloc rfl rfl rfl zt3 rfl rfl fun h1 x1 f1 => ?_
  have := e0.1
  have := f0.1
  replace f0 := f0.ext x1
  replace e0 := e0.trans x1
  have := f1.1
  refine GoR.op rfl rfl rfl rfl ?_
  refine GoR.end ?_
  refine Go.seq noJ_ok ?_
  refine Go.region noJ_ok rfl ?_
  refine GoR.op rfl rfl (ld25 rfl f0 rfl) rfl ?_
  refine GoR.op rfl rfl rfl rfl ?_
  refine GoR.call rfl rfl (aOp_callFunc aFunc48 rfl) (attempt_sets O psl esl _ (A.ext e0) 73 _ aFunc73 _ (by simp [sameA, sameAs, eqI_eq]) h0.next (by omega) [.int .i64 r1] 3 c fun h' gp ge e g => hB g (f1.ext e)) ?_ (by rintro _ _ ⟨q, _⟩; cases q)
  rintro v9 h9 ⟨q, y9, f9⟩
  cases q
  refine ⟨_, rfl, ?_⟩
  have z9 := y9.low e0 (fun b q => by omega)
  clear e0 y9 f1
  have e0 := z9
  refine GoR.op rfl rfl rfl rfl ?_
  refine GoR.end ?_
  refine Go.seq noJ_ok ?_
  refine Go.region noJ_ok rfl ?_
  refine GoR.op rfl rfl (ld3 rfl f9 rfl) rfl ?_
  refine GoR.op rfl rfl rfl rfl ?_
  refine GoR.store rfl rfl rfl rfl rfl rfl f9 rfl sz3 rfl rfl rfl fun h10 u10 => ?_
  replace f9 := u10.has f9
  replace e0 := e0.upd u10 (by omega)
  refine GoR.op rfl rfl rfl rfl ?_
  refine GoR.end ?_
  exact Go.ret noJ_ok (ret_end (aResult_of Tryz.func24 rfl (aResults_c rfl f9 (inCells_one ag3 rfl) rfl)) ⟨rfl, e0⟩)
 ·have hr : R.mostR = (0, 1) := by unfold RoadV.mostR; rw [if_neg O]
  rw [hr]
  have e0 : Ext h h := Ext.refl _
  refine Runs.intro aFunc24 rfl rfl rfl rfl fun rest => ?_
  refine Go.seq noJ_ok ?_
  refine Go.region noJ_ok rfl ?_
  refine GoR.box rfl rfl rfl rfl rfl rfl fun h0 x0 f0 => ?_
  have := e0.1
  replace e0 := e0.trans x0
  have := f0.1
  refine GoR.alloc rfl rfl rfl zt3 rfl rfl fun h1 x1 f1 => ?_
  have := e0.1
  have := f0.1
  replace f0 := f0.ext x1
  replace e0 := e0.trans x1
  have := f1.1
  refine GoR.op rfl rfl rfl rfl ?_
  refine GoR.end ?_
  refine Go.seq noJ_ok ?_
  refine Go.region noJ_ok rfl ?_
  refine GoR.op rfl rfl (ld25 rfl f0 rfl) rfl ?_
  refine GoR.op rfl rfl rfl rfl ?_
  refine GoR.call rfl rfl (aOp_callFunc aFunc48 rfl) (attempt_bad O hb1 hb2 psl esl _ (A.ext e0) 73 _) ?_ (by rintro _ _ ⟨q, _⟩; cases q)
  rintro v2 h2 ⟨q, x2⟩
  cases q
  refine ⟨_, rfl, ?_⟩
  replace f1 := f1.ext x2
  replace e0 := e0.trans x2
  refine GoR.op rfl rfl rfl rfl ?_
  refine GoR.end ?_
  refine Go.seq noJ_ok ?_
  refine Go.region noJ_ok rfl ?_
  refine GoR.op rfl rfl (ld3 rfl f1 rfl) rfl ?_
  refine GoR.op rfl rfl rfl rfl ?_
  refine GoR.store rfl rfl rfl rfl rfl rfl f1 rfl sz3 rfl rfl rfl fun h3 u3 => ?_
  replace f1 := u3.has f1
  replace e0 := e0.upd u3 (by omega)
  refine GoR.op rfl rfl rfl rfl ?_
  refine GoR.end ?_
  exact Go.ret noJ_ok (ret_end (aResult_of Tryz.func24 rfl (aResults_c rfl f1 (inCells_one ag3 rfl) rfl)) ⟨rfl, e0⟩)
theorem weak_no {R : RoadV} (O : R.Ok) (hp : R.possible = false) {lo : Nat} {gp ge : AVal} {h : AH} (A : GroundAt h R lo gp ge) : Runs Tryz.prog 78 [.agg [gp, ge]] h (fun en h' => en = .pan (refusal 10) ∧ Ext h h') := by
 have e0 : Ext h h := Ext.refl _
 refine Runs.intro aFunc78 rfl rfl rfl rfl fun rest => ?_
 refine Go.seq noJ_ok ?_
 refine Go.region noJ_ok rfl ?_
 refine GoR.box rfl rfl rfl rfl rfl rfl fun h0 x0 f0 => ?_
 replace e0 := e0.trans x0
 refine GoR.op rfl rfl rfl rfl ?_
 refine GoR.end ?_
 refine Go.seq noJ_ok ?_
 refine Go.region noJ_ok rfl ?_
 refine GoR.op rfl rfl (ld77 rfl f0 rfl) rfl ?_
 refine GoR.callP rfl rfl (aOp_callFunc aFunc52 rfl) (truths_no O hp (A.ext e0)) (by rintro _ _ ⟨q, _⟩; cases q) ?_
 rintro chain h1 ⟨q, x1⟩
 have q := AEnd.pan.inj q
 subst q
 replace e0 := e0.trans x1
 exact FLeft.pan (⟨rfl, e0⟩)
theorem below_no {R : RoadV} (O : R.Ok) (hp : R.possible = false) {lo : Nat} {gp ge : AVal} {h : AH} (A : GroundAt h R lo gp ge) : Runs Tryz.prog 70 [.agg [gp, ge]] h (fun en h' => en = .pan (refusal 10) ∧ Ext h h') := by
 have e0 : Ext h h := Ext.refl _
 refine Runs.intro aFunc70 rfl rfl rfl rfl fun rest => ?_
 refine Go.seq noJ_ok ?_
 refine Go.region noJ_ok rfl ?_
 refine GoR.box rfl rfl rfl rfl rfl rfl fun h0 x0 f0 => ?_
 replace e0 := e0.trans x0
 iterate 2 refine GoR.op rfl rfl rfl rfl ?_
 refine GoR.end ?_
 refine Go.seq noJ_ok ?_
 refine Go.region noJ_ok rfl ?_
 refine GoR.op rfl rfl (ld77 rfl f0 rfl) rfl ?_
 refine GoR.callP rfl rfl (aOp_callFunc aFunc52 rfl) (truths_no O hp (A.ext e0)) (by rintro _ _ ⟨q, _⟩; cases q) ?_
 rintro chain h1 ⟨q, x1⟩
 have q := AEnd.pan.inj q
 subst q
 replace e0 := e0.trans x1
 exact FLeft.pan (⟨rfl, e0⟩)
theorem weakB_ok {R : RoadV} (O : R.Ok) {lo : Nat} {gp ge : AVal} {br : Nat} {h : AH} (A : GroundAt h R lo gp ge) (f2 : Has h br (.cells .plain [.int .i64 0] 3)) :
  Runs Tryz.prog 77 [.agg [gp, ge], .ptr br 0] h (fun en h'' => ExtF (fun b => b = br) h h'' ∧ Has h'' br (.cells .plain [.int .i64 (R.weakR).1] 3) ∧ (((R.weakR).2 = 0 ∧ en = .ret (.tuple [])) ∨ en = .pan (refusal (R.weakR).2))) := by
 have hne := O.ne
 have hnp := O.np
 have y0 : ExtF (fun b => b = br) h h := ExtF.of (Ext.refl _)
 skip
 have l2 := f2.1
 unfold RoadV.weakR
 rw [if_pos O]
 cases c3 : R.possible with
 | true =>
  rw [if_pos rfl]
  have e0 : Ext h h := Ext.refl _
  refine Runs.intro aFunc77 rfl rfl rfl rfl fun rest => ?_
  refine Go.seq noJ_ok ?_
  refine Go.region noJ_ok rfl ?_
  refine GoR.box rfl rfl rfl rfl rfl rfl fun h3 x3 f3 => ?_
  have := e0.1
  have := f2.1
  replace f2 := f2.ext x3
  replace e0 := e0.trans x3
  replace y0 := y0.ext x3
  have := f3.1
  refine GoR.end ?_
  refine Go.region noJ_ok rfl ?_
  refine GoR.op rfl rfl (ld77 rfl f3 rfl) rfl ?_
  refine GoR.call rfl rfl (aOp_callFunc aFunc78 rfl) (weak_ok O c3 (A.ext e0)) ?_ (by rintro _ _ ⟨q, _⟩; cases q)
  rintro v4 h4 ⟨q, x4⟩
  cases q
  refine ⟨_, rfl, ?_⟩
  replace f3 := f3.ext x4
  replace f2 := f2.ext x4
  replace e0 := e0.trans x4
  replace y0 := y0.ext x4
  refine GoR.store rfl rfl rfl rfl rfl rfl f2 rfl sz3 rfl rfl rfl fun h5 u5 => ?_
  replace f3 := f3.upd u5 (by omega)
  replace f2 := u5.has f2
  clear e0
  replace y0 := y0.upd u5 (.inl rfl)
  refine GoR.end ?_
  exact Go.endL (FLeft.ret (v := .tuple []) (aResult_of Tryz.func77 rfl rfl) ⟨y0, f2, .inl ⟨rfl, rfl⟩⟩)
 | false =>
  rw [if_neg (by simp)]
  have e0 : Ext h h := Ext.refl _
  refine Runs.intro aFunc77 rfl rfl rfl rfl fun rest => ?_
  refine Go.seq noJ_ok ?_
  refine Go.region noJ_ok rfl ?_
  refine GoR.box rfl rfl rfl rfl rfl rfl fun h3 x3 f3 => ?_
  replace f2 := f2.ext x3
  replace e0 := e0.trans x3
  replace y0 := y0.ext x3
  refine GoR.end ?_
  refine Go.region noJ_ok rfl ?_
  refine GoR.op rfl rfl (ld77 rfl f3 rfl) rfl ?_
  refine GoR.callP rfl rfl (aOp_callFunc aFunc78 rfl) (weak_no O c3 (A.ext e0)) (by rintro _ _ ⟨q, _⟩; cases q) ?_
  rintro chain h4 ⟨q, x4⟩
  have q := AEnd.pan.inj q
  subst q
  replace f2 := f2.ext x4
  replace y0 := y0.ext x4
  exact FLeft.pan (⟨y0, f2, .inr rfl⟩)
theorem Weak_ok {R : RoadV} {psl esl : AVal} {h : AH} (A : RoadAt h R psl esl) (hb1 : R.ps.length ≤ 40) (hb2 : R.es.length ≤ 40) :
  Runs Tryz.prog 28 [.agg [psl, esl]] h (fun en h' => en = .ret (.tuple [.int .i64 (R.weakR).1, .int .i64 (R.weakR).2]) ∧ Ext h h') := by
 by_cases O : R.Ok
 ·have hB := fun {lo gp ge br h} A => weakB_ok O (lo := lo) (gp := gp) (ge := ge) (br := br) (h := h) A
  obtain ⟨r, hr⟩ : ∃ r, R.weakR = r := ⟨_, rfl⟩
  rw [hr] at hB ⊢
  obtain ⟨r1, c⟩ := r
  have e0 : Ext h h := Ext.refl _
  refine Runs.intro aFunc28 rfl rfl rfl rfl fun rest => ?_
  refine Go.seq noJ_ok ?_
  refine Go.region noJ_ok rfl ?_
  refine GoR.box rfl rfl rfl rfl rfl rfl fun h0 x0 f0 => ?_
  have := e0.1
  replace e0 := e0.trans x0
  have := f0.1
  refine GoR.alloc rfl rfl rfl zt3 rfl rfl fun h1 x1 f1 => ?_
  have := e0.1
  have := f0.1
  replace f0 := f0.ext x1
  replace e0 := e0.trans x1
  have := f1.1
  refine GoR.op rfl rfl rfl rfl ?_
  refine GoR.end ?_
  refine Go.seq noJ_ok ?_
  refine Go.region noJ_ok rfl ?_
  refine GoR.op rfl rfl (ld25 rfl f0 rfl) rfl ?_
  refine GoR.op rfl rfl rfl rfl ?_
  refine GoR.call rfl rfl (aOp_callFunc aFunc48 rfl) (attempt_sets O psl esl _ (A.ext e0) 77 _ aFunc77 _ (by simp [sameA, sameAs, eqI_eq]) h0.next (by omega) [.int .i64 r1] 3 c fun h' gp ge e g => hB g (f1.ext e)) ?_ (by rintro _ _ ⟨q, _⟩; cases q)
  rintro v9 h9 ⟨q, y9, f9⟩
  cases q
  refine ⟨_, rfl, ?_⟩
  have z9 := y9.low e0 (fun b q => by omega)
  clear e0 y9 f1
  have e0 := z9
  refine GoR.op rfl rfl rfl rfl ?_
  refine GoR.end ?_
  refine Go.seq noJ_ok ?_
  refine Go.region noJ_ok rfl ?_
  refine GoR.op rfl rfl (ld3 rfl f9 rfl) rfl ?_
  refine GoR.op rfl rfl rfl rfl ?_
  refine GoR.store rfl rfl rfl rfl rfl rfl f9 rfl sz3 rfl rfl rfl fun h10 u10 => ?_
  replace f9 := u10.has f9
  replace e0 := e0.upd u10 (by omega)
  refine GoR.op rfl rfl rfl rfl ?_
  refine GoR.end ?_
  exact Go.ret noJ_ok (ret_end (aResult_of Tryz.func28 rfl (aResults_c rfl f9 (inCells_one ag3 rfl) rfl)) ⟨rfl, e0⟩)
 ·have hr : R.weakR = (0, 1) := by unfold RoadV.weakR; rw [if_neg O]
  rw [hr]
  have e0 : Ext h h := Ext.refl _
  refine Runs.intro aFunc28 rfl rfl rfl rfl fun rest => ?_
  refine Go.seq noJ_ok ?_
  refine Go.region noJ_ok rfl ?_
  refine GoR.box rfl rfl rfl rfl rfl rfl fun h0 x0 f0 => ?_
  have := e0.1
  replace e0 := e0.trans x0
  have := f0.1
  refine GoR.alloc rfl rfl rfl zt3 rfl rfl fun h1 x1 f1 => ?_
  have := e0.1
  have := f0.1
  replace f0 := f0.ext x1
  replace e0 := e0.trans x1
  have := f1.1
  refine GoR.op rfl rfl rfl rfl ?_
  refine GoR.end ?_
  refine Go.seq noJ_ok ?_
  refine Go.region noJ_ok rfl ?_
  refine GoR.op rfl rfl (ld25 rfl f0 rfl) rfl ?_
  refine GoR.op rfl rfl rfl rfl ?_
  refine GoR.call rfl rfl (aOp_callFunc aFunc48 rfl) (attempt_bad O hb1 hb2 psl esl _ (A.ext e0) 77 _) ?_ (by rintro _ _ ⟨q, _⟩; cases q)
  rintro v2 h2 ⟨q, x2⟩
  cases q
  refine ⟨_, rfl, ?_⟩
  replace f1 := f1.ext x2
  replace e0 := e0.trans x2
  refine GoR.op rfl rfl rfl rfl ?_
  refine GoR.end ?_
  refine Go.seq noJ_ok ?_
  refine Go.region noJ_ok rfl ?_
  refine GoR.op rfl rfl (ld3 rfl f1 rfl) rfl ?_
  refine GoR.op rfl rfl rfl rfl ?_
  refine GoR.store rfl rfl rfl rfl rfl rfl f1 rfl sz3 rfl rfl rfl fun h3 u3 => ?_
  replace f1 := u3.has f1
  replace e0 := e0.upd u3 (by omega)
  refine GoR.op rfl rfl rfl rfl ?_
  refine GoR.end ?_
  exact Go.ret noJ_ok (ret_end (aResult_of Tryz.func28 rfl (aResults_c rfl f1 (inCells_one ag3 rfl) rfl)) ⟨rfl, e0⟩)
end Go.Proofs.YtkcimfopboelaaaGreat

namespace Go.Proofs.YtkcimfopboelaaaGreat
open Go Go.AbsE
set_option linter.unusedSimpArgs false
set_option maxRecDepth 100000
set_option maxHeartbeats 0
set_option linter.unusedVariables false
theorem belowB_ok {R : RoadV} (O : R.Ok) {lo : Nat} {gp ge : AVal} {b1 b2 : Nat} {h : AH} (A : GroundAt h R lo gp ge) (f0 : Has h b1 (.cells .plain [.int .i64 0] 3)) (f1 : Has h b2 (.cells .plain [.int .i64 0] 3)) (hb1 : b1 ≠ b2) :
  Runs Tryz.prog 69 [.agg [gp, ge], .ptr b1 0, .ptr b2 0] h (fun en h'' => ExtF (fun b => b = b1 ∨ b = b2) h h'' ∧ Has h'' b1 (.cells .plain [.int .i64 (R.belowR.1.1 : Nat)] 3) ∧ Has h'' b2 (.cells .plain [.int .i64 (R.belowR.1.2 : Nat)] 3) ∧ ((R.belowR.2 = 0 ∧ en = .ret (.tuple [])) ∨ en = .pan (refusal R.belowR.2))) := by
 have y0 : ExtF (fun b => b = b1 ∨ b = b2) h h := ExtF.of (Ext.refl _)
 have l0 := f0.1
 have l2 := f1.1
 unfold RoadV.belowR
 rw [if_pos O]
 cases c3 : R.possible with
 | true =>
  rw [if_pos rfl]
  have e0 : Ext h h := Ext.refl _
  refine Runs.intro aFunc69 rfl rfl rfl rfl fun rest => ?_
  refine Go.seq noJ_ok ?_
  refine Go.region noJ_ok rfl ?_
  refine GoR.box rfl rfl rfl rfl rfl rfl fun h2 x2 f2 => ?_
  have := e0.1
  have := f0.1
  have := f1.1
  replace f0 := f0.ext x2
  replace f1 := f1.ext x2
  replace e0 := e0.trans x2
  replace y0 := y0.ext x2
  have := f2.1
  refine GoR.end ?_
  refine Go.region noJ_ok rfl ?_
  refine GoR.op rfl rfl (ld77 rfl f2 rfl) rfl ?_
  refine GoR.call rfl rfl (aOp_callFunc aFunc70 rfl) (below_ok O c3 (A.ext e0)) ?_ (by rintro _ _ ⟨q, _⟩; cases q)
  rintro v3 h3 ⟨q, x3⟩
  cases q
  refine ⟨_, rfl, ?_⟩
  replace f2 := f2.ext x3
  replace f0 := f0.ext x3
  replace f1 := f1.ext x3
  replace e0 := e0.trans x3
  replace y0 := y0.ext x3
  iterate 3 refine GoR.op rfl rfl rfl rfl ?_
  refine GoR.store rfl rfl rfl rfl rfl rfl f0 rfl sz3 rfl rfl rfl fun h4 u4 => ?_
  replace f2 := f2.upd u4 (by omega)
  replace f0 := u4.has f0
  replace f1 := f1.upd u4 (by omega)
  clear e0
  replace y0 := y0.upd u4 (by omega)
  refine GoR.store rfl rfl rfl rfl rfl rfl f1 rfl sz3 rfl rfl rfl fun h5 u5 => ?_
  replace f2 := f2.upd u5 (by omega)
  replace f0 := f0.upd u5 (by omega)
  replace f1 := u5.has f1
  replace y0 := y0.upd u5 (by omega)
  refine GoR.end ?_
  exact Go.endL (FLeft.ret (v := .tuple []) (aResult_of Tryz.func69 rfl rfl) ⟨y0, f0, f1, .inl ⟨rfl, rfl⟩⟩)
 | false =>
  rw [if_neg (by simp)]
  have e0 : Ext h h := Ext.refl _
  refine Runs.intro aFunc69 rfl rfl rfl rfl fun rest => ?_
  refine Go.seq noJ_ok ?_
  refine Go.region noJ_ok rfl ?_
  refine GoR.box rfl rfl rfl rfl rfl rfl fun h2 x2 f2 => ?_
  replace f0 := f0.ext x2
  replace f1 := f1.ext x2
  replace e0 := e0.trans x2
  replace y0 := y0.ext x2
  refine GoR.end ?_
  refine Go.region noJ_ok rfl ?_
  refine GoR.op rfl rfl (ld77 rfl f2 rfl) rfl ?_
  refine GoR.callP rfl rfl (aOp_callFunc aFunc70 rfl) (below_no O c3 (A.ext e0)) (by rintro _ _ ⟨q, _⟩; cases q) ?_
  rintro chain h3 ⟨q, x3⟩
  have q := AEnd.pan.inj q
  subst q
  replace f0 := f0.ext x3
  replace f1 := f1.ext x3
  replace y0 := y0.ext x3
  exact FLeft.pan (⟨y0, f0, f1, .inr rfl⟩)
theorem Below_ok {R : RoadV} {psl esl : AVal} {h : AH} (A : RoadAt h R psl esl) (hb1 : R.ps.length ≤ 40) (hb2 : R.es.length ≤ 40) :
  Runs Tryz.prog 21 [.agg [psl, esl]] h (fun en h' => en = .ret (.tuple [.int .i64 (R.belowR.1.1 : Nat), .int .i64 (R.belowR.1.2 : Nat), .int .i64 R.belowR.2]) ∧ Ext h h') := by
 by_cases O : R.Ok
 ·have hB := fun {lo gp ge b1 b2 h} A => belowB_ok O (lo := lo) (gp := gp) (ge := ge) (b1 := b1) (b2 := b2) (h := h) A
  obtain ⟨r, hr⟩ : ∃ r, R.belowR = r := ⟨_, rfl⟩
  rw [hr] at hB ⊢
  obtain ⟨⟨r1, r2⟩, c⟩ := r
  dsimp only at hB ⊢
  have e0 : Ext h h := Ext.refl _
  refine Runs.intro aFunc21 rfl rfl rfl rfl fun rest => ?_
  refine Go.seq noJ_ok ?_
  refine Go.region noJ_ok rfl ?_
  refine GoR.box rfl rfl rfl rfl rfl rfl fun h0 x0 f0 => ?_
  have := e0.1
  replace e0 := e0.trans x0
  have := f0.1
  refine GoR.alloc rfl rfl rfl zt3 rfl rfl fun h1 x1 f1 => ?_
  have := e0.1
  have := f0.1
  replace f0 := f0.ext x1
  replace e0 := e0.trans x1
  have := f1.1
  refine GoR.alloc rfl rfl rfl zt3 rfl rfl fun h2 x2 f2 => ?_
  have := e0.1
  have := f1.1
  have := f0.1
  replace f1 := f1.ext x2
  replace f0 := f0.ext x2
  replace e0 := e0.trans x2
  have := f2.1
  refine GoR.op rfl rfl rfl rfl ?_
  refine GoR.end ?_
  refine Go.seq noJ_ok ?_
  refine Go.region noJ_ok rfl ?_
  refine GoR.op rfl rfl (ld25 rfl f0 rfl) rfl ?_
  refine GoR.op rfl rfl rfl rfl ?_
  refine GoR.call rfl rfl (aOp_callFunc aFunc48 rfl) (attempt_ok O psl esl _ (A.ext e0) 69 _ aFunc69 _ (by simp [sameA, sameAs, eqI_eq]) (fun b => b = h0.next ∨ b = h1.next) (fun b q => by rcases q with rfl | rfl <;> omega) (fun c' h' => c' = c ∧ Has h' h0.next (.cells .plain [.int .i64 (r1 : Nat)] 3) ∧ Has h' h1.next (.cells .plain [.int .i64 (r2 : Nat)] 3)) fun h' gp ge e g => (hB g (f1.ext e) (f2.ext e) (by omega)).mono fun en h'' ⟨x, g1, g2, q⟩ => ⟨x, q.elim (fun q => .inl ⟨q.2, q.1.symm, g1, g2⟩) fun q => .inr ⟨c, q, rfl, g1, g2⟩⟩) ?_ (by rintro _ _ ⟨_, _, q, _⟩; cases q)
  rintro v9 h9 ⟨c', h2', q, ⟨hc, g1, g2⟩, y9, le, same⟩
  cases q
  subst hc
  refine ⟨_, rfl, ?_⟩
  have z9 := y9.low e0 (fun b q => by omega)
  have f9 := g1.keep le (same _ f1.1)
  have f10 := g2.keep le (same _ f2.1)
  clear e0 y9 f1 f2 g1 g2
  have e0 := z9
  refine GoR.op rfl rfl rfl rfl ?_
  refine GoR.end ?_
  refine Go.seq noJ_ok ?_
  refine Go.drawnE plan21_0 ?_
  refine GoE.quiet rfl rfl (ld3 rfl f9 rfl) rfl ?_
  refine GoE.quiet rfl rfl (ld3 rfl f10 rfl) rfl ?_
  refine GoE.quiet rfl rfl rfl rfl ?_
  refine GoE.store rfl rfl rfl rfl (dropF_keep (show bit? 1 2 = false from rfl) (dropF_keep (show bit? 1 1 = false from rfl) (dropF_drop (show bit? 1 0 = true from rfl) rfl))) rfl rfl f9 rfl sz3 rfl rfl rfl fun h11 u11 => ?_
  replace f9 := u11.has f9
  replace f10 := f10.upd u11 (by omega)
  replace e0 := e0.upd u11 (by omega)
  refine ⟨(rck (h2 := h11) rfl (rfl) (rck (h2 := h11) rfl (ld3 rfl f10 rfl) recheck_nil)), ?_⟩
  refine GoE.store rfl rfl rfl rfl (dropF_keep (show bit? 11 2 = false from rfl) (dropF_drop (show bit? 11 1 = true from rfl) rfl)) rfl rfl f10 rfl sz3 rfl rfl rfl fun h12 u12 => ?_
  replace f9 := f9.upd u12 (by omega)
  replace f10 := u12.has f10
  replace e0 := e0.upd u12 (by omega)
  refine ⟨(rck (h2 := h12) rfl (rfl) recheck_nil), ?_⟩
  refine GoE.quiet rfl rfl rfl rfl ?_
  refine GoE.end rfl ?_
  exact Go.ret noJ_ok (ret_end (aResult_of Tryz.func21 rfl (aResults_c rfl f9 (inCells_one ag3 rfl) (aResults_c rfl f10 (inCells_one ag3 rfl) rfl))) ⟨rfl, e0⟩)
 ·have hr : R.belowR = ((0, 0), 1) := by unfold RoadV.belowR; rw [if_neg O]
  rw [hr]
  have e0 : Ext h h := Ext.refl _
  refine Runs.intro aFunc21 rfl rfl rfl rfl fun rest => ?_
  refine Go.seq noJ_ok ?_
  refine Go.region noJ_ok rfl ?_
  refine GoR.box rfl rfl rfl rfl rfl rfl fun h0 x0 f0 => ?_
  have := e0.1
  replace e0 := e0.trans x0
  have := f0.1
  refine GoR.alloc rfl rfl rfl zt3 rfl rfl fun h1 x1 f1 => ?_
  have := e0.1
  have := f0.1
  replace f0 := f0.ext x1
  replace e0 := e0.trans x1
  have := f1.1
  refine GoR.alloc rfl rfl rfl zt3 rfl rfl fun h2 x2 f2 => ?_
  have := e0.1
  have := f1.1
  have := f0.1
  replace f1 := f1.ext x2
  replace f0 := f0.ext x2
  replace e0 := e0.trans x2
  have := f2.1
  refine GoR.op rfl rfl rfl rfl ?_
  refine GoR.end ?_
  refine Go.seq noJ_ok ?_
  refine Go.region noJ_ok rfl ?_
  refine GoR.op rfl rfl (ld25 rfl f0 rfl) rfl ?_
  refine GoR.op rfl rfl rfl rfl ?_
  refine GoR.call rfl rfl (aOp_callFunc aFunc48 rfl) (attempt_bad O hb1 hb2 psl esl _ (A.ext e0) 69 _) ?_ (by rintro _ _ ⟨q, _⟩; cases q)
  rintro v3 h3 ⟨q, x3⟩
  cases q
  refine ⟨_, rfl, ?_⟩
  replace f2 := f2.ext x3
  replace f1 := f1.ext x3
  replace e0 := e0.trans x3
  refine GoR.op rfl rfl rfl rfl ?_
  refine GoR.end ?_
  refine Go.seq noJ_ok ?_
  refine Go.drawnE plan21_0 ?_
  refine GoE.quiet rfl rfl (ld3 rfl f1 rfl) rfl ?_
  refine GoE.quiet rfl rfl (ld3 rfl f2 rfl) rfl ?_
  refine GoE.quiet rfl rfl rfl rfl ?_
  refine GoE.store rfl rfl rfl rfl (dropF_keep (show bit? 1 2 = false from rfl) (dropF_keep (show bit? 1 1 = false from rfl) (dropF_drop (show bit? 1 0 = true from rfl) rfl))) rfl rfl f1 rfl sz3 rfl rfl rfl fun h4 u4 => ?_
  replace f2 := f2.upd u4 (by omega)
  replace f1 := u4.has f1
  replace e0 := e0.upd u4 (by omega)
  refine ⟨(rck (h2 := h4) rfl (rfl) (rck (h2 := h4) rfl (ld3 rfl f2 rfl) recheck_nil)), ?_⟩
  refine GoE.store rfl rfl rfl rfl (dropF_keep (show bit? 11 2 = false from rfl) (dropF_drop (show bit? 11 1 = true from rfl) rfl)) rfl rfl f2 rfl sz3 rfl rfl rfl fun h5 u5 => ?_
  replace f2 := u5.has f2
  replace f1 := f1.upd u5 (by omega)
  replace e0 := e0.upd u5 (by omega)
  refine ⟨(rck (h2 := h5) rfl (rfl) recheck_nil), ?_⟩
  refine GoE.quiet rfl rfl rfl rfl ?_
  refine GoE.end rfl ?_
  exact Go.ret noJ_ok (ret_end (aResult_of Tryz.func21 rfl (aResults_c rfl f1 (inCells_one ag3 rfl) (aResults_c rfl f2 (inCells_one ag3 rfl) rfl))) ⟨rfl, e0⟩)
end Go.Proofs.YtkcimfopboelaaaGreat

namespace Go.Proofs.YtkcimfopboelaaaGreat
open Go Go.AbsE
set_option linter.unusedSimpArgs false
set_option maxRecDepth 100000
set_option maxHeartbeats 0
set_option linter.unusedVariables false
theorem evC_scal (e : EV) : scalars [evC e] = true := by
 unfold evC
 split
 ·rfl
 ·split <;> rfl
theorem evs_scal : ∀ L : List EV, scalars (L.map evC) = true
 | [] => rfl
 | x :: L => by
  have h1 := evC_scal x
  have h2 := evs_scal L
  show cond (scalar (evC x)) (scalars (L.map evC)) false = true
  have : scalar (evC x) = true := by
   unfold evC
   split
   ·rfl
   ·split <;> rfl
  rw [this, h2]
  rfl
theorem looks_ok {R : RoadV} (O : R.Ok) {lo : Nat} {gp ge : AVal} {h : AH} (A : GroundAt h R lo gp ge) : Runs Tryz.prog 121 [.agg [gp, ge]] h (fun en h' => en = .ret (.int .i64 (looksV R.es : Nat)) ∧ Ext h h') := by
 have hne := O.ne
 have hE := A.esl
 have hlenE := hE.len
 rw [List.length_map] at hlenE
 obtain ⟨P1, hP0, hP1⟩ : ∃ P : Nat → Bool, looksV R.es = bitsV R.es.length P ∧ ∀ i e, R.es[i]? = some e → P i = lookB e := ⟨_, rfl, fun i e h => by simp only [h]⟩
 rw [hP0]
 have e0 : Ext h h := Ext.refl _
 refine Runs.intro aFunc121 rfl rfl rfl rfl fun rest => ?_
 refine Go.seq noJ_ok ?_
 refine Go.region noJ_ok rfl ?_
 refine GoR.box rfl rfl rfl rfl rfl rfl fun h0 x0 f0 => ?_
 have := e0.1
 replace e0 := e0.trans x0
 have := f0.1
 refine GoR.op rfl rfl rfl rfl ?_
 refine GoR.end ?_
 refine Go.seq noJ_ok ?_
 refine Go.region noJ_ok rfl ?_
 refine GoR.op rfl rfl rfl rfl ?_
 refine GoR.end ?_
 iterate 2 refine Go.seq noJ_ok ?_
 refine Go.region noJ_ok rfl ?_
 refine GoR.op rfl rfl (fa77_1 rfl) rfl ?_
 refine GoR.op rfl rfl (ld75 rfl f0 rfl) rfl ?_
 refine GoR.op rfl rfl (aOp_lenSlice Tryz.underlying75 rfl (by assumption)) rfl ?_
 refine GoR.op rfl rfl rfl rfl ?_
 refine GoR.end ?_
 refine Go.block noJ_ok ?_
 have hb0 := f0.1
 refine Go.loopKeep (fun i : Nat => [(1, .ptr h.next 0), (3, .int .i64 (bitsV i P1 : Nat)), (9, ge), (10, .int .i64 R.es.length), (11, .int .i64 (i : Nat))])
  (fun m i h' => m + i = R.es.length ∧ Ext h h') (n := R.es.length) 0 ⟨rfl, rfl, rfl, rfl, rfl, trivial⟩ ⟨rfl, e0⟩ ?_
 clear e0 f0
 rintro m i hc ⟨hm, e0⟩ again
 have n0 := e0.1
 by_cases hi : i < R.es.length
 ·obtain ⟨e, he⟩ : ∃ e, R.es[i]? = some e := ⟨R.es[i], by simp [hi]⟩
  have heO := O.e e (List.mem_of_getElem? he)
  obtain ⟨bq, off, q1, q2⟩ := hE.at (i := i) (l := [evC e]) (by rw [List.getElem?_map, he]; rfl)
  rw [List.length_map] at q1
  have hi10 : i < 10 := by omega
  have hps := pow_small hi10
  have b1 := bitsV_lt P1 i
  have s1 := bitsV_succ i P1
  have c1 : P1 i = lookB e := hP1 i e he
  obtain ⟨B1, hB1⟩ : ∃ B, bitsV i P1 = B := ⟨_, rfl⟩
  obtain ⟨w, hw⟩ : ∃ w, 2 ^ i = w := ⟨_, rfl⟩
  have hsh : (1 : Int) * 2 ^ i = ((w : Nat) : Int) := by rw [← hw]; simp
  rw [hB1] at b1 s1
  rw [hw] at b1 s1 hps
  rw [hB1]
  by_cases k2 : e.kind = 2
  ·have hv : evC e = .iface 166 (.agg [.int .i64 0, .int .i64 e.part, .int .i64 e.wl, .int .i64 e.wh]) := by unfold evC; rw [if_neg (by omega), if_neg (by omega)]
   rw [hv] at q2
   rw [show lookB e = true from decide_eq_true k2] at c1
   rw [c1, if_pos rfl] at s1
   refine Go.seq noJ_ok ?_
   refine Go.region noJ_ok rfl ?_
   refine GoR.op rfl rfl (aOp_lss rfl rfl (r := true) (decide_eq_true (by omega))) rfl ?_
   refine GoR.end ?_
   refine Go.seq noJ_ok ?_
   refine Go.cond noJ_ok (b := true) rfl ?_
   refine Go.code noJ_ok ?_
   refine Go.seq noJ_ok ?_
   refine Go.block noJ_ok ?_
   refine Go.seq noJ_ok ?_
   refine Go.region noJ_ok rfl ?_
   refine GoR.op rfl rfl rfl rfl ?_
   refine GoR.op rfl rfl (aOp_indexAddr (i := i) Tryz.underlying75 sz169 rfl (by assumption) rfl (Nat.ble_eq_true_of_le (by omega))) rfl ?_
   refine GoR.op rfl rfl ((aOp_loadE1 (k := 0) ag169 rfl (q2.ext (by assumption)) rfl)) rfl ?_
   iterate 2 refine GoR.op rfl rfl rfl rfl ?_
   refine GoR.end ?_
   refine Go.seq noJ_ok ?_
   refine Go.region noJ_ok rfl ?_
   iterate 5 refine GoR.op rfl rfl rfl rfl ?_
   refine GoR.alloc rfl rfl rfl zt166 rfl rfl fun h1 x1 f1 => ?_
   have := e0.1
   replace e0 := e0.trans x1
   have := f1.1
   refine GoR.store rfl rfl rfl rfl rfl rfl f1 rfl sz166 rfl rfl rfl fun h2 u2 => ?_
   replace e0 := e0.upd u2 (by omega)
   refine GoR.op rfl rfl rfl rfl ?_
   refine GoR.end ?_
   refine Go.seq noJ_ok ?_
   refine Go.region noJ_ok rfl ?_
   refine GoR.op rfl rfl rfl rfl ?_
   refine GoR.end ?_
   refine Go.cond noJ_ok (b := true) rfl ?_
   refine Go.region noJ_ok rfl ?_
   iterate 2 refine GoR.op rfl rfl rfl rfl ?_
   refine GoR.op rfl rfl (aOp_shl rfl rfl (i := i) (by omega) hsh (by omega)) rfl ?_
   refine GoR.op rfl rfl (aOp_orNat rfl rfl (by omega) (by omega) rfl) rfl ?_
   refine GoR.op rfl rfl rfl rfl ?_
   refine GoR.end ?_
   refine Go.inBlock noJ_ok ?_
   refine Go.region noJ_ok rfl ?_
   refine GoR.op rfl rfl (aOp_add rfl rfl (by constructor <;> omega) rfl) rfl ?_
   refine GoR.op rfl rfl rfl rfl ?_
   refine GoR.end ?_
   exact again (m - 1) (i + 1) _ _ (by omega) ⟨rfl, by rw [s1]; rfl, rfl, rfl, rfl, trivial⟩ ⟨by omega, e0⟩
  ·rw [show lookB e = false from decide_eq_false k2] at c1
   rw [c1, if_neg (by simp)] at s1
   by_cases k0 : e.kind = 0
   ·have hv : evC e = .iface 162 (.agg [.int .i64 e.ll, .int .i64 e.lh]) := if_pos k0
    rw [hv] at q2
    refine Go.seq noJ_ok ?_
    refine Go.region noJ_ok rfl ?_
    refine GoR.op rfl rfl (aOp_lss rfl rfl (r := true) (decide_eq_true (by omega))) rfl ?_
    refine GoR.end ?_
    refine Go.seq noJ_ok ?_
    refine Go.cond noJ_ok (b := true) rfl ?_
    refine Go.code noJ_ok ?_
    refine Go.seq noJ_ok ?_
    refine Go.block noJ_ok ?_
    refine Go.seq noJ_ok ?_
    refine Go.region noJ_ok rfl ?_
    refine GoR.op rfl rfl rfl rfl ?_
    refine GoR.op rfl rfl (aOp_indexAddr (i := i) Tryz.underlying75 sz169 rfl (by assumption) rfl (Nat.ble_eq_true_of_le (by omega))) rfl ?_
    refine GoR.op rfl rfl ((aOp_loadE1 (k := 0) ag169 rfl (q2.ext (by assumption)) rfl)) rfl ?_
    iterate 2 refine GoR.op rfl rfl rfl rfl ?_
    refine GoR.end ?_
    refine Go.seq noJ_ok ?_
    refine Go.region noJ_ok rfl ?_
    iterate 5 refine GoR.op rfl rfl rfl rfl ?_
    refine GoR.alloc rfl rfl rfl zt166 rfl rfl fun h1 x1 f1 => ?_
    have := e0.1
    replace e0 := e0.trans x1
    have := f1.1
    refine GoR.store rfl rfl rfl rfl rfl rfl f1 rfl sz166 rfl rfl rfl fun h2 u2 => ?_
    replace e0 := e0.upd u2 (by omega)
    refine GoR.op rfl rfl rfl rfl ?_
    refine GoR.end ?_
    refine Go.seq noJ_ok ?_
    refine Go.region noJ_ok rfl ?_
    refine GoR.op rfl rfl rfl rfl ?_
    refine GoR.end ?_
    refine Go.cond noJ_ok (b := false) rfl ?_
    refine Go.code noJ_ok ?_
    refine Go.inBlock noJ_ok ?_
    refine Go.region noJ_ok rfl ?_
    refine GoR.op rfl rfl (aOp_add rfl rfl (by constructor <;> omega) rfl) rfl ?_
    refine GoR.op rfl rfl rfl rfl ?_
    refine GoR.end ?_
    exact again (m - 1) (i + 1) _ _ (by omega) ⟨rfl, by rw [s1]; rfl, rfl, rfl, rfl, trivial⟩ ⟨by omega, e0⟩
   ·have k1 : e.kind = 1 := by rcases heO with q | q | q <;> omega
    have hv : evC e = .iface 164 (.agg [.int .i64 e.days]) := by unfold evC; rw [if_neg k0, if_pos k1]
    rw [hv] at q2
    refine Go.seq noJ_ok ?_
    refine Go.region noJ_ok rfl ?_
    refine GoR.op rfl rfl (aOp_lss rfl rfl (r := true) (decide_eq_true (by omega))) rfl ?_
    refine GoR.end ?_
    refine Go.seq noJ_ok ?_
    refine Go.cond noJ_ok (b := true) rfl ?_
    refine Go.code noJ_ok ?_
    refine Go.seq noJ_ok ?_
    refine Go.block noJ_ok ?_
    refine Go.seq noJ_ok ?_
    refine Go.region noJ_ok rfl ?_
    refine GoR.op rfl rfl rfl rfl ?_
    refine GoR.op rfl rfl (aOp_indexAddr (i := i) Tryz.underlying75 sz169 rfl (by assumption) rfl (Nat.ble_eq_true_of_le (by omega))) rfl ?_
    refine GoR.op rfl rfl ((aOp_loadE1 (k := 0) ag169 rfl (q2.ext (by assumption)) rfl)) rfl ?_
    iterate 2 refine GoR.op rfl rfl rfl rfl ?_
    refine GoR.end ?_
    refine Go.seq noJ_ok ?_
    refine Go.region noJ_ok rfl ?_
    iterate 5 refine GoR.op rfl rfl rfl rfl ?_
    refine GoR.alloc rfl rfl rfl zt166 rfl rfl fun h1 x1 f1 => ?_
    have := e0.1
    replace e0 := e0.trans x1
    have := f1.1
    refine GoR.store rfl rfl rfl rfl rfl rfl f1 rfl sz166 rfl rfl rfl fun h2 u2 => ?_
    replace e0 := e0.upd u2 (by omega)
    refine GoR.op rfl rfl rfl rfl ?_
    refine GoR.end ?_
    refine Go.seq noJ_ok ?_
    refine Go.region noJ_ok rfl ?_
    refine GoR.op rfl rfl rfl rfl ?_
    refine GoR.end ?_
    refine Go.cond noJ_ok (b := false) rfl ?_
    refine Go.code noJ_ok ?_
    refine Go.inBlock noJ_ok ?_
    refine Go.region noJ_ok rfl ?_
    refine GoR.op rfl rfl (aOp_add rfl rfl (by constructor <;> omega) rfl) rfl ?_
    refine GoR.op rfl rfl rfl rfl ?_
    refine GoR.end ?_
    exact again (m - 1) (i + 1) _ _ (by omega) ⟨rfl, by rw [s1]; rfl, rfl, rfl, rfl, trivial⟩ ⟨by omega, e0⟩
 ·have hin : i = R.es.length := by omega
  rw [hin]
  refine Go.seq noJ_ok ?_
  refine Go.region noJ_ok rfl ?_
  refine GoR.op rfl rfl (aOp_lss rfl rfl (r := false) (decide_eq_false (by omega))) rfl ?_
  refine GoR.end ?_
  refine Go.seq noJ_ok ?_
  refine Go.cond noJ_ok (b := false) rfl ?_
  refine Go.code noJ_ok ?_
  refine Go.seq noJ_ok ?_
  refine Go.region noJ_ok rfl ?_
  iterate 2 refine GoR.op rfl rfl rfl rfl ?_
  refine GoR.end ?_
  exact Go.ret noJ_ok (ret_end (aResult_of Tryz.func121 rfl rfl) ⟨rfl, e0⟩)
theorem ap_take {α : Type} (L Z : List α) {i : Nat} (hi : i ≤ L.length) : (L ++ Z).take i = L.take i := List.take_append_of_le_length hi
theorem ap_drop {α : Type} (L Z : List α) {i : Nat} (hi : i ≤ L.length) : (L ++ Z).drop i = L.drop i ++ Z := List.drop_append_of_le_length hi
theorem vl_src {h : AH} {b n off len cap : Nat} {g : Kd} {el : TypeId} (L Z : List AVal) (f : Has h b (.cells g (L ++ Z) el)) {i : Nat} (hi : i + n ≤ L.length) (ho : off = i * 1) : srcCells h 1 n (.slice b off len cap) = some ((L.drop i).take n) := by
 subst ho
 show AbsE.loadCells h b (i * 1) (n * 1) = _
 unfold AbsE.loadCells
 rw [f.2]
 show slice? (L ++ Z) (i * 1) (n * 1) = _
 rw [Nat.mul_one, Nat.mul_one]
 unfold slice?
 rw [ap_drop L Z (by omega), ap_take _ _ (by rw [List.length_drop]; omega)]
 have : ((L.drop i).take n).length = n := by rw [List.length_take, List.length_drop]; omega
 dsimp only
 rw [this]
 simp
theorem vl_move (L Z : List AVal) {i : Nat} (hi : i < L.length) : ∃ Z', splice (L ++ Z) (i * 1) (L.drop (i + 1)) = some (L.eraseIdx i ++ Z') ∧ Z'.length = Z.length + 1 := by
 refine ⟨(L ++ Z).drop (i * 1 + (L.drop (i + 1)).length), ?_, ?_⟩
 ·rw [splice_eq (by rw [List.length_append, List.length_drop]; omega), Nat.mul_one, ap_take L Z (by omega), List.eraseIdx_eq_take_drop_succ]
 ·rw [List.length_drop, List.length_append, List.length_drop]
  omega
theorem vl_put (L Z : List AVal) {m : Nat} (hL : L.length = m) {new : List AVal} (hn : new.length ≤ Z.length) : splice (L ++ Z) (m * 1) new = some (L ++ (new ++ Z.drop new.length)) := by
 subst hL
 rw [splice_eq (by rw [List.length_append]; omega), Nat.mul_one, ap_take L Z (Nat.le_refl _), List.take_length, List.append_assoc, List.drop_append, List.drop_eq_nil_of_le (by omega), List.nil_append]
 congr 4
 omega
theorem delete149_ok {b n N i : Nat} (L Z : List AVal) (hsc : scalars L = true) (hscd : ∀ k, scalars (L.drop k) = true) (hL : L.length = n) (hi : i < n) (hN : n ≤ N) (hN5 : N ≤ 100) (hZ : Z.length = (N - n) * 1) (h : AH) (f : Has h b (.cells .plain (L ++ Z) 169)) :
  Runs Tryz.prog 149 [.slice b 0 n N, .int .i64 (i : Nat), .int .i64 ((i : Nat) + 1)] h (fun en h' => en = .ret (.slice b 0 (n - 1) N) ∧ ExtF (fun c => c = b) h h' ∧ ∃ Z', Z'.length = (N - (n - 1)) * 1 ∧ Has h' b (.cells .plain (L.eraseIdx i ++ Z') 169)) := by
 have y0 : ExtF (fun c => c = b) h h := ExtF.of (Ext.refl _)
 have hfb := f.1
 obtain ⟨Z1, m1, m2⟩ := vl_move L Z (i := i) (by omega)
 by_cases hlast : i + 1 ≠ N
 ·have e0 : Ext h h := Ext.refl _
  refine Runs.intro aFunc149 rfl rfl rfl rfl fun rest => ?_
  refine Go.seq noJ_ok ?_
  refine Go.region noJ_ok rfl ?_
  refine GoR.op rfl rfl rfl rfl ?_
  refine GoR.end ?_
  refine Go.seq noJ_ok ?_
  refine Go.region noJ_ok rfl ?_
  iterate 4 refine GoR.op rfl rfl rfl rfl ?_
  refine GoR.op rfl rfl (aOp_lenSlice Tryz.underlying75 rfl (n := n) rfl) rfl ?_
  refine GoR.op rfl rfl (aOp_slice3 (l := i) (hh := i + 1) (m := n) Tryz.underlying75 sz169 rfl rfl rfl rfl (by omega) (by omega) (by omega) (by omega)) rfl ?_
  refine GoR.end ?_
  iterate 2 refine Go.seq noJ_ok ?_
  refine Go.region noJ_ok rfl ?_
  iterate 2 refine GoR.op rfl rfl rfl rfl ?_
  refine GoR.op rfl rfl (aOp_eql rfl rfl (r := false) (decide_eq_false (by omega))) rfl ?_
  refine GoR.end ?_
  refine Go.cond noJ_ok (b := false) rfl ?_
  refine Go.code noJ_ok ?_
  refine Go.seq noJ_ok ?_
  refine Go.region noJ_ok rfl ?_
  refine GoR.op rfl rfl rfl rfl ?_
  refine GoR.op rfl rfl (aOp_lenSlice Tryz.underlying75 rfl (n := n) rfl) rfl ?_
  refine GoR.op rfl rfl rfl rfl ?_
  refine GoR.end ?_
  refine Go.seq noJ_ok ?_
  refine Go.drawnE plan149_0 ?_
  iterate 2 refine GoE.quiet rfl rfl rfl rfl ?_
  refine GoE.quiet rfl rfl (aOp_slice Tryz.underlying75 sz169 rfl rfl rfl (cut_hi (i := i) (by omega)) hN (by omega)) rfl ?_
  iterate 2 refine GoE.quiet rfl rfl rfl rfl ?_
  refine GoE.quiet rfl rfl (aOp_slice Tryz.underlying75 sz169 rfl rfl rfl (cut_lo (i := i + 1) (by omega)) hN hlast) rfl ?_
  refine GoE.appendIn rfl rfl Tryz.underlying75 Tryz.underlying75 sz169 by169 zt169 rfl rfl rfl rfl (n := n - (i + 1)) (m := n - 1) (new := L.drop (i + 1)) rfl (by rw [vl_src L Z f (i := i + 1) (n := n - (i + 1)) (by omega) (by omega), List.take_of_length_le (by rw [List.length_drop]; omega)]) (by omega) (by omega) (by omega) f rfl (hscd _) (by rw [Nat.zero_add, Nat.sub_zero]; exact m1) (dropF_drop (show bit? 63 5 = true from rfl) (dropF_drop (show bit? 63 4 = true from rfl) (dropF_drop (show bit? 63 3 = true from rfl) (dropF_drop (show bit? 63 2 = true from rfl) (dropF_drop (show bit? 63 1 = true from rfl) (dropF_drop (show bit? 63 0 = true from rfl) rfl)))))) rfl rfl fun h1 u1 => ?_
  refine ⟨recheck_nil, ?_⟩
  replace f := u1.has f
  replace y0 := y0.upd u1 (.inl rfl)
  refine GoE.quiet rfl rfl rfl rfl ?_
  refine GoE.end rfl ?_
  refine Go.seq noJ_ok ?_
  refine Go.region noJ_ok rfl ?_
  iterate 2 refine GoR.op rfl rfl rfl rfl ?_
  refine GoR.op rfl rfl (aOp_lenSlice Tryz.underlying75 rfl (n := n - 1) rfl) rfl ?_
  refine GoR.op rfl rfl rfl rfl ?_
  refine GoR.op rfl rfl (aOp_slice Tryz.underlying75 sz169 rfl rfl rfl (cut_both (l := n - 1) (hh := n) (by omega) (by omega)) (by omega) (by omega)) rfl ?_
  refine GoR.clear rfl rfl Tryz.underlying75 zt169 rfl (by omega) f rfl (by rw [show n - (n - 1) = 1 by omega]; rfl) (by rw [Nat.zero_add, show n - (n - 1) = 1 by omega]; exact vl_put _ _ (by rw [List.length_eraseIdx_of_lt (by omega)]; omega) (new := [AVal.nilIface]) (by rw [m2]; show 1 ≤ _; omega)) fun h2 u2 => ?_
  replace f := u2.has f
  replace y0 := y0.upd u2 (.inl rfl)
  refine GoR.end ?_
  refine Go.seq noJ_ok ?_
  refine Go.region noJ_ok rfl ?_
  iterate 2 refine GoR.op rfl rfl rfl rfl ?_
  refine GoR.end ?_
  exact Go.ret noJ_ok (ret_end (aResult_of Tryz.func149 rfl rfl) ⟨rfl, y0, _, (by rw [List.length_append, List.length_drop, m2, hZ]; show 1 + (_ - 1) = _; omega), f⟩)
 ·have hlast : i + 1 = N := by omega
  subst hlast
  have e0 : Ext h h := Ext.refl _
  refine Runs.intro aFunc149 rfl rfl rfl rfl fun rest => ?_
  refine Go.seq noJ_ok ?_
  refine Go.region noJ_ok rfl ?_
  refine GoR.op rfl rfl rfl rfl ?_
  refine GoR.end ?_
  refine Go.seq noJ_ok ?_
  refine Go.region noJ_ok rfl ?_
  iterate 4 refine GoR.op rfl rfl rfl rfl ?_
  refine GoR.op rfl rfl (aOp_lenSlice Tryz.underlying75 rfl (n := n) rfl) rfl ?_
  refine GoR.op rfl rfl (aOp_slice3 (l := i) (hh := i + 1) (m := n) Tryz.underlying75 sz169 rfl rfl rfl rfl (by omega) (by omega) (by omega) (by omega)) rfl ?_
  refine GoR.end ?_
  iterate 2 refine Go.seq noJ_ok ?_
  refine Go.region noJ_ok rfl ?_
  iterate 2 refine GoR.op rfl rfl rfl rfl ?_
  refine GoR.op rfl rfl (aOp_eql rfl rfl (r := false) (decide_eq_false (by omega))) rfl ?_
  refine GoR.end ?_
  refine Go.cond noJ_ok (b := false) rfl ?_
  refine Go.code noJ_ok ?_
  refine Go.seq noJ_ok ?_
  refine Go.region noJ_ok rfl ?_
  refine GoR.op rfl rfl rfl rfl ?_
  refine GoR.op rfl rfl (aOp_lenSlice Tryz.underlying75 rfl (n := n) rfl) rfl ?_
  refine GoR.op rfl rfl rfl rfl ?_
  refine GoR.end ?_
  refine Go.seq noJ_ok ?_
  refine Go.drawnE plan149_0 ?_
  iterate 2 refine GoE.quiet rfl rfl rfl rfl ?_
  refine GoE.quiet rfl rfl (aOp_slice Tryz.underlying75 sz169 rfl rfl rfl (cut_hi (i := i) (by omega)) hN (by omega)) rfl ?_
  iterate 2 refine GoE.quiet rfl rfl rfl rfl ?_
  refine GoE.quiet rfl rfl (aOp_sliceAll Tryz.underlying75 sz169 rfl rfl rfl (cut_lo (i := i + 1) (by omega)) hN) rfl ?_
  refine GoE.appendIn rfl rfl Tryz.underlying75 Tryz.underlying75 sz169 by169 zt169 rfl rfl rfl rfl (n := n - (i + 1)) (m := n - 1) (new := L.drop (i + 1)) rfl (by rw [vl_src L Z f (i := 0) (n := n - (i + 1)) (by omega) (by omega), show n - (i + 1) = 0 by omega, List.take_zero, List.drop_eq_nil_of_le (by omega)]) (by omega) (by omega) (by omega) f rfl (hscd _) (by rw [Nat.zero_add, Nat.sub_zero]; exact m1) (dropF_drop (show bit? 63 5 = true from rfl) (dropF_drop (show bit? 63 4 = true from rfl) (dropF_drop (show bit? 63 3 = true from rfl) (dropF_drop (show bit? 63 2 = true from rfl) (dropF_drop (show bit? 63 1 = true from rfl) (dropF_drop (show bit? 63 0 = true from rfl) rfl)))))) rfl rfl fun h1 u1 => ?_
  refine ⟨recheck_nil, ?_⟩
  replace f := u1.has f
  replace y0 := y0.upd u1 (.inl rfl)
  refine GoE.quiet rfl rfl rfl rfl ?_
  refine GoE.end rfl ?_
  refine Go.seq noJ_ok ?_
  refine Go.region noJ_ok rfl ?_
  iterate 2 refine GoR.op rfl rfl rfl rfl ?_
  refine GoR.op rfl rfl (aOp_lenSlice Tryz.underlying75 rfl (n := n - 1) rfl) rfl ?_
  refine GoR.op rfl rfl rfl rfl ?_
  refine GoR.op rfl rfl (aOp_slice Tryz.underlying75 sz169 rfl rfl rfl (cut_both (l := n - 1) (hh := n) (by omega) (by omega)) (by omega) (by omega)) rfl ?_
  refine GoR.clear rfl rfl Tryz.underlying75 zt169 rfl (by omega) f rfl (by rw [show n - (n - 1) = 1 by omega]; rfl) (by rw [Nat.zero_add, show n - (n - 1) = 1 by omega]; exact vl_put _ _ (by rw [List.length_eraseIdx_of_lt (by omega)]; omega) (new := [AVal.nilIface]) (by rw [m2]; show 1 ≤ _; omega)) fun h2 u2 => ?_
  replace f := u2.has f
  replace y0 := y0.upd u2 (.inl rfl)
  refine GoR.end ?_
  refine Go.seq noJ_ok ?_
  refine Go.region noJ_ok rfl ?_
  iterate 2 refine GoR.op rfl rfl rfl rfl ?_
  refine GoR.end ?_
  exact Go.ret noJ_ok (ret_end (aResult_of Tryz.func149 rfl rfl) ⟨rfl, y0, _, (by rw [List.length_append, List.length_drop, m2, hZ]; show 1 + (_ - 1) = _; omega), f⟩)
def wo (out : Nat) : Nat → List EV → List EV
 | _, [] => []
 | k, x :: L => if out.testBit k then wo out (k + 1) L else x :: wo out (k + 1) L
theorem wo_mem {out : Nat} : ∀ {k : Nat} {L : List EV} {x : EV}, x ∈ wo out k L → x ∈ L
 | _, [], _, h => h
 | k, y :: L, x, h => by
  unfold wo at h
  split at h
  ·exact List.mem_cons_of_mem _ (wo_mem h)
  ·rcases List.mem_cons.1 h with rfl | h
   ·exact List.mem_cons_self
   ·exact List.mem_cons_of_mem _ (wo_mem h)
theorem wo_sub {out : Nat} : ∀ {k : Nat} {L : List EV}, (wo out k L).Sublist L
 | _, [] => List.Sublist.refl _
 | k, y :: L => by
  unfold wo
  split
  ·exact (wo_sub).cons _
  ·exact (wo_sub).cons_cons _
theorem wo_len {out : Nat} {k : Nat} {L : List EV} : (wo out k L).length ≤ L.length := wo_sub.length_le
theorem wo_is {out : Nat} : ∀ {k : Nat} {L : List EV}, (L.zipIdx k).filterMap (fun x => if out.testBit x.2 then none else some x.1) = wo out k L
 | _, [] => rfl
 | k, y :: L => by
  rw [List.zipIdx_cons, List.filterMap_cons, wo_is]
  conv => rhs; unfold wo
  cases out.testBit k <;> rfl
theorem without_is (L : List EV) (out : Nat) : withoutV L out = wo out 0 L := wo_is
def woAt (out : Nat) (L : List EV) (r : Nat) : List EV := L.take r ++ wo out r (L.drop r)
theorem woAt_len (out : Nat) (L : List EV) {r : Nat} (hr : r ≤ L.length) : r ≤ (woAt out L r).length ∧ (woAt out L r).length ≤ L.length := by
 have := wo_len (out := out) (k := r) (L := L.drop r)
 rw [List.length_drop] at this
 unfold woAt
 rw [List.length_append, List.length_take, Nat.min_eq_left hr]
 omega
theorem woAt_succ (out : Nat) (L : List EV) {i : Nat} (hi : i < L.length) : woAt out L i = if out.testBit i then (woAt out L (i + 1)).eraseIdx i else woAt out L (i + 1) := by
 have hd : L.drop i = L[i] :: L.drop (i + 1) := List.drop_eq_getElem_cons hi
 have ht : L.take (i + 1) = L.take i ++ [L[i]] := by rw [List.take_add_one]; simp [hi]
 have hl : (L.take i).length = i := by rw [List.length_take]; omega
 unfold woAt
 rw [hd, ht]
 cases h : out.testBit i with
 | true =>
  rw [if_pos rfl]
  conv => lhs; unfold wo
  rw [h, if_pos rfl, List.append_assoc, List.eraseIdx_append_of_length_le (by omega), hl, Nat.sub_self]
  rfl
 | false =>
  rw [if_neg (by decide)]
  conv => lhs; unfold wo
  rw [h, if_neg (by decide), List.append_assoc]
  rfl
theorem bit_div (out i : Nat) : decide (((out : Int).fdiv (2 ^ i)) % 2 = 1) = out.testBit i := by
 rw [show (out : Int).fdiv (2 ^ i) = ((out / 2 ^ i : Nat) : Int) by rw [Int.fdiv_eq_ediv_of_nonneg _ (Int.le_of_lt (Int.pow_pos (by omega)))]; simp]
 rw [Nat.testBit_eq_decide_div_mod_eq]
 exact decide_eq_decide.2 (by omega)
end Go.Proofs.YtkcimfopboelaaaGreat

set_option linter.unusedSimpArgs false
namespace Go.AbsE
open Go
section
variable {P : Program} {t : Tr AVal} {h : AH} {dst : Option Tmp} {ty tt : TypeId} {pos : String} {after : Array Edge} {guard : Option (Nat × Bool)} {x y : Operand}
theorem u64_small {n : Nat} (hn : n < 18446744073709551616) : IntKind.u64.wrap (n : Nat) = n := by
 have h1 : IntKind.u64.wrap (n : Nat) = (n : Int) % 18446744073709551616 := by rfl
 rw [h1]
 omega
theorem aOp_binU {op : BinOp} {ty2 : TypeId} {a b : Int} {k : IntKind} {r : AVal} (hx : ev t x = some (.int .u64 a)) (hy : ev t y = some (.int k b)) (hv : (match pureRun P (binOp op ty (.int .u64 a) (.int k b)) with | some v => absV v | none => none) = some r) :
  aOp P t h ⟨dst, .binOp op ty x y ty2, tt, pos, after, guard⟩ = some (.val r h) := by
 show opBin P t h op ty x y = _
 unfold opBin
 rw [hx, hy]
 dsimp only
 rw [show aBinOp P op ty (isConstO x || isConstO y) (.int .u64 a) (.int k b) = some r from hv]
 rfl
theorem aOp_andU {ty2 : TypeId} {a b r : Nat} (hx : ev t x = some (.int .u64 (a : Nat))) (hy : ev t y = some (.int .u64 (b : Nat))) (ha : a < 18446744073709551616) (hb : b < 18446744073709551616) (hr : a &&& b = r) :
  aOp P t h ⟨dst, .binOp .and ty x y ty2, tt, pos, after, guard⟩ = some (.val (.int .u64 (r : Nat)) h) := by
 refine aOp_binU hx hy ?_
 have : pureRun P (binOp .and ty (.int .u64 (a : Nat)) (.int .u64 (b : Nat))) = some (.int .u64 (r : Nat)) := by
  show pureRun P (if IntKind.u64 ≠ IntKind.u64 then stuck "BinOp: operands of different kinds" else Op.intBits .and .u64 (a : Nat) (b : Nat)) = _
  rw [if_neg (fun h => h rfl)]
  show some (Value.int .u64 (IntKind.u64.wrap ((BitVec.ofInt 64 (a : Nat) &&& BitVec.ofInt 64 (b : Nat)).toNat : Int))) = _
  have h1 : (BitVec.ofInt 64 (a : Nat) &&& BitVec.ofInt 64 (b : Nat)).toNat = r := by
   rw [BitVec.ofInt_natCast, BitVec.ofInt_natCast, BitVec.toNat_and, BitVec.toNat_ofNat, BitVec.toNat_ofNat, Nat.mod_eq_of_lt (by omega), Nat.mod_eq_of_lt (by omega)]
   exact hr
  have h2 : r ≤ a := by rw [← hr]; exact Nat.and_le_left
  rw [h1, u64_small (by omega)]
 rw [this]
 rfl
theorem aOp_addU {ty2 : TypeId} {a b r : Nat} (hx : ev t x = some (.int .u64 (a : Nat))) (hy : ev t y = some (.int .u64 (b : Nat))) (hb : a + b < 18446744073709551616) (hr : a + b = r) :
  aOp P t h ⟨dst, .binOp .add ty x y ty2, tt, pos, after, guard⟩ = some (.val (.int .u64 (r : Nat)) h) := by
 refine aOp_binU hx hy ?_
 have : pureRun P (binOp .add ty (.int .u64 (a : Nat)) (.int .u64 (b : Nat))) = some (.int .u64 (r : Nat)) := by
  show some (Value.int .u64 (IntKind.u64.wrap ((a : Int) + (b : Int)))) = _
  have : (a : Int) + (b : Int) = ((a + b : Nat) : Int) := by omega
  rw [this, u64_small hb, hr]
 rw [this]
 rfl
theorem aOp_shrU {ty2 : TypeId} {a r i : Nat} (hx : ev t x = some (.int .u64 (a : Nat))) (hy : ev t y = some (.int .u64 (i : Nat))) (hi : i ≤ 64) (hr : a / 2 ^ i = r) : aOp P t h ⟨dst, .binOp .shr ty x y ty2, tt, pos, after, guard⟩ = some (.val (.int .u64 (r : Nat)) h) := by
 refine aOp_binU hx hy ?_
 have : pureRun P (binOp .shr ty (.int .u64 (a : Nat)) (.int .u64 (i : Nat))) = some (.int .u64 (r : Nat)) := by
  show pureRun P (Op.shift .shr .u64 (a : Nat) .u64 (i : Nat)) = _
  unfold Op.shift
  rw [if_neg (by omega)]
  have : min ((i : Int)).toNat IntKind.u64.bits = i := by
   show min ((i : Int)).toNat 64 = i
   omega
  rw [this]
  show some (Value.int .u64 ((a : Int).fdiv (2 ^ i))) = _
  rw [show (a : Int).fdiv (2 ^ i) = ((a / 2 ^ i : Nat) : Int) by rw [Int.fdiv_eq_ediv_of_nonneg _ (Int.le_of_lt (Int.pow_pos (by omega)))]; simp, hr]
 rw [this]
 rfl
theorem aOp_convUI {src dt : TypeId} {sd : TypeDesc} {w : Nat} (hx : ev t x = some (.int .u64 (w : Nat))) (hs : P.underlying src = some sd) (hu : P.underlying dt = some (.int .i64)) (hw : w < 9223372036854775808) : aOp P t h ⟨dst, .convert src dt x, tt, pos, after, guard⟩ = some (.val (.int .i64 (w : Nat)) h) := by
 show opConvert P t h src dt x = _
 unfold opConvert
 rw [hx]
 have : pureRun P (convert src dt (.int .u64 (w : Nat))) = some (.int .i64 (w : Nat)) := by
  unfold convert
  rw [pureRun_bind, pr_underlying hs]
  simp only [Option.bind_some, pureRun_bind, pr_underlying hu]
  have := i64_small hw
  cases sd <;> (show pureRun P (Conv.intToInt .i64 (w : Nat)) = _; unfold Conv.intToInt; rw [this]; rfl)
 simp only [this]
 rfl
end
end Go.AbsE

namespace Go.Proofs.YtkcimfopboelaaaGreat
open Go Go.AbsE
set_option linter.unusedSimpArgs false
set_option maxRecDepth 100000
set_option maxHeartbeats 0
set_option linter.unusedVariables false
theorem flat_map1 (L : List EV) : (L.map fun e => [evC e]).flatten = L.map evC := by
 rw [← List.flatMap_def, flat_one]
theorem map_erase (L : List EV) (i : Nat) : (L.map evC).eraseIdx i = (L.eraseIdx i).map evC := by
 rw [List.eraseIdx_eq_take_drop_succ, List.eraseIdx_eq_take_drop_succ, List.map_append, List.map_take, List.map_drop]
theorem slice_map {h : AH} {b n cap : Nat} {g : Kd} {el : TypeId} {L : List EV} {Z : List AVal} (hn : L.length = n) (f : Has h b (.cells g (L.map evC ++ Z) el)) : SliceOf h 1 (.slice b 0 n cap) (L.map fun e => [evC e]) := by
 subst hn
 refine SliceOf.mk' (by rfl) (by rfl) f (by rw [List.length_map]) fun i l hl => ?_
 rw [List.getElem?_map] at hl
 cases q : L[i]? with
 | none => rw [q] at hl; cases hl
 | some e =>
  rw [q] at hl
  cases hl
  have hlt := (List.getElem?_eq_some_iff.1 q).1
  unfold slice?
  rw [ap_drop _ _ (by rw [List.length_map]; omega)]
  have hd : (L.map evC).drop (0 + i * 1) = evC e :: (L.map evC).drop (i + 1) := by
   rw [Nat.zero_add, Nat.mul_one]
   exact drop_at (by rw [List.getElem?_map, q]; rfl)
  rw [hd]
  rfl
theorem without_ok {R : RoadV} (O : R.Ok) {lo : Nat} {gp ge : AVal} {out : Nat} (hout : out < 2 ^ 62) {h : AH} (A : GroundAt h R lo gp ge) :
  Runs Tryz.prog 124 [.agg [gp, ge], .int .i64 (out : Nat)] h (fun en h' => ∃ s, en = .ret (.agg [gp, s]) ∧ Ext h h' ∧ GroundAt h' ⟨R.ps, withoutV R.es out⟩ lo gp s) := by
 have hne := O.ne
 have hE := A.esl
 have hlE := hE.len
 rw [List.length_map] at hlE
 obtain ⟨N, hN⟩ : ∃ N, R.es.length = N := ⟨_, rfl⟩
 rw [hN] at hlE hne
 have hgs := A.psl.scal
 have e0 : Ext h h := Ext.refl _
 refine Runs.intro aFunc124 rfl rfl rfl rfl fun rest => ?_
 refine Go.seq noJ_ok ?_
 refine Go.region noJ_ok rfl ?_
 refine GoR.box rfl rfl rfl rfl rfl rfl fun h0 x0 f0 => ?_
 have := e0.1
 replace e0 := e0.trans x0
 have := f0.1
 refine GoR.alloc rfl rfl rfl zt77 rfl rfl fun h1 x1 f1 => ?_
 have := e0.1
 have := f0.1
 replace f0 := f0.ext x1
 replace e0 := e0.trans x1
 have := f1.1
 refine GoR.end ?_
 refine Go.seq noJ_ok ?_
 refine Go.region noJ_ok rfl ?_
 refine GoR.op rfl rfl (fa77_1 rfl) rfl ?_
 refine GoR.op rfl rfl (ld75 rfl f0 rfl) rfl ?_
 refine GoR.op rfl rfl (aOp_lenSlice Tryz.underlying75 rfl (by assumption)) rfl ?_
 refine GoR.makeSl rfl rfl rfl Tryz.underlying75 rfl rfl sz169 by169 zt169 rfl (Nat.ble_eq_true_of_le (by omega)) rfl rfl fun h2 x2 f2 => ?_
 have := e0.1
 have := f1.1
 have := f0.1
 replace f1 := f1.ext x2
 replace f0 := f0.ext x2
 replace e0 := e0.trans x2
 have := f2.1
 refine GoR.op rfl rfl rfl rfl ?_
 refine GoR.end ?_
 refine Go.seq noJ_ok ?_
 refine Go.region noJ_ok rfl ?_
 refine GoR.op rfl rfl rfl rfl ?_
 refine GoR.op rfl rfl (fa77_1 rfl) rfl ?_
 refine GoR.op rfl rfl (ld75 rfl f0 rfl) rfl ?_
 have hsrc := (hE.ext e0).src
 rw [List.length_map, hN, flat_map1] at hsrc
 refine GoR.copyIn rfl rfl Tryz.underlying75 sz169 rfl rfl hlE (Nat.min_self N) hsrc f2 rfl (evs_scal _) (splice_whole (by rw [List.length_map, hN]; show (repl _ N).length = _; rw [repl_eq]; simp; show N * 1 = N; omega)) rfl fun h9 u9 => ?_
 have hb2 := f2.1
 have hb1 := f1.1
 have hb0 := f0.1
 replace f2 := u9.has f2
 replace f0 := f0.upd u9 (by omega)
 replace f1 := f1.upd u9 (by omega)
 replace e0 := e0.upd u9 (by omega)
 refine GoR.end ?_
 iterate 2 refine Go.seq noJ_ok ?_
 refine Go.region noJ_ok rfl ?_
 refine GoR.op rfl rfl rfl rfl ?_
 refine GoR.op rfl rfl (aOp_lenSlice Tryz.underlying75 rfl (n := N) rfl) rfl ?_
 refine GoR.op rfl rfl (aOp_sub rfl rfl (by constructor <;> omega) rfl) rfl ?_
 refine GoR.op rfl rfl rfl rfl ?_
 refine GoR.end ?_
 refine Go.block noJ_ok ?_
 have hw0 : woAt out R.es N = R.es := by
  unfold woAt
  rw [← hN, List.take_length, List.drop_length]
  simp [wo]
 have hbn : h.next < h0.next := by omega
 have hbn2 : h0.next < h1.next := by omega
 refine Go.loopKeep (fun r : Nat => [(1, .int .i64 (out : Nat)), (2, .ptr h.next 0), (4, .ptr h0.next 0), (5, .slice h1.next 0 (woAt out R.es r).length N), (6, .int .i64 ((r : Nat) - 1))])
  (fun m r h' => m = r ∧ r ≤ N ∧ Ext h h' ∧ Has h' h.next (.cells .plain [gp, ge] 77) ∧ Has h' h0.next (.cells .plain [.nilslice, .nilslice] 77) ∧ ∃ Z : List AVal, Z.length = (N - (woAt out R.es r).length) * 1 ∧ Has h' h1.next (.cells .plain ((woAt out R.es r).map evC ++ Z) 169))
  (n := N) N ⟨rfl, rfl, rfl, by rw [hw0, hN]; rfl, rfl, trivial⟩ ⟨rfl, Nat.le_refl _, e0, f0, f1, [], by rw [hw0, hN]; simp, by rw [hw0, List.append_nil]; exact f2⟩ ?_
 clear e0 f0 f1 f2
 rintro m r hh ⟨rfl, hr, e0, f0, f1, Z, hZ, f2⟩ again
 have hx0 := e0.1
 have hb2 := f2.1
 have hb1 := f1.1
 have hb0 := f0.1
 by_cases hr0 : m = 0
 ·subst hr0
  have hws : woAt out R.es 0 = withoutV R.es out := by rw [without_is]; unfold woAt; simp
  rw [hws] at f2 ⊢
  have hsc2 : scalars [gp, .slice h1.next 0 (withoutV R.es out).length N] = true := by
   have h1' : cond (scalar gp) (scalars []) false = true := hgs.1
   show cond (scalar gp) (scalars [.slice h1.next 0 (withoutV R.es out).length N]) false = true
   cases q : scalar gp with
   | true => rfl
   | false => rw [q] at h1'; cases h1'
  iterate 2 refine Go.seq noJ_ok ?_
  refine Go.region noJ_ok rfl ?_
  refine GoR.op rfl rfl rfl rfl ?_
  refine GoR.op rfl rfl (aOp_geq rfl rfl (r := false) (decide_eq_false (by omega))) rfl ?_
  refine GoR.end ?_
  refine Go.cond noJ_ok (b := false) rfl ?_
  refine Go.code noJ_ok ?_
  refine Go.seq noJ_ok ?_
  refine Go.region noJ_ok rfl ?_
  refine GoR.op rfl rfl rfl rfl ?_
  refine GoR.op rfl rfl (fa77_1 rfl) rfl ?_
  refine GoR.store rfl rfl rfl rfl rfl rfl f0 rfl sz75 rfl rfl rfl fun h10 u10 => ?_
  replace f0 := u10.has f0
  replace f1 := f1.upd u10 (by omega)
  replace f2 := f2.upd u10 (by omega)
  replace e0 := e0.upd u10 (by omega)
  refine GoR.end ?_
  refine Go.seq noJ_ok ?_
  refine Go.region noJ_ok rfl ?_
  refine GoR.op rfl rfl (ld77 rfl f0 rfl) rfl ?_
  refine GoR.store rfl rfl rfl rfl rfl rfl f1 rfl sz77 rfl hsc2 rfl fun h11 u11 => ?_
  replace f1 := u11.has f1
  replace f2 := f2.upd u11 (by omega)
  replace e0 := e0.upd u11 (by omega)
  refine GoR.end ?_
  have hres : GroundAt h11 ⟨R.ps, withoutV R.es out⟩ lo gp (.slice h1.next 0 (withoutV R.es out).length N) := ⟨A.psl.ext e0, slice_map rfl f2⟩
  exact Go.ret noJ_ok (ret_end (aResult_of Tryz.func124 rfl (aResults_cell rfl f1 (inCells_agg ag77 sz77 rfl))) ⟨_, rfl, e0, hres⟩)
 ·obtain ⟨i, rfl⟩ : ∃ i, m = i + 1 := ⟨m - 1, by omega⟩
  have hv : ((i + 1 : Nat) : Int) - 1 = (i : Nat) := by omega
  rw [hv]
  have hwl := woAt_len out R.es (r := i + 1) (by omega)
  have hsucc := woAt_succ out R.es (i := i) (by omega)
  rw [hN] at hwl
  have hfn := f2.1
  cases hb : out.testBit i with
  | false =>
   rw [hb, if_neg (by decide)] at hsucc
   have hne' : decide (((out : Nat) : Int).fdiv (2 ^ i) % 2 = 1) = false := by rw [bit_div, hb]
   iterate 2 refine Go.seq noJ_ok ?_
   refine Go.region noJ_ok rfl ?_
   refine GoR.op rfl rfl rfl rfl ?_
   refine GoR.op rfl rfl (aOp_geq rfl rfl (r := true) (decide_eq_true (by omega))) rfl ?_
   refine GoR.end ?_
   refine Go.cond noJ_ok (b := true) rfl ?_
   refine Go.code noJ_ok ?_
   refine Go.seq noJ_ok ?_
   refine Go.block noJ_ok ?_
   refine Go.seq noJ_ok ?_
   refine Go.region noJ_ok rfl ?_
   iterate 2 refine GoR.op rfl rfl rfl rfl ?_
   refine GoR.op rfl rfl (aOp_shr rfl rfl (by omega) rfl) rfl ?_
   refine GoR.op rfl rfl (aOp_and1 rfl rfl rfl) rfl ?_
   refine GoR.op rfl rfl (aOp_eql rfl rfl hne') rfl ?_
   refine GoR.end ?_
   refine Go.cond noJ_ok (b := false) rfl ?_
   refine Go.code noJ_ok ?_
   refine Go.inBlock noJ_ok ?_
   refine Go.region noJ_ok rfl ?_
   refine GoR.op rfl rfl rfl rfl ?_
   refine GoR.op rfl rfl (aOp_sub rfl rfl (by constructor <;> omega) rfl) rfl ?_
   refine GoR.op rfl rfl rfl rfl ?_
   refine GoR.end ?_
   exact again i i _ _ (by omega) ⟨rfl, rfl, rfl, by rw [hsucc]; rfl, rfl, trivial⟩ ⟨rfl, by omega, e0, f0, f1, Z, by rw [hsucc]; exact hZ, by rw [hsucc]; exact f2⟩
  | true =>
   rw [hb, if_pos rfl] at hsucc
   have hne' : decide (((out : Nat) : Int).fdiv (2 ^ i) % 2 = 1) = true := by rw [bit_div, hb]
   have hdel := fun (h9 : AH) f => delete149_ok (b := h1.next) (n := (woAt out R.es (i + 1)).length) (N := N) (i := i) ((woAt out R.es (i + 1)).map evC) Z (evs_scal _) (fun k => by rw [← List.map_drop]; exact evs_scal _) (by rw [List.length_map]) (by omega) (by omega) (by omega) hZ h9 f
   rw [map_erase, ← hsucc] at hdel
   have hwi : (woAt out R.es i).length = (woAt out R.es (i + 1)).length - 1 := by rw [hsucc, List.length_eraseIdx_of_lt (by omega)]
   rw [← hwi] at hdel
   iterate 2 refine Go.seq noJ_ok ?_
   refine Go.region noJ_ok rfl ?_
   refine GoR.op rfl rfl rfl rfl ?_
   refine GoR.op rfl rfl (aOp_geq rfl rfl (r := true) (decide_eq_true (by omega))) rfl ?_
   refine GoR.end ?_
   refine Go.cond noJ_ok (b := true) rfl ?_
   refine Go.code noJ_ok ?_
   refine Go.seq noJ_ok ?_
   refine Go.block noJ_ok ?_
   refine Go.seq noJ_ok ?_
   refine Go.region noJ_ok rfl ?_
   iterate 2 refine GoR.op rfl rfl rfl rfl ?_
   refine GoR.op rfl rfl (aOp_shr rfl rfl (by omega) rfl) rfl ?_
   refine GoR.op rfl rfl (aOp_and1 rfl rfl rfl) rfl ?_
   refine GoR.op rfl rfl (aOp_eql rfl rfl hne') rfl ?_
   refine GoR.end ?_
   refine Go.cond noJ_ok (b := true) rfl ?_
   refine Go.region noJ_ok rfl ?_
   iterate 3 refine GoR.op rfl rfl rfl rfl ?_
   refine GoR.op rfl rfl (aOp_add rfl rfl (by constructor <;> omega) rfl) rfl ?_
   refine GoR.call rfl rfl (aOp_callFunc aFunc149 rfl) (hdel _ f2) ?_ (by rintro _ _ ⟨q, _⟩; cases q)
   rintro v19 h19 ⟨q, y9, Z', hZ', f9⟩
   cases q
   refine ⟨_, rfl, ?_⟩
   have e9 := y9.low e0 (fun b q => by have : b = h1.next := q; omega)
   have hx := y9.1
   replace f0 := f0.extF y9 (by omega)
   replace f1 := f1.extF y9 (by omega)
   clear e0 f2
   refine GoR.op rfl rfl rfl rfl ?_
   refine GoR.end ?_
   refine Go.inBlock noJ_ok ?_
   refine Go.region noJ_ok rfl ?_
   refine GoR.op rfl rfl rfl rfl ?_
   refine GoR.op rfl rfl (aOp_sub rfl rfl (by constructor <;> omega) rfl) rfl ?_
   refine GoR.op rfl rfl rfl rfl ?_
   refine GoR.end ?_
   exact again i i _ _ (by omega) ⟨rfl, rfl, rfl, rfl, rfl, trivial⟩ ⟨rfl, by omega, e9, f0, f1, Z', hZ', f9⟩
def popc (n : Nat) : Nat := ((List.range 10).filter fun i => n.testBit i).length
def pop1 (n : Nat) : Nat := (n / 2 ^ 1 &&& 6148914691236517205) + (n &&& 6148914691236517205)
def pop2 (a : Nat) : Nat := (a / 2 ^ 2 &&& 3689348814741910323) + (a &&& 3689348814741910323)
def pop3 (b : Nat) : Nat := (b / 2 ^ 4 + b) &&& 1085102592571150095
def pop4 (k c : Nat) : Nat := c + c / 2 ^ k
theorem pop_all : ((List.range 1024).all fun n => (pop4 32 (pop4 16 (pop4 8 (pop3 (pop2 (pop1 n))))) &&& 127) == popc n) = true := by decide +kernel
theorem ones157_ok {n : Nat} (hn : n < 1024) {h : AH} : Runs Tryz.prog 157 [.int .u64 (n : Nat)] h (fun en h' => en = .ret (.int .i64 (popc n : Nat)) ∧ Ext h h') := by
 have hp := List.all_eq_true.1 pop_all n (List.mem_range.2 hn)
 simp only [beq_iff_eq] at hp
 have k1 : n / 2 ^ 1 &&& 6148914691236517205 ≤ n / 2 ^ 1 := Nat.and_le_left
 have k2 : n &&& 6148914691236517205 ≤ n := Nat.and_le_left
 obtain ⟨a, ha⟩ : ∃ a, pop1 n = a := ⟨_, rfl⟩
 have ka : a ≤ 2048 := by rw [← ha]; unfold pop1; omega
 have k3 : a / 2 ^ 2 &&& 3689348814741910323 ≤ a / 2 ^ 2 := Nat.and_le_left
 have k4 : a &&& 3689348814741910323 ≤ a := Nat.and_le_left
 obtain ⟨b, hb⟩ : ∃ b, pop2 a = b := ⟨_, rfl⟩
 have kb : b ≤ 4096 := by rw [← hb]; unfold pop2; omega
 have k5 : (b / 2 ^ 4 + b) &&& 1085102592571150095 ≤ b / 2 ^ 4 + b := Nat.and_le_left
 obtain ⟨c, hc⟩ : ∃ c, pop3 b = c := ⟨_, rfl⟩
 have kc : c ≤ 8192 := by rw [← hc]; unfold pop3; omega
 obtain ⟨d, hd⟩ : ∃ d, pop4 8 c = d := ⟨_, rfl⟩
 have kd : d ≤ 16384 := by rw [← hd]; unfold pop4; omega
 obtain ⟨e, he⟩ : ∃ e, pop4 16 d = e := ⟨_, rfl⟩
 have ke : e ≤ 32768 := by rw [← he]; unfold pop4; omega
 obtain ⟨f, hf⟩ : ∃ f, pop4 32 e = f := ⟨_, rfl⟩
 have kf : f ≤ 65536 := by rw [← hf]; unfold pop4; omega
 rw [ha, hb, hc, hd, he, hf] at hp
 have e0 : Ext h h := Ext.refl _
 refine Runs.intro aFunc157 rfl rfl rfl rfl fun rest => ?_
 refine Go.seq noJ_ok ?_
 refine Go.region noJ_ok rfl ?_
 refine GoR.op rfl rfl rfl rfl ?_
 refine GoR.end ?_
 refine Go.seq noJ_ok ?_
 refine Go.region noJ_ok rfl ?_
 refine GoR.op rfl rfl rfl rfl ?_
 refine GoR.op rfl rfl (aOp_shrU rfl rfl (by decide) rfl) rfl ?_
 refine GoR.op rfl rfl (aOp_andU (a := n / 2 ^ 1) rfl rfl (by omega) (by decide) rfl) rfl ?_
 refine GoR.op rfl rfl rfl rfl ?_
 refine GoR.op rfl rfl (aOp_andU (a := n) rfl rfl (by omega) (by decide) rfl) rfl ?_
 refine GoR.op rfl rfl (aOp_addU (a := n / 2 ^ 1 &&& 6148914691236517205) (b := n &&& 6148914691236517205) rfl rfl (by omega) ha) rfl ?_
 refine GoR.op rfl rfl rfl rfl ?_
 refine GoR.end ?_
 refine Go.seq noJ_ok ?_
 refine Go.region noJ_ok rfl ?_
 refine GoR.op rfl rfl rfl rfl ?_
 refine GoR.op rfl rfl (aOp_shrU rfl rfl (by decide) rfl) rfl ?_
 refine GoR.op rfl rfl (aOp_andU (a := a / 2 ^ 2) rfl rfl (by omega) (by decide) rfl) rfl ?_
 refine GoR.op rfl rfl rfl rfl ?_
 refine GoR.op rfl rfl (aOp_andU (a := a) rfl rfl (by omega) (by decide) rfl) rfl ?_
 refine GoR.op rfl rfl (aOp_addU (a := a / 2 ^ 2 &&& 3689348814741910323) (b := a &&& 3689348814741910323) rfl rfl (by omega) hb) rfl ?_
 refine GoR.op rfl rfl rfl rfl ?_
 refine GoR.end ?_
 refine Go.seq noJ_ok ?_
 refine Go.region noJ_ok rfl ?_
 refine GoR.op rfl rfl rfl rfl ?_
 refine GoR.op rfl rfl (aOp_shrU rfl rfl (by decide) rfl) rfl ?_
 refine GoR.op rfl rfl rfl rfl ?_
 refine GoR.op rfl rfl (aOp_addU (a := b / 2 ^ 4) (b := b) rfl rfl (by omega) rfl) rfl ?_
 refine GoR.op rfl rfl (aOp_andU (a := b / 2 ^ 4 + b) rfl rfl (by omega) (by decide) hc) rfl ?_
 refine GoR.op rfl rfl rfl rfl ?_
 refine GoR.end ?_
 refine Go.seq noJ_ok ?_
 refine Go.region noJ_ok rfl ?_
 iterate 2 refine GoR.op rfl rfl rfl rfl ?_
 refine GoR.op rfl rfl (aOp_shrU rfl rfl (by decide) rfl) rfl ?_
 refine GoR.op rfl rfl (aOp_addU (a := c) (b := c / 2 ^ 8) rfl rfl (by omega) hd) rfl ?_
 refine GoR.op rfl rfl rfl rfl ?_
 refine GoR.end ?_
 refine Go.seq noJ_ok ?_
 refine Go.region noJ_ok rfl ?_
 iterate 2 refine GoR.op rfl rfl rfl rfl ?_
 refine GoR.op rfl rfl (aOp_shrU rfl rfl (by decide) rfl) rfl ?_
 refine GoR.op rfl rfl (aOp_addU (a := d) (b := d / 2 ^ 16) rfl rfl (by omega) he) rfl ?_
 refine GoR.op rfl rfl rfl rfl ?_
 refine GoR.end ?_
 refine Go.seq noJ_ok ?_
 refine Go.region noJ_ok rfl ?_
 iterate 2 refine GoR.op rfl rfl rfl rfl ?_
 refine GoR.op rfl rfl (aOp_shrU rfl rfl (by decide) rfl) rfl ?_
 refine GoR.op rfl rfl (aOp_addU (a := e) (b := e / 2 ^ 32) rfl rfl (by omega) hf) rfl ?_
 refine GoR.op rfl rfl rfl rfl ?_
 refine GoR.end ?_
 refine Go.seq noJ_ok ?_
 refine Go.region noJ_ok rfl ?_
 refine GoR.op rfl rfl rfl rfl ?_
 refine GoR.op rfl rfl (aOp_convUI (w := f) rfl Tryz.underlying194 Tryz.underlying3 (by omega)) rfl ?_
 refine GoR.op rfl rfl (aOp_andNat (a := f) rfl rfl (by omega) (by decide) hp) rfl ?_
 refine GoR.op rfl rfl rfl rfl ?_
 refine GoR.end ?_
 exact Go.ret noJ_ok (ret_end (aResult_of Tryz.func157 rfl rfl) ⟨rfl, e0⟩)
theorem ones148_ok {n : Nat} (hn : n < 1024) {h : AH} : Runs Tryz.prog 148 [.int .u64 (n : Nat)] h (fun en h' => en = .ret (.int .i64 (popc n : Nat)) ∧ Ext h h') := by
 have e0 : Ext h h := Ext.refl _
 refine Runs.intro aFunc148 rfl rfl rfl rfl fun rest => ?_
 refine Go.seq noJ_ok ?_
 refine Go.region noJ_ok rfl ?_
 refine GoR.op rfl rfl rfl rfl ?_
 refine GoR.end ?_
 refine Go.seq noJ_ok ?_
 refine Go.cond noJ_ok (b := false) rfl ?_
 refine Go.code noJ_ok ?_
 refine Go.seq noJ_ok ?_
 refine Go.region noJ_ok rfl ?_
 refine GoR.op rfl rfl rfl rfl ?_
 refine GoR.call rfl rfl (aOp_callFunc aFunc157 rfl) (ones157_ok hn) ?_ (by rintro _ _ ⟨q, _⟩; cases q)
 rintro v0 h0 ⟨q, x0⟩
 cases q
 refine ⟨_, rfl, ?_⟩
 replace e0 := e0.trans x0
 refine GoR.op rfl rfl rfl rfl ?_
 refine GoR.end ?_
 exact Go.ret noJ_ok (ret_end (aResult_of Tryz.func148 rfl rfl) ⟨rfl, e0⟩)
end Go.Proofs.YtkcimfopboelaaaGreat
