import Derived.Test.YtkcimfopboelaaaGreatMAQ
namespace Go.Proofs.YtkcimfopboelaaaGreat
open Go Go.AbsE
set_option linter.unusedSimpArgs false
set_option maxRecDepth 100000
set_option maxHeartbeats 0
set_option linter.unusedVariables false
theorem vh2 : (sampleV []).heightR 0 0 = ((7, 8), 0) := by decide +kernel
theorem vh3 : (sampleV []).heightR 0 1 = ((9, 10), 0) := by decide +kernel
theorem vh4 : (sampleV []).heightR 1 0 = ((6, 6), 0) := by decide +kernel
theorem vh5 : (sampleV [mkLook 1 7 9]).heightR 1 1 = ((8, 8), 0) := by decide +kernel
theorem vs2 : (sampleV []).sinksR 0 5 = ((3, 3), 0) := by decide +kernel
theorem vb2 : (sampleV []).bearsR 18 = (2, 0) := by decide +kernel
theorem vb3 : (sampleV []).bearsR 24 = (0, 0) := by decide +kernel
theorem vr2 : (sampleV []).restR 18 = (0, 0) := by decide +kernel
theorem vr3 : (sampleV []).restR 20 = (0, 4) := by decide +kernel
theorem vc2 : (sampleV [mkLook 1 7 9]).clashR = (0, 4) := by decide +kernel
theorem vm2 : (sampleV [mkLook 1 7 9, mkLook 1 6 6]).mostR = (0, 10) := by decide +kernel
theorem cvh2 {h : AH} {sp se : AVal} (A : RoadAt h (sampleV []) sp se) : Runs Tryz.prog 15 [.agg [sp, se], .int .i64 0, .int .i64 0] h (fun en h' => en = .ret (.tuple [.agg [.int .i64 7, .int .i64 8], .int .i64 0]) ∧ Ext h h') := by
 have q := Height_ok A (by decide) (by decide) 0 0
 rw [vh2] at q
 exact q
theorem cvh3 {h : AH} {sp se : AVal} (A : RoadAt h (sampleV []) sp se) : Runs Tryz.prog 15 [.agg [sp, se], .int .i64 0, .int .i64 1] h (fun en h' => en = .ret (.tuple [.agg [.int .i64 9, .int .i64 10], .int .i64 0]) ∧ Ext h h') := by
 have q := Height_ok A (by decide) (by decide) 0 1
 rw [vh3] at q
 exact q
theorem cvh4 {h : AH} {sp se : AVal} (A : RoadAt h (sampleV []) sp se) : Runs Tryz.prog 15 [.agg [sp, se], .int .i64 1, .int .i64 0] h (fun en h' => en = .ret (.tuple [.agg [.int .i64 6, .int .i64 6], .int .i64 0]) ∧ Ext h h') := by
 have q := Height_ok A (by decide) (by decide) 1 0
 rw [vh4] at q
 exact q
theorem cvh5 {h : AH} {sp se : AVal} (A : RoadAt h (sampleV [mkLook 1 7 9]) sp se) : Runs Tryz.prog 15 [.agg [sp, se], .int .i64 1, .int .i64 1] h (fun en h' => en = .ret (.tuple [.agg [.int .i64 8, .int .i64 8], .int .i64 0]) ∧ Ext h h') := by
 have q := Height_ok A (by decide) (by decide) 1 1
 rw [vh5] at q
 exact q
theorem cvs2 {h : AH} {sp se : AVal} (A : RoadAt h (sampleV []) sp se) : Runs Tryz.prog 17 [.agg [sp, se], .int .i64 0, .int .i64 5] h (fun en h' => en = .ret (.tuple [.agg [.int .i64 3, .int .i64 3], .int .i64 0]) ∧ Ext h h') := by
 have q := Sinks_ok A (by decide) (by decide) 0 5
 rw [vs2] at q
 exact q
theorem cvb2 {h : AH} {sp se : AVal} (A : RoadAt h (sampleV []) sp se) : Runs Tryz.prog 19 [.agg [sp, se], .int .i64 18] h (fun en h' => en = .ret (.tuple [.int .i64 2, .int .i64 0]) ∧ Ext h h') := by
 have q := Bears_ok A (by decide) (by decide) 18
 rw [vb2] at q
 exact q
theorem cvb3 {h : AH} {sp se : AVal} (A : RoadAt h (sampleV []) sp se) : Runs Tryz.prog 19 [.agg [sp, se], .int .i64 24] h (fun en h' => en = .ret (.tuple [.int .i64 0, .int .i64 0]) ∧ Ext h h') := by
 have q := Bears_ok A (by decide) (by decide) 24
 rw [vb3] at q
 exact q
theorem cvr2 {h : AH} {sp se : AVal} (A : RoadAt h (sampleV []) sp se) : Runs Tryz.prog 26 [.agg [sp, se], .int .i64 18] h (fun en h' => en = .ret (.tuple [.int .i64 0, .int .i64 0]) ∧ Ext h h') := by
 have q := Rest_ok A (by decide) (by decide) 18
 rw [vr2] at q
 exact q
theorem cvr3 {h : AH} {sp se : AVal} (A : RoadAt h (sampleV []) sp se) : Runs Tryz.prog 26 [.agg [sp, se], .int .i64 20] h (fun en h' => en = .ret (.tuple [.int .i64 0, .int .i64 4]) ∧ Ext h h') := by
 have q := Rest_ok A (by decide) (by decide) 20
 rw [vr3] at q
 exact q
theorem cvc2 {h : AH} {sp se : AVal} (A : RoadAt h (sampleV [mkLook 1 7 9]) sp se) : Runs Tryz.prog 30 [.agg [sp, se]] h (fun en h' => en = .ret (.tuple [.int .i64 0, .int .i64 4]) ∧ Ext h h') := by
 have q := Clash_ok A (by decide) (by decide)
 rw [vc2] at q
 exact q
theorem cvm2 {h : AH} {sp se : AVal} (A : RoadAt h (sampleV [mkLook 1 7 9, mkLook 1 6 6]) sp se) : Runs Tryz.prog 24 [.agg [sp, se]] h (fun en h' => en = .ret (.tuple [.int .i64 0, .int .i64 10]) ∧ Ext h h') := by
 have q := Most_ok A (by decide) (by decide)
 rw [vm2] at q
 exact q
theorem scal6 {sp se : AVal} {a b c d : Int} (hs : scalars [sp, se] = true) : scalars [sp, se, .int .i64 a, .int .i64 b, .int .i64 c, .int .i64 d] = true := by
 have h1 : cond (scalar sp) (cond (scalar se) true false) false = true := hs
 show cond (scalar sp) (cond (scalar se) true false) false = true
 exact h1
theorem Names_ok {h : AH} : Runs Tryz.prog 5 [] h (fun en h' => en = .ret (.bool true) ∧ Ext h h') := by
 have e0 : Ext h h := Ext.refl _
 refine Runs.intro aFunc5 rfl rfl rfl rfl fun rest => ?_
 refine Go.seq noJ_ok ?_
 refine Go.region noJ_ok rfl ?_
 refine GoR.op rfl rfl rfl rfl ?_
 refine GoR.end ?_
 iterate 2 refine Go.seq noJ_ok ?_
 refine Go.region noJ_ok rfl ?_
 refine GoR.call rfl rfl (aOp_callFunc aFunc32 rfl) (sample_of) ?_ (by rintro _ _ ⟨sp0, se0, q, _, RA0, e900⟩; cases q)
 rintro v0 h0 ⟨sp0, se0, q, x0, RA0, e900⟩
 cases q
 refine ⟨_, rfl, ?_⟩
 have := e0.1
 replace e0 := e0.trans x0
 refine GoR.call rfl rfl (aOp_callFunc aFunc33 rfl) (span33_ok) ?_ (by rintro _ _ ⟨q, _⟩; cases q)
 rintro v1 h1 ⟨q, x1⟩
 cases q
 refine ⟨_, rfl, ?_⟩
 replace e900 := e900.trans x1
 replace e0 := e0.trans x1
 refine GoR.op rfl rfl (aOp_build zt42 hu42 pl42 rfl rfl) rfl ?_
 refine GoR.call rfl rfl (aOp_callFunc aFunc32 rfl) (sample_of) ?_ (by rintro _ _ ⟨sp1, se1, q, _, RA1, e901⟩; cases q)
 rintro v2 h2 ⟨sp1, se1, q, x2, RA1, e901⟩
 cases q
 refine ⟨_, rfl, ?_⟩
 have := e900.1
 have := e0.1
 replace e900 := e900.trans x2
 replace e0 := e0.trans x2
 refine GoR.call rfl rfl (aOp_callFunc aFunc33 rfl) (span33_ok) ?_ (by rintro _ _ ⟨q, _⟩; cases q)
 rintro v3 h3 ⟨q, x3⟩
 cases q
 refine ⟨_, rfl, ?_⟩
 replace e901 := e901.trans x3
 replace e900 := e900.trans x3
 replace e0 := e0.trans x3
 refine GoR.op rfl rfl (aOp_build zt42 hu42 pl42 rfl rfl) rfl ?_
 refine GoR.call rfl rfl (aOp_callFunc aFunc32 rfl) (sample_of) ?_ (by rintro _ _ ⟨sp2, se2, q, _, RA2, e902⟩; cases q)
 rintro v4 h4 ⟨sp2, se2, q, x4, RA2, e902⟩
 cases q
 refine ⟨_, rfl, ?_⟩
 have := e901.1
 have := e900.1
 have := e0.1
 replace e901 := e901.trans x4
 replace e900 := e900.trans x4
 replace e0 := e0.trans x4
 refine GoR.call rfl rfl (aOp_callFunc aFunc33 rfl) (span33_ok) ?_ (by rintro _ _ ⟨q, _⟩; cases q)
 rintro v5 h5 ⟨q, x5⟩
 cases q
 refine ⟨_, rfl, ?_⟩
 replace e902 := e902.trans x5
 replace e901 := e901.trans x5
 replace e900 := e900.trans x5
 replace e0 := e0.trans x5
 refine GoR.op rfl rfl (aOp_build zt42 hu42 pl42 rfl rfl) rfl ?_
 refine GoR.call rfl rfl (aOp_callFunc aFunc34 rfl) (seen_ok) ?_ (by rintro _ _ ⟨sp3, se3, q, _, RA3, e903⟩; cases q)
 rintro v6 h6 ⟨sp3, se3, q, x6, RA3, e903⟩
 cases q
 refine ⟨_, rfl, ?_⟩
 have := e902.1
 have := e901.1
 have := e900.1
 have := e0.1
 replace e902 := e902.trans x6
 replace e901 := e901.trans x6
 replace e900 := e900.trans x6
 replace e0 := e0.trans x6
 refine GoR.call rfl rfl (aOp_callFunc aFunc33 rfl) (span33_ok) ?_ (by rintro _ _ ⟨q, _⟩; cases q)
 rintro v7 h7 ⟨q, x7⟩
 cases q
 refine ⟨_, rfl, ?_⟩
 replace e903 := e903.trans x7
 replace e902 := e902.trans x7
 replace e901 := e901.trans x7
 replace e900 := e900.trans x7
 replace e0 := e0.trans x7
 refine GoR.op rfl rfl (aOp_build zt42 hu42 pl42 rfl rfl) rfl ?_
 refine GoR.buildSl rfl rfl (ps := [(0, .agg [sp0, se0, .int .i64 0, .int .i64 0, .int .i64 7, .int .i64 8]), (1, .agg [sp1, se1, .int .i64 0, .int .i64 1, .int .i64 9, .int .i64 10]), (2, .agg [sp2, se2, .int .i64 1, .int .i64 0, .int .i64 6, .int .i64 6]), (3, .agg [sp3, se3, .int .i64 1, .int .i64 1, .int .i64 8, .int .i64 8])]) (cs := [sp0, se0, .int .i64 0, .int .i64 0, .int .i64 7, .int .i64 8, sp1, se1, .int .i64 0, .int .i64 1, .int .i64 9, .int .i64 10, sp2, se2, .int .i64 1, .int .i64 0, .int .i64 6, .int .i64 6, sp3, se3, .int .i64 1, .int .i64 1, .int .i64 8, .int .i64 8]) Tryz.underlying44 rfl sz42 zt42 rfl rfl rfl rfl fun h8 x8 f8 => ?_
 have := e903.1
 have := e902.1
 have := e901.1
 have := e900.1
 have := e0.1
 replace e903 := e903.trans x8
 replace e902 := e902.trans x8
 replace e901 := e901.trans x8
 replace e900 := e900.trans x8
 replace e0 := e0.trans x8
 have := f8.1
 iterate 2 refine GoR.op rfl rfl rfl rfl ?_
 refine GoR.end ?_
 refine Go.block noJ_ok ?_
 refine Go.loop noJ_ok ?_
 refine Go.seq noJ_ok ?_
 refine Go.region noJ_ok rfl ?_
 refine GoR.op rfl rfl (aOp_lss rfl rfl (r := true) (decide_eq_true (by omega))) rfl ?_
 refine GoR.end ?_
 refine Go.seq noJ_ok ?_
 refine Go.cond noJ_ok (b := true) rfl ?_
 refine Go.code noJ_ok ?_
 refine Go.seq noJ_ok ?_
 refine Go.block noJ_ok ?_
 refine Go.seq noJ_ok ?_
 refine Go.region noJ_ok rfl ?_
 refine GoR.op rfl rfl (aOp_indexAddr Tryz.underlying44 sz42 rfl rfl rfl rfl) rfl ?_
 refine GoR.op rfl rfl (ld42 rfl f8 rfl) rfl ?_
 refine GoR.alloc rfl rfl rfl zt42 rfl rfl fun h9 x9 f9 => ?_
 have := e903.1
 have := e902.1
 have := e901.1
 have := e900.1
 have := e0.1
 have := f8.1
 replace f8 := f8.ext x9
 replace e903 := e903.trans x9
 replace e902 := e902.trans x9
 replace e901 := e901.trans x9
 replace e900 := e900.trans x9
 replace e0 := e0.trans x9
 have := f9.1
 refine GoR.store rfl rfl rfl rfl rfl rfl f9 rfl sz42 rfl (scal6 (road_scal RA0)) rfl fun h10 u10 => ?_
 replace f9 := u10.has f9
 replace f8 := f8.upd u10 (by omega)
 replace e903 := e903.upd u10 (by omega)
 replace e902 := e902.upd u10 (by omega)
 replace e901 := e901.upd u10 (by omega)
 replace e900 := e900.upd u10 (by omega)
 replace e0 := e0.upd u10 (by omega)
 refine GoR.end ?_
 refine Go.seq noJ_ok ?_
 refine Go.region noJ_ok rfl ?_
 refine GoR.op rfl rfl (fa42_0 rfl) rfl ?_
 refine GoR.op rfl rfl (ld25 rfl f9 rfl) rfl ?_
 refine GoR.op rfl rfl (fa42_1 rfl) rfl ?_
 refine GoR.op rfl rfl (ld3 rfl f9 rfl) rfl ?_
 refine GoR.op rfl rfl (fa42_2 rfl) rfl ?_
 refine GoR.op rfl rfl (ld3 rfl f9 rfl) rfl ?_
 refine GoR.call rfl rfl (aOp_callFunc aFunc15 rfl) (cvh2 (RA0.ext e900)) ?_ (by rintro _ _ ⟨q, _⟩; cases q)
 rintro v11 h11 ⟨q, x11⟩
 cases q
 refine ⟨_, rfl, ?_⟩
 replace f9 := f9.ext x11
 replace f8 := f8.ext x11
 replace e903 := e903.trans x11
 replace e902 := e902.trans x11
 replace e901 := e901.trans x11
 replace e900 := e900.trans x11
 replace e0 := e0.trans x11
 iterate 3 refine GoR.op rfl rfl rfl rfl ?_
 refine GoR.alloc rfl rfl rfl zt29 rfl rfl fun h12 x12 f12 => ?_
 have := e903.1
 have := e902.1
 have := e901.1
 have := e900.1
 have := e0.1
 have := f9.1
 have := f8.1
 replace f9 := f9.ext x12
 replace f8 := f8.ext x12
 replace e903 := e903.trans x12
 replace e902 := e902.trans x12
 replace e901 := e901.trans x12
 replace e900 := e900.trans x12
 replace e0 := e0.trans x12
 have := f12.1
 refine GoR.store rfl rfl rfl rfl rfl rfl f12 rfl sz29 rfl rfl rfl fun h13 u13 => ?_
 replace f12 := u13.has f12
 replace f9 := f9.upd u13 (by omega)
 replace f8 := f8.upd u13 (by omega)
 replace e903 := e903.upd u13 (by omega)
 replace e902 := e902.upd u13 (by omega)
 replace e901 := e901.upd u13 (by omega)
 replace e900 := e900.upd u13 (by omega)
 replace e0 := e0.upd u13 (by omega)
 refine GoR.op rfl rfl rfl rfl ?_
 refine GoR.end ?_
 refine Go.seq noJ_ok ?_
 refine Go.region noJ_ok rfl ?_
 refine GoR.op rfl rfl (ld29 rfl f12 rfl) rfl ?_
 refine GoR.op rfl rfl (fa42_3 rfl) rfl ?_
 refine GoR.op rfl rfl (ld29 rfl f9 rfl) rfl ?_
 refine GoR.op rfl rfl (aOp_neqSpan spanT29 rfl rfl (r := false) rfl) rfl ?_
 iterate 2 refine GoR.op rfl rfl rfl rfl ?_
 refine GoR.op rfl rfl (aOp_neq rfl rfl (r := false) (decide_eq_true (by omega))) rfl ?_
 refine GoR.op rfl rfl rfl rfl ?_
 refine GoR.end ?_
 refine Go.cond noJ_ok (b := false) rfl ?_
 refine Go.code noJ_ok ?_
 refine Go.inBlock noJ_ok ?_
 refine Go.region noJ_ok rfl ?_
 refine GoR.op rfl rfl (aOp_add rfl rfl (by constructor <;> omega) rfl) rfl ?_
 refine GoR.op rfl rfl rfl rfl ?_
 refine GoR.end ?_
 refine Go.inLoop noJ_ok ?_
 refine Go.seq noJ_ok ?_
 refine Go.region noJ_ok rfl ?_
 refine GoR.op rfl rfl (aOp_lss rfl rfl (r := true) (decide_eq_true (by omega))) rfl ?_
 refine GoR.end ?_
 refine Go.seq noJ_ok ?_
 refine Go.cond noJ_ok (b := true) rfl ?_
 refine Go.code noJ_ok ?_
 refine Go.seq noJ_ok ?_
 refine Go.block noJ_ok ?_
 refine Go.seq noJ_ok ?_
 refine Go.region noJ_ok rfl ?_
 refine GoR.op rfl rfl (aOp_indexAddr Tryz.underlying44 sz42 rfl rfl rfl rfl) rfl ?_
 refine GoR.op rfl rfl (ld42 rfl f8 rfl) rfl ?_
 refine GoR.alloc rfl rfl rfl zt42 rfl rfl fun h14 x14 f14 => ?_
 have := e903.1
 have := e902.1
 have := e901.1
 have := e900.1
 have := e0.1
 have := f12.1
 have := f9.1
 have := f8.1
 replace f12 := f12.ext x14
 replace f9 := f9.ext x14
 replace f8 := f8.ext x14
 replace e903 := e903.trans x14
 replace e902 := e902.trans x14
 replace e901 := e901.trans x14
 replace e900 := e900.trans x14
 replace e0 := e0.trans x14
 have := f14.1
 refine GoR.store rfl rfl rfl rfl rfl rfl f14 rfl sz42 rfl (scal6 (road_scal RA1)) rfl fun h15 u15 => ?_
 replace f14 := u15.has f14
 replace f12 := f12.upd u15 (by omega)
 replace f9 := f9.upd u15 (by omega)
 replace f8 := f8.upd u15 (by omega)
 replace e903 := e903.upd u15 (by omega)
 replace e902 := e902.upd u15 (by omega)
 replace e901 := e901.upd u15 (by omega)
 replace e900 := e900.upd u15 (by omega)
 replace e0 := e0.upd u15 (by omega)
 refine GoR.end ?_
 refine Go.seq noJ_ok ?_
 refine Go.region noJ_ok rfl ?_
 refine GoR.op rfl rfl (fa42_0 rfl) rfl ?_
 refine GoR.op rfl rfl (ld25 rfl f14 rfl) rfl ?_
 refine GoR.op rfl rfl (fa42_1 rfl) rfl ?_
 refine GoR.op rfl rfl (ld3 rfl f14 rfl) rfl ?_
 refine GoR.op rfl rfl (fa42_2 rfl) rfl ?_
 refine GoR.op rfl rfl (ld3 rfl f14 rfl) rfl ?_
 refine GoR.call rfl rfl (aOp_callFunc aFunc15 rfl) (cvh3 (RA1.ext e901)) ?_ (by rintro _ _ ⟨q, _⟩; cases q)
 rintro v16 h16 ⟨q, x16⟩
 cases q
 refine ⟨_, rfl, ?_⟩
 replace f14 := f14.ext x16
 replace f12 := f12.ext x16
 replace f9 := f9.ext x16
 replace f8 := f8.ext x16
 replace e903 := e903.trans x16
 replace e902 := e902.trans x16
 replace e901 := e901.trans x16
 replace e900 := e900.trans x16
 replace e0 := e0.trans x16
 iterate 3 refine GoR.op rfl rfl rfl rfl ?_
 refine GoR.alloc rfl rfl rfl zt29 rfl rfl fun h17 x17 f17 => ?_
 have := e903.1
 have := e902.1
 have := e901.1
 have := e900.1
 have := e0.1
 have := f14.1
 have := f12.1
 have := f9.1
 have := f8.1
 replace f14 := f14.ext x17
 replace f12 := f12.ext x17
 replace f9 := f9.ext x17
 replace f8 := f8.ext x17
 replace e903 := e903.trans x17
 replace e902 := e902.trans x17
 replace e901 := e901.trans x17
 replace e900 := e900.trans x17
 replace e0 := e0.trans x17
 have := f17.1
 refine GoR.store rfl rfl rfl rfl rfl rfl f17 rfl sz29 rfl rfl rfl fun h18 u18 => ?_
 replace f17 := u18.has f17
 replace f14 := f14.upd u18 (by omega)
 replace f12 := f12.upd u18 (by omega)
 replace f9 := f9.upd u18 (by omega)
 replace f8 := f8.upd u18 (by omega)
 replace e903 := e903.upd u18 (by omega)
 replace e902 := e902.upd u18 (by omega)
 replace e901 := e901.upd u18 (by omega)
 replace e900 := e900.upd u18 (by omega)
 replace e0 := e0.upd u18 (by omega)
 refine GoR.op rfl rfl rfl rfl ?_
 refine GoR.end ?_
 refine Go.seq noJ_ok ?_
 refine Go.region noJ_ok rfl ?_
 refine GoR.op rfl rfl (ld29 rfl f17 rfl) rfl ?_
 refine GoR.op rfl rfl (fa42_3 rfl) rfl ?_
 refine GoR.op rfl rfl (ld29 rfl f14 rfl) rfl ?_
 refine GoR.op rfl rfl (aOp_neqSpan spanT29 rfl rfl (r := false) rfl) rfl ?_
 iterate 2 refine GoR.op rfl rfl rfl rfl ?_
 refine GoR.op rfl rfl (aOp_neq rfl rfl (r := false) (decide_eq_true (by omega))) rfl ?_
 refine GoR.op rfl rfl rfl rfl ?_
 refine GoR.end ?_
 refine Go.cond noJ_ok (b := false) rfl ?_
 refine Go.code noJ_ok ?_
 refine Go.inBlock noJ_ok ?_
 refine Go.region noJ_ok rfl ?_
 refine GoR.op rfl rfl (aOp_add rfl rfl (by constructor <;> omega) rfl) rfl ?_
 refine GoR.op rfl rfl rfl rfl ?_
 refine GoR.end ?_
 refine Go.inLoop noJ_ok ?_
 refine Go.seq noJ_ok ?_
 refine Go.region noJ_ok rfl ?_
 refine GoR.op rfl rfl (aOp_lss rfl rfl (r := true) (decide_eq_true (by omega))) rfl ?_
 refine GoR.end ?_
 refine Go.seq noJ_ok ?_
 refine Go.cond noJ_ok (b := true) rfl ?_
 refine Go.code noJ_ok ?_
 refine Go.seq noJ_ok ?_
 refine Go.block noJ_ok ?_
 refine Go.seq noJ_ok ?_
 refine Go.region noJ_ok rfl ?_
 refine GoR.op rfl rfl (aOp_indexAddr Tryz.underlying44 sz42 rfl rfl rfl rfl) rfl ?_
 refine GoR.op rfl rfl (ld42 rfl f8 rfl) rfl ?_
 refine GoR.alloc rfl rfl rfl zt42 rfl rfl fun h19 x19 f19 => ?_
 have := e903.1
 have := e902.1
 have := e901.1
 have := e900.1
 have := e0.1
 have := f17.1
 have := f14.1
 have := f12.1
 have := f9.1
 have := f8.1
 replace f17 := f17.ext x19
 replace f14 := f14.ext x19
 replace f12 := f12.ext x19
 replace f9 := f9.ext x19
 replace f8 := f8.ext x19
 replace e903 := e903.trans x19
 replace e902 := e902.trans x19
 replace e901 := e901.trans x19
 replace e900 := e900.trans x19
 replace e0 := e0.trans x19
 have := f19.1
 refine GoR.store rfl rfl rfl rfl rfl rfl f19 rfl sz42 rfl (scal6 (road_scal RA2)) rfl fun h20 u20 => ?_
 replace f19 := u20.has f19
 replace f17 := f17.upd u20 (by omega)
 replace f14 := f14.upd u20 (by omega)
 replace f12 := f12.upd u20 (by omega)
 replace f9 := f9.upd u20 (by omega)
 replace f8 := f8.upd u20 (by omega)
 replace e903 := e903.upd u20 (by omega)
 replace e902 := e902.upd u20 (by omega)
 replace e901 := e901.upd u20 (by omega)
 replace e900 := e900.upd u20 (by omega)
 replace e0 := e0.upd u20 (by omega)
 refine GoR.end ?_
 refine Go.seq noJ_ok ?_
 refine Go.region noJ_ok rfl ?_
 refine GoR.op rfl rfl (fa42_0 rfl) rfl ?_
 refine GoR.op rfl rfl (ld25 rfl f19 rfl) rfl ?_
 refine GoR.op rfl rfl (fa42_1 rfl) rfl ?_
 refine GoR.op rfl rfl (ld3 rfl f19 rfl) rfl ?_
 refine GoR.op rfl rfl (fa42_2 rfl) rfl ?_
 refine GoR.op rfl rfl (ld3 rfl f19 rfl) rfl ?_
 refine GoR.call rfl rfl (aOp_callFunc aFunc15 rfl) (cvh4 (RA2.ext e902)) ?_ (by rintro _ _ ⟨q, _⟩; cases q)
 rintro v21 h21 ⟨q, x21⟩
 cases q
 refine ⟨_, rfl, ?_⟩
 replace f19 := f19.ext x21
 replace f17 := f17.ext x21
 replace f14 := f14.ext x21
 replace f12 := f12.ext x21
 replace f9 := f9.ext x21
 replace f8 := f8.ext x21
 replace e903 := e903.trans x21
 replace e902 := e902.trans x21
 replace e901 := e901.trans x21
 replace e900 := e900.trans x21
 replace e0 := e0.trans x21
 iterate 3 refine GoR.op rfl rfl rfl rfl ?_
 refine GoR.alloc rfl rfl rfl zt29 rfl rfl fun h22 x22 f22 => ?_
 have := e903.1
 have := e902.1
 have := e901.1
 have := e900.1
 have := e0.1
 have := f19.1
 have := f17.1
 have := f14.1
 have := f12.1
 have := f9.1
 have := f8.1
 replace f19 := f19.ext x22
 replace f17 := f17.ext x22
 replace f14 := f14.ext x22
 replace f12 := f12.ext x22
 replace f9 := f9.ext x22
 replace f8 := f8.ext x22
 replace e903 := e903.trans x22
 replace e902 := e902.trans x22
 replace e901 := e901.trans x22
 replace e900 := e900.trans x22
 replace e0 := e0.trans x22
 have := f22.1
 refine GoR.store rfl rfl rfl rfl rfl rfl f22 rfl sz29 rfl rfl rfl fun h23 u23 => ?_
 replace f22 := u23.has f22
 replace f19 := f19.upd u23 (by omega)
 replace f17 := f17.upd u23 (by omega)
 replace f14 := f14.upd u23 (by omega)
 replace f12 := f12.upd u23 (by omega)
 replace f9 := f9.upd u23 (by omega)
 replace f8 := f8.upd u23 (by omega)
 replace e903 := e903.upd u23 (by omega)
 replace e902 := e902.upd u23 (by omega)
 replace e901 := e901.upd u23 (by omega)
 replace e900 := e900.upd u23 (by omega)
 replace e0 := e0.upd u23 (by omega)
 refine GoR.op rfl rfl rfl rfl ?_
 refine GoR.end ?_
 refine Go.seq noJ_ok ?_
 refine Go.region noJ_ok rfl ?_
 refine GoR.op rfl rfl (ld29 rfl f22 rfl) rfl ?_
 refine GoR.op rfl rfl (fa42_3 rfl) rfl ?_
 refine GoR.op rfl rfl (ld29 rfl f19 rfl) rfl ?_
 refine GoR.op rfl rfl (aOp_neqSpan spanT29 rfl rfl (r := false) rfl) rfl ?_
 iterate 2 refine GoR.op rfl rfl rfl rfl ?_
 refine GoR.op rfl rfl (aOp_neq rfl rfl (r := false) (decide_eq_true (by omega))) rfl ?_
 refine GoR.op rfl rfl rfl rfl ?_
 refine GoR.end ?_
 refine Go.cond noJ_ok (b := false) rfl ?_
 refine Go.code noJ_ok ?_
 refine Go.inBlock noJ_ok ?_
 refine Go.region noJ_ok rfl ?_
 refine GoR.op rfl rfl (aOp_add rfl rfl (by constructor <;> omega) rfl) rfl ?_
 refine GoR.op rfl rfl rfl rfl ?_
 refine GoR.end ?_
 refine Go.inLoop noJ_ok ?_
 refine Go.seq noJ_ok ?_
 refine Go.region noJ_ok rfl ?_
 refine GoR.op rfl rfl (aOp_lss rfl rfl (r := true) (decide_eq_true (by omega))) rfl ?_
 refine GoR.end ?_
 refine Go.seq noJ_ok ?_
 refine Go.cond noJ_ok (b := true) rfl ?_
 refine Go.code noJ_ok ?_
 refine Go.seq noJ_ok ?_
 refine Go.block noJ_ok ?_
 refine Go.seq noJ_ok ?_
 refine Go.region noJ_ok rfl ?_
 refine GoR.op rfl rfl (aOp_indexAddr Tryz.underlying44 sz42 rfl rfl rfl rfl) rfl ?_
 refine GoR.op rfl rfl (ld42 rfl f8 rfl) rfl ?_
 refine GoR.alloc rfl rfl rfl zt42 rfl rfl fun h24 x24 f24 => ?_
 have := e903.1
 have := e902.1
 have := e901.1
 have := e900.1
 have := e0.1
 have := f22.1
 have := f19.1
 have := f17.1
 have := f14.1
 have := f12.1
 have := f9.1
 have := f8.1
 replace f22 := f22.ext x24
 replace f19 := f19.ext x24
 replace f17 := f17.ext x24
 replace f14 := f14.ext x24
 replace f12 := f12.ext x24
 replace f9 := f9.ext x24
 replace f8 := f8.ext x24
 replace e903 := e903.trans x24
 replace e902 := e902.trans x24
 replace e901 := e901.trans x24
 replace e900 := e900.trans x24
 replace e0 := e0.trans x24
 have := f24.1
 refine GoR.store rfl rfl rfl rfl rfl rfl f24 rfl sz42 rfl (scal6 (road_scal RA3)) rfl fun h25 u25 => ?_
 replace f24 := u25.has f24
 replace f22 := f22.upd u25 (by omega)
 replace f19 := f19.upd u25 (by omega)
 replace f17 := f17.upd u25 (by omega)
 replace f14 := f14.upd u25 (by omega)
 replace f12 := f12.upd u25 (by omega)
 replace f9 := f9.upd u25 (by omega)
 replace f8 := f8.upd u25 (by omega)
 replace e903 := e903.upd u25 (by omega)
 replace e902 := e902.upd u25 (by omega)
 replace e901 := e901.upd u25 (by omega)
 replace e900 := e900.upd u25 (by omega)
 replace e0 := e0.upd u25 (by omega)
 refine GoR.end ?_
 refine Go.seq noJ_ok ?_
 refine Go.region noJ_ok rfl ?_
 refine GoR.op rfl rfl (fa42_0 rfl) rfl ?_
 refine GoR.op rfl rfl (ld25 rfl f24 rfl) rfl ?_
 refine GoR.op rfl rfl (fa42_1 rfl) rfl ?_
 refine GoR.op rfl rfl (ld3 rfl f24 rfl) rfl ?_
 refine GoR.op rfl rfl (fa42_2 rfl) rfl ?_
 refine GoR.op rfl rfl (ld3 rfl f24 rfl) rfl ?_
 refine GoR.call rfl rfl (aOp_callFunc aFunc15 rfl) (cvh5 (RA3.ext e903)) ?_ (by rintro _ _ ⟨q, _⟩; cases q)
 rintro v26 h26 ⟨q, x26⟩
 cases q
 refine ⟨_, rfl, ?_⟩
 replace f24 := f24.ext x26
 replace f22 := f22.ext x26
 replace f19 := f19.ext x26
 replace f17 := f17.ext x26
 replace f14 := f14.ext x26
 replace f12 := f12.ext x26
 replace f9 := f9.ext x26
 replace f8 := f8.ext x26
 replace e903 := e903.trans x26
 replace e902 := e902.trans x26
 replace e901 := e901.trans x26
 replace e900 := e900.trans x26
 replace e0 := e0.trans x26
 iterate 3 refine GoR.op rfl rfl rfl rfl ?_
 refine GoR.alloc rfl rfl rfl zt29 rfl rfl fun h27 x27 f27 => ?_
 have := e903.1
 have := e902.1
 have := e901.1
 have := e900.1
 have := e0.1
 have := f24.1
 have := f22.1
 have := f19.1
 have := f17.1
 have := f14.1
 have := f12.1
 have := f9.1
 have := f8.1
 replace f24 := f24.ext x27
 replace f22 := f22.ext x27
 replace f19 := f19.ext x27
 replace f17 := f17.ext x27
 replace f14 := f14.ext x27
 replace f12 := f12.ext x27
 replace f9 := f9.ext x27
 replace f8 := f8.ext x27
 replace e903 := e903.trans x27
 replace e902 := e902.trans x27
 replace e901 := e901.trans x27
 replace e900 := e900.trans x27
 replace e0 := e0.trans x27
 have := f27.1
 refine GoR.store rfl rfl rfl rfl rfl rfl f27 rfl sz29 rfl rfl rfl fun h28 u28 => ?_
 replace f27 := u28.has f27
 replace f24 := f24.upd u28 (by omega)
 replace f22 := f22.upd u28 (by omega)
 replace f19 := f19.upd u28 (by omega)
 replace f17 := f17.upd u28 (by omega)
 replace f14 := f14.upd u28 (by omega)
 replace f12 := f12.upd u28 (by omega)
 replace f9 := f9.upd u28 (by omega)
 replace f8 := f8.upd u28 (by omega)
 replace e903 := e903.upd u28 (by omega)
 replace e902 := e902.upd u28 (by omega)
 replace e901 := e901.upd u28 (by omega)
 replace e900 := e900.upd u28 (by omega)
 replace e0 := e0.upd u28 (by omega)
 refine GoR.op rfl rfl rfl rfl ?_
 refine GoR.end ?_
 refine Go.seq noJ_ok ?_
 refine Go.region noJ_ok rfl ?_
 refine GoR.op rfl rfl (ld29 rfl f27 rfl) rfl ?_
 refine GoR.op rfl rfl (fa42_3 rfl) rfl ?_
 refine GoR.op rfl rfl (ld29 rfl f24 rfl) rfl ?_
 refine GoR.op rfl rfl (aOp_neqSpan spanT29 rfl rfl (r := false) rfl) rfl ?_
 iterate 2 refine GoR.op rfl rfl rfl rfl ?_
 refine GoR.op rfl rfl (aOp_neq rfl rfl (r := false) (decide_eq_true (by omega))) rfl ?_
 refine GoR.op rfl rfl rfl rfl ?_
 refine GoR.end ?_
 refine Go.cond noJ_ok (b := false) rfl ?_
 refine Go.code noJ_ok ?_
 refine Go.inBlock noJ_ok ?_
 refine Go.region noJ_ok rfl ?_
 refine GoR.op rfl rfl (aOp_add rfl rfl (by constructor <;> omega) rfl) rfl ?_
 refine GoR.op rfl rfl rfl rfl ?_
 refine GoR.end ?_
 refine Go.inLoop noJ_ok ?_
 refine Go.seq noJ_ok ?_
 refine Go.region noJ_ok rfl ?_
 refine GoR.op rfl rfl (aOp_lss rfl rfl (r := false) (decide_eq_false (by omega))) rfl ?_
 refine GoR.end ?_
 refine Go.seq noJ_ok ?_
 refine Go.cond noJ_ok (b := false) rfl ?_
 refine Go.code noJ_ok ?_
 refine Go.seq noJ_ok ?_
 refine Go.region noJ_ok rfl ?_
 refine GoR.call rfl rfl (aOp_callFunc aFunc32 rfl) (sample_of) ?_ (by rintro _ _ ⟨sp4, se4, q, _, RA4, e904⟩; cases q)
 rintro v29 h29 ⟨sp4, se4, q, x29, RA4, e904⟩
 cases q
 refine ⟨_, rfl, ?_⟩
 have := e903.1
 have := e902.1
 have := e901.1
 have := e900.1
 have := e0.1
 replace f27 := f27.ext x29
 replace f24 := f24.ext x29
 replace f22 := f22.ext x29
 replace f19 := f19.ext x29
 replace f17 := f17.ext x29
 replace f14 := f14.ext x29
 replace f12 := f12.ext x29
 replace f9 := f9.ext x29
 replace f8 := f8.ext x29
 replace e903 := e903.trans x29
 replace e902 := e902.trans x29
 replace e901 := e901.trans x29
 replace e900 := e900.trans x29
 replace e0 := e0.trans x29
 refine GoR.call rfl rfl (aOp_callFunc aFunc17 rfl) (cvs2 (RA4.ext e904)) ?_ (by rintro _ _ ⟨q, _⟩; cases q)
 rintro v30 h30 ⟨q, x30⟩
 cases q
 refine ⟨_, rfl, ?_⟩
 replace f27 := f27.ext x30
 replace f24 := f24.ext x30
 replace f22 := f22.ext x30
 replace f19 := f19.ext x30
 replace f17 := f17.ext x30
 replace f14 := f14.ext x30
 replace f12 := f12.ext x30
 replace f9 := f9.ext x30
 replace f8 := f8.ext x30
 replace e904 := e904.trans x30
 replace e903 := e903.trans x30
 replace e902 := e902.trans x30
 replace e901 := e901.trans x30
 replace e900 := e900.trans x30
 replace e0 := e0.trans x30
 iterate 3 refine GoR.op rfl rfl rfl rfl ?_
 refine GoR.alloc rfl rfl rfl zt29 rfl rfl fun h31 x31 f31 => ?_
 have := e904.1
 have := e903.1
 have := e902.1
 have := e901.1
 have := e900.1
 have := e0.1
 have := f27.1
 have := f24.1
 have := f22.1
 have := f19.1
 have := f17.1
 have := f14.1
 have := f12.1
 have := f9.1
 have := f8.1
 replace e904 := e904.trans x31
 replace e903 := e903.trans x31
 replace e902 := e902.trans x31
 replace e901 := e901.trans x31
 replace e900 := e900.trans x31
 replace e0 := e0.trans x31
 have := f31.1
 refine GoR.store rfl rfl rfl rfl rfl rfl f31 rfl sz29 rfl rfl rfl fun h32 u32 => ?_
 replace f31 := u32.has f31
 replace e904 := e904.upd u32 (by omega)
 replace e903 := e903.upd u32 (by omega)
 replace e902 := e902.upd u32 (by omega)
 replace e901 := e901.upd u32 (by omega)
 replace e900 := e900.upd u32 (by omega)
 replace e0 := e0.upd u32 (by omega)
 refine GoR.op rfl rfl rfl rfl ?_
 refine GoR.end ?_
 refine Go.seq noJ_ok ?_
 refine Go.region noJ_ok rfl ?_
 refine GoR.call rfl rfl (aOp_callFunc aFunc32 rfl) (sample_of) ?_ (by rintro _ _ ⟨sp5, se5, q, _, RA5, e905⟩; cases q)
 rintro v33 h33 ⟨sp5, se5, q, x33, RA5, e905⟩
 cases q
 refine ⟨_, rfl, ?_⟩
 have := e904.1
 have := e903.1
 have := e902.1
 have := e901.1
 have := e900.1
 have := e0.1
 replace f31 := f31.ext x33
 replace e904 := e904.trans x33
 replace e903 := e903.trans x33
 replace e902 := e902.trans x33
 replace e901 := e901.trans x33
 replace e900 := e900.trans x33
 replace e0 := e0.trans x33
 refine GoR.call rfl rfl (aOp_callFunc aFunc19 rfl) (cvb2 (RA5.ext e905)) ?_ (by rintro _ _ ⟨q, _⟩; cases q)
 rintro v34 h34 ⟨q, x34⟩
 cases q
 refine ⟨_, rfl, ?_⟩
 replace f31 := f31.ext x34
 replace e905 := e905.trans x34
 replace e904 := e904.trans x34
 replace e903 := e903.trans x34
 replace e902 := e902.trans x34
 replace e901 := e901.trans x34
 replace e900 := e900.trans x34
 replace e0 := e0.trans x34
 iterate 5 refine GoR.op rfl rfl rfl rfl ?_
 refine GoR.end ?_
 refine Go.seq noJ_ok ?_
 refine Go.region noJ_ok rfl ?_
 refine GoR.call rfl rfl (aOp_callFunc aFunc32 rfl) (sample_of) ?_ (by rintro _ _ ⟨sp6, se6, q, _, RA6, e906⟩; cases q)
 rintro v35 h35 ⟨sp6, se6, q, x35, RA6, e906⟩
 cases q
 refine ⟨_, rfl, ?_⟩
 have := e905.1
 have := e904.1
 have := e903.1
 have := e902.1
 have := e901.1
 have := e900.1
 have := e0.1
 replace f31 := f31.ext x35
 replace e905 := e905.trans x35
 replace e904 := e904.trans x35
 replace e903 := e903.trans x35
 replace e902 := e902.trans x35
 replace e901 := e901.trans x35
 replace e900 := e900.trans x35
 replace e0 := e0.trans x35
 refine GoR.call rfl rfl (aOp_callFunc aFunc19 rfl) (cvb3 (RA6.ext e906)) ?_ (by rintro _ _ ⟨q, _⟩; cases q)
 rintro v36 h36 ⟨q, x36⟩
 cases q
 refine ⟨_, rfl, ?_⟩
 replace f31 := f31.ext x36
 replace e906 := e906.trans x36
 replace e905 := e905.trans x36
 replace e904 := e904.trans x36
 replace e903 := e903.trans x36
 replace e902 := e902.trans x36
 replace e901 := e901.trans x36
 replace e900 := e900.trans x36
 replace e0 := e0.trans x36
 iterate 5 refine GoR.op rfl rfl rfl rfl ?_
 refine GoR.end ?_
 refine Go.seq noJ_ok ?_
 refine Go.region noJ_ok rfl ?_
 refine GoR.call rfl rfl (aOp_callFunc aFunc32 rfl) (sample_of) ?_ (by rintro _ _ ⟨sp7, se7, q, _, RA7, e907⟩; cases q)
 rintro v37 h37 ⟨sp7, se7, q, x37, RA7, e907⟩
 cases q
 refine ⟨_, rfl, ?_⟩
 have := e906.1
 have := e905.1
 have := e904.1
 have := e903.1
 have := e902.1
 have := e901.1
 have := e900.1
 have := e0.1
 replace f31 := f31.ext x37
 replace e906 := e906.trans x37
 replace e905 := e905.trans x37
 replace e904 := e904.trans x37
 replace e903 := e903.trans x37
 replace e902 := e902.trans x37
 replace e901 := e901.trans x37
 replace e900 := e900.trans x37
 replace e0 := e0.trans x37
 refine GoR.call rfl rfl (aOp_callFunc aFunc26 rfl) (cvr2 (RA7.ext e907)) ?_ (by rintro _ _ ⟨q, _⟩; cases q)
 rintro v38 h38 ⟨q, x38⟩
 cases q
 refine ⟨_, rfl, ?_⟩
 replace f31 := f31.ext x38
 replace e907 := e907.trans x38
 replace e906 := e906.trans x38
 replace e905 := e905.trans x38
 replace e904 := e904.trans x38
 replace e903 := e903.trans x38
 replace e902 := e902.trans x38
 replace e901 := e901.trans x38
 replace e900 := e900.trans x38
 replace e0 := e0.trans x38
 iterate 5 refine GoR.op rfl rfl rfl rfl ?_
 refine GoR.end ?_
 refine Go.seq noJ_ok ?_
 refine Go.region noJ_ok rfl ?_
 refine GoR.call rfl rfl (aOp_callFunc aFunc32 rfl) (sample_of) ?_ (by rintro _ _ ⟨sp8, se8, q, _, RA8, e908⟩; cases q)
 rintro v39 h39 ⟨sp8, se8, q, x39, RA8, e908⟩
 cases q
 refine ⟨_, rfl, ?_⟩
 have := e907.1
 have := e906.1
 have := e905.1
 have := e904.1
 have := e903.1
 have := e902.1
 have := e901.1
 have := e900.1
 have := e0.1
 replace f31 := f31.ext x39
 replace e907 := e907.trans x39
 replace e906 := e906.trans x39
 replace e905 := e905.trans x39
 replace e904 := e904.trans x39
 replace e903 := e903.trans x39
 replace e902 := e902.trans x39
 replace e901 := e901.trans x39
 replace e900 := e900.trans x39
 replace e0 := e0.trans x39
 refine GoR.call rfl rfl (aOp_callFunc aFunc26 rfl) (cvr3 (RA8.ext e908)) ?_ (by rintro _ _ ⟨q, _⟩; cases q)
 rintro v40 h40 ⟨q, x40⟩
 cases q
 refine ⟨_, rfl, ?_⟩
 replace f31 := f31.ext x40
 replace e908 := e908.trans x40
 replace e907 := e907.trans x40
 replace e906 := e906.trans x40
 replace e905 := e905.trans x40
 replace e904 := e904.trans x40
 replace e903 := e903.trans x40
 replace e902 := e902.trans x40
 replace e901 := e901.trans x40
 replace e900 := e900.trans x40
 replace e0 := e0.trans x40
 iterate 5 refine GoR.op rfl rfl rfl rfl ?_
 refine GoR.end ?_
 refine Go.seq noJ_ok ?_
 refine Go.region noJ_ok rfl ?_
 refine GoR.call rfl rfl (aOp_callFunc aFunc34 rfl) (seen_ok) ?_ (by rintro _ _ ⟨sp9, se9, q, _, RA9, e909⟩; cases q)
 rintro v41 h41 ⟨sp9, se9, q, x41, RA9, e909⟩
 cases q
 refine ⟨_, rfl, ?_⟩
 have := e908.1
 have := e907.1
 have := e906.1
 have := e905.1
 have := e904.1
 have := e903.1
 have := e902.1
 have := e901.1
 have := e900.1
 have := e0.1
 replace f31 := f31.ext x41
 replace e908 := e908.trans x41
 replace e907 := e907.trans x41
 replace e906 := e906.trans x41
 replace e905 := e905.trans x41
 replace e904 := e904.trans x41
 replace e903 := e903.trans x41
 replace e902 := e902.trans x41
 replace e901 := e901.trans x41
 replace e900 := e900.trans x41
 replace e0 := e0.trans x41
 refine GoR.call rfl rfl (aOp_callFunc aFunc30 rfl) (cvc2 (RA9.ext e909)) ?_ (by rintro _ _ ⟨q, _⟩; cases q)
 rintro v42 h42 ⟨q, x42⟩
 cases q
 refine ⟨_, rfl, ?_⟩
 replace f31 := f31.ext x42
 replace e909 := e909.trans x42
 replace e908 := e908.trans x42
 replace e907 := e907.trans x42
 replace e906 := e906.trans x42
 replace e905 := e905.trans x42
 replace e904 := e904.trans x42
 replace e903 := e903.trans x42
 replace e902 := e902.trans x42
 replace e901 := e901.trans x42
 replace e900 := e900.trans x42
 replace e0 := e0.trans x42
 iterate 5 refine GoR.op rfl rfl rfl rfl ?_
 refine GoR.end ?_
 refine Go.seq noJ_ok ?_
 refine Go.region noJ_ok rfl ?_
 refine GoR.call rfl rfl (aOp_callFunc aFunc35 rfl) (clash_ok) ?_ (by rintro _ _ ⟨sp10, se10, q, _, RA10, e910⟩; cases q)
 rintro v43 h43 ⟨sp10, se10, q, x43, RA10, e910⟩
 cases q
 refine ⟨_, rfl, ?_⟩
 have := e909.1
 have := e908.1
 have := e907.1
 have := e906.1
 have := e905.1
 have := e904.1
 have := e903.1
 have := e902.1
 have := e901.1
 have := e900.1
 have := e0.1
 replace f31 := f31.ext x43
 replace e0 := e0.trans x43
 refine GoR.call rfl rfl (aOp_callFunc aFunc24 rfl) (cvm2 (RA10.ext e910)) ?_ (by rintro _ _ ⟨q, _⟩; cases q)
 rintro v44 h44 ⟨q, x44⟩
 cases q
 refine ⟨_, rfl, ?_⟩
 replace f31 := f31.ext x44
 replace e0 := e0.trans x44
 iterate 5 refine GoR.op rfl rfl rfl rfl ?_
 refine GoR.end ?_
 refine Go.seq noJ_ok ?_
 refine Go.drawnE plan5_0 ?_
 refine GoE.quiet rfl rfl rfl rfl ?_
 refine GoE.call rfl rfl (aOp_callFunc aFunc14 rfl) (alive_ok) (dropF_drop (show bit? 1 0 = true from rfl) rfl) ?_ (by rintro _ _ ⟨q, _⟩; cases q)
 rintro v45 h45 ⟨q, x45⟩
 cases q
 replace f31 := f31.ext x45
 replace e0 := e0.trans x45
 refine ⟨recheck_nil, _, rfl, ?_⟩
 iterate 2 refine GoE.quiet rfl rfl rfl rfl ?_
 refine GoE.quiet rfl rfl (ld29 rfl f31 rfl) rfl ?_
 refine GoE.call rfl rfl (aOp_callFunc aFunc33 rfl) (span33_ok) (dropF_keep (show bit? 15 4 = false from rfl) (dropF_drop (show bit? 15 3 = true from rfl) (dropF_drop (show bit? 15 2 = true from rfl) rfl))) ?_ (by rintro _ _ ⟨q, _⟩; cases q)
 rintro v46 h46 ⟨q, x46⟩
 cases q
 replace f31 := f31.ext x46
 replace e0 := e0.trans x46
 refine ⟨(rck (h2 := h46) rfl (ld29 rfl f31 rfl) recheck_nil), _, rfl, ?_⟩
 refine GoE.quiet rfl rfl (aOp_eqlSpan spanT29 rfl rfl (r := true) rfl) rfl ?_
 iterate 3 refine GoE.quiet rfl rfl rfl rfl ?_
 refine GoE.quiet rfl rfl (aOp_eql rfl rfl (r := true) (decide_eq_true (by omega))) rfl ?_
 iterate 3 refine GoE.quiet rfl rfl rfl rfl ?_
 refine GoE.quiet rfl rfl (aOp_eql rfl rfl (r := true) (decide_eq_true (by omega))) rfl ?_
 iterate 3 refine GoE.quiet rfl rfl rfl rfl ?_
 refine GoE.quiet rfl rfl (aOp_eql rfl rfl (r := true) (decide_eq_true (by omega))) rfl ?_
 iterate 3 refine GoE.quiet rfl rfl rfl rfl ?_
 refine GoE.quiet rfl rfl (aOp_eql rfl rfl (r := true) (decide_eq_true (by omega))) rfl ?_
 iterate 3 refine GoE.quiet rfl rfl rfl rfl ?_
 refine GoE.quiet rfl rfl (aOp_eql rfl rfl (r := true) (decide_eq_true (by omega))) rfl ?_
 iterate 3 refine GoE.quiet rfl rfl rfl rfl ?_
 refine GoE.quiet rfl rfl (aOp_eql rfl rfl (r := true) (decide_eq_true (by omega))) rfl ?_
 iterate 3 refine GoE.quiet rfl rfl rfl rfl ?_
 refine GoE.quiet rfl rfl (aOp_eql rfl rfl (r := true) (decide_eq_true (by omega))) rfl ?_
 iterate 3 refine GoE.quiet rfl rfl rfl rfl ?_
 refine GoE.quiet rfl rfl (aOp_eql rfl rfl (r := true) (decide_eq_true (by omega))) rfl ?_
 iterate 3 refine GoE.quiet rfl rfl rfl rfl ?_
 refine GoE.quiet rfl rfl (aOp_eql rfl rfl (r := true) (decide_eq_true (by omega))) rfl ?_
 iterate 3 refine GoE.quiet rfl rfl rfl rfl ?_
 refine GoE.quiet rfl rfl (aOp_eql rfl rfl (r := true) (decide_eq_true (by omega))) rfl ?_
 iterate 2 refine GoE.quiet rfl rfl rfl rfl ?_
 refine GoE.end rfl ?_
 exact Go.ret noJ_ok (ret_end (aResult_of Tryz.func5 rfl rfl) ⟨rfl, e0⟩)
end Go.Proofs.YtkcimfopboelaaaGreat
