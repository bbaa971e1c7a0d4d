import Derived.Test.YtkcimfopboelaaaGreatMAN
import Derived.Test.YtkcimfopboelaaaGreatMAH
namespace Go.Proofs.YtkcimfopboelaaaGreat
open Go Go.AbsE
set_option linter.unusedSimpArgs false
set_option maxRecDepth 100000
set_option maxHeartbeats 0
set_option linter.unusedVariables false
theorem truths_yes {R : RoadV} (O : R.Ok) (hp : R.possible = true) {lo : Nat} {gp ge : AVal} {h : AH} (A : GroundAt h R lo gp ge) : Runs Tryz.prog 52 [.agg [gp, ge]] h (fun en h' => ∃ bm L, en = .ret (.map bm) ∧ Ext h h' ∧ KnownAt R h' h.next bm L ∧ Ext h' h') :=
 (truths_ok O A).mono fun en h' ⟨x, k⟩ => by
  rcases k with ⟨_, bm, q, _, K⟩ | ⟨q, _⟩
  ·obtain ⟨L, K⟩ := K.at O
   exact ⟨bm, L, q, x, K, Ext.refl _⟩
  ·rw [hp] at q; cases q
theorem truths_no {R : RoadV} (O : R.Ok) (hp : R.possible = false) {lo : Nat} {gp ge : AVal} {h : AH} (A : GroundAt h R lo gp ge) : Runs Tryz.prog 52 [.agg [gp, ge]] h (fun en h' => en = .pan (refusal 10) ∧ Ext h h') :=
 (truths_ok O A).mono fun en h' ⟨x, k⟩ => by
  rcases k with ⟨q, _⟩ | ⟨_, q⟩
  ·rw [hp] at q; cases q
  ·exact ⟨q, x⟩
theorem nums_down (n : Nat) : numsV n (-1) (n + 1) = down n := by
 unfold numsV down
 refine List.map_congr_left fun k _ => ?_
 omega
theorem nums_up : numsV 0 1 11 = upto 0 10 := by
 unfold numsV upto
 refine List.map_congr_left fun k _ => ?_
 omega
theorem mem_down {n : Nat} {x : Int} (h : x ∈ down n) : 0 ≤ x ∧ x ≤ n := by
 unfold down at h
 obtain ⟨k, hk, rfl⟩ := List.mem_map.1 h
 rw [List.mem_range] at hk
 omega
theorem most112_ok {R : RoadV} (O : R.Ok) {h : AH} {lo bm : Nat} {L : List (List Int × AVal)} (K : KnownAt R h lo bm L) {load : Int} (hl : 0 ≤ load ∧ load ≤ 60) {bk : Nat} (f0 : Has h bk (.cells .plain [.map bm] 80)) : Runs Tryz.prog 112 [.int .i64 load, .ptr bk 0] h (fun en h' => en = .ret (.bool (alwaysV R.known fun f => f.x.bears load)) ∧ Ext h h') := by
 have ha : ∀ {h9 : AH} {b : Nat}, Ext h h9 → Has h9 b (.cells .plain [.int .i64 load] 3) → Runs Tryz.prog 105 [.map bm, .func (.func 113) [] [.ptr b 0]] h9 (fun en h' => en = .ret (.bool (alwaysV R.known fun f => f.x.bears load)) ∧ Ext h9 h') := fun e f => always_ok O (K.ext e) aFunc113 _ fun f' i h' hf e' => bears113_ok (known_in O hf).1 (known_in O hf).2 hl (f.ext e')
 have hb := f0.1
 have e0 : Ext h h := Ext.refl _
 refine Runs.intro aFunc112 rfl rfl rfl rfl fun rest => ?_
 refine Go.seq noJ_ok ?_
 refine Go.region noJ_ok rfl ?_
 refine GoR.box rfl rfl rfl rfl rfl rfl fun h1 x1 f1 => ?_
 replace f0 := f0.ext x1
 replace e0 := e0.trans x1
 refine GoR.op rfl rfl rfl rfl ?_
 refine GoR.end ?_
 refine Go.seq noJ_ok ?_
 refine Go.region noJ_ok rfl ?_
 refine GoR.op rfl rfl (ld80 rfl f0 rfl) rfl ?_
 refine GoR.op rfl rfl rfl rfl ?_
 refine GoR.call rfl rfl (aOp_callFunc aFunc105 rfl) (ha e0 f1) ?_ (by rintro _ _ ⟨q, _⟩; cases q)
 rintro v2 h2 ⟨q, x2⟩
 cases q
 refine ⟨_, rfl, ?_⟩
 replace e0 := e0.trans x2
 refine GoR.op rfl rfl rfl rfl ?_
 refine GoR.end ?_
 exact Go.ret noJ_ok (ret_end (aResult_of Tryz.func112 rfl rfl) ⟨rfl, e0⟩)
theorem most_ok {R : RoadV} (O : R.Ok) {h : AH} {lo bm : Nat} {L : List (List Int × AVal)} (K : KnownAt R h lo bm L) : Runs Tryz.prog 74 [.map bm] h (fun en h' => en = (match mostV R.known with | some l => .ret (.int .i64 l) | none => .pan (refusal 4)) ∧ Ext h h') := by
 have hfi : ∀ {h9 : AH} {bf bt bs b : Nat}, Ext h h9 → NumsA 60 0 (-1) bf bt bs h9 → Has h9 b (.cells .plain [.map bm] 80) → Runs Tryz.prog 110 [.func (.func 145) [] [.ptr bf 0, .ptr bt 0, .ptr bs 0], .agg [.func (.func 112) [] [.ptr b 0]]] h9 (fun en h' => en = .ret (.tuple [.int .i64 ((mostV R.known).getD 0), .bool (mostV R.known).isSome]) ∧ Ext h9 h') := fun {h9 bf bt bs b} e na f => by
  have it := nums1_it (a := 60) (b := 0) (s := -1) (.inr rfl) (by omega) (by omega) (n := 61) (by omega) bf bt bs
  rw [show numsV 60 (-1) 61 = down 60 from nums_down 60] at it
  exact first_ok aFunc145 it aFunc112 (fun l => alwaysV R.known fun f => f.x.bears l) (fun h' x => ⟨na.f.ext x, na.t.ext x, na.s.ext x⟩) fun x h' hx e' => most112_ok O (K.ext (e.trans e')) (mem_down hx) (f.ext e')
 have hna : ∀ {h9 : AH}, Runs Tryz.prog 111 [.int .i64 60, .int .i64 0] h9 (fun en h' => ∃ bf bt bs, en = .ret (.func (.func 145) [] [.ptr bf 0, .ptr bt 0, .ptr bs 0]) ∧ Ext h9 h' ∧ NumsA 60 0 (-1) bf bt bs h' ∧ h9.next ≤ bf ∧ h9.next ≤ bt ∧ h9.next ≤ bs) := numbers_ok
 cases hm : mostV R.known with
 | none =>
  rw [hm] at hfi
  have e0 : Ext h h := Ext.refl _
  refine Runs.intro aFunc74 rfl rfl rfl rfl fun rest => ?_
  refine Go.seq noJ_ok ?_
  refine Go.region noJ_ok rfl ?_
  refine GoR.box rfl rfl rfl rfl rfl rfl fun h0 x0 f0 => ?_
  replace e0 := e0.trans x0
  refine GoR.op rfl rfl rfl rfl ?_
  refine GoR.end ?_
  refine Go.seq noJ_ok ?_
  refine Go.region noJ_ok rfl ?_
  refine GoR.call rfl rfl (aOp_callFunc aFunc111 rfl) (hna) ?_ (by rintro _ _ ⟨bf, bt, bs, q, _, NA, l1, l2, l3⟩; cases q)
  rintro v1 h1 ⟨bf, bt, bs, q, x1, NA, l1, l2, l3⟩
  cases q
  refine ⟨_, rfl, ?_⟩
  replace f0 := f0.ext x1
  replace e0 := e0.trans x1
  refine GoR.op rfl rfl rfl rfl ?_
  refine GoR.op rfl rfl (aOp_build zt145 hu145 pl145 rfl rfl) rfl ?_
  refine GoR.call rfl rfl (aOp_callFunc aFunc110 rfl) (hfi e0 NA f0) ?_ (by rintro _ _ ⟨q, _⟩; cases q)
  rintro v2 h2 ⟨q, x2⟩
  cases q
  refine ⟨_, rfl, ?_⟩
  replace f0 := f0.ext x2
  replace e0 := e0.trans x2
  iterate 5 refine GoR.op rfl rfl rfl rfl ?_
  refine GoR.end ?_
  refine Go.seq noJ_ok ?_
  refine Go.region noJ_ok rfl ?_
  iterate 2 refine GoR.op rfl rfl rfl rfl ?_
  refine GoR.callP rfl rfl (aOp_callFunc aFunc91 rfl) (refuse_yes _ _) (by rintro _ _ ⟨q, _⟩; cases q) ?_
  rintro chain h3 ⟨q, x3⟩
  have q := AEnd.pan.inj q
  subst q
  replace f0 := f0.ext x3
  replace e0 := e0.trans x3
  exact FLeft.pan (⟨rfl, e0⟩)
 | some l =>
  rw [hm] at hfi
  have e0 : Ext h h := Ext.refl _
  refine Runs.intro aFunc74 rfl rfl rfl rfl fun rest => ?_
  refine Go.seq noJ_ok ?_
  refine Go.region noJ_ok rfl ?_
  refine GoR.box rfl rfl rfl rfl rfl rfl fun h0 x0 f0 => ?_
  replace e0 := e0.trans x0
  refine GoR.op rfl rfl rfl rfl ?_
  refine GoR.end ?_
  refine Go.seq noJ_ok ?_
  refine Go.region noJ_ok rfl ?_
  refine GoR.call rfl rfl (aOp_callFunc aFunc111 rfl) (hna) ?_ (by rintro _ _ ⟨bf, bt, bs, q, _, NA, l1, l2, l3⟩; cases q)
  rintro v1 h1 ⟨bf, bt, bs, q, x1, NA, l1, l2, l3⟩
  cases q
  refine ⟨_, rfl, ?_⟩
  replace f0 := f0.ext x1
  replace e0 := e0.trans x1
  refine GoR.op rfl rfl rfl rfl ?_
  refine GoR.op rfl rfl (aOp_build zt145 hu145 pl145 rfl rfl) rfl ?_
  refine GoR.call rfl rfl (aOp_callFunc aFunc110 rfl) (hfi e0 NA f0) ?_ (by rintro _ _ ⟨q, _⟩; cases q)
  rintro v2 h2 ⟨q, x2⟩
  cases q
  refine ⟨_, rfl, ?_⟩
  replace e0 := e0.trans x2
  iterate 5 refine GoR.op rfl rfl rfl rfl ?_
  refine GoR.end ?_
  refine Go.seq noJ_ok ?_
  refine Go.region noJ_ok rfl ?_
  iterate 2 refine GoR.op rfl rfl rfl rfl ?_
  refine GoR.call rfl rfl (aOp_callFunc aFunc91 rfl) (refuse_no _ _) ?_ (by rintro _ _ ⟨q, _⟩; cases q)
  rintro v3 h3 ⟨q, x3⟩
  cases q
  refine ⟨_, rfl, ?_⟩
  replace e0 := e0.trans x3
  refine GoR.end ?_
  refine Go.seq noJ_ok ?_
  refine Go.region noJ_ok rfl ?_
  iterate 2 refine GoR.op rfl rfl rfl rfl ?_
  refine GoR.end ?_
  exact Go.ret noJ_ok (ret_end (aResult_of Tryz.func74 rfl rfl) ⟨rfl, e0⟩)
theorem rest115_ok {f : Ft} (h1 : f.x.In 600) (h2 : f.hs.length ≤ 10) {load days : Int} (hl : 0 ≤ load ∧ load ≤ 60) (hd : 0 ≤ days ∧ days ≤ 10) {b b2 : Nat} {h : AH} (f0 : Has h b (.cells .plain [.int .i64 days] 3)) (f1 : Has h b2 (.cells .plain [.int .i64 load] 3)) : Runs Tryz.prog 115 [.agg f.cells, .ptr b 0, .ptr b2 0] h (fun en h' => en = .ret (.bool ((f.x.rested days).bears load)) ∧ Ext h h') := by
 have hbl := f0.1
 have hbl2 := f1.1
 have a := h1.h
 have a2 := h1.f
 have a3 := mul_small hd h1.r
 have hr := fun h => rested_ok (x := f.x) (days := days) (by omega) h1.r (by omega) (h := h)
 have hb := fun h => bears_ok (x := f.x.rested days) (load := load) (by omega) h1.s (by show _ ≤ min (_ + _) _ ∧ min (_ + _) _ ≤ _; omega) (h := h)
 have hfc : f.cells = .int .i64 f.x.height :: .int .i64 f.x.stiff :: .int .i64 f.x.rise :: .int .i64 f.x.full :: i64s (padZ f.hs) := rfl
 unfold Pc.cells at hb hr
 rw [hfc]
 have e0 : Ext h h := Ext.refl _
 refine Runs.intro aFunc115 rfl rfl rfl rfl fun rest => ?_
 refine Go.seq noJ_ok ?_
 refine Go.region noJ_ok rfl ?_
 refine GoR.box rfl rfl rfl rfl rfl rfl fun h3 x3 f3 => ?_
 have := e0.1
 have := f0.1
 have := f1.1
 replace f0 := f0.ext x3
 replace f1 := f1.ext x3
 replace e0 := e0.trans x3
 have := f3.1
 refine GoR.op rfl rfl rfl rfl ?_
 refine GoR.end ?_
 refine Go.seq noJ_ok ?_
 refine Go.drawnE plan115_0 ?_
 refine GoE.quiet rfl rfl (fa87_0 rfl) rfl ?_
 refine GoE.quiet rfl rfl (ld84 rfl f3 rfl) rfl ?_
 refine GoE.quiet rfl rfl (ld3 rfl f0 rfl) rfl ?_
 refine GoE.quiet rfl rfl (ld3 rfl f1 rfl) rfl ?_
 refine GoE.call rfl rfl (aOp_callFunc aFunc116 rfl) (hr _) (dropF_keep (show bit? 7 4 = false from rfl) (dropF_drop (show bit? 7 2 = true from rfl) (dropF_drop (show bit? 7 1 = true from rfl) (dropF_drop (show bit? 7 0 = true from rfl) rfl)))) ?_ (by rintro _ _ ⟨q, _⟩; cases q)
 rintro v4 h4 ⟨q, x4⟩
 cases q
 replace f1 := f1.ext x4
 replace e0 := e0.trans x4
 refine ⟨(rck (h2 := h4) rfl (ld3 rfl f1 rfl) recheck_nil), _, rfl, ?_⟩
 refine GoE.call rfl rfl (aOp_callFunc aFunc104 rfl) (hb _) (dropF_drop (show bit? 31 4 = true from rfl) rfl) ?_ (by rintro _ _ ⟨q, _⟩; cases q)
 rintro v5 h5 ⟨q, x5⟩
 cases q
 replace e0 := e0.trans x5
 refine ⟨recheck_nil, _, rfl, ?_⟩
 refine GoE.quiet rfl rfl rfl rfl ?_
 refine GoE.end rfl ?_
 exact Go.ret noJ_ok (ret_end (aResult_of Tryz.func115 rfl rfl) ⟨rfl, e0⟩)
theorem rest114_ok {R : RoadV} (O : R.Ok) {h : AH} {lo bm : Nat} {L : List (List Int × AVal)} (K : KnownAt R h lo bm L) {load days : Int} (hl : 0 ≤ load ∧ load ≤ 60) (hd : 0 ≤ days ∧ days ≤ 10) {bk bl : Nat} (f0 : Has h bk (.cells .plain [.map bm] 80)) (f1 : Has h bl (.cells .plain [.int .i64 load] 3)) : Runs Tryz.prog 114 [.int .i64 days, .ptr bk 0, .ptr bl 0] h (fun en h' => en = .ret (.bool (alwaysV R.known fun f => (f.x.rested days).bears load)) ∧ Ext h h') := by
 have ha : ∀ {h9 : AH} {b : Nat}, Ext h h9 → Has h9 b (.cells .plain [.int .i64 days] 3) → Has h9 bl (.cells .plain [.int .i64 load] 3) → Runs Tryz.prog 105 [.map bm, .func (.func 115) [] [.ptr b 0, .ptr bl 0]] h9 (fun en h' => en = .ret (.bool (alwaysV R.known fun f => (f.x.rested days).bears load)) ∧ Ext h9 h') := fun e f f2 => always_ok O (K.ext e) aFunc115 _ fun f' i h' hf e' => rest115_ok (known_in O hf).1 (known_in O hf).2 hl hd (f.ext e') (f2.ext e')
 have hb := f0.1
 have hb1 := f1.1
 have e0 : Ext h h := Ext.refl _
 refine Runs.intro aFunc114 rfl rfl rfl rfl fun rest => ?_
 refine Go.seq noJ_ok ?_
 refine Go.region noJ_ok rfl ?_
 refine GoR.box rfl rfl rfl rfl rfl rfl fun h2 x2 f2 => ?_
 replace f0 := f0.ext x2
 replace f1 := f1.ext x2
 replace e0 := e0.trans x2
 refine GoR.op rfl rfl rfl rfl ?_
 refine GoR.end ?_
 refine Go.seq noJ_ok ?_
 refine Go.region noJ_ok rfl ?_
 refine GoR.op rfl rfl (ld80 rfl f0 rfl) rfl ?_
 refine GoR.op rfl rfl rfl rfl ?_
 refine GoR.call rfl rfl (aOp_callFunc aFunc105 rfl) (ha e0 f2 f1) ?_ (by rintro _ _ ⟨q, _⟩; cases q)
 rintro v3 h3 ⟨q, x3⟩
 cases q
 refine ⟨_, rfl, ?_⟩
 replace e0 := e0.trans x3
 refine GoR.op rfl rfl rfl rfl ?_
 refine GoR.end ?_
 exact Go.ret noJ_ok (ret_end (aResult_of Tryz.func114 rfl rfl) ⟨rfl, e0⟩)
theorem rest_ok {R : RoadV} (O : R.Ok) {h : AH} {lo bm : Nat} {L : List (List Int × AVal)} (K : KnownAt R h lo bm L) {load : Int} (hl : 0 ≤ load ∧ load ≤ 60) : Runs Tryz.prog 76 [.map bm, .int .i64 load] h (fun en h' => en = (match restV R.known load with | some l => .ret (.int .i64 l) | none => .pan (refusal 4)) ∧ Ext h h') := by
 have hfi : ∀ {h9 : AH} {bf bt bs b b2 : Nat}, Ext h h9 → NumsA 0 10 1 bf bt bs h9 → Has h9 b (.cells .plain [.map bm] 80) → Has h9 b2 (.cells .plain [.int .i64 load] 3) → Runs Tryz.prog 110 [.func (.func 145) [] [.ptr bf 0, .ptr bt 0, .ptr bs 0], .agg [.func (.func 114) [] [.ptr b 0, .ptr b2 0]]] h9 (fun en h' => en = .ret (.tuple [.int .i64 ((restV R.known load).getD 0), .bool (restV R.known load).isSome]) ∧ Ext h9 h') := fun {h9 bf bt bs b b2} e na f f2 => by
  have it := nums1_it (a := 0) (b := 10) (s := 1) (.inl rfl) (by omega) (by omega) (n := 11) (by omega) bf bt bs
  rw [nums_up] at it
  exact first_ok aFunc145 it aFunc114 (fun d => alwaysV R.known fun f => (f.x.rested d).bears load) (fun h' x => ⟨na.f.ext x, na.t.ext x, na.s.ext x⟩) fun x h' hx e' => rest114_ok O (K.ext (e.trans e')) hl (mem_upto.1 hx) (f.ext e') (f2.ext e')
 have hna : ∀ {h9 : AH}, Runs Tryz.prog 111 [.int .i64 0, .int .i64 10] h9 (fun en h' => ∃ bf bt bs, en = .ret (.func (.func 145) [] [.ptr bf 0, .ptr bt 0, .ptr bs 0]) ∧ Ext h9 h' ∧ NumsA 0 10 1 bf bt bs h' ∧ h9.next ≤ bf ∧ h9.next ≤ bt ∧ h9.next ≤ bs) := numbers_ok
 cases hm : restV R.known load with
 | none =>
  rw [hm] at hfi
  have e0 : Ext h h := Ext.refl _
  refine Runs.intro aFunc76 rfl rfl rfl rfl fun rest => ?_
  refine Go.seq noJ_ok ?_
  refine Go.region noJ_ok rfl ?_
  refine GoR.box rfl rfl rfl rfl rfl rfl fun h0 x0 f0 => ?_
  replace e0 := e0.trans x0
  refine GoR.box rfl rfl rfl rfl rfl rfl fun h1 x1 f1 => ?_
  replace f0 := f0.ext x1
  replace e0 := e0.trans x1
  refine GoR.op rfl rfl rfl rfl ?_
  refine GoR.end ?_
  refine Go.seq noJ_ok ?_
  refine Go.region noJ_ok rfl ?_
  refine GoR.call rfl rfl (aOp_callFunc aFunc111 rfl) (hna) ?_ (by rintro _ _ ⟨bf, bt, bs, q, _, NA, l1, l2, l3⟩; cases q)
  rintro v2 h2 ⟨bf, bt, bs, q, x2, NA, l1, l2, l3⟩
  cases q
  refine ⟨_, rfl, ?_⟩
  replace f1 := f1.ext x2
  replace f0 := f0.ext x2
  replace e0 := e0.trans x2
  refine GoR.op rfl rfl rfl rfl ?_
  refine GoR.op rfl rfl (aOp_build zt145 hu145 pl145 rfl rfl) rfl ?_
  refine GoR.call rfl rfl (aOp_callFunc aFunc110 rfl) (hfi e0 NA f0 f1) ?_ (by rintro _ _ ⟨q, _⟩; cases q)
  rintro v3 h3 ⟨q, x3⟩
  cases q
  refine ⟨_, rfl, ?_⟩
  replace f1 := f1.ext x3
  replace f0 := f0.ext x3
  replace e0 := e0.trans x3
  iterate 5 refine GoR.op rfl rfl rfl rfl ?_
  refine GoR.end ?_
  refine Go.seq noJ_ok ?_
  refine Go.region noJ_ok rfl ?_
  iterate 2 refine GoR.op rfl rfl rfl rfl ?_
  refine GoR.callP rfl rfl (aOp_callFunc aFunc91 rfl) (refuse_yes _ _) (by rintro _ _ ⟨q, _⟩; cases q) ?_
  rintro chain h4 ⟨q, x4⟩
  have q := AEnd.pan.inj q
  subst q
  replace f1 := f1.ext x4
  replace f0 := f0.ext x4
  replace e0 := e0.trans x4
  exact FLeft.pan (⟨rfl, e0⟩)
 | some l =>
  rw [hm] at hfi
  have e0 : Ext h h := Ext.refl _
  refine Runs.intro aFunc76 rfl rfl rfl rfl fun rest => ?_
  refine Go.seq noJ_ok ?_
  refine Go.region noJ_ok rfl ?_
  refine GoR.box rfl rfl rfl rfl rfl rfl fun h0 x0 f0 => ?_
  replace e0 := e0.trans x0
  refine GoR.box rfl rfl rfl rfl rfl rfl fun h1 x1 f1 => ?_
  replace f0 := f0.ext x1
  replace e0 := e0.trans x1
  refine GoR.op rfl rfl rfl rfl ?_
  refine GoR.end ?_
  refine Go.seq noJ_ok ?_
  refine Go.region noJ_ok rfl ?_
  refine GoR.call rfl rfl (aOp_callFunc aFunc111 rfl) (hna) ?_ (by rintro _ _ ⟨bf, bt, bs, q, _, NA, l1, l2, l3⟩; cases q)
  rintro v2 h2 ⟨bf, bt, bs, q, x2, NA, l1, l2, l3⟩
  cases q
  refine ⟨_, rfl, ?_⟩
  replace f1 := f1.ext x2
  replace f0 := f0.ext x2
  replace e0 := e0.trans x2
  refine GoR.op rfl rfl rfl rfl ?_
  refine GoR.op rfl rfl (aOp_build zt145 hu145 pl145 rfl rfl) rfl ?_
  refine GoR.call rfl rfl (aOp_callFunc aFunc110 rfl) (hfi e0 NA f0 f1) ?_ (by rintro _ _ ⟨q, _⟩; cases q)
  rintro v3 h3 ⟨q, x3⟩
  cases q
  refine ⟨_, rfl, ?_⟩
  replace e0 := e0.trans x3
  iterate 5 refine GoR.op rfl rfl rfl rfl ?_
  refine GoR.end ?_
  refine Go.seq noJ_ok ?_
  refine Go.region noJ_ok rfl ?_
  iterate 2 refine GoR.op rfl rfl rfl rfl ?_
  refine GoR.call rfl rfl (aOp_callFunc aFunc91 rfl) (refuse_no _ _) ?_ (by rintro _ _ ⟨q, _⟩; cases q)
  rintro v4 h4 ⟨q, x4⟩
  cases q
  refine ⟨_, rfl, ?_⟩
  replace e0 := e0.trans x4
  refine GoR.end ?_
  refine Go.seq noJ_ok ?_
  refine Go.region noJ_ok rfl ?_
  iterate 2 refine GoR.op rfl rfl rfl rfl ?_
  refine GoR.end ?_
  exact Go.ret noJ_ok (ret_end (aResult_of Tryz.func76 rfl rfl) ⟨rfl, e0⟩)
end Go.Proofs.YtkcimfopboelaaaGreat

namespace Go.Proofs.YtkcimfopboelaaaGreat
open Go Go.AbsE
set_option linter.unusedSimpArgs false
set_option maxRecDepth 100000
set_option maxHeartbeats 0
set_option linter.unusedVariables false
theorem bitsV_succ (n : Nat) (p : Nat → Bool) : bitsV (n + 1) p = if p n then bitsV n p ||| 2 ^ n else bitsV n p := by
 unfold bitsV
 rw [List.range_succ, List.foldl_append]
 rfl
theorem bitsV_lt (p : Nat → Bool) : ∀ n, bitsV n p < 2 ^ n
 | 0 => by simp [bitsV]
 | n + 1 => by
  have ih := bitsV_lt p n
  rw [bitsV_succ]
  have h2 : 2 ^ (n + 1) = 2 ^ n * 2 := Nat.pow_succ ..
  split
  ·exact Nat.or_lt_two_pow (by omega) (by omega)
  ·omega
theorem bitsV_test (p : Nat → Bool) : ∀ n i, (bitsV n p).testBit i = (decide (i < n) && p i)
 | 0, i => by simp [bitsV]
 | n + 1, i => by
  have ih := bitsV_test p n i
  rw [bitsV_succ]
  split
  ·rename_i hp
   rw [Nat.testBit_or, ih, Nat.testBit_two_pow]
   by_cases q : n = i
   ·subst q; simp [hp]
   ·by_cases z : i < n
    ·simp [z, q]; omega
    ·simp [z, q]; omega
  ·rename_i hp
   rw [ih]
   by_cases q : n = i
   ·subst q; simp [hp]
   ·by_cases z : i < n
    ·simp [z]; omega
    ·simp [z]; omega
theorem padZ_at {hs : List Int} (h : hs.length ≤ 10) {i : Nat} (hi : i < 10) : (padZ hs)[i]? = some ((hs[i]?).getD 0) := by
 unfold padZ
 by_cases q : i < hs.length
 ·rw [List.getElem?_append_left q]
  simp [q]
 ·rw [List.getElem?_append_right (by omega), List.getElem?_replicate]
  rw [if_pos (by omega)]
  simp [q]
theorem ft_at {f : Ft} (h : f.hs.length ≤ 10) {i : Nat} (hi : i < 10) {o : Nat} (ho : o = 4 + i * 1) : (AVal.int .i64 f.x.height :: .int .i64 f.x.stiff :: .int .i64 f.x.rise :: .int .i64 f.x.full :: i64s (padZ f.hs))[o]? = some (.int .i64 ((f.hs[i]?).getD 0)) := by
 rw [ho, show 4 + i * 1 = i + 1 + 1 + 1 + 1 by omega]
 simp only [List.getElem?_cons_succ]
 unfold i64s
 rw [List.getElem?_map, padZ_at h hi]
 rfl
theorem above108_ok {f : Ft} (h2 : f.hs.length ≤ 10) {i : Nat} (hi : i < 10) {b : Nat} {h : AH} (f0 : Has h b (.cells .plain [.int .i64 i] 3)) : Runs Tryz.prog 108 [.agg f.cells, .ptr b 0] h (fun en h' => en = .ret (.bool (above i f)) ∧ Ext h h') := by
 have hbl := f0.1
 have hfc : f.cells = .int .i64 f.x.height :: .int .i64 f.x.stiff :: .int .i64 f.x.rise :: .int .i64 f.x.full :: i64s (padZ f.hs) := rfl
 have hat := fun {o} ho => ft_at h2 hi (o := o) ho
 unfold above
 rw [hfc]
 have e0 : Ext h h := Ext.refl _
 refine Runs.intro aFunc108 rfl rfl rfl rfl fun rest => ?_
 refine Go.seq noJ_ok ?_
 refine Go.region noJ_ok rfl ?_
 refine GoR.box rfl rfl rfl rfl rfl rfl fun h3 x3 f3 => ?_
 replace f0 := f0.ext x3
 replace e0 := e0.trans x3
 refine GoR.op rfl rfl rfl rfl ?_
 refine GoR.end ?_
 refine Go.seq noJ_ok ?_
 refine Go.region noJ_ok rfl ?_
 refine GoR.op rfl rfl (ld3 rfl f0 rfl) rfl ?_
 refine GoR.op rfl rfl (fa87_1 rfl) rfl ?_
 refine GoR.op rfl rfl (aOp_indexAddrArr (i := i) Tryz.underlying85 sz3 rfl rfl (Nat.ble_eq_true_of_le (by omega))) rfl ?_
 refine GoR.op rfl rfl (ld3 rfl f3 (hat (by omega))) rfl ?_
 refine GoR.op rfl rfl (aOp_geq rfl rfl rfl) rfl ?_
 refine GoR.op rfl rfl rfl rfl ?_
 refine GoR.end ?_
 exact Go.ret noJ_ok (ret_end (aResult_of Tryz.func108 rfl rfl) ⟨rfl, e0⟩)
theorem height54_ok {f : Ft} (h2 : f.hs.length ≤ 10) {i : Nat} (hi : i < 10) {b : Nat} {h : AH} (f0 : Has h b (.cells .plain [.int .i64 i] 3)) : Runs Tryz.prog 54 [.agg f.cells, .ptr b 0] h (fun en h' => en = .ret (.int .i64 ((f.hs[i]?).getD 0)) ∧ Ext h h') := by
 have hbl := f0.1
 have hfc : f.cells = .int .i64 f.x.height :: .int .i64 f.x.stiff :: .int .i64 f.x.rise :: .int .i64 f.x.full :: i64s (padZ f.hs) := rfl
 have hat := fun {o} ho => ft_at h2 hi (o := o) ho
 rw [hfc]
 have e0 : Ext h h := Ext.refl _
 refine Runs.intro aFunc54 rfl rfl rfl rfl fun rest => ?_
 refine Go.seq noJ_ok ?_
 refine Go.region noJ_ok rfl ?_
 refine GoR.box rfl rfl rfl rfl rfl rfl fun h3 x3 f3 => ?_
 replace f0 := f0.ext x3
 replace e0 := e0.trans x3
 refine GoR.op rfl rfl rfl rfl ?_
 refine GoR.end ?_
 refine Go.seq noJ_ok ?_
 refine Go.region noJ_ok rfl ?_
 refine GoR.op rfl rfl (ld3 rfl f0 rfl) rfl ?_
 refine GoR.op rfl rfl (fa87_1 rfl) rfl ?_
 refine GoR.op rfl rfl (aOp_indexAddrArr (i := i) Tryz.underlying85 sz3 rfl rfl (Nat.ble_eq_true_of_le (by omega))) rfl ?_
 refine GoR.op rfl rfl (ld3 rfl f3 (hat (by omega))) rfl ?_
 refine GoR.op rfl rfl rfl rfl ?_
 refine GoR.end ?_
 exact Go.ret noJ_ok (ret_end (aResult_of Tryz.func54 rfl rfl) ⟨rfl, e0⟩)
theorem sinks61_ok {f : Ft} (h1 : f.x.In 600) {load : Int} (hl : 0 ≤ load ∧ load ≤ 60) {b : Nat} {h : AH} (f0 : Has h b (.cells .plain [.int .i64 load] 3)) : Runs Tryz.prog 61 [.agg f.cells, .ptr b 0] h (fun en h' => en = .ret (.int .i64 (f.x.sinks load)) ∧ Ext h h') := by
 have hbl := f0.1
 have hb := fun h => sinks_ok (x := f.x) (load := load) (by omega) h1.s (h := h)
 have hfc : f.cells = .int .i64 f.x.height :: .int .i64 f.x.stiff :: .int .i64 f.x.rise :: .int .i64 f.x.full :: i64s (padZ f.hs) := rfl
 unfold Pc.cells at hb
 rw [hfc]
 have e0 : Ext h h := Ext.refl _
 refine Runs.intro aFunc61 rfl rfl rfl rfl fun rest => ?_
 refine Go.seq noJ_ok ?_
 refine Go.region noJ_ok rfl ?_
 refine GoR.box rfl rfl rfl rfl rfl rfl fun h2 x2 f2 => ?_
 replace f0 := f0.ext x2
 replace e0 := e0.trans x2
 refine GoR.op rfl rfl rfl rfl ?_
 refine GoR.end ?_
 refine Go.seq noJ_ok ?_
 refine Go.region noJ_ok rfl ?_
 refine GoR.op rfl rfl (fa87_0 rfl) rfl ?_
 refine GoR.op rfl rfl (ld84 rfl f2 rfl) rfl ?_
 refine GoR.op rfl rfl (ld3 rfl f0 rfl) rfl ?_
 refine GoR.call rfl rfl (aOp_callFunc aFunc62 rfl) (hb _) ?_ (by rintro _ _ ⟨q, _⟩; cases q)
 rintro v3 h3 ⟨q, x3⟩
 cases q
 refine ⟨_, rfl, ?_⟩
 replace e0 := e0.trans x3
 refine GoR.op rfl rfl rfl rfl ?_
 refine GoR.end ?_
 exact Go.ret noJ_ok (ret_end (aResult_of Tryz.func61 rfl rfl) ⟨rfl, e0⟩)
theorem end117_ok {f : Ft} {h : AH} : Runs Tryz.prog 117 [.agg f.cells] h (fun en h' => en = .ret (.int .i64 f.x.height) ∧ Ext h h') := by
 have hfc : f.cells = .int .i64 f.x.height :: .int .i64 f.x.stiff :: .int .i64 f.x.rise :: .int .i64 f.x.full :: i64s (padZ f.hs) := rfl
 rw [hfc]
 have e0 : Ext h h := Ext.refl _
 refine Runs.intro aFunc117 rfl rfl rfl rfl fun rest => ?_
 refine Go.seq noJ_ok ?_
 refine Go.region noJ_ok rfl ?_
 refine GoR.box rfl rfl rfl rfl rfl rfl fun h0 x0 f0 => ?_
 replace e0 := e0.trans x0
 refine GoR.op rfl rfl rfl rfl ?_
 refine GoR.end ?_
 refine Go.seq noJ_ok ?_
 refine Go.region noJ_ok rfl ?_
 refine GoR.op rfl rfl (fa87_0 rfl) rfl ?_
 refine GoR.op rfl rfl (fa84_0 rfl) rfl ?_
 refine GoR.op rfl rfl (ld3 rfl f0 rfl) rfl ?_
 refine GoR.op rfl rfl rfl rfl ?_
 refine GoR.end ?_
 exact Go.ret noJ_ok (ret_end (aResult_of Tryz.func117 rfl rfl) ⟨rfl, e0⟩)
theorem pow_small {i : Nat} (h : i < 10) : 2 ^ i ≤ 512 := by
 have : 2 ^ i ≤ 2 ^ 9 := Nat.pow_le_pow_right (by omega) (by omega)
 omega
theorem below_ok {R : RoadV} (O : R.Ok) (hp : R.possible = true) {lo : Nat} {gp ge : AVal} {h : AH} (A : GroundAt h R lo gp ge) : Runs Tryz.prog 70 [.agg [gp, ge]] h (fun en h' => en = .ret (.tuple [.int .i64 (R.surely : Nat), .int .i64 (R.perhaps : Nat)]) ∧ Ext h h') := by
 have hne := O.ne
 have hlenE := A.esl.len
 rw [List.length_map] at hlenE
 unfold RoadV.surely RoadV.perhaps
 obtain ⟨P1, hP1⟩ : ∃ P : Nat → Bool, P = fun i => !perhapsV R.known (above i) := ⟨_, rfl⟩
 obtain ⟨P2, hP2⟩ : ∃ P : Nat → Bool, P = fun i => !alwaysV R.known (above i) := ⟨_, rfl⟩
 rw [← hP1, ← hP2]
 have e0 : Ext h h := Ext.refl _
 refine Runs.intro aFunc70 rfl rfl rfl rfl fun rest => ?_
 refine Go.seq noJ_ok ?_
 refine Go.region noJ_ok rfl ?_
 refine GoR.box rfl rfl rfl rfl rfl rfl fun h0 x0 f0 => ?_
 have := e0.1
 replace e0 := e0.trans x0
 have := f0.1
 iterate 2 refine GoR.op rfl rfl rfl rfl ?_
 refine GoR.end ?_
 refine Go.seq noJ_ok ?_
 refine Go.region noJ_ok rfl ?_
 refine GoR.op rfl rfl (ld77 rfl f0 rfl) rfl ?_
 refine GoR.call rfl rfl (aOp_callFunc aFunc52 rfl) (truths_yes O hp (A.ext e0)) ?_ (by rintro _ _ ⟨bm, L, q, _, KK, e9⟩; cases q)
 rintro v1 h1 ⟨bm, L, q, x1, KK, e9⟩
 cases q
 refine ⟨_, rfl, ?_⟩
 have := e0.1
 replace f0 := f0.ext x1
 replace e0 := e0.trans x1
 refine GoR.op rfl rfl rfl rfl ?_
 refine GoR.end ?_
 iterate 2 refine Go.seq noJ_ok ?_
 refine Go.region noJ_ok rfl ?_
 refine GoR.op rfl rfl (fa77_1 rfl) rfl ?_
 refine GoR.op rfl rfl (ld75 rfl f0 rfl) rfl ?_
 refine GoR.op rfl rfl (aOp_lenSlice Tryz.underlying75 rfl (by assumption)) rfl ?_
 refine GoR.op rfl rfl rfl rfl ?_
 refine GoR.end ?_
 refine Go.block noJ_ok ?_
 have hb0 := f0.1
 have hx0 := e0.1
 refine Go.loopKeep (fun i : Nat => [(1, .ptr h.next 0), (2, .int .i64 (bitsV i P1 : Nat)), (3, .int .i64 (bitsV i P2 : Nat)), (4, .map bm), (11, .int .i64 R.es.length), (12, .int .i64 (i : Nat))])
  (fun m i h' => m + i = R.es.length ∧ Ext h h' ∧ Ext h1 h') (n := R.es.length) 0 ⟨rfl, rfl, rfl, rfl, rfl, rfl, trivial⟩ ⟨rfl, e0, e9⟩ ?_
 clear e0 f0 e9
 rintro m i hc ⟨hm, e0, e9⟩ again
 have n0 := e0.1
 have n9 := e9.1
 by_cases hi : i < R.es.length
 ·have hi10 : i < 10 := by omega
  have hpe : ∀ {h9 : AH} {b : Nat}, Ext h1 h9 → Has h9 b (.cells .plain [.int .i64 i] 3) → Runs Tryz.prog 106 [.map bm, .func (.func 108) [] [.ptr b 0]] h9 (fun en h' => en = .ret (.bool (perhapsV R.known (above i))) ∧ Ext h9 h') := fun e f => perhaps_ok O (KK.ext e) aFunc108 _ fun f' i h' hf e' => above108_ok (known_in O hf).2 hi10 (f.ext e')
  have hal : ∀ {h9 : AH} {b : Nat}, Ext h1 h9 → Has h9 b (.cells .plain [.int .i64 i] 3) → Runs Tryz.prog 105 [.map bm, .func (.func 108) [] [.ptr b 0]] h9 (fun en h' => en = .ret (.bool (alwaysV R.known (above i))) ∧ Ext h9 h') := fun e f => always_ok O (KK.ext e) aFunc108 _ fun f' i h' hf e' => above108_ok (known_in O hf).2 hi10 (f.ext e')
  have hps := pow_small hi10
  have b1 := bitsV_lt P1 i
  have b2 := bitsV_lt P2 i
  have s1 := bitsV_succ i P1
  have s2 := bitsV_succ i P2
  have c1 : P1 i = !perhapsV R.known (above i) := by rw [hP1]
  have c2 : P2 i = !alwaysV R.known (above i) := by rw [hP2]
  obtain ⟨B1, hB1⟩ : ∃ B, bitsV i P1 = B := ⟨_, rfl⟩
  obtain ⟨B2, hB2⟩ : ∃ B, bitsV i P2 = B := ⟨_, rfl⟩
  obtain ⟨w, hw⟩ : ∃ w, 2 ^ i = w := ⟨_, rfl⟩
  have hsh : (1 : Int) * 2 ^ i = ((w : Nat) : Int) := by rw [← hw]; simp
  rw [hB1] at b1 s1
  rw [hB2] at b2 s2
  rw [hw] at b1 s1 b2 s2 hps
  rw [hB1, hB2]
  cases v1 : perhapsV R.known (above i) with
  | true =>
   rw [v1] at hpe c1
   rw [c1] at s1
   cases v2 : alwaysV R.known (above i) with
   | true =>
    rw [v2] at hal c2
    rw [c2] at s2
    refine Go.seq noJ_ok ?_
    refine Go.region noJ_ok rfl ?_
    refine GoR.op rfl rfl (aOp_lss rfl rfl (r := true) (decide_eq_true (by omega))) rfl ?_
    refine GoR.end ?_
    refine Go.seq noJ_ok ?_
    refine Go.cond noJ_ok (b := true) rfl ?_
    refine Go.code noJ_ok ?_
    refine Go.seq noJ_ok ?_
    refine Go.block noJ_ok ?_
    refine Go.seq noJ_ok ?_
    refine Go.region noJ_ok rfl ?_
    refine GoR.op rfl rfl rfl rfl ?_
    refine GoR.alloc rfl rfl rfl zt3 rfl rfl fun h2 x2 f2 => ?_
    have := e0.1
    have := e9.1
    replace e0 := e0.trans x2
    replace e9 := e9.trans x2
    have := f2.1
    refine GoR.store rfl rfl rfl rfl rfl rfl f2 rfl sz3 rfl rfl rfl fun h3 u3 => ?_
    replace f2 := u3.has f2
    replace e0 := e0.upd u3 (by omega)
    replace e9 := e9.upd u3 (by omega)
    refine GoR.end ?_
    refine Go.seq noJ_ok ?_
    refine Go.region noJ_ok rfl ?_
    iterate 2 refine GoR.op rfl rfl rfl rfl ?_
    refine GoR.end ?_
    iterate 2 refine Go.seq noJ_ok ?_
    refine Go.region noJ_ok rfl ?_
    iterate 2 refine GoR.op rfl rfl rfl rfl ?_
    refine GoR.call rfl rfl (aOp_callFunc aFunc106 rfl) (hpe e9 (by assumption)) ?_ (by rintro _ _ ⟨q, _⟩; cases q)
    rintro v4 h4 ⟨q, x4⟩
    cases q
    refine ⟨_, rfl, ?_⟩
    replace f2 := f2.ext x4
    replace e0 := e0.trans x4
    replace e9 := e9.trans x4
    refine GoR.op rfl rfl rfl rfl ?_
    refine GoR.end ?_
    refine Go.cond noJ_ok (b := false) rfl ?_
    refine Go.code noJ_ok ?_
    refine Go.seq noJ_ok ?_
    refine Go.region noJ_ok rfl ?_
    iterate 2 refine GoR.op rfl rfl rfl rfl ?_
    refine GoR.call rfl rfl (aOp_callFunc aFunc105 rfl) (hal e9 (by assumption)) ?_ (by rintro _ _ ⟨q, _⟩; cases q)
    rintro v5 h5 ⟨q, x5⟩
    cases q
    refine ⟨_, rfl, ?_⟩
    replace f2 := f2.ext x5
    replace e0 := e0.trans x5
    replace e9 := e9.trans x5
    refine GoR.op rfl rfl rfl rfl ?_
    refine GoR.end ?_
    refine Go.cond noJ_ok (b := false) rfl ?_
    refine Go.code noJ_ok ?_
    refine Go.inBlock noJ_ok ?_
    refine Go.region noJ_ok rfl ?_
    refine GoR.op rfl rfl (aOp_add rfl rfl (by constructor <;> omega) rfl) rfl ?_
    refine GoR.op rfl rfl rfl rfl ?_
    refine GoR.end ?_
    exact again (m - 1) (i + 1) _ _ (by omega) ⟨rfl, by rw [s1]; rfl, by rw [s2]; rfl, rfl, rfl, rfl, trivial⟩ ⟨by omega, e0, e9⟩
   | false =>
    rw [v2] at hal c2
    rw [c2] at s2
    refine Go.seq noJ_ok ?_
    refine Go.region noJ_ok rfl ?_
    refine GoR.op rfl rfl (aOp_lss rfl rfl (r := true) (decide_eq_true (by omega))) rfl ?_
    refine GoR.end ?_
    refine Go.seq noJ_ok ?_
    refine Go.cond noJ_ok (b := true) rfl ?_
    refine Go.code noJ_ok ?_
    refine Go.seq noJ_ok ?_
    refine Go.block noJ_ok ?_
    refine Go.seq noJ_ok ?_
    refine Go.region noJ_ok rfl ?_
    refine GoR.op rfl rfl rfl rfl ?_
    refine GoR.alloc rfl rfl rfl zt3 rfl rfl fun h2 x2 f2 => ?_
    have := e0.1
    have := e9.1
    replace e0 := e0.trans x2
    replace e9 := e9.trans x2
    have := f2.1
    refine GoR.store rfl rfl rfl rfl rfl rfl f2 rfl sz3 rfl rfl rfl fun h3 u3 => ?_
    replace f2 := u3.has f2
    replace e0 := e0.upd u3 (by omega)
    replace e9 := e9.upd u3 (by omega)
    refine GoR.end ?_
    refine Go.seq noJ_ok ?_
    refine Go.region noJ_ok rfl ?_
    iterate 2 refine GoR.op rfl rfl rfl rfl ?_
    refine GoR.end ?_
    iterate 2 refine Go.seq noJ_ok ?_
    refine Go.region noJ_ok rfl ?_
    iterate 2 refine GoR.op rfl rfl rfl rfl ?_
    refine GoR.call rfl rfl (aOp_callFunc aFunc106 rfl) (hpe e9 (by assumption)) ?_ (by rintro _ _ ⟨q, _⟩; cases q)
    rintro v4 h4 ⟨q, x4⟩
    cases q
    refine ⟨_, rfl, ?_⟩
    replace f2 := f2.ext x4
    replace e0 := e0.trans x4
    replace e9 := e9.trans x4
    refine GoR.op rfl rfl rfl rfl ?_
    refine GoR.end ?_
    refine Go.cond noJ_ok (b := false) rfl ?_
    refine Go.code noJ_ok ?_
    refine Go.seq noJ_ok ?_
    refine Go.region noJ_ok rfl ?_
    iterate 2 refine GoR.op rfl rfl rfl rfl ?_
    refine GoR.call rfl rfl (aOp_callFunc aFunc105 rfl) (hal e9 (by assumption)) ?_ (by rintro _ _ ⟨q, _⟩; cases q)
    rintro v5 h5 ⟨q, x5⟩
    cases q
    refine ⟨_, rfl, ?_⟩
    replace f2 := f2.ext x5
    replace e0 := e0.trans x5
    replace e9 := e9.trans x5
    refine GoR.op rfl rfl rfl rfl ?_
    refine GoR.end ?_
    refine Go.cond noJ_ok (b := true) rfl ?_
    refine Go.region noJ_ok rfl ?_
    refine GoR.op rfl rfl rfl rfl ?_
    refine GoR.op rfl rfl (ld3 rfl f2 rfl) rfl ?_
    refine GoR.op rfl rfl (aOp_shl rfl rfl (i := i) (by omega) hsh (by omega)) rfl ?_
    refine GoR.op rfl rfl (aOp_orNat rfl rfl (by omega) (by omega) rfl) rfl ?_
    refine GoR.op rfl rfl rfl rfl ?_
    refine GoR.end ?_
    refine Go.inBlock noJ_ok ?_
    refine Go.region noJ_ok rfl ?_
    refine GoR.op rfl rfl (aOp_add rfl rfl (by constructor <;> omega) rfl) rfl ?_
    refine GoR.op rfl rfl rfl rfl ?_
    refine GoR.end ?_
    exact again (m - 1) (i + 1) _ _ (by omega) ⟨rfl, by rw [s1]; rfl, by rw [s2]; rfl, rfl, rfl, rfl, trivial⟩ ⟨by omega, e0, e9⟩
  | false =>
   rw [v1] at hpe c1
   rw [c1] at s1
   cases v2 : alwaysV R.known (above i) with
   | true =>
    rw [v2] at hal c2
    rw [c2] at s2
    refine Go.seq noJ_ok ?_
    refine Go.region noJ_ok rfl ?_
    refine GoR.op rfl rfl (aOp_lss rfl rfl (r := true) (decide_eq_true (by omega))) rfl ?_
    refine GoR.end ?_
    refine Go.seq noJ_ok ?_
    refine Go.cond noJ_ok (b := true) rfl ?_
    refine Go.code noJ_ok ?_
    refine Go.seq noJ_ok ?_
    refine Go.block noJ_ok ?_
    refine Go.seq noJ_ok ?_
    refine Go.region noJ_ok rfl ?_
    refine GoR.op rfl rfl rfl rfl ?_
    refine GoR.alloc rfl rfl rfl zt3 rfl rfl fun h2 x2 f2 => ?_
    have := e0.1
    have := e9.1
    replace e0 := e0.trans x2
    replace e9 := e9.trans x2
    have := f2.1
    refine GoR.store rfl rfl rfl rfl rfl rfl f2 rfl sz3 rfl rfl rfl fun h3 u3 => ?_
    replace f2 := u3.has f2
    replace e0 := e0.upd u3 (by omega)
    replace e9 := e9.upd u3 (by omega)
    refine GoR.end ?_
    refine Go.seq noJ_ok ?_
    refine Go.region noJ_ok rfl ?_
    iterate 2 refine GoR.op rfl rfl rfl rfl ?_
    refine GoR.end ?_
    iterate 2 refine Go.seq noJ_ok ?_
    refine Go.region noJ_ok rfl ?_
    iterate 2 refine GoR.op rfl rfl rfl rfl ?_
    refine GoR.call rfl rfl (aOp_callFunc aFunc106 rfl) (hpe e9 (by assumption)) ?_ (by rintro _ _ ⟨q, _⟩; cases q)
    rintro v4 h4 ⟨q, x4⟩
    cases q
    refine ⟨_, rfl, ?_⟩
    replace f2 := f2.ext x4
    replace e0 := e0.trans x4
    replace e9 := e9.trans x4
    refine GoR.op rfl rfl rfl rfl ?_
    refine GoR.end ?_
    refine Go.cond noJ_ok (b := true) rfl ?_
    refine Go.region noJ_ok rfl ?_
    refine GoR.op rfl rfl rfl rfl ?_
    refine GoR.op rfl rfl (ld3 rfl f2 rfl) rfl ?_
    refine GoR.op rfl rfl (aOp_shl rfl rfl (i := i) (by omega) hsh (by omega)) rfl ?_
    refine GoR.op rfl rfl (aOp_orNat rfl rfl (by omega) (by omega) rfl) rfl ?_
    refine GoR.op rfl rfl rfl rfl ?_
    refine GoR.end ?_
    refine Go.seq noJ_ok ?_
    refine Go.region noJ_ok rfl ?_
    iterate 2 refine GoR.op rfl rfl rfl rfl ?_
    refine GoR.call rfl rfl (aOp_callFunc aFunc105 rfl) (hal e9 (by assumption)) ?_ (by rintro _ _ ⟨q, _⟩; cases q)
    rintro v5 h5 ⟨q, x5⟩
    cases q
    refine ⟨_, rfl, ?_⟩
    replace f2 := f2.ext x5
    replace e0 := e0.trans x5
    replace e9 := e9.trans x5
    refine GoR.op rfl rfl rfl rfl ?_
    refine GoR.end ?_
    refine Go.cond noJ_ok (b := false) rfl ?_
    refine Go.code noJ_ok ?_
    refine Go.inBlock noJ_ok ?_
    refine Go.region noJ_ok rfl ?_
    refine GoR.op rfl rfl (aOp_add rfl rfl (by constructor <;> omega) rfl) rfl ?_
    refine GoR.op rfl rfl rfl rfl ?_
    refine GoR.end ?_
    exact again (m - 1) (i + 1) _ _ (by omega) ⟨rfl, by rw [s1]; rfl, by rw [s2]; rfl, rfl, rfl, rfl, trivial⟩ ⟨by omega, e0, e9⟩
   | false =>
    rw [v2] at hal c2
    rw [c2] at s2
    refine Go.seq noJ_ok ?_
    refine Go.region noJ_ok rfl ?_
    refine GoR.op rfl rfl (aOp_lss rfl rfl (r := true) (decide_eq_true (by omega))) rfl ?_
    refine GoR.end ?_
    refine Go.seq noJ_ok ?_
    refine Go.cond noJ_ok (b := true) rfl ?_
    refine Go.code noJ_ok ?_
    refine Go.seq noJ_ok ?_
    refine Go.block noJ_ok ?_
    refine Go.seq noJ_ok ?_
    refine Go.region noJ_ok rfl ?_
    refine GoR.op rfl rfl rfl rfl ?_
    refine GoR.alloc rfl rfl rfl zt3 rfl rfl fun h2 x2 f2 => ?_
    have := e0.1
    have := e9.1
    replace e0 := e0.trans x2
    replace e9 := e9.trans x2
    have := f2.1
    refine GoR.store rfl rfl rfl rfl rfl rfl f2 rfl sz3 rfl rfl rfl fun h3 u3 => ?_
    replace f2 := u3.has f2
    replace e0 := e0.upd u3 (by omega)
    replace e9 := e9.upd u3 (by omega)
    refine GoR.end ?_
    refine Go.seq noJ_ok ?_
    refine Go.region noJ_ok rfl ?_
    iterate 2 refine GoR.op rfl rfl rfl rfl ?_
    refine GoR.end ?_
    iterate 2 refine Go.seq noJ_ok ?_
    refine Go.region noJ_ok rfl ?_
    iterate 2 refine GoR.op rfl rfl rfl rfl ?_
    refine GoR.call rfl rfl (aOp_callFunc aFunc106 rfl) (hpe e9 (by assumption)) ?_ (by rintro _ _ ⟨q, _⟩; cases q)
    rintro v4 h4 ⟨q, x4⟩
    cases q
    refine ⟨_, rfl, ?_⟩
    replace f2 := f2.ext x4
    replace e0 := e0.trans x4
    replace e9 := e9.trans x4
    refine GoR.op rfl rfl rfl rfl ?_
    refine GoR.end ?_
    refine Go.cond noJ_ok (b := true) rfl ?_
    refine Go.region noJ_ok rfl ?_
    refine GoR.op rfl rfl rfl rfl ?_
    refine GoR.op rfl rfl (ld3 rfl f2 rfl) rfl ?_
    refine GoR.op rfl rfl (aOp_shl rfl rfl (i := i) (by omega) hsh (by omega)) rfl ?_
    refine GoR.op rfl rfl (aOp_orNat rfl rfl (by omega) (by omega) rfl) rfl ?_
    refine GoR.op rfl rfl rfl rfl ?_
    refine GoR.end ?_
    refine Go.seq noJ_ok ?_
    refine Go.region noJ_ok rfl ?_
    iterate 2 refine GoR.op rfl rfl rfl rfl ?_
    refine GoR.call rfl rfl (aOp_callFunc aFunc105 rfl) (hal e9 (by assumption)) ?_ (by rintro _ _ ⟨q, _⟩; cases q)
    rintro v5 h5 ⟨q, x5⟩
    cases q
    refine ⟨_, rfl, ?_⟩
    replace f2 := f2.ext x5
    replace e0 := e0.trans x5
    replace e9 := e9.trans x5
    refine GoR.op rfl rfl rfl rfl ?_
    refine GoR.end ?_
    refine Go.cond noJ_ok (b := true) rfl ?_
    refine Go.region noJ_ok rfl ?_
    refine GoR.op rfl rfl rfl rfl ?_
    refine GoR.op rfl rfl (ld3 rfl f2 rfl) rfl ?_
    refine GoR.op rfl rfl (aOp_shl rfl rfl (i := i) (by omega) hsh (by omega)) rfl ?_
    refine GoR.op rfl rfl (aOp_orNat rfl rfl (by omega) (by omega) rfl) rfl ?_
    refine GoR.op rfl rfl rfl rfl ?_
    refine GoR.end ?_
    refine Go.inBlock noJ_ok ?_
    refine Go.region noJ_ok rfl ?_
    refine GoR.op rfl rfl (aOp_add rfl rfl (by constructor <;> omega) rfl) rfl ?_
    refine GoR.op rfl rfl rfl rfl ?_
    refine GoR.end ?_
    exact again (m - 1) (i + 1) _ _ (by omega) ⟨rfl, by rw [s1]; rfl, by rw [s2]; rfl, rfl, rfl, rfl, trivial⟩ ⟨by omega, e0, e9⟩
 ·have hin : i = R.es.length := by omega
  rw [hin]
  clear e9
  refine Go.seq noJ_ok ?_
  refine Go.region noJ_ok rfl ?_
  refine GoR.op rfl rfl (aOp_lss rfl rfl (r := false) (decide_eq_false (by omega))) rfl ?_
  refine GoR.end ?_
  refine Go.seq noJ_ok ?_
  refine Go.cond noJ_ok (b := false) rfl ?_
  refine Go.code noJ_ok ?_
  refine Go.seq noJ_ok ?_
  refine Go.region noJ_ok rfl ?_
  iterate 4 refine GoR.op rfl rfl rfl rfl ?_
  refine GoR.end ?_
  exact Go.ret noJ_ok (ret_end (aResult_of Tryz.func70 rfl rfl) ⟨rfl, e0⟩)
theorem least119_ok {p : Int × Int} {n : Int} {b : Nat} {h : AH} (f0 : Has h b (.cells .plain [.int .i64 n] 3)) : Runs Tryz.prog 119 [.agg (spC p), .ptr b 0] h (fun en h' => en = .ret (.bool (p.1 == n)) ∧ Ext h h') := by
 have hbl := f0.1
 unfold spC
 by_cases q : p.1 = n
 ·rw [show (p.1 == n) = true from by simp [q]]
  have e0 : Ext h h := Ext.refl _
  refine Runs.intro aFunc119 rfl rfl rfl rfl fun rest => ?_
  refine Go.seq noJ_ok ?_
  refine Go.region noJ_ok rfl ?_
  refine GoR.box rfl rfl rfl rfl rfl rfl fun h1 x1 f1 => ?_
  replace f0 := f0.ext x1
  replace e0 := e0.trans x1
  refine GoR.op rfl rfl rfl rfl ?_
  refine GoR.end ?_
  refine Go.seq noJ_ok ?_
  refine Go.region noJ_ok rfl ?_
  refine GoR.op rfl rfl (fa29_0 rfl) rfl ?_
  refine GoR.op rfl rfl (ld3 rfl f1 rfl) rfl ?_
  refine GoR.op rfl rfl (ld3 rfl f0 rfl) rfl ?_
  refine GoR.op rfl rfl (aOp_eql rfl rfl (r := true) (decide_eq_true (by omega))) rfl ?_
  refine GoR.op rfl rfl rfl rfl ?_
  refine GoR.end ?_
  exact Go.ret noJ_ok (ret_end (aResult_of Tryz.func119 rfl rfl) ⟨rfl, e0⟩)
 ·rw [show (p.1 == n) = false from by simp [q]]
  have e0 : Ext h h := Ext.refl _
  refine Runs.intro aFunc119 rfl rfl rfl rfl fun rest => ?_
  refine Go.seq noJ_ok ?_
  refine Go.region noJ_ok rfl ?_
  refine GoR.box rfl rfl rfl rfl rfl rfl fun h1 x1 f1 => ?_
  replace f0 := f0.ext x1
  replace e0 := e0.trans x1
  refine GoR.op rfl rfl rfl rfl ?_
  refine GoR.end ?_
  refine Go.seq noJ_ok ?_
  refine Go.region noJ_ok rfl ?_
  refine GoR.op rfl rfl (fa29_0 rfl) rfl ?_
  refine GoR.op rfl rfl (ld3 rfl f1 rfl) rfl ?_
  refine GoR.op rfl rfl (ld3 rfl f0 rfl) rfl ?_
  refine GoR.op rfl rfl (aOp_eql rfl rfl (r := false) (decide_eq_false (by omega))) rfl ?_
  refine GoR.op rfl rfl rfl rfl ?_
  refine GoR.end ?_
  exact Go.ret noJ_ok (ret_end (aResult_of Tryz.func119 rfl rfl) ⟨rfl, e0⟩)
theorem weak_ok {R : RoadV} (O : R.Ok) (hp : R.possible = true) {lo : Nat} {gp ge : AVal} {h : AH} (A : GroundAt h R lo gp ge) : Runs Tryz.prog 78 [.agg [gp, ge]] h (fun en h' => en = .ret (.int .i64 R.weak) ∧ Ext h h') := by
 have hne := O.ne
 have hnp := O.np
 have hlenP := A.psl.len
 rw [List.length_map] at hlenP
 have hen : R.ends.length = R.ps.length := by unfold RoadV.ends; rw [List.length_map, List.length_range]
 have hat : ∀ {i : Nat}, i < R.ps.length → R.ends[i]? = some (spreadV R.known i fun f => f.x.height) := fun hi => by
  unfold RoadV.ends
  rw [List.getElem?_map, List.getElem?_range hi]
  rfl
 unfold RoadV.weak
 have e0 : Ext h h := Ext.refl _
 refine Runs.intro aFunc78 rfl rfl rfl rfl fun rest => ?_
 refine Go.seq noJ_ok ?_
 refine Go.region noJ_ok rfl ?_
 refine GoR.box rfl rfl rfl rfl rfl rfl fun h0 x0 f0 => ?_
 have := e0.1
 replace e0 := e0.trans x0
 have := f0.1
 refine GoR.op rfl rfl rfl rfl ?_
 refine GoR.end ?_
 refine Go.seq noJ_ok ?_
 refine Go.region noJ_ok rfl ?_
 refine GoR.op rfl rfl (ld77 rfl f0 rfl) rfl ?_
 refine GoR.call rfl rfl (aOp_callFunc aFunc52 rfl) (truths_yes O hp (A.ext e0)) ?_ (by rintro _ _ ⟨bm, L, q, _, KK, e9⟩; cases q)
 rintro v1 h1 ⟨bm, L, q, x1, KK, e9⟩
 cases q
 refine ⟨_, rfl, ?_⟩
 have := e0.1
 replace f0 := f0.ext x1
 replace e0 := e0.trans x1
 refine GoR.op rfl rfl rfl rfl ?_
 refine GoR.end ?_
 refine Go.seq noJ_ok ?_
 refine Go.region noJ_ok rfl ?_
 refine GoR.op rfl rfl rfl rfl ?_
 refine GoR.end ?_
 iterate 2 refine Go.seq noJ_ok ?_
 refine Go.region noJ_ok rfl ?_
 refine GoR.op rfl rfl (fa77_0 rfl) rfl ?_
 refine GoR.op rfl rfl (ld74 rfl f0 rfl) rfl ?_
 refine GoR.op rfl rfl (aOp_lenSlice Tryz.underlying74 rfl (by assumption)) rfl ?_
 refine GoR.op rfl rfl rfl rfl ?_
 refine GoR.end ?_
 refine Go.block noJ_ok ?_
 have hb0 := f0.1
 have hx0 := e0.1
 refine Go.loopKeep (fun a : Nat × AVal => [(1, .ptr h.next 0), (3, .map bm), (4, a.2), (11, .int .i64 R.ps.length), (12, .int .i64 (a.1 : Nat))])
  (fun m a h' => m + a.1 = R.ps.length ∧ Ext h h' ∧ Ext h1 h' ∧ Grow h' 29 2 h1.next a.2 a.1 ((R.ends.take a.1).flatMap spC)) (n := R.ps.length) (0, .nilslice) ⟨rfl, rfl, rfl, rfl, rfl, trivial⟩ ⟨rfl, e0, e9, Grow.nil _ _ _ _⟩ ?_
 clear e0 f0 e9
 rintro m ⟨i, s⟩ hc ⟨hm, e0, e9, gr⟩ again
 dsimp only at hm gr ⊢
 have n0 := e0.1
 have n9 := e9.1
 have e8 : Ext hc hc := Ext.refl _
 by_cases hi : i < R.ps.length
 ·have hsp : ∀ {h9 : AH}, Ext h1 h9 → Runs Tryz.prog 53 [.map bm, .int .i64 i, .func (.func 117) [] []] h9 (fun en h' => en = .ret (.agg (spC (spreadV R.known i fun f => f.x.height))) ∧ Ext h9 h') := fun e => spread_ok O (KK.ext e) hi (caps := []) aFunc117 rfl _ (fun f hf => by
   have := (known_in O hf).1.h
   have := (known_in O hf).1.f
   unfold I64
   omega) fun f h' hf e' => end117_ok
  obtain ⟨sp, hspd⟩ : ∃ sp, spreadV R.known i (fun f => f.x.height) = sp := ⟨_, rfl⟩
  have hnx := take_flat spC (hat hi)
  rw [hspd] at hsp hnx
  unfold spC at hsp
  refine Go.seq noJ_ok ?_
  refine Go.region noJ_ok rfl ?_
  refine GoR.op rfl rfl (aOp_lss rfl rfl (r := true) (decide_eq_true (by omega))) rfl ?_
  refine GoR.end ?_
  refine Go.seq noJ_ok ?_
  refine Go.cond noJ_ok (b := true) rfl ?_
  refine Go.code noJ_ok ?_
  refine Go.seq noJ_ok ?_
  refine Go.block noJ_ok ?_
  refine Go.seq noJ_ok ?_
  refine Go.region noJ_ok rfl ?_
  iterate 2 refine GoR.op rfl rfl rfl rfl ?_
  refine GoR.end ?_
  refine Go.region noJ_ok rfl ?_
  iterate 3 refine GoR.op rfl rfl rfl rfl ?_
  refine GoR.call rfl rfl (aOp_callFunc aFunc53 rfl) (hsp e9) ?_ (by rintro _ _ ⟨q, _⟩; cases q)
  rintro v2 h2 ⟨q, x2⟩
  cases q
  refine ⟨_, rfl, ?_⟩
  replace e0 := e0.trans x2
  replace e9 := e9.trans x2
  replace e8 := e8.trans x2
  refine GoR.buildSl rfl rfl (ps := [(0, .agg [.int .i64 sp.1, .int .i64 sp.2])]) (cs := [.int .i64 sp.1, .int .i64 sp.2]) Tryz.underlying147 rfl sz29 zt29 rfl rfl rfl rfl fun h3 x3 f3 => ?_
  have := e0.1
  have := e9.1
  have := e8.1
  replace e0 := e0.trans x3
  replace e9 := e9.trans x3
  replace e8 := e8.trans x3
  have := f3.1
  refine GoR.append1F rfl rfl rfl Tryz.underlying147 Tryz.underlying147 sz29 by29 zt29 rfl rfl rfl rfl f3 rfl rfl (gr.ext e8) (by omega) rfl rfl fun s4 h4 y4 g4 => ?_
  have := f3.1
  have := e0.1
  have := e9.1
  have := e8.1
  clear f3
  replace e0 := y4.low e0 (fun b q => by have := (grow_own (gr.ext e8) q).1; omega)
  replace e9 := y4.low e9 (fun b q => by have := (grow_own (gr.ext e8) q).1; omega)
  clear e8
  have := y4.1
  refine GoR.op rfl rfl rfl rfl ?_
  refine GoR.end ?_
  refine Go.inBlock noJ_ok ?_
  refine Go.region noJ_ok rfl ?_
  refine GoR.op rfl rfl (aOp_add rfl rfl (by constructor <;> omega) rfl) rfl ?_
  refine GoR.op rfl rfl rfl rfl ?_
  refine GoR.end ?_
  exact again (m - 1) (i + 1, s4) _ _ (by omega) ⟨rfl, rfl, rfl, rfl, rfl, trivial⟩ ⟨by dsimp only; omega, e0, e9, by dsimp only; rw [hnx]; exact g4.low (by have := e9.1; omega)⟩
 ·have hin : i = R.ps.length := by omega
  rw [hin, ← hen, List.take_length] at gr
  have hsl : SliceOf hc 2 s (R.ends.map spC) := grow_slice (f := spC) (sz := 2) (fun _ => rfl) rfl gr
  have hidx : ∀ {h9 : AH} {b : Nat}, Ext hc h9 → Has h9 b (.cells .plain [.int .i64 (joinL R.ends).1] 3) → Runs Tryz.prog 118 [s, .func (.func 119) [] [.ptr b 0]] h9 (fun en h' => en = .ret (.int .i64 (match R.ends.findIdx? (fun s => s.1 == (joinL R.ends).1) with | some i => (i : Int) | none => -1)) ∧ Ext h9 h') := fun e f => idx118_at (caps := [.ptr _ 0]) aFunc119 _ (hsl.ext e) (by omega) fun x h' hx e' => least119_ok (f.ext e')
  clear e9
  refine Go.seq noJ_ok ?_
  refine Go.region noJ_ok rfl ?_
  refine GoR.op rfl rfl (aOp_lss rfl rfl (r := false) (decide_eq_false (by omega))) rfl ?_
  refine GoR.end ?_
  refine Go.seq noJ_ok ?_
  refine Go.cond noJ_ok (b := false) rfl ?_
  refine Go.code noJ_ok ?_
  refine Go.seq noJ_ok ?_
  refine Go.region noJ_ok rfl ?_
  refine GoR.op rfl rfl rfl rfl ?_
  refine GoR.call rfl rfl (aOp_callFunc aFunc101 rfl) (join_ok (hsl.ext e8) (by omega)) ?_ (by rintro _ _ ⟨q, _⟩; cases q)
  rintro v2 h2 ⟨q, x2⟩
  cases q
  refine ⟨_, rfl, ?_⟩
  replace e0 := e0.trans x2
  replace e8 := e8.trans x2
  refine GoR.op rfl rfl (fd29_0 rfl rfl) rfl ?_
  refine GoR.alloc rfl rfl rfl zt3 rfl rfl fun h3 x3 f3 => ?_
  have := e0.1
  have := e8.1
  replace e0 := e0.trans x3
  replace e8 := e8.trans x3
  have := f3.1
  refine GoR.store rfl rfl rfl rfl rfl rfl f3 rfl sz3 rfl rfl rfl fun h4 u4 => ?_
  replace f3 := u4.has f3
  replace e0 := e0.upd u4 (by omega)
  replace e8 := e8.upd u4 (by omega)
  refine GoR.end ?_
  refine Go.seq noJ_ok ?_
  refine Go.region noJ_ok rfl ?_
  iterate 2 refine GoR.op rfl rfl rfl rfl ?_
  refine GoR.call rfl rfl (aOp_callFunc aFunc118 rfl) (hidx e8 (by assumption)) ?_ (by rintro _ _ ⟨q, _⟩; cases q)
  rintro v5 h5 ⟨q, x5⟩
  cases q
  refine ⟨_, rfl, ?_⟩
  replace e0 := e0.trans x5
  refine GoR.op rfl rfl rfl rfl ?_
  refine GoR.end ?_
  exact Go.ret noJ_ok (ret_end (aResult_of Tryz.func78 rfl rfl) ⟨rfl, e0⟩)
end Go.Proofs.YtkcimfopboelaaaGreat

namespace Go.Proofs.YtkcimfopboelaaaGreat
open Go Go.AbsE
set_option linter.unusedSimpArgs false
set_option maxRecDepth 100000
set_option maxHeartbeats 0
set_option linter.unusedVariables false
def zSp : Int × Int := (0, 0)
def RoadV.heightR (R : RoadV) (part event : Int) : (Int × Int) × Int :=
 if R.Ok then (if 0 ≤ part ∧ part ≤ (R.ps.length : Int) - 1 then (if 0 ≤ event ∧ event ≤ (R.es.length : Int) - 1 then (if R.possible = true then (spreadV R.known part.toNat (fun f => (f.hs[event.toNat]?).getD 0), 0) else (zSp, 10)) else (zSp, 2)) else (zSp, 2)) else (zSp, 1)
def RoadV.sinksR (R : RoadV) (part load : Int) : (Int × Int) × Int :=
 if R.Ok then (if 0 ≤ part ∧ part ≤ (R.ps.length : Int) - 1 then (if 0 ≤ load ∧ load ≤ 60 then (if R.possible = true then (spreadV R.known part.toNat (fun f => f.x.sinks load), 0) else (zSp, 10)) else (zSp, 2)) else (zSp, 2)) else (zSp, 1)
def RoadV.bearsR (R : RoadV) (load : Int) : Int × Int :=
 if R.Ok then (if 0 ≤ load ∧ load ≤ 60 then (if R.possible = true then (bearsV R.known load, 0) else (0, 10)) else (0, 2)) else (0, 1)
def RoadV.mostR (R : RoadV) : Int × Int :=
 if R.Ok then (if R.possible = true then (match mostV R.known with | some l => (l, 0) | none => (0, 4)) else (0, 10)) else (0, 1)
def RoadV.restR (R : RoadV) (load : Int) : Int × Int :=
 if R.Ok then (if 0 ≤ load ∧ load ≤ 60 then (if R.possible = true then (match restV R.known load with | some l => (l, 0) | none => (0, 4)) else (0, 10)) else (0, 2)) else (0, 1)
def RoadV.belowR (R : RoadV) : (Nat × Nat) × Int :=
 if R.Ok then (if R.possible = true then ((R.surely, R.perhaps), 0) else ((0, 0), 10)) else ((0, 0), 1)
def RoadV.weakR (R : RoadV) : Int × Int :=
 if R.Ok then (if R.possible = true then (R.weak, 0) else (0, 10)) else (0, 1)
theorem attempt_sets {R : RoadV} (O : R.Ok) (psl esl : AVal) (h : AH) (A : RoadAt h R psl esl) (W : FuncId) (fW : Func) (hfid : aFunc Tryz.prog W = some fW) (caps : List AVal) (hsm : sameA (.func (.func W) [] caps) (.func (.func W) [] caps) = true) (br : Nat) (hbr : br < h.next) (V : List AVal) (el : TypeId) (C : Int)
  (hbody : ∀ h' gp ge, Ext h h' → GroundAt h' R h.next gp ge → Runs Tryz.prog W ([.agg [gp, ge]] ++ caps) h' (fun en h'' => ExtF (fun b => b = br) h' h'' ∧ Has h'' br (.cells .plain V el) ∧ ((C = 0 ∧ en = .ret (.tuple [])) ∨ en = .pan (refusal C)))) :
  Runs Tryz.prog 48 [.agg [psl, esl], .func (.func W) [] caps] h (fun en h' => en = .ret (.int .i64 C) ∧ ExtF (fun b => b = br) h h' ∧ Has h' br (.cells .plain V el)) :=
 (attempt_ok O psl esl h A W fW hfid caps hsm (fun b => b = br) (fun b q => by subst q; exact hbr) (fun c h' => c = C ∧ Has h' br (.cells .plain V el)) fun h' gp ge e g => (hbody h' gp ge e g).mono fun en h'' ⟨x, f, q⟩ => ⟨x, q.elim (fun q => .inl ⟨q.2, q.1.symm, f⟩) fun q => .inr ⟨C, q, rfl, f⟩⟩).mono
  fun en h' ⟨c, h2, q, ⟨hc, f⟩, x, le, same⟩ => ⟨by rw [q, hc], x, f.keep le (same _ hbr)⟩
theorem needPart_yes {R : RoadV} {lo : Nat} {gp ge : AVal} {n : Int} {h : AH} (A : GroundAt h R lo gp ge) (hl : R.ps.length ≤ 40) (hq : 0 ≤ n ∧ n ≤ (R.ps.length : Int) - 1) : Runs Tryz.prog 50 [.agg [gp, ge], .int .i64 n] h (fun en h' => en = .ret (.tuple []) ∧ Ext h h') := by
 have := needPart_ok (n := n) A hl
 rw [if_pos hq] at this
 exact this
theorem needPart_no {R : RoadV} {lo : Nat} {gp ge : AVal} {n : Int} {h : AH} (A : GroundAt h R lo gp ge) (hl : R.ps.length ≤ 40) (hq : ¬ (0 ≤ n ∧ n ≤ (R.ps.length : Int) - 1)) : Runs Tryz.prog 50 [.agg [gp, ge], .int .i64 n] h (fun en h' => en = .pan (refusal 2) ∧ Ext h h') := by
 have := needPart_ok (n := n) A hl
 rw [if_neg hq] at this
 exact this
theorem needEvent_yes {R : RoadV} {lo : Nat} {gp ge : AVal} {n : Int} {h : AH} (A : GroundAt h R lo gp ge) (hl : R.es.length ≤ 40) (hq : 0 ≤ n ∧ n ≤ (R.es.length : Int) - 1) : Runs Tryz.prog 51 [.agg [gp, ge], .int .i64 n] h (fun en h' => en = .ret (.tuple []) ∧ Ext h h') := by
 have := needEvent_ok (n := n) A hl
 rw [if_pos hq] at this
 exact this
theorem needEvent_no {R : RoadV} {lo : Nat} {gp ge : AVal} {n : Int} {h : AH} (A : GroundAt h R lo gp ge) (hl : R.es.length ≤ 40) (hq : ¬ (0 ≤ n ∧ n ≤ (R.es.length : Int) - 1)) : Runs Tryz.prog 51 [.agg [gp, ge], .int .i64 n] h (fun en h' => en = .pan (refusal 2) ∧ Ext h h') := by
 have := needEvent_ok (n := n) A hl
 rw [if_neg hq] at this
 exact this
theorem needLoad_yes {n : Int} {h : AH} (hq : 0 ≤ n ∧ n ≤ 60) : Runs Tryz.prog 60 [.int .i64 n] h (fun en h' => en = .ret (.tuple []) ∧ Ext h h') := by
 have := needLoad_ok (n := n) (h := h)
 rw [if_pos hq] at this
 exact this
theorem needLoad_no {n : Int} {h : AH} (hq : ¬ (0 ≤ n ∧ n ≤ 60)) : Runs Tryz.prog 60 [.int .i64 n] h (fun en h' => en = .pan (refusal 2) ∧ Ext h h') := by
 have := needLoad_ok (n := n) (h := h)
 rw [if_neg hq] at this
 exact this
theorem heightB_ok {R : RoadV} (O : R.Ok) {lo : Nat} {gp ge : AVal} {part event : Int} {b1 b2 br : Nat} {h : AH} (A : GroundAt h R lo gp ge) (f0 : Has h b1 (.cells .plain [.int .i64 part] 3)) (f1 : Has h b2 (.cells .plain [.int .i64 event] 3)) (f2 : Has h br (.cells .plain [.int .i64 0, .int .i64 0] 29)) (hb1 : b1 ≠ br) (hb2 : b2 ≠ br) :
  Runs Tryz.prog 49 [.agg [gp, ge], .ptr b1 0, .ptr b2 0, .ptr br 0] h (fun en h'' => ExtF (fun b => b = br) h h'' ∧ Has h'' br (.cells .plain (spC (R.heightR part event).1) 29) ∧ (((R.heightR part event).2 = 0 ∧ en = .ret (.tuple [])) ∨ en = .pan (refusal (R.heightR part event).2))) := by
 have hne := O.ne
 have hnp := O.np
 have y0 : ExtF (fun b => b = br) h h := ExtF.of (Ext.refl _)
 have l0 := f0.1
 have l1 := f1.1
 have l2 := f2.1
 unfold RoadV.heightR
 rw [if_pos O]
 by_cases c1 : 0 ≤ part ∧ part ≤ (R.ps.length : Int) - 1
 ·rw [if_pos c1]
  by_cases c2 : 0 ≤ event ∧ event ≤ (R.es.length : Int) - 1
  ·rw [if_pos c2]
   cases c3 : R.possible with
   | true =>
    rw [if_pos rfl]
    obtain ⟨i, rfl⟩ := Int.eq_ofNat_of_zero_le c1.1
    obtain ⟨v, rfl⟩ := Int.eq_ofNat_of_zero_le c2.1
    rw [Int.toNat_natCast, Int.toNat_natCast]
    have hsp : ∀ {h9 : AH} {lo bm : Nat} {L : List (List Int × AVal)}, KnownAt R h9 lo bm L → Has h9 b2 (.cells .plain [.int .i64 (v : Nat)] 3) → Runs Tryz.prog 53 [.map bm, .int .i64 (i : Nat), .func (.func 54) [] [.ptr b2 0]] h9 (fun en h' => en = .ret (.agg (spC (spreadV R.known i fun f => (f.hs[v]?).getD 0))) ∧ Ext h9 h') := fun K f => spread_ok O K (by omega) (caps := [.ptr b2 0]) aFunc54 (by simp [sameA, sameAs, eqI_eq]) _ (fun f hf => by
     have := (known_small O hf).2.2
     unfold I64
     cases q : f.hs[v]? with
     | none => exact ⟨by simp, by simp⟩
     | some z => have := this z (List.mem_of_getElem? q); simp; omega) fun f' h' hf e' => height54_ok (known_in O hf).2 (by omega) (f.ext e')
    obtain ⟨sp, hspd⟩ : ∃ sp, spreadV R.known i (fun f => (f.hs[v]?).getD 0) = sp := ⟨_, rfl⟩
    rw [hspd] at hsp ⊢
    unfold spC at hsp ⊢
    have e0 : Ext h h := Ext.refl _
    refine Runs.intro aFunc49 rfl rfl rfl rfl fun rest => ?_
    refine Go.seq noJ_ok ?_
    refine Go.region noJ_ok rfl ?_
    refine GoR.box rfl rfl rfl rfl rfl rfl fun h3 x3 f3 => ?_
    have := e0.1
    have := f2.1
    have := f0.1
    have := f1.1
    replace f2 := f2.ext x3
    replace f0 := f0.ext x3
    replace f1 := f1.ext x3
    replace e0 := e0.trans x3
    replace y0 := y0.ext x3
    have := f3.1
    refine GoR.end ?_
    refine Go.seq noJ_ok ?_
    refine Go.region noJ_ok rfl ?_
    refine GoR.op rfl rfl (ld77 rfl f3 rfl) rfl ?_
    refine GoR.op rfl rfl (ld3 rfl f0 rfl) rfl ?_
    refine GoR.call rfl rfl (aOp_callFunc aFunc50 rfl) (needPart_yes (A.ext e0) (by omega) c1) ?_ (by rintro _ _ ⟨q, _⟩; cases q)
    rintro v4 h4 ⟨q, x4⟩
    cases q
    refine ⟨_, rfl, ?_⟩
    replace f3 := f3.ext x4
    replace f2 := f2.ext x4
    replace f0 := f0.ext x4
    replace f1 := f1.ext x4
    replace e0 := e0.trans x4
    replace y0 := y0.ext x4
    refine GoR.end ?_
    refine Go.seq noJ_ok ?_
    refine Go.region noJ_ok rfl ?_
    refine GoR.op rfl rfl (ld77 rfl f3 rfl) rfl ?_
    refine GoR.op rfl rfl (ld3 rfl f1 rfl) rfl ?_
    refine GoR.call rfl rfl (aOp_callFunc aFunc51 rfl) (needEvent_yes (A.ext e0) (by omega) c2) ?_ (by rintro _ _ ⟨q, _⟩; cases q)
    rintro v5 h5 ⟨q, x5⟩
    cases q
    refine ⟨_, rfl, ?_⟩
    replace f3 := f3.ext x5
    replace f2 := f2.ext x5
    replace f0 := f0.ext x5
    replace f1 := f1.ext x5
    replace e0 := e0.trans x5
    replace y0 := y0.ext x5
    refine GoR.end ?_
    refine Go.drawnE plan49_0 ?_
    refine GoE.quiet rfl rfl (ld77 rfl f3 rfl) rfl ?_
    refine GoE.quiet rfl rfl (ld3 rfl f0 rfl) rfl ?_
    refine GoE.quiet rfl rfl rfl rfl ?_
    refine GoE.call rfl rfl (aOp_callFunc aFunc52 rfl) (truths_yes O c3 (A.ext e0)) (dropF_keep (show bit? 1 3 = false from rfl) (dropF_keep (show bit? 1 2 = false from rfl) (dropF_drop (show bit? 1 0 = true from rfl) rfl))) ?_ (by rintro _ _ ⟨bm, L, q, _, KK, e9⟩; cases q)
    rintro v6 h6 ⟨bm, L, q, x6, KK, e9⟩
    cases q
    have := e0.1
    have := f3.1
    have := f2.1
    have := f0.1
    have := f1.1
    replace f3 := f3.ext x6
    replace f2 := f2.ext x6
    replace f0 := f0.ext x6
    replace f1 := f1.ext x6
    replace e0 := e0.trans x6
    replace y0 := y0.ext x6
    refine ⟨(rck (h2 := h6) rfl (rfl) (rck (h2 := h6) rfl (ld3 rfl f0 rfl) recheck_nil)), _, rfl, ?_⟩
    refine GoE.call rfl rfl (aOp_callFunc aFunc53 rfl) (hsp KK f1) (dropF_drop (show bit? 15 3 = true from rfl) (dropF_drop (show bit? 15 2 = true from rfl) rfl)) ?_ (by rintro _ _ ⟨q, _⟩; cases q)
    rintro v7 h7 ⟨q, x7⟩
    cases q
    replace f3 := f3.ext x7
    replace f2 := f2.ext x7
    replace f0 := f0.ext x7
    replace f1 := f1.ext x7
    replace e0 := e0.trans x7
    replace y0 := y0.ext x7
    refine ⟨recheck_nil, _, rfl, ?_⟩
    refine GoE.store rfl rfl rfl rfl rfl rfl rfl f2 rfl sz29 rfl rfl rfl fun h8 u8 => ?_
    replace f3 := f3.upd u8 (by omega)
    replace f2 := u8.has f2
    replace f0 := f0.upd u8 (by omega)
    replace f1 := f1.upd u8 (by omega)
    clear e9
    clear e0
    replace y0 := y0.upd u8 (.inl rfl)
    refine ⟨recheck_nil, ?_⟩
    refine GoE.end rfl ?_
    exact Go.endL (FLeft.ret (v := .tuple []) (aResult_of Tryz.func49 rfl rfl) ⟨y0, f2, .inl ⟨rfl, rfl⟩⟩)
   | false =>
    rw [if_neg (by simp)]
    have e0 : Ext h h := Ext.refl _
    refine Runs.intro aFunc49 rfl rfl rfl rfl fun rest => ?_
    refine Go.seq noJ_ok ?_
    refine Go.region noJ_ok rfl ?_
    refine GoR.box rfl rfl rfl rfl rfl rfl fun h3 x3 f3 => ?_
    replace f0 := f0.ext x3
    replace f1 := f1.ext x3
    replace f2 := f2.ext x3
    replace e0 := e0.trans x3
    replace y0 := y0.ext x3
    refine GoR.end ?_
    refine Go.seq noJ_ok ?_
    refine Go.region noJ_ok rfl ?_
    refine GoR.op rfl rfl (ld77 rfl f3 rfl) rfl ?_
    refine GoR.op rfl rfl (ld3 rfl f0 rfl) rfl ?_
    refine GoR.call rfl rfl (aOp_callFunc aFunc50 rfl) (needPart_yes (A.ext e0) (by omega) c1) ?_ (by rintro _ _ ⟨q, _⟩; cases q)
    rintro v4 h4 ⟨q, x4⟩
    cases q
    refine ⟨_, rfl, ?_⟩
    replace f3 := f3.ext x4
    replace f0 := f0.ext x4
    replace f1 := f1.ext x4
    replace f2 := f2.ext x4
    replace e0 := e0.trans x4
    replace y0 := y0.ext x4
    refine GoR.end ?_
    refine Go.seq noJ_ok ?_
    refine Go.region noJ_ok rfl ?_
    refine GoR.op rfl rfl (ld77 rfl f3 rfl) rfl ?_
    refine GoR.op rfl rfl (ld3 rfl f1 rfl) rfl ?_
    refine GoR.call rfl rfl (aOp_callFunc aFunc51 rfl) (needEvent_yes (A.ext e0) (by omega) c2) ?_ (by rintro _ _ ⟨q, _⟩; cases q)
    rintro v5 h5 ⟨q, x5⟩
    cases q
    refine ⟨_, rfl, ?_⟩
    replace f3 := f3.ext x5
    replace f0 := f0.ext x5
    replace f2 := f2.ext x5
    replace e0 := e0.trans x5
    replace y0 := y0.ext x5
    refine GoR.end ?_
    refine Go.drawnE plan49_0 ?_
    refine GoE.quiet rfl rfl (ld77 rfl f3 rfl) rfl ?_
    refine GoE.quiet rfl rfl (ld3 rfl f0 rfl) rfl ?_
    refine GoE.quiet rfl rfl rfl rfl ?_
    refine GoE.callP rfl rfl (aOp_callFunc aFunc52 rfl) (truths_no O c3 (A.ext e0)) rfl (by rintro _ _ ⟨q, _⟩; cases q) ?_
    rintro chain h6 ⟨q, x6⟩
    have q := AEnd.pan.inj q
    subst q
    replace f2 := f2.ext x6
    replace y0 := y0.ext x6
    exact FLeft.pan (⟨y0, f2, .inr rfl⟩)
  ·rw [if_neg c2]
   have e0 : Ext h h := Ext.refl _
   refine Runs.intro aFunc49 rfl rfl rfl rfl fun rest => ?_
   refine Go.seq noJ_ok ?_
   refine Go.region noJ_ok rfl ?_
   refine GoR.box rfl rfl rfl rfl rfl rfl fun h3 x3 f3 => ?_
   replace f0 := f0.ext x3
   replace f1 := f1.ext x3
   replace f2 := f2.ext x3
   replace e0 := e0.trans x3
   replace y0 := y0.ext x3
   refine GoR.end ?_
   refine Go.seq noJ_ok ?_
   refine Go.region noJ_ok rfl ?_
   refine GoR.op rfl rfl (ld77 rfl f3 rfl) rfl ?_
   refine GoR.op rfl rfl (ld3 rfl f0 rfl) rfl ?_
   refine GoR.call rfl rfl (aOp_callFunc aFunc50 rfl) (needPart_yes (A.ext e0) (by omega) c1) ?_ (by rintro _ _ ⟨q, _⟩; cases q)
   rintro v4 h4 ⟨q, x4⟩
   cases q
   refine ⟨_, rfl, ?_⟩
   replace f3 := f3.ext x4
   replace f1 := f1.ext x4
   replace f2 := f2.ext x4
   replace e0 := e0.trans x4
   replace y0 := y0.ext x4
   refine GoR.end ?_
   refine Go.seq noJ_ok ?_
   refine Go.region noJ_ok rfl ?_
   refine GoR.op rfl rfl (ld77 rfl f3 rfl) rfl ?_
   refine GoR.op rfl rfl (ld3 rfl f1 rfl) rfl ?_
   refine GoR.callP rfl rfl (aOp_callFunc aFunc51 rfl) (needEvent_no (A.ext e0) (by omega) c2) (by rintro _ _ ⟨q, _⟩; cases q) ?_
   rintro chain h5 ⟨q, x5⟩
   have q := AEnd.pan.inj q
   subst q
   replace f2 := f2.ext x5
   replace y0 := y0.ext x5
   exact FLeft.pan (⟨y0, f2, .inr rfl⟩)
 ·rw [if_neg c1]
  have e0 : Ext h h := Ext.refl _
  refine Runs.intro aFunc49 rfl rfl rfl rfl fun rest => ?_
  refine Go.seq noJ_ok ?_
  refine Go.region noJ_ok rfl ?_
  refine GoR.box rfl rfl rfl rfl rfl rfl fun h3 x3 f3 => ?_
  replace f0 := f0.ext x3
  replace f2 := f2.ext x3
  replace e0 := e0.trans x3
  replace y0 := y0.ext x3
  refine GoR.end ?_
  refine Go.seq noJ_ok ?_
  refine Go.region noJ_ok rfl ?_
  refine GoR.op rfl rfl (ld77 rfl f3 rfl) rfl ?_
  refine GoR.op rfl rfl (ld3 rfl f0 rfl) rfl ?_
  refine GoR.callP rfl rfl (aOp_callFunc aFunc50 rfl) (needPart_no (A.ext e0) (by omega) c1) (by rintro _ _ ⟨q, _⟩; cases q) ?_
  rintro chain h4 ⟨q, x4⟩
  have q := AEnd.pan.inj q
  subst q
  replace f2 := f2.ext x4
  replace y0 := y0.ext x4
  exact FLeft.pan (⟨y0, f2, .inr rfl⟩)
theorem Height_ok {R : RoadV} {psl esl : AVal} {h : AH} (A : RoadAt h R psl esl) (hb1 : R.ps.length ≤ 40) (hb2 : R.es.length ≤ 40) (part event : Int) :
  Runs Tryz.prog 15 [.agg [psl, esl], .int .i64 part, .int .i64 event] h (fun en h' => en = .ret (.tuple [.agg (spC (R.heightR part event).1), .int .i64 (R.heightR part event).2]) ∧ Ext h h') := by
 by_cases O : R.Ok
 ·have hB := fun {lo gp ge b1 b2 br h} A => heightB_ok O (part := part) (event := event) (lo := lo) (gp := gp) (ge := ge) (b1 := b1) (b2 := b2) (br := br) (h := h) A
  obtain ⟨r, hr⟩ : ∃ r, R.heightR part event = r := ⟨_, rfl⟩
  rw [hr] at hB ⊢
  obtain ⟨⟨r1, r2⟩, c⟩ := r
  unfold spC at hB ⊢
  have e0 : Ext h h := Ext.refl _
  refine Runs.intro aFunc15 rfl rfl rfl rfl fun rest => ?_
  refine Go.seq noJ_ok ?_
  refine Go.region noJ_ok rfl ?_
  refine GoR.box rfl rfl rfl rfl rfl rfl fun h0 x0 f0 => ?_
  have := e0.1
  replace e0 := e0.trans x0
  have := f0.1
  refine GoR.box rfl rfl rfl rfl rfl rfl fun h1 x1 f1 => ?_
  have := e0.1
  have := f0.1
  replace f0 := f0.ext x1
  replace e0 := e0.trans x1
  have := f1.1
  refine GoR.box rfl rfl rfl rfl rfl rfl fun h2 x2 f2 => ?_
  have := e0.1
  have := f1.1
  have := f0.1
  replace f1 := f1.ext x2
  replace f0 := f0.ext x2
  replace e0 := e0.trans x2
  have := f2.1
  refine GoR.alloc rfl rfl rfl zt29 rfl rfl fun h3 x3 f3 => ?_
  have := e0.1
  have := f2.1
  have := f1.1
  have := f0.1
  replace f2 := f2.ext x3
  replace f1 := f1.ext x3
  replace f0 := f0.ext x3
  replace e0 := e0.trans x3
  have := f3.1
  refine GoR.op rfl rfl rfl rfl ?_
  refine GoR.end ?_
  refine Go.seq noJ_ok ?_
  refine Go.region noJ_ok rfl ?_
  refine GoR.op rfl rfl (ld25 rfl f0 rfl) rfl ?_
  refine GoR.op rfl rfl rfl rfl ?_
  refine GoR.call rfl rfl (aOp_callFunc aFunc48 rfl) (attempt_sets O psl esl _ (A.ext e0) 49 _ aFunc49 _ (by simp [sameA, sameAs, eqI_eq]) h2.next (by omega) [.int .i64 r1, .int .i64 r2] 29 c fun h' gp ge e g => hB g (f1.ext e) (f2.ext e) (f3.ext e) (by omega) (by omega)) ?_ (by rintro _ _ ⟨q, _⟩; cases q)
  rintro v9 h9 ⟨q, y9, f9⟩
  cases q
  refine ⟨_, rfl, ?_⟩
  have z9 := y9.low e0 (fun b q => by omega)
  clear e0 y9 f3
  have e0 := z9
  refine GoR.op rfl rfl rfl rfl ?_
  refine GoR.end ?_
  refine Go.seq noJ_ok ?_
  refine Go.region noJ_ok rfl ?_
  refine GoR.op rfl rfl (ld29 rfl f9 rfl) rfl ?_
  refine GoR.op rfl rfl rfl rfl ?_
  refine GoR.store rfl rfl rfl rfl rfl rfl f9 rfl sz29 rfl rfl rfl fun h10 u10 => ?_
  replace f9 := u10.has f9
  replace e0 := e0.upd u10 (by omega)
  refine GoR.op rfl rfl rfl rfl ?_
  refine GoR.end ?_
  exact Go.ret noJ_ok (ret_end (aResult_of Tryz.func15 rfl (aResults_c rfl f9 (inCells_agg ag29 sz29 rfl) rfl)) ⟨rfl, e0⟩)
 ·have hr : R.heightR part event = (zSp, 1) := by unfold RoadV.heightR; rw [if_neg O]
  rw [hr]
  have e0 : Ext h h := Ext.refl _
  refine Runs.intro aFunc15 rfl rfl rfl rfl fun rest => ?_
  refine Go.seq noJ_ok ?_
  refine Go.region noJ_ok rfl ?_
  refine GoR.box rfl rfl rfl rfl rfl rfl fun h0 x0 f0 => ?_
  have := e0.1
  replace e0 := e0.trans x0
  have := f0.1
  refine GoR.box rfl rfl rfl rfl rfl rfl fun h1 x1 f1 => ?_
  have := e0.1
  have := f0.1
  replace f0 := f0.ext x1
  replace e0 := e0.trans x1
  have := f1.1
  refine GoR.box rfl rfl rfl rfl rfl rfl fun h2 x2 f2 => ?_
  have := e0.1
  have := f1.1
  have := f0.1
  replace f1 := f1.ext x2
  replace f0 := f0.ext x2
  replace e0 := e0.trans x2
  have := f2.1
  refine GoR.alloc rfl rfl rfl zt29 rfl rfl fun h3 x3 f3 => ?_
  have := e0.1
  have := f2.1
  have := f1.1
  have := f0.1
  replace f0 := f0.ext x3
  replace e0 := e0.trans x3
  have := f3.1
  refine GoR.op rfl rfl rfl rfl ?_
  refine GoR.end ?_
  refine Go.seq noJ_ok ?_
  refine Go.region noJ_ok rfl ?_
  refine GoR.op rfl rfl (ld25 rfl f0 rfl) rfl ?_
  refine GoR.op rfl rfl rfl rfl ?_
  refine GoR.call rfl rfl (aOp_callFunc aFunc48 rfl) (attempt_bad O hb1 hb2 psl esl _ (A.ext e0) 49 _) ?_ (by rintro _ _ ⟨q, _⟩; cases q)
  rintro v4 h4 ⟨q, x4⟩
  cases q
  refine ⟨_, rfl, ?_⟩
  replace f3 := f3.ext x4
  replace e0 := e0.trans x4
  refine GoR.op rfl rfl rfl rfl ?_
  refine GoR.end ?_
  refine Go.seq noJ_ok ?_
  refine Go.region noJ_ok rfl ?_
  refine GoR.op rfl rfl (ld29 rfl f3 rfl) rfl ?_
  refine GoR.op rfl rfl rfl rfl ?_
  refine GoR.store rfl rfl rfl rfl rfl rfl f3 rfl sz29 rfl rfl rfl fun h5 u5 => ?_
  replace f3 := u5.has f3
  replace e0 := e0.upd u5 (by omega)
  refine GoR.op rfl rfl rfl rfl ?_
  refine GoR.end ?_
  exact Go.ret noJ_ok (ret_end (aResult_of Tryz.func15 rfl (aResults_c rfl f3 (inCells_agg ag29 sz29 rfl) rfl)) ⟨rfl, e0⟩)
theorem sinksB_ok {R : RoadV} (O : R.Ok) {lo : Nat} {gp ge : AVal} {part load : Int} {b1 b2 br : Nat} {h : AH} (A : GroundAt h R lo gp ge) (f0 : Has h b1 (.cells .plain [.int .i64 part] 3)) (f1 : Has h b2 (.cells .plain [.int .i64 load] 3)) (f2 : Has h br (.cells .plain [.int .i64 0, .int .i64 0] 29)) (hb1 : b1 ≠ br) (hb2 : b2 ≠ br) :
  Runs Tryz.prog 59 [.agg [gp, ge], .ptr b1 0, .ptr b2 0, .ptr br 0] h (fun en h'' => ExtF (fun b => b = br) h h'' ∧ Has h'' br (.cells .plain (spC (R.sinksR part load).1) 29) ∧ (((R.sinksR part load).2 = 0 ∧ en = .ret (.tuple [])) ∨ en = .pan (refusal (R.sinksR part load).2))) := by
 have hne := O.ne
 have hnp := O.np
 have y0 : ExtF (fun b => b = br) h h := ExtF.of (Ext.refl _)
 have l0 := f0.1
 have l1 := f1.1
 have l2 := f2.1
 unfold RoadV.sinksR
 rw [if_pos O]
 by_cases c1 : 0 ≤ part ∧ part ≤ (R.ps.length : Int) - 1
 ·rw [if_pos c1]
  by_cases c2 : 0 ≤ load ∧ load ≤ 60
  ·rw [if_pos c2]
   cases c3 : R.possible with
   | true =>
    rw [if_pos rfl]
    obtain ⟨i, rfl⟩ := Int.eq_ofNat_of_zero_le c1.1
    rw [Int.toNat_natCast]
    have hsp : ∀ {h9 : AH} {lo bm : Nat} {L : List (List Int × AVal)}, KnownAt R h9 lo bm L → Has h9 b2 (.cells .plain [.int .i64 load] 3) → Runs Tryz.prog 53 [.map bm, .int .i64 (i : Nat), .func (.func 61) [] [.ptr b2 0]] h9 (fun en h' => en = .ret (.agg (spC (spreadV R.known i fun f => f.x.sinks load))) ∧ Ext h9 h') := fun K f => spread_ok O K (by omega) (caps := [.ptr b2 0]) aFunc61 (by simp [sameA, sameAs, eqI_eq]) _ (fun f hf => by
     have a := (known_in O hf).1.s
     have := sinks_nonneg c2.1 a.1
     have := sinks_le c2.1 a.1
     unfold I64 Pc.sinks
     omega) fun f' h' hf e' => sinks61_ok (known_in O hf).1 c2 (f.ext e')
    obtain ⟨sp, hspd⟩ : ∃ sp, spreadV R.known i (fun f => f.x.sinks load) = sp := ⟨_, rfl⟩
    rw [hspd] at hsp ⊢
    unfold spC at hsp ⊢
    have e0 : Ext h h := Ext.refl _
    refine Runs.intro aFunc59 rfl rfl rfl rfl fun rest => ?_
    refine Go.seq noJ_ok ?_
    refine Go.region noJ_ok rfl ?_
    refine GoR.box rfl rfl rfl rfl rfl rfl fun h3 x3 f3 => ?_
    have := e0.1
    have := f1.1
    have := f2.1
    have := f0.1
    replace f1 := f1.ext x3
    replace f2 := f2.ext x3
    replace f0 := f0.ext x3
    replace e0 := e0.trans x3
    replace y0 := y0.ext x3
    have := f3.1
    refine GoR.end ?_
    refine Go.seq noJ_ok ?_
    refine Go.region noJ_ok rfl ?_
    refine GoR.op rfl rfl (ld77 rfl f3 rfl) rfl ?_
    refine GoR.op rfl rfl (ld3 rfl f0 rfl) rfl ?_
    refine GoR.call rfl rfl (aOp_callFunc aFunc50 rfl) (needPart_yes (A.ext e0) (by omega) c1) ?_ (by rintro _ _ ⟨q, _⟩; cases q)
    rintro v4 h4 ⟨q, x4⟩
    cases q
    refine ⟨_, rfl, ?_⟩
    replace f3 := f3.ext x4
    replace f1 := f1.ext x4
    replace f2 := f2.ext x4
    replace f0 := f0.ext x4
    replace e0 := e0.trans x4
    replace y0 := y0.ext x4
    refine GoR.end ?_
    refine Go.seq noJ_ok ?_
    refine Go.region noJ_ok rfl ?_
    refine GoR.op rfl rfl (ld3 rfl f1 rfl) rfl ?_
    refine GoR.call rfl rfl (aOp_callFunc aFunc60 rfl) (needLoad_yes c2) ?_ (by rintro _ _ ⟨q, _⟩; cases q)
    rintro v5 h5 ⟨q, x5⟩
    cases q
    refine ⟨_, rfl, ?_⟩
    replace f3 := f3.ext x5
    replace f1 := f1.ext x5
    replace f2 := f2.ext x5
    replace f0 := f0.ext x5
    replace e0 := e0.trans x5
    replace y0 := y0.ext x5
    refine GoR.end ?_
    refine Go.drawnE plan59_0 ?_
    refine GoE.quiet rfl rfl (ld77 rfl f3 rfl) rfl ?_
    refine GoE.quiet rfl rfl (ld3 rfl f0 rfl) rfl ?_
    refine GoE.quiet rfl rfl rfl rfl ?_
    refine GoE.call rfl rfl (aOp_callFunc aFunc52 rfl) (truths_yes O c3 (A.ext e0)) (dropF_keep (show bit? 1 3 = false from rfl) (dropF_keep (show bit? 1 2 = false from rfl) (dropF_drop (show bit? 1 0 = true from rfl) rfl))) ?_ (by rintro _ _ ⟨bm, L, q, _, KK, e9⟩; cases q)
    rintro v6 h6 ⟨bm, L, q, x6, KK, e9⟩
    cases q
    have := e0.1
    have := f3.1
    have := f1.1
    have := f2.1
    have := f0.1
    replace f3 := f3.ext x6
    replace f1 := f1.ext x6
    replace f2 := f2.ext x6
    replace f0 := f0.ext x6
    replace e0 := e0.trans x6
    replace y0 := y0.ext x6
    refine ⟨(rck (h2 := h6) rfl (rfl) (rck (h2 := h6) rfl (ld3 rfl f0 rfl) recheck_nil)), _, rfl, ?_⟩
    refine GoE.call rfl rfl (aOp_callFunc aFunc53 rfl) (hsp KK f1) (dropF_drop (show bit? 15 3 = true from rfl) (dropF_drop (show bit? 15 2 = true from rfl) rfl)) ?_ (by rintro _ _ ⟨q, _⟩; cases q)
    rintro v7 h7 ⟨q, x7⟩
    cases q
    replace f3 := f3.ext x7
    replace f1 := f1.ext x7
    replace f2 := f2.ext x7
    replace f0 := f0.ext x7
    replace e0 := e0.trans x7
    replace y0 := y0.ext x7
    refine ⟨recheck_nil, _, rfl, ?_⟩
    refine GoE.store rfl rfl rfl rfl rfl rfl rfl f2 rfl sz29 rfl rfl rfl fun h8 u8 => ?_
    replace f3 := f3.upd u8 (by omega)
    replace f1 := f1.upd u8 (by omega)
    replace f2 := u8.has f2
    replace f0 := f0.upd u8 (by omega)
    clear e9
    clear e0
    replace y0 := y0.upd u8 (.inl rfl)
    refine ⟨recheck_nil, ?_⟩
    refine GoE.end rfl ?_
    exact Go.endL (FLeft.ret (v := .tuple []) (aResult_of Tryz.func59 rfl rfl) ⟨y0, f2, .inl ⟨rfl, rfl⟩⟩)
   | false =>
    rw [if_neg (by simp)]
    have e0 : Ext h h := Ext.refl _
    refine Runs.intro aFunc59 rfl rfl rfl rfl fun rest => ?_
    refine Go.seq noJ_ok ?_
    refine Go.region noJ_ok rfl ?_
    refine GoR.box rfl rfl rfl rfl rfl rfl fun h3 x3 f3 => ?_
    replace f0 := f0.ext x3
    replace f1 := f1.ext x3
    replace f2 := f2.ext x3
    replace e0 := e0.trans x3
    replace y0 := y0.ext x3
    refine GoR.end ?_
    refine Go.seq noJ_ok ?_
    refine Go.region noJ_ok rfl ?_
    refine GoR.op rfl rfl (ld77 rfl f3 rfl) rfl ?_
    refine GoR.op rfl rfl (ld3 rfl f0 rfl) rfl ?_
    refine GoR.call rfl rfl (aOp_callFunc aFunc50 rfl) (needPart_yes (A.ext e0) (by omega) c1) ?_ (by rintro _ _ ⟨q, _⟩; cases q)
    rintro v4 h4 ⟨q, x4⟩
    cases q
    refine ⟨_, rfl, ?_⟩
    replace f3 := f3.ext x4
    replace f0 := f0.ext x4
    replace f1 := f1.ext x4
    replace f2 := f2.ext x4
    replace e0 := e0.trans x4
    replace y0 := y0.ext x4
    refine GoR.end ?_
    refine Go.seq noJ_ok ?_
    refine Go.region noJ_ok rfl ?_
    refine GoR.op rfl rfl (ld3 rfl f1 rfl) rfl ?_
    refine GoR.call rfl rfl (aOp_callFunc aFunc60 rfl) (needLoad_yes c2) ?_ (by rintro _ _ ⟨q, _⟩; cases q)
    rintro v5 h5 ⟨q, x5⟩
    cases q
    refine ⟨_, rfl, ?_⟩
    replace f3 := f3.ext x5
    replace f0 := f0.ext x5
    replace f2 := f2.ext x5
    replace e0 := e0.trans x5
    replace y0 := y0.ext x5
    refine GoR.end ?_
    refine Go.drawnE plan59_0 ?_
    refine GoE.quiet rfl rfl (ld77 rfl f3 rfl) rfl ?_
    refine GoE.quiet rfl rfl (ld3 rfl f0 rfl) rfl ?_
    refine GoE.quiet rfl rfl rfl rfl ?_
    refine GoE.callP rfl rfl (aOp_callFunc aFunc52 rfl) (truths_no O c3 (A.ext e0)) rfl (by rintro _ _ ⟨q, _⟩; cases q) ?_
    rintro chain h6 ⟨q, x6⟩
    have q := AEnd.pan.inj q
    subst q
    replace f2 := f2.ext x6
    replace y0 := y0.ext x6
    exact FLeft.pan (⟨y0, f2, .inr rfl⟩)
  ·rw [if_neg c2]
   have e0 : Ext h h := Ext.refl _
   refine Runs.intro aFunc59 rfl rfl rfl rfl fun rest => ?_
   refine Go.seq noJ_ok ?_
   refine Go.region noJ_ok rfl ?_
   refine GoR.box rfl rfl rfl rfl rfl rfl fun h3 x3 f3 => ?_
   replace f0 := f0.ext x3
   replace f1 := f1.ext x3
   replace f2 := f2.ext x3
   replace e0 := e0.trans x3
   replace y0 := y0.ext x3
   refine GoR.end ?_
   refine Go.seq noJ_ok ?_
   refine Go.region noJ_ok rfl ?_
   refine GoR.op rfl rfl (ld77 rfl f3 rfl) rfl ?_
   refine GoR.op rfl rfl (ld3 rfl f0 rfl) rfl ?_
   refine GoR.call rfl rfl (aOp_callFunc aFunc50 rfl) (needPart_yes (A.ext e0) (by omega) c1) ?_ (by rintro _ _ ⟨q, _⟩; cases q)
   rintro v4 h4 ⟨q, x4⟩
   cases q
   refine ⟨_, rfl, ?_⟩
   replace f1 := f1.ext x4
   replace f2 := f2.ext x4
   replace y0 := y0.ext x4
   refine GoR.end ?_
   refine Go.seq noJ_ok ?_
   refine Go.region noJ_ok rfl ?_
   refine GoR.op rfl rfl (ld3 rfl f1 rfl) rfl ?_
   refine GoR.callP rfl rfl (aOp_callFunc aFunc60 rfl) (needLoad_no c2) (by rintro _ _ ⟨q, _⟩; cases q) ?_
   rintro chain h5 ⟨q, x5⟩
   have q := AEnd.pan.inj q
   subst q
   replace f2 := f2.ext x5
   replace y0 := y0.ext x5
   exact FLeft.pan (⟨y0, f2, .inr rfl⟩)
 ·rw [if_neg c1]
  have e0 : Ext h h := Ext.refl _
  refine Runs.intro aFunc59 rfl rfl rfl rfl fun rest => ?_
  refine Go.seq noJ_ok ?_
  refine Go.region noJ_ok rfl ?_
  refine GoR.box rfl rfl rfl rfl rfl rfl fun h3 x3 f3 => ?_
  replace f0 := f0.ext x3
  replace f2 := f2.ext x3
  replace e0 := e0.trans x3
  replace y0 := y0.ext x3
  refine GoR.end ?_
  refine Go.seq noJ_ok ?_
  refine Go.region noJ_ok rfl ?_
  refine GoR.op rfl rfl (ld77 rfl f3 rfl) rfl ?_
  refine GoR.op rfl rfl (ld3 rfl f0 rfl) rfl ?_
  refine GoR.callP rfl rfl (aOp_callFunc aFunc50 rfl) (needPart_no (A.ext e0) (by omega) c1) (by rintro _ _ ⟨q, _⟩; cases q) ?_
  rintro chain h4 ⟨q, x4⟩
  have q := AEnd.pan.inj q
  subst q
  replace f2 := f2.ext x4
  replace y0 := y0.ext x4
  exact FLeft.pan (⟨y0, f2, .inr rfl⟩)
theorem Sinks_ok {R : RoadV} {psl esl : AVal} {h : AH} (A : RoadAt h R psl esl) (hb1 : R.ps.length ≤ 40) (hb2 : R.es.length ≤ 40) (part load : Int) :
  Runs Tryz.prog 17 [.agg [psl, esl], .int .i64 part, .int .i64 load] h (fun en h' => en = .ret (.tuple [.agg (spC (R.sinksR part load).1), .int .i64 (R.sinksR part load).2]) ∧ Ext h h') := by
 by_cases O : R.Ok
 ·have hB := fun {lo gp ge b1 b2 br h} A => sinksB_ok O (part := part) (load := load) (lo := lo) (gp := gp) (ge := ge) (b1 := b1) (b2 := b2) (br := br) (h := h) A
  obtain ⟨r, hr⟩ : ∃ r, R.sinksR part load = r := ⟨_, rfl⟩
  rw [hr] at hB ⊢
  obtain ⟨⟨r1, r2⟩, c⟩ := r
  unfold spC at hB ⊢
  have e0 : Ext h h := Ext.refl _
  refine Runs.intro aFunc17 rfl rfl rfl rfl fun rest => ?_
  refine Go.seq noJ_ok ?_
  refine Go.region noJ_ok rfl ?_
  refine GoR.box rfl rfl rfl rfl rfl rfl fun h0 x0 f0 => ?_
  have := e0.1
  replace e0 := e0.trans x0
  have := f0.1
  refine GoR.box rfl rfl rfl rfl rfl rfl fun h1 x1 f1 => ?_
  have := e0.1
  have := f0.1
  replace f0 := f0.ext x1
  replace e0 := e0.trans x1
  have := f1.1
  refine GoR.box rfl rfl rfl rfl rfl rfl fun h2 x2 f2 => ?_
  have := e0.1
  have := f1.1
  have := f0.1
  replace f1 := f1.ext x2
  replace f0 := f0.ext x2
  replace e0 := e0.trans x2
  have := f2.1
  refine GoR.alloc rfl rfl rfl zt29 rfl rfl fun h3 x3 f3 => ?_
  have := e0.1
  have := f2.1
  have := f1.1
  have := f0.1
  replace f2 := f2.ext x3
  replace f1 := f1.ext x3
  replace f0 := f0.ext x3
  replace e0 := e0.trans x3
  have := f3.1
  refine GoR.op rfl rfl rfl rfl ?_
  refine GoR.end ?_
  refine Go.seq noJ_ok ?_
  refine Go.region noJ_ok rfl ?_
  refine GoR.op rfl rfl (ld25 rfl f0 rfl) rfl ?_
  refine GoR.op rfl rfl rfl rfl ?_
  refine GoR.call rfl rfl (aOp_callFunc aFunc48 rfl) (attempt_sets O psl esl _ (A.ext e0) 59 _ aFunc59 _ (by simp [sameA, sameAs, eqI_eq]) h2.next (by omega) [.int .i64 r1, .int .i64 r2] 29 c fun h' gp ge e g => hB g (f1.ext e) (f2.ext e) (f3.ext e) (by omega) (by omega)) ?_ (by rintro _ _ ⟨q, _⟩; cases q)
  rintro v9 h9 ⟨q, y9, f9⟩
  cases q
  refine ⟨_, rfl, ?_⟩
  have z9 := y9.low e0 (fun b q => by omega)
  clear e0 y9 f3
  have e0 := z9
  refine GoR.op rfl rfl rfl rfl ?_
  refine GoR.end ?_
  refine Go.seq noJ_ok ?_
  refine Go.region noJ_ok rfl ?_
  refine GoR.op rfl rfl (ld29 rfl f9 rfl) rfl ?_
  refine GoR.op rfl rfl rfl rfl ?_
  refine GoR.store rfl rfl rfl rfl rfl rfl f9 rfl sz29 rfl rfl rfl fun h10 u10 => ?_
  replace f9 := u10.has f9
  replace e0 := e0.upd u10 (by omega)
  refine GoR.op rfl rfl rfl rfl ?_
  refine GoR.end ?_
  exact Go.ret noJ_ok (ret_end (aResult_of Tryz.func17 rfl (aResults_c rfl f9 (inCells_agg ag29 sz29 rfl) rfl)) ⟨rfl, e0⟩)
 ·have hr : R.sinksR part load = (zSp, 1) := by unfold RoadV.sinksR; rw [if_neg O]
  rw [hr]
  have e0 : Ext h h := Ext.refl _
  refine Runs.intro aFunc17 rfl rfl rfl rfl fun rest => ?_
  refine Go.seq noJ_ok ?_
  refine Go.region noJ_ok rfl ?_
  refine GoR.box rfl rfl rfl rfl rfl rfl fun h0 x0 f0 => ?_
  have := e0.1
  replace e0 := e0.trans x0
  have := f0.1
  refine GoR.box rfl rfl rfl rfl rfl rfl fun h1 x1 f1 => ?_
  have := e0.1
  have := f0.1
  replace f0 := f0.ext x1
  replace e0 := e0.trans x1
  have := f1.1
  refine GoR.box rfl rfl rfl rfl rfl rfl fun h2 x2 f2 => ?_
  have := e0.1
  have := f1.1
  have := f0.1
  replace f1 := f1.ext x2
  replace f0 := f0.ext x2
  replace e0 := e0.trans x2
  have := f2.1
  refine GoR.alloc rfl rfl rfl zt29 rfl rfl fun h3 x3 f3 => ?_
  have := e0.1
  have := f2.1
  have := f1.1
  have := f0.1
  replace f0 := f0.ext x3
  replace e0 := e0.trans x3
  have := f3.1
  refine GoR.op rfl rfl rfl rfl ?_
  refine GoR.end ?_
  refine Go.seq noJ_ok ?_
  refine Go.region noJ_ok rfl ?_
  refine GoR.op rfl rfl (ld25 rfl f0 rfl) rfl ?_
  refine GoR.op rfl rfl rfl rfl ?_
  refine GoR.call rfl rfl (aOp_callFunc aFunc48 rfl) (attempt_bad O hb1 hb2 psl esl _ (A.ext e0) 59 _) ?_ (by rintro _ _ ⟨q, _⟩; cases q)
  rintro v4 h4 ⟨q, x4⟩
  cases q
  refine ⟨_, rfl, ?_⟩
  replace f3 := f3.ext x4
  replace e0 := e0.trans x4
  refine GoR.op rfl rfl rfl rfl ?_
  refine GoR.end ?_
  refine Go.seq noJ_ok ?_
  refine Go.region noJ_ok rfl ?_
  refine GoR.op rfl rfl (ld29 rfl f3 rfl) rfl ?_
  refine GoR.op rfl rfl rfl rfl ?_
  refine GoR.store rfl rfl rfl rfl rfl rfl f3 rfl sz29 rfl rfl rfl fun h5 u5 => ?_
  replace f3 := u5.has f3
  replace e0 := e0.upd u5 (by omega)
  refine GoR.op rfl rfl rfl rfl ?_
  refine GoR.end ?_
  exact Go.ret noJ_ok (ret_end (aResult_of Tryz.func17 rfl (aResults_c rfl f3 (inCells_agg ag29 sz29 rfl) rfl)) ⟨rfl, e0⟩)
end Go.Proofs.YtkcimfopboelaaaGreat
