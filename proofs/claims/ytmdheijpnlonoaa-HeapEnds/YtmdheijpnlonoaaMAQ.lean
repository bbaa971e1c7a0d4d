import Derived.Test.YtmdheijpnlonoaaMAP
namespace Go.Proofs.Ytmdheijpnlonoaa
open Go Go.AbsE
set_option linter.unusedSimpArgs false
set_option maxRecDepth 100000
set_option maxHeartbeats 0
set_option linter.unusedVariables false
theorem no_iff {P : Prop} (h : ¬ P) : (false = true) ↔ P := ⟨fun q => (by cases q), fun p => absurd p h⟩
theorem heaps23_is (F : FieldV) (hsl rsl lsl : AVal) (h : AH) (A : FieldAt h F hsl rsl lsl) (hb1 : F.hs.length ≤ 40) (hb2 : F.rs.length ≤ 40) (hb3 : F.looks.length ≤ 40) :
    Runs Try.prog 23 [.agg (F.cells hsl rsl lsl)] h (fun en h' => ∃ r, en = .ret (.bool r) ∧ (r = true ↔ F.Ok) ∧ Ext h h') := by
  have hl1 := A.hs.len
  have hl2 := A.rs.len
  have hl3 := A.ls.len
  rw [List.length_map] at hl1 hl2 hl3
  have h59 := fun n r hr h => heap59_ok (F := F) hsl rsl lsl hl1 (by omega) n (r := r) hr h
  have h60 := fun n r hr h => day60_ok (F := F) hsl rsl lsl hl2 (by omega) n (r := r) hr h
  unfold FieldV.cells fieldC at h59 h60 ⊢
  cases r1 : decide ((1 : Int) ≤ F.hs.length ∧ (F.hs.length : Int) ≤ 3) with
  | false =>
    refine Runs.intro aFunc23 rfl rfl rfl rfl fun rest => ?_
    refine Go.seq noJ_ok ?_
    refine Go.region noJ_ok rfl ?_
    refine GoR.box rfl rfl rfl rfl rfl rfl fun h61 x61 f61 => ?_
    have e0 := x61
    have := f61.1
    refine GoR.op rfl rfl rfl rfl ?_
    refine GoR.end ?_
    iterate 2 refine Go.seq noJ_ok ?_
    refine Go.region noJ_ok rfl ?_
    refine GoR.op rfl rfl (fa27_0 rfl) rfl ?_
    refine GoR.op rfl rfl (ld22 rfl f61 rfl) rfl ?_
    refine GoR.op rfl rfl (aOp_lenSlice Try.underlying22 rfl hl1) rfl ?_
    refine GoR.call rfl rfl (aOp_callFunc aFunc57 rfl) (in57_ok F.hs.length 1 3 r1 _) ?_ (by rintro _ _ ⟨q, _⟩; cases q)
    rintro v62 h62 ⟨q, x62⟩
    cases q
    refine ⟨_, rfl, ?_⟩
    replace f61 := f61.ext x62
    replace e0 := e0.trans x62
    iterate 2 refine GoR.op rfl rfl rfl rfl ?_
    iterate 5 refine GoR.skip rfl rfl rfl ?_
    iterate 2 refine GoR.op rfl rfl rfl rfl ?_
    iterate 4 refine GoR.skip rfl rfl rfl ?_
    iterate 2 refine GoR.op rfl rfl rfl rfl ?_
    iterate 4 refine GoR.skip rfl rfl rfl ?_
    refine GoR.op rfl rfl rfl rfl ?_
    refine GoR.end ?_
    refine Go.cond noJ_ok (b := true) rfl ?_
    refine Go.seq noJ_ok ?_
    refine Go.region noJ_ok rfl ?_
    refine GoR.op rfl rfl rfl rfl ?_
    refine GoR.end ?_
    exact Go.ret noJ_ok (ret_end (aResult_of Try.func23 rfl rfl) ⟨false, rfl, (no_iff fun O => by have k := O.nh; have q := of_decide_eq_false r1; omega), e0⟩)
  | true =>
  cases r2 : decide ((1 : Int) ≤ F.rs.length ∧ (F.rs.length : Int) ≤ 6) with
  | false =>
    refine Runs.intro aFunc23 rfl rfl rfl rfl fun rest => ?_
    refine Go.seq noJ_ok ?_
    refine Go.region noJ_ok rfl ?_
    refine GoR.box rfl rfl rfl rfl rfl rfl fun h61 x61 f61 => ?_
    have e0 := x61
    have := f61.1
    refine GoR.op rfl rfl rfl rfl ?_
    refine GoR.end ?_
    iterate 2 refine Go.seq noJ_ok ?_
    refine Go.region noJ_ok rfl ?_
    refine GoR.op rfl rfl (fa27_0 rfl) rfl ?_
    refine GoR.op rfl rfl (ld22 rfl f61 rfl) rfl ?_
    refine GoR.op rfl rfl (aOp_lenSlice Try.underlying22 rfl hl1) rfl ?_
    refine GoR.call rfl rfl (aOp_callFunc aFunc57 rfl) (in57_ok F.hs.length 1 3 r1 _) ?_ (by rintro _ _ ⟨q, _⟩; cases q)
    rintro v62 h62 ⟨q, x62⟩
    cases q
    refine ⟨_, rfl, ?_⟩
    replace f61 := f61.ext x62
    replace e0 := e0.trans x62
    iterate 2 refine GoR.op rfl rfl rfl rfl ?_
    refine GoR.op rfl rfl (fa27_1 rfl) rfl ?_
    refine GoR.op rfl rfl (ld23 rfl f61 rfl) rfl ?_
    refine GoR.op rfl rfl (aOp_lenSlice Try.underlying23 rfl hl2) rfl ?_
    refine GoR.call rfl rfl (aOp_callFunc aFunc57 rfl) (in57_ok F.rs.length 1 6 r2 _) ?_ (by rintro _ _ ⟨q, _⟩; cases q)
    rintro v63 h63 ⟨q, x63⟩
    cases q
    refine ⟨_, rfl, ?_⟩
    replace f61 := f61.ext x63
    replace e0 := e0.trans x63
    iterate 3 refine GoR.op rfl rfl rfl rfl ?_
    iterate 4 refine GoR.skip rfl rfl rfl ?_
    iterate 2 refine GoR.op rfl rfl rfl rfl ?_
    iterate 4 refine GoR.skip rfl rfl rfl ?_
    refine GoR.op rfl rfl rfl rfl ?_
    refine GoR.end ?_
    refine Go.cond noJ_ok (b := true) rfl ?_
    refine Go.seq noJ_ok ?_
    refine Go.region noJ_ok rfl ?_
    refine GoR.op rfl rfl rfl rfl ?_
    refine GoR.end ?_
    exact Go.ret noJ_ok (ret_end (aResult_of Try.func23 rfl rfl) ⟨false, rfl, (no_iff fun O => by have k := O.nr; have q := of_decide_eq_false r2; omega), e0⟩)
  | true =>
  cases r3 : decide (0 ≤ F.lim ∧ F.lim ≤ 100) with
  | false =>
    refine Runs.intro aFunc23 rfl rfl rfl rfl fun rest => ?_
    refine Go.seq noJ_ok ?_
    refine Go.region noJ_ok rfl ?_
    refine GoR.box rfl rfl rfl rfl rfl rfl fun h61 x61 f61 => ?_
    have e0 := x61
    have := f61.1
    refine GoR.op rfl rfl rfl rfl ?_
    refine GoR.end ?_
    iterate 2 refine Go.seq noJ_ok ?_
    refine Go.region noJ_ok rfl ?_
    refine GoR.op rfl rfl (fa27_0 rfl) rfl ?_
    refine GoR.op rfl rfl (ld22 rfl f61 rfl) rfl ?_
    refine GoR.op rfl rfl (aOp_lenSlice Try.underlying22 rfl hl1) rfl ?_
    refine GoR.call rfl rfl (aOp_callFunc aFunc57 rfl) (in57_ok F.hs.length 1 3 r1 _) ?_ (by rintro _ _ ⟨q, _⟩; cases q)
    rintro v62 h62 ⟨q, x62⟩
    cases q
    refine ⟨_, rfl, ?_⟩
    replace f61 := f61.ext x62
    replace e0 := e0.trans x62
    iterate 2 refine GoR.op rfl rfl rfl rfl ?_
    refine GoR.op rfl rfl (fa27_1 rfl) rfl ?_
    refine GoR.op rfl rfl (ld23 rfl f61 rfl) rfl ?_
    refine GoR.op rfl rfl (aOp_lenSlice Try.underlying23 rfl hl2) rfl ?_
    refine GoR.call rfl rfl (aOp_callFunc aFunc57 rfl) (in57_ok F.rs.length 1 6 r2 _) ?_ (by rintro _ _ ⟨q, _⟩; cases q)
    rintro v63 h63 ⟨q, x63⟩
    cases q
    refine ⟨_, rfl, ?_⟩
    replace f61 := f61.ext x63
    replace e0 := e0.trans x63
    iterate 3 refine GoR.op rfl rfl rfl rfl ?_
    refine GoR.op rfl rfl (fa27_3 rfl) rfl ?_
    refine GoR.op rfl rfl (ld3 rfl f61 rfl) rfl ?_
    refine GoR.call rfl rfl (aOp_callFunc aFunc57 rfl) (in57_ok F.lim 0 100 r3 _) ?_ (by rintro _ _ ⟨q, _⟩; cases q)
    rintro v64 h64 ⟨q, x64⟩
    cases q
    refine ⟨_, rfl, ?_⟩
    replace f61 := f61.ext x64
    replace e0 := e0.trans x64
    iterate 3 refine GoR.op rfl rfl rfl rfl ?_
    iterate 4 refine GoR.skip rfl rfl rfl ?_
    refine GoR.op rfl rfl rfl rfl ?_
    refine GoR.end ?_
    refine Go.cond noJ_ok (b := true) rfl ?_
    refine Go.seq noJ_ok ?_
    refine Go.region noJ_ok rfl ?_
    refine GoR.op rfl rfl rfl rfl ?_
    refine GoR.end ?_
    exact Go.ret noJ_ok (ret_end (aResult_of Try.func23 rfl rfl) ⟨false, rfl, (no_iff fun O => by have k := O.lim; have q := of_decide_eq_false r3; omega), e0⟩)
  | true =>
  by_cases r4 : F.looks.length ≤ 5
  · refine Runs.intro aFunc23 rfl rfl rfl rfl fun rest => ?_
    refine Go.seq noJ_ok ?_
    refine Go.region noJ_ok rfl ?_
    refine GoR.box rfl rfl rfl rfl rfl rfl fun h61 x61 f61 => ?_
    have e0 := x61
    have := f61.1
    refine GoR.op rfl rfl rfl rfl ?_
    refine GoR.end ?_
    iterate 2 refine Go.seq noJ_ok ?_
    refine Go.region noJ_ok rfl ?_
    refine GoR.op rfl rfl (fa27_0 rfl) rfl ?_
    refine GoR.op rfl rfl (ld22 rfl f61 rfl) rfl ?_
    refine GoR.op rfl rfl (aOp_lenSlice Try.underlying22 rfl hl1) rfl ?_
    refine GoR.call rfl rfl (aOp_callFunc aFunc57 rfl) (in57_ok F.hs.length 1 3 r1 _) ?_ (by rintro _ _ ⟨q, _⟩; cases q)
    rintro v62 h62 ⟨q, x62⟩
    cases q
    refine ⟨_, rfl, ?_⟩
    replace f61 := f61.ext x62
    replace e0 := e0.trans x62
    iterate 2 refine GoR.op rfl rfl rfl rfl ?_
    refine GoR.op rfl rfl (fa27_1 rfl) rfl ?_
    refine GoR.op rfl rfl (ld23 rfl f61 rfl) rfl ?_
    refine GoR.op rfl rfl (aOp_lenSlice Try.underlying23 rfl hl2) rfl ?_
    refine GoR.call rfl rfl (aOp_callFunc aFunc57 rfl) (in57_ok F.rs.length 1 6 r2 _) ?_ (by rintro _ _ ⟨q, _⟩; cases q)
    rintro v63 h63 ⟨q, x63⟩
    cases q
    refine ⟨_, rfl, ?_⟩
    replace f61 := f61.ext x63
    replace e0 := e0.trans x63
    iterate 3 refine GoR.op rfl rfl rfl rfl ?_
    refine GoR.op rfl rfl (fa27_3 rfl) rfl ?_
    refine GoR.op rfl rfl (ld3 rfl f61 rfl) rfl ?_
    refine GoR.call rfl rfl (aOp_callFunc aFunc57 rfl) (in57_ok F.lim 0 100 r3 _) ?_ (by rintro _ _ ⟨q, _⟩; cases q)
    rintro v64 h64 ⟨q, x64⟩
    cases q
    refine ⟨_, rfl, ?_⟩
    replace f61 := f61.ext x64
    replace e0 := e0.trans x64
    iterate 3 refine GoR.op rfl rfl rfl rfl ?_
    refine GoR.op rfl rfl (fa27_4 rfl) rfl ?_
    refine GoR.op rfl rfl (ld25 rfl f61 rfl) rfl ?_
    refine GoR.op rfl rfl (aOp_lenSlice Try.underlying25 rfl hl3) rfl ?_
    refine GoR.op rfl rfl (aOp_gtr rfl rfl (r := false) (decide_eq_false (by omega))) rfl ?_
    refine GoR.op rfl rfl rfl rfl ?_
    refine GoR.end ?_
    refine Go.cond noJ_ok (b := false) rfl ?_
    refine Go.code noJ_ok ?_
    iterate 2 refine Go.seq noJ_ok ?_
    refine Go.region noJ_ok rfl ?_
    refine GoR.op rfl rfl rfl rfl ?_
    refine GoR.end ?_
    refine Go.block noJ_ok ?_
    simp only [decide_eq_true_eq] at r1 r2 r3
    refine Go.loopKeep (fun i : Nat => [(1, .ptr h.next 0), (3, .int .i64 (i : Nat))]) (fun m i h' => m + i = F.hs.length ∧ Ext h h' ∧ Has h' h.next (.cells .plain [hsl, rsl, .int .i64 F.a, .int .i64 F.b, .int .i64 F.c, .int .i64 F.lim, lsl] 27) ∧ ∀ x, x ∈ F.hs.take i → HOk x) (n := F.hs.length) 0 ⟨rfl, rfl, trivial⟩ ⟨rfl, e0, by assumption, (by simp)⟩ ?_
    clear e0
    rintro m i h4 ⟨hm, e0, f0, hin⟩ again
    by_cases hi : i < F.hs.length
    · obtain ⟨x, hx⟩ : ∃ x, F.hs[i]? = some x := ⟨F.hs[i], by simp [hi]⟩
      obtain ⟨bq, off, q1, q2⟩ := (A.hs.ext e0).at (i := i) (l := HTurf.cells x) (by rw [List.getElem?_map, hx]; rfl)
      rw [List.length_map] at q1
      have hstep := take_all (P := HOk) hx hin
      obtain ⟨xp, xlo, xhi⟩ := x
      unfold HTurf.cells at q2
      dsimp only at q2
      unfold HOk at hstep
      dsimp only at hstep
      cases s1 : decide (0 ≤ xp ∧ xp ≤ 2) with
      | false =>
        iterate 2 refine Go.seq noJ_ok ?_
        refine Go.region noJ_ok rfl ?_
        refine GoR.op rfl rfl rfl rfl ?_
        refine GoR.op rfl rfl (fa27_0 rfl) rfl ?_
        refine GoR.op rfl rfl (ld22 rfl f0 rfl) rfl ?_
        refine GoR.op rfl rfl (aOp_lenSlice Try.underlying22 rfl hl1) rfl ?_
        refine GoR.op rfl rfl (aOp_lss rfl rfl (r := true) (decide_eq_true (by omega))) rfl ?_
        refine GoR.end ?_
        refine Go.cond noJ_ok (b := true) rfl ?_
        refine Go.code noJ_ok ?_
        refine Go.seq noJ_ok ?_
        refine Go.block noJ_ok ?_
        refine Go.seq noJ_ok ?_
        refine Go.region noJ_ok rfl ?_
        refine GoR.op rfl rfl (fa27_0 rfl) rfl ?_
        refine GoR.op rfl rfl (ld22 rfl f0 rfl) rfl ?_
        refine GoR.op rfl rfl rfl rfl ?_
        refine GoR.op rfl rfl (aOp_indexAddr Try.underlying22 sz63 rfl q1 rfl (Nat.ble_eq_true_of_le hi)) rfl ?_
        refine GoR.op rfl rfl (fa63_0 rfl) rfl ?_
        refine GoR.op rfl rfl (aOp_loadE1 (k := 0) ag3 rfl q2 rfl) rfl ?_
        refine GoR.call rfl rfl (aOp_callFunc aFunc57 rfl) (in57_ok xp 0 2 s1 _) ?_ (by rintro _ _ ⟨q, _⟩; cases q)
        rintro v65 h65 ⟨q, x65⟩
        cases q
        refine ⟨_, rfl, ?_⟩
        replace f0 := f0.ext x65
        replace e0 := e0.trans x65
        iterate 2 refine GoR.op rfl rfl rfl rfl ?_
        iterate 8 refine GoR.skip rfl rfl rfl ?_
        refine GoR.op rfl rfl rfl rfl ?_
        refine GoR.end ?_
        refine Go.cond noJ_ok (b := true) rfl ?_
        refine Go.seq noJ_ok ?_
        refine Go.region noJ_ok rfl ?_
        refine GoR.op rfl rfl rfl rfl ?_
        refine GoR.end ?_
        exact Go.ret noJ_ok (ret_end (aResult_of Try.func23 rfl rfl) ⟨false, rfl, (no_iff fun O => by have k := O.h _ (List.mem_of_getElem? hx); have q := of_decide_eq_false s1; dsimp only at k; omega), e0⟩)
      | true =>
      have q3 : ∀ h', Ext h4 h' → Go.AbsE.loadCells h' bq (off + i * 3 + 1) 2 = some [AVal.int .i64 xlo, .int .i64 xhi] := fun h' e => loadCells_part (k := 1) (m := 2) (q2.ext e).2 (by decide)
      have e9 : Ext h4 h4 := Ext.refl _
      cases s2 : decide (0 ≤ xlo ∧ xlo ≤ xhi ∧ xhi ≤ 100 ∧ xhi - xlo ≤ 5) with
      | false =>
        iterate 2 refine Go.seq noJ_ok ?_
        refine Go.region noJ_ok rfl ?_
        refine GoR.op rfl rfl rfl rfl ?_
        refine GoR.op rfl rfl (fa27_0 rfl) rfl ?_
        refine GoR.op rfl rfl (ld22 rfl f0 rfl) rfl ?_
        refine GoR.op rfl rfl (aOp_lenSlice Try.underlying22 rfl hl1) rfl ?_
        refine GoR.op rfl rfl (aOp_lss rfl rfl (r := true) (decide_eq_true (by omega))) rfl ?_
        refine GoR.end ?_
        refine Go.cond noJ_ok (b := true) rfl ?_
        refine Go.code noJ_ok ?_
        refine Go.seq noJ_ok ?_
        refine Go.block noJ_ok ?_
        refine Go.seq noJ_ok ?_
        refine Go.region noJ_ok rfl ?_
        refine GoR.op rfl rfl (fa27_0 rfl) rfl ?_
        refine GoR.op rfl rfl (ld22 rfl f0 rfl) rfl ?_
        refine GoR.op rfl rfl rfl rfl ?_
        refine GoR.op rfl rfl (aOp_indexAddr Try.underlying22 sz63 rfl q1 rfl (Nat.ble_eq_true_of_le hi)) rfl ?_
        refine GoR.op rfl rfl (fa63_0 rfl) rfl ?_
        refine GoR.op rfl rfl (aOp_loadE1 (k := 0) ag3 rfl (q2.ext e9) rfl) rfl ?_
        refine GoR.call rfl rfl (aOp_callFunc aFunc57 rfl) (in57_ok xp 0 2 s1 _) ?_ (by rintro _ _ ⟨q, _⟩; cases q)
        rintro v65 h65 ⟨q, x65⟩
        cases q
        refine ⟨_, rfl, ?_⟩
        replace f0 := f0.ext x65
        replace e0 := e0.trans x65
        replace e9 := e9.trans x65
        iterate 2 refine GoR.op rfl rfl rfl rfl ?_
        refine GoR.op rfl rfl (fa27_0 rfl) rfl ?_
        refine GoR.op rfl rfl (ld22 rfl f0 rfl) rfl ?_
        refine GoR.op rfl rfl rfl rfl ?_
        refine GoR.op rfl rfl (aOp_indexAddr Try.underlying22 sz63 rfl q1 rfl (Nat.ble_eq_true_of_le hi)) rfl ?_
        refine GoR.op rfl rfl (fa63_1 rfl) rfl ?_
        refine GoR.op rfl rfl (aOp_loadE ag30 sz30 rfl ⟨Nat.lt_of_lt_of_le q2.1 e9.1, q3 _ e9⟩) rfl ?_
        refine GoR.call rfl rfl (aOp_callFunc aFunc58 rfl) (span58_ok xlo xhi 100 5 s2 (by decide) _) ?_ (by rintro _ _ ⟨q, _⟩; cases q)
        rintro v66 h66 ⟨q, x66⟩
        cases q
        refine ⟨_, rfl, ?_⟩
        replace f0 := f0.ext x66
        replace e0 := e0.trans x66
        replace e9 := e9.trans x66
        iterate 2 refine GoR.op rfl rfl rfl rfl ?_
        refine GoR.end ?_
        refine Go.cond noJ_ok (b := true) rfl ?_
        refine Go.seq noJ_ok ?_
        refine Go.region noJ_ok rfl ?_
        refine GoR.op rfl rfl rfl rfl ?_
        refine GoR.end ?_
        exact Go.ret noJ_ok (ret_end (aResult_of Try.func23 rfl rfl) ⟨false, rfl, (no_iff fun O => by have k := O.h _ (List.mem_of_getElem? hx); have q := of_decide_eq_false s2; dsimp only at k; omega), e0⟩)
      | true =>
        iterate 2 refine Go.seq noJ_ok ?_
        refine Go.region noJ_ok rfl ?_
        refine GoR.op rfl rfl rfl rfl ?_
        refine GoR.op rfl rfl (fa27_0 rfl) rfl ?_
        refine GoR.op rfl rfl (ld22 rfl f0 rfl) rfl ?_
        refine GoR.op rfl rfl (aOp_lenSlice Try.underlying22 rfl hl1) rfl ?_
        refine GoR.op rfl rfl (aOp_lss rfl rfl (r := true) (decide_eq_true (by omega))) rfl ?_
        refine GoR.end ?_
        refine Go.cond noJ_ok (b := true) rfl ?_
        refine Go.code noJ_ok ?_
        refine Go.seq noJ_ok ?_
        refine Go.block noJ_ok ?_
        refine Go.seq noJ_ok ?_
        refine Go.region noJ_ok rfl ?_
        refine GoR.op rfl rfl (fa27_0 rfl) rfl ?_
        refine GoR.op rfl rfl (ld22 rfl f0 rfl) rfl ?_
        refine GoR.op rfl rfl rfl rfl ?_
        refine GoR.op rfl rfl (aOp_indexAddr Try.underlying22 sz63 rfl q1 rfl (Nat.ble_eq_true_of_le hi)) rfl ?_
        refine GoR.op rfl rfl (fa63_0 rfl) rfl ?_
        refine GoR.op rfl rfl (aOp_loadE1 (k := 0) ag3 rfl (q2.ext e9) rfl) rfl ?_
        refine GoR.call rfl rfl (aOp_callFunc aFunc57 rfl) (in57_ok xp 0 2 s1 _) ?_ (by rintro _ _ ⟨q, _⟩; cases q)
        rintro v65 h65 ⟨q, x65⟩
        cases q
        refine ⟨_, rfl, ?_⟩
        replace f0 := f0.ext x65
        replace e0 := e0.trans x65
        replace e9 := e9.trans x65
        iterate 2 refine GoR.op rfl rfl rfl rfl ?_
        refine GoR.op rfl rfl (fa27_0 rfl) rfl ?_
        refine GoR.op rfl rfl (ld22 rfl f0 rfl) rfl ?_
        refine GoR.op rfl rfl rfl rfl ?_
        refine GoR.op rfl rfl (aOp_indexAddr Try.underlying22 sz63 rfl q1 rfl (Nat.ble_eq_true_of_le hi)) rfl ?_
        refine GoR.op rfl rfl (fa63_1 rfl) rfl ?_
        refine GoR.op rfl rfl (aOp_loadE ag30 sz30 rfl ⟨Nat.lt_of_lt_of_le q2.1 e9.1, q3 _ e9⟩) rfl ?_
        refine GoR.call rfl rfl (aOp_callFunc aFunc58 rfl) (span58_ok xlo xhi 100 5 s2 (by decide) _) ?_ (by rintro _ _ ⟨q, _⟩; cases q)
        rintro v66 h66 ⟨q, x66⟩
        cases q
        refine ⟨_, rfl, ?_⟩
        replace f0 := f0.ext x66
        replace e0 := e0.trans x66
        replace e9 := e9.trans x66
        iterate 2 refine GoR.op rfl rfl rfl rfl ?_
        refine GoR.end ?_
        refine Go.cond noJ_ok (b := false) rfl ?_
        refine Go.code noJ_ok ?_
        refine Go.inBlock noJ_ok ?_
        refine Go.region noJ_ok rfl ?_
        refine GoR.op rfl rfl rfl rfl ?_
        refine GoR.op rfl rfl (aOp_add rfl rfl (by constructor <;> omega) rfl) rfl ?_
        refine GoR.op rfl rfl rfl rfl ?_
        refine GoR.end ?_
        simp only [decide_eq_true_eq] at s1 s2
        exact again (m - 1) (i + 1) _ _ (by omega) ⟨rfl, rfl, trivial⟩ ⟨by omega, e0, f0, hstep ⟨s1.1, s1.2, s2.1, s2.2.1, s2.2.2.1, s2.2.2.2⟩⟩
    have hH : ∀ x, x ∈ F.hs → HOk x := by
      rw [List.take_of_length_le (by omega)] at hin
      exact hin
    clear again hin
    iterate 2 refine Go.seq noJ_ok ?_
    refine Go.region noJ_ok rfl ?_
    refine GoR.op rfl rfl rfl rfl ?_
    refine GoR.op rfl rfl (fa27_0 rfl) rfl ?_
    refine GoR.op rfl rfl (ld22 rfl f0 rfl) rfl ?_
    refine GoR.op rfl rfl (aOp_lenSlice Try.underlying22 rfl hl1) rfl ?_
    refine GoR.op rfl rfl (aOp_lss rfl rfl (r := false) (decide_eq_false (by omega))) rfl ?_
    refine GoR.end ?_
    refine Go.cond noJ_ok (b := false) rfl ?_
    refine Go.code noJ_ok ?_
    iterate 2 refine Go.seq noJ_ok ?_
    refine Go.region noJ_ok rfl ?_
    refine GoR.op rfl rfl rfl rfl ?_
    refine GoR.end ?_
    refine Go.block noJ_ok ?_
    refine Go.loopKeep (fun i : Nat => [(1, .ptr h.next 0), (4, .int .i64 (i : Nat))]) (fun m i h' => m + i = F.rs.length ∧ Ext h h' ∧ Has h' h.next (.cells .plain [hsl, rsl, .int .i64 F.a, .int .i64 F.b, .int .i64 F.c, .int .i64 F.lim, lsl] 27) ∧ ∀ x, x ∈ F.rs.take i → ROk x) (n := F.rs.length) 0 ⟨rfl, rfl, trivial⟩ ⟨rfl, e0, by assumption, (by simp)⟩ ?_
    clear e0 f0
    rintro m i h4 ⟨hm, e0, f0, hin⟩ again
    by_cases hi : i < F.rs.length
    · obtain ⟨x, hx⟩ : ∃ x, F.rs[i]? = some x := ⟨F.rs[i], by simp [hi]⟩
      obtain ⟨bq, off, q1, q2⟩ := (A.rs.ext e0).at (i := i) (l := spC x) (by rw [List.getElem?_map, hx]; rfl)
      rw [List.length_map] at q1
      have hstep := take_all (P := ROk) hx hin
      obtain ⟨xlo, xhi⟩ := x
      unfold spC at q2
      dsimp only at q2
      unfold ROk at hstep
      dsimp only at hstep
      cases s2 : decide (0 ≤ xlo ∧ xlo ≤ xhi ∧ xhi ≤ 10 ∧ xhi - xlo ≤ 3) with
      | false =>
        iterate 2 refine Go.seq noJ_ok ?_
        refine Go.region noJ_ok rfl ?_
        refine GoR.op rfl rfl rfl rfl ?_
        refine GoR.op rfl rfl (fa27_1 rfl) rfl ?_
        refine GoR.op rfl rfl (ld23 rfl f0 rfl) rfl ?_
        refine GoR.op rfl rfl (aOp_lenSlice Try.underlying23 rfl hl2) rfl ?_
        refine GoR.op rfl rfl (aOp_lss rfl rfl (r := true) (decide_eq_true (by omega))) rfl ?_
        refine GoR.end ?_
        refine Go.cond noJ_ok (b := true) rfl ?_
        refine Go.code noJ_ok ?_
        refine Go.seq noJ_ok ?_
        refine Go.block noJ_ok ?_
        refine Go.seq noJ_ok ?_
        refine Go.region noJ_ok rfl ?_
        refine GoR.op rfl rfl (fa27_1 rfl) rfl ?_
        refine GoR.op rfl rfl (ld23 rfl f0 rfl) rfl ?_
        refine GoR.op rfl rfl rfl rfl ?_
        refine GoR.op rfl rfl (aOp_indexAddr Try.underlying23 sz30 rfl q1 rfl (Nat.ble_eq_true_of_le hi)) rfl ?_
        refine GoR.op rfl rfl (aOp_loadE ag30 sz30 rfl q2) rfl ?_
        refine GoR.call rfl rfl (aOp_callFunc aFunc58 rfl) (span58_ok xlo xhi 10 3 s2 (by decide) _) ?_ (by rintro _ _ ⟨q, _⟩; cases q)
        rintro v65 h65 ⟨q, x65⟩
        cases q
        refine ⟨_, rfl, ?_⟩
        replace f0 := f0.ext x65
        replace e0 := e0.trans x65
        refine GoR.op rfl rfl rfl rfl ?_
        refine GoR.end ?_
        refine Go.cond noJ_ok (b := true) rfl ?_
        refine Go.seq noJ_ok ?_
        refine Go.region noJ_ok rfl ?_
        refine GoR.op rfl rfl rfl rfl ?_
        refine GoR.end ?_
        exact Go.ret noJ_ok (ret_end (aResult_of Try.func23 rfl rfl) ⟨false, rfl, (no_iff fun O => by have k := O.r _ (List.mem_of_getElem? hx); have q := of_decide_eq_false s2; dsimp only at k; omega), e0⟩)
      | true =>
        iterate 2 refine Go.seq noJ_ok ?_
        refine Go.region noJ_ok rfl ?_
        refine GoR.op rfl rfl rfl rfl ?_
        refine GoR.op rfl rfl (fa27_1 rfl) rfl ?_
        refine GoR.op rfl rfl (ld23 rfl f0 rfl) rfl ?_
        refine GoR.op rfl rfl (aOp_lenSlice Try.underlying23 rfl hl2) rfl ?_
        refine GoR.op rfl rfl (aOp_lss rfl rfl (r := true) (decide_eq_true (by omega))) rfl ?_
        refine GoR.end ?_
        refine Go.cond noJ_ok (b := true) rfl ?_
        refine Go.code noJ_ok ?_
        refine Go.seq noJ_ok ?_
        refine Go.block noJ_ok ?_
        refine Go.seq noJ_ok ?_
        refine Go.region noJ_ok rfl ?_
        refine GoR.op rfl rfl (fa27_1 rfl) rfl ?_
        refine GoR.op rfl rfl (ld23 rfl f0 rfl) rfl ?_
        refine GoR.op rfl rfl rfl rfl ?_
        refine GoR.op rfl rfl (aOp_indexAddr Try.underlying23 sz30 rfl q1 rfl (Nat.ble_eq_true_of_le hi)) rfl ?_
        refine GoR.op rfl rfl (aOp_loadE ag30 sz30 rfl q2) rfl ?_
        refine GoR.call rfl rfl (aOp_callFunc aFunc58 rfl) (span58_ok xlo xhi 10 3 s2 (by decide) _) ?_ (by rintro _ _ ⟨q, _⟩; cases q)
        rintro v65 h65 ⟨q, x65⟩
        cases q
        refine ⟨_, rfl, ?_⟩
        replace f0 := f0.ext x65
        replace e0 := e0.trans x65
        refine GoR.op rfl rfl rfl rfl ?_
        refine GoR.end ?_
        refine Go.cond noJ_ok (b := false) rfl ?_
        refine Go.code noJ_ok ?_
        refine Go.inBlock noJ_ok ?_
        refine Go.region noJ_ok rfl ?_
        refine GoR.op rfl rfl rfl rfl ?_
        refine GoR.op rfl rfl (aOp_add rfl rfl (by constructor <;> omega) rfl) rfl ?_
        refine GoR.op rfl rfl rfl rfl ?_
        refine GoR.end ?_
        simp only [decide_eq_true_eq] at s2
        exact again (m - 1) (i + 1) _ _ (by omega) ⟨rfl, rfl, trivial⟩ ⟨by omega, e0, f0, hstep s2⟩
    have hRr : ∀ x, x ∈ F.rs → ROk x := by
      rw [List.take_of_length_le (by omega)] at hin
      exact hin
    clear again hin
    iterate 2 refine Go.seq noJ_ok ?_
    refine Go.region noJ_ok rfl ?_
    refine GoR.op rfl rfl rfl rfl ?_
    refine GoR.op rfl rfl (fa27_1 rfl) rfl ?_
    refine GoR.op rfl rfl (ld23 rfl f0 rfl) rfl ?_
    refine GoR.op rfl rfl (aOp_lenSlice Try.underlying23 rfl hl2) rfl ?_
    refine GoR.op rfl rfl (aOp_lss rfl rfl (r := false) (decide_eq_false (by omega))) rfl ?_
    refine GoR.end ?_
    refine Go.cond noJ_ok (b := false) rfl ?_
    refine Go.code noJ_ok ?_
    iterate 2 refine Go.seq noJ_ok ?_
    refine Go.region noJ_ok rfl ?_
    refine GoR.op rfl rfl rfl rfl ?_
    refine GoR.end ?_
    refine Go.block noJ_ok ?_
    refine Go.loopKeep (fun i : Nat => [(1, .ptr h.next 0), (5, .int .i64 (i : Nat))]) (fun m i h' => m + i = 3 ∧ Ext h h' ∧ Has h' h.next (.cells .plain [hsl, rsl, .int .i64 F.a, .int .i64 F.b, .int .i64 F.c, .int .i64 F.lim, lsl] 27) ∧ (1 ≤ i → 0 ≤ F.a ∧ F.a ≤ 20) ∧ (2 ≤ i → 0 ≤ F.b ∧ F.b ≤ 20 ∧ F.a ≤ F.b) ∧ (3 ≤ i → 0 ≤ F.c ∧ F.c ≤ 20 ∧ F.b ≤ F.c)) (n := 3) 0 ⟨rfl, rfl, trivial⟩ ⟨rfl, e0, by assumption, ⟨fun q => by omega, fun q => by omega, fun q => by omega⟩⟩ ?_
    clear e0 f0
    rintro m i h4 ⟨hm, e0, f0, d1, d2, d3⟩ again
    match i, hm, d1, d2, d3 with
    | 0, hm, d1, d2, d3 =>
      cases s1 : decide (0 ≤ F.a ∧ F.a ≤ 20) with
      | false =>
        iterate 2 refine Go.seq noJ_ok ?_
        refine Go.region noJ_ok rfl ?_
        refine GoR.op rfl rfl rfl rfl ?_
        refine GoR.op rfl rfl (aOp_lss rfl rfl (r := true) (decide_eq_true (by omega))) rfl ?_
        refine GoR.end ?_
        refine Go.cond noJ_ok (b := true) rfl ?_
        refine Go.code noJ_ok ?_
        refine Go.seq noJ_ok ?_
        refine Go.block noJ_ok ?_
        refine Go.seq noJ_ok ?_
        refine Go.drawnE plan23_0 ?_
        refine GoE.quiet rfl rfl rfl rfl ?_
        refine GoE.quiet rfl rfl (fa27_2 rfl) rfl ?_
        refine GoE.quiet rfl rfl (aOp_indexAddrArr (i := 0) Try.underlying24 sz3 rfl rfl rfl) rfl ?_
        refine GoE.quiet rfl rfl (ld3 rfl f0 rfl) rfl ?_
        refine GoE.call rfl rfl (aOp_callFunc aFunc57 rfl) (in57_ok F.a 0 20 s1 _) (dropF_drop (show bit? 15 3 = true from rfl) (dropF_drop (show bit? 15 2 = true from rfl) (dropF_drop (show bit? 15 1 = true from rfl) (dropF_drop (show bit? 15 0 = true from rfl) rfl)))) ?_ (by rintro _ _ ⟨q, _⟩; cases q)
        rintro v65 h65 ⟨q, x65⟩
        cases q
        replace f0 := f0.ext x65
        replace e0 := e0.trans x65
        refine ⟨recheck_nil, _, rfl, ?_⟩
        iterate 2 refine GoE.quiet rfl rfl rfl rfl ?_
        iterate 14 refine GoE.skip rfl rfl rfl ?_
        refine GoE.quiet rfl rfl rfl rfl ?_
        refine GoE.end rfl ?_
        refine Go.cond noJ_ok (b := true) rfl ?_
        refine Go.seq noJ_ok ?_
        refine Go.region noJ_ok rfl ?_
        refine GoR.op rfl rfl rfl rfl ?_
        refine GoR.end ?_
        exact Go.ret noJ_ok (ret_end (aResult_of Try.func23 rfl rfl) ⟨false, rfl, (no_iff fun O => by have k := O.d; have q := of_decide_eq_false s1; omega), e0⟩)
      | true =>
        iterate 2 refine Go.seq noJ_ok ?_
        refine Go.region noJ_ok rfl ?_
        refine GoR.op rfl rfl rfl rfl ?_
        refine GoR.op rfl rfl (aOp_lss rfl rfl (r := true) (decide_eq_true (by omega))) rfl ?_
        refine GoR.end ?_
        refine Go.cond noJ_ok (b := true) rfl ?_
        refine Go.code noJ_ok ?_
        refine Go.seq noJ_ok ?_
        refine Go.block noJ_ok ?_
        refine Go.seq noJ_ok ?_
        refine Go.drawnE plan23_0 ?_
        refine GoE.quiet rfl rfl rfl rfl ?_
        refine GoE.quiet rfl rfl (fa27_2 rfl) rfl ?_
        refine GoE.quiet rfl rfl (aOp_indexAddrArr (i := 0) Try.underlying24 sz3 rfl rfl rfl) rfl ?_
        refine GoE.quiet rfl rfl (ld3 rfl f0 rfl) rfl ?_
        refine GoE.call rfl rfl (aOp_callFunc aFunc57 rfl) (in57_ok F.a 0 20 s1 _) (dropF_drop (show bit? 15 3 = true from rfl) (dropF_drop (show bit? 15 2 = true from rfl) (dropF_drop (show bit? 15 1 = true from rfl) (dropF_drop (show bit? 15 0 = true from rfl) rfl)))) ?_ (by rintro _ _ ⟨q, _⟩; cases q)
        rintro v65 h65 ⟨q, x65⟩
        cases q
        replace f0 := f0.ext x65
        replace e0 := e0.trans x65
        refine ⟨recheck_nil, _, rfl, ?_⟩
        iterate 3 refine GoE.quiet rfl rfl rfl rfl ?_
        refine GoE.quiet rfl rfl (aOp_gtr rfl rfl (r := false) (decide_eq_false (by omega))) rfl ?_
        refine GoE.quiet rfl rfl rfl rfl ?_
        iterate 10 refine GoE.skip rfl rfl rfl ?_
        iterate 2 refine GoE.quiet rfl rfl rfl rfl ?_
        refine GoE.end rfl ?_
        refine Go.cond noJ_ok (b := false) rfl ?_
        refine Go.code noJ_ok ?_
        refine Go.inBlock noJ_ok ?_
        refine Go.region noJ_ok rfl ?_
        refine GoR.op rfl rfl rfl rfl ?_
        refine GoR.op rfl rfl (aOp_add rfl rfl (by constructor <;> omega) rfl) rfl ?_
        refine GoR.op rfl rfl rfl rfl ?_
        refine GoR.end ?_
        simp only [decide_eq_true_eq] at s1
        exact again 2 1 _ _ (by omega) ⟨rfl, rfl, trivial⟩ ⟨rfl, e0, f0, fun _ => s1, fun q => by omega, fun q => by omega⟩
    | 1, hm, d1, d2, d3 =>
      cases s1 : decide (0 ≤ F.b ∧ F.b ≤ 20) with
      | false =>
        iterate 2 refine Go.seq noJ_ok ?_
        refine Go.region noJ_ok rfl ?_
        refine GoR.op rfl rfl rfl rfl ?_
        refine GoR.op rfl rfl (aOp_lss rfl rfl (r := true) (decide_eq_true (by omega))) rfl ?_
        refine GoR.end ?_
        refine Go.cond noJ_ok (b := true) rfl ?_
        refine Go.code noJ_ok ?_
        refine Go.seq noJ_ok ?_
        refine Go.block noJ_ok ?_
        refine Go.seq noJ_ok ?_
        refine Go.drawnE plan23_0 ?_
        refine GoE.quiet rfl rfl rfl rfl ?_
        refine GoE.quiet rfl rfl (fa27_2 rfl) rfl ?_
        refine GoE.quiet rfl rfl (aOp_indexAddrArr (i := 1) Try.underlying24 sz3 rfl rfl rfl) rfl ?_
        refine GoE.quiet rfl rfl (ld3 rfl f0 rfl) rfl ?_
        refine GoE.call rfl rfl (aOp_callFunc aFunc57 rfl) (in57_ok F.b 0 20 s1 _) (dropF_drop (show bit? 15 3 = true from rfl) (dropF_drop (show bit? 15 2 = true from rfl) (dropF_drop (show bit? 15 1 = true from rfl) (dropF_drop (show bit? 15 0 = true from rfl) rfl)))) ?_ (by rintro _ _ ⟨q, _⟩; cases q)
        rintro v65 h65 ⟨q, x65⟩
        cases q
        replace f0 := f0.ext x65
        replace e0 := e0.trans x65
        refine ⟨recheck_nil, _, rfl, ?_⟩
        iterate 2 refine GoE.quiet rfl rfl rfl rfl ?_
        iterate 14 refine GoE.skip rfl rfl rfl ?_
        refine GoE.quiet rfl rfl rfl rfl ?_
        refine GoE.end rfl ?_
        refine Go.cond noJ_ok (b := true) rfl ?_
        refine Go.seq noJ_ok ?_
        refine Go.region noJ_ok rfl ?_
        refine GoR.op rfl rfl rfl rfl ?_
        refine GoR.end ?_
        exact Go.ret noJ_ok (ret_end (aResult_of Try.func23 rfl rfl) ⟨false, rfl, (no_iff fun O => by have k := O.d; have q := of_decide_eq_false s1; omega), e0⟩)
      | true =>
      by_cases s2 : F.b < F.a
      · iterate 2 refine Go.seq noJ_ok ?_
        refine Go.region noJ_ok rfl ?_
        refine GoR.op rfl rfl rfl rfl ?_
        refine GoR.op rfl rfl (aOp_lss rfl rfl (r := true) (decide_eq_true (by omega))) rfl ?_
        refine GoR.end ?_
        refine Go.cond noJ_ok (b := true) rfl ?_
        refine Go.code noJ_ok ?_
        refine Go.seq noJ_ok ?_
        refine Go.block noJ_ok ?_
        refine Go.seq noJ_ok ?_
        refine Go.drawnE plan23_0 ?_
        refine GoE.quiet rfl rfl rfl rfl ?_
        refine GoE.quiet rfl rfl (fa27_2 rfl) rfl ?_
        refine GoE.quiet rfl rfl (aOp_indexAddrArr (i := 1) Try.underlying24 sz3 rfl rfl rfl) rfl ?_
        refine GoE.quiet rfl rfl (ld3 rfl f0 rfl) rfl ?_
        refine GoE.call rfl rfl (aOp_callFunc aFunc57 rfl) (in57_ok F.b 0 20 s1 _) (dropF_drop (show bit? 15 3 = true from rfl) (dropF_drop (show bit? 15 2 = true from rfl) (dropF_drop (show bit? 15 1 = true from rfl) (dropF_drop (show bit? 15 0 = true from rfl) rfl)))) ?_ (by rintro _ _ ⟨q, _⟩; cases q)
        rintro v65 h65 ⟨q, x65⟩
        cases q
        replace f0 := f0.ext x65
        replace e0 := e0.trans x65
        refine ⟨recheck_nil, _, rfl, ?_⟩
        iterate 3 refine GoE.quiet rfl rfl rfl rfl ?_
        refine GoE.quiet rfl rfl (aOp_gtr rfl rfl (r := true) (decide_eq_true (by omega))) rfl ?_
        iterate 2 refine GoE.quiet rfl rfl rfl rfl ?_
        refine GoE.quiet rfl rfl (fa27_2 rfl) rfl ?_
        refine GoE.quiet rfl rfl (aOp_indexAddrArr (i := 1) Try.underlying24 sz3 rfl rfl rfl) rfl ?_
        refine GoE.quiet rfl rfl (ld3 rfl f0 rfl) rfl ?_
        refine GoE.quiet rfl rfl rfl rfl ?_
        refine GoE.quiet rfl rfl (aOp_sub rfl rfl (by constructor <;> omega) rfl) rfl ?_
        refine GoE.quiet rfl rfl (fa27_2 rfl) rfl ?_
        refine GoE.quiet rfl rfl (aOp_indexAddrArr (i := 0) Try.underlying24 sz3 rfl rfl rfl) rfl ?_
        refine GoE.quiet rfl rfl (ld3 rfl f0 rfl) rfl ?_
        refine GoE.quiet rfl rfl (aOp_lss rfl rfl (r := true) (decide_eq_true (by omega))) rfl ?_
        iterate 2 refine GoE.quiet rfl rfl rfl rfl ?_
        refine GoE.end rfl ?_
        refine Go.cond noJ_ok (b := true) rfl ?_
        refine Go.seq noJ_ok ?_
        refine Go.region noJ_ok rfl ?_
        refine GoR.op rfl rfl rfl rfl ?_
        refine GoR.end ?_
        exact Go.ret noJ_ok (ret_end (aResult_of Try.func23 rfl rfl) ⟨false, rfl, (no_iff fun O => by have k := O.d; omega), e0⟩)
      · iterate 2 refine Go.seq noJ_ok ?_
        refine Go.region noJ_ok rfl ?_
        refine GoR.op rfl rfl rfl rfl ?_
        refine GoR.op rfl rfl (aOp_lss rfl rfl (r := true) (decide_eq_true (by omega))) rfl ?_
        refine GoR.end ?_
        refine Go.cond noJ_ok (b := true) rfl ?_
        refine Go.code noJ_ok ?_
        refine Go.seq noJ_ok ?_
        refine Go.block noJ_ok ?_
        refine Go.seq noJ_ok ?_
        refine Go.drawnE plan23_0 ?_
        refine GoE.quiet rfl rfl rfl rfl ?_
        refine GoE.quiet rfl rfl (fa27_2 rfl) rfl ?_
        refine GoE.quiet rfl rfl (aOp_indexAddrArr (i := 1) Try.underlying24 sz3 rfl rfl rfl) rfl ?_
        refine GoE.quiet rfl rfl (ld3 rfl f0 rfl) rfl ?_
        refine GoE.call rfl rfl (aOp_callFunc aFunc57 rfl) (in57_ok F.b 0 20 s1 _) (dropF_drop (show bit? 15 3 = true from rfl) (dropF_drop (show bit? 15 2 = true from rfl) (dropF_drop (show bit? 15 1 = true from rfl) (dropF_drop (show bit? 15 0 = true from rfl) rfl)))) ?_ (by rintro _ _ ⟨q, _⟩; cases q)
        rintro v65 h65 ⟨q, x65⟩
        cases q
        replace f0 := f0.ext x65
        replace e0 := e0.trans x65
        refine ⟨recheck_nil, _, rfl, ?_⟩
        iterate 3 refine GoE.quiet rfl rfl rfl rfl ?_
        refine GoE.quiet rfl rfl (aOp_gtr rfl rfl (r := true) (decide_eq_true (by omega))) rfl ?_
        iterate 2 refine GoE.quiet rfl rfl rfl rfl ?_
        refine GoE.quiet rfl rfl (fa27_2 rfl) rfl ?_
        refine GoE.quiet rfl rfl (aOp_indexAddrArr (i := 1) Try.underlying24 sz3 rfl rfl rfl) rfl ?_
        refine GoE.quiet rfl rfl (ld3 rfl f0 rfl) rfl ?_
        refine GoE.quiet rfl rfl rfl rfl ?_
        refine GoE.quiet rfl rfl (aOp_sub rfl rfl (by constructor <;> omega) rfl) rfl ?_
        refine GoE.quiet rfl rfl (fa27_2 rfl) rfl ?_
        refine GoE.quiet rfl rfl (aOp_indexAddrArr (i := 0) Try.underlying24 sz3 rfl rfl rfl) rfl ?_
        refine GoE.quiet rfl rfl (ld3 rfl f0 rfl) rfl ?_
        refine GoE.quiet rfl rfl (aOp_lss rfl rfl (r := false) (decide_eq_false (by omega))) rfl ?_
        iterate 2 refine GoE.quiet rfl rfl rfl rfl ?_
        refine GoE.end rfl ?_
        refine Go.cond noJ_ok (b := false) rfl ?_
        refine Go.code noJ_ok ?_
        refine Go.inBlock noJ_ok ?_
        refine Go.region noJ_ok rfl ?_
        refine GoR.op rfl rfl rfl rfl ?_
        refine GoR.op rfl rfl (aOp_add rfl rfl (by constructor <;> omega) rfl) rfl ?_
        refine GoR.op rfl rfl rfl rfl ?_
        refine GoR.end ?_
        simp only [decide_eq_true_eq] at s1
        exact again 1 2 _ _ (by omega) ⟨rfl, rfl, trivial⟩ ⟨rfl, e0, f0, fun _ => d1 (by omega), fun _ => ⟨s1.1, s1.2, by omega⟩, fun q => by omega⟩
    | 2, hm, d1, d2, d3 =>
      cases s1 : decide (0 ≤ F.c ∧ F.c ≤ 20) with
      | false =>
        iterate 2 refine Go.seq noJ_ok ?_
        refine Go.region noJ_ok rfl ?_
        refine GoR.op rfl rfl rfl rfl ?_
        refine GoR.op rfl rfl (aOp_lss rfl rfl (r := true) (decide_eq_true (by omega))) rfl ?_
        refine GoR.end ?_
        refine Go.cond noJ_ok (b := true) rfl ?_
        refine Go.code noJ_ok ?_
        refine Go.seq noJ_ok ?_
        refine Go.block noJ_ok ?_
        refine Go.seq noJ_ok ?_
        refine Go.drawnE plan23_0 ?_
        refine GoE.quiet rfl rfl rfl rfl ?_
        refine GoE.quiet rfl rfl (fa27_2 rfl) rfl ?_
        refine GoE.quiet rfl rfl (aOp_indexAddrArr (i := 2) Try.underlying24 sz3 rfl rfl rfl) rfl ?_
        refine GoE.quiet rfl rfl (ld3 rfl f0 rfl) rfl ?_
        refine GoE.call rfl rfl (aOp_callFunc aFunc57 rfl) (in57_ok F.c 0 20 s1 _) (dropF_drop (show bit? 15 3 = true from rfl) (dropF_drop (show bit? 15 2 = true from rfl) (dropF_drop (show bit? 15 1 = true from rfl) (dropF_drop (show bit? 15 0 = true from rfl) rfl)))) ?_ (by rintro _ _ ⟨q, _⟩; cases q)
        rintro v65 h65 ⟨q, x65⟩
        cases q
        replace f0 := f0.ext x65
        replace e0 := e0.trans x65
        refine ⟨recheck_nil, _, rfl, ?_⟩
        iterate 2 refine GoE.quiet rfl rfl rfl rfl ?_
        iterate 14 refine GoE.skip rfl rfl rfl ?_
        refine GoE.quiet rfl rfl rfl rfl ?_
        refine GoE.end rfl ?_
        refine Go.cond noJ_ok (b := true) rfl ?_
        refine Go.seq noJ_ok ?_
        refine Go.region noJ_ok rfl ?_
        refine GoR.op rfl rfl rfl rfl ?_
        refine GoR.end ?_
        exact Go.ret noJ_ok (ret_end (aResult_of Try.func23 rfl rfl) ⟨false, rfl, (no_iff fun O => by have k := O.d; have q := of_decide_eq_false s1; omega), e0⟩)
      | true =>
      by_cases s2 : F.c < F.b
      · iterate 2 refine Go.seq noJ_ok ?_
        refine Go.region noJ_ok rfl ?_
        refine GoR.op rfl rfl rfl rfl ?_
        refine GoR.op rfl rfl (aOp_lss rfl rfl (r := true) (decide_eq_true (by omega))) rfl ?_
        refine GoR.end ?_
        refine Go.cond noJ_ok (b := true) rfl ?_
        refine Go.code noJ_ok ?_
        refine Go.seq noJ_ok ?_
        refine Go.block noJ_ok ?_
        refine Go.seq noJ_ok ?_
        refine Go.drawnE plan23_0 ?_
        refine GoE.quiet rfl rfl rfl rfl ?_
        refine GoE.quiet rfl rfl (fa27_2 rfl) rfl ?_
        refine GoE.quiet rfl rfl (aOp_indexAddrArr (i := 2) Try.underlying24 sz3 rfl rfl rfl) rfl ?_
        refine GoE.quiet rfl rfl (ld3 rfl f0 rfl) rfl ?_
        refine GoE.call rfl rfl (aOp_callFunc aFunc57 rfl) (in57_ok F.c 0 20 s1 _) (dropF_drop (show bit? 15 3 = true from rfl) (dropF_drop (show bit? 15 2 = true from rfl) (dropF_drop (show bit? 15 1 = true from rfl) (dropF_drop (show bit? 15 0 = true from rfl) rfl)))) ?_ (by rintro _ _ ⟨q, _⟩; cases q)
        rintro v65 h65 ⟨q, x65⟩
        cases q
        replace f0 := f0.ext x65
        replace e0 := e0.trans x65
        refine ⟨recheck_nil, _, rfl, ?_⟩
        iterate 3 refine GoE.quiet rfl rfl rfl rfl ?_
        refine GoE.quiet rfl rfl (aOp_gtr rfl rfl (r := true) (decide_eq_true (by omega))) rfl ?_
        iterate 2 refine GoE.quiet rfl rfl rfl rfl ?_
        refine GoE.quiet rfl rfl (fa27_2 rfl) rfl ?_
        refine GoE.quiet rfl rfl (aOp_indexAddrArr (i := 2) Try.underlying24 sz3 rfl rfl rfl) rfl ?_
        refine GoE.quiet rfl rfl (ld3 rfl f0 rfl) rfl ?_
        refine GoE.quiet rfl rfl rfl rfl ?_
        refine GoE.quiet rfl rfl (aOp_sub rfl rfl (by constructor <;> omega) rfl) rfl ?_
        refine GoE.quiet rfl rfl (fa27_2 rfl) rfl ?_
        refine GoE.quiet rfl rfl (aOp_indexAddrArr (i := 1) Try.underlying24 sz3 rfl rfl rfl) rfl ?_
        refine GoE.quiet rfl rfl (ld3 rfl f0 rfl) rfl ?_
        refine GoE.quiet rfl rfl (aOp_lss rfl rfl (r := true) (decide_eq_true (by omega))) rfl ?_
        iterate 2 refine GoE.quiet rfl rfl rfl rfl ?_
        refine GoE.end rfl ?_
        refine Go.cond noJ_ok (b := true) rfl ?_
        refine Go.seq noJ_ok ?_
        refine Go.region noJ_ok rfl ?_
        refine GoR.op rfl rfl rfl rfl ?_
        refine GoR.end ?_
        exact Go.ret noJ_ok (ret_end (aResult_of Try.func23 rfl rfl) ⟨false, rfl, (no_iff fun O => by have k := O.d; omega), e0⟩)
      · iterate 2 refine Go.seq noJ_ok ?_
        refine Go.region noJ_ok rfl ?_
        refine GoR.op rfl rfl rfl rfl ?_
        refine GoR.op rfl rfl (aOp_lss rfl rfl (r := true) (decide_eq_true (by omega))) rfl ?_
        refine GoR.end ?_
        refine Go.cond noJ_ok (b := true) rfl ?_
        refine Go.code noJ_ok ?_
        refine Go.seq noJ_ok ?_
        refine Go.block noJ_ok ?_
        refine Go.seq noJ_ok ?_
        refine Go.drawnE plan23_0 ?_
        refine GoE.quiet rfl rfl rfl rfl ?_
        refine GoE.quiet rfl rfl (fa27_2 rfl) rfl ?_
        refine GoE.quiet rfl rfl (aOp_indexAddrArr (i := 2) Try.underlying24 sz3 rfl rfl rfl) rfl ?_
        refine GoE.quiet rfl rfl (ld3 rfl f0 rfl) rfl ?_
        refine GoE.call rfl rfl (aOp_callFunc aFunc57 rfl) (in57_ok F.c 0 20 s1 _) (dropF_drop (show bit? 15 3 = true from rfl) (dropF_drop (show bit? 15 2 = true from rfl) (dropF_drop (show bit? 15 1 = true from rfl) (dropF_drop (show bit? 15 0 = true from rfl) rfl)))) ?_ (by rintro _ _ ⟨q, _⟩; cases q)
        rintro v65 h65 ⟨q, x65⟩
        cases q
        replace f0 := f0.ext x65
        replace e0 := e0.trans x65
        refine ⟨recheck_nil, _, rfl, ?_⟩
        iterate 3 refine GoE.quiet rfl rfl rfl rfl ?_
        refine GoE.quiet rfl rfl (aOp_gtr rfl rfl (r := true) (decide_eq_true (by omega))) rfl ?_
        iterate 2 refine GoE.quiet rfl rfl rfl rfl ?_
        refine GoE.quiet rfl rfl (fa27_2 rfl) rfl ?_
        refine GoE.quiet rfl rfl (aOp_indexAddrArr (i := 2) Try.underlying24 sz3 rfl rfl rfl) rfl ?_
        refine GoE.quiet rfl rfl (ld3 rfl f0 rfl) rfl ?_
        refine GoE.quiet rfl rfl rfl rfl ?_
        refine GoE.quiet rfl rfl (aOp_sub rfl rfl (by constructor <;> omega) rfl) rfl ?_
        refine GoE.quiet rfl rfl (fa27_2 rfl) rfl ?_
        refine GoE.quiet rfl rfl (aOp_indexAddrArr (i := 1) Try.underlying24 sz3 rfl rfl rfl) rfl ?_
        refine GoE.quiet rfl rfl (ld3 rfl f0 rfl) rfl ?_
        refine GoE.quiet rfl rfl (aOp_lss rfl rfl (r := false) (decide_eq_false (by omega))) rfl ?_
        iterate 2 refine GoE.quiet rfl rfl rfl rfl ?_
        refine GoE.end rfl ?_
        refine Go.cond noJ_ok (b := false) rfl ?_
        refine Go.code noJ_ok ?_
        refine Go.inBlock noJ_ok ?_
        refine Go.region noJ_ok rfl ?_
        refine GoR.op rfl rfl rfl rfl ?_
        refine GoR.op rfl rfl (aOp_add rfl rfl (by constructor <;> omega) rfl) rfl ?_
        refine GoR.op rfl rfl rfl rfl ?_
        refine GoR.end ?_
        simp only [decide_eq_true_eq] at s1
        exact again 0 3 _ _ (by omega) ⟨rfl, rfl, trivial⟩ ⟨rfl, e0, f0, fun _ => d1 (by omega), fun _ => d2 (by omega), fun _ => ⟨s1.1, s1.2, by omega⟩⟩
    | 3, hm, d1, d2, d3 =>
    replace d1 := d1 (by omega)
    replace d2 := d2 (by omega)
    replace d3 := d3 (by omega)
    clear again
    iterate 2 refine Go.seq noJ_ok ?_
    refine Go.region noJ_ok rfl ?_
    refine GoR.op rfl rfl rfl rfl ?_
    refine GoR.op rfl rfl (aOp_lss rfl rfl (r := false) (decide_eq_false (by omega))) rfl ?_
    refine GoR.end ?_
    refine Go.cond noJ_ok (b := false) rfl ?_
    refine Go.code noJ_ok ?_
    iterate 2 refine Go.seq noJ_ok ?_
    refine Go.region noJ_ok rfl ?_
    refine GoR.op rfl rfl rfl rfl ?_
    refine GoR.end ?_
    refine Go.block noJ_ok ?_
    refine Go.loopKeep (fun i : Nat => [(1, .ptr h.next 0), (6, .int .i64 (i : Nat))]) (fun m i h' => m + i = F.looks.length ∧ Ext h h' ∧ Has h' h.next (.cells .plain [hsl, rsl, .int .i64 F.a, .int .i64 F.b, .int .i64 F.c, .int .i64 F.lim, lsl] 27) ∧ ∀ x, x ∈ F.looks.take i → LOk F x) (n := F.looks.length) 0 ⟨rfl, rfl, trivial⟩ ⟨rfl, e0, by assumption, (by simp)⟩ ?_
    clear e0 f0
    rintro m i h4 ⟨hm, e0, f0, hin⟩ again
    by_cases hi : i < F.looks.length
    · obtain ⟨x, hx⟩ : ∃ x, F.looks[i]? = some x := ⟨F.looks[i], by simp [hi]⟩
      obtain ⟨bq, off, q1, q2⟩ := (A.ls.ext e0).at (i := i) (l := LookV.cells x) (by rw [List.getElem?_map, hx]; rfl)
      rw [List.length_map] at q1
      have hstep := take_all (P := LOk F) hx hin
      obtain ⟨xh, xd, xlo, xhi⟩ := x
      unfold LookV.cells at q2
      dsimp only at q2
      unfold LOk at hstep
      dsimp only at hstep
      cases s1 : decide (0 ≤ xh ∧ xh < (F.hs.length : Int)) with
      | false =>
        iterate 2 refine Go.seq noJ_ok ?_
        refine Go.region noJ_ok rfl ?_
        refine GoR.op rfl rfl rfl rfl ?_
        refine GoR.op rfl rfl (fa27_4 rfl) rfl ?_
        refine GoR.op rfl rfl (ld25 rfl f0 rfl) rfl ?_
        refine GoR.op rfl rfl (aOp_lenSlice Try.underlying25 rfl hl3) rfl ?_
        refine GoR.op rfl rfl (aOp_lss rfl rfl (r := true) (decide_eq_true (by omega))) rfl ?_
        refine GoR.end ?_
        refine Go.cond noJ_ok (b := true) rfl ?_
        refine Go.code noJ_ok ?_
        refine Go.seq noJ_ok ?_
        refine Go.block noJ_ok ?_
        refine Go.seq noJ_ok ?_
        refine Go.region noJ_ok rfl ?_
        refine GoR.op rfl rfl (fa27_4 rfl) rfl ?_
        refine GoR.op rfl rfl (ld25 rfl f0 rfl) rfl ?_
        refine GoR.op rfl rfl rfl rfl ?_
        refine GoR.op rfl rfl (aOp_indexAddr Try.underlying25 sz59 rfl q1 rfl (Nat.ble_eq_true_of_le hi)) rfl ?_
        refine GoR.op rfl rfl (aOp_loadE ag59 sz59 rfl q2) rfl ?_
        refine GoR.alloc rfl rfl rfl zt59 rfl rfl fun h65 x65 f65 => ?_
        have := e0.1
        have := f0.1
        replace f0 := f0.ext x65
        replace e0 := e0.trans x65
        have := f65.1
        refine GoR.store rfl rfl rfl rfl rfl rfl f65 rfl sz59 rfl rfl rfl fun h66 u66 => ?_
        replace f65 := u66.has f65
        replace f0 := f0.upd u66 (by omega)
        first | replace e0 := e0.upd u66 (by omega) | clear e0
        refine GoR.end ?_
        refine Go.seq noJ_ok ?_
        refine Go.region noJ_ok rfl ?_
        refine GoR.op rfl rfl (ld27 rfl f0 rfl) rfl ?_
        refine GoR.op rfl rfl (fa59_0 rfl) rfl ?_
        refine GoR.op rfl rfl (ld3 rfl f65 rfl) rfl ?_
        refine GoR.call rfl rfl (aOp_callFunc aFunc59 rfl) (h59 xh _ s1 _) ?_ (by rintro _ _ ⟨q, _⟩; cases q)
        rintro v67 h67 ⟨q, x67⟩
        cases q
        refine ⟨_, rfl, ?_⟩
        replace f65 := f65.ext x67
        replace f0 := f0.ext x67
        replace e0 := e0.trans x67
        iterate 2 refine GoR.op rfl rfl rfl rfl ?_
        iterate 5 refine GoR.skip rfl rfl rfl ?_
        iterate 2 refine GoR.op rfl rfl rfl rfl ?_
        iterate 4 refine GoR.skip rfl rfl rfl ?_
        refine GoR.op rfl rfl rfl rfl ?_
        refine GoR.end ?_
        refine Go.cond noJ_ok (b := true) rfl ?_
        refine Go.seq noJ_ok ?_
        refine Go.region noJ_ok rfl ?_
        refine GoR.op rfl rfl rfl rfl ?_
        refine GoR.end ?_
        exact Go.ret noJ_ok (ret_end (aResult_of Try.func23 rfl rfl) ⟨false, rfl, (no_iff fun O => by have k := O.l _ (List.mem_of_getElem? hx); have q := of_decide_eq_false s1; dsimp only at k; omega), e0⟩)
      | true =>
      cases s2 : decide (0 ≤ xd ∧ xd < (F.rs.length : Int)) with
      | false =>
        iterate 2 refine Go.seq noJ_ok ?_
        refine Go.region noJ_ok rfl ?_
        refine GoR.op rfl rfl rfl rfl ?_
        refine GoR.op rfl rfl (fa27_4 rfl) rfl ?_
        refine GoR.op rfl rfl (ld25 rfl f0 rfl) rfl ?_
        refine GoR.op rfl rfl (aOp_lenSlice Try.underlying25 rfl hl3) rfl ?_
        refine GoR.op rfl rfl (aOp_lss rfl rfl (r := true) (decide_eq_true (by omega))) rfl ?_
        refine GoR.end ?_
        refine Go.cond noJ_ok (b := true) rfl ?_
        refine Go.code noJ_ok ?_
        refine Go.seq noJ_ok ?_
        refine Go.block noJ_ok ?_
        refine Go.seq noJ_ok ?_
        refine Go.region noJ_ok rfl ?_
        refine GoR.op rfl rfl (fa27_4 rfl) rfl ?_
        refine GoR.op rfl rfl (ld25 rfl f0 rfl) rfl ?_
        refine GoR.op rfl rfl rfl rfl ?_
        refine GoR.op rfl rfl (aOp_indexAddr Try.underlying25 sz59 rfl q1 rfl (Nat.ble_eq_true_of_le hi)) rfl ?_
        refine GoR.op rfl rfl (aOp_loadE ag59 sz59 rfl q2) rfl ?_
        refine GoR.alloc rfl rfl rfl zt59 rfl rfl fun h65 x65 f65 => ?_
        have := e0.1
        have := f0.1
        replace f0 := f0.ext x65
        replace e0 := e0.trans x65
        have := f65.1
        refine GoR.store rfl rfl rfl rfl rfl rfl f65 rfl sz59 rfl rfl rfl fun h66 u66 => ?_
        replace f65 := u66.has f65
        replace f0 := f0.upd u66 (by omega)
        first | replace e0 := e0.upd u66 (by omega) | clear e0
        refine GoR.end ?_
        refine Go.seq noJ_ok ?_
        refine Go.region noJ_ok rfl ?_
        refine GoR.op rfl rfl (ld27 rfl f0 rfl) rfl ?_
        refine GoR.op rfl rfl (fa59_0 rfl) rfl ?_
        refine GoR.op rfl rfl (ld3 rfl f65 rfl) rfl ?_
        refine GoR.call rfl rfl (aOp_callFunc aFunc59 rfl) (h59 xh _ s1 _) ?_ (by rintro _ _ ⟨q, _⟩; cases q)
        rintro v67 h67 ⟨q, x67⟩
        cases q
        refine ⟨_, rfl, ?_⟩
        replace f65 := f65.ext x67
        replace f0 := f0.ext x67
        replace e0 := e0.trans x67
        iterate 2 refine GoR.op rfl rfl rfl rfl ?_
        refine GoR.op rfl rfl (ld27 rfl f0 rfl) rfl ?_
        refine GoR.op rfl rfl (fa59_1 rfl) rfl ?_
        refine GoR.op rfl rfl (ld3 rfl f65 rfl) rfl ?_
        refine GoR.call rfl rfl (aOp_callFunc aFunc60 rfl) (h60 xd _ s2 _) ?_ (by rintro _ _ ⟨q, _⟩; cases q)
        rintro v68 h68 ⟨q, x68⟩
        cases q
        refine ⟨_, rfl, ?_⟩
        replace f65 := f65.ext x68
        replace f0 := f0.ext x68
        replace e0 := e0.trans x68
        iterate 3 refine GoR.op rfl rfl rfl rfl ?_
        iterate 4 refine GoR.skip rfl rfl rfl ?_
        refine GoR.op rfl rfl rfl rfl ?_
        refine GoR.end ?_
        refine Go.cond noJ_ok (b := true) rfl ?_
        refine Go.seq noJ_ok ?_
        refine Go.region noJ_ok rfl ?_
        refine GoR.op rfl rfl rfl rfl ?_
        refine GoR.end ?_
        exact Go.ret noJ_ok (ret_end (aResult_of Try.func23 rfl rfl) ⟨false, rfl, (no_iff fun O => by have k := O.l _ (List.mem_of_getElem? hx); have q := of_decide_eq_false s2; dsimp only at k; omega), e0⟩)
      | true =>
      cases s3 : decide (0 ≤ xlo ∧ xlo ≤ xhi ∧ xhi ≤ 100 ∧ xhi - xlo ≤ 100) with
      | false =>
        iterate 2 refine Go.seq noJ_ok ?_
        refine Go.region noJ_ok rfl ?_
        refine GoR.op rfl rfl rfl rfl ?_
        refine GoR.op rfl rfl (fa27_4 rfl) rfl ?_
        refine GoR.op rfl rfl (ld25 rfl f0 rfl) rfl ?_
        refine GoR.op rfl rfl (aOp_lenSlice Try.underlying25 rfl hl3) rfl ?_
        refine GoR.op rfl rfl (aOp_lss rfl rfl (r := true) (decide_eq_true (by omega))) rfl ?_
        refine GoR.end ?_
        refine Go.cond noJ_ok (b := true) rfl ?_
        refine Go.code noJ_ok ?_
        refine Go.seq noJ_ok ?_
        refine Go.block noJ_ok ?_
        refine Go.seq noJ_ok ?_
        refine Go.region noJ_ok rfl ?_
        refine GoR.op rfl rfl (fa27_4 rfl) rfl ?_
        refine GoR.op rfl rfl (ld25 rfl f0 rfl) rfl ?_
        refine GoR.op rfl rfl rfl rfl ?_
        refine GoR.op rfl rfl (aOp_indexAddr Try.underlying25 sz59 rfl q1 rfl (Nat.ble_eq_true_of_le hi)) rfl ?_
        refine GoR.op rfl rfl (aOp_loadE ag59 sz59 rfl q2) rfl ?_
        refine GoR.alloc rfl rfl rfl zt59 rfl rfl fun h65 x65 f65 => ?_
        have := e0.1
        have := f0.1
        replace f0 := f0.ext x65
        replace e0 := e0.trans x65
        have := f65.1
        refine GoR.store rfl rfl rfl rfl rfl rfl f65 rfl sz59 rfl rfl rfl fun h66 u66 => ?_
        replace f65 := u66.has f65
        replace f0 := f0.upd u66 (by omega)
        first | replace e0 := e0.upd u66 (by omega) | clear e0
        refine GoR.end ?_
        refine Go.seq noJ_ok ?_
        refine Go.region noJ_ok rfl ?_
        refine GoR.op rfl rfl (ld27 rfl f0 rfl) rfl ?_
        refine GoR.op rfl rfl (fa59_0 rfl) rfl ?_
        refine GoR.op rfl rfl (ld3 rfl f65 rfl) rfl ?_
        refine GoR.call rfl rfl (aOp_callFunc aFunc59 rfl) (h59 xh _ s1 _) ?_ (by rintro _ _ ⟨q, _⟩; cases q)
        rintro v67 h67 ⟨q, x67⟩
        cases q
        refine ⟨_, rfl, ?_⟩
        replace f65 := f65.ext x67
        replace f0 := f0.ext x67
        replace e0 := e0.trans x67
        iterate 2 refine GoR.op rfl rfl rfl rfl ?_
        refine GoR.op rfl rfl (ld27 rfl f0 rfl) rfl ?_
        refine GoR.op rfl rfl (fa59_1 rfl) rfl ?_
        refine GoR.op rfl rfl (ld3 rfl f65 rfl) rfl ?_
        refine GoR.call rfl rfl (aOp_callFunc aFunc60 rfl) (h60 xd _ s2 _) ?_ (by rintro _ _ ⟨q, _⟩; cases q)
        rintro v68 h68 ⟨q, x68⟩
        cases q
        refine ⟨_, rfl, ?_⟩
        replace f65 := f65.ext x68
        replace f0 := f0.ext x68
        replace e0 := e0.trans x68
        iterate 3 refine GoR.op rfl rfl rfl rfl ?_
        refine GoR.op rfl rfl (fa59_2 rfl) rfl ?_
        refine GoR.op rfl rfl (ld30 rfl f65 rfl) rfl ?_
        refine GoR.call rfl rfl (aOp_callFunc aFunc58 rfl) (span58_ok xlo xhi 100 100 s3 (by decide) _) ?_ (by rintro _ _ ⟨q, _⟩; cases q)
        rintro v69 h69 ⟨q, x69⟩
        cases q
        refine ⟨_, rfl, ?_⟩
        replace f65 := f65.ext x69
        replace f0 := f0.ext x69
        replace e0 := e0.trans x69
        iterate 2 refine GoR.op rfl rfl rfl rfl ?_
        refine GoR.end ?_
        refine Go.cond noJ_ok (b := true) rfl ?_
        refine Go.seq noJ_ok ?_
        refine Go.region noJ_ok rfl ?_
        refine GoR.op rfl rfl rfl rfl ?_
        refine GoR.end ?_
        exact Go.ret noJ_ok (ret_end (aResult_of Try.func23 rfl rfl) ⟨false, rfl, (no_iff fun O => by have k := O.l _ (List.mem_of_getElem? hx); have q := of_decide_eq_false s3; dsimp only at k; omega), e0⟩)
      | true =>
        iterate 2 refine Go.seq noJ_ok ?_
        refine Go.region noJ_ok rfl ?_
        refine GoR.op rfl rfl rfl rfl ?_
        refine GoR.op rfl rfl (fa27_4 rfl) rfl ?_
        refine GoR.op rfl rfl (ld25 rfl f0 rfl) rfl ?_
        refine GoR.op rfl rfl (aOp_lenSlice Try.underlying25 rfl hl3) rfl ?_
        refine GoR.op rfl rfl (aOp_lss rfl rfl (r := true) (decide_eq_true (by omega))) rfl ?_
        refine GoR.end ?_
        refine Go.cond noJ_ok (b := true) rfl ?_
        refine Go.code noJ_ok ?_
        refine Go.seq noJ_ok ?_
        refine Go.block noJ_ok ?_
        refine Go.seq noJ_ok ?_
        refine Go.region noJ_ok rfl ?_
        refine GoR.op rfl rfl (fa27_4 rfl) rfl ?_
        refine GoR.op rfl rfl (ld25 rfl f0 rfl) rfl ?_
        refine GoR.op rfl rfl rfl rfl ?_
        refine GoR.op rfl rfl (aOp_indexAddr Try.underlying25 sz59 rfl q1 rfl (Nat.ble_eq_true_of_le hi)) rfl ?_
        refine GoR.op rfl rfl (aOp_loadE ag59 sz59 rfl q2) rfl ?_
        refine GoR.alloc rfl rfl rfl zt59 rfl rfl fun h65 x65 f65 => ?_
        have := e0.1
        have := f0.1
        replace f0 := f0.ext x65
        replace e0 := e0.trans x65
        have := f65.1
        refine GoR.store rfl rfl rfl rfl rfl rfl f65 rfl sz59 rfl rfl rfl fun h66 u66 => ?_
        replace f65 := u66.has f65
        replace f0 := f0.upd u66 (by omega)
        first | replace e0 := e0.upd u66 (by omega) | clear e0
        refine GoR.end ?_
        refine Go.seq noJ_ok ?_
        refine Go.region noJ_ok rfl ?_
        refine GoR.op rfl rfl (ld27 rfl f0 rfl) rfl ?_
        refine GoR.op rfl rfl (fa59_0 rfl) rfl ?_
        refine GoR.op rfl rfl (ld3 rfl f65 rfl) rfl ?_
        refine GoR.call rfl rfl (aOp_callFunc aFunc59 rfl) (h59 xh _ s1 _) ?_ (by rintro _ _ ⟨q, _⟩; cases q)
        rintro v67 h67 ⟨q, x67⟩
        cases q
        refine ⟨_, rfl, ?_⟩
        replace f65 := f65.ext x67
        replace f0 := f0.ext x67
        replace e0 := e0.trans x67
        iterate 2 refine GoR.op rfl rfl rfl rfl ?_
        refine GoR.op rfl rfl (ld27 rfl f0 rfl) rfl ?_
        refine GoR.op rfl rfl (fa59_1 rfl) rfl ?_
        refine GoR.op rfl rfl (ld3 rfl f65 rfl) rfl ?_
        refine GoR.call rfl rfl (aOp_callFunc aFunc60 rfl) (h60 xd _ s2 _) ?_ (by rintro _ _ ⟨q, _⟩; cases q)
        rintro v68 h68 ⟨q, x68⟩
        cases q
        refine ⟨_, rfl, ?_⟩
        replace f65 := f65.ext x68
        replace f0 := f0.ext x68
        replace e0 := e0.trans x68
        iterate 3 refine GoR.op rfl rfl rfl rfl ?_
        refine GoR.op rfl rfl (fa59_2 rfl) rfl ?_
        refine GoR.op rfl rfl (ld30 rfl f65 rfl) rfl ?_
        refine GoR.call rfl rfl (aOp_callFunc aFunc58 rfl) (span58_ok xlo xhi 100 100 s3 (by decide) _) ?_ (by rintro _ _ ⟨q, _⟩; cases q)
        rintro v69 h69 ⟨q, x69⟩
        cases q
        refine ⟨_, rfl, ?_⟩
        replace f65 := f65.ext x69
        replace f0 := f0.ext x69
        replace e0 := e0.trans x69
        iterate 2 refine GoR.op rfl rfl rfl rfl ?_
        refine GoR.end ?_
        refine Go.cond noJ_ok (b := false) rfl ?_
        refine Go.code noJ_ok ?_
        refine Go.inBlock noJ_ok ?_
        refine Go.region noJ_ok rfl ?_
        refine GoR.op rfl rfl rfl rfl ?_
        refine GoR.op rfl rfl (aOp_add rfl rfl (by constructor <;> omega) rfl) rfl ?_
        refine GoR.op rfl rfl rfl rfl ?_
        refine GoR.end ?_
        simp only [decide_eq_true_eq] at s1 s2 s3
        exact again (m - 1) (i + 1) _ _ (by omega) ⟨rfl, rfl, trivial⟩ ⟨by omega, e0, f0, hstep ⟨s1.1, s1.2, s2.1, s2.2, s3.1, s3.2.1, s3.2.2.1⟩⟩
    have hLl : ∀ x, x ∈ F.looks → LOk F x := by
      rw [List.take_of_length_le (by omega)] at hin
      exact hin
    clear again hin
    have OK : F.Ok := ⟨by omega, hH, by omega, hRr, by omega, r3, r4, hLl⟩
    iterate 2 refine Go.seq noJ_ok ?_
    refine Go.region noJ_ok rfl ?_
    refine GoR.op rfl rfl rfl rfl ?_
    refine GoR.op rfl rfl (fa27_4 rfl) rfl ?_
    refine GoR.op rfl rfl (ld25 rfl f0 rfl) rfl ?_
    refine GoR.op rfl rfl (aOp_lenSlice Try.underlying25 rfl hl3) rfl ?_
    refine GoR.op rfl rfl (aOp_lss rfl rfl (r := false) (decide_eq_false (by omega))) rfl ?_
    refine GoR.end ?_
    refine Go.cond noJ_ok (b := false) rfl ?_
    refine Go.code noJ_ok ?_
    refine Go.seq noJ_ok ?_
    refine Go.region noJ_ok rfl ?_
    refine GoR.op rfl rfl rfl rfl ?_
    refine GoR.end ?_
    exact Go.ret noJ_ok (ret_end (aResult_of Try.func23 rfl rfl) ⟨true, rfl, (iff_of_true rfl OK), e0⟩)
  · refine Runs.intro aFunc23 rfl rfl rfl rfl fun rest => ?_
    refine Go.seq noJ_ok ?_
    refine Go.region noJ_ok rfl ?_
    refine GoR.box rfl rfl rfl rfl rfl rfl fun h61 x61 f61 => ?_
    have e0 := x61
    have := f61.1
    refine GoR.op rfl rfl rfl rfl ?_
    refine GoR.end ?_
    iterate 2 refine Go.seq noJ_ok ?_
    refine Go.region noJ_ok rfl ?_
    refine GoR.op rfl rfl (fa27_0 rfl) rfl ?_
    refine GoR.op rfl rfl (ld22 rfl f61 rfl) rfl ?_
    refine GoR.op rfl rfl (aOp_lenSlice Try.underlying22 rfl hl1) rfl ?_
    refine GoR.call rfl rfl (aOp_callFunc aFunc57 rfl) (in57_ok F.hs.length 1 3 r1 _) ?_ (by rintro _ _ ⟨q, _⟩; cases q)
    rintro v62 h62 ⟨q, x62⟩
    cases q
    refine ⟨_, rfl, ?_⟩
    replace f61 := f61.ext x62
    replace e0 := e0.trans x62
    iterate 2 refine GoR.op rfl rfl rfl rfl ?_
    refine GoR.op rfl rfl (fa27_1 rfl) rfl ?_
    refine GoR.op rfl rfl (ld23 rfl f61 rfl) rfl ?_
    refine GoR.op rfl rfl (aOp_lenSlice Try.underlying23 rfl hl2) rfl ?_
    refine GoR.call rfl rfl (aOp_callFunc aFunc57 rfl) (in57_ok F.rs.length 1 6 r2 _) ?_ (by rintro _ _ ⟨q, _⟩; cases q)
    rintro v63 h63 ⟨q, x63⟩
    cases q
    refine ⟨_, rfl, ?_⟩
    replace f61 := f61.ext x63
    replace e0 := e0.trans x63
    iterate 3 refine GoR.op rfl rfl rfl rfl ?_
    refine GoR.op rfl rfl (fa27_3 rfl) rfl ?_
    refine GoR.op rfl rfl (ld3 rfl f61 rfl) rfl ?_
    refine GoR.call rfl rfl (aOp_callFunc aFunc57 rfl) (in57_ok F.lim 0 100 r3 _) ?_ (by rintro _ _ ⟨q, _⟩; cases q)
    rintro v64 h64 ⟨q, x64⟩
    cases q
    refine ⟨_, rfl, ?_⟩
    replace f61 := f61.ext x64
    replace e0 := e0.trans x64
    iterate 3 refine GoR.op rfl rfl rfl rfl ?_
    refine GoR.op rfl rfl (fa27_4 rfl) rfl ?_
    refine GoR.op rfl rfl (ld25 rfl f61 rfl) rfl ?_
    refine GoR.op rfl rfl (aOp_lenSlice Try.underlying25 rfl hl3) rfl ?_
    refine GoR.op rfl rfl (aOp_gtr rfl rfl (r := true) (decide_eq_true (by omega))) rfl ?_
    refine GoR.op rfl rfl rfl rfl ?_
    refine GoR.end ?_
    refine Go.cond noJ_ok (b := true) rfl ?_
    refine Go.seq noJ_ok ?_
    refine Go.region noJ_ok rfl ?_
    refine GoR.op rfl rfl rfl rfl ?_
    refine GoR.end ?_
    exact Go.ret noJ_ok (ret_end (aResult_of Try.func23 rfl rfl) ⟨false, rfl, (no_iff fun O => by have k := O.nl; omega), e0⟩)
end Go.Proofs.Ytmdheijpnlonoaa
