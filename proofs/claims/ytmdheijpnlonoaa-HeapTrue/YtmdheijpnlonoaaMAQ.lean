import Derived.Test.YtmdheijpnlonoaaMAP
import Derived.Test.YtmdheijpnlonoaaMAH
import Derived.Test.YtmdheijpnlonoaaMAO
namespace Go.Proofs.Ytmdheijpnlonoaa
open Go Go.AbsE
set_option linter.unusedSimpArgs false
set_option maxRecDepth 100000
set_option maxHeartbeats 0
set_option linter.unusedVariables false
theorem no_iff {P : Prop} (h : ¬ P) : (false = true) ↔ P := ⟨fun q => (by cases q), fun p => absurd p h⟩
theorem heaps23_is (F : FieldV) (hsl rsl lsl : AVal) (h : AH) (A : FieldAt h F hsl rsl lsl) (hb1 : F.hs.length ≤ 40) (hb2 : F.rs.length ≤ 40) (hb3 : F.looks.length ≤ 40) :
    Runs Try.prog 23 [.agg (F.cells hsl rsl lsl)] h (fun en h' => ∃ r, en = .ret (.bool r) ∧ (r = true ↔ F.Ok) ∧ Ext h h') := by
  have hl1 := A.hs.len
  have hl2 := A.rs.len
  have hl3 := A.ls.len
  rw [List.length_map] at hl1 hl2 hl3
  have h59 := fun n r hr h => heap59_ok (F := F) hsl rsl lsl hl1 (by omega) n (r := r) hr h
  have h60 := fun n r hr h => day60_ok (F := F) hsl rsl lsl hl2 (by omega) n (r := r) hr h
  unfold FieldV.cells fieldC at h59 h60 ⊢
  cases r1 : decide ((1 : Int) ≤ F.hs.length ∧ (F.hs.length : Int) ≤ 3) with
  | false =>
    refine Runs.intro aFunc23 rfl rfl rfl rfl fun rest => ?_
    refine Go.seq noJ_ok ?_
    refine Go.region noJ_ok rfl ?_
    refine GoR.box rfl rfl rfl rfl rfl rfl fun h61 x61 f61 => ?_
    have e0 := x61
    have := f61.1
    refine GoR.op rfl rfl rfl rfl ?_
    refine GoR.end ?_
    iterate 2 refine Go.seq noJ_ok ?_
    refine Go.region noJ_ok rfl ?_
    refine GoR.op rfl rfl (fa27_0 rfl) rfl ?_
    refine GoR.op rfl rfl (ld22 rfl f61 rfl) rfl ?_
    refine GoR.op rfl rfl (aOp_lenSlice Try.underlying22 rfl hl1) rfl ?_
    refine GoR.call rfl rfl (aOp_callFunc aFunc57 rfl) (in57_ok F.hs.length 1 3 r1 _) ?_ (by rintro _ _ ⟨q, _⟩; cases q)
    rintro v62 h62 ⟨q, x62⟩
    cases q
    refine ⟨_, rfl, ?_⟩
    replace f61 := f61.ext x62
    replace e0 := e0.trans x62
    iterate 2 refine GoR.op rfl rfl rfl rfl ?_
    iterate 5 refine GoR.skip rfl rfl rfl ?_
    iterate 2 refine GoR.op rfl rfl rfl rfl ?_
    iterate 4 refine GoR.skip rfl rfl rfl ?_
    iterate 2 refine GoR.op rfl rfl rfl rfl ?_
    iterate 4 refine GoR.skip rfl rfl rfl ?_
    refine GoR.op rfl rfl rfl rfl ?_
    refine GoR.end ?_
    refine Go.cond noJ_ok (b := true) rfl ?_
    refine Go.seq noJ_ok ?_
    refine Go.region noJ_ok rfl ?_
    refine GoR.op rfl rfl rfl rfl ?_
    refine GoR.end ?_
    exact Go.ret noJ_ok (ret_end (aResult_of Try.func23 rfl rfl) ⟨false, rfl, (no_iff fun O => by have k := O.nh; have q := of_decide_eq_false r1; omega), e0⟩)
  | true =>
  cases r2 : decide ((1 : Int) ≤ F.rs.length ∧ (F.rs.length : Int) ≤ 6) with
  | false =>
    refine Runs.intro aFunc23 rfl rfl rfl rfl fun rest => ?_
    refine Go.seq noJ_ok ?_
    refine Go.region noJ_ok rfl ?_
    refine GoR.box rfl rfl rfl rfl rfl rfl fun h61 x61 f61 => ?_
    have e0 := x61
    have := f61.1
    refine GoR.op rfl rfl rfl rfl ?_
    refine GoR.end ?_
    iterate 2 refine Go.seq noJ_ok ?_
    refine Go.region noJ_ok rfl ?_
    refine GoR.op rfl rfl (fa27_0 rfl) rfl ?_
    refine GoR.op rfl rfl (ld22 rfl f61 rfl) rfl ?_
    refine GoR.op rfl rfl (aOp_lenSlice Try.underlying22 rfl hl1) rfl ?_
    refine GoR.call rfl rfl (aOp_callFunc aFunc57 rfl) (in57_ok F.hs.length 1 3 r1 _) ?_ (by rintro _ _ ⟨q, _⟩; cases q)
    rintro v62 h62 ⟨q, x62⟩
    cases q
    refine ⟨_, rfl, ?_⟩
    replace f61 := f61.ext x62
    replace e0 := e0.trans x62
    iterate 2 refine GoR.op rfl rfl rfl rfl ?_
    refine GoR.op rfl rfl (fa27_1 rfl) rfl ?_
    refine GoR.op rfl rfl (ld23 rfl f61 rfl) rfl ?_
    refine GoR.op rfl rfl (aOp_lenSlice Try.underlying23 rfl hl2) rfl ?_
    refine GoR.call rfl rfl (aOp_callFunc aFunc57 rfl) (in57_ok F.rs.length 1 6 r2 _) ?_ (by rintro _ _ ⟨q, _⟩; cases q)
    rintro v63 h63 ⟨q, x63⟩
    cases q
    refine ⟨_, rfl, ?_⟩
    replace f61 := f61.ext x63
    replace e0 := e0.trans x63
    iterate 3 refine GoR.op rfl rfl rfl rfl ?_
    iterate 4 refine GoR.skip rfl rfl rfl ?_
    iterate 2 refine GoR.op rfl rfl rfl rfl ?_
    iterate 4 refine GoR.skip rfl rfl rfl ?_
    refine GoR.op rfl rfl rfl rfl ?_
    refine GoR.end ?_
    refine Go.cond noJ_ok (b := true) rfl ?_
    refine Go.seq noJ_ok ?_
    refine Go.region noJ_ok rfl ?_
    refine GoR.op rfl rfl rfl rfl ?_
    refine GoR.end ?_
    exact Go.ret noJ_ok (ret_end (aResult_of Try.func23 rfl rfl) ⟨false, rfl, (no_iff fun O => by have k := O.nr; have q := of_decide_eq_false r2; omega), e0⟩)
  | true =>
  cases r3 : decide (0 ≤ F.lim ∧ F.lim ≤ 100) with
  | false =>
    refine Runs.intro aFunc23 rfl rfl rfl rfl fun rest => ?_
    refine Go.seq noJ_ok ?_
    refine Go.region noJ_ok rfl ?_
    refine GoR.box rfl rfl rfl rfl rfl rfl fun h61 x61 f61 => ?_
    have e0 := x61
    have := f61.1
    refine GoR.op rfl rfl rfl rfl ?_
    refine GoR.end ?_
    iterate 2 refine Go.seq noJ_ok ?_
    refine Go.region noJ_ok rfl ?_
    refine GoR.op rfl rfl (fa27_0 rfl) rfl ?_
    refine GoR.op rfl rfl (ld22 rfl f61 rfl) rfl ?_
    refine GoR.op rfl rfl (aOp_lenSlice Try.underlying22 rfl hl1) rfl ?_
    refine GoR.call rfl rfl (aOp_callFunc aFunc57 rfl) (in57_ok F.hs.length 1 3 r1 _) ?_ (by rintro _ _ ⟨q, _⟩; cases q)
    rintro v62 h62 ⟨q, x62⟩
    cases q
    refine ⟨_, rfl, ?_⟩
    replace f61 := f61.ext x62
    replace e0 := e0.trans x62
    iterate 2 refine GoR.op rfl rfl rfl rfl ?_
    refine GoR.op rfl rfl (fa27_1 rfl) rfl ?_
    refine GoR.op rfl rfl (ld23 rfl f61 rfl) rfl ?_
    refine GoR.op rfl rfl (aOp_lenSlice Try.underlying23 rfl hl2) rfl ?_
    refine GoR.call rfl rfl (aOp_callFunc aFunc57 rfl) (in57_ok F.rs.length 1 6 r2 _) ?_ (by rintro _ _ ⟨q, _⟩; cases q)
    rintro v63 h63 ⟨q, x63⟩
    cases q
    refine ⟨_, rfl, ?_⟩
    replace f61 := f61.ext x63
    replace e0 := e0.trans x63
    iterate 3 refine GoR.op rfl rfl rfl rfl ?_
    refine GoR.op rfl rfl (fa27_3 rfl) rfl ?_
    refine GoR.op rfl rfl (ld3 rfl f61 rfl) rfl ?_
    refine GoR.call rfl rfl (aOp_callFunc aFunc57 rfl) (in57_ok F.lim 0 100 r3 _) ?_ (by rintro _ _ ⟨q, _⟩; cases q)
    rintro v64 h64 ⟨q, x64⟩
    cases q
    refine ⟨_, rfl, ?_⟩
    replace f61 := f61.ext x64
    replace e0 := e0.trans x64
    iterate 3 refine GoR.op rfl rfl rfl rfl ?_
    iterate 4 refine GoR.skip rfl rfl rfl ?_
    refine GoR.op rfl rfl rfl rfl ?_
    refine GoR.end ?_
    refine Go.cond noJ_ok (b := true) rfl ?_
    refine Go.seq noJ_ok ?_
    refine Go.region noJ_ok rfl ?_
    refine GoR.op rfl rfl rfl rfl ?_
    refine GoR.end ?_
    exact Go.ret noJ_ok (ret_end (aResult_of Try.func23 rfl rfl) ⟨false, rfl, (no_iff fun O => by have k := O.lim; have q := of_decide_eq_false r3; omega), e0⟩)
  | true =>
  by_cases r4 : F.looks.length ≤ 5
  · refine Runs.intro aFunc23 rfl rfl rfl rfl fun rest => ?_
    refine Go.seq noJ_ok ?_
    refine Go.region noJ_ok rfl ?_
    refine GoR.box rfl rfl rfl rfl rfl rfl fun h61 x61 f61 => ?_
    have e0 := x61
    have := f61.1
    refine GoR.op rfl rfl rfl rfl ?_
    refine GoR.end ?_
    iterate 2 refine Go.seq noJ_ok ?_
    refine Go.region noJ_ok rfl ?_
    refine GoR.op rfl rfl (fa27_0 rfl) rfl ?_
    refine GoR.op rfl rfl (ld22 rfl f61 rfl) rfl ?_
    refine GoR.op rfl rfl (aOp_lenSlice Try.underlying22 rfl hl1) rfl ?_
    refine GoR.call rfl rfl (aOp_callFunc aFunc57 rfl) (in57_ok F.hs.length 1 3 r1 _) ?_ (by rintro _ _ ⟨q, _⟩; cases q)
    rintro v62 h62 ⟨q, x62⟩
    cases q
    refine ⟨_, rfl, ?_⟩
    replace f61 := f61.ext x62
    replace e0 := e0.trans x62
    iterate 2 refine GoR.op rfl rfl rfl rfl ?_
    refine GoR.op rfl rfl (fa27_1 rfl) rfl ?_
    refine GoR.op rfl rfl (ld23 rfl f61 rfl) rfl ?_
    refine GoR.op rfl rfl (aOp_lenSlice Try.underlying23 rfl hl2) rfl ?_
    refine GoR.call rfl rfl (aOp_callFunc aFunc57 rfl) (in57_ok F.rs.length 1 6 r2 _) ?_ (by rintro _ _ ⟨q, _⟩; cases q)
    rintro v63 h63 ⟨q, x63⟩
    cases q
    refine ⟨_, rfl, ?_⟩
    replace f61 := f61.ext x63
    replace e0 := e0.trans x63
    iterate 3 refine GoR.op rfl rfl rfl rfl ?_
    refine GoR.op rfl rfl (fa27_3 rfl) rfl ?_
    refine GoR.op rfl rfl (ld3 rfl f61 rfl) rfl ?_
    refine GoR.call rfl rfl (aOp_callFunc aFunc57 rfl) (in57_ok F.lim 0 100 r3 _) ?_ (by rintro _ _ ⟨q, _⟩; cases q)
    rintro v64 h64 ⟨q, x64⟩
    cases q
    refine ⟨_, rfl, ?_⟩
    replace f61 := f61.ext x64
    replace e0 := e0.trans x64
    iterate 3 refine GoR.op rfl rfl rfl rfl ?_
    refine GoR.op rfl rfl (fa27_4 rfl) rfl ?_
    refine GoR.op rfl rfl (ld25 rfl f61 rfl) rfl ?_
    refine GoR.op rfl rfl (aOp_lenSlice Try.underlying25 rfl hl3) rfl ?_
    refine GoR.op rfl rfl (aOp_gtr rfl rfl (r := false) (decide_eq_false (by omega))) rfl ?_
    refine GoR.op rfl rfl rfl rfl ?_
    refine GoR.end ?_
    refine Go.cond noJ_ok (b := false) rfl ?_
    refine Go.code noJ_ok ?_
    iterate 2 refine Go.seq noJ_ok ?_
    refine Go.region noJ_ok rfl ?_
    refine GoR.op rfl rfl rfl rfl ?_
    refine GoR.end ?_
    refine Go.block noJ_ok ?_
    simp only [decide_eq_true_eq] at r1 r2 r3
    refine Go.loopKeep (fun i : Nat => [(1, .ptr h.next 0), (3, .int .i64 (i : Nat))]) (fun m i h' => m + i = F.hs.length ∧ Ext h h' ∧ Has h' h.next (.cells .plain [hsl, rsl, .int .i64 F.a, .int .i64 F.b, .int .i64 F.c, .int .i64 F.lim, lsl] 27) ∧ ∀ x, x ∈ F.hs.take i → HOk x) (n := F.hs.length) 0 ⟨rfl, rfl, trivial⟩ ⟨rfl, e0, by assumption, (by simp)⟩ ?_
    clear e0
    rintro m i h4 ⟨hm, e0, f0, hin⟩ again
    by_cases hi : i < F.hs.length
    · obtain ⟨x, hx⟩ : ∃ x, F.hs[i]? = some x := ⟨F.hs[i], by simp [hi]⟩
      obtain ⟨bq, off, q1, q2⟩ := (A.hs.ext e0).at (i := i) (l := HTurf.cells x) (by rw [List.getElem?_map, hx]; rfl)
      rw [List.length_map] at q1
      have hstep := take_all (P := HOk) hx hin
      obtain ⟨xp, xlo, xhi⟩ := x
      unfold HTurf.cells at q2
      dsimp only at q2
      unfold HOk at hstep
      dsimp only at hstep
      cases s1 : decide (0 ≤ xp ∧ xp ≤ 2) with
      | false =>
        iterate 2 refine Go.seq noJ_ok ?_
        refine Go.region noJ_ok rfl ?_
        refine GoR.op rfl rfl rfl rfl ?_
        refine GoR.op rfl rfl (fa27_0 rfl) rfl ?_
        refine GoR.op rfl rfl (ld22 rfl f0 rfl) rfl ?_
        refine GoR.op rfl rfl (aOp_lenSlice Try.underlying22 rfl hl1) rfl ?_
        refine GoR.op rfl rfl (aOp_lss rfl rfl (r := true) (decide_eq_true (by omega))) rfl ?_
        refine GoR.end ?_
        refine Go.cond noJ_ok (b := true) rfl ?_
        refine Go.code noJ_ok ?_
        refine Go.seq noJ_ok ?_
        refine Go.block noJ_ok ?_
        refine Go.seq noJ_ok ?_
        refine Go.region noJ_ok rfl ?_
        refine GoR.op rfl rfl (fa27_0 rfl) rfl ?_
        refine GoR.op rfl rfl (ld22 rfl f0 rfl) rfl ?_
        refine GoR.op rfl rfl rfl rfl ?_
        refine GoR.op rfl rfl (aOp_indexAddr Try.underlying22 sz63 rfl q1 rfl (Nat.ble_eq_true_of_le hi)) rfl ?_
        refine GoR.op rfl rfl (fa63_0 rfl) rfl ?_
        refine GoR.op rfl rfl (aOp_loadE1 (k := 0) ag3 rfl q2 rfl) rfl ?_
        refine GoR.call rfl rfl (aOp_callFunc aFunc57 rfl) (in57_ok xp 0 2 s1 _) ?_ (by rintro _ _ ⟨q, _⟩; cases q)
        rintro v65 h65 ⟨q, x65⟩
        cases q
        refine ⟨_, rfl, ?_⟩
        replace f0 := f0.ext x65
        replace e0 := e0.trans x65
        iterate 2 refine GoR.op rfl rfl rfl rfl ?_
        iterate 8 refine GoR.skip rfl rfl rfl ?_
        refine GoR.op rfl rfl rfl rfl ?_
        refine GoR.end ?_
        refine Go.cond noJ_ok (b := true) rfl ?_
        refine Go.seq noJ_ok ?_
        refine Go.region noJ_ok rfl ?_
        refine GoR.op rfl rfl rfl rfl ?_
        refine GoR.end ?_
        exact Go.ret noJ_ok (ret_end (aResult_of Try.func23 rfl rfl) ⟨false, rfl, (no_iff fun O => by have k := O.h _ (List.mem_of_getElem? hx); have q := of_decide_eq_false s1; dsimp only at k; omega), e0⟩)
      | true =>
      have q3 : ∀ h', Ext h4 h' → Go.AbsE.loadCells h' bq (off + i * 3 + 1) 2 = some [AVal.int .i64 xlo, .int .i64 xhi] := fun h' e => loadCells_part (k := 1) (m := 2) (q2.ext e).2 (by decide)
      have e9 : Ext h4 h4 := Ext.refl _
      cases s2 : decide (0 ≤ xlo ∧ xlo ≤ xhi ∧ xhi ≤ 100 ∧ xhi - xlo ≤ 5) with
      | false =>
        iterate 2 refine Go.seq noJ_ok ?_
        refine Go.region noJ_ok rfl ?_
        refine GoR.op rfl rfl rfl rfl ?_
        refine GoR.op rfl rfl (fa27_0 rfl) rfl ?_
        refine GoR.op rfl rfl (ld22 rfl f0 rfl) rfl ?_
        refine GoR.op rfl rfl (aOp_lenSlice Try.underlying22 rfl hl1) rfl ?_
        refine GoR.op rfl rfl (aOp_lss rfl rfl (r := true) (decide_eq_true (by omega))) rfl ?_
        refine GoR.end ?_
        refine Go.cond noJ_ok (b := true) rfl ?_
        refine Go.code noJ_ok ?_
        refine Go.seq noJ_ok ?_
        refine Go.block noJ_ok ?_
        refine Go.seq noJ_ok ?_
        refine Go.region noJ_ok rfl ?_
        refine GoR.op rfl rfl (fa27_0 rfl) rfl ?_
        refine GoR.op rfl rfl (ld22 rfl f0 rfl) rfl ?_
        refine GoR.op rfl rfl rfl rfl ?_
        refine GoR.op rfl rfl (aOp_indexAddr Try.underlying22 sz63 rfl q1 rfl (Nat.ble_eq_true_of_le hi)) rfl ?_
        refine GoR.op rfl rfl (fa63_0 rfl) rfl ?_
        refine GoR.op rfl rfl (aOp_loadE1 (k := 0) ag3 rfl (q2.ext e9) rfl) rfl ?_
        refine GoR.call rfl rfl (aOp_callFunc aFunc57 rfl) (in57_ok xp 0 2 s1 _) ?_ (by rintro _ _ ⟨q, _⟩; cases q)
        rintro v65 h65 ⟨q, x65⟩
        cases q
        refine ⟨_, rfl, ?_⟩
        replace f0 := f0.ext x65
        replace e0 := e0.trans x65
        replace e9 := e9.trans x65
        iterate 2 refine GoR.op rfl rfl rfl rfl ?_
        refine GoR.op rfl rfl (fa27_0 rfl) rfl ?_
        refine GoR.op rfl rfl (ld22 rfl f0 rfl) rfl ?_
        refine GoR.op rfl rfl rfl rfl ?_
        refine GoR.op rfl rfl (aOp_indexAddr Try.underlying22 sz63 rfl q1 rfl (Nat.ble_eq_true_of_le hi)) rfl ?_
        refine GoR.op rfl rfl (fa63_1 rfl) rfl ?_
        refine GoR.op rfl rfl (aOp_loadE ag30 sz30 rfl ⟨Nat.lt_of_lt_of_le q2.1 e9.1, q3 _ e9⟩) rfl ?_
        refine GoR.call rfl rfl (aOp_callFunc aFunc58 rfl) (span58_ok xlo xhi 100 5 s2 (by decide) _) ?_ (by rintro _ _ ⟨q, _⟩; cases q)
        rintro v66 h66 ⟨q, x66⟩
        cases q
        refine ⟨_, rfl, ?_⟩
        replace f0 := f0.ext x66
        replace e0 := e0.trans x66
        replace e9 := e9.trans x66
        iterate 2 refine GoR.op rfl rfl rfl rfl ?_
        refine GoR.end ?_
        refine Go.cond noJ_ok (b := true) rfl ?_
        refine Go.seq noJ_ok ?_
        refine Go.region noJ_ok rfl ?_
        refine GoR.op rfl rfl rfl rfl ?_
        refine GoR.end ?_
        exact Go.ret noJ_ok (ret_end (aResult_of Try.func23 rfl rfl) ⟨false, rfl, (no_iff fun O => by have k := O.h _ (List.mem_of_getElem? hx); have q := of_decide_eq_false s2; dsimp only at k; omega), e0⟩)
      | true =>
        iterate 2 refine Go.seq noJ_ok ?_
        refine Go.region noJ_ok rfl ?_
        refine GoR.op rfl rfl rfl rfl ?_
        refine GoR.op rfl rfl (fa27_0 rfl) rfl ?_
        refine GoR.op rfl rfl (ld22 rfl f0 rfl) rfl ?_
        refine GoR.op rfl rfl (aOp_lenSlice Try.underlying22 rfl hl1) rfl ?_
        refine GoR.op rfl rfl (aOp_lss rfl rfl (r := true) (decide_eq_true (by omega))) rfl ?_
        refine GoR.end ?_
        refine Go.cond noJ_ok (b := true) rfl ?_
        refine Go.code noJ_ok ?_
        refine Go.seq noJ_ok ?_
        refine Go.block noJ_ok ?_
        refine Go.seq noJ_ok ?_
        refine Go.region noJ_ok rfl ?_
        refine GoR.op rfl rfl (fa27_0 rfl) rfl ?_
        refine GoR.op rfl rfl (ld22 rfl f0 rfl) rfl ?_
        refine GoR.op rfl rfl rfl rfl ?_
        refine GoR.op rfl rfl (aOp_indexAddr Try.underlying22 sz63 rfl q1 rfl (Nat.ble_eq_true_of_le hi)) rfl ?_
        refine GoR.op rfl rfl (fa63_0 rfl) rfl ?_
        refine GoR.op rfl rfl (aOp_loadE1 (k := 0) ag3 rfl (q2.ext e9) rfl) rfl ?_
        refine GoR.call rfl rfl (aOp_callFunc aFunc57 rfl) (in57_ok xp 0 2 s1 _) ?_ (by rintro _ _ ⟨q, _⟩; cases q)
        rintro v65 h65 ⟨q, x65⟩
        cases q
        refine ⟨_, rfl, ?_⟩
        replace f0 := f0.ext x65
        replace e0 := e0.trans x65
        replace e9 := e9.trans x65
        iterate 2 refine GoR.op rfl rfl rfl rfl ?_
        refine GoR.op rfl rfl (fa27_0 rfl) rfl ?_
        refine GoR.op rfl rfl (ld22 rfl f0 rfl) rfl ?_
        refine GoR.op rfl rfl rfl rfl ?_
        refine GoR.op rfl rfl (aOp_indexAddr Try.underlying22 sz63 rfl q1 rfl (Nat.ble_eq_true_of_le hi)) rfl ?_
        refine GoR.op rfl rfl (fa63_1 rfl) rfl ?_
        refine GoR.op rfl rfl (aOp_loadE ag30 sz30 rfl ⟨Nat.lt_of_lt_of_le q2.1 e9.1, q3 _ e9⟩) rfl ?_
        refine GoR.call rfl rfl (aOp_callFunc aFunc58 rfl) (span58_ok xlo xhi 100 5 s2 (by decide) _) ?_ (by rintro _ _ ⟨q, _⟩; cases q)
        rintro v66 h66 ⟨q, x66⟩
        cases q
        refine ⟨_, rfl, ?_⟩
        replace f0 := f0.ext x66
        replace e0 := e0.trans x66
        replace e9 := e9.trans x66
        iterate 2 refine GoR.op rfl rfl rfl rfl ?_
        refine GoR.end ?_
        refine Go.cond noJ_ok (b := false) rfl ?_
        refine Go.code noJ_ok ?_
        refine Go.inBlock noJ_ok ?_
        refine Go.region noJ_ok rfl ?_
        refine GoR.op rfl rfl rfl rfl ?_
        refine GoR.op rfl rfl (aOp_add rfl rfl (by constructor <;> omega) rfl) rfl ?_
        refine GoR.op rfl rfl rfl rfl ?_
        refine GoR.end ?_
        simp only [decide_eq_true_eq] at s1 s2
        exact again (m - 1) (i + 1) _ _ (by omega) ⟨rfl, rfl, trivial⟩ ⟨by omega, e0, f0, hstep ⟨s1.1, s1.2, s2.1, s2.2.1, s2.2.2.1, s2.2.2.2⟩⟩
    have hH : ∀ x, x ∈ F.hs → HOk x := by
      rw [List.take_of_length_le (by omega)] at hin
      exact hin
    clear again hin
    iterate 2 refine Go.seq noJ_ok ?_
    refine Go.region noJ_ok rfl ?_
    refine GoR.op rfl rfl rfl rfl ?_
    refine GoR.op rfl rfl (fa27_0 rfl) rfl ?_
    refine GoR.op rfl rfl (ld22 rfl f0 rfl) rfl ?_
    refine GoR.op rfl rfl (aOp_lenSlice Try.underlying22 rfl hl1) rfl ?_
    refine GoR.op rfl rfl (aOp_lss rfl rfl (r := false) (decide_eq_false (by omega))) rfl ?_
    refine GoR.end ?_
    refine Go.cond noJ_ok (b := false) rfl ?_
    refine Go.code noJ_ok ?_
    iterate 2 refine Go.seq noJ_ok ?_
    refine Go.region noJ_ok rfl ?_
    refine GoR.op rfl rfl rfl rfl ?_
    refine GoR.end ?_
    refine Go.block noJ_ok ?_
    refine Go.loopKeep (fun i : Nat => [(1, .ptr h.next 0), (4, .int .i64 (i : Nat))]) (fun m i h' => m + i = F.rs.length ∧ Ext h h' ∧ Has h' h.next (.cells .plain [hsl, rsl, .int .i64 F.a, .int .i64 F.b, .int .i64 F.c, .int .i64 F.lim, lsl] 27) ∧ ∀ x, x ∈ F.rs.take i → ROk x) (n := F.rs.length) 0 ⟨rfl, rfl, trivial⟩ ⟨rfl, e0, by assumption, (by simp)⟩ ?_
    clear e0 f0
    rintro m i h4 ⟨hm, e0, f0, hin⟩ again
    by_cases hi : i < F.rs.length
    · obtain ⟨x, hx⟩ : ∃ x, F.rs[i]? = some x := ⟨F.rs[i], by simp [hi]⟩
      obtain ⟨bq, off, q1, q2⟩ := (A.rs.ext e0).at (i := i) (l := spC x) (by rw [List.getElem?_map, hx]; rfl)
      rw [List.length_map] at q1
      have hstep := take_all (P := ROk) hx hin
      obtain ⟨xlo, xhi⟩ := x
      unfold spC at q2
      dsimp only at q2
      unfold ROk at hstep
      dsimp only at hstep
      cases s2 : decide (0 ≤ xlo ∧ xlo ≤ xhi ∧ xhi ≤ 10 ∧ xhi - xlo ≤ 3) with
      | false =>
        iterate 2 refine Go.seq noJ_ok ?_
        refine Go.region noJ_ok rfl ?_
        refine GoR.op rfl rfl rfl rfl ?_
        refine GoR.op rfl rfl (fa27_1 rfl) rfl ?_
        refine GoR.op rfl rfl (ld23 rfl f0 rfl) rfl ?_
        refine GoR.op rfl rfl (aOp_lenSlice Try.underlying23 rfl hl2) rfl ?_
        refine GoR.op rfl rfl (aOp_lss rfl rfl (r := true) (decide_eq_true (by omega))) rfl ?_
        refine GoR.end ?_
        refine Go.cond noJ_ok (b := true) rfl ?_
        refine Go.code noJ_ok ?_
        refine Go.seq noJ_ok ?_
        refine Go.block noJ_ok ?_
        refine Go.seq noJ_ok ?_
        refine Go.region noJ_ok rfl ?_
        refine GoR.op rfl rfl (fa27_1 rfl) rfl ?_
        refine GoR.op rfl rfl (ld23 rfl f0 rfl) rfl ?_
        refine GoR.op rfl rfl rfl rfl ?_
        refine GoR.op rfl rfl (aOp_indexAddr Try.underlying23 sz30 rfl q1 rfl (Nat.ble_eq_true_of_le hi)) rfl ?_
        refine GoR.op rfl rfl (aOp_loadE ag30 sz30 rfl q2) rfl ?_
        refine GoR.call rfl rfl (aOp_callFunc aFunc58 rfl) (span58_ok xlo xhi 10 3 s2 (by decide) _) ?_ (by rintro _ _ ⟨q, _⟩; cases q)
        rintro v65 h65 ⟨q, x65⟩
        cases q
        refine ⟨_, rfl, ?_⟩
        replace f0 := f0.ext x65
        replace e0 := e0.trans x65
        refine GoR.op rfl rfl rfl rfl ?_
        refine GoR.end ?_
        refine Go.cond noJ_ok (b := true) rfl ?_
        refine Go.seq noJ_ok ?_
        refine Go.region noJ_ok rfl ?_
        refine GoR.op rfl rfl rfl rfl ?_
        refine GoR.end ?_
        exact Go.ret noJ_ok (ret_end (aResult_of Try.func23 rfl rfl) ⟨false, rfl, (no_iff fun O => by have k := O.r _ (List.mem_of_getElem? hx); have q := of_decide_eq_false s2; dsimp only at k; omega), e0⟩)
      | true =>
        iterate 2 refine Go.seq noJ_ok ?_
        refine Go.region noJ_ok rfl ?_
        refine GoR.op rfl rfl rfl rfl ?_
        refine GoR.op rfl rfl (fa27_1 rfl) rfl ?_
        refine GoR.op rfl rfl (ld23 rfl f0 rfl) rfl ?_
        refine GoR.op rfl rfl (aOp_lenSlice Try.underlying23 rfl hl2) rfl ?_
        refine GoR.op rfl rfl (aOp_lss rfl rfl (r := true) (decide_eq_true (by omega))) rfl ?_
        refine GoR.end ?_
        refine Go.cond noJ_ok (b := true) rfl ?_
        refine Go.code noJ_ok ?_
        refine Go.seq noJ_ok ?_
        refine Go.block noJ_ok ?_
        refine Go.seq noJ_ok ?_
        refine Go.region noJ_ok rfl ?_
        refine GoR.op rfl rfl (fa27_1 rfl) rfl ?_
        refine GoR.op rfl rfl (ld23 rfl f0 rfl) rfl ?_
        refine GoR.op rfl rfl rfl rfl ?_
        refine GoR.op rfl rfl (aOp_indexAddr Try.underlying23 sz30 rfl q1 rfl (Nat.ble_eq_true_of_le hi)) rfl ?_
        refine GoR.op rfl rfl (aOp_loadE ag30 sz30 rfl q2) rfl ?_
        refine GoR.call rfl rfl (aOp_callFunc aFunc58 rfl) (span58_ok xlo xhi 10 3 s2 (by decide) _) ?_ (by rintro _ _ ⟨q, _⟩; cases q)
        rintro v65 h65 ⟨q, x65⟩
        cases q
        refine ⟨_, rfl, ?_⟩
        replace f0 := f0.ext x65
        replace e0 := e0.trans x65
        refine GoR.op rfl rfl rfl rfl ?_
        refine GoR.end ?_
        refine Go.cond noJ_ok (b := false) rfl ?_
        refine Go.code noJ_ok ?_
        refine Go.inBlock noJ_ok ?_
        refine Go.region noJ_ok rfl ?_
        refine GoR.op rfl rfl rfl rfl ?_
        refine GoR.op rfl rfl (aOp_add rfl rfl (by constructor <;> omega) rfl) rfl ?_
        refine GoR.op rfl rfl rfl rfl ?_
        refine GoR.end ?_
        simp only [decide_eq_true_eq] at s2
        exact again (m - 1) (i + 1) _ _ (by omega) ⟨rfl, rfl, trivial⟩ ⟨by omega, e0, f0, hstep s2⟩
    have hRr : ∀ x, x ∈ F.rs → ROk x := by
      rw [List.take_of_length_le (by omega)] at hin
      exact hin
    clear again hin
    iterate 2 refine Go.seq noJ_ok ?_
    refine Go.region noJ_ok rfl ?_
    refine GoR.op rfl rfl rfl rfl ?_
    refine GoR.op rfl rfl (fa27_1 rfl) rfl ?_
    refine GoR.op rfl rfl (ld23 rfl f0 rfl) rfl ?_
    refine GoR.op rfl rfl (aOp_lenSlice Try.underlying23 rfl hl2) rfl ?_
    refine GoR.op rfl rfl (aOp_lss rfl rfl (r := false) (decide_eq_false (by omega))) rfl ?_
    refine GoR.end ?_
    refine Go.cond noJ_ok (b := false) rfl ?_
    refine Go.code noJ_ok ?_
    iterate 2 refine Go.seq noJ_ok ?_
    refine Go.region noJ_ok rfl ?_
    refine GoR.op rfl rfl rfl rfl ?_
    refine GoR.end ?_
    refine Go.block noJ_ok ?_
    refine Go.loopKeep (fun i : Nat => [(1, .ptr h.next 0), (5, .int .i64 (i : Nat))]) (fun m i h' => m + i = 3 ∧ Ext h h' ∧ Has h' h.next (.cells .plain [hsl, rsl, .int .i64 F.a, .int .i64 F.b, .int .i64 F.c, .int .i64 F.lim, lsl] 27) ∧ (1 ≤ i → 0 ≤ F.a ∧ F.a ≤ 20) ∧ (2 ≤ i → 0 ≤ F.b ∧ F.b ≤ 20 ∧ F.a ≤ F.b) ∧ (3 ≤ i → 0 ≤ F.c ∧ F.c ≤ 20 ∧ F.b ≤ F.c)) (n := 3) 0 ⟨rfl, rfl, trivial⟩ ⟨rfl, e0, by assumption, ⟨fun q => by omega, fun q => by omega, fun q => by omega⟩⟩ ?_
    clear e0 f0
    rintro m i h4 ⟨hm, e0, f0, d1, d2, d3⟩ again
    match i, hm, d1, d2, d3 with
    | 0, hm, d1, d2, d3 =>
      cases s1 : decide (0 ≤ F.a ∧ F.a ≤ 20) with
      | false =>
        iterate 2 refine Go.seq noJ_ok ?_
        refine Go.region noJ_ok rfl ?_
        refine GoR.op rfl rfl rfl rfl ?_
        refine GoR.op rfl rfl (aOp_lss rfl rfl (r := true) (decide_eq_true (by omega))) rfl ?_
        refine GoR.end ?_
        refine Go.cond noJ_ok (b := true) rfl ?_
        refine Go.code noJ_ok ?_
        refine Go.seq noJ_ok ?_
        refine Go.block noJ_ok ?_
        refine Go.seq noJ_ok ?_
        refine Go.drawnE plan23_0 ?_
        refine GoE.quiet rfl rfl rfl rfl ?_
        refine GoE.quiet rfl rfl (fa27_2 rfl) rfl ?_
        refine GoE.quiet rfl rfl (aOp_indexAddrArr (i := 0) Try.underlying24 sz3 rfl rfl rfl) rfl ?_
        refine GoE.quiet rfl rfl (ld3 rfl f0 rfl) rfl ?_
        refine GoE.call rfl rfl (aOp_callFunc aFunc57 rfl) (in57_ok F.a 0 20 s1 _) (dropF_drop (show bit? 15 3 = true from rfl) (dropF_drop (show bit? 15 2 = true from rfl) (dropF_drop (show bit? 15 1 = true from rfl) (dropF_drop (show bit? 15 0 = true from rfl) rfl)))) ?_ (by rintro _ _ ⟨q, _⟩; cases q)
        rintro v65 h65 ⟨q, x65⟩
        cases q
        replace f0 := f0.ext x65
        replace e0 := e0.trans x65
        refine ⟨recheck_nil, _, rfl, ?_⟩
        iterate 2 refine GoE.quiet rfl rfl rfl rfl ?_
        iterate 14 refine GoE.skip rfl rfl rfl ?_
        refine GoE.quiet rfl rfl rfl rfl ?_
        refine GoE.end rfl ?_
        refine Go.cond noJ_ok (b := true) rfl ?_
        refine Go.seq noJ_ok ?_
        refine Go.region noJ_ok rfl ?_
        refine GoR.op rfl rfl rfl rfl ?_
        refine GoR.end ?_
        exact Go.ret noJ_ok (ret_end (aResult_of Try.func23 rfl rfl) ⟨false, rfl, (no_iff fun O => by have k := O.d; have q := of_decide_eq_false s1; omega), e0⟩)
      | true =>
        iterate 2 refine Go.seq noJ_ok ?_
        refine Go.region noJ_ok rfl ?_
        refine GoR.op rfl rfl rfl rfl ?_
        refine GoR.op rfl rfl (aOp_lss rfl rfl (r := true) (decide_eq_true (by omega))) rfl ?_
        refine GoR.end ?_
        refine Go.cond noJ_ok (b := true) rfl ?_
        refine Go.code noJ_ok ?_
        refine Go.seq noJ_ok ?_
        refine Go.block noJ_ok ?_
        refine Go.seq noJ_ok ?_
        refine Go.drawnE plan23_0 ?_
        refine GoE.quiet rfl rfl rfl rfl ?_
        refine GoE.quiet rfl rfl (fa27_2 rfl) rfl ?_
        refine GoE.quiet rfl rfl (aOp_indexAddrArr (i := 0) Try.underlying24 sz3 rfl rfl rfl) rfl ?_
        refine GoE.quiet rfl rfl (ld3 rfl f0 rfl) rfl ?_
        refine GoE.call rfl rfl (aOp_callFunc aFunc57 rfl) (in57_ok F.a 0 20 s1 _) (dropF_drop (show bit? 15 3 = true from rfl) (dropF_drop (show bit? 15 2 = true from rfl) (dropF_drop (show bit? 15 1 = true from rfl) (dropF_drop (show bit? 15 0 = true from rfl) rfl)))) ?_ (by rintro _ _ ⟨q, _⟩; cases q)
        rintro v65 h65 ⟨q, x65⟩
        cases q
        replace f0 := f0.ext x65
        replace e0 := e0.trans x65
        refine ⟨recheck_nil, _, rfl, ?_⟩
        iterate 3 refine GoE.quiet rfl rfl rfl rfl ?_
        refine GoE.quiet rfl rfl (aOp_gtr rfl rfl (r := false) (decide_eq_false (by omega))) rfl ?_
        refine GoE.quiet rfl rfl rfl rfl ?_
        iterate 10 refine GoE.skip rfl rfl rfl ?_
        iterate 2 refine GoE.quiet rfl rfl rfl rfl ?_
        refine GoE.end rfl ?_
        refine Go.cond noJ_ok (b := false) rfl ?_
        refine Go.code noJ_ok ?_
        refine Go.inBlock noJ_ok ?_
        refine Go.region noJ_ok rfl ?_
        refine GoR.op rfl rfl rfl rfl ?_
        refine GoR.op rfl rfl (aOp_add rfl rfl (by constructor <;> omega) rfl) rfl ?_
        refine GoR.op rfl rfl rfl rfl ?_
        refine GoR.end ?_
        simp only [decide_eq_true_eq] at s1
        exact again 2 1 _ _ (by omega) ⟨rfl, rfl, trivial⟩ ⟨rfl, e0, f0, fun _ => s1, fun q => by omega, fun q => by omega⟩
    | 1, hm, d1, d2, d3 =>
      cases s1 : decide (0 ≤ F.b ∧ F.b ≤ 20) with
      | false =>
        iterate 2 refine Go.seq noJ_ok ?_
        refine Go.region noJ_ok rfl ?_
        refine GoR.op rfl rfl rfl rfl ?_
        refine GoR.op rfl rfl (aOp_lss rfl rfl (r := true) (decide_eq_true (by omega))) rfl ?_
        refine GoR.end ?_
        refine Go.cond noJ_ok (b := true) rfl ?_
        refine Go.code noJ_ok ?_
        refine Go.seq noJ_ok ?_
        refine Go.block noJ_ok ?_
        refine Go.seq noJ_ok ?_
        refine Go.drawnE plan23_0 ?_
        refine GoE.quiet rfl rfl rfl rfl ?_
        refine GoE.quiet rfl rfl (fa27_2 rfl) rfl ?_
        refine GoE.quiet rfl rfl (aOp_indexAddrArr (i := 1) Try.underlying24 sz3 rfl rfl rfl) rfl ?_
        refine GoE.quiet rfl rfl (ld3 rfl f0 rfl) rfl ?_
        refine GoE.call rfl rfl (aOp_callFunc aFunc57 rfl) (in57_ok F.b 0 20 s1 _) (dropF_drop (show bit? 15 3 = true from rfl) (dropF_drop (show bit? 15 2 = true from rfl) (dropF_drop (show bit? 15 1 = true from rfl) (dropF_drop (show bit? 15 0 = true from rfl) rfl)))) ?_ (by rintro _ _ ⟨q, _⟩; cases q)
        rintro v65 h65 ⟨q, x65⟩
        cases q
        replace f0 := f0.ext x65
        replace e0 := e0.trans x65
        refine ⟨recheck_nil, _, rfl, ?_⟩
        iterate 2 refine GoE.quiet rfl rfl rfl rfl ?_
        iterate 14 refine GoE.skip rfl rfl rfl ?_
        refine GoE.quiet rfl rfl rfl rfl ?_
        refine GoE.end rfl ?_
        refine Go.cond noJ_ok (b := true) rfl ?_
        refine Go.seq noJ_ok ?_
        refine Go.region noJ_ok rfl ?_
        refine GoR.op rfl rfl rfl rfl ?_
        refine GoR.end ?_
        exact Go.ret noJ_ok (ret_end (aResult_of Try.func23 rfl rfl) ⟨false, rfl, (no_iff fun O => by have k := O.d; have q := of_decide_eq_false s1; omega), e0⟩)
      | true =>
      by_cases s2 : F.b < F.a
      · iterate 2 refine Go.seq noJ_ok ?_
        refine Go.region noJ_ok rfl ?_
        refine GoR.op rfl rfl rfl rfl ?_
        refine GoR.op rfl rfl (aOp_lss rfl rfl (r := true) (decide_eq_true (by omega))) rfl ?_
        refine GoR.end ?_
        refine Go.cond noJ_ok (b := true) rfl ?_
        refine Go.code noJ_ok ?_
        refine Go.seq noJ_ok ?_
        refine Go.block noJ_ok ?_
        refine Go.seq noJ_ok ?_
        refine Go.drawnE plan23_0 ?_
        refine GoE.quiet rfl rfl rfl rfl ?_
        refine GoE.quiet rfl rfl (fa27_2 rfl) rfl ?_
        refine GoE.quiet rfl rfl (aOp_indexAddrArr (i := 1) Try.underlying24 sz3 rfl rfl rfl) rfl ?_
        refine GoE.quiet rfl rfl (ld3 rfl f0 rfl) rfl ?_
        refine GoE.call rfl rfl (aOp_callFunc aFunc57 rfl) (in57_ok F.b 0 20 s1 _) (dropF_drop (show bit? 15 3 = true from rfl) (dropF_drop (show bit? 15 2 = true from rfl) (dropF_drop (show bit? 15 1 = true from rfl) (dropF_drop (show bit? 15 0 = true from rfl) rfl)))) ?_ (by rintro _ _ ⟨q, _⟩; cases q)
        rintro v65 h65 ⟨q, x65⟩
        cases q
        replace f0 := f0.ext x65
        replace e0 := e0.trans x65
        refine ⟨recheck_nil, _, rfl, ?_⟩
        iterate 3 refine GoE.quiet rfl rfl rfl rfl ?_
        refine GoE.quiet rfl rfl (aOp_gtr rfl rfl (r := true) (decide_eq_true (by omega))) rfl ?_
        iterate 2 refine GoE.quiet rfl rfl rfl rfl ?_
        refine GoE.quiet rfl rfl (fa27_2 rfl) rfl ?_
        refine GoE.quiet rfl rfl (aOp_indexAddrArr (i := 1) Try.underlying24 sz3 rfl rfl rfl) rfl ?_
        refine GoE.quiet rfl rfl (ld3 rfl f0 rfl) rfl ?_
        refine GoE.quiet rfl rfl rfl rfl ?_
        refine GoE.quiet rfl rfl (aOp_sub rfl rfl (by constructor <;> omega) rfl) rfl ?_
        refine GoE.quiet rfl rfl (fa27_2 rfl) rfl ?_
        refine GoE.quiet rfl rfl (aOp_indexAddrArr (i := 0) Try.underlying24 sz3 rfl rfl rfl) rfl ?_
        refine GoE.quiet rfl rfl (ld3 rfl f0 rfl) rfl ?_
        refine GoE.quiet rfl rfl (aOp_lss rfl rfl (r := true) (decide_eq_true (by omega))) rfl ?_
        iterate 2 refine GoE.quiet rfl rfl rfl rfl ?_
        refine GoE.end rfl ?_
        refine Go.cond noJ_ok (b := true) rfl ?_
        refine Go.seq noJ_ok ?_
        refine Go.region noJ_ok rfl ?_
        refine GoR.op rfl rfl rfl rfl ?_
        refine GoR.end ?_
        exact Go.ret noJ_ok (ret_end (aResult_of Try.func23 rfl rfl) ⟨false, rfl, (no_iff fun O => by have k := O.d; omega), e0⟩)
      · iterate 2 refine Go.seq noJ_ok ?_
        refine Go.region noJ_ok rfl ?_
        refine GoR.op rfl rfl rfl rfl ?_
        refine GoR.op rfl rfl (aOp_lss rfl rfl (r := true) (decide_eq_true (by omega))) rfl ?_
        refine GoR.end ?_
        refine Go.cond noJ_ok (b := true) rfl ?_
        refine Go.code noJ_ok ?_
        refine Go.seq noJ_ok ?_
        refine Go.block noJ_ok ?_
        refine Go.seq noJ_ok ?_
        refine Go.drawnE plan23_0 ?_
        refine GoE.quiet rfl rfl rfl rfl ?_
        refine GoE.quiet rfl rfl (fa27_2 rfl) rfl ?_
        refine GoE.quiet rfl rfl (aOp_indexAddrArr (i := 1) Try.underlying24 sz3 rfl rfl rfl) rfl ?_
        refine GoE.quiet rfl rfl (ld3 rfl f0 rfl) rfl ?_
        refine GoE.call rfl rfl (aOp_callFunc aFunc57 rfl) (in57_ok F.b 0 20 s1 _) (dropF_drop (show bit? 15 3 = true from rfl) (dropF_drop (show bit? 15 2 = true from rfl) (dropF_drop (show bit? 15 1 = true from rfl) (dropF_drop (show bit? 15 0 = true from rfl) rfl)))) ?_ (by rintro _ _ ⟨q, _⟩; cases q)
        rintro v65 h65 ⟨q, x65⟩
        cases q
        replace f0 := f0.ext x65
        replace e0 := e0.trans x65
        refine ⟨recheck_nil, _, rfl, ?_⟩
        iterate 3 refine GoE.quiet rfl rfl rfl rfl ?_
        refine GoE.quiet rfl rfl (aOp_gtr rfl rfl (r := true) (decide_eq_true (by omega))) rfl ?_
        iterate 2 refine GoE.quiet rfl rfl rfl rfl ?_
        refine GoE.quiet rfl rfl (fa27_2 rfl) rfl ?_
        refine GoE.quiet rfl rfl (aOp_indexAddrArr (i := 1) Try.underlying24 sz3 rfl rfl rfl) rfl ?_
        refine GoE.quiet rfl rfl (ld3 rfl f0 rfl) rfl ?_
        refine GoE.quiet rfl rfl rfl rfl ?_
        refine GoE.quiet rfl rfl (aOp_sub rfl rfl (by constructor <;> omega) rfl) rfl ?_
        refine GoE.quiet rfl rfl (fa27_2 rfl) rfl ?_
        refine GoE.quiet rfl rfl (aOp_indexAddrArr (i := 0) Try.underlying24 sz3 rfl rfl rfl) rfl ?_
        refine GoE.quiet rfl rfl (ld3 rfl f0 rfl) rfl ?_
        refine GoE.quiet rfl rfl (aOp_lss rfl rfl (r := false) (decide_eq_false (by omega))) rfl ?_
        iterate 2 refine GoE.quiet rfl rfl rfl rfl ?_
        refine GoE.end rfl ?_
        refine Go.cond noJ_ok (b := false) rfl ?_
        refine Go.code noJ_ok ?_
        refine Go.inBlock noJ_ok ?_
        refine Go.region noJ_ok rfl ?_
        refine GoR.op rfl rfl rfl rfl ?_
        refine GoR.op rfl rfl (aOp_add rfl rfl (by constructor <;> omega) rfl) rfl ?_
        refine GoR.op rfl rfl rfl rfl ?_
        refine GoR.end ?_
        simp only [decide_eq_true_eq] at s1
        exact again 1 2 _ _ (by omega) ⟨rfl, rfl, trivial⟩ ⟨rfl, e0, f0, fun _ => d1 (by omega), fun _ => ⟨s1.1, s1.2, by omega⟩, fun q => by omega⟩
    | 2, hm, d1, d2, d3 =>
      cases s1 : decide (0 ≤ F.c ∧ F.c ≤ 20) with
      | false =>
        iterate 2 refine Go.seq noJ_ok ?_
        refine Go.region noJ_ok rfl ?_
        refine GoR.op rfl rfl rfl rfl ?_
        refine GoR.op rfl rfl (aOp_lss rfl rfl (r := true) (decide_eq_true (by omega))) rfl ?_
        refine GoR.end ?_
        refine Go.cond noJ_ok (b := true) rfl ?_
        refine Go.code noJ_ok ?_
        refine Go.seq noJ_ok ?_
        refine Go.block noJ_ok ?_
        refine Go.seq noJ_ok ?_
        refine Go.drawnE plan23_0 ?_
        refine GoE.quiet rfl rfl rfl rfl ?_
        refine GoE.quiet rfl rfl (fa27_2 rfl) rfl ?_
        refine GoE.quiet rfl rfl (aOp_indexAddrArr (i := 2) Try.underlying24 sz3 rfl rfl rfl) rfl ?_
        refine GoE.quiet rfl rfl (ld3 rfl f0 rfl) rfl ?_
        refine GoE.call rfl rfl (aOp_callFunc aFunc57 rfl) (in57_ok F.c 0 20 s1 _) (dropF_drop (show bit? 15 3 = true from rfl) (dropF_drop (show bit? 15 2 = true from rfl) (dropF_drop (show bit? 15 1 = true from rfl) (dropF_drop (show bit? 15 0 = true from rfl) rfl)))) ?_ (by rintro _ _ ⟨q, _⟩; cases q)
        rintro v65 h65 ⟨q, x65⟩
        cases q
        replace f0 := f0.ext x65
        replace e0 := e0.trans x65
        refine ⟨recheck_nil, _, rfl, ?_⟩
        iterate 2 refine GoE.quiet rfl rfl rfl rfl ?_
        iterate 14 refine GoE.skip rfl rfl rfl ?_
        refine GoE.quiet rfl rfl rfl rfl ?_
        refine GoE.end rfl ?_
        refine Go.cond noJ_ok (b := true) rfl ?_
        refine Go.seq noJ_ok ?_
        refine Go.region noJ_ok rfl ?_
        refine GoR.op rfl rfl rfl rfl ?_
        refine GoR.end ?_
        exact Go.ret noJ_ok (ret_end (aResult_of Try.func23 rfl rfl) ⟨false, rfl, (no_iff fun O => by have k := O.d; have q := of_decide_eq_false s1; omega), e0⟩)
      | true =>
      by_cases s2 : F.c < F.b
      · iterate 2 refine Go.seq noJ_ok ?_
        refine Go.region noJ_ok rfl ?_
        refine GoR.op rfl rfl rfl rfl ?_
        refine GoR.op rfl rfl (aOp_lss rfl rfl (r := true) (decide_eq_true (by omega))) rfl ?_
        refine GoR.end ?_
        refine Go.cond noJ_ok (b := true) rfl ?_
        refine Go.code noJ_ok ?_
        refine Go.seq noJ_ok ?_
        refine Go.block noJ_ok ?_
        refine Go.seq noJ_ok ?_
        refine Go.drawnE plan23_0 ?_
        refine GoE.quiet rfl rfl rfl rfl ?_
        refine GoE.quiet rfl rfl (fa27_2 rfl) rfl ?_
        refine GoE.quiet rfl rfl (aOp_indexAddrArr (i := 2) Try.underlying24 sz3 rfl rfl rfl) rfl ?_
        refine GoE.quiet rfl rfl (ld3 rfl f0 rfl) rfl ?_
        refine GoE.call rfl rfl (aOp_callFunc aFunc57 rfl) (in57_ok F.c 0 20 s1 _) (dropF_drop (show bit? 15 3 = true from rfl) (dropF_drop (show bit? 15 2 = true from rfl) (dropF_drop (show bit? 15 1 = true from rfl) (dropF_drop (show bit? 15 0 = true from rfl) rfl)))) ?_ (by rintro _ _ ⟨q, _⟩; cases q)
        rintro v65 h65 ⟨q, x65⟩
        cases q
        replace f0 := f0.ext x65
        replace e0 := e0.trans x65
        refine ⟨recheck_nil, _, rfl, ?_⟩
        iterate 3 refine GoE.quiet rfl rfl rfl rfl ?_
        refine GoE.quiet rfl rfl (aOp_gtr rfl rfl (r := true) (decide_eq_true (by omega))) rfl ?_
        iterate 2 refine GoE.quiet rfl rfl rfl rfl ?_
        refine GoE.quiet rfl rfl (fa27_2 rfl) rfl ?_
        refine GoE.quiet rfl rfl (aOp_indexAddrArr (i := 2) Try.underlying24 sz3 rfl rfl rfl) rfl ?_
        refine GoE.quiet rfl rfl (ld3 rfl f0 rfl) rfl ?_
        refine GoE.quiet rfl rfl rfl rfl ?_
        refine GoE.quiet rfl rfl (aOp_sub rfl rfl (by constructor <;> omega) rfl) rfl ?_
        refine GoE.quiet rfl rfl (fa27_2 rfl) rfl ?_
        refine GoE.quiet rfl rfl (aOp_indexAddrArr (i := 1) Try.underlying24 sz3 rfl rfl rfl) rfl ?_
        refine GoE.quiet rfl rfl (ld3 rfl f0 rfl) rfl ?_
        refine GoE.quiet rfl rfl (aOp_lss rfl rfl (r := true) (decide_eq_true (by omega))) rfl ?_
        iterate 2 refine GoE.quiet rfl rfl rfl rfl ?_
        refine GoE.end rfl ?_
        refine Go.cond noJ_ok (b := true) rfl ?_
        refine Go.seq noJ_ok ?_
        refine Go.region noJ_ok rfl ?_
        refine GoR.op rfl rfl rfl rfl ?_
        refine GoR.end ?_
        exact Go.ret noJ_ok (ret_end (aResult_of Try.func23 rfl rfl) ⟨false, rfl, (no_iff fun O => by have k := O.d; omega), e0⟩)
      · iterate 2 refine Go.seq noJ_ok ?_
        refine Go.region noJ_ok rfl ?_
        refine GoR.op rfl rfl rfl rfl ?_
        refine GoR.op rfl rfl (aOp_lss rfl rfl (r := true) (decide_eq_true (by omega))) rfl ?_
        refine GoR.end ?_
        refine Go.cond noJ_ok (b := true) rfl ?_
        refine Go.code noJ_ok ?_
        refine Go.seq noJ_ok ?_
        refine Go.block noJ_ok ?_
        refine Go.seq noJ_ok ?_
        refine Go.drawnE plan23_0 ?_
        refine GoE.quiet rfl rfl rfl rfl ?_
        refine GoE.quiet rfl rfl (fa27_2 rfl) rfl ?_
        refine GoE.quiet rfl rfl (aOp_indexAddrArr (i := 2) Try.underlying24 sz3 rfl rfl rfl) rfl ?_
        refine GoE.quiet rfl rfl (ld3 rfl f0 rfl) rfl ?_
        refine GoE.call rfl rfl (aOp_callFunc aFunc57 rfl) (in57_ok F.c 0 20 s1 _) (dropF_drop (show bit? 15 3 = true from rfl) (dropF_drop (show bit? 15 2 = true from rfl) (dropF_drop (show bit? 15 1 = true from rfl) (dropF_drop (show bit? 15 0 = true from rfl) rfl)))) ?_ (by rintro _ _ ⟨q, _⟩; cases q)
        rintro v65 h65 ⟨q, x65⟩
        cases q
        replace f0 := f0.ext x65
        replace e0 := e0.trans x65
        refine ⟨recheck_nil, _, rfl, ?_⟩
        iterate 3 refine GoE.quiet rfl rfl rfl rfl ?_
        refine GoE.quiet rfl rfl (aOp_gtr rfl rfl (r := true) (decide_eq_true (by omega))) rfl ?_
        iterate 2 refine GoE.quiet rfl rfl rfl rfl ?_
        refine GoE.quiet rfl rfl (fa27_2 rfl) rfl ?_
        refine GoE.quiet rfl rfl (aOp_indexAddrArr (i := 2) Try.underlying24 sz3 rfl rfl rfl) rfl ?_
        refine GoE.quiet rfl rfl (ld3 rfl f0 rfl) rfl ?_
        refine GoE.quiet rfl rfl rfl rfl ?_
        refine GoE.quiet rfl rfl (aOp_sub rfl rfl (by constructor <;> omega) rfl) rfl ?_
        refine GoE.quiet rfl rfl (fa27_2 rfl) rfl ?_
        refine GoE.quiet rfl rfl (aOp_indexAddrArr (i := 1) Try.underlying24 sz3 rfl rfl rfl) rfl ?_
        refine GoE.quiet rfl rfl (ld3 rfl f0 rfl) rfl ?_
        refine GoE.quiet rfl rfl (aOp_lss rfl rfl (r := false) (decide_eq_false (by omega))) rfl ?_
        iterate 2 refine GoE.quiet rfl rfl rfl rfl ?_
        refine GoE.end rfl ?_
        refine Go.cond noJ_ok (b := false) rfl ?_
        refine Go.code noJ_ok ?_
        refine Go.inBlock noJ_ok ?_
        refine Go.region noJ_ok rfl ?_
        refine GoR.op rfl rfl rfl rfl ?_
        refine GoR.op rfl rfl (aOp_add rfl rfl (by constructor <;> omega) rfl) rfl ?_
        refine GoR.op rfl rfl rfl rfl ?_
        refine GoR.end ?_
        simp only [decide_eq_true_eq] at s1
        exact again 0 3 _ _ (by omega) ⟨rfl, rfl, trivial⟩ ⟨rfl, e0, f0, fun _ => d1 (by omega), fun _ => d2 (by omega), fun _ => ⟨s1.1, s1.2, by omega⟩⟩
    | 3, hm, d1, d2, d3 =>
    replace d1 := d1 (by omega)
    replace d2 := d2 (by omega)
    replace d3 := d3 (by omega)
    clear again
    iterate 2 refine Go.seq noJ_ok ?_
    refine Go.region noJ_ok rfl ?_
    refine GoR.op rfl rfl rfl rfl ?_
    refine GoR.op rfl rfl (aOp_lss rfl rfl (r := false) (decide_eq_false (by omega))) rfl ?_
    refine GoR.end ?_
    refine Go.cond noJ_ok (b := false) rfl ?_
    refine Go.code noJ_ok ?_
    iterate 2 refine Go.seq noJ_ok ?_
    refine Go.region noJ_ok rfl ?_
    refine GoR.op rfl rfl rfl rfl ?_
    refine GoR.end ?_
    refine Go.block noJ_ok ?_
    refine Go.loopKeep (fun i : Nat => [(1, .ptr h.next 0), (6, .int .i64 (i : Nat))]) (fun m i h' => m + i = F.looks.length ∧ Ext h h' ∧ Has h' h.next (.cells .plain [hsl, rsl, .int .i64 F.a, .int .i64 F.b, .int .i64 F.c, .int .i64 F.lim, lsl] 27) ∧ ∀ x, x ∈ F.looks.take i → LOk F x) (n := F.looks.length) 0 ⟨rfl, rfl, trivial⟩ ⟨rfl, e0, by assumption, (by simp)⟩ ?_
    clear e0 f0
    rintro m i h4 ⟨hm, e0, f0, hin⟩ again
    by_cases hi : i < F.looks.length
    · obtain ⟨x, hx⟩ : ∃ x, F.looks[i]? = some x := ⟨F.looks[i], by simp [hi]⟩
      obtain ⟨bq, off, q1, q2⟩ := (A.ls.ext e0).at (i := i) (l := LookV.cells x) (by rw [List.getElem?_map, hx]; rfl)
      rw [List.length_map] at q1
      have hstep := take_all (P := LOk F) hx hin
      obtain ⟨xh, xd, xlo, xhi⟩ := x
      unfold LookV.cells at q2
      dsimp only at q2
      unfold LOk at hstep
      dsimp only at hstep
      cases s1 : decide (0 ≤ xh ∧ xh < (F.hs.length : Int)) with
      | false =>
        iterate 2 refine Go.seq noJ_ok ?_
        refine Go.region noJ_ok rfl ?_
        refine GoR.op rfl rfl rfl rfl ?_
        refine GoR.op rfl rfl (fa27_4 rfl) rfl ?_
        refine GoR.op rfl rfl (ld25 rfl f0 rfl) rfl ?_
        refine GoR.op rfl rfl (aOp_lenSlice Try.underlying25 rfl hl3) rfl ?_
        refine GoR.op rfl rfl (aOp_lss rfl rfl (r := true) (decide_eq_true (by omega))) rfl ?_
        refine GoR.end ?_
        refine Go.cond noJ_ok (b := true) rfl ?_
        refine Go.code noJ_ok ?_
        refine Go.seq noJ_ok ?_
        refine Go.block noJ_ok ?_
        refine Go.seq noJ_ok ?_
        refine Go.region noJ_ok rfl ?_
        refine GoR.op rfl rfl (fa27_4 rfl) rfl ?_
        refine GoR.op rfl rfl (ld25 rfl f0 rfl) rfl ?_
        refine GoR.op rfl rfl rfl rfl ?_
        refine GoR.op rfl rfl (aOp_indexAddr Try.underlying25 sz59 rfl q1 rfl (Nat.ble_eq_true_of_le hi)) rfl ?_
        refine GoR.op rfl rfl (aOp_loadE ag59 sz59 rfl q2) rfl ?_
        refine GoR.alloc rfl rfl rfl zt59 rfl rfl fun h65 x65 f65 => ?_
        have := e0.1
        have := f0.1
        replace f0 := f0.ext x65
        replace e0 := e0.trans x65
        have := f65.1
        refine GoR.store rfl rfl rfl rfl rfl rfl f65 rfl sz59 rfl rfl rfl fun h66 u66 => ?_
        replace f65 := u66.has f65
        replace f0 := f0.upd u66 (by omega)
        first | replace e0 := e0.upd u66 (by omega) | clear e0
        refine GoR.end ?_
        refine Go.seq noJ_ok ?_
        refine Go.region noJ_ok rfl ?_
        refine GoR.op rfl rfl (ld27 rfl f0 rfl) rfl ?_
        refine GoR.op rfl rfl (fa59_0 rfl) rfl ?_
        refine GoR.op rfl rfl (ld3 rfl f65 rfl) rfl ?_
        refine GoR.call rfl rfl (aOp_callFunc aFunc59 rfl) (h59 xh _ s1 _) ?_ (by rintro _ _ ⟨q, _⟩; cases q)
        rintro v67 h67 ⟨q, x67⟩
        cases q
        refine ⟨_, rfl, ?_⟩
        replace f65 := f65.ext x67
        replace f0 := f0.ext x67
        replace e0 := e0.trans x67
        iterate 2 refine GoR.op rfl rfl rfl rfl ?_
        iterate 5 refine GoR.skip rfl rfl rfl ?_
        iterate 2 refine GoR.op rfl rfl rfl rfl ?_
        iterate 4 refine GoR.skip rfl rfl rfl ?_
        refine GoR.op rfl rfl rfl rfl ?_
        refine GoR.end ?_
        refine Go.cond noJ_ok (b := true) rfl ?_
        refine Go.seq noJ_ok ?_
        refine Go.region noJ_ok rfl ?_
        refine GoR.op rfl rfl rfl rfl ?_
        refine GoR.end ?_
        exact Go.ret noJ_ok (ret_end (aResult_of Try.func23 rfl rfl) ⟨false, rfl, (no_iff fun O => by have k := O.l _ (List.mem_of_getElem? hx); have q := of_decide_eq_false s1; dsimp only at k; omega), e0⟩)
      | true =>
      cases s2 : decide (0 ≤ xd ∧ xd < (F.rs.length : Int)) with
      | false =>
        iterate 2 refine Go.seq noJ_ok ?_
        refine Go.region noJ_ok rfl ?_
        refine GoR.op rfl rfl rfl rfl ?_
        refine GoR.op rfl rfl (fa27_4 rfl) rfl ?_
        refine GoR.op rfl rfl (ld25 rfl f0 rfl) rfl ?_
        refine GoR.op rfl rfl (aOp_lenSlice Try.underlying25 rfl hl3) rfl ?_
        refine GoR.op rfl rfl (aOp_lss rfl rfl (r := true) (decide_eq_true (by omega))) rfl ?_
        refine GoR.end ?_
        refine Go.cond noJ_ok (b := true) rfl ?_
        refine Go.code noJ_ok ?_
        refine Go.seq noJ_ok ?_
        refine Go.block noJ_ok ?_
        refine Go.seq noJ_ok ?_
        refine Go.region noJ_ok rfl ?_
        refine GoR.op rfl rfl (fa27_4 rfl) rfl ?_
        refine GoR.op rfl rfl (ld25 rfl f0 rfl) rfl ?_
        refine GoR.op rfl rfl rfl rfl ?_
        refine GoR.op rfl rfl (aOp_indexAddr Try.underlying25 sz59 rfl q1 rfl (Nat.ble_eq_true_of_le hi)) rfl ?_
        refine GoR.op rfl rfl (aOp_loadE ag59 sz59 rfl q2) rfl ?_
        refine GoR.alloc rfl rfl rfl zt59 rfl rfl fun h65 x65 f65 => ?_
        have := e0.1
        have := f0.1
        replace f0 := f0.ext x65
        replace e0 := e0.trans x65
        have := f65.1
        refine GoR.store rfl rfl rfl rfl rfl rfl f65 rfl sz59 rfl rfl rfl fun h66 u66 => ?_
        replace f65 := u66.has f65
        replace f0 := f0.upd u66 (by omega)
        first | replace e0 := e0.upd u66 (by omega) | clear e0
        refine GoR.end ?_
        refine Go.seq noJ_ok ?_
        refine Go.region noJ_ok rfl ?_
        refine GoR.op rfl rfl (ld27 rfl f0 rfl) rfl ?_
        refine GoR.op rfl rfl (fa59_0 rfl) rfl ?_
        refine GoR.op rfl rfl (ld3 rfl f65 rfl) rfl ?_
        refine GoR.call rfl rfl (aOp_callFunc aFunc59 rfl) (h59 xh _ s1 _) ?_ (by rintro _ _ ⟨q, _⟩; cases q)
        rintro v67 h67 ⟨q, x67⟩
        cases q
        refine ⟨_, rfl, ?_⟩
        replace f65 := f65.ext x67
        replace f0 := f0.ext x67
        replace e0 := e0.trans x67
        iterate 2 refine GoR.op rfl rfl rfl rfl ?_
        refine GoR.op rfl rfl (ld27 rfl f0 rfl) rfl ?_
        refine GoR.op rfl rfl (fa59_1 rfl) rfl ?_
        refine GoR.op rfl rfl (ld3 rfl f65 rfl) rfl ?_
        refine GoR.call rfl rfl (aOp_callFunc aFunc60 rfl) (h60 xd _ s2 _) ?_ (by rintro _ _ ⟨q, _⟩; cases q)
        rintro v68 h68 ⟨q, x68⟩
        cases q
        refine ⟨_, rfl, ?_⟩
        replace f65 := f65.ext x68
        replace f0 := f0.ext x68
        replace e0 := e0.trans x68
        iterate 3 refine GoR.op rfl rfl rfl rfl ?_
        iterate 4 refine GoR.skip rfl rfl rfl ?_
        refine GoR.op rfl rfl rfl rfl ?_
        refine GoR.end ?_
        refine Go.cond noJ_ok (b := true) rfl ?_
        refine Go.seq noJ_ok ?_
        refine Go.region noJ_ok rfl ?_
        refine GoR.op rfl rfl rfl rfl ?_
        refine GoR.end ?_
        exact Go.ret noJ_ok (ret_end (aResult_of Try.func23 rfl rfl) ⟨false, rfl, (no_iff fun O => by have k := O.l _ (List.mem_of_getElem? hx); have q := of_decide_eq_false s2; dsimp only at k; omega), e0⟩)
      | true =>
      cases s3 : decide (0 ≤ xlo ∧ xlo ≤ xhi ∧ xhi ≤ 100 ∧ xhi - xlo ≤ 100) with
      | false =>
        iterate 2 refine Go.seq noJ_ok ?_
        refine Go.region noJ_ok rfl ?_
        refine GoR.op rfl rfl rfl rfl ?_
        refine GoR.op rfl rfl (fa27_4 rfl) rfl ?_
        refine GoR.op rfl rfl (ld25 rfl f0 rfl) rfl ?_
        refine GoR.op rfl rfl (aOp_lenSlice Try.underlying25 rfl hl3) rfl ?_
        refine GoR.op rfl rfl (aOp_lss rfl rfl (r := true) (decide_eq_true (by omega))) rfl ?_
        refine GoR.end ?_
        refine Go.cond noJ_ok (b := true) rfl ?_
        refine Go.code noJ_ok ?_
        refine Go.seq noJ_ok ?_
        refine Go.block noJ_ok ?_
        refine Go.seq noJ_ok ?_
        refine Go.region noJ_ok rfl ?_
        refine GoR.op rfl rfl (fa27_4 rfl) rfl ?_
        refine GoR.op rfl rfl (ld25 rfl f0 rfl) rfl ?_
        refine GoR.op rfl rfl rfl rfl ?_
        refine GoR.op rfl rfl (aOp_indexAddr Try.underlying25 sz59 rfl q1 rfl (Nat.ble_eq_true_of_le hi)) rfl ?_
        refine GoR.op rfl rfl (aOp_loadE ag59 sz59 rfl q2) rfl ?_
        refine GoR.alloc rfl rfl rfl zt59 rfl rfl fun h65 x65 f65 => ?_
        have := e0.1
        have := f0.1
        replace f0 := f0.ext x65
        replace e0 := e0.trans x65
        have := f65.1
        refine GoR.store rfl rfl rfl rfl rfl rfl f65 rfl sz59 rfl rfl rfl fun h66 u66 => ?_
        replace f65 := u66.has f65
        replace f0 := f0.upd u66 (by omega)
        first | replace e0 := e0.upd u66 (by omega) | clear e0
        refine GoR.end ?_
        refine Go.seq noJ_ok ?_
        refine Go.region noJ_ok rfl ?_
        refine GoR.op rfl rfl (ld27 rfl f0 rfl) rfl ?_
        refine GoR.op rfl rfl (fa59_0 rfl) rfl ?_
        refine GoR.op rfl rfl (ld3 rfl f65 rfl) rfl ?_
        refine GoR.call rfl rfl (aOp_callFunc aFunc59 rfl) (h59 xh _ s1 _) ?_ (by rintro _ _ ⟨q, _⟩; cases q)
        rintro v67 h67 ⟨q, x67⟩
        cases q
        refine ⟨_, rfl, ?_⟩
        replace f65 := f65.ext x67
        replace f0 := f0.ext x67
        replace e0 := e0.trans x67
        iterate 2 refine GoR.op rfl rfl rfl rfl ?_
        refine GoR.op rfl rfl (ld27 rfl f0 rfl) rfl ?_
        refine GoR.op rfl rfl (fa59_1 rfl) rfl ?_
        refine GoR.op rfl rfl (ld3 rfl f65 rfl) rfl ?_
        refine GoR.call rfl rfl (aOp_callFunc aFunc60 rfl) (h60 xd _ s2 _) ?_ (by rintro _ _ ⟨q, _⟩; cases q)
        rintro v68 h68 ⟨q, x68⟩
        cases q
        refine ⟨_, rfl, ?_⟩
        replace f65 := f65.ext x68
        replace f0 := f0.ext x68
        replace e0 := e0.trans x68
        iterate 3 refine GoR.op rfl rfl rfl rfl ?_
        refine GoR.op rfl rfl (fa59_2 rfl) rfl ?_
        refine GoR.op rfl rfl (ld30 rfl f65 rfl) rfl ?_
        refine GoR.call rfl rfl (aOp_callFunc aFunc58 rfl) (span58_ok xlo xhi 100 100 s3 (by decide) _) ?_ (by rintro _ _ ⟨q, _⟩; cases q)
        rintro v69 h69 ⟨q, x69⟩
        cases q
        refine ⟨_, rfl, ?_⟩
        replace f65 := f65.ext x69
        replace f0 := f0.ext x69
        replace e0 := e0.trans x69
        iterate 2 refine GoR.op rfl rfl rfl rfl ?_
        refine GoR.end ?_
        refine Go.cond noJ_ok (b := true) rfl ?_
        refine Go.seq noJ_ok ?_
        refine Go.region noJ_ok rfl ?_
        refine GoR.op rfl rfl rfl rfl ?_
        refine GoR.end ?_
        exact Go.ret noJ_ok (ret_end (aResult_of Try.func23 rfl rfl) ⟨false, rfl, (no_iff fun O => by have k := O.l _ (List.mem_of_getElem? hx); have q := of_decide_eq_false s3; dsimp only at k; omega), e0⟩)
      | true =>
        iterate 2 refine Go.seq noJ_ok ?_
        refine Go.region noJ_ok rfl ?_
        refine GoR.op rfl rfl rfl rfl ?_
        refine GoR.op rfl rfl (fa27_4 rfl) rfl ?_
        refine GoR.op rfl rfl (ld25 rfl f0 rfl) rfl ?_
        refine GoR.op rfl rfl (aOp_lenSlice Try.underlying25 rfl hl3) rfl ?_
        refine GoR.op rfl rfl (aOp_lss rfl rfl (r := true) (decide_eq_true (by omega))) rfl ?_
        refine GoR.end ?_
        refine Go.cond noJ_ok (b := true) rfl ?_
        refine Go.code noJ_ok ?_
        refine Go.seq noJ_ok ?_
        refine Go.block noJ_ok ?_
        refine Go.seq noJ_ok ?_
        refine Go.region noJ_ok rfl ?_
        refine GoR.op rfl rfl (fa27_4 rfl) rfl ?_
        refine GoR.op rfl rfl (ld25 rfl f0 rfl) rfl ?_
        refine GoR.op rfl rfl rfl rfl ?_
        refine GoR.op rfl rfl (aOp_indexAddr Try.underlying25 sz59 rfl q1 rfl (Nat.ble_eq_true_of_le hi)) rfl ?_
        refine GoR.op rfl rfl (aOp_loadE ag59 sz59 rfl q2) rfl ?_
        refine GoR.alloc rfl rfl rfl zt59 rfl rfl fun h65 x65 f65 => ?_
        have := e0.1
        have := f0.1
        replace f0 := f0.ext x65
        replace e0 := e0.trans x65
        have := f65.1
        refine GoR.store rfl rfl rfl rfl rfl rfl f65 rfl sz59 rfl rfl rfl fun h66 u66 => ?_
        replace f65 := u66.has f65
        replace f0 := f0.upd u66 (by omega)
        first | replace e0 := e0.upd u66 (by omega) | clear e0
        refine GoR.end ?_
        refine Go.seq noJ_ok ?_
        refine Go.region noJ_ok rfl ?_
        refine GoR.op rfl rfl (ld27 rfl f0 rfl) rfl ?_
        refine GoR.op rfl rfl (fa59_0 rfl) rfl ?_
        refine GoR.op rfl rfl (ld3 rfl f65 rfl) rfl ?_
        refine GoR.call rfl rfl (aOp_callFunc aFunc59 rfl) (h59 xh _ s1 _) ?_ (by rintro _ _ ⟨q, _⟩; cases q)
        rintro v67 h67 ⟨q, x67⟩
        cases q
        refine ⟨_, rfl, ?_⟩
        replace f65 := f65.ext x67
        replace f0 := f0.ext x67
        replace e0 := e0.trans x67
        iterate 2 refine GoR.op rfl rfl rfl rfl ?_
        refine GoR.op rfl rfl (ld27 rfl f0 rfl) rfl ?_
        refine GoR.op rfl rfl (fa59_1 rfl) rfl ?_
        refine GoR.op rfl rfl (ld3 rfl f65 rfl) rfl ?_
        refine GoR.call rfl rfl (aOp_callFunc aFunc60 rfl) (h60 xd _ s2 _) ?_ (by rintro _ _ ⟨q, _⟩; cases q)
        rintro v68 h68 ⟨q, x68⟩
        cases q
        refine ⟨_, rfl, ?_⟩
        replace f65 := f65.ext x68
        replace f0 := f0.ext x68
        replace e0 := e0.trans x68
        iterate 3 refine GoR.op rfl rfl rfl rfl ?_
        refine GoR.op rfl rfl (fa59_2 rfl) rfl ?_
        refine GoR.op rfl rfl (ld30 rfl f65 rfl) rfl ?_
        refine GoR.call rfl rfl (aOp_callFunc aFunc58 rfl) (span58_ok xlo xhi 100 100 s3 (by decide) _) ?_ (by rintro _ _ ⟨q, _⟩; cases q)
        rintro v69 h69 ⟨q, x69⟩
        cases q
        refine ⟨_, rfl, ?_⟩
        replace f65 := f65.ext x69
        replace f0 := f0.ext x69
        replace e0 := e0.trans x69
        iterate 2 refine GoR.op rfl rfl rfl rfl ?_
        refine GoR.end ?_
        refine Go.cond noJ_ok (b := false) rfl ?_
        refine Go.code noJ_ok ?_
        refine Go.inBlock noJ_ok ?_
        refine Go.region noJ_ok rfl ?_
        refine GoR.op rfl rfl rfl rfl ?_
        refine GoR.op rfl rfl (aOp_add rfl rfl (by constructor <;> omega) rfl) rfl ?_
        refine GoR.op rfl rfl rfl rfl ?_
        refine GoR.end ?_
        simp only [decide_eq_true_eq] at s1 s2 s3
        exact again (m - 1) (i + 1) _ _ (by omega) ⟨rfl, rfl, trivial⟩ ⟨by omega, e0, f0, hstep ⟨s1.1, s1.2, s2.1, s2.2, s3.1, s3.2.1, s3.2.2.1⟩⟩
    have hLl : ∀ x, x ∈ F.looks → LOk F x := by
      rw [List.take_of_length_le (by omega)] at hin
      exact hin
    clear again hin
    have OK : F.Ok := ⟨by omega, hH, by omega, hRr, by omega, r3, r4, hLl⟩
    iterate 2 refine Go.seq noJ_ok ?_
    refine Go.region noJ_ok rfl ?_
    refine GoR.op rfl rfl rfl rfl ?_
    refine GoR.op rfl rfl (fa27_4 rfl) rfl ?_
    refine GoR.op rfl rfl (ld25 rfl f0 rfl) rfl ?_
    refine GoR.op rfl rfl (aOp_lenSlice Try.underlying25 rfl hl3) rfl ?_
    refine GoR.op rfl rfl (aOp_lss rfl rfl (r := false) (decide_eq_false (by omega))) rfl ?_
    refine GoR.end ?_
    refine Go.cond noJ_ok (b := false) rfl ?_
    refine Go.code noJ_ok ?_
    refine Go.seq noJ_ok ?_
    refine Go.region noJ_ok rfl ?_
    refine GoR.op rfl rfl rfl rfl ?_
    refine GoR.end ?_
    exact Go.ret noJ_ok (ret_end (aResult_of Try.func23 rfl rfl) ⟨true, rfl, (iff_of_true rfl OK), e0⟩)
  · refine Runs.intro aFunc23 rfl rfl rfl rfl fun rest => ?_
    refine Go.seq noJ_ok ?_
    refine Go.region noJ_ok rfl ?_
    refine GoR.box rfl rfl rfl rfl rfl rfl fun h61 x61 f61 => ?_
    have e0 := x61
    have := f61.1
    refine GoR.op rfl rfl rfl rfl ?_
    refine GoR.end ?_
    iterate 2 refine Go.seq noJ_ok ?_
    refine Go.region noJ_ok rfl ?_
    refine GoR.op rfl rfl (fa27_0 rfl) rfl ?_
    refine GoR.op rfl rfl (ld22 rfl f61 rfl) rfl ?_
    refine GoR.op rfl rfl (aOp_lenSlice Try.underlying22 rfl hl1) rfl ?_
    refine GoR.call rfl rfl (aOp_callFunc aFunc57 rfl) (in57_ok F.hs.length 1 3 r1 _) ?_ (by rintro _ _ ⟨q, _⟩; cases q)
    rintro v62 h62 ⟨q, x62⟩
    cases q
    refine ⟨_, rfl, ?_⟩
    replace f61 := f61.ext x62
    replace e0 := e0.trans x62
    iterate 2 refine GoR.op rfl rfl rfl rfl ?_
    refine GoR.op rfl rfl (fa27_1 rfl) rfl ?_
    refine GoR.op rfl rfl (ld23 rfl f61 rfl) rfl ?_
    refine GoR.op rfl rfl (aOp_lenSlice Try.underlying23 rfl hl2) rfl ?_
    refine GoR.call rfl rfl (aOp_callFunc aFunc57 rfl) (in57_ok F.rs.length 1 6 r2 _) ?_ (by rintro _ _ ⟨q, _⟩; cases q)
    rintro v63 h63 ⟨q, x63⟩
    cases q
    refine ⟨_, rfl, ?_⟩
    replace f61 := f61.ext x63
    replace e0 := e0.trans x63
    iterate 3 refine GoR.op rfl rfl rfl rfl ?_
    refine GoR.op rfl rfl (fa27_3 rfl) rfl ?_
    refine GoR.op rfl rfl (ld3 rfl f61 rfl) rfl ?_
    refine GoR.call rfl rfl (aOp_callFunc aFunc57 rfl) (in57_ok F.lim 0 100 r3 _) ?_ (by rintro _ _ ⟨q, _⟩; cases q)
    rintro v64 h64 ⟨q, x64⟩
    cases q
    refine ⟨_, rfl, ?_⟩
    replace f61 := f61.ext x64
    replace e0 := e0.trans x64
    iterate 3 refine GoR.op rfl rfl rfl rfl ?_
    refine GoR.op rfl rfl (fa27_4 rfl) rfl ?_
    refine GoR.op rfl rfl (ld25 rfl f61 rfl) rfl ?_
    refine GoR.op rfl rfl (aOp_lenSlice Try.underlying25 rfl hl3) rfl ?_
    refine GoR.op rfl rfl (aOp_gtr rfl rfl (r := true) (decide_eq_true (by omega))) rfl ?_
    refine GoR.op rfl rfl rfl rfl ?_
    refine GoR.end ?_
    refine Go.cond noJ_ok (b := true) rfl ?_
    refine Go.seq noJ_ok ?_
    refine Go.region noJ_ok rfl ?_
    refine GoR.op rfl rfl rfl rfl ?_
    refine GoR.end ?_
    exact Go.ret noJ_ok (ret_end (aResult_of Try.func23 rfl rfl) ⟨false, rfl, (no_iff fun O => by have k := O.nl; omega), e0⟩)
end Go.Proofs.Ytmdheijpnlonoaa

namespace Go.Proofs.Ytmdheijpnlonoaa
open Go Go.AbsE
set_option linter.unusedSimpArgs false
set_option maxRecDepth 100000
set_option maxHeartbeats 0
set_option linter.unusedVariables false
end Go.Proofs.Ytmdheijpnlonoaa

namespace Go.Proofs.Ytmdheijpnlonoaa
open Go Go.AbsE
set_option linter.unusedSimpArgs false
set_option maxRecDepth 100000
set_option maxHeartbeats 0
set_option linter.unusedVariables false
end Go.Proofs.Ytmdheijpnlonoaa

namespace Go.Proofs.Ytmdheijpnlonoaa
open Go Go.AbsE
set_option linter.unusedSimpArgs false
set_option maxRecDepth 100000
set_option maxHeartbeats 0
set_option linter.unusedVariables false
end Go.Proofs.Ytmdheijpnlonoaa

namespace Go.Proofs.Ytmdheijpnlonoaa
open Go Go.AbsE
set_option linter.unusedSimpArgs false
set_option maxRecDepth 100000
set_option maxHeartbeats 0
set_option linter.unusedVariables false
end Go.Proofs.Ytmdheijpnlonoaa

namespace Go.Proofs.Ytmdheijpnlonoaa
open Go Go.AbsE
set_option linter.unusedSimpArgs false
set_option maxRecDepth 100000
set_option maxHeartbeats 0
set_option linter.unusedVariables false
def u16s (l : List Int) : List (List AVal) := l.map fun x => [AVal.int .u16 x]
theorem draws25_ok (s : AVal) (h : AH) (hs : scalars [s] = true) (hc : s.cells = [s]) : Runs Try.prog 25 [s] h (fun en h' => ∃ ba bb, en = .ret (.func (.func 61) [] [.ptr ba 0, .ptr bb 0]) ∧ Ext h h' ∧ h.next ≤ ba ∧ h.next ≤ bb ∧ ba ≠ bb ∧ Has h' ba (.cells .plain [.int .i64 0] 3) ∧ Has h' bb (.cells .plain [s] 47)) := by
  refine Runs.intro aFunc25 rfl rfl rfl rfl fun rest => ?_
  refine Go.seq noJ_ok ?_
  refine Go.region noJ_ok rfl ?_
  refine GoR.box rfl rfl rfl rfl rfl rfl fun h0 x0 f0 => ?_
  have e0 := x0
  have := f0.1
  refine GoR.op rfl rfl rfl rfl ?_
  refine GoR.end ?_
  refine Go.seq noJ_ok ?_
  refine Go.region noJ_ok rfl ?_
  refine GoR.alloc rfl rfl rfl zt3 rfl rfl fun h1 x1 f1 => ?_
  have := e0.1
  have := f0.1
  replace f0 := f0.ext x1
  replace e0 := e0.trans x1
  have := f1.1
  refine GoR.store rfl rfl rfl rfl rfl rfl f1 rfl sz3 rfl rfl rfl fun h2 u2 => ?_
  replace f1 := u2.has f1
  replace f0 := f0.upd u2 (by omega)
  first | replace e0 := e0.upd u2 (by omega) | clear e0
  refine GoR.end ?_
  refine Go.seq noJ_ok ?_
  refine Go.region noJ_ok rfl ?_
  iterate 2 refine GoR.op rfl rfl rfl rfl ?_
  refine GoR.end ?_
  rw [hc] at f0
  have l0 := x0.1
  have l1 := f0.1
  exact Go.ret noJ_ok (ret_end (aResult_of Try.func25 rfl rfl) ⟨h0.next, h.next, rfl, e0, l0, Nat.le_refl _, by omega, f1, f0⟩)
theorem draw61_ok {bs : List Int} (hbs : ∀ x, x ∈ bs → 0 ≤ x ∧ x < 65536) (s : AVal) (ba bb : Nat) (n lo hi : Int) (hn : 0 ≤ n ∧ n ≤ 1000) (hl : 0 ≤ lo ∧ lo ≤ hi ∧ hi ≤ 1000) (h : AH) (fa : Has h ba (.cells .plain [.int .i64 n] 3)) (fb : Has h bb (.cells .plain [s] 47)) (hab : ba ≠ bb) {g : AH} (hs : SliceOf g 1 s (u16s bs)) (eg : Ext g h) (hga : g.next ≤ ba) (hlen : bs.length < 9223372036854775808) :
    Runs Try.prog 61 [.agg [.int .i64 lo, .int .i64 hi], .ptr ba 0, .ptr bb 0] h (fun en h' => ∃ v, en = .ret (.int .i64 v) ∧ lo ≤ v ∧ v ≤ hi ∧ ExtF (fun b => b = ba) h h' ∧ Has h' ba (.cells .plain [.int .i64 (n + 1)] 3)) := by
  have hsl := hs.len
  unfold u16s at hsl
  rw [List.length_map] at hsl
  have y0 : ExtF (fun b => b = ba) h h := ExtF.of (Ext.refl _)
  have la := fa.1
  have lb := fb.1
  obtain ⟨nl, hnl⟩ : ∃ nl, bs.length = nl := ⟨_, rfl⟩
  rw [hnl] at hsl hlen
  by_cases h0' : nl = 0
  · have hz : decide (((nl : Nat) : Int) = 0) = true := decide_eq_true (by omega)
    refine Runs.intro aFunc61 rfl rfl rfl rfl fun rest => ?_
    refine Go.seq noJ_ok ?_
    refine Go.region noJ_ok rfl ?_
    refine GoR.box rfl rfl rfl rfl rfl rfl fun h0 x0 f0 => ?_
    have := eg.1
    have := fa.1
    have := fb.1
    replace fa := fa.ext x0
    replace fb := fb.ext x0
    replace eg := eg.trans x0
    replace y0 := y0.ext x0
    have := f0.1
    refine GoR.op rfl rfl rfl rfl ?_
    refine GoR.end ?_
    refine Go.seq noJ_ok ?_
    refine Go.region noJ_ok rfl ?_
    refine GoR.op rfl rfl (ld3 rfl fa rfl) rfl ?_
    refine GoR.op rfl rfl (aOp_add rfl rfl (by constructor <;> omega) rfl) rfl ?_
    refine GoR.store rfl rfl rfl rfl rfl rfl fa rfl sz3 rfl rfl rfl fun h1 u1 => ?_
    replace f0 := f0.upd u1 (by omega)
    replace fa := u1.has fa
    replace fb := fb.upd u1 (by omega)
    first | replace eg := eg.upd u1 (by omega) | clear eg
    first | replace y0 := y0.upd u1 (by first | exact .inl rfl | exact .inl (.inl rfl) | exact .inl (.inr rfl) | exact .inl (by assumption) | exact .inr (by omega)) | skip
    refine GoR.end ?_
    iterate 2 refine Go.seq noJ_ok ?_
    refine Go.region noJ_ok rfl ?_
    refine GoR.op rfl rfl (ld47 rfl fb rfl) rfl ?_
    refine GoR.op rfl rfl (aOp_lenSlice Try.underlying47 rfl hsl) rfl ?_
    refine GoR.op rfl rfl (aOp_eql rfl rfl hz) rfl ?_
    refine GoR.end ?_
    refine Go.cond noJ_ok (b := true) rfl ?_
    refine Go.seq noJ_ok ?_
    refine Go.region noJ_ok rfl ?_
    refine GoR.op rfl rfl (fa30_0 rfl) rfl ?_
    refine GoR.op rfl rfl (ld3 rfl f0 rfl) rfl ?_
    refine GoR.op rfl rfl rfl rfl ?_
    refine GoR.end ?_
    exact Go.ret noJ_ok (ret_end (aResult_of Try.func61 rfl rfl) ⟨_, rfl, Int.le_refl _, hl.2.1, y0, fa⟩)
  · have hz : decide (((nl : Nat) : Int) = 0) = false := decide_eq_false (by omega)
    obtain ⟨n', hn'⟩ : ∃ n' : Nat, n + 1 = (n' : Nat) := ⟨(n + 1).toNat, by omega⟩
    obtain ⟨k, hk⟩ : ∃ k, n' % nl = k := ⟨_, rfl⟩
    have hk2 : k < nl := by rw [← hk]; exact Nat.mod_lt _ (by omega)
    have hrem : (n + 1).tmod ((nl : Nat) : Int) = (k : Nat) := by rw [hn', ← hk]; rfl
    obtain ⟨x, hx⟩ : ∃ x, bs[k]? = some x := ⟨bs[k]'(by omega), by simp⟩
    have hxb := hbs x (List.mem_of_getElem? hx)
    obtain ⟨bq, off, p1, p2⟩ := hs.at (i := k) (l := [AVal.int .u16 x]) (by unfold u16s; rw [List.getElem?_map, hx]; rfl)
    unfold u16s at p1
    rw [List.length_map, hnl] at p1
    have he : ∀ h', ExtF (fun b => b = ba) h h' → Ext g h' := fun h' y => y.low eg (fun b q => by have : b = ba := q; omega)
    obtain ⟨m, hm⟩ : ∃ m, (73 : Int) * (n + 1) = m := ⟨_, rfl⟩
    obtain ⟨q, hq2⟩ : ∃ q, (x + m).tmod (hi - lo + 1) = q := ⟨_, rfl⟩
    have hq3 : 0 ≤ q ∧ q ≤ hi - lo := by
      have h1 : 0 ≤ x + m := by omega
      rw [Int.tmod_eq_emod_of_nonneg h1] at hq2
      have h2 := Int.emod_nonneg (x + m) (b := hi - lo + 1) (by omega)
      have h3 := Int.emod_lt_of_pos (x + m) (b := hi - lo + 1) (by omega)
      omega
    refine Runs.intro aFunc61 rfl rfl rfl rfl fun rest => ?_
    refine Go.seq noJ_ok ?_
    refine Go.region noJ_ok rfl ?_
    refine GoR.box rfl rfl rfl rfl rfl rfl fun h0 x0 f0 => ?_
    have := eg.1
    have := fa.1
    have := fb.1
    replace fa := fa.ext x0
    replace fb := fb.ext x0
    replace eg := eg.trans x0
    replace y0 := y0.ext x0
    have := f0.1
    refine GoR.op rfl rfl rfl rfl ?_
    refine GoR.end ?_
    refine Go.seq noJ_ok ?_
    refine Go.region noJ_ok rfl ?_
    refine GoR.op rfl rfl (ld3 rfl fa rfl) rfl ?_
    refine GoR.op rfl rfl (aOp_add rfl rfl (by constructor <;> omega) rfl) rfl ?_
    refine GoR.store rfl rfl rfl rfl rfl rfl fa rfl sz3 rfl rfl rfl fun h1 u1 => ?_
    replace f0 := f0.upd u1 (by omega)
    replace fa := u1.has fa
    replace fb := fb.upd u1 (by omega)
    first | replace eg := eg.upd u1 (by omega) | clear eg
    first | replace y0 := y0.upd u1 (by first | exact .inl rfl | exact .inl (.inl rfl) | exact .inl (.inr rfl) | exact .inl (by assumption) | exact .inr (by omega)) | skip
    refine GoR.end ?_
    iterate 2 refine Go.seq noJ_ok ?_
    refine Go.region noJ_ok rfl ?_
    refine GoR.op rfl rfl (ld47 rfl fb rfl) rfl ?_
    refine GoR.op rfl rfl (aOp_lenSlice Try.underlying47 rfl hsl) rfl ?_
    refine GoR.op rfl rfl (aOp_eql rfl rfl hz) rfl ?_
    refine GoR.end ?_
    refine Go.cond noJ_ok (b := false) rfl ?_
    refine Go.code noJ_ok ?_
    refine Go.seq noJ_ok ?_
    refine Go.drawnE plan61_0 ?_
    refine GoE.quiet rfl rfl (fa30_0 rfl) rfl ?_
    refine GoE.quiet rfl rfl (ld3 rfl f0 rfl) rfl ?_
    refine GoE.quiet rfl rfl (ld47 rfl fb rfl) rfl ?_
    refine GoE.quiet rfl rfl (ld3 rfl fa rfl) rfl ?_
    refine GoE.quiet rfl rfl (ld47 rfl fb rfl) rfl ?_
    refine GoE.quiet rfl rfl (aOp_lenSlice Try.underlying47 rfl hsl) rfl ?_
    refine GoE.quiet rfl rfl (aOp_rem rfl rfl (by omega) hrem) rfl ?_
    refine GoE.quiet rfl rfl (aOp_indexAddr Try.underlying47 sz93 rfl p1 rfl (Nat.ble_eq_true_of_le hk2)) rfl ?_
    refine GoE.quiet rfl rfl (aOp_loadE1 (k := 0) ag93 rfl (p2.ext (he _ y0)) rfl) rfl ?_
    refine GoE.quiet rfl rfl (aOp_convU16 rfl Try.underlying93 Try.underlying3 hxb) rfl ?_
    refine GoE.quiet rfl rfl (ld3 rfl fa rfl) rfl ?_
    refine GoE.quiet rfl rfl (aOp_mul rfl rfl hm (by omega)) rfl ?_
    refine GoE.quiet rfl rfl (aOp_add rfl rfl (by constructor <;> omega) rfl) rfl ?_
    refine GoE.quiet rfl rfl (fa30_1 rfl) rfl ?_
    refine GoE.quiet rfl rfl (ld3 rfl f0 rfl) rfl ?_
    refine GoE.quiet rfl rfl (fa30_0 rfl) rfl ?_
    refine GoE.quiet rfl rfl (ld3 rfl f0 rfl) rfl ?_
    refine GoE.quiet rfl rfl (aOp_sub rfl rfl (by constructor <;> omega) rfl) rfl ?_
    refine GoE.quiet rfl rfl (aOp_add rfl rfl (by constructor <;> omega) rfl) rfl ?_
    refine GoE.quiet rfl rfl (aOp_rem rfl rfl (by omega) hq2) rfl ?_
    refine GoE.quiet rfl rfl (aOp_add rfl rfl (by constructor <;> omega) rfl) rfl ?_
    refine GoE.quiet rfl rfl rfl rfl ?_
    refine GoE.end rfl ?_
    exact Go.ret noJ_ok (ret_end (aResult_of Try.func61 rfl rfl) ⟨_, rfl, by omega, by omega, y0, fa⟩)
end Go.Proofs.Ytmdheijpnlonoaa

namespace Go.Proofs.Ytmdheijpnlonoaa
open Go Go.AbsE
set_option linter.unusedSimpArgs false
set_option maxRecDepth 100000
set_option maxHeartbeats 0
set_option linter.unusedVariables false
def inR : List Int → List (Int × Int) → Prop
  | [], [] => True
  | x :: l, r :: rs => (r.1 ≤ x ∧ x ≤ r.2) ∧ inR l rs
  | _, _ => False
theorem falls_iff : ∀ {rs : List (Int × Int)} {l : List Int}, l ∈ falls rs ↔ inR l rs
  | [], l => by
    cases l with
    | nil => simp [falls, inR]
    | cons x l => simp [falls, inR]
  | r :: rs, l => by
    cases l with
    | nil => simp [falls, inR]
    | cons x l =>
      simp only [falls, List.mem_flatMap, List.mem_map, List.mem_range, inR]
      rw [← falls_iff (rs := rs) (l := l)]
      constructor
      · rintro ⟨k, hk, l', hl', q⟩
        injection q with q1 q2
        subst q1 q2
        exact ⟨by omega, hl'⟩
      · rintro ⟨h1, h2⟩
        refine ⟨(x - r.1).toNat, by omega, l, h2, ?_⟩
        congr 1
        omega
theorem padF_at {l : List Int} {d : Nat} (hd : d < l.length) : ((padF l)[d]?).getD 0 = atD l d := by
  unfold padF atD
  rw [List.getElem?_append_left hd]
theorem rain_ends {F : FieldV} (O : F.Ok) (hne : F.ents ≠ []) {d : Nat} (hd : d < F.rs.length) :
    (∀ l, F.fell l → (F.rain d).1 ≤ atD l d ∧ atD l d ≤ (F.rain d).2) ∧ (∃ l, F.fell l ∧ (F.rain d).1 = atD l d) ∧ ∃ l, F.fell l ∧ (F.rain d).2 = atD l d := by
  have hg : ∀ x, x ∈ F.ents → Good ((x.2.1[d]?).getD 0, (x.2.1[d]?).getD 0) := by
    intro x hx
    obtain ⟨l, i, T, hl, hT, rfl⟩ := ents_all hx
    have hll := falls_len hl.1
    dsimp only
    rw [padF_at (by omega)]
    have := falls_in O.rains.2 hl.1 _ (atD_mem (c := l) (d := d) (by omega))
    unfold Good
    dsimp only
    omega
  obtain ⟨x0, hx0⟩ := List.exists_mem_of_ne_nil _ hne
  obtain ⟨j1, ⟨p, hp1, _, hp2⟩, q, hq1, _, hq2⟩ := joinL_ends (l := F.ents.map fun x => ((x.2.1[d]?).getD 0, (x.2.1[d]?).getD 0))
    (fun p hp => by obtain ⟨x, hx, rfl⟩ := List.mem_map.1 hp; exact .inr (hg x hx)) ⟨_, List.mem_map.2 ⟨x0, hx0, rfl⟩, hg x0 hx0⟩
  obtain ⟨x1, hx1, rfl⟩ := List.mem_map.1 hp1
  obtain ⟨x2, hx2, rfl⟩ := List.mem_map.1 hq1
  obtain ⟨l1, _, _, hl1, _, rfl⟩ := ents_all hx1
  obtain ⟨l2, _, _, hl2, _, rfl⟩ := ents_all hx2
  have hn1 := falls_len hl1.1
  have hn2 := falls_len hl2.1
  dsimp only at hp2 hq2
  rw [padF_at (by omega)] at hp2 hq2
  refine ⟨fun l hl => ?_, ⟨l1, hl1, hp2⟩, l2, hl2, hq2⟩
  have hts : F.ts.length = F.hs.length := turfsOf_len _ _
  have hnh := O.nh
  have hT0 : F.ts[0]? = some (F.ts[0]'(by omega)) := by simp
  have := j1 _ (List.mem_map.2 ⟨_, fell_ent hl hT0, rfl⟩)
  have hn := falls_len hl.1
  dsimp only at this
  rw [padF_at (by omega)] at this
  exact this
theorem possB_iff {a b c : Int} {t : TurfV} {rs : List Int} : possB a b c t rs = true ↔ ∃ y, y ∈ rightC a b c t rs := by
  unfold possB
  cases q : rightC a b c t rs with
  | nil => simp
  | cons y ys => simp
end Go.Proofs.Ytmdheijpnlonoaa

namespace Go.Proofs.Ytmdheijpnlonoaa
open Go Go.AbsE
set_option linter.unusedSimpArgs false
set_option maxRecDepth 100000
set_option maxHeartbeats 0
set_option linter.unusedVariables false
theorem flds59h : ∃ fs, Try.prog.underlying 59 = some (.struct fs) ∧ placesT Try.prog fs.toList = some [(0, 1), (1, 1), (2, 2)] := ⟨_, Try.underlying59, by kernel_rfl⟩
theorem look29_ok (a b c d : Int) (h : AH) : Runs Try.prog 29 [.int .i64 a, .int .i64 b, .int .i64 c, .int .i64 d] h (fun en h' => en = .ret (.agg [.int .i64 a, .int .i64 b, .int .i64 c, .int .i64 d]) ∧ Ext h h') := by
  obtain ⟨fs59, hu59, pl59⟩ := flds59h
  refine Runs.intro aFunc29 rfl rfl rfl rfl fun rest => ?_
  refine Go.seq noJ_ok ?_
  refine Go.region noJ_ok rfl ?_
  refine GoR.alloc rfl rfl rfl zt59 rfl rfl fun h0 x0 f0 => ?_
  have e0 := x0
  have := f0.1
  refine GoR.end ?_
  refine Go.seq noJ_ok ?_
  refine Go.region noJ_ok rfl ?_
  iterate 4 refine GoR.op rfl rfl rfl rfl ?_
  refine GoR.call rfl rfl (aOp_callFunc aFunc11 rfl) (span11_ok c d _) ?_ (by rintro _ _ ⟨q, _⟩; cases q)
  rintro v1 h1 ⟨q, x1⟩
  cases q
  refine ⟨_, rfl, ?_⟩
  replace f0 := f0.ext x1
  replace e0 := e0.trans x1
  refine GoR.op rfl rfl (aOp_build (ps := [(0, .int .i64 a), (1, .int .i64 b), (2, .agg [.int .i64 c, .int .i64 d])]) (cs := [.int .i64 a, .int .i64 b, .int .i64 c, .int .i64 d]) zt59 hu59 pl59 rfl rfl) rfl ?_
  refine GoR.store rfl rfl rfl rfl rfl rfl f0 rfl sz59 rfl rfl rfl fun h2 u2 => ?_
  replace f0 := u2.has f0
  first | replace e0 := e0.upd u2 (by omega) | clear e0
  refine GoR.end ?_
  exact Go.ret noJ_ok (ret_end (aResult_of Try.func29 rfl (aResults_cell rfl f0 (inCells_agg ag59 sz59 rfl))) ⟨rfl, e0⟩)
theorem inside27_ok (n lo hi : Int) {r : Bool} (hr : decide (lo ≤ n ∧ n ≤ hi) = r) (h : AH) : Runs Try.prog 27 [.int .i64 n, .agg [.int .i64 lo, .int .i64 hi]] h (fun en h' => en = .ret (.bool r) ∧ Ext h h') := by
  by_cases h1 : lo ≤ n
  · by_cases h2 : n ≤ hi
    · have : r = true := by rw [← hr]; exact decide_eq_true ⟨h1, h2⟩
      subst this
      refine Runs.intro aFunc27 rfl rfl rfl rfl fun rest => ?_
      refine Go.seq noJ_ok ?_
      refine Go.region noJ_ok rfl ?_
      refine GoR.box rfl rfl rfl rfl rfl rfl fun h3 x3 f3 => ?_
      have e0 := x3
      have := f3.1
      refine GoR.op rfl rfl rfl rfl ?_
      refine GoR.end ?_
      refine Go.seq noJ_ok ?_
      refine Go.region noJ_ok rfl ?_
      refine GoR.op rfl rfl (fa30_0 rfl) rfl ?_
      refine GoR.op rfl rfl (ld3 rfl f3 rfl) rfl ?_
      refine GoR.op rfl rfl rfl rfl ?_
      refine GoR.op rfl rfl (aOp_leq rfl rfl (r := true) (decide_eq_true (by omega))) rfl ?_
      iterate 2 refine GoR.op rfl rfl rfl rfl ?_
      refine GoR.op rfl rfl (fa30_1 rfl) rfl ?_
      refine GoR.op rfl rfl (ld3 rfl f3 rfl) rfl ?_
      refine GoR.op rfl rfl (aOp_leq rfl rfl (r := true) (decide_eq_true (by omega))) rfl ?_
      iterate 2 refine GoR.op rfl rfl rfl rfl ?_
      refine GoR.end ?_
      exact Go.ret noJ_ok (ret_end (aResult_of Try.func27 rfl rfl) ⟨rfl, e0⟩)
    · have : r = false := by rw [← hr]; exact decide_eq_false (by omega)
      subst this
      refine Runs.intro aFunc27 rfl rfl rfl rfl fun rest => ?_
      refine Go.seq noJ_ok ?_
      refine Go.region noJ_ok rfl ?_
      refine GoR.box rfl rfl rfl rfl rfl rfl fun h3 x3 f3 => ?_
      have e0 := x3
      have := f3.1
      refine GoR.op rfl rfl rfl rfl ?_
      refine GoR.end ?_
      refine Go.seq noJ_ok ?_
      refine Go.region noJ_ok rfl ?_
      refine GoR.op rfl rfl (fa30_0 rfl) rfl ?_
      refine GoR.op rfl rfl (ld3 rfl f3 rfl) rfl ?_
      refine GoR.op rfl rfl rfl rfl ?_
      refine GoR.op rfl rfl (aOp_leq rfl rfl (r := true) (decide_eq_true (by omega))) rfl ?_
      iterate 2 refine GoR.op rfl rfl rfl rfl ?_
      refine GoR.op rfl rfl (fa30_1 rfl) rfl ?_
      refine GoR.op rfl rfl (ld3 rfl f3 rfl) rfl ?_
      refine GoR.op rfl rfl (aOp_leq rfl rfl (r := false) (decide_eq_false (by omega))) rfl ?_
      iterate 2 refine GoR.op rfl rfl rfl rfl ?_
      refine GoR.end ?_
      exact Go.ret noJ_ok (ret_end (aResult_of Try.func27 rfl rfl) ⟨rfl, e0⟩)
  · have : r = false := by rw [← hr]; exact decide_eq_false (by omega)
    subst this
    refine Runs.intro aFunc27 rfl rfl rfl rfl fun rest => ?_
    refine Go.seq noJ_ok ?_
    refine Go.region noJ_ok rfl ?_
    refine GoR.box rfl rfl rfl rfl rfl rfl fun h2 x2 f2 => ?_
    have e0 := x2
    have := f2.1
    refine GoR.op rfl rfl rfl rfl ?_
    refine GoR.end ?_
    refine Go.seq noJ_ok ?_
    refine Go.region noJ_ok rfl ?_
    refine GoR.op rfl rfl (fa30_0 rfl) rfl ?_
    refine GoR.op rfl rfl (ld3 rfl f2 rfl) rfl ?_
    refine GoR.op rfl rfl rfl rfl ?_
    refine GoR.op rfl rfl (aOp_leq rfl rfl (r := false) (decide_eq_false (by omega))) rfl ?_
    refine GoR.op rfl rfl rfl rfl ?_
    iterate 4 refine GoR.skip rfl rfl rfl ?_
    iterate 2 refine GoR.op rfl rfl rfl rfl ?_
    refine GoR.end ?_
    exact Go.ret noJ_ok (ret_end (aResult_of Try.func27 rfl rfl) ⟨rfl, e0⟩)
end Go.Proofs.Ytmdheijpnlonoaa
