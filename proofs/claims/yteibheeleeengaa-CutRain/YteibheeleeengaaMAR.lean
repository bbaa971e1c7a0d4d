import Derived.Test.YteibheeleeengaaMAQ
import Derived.Test.YteibheeleeengaaMAG
import Derived.KernelRfl
import Derived.Test.YteibheeleeengaaMAH
import Derived.Test.YteibheeleeengaaMAJ
namespace Go.Proofs.Yteibheeleeengaa
open Go Go.AbsE
set_option linter.unusedSimpArgs false
set_option maxRecDepth 100000
set_option maxHeartbeats 0
set_option linter.unusedVariables false
theorem far_ok {C : CutV} {r b l : AVal} {h : AH} (A : CutAt h C r b l) (hb : C.rs.length < 9223372036854775808 ∧ C.bs.length < 9223372036854775808 ∧ C.ls.length < 9223372036854775808) : Runs Try.prog 20 [.agg (C.cells r b l)] h (fun en h' => en = .ret (.bool (decide (¬ (C.rs.length ≤ 40 ∧ C.bs.length ≤ 40 ∧ C.ls.length ≤ 40)))) ∧ Ext h h') := by
 have hl1 := A.rs.len
 have hl2 := A.bs.len
 have hl3 := A.ls.len
 rw [List.length_map] at hl1 hl2 hl3
 obtain ⟨m, hm⟩ : ∃ m, (if (if (C.rs.length : Int) < (C.bs.length : Int) then (C.bs.length : Int) else (C.rs.length : Int)) < (C.ls.length : Int) then (C.ls.length : Int) else (if (C.rs.length : Int) < (C.bs.length : Int) then (C.bs.length : Int) else (C.rs.length : Int))) = m := ⟨_, rfl⟩
 have hm2 : (40 < m) = (¬ (C.rs.length ≤ 40 ∧ C.bs.length ≤ 40 ∧ C.ls.length ≤ 40)) := by
  rw [← hm]
  apply propext
  split <;> split <;> omega
 have hsm := A.same
 unfold CutV.cells at *
 by_cases q : C.rs.length ≤ 40 ∧ C.bs.length ≤ 40 ∧ C.ls.length ≤ 40
 ·rw [decide_eq_false (fun w => w q)]
  have hm3 : ¬ 40 < m := by rw [hm2]; exact fun w => w q
  have e0 : Ext h h := Ext.refl _
  refine Runs.intro aFunc20 rfl rfl rfl rfl fun rest => ?_;apply gS;refine gR rfl ?_;refine GoR.box rfl rfl rfl rfl rfl rfl fun h0 x0 f0 => ?_;replace e0 := e0.trans x0;refine gP ?_;apply gE;apply gS;refine gR rfl ?_;refine gO rfl rfl (fa28_2 rfl) rfl ?_;refine gO rfl rfl (ld24 rfl f0 rfl) rfl ?_;refine gO rfl rfl (aOp_lenSlice Try.underlying24 rfl hl1) rfl ?_;refine gO rfl rfl (fa28_4 rfl) rfl ?_;refine gO rfl rfl (ld25 rfl f0 rfl) rfl ?_;refine gO rfl rfl (aOp_lenSlice Try.underlying25 rfl hl2) rfl ?_;refine gO rfl rfl (fa28_5 rfl) rfl ?_;refine gO rfl rfl (ld26 rfl f0 rfl) rfl ?_;refine gO rfl rfl (aOp_lenSlice Try.underlying26 rfl hl3) rfl ?_;refine gO rfl rfl (aOp_max3 rfl rfl rfl hm) rfl ?_;refine gO rfl rfl (kGF rfl rfl) rfl ?_;refine gP ?_;apply gE;exact gW Try.func20 rfl rfl ⟨rfl, e0⟩
 ·rw [decide_eq_true q]
  have hm3 : 40 < m := by rw [hm2]; exact q
  have e0 : Ext h h := Ext.refl _
  refine Runs.intro aFunc20 rfl rfl rfl rfl fun rest => ?_;apply gS;refine gR rfl ?_;refine GoR.box rfl rfl rfl rfl rfl rfl fun h0 x0 f0 => ?_;replace e0 := e0.trans x0;refine gP ?_;apply gE;apply gS;refine gR rfl ?_;refine gO rfl rfl (fa28_2 rfl) rfl ?_;refine gO rfl rfl (ld24 rfl f0 rfl) rfl ?_;refine gO rfl rfl (aOp_lenSlice Try.underlying24 rfl hl1) rfl ?_;refine gO rfl rfl (fa28_4 rfl) rfl ?_;refine gO rfl rfl (ld25 rfl f0 rfl) rfl ?_;refine gO rfl rfl (aOp_lenSlice Try.underlying25 rfl hl2) rfl ?_;refine gO rfl rfl (fa28_5 rfl) rfl ?_;refine gO rfl rfl (ld26 rfl f0 rfl) rfl ?_;refine gO rfl rfl (aOp_lenSlice Try.underlying26 rfl hl3) rfl ?_;refine gO rfl rfl (aOp_max3 rfl rfl rfl hm) rfl ?_;refine gO rfl rfl (kGT rfl rfl) rfl ?_;refine gP ?_;apply gE;exact gW Try.func20 rfl rfl ⟨rfl, e0⟩
theorem in50_ok {n a b : Int} {h : AH} : Runs Try.prog 50 [.int .i64 n, .int .i64 a, .int .i64 b] h (fun en h' => en = .ret (.bool (decide (a ≤ n ∧ n ≤ b))) ∧ Ext h h') := by
 have e0 : Ext h h := Ext.refl _
 refine Runs.intro aFunc50 rfl rfl rfl rfl fun rest => ?_;apply gS;refine gR rfl ?_;refine gP ?_;apply gE;apply gS;refine gR rfl ?_;iterate 2 refine gP ?_
 by_cases hs0 : (a : Int) ≤ n
 ·refine gO rfl rfl (kMT rfl rfl) rfl ?_;iterate 3 refine gP ?_
  by_cases hs1 : (n : Int) ≤ b
  ·refine gO rfl rfl (kMT rfl rfl) rfl ?_;iterate 2 refine gP ?_
   apply gE;exact gV (ret_end (aResult_of Try.func50 rfl rfl) ⟨ret_true (by omega), e0⟩)
  ·refine gO rfl rfl (kMF rfl rfl) rfl ?_;iterate 2 refine gP ?_
   apply gE;exact gV (ret_end (aResult_of Try.func50 rfl rfl) ⟨ret_false (by omega), e0⟩)
 ·refine gO rfl rfl (kMF rfl rfl) rfl ?_;refine gP ?_;iterate 3 refine GoR.skip rfl rfl rfl ?_
  iterate 2 refine gP ?_
  apply gE;exact gV (ret_end (aResult_of Try.func50 rfl rfl) ⟨ret_false (by omega), e0⟩)
theorem in50_is {n a b : Int} {r : Bool} (hr : decide (a ≤ n ∧ n ≤ b) = r) {h : AH} : Runs Try.prog 50 [.int .i64 n, .int .i64 a, .int .i64 b] h (fun en h' => en = .ret (.bool r) ∧ Ext h h') := by
 rw [← hr]
 exact in50_ok
theorem span51_ok {lo hi a b : Int} {h : AH} : Runs Try.prog 51 [.agg [.int .i64 lo, .int .i64 hi], .int .i64 a, .int .i64 b] h (fun en h' => en = .ret (.bool (decide (lo ≤ hi ∧ a ≤ lo ∧ hi ≤ b))) ∧ Ext h h') := by
 have e0 : Ext h h := Ext.refl _
 refine Runs.intro aFunc51 rfl rfl rfl rfl fun rest => ?_;apply gS;refine gR rfl ?_;refine GoR.box rfl rfl rfl rfl rfl rfl fun h0 x0 f0 => ?_;have := e0.1;replace e0 := e0.trans x0;have := f0.1;refine gP ?_;apply gE;apply gS;refine gR rfl ?_;refine gP ?_;refine gO rfl rfl (fa23_0 rfl) rfl ?_;refine gO rfl rfl (ld3 rfl f0 rfl) rfl ?_
 by_cases hs0 : (a : Int) ≤ lo
 ·refine gO rfl rfl (kMT rfl rfl) rfl ?_;refine gP ?_;refine gO rfl rfl (fa23_0 rfl) rfl ?_;refine gO rfl rfl (ld3 rfl f0 rfl) rfl ?_;refine gO rfl rfl (fa23_1 rfl) rfl ?_;refine gO rfl rfl (ld3 rfl f0 rfl) rfl ?_
  by_cases hs1 : (lo : Int) ≤ hi
  ·refine gO rfl rfl (kMT rfl rfl) rfl ?_;iterate 2 refine gP ?_
   refine gO rfl rfl (fa23_1 rfl) rfl ?_;refine gO rfl rfl (ld3 rfl f0 rfl) rfl ?_;refine gP ?_
   by_cases hs2 : (hi : Int) ≤ b
   ·refine gO rfl rfl (kMT rfl rfl) rfl ?_;iterate 2 refine gP ?_
    apply gE;exact gV (ret_end (aResult_of Try.func51 rfl rfl) ⟨ret_true (by omega), e0⟩)
   ·refine gO rfl rfl (kMF rfl rfl) rfl ?_;iterate 2 refine gP ?_
    apply gE;exact gV (ret_end (aResult_of Try.func51 rfl rfl) ⟨ret_false (by omega), e0⟩)
  ·refine gO rfl rfl (kMF rfl rfl) rfl ?_;iterate 2 refine gP ?_
   iterate 4 refine GoR.skip rfl rfl rfl ?_
   iterate 2 refine gP ?_
   apply gE;exact gV (ret_end (aResult_of Try.func51 rfl rfl) ⟨ret_false (by omega), e0⟩)
 ·refine gO rfl rfl (kMF rfl rfl) rfl ?_;refine gP ?_;iterate 5 refine GoR.skip rfl rfl rfl ?_
  iterate 2 refine gP ?_
  iterate 4 refine GoR.skip rfl rfl rfl ?_
  iterate 2 refine gP ?_
  apply gE;exact gV (ret_end (aResult_of Try.func51 rfl rfl) ⟨ret_false (by omega), e0⟩)
theorem span51_is {lo hi a b : Int} {r : Bool} (hr : decide (lo ≤ hi ∧ a ≤ lo ∧ hi ≤ b) = r) {h : AH} : Runs Try.prog 51 [.agg [.int .i64 lo, .int .i64 hi], .int .i64 a, .int .i64 b] h (fun en h' => en = .ret (.bool r) ∧ Ext h h') := by
 rw [← hr]
 exact span51_ok
theorem Day52_is {C : CutV} {r b l : AVal} {h : AH} (A : CutAt h C r b l) {n : Int} {x : Bool} (hx : decide (0 ≤ n ∧ n ≤ C.rs.length) = x) : Runs Try.prog 52 [.agg (C.cells r b l), .int .i64 n] h (fun en h' => en = .ret (.bool x) ∧ Ext h h') := by
 have hl1 := A.rs.len
 rw [List.length_map] at hl1
 have hsm := A.same
 unfold CutV.cells at *
 have e0 : Ext h h := Ext.refl _
 refine Runs.intro aFunc52 rfl rfl rfl rfl fun rest => ?_;apply gS;refine gR rfl ?_;refine GoR.box rfl rfl rfl rfl rfl rfl fun h0 x0 f0 => ?_;replace e0 := e0.trans x0;refine gP ?_;apply gE;apply gS;refine gR rfl ?_;refine gP ?_;refine gO rfl rfl (fa28_2 rfl) rfl ?_;refine gO rfl rfl (ld24 rfl f0 rfl) rfl ?_;refine gO rfl rfl (aOp_lenSlice Try.underlying24 rfl hl1) rfl ?_;refine GoR.call rfl rfl (aCF aFunc50 rfl) (in50_is hx) ?_ np;rintro v1 h1 ⟨q, x1⟩;cases q;refine ⟨_, rfl, ?_⟩;replace e0 := e0.trans x1;refine gP ?_;apply gE;exact gW Try.func52 rfl rfl ⟨rfl, e0⟩
theorem span24_ok {a b : Int} {h : AH} : Runs Try.prog 24 [.int .i64 a, .int .i64 b] h (fun en h' => en = .ret (.agg [.int .i64 a, .int .i64 b]) ∧ Ext h h') := by
 have e0 : Ext h h := Ext.refl _
 refine Runs.intro aFunc24 rfl rfl rfl rfl fun rest => ?_;apply gS;refine gR rfl ?_;refine GoR.alloc rfl rfl rfl zt23 rfl rfl fun h0 x0 f0 => ?_;have := e0.1;replace e0 := e0.trans x0;have := f0.1;apply gE;apply gS;refine gR rfl ?_;iterate 2 refine gP ?_
 refine gO rfl rfl (aOp_build zt23 hu23 pl23 rfl rfl) rfl ?_;refine GoR.store rfl rfl rfl rfl rfl rfl f0 rfl sz23 rfl rfl rfl fun h1 u1 => ?_;replace f0 := u1.has f0;replace e0 := e0.upd u1 (by omega);apply gE;exact gV (ret_end (aResult_of Try.func24 rfl (aResults_cell rfl f0 (inCells_agg ag23 sz23 rfl))) ⟨rfl, e0⟩)
theorem look25_ok {d a b : Int} {h : AH} : Runs Try.prog 25 [.int .i64 d, .int .i64 a, .int .i64 b] h (fun en h' => en = .ret (.agg (LV.cells ⟨d, a, b⟩)) ∧ Ext h h') := by
 unfold LV.cells
 have e0 : Ext h h := Ext.refl _
 refine Runs.intro aFunc25 rfl rfl rfl rfl fun rest => ?_;apply gS;refine gR rfl ?_;refine GoR.alloc rfl rfl rfl zt53 rfl rfl fun h0 x0 f0 => ?_;have := e0.1;replace e0 := e0.trans x0;have := f0.1;apply gE;apply gS;refine gR rfl ?_;iterate 3 refine gP ?_
 refine GoR.call rfl rfl (aCF aFunc24 rfl) (span24_ok) ?_ np;rintro v1 h1 ⟨q, x1⟩;cases q;refine ⟨_, rfl, ?_⟩;replace f0 := f0.ext x1;replace e0 := e0.trans x1;refine gO rfl rfl (aOp_build zt53 hu53 pl53 rfl rfl) rfl ?_;refine GoR.store rfl rfl rfl rfl rfl rfl f0 rfl sz53 rfl rfl rfl fun h2 u2 => ?_;replace f0 := u2.has f0;replace e0 := e0.upd u2 (by omega);apply gE;exact gV (ret_end (aResult_of Try.func25 rfl (aResults_cell rfl f0 (inCells_agg ag53 sz53 rfl))) ⟨rfl, e0⟩)
theorem cellsPart {h : AH} {b o n k m : Nat} {l : List AVal} (q : CellsAt h b o n l) (hk : k + m ≤ n) : CellsAt h b (o + k) m ((l.drop k).take m) := ⟨q.1, loadCells_part q.2 hk⟩
theorem Cut21_ok {C : CutV} {r b l : AVal} {h : AH} (A : CutAt h C r b l) (hb1 : C.rs.length ≤ 40) (hb2 : C.bs.length ≤ 40) (hb3 : C.ls.length ≤ 40) : Runs Try.prog 21 [.agg (C.cells r b l)] h (fun en h' => en = .ret (.bool (decide C.Ok)) ∧ Ext h h') := by
 have hl1 := A.rs.len
 have hl2 := A.bs.len
 have hl3 := A.ls.len
 rw [List.length_map] at hl1 hl2 hl3
 have hsm := A.same
 have hD := fun h A n x c => Day52_is (C := C) (r := r) (b := b) (l := l) (h := h) A (n := n) (x := x) c
 unfold CutV.cells at hsm hD ⊢
 by_cases q0 : 1 ≤ C.rs.length ∧ C.rs.length ≤ 8
 ·by_cases q1 : 1 ≤ C.most ∧ C.most ≤ 100
  ·by_cases q2 : C.dl ≤ C.dh ∧ 0 ≤ C.dl ∧ C.dh ≤ C.most
   ·by_cases q3 : C.kl ≤ C.kh ∧ 0 ≤ C.kl ∧ C.kh ≤ 10
    ·by_cases q4 : C.bs.length ≤ 4
     ·by_cases q5 : C.ls.length ≤ 5
      ·have e0 : Ext h h := Ext.refl _
       refine Runs.intro aFunc21 rfl rfl rfl rfl fun rest => ?_;apply gS;refine gR rfl ?_;refine GoR.box rfl rfl rfl rfl rfl rfl fun h0 x0 f0 => ?_;have := e0.1;replace e0 := e0.trans x0;have := f0.1;refine gP ?_;apply gE;iterate 2 apply gS
       refine gR rfl ?_;refine gO rfl rfl (fa28_2 rfl) rfl ?_;refine gO rfl rfl (ld24 rfl f0 rfl) rfl ?_;refine gO rfl rfl (aOp_lenSlice Try.underlying24 rfl hl1) rfl ?_;refine GoR.call rfl rfl (aCF aFunc50 rfl) (in50_is (r := true) (dt (by omega))) ?_ np;rintro v1 h1 ⟨q, x1⟩;cases q;refine ⟨_, rfl, ?_⟩;replace f0 := f0.ext x1;replace e0 := e0.trans x1;iterate 2 refine gP ?_
       refine gO rfl rfl (fa28_3 rfl) rfl ?_;refine gO rfl rfl (ld3 rfl f0 rfl) rfl ?_;refine GoR.call rfl rfl (aCF aFunc50 rfl) (in50_is (r := true) (dt (by omega))) ?_ np;rintro v2 h2 ⟨q, x2⟩;cases q;refine ⟨_, rfl, ?_⟩;replace f0 := f0.ext x2;replace e0 := e0.trans x2;iterate 3 refine gP ?_
       refine gO rfl rfl (fa28_0 rfl) rfl ?_;refine gO rfl rfl (ld23 rfl f0 rfl) rfl ?_;refine gO rfl rfl (fa28_3 rfl) rfl ?_;refine gO rfl rfl (ld3 rfl f0 rfl) rfl ?_;refine GoR.call rfl rfl (aCF aFunc51 rfl) (span51_is (r := true) (dt (by omega))) ?_ np;rintro v3 h3 ⟨q, x3⟩;cases q;refine ⟨_, rfl, ?_⟩;replace f0 := f0.ext x3;replace e0 := e0.trans x3;iterate 3 refine gP ?_
       refine gO rfl rfl (fa28_1 rfl) rfl ?_;refine gO rfl rfl (ld23 rfl f0 rfl) rfl ?_;refine GoR.call rfl rfl (aCF aFunc51 rfl) (span51_is (r := true) (dt (by omega))) ?_ np;rintro v4 h4 ⟨q, x4⟩;cases q;refine ⟨_, rfl, ?_⟩;replace f0 := f0.ext x4;replace e0 := e0.trans x4;iterate 3 refine gP ?_
       refine gO rfl rfl (fa28_4 rfl) rfl ?_;refine gO rfl rfl (ld25 rfl f0 rfl) rfl ?_;refine gO rfl rfl (aOp_lenSlice Try.underlying25 rfl hl2) rfl ?_;refine gO rfl rfl (kGF rfl rfl) rfl ?_;iterate 2 refine gP ?_
       refine gO rfl rfl (fa28_5 rfl) rfl ?_;refine gO rfl rfl (ld26 rfl f0 rfl) rfl ?_;refine gO rfl rfl (aOp_lenSlice Try.underlying26 rfl hl3) rfl ?_;refine gO rfl rfl (kGF rfl rfl) rfl ?_;refine gP ?_;apply gE;refine gC (b := false) rfl ?_;refine gD ?_;iterate 2 apply gS
       refine gR rfl ?_;refine gP ?_;apply gE;refine Go.block noJ_ok ?_
       have hb0 := f0.1
       refine Go.loopKeep (fun i : Nat => [(1, .ptr h.next 0), (3, .int .i64 (i : Nat))]) (fun m i h' => m + i = C.rs.length ∧ Ext h h' ∧ Has h' h.next (.cells .plain [.int .i64 C.dl, .int .i64 C.dh, .int .i64 C.kl, .int .i64 C.kh, r, .int .i64 C.most, b, l] 28) ∧ ∀ p, p ∈ C.rs.take i → RainOk p) (n := C.rs.length) 0 ⟨rfl, rfl, trivial⟩ ⟨rfl, e0, f0, fun p hp => by simp at hp⟩ ?_;clear e0 f0;rintro m i hc ⟨hm, e0, f0, hok⟩ again
       have hce := e0.1
       have hb0 := f0.1
       by_cases hi : i < C.rs.length
       ·obtain ⟨p, hp⟩ : ∃ p, C.rs[i]? = some p := ⟨C.rs[i], by simp [hi]⟩
        have hpm := List.mem_of_getElem? hp
        obtain ⟨bq, off, u1, u2⟩ := A.rs.at (i := i) (l := spC p) (by rw [List.getElem?_map, hp]; rfl)
        rw [List.length_map] at u1
        unfold spC at u2
        by_cases q6 : p.1 ≤ p.2 ∧ 0 ≤ p.1 ∧ p.2 ≤ 30
        ·iterate 2 apply gS
         refine gR rfl ?_;refine gP ?_;refine gO rfl rfl (fa28_2 rfl) rfl ?_;refine gO rfl rfl (ld24 rfl f0 rfl) rfl ?_;refine gO rfl rfl (aOp_lenSlice Try.underlying24 rfl hl1) rfl ?_;refine gO rfl rfl (kLT rfl rfl) rfl ?_;apply gE;refine gC (b := true) rfl ?_;refine gD ?_;apply gS;refine Go.block noJ_ok ?_;apply gS;refine gR rfl ?_;refine gO rfl rfl (fa28_2 rfl) rfl ?_;refine gO rfl rfl (ld24 rfl f0 rfl) rfl ?_;refine gP ?_;refine gO rfl rfl (aOp_indexAddr (i := i) Try.underlying24 sz23 rfl (by assumption) rfl (Nat.ble_eq_true_of_le (by omega))) rfl ?_;refine gO rfl rfl (aOp_loadE ag23 sz23 rfl (u2.ext (by assumption))) rfl ?_;refine GoR.call rfl rfl (aCF aFunc51 rfl) (span51_is (r := true) (dt (by omega))) ?_ np;rintro v5 h5 ⟨q, x5⟩;cases q;refine ⟨_, rfl, ?_⟩;replace f0 := f0.ext x5;replace e0 := e0.trans x5;refine gP ?_;apply gE;refine gC (b := false) rfl ?_;refine gD ?_;refine Go.inBlock noJ_ok ?_;refine gR rfl ?_;refine gP ?_;refine gO rfl rfl (aA rfl rfl) rfl ?_;refine gP ?_;apply gE;refine again (m - 1) (i + 1) _ _ (by omega) ⟨rfl, rfl, trivial⟩ ⟨by omega, e0, f0, fun p' hp' => ?_⟩;rw [List.take_add_one, hp, Option.toList_some, List.mem_append, List.mem_singleton] at hp'
         rcases hp' with hp' | rfl
         ·exact hok p' hp'
         ·exact q6
        ·rw [show decide C.Ok = false from decide_eq_false fun O => q6 (O.r p hpm)];iterate 2 apply gS
         refine gR rfl ?_;refine gP ?_;refine gO rfl rfl (fa28_2 rfl) rfl ?_;refine gO rfl rfl (ld24 rfl f0 rfl) rfl ?_;refine gO rfl rfl (aOp_lenSlice Try.underlying24 rfl hl1) rfl ?_;refine gO rfl rfl (kLT rfl rfl) rfl ?_;apply gE;refine gC (b := true) rfl ?_;refine gD ?_;apply gS;refine Go.block noJ_ok ?_;apply gS;refine gR rfl ?_;refine gO rfl rfl (fa28_2 rfl) rfl ?_;refine gO rfl rfl (ld24 rfl f0 rfl) rfl ?_;refine gP ?_;refine gO rfl rfl (aOp_indexAddr (i := i) Try.underlying24 sz23 rfl (by assumption) rfl (Nat.ble_eq_true_of_le (by omega))) rfl ?_;refine gO rfl rfl (aOp_loadE ag23 sz23 rfl (u2.ext (by assumption))) rfl ?_;refine GoR.call rfl rfl (aCF aFunc51 rfl) (span51_is (r := false) (df (by omega))) ?_ np;rintro v5 h5 ⟨q, x5⟩;cases q;refine ⟨_, rfl, ?_⟩;replace e0 := e0.trans x5;refine gP ?_;apply gE;refine gC (b := true) rfl ?_;apply gS;refine gR rfl ?_;refine gP ?_;apply gE;exact gW Try.func21 rfl rfl ⟨rfl, e0⟩
       ·rw [List.take_of_length_le (by omega)] at hok;iterate 2 apply gS
        refine gR rfl ?_;refine gP ?_;refine gO rfl rfl (fa28_2 rfl) rfl ?_;refine gO rfl rfl (ld24 rfl f0 rfl) rfl ?_;refine gO rfl rfl (aOp_lenSlice Try.underlying24 rfl hl1) rfl ?_;refine gO rfl rfl (kLF rfl rfl) rfl ?_;apply gE;refine gC (b := false) rfl ?_;refine gD ?_;iterate 2 apply gS
        refine gR rfl ?_;refine gP ?_;apply gE;refine Go.block noJ_ok ?_;refine Go.loopKeep (fun i : Nat => [(1, .ptr h.next 0), (4, .int .i64 (i : Nat))]) (fun m i h' => m + i = C.bs.length ∧ Ext h h' ∧ Has h' h.next (.cells .plain [.int .i64 C.dl, .int .i64 C.dh, .int .i64 C.kl, .int .i64 C.kh, r, .int .i64 C.most, b, l] 28) ∧ ∀ p, p ∈ C.bs.take i → p.Ok) (n := C.bs.length) 0 ⟨rfl, rfl, trivial⟩ ⟨rfl, e0, f0, fun p hp => by simp at hp⟩ ?_;clear e0 f0 again;rintro m i hc ⟨hm, e0, f0, hok2⟩ again
        have hce := e0.1
        have hb0 := f0.1
        by_cases hi : i < C.bs.length
        ·obtain ⟨p, hp⟩ : ∃ p, C.bs[i]? = some p := ⟨C.bs[i], by simp [hi]⟩
         have hpm := List.mem_of_getElem? hp
         obtain ⟨bq, off, u1, u2⟩ := A.bs.at (i := i) (l := p.cells) (by rw [List.getElem?_map, hp]; rfl)
         rw [List.length_map] at u1
         unfold BV.cells at u2
         by_cases q6 : p.lo ≤ p.hi ∧ 0 ≤ p.lo ∧ p.hi ≤ 100
         ·by_cases q7 : 0 ≤ p.per ∧ p.per ≤ 10
          ·by_cases q8 : 0 ≤ p.room ∧ p.room ≤ 10
           ·iterate 2 apply gS
            refine gR rfl ?_;refine gP ?_;refine gO rfl rfl (fa28_4 rfl) rfl ?_;refine gO rfl rfl (ld25 rfl f0 rfl) rfl ?_;refine gO rfl rfl (aOp_lenSlice Try.underlying25 rfl hl2) rfl ?_;refine gO rfl rfl (kLT rfl rfl) rfl ?_;apply gE;refine gC (b := true) rfl ?_;refine gD ?_;apply gS;refine Go.block noJ_ok ?_;apply gS;refine gR rfl ?_;refine gO rfl rfl (fa28_4 rfl) rfl ?_;refine gO rfl rfl (ld25 rfl f0 rfl) rfl ?_;refine gP ?_;refine gO rfl rfl (aOp_indexAddr (i := i) Try.underlying25 sz45 rfl (by assumption) rfl (Nat.ble_eq_true_of_le (by omega))) rfl ?_;refine gO rfl rfl (aOp_loadE ag45 sz45 rfl (u2.ext (by assumption))) rfl ?_;refine GoR.alloc rfl rfl rfl zt45 rfl rfl fun h5 x5 f5 => ?_;have := e0.1;have := f0.1;replace f0 := f0.ext x5;replace e0 := e0.trans x5;have := f5.1;refine GoR.store rfl rfl rfl rfl rfl rfl f5 rfl sz45 rfl rfl rfl fun h6 u6 => ?_;replace f5 := u6.has f5;replace f0 := f0.upd u6 (by omega);replace e0 := e0.upd u6 (by omega);apply gE;apply gS;refine gR rfl ?_;refine gO rfl rfl (fa45_0 rfl) rfl ?_;refine gO rfl rfl (ld23 rfl f5 rfl) rfl ?_;refine GoR.call rfl rfl (aCF aFunc51 rfl) (span51_is (r := true) (dt (by omega))) ?_ np;rintro v7 h7 ⟨q, x7⟩;cases q;refine ⟨_, rfl, ?_⟩;replace f5 := f5.ext x7;replace f0 := f0.ext x7;replace e0 := e0.trans x7;iterate 2 refine gP ?_
            refine gO rfl rfl (fa45_1 rfl) rfl ?_;refine gO rfl rfl (ld3 rfl f5 rfl) rfl ?_;refine GoR.call rfl rfl (aCF aFunc50 rfl) (in50_is (r := true) (dt (by omega))) ?_ np;rintro v8 h8 ⟨q, x8⟩;cases q;refine ⟨_, rfl, ?_⟩;replace f5 := f5.ext x8;replace f0 := f0.ext x8;replace e0 := e0.trans x8;iterate 3 refine gP ?_
            refine gO rfl rfl (fa45_2 rfl) rfl ?_;refine gO rfl rfl (ld3 rfl f5 rfl) rfl ?_;refine GoR.call rfl rfl (aCF aFunc50 rfl) (in50_is (r := true) (dt (by omega))) ?_ np;rintro v9 h9 ⟨q, x9⟩;cases q;refine ⟨_, rfl, ?_⟩;replace f0 := f0.ext x9;replace e0 := e0.trans x9;iterate 2 refine gP ?_
            apply gE;refine gC (b := false) rfl ?_;refine gD ?_;refine Go.inBlock noJ_ok ?_;refine gR rfl ?_;refine gP ?_;refine gO rfl rfl (aA rfl rfl) rfl ?_;refine gP ?_;apply gE;refine again (m - 1) (i + 1) _ _ (by omega) ⟨rfl, rfl, trivial⟩ ⟨by omega, e0, f0, fun p' hp' => ?_⟩;rw [List.take_add_one, hp, Option.toList_some, List.mem_append, List.mem_singleton] at hp'
            rcases hp' with hp' | rfl
            ·exact hok2 p' hp'
            ·exact ⟨q6, q7, q8⟩
           ·rw [show decide C.Ok = false from decide_eq_false fun O => q8 (O.b p hpm).2.2];iterate 2 apply gS
            refine gR rfl ?_;refine gP ?_;refine gO rfl rfl (fa28_4 rfl) rfl ?_;refine gO rfl rfl (ld25 rfl f0 rfl) rfl ?_;refine gO rfl rfl (aOp_lenSlice Try.underlying25 rfl hl2) rfl ?_;refine gO rfl rfl (kLT rfl rfl) rfl ?_;apply gE;refine gC (b := true) rfl ?_;refine gD ?_;apply gS;refine Go.block noJ_ok ?_;apply gS;refine gR rfl ?_;refine gO rfl rfl (fa28_4 rfl) rfl ?_;refine gO rfl rfl (ld25 rfl f0 rfl) rfl ?_;refine gP ?_;refine gO rfl rfl (aOp_indexAddr (i := i) Try.underlying25 sz45 rfl (by assumption) rfl (Nat.ble_eq_true_of_le (by omega))) rfl ?_;refine gO rfl rfl (aOp_loadE ag45 sz45 rfl (u2.ext (by assumption))) rfl ?_;refine GoR.alloc rfl rfl rfl zt45 rfl rfl fun h5 x5 f5 => ?_;have := e0.1;have := f0.1;replace e0 := e0.trans x5;have := f5.1;refine GoR.store rfl rfl rfl rfl rfl rfl f5 rfl sz45 rfl rfl rfl fun h6 u6 => ?_;replace f5 := u6.has f5;replace e0 := e0.upd u6 (by omega);apply gE;apply gS;refine gR rfl ?_;refine gO rfl rfl (fa45_0 rfl) rfl ?_;refine gO rfl rfl (ld23 rfl f5 rfl) rfl ?_;refine GoR.call rfl rfl (aCF aFunc51 rfl) (span51_is (r := true) (dt (by omega))) ?_ np;rintro v7 h7 ⟨q, x7⟩;cases q;refine ⟨_, rfl, ?_⟩;replace f5 := f5.ext x7;replace e0 := e0.trans x7;iterate 2 refine gP ?_
            refine gO rfl rfl (fa45_1 rfl) rfl ?_;refine gO rfl rfl (ld3 rfl f5 rfl) rfl ?_;refine GoR.call rfl rfl (aCF aFunc50 rfl) (in50_is (r := true) (dt (by omega))) ?_ np;rintro v8 h8 ⟨q, x8⟩;cases q;refine ⟨_, rfl, ?_⟩;replace f5 := f5.ext x8;replace e0 := e0.trans x8;iterate 3 refine gP ?_
            refine gO rfl rfl (fa45_2 rfl) rfl ?_;refine gO rfl rfl (ld3 rfl f5 rfl) rfl ?_;refine GoR.call rfl rfl (aCF aFunc50 rfl) (in50_is (r := false) (df (by omega))) ?_ np;rintro v9 h9 ⟨q, x9⟩;cases q;refine ⟨_, rfl, ?_⟩;replace e0 := e0.trans x9;iterate 2 refine gP ?_
            apply gE;refine gC (b := true) rfl ?_;apply gS;refine gR rfl ?_;refine gP ?_;apply gE;exact gW Try.func21 rfl rfl ⟨rfl, e0⟩
          ·rw [show decide C.Ok = false from decide_eq_false fun O => q7 (O.b p hpm).2.1];iterate 2 apply gS
           refine gR rfl ?_;refine gP ?_;refine gO rfl rfl (fa28_4 rfl) rfl ?_;refine gO rfl rfl (ld25 rfl f0 rfl) rfl ?_;refine gO rfl rfl (aOp_lenSlice Try.underlying25 rfl hl2) rfl ?_;refine gO rfl rfl (kLT rfl rfl) rfl ?_;apply gE;refine gC (b := true) rfl ?_;refine gD ?_;apply gS;refine Go.block noJ_ok ?_;apply gS;refine gR rfl ?_;refine gO rfl rfl (fa28_4 rfl) rfl ?_;refine gO rfl rfl (ld25 rfl f0 rfl) rfl ?_;refine gP ?_;refine gO rfl rfl (aOp_indexAddr (i := i) Try.underlying25 sz45 rfl (by assumption) rfl (Nat.ble_eq_true_of_le (by omega))) rfl ?_;refine gO rfl rfl (aOp_loadE ag45 sz45 rfl (u2.ext (by assumption))) rfl ?_;refine GoR.alloc rfl rfl rfl zt45 rfl rfl fun h5 x5 f5 => ?_;have := e0.1;have := f0.1;replace e0 := e0.trans x5;have := f5.1;refine GoR.store rfl rfl rfl rfl rfl rfl f5 rfl sz45 rfl rfl rfl fun h6 u6 => ?_;replace f5 := u6.has f5;replace e0 := e0.upd u6 (by omega);apply gE;apply gS;refine gR rfl ?_;refine gO rfl rfl (fa45_0 rfl) rfl ?_;refine gO rfl rfl (ld23 rfl f5 rfl) rfl ?_;refine GoR.call rfl rfl (aCF aFunc51 rfl) (span51_is (r := true) (dt (by omega))) ?_ np;rintro v7 h7 ⟨q, x7⟩;cases q;refine ⟨_, rfl, ?_⟩;replace f5 := f5.ext x7;replace e0 := e0.trans x7;iterate 2 refine gP ?_
           refine gO rfl rfl (fa45_1 rfl) rfl ?_;refine gO rfl rfl (ld3 rfl f5 rfl) rfl ?_;refine GoR.call rfl rfl (aCF aFunc50 rfl) (in50_is (r := false) (df (by omega))) ?_ np;rintro v8 h8 ⟨q, x8⟩;cases q;refine ⟨_, rfl, ?_⟩;replace e0 := e0.trans x8;iterate 3 refine gP ?_
           iterate 4 refine GoR.skip rfl rfl rfl ?_
           refine gP ?_;apply gE;refine gC (b := true) rfl ?_;apply gS;refine gR rfl ?_;refine gP ?_;apply gE;exact gW Try.func21 rfl rfl ⟨rfl, e0⟩
         ·rw [show decide C.Ok = false from decide_eq_false fun O => q6 (O.b p hpm).1];iterate 2 apply gS
          refine gR rfl ?_;refine gP ?_;refine gO rfl rfl (fa28_4 rfl) rfl ?_;refine gO rfl rfl (ld25 rfl f0 rfl) rfl ?_;refine gO rfl rfl (aOp_lenSlice Try.underlying25 rfl hl2) rfl ?_;refine gO rfl rfl (kLT rfl rfl) rfl ?_;apply gE;refine gC (b := true) rfl ?_;refine gD ?_;apply gS;refine Go.block noJ_ok ?_;apply gS;refine gR rfl ?_;refine gO rfl rfl (fa28_4 rfl) rfl ?_;refine gO rfl rfl (ld25 rfl f0 rfl) rfl ?_;refine gP ?_;refine gO rfl rfl (aOp_indexAddr (i := i) Try.underlying25 sz45 rfl (by assumption) rfl (Nat.ble_eq_true_of_le (by omega))) rfl ?_;refine gO rfl rfl (aOp_loadE ag45 sz45 rfl (u2.ext (by assumption))) rfl ?_;refine GoR.alloc rfl rfl rfl zt45 rfl rfl fun h5 x5 f5 => ?_;have := e0.1;have := f0.1;replace e0 := e0.trans x5;have := f5.1;refine GoR.store rfl rfl rfl rfl rfl rfl f5 rfl sz45 rfl rfl rfl fun h6 u6 => ?_;replace f5 := u6.has f5;replace e0 := e0.upd u6 (by omega);apply gE;apply gS;refine gR rfl ?_;refine gO rfl rfl (fa45_0 rfl) rfl ?_;refine gO rfl rfl (ld23 rfl f5 rfl) rfl ?_;refine GoR.call rfl rfl (aCF aFunc51 rfl) (span51_is (r := false) (df (by omega))) ?_ np;rintro v7 h7 ⟨q, x7⟩;cases q;refine ⟨_, rfl, ?_⟩;replace e0 := e0.trans x7;iterate 2 refine gP ?_
          iterate 4 refine GoR.skip rfl rfl rfl ?_
          iterate 2 refine gP ?_
          iterate 4 refine GoR.skip rfl rfl rfl ?_
          refine gP ?_;apply gE;refine gC (b := true) rfl ?_;apply gS;refine gR rfl ?_;refine gP ?_;apply gE;exact gW Try.func21 rfl rfl ⟨rfl, e0⟩
        ·rw [List.take_of_length_le (by omega)] at hok2;iterate 2 apply gS
         refine gR rfl ?_;refine gP ?_;refine gO rfl rfl (fa28_4 rfl) rfl ?_;refine gO rfl rfl (ld25 rfl f0 rfl) rfl ?_;refine gO rfl rfl (aOp_lenSlice Try.underlying25 rfl hl2) rfl ?_;refine gO rfl rfl (kLF rfl rfl) rfl ?_;apply gE;refine gC (b := false) rfl ?_;refine gD ?_;iterate 2 apply gS
         refine gR rfl ?_;refine gP ?_;apply gE;refine Go.block noJ_ok ?_;refine Go.loopKeep (fun i : Nat => [(1, .ptr h.next 0), (6, .int .i64 (i : Nat))]) (fun m i h' => m + i = C.ls.length ∧ Ext h h' ∧ Has h' h.next (.cells .plain [.int .i64 C.dl, .int .i64 C.dh, .int .i64 C.kl, .int .i64 C.kh, r, .int .i64 C.most, b, l] 28) ∧ ∀ p, p ∈ C.ls.take i → p.Ok C.rs.length) (n := C.ls.length) 0 ⟨rfl, rfl, trivial⟩ ⟨rfl, e0, f0, fun p hp => by simp at hp⟩ ?_;clear e0 f0 again;rintro m i hc ⟨hm, e0, f0, hok3⟩ again
         have hce := e0.1
         have hb0 := f0.1
         by_cases hi : i < C.ls.length
         ·obtain ⟨p, hp⟩ : ∃ p, C.ls[i]? = some p := ⟨C.ls[i], by simp [hi]⟩
          have hpm := List.mem_of_getElem? hp
          obtain ⟨bq, off, u1, u2⟩ := A.ls.at (i := i) (l := p.cells) (by rw [List.getElem?_map, hp]; rfl)
          rw [List.length_map] at u1
          unfold LV.cells at u2
          have u3 := cellsPart u2 (k := 1) (m := 2) (by decide)
          dsimp only [List.drop, List.take] at u3
          by_cases q6 : 0 ≤ p.day ∧ p.day ≤ C.rs.length
          ·by_cases q7 : p.lo ≤ p.hi ∧ 0 ≤ p.lo ∧ p.hi ≤ 100
           ·iterate 2 apply gS
            refine gR rfl ?_;refine gP ?_;refine gO rfl rfl (fa28_5 rfl) rfl ?_;refine gO rfl rfl (ld26 rfl f0 rfl) rfl ?_;refine gO rfl rfl (aOp_lenSlice Try.underlying26 rfl hl3) rfl ?_;refine gO rfl rfl (kLT rfl rfl) rfl ?_;apply gE;refine gC (b := true) rfl ?_;refine gD ?_;apply gS;refine Go.block noJ_ok ?_;apply gS;refine Go.drawnE plan21_0 ?_;refine gQ rfl rfl (ld28 rfl f0 rfl) rfl ?_;refine gQ rfl rfl (fa28_5 rfl) rfl ?_;refine gQ rfl rfl (ld26 rfl f0 rfl) rfl ?_;refine gQ rfl rfl rfl rfl ?_;refine gQ rfl rfl (aOp_indexAddr (i := i) Try.underlying26 sz53 rfl (by assumption) rfl (Nat.ble_eq_true_of_le (by omega))) rfl ?_;refine gQ rfl rfl (fa53_0 rfl) rfl ?_;refine gQ rfl rfl (aOp_loadE1 (k := 0) ag3 rfl (u2.ext e0) rfl) rfl ?_;refine GoE.call rfl rfl (aCF aFunc52 rfl) (hD _ (A.ext e0) _ true (decide_eq_true q6)) (dD 127 6 (dD 127 5 (dD 127 4 (dD 127 3 (dD 127 2 (dD 127 1 (dD 127 0 rfl))))))) ?_ np;rintro v5 h5 ⟨q, x5⟩;cases q;replace f0 := f0.ext x5;replace e0 := e0.trans x5;refine ⟨recheck_nil, _, rfl, ?_⟩;iterate 2 refine gQ rfl rfl rfl rfl ?_
            refine gQ rfl rfl (fa28_5 rfl) rfl ?_;refine gQ rfl rfl (ld26 rfl f0 rfl) rfl ?_;refine gQ rfl rfl rfl rfl ?_;refine gQ rfl rfl (aOp_indexAddr (i := i) Try.underlying26 sz53 rfl (by assumption) rfl (Nat.ble_eq_true_of_le (by omega))) rfl ?_;refine gQ rfl rfl (fa53_1 rfl) rfl ?_;refine gQ rfl rfl (aOp_loadE ag23 sz23 rfl (u3.ext (by assumption))) rfl ?_;refine GoE.call rfl rfl (aCF aFunc51 rfl) (span51_is (r := true) (dt (by omega))) (dD 65535 15 (dD 65535 14 (dD 65535 13 (dD 65535 12 (dD 65535 11 (dD 65535 10 (dD 65535 9 (dD 65535 8 rfl)))))))) ?_ np;rintro v6 h6 ⟨q, x6⟩;cases q;replace f0 := f0.ext x6;replace e0 := e0.trans x6;refine ⟨recheck_nil, _, rfl, ?_⟩;iterate 2 refine gQ rfl rfl rfl rfl ?_
            refine GoE.end rfl ?_;refine gC (b := false) rfl ?_;refine gD ?_;refine Go.inBlock noJ_ok ?_;refine gR rfl ?_;refine gP ?_;refine gO rfl rfl (aA rfl rfl) rfl ?_;refine gP ?_;apply gE;refine again (m - 1) (i + 1) _ _ (by omega) ⟨rfl, rfl, trivial⟩ ⟨by omega, e0, f0, fun p' hp' => ?_⟩;rw [List.take_add_one, hp, Option.toList_some, List.mem_append, List.mem_singleton] at hp'
            rcases hp' with hp' | rfl
            ·exact hok3 p' hp'
            ·exact ⟨q6, q7⟩
           ·rw [show decide C.Ok = false from decide_eq_false fun O => q7 (O.l p hpm).2];iterate 2 apply gS
            refine gR rfl ?_;refine gP ?_;refine gO rfl rfl (fa28_5 rfl) rfl ?_;refine gO rfl rfl (ld26 rfl f0 rfl) rfl ?_;refine gO rfl rfl (aOp_lenSlice Try.underlying26 rfl hl3) rfl ?_;refine gO rfl rfl (kLT rfl rfl) rfl ?_;apply gE;refine gC (b := true) rfl ?_;refine gD ?_;apply gS;refine Go.block noJ_ok ?_;apply gS;refine Go.drawnE plan21_0 ?_;refine gQ rfl rfl (ld28 rfl f0 rfl) rfl ?_;refine gQ rfl rfl (fa28_5 rfl) rfl ?_;refine gQ rfl rfl (ld26 rfl f0 rfl) rfl ?_;refine gQ rfl rfl rfl rfl ?_;refine gQ rfl rfl (aOp_indexAddr (i := i) Try.underlying26 sz53 rfl (by assumption) rfl (Nat.ble_eq_true_of_le (by omega))) rfl ?_;refine gQ rfl rfl (fa53_0 rfl) rfl ?_;refine gQ rfl rfl (aOp_loadE1 (k := 0) ag3 rfl (u2.ext e0) rfl) rfl ?_;refine GoE.call rfl rfl (aCF aFunc52 rfl) (hD _ (A.ext e0) _ true (decide_eq_true q6)) (dD 127 6 (dD 127 5 (dD 127 4 (dD 127 3 (dD 127 2 (dD 127 1 (dD 127 0 rfl))))))) ?_ np;rintro v5 h5 ⟨q, x5⟩;cases q;replace f0 := f0.ext x5;replace e0 := e0.trans x5;refine ⟨recheck_nil, _, rfl, ?_⟩;iterate 2 refine gQ rfl rfl rfl rfl ?_
            refine gQ rfl rfl (fa28_5 rfl) rfl ?_;refine gQ rfl rfl (ld26 rfl f0 rfl) rfl ?_;refine gQ rfl rfl rfl rfl ?_;refine gQ rfl rfl (aOp_indexAddr (i := i) Try.underlying26 sz53 rfl (by assumption) rfl (Nat.ble_eq_true_of_le (by omega))) rfl ?_;refine gQ rfl rfl (fa53_1 rfl) rfl ?_;refine gQ rfl rfl (aOp_loadE ag23 sz23 rfl (u3.ext (by assumption))) rfl ?_;refine GoE.call rfl rfl (aCF aFunc51 rfl) (span51_is (r := false) (df (by omega))) (dD 65535 15 (dD 65535 14 (dD 65535 13 (dD 65535 12 (dD 65535 11 (dD 65535 10 (dD 65535 9 (dD 65535 8 rfl)))))))) ?_ np;rintro v6 h6 ⟨q, x6⟩;cases q;replace e0 := e0.trans x6;refine ⟨recheck_nil, _, rfl, ?_⟩;iterate 2 refine gQ rfl rfl rfl rfl ?_
            refine GoE.end rfl ?_;refine gC (b := true) rfl ?_;apply gS;refine gR rfl ?_;refine gP ?_;apply gE;exact gW Try.func21 rfl rfl ⟨rfl, e0⟩
          ·rw [show decide C.Ok = false from decide_eq_false fun O => q6 (O.l p hpm).1];iterate 2 apply gS
           refine gR rfl ?_;refine gP ?_;refine gO rfl rfl (fa28_5 rfl) rfl ?_;refine gO rfl rfl (ld26 rfl f0 rfl) rfl ?_;refine gO rfl rfl (aOp_lenSlice Try.underlying26 rfl hl3) rfl ?_;refine gO rfl rfl (kLT rfl rfl) rfl ?_;apply gE;refine gC (b := true) rfl ?_;refine gD ?_;apply gS;refine Go.block noJ_ok ?_;apply gS;refine Go.drawnE plan21_0 ?_;refine gQ rfl rfl (ld28 rfl f0 rfl) rfl ?_;refine gQ rfl rfl (fa28_5 rfl) rfl ?_;refine gQ rfl rfl (ld26 rfl f0 rfl) rfl ?_;refine gQ rfl rfl rfl rfl ?_;refine gQ rfl rfl (aOp_indexAddr (i := i) Try.underlying26 sz53 rfl (by assumption) rfl (Nat.ble_eq_true_of_le (by omega))) rfl ?_;refine gQ rfl rfl (fa53_0 rfl) rfl ?_;refine gQ rfl rfl (aOp_loadE1 (k := 0) ag3 rfl (u2.ext e0) rfl) rfl ?_;refine GoE.call rfl rfl (aCF aFunc52 rfl) (hD _ (A.ext e0) _ false (decide_eq_false q6)) (dD 127 6 (dD 127 5 (dD 127 4 (dD 127 3 (dD 127 2 (dD 127 1 (dD 127 0 rfl))))))) ?_ np;rintro v5 h5 ⟨q, x5⟩;cases q;replace e0 := e0.trans x5;refine ⟨recheck_nil, _, rfl, ?_⟩;iterate 2 refine gQ rfl rfl rfl rfl ?_
           iterate 8 refine GoE.skip rfl rfl rfl ?_
           refine gQ rfl rfl rfl rfl ?_;refine GoE.end rfl ?_;refine gC (b := true) rfl ?_;apply gS;refine gR rfl ?_;refine gP ?_;apply gE;exact gW Try.func21 rfl rfl ⟨rfl, e0⟩
         ·rw [List.take_of_length_le (by omega)] at hok3
          have O : C.Ok := ⟨q0, hok, q1, q2, q3, q4, hok2, q5, hok3⟩
          rw [decide_eq_true O];iterate 2 apply gS
          refine gR rfl ?_;refine gP ?_;refine gO rfl rfl (fa28_5 rfl) rfl ?_;refine gO rfl rfl (ld26 rfl f0 rfl) rfl ?_;refine gO rfl rfl (aOp_lenSlice Try.underlying26 rfl hl3) rfl ?_;refine gO rfl rfl (kLF rfl rfl) rfl ?_;apply gE;refine gC (b := false) rfl ?_;refine gD ?_;apply gS;refine gR rfl ?_;refine gP ?_;apply gE;exact gW Try.func21 rfl rfl ⟨rfl, e0⟩
      ·rw [show decide C.Ok = false from decide_eq_false fun O => q5 O.nl]
       have e0 : Ext h h := Ext.refl _
       refine Runs.intro aFunc21 rfl rfl rfl rfl fun rest => ?_;apply gS;refine gR rfl ?_;refine GoR.box rfl rfl rfl rfl rfl rfl fun h0 x0 f0 => ?_;replace e0 := e0.trans x0;refine gP ?_;apply gE;iterate 2 apply gS
       refine gR rfl ?_;refine gO rfl rfl (fa28_2 rfl) rfl ?_;refine gO rfl rfl (ld24 rfl f0 rfl) rfl ?_;refine gO rfl rfl (aOp_lenSlice Try.underlying24 rfl hl1) rfl ?_;refine GoR.call rfl rfl (aCF aFunc50 rfl) (in50_is (r := true) (dt (by omega))) ?_ np;rintro v1 h1 ⟨q, x1⟩;cases q;refine ⟨_, rfl, ?_⟩;replace f0 := f0.ext x1;replace e0 := e0.trans x1;iterate 2 refine gP ?_
       refine gO rfl rfl (fa28_3 rfl) rfl ?_;refine gO rfl rfl (ld3 rfl f0 rfl) rfl ?_;refine GoR.call rfl rfl (aCF aFunc50 rfl) (in50_is (r := true) (dt (by omega))) ?_ np;rintro v2 h2 ⟨q, x2⟩;cases q;refine ⟨_, rfl, ?_⟩;replace f0 := f0.ext x2;replace e0 := e0.trans x2;iterate 3 refine gP ?_
       refine gO rfl rfl (fa28_0 rfl) rfl ?_;refine gO rfl rfl (ld23 rfl f0 rfl) rfl ?_;refine gO rfl rfl (fa28_3 rfl) rfl ?_;refine gO rfl rfl (ld3 rfl f0 rfl) rfl ?_;refine GoR.call rfl rfl (aCF aFunc51 rfl) (span51_is (r := true) (dt (by omega))) ?_ np;rintro v3 h3 ⟨q, x3⟩;cases q;refine ⟨_, rfl, ?_⟩;replace f0 := f0.ext x3;replace e0 := e0.trans x3;iterate 3 refine gP ?_
       refine gO rfl rfl (fa28_1 rfl) rfl ?_;refine gO rfl rfl (ld23 rfl f0 rfl) rfl ?_;refine GoR.call rfl rfl (aCF aFunc51 rfl) (span51_is (r := true) (dt (by omega))) ?_ np;rintro v4 h4 ⟨q, x4⟩;cases q;refine ⟨_, rfl, ?_⟩;replace f0 := f0.ext x4;replace e0 := e0.trans x4;iterate 3 refine gP ?_
       refine gO rfl rfl (fa28_4 rfl) rfl ?_;refine gO rfl rfl (ld25 rfl f0 rfl) rfl ?_;refine gO rfl rfl (aOp_lenSlice Try.underlying25 rfl hl2) rfl ?_;refine gO rfl rfl (kGF rfl rfl) rfl ?_;iterate 2 refine gP ?_
       refine gO rfl rfl (fa28_5 rfl) rfl ?_;refine gO rfl rfl (ld26 rfl f0 rfl) rfl ?_;refine gO rfl rfl (aOp_lenSlice Try.underlying26 rfl hl3) rfl ?_;refine gO rfl rfl (kGT rfl rfl) rfl ?_;refine gP ?_;apply gE;refine gC (b := true) rfl ?_;apply gS;refine gR rfl ?_;refine gP ?_;apply gE;exact gW Try.func21 rfl rfl ⟨rfl, e0⟩
     ·rw [show decide C.Ok = false from decide_eq_false fun O => q4 O.nb]
      have e0 : Ext h h := Ext.refl _
      refine Runs.intro aFunc21 rfl rfl rfl rfl fun rest => ?_;apply gS;refine gR rfl ?_;refine GoR.box rfl rfl rfl rfl rfl rfl fun h0 x0 f0 => ?_;replace e0 := e0.trans x0;refine gP ?_;apply gE;iterate 2 apply gS
      refine gR rfl ?_;refine gO rfl rfl (fa28_2 rfl) rfl ?_;refine gO rfl rfl (ld24 rfl f0 rfl) rfl ?_;refine gO rfl rfl (aOp_lenSlice Try.underlying24 rfl hl1) rfl ?_;refine GoR.call rfl rfl (aCF aFunc50 rfl) (in50_is (r := true) (dt (by omega))) ?_ np;rintro v1 h1 ⟨q, x1⟩;cases q;refine ⟨_, rfl, ?_⟩;replace f0 := f0.ext x1;replace e0 := e0.trans x1;iterate 2 refine gP ?_
      refine gO rfl rfl (fa28_3 rfl) rfl ?_;refine gO rfl rfl (ld3 rfl f0 rfl) rfl ?_;refine GoR.call rfl rfl (aCF aFunc50 rfl) (in50_is (r := true) (dt (by omega))) ?_ np;rintro v2 h2 ⟨q, x2⟩;cases q;refine ⟨_, rfl, ?_⟩;replace f0 := f0.ext x2;replace e0 := e0.trans x2;iterate 3 refine gP ?_
      refine gO rfl rfl (fa28_0 rfl) rfl ?_;refine gO rfl rfl (ld23 rfl f0 rfl) rfl ?_;refine gO rfl rfl (fa28_3 rfl) rfl ?_;refine gO rfl rfl (ld3 rfl f0 rfl) rfl ?_;refine GoR.call rfl rfl (aCF aFunc51 rfl) (span51_is (r := true) (dt (by omega))) ?_ np;rintro v3 h3 ⟨q, x3⟩;cases q;refine ⟨_, rfl, ?_⟩;replace f0 := f0.ext x3;replace e0 := e0.trans x3;iterate 3 refine gP ?_
      refine gO rfl rfl (fa28_1 rfl) rfl ?_;refine gO rfl rfl (ld23 rfl f0 rfl) rfl ?_;refine GoR.call rfl rfl (aCF aFunc51 rfl) (span51_is (r := true) (dt (by omega))) ?_ np;rintro v4 h4 ⟨q, x4⟩;cases q;refine ⟨_, rfl, ?_⟩;replace f0 := f0.ext x4;replace e0 := e0.trans x4;iterate 3 refine gP ?_
      refine gO rfl rfl (fa28_4 rfl) rfl ?_;refine gO rfl rfl (ld25 rfl f0 rfl) rfl ?_;refine gO rfl rfl (aOp_lenSlice Try.underlying25 rfl hl2) rfl ?_;refine gO rfl rfl (kGT rfl rfl) rfl ?_;iterate 2 refine gP ?_
      iterate 4 refine GoR.skip rfl rfl rfl ?_
      refine gP ?_;apply gE;refine gC (b := true) rfl ?_;apply gS;refine gR rfl ?_;refine gP ?_;apply gE;exact gW Try.func21 rfl rfl ⟨rfl, e0⟩
    ·rw [show decide C.Ok = false from decide_eq_false fun O => q3 O.k]
     have e0 : Ext h h := Ext.refl _
     refine Runs.intro aFunc21 rfl rfl rfl rfl fun rest => ?_;apply gS;refine gR rfl ?_;refine GoR.box rfl rfl rfl rfl rfl rfl fun h0 x0 f0 => ?_;replace e0 := e0.trans x0;refine gP ?_;apply gE;iterate 2 apply gS
     refine gR rfl ?_;refine gO rfl rfl (fa28_2 rfl) rfl ?_;refine gO rfl rfl (ld24 rfl f0 rfl) rfl ?_;refine gO rfl rfl (aOp_lenSlice Try.underlying24 rfl hl1) rfl ?_;refine GoR.call rfl rfl (aCF aFunc50 rfl) (in50_is (r := true) (dt (by omega))) ?_ np;rintro v1 h1 ⟨q, x1⟩;cases q;refine ⟨_, rfl, ?_⟩;replace f0 := f0.ext x1;replace e0 := e0.trans x1;iterate 2 refine gP ?_
     refine gO rfl rfl (fa28_3 rfl) rfl ?_;refine gO rfl rfl (ld3 rfl f0 rfl) rfl ?_;refine GoR.call rfl rfl (aCF aFunc50 rfl) (in50_is (r := true) (dt (by omega))) ?_ np;rintro v2 h2 ⟨q, x2⟩;cases q;refine ⟨_, rfl, ?_⟩;replace f0 := f0.ext x2;replace e0 := e0.trans x2;iterate 3 refine gP ?_
     refine gO rfl rfl (fa28_0 rfl) rfl ?_;refine gO rfl rfl (ld23 rfl f0 rfl) rfl ?_;refine gO rfl rfl (fa28_3 rfl) rfl ?_;refine gO rfl rfl (ld3 rfl f0 rfl) rfl ?_;refine GoR.call rfl rfl (aCF aFunc51 rfl) (span51_is (r := true) (dt (by omega))) ?_ np;rintro v3 h3 ⟨q, x3⟩;cases q;refine ⟨_, rfl, ?_⟩;replace f0 := f0.ext x3;replace e0 := e0.trans x3;iterate 3 refine gP ?_
     refine gO rfl rfl (fa28_1 rfl) rfl ?_;refine gO rfl rfl (ld23 rfl f0 rfl) rfl ?_;refine GoR.call rfl rfl (aCF aFunc51 rfl) (span51_is (r := false) (df (by omega))) ?_ np;rintro v4 h4 ⟨q, x4⟩;cases q;refine ⟨_, rfl, ?_⟩;replace e0 := e0.trans x4;iterate 3 refine gP ?_
     iterate 4 refine GoR.skip rfl rfl rfl ?_
     iterate 2 refine gP ?_
     iterate 4 refine GoR.skip rfl rfl rfl ?_
     refine gP ?_;apply gE;refine gC (b := true) rfl ?_;apply gS;refine gR rfl ?_;refine gP ?_;apply gE;exact gW Try.func21 rfl rfl ⟨rfl, e0⟩
   ·rw [show decide C.Ok = false from decide_eq_false fun O => q2 O.d]
    have e0 : Ext h h := Ext.refl _
    refine Runs.intro aFunc21 rfl rfl rfl rfl fun rest => ?_;apply gS;refine gR rfl ?_;refine GoR.box rfl rfl rfl rfl rfl rfl fun h0 x0 f0 => ?_;replace e0 := e0.trans x0;refine gP ?_;apply gE;iterate 2 apply gS
    refine gR rfl ?_;refine gO rfl rfl (fa28_2 rfl) rfl ?_;refine gO rfl rfl (ld24 rfl f0 rfl) rfl ?_;refine gO rfl rfl (aOp_lenSlice Try.underlying24 rfl hl1) rfl ?_;refine GoR.call rfl rfl (aCF aFunc50 rfl) (in50_is (r := true) (dt (by omega))) ?_ np;rintro v1 h1 ⟨q, x1⟩;cases q;refine ⟨_, rfl, ?_⟩;replace f0 := f0.ext x1;replace e0 := e0.trans x1;iterate 2 refine gP ?_
    refine gO rfl rfl (fa28_3 rfl) rfl ?_;refine gO rfl rfl (ld3 rfl f0 rfl) rfl ?_;refine GoR.call rfl rfl (aCF aFunc50 rfl) (in50_is (r := true) (dt (by omega))) ?_ np;rintro v2 h2 ⟨q, x2⟩;cases q;refine ⟨_, rfl, ?_⟩;replace f0 := f0.ext x2;replace e0 := e0.trans x2;iterate 3 refine gP ?_
    refine gO rfl rfl (fa28_0 rfl) rfl ?_;refine gO rfl rfl (ld23 rfl f0 rfl) rfl ?_;refine gO rfl rfl (fa28_3 rfl) rfl ?_;refine gO rfl rfl (ld3 rfl f0 rfl) rfl ?_;refine GoR.call rfl rfl (aCF aFunc51 rfl) (span51_is (r := false) (df (by omega))) ?_ np;rintro v3 h3 ⟨q, x3⟩;cases q;refine ⟨_, rfl, ?_⟩;replace e0 := e0.trans x3;iterate 3 refine gP ?_
    iterate 4 refine GoR.skip rfl rfl rfl ?_
    iterate 2 refine gP ?_
    iterate 4 refine GoR.skip rfl rfl rfl ?_
    iterate 2 refine gP ?_
    iterate 4 refine GoR.skip rfl rfl rfl ?_
    refine gP ?_;apply gE;refine gC (b := true) rfl ?_;apply gS;refine gR rfl ?_;refine gP ?_;apply gE;exact gW Try.func21 rfl rfl ⟨rfl, e0⟩
  ·rw [show decide C.Ok = false from decide_eq_false fun O => q1 O.m]
   have e0 : Ext h h := Ext.refl _
   refine Runs.intro aFunc21 rfl rfl rfl rfl fun rest => ?_;apply gS;refine gR rfl ?_;refine GoR.box rfl rfl rfl rfl rfl rfl fun h0 x0 f0 => ?_;replace e0 := e0.trans x0;refine gP ?_;apply gE;iterate 2 apply gS
   refine gR rfl ?_;refine gO rfl rfl (fa28_2 rfl) rfl ?_;refine gO rfl rfl (ld24 rfl f0 rfl) rfl ?_;refine gO rfl rfl (aOp_lenSlice Try.underlying24 rfl hl1) rfl ?_;refine GoR.call rfl rfl (aCF aFunc50 rfl) (in50_is (r := true) (dt (by omega))) ?_ np;rintro v1 h1 ⟨q, x1⟩;cases q;refine ⟨_, rfl, ?_⟩;replace f0 := f0.ext x1;replace e0 := e0.trans x1;iterate 2 refine gP ?_
   refine gO rfl rfl (fa28_3 rfl) rfl ?_;refine gO rfl rfl (ld3 rfl f0 rfl) rfl ?_;refine GoR.call rfl rfl (aCF aFunc50 rfl) (in50_is (r := false) (df (by omega))) ?_ np;rintro v2 h2 ⟨q, x2⟩;cases q;refine ⟨_, rfl, ?_⟩;replace e0 := e0.trans x2;iterate 3 refine gP ?_
   iterate 6 refine GoR.skip rfl rfl rfl ?_
   iterate 2 refine gP ?_
   iterate 4 refine GoR.skip rfl rfl rfl ?_
   iterate 2 refine gP ?_
   iterate 4 refine GoR.skip rfl rfl rfl ?_
   iterate 2 refine gP ?_
   iterate 4 refine GoR.skip rfl rfl rfl ?_
   refine gP ?_;apply gE;refine gC (b := true) rfl ?_;apply gS;refine gR rfl ?_;refine gP ?_;apply gE;exact gW Try.func21 rfl rfl ⟨rfl, e0⟩
 ·rw [show decide C.Ok = false from decide_eq_false fun O => q0 O.nr]
  have e0 : Ext h h := Ext.refl _
  refine Runs.intro aFunc21 rfl rfl rfl rfl fun rest => ?_;apply gS;refine gR rfl ?_;refine GoR.box rfl rfl rfl rfl rfl rfl fun h0 x0 f0 => ?_;replace e0 := e0.trans x0;refine gP ?_;apply gE;iterate 2 apply gS
  refine gR rfl ?_;refine gO rfl rfl (fa28_2 rfl) rfl ?_;refine gO rfl rfl (ld24 rfl f0 rfl) rfl ?_;refine gO rfl rfl (aOp_lenSlice Try.underlying24 rfl hl1) rfl ?_;refine GoR.call rfl rfl (aCF aFunc50 rfl) (in50_is (r := false) (df (by omega))) ?_ np;rintro v1 h1 ⟨q, x1⟩;cases q;refine ⟨_, rfl, ?_⟩;replace e0 := e0.trans x1;iterate 2 refine gP ?_
  iterate 4 refine GoR.skip rfl rfl rfl ?_
  iterate 2 refine gP ?_
  iterate 6 refine GoR.skip rfl rfl rfl ?_
  iterate 2 refine gP ?_
  iterate 4 refine GoR.skip rfl rfl rfl ?_
  iterate 2 refine gP ?_
  iterate 4 refine GoR.skip rfl rfl rfl ?_
  iterate 2 refine gP ?_
  iterate 4 refine GoR.skip rfl rfl rfl ?_
  refine gP ?_;apply gE;refine gC (b := true) rfl ?_;apply gS;refine gR rfl ?_;refine gP ?_;apply gE;exact gW Try.func21 rfl rfl ⟨rfl, e0⟩
theorem fine_ok {C : CutV} {r b l : AVal} {h : AH} (A : CutAt h C r b l) (hb : C.rs.length < 9223372036854775808 ∧ C.bs.length < 9223372036854775808 ∧ C.ls.length < 9223372036854775808) : Runs Try.prog 10 [.agg (C.cells r b l)] h (fun en h' => en = .ret (.bool (decide C.Ok)) ∧ Ext h h') := by
 have hf := fun h A => far_ok (C := C) (r := r) (b := b) (l := l) (h := h) A hb
 have hsm := A.same
 by_cases q : C.rs.length ≤ 40 ∧ C.bs.length ≤ 40 ∧ C.ls.length ≤ 40
 ·rw [decide_eq_false (fun w => w q)] at hf
  have hc := fun h A => Cut21_ok (C := C) (r := r) (b := b) (l := l) (h := h) A q.1 q.2.1 q.2.2
  obtain ⟨d, hd⟩ : ∃ d, decide C.Ok = d := ⟨_, rfl⟩
  rw [hd] at hc ⊢
  unfold CutV.cells at *
  cases d with
  | true =>
   have e0 : Ext h h := Ext.refl _
   refine Runs.intro aFunc10 rfl rfl rfl rfl fun rest => ?_;apply gS;refine gR rfl ?_;refine GoR.box rfl rfl rfl rfl rfl rfl fun h0 x0 f0 => ?_;replace e0 := e0.trans x0;refine gP ?_;apply gE;apply gS;refine gR rfl ?_;refine gO rfl rfl (ld28 rfl f0 rfl) rfl ?_;refine GoR.call rfl rfl (aCF aFunc20 rfl) (hf _ (A.ext e0)) ?_ np;rintro v1 h1 ⟨q, x1⟩;cases q;refine ⟨_, rfl, ?_⟩;replace f0 := f0.ext x1;replace e0 := e0.trans x1;iterate 2 refine gP ?_
   refine gO rfl rfl (ld28 rfl f0 rfl) rfl ?_;refine GoR.call rfl rfl (aCF aFunc21 rfl) (hc _ (A.ext e0)) ?_ np;rintro v2 h2 ⟨q, x2⟩;cases q;refine ⟨_, rfl, ?_⟩;replace f0 := f0.ext x2;replace e0 := e0.trans x2;iterate 2 refine gP ?_
   apply gE;exact gW Try.func10 rfl rfl ⟨rfl, e0⟩
  | false =>
   have e0 : Ext h h := Ext.refl _
   refine Runs.intro aFunc10 rfl rfl rfl rfl fun rest => ?_;apply gS;refine gR rfl ?_;refine GoR.box rfl rfl rfl rfl rfl rfl fun h0 x0 f0 => ?_;replace e0 := e0.trans x0;refine gP ?_;apply gE;apply gS;refine gR rfl ?_;refine gO rfl rfl (ld28 rfl f0 rfl) rfl ?_;refine GoR.call rfl rfl (aCF aFunc20 rfl) (hf _ (A.ext e0)) ?_ np;rintro v1 h1 ⟨q, x1⟩;cases q;refine ⟨_, rfl, ?_⟩;replace f0 := f0.ext x1;replace e0 := e0.trans x1;iterate 2 refine gP ?_
   refine gO rfl rfl (ld28 rfl f0 rfl) rfl ?_;refine GoR.call rfl rfl (aCF aFunc21 rfl) (hc _ (A.ext e0)) ?_ np;rintro v2 h2 ⟨q, x2⟩;cases q;refine ⟨_, rfl, ?_⟩;replace e0 := e0.trans x2;iterate 2 refine gP ?_
   apply gE;exact gW Try.func10 rfl rfl ⟨rfl, e0⟩
 ·rw [decide_eq_true q] at hf;rw [decide_eq_false fun O : C.Ok => q ⟨by have := O.nr; omega, by have := O.nb; omega, by have := O.nl; omega⟩]
  unfold CutV.cells at *
  have e0 : Ext h h := Ext.refl _
  refine Runs.intro aFunc10 rfl rfl rfl rfl fun rest => ?_;apply gS;refine gR rfl ?_;refine GoR.box rfl rfl rfl rfl rfl rfl fun h0 x0 f0 => ?_;replace e0 := e0.trans x0;refine gP ?_;apply gE;apply gS;refine gR rfl ?_;refine gO rfl rfl (ld28 rfl f0 rfl) rfl ?_;refine GoR.call rfl rfl (aCF aFunc20 rfl) (hf _ (A.ext e0)) ?_ np;rintro v1 h1 ⟨q, x1⟩;cases q;refine ⟨_, rfl, ?_⟩;replace e0 := e0.trans x1;iterate 2 refine gP ?_
  iterate 2 refine GoR.skip rfl rfl rfl ?_
  iterate 2 refine gP ?_
  apply gE;exact gW Try.func10 rfl rfl ⟨rfl, e0⟩
def sampleV (L : List LV) : CutV := ⟨10, 12, 1, 2, [(3, 5), (0, 0), (0, 4), (8, 9)], 20, [⟨6, 7, 3, 4⟩, ⟨13, 13, 2, 2⟩], L⟩
theorem flatten_at {α : Type} {f : α → List AVal} {sz : Nat} (hf : ∀ p, (f p).length = sz) {l : List α} : ∀ i v, (l.map f)[i]? = some v → slice? (l.flatMap f) (i * sz) sz = some v := fun i v q => flat_slice (f := f) (sz := sz) hf q
theorem spC_len : ∀ x : Int × Int, (spC x).length = 2 := fun _ => rfl
theorem bv_len : ∀ x : BV, x.cells.length = 4 := fun _ => rfl
theorem lv_len : ∀ x : LV, x.cells.length = 3 := fun _ => rfl
theorem sp_slice {h : AH} {b n : Nat} {g : Kd} {el : TypeId} {L : List (Int × Int)} (hn : L.length = n) (f : Has h b (.cells g (L.flatMap spC) el)) : SliceOf h 2 (.slice b 0 n n) (L.map spC) :=
 SliceOf.mk' rfl rfl f (by rw [List.length_map, hn]) fun i v q => by rw [Nat.zero_add]; exact flatten_at spC_len i v q
theorem bv_slice {h : AH} {b n : Nat} {g : Kd} {el : TypeId} {L : List BV} (hn : L.length = n) (f : Has h b (.cells g (L.flatMap BV.cells) el)) : SliceOf h 4 (.slice b 0 n n) (L.map BV.cells) :=
 SliceOf.mk' rfl rfl f (by rw [List.length_map, hn]) fun i v q => by rw [Nat.zero_add]; exact flatten_at bv_len i v q
theorem lv_slice {h : AH} {b n : Nat} {g : Kd} {el : TypeId} {L : List LV} (hn : L.length = n) (f : Has h b (.cells g (L.flatMap LV.cells) el)) : SliceOf h 3 (.slice b 0 n n) (L.map LV.cells) :=
 SliceOf.mk' rfl rfl f (by rw [List.length_map, hn]) fun i v q => by rw [Nat.zero_add]; exact flatten_at lv_len i v q
theorem slice_form {h : AH} {sz : Nat} {s : AVal} {L : List (List AVal)} (k : SliceOf h sz s L) : s = .nilslice ∨ (∃ b o n c, s = .slice b o n c) ∨ ∃ b o k n, s = .gsl b o k n := by
 cases k with
 | nil => exact .inl rfl
 | mk hs hn hb hl hz hc =>
  cases s <;> first | exact .inl rfl | exact .inr (.inl ⟨_, _, _, _, rfl⟩) | exact .inr (.inr ⟨_, _, _, _, rfl⟩) | cases hs
theorem sample_ok {L : List LV} {s : AVal} {h : AH} (hs : SliceOf h 3 s (L.map LV.cells)) : Runs Try.prog 30 [s] h (fun en h' => ∃ r b, en = .ret (.agg ((sampleV L).cells r b s)) ∧ Ext h h' ∧ CutAt h' (sampleV L) r b s) := by
 rcases slice_form hs with rfl | ⟨sb, so, sn, sc, rfl⟩ | ⟨sb, so, sn, sc, rfl⟩
 ·have e0 : Ext h h := Ext.refl _
  refine Runs.intro aFunc30 rfl rfl rfl rfl fun rest => ?_;apply gS;refine gR rfl ?_;refine GoR.alloc rfl rfl rfl zt28 rfl rfl fun h0 x0 f0 => ?_;have := e0.1;replace e0 := e0.trans x0;have := f0.1;apply gE;apply gS;refine gR rfl ?_;refine GoR.call rfl rfl (aCF aFunc24 rfl) (span24_ok) ?_ np;rintro v1 h1 ⟨q, x1⟩;cases q;refine ⟨_, rfl, ?_⟩;replace f0 := f0.ext x1;replace e0 := e0.trans x1;refine GoR.call rfl rfl (aCF aFunc24 rfl) (span24_ok) ?_ np;rintro v2 h2 ⟨q, x2⟩;cases q;refine ⟨_, rfl, ?_⟩;replace f0 := f0.ext x2;replace e0 := e0.trans x2;refine GoR.call rfl rfl (aCF aFunc24 rfl) (span24_ok) ?_ np;rintro v3 h3 ⟨q, x3⟩;cases q;refine ⟨_, rfl, ?_⟩;replace f0 := f0.ext x3;replace e0 := e0.trans x3;refine GoR.call rfl rfl (aCF aFunc24 rfl) (span24_ok) ?_ np;rintro v4 h4 ⟨q, x4⟩;cases q;refine ⟨_, rfl, ?_⟩;replace f0 := f0.ext x4;replace e0 := e0.trans x4;refine GoR.call rfl rfl (aCF aFunc24 rfl) (span24_ok) ?_ np;rintro v5 h5 ⟨q, x5⟩;cases q;refine ⟨_, rfl, ?_⟩;replace f0 := f0.ext x5;replace e0 := e0.trans x5;refine GoR.call rfl rfl (aCF aFunc24 rfl) (span24_ok) ?_ np;rintro v6 h6 ⟨q, x6⟩;cases q;refine ⟨_, rfl, ?_⟩;replace f0 := f0.ext x6;replace e0 := e0.trans x6;refine GoR.buildSl rfl rfl (ps := [(0, .agg [.int .i64 3, .int .i64 5]), (1, .agg [.int .i64 0, .int .i64 0]), (2, .agg [.int .i64 0, .int .i64 4]), (3, .agg [.int .i64 8, .int .i64 9])]) (cs := ([(3, 5), (0, 0), (0, 4), (8, 9)] : List (Int × Int)).flatMap spC) Try.underlying24 rfl sz23 zt23 rfl rfl rfl rfl fun h7 x7 f7 => ?_;have := e0.1;have := f0.1;replace f0 := f0.ext x7;replace e0 := e0.trans x7;have := f7.1;refine GoR.call rfl rfl (aCF aFunc24 rfl) (span24_ok) ?_ np;rintro v8 h8 ⟨q, x8⟩;cases q;refine ⟨_, rfl, ?_⟩;replace f7 := f7.ext x8;replace f0 := f0.ext x8;replace e0 := e0.trans x8;refine gO rfl rfl (aOp_build zt45 hu45 pl45 rfl rfl) rfl ?_;refine GoR.call rfl rfl (aCF aFunc24 rfl) (span24_ok) ?_ np;rintro v9 h9 ⟨q, x9⟩;cases q;refine ⟨_, rfl, ?_⟩;replace f7 := f7.ext x9;replace f0 := f0.ext x9;replace e0 := e0.trans x9;refine gO rfl rfl (aOp_build zt45 hu45 pl45 rfl rfl) rfl ?_;refine GoR.buildSl rfl rfl (ps := [(0, .agg [.int .i64 6, .int .i64 7, .int .i64 3, .int .i64 4]), (1, .agg [.int .i64 13, .int .i64 13, .int .i64 2, .int .i64 2])]) (cs := ([⟨6, 7, 3, 4⟩, ⟨13, 13, 2, 2⟩] : List BV).flatMap BV.cells) Try.underlying25 rfl sz45 zt45 rfl rfl rfl rfl fun h10 x10 f10 => ?_;have := e0.1;have := f7.1;have := f0.1;replace f7 := f7.ext x10;replace f0 := f0.ext x10;replace e0 := e0.trans x10;have := f10.1;refine gP ?_;refine gO rfl rfl (aOp_build zt28 hu28 pl28 rfl rfl) rfl ?_;refine GoR.store rfl rfl rfl rfl rfl rfl f0 rfl sz28 rfl rfl rfl fun h11 u11 => ?_;replace f10 := f10.upd u11 (by omega);replace f7 := f7.upd u11 (by omega);replace f0 := u11.has f0;replace e0 := e0.upd u11 (by omega);apply gE;exact gV (ret_end (aResult_of Try.func30 rfl (aResults_cell rfl f0 (inCells_agg ag28 sz28 rfl))) ⟨_, _, rfl, e0, ⟨sp_slice (L := [(3, 5), (0, 0), (0, 4), (8, 9)]) rfl f7, bv_slice (L := [⟨6, 7, 3, 4⟩, ⟨13, 13, 2, 2⟩]) rfl f10, hs.ext e0⟩⟩)
 ·have e0 : Ext h h := Ext.refl _
  refine Runs.intro aFunc30 rfl rfl rfl rfl fun rest => ?_;apply gS;refine gR rfl ?_;refine GoR.alloc rfl rfl rfl zt28 rfl rfl fun h0 x0 f0 => ?_;have := e0.1;replace e0 := e0.trans x0;have := f0.1;apply gE;apply gS;refine gR rfl ?_;refine GoR.call rfl rfl (aCF aFunc24 rfl) (span24_ok) ?_ np;rintro v1 h1 ⟨q, x1⟩;cases q;refine ⟨_, rfl, ?_⟩;replace f0 := f0.ext x1;replace e0 := e0.trans x1;refine GoR.call rfl rfl (aCF aFunc24 rfl) (span24_ok) ?_ np;rintro v2 h2 ⟨q, x2⟩;cases q;refine ⟨_, rfl, ?_⟩;replace f0 := f0.ext x2;replace e0 := e0.trans x2;refine GoR.call rfl rfl (aCF aFunc24 rfl) (span24_ok) ?_ np;rintro v3 h3 ⟨q, x3⟩;cases q;refine ⟨_, rfl, ?_⟩;replace f0 := f0.ext x3;replace e0 := e0.trans x3;refine GoR.call rfl rfl (aCF aFunc24 rfl) (span24_ok) ?_ np;rintro v4 h4 ⟨q, x4⟩;cases q;refine ⟨_, rfl, ?_⟩;replace f0 := f0.ext x4;replace e0 := e0.trans x4;refine GoR.call rfl rfl (aCF aFunc24 rfl) (span24_ok) ?_ np;rintro v5 h5 ⟨q, x5⟩;cases q;refine ⟨_, rfl, ?_⟩;replace f0 := f0.ext x5;replace e0 := e0.trans x5;refine GoR.call rfl rfl (aCF aFunc24 rfl) (span24_ok) ?_ np;rintro v6 h6 ⟨q, x6⟩;cases q;refine ⟨_, rfl, ?_⟩;replace f0 := f0.ext x6;replace e0 := e0.trans x6;refine GoR.buildSl rfl rfl (ps := [(0, .agg [.int .i64 3, .int .i64 5]), (1, .agg [.int .i64 0, .int .i64 0]), (2, .agg [.int .i64 0, .int .i64 4]), (3, .agg [.int .i64 8, .int .i64 9])]) (cs := ([(3, 5), (0, 0), (0, 4), (8, 9)] : List (Int × Int)).flatMap spC) Try.underlying24 rfl sz23 zt23 rfl rfl rfl rfl fun h7 x7 f7 => ?_;have := e0.1;have := f0.1;replace f0 := f0.ext x7;replace e0 := e0.trans x7;have := f7.1;refine GoR.call rfl rfl (aCF aFunc24 rfl) (span24_ok) ?_ np;rintro v8 h8 ⟨q, x8⟩;cases q;refine ⟨_, rfl, ?_⟩;replace f7 := f7.ext x8;replace f0 := f0.ext x8;replace e0 := e0.trans x8;refine gO rfl rfl (aOp_build zt45 hu45 pl45 rfl rfl) rfl ?_;refine GoR.call rfl rfl (aCF aFunc24 rfl) (span24_ok) ?_ np;rintro v9 h9 ⟨q, x9⟩;cases q;refine ⟨_, rfl, ?_⟩;replace f7 := f7.ext x9;replace f0 := f0.ext x9;replace e0 := e0.trans x9;refine gO rfl rfl (aOp_build zt45 hu45 pl45 rfl rfl) rfl ?_;refine GoR.buildSl rfl rfl (ps := [(0, .agg [.int .i64 6, .int .i64 7, .int .i64 3, .int .i64 4]), (1, .agg [.int .i64 13, .int .i64 13, .int .i64 2, .int .i64 2])]) (cs := ([⟨6, 7, 3, 4⟩, ⟨13, 13, 2, 2⟩] : List BV).flatMap BV.cells) Try.underlying25 rfl sz45 zt45 rfl rfl rfl rfl fun h10 x10 f10 => ?_;have := e0.1;have := f7.1;have := f0.1;replace f7 := f7.ext x10;replace f0 := f0.ext x10;replace e0 := e0.trans x10;have := f10.1;refine gP ?_;refine gO rfl rfl (aOp_build zt28 hu28 pl28 rfl rfl) rfl ?_;refine GoR.store rfl rfl rfl rfl rfl rfl f0 rfl sz28 rfl rfl rfl fun h11 u11 => ?_;replace f10 := f10.upd u11 (by omega);replace f7 := f7.upd u11 (by omega);replace f0 := u11.has f0;replace e0 := e0.upd u11 (by omega);apply gE;exact gV (ret_end (aResult_of Try.func30 rfl (aResults_cell rfl f0 (inCells_agg ag28 sz28 rfl))) ⟨_, _, rfl, e0, ⟨sp_slice (L := [(3, 5), (0, 0), (0, 4), (8, 9)]) rfl f7, bv_slice (L := [⟨6, 7, 3, 4⟩, ⟨13, 13, 2, 2⟩]) rfl f10, hs.ext e0⟩⟩)
 ·have e0 : Ext h h := Ext.refl _
  refine Runs.intro aFunc30 rfl rfl rfl rfl fun rest => ?_;apply gS;refine gR rfl ?_;refine GoR.alloc rfl rfl rfl zt28 rfl rfl fun h0 x0 f0 => ?_;have := e0.1;replace e0 := e0.trans x0;have := f0.1;apply gE;apply gS;refine gR rfl ?_;refine GoR.call rfl rfl (aCF aFunc24 rfl) (span24_ok) ?_ np;rintro v1 h1 ⟨q, x1⟩;cases q;refine ⟨_, rfl, ?_⟩;replace f0 := f0.ext x1;replace e0 := e0.trans x1;refine GoR.call rfl rfl (aCF aFunc24 rfl) (span24_ok) ?_ np;rintro v2 h2 ⟨q, x2⟩;cases q;refine ⟨_, rfl, ?_⟩;replace f0 := f0.ext x2;replace e0 := e0.trans x2;refine GoR.call rfl rfl (aCF aFunc24 rfl) (span24_ok) ?_ np;rintro v3 h3 ⟨q, x3⟩;cases q;refine ⟨_, rfl, ?_⟩;replace f0 := f0.ext x3;replace e0 := e0.trans x3;refine GoR.call rfl rfl (aCF aFunc24 rfl) (span24_ok) ?_ np;rintro v4 h4 ⟨q, x4⟩;cases q;refine ⟨_, rfl, ?_⟩;replace f0 := f0.ext x4;replace e0 := e0.trans x4;refine GoR.call rfl rfl (aCF aFunc24 rfl) (span24_ok) ?_ np;rintro v5 h5 ⟨q, x5⟩;cases q;refine ⟨_, rfl, ?_⟩;replace f0 := f0.ext x5;replace e0 := e0.trans x5;refine GoR.call rfl rfl (aCF aFunc24 rfl) (span24_ok) ?_ np;rintro v6 h6 ⟨q, x6⟩;cases q;refine ⟨_, rfl, ?_⟩;replace f0 := f0.ext x6;replace e0 := e0.trans x6;refine GoR.buildSl rfl rfl (ps := [(0, .agg [.int .i64 3, .int .i64 5]), (1, .agg [.int .i64 0, .int .i64 0]), (2, .agg [.int .i64 0, .int .i64 4]), (3, .agg [.int .i64 8, .int .i64 9])]) (cs := ([(3, 5), (0, 0), (0, 4), (8, 9)] : List (Int × Int)).flatMap spC) Try.underlying24 rfl sz23 zt23 rfl rfl rfl rfl fun h7 x7 f7 => ?_;have := e0.1;have := f0.1;replace f0 := f0.ext x7;replace e0 := e0.trans x7;have := f7.1;refine GoR.call rfl rfl (aCF aFunc24 rfl) (span24_ok) ?_ np;rintro v8 h8 ⟨q, x8⟩;cases q;refine ⟨_, rfl, ?_⟩;replace f7 := f7.ext x8;replace f0 := f0.ext x8;replace e0 := e0.trans x8;refine gO rfl rfl (aOp_build zt45 hu45 pl45 rfl rfl) rfl ?_;refine GoR.call rfl rfl (aCF aFunc24 rfl) (span24_ok) ?_ np;rintro v9 h9 ⟨q, x9⟩;cases q;refine ⟨_, rfl, ?_⟩;replace f7 := f7.ext x9;replace f0 := f0.ext x9;replace e0 := e0.trans x9;refine gO rfl rfl (aOp_build zt45 hu45 pl45 rfl rfl) rfl ?_;refine GoR.buildSl rfl rfl (ps := [(0, .agg [.int .i64 6, .int .i64 7, .int .i64 3, .int .i64 4]), (1, .agg [.int .i64 13, .int .i64 13, .int .i64 2, .int .i64 2])]) (cs := ([⟨6, 7, 3, 4⟩, ⟨13, 13, 2, 2⟩] : List BV).flatMap BV.cells) Try.underlying25 rfl sz45 zt45 rfl rfl rfl rfl fun h10 x10 f10 => ?_;have := e0.1;have := f7.1;have := f0.1;replace f7 := f7.ext x10;replace f0 := f0.ext x10;replace e0 := e0.trans x10;have := f10.1;refine gP ?_;refine gO rfl rfl (aOp_build zt28 hu28 pl28 rfl rfl) rfl ?_;refine GoR.store rfl rfl rfl rfl rfl rfl f0 rfl sz28 rfl rfl rfl fun h11 u11 => ?_;replace f10 := f10.upd u11 (by omega);replace f7 := f7.upd u11 (by omega);replace f0 := u11.has f0;replace e0 := e0.upd u11 (by omega);apply gE;exact gV (ret_end (aResult_of Try.func30 rfl (aResults_cell rfl f0 (inCells_agg ag28 sz28 rfl))) ⟨_, _, rfl, e0, ⟨sp_slice (L := [(3, 5), (0, 0), (0, 4), (8, 9)]) rfl f7, bv_slice (L := [⟨6, 7, 3, 4⟩, ⟨13, 13, 2, 2⟩]) rfl f10, hs.ext e0⟩⟩)
end Go.Proofs.Yteibheeleeengaa

namespace Go.Proofs.Yteibheeleeengaa
open Go Go.AbsE
set_option linter.unusedSimpArgs false
set_option maxRecDepth 100000
set_option maxHeartbeats 0
set_option linter.unusedVariables false
theorem v_d : (sampleV []).depthR 3 = ((7, 18), 0) := by decide +kernel
theorem v_l : (sampleV [⟨2, 14, 20⟩]).leakR = ((1, 1), 0) := by decide +kernel
theorem v_f : (sampleV []).floatsR 0 2 0 = (1, 0) := by decide +kernel
theorem v_o : (sampleV []).loadsR 0 2 = ((0, 3), 0) := by decide +kernel
theorem v_y : (sampleV []).daysR 0 1 = ((19, 31), 0) := by decide +kernel
theorem v_u : (sampleV []).untilR 0 1 2 = (4, 0) := by decide +kernel
theorem v_t : (sampleV []).togetherR 4 = (2, 0) := by decide +kernel
theorem v_c : (sampleV [⟨2, 14, 20⟩, ⟨3, 5, 9⟩]).clashR = (3, 0) := by decide +kernel
theorem v_d2 : (sampleV [⟨2, 14, 20⟩]).depthR 0 = ((11, 12), 0) := by decide +kernel
theorem spanT23 : SpanT Try.prog 23 := ⟨⟨_, _, Try.underlying23, by decide, by decide, rfl, rfl, ⟨_, Try.underlying3⟩, ⟨_, Try.underlying3⟩⟩, by kernel_rfl, by kernel_rfl⟩
theorem scal_app {a b : List AVal} (ha : scalars a = true) (hb : scalars b = true) : scalars (a ++ b) = true := by
 induction a with
 | nil => exact hb
 | cons x a ih =>
  show cond (scalar x) (scalars (a ++ b)) false = true
  have h1 : cond (scalar x) (scalars a) false = true := ha
  cases q : scalar x with
  | true => rw [q] at h1; exact ih h1
  | false => rw [q] at h1; cases h1
theorem CutAt.scal {C : CutV} {r b l : AVal} {h : AH} (A : CutAt h C r b l) : scalars (C.cells r b l) = true :=
 scal_app (a := [.int .i64 C.dl, .int .i64 C.dh, .int .i64 C.kl, .int .i64 C.kh]) rfl (scal_app (a := [r]) A.rs.scal.1 (scal_app (a := [.int .i64 C.most]) rfl (scal_app (a := [b]) A.bs.scal.1 A.ls.scal.1)))
theorem cv_d {h : AH} {r b l : AVal} (A : CutAt h (sampleV []) r b l) : Runs Try.prog 17 [.agg ((sampleV []).cells r b l), .int .i64 3] h (fun en h' => en = .ret (.tuple [.agg [.int .i64 7, .int .i64 18], .int .i64 0]) ∧ Ext h h') := by
 have q := Depth_ok A (by decide) (by decide) (by decide) 3
 rw [v_d] at q;exact q
theorem cv_l {h : AH} {r b l : AVal} (A : CutAt h (sampleV [⟨2, 14, 20⟩]) r b l) : Runs Try.prog 15 [.agg ((sampleV [⟨2, 14, 20⟩]).cells r b l)] h (fun en h' => en = .ret (.tuple [.agg [.int .i64 1, .int .i64 1], .int .i64 0]) ∧ Ext h h') := by
 have q := Leak_ok A (by decide) (by decide) (by decide)
 rw [v_l] at q;exact q
theorem cv_f {h : AH} {r b l : AVal} (A : CutAt h (sampleV []) r b l) : Runs Try.prog 22 [.agg ((sampleV []).cells r b l), .int .i64 0, .int .i64 2, .int .i64 0] h (fun en h' => en = .ret (.tuple [.int .i64 1, .int .i64 0]) ∧ Ext h h') := by
 have q := Floats_ok A (by decide) (by decide) (by decide) 0 2 0
 rw [v_f] at q;exact q
theorem cv_o {h : AH} {r b l : AVal} (A : CutAt h (sampleV []) r b l) : Runs Try.prog 26 [.agg ((sampleV []).cells r b l), .int .i64 0, .int .i64 2] h (fun en h' => en = .ret (.tuple [.int .i64 0, .int .i64 3, .int .i64 0]) ∧ Ext h h') := by
 have q := Loads_ok A (by decide) (by decide) (by decide) 0 2
 rw [v_o] at q;exact q
theorem cv_y {h : AH} {r b l : AVal} (A : CutAt h (sampleV []) r b l) : Runs Try.prog 18 [.agg ((sampleV []).cells r b l), .int .i64 0, .int .i64 1] h (fun en h' => en = .ret (.tuple [.int .i64 19, .int .i64 31, .int .i64 0]) ∧ Ext h h') := by
 have q := Days_ok A (by decide) (by decide) (by decide) 0 1
 rw [v_y] at q;exact q
theorem cv_u {h : AH} {r b l : AVal} (A : CutAt h (sampleV []) r b l) : Runs Try.prog 19 [.agg ((sampleV []).cells r b l), .int .i64 0, .int .i64 1, .int .i64 2] h (fun en h' => en = .ret (.tuple [.int .i64 4, .int .i64 0]) ∧ Ext h h') := by
 have q := Until_ok A (by decide) (by decide) (by decide) 0 1 2
 rw [v_u] at q;exact q
theorem cv_t {h : AH} {r b l : AVal} (A : CutAt h (sampleV []) r b l) : Runs Try.prog 23 [.agg ((sampleV []).cells r b l), .int .i64 4] h (fun en h' => en = .ret (.tuple [.int .i64 2, .int .i64 0]) ∧ Ext h h') := by
 have q := Together_ok A (by decide) (by decide) (by decide) 4
 rw [v_t] at q;exact q
theorem cv_c {h : AH} {r b l : AVal} (A : CutAt h (sampleV [⟨2, 14, 20⟩, ⟨3, 5, 9⟩]) r b l) : Runs Try.prog 14 [.agg ((sampleV [⟨2, 14, 20⟩, ⟨3, 5, 9⟩]).cells r b l)] h (fun en h' => en = .ret (.tuple [.int .i64 3, .int .i64 0]) ∧ Ext h h') := by
 have q := Clash_ok A (by decide) (by decide) (by decide)
 rw [v_c] at q;exact q
theorem cv_d2 {h : AH} {r b l : AVal} (A : CutAt h (sampleV [⟨2, 14, 20⟩]) r b l) : Runs Try.prog 17 [.agg ((sampleV [⟨2, 14, 20⟩]).cells r b l), .int .i64 0] h (fun en h' => en = .ret (.tuple [.agg [.int .i64 11, .int .i64 12], .int .i64 0]) ∧ Ext h h') := by
 have q := Depth_ok A (by decide) (by decide) (by decide) 0
 rw [v_d2] at q;exact q
theorem sample_of {L : List LV} {s : AVal} {h : AH} (hs : SliceOf h 3 s (L.map LV.cells)) : Runs Try.prog 30 [s] h (fun en h' => ∃ r b, en = .ret (.agg ((sampleV L).cells r b s)) ∧ Ext h h' ∧ CutAt h' (sampleV L) r b s ∧ Ext h' h') :=
 (sample_ok hs).mono fun _ _ ⟨r, b, q, e, A⟩ => ⟨r, b, q, e, A, Ext.refl _⟩
theorem awake_ok {h : AH} : Runs Try.prog 11 [] h (fun en h' => en = .ret (.bool true) ∧ Ext h h') := by
 have hlk := fun {h9} => look25_ok (d := 2) (a := 14) (b := 20) (h := h9)
 have hlk2 := fun {h9} => look25_ok (d := 3) (a := 5) (b := 9) (h := h9)
 unfold LV.cells at hlk hlk2
 have e0 : Ext h h := Ext.refl _
 refine Runs.intro aFunc11 rfl rfl rfl rfl fun rest => ?_;apply gS;refine gR rfl ?_;refine gP ?_;apply gE;apply gS;refine gR rfl ?_;refine GoR.call rfl rfl (aCF aFunc30 rfl) (sample_of (L := []) .nil) ?_ (by rintro _ _ ⟨r0, b0, q, _, A0, e900⟩; cases q);rintro v0 h0 ⟨r0, b0, q, x0, A0, e900⟩;cases q;refine ⟨_, rfl, ?_⟩;have := e0.1;replace e0 := e0.trans x0;refine GoR.call rfl rfl (aCF aFunc25 rfl) (hlk) ?_ np;rintro v1 h1 ⟨q, x1⟩;cases q;refine ⟨_, rfl, ?_⟩;replace e900 := e900.trans x1;replace e0 := e0.trans x1;refine GoR.buildSl rfl rfl (ps := [(0, .agg [.int .i64 2, .int .i64 14, .int .i64 20])]) (cs := ([⟨2, 14, 20⟩] : List LV).flatMap LV.cells) Try.underlying26 rfl sz53 zt53 rfl rfl rfl rfl fun h2 x2 f2 => ?_;have := e900.1;have := e0.1;replace e900 := e900.trans x2;replace e0 := e0.trans x2;have := f2.1;refine GoR.call rfl rfl (aCF aFunc30 rfl) (sample_of (L := [⟨2, 14, 20⟩]) (lv_slice rfl (by assumption))) ?_ (by rintro _ _ ⟨r1, b1, q, _, A1, e901⟩; cases q);rintro v3 h3 ⟨r1, b1, q, x3, A1, e901⟩;cases q;refine ⟨_, rfl, ?_⟩;have := e900.1;have := e0.1;replace f2 := f2.ext x3;replace e900 := e900.trans x3;replace e0 := e0.trans x3;refine GoR.alloc rfl rfl rfl zt28 rfl rfl fun h4 x4 f4 => ?_;have := e901.1;have := e900.1;have := e0.1;have := f2.1;replace f2 := f2.ext x4;replace e901 := e901.trans x4;replace e900 := e900.trans x4;replace e0 := e0.trans x4;have := f4.1;refine GoR.alloc rfl rfl rfl zt28 rfl rfl fun h5 x5 f5 => ?_;have := e901.1;have := e900.1;have := e0.1;have := f4.1;have := f2.1;replace f4 := f4.ext x5;replace f2 := f2.ext x5;replace e901 := e901.trans x5;replace e900 := e900.trans x5;replace e0 := e0.trans x5;have := f5.1;refine GoR.store rfl rfl rfl rfl rfl rfl f4 rfl sz28 rfl A0.scal rfl fun h6 u6 => ?_;replace f5 := f5.upd u6 (by omega);replace f4 := u6.has f4;replace f2 := f2.upd u6 (by omega);replace e901 := e901.upd u6 (by omega);replace e900 := e900.upd u6 (by omega);replace e0 := e0.upd u6 (by omega);refine GoR.store rfl rfl rfl rfl rfl rfl f5 rfl sz28 rfl A1.scal rfl fun h7 u7 => ?_;replace f5 := u7.has f5;replace f4 := f4.upd u7 (by omega);replace f2 := f2.upd u7 (by omega);replace e901 := e901.upd u7 (by omega);replace e900 := e900.upd u7 (by omega);replace e0 := e0.upd u7 (by omega);apply gE;apply gS;refine gR rfl ?_;refine gO rfl rfl (ld28 rfl f4 rfl) rfl ?_;refine GoR.call rfl rfl (aCF aFunc17 rfl) (cv_d (A0.ext e900)) ?_ np;rintro v8 h8 ⟨q, x8⟩;cases q;refine ⟨_, rfl, ?_⟩;replace f5 := f5.ext x8;replace f4 := f4.ext x8;replace f2 := f2.ext x8;replace e901 := e901.trans x8;replace e900 := e900.trans x8;replace e0 := e0.trans x8;iterate 3 refine gP ?_
 refine GoR.alloc rfl rfl rfl zt23 rfl rfl fun h9 x9 f9 => ?_;have := e901.1;have := e900.1;have := e0.1;have := f5.1;have := f4.1;have := f2.1;replace f5 := f5.ext x9;replace f4 := f4.ext x9;replace f2 := f2.ext x9;replace e901 := e901.trans x9;replace e900 := e900.trans x9;replace e0 := e0.trans x9;have := f9.1;refine GoR.store rfl rfl rfl rfl rfl rfl f9 rfl sz23 rfl rfl rfl fun h10 u10 => ?_;replace f9 := u10.has f9;replace f5 := f5.upd u10 (by omega);replace f4 := f4.upd u10 (by omega);replace f2 := f2.upd u10 (by omega);replace e901 := e901.upd u10 (by omega);replace e900 := e900.upd u10 (by omega);replace e0 := e0.upd u10 (by omega);refine gP ?_;apply gE;apply gS;refine gR rfl ?_;refine gO rfl rfl (ld28 rfl f5 rfl) rfl ?_;refine GoR.call rfl rfl (aCF aFunc15 rfl) (cv_l (A1.ext e901)) ?_ np;rintro v11 h11 ⟨q, x11⟩;cases q;refine ⟨_, rfl, ?_⟩;replace f9 := f9.ext x11;replace f5 := f5.ext x11;replace f4 := f4.ext x11;replace f2 := f2.ext x11;replace e901 := e901.trans x11;replace e900 := e900.trans x11;replace e0 := e0.trans x11;iterate 3 refine gP ?_
 refine GoR.alloc rfl rfl rfl zt23 rfl rfl fun h12 x12 f12 => ?_;have := e901.1;have := e900.1;have := e0.1;have := f9.1;have := f5.1;have := f4.1;have := f2.1;replace f9 := f9.ext x12;replace f5 := f5.ext x12;replace f4 := f4.ext x12;replace f2 := f2.ext x12;replace e901 := e901.trans x12;replace e900 := e900.trans x12;replace e0 := e0.trans x12;have := f12.1;refine GoR.store rfl rfl rfl rfl rfl rfl f12 rfl sz23 rfl rfl rfl fun h13 u13 => ?_;replace f12 := u13.has f12;replace f9 := f9.upd u13 (by omega);replace f5 := f5.upd u13 (by omega);replace f4 := f4.upd u13 (by omega);replace f2 := f2.upd u13 (by omega);replace e901 := e901.upd u13 (by omega);replace e900 := e900.upd u13 (by omega);replace e0 := e0.upd u13 (by omega);refine gP ?_;apply gE;apply gS;refine gR rfl ?_;refine gO rfl rfl (ld28 rfl f4 rfl) rfl ?_;refine GoR.call rfl rfl (aCF aFunc22 rfl) (cv_f (A0.ext e900)) ?_ np;rintro v14 h14 ⟨q, x14⟩;cases q;refine ⟨_, rfl, ?_⟩;replace f12 := f12.ext x14;replace f9 := f9.ext x14;replace f5 := f5.ext x14;replace f4 := f4.ext x14;replace f2 := f2.ext x14;replace e901 := e901.trans x14;replace e900 := e900.trans x14;replace e0 := e0.trans x14;iterate 5 refine gP ?_
 apply gE;apply gS;refine gR rfl ?_;refine gO rfl rfl (ld28 rfl f4 rfl) rfl ?_;refine GoR.call rfl rfl (aCF aFunc26 rfl) (cv_o (A0.ext e900)) ?_ np;rintro v15 h15 ⟨q, x15⟩;cases q;refine ⟨_, rfl, ?_⟩;replace f12 := f12.ext x15;replace f9 := f9.ext x15;replace f5 := f5.ext x15;replace f4 := f4.ext x15;replace f2 := f2.ext x15;replace e901 := e901.trans x15;replace e900 := e900.trans x15;replace e0 := e0.trans x15;iterate 7 refine gP ?_
 apply gE;apply gS;refine gR rfl ?_;refine gO rfl rfl (ld28 rfl f4 rfl) rfl ?_;refine GoR.call rfl rfl (aCF aFunc18 rfl) (cv_y (A0.ext e900)) ?_ np;rintro v16 h16 ⟨q, x16⟩;cases q;refine ⟨_, rfl, ?_⟩;replace f12 := f12.ext x16;replace f9 := f9.ext x16;replace f5 := f5.ext x16;replace f4 := f4.ext x16;replace f2 := f2.ext x16;replace e901 := e901.trans x16;replace e900 := e900.trans x16;replace e0 := e0.trans x16;iterate 7 refine gP ?_
 apply gE;apply gS;refine gR rfl ?_;refine gO rfl rfl (ld28 rfl f4 rfl) rfl ?_;refine GoR.call rfl rfl (aCF aFunc19 rfl) (cv_u (A0.ext e900)) ?_ np;rintro v17 h17 ⟨q, x17⟩;cases q;refine ⟨_, rfl, ?_⟩;replace f12 := f12.ext x17;replace f9 := f9.ext x17;replace f5 := f5.ext x17;replace f4 := f4.ext x17;replace f2 := f2.ext x17;replace e901 := e901.trans x17;replace e900 := e900.trans x17;replace e0 := e0.trans x17;iterate 5 refine gP ?_
 apply gE;apply gS;refine gR rfl ?_;refine gO rfl rfl (ld28 rfl f4 rfl) rfl ?_;refine GoR.call rfl rfl (aCF aFunc23 rfl) (cv_t (A0.ext e900)) ?_ np;rintro v18 h18 ⟨q, x18⟩;cases q;refine ⟨_, rfl, ?_⟩;replace f12 := f12.ext x18;replace f9 := f9.ext x18;replace f5 := f5.ext x18;replace f4 := f4.ext x18;replace f2 := f2.ext x18;replace e901 := e901.trans x18;replace e900 := e900.trans x18;replace e0 := e0.trans x18;iterate 5 refine gP ?_
 apply gE;apply gS;refine gR rfl ?_;refine GoR.call rfl rfl (aCF aFunc25 rfl) (hlk) ?_ np;rintro v19 h19 ⟨q, x19⟩;cases q;refine ⟨_, rfl, ?_⟩;replace f12 := f12.ext x19;replace f9 := f9.ext x19;replace f5 := f5.ext x19;replace f4 := f4.ext x19;replace f2 := f2.ext x19;replace e901 := e901.trans x19;replace e900 := e900.trans x19;replace e0 := e0.trans x19;refine GoR.call rfl rfl (aCF aFunc25 rfl) (hlk2) ?_ np;rintro v20 h20 ⟨q, x20⟩;cases q;refine ⟨_, rfl, ?_⟩;replace f12 := f12.ext x20;replace f9 := f9.ext x20;replace f5 := f5.ext x20;replace f4 := f4.ext x20;replace f2 := f2.ext x20;replace e901 := e901.trans x20;replace e900 := e900.trans x20;replace e0 := e0.trans x20;refine GoR.buildSl rfl rfl (ps := [(0, .agg [.int .i64 2, .int .i64 14, .int .i64 20]), (1, .agg [.int .i64 3, .int .i64 5, .int .i64 9])]) (cs := ([⟨2, 14, 20⟩, ⟨3, 5, 9⟩] : List LV).flatMap LV.cells) Try.underlying26 rfl sz53 zt53 rfl rfl rfl rfl fun h21 x21 f21 => ?_;have := e901.1;have := e900.1;have := e0.1;have := f12.1;have := f9.1;have := f5.1;have := f4.1;have := f2.1;replace f12 := f12.ext x21;replace f9 := f9.ext x21;replace f5 := f5.ext x21;replace f4 := f4.ext x21;replace f2 := f2.ext x21;replace e901 := e901.trans x21;replace e900 := e900.trans x21;replace e0 := e0.trans x21;have := f21.1;refine GoR.call rfl rfl (aCF aFunc30 rfl) (sample_of (L := [⟨2, 14, 20⟩, ⟨3, 5, 9⟩]) (lv_slice rfl (by assumption))) ?_ (by rintro _ _ ⟨r2, b2, q, _, A2, e902⟩; cases q);rintro v22 h22 ⟨r2, b2, q, x22, A2, e902⟩;cases q;refine ⟨_, rfl, ?_⟩;have := e901.1;have := e900.1;have := e0.1;replace f21 := f21.ext x22;replace f12 := f12.ext x22;replace f9 := f9.ext x22;replace f5 := f5.ext x22;replace f4 := f4.ext x22;replace f2 := f2.ext x22;replace e901 := e901.trans x22;replace e900 := e900.trans x22;replace e0 := e0.trans x22;refine GoR.call rfl rfl (aCF aFunc14 rfl) (cv_c (A2.ext e902)) ?_ np;rintro v23 h23 ⟨q, x23⟩;cases q;refine ⟨_, rfl, ?_⟩;replace f21 := f21.ext x23;replace f12 := f12.ext x23;replace f9 := f9.ext x23;replace f5 := f5.ext x23;replace f4 := f4.ext x23;replace f2 := f2.ext x23;replace e902 := e902.trans x23;replace e901 := e901.trans x23;replace e900 := e900.trans x23;replace e0 := e0.trans x23;iterate 5 refine gP ?_
 apply gE;apply gS;refine gR rfl ?_;refine gO rfl rfl (ld28 rfl f5 rfl) rfl ?_;refine GoR.call rfl rfl (aCF aFunc17 rfl) (cv_d2 (A1.ext e901)) ?_ np;rintro v24 h24 ⟨q, x24⟩;cases q;refine ⟨_, rfl, ?_⟩;replace f21 := f21.ext x24;replace f12 := f12.ext x24;replace f9 := f9.ext x24;replace f5 := f5.ext x24;replace f4 := f4.ext x24;replace f2 := f2.ext x24;replace e902 := e902.trans x24;replace e901 := e901.trans x24;replace e900 := e900.trans x24;replace e0 := e0.trans x24;iterate 3 refine gP ?_
 refine GoR.alloc rfl rfl rfl zt23 rfl rfl fun h25 x25 f25 => ?_;have := e902.1;have := e901.1;have := e900.1;have := e0.1;have := f21.1;have := f12.1;have := f9.1;have := f5.1;have := f4.1;have := f2.1;replace f12 := f12.ext x25;replace f9 := f9.ext x25;replace e0 := e0.trans x25;have := f25.1;refine GoR.store rfl rfl rfl rfl rfl rfl f25 rfl sz23 rfl rfl rfl fun h26 u26 => ?_;replace f25 := u26.has f25;replace f12 := f12.upd u26 (by omega);replace f9 := f9.upd u26 (by omega);replace e0 := e0.upd u26 (by omega);refine gP ?_;apply gE;iterate 2 apply gS
 refine Go.drawnE plan11_0 ?_;refine gQ rfl rfl (ld23 rfl f9 rfl) rfl ?_;refine GoE.call rfl rfl (aCF aFunc24 rfl) (span24_ok) (dK 0 0 rfl) ?_ np;rintro v27 h27 ⟨q, x27⟩;cases q;replace f25 := f25.ext x27;replace f12 := f12.ext x27;replace f9 := f9.ext x27;replace e0 := e0.trans x27;refine ⟨(rck (h2 := h27) rfl (ld23 rfl f9 rfl) recheck_nil), _, rfl, ?_⟩;refine gQ rfl rfl (aOp_neqSpan spanT23 rfl rfl (r := false) (by simp)) rfl ?_;iterate 2 refine gQ rfl rfl rfl rfl ?_
 refine gQ rfl rfl (kXF rfl rfl) rfl ?_;iterate 2 refine gQ rfl rfl rfl rfl ?_
 refine gQ rfl rfl (ld23 rfl f12 rfl) rfl ?_;refine GoE.call rfl rfl (aCF aFunc24 rfl) (span24_ok) (dK 255 8 (dD 255 7 (dD 255 6 (dD 255 5 (dD 255 4 (dD 255 3 (dD 255 2 (dD 255 0 rfl)))))))) ?_ np;rintro v28 h28 ⟨q, x28⟩;cases q;replace f25 := f25.ext x28;replace f12 := f12.ext x28;replace e0 := e0.trans x28;refine ⟨(rck (h2 := h28) rfl (ld23 rfl f12 rfl) recheck_nil), _, rfl, ?_⟩;refine gQ rfl rfl (aOp_neqSpan spanT23 rfl rfl (r := false) (by simp)) rfl ?_;iterate 3 refine gQ rfl rfl rfl rfl ?_
 refine gQ rfl rfl (kXF rfl rfl) rfl ?_;iterate 3 refine gQ rfl rfl rfl rfl ?_
 refine gQ rfl rfl (kXF rfl rfl) rfl ?_;iterate 3 refine gQ rfl rfl rfl rfl ?_
 refine gQ rfl rfl (kXF rfl rfl) rfl ?_;iterate 3 refine gQ rfl rfl rfl rfl ?_
 refine gQ rfl rfl (kXF rfl rfl) rfl ?_;iterate 3 refine gQ rfl rfl rfl rfl ?_
 refine gQ rfl rfl (kXF rfl rfl) rfl ?_;iterate 3 refine gQ rfl rfl rfl rfl ?_
 refine gQ rfl rfl (kXF rfl rfl) rfl ?_;iterate 3 refine gQ rfl rfl rfl rfl ?_
 refine gQ rfl rfl (kXF rfl rfl) rfl ?_;iterate 3 refine gQ rfl rfl rfl rfl ?_
 refine gQ rfl rfl (kXF rfl rfl) rfl ?_;iterate 3 refine gQ rfl rfl rfl rfl ?_
 refine gQ rfl rfl (kXF rfl rfl) rfl ?_;refine gQ rfl rfl rfl rfl ?_;refine GoE.end rfl ?_;refine gC (b := false) rfl ?_;refine gD ?_;apply gS;refine Go.drawnE plan11_1 ?_;refine gQ rfl rfl rfl rfl ?_;refine gQ rfl rfl (kET rfl rfl) rfl ?_;iterate 2 refine gQ rfl rfl rfl rfl ?_
 refine gQ rfl rfl (kET rfl rfl) rfl ?_;iterate 3 refine gQ rfl rfl rfl rfl ?_
 refine gQ rfl rfl (kET rfl rfl) rfl ?_;iterate 3 refine gQ rfl rfl rfl rfl ?_
 refine gQ rfl rfl (kET rfl rfl) rfl ?_;iterate 3 refine gQ rfl rfl rfl rfl ?_
 refine gQ rfl rfl (kET rfl rfl) rfl ?_;iterate 3 refine gQ rfl rfl rfl rfl ?_
 refine gQ rfl rfl (kET rfl rfl) rfl ?_;iterate 2 refine gQ rfl rfl rfl rfl ?_
 refine gQ rfl rfl (ld23 rfl f25 rfl) rfl ?_;refine GoE.call rfl rfl (aCF aFunc24 rfl) (span24_ok) (dK 8388607 23 (dD 8388607 22 (dD 8388607 21 (dD 8388607 20 (dD 8388607 19 (dD 8388607 18 (dD 8388607 17 (dD 8388607 16 (dD 8388607 15 (dD 8388607 14 (dD 8388607 13 (dD 8388607 12 (dD 8388607 11 (dD 8388607 10 (dD 8388607 9 (dD 8388607 8 (dD 8388607 7 (dD 8388607 6 (dD 8388607 5 (dD 8388607 4 (dD 8388607 3 (dD 8388607 2 (dD 8388607 1 (dD 8388607 0 rfl)))))))))))))))))))))))) ?_ np;rintro v29 h29 ⟨q, x29⟩;cases q;replace f25 := f25.ext x29;replace e0 := e0.trans x29;refine ⟨(rck (h2 := h29) rfl (ld23 rfl f25 rfl) recheck_nil), _, rfl, ?_⟩;refine gQ rfl rfl (aOp_eqlSpan spanT23 rfl rfl (r := true) (by simp)) rfl ?_;iterate 3 refine gQ rfl rfl rfl rfl ?_
 refine gQ rfl rfl (kET rfl rfl) rfl ?_;iterate 2 refine gQ rfl rfl rfl rfl ?_
 refine GoE.end rfl ?_;exact gW Try.func11 rfl rfl ⟨rfl, e0⟩
end Go.Proofs.Yteibheeleeengaa

namespace Go.Proofs.Yteibheeleeengaa
open Go Go.AbsE
set_option linter.unusedSimpArgs false
set_option maxRecDepth 100000
set_option linter.unusedVariables false
end Go.Proofs.Yteibheeleeengaa

namespace Go.Proofs.Yteibheeleeengaa
open Go Go.AbsE
set_option linter.unusedSimpArgs false
set_option maxRecDepth 100000
set_option maxHeartbeats 0
set_option linter.unusedVariables false
theorem depthR_is {C : CutV} (O : C.Ok) {d : Nat} (hd : d ≤ C.rs.length) : C.depthR (d : Nat) = C.tr (C.at d) zSp := by
 unfold CutV.depthR
 rw [CutV.ok_yes O, CutV.day_yes (by omega), Int.toNat_natCast]
theorem daysR_is {C : CutV} (O : C.Ok) {i : Nat} {x : BV} (hx : C.bs[i]? = some x) {n : Int} (hn : 0 ≤ n ∧ n ≤ x.room) : C.daysR (i : Nat) n = C.tr (((C.bits surelyV (x.needs n) : Nat) : Int), ((C.bits perhapsV (x.needs n) : Nat) : Int)) zSp := by
 unfold CutV.daysR
 rw [CutV.ok_yes O, CutV.boat_yes hx, load_yes hn]
end Go.Proofs.Yteibheeleeengaa

namespace Go.Proofs.Yteibheeleeengaa
open Go Go.AbsE
set_option linter.unusedSimpArgs false
set_option maxRecDepth 100000
set_option maxHeartbeats 0
set_option linter.unusedVariables false
end Go.Proofs.Yteibheeleeengaa

namespace Go.Proofs.Yteibheeleeengaa
open Go Go.AbsE
set_option linter.unusedSimpArgs false
set_option maxRecDepth 100000
set_option maxHeartbeats 0
set_option linter.unusedVariables false
theorem andNot_le (a b : Nat) (ha : a < 2 ^ 64) : andNot a b ≤ a := by
 unfold andNot
 rw [BitVec.toNat_and, BitVec.toNat_ofNat, Nat.mod_eq_of_lt ha];exact Nat.and_le_left
def CutV.with (C : CutV) (L : List LV) : CutV := ⟨C.dl, C.dh, C.kl, C.kh, C.rs, C.most, C.bs, L⟩
end Go.Proofs.Yteibheeleeengaa

namespace Go.Proofs.Yteibheeleeengaa
open Go Go.AbsE
set_option linter.unusedSimpArgs false
set_option maxRecDepth 100000
set_option maxHeartbeats 0
set_option linter.unusedVariables false
end Go.Proofs.Yteibheeleeengaa
