import Derived.Test.YtmimdgjehnhnoaaMAJ
namespace Go.Proofs.Ytmimdgjehnhnoaa
open Go Go.AbsE
set_option linter.unusedSimpArgs false
set_option maxRecDepth 100000
set_option maxHeartbeats 0
set_option linter.unusedVariables false
theorem in74_ok {n a b : Int} {h : AH} : Runs Try.prog 74 [.int .i64 n, .int .i64 a, .int .i64 b] h (fun en h' => en = .ret (.bool (decide (a ≤ n ∧ n ≤ b))) ∧ Ext h h') := by
 have e0 : Ext h h := Ext.refl _
 refine Runs.intro aFunc74 rfl rfl rfl rfl fun rest => ?_;apply gS;refine gR rfl ?_;refine gP ?_;apply gE;apply gS;refine gR rfl ?_;iterate 2 refine gP ?_
 by_cases hs0 : (a : Int) ≤ n
 ·refine gO rfl rfl (kMT rfl rfl) rfl ?_;iterate 3 refine gP ?_
  by_cases hs1 : (n : Int) ≤ b
  ·refine gO rfl rfl (kMT rfl rfl) rfl ?_;iterate 2 refine gP ?_
   apply gE;exact gV (ret_end (aResult_of Try.func74 rfl rfl) ⟨ret_true (by omega), e0⟩)
  ·refine gO rfl rfl (kMF rfl rfl) rfl ?_;iterate 2 refine gP ?_
   apply gE;exact gV (ret_end (aResult_of Try.func74 rfl rfl) ⟨ret_false (by omega), e0⟩)
 ·refine gO rfl rfl (kMF rfl rfl) rfl ?_;refine gP ?_;iterate 3 refine GoR.skip rfl rfl rfl ?_
  iterate 2 refine gP ?_
  apply gE;exact gV (ret_end (aResult_of Try.func74 rfl rfl) ⟨ret_false (by omega), e0⟩)
theorem in74_is {n a b : Int} {r : Bool} (hr : decide (a ≤ n ∧ n ≤ b) = r) {h : AH} : Runs Try.prog 74 [.int .i64 n, .int .i64 a, .int .i64 b] h (fun en h' => en = .ret (.bool r) ∧ Ext h h') := by
 rw [← hr]
 exact in74_ok
theorem span75_ok {lo hi a b : Int} {h : AH} : Runs Try.prog 75 [.agg [.int .i64 lo, .int .i64 hi], .int .i64 a, .int .i64 b] h (fun en h' => en = .ret (.bool (decide (a ≤ lo ∧ lo ≤ hi ∧ hi ≤ b))) ∧ Ext h h') := by
 have e0 : Ext h h := Ext.refl _
 refine Runs.intro aFunc75 rfl rfl rfl rfl fun rest => ?_;apply gS;refine gR rfl ?_;refine GoR.box rfl rfl rfl rfl rfl rfl fun h0 x0 f0 => ?_;replace e0 := e0.trans x0;refine gP ?_;apply gE;apply gS;refine gR rfl ?_;refine gP ?_;refine gO rfl rfl (fa31_0 rfl) rfl ?_;refine gO rfl rfl (ld3 rfl f0 rfl) rfl ?_
 by_cases hs0 : (a : Int) ≤ lo
 ·refine gO rfl rfl (kMT rfl rfl) rfl ?_;refine gP ?_;refine gO rfl rfl (fa31_0 rfl) rfl ?_;refine gO rfl rfl (ld3 rfl f0 rfl) rfl ?_;refine gO rfl rfl (fa31_1 rfl) rfl ?_;refine gO rfl rfl (ld3 rfl f0 rfl) rfl ?_
  by_cases hs1 : (lo : Int) ≤ hi
  ·refine gO rfl rfl (kMT rfl rfl) rfl ?_;iterate 2 refine gP ?_
   refine gO rfl rfl (fa31_1 rfl) rfl ?_;refine gO rfl rfl (ld3 rfl f0 rfl) rfl ?_;refine gP ?_
   by_cases hs2 : (hi : Int) ≤ b
   ·refine gO rfl rfl (kMT rfl rfl) rfl ?_;iterate 2 refine gP ?_
    apply gE;exact gV (ret_end (aResult_of Try.func75 rfl rfl) ⟨ret_true (by omega), e0⟩)
   ·refine gO rfl rfl (kMF rfl rfl) rfl ?_;iterate 2 refine gP ?_
    apply gE;exact gV (ret_end (aResult_of Try.func75 rfl rfl) ⟨ret_false (by omega), e0⟩)
  ·refine gO rfl rfl (kMF rfl rfl) rfl ?_;iterate 2 refine gP ?_
   iterate 4 refine GoR.skip rfl rfl rfl ?_
   iterate 2 refine gP ?_
   apply gE;exact gV (ret_end (aResult_of Try.func75 rfl rfl) ⟨ret_false (by omega), e0⟩)
 ·refine gO rfl rfl (kMF rfl rfl) rfl ?_;refine gP ?_;iterate 5 refine GoR.skip rfl rfl rfl ?_
  iterate 2 refine gP ?_
  iterate 4 refine GoR.skip rfl rfl rfl ?_
  iterate 2 refine gP ?_
  apply gE;exact gV (ret_end (aResult_of Try.func75 rfl rfl) ⟨ret_false (by omega), e0⟩)
theorem span75_is {lo hi a b : Int} {r : Bool} (hr : decide (a ≤ lo ∧ lo ≤ hi ∧ hi ≤ b) = r) {h : AH} : Runs Try.prog 75 [.agg [.int .i64 lo, .int .i64 hi], .int .i64 a, .int .i64 b] h (fun en h' => en = .ret (.bool r) ∧ Ext h h') := by
 rw [← hr]
 exact span75_ok
theorem span36_ok {a b : Int} {h : AH} : Runs Try.prog 36 [.int .i64 a, .int .i64 b] h (fun en h' => en = .ret (.agg [.int .i64 a, .int .i64 b]) ∧ Ext h h') := by
 have e0 : Ext h h := Ext.refl _
 refine Runs.intro aFunc36 rfl rfl rfl rfl fun rest => ?_;apply gS;refine gR rfl ?_;refine GoR.alloc rfl rfl rfl zt31 rfl rfl fun h0 x0 f0 => ?_;have := e0.1;replace e0 := e0.trans x0;have := f0.1;apply gE;apply gS;refine gR rfl ?_;iterate 2 refine gP ?_
 refine gO rfl rfl (aOp_build zt31 hu31 pl31 rfl rfl) rfl ?_;refine GoR.store rfl rfl rfl rfl rfl rfl f0 rfl sz31 rfl rfl rfl fun h1 u1 => ?_;replace f0 := u1.has f0;replace e0 := e0.upd u1 (by omega);apply gE;exact gV (ret_end (aResult_of Try.func36 rfl (aResults_cell rfl f0 (inCells_agg ag31 sz31 rfl))) ⟨rfl, e0⟩)
theorem None_ok {h : AH} : Runs Try.prog 33 [] h (fun en h' => en = .ret (.agg [.int .i64 (-1), .int .i64 (-1), .int .i64 (-1)]) ∧ Ext h h') := by
 have e0 : Ext h h := Ext.refl _
 refine Runs.intro aFunc33 rfl rfl rfl rfl fun rest => ?_;apply gS;refine gR rfl ?_;refine GoR.alloc rfl rfl rfl zt27 rfl rfl fun h0 x0 f0 => ?_;have := e0.1;replace e0 := e0.trans x0;have := f0.1;apply gE;apply gS;refine gR rfl ?_;refine gO rfl rfl (aOp_buildArr zt27 Try.underlying27 sz3 rfl rfl) rfl ?_;refine GoR.store rfl rfl rfl rfl rfl rfl f0 rfl sz27 rfl rfl rfl fun h1 u1 => ?_;replace f0 := u1.has f0;replace e0 := e0.upd u1 (by omega);apply gE;exact gV (ret_end (aResult_of Try.func33 rfl (aResults_cell rfl f0 (inCells_agg ag27 sz27 rfl))) ⟨rfl, e0⟩)
theorem far_ok {F : FootV} {rsl hsl s : AVal} {n1 n2 n3 : Nat} (h1 : lenA rsl = some n1) (h2 : lenA hsl = some n2) (h3 : lenA s = some n3) {h : AH} {r : Bool} (hr : decide (40 < n1 ∨ 40 < n2 ∨ 40 < n3) = r) :
  Runs Try.prog 12 [.agg (F.cells rsl hsl), s] h (fun en h' => en = .ret (.bool r) ∧ Ext h h') := by
 unfold FootV.cells
 have hm : decide ((40 : Int) < if (if (n1 : Int) < n2 then (n2 : Int) else n1) < n3 then (n3 : Int) else (if (n1 : Int) < n2 then (n2 : Int) else n1)) = r := by
  rw [← hr]
  apply decide_eq_decide.2
  split <;> split <;> omega
 have e0 : Ext h h := Ext.refl _
 refine Runs.intro aFunc12 rfl rfl rfl rfl fun rest => ?_;apply gS;refine gR rfl ?_;refine GoR.box rfl rfl rfl rfl rfl rfl fun h4 x4 f4 => ?_;replace e0 := e0.trans x4;refine gP ?_;apply gE;apply gS;refine gR rfl ?_;refine gO rfl rfl (fa26_0 rfl) rfl ?_;refine gO rfl rfl (ld22 rfl f4 rfl) rfl ?_;refine gO rfl rfl (aOp_lenSlice Try.underlying22 rfl h1) rfl ?_;refine gO rfl rfl (fa26_4 rfl) rfl ?_;refine gO rfl rfl (ld24 rfl f4 rfl) rfl ?_;refine gO rfl rfl (aOp_lenSlice Try.underlying24 rfl h2) rfl ?_;refine gP ?_;refine gO rfl rfl (aOp_lenSlice Try.underlying40 rfl h3) rfl ?_;refine gO rfl rfl (aOp_max3 rfl rfl rfl rfl) rfl ?_;refine gO rfl rfl (aOp_gtr rfl rfl hm) rfl ?_;refine gP ?_;apply gE;exact gW Try.func12 rfl rfl ⟨rfl, e0⟩
theorem CellsAt.part {h : AH} {b o n : Nat} {l : List AVal} (q : CellsAt h b o n l) (k m : Nat) (hk : k + m ≤ n) : CellsAt h b (o + k) m ((l.drop k).take m) := ⟨q.1, loadCells_part q.2 hk⟩
theorem foot32_ok {F : FootV} {rsl hsl : AVal} {h : AH} (A : FootAt h F rsl hsl) (hb1 : F.rs.length ≤ 40) (hb2 : F.hs.length ≤ 40) :
  Runs Try.prog 32 [.agg (F.cells rsl hsl)] h (fun en h' => en = .ret (.bool F.okB) ∧ Ext h h') := by
 have hl1 := A.rs.len
 have hl2 := A.hs.len
 rw [List.length_map] at hl1 hl2
 have no : ¬ F.Ok → AEnd.ret (.bool false) = .ret (.bool F.okB) := fun q => by rw [Bool.eq_false_iff.2 fun e => q ((okB_iff F).1 e)]
 have yes : F.Ok → AEnd.ret (.bool true) = .ret (.bool F.okB) := fun q => by rw [(okB_iff F).2 q]
 unfold FootV.cells
 by_cases c1 : ((1 : Int) ≤ F.rs.length ∧ (F.rs.length : Int) ≤ 8) ∧ (0 ≤ F.men ∧ F.men ≤ 3) ∧ (F.hs.length : Int) ≤ 3
 ·have e0 : Ext h h := Ext.refl _
  refine Runs.intro aFunc32 rfl rfl rfl rfl fun rest => ?_;apply gS;refine gR rfl ?_;refine GoR.box rfl rfl rfl rfl rfl rfl fun h0 x0 f0 => ?_;have := e0.1;replace e0 := e0.trans x0;have := f0.1;refine gP ?_;apply gE;iterate 2 apply gS
  refine gR rfl ?_;refine gO rfl rfl (fa26_0 rfl) rfl ?_;refine gO rfl rfl (ld22 rfl f0 rfl) rfl ?_;refine gO rfl rfl (aOp_lenSlice Try.underlying22 rfl hl1) rfl ?_;refine GoR.call rfl rfl (aCF aFunc74 rfl) (in74_is (r := true) (dt (by omega))) ?_ np;rintro v1 h1 ⟨q, x1⟩;cases q;refine ⟨_, rfl, ?_⟩;replace f0 := f0.ext x1;replace e0 := e0.trans x1;iterate 2 refine gP ?_
  refine gO rfl rfl (fa26_1 rfl) rfl ?_;refine gO rfl rfl (ld3 rfl f0 rfl) rfl ?_;refine GoR.call rfl rfl (aCF aFunc74 rfl) (in74_is (r := true) (dt (by omega))) ?_ np;rintro v2 h2 ⟨q, x2⟩;cases q;refine ⟨_, rfl, ?_⟩;replace f0 := f0.ext x2;replace e0 := e0.trans x2;iterate 3 refine gP ?_
  refine gO rfl rfl (fa26_4 rfl) rfl ?_;refine gO rfl rfl (ld24 rfl f0 rfl) rfl ?_;refine gO rfl rfl (aOp_lenSlice Try.underlying24 rfl hl2) rfl ?_;refine gO rfl rfl (kGF rfl rfl) rfl ?_;refine gP ?_;apply gE;refine gC (b := false) rfl ?_;refine gD ?_;iterate 2 apply gS
  refine gR rfl ?_;refine gP ?_;apply gE;refine Go.block noJ_ok ?_
  refine Go.loopKeep (fun i : Nat => [(1, .ptr h.next 0), (3, .int .i64 (i : Nat))])
   (fun m i h' => m + i = F.rs.length ∧ Ext h h' ∧ Has h' h.next (.cells .plain [rsl, .int .i64 F.men, .int .i64 F.l0, .int .i64 F.l1, .int .i64 F.l2, .int .i64 F.d0, .int .i64 F.d1, .int .i64 F.d2, hsl] 26) ∧ ∀ k, k < i → ∀ r, F.rs[k]? = some r → 0 ≤ r.1 ∧ r.1 ≤ r.2 ∧ r.2 ≤ 10)
   (n := F.rs.length) 0 ⟨rfl, rfl, trivial⟩ ⟨rfl, e0, f0, fun k q => by omega⟩ ?_
  clear e0 f0;rintro m i h20 ⟨hm, e0, f0, hk⟩ again
  by_cases hi : i < F.rs.length
  ·obtain ⟨r, hr⟩ : ∃ r, F.rs[i]? = some r := ⟨F.rs[i], by simp [hi]⟩
   obtain ⟨br, offr, r1, r2⟩ := A.rs.at (i := i) (l := spC r) (by rw [List.getElem?_map, hr]; rfl)
   rw [List.length_map] at r1
   unfold spC at r2
   by_cases c2 : 0 ≤ r.1 ∧ r.1 ≤ r.2 ∧ r.2 ≤ 10
   ·iterate 2 apply gS
    refine gR rfl ?_;refine gP ?_;refine gO rfl rfl (fa26_0 rfl) rfl ?_;refine gO rfl rfl (ld22 rfl f0 rfl) rfl ?_;refine gO rfl rfl (aOp_lenSlice Try.underlying22 rfl hl1) rfl ?_;refine gO rfl rfl (kLT rfl rfl) rfl ?_;apply gE;refine gC (b := true) rfl ?_;refine gD ?_;apply gS;refine Go.block noJ_ok ?_;apply gS;refine gR rfl ?_;refine gO rfl rfl (fa26_0 rfl) rfl ?_;refine gO rfl rfl (ld22 rfl f0 rfl) rfl ?_;refine gP ?_;refine gO rfl rfl (aOp_indexAddr (i := i) Try.underlying22 sz31 rfl (by assumption) rfl (Nat.ble_eq_true_of_le (by omega))) rfl ?_;refine gO rfl rfl (aOp_loadE ag31 sz31 rfl (r2.ext e0)) rfl ?_;refine GoR.call rfl rfl (aCF aFunc75 rfl) (span75_is (r := true) (dt (by omega))) ?_ np;rintro v21 h21 ⟨q, x21⟩;cases q;refine ⟨_, rfl, ?_⟩;replace f0 := f0.ext x21;replace e0 := e0.trans x21;refine gP ?_;apply gE;refine gC (b := false) rfl ?_;refine gD ?_;refine Go.inBlock noJ_ok ?_;refine gR rfl ?_;refine gP ?_;refine gO rfl rfl (aA rfl rfl) rfl ?_;refine gP ?_;apply gE;refine again (m - 1) (i + 1) _ _ (by omega) ⟨rfl, rfl, trivial⟩ ⟨by omega, e0, f0, fun k hk' r' hr' => ?_⟩
    rcases Nat.lt_or_ge k i with q | q
    ·exact hk k q r' hr'
    ·rw [show k = i by omega, hr] at hr'
     cases hr'
     exact c2
   ·have hno := no fun O => c2 (O.r r (List.mem_of_getElem? hr))
    iterate 2 apply gS
    refine gR rfl ?_;refine gP ?_;refine gO rfl rfl (fa26_0 rfl) rfl ?_;refine gO rfl rfl (ld22 rfl f0 rfl) rfl ?_;refine gO rfl rfl (aOp_lenSlice Try.underlying22 rfl hl1) rfl ?_;refine gO rfl rfl (kLT rfl rfl) rfl ?_;apply gE;refine gC (b := true) rfl ?_;refine gD ?_;apply gS;refine Go.block noJ_ok ?_;apply gS;refine gR rfl ?_;refine gO rfl rfl (fa26_0 rfl) rfl ?_;refine gO rfl rfl (ld22 rfl f0 rfl) rfl ?_;refine gP ?_;refine gO rfl rfl (aOp_indexAddr (i := i) Try.underlying22 sz31 rfl (by assumption) rfl (Nat.ble_eq_true_of_le (by omega))) rfl ?_;refine gO rfl rfl (aOp_loadE ag31 sz31 rfl (r2.ext e0)) rfl ?_;refine GoR.call rfl rfl (aCF aFunc75 rfl) (span75_is (r := false) (df (by omega))) ?_ np;rintro v21 h21 ⟨q, x21⟩;cases q;refine ⟨_, rfl, ?_⟩;replace e0 := e0.trans x21;refine gP ?_;apply gE;refine gC (b := true) rfl ?_;apply gS;refine gR rfl ?_;refine gP ?_;apply gE;exact gV (ret_end (aResult_of Try.func32 rfl rfl) ⟨hno, e0⟩)
  ·iterate 2 apply gS
   refine gR rfl ?_;refine gP ?_;refine gO rfl rfl (fa26_0 rfl) rfl ?_;refine gO rfl rfl (ld22 rfl f0 rfl) rfl ?_;refine gO rfl rfl (aOp_lenSlice Try.underlying22 rfl hl1) rfl ?_;refine gO rfl rfl (kLF rfl rfl) rfl ?_;apply gE;refine gC (b := false) rfl ?_;refine gD ?_;iterate 2 apply gS
   refine gR rfl ?_;refine gP ?_;apply gE;refine Go.block noJ_ok ?_
   by_cases c3 : (0 ≤ F.l0 ∧ F.l0 ≤ 60) ∧ (0 ≤ F.l1 ∧ F.l1 ≤ 60) ∧ (0 ≤ F.l2 ∧ F.l2 ≤ 60) ∧ (0 ≤ F.d0 ∧ F.d0 ≤ 10) ∧ (0 ≤ F.d1 ∧ F.d1 ≤ 10) ∧ (0 ≤ F.d2 ∧ F.d2 ≤ 10)
   ·refine Go.loop noJ_ok ?_;iterate 2 apply gS
    refine gR rfl ?_;refine gP ?_;refine gO rfl rfl (kLT rfl rfl) rfl ?_;apply gE;refine gC (b := true) rfl ?_;refine gD ?_;apply gS;refine Go.block noJ_ok ?_;apply gS;refine gR rfl ?_;refine gP ?_;refine gO rfl rfl (fa26_2 rfl) rfl ?_;refine gO rfl rfl (aOp_indexAddrArr (i := 0) Try.underlying23 sz3 rfl rfl rfl) rfl ?_;refine gO rfl rfl (ld3 rfl f0 rfl) rfl ?_;refine GoR.call rfl rfl (aCF aFunc74 rfl) (in74_is (r := true) (dt (by omega))) ?_ np;rintro v21 h21 ⟨q, x21⟩;cases q;refine ⟨_, rfl, ?_⟩;replace f0 := f0.ext x21;replace e0 := e0.trans x21;iterate 3 refine gP ?_
    refine gO rfl rfl (fa26_3 rfl) rfl ?_;refine gO rfl rfl (aOp_indexAddrArr (i := 0) Try.underlying23 sz3 rfl rfl rfl) rfl ?_;refine gO rfl rfl (ld3 rfl f0 rfl) rfl ?_;refine GoR.call rfl rfl (aCF aFunc74 rfl) (in74_is (r := true) (dt (by omega))) ?_ np;rintro v22 h22 ⟨q, x22⟩;cases q;refine ⟨_, rfl, ?_⟩;replace f0 := f0.ext x22;replace e0 := e0.trans x22;iterate 2 refine gP ?_
    apply gE;refine gC (b := false) rfl ?_;refine gD ?_;refine Go.inBlock noJ_ok ?_;refine gR rfl ?_;refine gP ?_;refine gO rfl rfl (aA rfl rfl) rfl ?_;refine gP ?_;apply gE;refine Go.inLoop noJ_ok ?_;iterate 2 apply gS
    refine gR rfl ?_;refine gP ?_;refine gO rfl rfl (kLT rfl rfl) rfl ?_;apply gE;refine gC (b := true) rfl ?_;refine gD ?_;apply gS;refine Go.block noJ_ok ?_;apply gS;refine gR rfl ?_;refine gP ?_;refine gO rfl rfl (fa26_2 rfl) rfl ?_;refine gO rfl rfl (aOp_indexAddrArr (i := 1) Try.underlying23 sz3 rfl rfl rfl) rfl ?_;refine gO rfl rfl (ld3 rfl f0 rfl) rfl ?_;refine GoR.call rfl rfl (aCF aFunc74 rfl) (in74_is (r := true) (dt (by omega))) ?_ np;rintro v23 h23 ⟨q, x23⟩;cases q;refine ⟨_, rfl, ?_⟩;replace f0 := f0.ext x23;replace e0 := e0.trans x23;iterate 3 refine gP ?_
    refine gO rfl rfl (fa26_3 rfl) rfl ?_;refine gO rfl rfl (aOp_indexAddrArr (i := 1) Try.underlying23 sz3 rfl rfl rfl) rfl ?_;refine gO rfl rfl (ld3 rfl f0 rfl) rfl ?_;refine GoR.call rfl rfl (aCF aFunc74 rfl) (in74_is (r := true) (dt (by omega))) ?_ np;rintro v24 h24 ⟨q, x24⟩;cases q;refine ⟨_, rfl, ?_⟩;replace f0 := f0.ext x24;replace e0 := e0.trans x24;iterate 2 refine gP ?_
    apply gE;refine gC (b := false) rfl ?_;refine gD ?_;refine Go.inBlock noJ_ok ?_;refine gR rfl ?_;refine gP ?_;refine gO rfl rfl (aA rfl rfl) rfl ?_;refine gP ?_;apply gE;refine Go.inLoop noJ_ok ?_;iterate 2 apply gS
    refine gR rfl ?_;refine gP ?_;refine gO rfl rfl (kLT rfl rfl) rfl ?_;apply gE;refine gC (b := true) rfl ?_;refine gD ?_;apply gS;refine Go.block noJ_ok ?_;apply gS;refine gR rfl ?_;refine gP ?_;refine gO rfl rfl (fa26_2 rfl) rfl ?_;refine gO rfl rfl (aOp_indexAddrArr (i := 2) Try.underlying23 sz3 rfl rfl rfl) rfl ?_;refine gO rfl rfl (ld3 rfl f0 rfl) rfl ?_;refine GoR.call rfl rfl (aCF aFunc74 rfl) (in74_is (r := true) (dt (by omega))) ?_ np;rintro v25 h25 ⟨q, x25⟩;cases q;refine ⟨_, rfl, ?_⟩;replace f0 := f0.ext x25;replace e0 := e0.trans x25;iterate 3 refine gP ?_
    refine gO rfl rfl (fa26_3 rfl) rfl ?_;refine gO rfl rfl (aOp_indexAddrArr (i := 2) Try.underlying23 sz3 rfl rfl rfl) rfl ?_;refine gO rfl rfl (ld3 rfl f0 rfl) rfl ?_;refine GoR.call rfl rfl (aCF aFunc74 rfl) (in74_is (r := true) (dt (by omega))) ?_ np;rintro v26 h26 ⟨q, x26⟩;cases q;refine ⟨_, rfl, ?_⟩;replace f0 := f0.ext x26;replace e0 := e0.trans x26;iterate 2 refine gP ?_
    apply gE;refine gC (b := false) rfl ?_;refine gD ?_;refine Go.inBlock noJ_ok ?_;refine gR rfl ?_;refine gP ?_;refine gO rfl rfl (aA rfl rfl) rfl ?_;refine gP ?_;apply gE;refine Go.inLoop noJ_ok ?_;iterate 2 apply gS
    refine gR rfl ?_;refine gP ?_;refine gO rfl rfl (kLF rfl rfl) rfl ?_;apply gE;refine gC (b := false) rfl ?_;refine gD ?_;iterate 2 apply gS
    refine gR rfl ?_;refine gP ?_;apply gE;refine Go.block noJ_ok ?_
    have hR : ∀ k, k < F.rs.length → ∀ r, F.rs[k]? = some r → 0 ≤ r.1 ∧ r.1 ≤ r.2 ∧ r.2 ≤ 10 := fun k q => hk k (by omega)
    refine Go.loopKeep (fun i : Nat => [(1, .ptr h.next 0), (5, .int .i64 (i : Nat))])
     (fun m i h' => m + i = F.hs.length ∧ Ext h h' ∧ Has h' h.next (.cells .plain [rsl, .int .i64 F.men, .int .i64 F.l0, .int .i64 F.l1, .int .i64 F.l2, .int .i64 F.d0, .int .i64 F.d1, .int .i64 F.d2, hsl] 26) ∧ ∀ k, k < i → ∀ x, F.hs[k]? = some x → 0 ≤ x.lo ∧ x.lo ≤ x.hi ∧ x.hi ≤ 60 ∧ 0 ≤ x.sods ∧ x.sods ≤ 500)
     (n := F.hs.length) 0 ⟨rfl, rfl, trivial⟩ ⟨rfl, e0, f0, fun k q => by omega⟩ ?_
    clear e0 f0 hk hm again;rintro m j h40 ⟨hm, e0, f0, hk⟩ again
    by_cases hj : j < F.hs.length
    ·obtain ⟨x, hx⟩ : ∃ x, F.hs[j]? = some x := ⟨F.hs[j], by simp [hj]⟩
     obtain ⟨br, offr, r1, r2⟩ := A.hs.at (i := j) (l := HF.cells x) (by rw [List.getElem?_map, hx]; rfl)
     rw [List.length_map] at r1
     unfold HF.cells at r2
     have r3 : CellsAt h br (offr + j * 3) 2 [.int .i64 x.lo, .int .i64 x.hi] := CellsAt.part r2 0 2 (by omega)
     by_cases c2 : (0 ≤ x.lo ∧ x.lo ≤ x.hi ∧ x.hi ≤ 60) ∧ (0 ≤ x.sods ∧ x.sods ≤ 500)
     ·iterate 2 apply gS
      refine gR rfl ?_;refine gP ?_;refine gO rfl rfl (fa26_4 rfl) rfl ?_;refine gO rfl rfl (ld24 rfl f0 rfl) rfl ?_;refine gO rfl rfl (aOp_lenSlice Try.underlying24 rfl hl2) rfl ?_;refine gO rfl rfl (kLT rfl rfl) rfl ?_;apply gE;refine gC (b := true) rfl ?_;refine gD ?_;apply gS;refine Go.block noJ_ok ?_;apply gS;refine gR rfl ?_;refine gO rfl rfl (fa26_4 rfl) rfl ?_;refine gO rfl rfl (ld24 rfl f0 rfl) rfl ?_;refine gP ?_;refine gO rfl rfl (aOp_indexAddr (i := j) Try.underlying24 sz72 rfl (by assumption) rfl (Nat.ble_eq_true_of_le (by omega))) rfl ?_;refine gO rfl rfl (fa72_0 rfl) rfl ?_;refine gO rfl rfl (aOp_loadE ag31 sz31 rfl (r3.ext e0)) rfl ?_;refine GoR.call rfl rfl (aCF aFunc75 rfl) (span75_is (r := true) (dt (by omega))) ?_ np;rintro v41 h41 ⟨q, x41⟩;cases q;refine ⟨_, rfl, ?_⟩;replace f0 := f0.ext x41;replace e0 := e0.trans x41;iterate 2 refine gP ?_
      refine gO rfl rfl (fa26_4 rfl) rfl ?_;refine gO rfl rfl (ld24 rfl f0 rfl) rfl ?_;refine gP ?_;refine gO rfl rfl (aOp_indexAddr (i := j) Try.underlying24 sz72 rfl (by assumption) rfl (Nat.ble_eq_true_of_le (by omega))) rfl ?_;refine gO rfl rfl (fa72_1 rfl) rfl ?_;refine gO rfl rfl (aOp_loadE1 (k := 2) ag3 rfl (r2.ext e0) rfl) rfl ?_;refine GoR.call rfl rfl (aCF aFunc74 rfl) (in74_is (r := true) (dt (by omega))) ?_ np;rintro v42 h42 ⟨q, x42⟩;cases q;refine ⟨_, rfl, ?_⟩;replace f0 := f0.ext x42;replace e0 := e0.trans x42;iterate 2 refine gP ?_
      apply gE;refine gC (b := false) rfl ?_;refine gD ?_;refine Go.inBlock noJ_ok ?_;refine gR rfl ?_;refine gP ?_;refine gO rfl rfl (aA rfl rfl) rfl ?_;refine gP ?_;apply gE;refine again (m - 1) (j + 1) _ _ (by omega) ⟨rfl, rfl, trivial⟩ ⟨by omega, e0, f0, fun k hk' r' hr' => ?_⟩
      rcases Nat.lt_or_ge k j with q | q
      ·exact hk k q r' hr'
      ·rw [show k = j by omega, hx] at hr'
       cases hr'
       exact ⟨c2.1.1, c2.1.2.1, c2.1.2.2, c2.2⟩
     ·have hno := no fun O => c2 (by have := O.h x (List.mem_of_getElem? hx); omega)
      iterate 2 apply gS
      refine gR rfl ?_;refine gP ?_;refine gO rfl rfl (fa26_4 rfl) rfl ?_;refine gO rfl rfl (ld24 rfl f0 rfl) rfl ?_;refine gO rfl rfl (aOp_lenSlice Try.underlying24 rfl hl2) rfl ?_;refine gO rfl rfl (kLT rfl rfl) rfl ?_;apply gE;refine gC (b := true) rfl ?_;refine gD ?_;apply gS;refine Go.block noJ_ok ?_;apply gS;refine gR rfl ?_;refine gO rfl rfl (fa26_4 rfl) rfl ?_;refine gO rfl rfl (ld24 rfl f0 rfl) rfl ?_;refine gP ?_;refine gO rfl rfl (aOp_indexAddr (i := j) Try.underlying24 sz72 rfl (by assumption) rfl (Nat.ble_eq_true_of_le (by omega))) rfl ?_;refine gO rfl rfl (fa72_0 rfl) rfl ?_;refine gO rfl rfl (aOp_loadE ag31 sz31 rfl (r3.ext e0)) rfl ?_;refine GoR.call rfl rfl (aCF aFunc75 rfl) (span75_ok) ?_ np;rintro v41 h41 ⟨q, x41⟩;cases q;refine ⟨_, rfl, ?_⟩;replace f0 := f0.ext x41;replace e0 := e0.trans x41;iterate 2 refine gP ?_
      by_cases hs0 : (0 : Int) ≤ x.lo ∧ x.lo ≤ x.hi ∧ x.hi ≤ (60 : Int)
      ·rw [decide_eq_true hs0];refine gO rfl rfl (fa26_4 rfl) rfl ?_;refine gO rfl rfl (ld24 rfl f0 rfl) rfl ?_;refine gP ?_;refine gO rfl rfl (aOp_indexAddr (i := j) Try.underlying24 sz72 rfl (by assumption) rfl (Nat.ble_eq_true_of_le (by omega))) rfl ?_;refine gO rfl rfl (fa72_1 rfl) rfl ?_;refine gO rfl rfl (aOp_loadE1 (k := 2) ag3 rfl (r2.ext e0) rfl) rfl ?_;refine GoR.call rfl rfl (aCF aFunc74 rfl) (in74_ok) ?_ np;rintro v42 h42 ⟨q, x42⟩;cases q;refine ⟨_, rfl, ?_⟩;replace e0 := e0.trans x42;iterate 2 refine gP ?_
       apply gE
       by_cases hs1 : (0 : Int) ≤ x.sods ∧ x.sods ≤ (500 : Int)
       ·rw [decide_eq_true hs1];refine gC (b := false) rfl ?_;refine gD ?_;refine Go.inBlock noJ_ok ?_;refine gR rfl ?_;refine gP ?_;refine gO rfl rfl (aA rfl rfl) rfl ?_;refine gP ?_;apply gE
        (exfalso; omega)
       ·rw [decide_eq_false hs1];refine gC (b := true) rfl ?_;apply gS;refine gR rfl ?_;refine gP ?_;apply gE;exact gV (ret_end (aResult_of Try.func32 rfl rfl) ⟨hno, e0⟩)
      ·rw [decide_eq_false hs0];iterate 8 refine GoR.skip rfl rfl rfl ?_
       refine gP ?_;apply gE;refine gC (b := true) rfl ?_;apply gS;refine gR rfl ?_;refine gP ?_;apply gE;exact gV (ret_end (aResult_of Try.func32 rfl rfl) ⟨hno, e0⟩)
    ·have hyes := yes ⟨by omega, fun r hr => by obtain ⟨k, hk', q⟩ := List.getElem_of_mem hr; exact hR k hk' r (by rw [← q]; simp [hk']), c1.2.1, c3.1, c3.2.1, c3.2.2.1, c3.2.2.2.1, c3.2.2.2.2.1, c3.2.2.2.2.2, by omega, fun x hx => by obtain ⟨k, hk', q⟩ := List.getElem_of_mem hx; exact hk k (by omega) x (by rw [← q]; simp [hk'])⟩
     iterate 2 apply gS
     refine gR rfl ?_;refine gP ?_;refine gO rfl rfl (fa26_4 rfl) rfl ?_;refine gO rfl rfl (ld24 rfl f0 rfl) rfl ?_;refine gO rfl rfl (aOp_lenSlice Try.underlying24 rfl hl2) rfl ?_;refine gO rfl rfl (kLF rfl rfl) rfl ?_;apply gE;refine gC (b := false) rfl ?_;refine gD ?_;apply gS;refine gR rfl ?_;refine gP ?_;apply gE;exact gV (ret_end (aResult_of Try.func32 rfl rfl) ⟨hyes, e0⟩)
   ·have hno := no fun O => c3 ⟨O.l0, O.l1, O.l2, O.d0, O.d1, O.d2⟩
    refine Go.loop noJ_ok ?_;iterate 2 apply gS
    refine gR rfl ?_;refine gP ?_;refine gO rfl rfl (kLT rfl rfl) rfl ?_;apply gE;refine gC (b := true) rfl ?_;refine gD ?_;apply gS;refine Go.block noJ_ok ?_;apply gS;refine gR rfl ?_;refine gP ?_;refine gO rfl rfl (fa26_2 rfl) rfl ?_;refine gO rfl rfl (aOp_indexAddrArr (i := 0) Try.underlying23 sz3 rfl rfl rfl) rfl ?_;refine gO rfl rfl (ld3 rfl f0 rfl) rfl ?_;refine GoR.call rfl rfl (aCF aFunc74 rfl) (in74_ok) ?_ np;rintro v21 h21 ⟨q, x21⟩;cases q;refine ⟨_, rfl, ?_⟩;replace f0 := f0.ext x21;replace e0 := e0.trans x21;iterate 2 refine gP ?_
    by_cases hs0 : (0 : Int) ≤ F.l0 ∧ F.l0 ≤ (60 : Int)
    ·rw [decide_eq_true hs0];refine gP ?_;refine gO rfl rfl (fa26_3 rfl) rfl ?_;refine gO rfl rfl (aOp_indexAddrArr (i := 0) Try.underlying23 sz3 rfl rfl rfl) rfl ?_;refine gO rfl rfl (ld3 rfl f0 rfl) rfl ?_;refine GoR.call rfl rfl (aCF aFunc74 rfl) (in74_ok) ?_ np;rintro v22 h22 ⟨q, x22⟩;cases q;refine ⟨_, rfl, ?_⟩;replace f0 := f0.ext x22;replace e0 := e0.trans x22;iterate 2 refine gP ?_
     apply gE
     by_cases hs1 : (0 : Int) ≤ F.d0 ∧ F.d0 ≤ (10 : Int)
     ·rw [decide_eq_true hs1];refine gC (b := false) rfl ?_;refine gD ?_;refine Go.inBlock noJ_ok ?_;refine gR rfl ?_;refine gP ?_;refine gO rfl rfl (aA rfl rfl) rfl ?_;refine gP ?_;apply gE;refine Go.inLoop noJ_ok ?_;iterate 2 apply gS
      refine gR rfl ?_;refine gP ?_;refine gO rfl rfl (kLT rfl rfl) rfl ?_;apply gE;refine gC (b := true) rfl ?_;refine gD ?_;apply gS;refine Go.block noJ_ok ?_;apply gS;refine gR rfl ?_;refine gP ?_;refine gO rfl rfl (fa26_2 rfl) rfl ?_;refine gO rfl rfl (aOp_indexAddrArr (i := 1) Try.underlying23 sz3 rfl rfl rfl) rfl ?_;refine gO rfl rfl (ld3 rfl f0 rfl) rfl ?_;refine GoR.call rfl rfl (aCF aFunc74 rfl) (in74_ok) ?_ np;rintro v23 h23 ⟨q, x23⟩;cases q;refine ⟨_, rfl, ?_⟩;replace f0 := f0.ext x23;replace e0 := e0.trans x23;iterate 2 refine gP ?_
      by_cases hs2 : (0 : Int) ≤ F.l1 ∧ F.l1 ≤ (60 : Int)
      ·rw [decide_eq_true hs2];refine gP ?_;refine gO rfl rfl (fa26_3 rfl) rfl ?_;refine gO rfl rfl (aOp_indexAddrArr (i := 1) Try.underlying23 sz3 rfl rfl rfl) rfl ?_;refine gO rfl rfl (ld3 rfl f0 rfl) rfl ?_;refine GoR.call rfl rfl (aCF aFunc74 rfl) (in74_ok) ?_ np;rintro v24 h24 ⟨q, x24⟩;cases q;refine ⟨_, rfl, ?_⟩;replace f0 := f0.ext x24;replace e0 := e0.trans x24;iterate 2 refine gP ?_
       apply gE
       by_cases hs3 : (0 : Int) ≤ F.d1 ∧ F.d1 ≤ (10 : Int)
       ·rw [decide_eq_true hs3];refine gC (b := false) rfl ?_;refine gD ?_;refine Go.inBlock noJ_ok ?_;refine gR rfl ?_;refine gP ?_;refine gO rfl rfl (aA rfl rfl) rfl ?_;refine gP ?_;apply gE;refine Go.inLoop noJ_ok ?_;iterate 2 apply gS
        refine gR rfl ?_;refine gP ?_;refine gO rfl rfl (kLT rfl rfl) rfl ?_;apply gE;refine gC (b := true) rfl ?_;refine gD ?_;apply gS;refine Go.block noJ_ok ?_;apply gS;refine gR rfl ?_;refine gP ?_;refine gO rfl rfl (fa26_2 rfl) rfl ?_;refine gO rfl rfl (aOp_indexAddrArr (i := 2) Try.underlying23 sz3 rfl rfl rfl) rfl ?_;refine gO rfl rfl (ld3 rfl f0 rfl) rfl ?_;refine GoR.call rfl rfl (aCF aFunc74 rfl) (in74_ok) ?_ np;rintro v25 h25 ⟨q, x25⟩;cases q;refine ⟨_, rfl, ?_⟩;replace f0 := f0.ext x25;replace e0 := e0.trans x25;iterate 2 refine gP ?_
        by_cases hs4 : (0 : Int) ≤ F.l2 ∧ F.l2 ≤ (60 : Int)
        ·rw [decide_eq_true hs4];refine gP ?_;refine gO rfl rfl (fa26_3 rfl) rfl ?_;refine gO rfl rfl (aOp_indexAddrArr (i := 2) Try.underlying23 sz3 rfl rfl rfl) rfl ?_;refine gO rfl rfl (ld3 rfl f0 rfl) rfl ?_;refine GoR.call rfl rfl (aCF aFunc74 rfl) (in74_ok) ?_ np;rintro v26 h26 ⟨q, x26⟩;cases q;refine ⟨_, rfl, ?_⟩;replace f0 := f0.ext x26;replace e0 := e0.trans x26;iterate 2 refine gP ?_
         apply gE
         by_cases hs5 : (0 : Int) ≤ F.d2 ∧ F.d2 ≤ (10 : Int)
         ·rw [decide_eq_true hs5];refine gC (b := false) rfl ?_;refine gD ?_;refine Go.inBlock noJ_ok ?_;refine gR rfl ?_;refine gP ?_;refine gO rfl rfl (aA rfl rfl) rfl ?_;refine gP ?_;apply gE;refine Go.inLoop noJ_ok ?_;iterate 2 apply gS
          refine gR rfl ?_;refine gP ?_;refine gO rfl rfl (kLT rfl rfl) rfl ?_;apply gE;refine gC (b := true) rfl ?_;refine gD ?_;apply gS;refine Go.block noJ_ok ?_;apply gS;refine gR rfl ?_;refine gP ?_;refine gO rfl rfl (fa26_2 rfl) rfl ?_;refine gO rfl rfl (aOp_indexAddrArr (i := 3) Try.underlying23 sz3 rfl rfl (Nat.ble_eq_true_of_le (by omega))) rfl ?_;refine gO rfl rfl (ld3 rfl f0 rfl) rfl ?_;refine GoR.call rfl rfl (aCF aFunc74 rfl) (in74_ok) ?_ np;rintro v27 h27 ⟨q, x27⟩;cases q;refine ⟨_, rfl, ?_⟩;replace f0 := f0.ext x27;replace e0 := e0.trans x27;iterate 2 refine gP ?_
          by_cases hs6 : (0 : Int) ≤ F.d0 ∧ F.d0 ≤ (60 : Int)
          ·rw [decide_eq_true hs6];refine gP ?_;refine gO rfl rfl (fa26_3 rfl) rfl ?_;refine gO rfl rfl (aOp_indexAddrArr (i := 3) Try.underlying23 sz3 rfl rfl (Nat.ble_eq_true_of_le (by omega))) rfl ?_;refine gO rfl rfl (ld3 rfl f0 rfl) rfl ?_
           (exfalso; omega)
          ·rw [decide_eq_false hs6];iterate 6 refine GoR.skip rfl rfl rfl ?_
           refine gP ?_;apply gE;refine gC (b := true) rfl ?_;apply gS;refine gR rfl ?_;refine gP ?_;apply gE;exact gV (ret_end (aResult_of Try.func32 rfl rfl) ⟨hno, e0⟩)
         ·rw [decide_eq_false hs5];refine gC (b := true) rfl ?_;apply gS;refine gR rfl ?_;refine gP ?_;apply gE;exact gV (ret_end (aResult_of Try.func32 rfl rfl) ⟨hno, e0⟩)
        ·rw [decide_eq_false hs4];iterate 6 refine GoR.skip rfl rfl rfl ?_
         refine gP ?_;apply gE;refine gC (b := true) rfl ?_;apply gS;refine gR rfl ?_;refine gP ?_;apply gE;exact gV (ret_end (aResult_of Try.func32 rfl rfl) ⟨hno, e0⟩)
       ·rw [decide_eq_false hs3];refine gC (b := true) rfl ?_;apply gS;refine gR rfl ?_;refine gP ?_;apply gE;exact gV (ret_end (aResult_of Try.func32 rfl rfl) ⟨hno, e0⟩)
      ·rw [decide_eq_false hs2];iterate 6 refine GoR.skip rfl rfl rfl ?_
       refine gP ?_;apply gE;refine gC (b := true) rfl ?_;apply gS;refine gR rfl ?_;refine gP ?_;apply gE;exact gV (ret_end (aResult_of Try.func32 rfl rfl) ⟨hno, e0⟩)
     ·rw [decide_eq_false hs1];refine gC (b := true) rfl ?_;apply gS;refine gR rfl ?_;refine gP ?_;apply gE;exact gV (ret_end (aResult_of Try.func32 rfl rfl) ⟨hno, e0⟩)
    ·rw [decide_eq_false hs0];iterate 6 refine GoR.skip rfl rfl rfl ?_
     refine gP ?_;apply gE;refine gC (b := true) rfl ?_;apply gS;refine gR rfl ?_;refine gP ?_;apply gE;exact gV (ret_end (aResult_of Try.func32 rfl rfl) ⟨hno, e0⟩)
 ·have hno := no fun O => c1 ⟨by have := O.nr; omega, O.men, by have := O.nh; omega⟩
  have e0 : Ext h h := Ext.refl _
  refine Runs.intro aFunc32 rfl rfl rfl rfl fun rest => ?_;apply gS;refine gR rfl ?_;refine GoR.box rfl rfl rfl rfl rfl rfl fun h0 x0 f0 => ?_;replace e0 := e0.trans x0;refine gP ?_;apply gE;iterate 2 apply gS
  refine gR rfl ?_;refine gO rfl rfl (fa26_0 rfl) rfl ?_;refine gO rfl rfl (ld22 rfl f0 rfl) rfl ?_;refine gO rfl rfl (aOp_lenSlice Try.underlying22 rfl hl1) rfl ?_;refine GoR.call rfl rfl (aCF aFunc74 rfl) (in74_ok) ?_ np;rintro v1 h1 ⟨q, x1⟩;cases q;refine ⟨_, rfl, ?_⟩;replace f0 := f0.ext x1;replace e0 := e0.trans x1;iterate 2 refine gP ?_
  by_cases hs0 : (1 : Int) ≤ (↑F.rs.length : Int) ∧ (↑F.rs.length : Int) ≤ (8 : Int)
  ·rw [decide_eq_true hs0];refine gO rfl rfl (fa26_1 rfl) rfl ?_;refine gO rfl rfl (ld3 rfl f0 rfl) rfl ?_;refine GoR.call rfl rfl (aCF aFunc74 rfl) (in74_ok) ?_ np;rintro v2 h2 ⟨q, x2⟩;cases q;refine ⟨_, rfl, ?_⟩;replace f0 := f0.ext x2;replace e0 := e0.trans x2;iterate 3 refine gP ?_
   by_cases hs1 : (0 : Int) ≤ F.men ∧ F.men ≤ (3 : Int)
   ·rw [decide_eq_true hs1];refine gO rfl rfl (fa26_4 rfl) rfl ?_;refine gO rfl rfl (ld24 rfl f0 rfl) rfl ?_;refine gO rfl rfl (aOp_lenSlice Try.underlying24 rfl hl2) rfl ?_;refine gO rfl rfl (kGT rfl rfl) rfl ?_;refine gP ?_;apply gE;refine gC (b := true) rfl ?_;apply gS;refine gR rfl ?_;refine gP ?_;apply gE;exact gV (ret_end (aResult_of Try.func32 rfl rfl) ⟨hno, e0⟩)
   ·rw [decide_eq_false hs1];iterate 4 refine GoR.skip rfl rfl rfl ?_
    refine gP ?_;apply gE;refine gC (b := true) rfl ?_;apply gS;refine gR rfl ?_;refine gP ?_;apply gE;exact gV (ret_end (aResult_of Try.func32 rfl rfl) ⟨hno, e0⟩)
  ·rw [decide_eq_false hs0];iterate 4 refine GoR.skip rfl rfl rfl ?_
   iterate 2 refine gP ?_
   iterate 4 refine GoR.skip rfl rfl rfl ?_
   refine gP ?_;apply gE;refine gC (b := true) rfl ?_;apply gS;refine gR rfl ?_;refine gP ?_;apply gE;exact gV (ret_end (aResult_of Try.func32 rfl rfl) ⟨hno, e0⟩)
end Go.Proofs.Ytmimdgjehnhnoaa

namespace Go.Proofs.Ytmimdgjehnhnoaa
open Go Go.AbsE
set_option linter.unusedSimpArgs false
set_option maxRecDepth 100000
set_option maxHeartbeats 0
set_option linter.unusedVariables false
theorem valid_yes {F : FootV} (O : F.Ok) {rsl hsl : AVal} {h : AH} (A : FootAt h F rsl hsl) : Runs Try.prog 82 [.agg (F.cells rsl hsl)] h (fun en h' => en = .ret (.bool true) ∧ Ext h h') := by
 have := O.nr
 have := O.nh
 have k := valid_ok A (by omega) (by omega)
 rw [(okB_iff F).2 O] at k
 exact k
theorem valid_no {F : FootV} (hno : ¬ F.Ok) {rsl hsl : AVal} {h : AH} (A : FootAt h F rsl hsl) (hb1 : F.rs.length ≤ 40) (hb2 : F.hs.length ≤ 40) : Runs Try.prog 82 [.agg (F.cells rsl hsl)] h (fun en h' => en = .ret (.bool false) ∧ Ext h h') := by
 have k := valid_ok A hb1 hb2
 have : F.okB = false := by
  cases q : F.okB with
  | false => rfl
  | true => exact absurd ((okB_iff F).1 q) hno
 rw [this] at k;exact k
def refusal (code : Int) : List AEntry := [⟨.iface 115 (.int .i64 code), false⟩]
theorem refuse_ok (b : Bool) (code : Int) (h : AH) : Runs Try.prog 59 [.bool b, .int .i64 code] h (fun en h' => h' = h ∧ ((b = false ∧ en = .ret (.tuple [])) ∨ (b = true ∧ en = .pan (refusal code)))) := by
 refine Runs.intro aFunc59 rfl rfl rfl rfl fun rest => ?_;refine Go.seq noJ_ok (gR rfl ?_);refine gP ?_
 cases b with
 | false =>
  refine GoR.end (gC (b := false) rfl (gD (Go.endL (FLeft.ret (v := .tuple []) ?_ ⟨rfl, .inl ⟨rfl, rfl⟩⟩))));exact aResult_of Try.func59 rfl rfl
 | true =>
  refine GoR.end (gC (b := true) rfl (gR rfl ?_));refine gP ?_;refine gP ?_;refine GoR.panic rfl rfl rfl (FLeft.pan ⟨rfl, .inr ⟨rfl, rfl⟩⟩)
theorem attempt_pan {rest : List AFr} {t : Tr AVal} {h : AH} {b : Nat} {c0 code : Int} {R : AEnd → AH → Prop} (ht : t.get (pth 4) = some (.ptr b 0)) (hb : Has h b (.cells .plain [.int .i64 c0] 32))
  (hR : ∀ h', h.next ≤ h'.next → (∀ x, x < h.next → x ≠ b → h'.get x = h.get x) → R (.ret (.int .i64 code)) h') :
  FLeft Try.prog ⟨42, 13, [.call (.func 81) [.ptr b 0] []], false, none, rest⟩ (.panicking (refusal code)) t h (Post Try.prog 42 rest R) := by
 refine FLeft.defer (fun q => by cases q) aFunc81 rfl rfl rfl rfl fun todo => ?_;refine Go.seq noJ_ok (gR rfl ?_);refine GoR.recover1 rfl rfl rfl rfl rfl ?_
 have y0 : ExtF (fun x => x = b) h h := ExtF.of (Ext.refl _)
 apply gE;refine Go.block noJ_ok ?_;apply gS;refine gR rfl ?_;refine gP ?_;apply gE;refine gC (b := false) rfl ?_;apply gS;refine gR rfl ?_;iterate 3 refine gP ?_
 apply gE;refine gC (b := true) rfl ?_;apply gS;refine gR rfl ?_;refine gP ?_;apply gE;refine gR rfl ?_;refine gP ?_;refine GoR.store rfl rfl rfl rfl rfl rfl hb rfl sz32 rfl rfl rfl fun h0 u0 => ?_;replace hb := u0.has hb;replace y0 := y0.upd u0 (.inl rfl);apply gE;refine Go.inBlock noJ_ok ?_;refine Go.endL ?_;refine FLeft.settle (v := .tuple []) (aResult_of Try.func81 rfl rfl) ?_;exact FLeft.ret (v := .int .i64 code) (aResult_of Try.func42 rfl (aResults_cell ht hb (inCells_one ag32 rfl))) (hR _ y0.1 fun x hx hn => y0.2 x hx hn) todo
theorem attempt_ret {rest : List AFr} {t : Tr AVal} {h : AH} {b : Nat} {code : Int} {R : AEnd → AH → Prop} (ht : t.get (pth 4) = some (.ptr b 0)) (hb : Has h b (.cells .plain [.int .i64 code] 32)) (hR : R (.ret (.int .i64 code)) h) :
  FLeft Try.prog ⟨42, 13, [.call (.func 81) [.ptr b 0] []], false, none, rest⟩ .returning t h (Post Try.prog 42 rest R) := by
 refine FLeft.defer (fun q => by cases q) aFunc81 rfl rfl rfl rfl fun todo => ?_;refine Go.seq noJ_ok (gR rfl ?_);refine GoR.recover0 rfl rfl rfl rfl rfl ?_;apply gE;refine Go.block noJ_ok ?_;apply gS;refine gR rfl ?_;refine gP ?_;apply gE;refine gC (b := true) rfl ?_;refine gR rfl ?_;refine gP ?_;apply gE;refine Go.inBlock noJ_ok ?_;refine Go.endL ?_;refine FLeft.settle (v := .tuple []) (aResult_of Try.func81 rfl rfl) ?_;exact FLeft.ret (v := .int .i64 code) (aResult_of Try.func42 rfl (aResults_cell ht hb (inCells_one ag32 rfl))) hR todo
theorem refuse_no (code : Int) (h : AH) : Runs Try.prog 59 [.bool false, .int .i64 code] h (fun en h' => en = .ret (.tuple []) ∧ Ext h h') :=
 (refuse_ok false code h).mono fun en h' k => by
  rcases k with ⟨rfl, ⟨_, q⟩ | ⟨q, _⟩⟩
  ·exact ⟨q, Ext.refl _⟩
  ·cases q
theorem refuse_yes (code : Int) (h : AH) : Runs Try.prog 59 [.bool true, .int .i64 code] h (fun en h' => en = .pan (refusal code) ∧ Ext h h') :=
 (refuse_ok true code h).mono fun en h' k => by
  rcases k with ⟨rfl, ⟨q, _⟩ | ⟨_, q⟩⟩
  ·cases q
  ·exact ⟨q, Ext.refl _⟩
theorem attempt_ok2 {F : FootV} (O : F.Ok) (rsl hsl : AVal) (h : AH) (A : FootAt h F rsl hsl) (W : FuncId) (fW : Func) (hfid : aFunc Try.prog W = some fW) (caps : List AVal) (S : Nat → Prop) (hS : ∀ b, S b → b < h.next) (T : Nat → Int → AH → Prop)
  (hbody : ∀ h', Ext h h' → Runs Try.prog W ([.agg (F.cells rsl hsl)] ++ caps) h' (fun en h'' => ExtF S h' h'' ∧ ((en = .ret (.tuple []) ∧ T h'.next 0 h'') ∨ ∃ code, en = .pan (refusal code) ∧ T h'.next code h''))) :
  Runs Try.prog 42 [.agg (F.cells rsl hsl), .func (.func W) [] caps] h (fun en h' => ∃ code n h2, en = .ret (.int .i64 code) ∧ T n code h2 ∧ ExtF S h h' ∧ h2.next ≤ h'.next ∧ h.next ≤ n ∧ n ≤ h2.next ∧ ∀ b, b < h2.next → b < h.next ∨ n ≤ b → h'.get b = h2.get b) := by
 unfold FootV.cells
 have hv := fun h A => valid_yes O (rsl := rsl) (hsl := hsl) (h := h) A
 unfold FootV.cells at hv
 have e0 : Ext h h := Ext.refl _
 refine Runs.intro aFunc42 rfl rfl rfl rfl fun rest => ?_;apply gS;refine gR rfl ?_;refine GoR.box rfl rfl rfl rfl rfl rfl fun h0 x0 f0 => ?_;have := e0.1;replace e0 := e0.trans x0;have := f0.1;refine GoR.alloc rfl rfl rfl zt32 rfl rfl fun h1 x1 f1 => ?_;have := e0.1;have := f0.1;replace f0 := f0.ext x1;replace e0 := e0.trans x1;have := f1.1;apply gE;apply gS;refine gR rfl ?_;refine gP ?_
 have hx0 := x0.1
 have hx1 := x1.1
 refine GoR.defer rfl rfl rfl rfl ?_;apply gE;apply gS;refine gR rfl ?_;refine gO rfl rfl (ld26 rfl f0 rfl) rfl ?_;refine GoR.call rfl rfl (aCF aFunc82 rfl) (hv _ (A.ext e0)) ?_ np;rintro v2 h2 ⟨q, x2⟩;cases q;refine ⟨_, rfl, ?_⟩;replace f1 := f1.ext x2;replace f0 := f0.ext x2;replace e0 := e0.trans x2;refine gP ?_;refine GoR.call rfl rfl (aCF aFunc59 rfl) (refuse_no 1 _) ?_ np;rintro v3 h3 ⟨q, x3⟩;cases q;refine ⟨_, rfl, ?_⟩;replace f1 := f1.ext x3;replace f0 := f0.ext x3;replace e0 := e0.trans x3;apply gE;apply gS;refine gR rfl ?_;refine gP ?_;refine gO rfl rfl (ld26 rfl f0 rfl) rfl ?_
 have he3 := e0.1
 have nf1 := f1.1
 have hnS : ¬ S h0.next := fun q => by have := hS _ q; omega
 refine GoR.callP rfl rfl (aOp_callVal rfl hfid rfl) (hbody h3 e0) ?_ ?_
 ·rintro v h4 ⟨x4, ⟨q, t4⟩ | ⟨code, q, _⟩⟩
  ·cases q;refine ⟨_, rfl, ?_⟩
   have hx4 := x4.1
   replace f1 := f1.extF x4 hnS
   have y9 : ExtF S h h4 := (ExtF.of e0).trans (fun _ q => .inl q) x4
   clear e0 f0;apply gE;apply gS;refine gR rfl ?_;refine GoR.store rfl rfl rfl rfl rfl rfl f1 rfl sz32 rfl rfl rfl fun h5 u5 => ?_;replace f1 := u5.has f1;replace y9 := y9.upd u5 (.inr (by omega));apply gE;exact Go.retL (attempt_ret rfl f1 ⟨0, h3.next, h4, rfl, t4, y9, by rw [u5.1]; exact Nat.le_refl _, he3, hx4, fun b _ hb => u5.2.2 b (by omega)⟩)
  ·cases q
 ·rintro chain h4 ⟨x4, ⟨q, _⟩ | ⟨code, q, t4⟩⟩
  ·cases q
  have q := AEnd.pan.inj q
  subst q
  have hx4 := x4.1
  refine attempt_pan rfl (f1.extF x4 hnS) fun h' n1 n2 => ⟨code, h3.next, h4, rfl, t4, ⟨by omega, fun b hb hbS => by rw [n2 b (by omega) (by omega), x4.2 b (by omega) hbS, e0.2 b hb]⟩, n1, he3, hx4, fun b hlt hb => n2 b hlt (by omega)⟩
theorem attempt_ok {F : FootV} (O : F.Ok) (rsl hsl : AVal) (h : AH) (A : FootAt h F rsl hsl) (W : FuncId) (fW : Func) (hfid : aFunc Try.prog W = some fW) (caps : List AVal) (S : Nat → Prop) (hS : ∀ b, S b → b < h.next) (T : Int → AH → Prop)
  (hbody : ∀ h', Ext h h' → Runs Try.prog W ([.agg (F.cells rsl hsl)] ++ caps) h' (fun en h'' => ExtF S h' h'' ∧ ((en = .ret (.tuple []) ∧ T 0 h'') ∨ ∃ code, en = .pan (refusal code) ∧ T code h''))) :
  Runs Try.prog 42 [.agg (F.cells rsl hsl), .func (.func W) [] caps] h (fun en h' => ∃ code h2, en = .ret (.int .i64 code) ∧ T code h2 ∧ ExtF S h h' ∧ h2.next ≤ h'.next ∧ ∀ b, b < h.next → h'.get b = h2.get b) :=
 (attempt_ok2 O rsl hsl h A W fW hfid caps S hS (fun _ => T) hbody).mono fun en h' ⟨code, n, h2, q, t, x, le, l1, l2, same⟩ => ⟨code, h2, q, t, x, le, fun b hb => same b (by omega) (.inl hb)⟩
theorem attempt_makes {F : FootV} (O : F.Ok) (rsl hsl : AVal) (h : AH) (A : FootAt h F rsl hsl) (W : FuncId) (fW : Func) (hfid : aFunc Try.prog W = some fW) (caps : List AVal) (S : Nat → Prop) (hS : ∀ b, S b → b < h.next) (T : Nat → AH → Prop)
  (hbody : ∀ h', Ext h h' → Runs Try.prog W ([.agg (F.cells rsl hsl)] ++ caps) h' (fun en h'' => en = .ret (.tuple []) ∧ ExtF S h' h'' ∧ T h'.next h'')) :
  Runs Try.prog 42 [.agg (F.cells rsl hsl), .func (.func W) [] caps] h (fun en h' => ∃ n h2, en = .ret (.int .i64 0) ∧ ExtF S h h' ∧ T n h2 ∧ h2.next ≤ h'.next ∧ h.next ≤ n ∧ n ≤ h2.next ∧ ∀ b, b < h2.next → b < h.next ∨ n ≤ b → h'.get b = h2.get b) :=
 (attempt_ok2 O rsl hsl h A W fW hfid caps S hS (fun n c h' => c = 0 ∧ T n h') fun h' e => (hbody h' e).mono fun en h'' ⟨q, x, t⟩ => ⟨x, .inl ⟨q, rfl, t⟩⟩).mono
  fun en h' ⟨c, n, h2, q, ⟨hc, t⟩, x, le, l1, l2, same⟩ => ⟨n, h2, by rw [q, hc], x, t, le, l1, l2, same⟩
theorem attempt_gives {F : FootV} (O : F.Ok) (rsl hsl : AVal) (h : AH) (A : FootAt h F rsl hsl) (W : FuncId) (fW : Func) (hfid : aFunc Try.prog W = some fW) (caps : List AVal) (code : Int)
  (hbody : ∀ h', Ext h h' → Runs Try.prog W ([.agg (F.cells rsl hsl)] ++ caps) h' (fun en h'' => en = .pan (refusal code) ∧ Ext h' h'')) :
  Runs Try.prog 42 [.agg (F.cells rsl hsl), .func (.func W) [] caps] h (fun en h' => en = .ret (.int .i64 code) ∧ Ext h h') :=
 (attempt_ok O rsl hsl h A W fW hfid caps (fun _ => False) (fun _ q => q.elim) (fun c _ => c = code) fun h' e => (hbody h' e).mono fun en h'' ⟨q, x⟩ => ⟨ExtF.of x, .inr ⟨code, q, rfl⟩⟩).mono
  fun en h' ⟨c, h2, q, hc, x, _, _⟩ => ⟨by rw [q, hc], x.1, fun b hb => x.2 b hb id⟩
theorem attempt_does {F : FootV} (O : F.Ok) (rsl hsl : AVal) (h : AH) (A : FootAt h F rsl hsl) (W : FuncId) (fW : Func) (hfid : aFunc Try.prog W = some fW) (caps : List AVal) (S : Nat → Prop) (hS : ∀ b, S b → b < h.next) (T : AH → Prop)
  (hT : ∀ h2 h', h2.next ≤ h'.next → (∀ b, b < h.next → h'.get b = h2.get b) → T h2 → T h')
  (hbody : ∀ h', Ext h h' → Runs Try.prog W ([.agg (F.cells rsl hsl)] ++ caps) h' (fun en h'' => en = .ret (.tuple []) ∧ ExtF S h' h'' ∧ T h'')) :
  Runs Try.prog 42 [.agg (F.cells rsl hsl), .func (.func W) [] caps] h (fun en h' => en = .ret (.int .i64 0) ∧ ExtF S h h' ∧ T h') :=
 (attempt_ok O rsl hsl h A W fW hfid caps S hS (fun c h' => c = 0 ∧ T h') fun h' e => (hbody h' e).mono fun en h'' ⟨q, x, t⟩ => ⟨x, .inl ⟨q, rfl, t⟩⟩).mono
  fun en h' ⟨c, h2, q, ⟨hc, t⟩, x, le, same⟩ => ⟨by rw [q, hc], x, hT h2 h' le same t⟩
theorem attempt_bad {F : FootV} (hno : ¬ F.Ok) (hb1 : F.rs.length ≤ 40) (hb2 : F.hs.length ≤ 40) (rsl hsl : AVal) (h : AH) (A : FootAt h F rsl hsl) (W : FuncId) (caps : List AVal) :
  Runs Try.prog 42 [.agg (F.cells rsl hsl), .func (.func W) [] caps] h (fun en h' => en = .ret (.int .i64 1) ∧ Ext h h') := by
 have hv := fun h A => valid_no hno (rsl := rsl) (hsl := hsl) (h := h) A hb1 hb2
 unfold FootV.cells at hv ⊢
 have e0 : Ext h h := Ext.refl _
 refine Runs.intro aFunc42 rfl rfl rfl rfl fun rest => ?_;apply gS;refine gR rfl ?_;refine GoR.box rfl rfl rfl rfl rfl rfl fun h0 x0 f0 => ?_;replace e0 := e0.trans x0;refine GoR.alloc rfl rfl rfl zt32 rfl rfl fun h1 x1 f1 => ?_;replace f0 := f0.ext x1;replace e0 := e0.trans x1;apply gE;apply gS;refine gR rfl ?_;refine gP ?_
 have hx0 := x0.1
 have hx1 := x1.1
 refine GoR.defer rfl rfl rfl rfl ?_;apply gE;apply gS;refine gR rfl ?_;refine gO rfl rfl (ld26 rfl f0 rfl) rfl ?_;refine GoR.call rfl rfl (aCF aFunc82 rfl) (hv _ (A.ext e0)) ?_ np;rintro v2 h2 ⟨q, x2⟩;cases q;refine ⟨_, rfl, ?_⟩;replace f1 := f1.ext x2;replace e0 := e0.trans x2;refine gP ?_;refine GoR.callP rfl rfl (aCF aFunc59 rfl) (refuse_ok true 1 _) (by rintro _ _ ⟨_, ⟨q, _⟩ | ⟨_, q⟩⟩ <;> cases q) ?_;rintro chain h9 ⟨rfl, ⟨q, _⟩ | ⟨_, q⟩⟩
 ·cases q
 have q := AEnd.pan.inj q
 subst q
 have hx9 := e0.1
 refine attempt_pan rfl f1 fun h' n1 n2 => ⟨rfl, ?_, fun b hb => by rw [n2 b (by omega) (by omega), e0.2 b hb]⟩
 omega
end Go.Proofs.Ytmimdgjehnhnoaa

namespace Go.Proofs.Ytmimdgjehnhnoaa
open Go Go.AbsE
set_option linter.unusedSimpArgs false
set_option maxRecDepth 100000
set_option maxHeartbeats 0
set_option linter.unusedVariables false
def Pl.Ord (n : Int) (p : Pl) : Prop := (p.a = -1 ∨ (0 ≤ p.a ∧ p.a ≤ n - 1)) ∧ (p.b = -1 ∨ (0 ≤ p.b ∧ p.b ≤ n - 1 ∧ 0 ≤ p.a ∧ p.a ≤ p.b - 1)) ∧ (p.c = -1 ∨ (0 ≤ p.c ∧ p.c ≤ n - 1 ∧ 0 ≤ p.b ∧ p.b ≤ p.c - 1))
instance (n : Int) (p : Pl) : Decidable (p.Ord n) := by unfold Pl.Ord; infer_instance
theorem inOrder_ok {a b c n : Int} (hn : 0 ≤ n ∧ n ≤ 1000) {h : AH} : Runs Try.prog 84 [.agg [.int .i64 a, .int .i64 b, .int .i64 c], .int .i64 n] h (fun en h' => en = .ret (.bool (decide (Pl.Ord n ⟨a, b, c⟩))) ∧ Ext h h') := by
 have e0 : Ext h h := Ext.refl _
 refine Runs.intro aFunc84 rfl rfl rfl rfl fun rest => ?_;apply gS;refine gR rfl ?_;refine GoR.box rfl rfl rfl rfl rfl rfl fun h0 x0 f0 => ?_;replace e0 := e0.trans x0;refine gP ?_;apply gE;iterate 2 apply gS
 refine gR rfl ?_;refine gO rfl rfl (ld83 rfl f0 rfl) rfl ?_;refine gP ?_;apply gE;refine Go.block noJ_ok ?_;refine Go.loop noJ_ok ?_;apply gS;refine gR rfl ?_;refine gO rfl rfl (kLT rfl rfl) rfl ?_;apply gE;apply gS;refine gC (b := true) rfl ?_;refine gD ?_;apply gS;refine Go.block noJ_ok ?_;apply gS;refine gR rfl ?_;refine gP ?_;refine gO rfl rfl (aOp_indexArr (i := 0) Try.underlying83 sz3 rfl rfl rfl (partT_one ag3 rfl)) rfl ?_;iterate 2 refine gP ?_
 apply gE;iterate 2 apply gS
 refine gR rfl ?_;refine gP ?_
 by_cases hs0 : (a : Int) = (-1 : Int)
 ·refine gO rfl rfl (kET rfl rfl) rfl ?_;apply gE;refine gC (b := true) rfl ?_;refine gD ?_;refine gR rfl ?_;refine gO rfl rfl (aA rfl rfl) rfl ?_;refine gP ?_;apply gE;refine Go.inLoop noJ_ok ?_;apply gS;refine gR rfl ?_;refine gO rfl rfl (kLT rfl rfl) rfl ?_;apply gE;apply gS;refine gC (b := true) rfl ?_;refine gD ?_;apply gS;refine Go.block noJ_ok ?_;apply gS;refine gR rfl ?_;refine gP ?_;refine gO rfl rfl (aOp_indexArr (i := 1) Try.underlying83 sz3 rfl rfl rfl (partT_one ag3 rfl)) rfl ?_;iterate 2 refine gP ?_
  apply gE;iterate 2 apply gS
  refine gR rfl ?_;refine gP ?_
  by_cases hs1 : (b : Int) = (-1 : Int)
  ·refine gO rfl rfl (kET rfl rfl) rfl ?_;apply gE;refine gC (b := true) rfl ?_;refine gD ?_;refine gR rfl ?_;refine gO rfl rfl (aA rfl rfl) rfl ?_;refine gP ?_;apply gE;refine Go.inLoop noJ_ok ?_;apply gS;refine gR rfl ?_;refine gO rfl rfl (kLT rfl rfl) rfl ?_;apply gE;apply gS;refine gC (b := true) rfl ?_;refine gD ?_;apply gS;refine Go.block noJ_ok ?_;apply gS;refine gR rfl ?_;refine gP ?_;refine gO rfl rfl (aOp_indexArr (i := 2) Try.underlying83 sz3 rfl rfl rfl (partT_one ag3 rfl)) rfl ?_;iterate 2 refine gP ?_
   apply gE;iterate 2 apply gS
   refine gR rfl ?_;refine gP ?_
   by_cases hs2 : (c : Int) = (-1 : Int)
   ·refine gO rfl rfl (kET rfl rfl) rfl ?_;apply gE;refine gC (b := true) rfl ?_;refine gD ?_;refine gR rfl ?_;refine gO rfl rfl (aA rfl rfl) rfl ?_;refine gP ?_;apply gE;refine Go.inLoop noJ_ok ?_;apply gS;refine gR rfl ?_;refine gO rfl rfl (kLF rfl rfl) rfl ?_;apply gE;apply gS;refine gC (b := false) rfl ?_;refine gD ?_;apply gS;refine gR rfl ?_;refine gP ?_;apply gE;exact gV (ret_end (aResult_of Try.func84 rfl rfl) ⟨ret_true (by unfold Pl.Ord; dsimp only; omega), e0⟩)
   ·refine gO rfl rfl (kEF rfl rfl) rfl ?_;apply gE;refine gC (b := false) rfl ?_;refine gD ?_;apply gS;refine gR rfl ?_;iterate 2 refine gP ?_
    refine GoR.call rfl rfl (aCF aFunc94 rfl) (isDay_ok (by omega)) ?_ np;rintro v1 h1 ⟨q, x1⟩;cases q;refine ⟨_, rfl, ?_⟩;replace f0 := f0.ext x1;replace e0 := e0.trans x1;iterate 2 refine gP ?_
    by_cases hs3 : (0 : Int) ≤ c ∧ c ≤ n - (1 : Int)
    ·rw [decide_eq_true hs3];refine gP ?_;refine gO rfl rfl (kGT rfl rfl) rfl ?_;iterate 2 refine gP ?_
     refine gO rfl rfl (aS rfl rfl) rfl ?_;refine gO rfl rfl (aOp_indexAddrArr (i := 1) Try.underlying83 sz3 rfl rfl rfl) rfl ?_;refine gO rfl rfl (ld3 rfl f0 rfl) rfl ?_;refine gP ?_;refine gO rfl rfl (aS rfl rfl) rfl ?_;refine GoR.call rfl rfl (aCF aFunc83 rfl) (inside_is (r := false) (df (by omega))) ?_ np;rintro v2 h2 ⟨q, x2⟩;cases q;refine ⟨_, rfl, ?_⟩;replace e0 := e0.trans x2;iterate 3 refine gP ?_
     apply gE;refine gC (b := true) rfl ?_;apply gS;refine gR rfl ?_;refine gP ?_;apply gE;exact gV (ret_end (aResult_of Try.func84 rfl rfl) ⟨ret_false (by unfold Pl.Ord; dsimp only; omega), e0⟩)
    ·rw [decide_eq_false hs3];iterate 12 refine GoR.skip rfl rfl rfl ?_
     refine gP ?_;apply gE;refine gC (b := true) rfl ?_;apply gS;refine gR rfl ?_;refine gP ?_;apply gE;exact gV (ret_end (aResult_of Try.func84 rfl rfl) ⟨ret_false (by unfold Pl.Ord; dsimp only; omega), e0⟩)
  ·refine gO rfl rfl (kEF rfl rfl) rfl ?_;apply gE;refine gC (b := false) rfl ?_;refine gD ?_;apply gS;refine gR rfl ?_;iterate 2 refine gP ?_
   refine GoR.call rfl rfl (aCF aFunc94 rfl) (isDay_ok (by omega)) ?_ np;rintro v1 h1 ⟨q, x1⟩;cases q;refine ⟨_, rfl, ?_⟩;replace f0 := f0.ext x1;replace e0 := e0.trans x1;iterate 2 refine gP ?_
   by_cases hs2 : (0 : Int) ≤ b ∧ b ≤ n - (1 : Int)
   ·rw [decide_eq_true hs2];refine gP ?_;refine gO rfl rfl (kGT rfl rfl) rfl ?_;iterate 2 refine gP ?_
    refine gO rfl rfl (aS rfl rfl) rfl ?_;refine gO rfl rfl (aOp_indexAddrArr (i := 0) Try.underlying83 sz3 rfl rfl rfl) rfl ?_;refine gO rfl rfl (ld3 rfl f0 rfl) rfl ?_;refine gP ?_;refine gO rfl rfl (aS rfl rfl) rfl ?_;refine GoR.call rfl rfl (aCF aFunc83 rfl) (inside_is (r := false) (df (by omega))) ?_ np;rintro v2 h2 ⟨q, x2⟩;cases q;refine ⟨_, rfl, ?_⟩;replace e0 := e0.trans x2;iterate 3 refine gP ?_
    apply gE;refine gC (b := true) rfl ?_;apply gS;refine gR rfl ?_;refine gP ?_;apply gE;exact gV (ret_end (aResult_of Try.func84 rfl rfl) ⟨ret_false (by unfold Pl.Ord; dsimp only; omega), e0⟩)
   ·rw [decide_eq_false hs2];iterate 12 refine GoR.skip rfl rfl rfl ?_
    refine gP ?_;apply gE;refine gC (b := true) rfl ?_;apply gS;refine gR rfl ?_;refine gP ?_;apply gE;exact gV (ret_end (aResult_of Try.func84 rfl rfl) ⟨ret_false (by unfold Pl.Ord; dsimp only; omega), e0⟩)
 ·refine gO rfl rfl (kEF rfl rfl) rfl ?_;apply gE;refine gC (b := false) rfl ?_;refine gD ?_;apply gS;refine gR rfl ?_;iterate 2 refine gP ?_
  refine GoR.call rfl rfl (aCF aFunc94 rfl) (isDay_ok (by omega)) ?_ np;rintro v1 h1 ⟨q, x1⟩;cases q;refine ⟨_, rfl, ?_⟩;replace f0 := f0.ext x1;replace e0 := e0.trans x1;iterate 2 refine gP ?_
  by_cases hs1 : (0 : Int) ≤ a ∧ a ≤ n - (1 : Int)
  ·rw [decide_eq_true hs1];refine gP ?_;refine gO rfl rfl (kGF rfl rfl) rfl ?_;refine gP ?_;iterate 8 refine GoR.skip rfl rfl rfl ?_
   iterate 2 refine gP ?_
   apply gE;refine gC (b := false) rfl ?_;refine gD ?_;refine Go.inBlock noJ_ok ?_;refine gR rfl ?_;refine gO rfl rfl (aA rfl rfl) rfl ?_;refine gP ?_;apply gE;refine Go.inLoop noJ_ok ?_;apply gS;refine gR rfl ?_;refine gO rfl rfl (kLT rfl rfl) rfl ?_;apply gE;apply gS;refine gC (b := true) rfl ?_;refine gD ?_;apply gS;refine Go.block noJ_ok ?_;apply gS;refine gR rfl ?_;refine gP ?_;refine gO rfl rfl (aOp_indexArr (i := 1) Try.underlying83 sz3 rfl rfl rfl (partT_one ag3 rfl)) rfl ?_;iterate 2 refine gP ?_
   apply gE;iterate 2 apply gS
   refine gR rfl ?_;refine gP ?_
   by_cases hs2 : (b : Int) = (-1 : Int)
   ·refine gO rfl rfl (kET rfl rfl) rfl ?_;apply gE;refine gC (b := true) rfl ?_;refine gD ?_;refine gR rfl ?_;refine gO rfl rfl (aA rfl rfl) rfl ?_;refine gP ?_;apply gE;refine Go.inLoop noJ_ok ?_;apply gS;refine gR rfl ?_;refine gO rfl rfl (kLT rfl rfl) rfl ?_;apply gE;apply gS;refine gC (b := true) rfl ?_;refine gD ?_;apply gS;refine Go.block noJ_ok ?_;apply gS;refine gR rfl ?_;refine gP ?_;refine gO rfl rfl (aOp_indexArr (i := 2) Try.underlying83 sz3 rfl rfl rfl (partT_one ag3 rfl)) rfl ?_;iterate 2 refine gP ?_
    apply gE;iterate 2 apply gS
    refine gR rfl ?_;refine gP ?_
    by_cases hs3 : (c : Int) = (-1 : Int)
    ·refine gO rfl rfl (kET rfl rfl) rfl ?_;apply gE;refine gC (b := true) rfl ?_;refine gD ?_;refine gR rfl ?_;refine gO rfl rfl (aA rfl rfl) rfl ?_;refine gP ?_;apply gE;refine Go.inLoop noJ_ok ?_;apply gS;refine gR rfl ?_;refine gO rfl rfl (kLF rfl rfl) rfl ?_;apply gE;apply gS;refine gC (b := false) rfl ?_;refine gD ?_;apply gS;refine gR rfl ?_;refine gP ?_;apply gE;exact gV (ret_end (aResult_of Try.func84 rfl rfl) ⟨ret_true (by unfold Pl.Ord; dsimp only; omega), e0⟩)
    ·refine gO rfl rfl (kEF rfl rfl) rfl ?_;apply gE;refine gC (b := false) rfl ?_;refine gD ?_;apply gS;refine gR rfl ?_;iterate 2 refine gP ?_
     refine GoR.call rfl rfl (aCF aFunc94 rfl) (isDay_ok (by omega)) ?_ np;rintro v2 h2 ⟨q, x2⟩;cases q;refine ⟨_, rfl, ?_⟩;replace f0 := f0.ext x2;replace e0 := e0.trans x2;iterate 2 refine gP ?_
     by_cases hs4 : (0 : Int) ≤ c ∧ c ≤ n - (1 : Int)
     ·rw [decide_eq_true hs4];refine gP ?_;refine gO rfl rfl (kGT rfl rfl) rfl ?_;iterate 2 refine gP ?_
      refine gO rfl rfl (aS rfl rfl) rfl ?_;refine gO rfl rfl (aOp_indexAddrArr (i := 1) Try.underlying83 sz3 rfl rfl rfl) rfl ?_;refine gO rfl rfl (ld3 rfl f0 rfl) rfl ?_;refine gP ?_;refine gO rfl rfl (aS rfl rfl) rfl ?_;refine GoR.call rfl rfl (aCF aFunc83 rfl) (inside_is (r := false) (df (by omega))) ?_ np;rintro v3 h3 ⟨q, x3⟩;cases q;refine ⟨_, rfl, ?_⟩;replace e0 := e0.trans x3;iterate 3 refine gP ?_
      apply gE;refine gC (b := true) rfl ?_;apply gS;refine gR rfl ?_;refine gP ?_;apply gE;exact gV (ret_end (aResult_of Try.func84 rfl rfl) ⟨ret_false (by unfold Pl.Ord; dsimp only; omega), e0⟩)
     ·rw [decide_eq_false hs4];iterate 12 refine GoR.skip rfl rfl rfl ?_
      refine gP ?_;apply gE;refine gC (b := true) rfl ?_;apply gS;refine gR rfl ?_;refine gP ?_;apply gE;exact gV (ret_end (aResult_of Try.func84 rfl rfl) ⟨ret_false (by unfold Pl.Ord; dsimp only; omega), e0⟩)
   ·refine gO rfl rfl (kEF rfl rfl) rfl ?_;apply gE;refine gC (b := false) rfl ?_;refine gD ?_;apply gS;refine gR rfl ?_;iterate 2 refine gP ?_
    refine GoR.call rfl rfl (aCF aFunc94 rfl) (isDay_ok (by omega)) ?_ np;rintro v2 h2 ⟨q, x2⟩;cases q;refine ⟨_, rfl, ?_⟩;replace f0 := f0.ext x2;replace e0 := e0.trans x2;iterate 2 refine gP ?_
    by_cases hs3 : (0 : Int) ≤ b ∧ b ≤ n - (1 : Int)
    ·rw [decide_eq_true hs3];refine gP ?_;refine gO rfl rfl (kGT rfl rfl) rfl ?_;iterate 2 refine gP ?_
     refine gO rfl rfl (aS rfl rfl) rfl ?_;refine gO rfl rfl (aOp_indexAddrArr (i := 0) Try.underlying83 sz3 rfl rfl rfl) rfl ?_;refine gO rfl rfl (ld3 rfl f0 rfl) rfl ?_;refine gP ?_;refine gO rfl rfl (aS rfl rfl) rfl ?_;refine GoR.call rfl rfl (aCF aFunc83 rfl) (inside_ok) ?_ np;rintro v3 h3 ⟨q, x3⟩;cases q;refine ⟨_, rfl, ?_⟩;replace f0 := f0.ext x3;replace e0 := e0.trans x3;iterate 3 refine gP ?_
     apply gE
     by_cases hs4 : (0 : Int) ≤ a ∧ a ≤ b - (1 : Int)
     ·rw [decide_eq_true hs4];refine gC (b := false) rfl ?_;refine gD ?_;refine Go.inBlock noJ_ok ?_;refine gR rfl ?_;refine gO rfl rfl (aA rfl rfl) rfl ?_;refine gP ?_;apply gE;refine Go.inLoop noJ_ok ?_;apply gS;refine gR rfl ?_;refine gO rfl rfl (kLT rfl rfl) rfl ?_;apply gE;apply gS;refine gC (b := true) rfl ?_;refine gD ?_;apply gS;refine Go.block noJ_ok ?_;apply gS;refine gR rfl ?_;refine gP ?_;refine gO rfl rfl (aOp_indexArr (i := 2) Try.underlying83 sz3 rfl rfl rfl (partT_one ag3 rfl)) rfl ?_;iterate 2 refine gP ?_
      apply gE;iterate 2 apply gS
      refine gR rfl ?_;refine gP ?_
      by_cases hs5 : (c : Int) = (-1 : Int)
      ·refine gO rfl rfl (kET rfl rfl) rfl ?_;apply gE;refine gC (b := true) rfl ?_;refine gD ?_;refine gR rfl ?_;refine gO rfl rfl (aA rfl rfl) rfl ?_;refine gP ?_;apply gE;refine Go.inLoop noJ_ok ?_;apply gS;refine gR rfl ?_;refine gO rfl rfl (kLF rfl rfl) rfl ?_;apply gE;apply gS;refine gC (b := false) rfl ?_;refine gD ?_;apply gS;refine gR rfl ?_;refine gP ?_;apply gE;exact gV (ret_end (aResult_of Try.func84 rfl rfl) ⟨ret_true (by unfold Pl.Ord; dsimp only; omega), e0⟩)
      ·refine gO rfl rfl (kEF rfl rfl) rfl ?_;apply gE;refine gC (b := false) rfl ?_;refine gD ?_;apply gS;refine gR rfl ?_;iterate 2 refine gP ?_
       refine GoR.call rfl rfl (aCF aFunc94 rfl) (isDay_ok (by omega)) ?_ np;rintro v4 h4 ⟨q, x4⟩;cases q;refine ⟨_, rfl, ?_⟩;replace f0 := f0.ext x4;replace e0 := e0.trans x4;iterate 2 refine gP ?_
       by_cases hs6 : (0 : Int) ≤ c ∧ c ≤ n - (1 : Int)
       ·rw [decide_eq_true hs6];refine gP ?_;refine gO rfl rfl (kGT rfl rfl) rfl ?_;iterate 2 refine gP ?_
        refine gO rfl rfl (aS rfl rfl) rfl ?_;refine gO rfl rfl (aOp_indexAddrArr (i := 1) Try.underlying83 sz3 rfl rfl rfl) rfl ?_;refine gO rfl rfl (ld3 rfl f0 rfl) rfl ?_;refine gP ?_;refine gO rfl rfl (aS rfl rfl) rfl ?_;refine GoR.call rfl rfl (aCF aFunc83 rfl) (inside_ok) ?_ np;rintro v5 h5 ⟨q, x5⟩;cases q;refine ⟨_, rfl, ?_⟩;replace e0 := e0.trans x5;iterate 3 refine gP ?_
        apply gE
        by_cases hs7 : (0 : Int) ≤ b ∧ b ≤ c - (1 : Int)
        ·rw [decide_eq_true hs7];refine gC (b := false) rfl ?_;refine gD ?_;refine Go.inBlock noJ_ok ?_;refine gR rfl ?_;refine gO rfl rfl (aA rfl rfl) rfl ?_;refine gP ?_;apply gE;refine Go.inLoop noJ_ok ?_;apply gS;refine gR rfl ?_;refine gO rfl rfl (kLF rfl rfl) rfl ?_;apply gE;apply gS;refine gC (b := false) rfl ?_;refine gD ?_;apply gS;refine gR rfl ?_;refine gP ?_;apply gE;exact gV (ret_end (aResult_of Try.func84 rfl rfl) ⟨ret_true (by unfold Pl.Ord; dsimp only; omega), e0⟩)
        ·rw [decide_eq_false hs7];refine gC (b := true) rfl ?_;apply gS;refine gR rfl ?_;refine gP ?_;apply gE;exact gV (ret_end (aResult_of Try.func84 rfl rfl) ⟨ret_false (by unfold Pl.Ord; dsimp only; omega), e0⟩)
       ·rw [decide_eq_false hs6];iterate 12 refine GoR.skip rfl rfl rfl ?_
        refine gP ?_;apply gE;refine gC (b := true) rfl ?_;apply gS;refine gR rfl ?_;refine gP ?_;apply gE;exact gV (ret_end (aResult_of Try.func84 rfl rfl) ⟨ret_false (by unfold Pl.Ord; dsimp only; omega), e0⟩)
     ·rw [decide_eq_false hs4];refine gC (b := true) rfl ?_;apply gS;refine gR rfl ?_;refine gP ?_;apply gE;exact gV (ret_end (aResult_of Try.func84 rfl rfl) ⟨ret_false (by unfold Pl.Ord; dsimp only; omega), e0⟩)
    ·rw [decide_eq_false hs3];iterate 12 refine GoR.skip rfl rfl rfl ?_
     refine gP ?_;apply gE;refine gC (b := true) rfl ?_;apply gS;refine gR rfl ?_;refine gP ?_;apply gE;exact gV (ret_end (aResult_of Try.func84 rfl rfl) ⟨ret_false (by unfold Pl.Ord; dsimp only; omega), e0⟩)
  ·rw [decide_eq_false hs1];iterate 12 refine GoR.skip rfl rfl rfl ?_
   refine gP ?_;apply gE;refine gC (b := true) rfl ?_;apply gS;refine gR rfl ?_;refine gP ?_;apply gE;exact gV (ret_end (aResult_of Try.func84 rfl rfl) ⟨ret_false (by unfold Pl.Ord; dsimp only; omega), e0⟩)
theorem upTo_ok {a b c : Int} {h : AH} (k : Nat) (hk : k < 3) : Runs Try.prog 120 [.agg [.int .i64 a, .int .i64 b, .int .i64 c], .int .i64 k] h (fun en h' => en = .ret (.agg [.int .i64 a, .int .i64 (if k < 1 then -1 else b), .int .i64 (if k < 2 then -1 else c)]) ∧ Ext h h') := by
 match k, hk with
 | 0, _ =>
  have e0 : Ext h h := Ext.refl _
  refine Runs.intro aFunc120 rfl rfl rfl rfl fun rest => ?_;apply gS;refine gR rfl ?_;refine GoR.box rfl rfl rfl rfl rfl rfl fun h0 x0 f0 => ?_;have := e0.1;replace e0 := e0.trans x0;have := f0.1;refine GoR.alloc rfl rfl rfl zt83 rfl rfl fun h1 x1 f1 => ?_;have := e0.1;have := f0.1;replace f0 := f0.ext x1;replace e0 := e0.trans x1;have := f1.1;apply gE;iterate 2 apply gS
  refine gR rfl ?_;refine gP ?_;refine gO rfl rfl (aA rfl rfl) rfl ?_;refine gP ?_;apply gE;refine Go.block noJ_ok ?_;refine Go.loop noJ_ok ?_;iterate 2 apply gS
  refine gR rfl ?_;refine gP ?_;refine gO rfl rfl (kLT rfl rfl) rfl ?_;apply gE;refine gC (b := true) rfl ?_;refine gD ?_;apply gS;refine Go.block noJ_ok ?_;refine gR rfl ?_;refine gP ?_;refine gO rfl rfl (aOp_indexAddrArr (i := 1) Try.underlying83 sz3 rfl rfl rfl) rfl ?_;refine GoR.store rfl rfl rfl rfl rfl rfl f0 rfl sz3 rfl rfl rfl fun h2 u2 => ?_;replace f1 := f1.upd u2 (by omega);replace f0 := u2.has f0
  first | replace e0 := e0.upd u2 (by omega) | clear e0
  apply gE;refine Go.inBlock noJ_ok ?_;refine gR rfl ?_;refine gP ?_;refine gO rfl rfl (aA rfl rfl) rfl ?_;refine gP ?_;apply gE;refine Go.inLoop noJ_ok ?_;iterate 2 apply gS
  refine gR rfl ?_;refine gP ?_;refine gO rfl rfl (kLT rfl rfl) rfl ?_;apply gE;refine gC (b := true) rfl ?_;refine gD ?_;apply gS;refine Go.block noJ_ok ?_;refine gR rfl ?_;refine gP ?_;refine gO rfl rfl (aOp_indexAddrArr (i := 2) Try.underlying83 sz3 rfl rfl rfl) rfl ?_;refine GoR.store rfl rfl rfl rfl rfl rfl f0 rfl sz3 rfl rfl rfl fun h3 u3 => ?_;replace f1 := f1.upd u3 (by omega);replace f0 := u3.has f0
  first | replace e0 := e0.upd u3 (by omega) | clear e0
  apply gE;refine Go.inBlock noJ_ok ?_;refine gR rfl ?_;refine gP ?_;refine gO rfl rfl (aA rfl rfl) rfl ?_;refine gP ?_;apply gE;refine Go.inLoop noJ_ok ?_;iterate 2 apply gS
  refine gR rfl ?_;refine gP ?_;refine gO rfl rfl (kLF rfl rfl) rfl ?_;apply gE;refine gC (b := false) rfl ?_;refine gD ?_;apply gS;refine gR rfl ?_;refine gO rfl rfl (ld83 rfl f0 rfl) rfl ?_;refine GoR.store rfl rfl rfl rfl rfl rfl f1 rfl sz83 rfl rfl rfl fun h4 u4 => ?_;replace f1 := u4.has f1;replace f0 := f0.upd u4 (by omega)
  first | replace e0 := e0.upd u4 (by omega) | clear e0
  apply gE;exact gV (ret_end (aResult_of Try.func120 rfl (aResults_cell rfl f1 (inCells_agg ag83 sz83 rfl))) ⟨rfl, e0⟩)
 | 1, _ =>
  have e0 : Ext h h := Ext.refl _
  refine Runs.intro aFunc120 rfl rfl rfl rfl fun rest => ?_;apply gS;refine gR rfl ?_;refine GoR.box rfl rfl rfl rfl rfl rfl fun h0 x0 f0 => ?_;have := e0.1;replace e0 := e0.trans x0;have := f0.1;refine GoR.alloc rfl rfl rfl zt83 rfl rfl fun h1 x1 f1 => ?_;have := e0.1;have := f0.1;replace f0 := f0.ext x1;replace e0 := e0.trans x1;have := f1.1;apply gE;iterate 2 apply gS
  refine gR rfl ?_;refine gP ?_;refine gO rfl rfl (aA rfl rfl) rfl ?_;refine gP ?_;apply gE;refine Go.block noJ_ok ?_;refine Go.loop noJ_ok ?_;iterate 2 apply gS
  refine gR rfl ?_;refine gP ?_;refine gO rfl rfl (kLT rfl rfl) rfl ?_;apply gE;refine gC (b := true) rfl ?_;refine gD ?_;apply gS;refine Go.block noJ_ok ?_;refine gR rfl ?_;refine gP ?_;refine gO rfl rfl (aOp_indexAddrArr (i := 2) Try.underlying83 sz3 rfl rfl rfl) rfl ?_;refine GoR.store rfl rfl rfl rfl rfl rfl f0 rfl sz3 rfl rfl rfl fun h2 u2 => ?_;replace f1 := f1.upd u2 (by omega);replace f0 := u2.has f0
  first | replace e0 := e0.upd u2 (by omega) | clear e0
  apply gE;refine Go.inBlock noJ_ok ?_;refine gR rfl ?_;refine gP ?_;refine gO rfl rfl (aA rfl rfl) rfl ?_;refine gP ?_;apply gE;refine Go.inLoop noJ_ok ?_;iterate 2 apply gS
  refine gR rfl ?_;refine gP ?_;refine gO rfl rfl (kLF rfl rfl) rfl ?_;apply gE;refine gC (b := false) rfl ?_;refine gD ?_;apply gS;refine gR rfl ?_;refine gO rfl rfl (ld83 rfl f0 rfl) rfl ?_;refine GoR.store rfl rfl rfl rfl rfl rfl f1 rfl sz83 rfl rfl rfl fun h3 u3 => ?_;replace f1 := u3.has f1;replace f0 := f0.upd u3 (by omega)
  first | replace e0 := e0.upd u3 (by omega) | clear e0
  apply gE;exact gV (ret_end (aResult_of Try.func120 rfl (aResults_cell rfl f1 (inCells_agg ag83 sz83 rfl))) ⟨rfl, e0⟩)
 | 2, _ =>
  have e0 : Ext h h := Ext.refl _
  refine Runs.intro aFunc120 rfl rfl rfl rfl fun rest => ?_;apply gS;refine gR rfl ?_;refine GoR.box rfl rfl rfl rfl rfl rfl fun h0 x0 f0 => ?_;have := e0.1;replace e0 := e0.trans x0;have := f0.1;refine GoR.alloc rfl rfl rfl zt83 rfl rfl fun h1 x1 f1 => ?_;have := e0.1;have := f0.1;replace f0 := f0.ext x1;replace e0 := e0.trans x1;have := f1.1;apply gE;iterate 2 apply gS
  refine gR rfl ?_;refine gP ?_;refine gO rfl rfl (aA rfl rfl) rfl ?_;refine gP ?_;apply gE;refine Go.block noJ_ok ?_;refine Go.loop noJ_ok ?_;iterate 2 apply gS
  refine gR rfl ?_;refine gP ?_;refine gO rfl rfl (kLF rfl rfl) rfl ?_;apply gE;refine gC (b := false) rfl ?_;refine gD ?_;apply gS;refine gR rfl ?_;refine gO rfl rfl (ld83 rfl f0 rfl) rfl ?_;refine GoR.store rfl rfl rfl rfl rfl rfl f1 rfl sz83 rfl rfl rfl fun h2 u2 => ?_;replace f1 := u2.has f1
  first | replace e0 := e0.upd u2 (by omega) | clear e0
  apply gE;exact gV (ret_end (aResult_of Try.func120 rfl (aResults_cell rfl f1 (inCells_agg ag83 sz83 rfl))) ⟨rfl, e0⟩)
theorem needHeap_ok {F : FootV} {rsl hsl : AVal} {n : Int} {h : AH} (A : FootAt h F rsl hsl) (hl : F.hs.length ≤ 40) :
  Runs Try.prog 44 [.agg (F.cells rsl hsl), .int .i64 n] h (fun en h' => en = (if 0 ≤ n ∧ n ≤ (F.hs.length : Int) - 1 then .ret (.tuple []) else .pan (refusal 2)) ∧ Ext h h') := by
 have hl1 := A.hs.len
 rw [List.length_map] at hl1
 unfold FootV.cells
 by_cases hq : 0 ≤ n ∧ n ≤ (F.hs.length : Int) - 1
 ·rw [if_pos hq]
  have e0 : Ext h h := Ext.refl _
  refine Runs.intro aFunc44 rfl rfl rfl rfl fun rest => ?_;apply gS;refine gR rfl ?_;refine GoR.box rfl rfl rfl rfl rfl rfl fun h0 x0 f0 => ?_;replace e0 := e0.trans x0;apply gE;refine gR rfl ?_;refine gP ?_;refine gO rfl rfl (fa80_4 rfl) rfl ?_;refine gO rfl rfl (ld24 rfl f0 rfl) rfl ?_;refine gO rfl rfl (aOp_lenSlice Try.underlying24 rfl (by assumption)) rfl ?_;refine gO rfl rfl (aS rfl rfl) rfl ?_;refine GoR.call rfl rfl (aCF aFunc83 rfl) (inside_is (r := true) (dt (by omega))) ?_ np;rintro v1 h1 ⟨q, x1⟩;cases q;refine ⟨_, rfl, ?_⟩;replace e0 := e0.trans x1;refine gP ?_;refine GoR.call rfl rfl (aCF aFunc59 rfl) (refuse_no _ _) ?_ np;rintro v2 h2 ⟨q, x2⟩;cases q;refine ⟨_, rfl, ?_⟩;replace e0 := e0.trans x2;apply gE;exact Go.endL (FLeft.ret (v := .tuple []) (aResult_of Try.func44 rfl rfl) ⟨rfl, e0⟩)
 ·rw [if_neg hq]
  have e0 : Ext h h := Ext.refl _
  refine Runs.intro aFunc44 rfl rfl rfl rfl fun rest => ?_;apply gS;refine gR rfl ?_;refine GoR.box rfl rfl rfl rfl rfl rfl fun h0 x0 f0 => ?_;replace e0 := e0.trans x0;apply gE;refine gR rfl ?_;refine gP ?_;refine gO rfl rfl (fa80_4 rfl) rfl ?_;refine gO rfl rfl (ld24 rfl f0 rfl) rfl ?_;refine gO rfl rfl (aOp_lenSlice Try.underlying24 rfl (by assumption)) rfl ?_;refine gO rfl rfl (aS rfl rfl) rfl ?_;refine GoR.call rfl rfl (aCF aFunc83 rfl) (inside_is (r := false) (df (by omega))) ?_ np;rintro v1 h1 ⟨q, x1⟩;cases q;refine ⟨_, rfl, ?_⟩;replace e0 := e0.trans x1;refine gP ?_;refine GoR.callP rfl rfl (aCF aFunc59 rfl) (refuse_yes _ _) (by rintro _ _ ⟨q, _⟩; cases q) ?_;rintro chain h2 ⟨q, x2⟩
  have q := AEnd.pan.inj q
  subst q;replace e0 := e0.trans x2;exact FLeft.pan (⟨rfl, e0⟩)
theorem needOrder_ok {F : FootV} {rsl hsl : AVal} {a b c : Int} {h : AH} (A : FootAt h F rsl hsl) (hl : F.rs.length ≤ 40) :
  Runs Try.prog 45 [.agg (F.cells rsl hsl), .agg [.int .i64 a, .int .i64 b, .int .i64 c]] h (fun en h' => en = (if Pl.Ord F.rs.length ⟨a, b, c⟩ then .ret (.tuple []) else .pan (refusal 2)) ∧ Ext h h') := by
 have hl1 := A.rs.len
 rw [List.length_map] at hl1
 unfold FootV.cells
 by_cases hq : Pl.Ord F.rs.length ⟨a, b, c⟩
 ·rw [if_pos hq]
  have hq2 := decide_eq_true hq
  have hk := fun h => inOrder_ok (a := a) (b := b) (c := c) (n := F.rs.length) (h := h) (by omega)
  rw [hq2] at hk
  have e0 : Ext h h := Ext.refl _
  refine Runs.intro aFunc45 rfl rfl rfl rfl fun rest => ?_;apply gS;refine gR rfl ?_;refine GoR.box rfl rfl rfl rfl rfl rfl fun h0 x0 f0 => ?_;replace e0 := e0.trans x0;refine GoR.box rfl rfl rfl rfl rfl rfl fun h1 x1 f1 => ?_;replace f0 := f0.ext x1;replace e0 := e0.trans x1;apply gE;refine gR rfl ?_;refine gO rfl rfl (ld83 rfl f1 rfl) rfl ?_;refine gO rfl rfl (fa80_0 rfl) rfl ?_;refine gO rfl rfl (ld22 rfl f0 rfl) rfl ?_;refine gO rfl rfl (aOp_lenSlice Try.underlying22 rfl (by assumption)) rfl ?_;refine GoR.call rfl rfl (aCF aFunc84 rfl) (hk _) ?_ np;rintro v2 h2 ⟨q, x2⟩;cases q;refine ⟨_, rfl, ?_⟩;replace e0 := e0.trans x2;refine gP ?_;refine GoR.call rfl rfl (aCF aFunc59 rfl) (refuse_no _ _) ?_ np;rintro v3 h3 ⟨q, x3⟩;cases q;refine ⟨_, rfl, ?_⟩;replace e0 := e0.trans x3;apply gE;exact Go.endL (FLeft.ret (v := .tuple []) (aResult_of Try.func45 rfl rfl) ⟨rfl, e0⟩)
 ·rw [if_neg hq]
  have hq2 := decide_eq_false hq
  have hk := fun h => inOrder_ok (a := a) (b := b) (c := c) (n := F.rs.length) (h := h) (by omega)
  rw [hq2] at hk
  have e0 : Ext h h := Ext.refl _
  refine Runs.intro aFunc45 rfl rfl rfl rfl fun rest => ?_;apply gS;refine gR rfl ?_;refine GoR.box rfl rfl rfl rfl rfl rfl fun h0 x0 f0 => ?_;replace e0 := e0.trans x0;refine GoR.box rfl rfl rfl rfl rfl rfl fun h1 x1 f1 => ?_;replace f0 := f0.ext x1;replace e0 := e0.trans x1;apply gE;refine gR rfl ?_;refine gO rfl rfl (ld83 rfl f1 rfl) rfl ?_;refine gO rfl rfl (fa80_0 rfl) rfl ?_;refine gO rfl rfl (ld22 rfl f0 rfl) rfl ?_;refine gO rfl rfl (aOp_lenSlice Try.underlying22 rfl (by assumption)) rfl ?_;refine GoR.call rfl rfl (aCF aFunc84 rfl) (hk _) ?_ np;rintro v2 h2 ⟨q, x2⟩;cases q;refine ⟨_, rfl, ?_⟩;replace e0 := e0.trans x2;refine gP ?_;refine GoR.callP rfl rfl (aCF aFunc59 rfl) (refuse_yes _ _) (by rintro _ _ ⟨q, _⟩; cases q) ?_;rintro chain h3 ⟨q, x3⟩
  have q := AEnd.pan.inj q
  subst q;replace e0 := e0.trans x3;exact FLeft.pan (⟨rfl, e0⟩)
theorem needDay_ok {F : FootV} {rsl hsl : AVal} {n : Int} {h : AH} (A : FootAt h F rsl hsl) (hl : F.rs.length ≤ 40) :
  Runs Try.prog 46 [.agg (F.cells rsl hsl), .int .i64 n] h (fun en h' => en = (if 0 ≤ n ∧ n ≤ (F.rs.length : Int) then .ret (.tuple []) else .pan (refusal 2)) ∧ Ext h h') := by
 have hl1 := A.rs.len
 rw [List.length_map] at hl1
 unfold FootV.cells
 by_cases hq : 0 ≤ n ∧ n ≤ (F.rs.length : Int)
 ·rw [if_pos hq]
  have e0 : Ext h h := Ext.refl _
  refine Runs.intro aFunc46 rfl rfl rfl rfl fun rest => ?_;apply gS;refine gR rfl ?_;refine GoR.box rfl rfl rfl rfl rfl rfl fun h0 x0 f0 => ?_;replace e0 := e0.trans x0;apply gE;refine gR rfl ?_;refine gP ?_;refine gO rfl rfl (fa80_0 rfl) rfl ?_;refine gO rfl rfl (ld22 rfl f0 rfl) rfl ?_;refine gO rfl rfl (aOp_lenSlice Try.underlying22 rfl (by assumption)) rfl ?_;refine GoR.call rfl rfl (aCF aFunc83 rfl) (inside_is (r := true) (dt (by omega))) ?_ np;rintro v1 h1 ⟨q, x1⟩;cases q;refine ⟨_, rfl, ?_⟩;replace e0 := e0.trans x1;refine gP ?_;refine GoR.call rfl rfl (aCF aFunc59 rfl) (refuse_no _ _) ?_ np;rintro v2 h2 ⟨q, x2⟩;cases q;refine ⟨_, rfl, ?_⟩;replace e0 := e0.trans x2;apply gE;exact Go.endL (FLeft.ret (v := .tuple []) (aResult_of Try.func46 rfl rfl) ⟨rfl, e0⟩)
 ·rw [if_neg hq]
  have e0 : Ext h h := Ext.refl _
  refine Runs.intro aFunc46 rfl rfl rfl rfl fun rest => ?_;apply gS;refine gR rfl ?_;refine GoR.box rfl rfl rfl rfl rfl rfl fun h0 x0 f0 => ?_;replace e0 := e0.trans x0;apply gE;refine gR rfl ?_;refine gP ?_;refine gO rfl rfl (fa80_0 rfl) rfl ?_;refine gO rfl rfl (ld22 rfl f0 rfl) rfl ?_;refine gO rfl rfl (aOp_lenSlice Try.underlying22 rfl (by assumption)) rfl ?_;refine GoR.call rfl rfl (aCF aFunc83 rfl) (inside_is (r := false) (df (by omega))) ?_ np;rintro v1 h1 ⟨q, x1⟩;cases q;refine ⟨_, rfl, ?_⟩;replace e0 := e0.trans x1;refine gP ?_;refine GoR.callP rfl rfl (aCF aFunc59 rfl) (refuse_yes _ _) (by rintro _ _ ⟨q, _⟩; cases q) ?_;rintro chain h2 ⟨q, x2⟩
  have q := AEnd.pan.inj q
  subst q;replace e0 := e0.trans x2;exact FLeft.pan (⟨rfl, e0⟩)
end Go.Proofs.Ytmimdgjehnhnoaa

namespace Go.Proofs.Ytmimdgjehnhnoaa
open Go Go.AbsE
set_option linter.unusedSimpArgs false
set_option maxRecDepth 100000
set_option maxHeartbeats 0
set_option linter.unusedVariables false
def FootV.st (F : FootV) (T : Bool) (i : Nat) : Int := match F.hs[i]? with | some x => if T then x.hi else x.lo | none => 0
def FootV.rn (F : FootV) (T : Bool) (d : Nat) : Int := match F.rs[d]? with | some r => if T then r.2 else r.1 | none => 0
def FootV.dr (F : FootV) (k : Int) : Int := if k = 0 then F.d0 else if k = 1 then F.d1 else F.d2
def FootV.lm (F : FootV) (k : Nat) : Int := match k with | 0 => F.l0 | 1 => F.l1 | _ => F.l2
def truthV (T : Bool) (F : FootV) (rsl hsl : AVal) : AVal := if T then .iface 132 (.agg (F.cells rsl hsl)) else .iface 134 (.agg (F.cells rsl hsl))
def FootV.w (F : FootV) (T : Bool) (i : Nat) (p : Pl) : Nat → Int
 | 0 => F.st T i
 | d + 1 => if doneV p d ≤ 2 then max 0 (F.w T i p d + (F.rn T d - F.dr (doneV p d))) else F.w T i p d
theorem doneV_in (p : Pl) (d : Int) : 0 ≤ doneV p d ∧ doneV p d ≤ 3 := by
 unfold doneV
 split <;> split <;> split <;> omega
theorem st_in {F : FootV} (O : F.Ok) (T : Bool) (i : Nat) : 0 ≤ F.st T i ∧ F.st T i ≤ 60 := by
 unfold FootV.st
 cases q : F.hs[i]? with
 | none => dsimp only; omega
 | some x =>
  have := O.h x (List.mem_of_getElem? q)
  dsimp only
  split <;> omega
theorem rn_in {F : FootV} (O : F.Ok) (T : Bool) (i : Nat) : 0 ≤ F.rn T i ∧ F.rn T i ≤ 10 := by
 unfold FootV.rn
 cases q : F.rs[i]? with
 | none => dsimp only; omega
 | some x =>
  have := O.r x (List.mem_of_getElem? q)
  dsimp only
  split <;> omega
theorem dr_in {F : FootV} (O : F.Ok) (k : Int) : 0 ≤ F.dr k ∧ F.dr k ≤ 10 := by
 have := O.d0
 have := O.d1
 have := O.d2
 unfold FootV.dr
 split
 ·omega
 ·split <;> omega
theorem w_in {F : FootV} (O : F.Ok) (T : Bool) (i : Nat) (p : Pl) : ∀ d : Nat, 0 ≤ F.w T i p d ∧ F.w T i p d ≤ 60 + 10 * d
 | 0 => by
  have := st_in O T i
  show 0 ≤ F.st T i ∧ F.st T i ≤ _
  omega
 | d + 1 => by
  have := w_in O T i p d
  have := rn_in O T d
  have := dr_in O (doneV p d)
  unfold FootV.w
  split <;> omega
theorem wstart_ok {F : FootV} {rsl hsl : AVal} {h : AH} (A : FootAt h F rsl hsl) {i : Nat} (hi : i < F.hs.length) : Runs Try.prog 142 [.agg (F.cells rsl hsl), .int .i64 i] h (fun en h' => en = .ret (.int .i64 (F.st true i)) ∧ Ext h h') := by
 obtain ⟨x, hx⟩ : ∃ x, F.hs[i]? = some x := ⟨F.hs[i], by simp [hi]⟩
 obtain ⟨b, off, q1, q2⟩ := A.hs.at (i := i) (l := HF.cells x) (by rw [List.getElem?_map, hx]; rfl)
 rw [List.length_map] at q1
 unfold FootV.cells FootV.st
 rw [hx]
 unfold HF.cells at q2
 have e0 : Ext h h := Ext.refl _
 refine Runs.intro aFunc142 rfl rfl rfl rfl fun rest => ?_;apply gS;refine gR rfl ?_;refine GoR.box rfl rfl rfl rfl rfl rfl fun h0 x0 f0 => ?_;replace e0 := e0.trans x0;refine gP ?_;apply gE;apply gS;refine gR rfl ?_;refine gO rfl rfl (fa132_0 rfl) rfl ?_;refine gO rfl rfl (fa80_4 rfl) rfl ?_;refine gO rfl rfl (ld24 rfl f0 rfl) rfl ?_;refine gP ?_;refine gO rfl rfl (aOp_indexAddr (i := i) Try.underlying24 sz72 rfl (by assumption) rfl (Nat.ble_eq_true_of_le (by omega))) rfl ?_;refine gO rfl rfl (fa72_0 rfl) rfl ?_;refine gO rfl rfl (fa31_1 rfl) rfl ?_;refine gO rfl rfl (aOp_loadE1 (k := 1) ag3 rfl (q2.ext e0) rfl) rfl ?_;refine gP ?_;apply gE;exact gW Try.func142 rfl rfl ⟨rfl, e0⟩
theorem bstart_ok {F : FootV} {rsl hsl : AVal} {h : AH} (A : FootAt h F rsl hsl) {i : Nat} (hi : i < F.hs.length) : Runs Try.prog 144 [.agg (F.cells rsl hsl), .int .i64 i] h (fun en h' => en = .ret (.int .i64 (F.st false i)) ∧ Ext h h') := by
 obtain ⟨x, hx⟩ : ∃ x, F.hs[i]? = some x := ⟨F.hs[i], by simp [hi]⟩
 obtain ⟨b, off, q1, q2⟩ := A.hs.at (i := i) (l := HF.cells x) (by rw [List.getElem?_map, hx]; rfl)
 rw [List.length_map] at q1
 unfold FootV.cells FootV.st
 rw [hx]
 unfold HF.cells at q2
 have e0 : Ext h h := Ext.refl _
 refine Runs.intro aFunc144 rfl rfl rfl rfl fun rest => ?_;apply gS;refine gR rfl ?_;refine GoR.box rfl rfl rfl rfl rfl rfl fun h0 x0 f0 => ?_;replace e0 := e0.trans x0;refine gP ?_;apply gE;apply gS;refine gR rfl ?_;refine gO rfl rfl (fa134_0 rfl) rfl ?_;refine gO rfl rfl (fa132_0 rfl) rfl ?_;refine gO rfl rfl (fa80_4 rfl) rfl ?_;refine gO rfl rfl (ld24 rfl f0 rfl) rfl ?_;refine gP ?_;refine gO rfl rfl (aOp_indexAddr (i := i) Try.underlying24 sz72 rfl (by assumption) rfl (Nat.ble_eq_true_of_le (by omega))) rfl ?_;refine gO rfl rfl (fa72_0 rfl) rfl ?_;refine gO rfl rfl (fa31_0 rfl) rfl ?_;refine gO rfl rfl (aOp_loadE1 (k := 0) ag3 rfl (q2.ext e0) rfl) rfl ?_;refine gP ?_;apply gE;exact gW Try.func144 rfl rfl ⟨rfl, e0⟩
theorem wrain_ok {F : FootV} {rsl hsl : AVal} {h : AH} (A : FootAt h F rsl hsl) {i : Nat} (hi : i < F.rs.length) : Runs Try.prog 141 [.agg (F.cells rsl hsl), .int .i64 i] h (fun en h' => en = .ret (.int .i64 (F.rn true i)) ∧ Ext h h') := by
 obtain ⟨x, hx⟩ : ∃ x, F.rs[i]? = some x := ⟨F.rs[i], by simp [hi]⟩
 obtain ⟨b, off, q1, q2⟩ := A.rs.at (i := i) (l := spC x) (by rw [List.getElem?_map, hx]; rfl)
 rw [List.length_map] at q1
 unfold FootV.cells FootV.rn
 rw [hx]
 unfold spC at q2
 have e0 : Ext h h := Ext.refl _
 refine Runs.intro aFunc141 rfl rfl rfl rfl fun rest => ?_;apply gS;refine gR rfl ?_;refine GoR.box rfl rfl rfl rfl rfl rfl fun h0 x0 f0 => ?_;replace e0 := e0.trans x0;refine gP ?_;apply gE;apply gS;refine gR rfl ?_;refine gO rfl rfl (fa132_0 rfl) rfl ?_;refine gO rfl rfl (fa80_0 rfl) rfl ?_;refine gO rfl rfl (ld22 rfl f0 rfl) rfl ?_;refine gP ?_;refine gO rfl rfl (aOp_indexAddr (i := i) Try.underlying22 sz31 rfl (by assumption) rfl (Nat.ble_eq_true_of_le (by omega))) rfl ?_;refine gO rfl rfl (fa31_1 rfl) rfl ?_;refine gO rfl rfl (aOp_loadE1 (k := 1) ag3 rfl (q2.ext e0) rfl) rfl ?_;refine gP ?_;apply gE;exact gW Try.func141 rfl rfl ⟨rfl, e0⟩
theorem brain_ok {F : FootV} {rsl hsl : AVal} {h : AH} (A : FootAt h F rsl hsl) {i : Nat} (hi : i < F.rs.length) : Runs Try.prog 143 [.agg (F.cells rsl hsl), .int .i64 i] h (fun en h' => en = .ret (.int .i64 (F.rn false i)) ∧ Ext h h') := by
 obtain ⟨x, hx⟩ : ∃ x, F.rs[i]? = some x := ⟨F.rs[i], by simp [hi]⟩
 obtain ⟨b, off, q1, q2⟩ := A.rs.at (i := i) (l := spC x) (by rw [List.getElem?_map, hx]; rfl)
 rw [List.length_map] at q1
 unfold FootV.cells FootV.rn
 rw [hx]
 unfold spC at q2
 have e0 : Ext h h := Ext.refl _
 refine Runs.intro aFunc143 rfl rfl rfl rfl fun rest => ?_;apply gS;refine gR rfl ?_;refine GoR.box rfl rfl rfl rfl rfl rfl fun h0 x0 f0 => ?_;replace e0 := e0.trans x0;refine gP ?_;apply gE;apply gS;refine gR rfl ?_;refine gO rfl rfl (fa134_0 rfl) rfl ?_;refine gO rfl rfl (fa132_0 rfl) rfl ?_;refine gO rfl rfl (fa80_0 rfl) rfl ?_;refine gO rfl rfl (ld22 rfl f0 rfl) rfl ?_;refine gP ?_;refine gO rfl rfl (aOp_indexAddr (i := i) Try.underlying22 sz31 rfl (by assumption) rfl (Nat.ble_eq_true_of_le (by omega))) rfl ?_;refine gO rfl rfl (fa31_0 rfl) rfl ?_;refine gO rfl rfl (aOp_loadE1 (k := 0) ag3 rfl (q2.ext e0) rfl) rfl ?_;refine gP ?_;apply gE;exact gW Try.func143 rfl rfl ⟨rfl, e0⟩
theorem meth_ws (v : AVal) : aMethod Try.prog 8 132 v "bogworks/foot.start" = some (142, v) := by kernel_rfl
theorem meth_bs (v : AVal) : aMethod Try.prog 8 134 v "bogworks/foot.start" = some (144, v) := by kernel_rfl
theorem meth_wr (v : AVal) : aMethod Try.prog 8 132 v "bogworks/foot.rain" = some (141, v) := by kernel_rfl
theorem meth_br (v : AVal) : aMethod Try.prog 8 134 v "bogworks/foot.rain" = some (143, v) := by kernel_rfl
theorem start_in (F : FootV) (rsl hsl : AVal) (T : Bool) {i : Nat} (hi : i < F.hs.length) : ∃ ff fargs, ∀ h, FootAt h F rsl hsl → aInvokeIface Try.prog (truthV T F rsl hsl) "bogworks/foot.start" [.int .i64 i] h = some (.enter ff fargs h) ∧ Runs Try.prog ff fargs h (fun en h' => en = .ret (.int .i64 (F.st T i)) ∧ Ext h h') := by
 cases T with
 | true =>
  exact ⟨142, [.agg (F.cells rsl hsl), .int .i64 i], fun h A => ⟨aInvoke_of (meth_ws _) aFunc142, wstart_ok A hi⟩⟩
 | false =>
  exact ⟨144, [.agg (F.cells rsl hsl), .int .i64 i], fun h A => ⟨aInvoke_of (meth_bs _) aFunc144, bstart_ok A hi⟩⟩
theorem rain_in (F : FootV) (rsl hsl : AVal) (T : Bool) {i : Nat} (hi : i < F.rs.length) : ∃ ff fargs, ∀ h, FootAt h F rsl hsl → aInvokeIface Try.prog (truthV T F rsl hsl) "bogworks/foot.rain" [.int .i64 i] h = some (.enter ff fargs h) ∧ Runs Try.prog ff fargs h (fun en h' => en = .ret (.int .i64 (F.rn T i)) ∧ Ext h h') := by
 cases T with
 | true =>
  exact ⟨141, [.agg (F.cells rsl hsl), .int .i64 i], fun h A => ⟨aInvoke_of (meth_wr _) aFunc141, wrain_ok A hi⟩⟩
 | false =>
  exact ⟨143, [.agg (F.cells rsl hsl), .int .i64 i], fun h A => ⟨aInvoke_of (meth_br _) aFunc143, brain_ok A hi⟩⟩
theorem worst_ok {F : FootV} {rsl hsl : AVal} {h : AH} : Runs Try.prog 58 [.agg (F.cells rsl hsl)] h (fun en h' => en = .ret (truthV true F rsl hsl) ∧ Ext h h') := by
 unfold FootV.cells
 have e0 : Ext h h := Ext.refl _
 refine Runs.intro aFunc58 rfl rfl rfl rfl fun rest => ?_;apply gS;refine gR rfl ?_;refine GoR.box rfl rfl rfl rfl rfl rfl fun h0 x0 f0 => ?_;replace e0 := e0.trans x0;refine gP ?_;apply gE;apply gS;refine gR rfl ?_;refine gO rfl rfl (ld80 rfl f0 rfl) rfl ?_;refine gO rfl rfl (aOp_build zt132 hu132 pl132 rfl rfl) rfl ?_;iterate 2 refine gP ?_
 apply gE;exact gW Try.func58 rfl rfl ⟨rfl, e0⟩
theorem best_ok {F : FootV} {rsl hsl : AVal} {h : AH} : Runs Try.prog 63 [.agg (F.cells rsl hsl)] h (fun en h' => en = .ret (truthV false F rsl hsl) ∧ Ext h h') := by
 unfold FootV.cells
 have e0 : Ext h h := Ext.refl _
 refine Runs.intro aFunc63 rfl rfl rfl rfl fun rest => ?_;apply gS;refine gR rfl ?_;refine GoR.box rfl rfl rfl rfl rfl rfl fun h0 x0 f0 => ?_;replace e0 := e0.trans x0;refine gP ?_;apply gE;apply gS;refine gR rfl ?_;refine gO rfl rfl (ld80 rfl f0 rfl) rfl ?_;refine gO rfl rfl (aOp_build zt132 hu132 pl132 rfl rfl) rfl ?_;refine gO rfl rfl (aOp_build zt134 hu134 pl134 rfl rfl) rfl ?_;iterate 2 refine gP ?_
 apply gE;exact gW Try.func63 rfl rfl ⟨rfl, e0⟩
end Go.Proofs.Ytmimdgjehnhnoaa
