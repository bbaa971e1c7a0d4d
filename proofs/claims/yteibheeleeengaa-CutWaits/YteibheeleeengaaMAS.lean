import Derived.Test.YteibheeleeengaaMAR
import Derived.Test.YteibheeleeengaaMAG
import Derived.Deep.Slices
import Derived.Lib.SmallJoins
import Derived.Carry
import Derived.Test.YteibheeleeengaaMAK
import Derived.Laws.IdiomArrays
import Derived.Test.YteibheeleeengaaRows
import Derived.WalkKit
import Derived.ProofKit
import Derived.OpenShut
namespace Go.Proofs.Yteibheeleeengaa
open Go Go.AbsE
set_option linter.unusedSimpArgs false
set_option maxRecDepth 100000
set_option maxHeartbeats 0
set_option linter.unusedVariables false
theorem find_upto {p : Int → Bool} {a b : Int} : (∀ u, (upto a b).find? p = some u → a ≤ u ∧ u ≤ b ∧ p u = true ∧ ∀ k, a ≤ k → k < u → p k = false) ∧ ((upto a b).find? p = none → ∀ k, a ≤ k → k ≤ b → p k = false) := by
 constructor
 ·intro u h
  obtain ⟨h1, l1, l2, h2, h3⟩ := List.find?_eq_some_iff_append.1 h
  have hm := mem_upto.1 (h2 ▸ List.mem_append_right _ List.mem_cons_self : u ∈ upto a b)
  refine ⟨hm.1, hm.2, h1, fun k hk1 hk2 => ?_⟩
  have hk : k ∈ upto a b := mem_upto.2 ⟨hk1, by omega⟩
  rw [h2] at hk
  rcases List.mem_append.1 hk with q | q
  ·simpa using h3 k q
  ·exfalso
   have hj : (upto a b)[l1.length]? = some u := by rw [h2]; simp
   obtain ⟨j, hj1⟩ := List.mem_iff_getElem?.1 q
   have hk3 : (upto a b)[l1.length + j]? = some k := by
    rw [h2, List.getElem?_append_right (by omega), Nat.add_sub_cancel_left];exact hj1
   have e1 := (upto_at hj).1
   have e2 := (upto_at hk3).1
   omega
 ·intro h k hk1 hk2
  have := List.find?_eq_none.1 h k (mem_upto.2 ⟨hk1, hk2⟩)
  simpa using this
theorem togetherR_is {C : CutV} (O : C.Ok) {d : Nat} (hd : d ≤ C.rs.length) : C.togetherR (d : Nat) = C.tr (C.togetherV d) 0 := by
 unfold CutV.togetherR
 rw [CutV.ok_yes O, CutV.day_yes (by omega), Int.toNat_natCast]
theorem untilR_is {C : CutV} (O : C.Ok) {i : Nat} {x : BV} (hx : C.bs[i]? = some x) {n : Int} (hn : 0 ≤ n ∧ n ≤ x.room) {d : Nat} (hd : d ≤ C.rs.length) : C.untilR (i : Nat) n (d : Nat) = C.untilQ (x.needs n) (d : Nat) := by
 unfold CutV.untilR
 rw [CutV.ok_yes O, CutV.boat_yes hx, load_yes hn, CutV.day_yes (by omega)]
theorem untilQ_some {C : CutV} (hT : C.truths ≠ []) {N : Int × Int} {d u : Int} (h : C.untilV N d = some u) : C.untilQ N d = (u, 0) := by
 unfold CutV.untilQ
 rw [if_pos hT, h]
theorem untilQ_none {C : CutV} (hT : C.truths ≠ []) {N : Int × Int} {d : Int} (h : C.untilV N d = none) : C.untilQ N d = (0, 4) := by
 unfold CutV.untilQ
 rw [if_pos hT, h]
theorem law6_bad {C : CutV} {r b l : AVal} {h : AH} (A : CutAt h C r b l) (hb : C.rs.length < 9223372036854775808 ∧ C.bs.length < 9223372036854775808 ∧ C.ls.length < 9223372036854775808) {w1 w2 w3 w4 : Int} (O : ¬ C.Ok) : Runs Try.prog 6 [.agg (C.cells r b l), .int .u8 w1, .int .u8 w2, .int .u8 w3, .int .u8 w4] h (fun en h' => en = .ret (.bool true) ∧ Ext h h') := by
 have hF := fun {h'} (e : Ext h h') => fine_ok (A.ext e) hb
 rw [decide_eq_false O] at hF
 have hsm := A.same
 unfold CutV.cells at *
 have e0 : Ext h h := Ext.refl _
 refine Runs.intro aFunc6 rfl rfl rfl rfl fun rest => ?_;apply gS;refine gR rfl ?_;refine GoR.box rfl rfl rfl rfl rfl rfl fun h0 x0 f0 => ?_;replace e0 := e0.trans x0;refine gP ?_;apply gE;iterate 2 apply gS
 refine gR rfl ?_;refine gO rfl rfl (ld28 rfl f0 rfl) rfl ?_;refine GoR.call rfl rfl (aCF aFunc10 rfl) (hF e0) ?_ np;rintro v1 h1 ⟨q, x1⟩;cases q;refine ⟨_, rfl, ?_⟩;replace e0 := e0.trans x1;refine gP ?_;apply gE;refine gC (b := true) rfl ?_;apply gS;refine gR rfl ?_;refine GoR.call rfl rfl (aCF aFunc11 rfl) (awake_ok) ?_ np;rintro v2 h2 ⟨q, x2⟩;cases q;refine ⟨_, rfl, ?_⟩;replace e0 := e0.trans x2;refine gP ?_;apply gE;exact gW Try.func6 rfl rfl ⟨rfl, e0⟩
theorem law6_ok {C : CutV} {r b l : AVal} {h : AH} (A : CutAt h C r b l) (O : C.Ok) {a1 a2 a3 a4 : Nat} (h1 : a1 < 256) (h2 : a2 < 256) (h3 : a3 < 256) (h4 : a4 < 256) : Runs Try.prog 6 [.agg (C.cells r b l), .int .u8 (a1 : Nat), .int .u8 (a2 : Nat), .int .u8 (a3 : Nat), .int .u8 (a4 : Nat)] h (fun en h' => en = .ret (.bool true) ∧ Ext h h') := by
 have hnr := O.nr
 have hnb := O.nb
 have hnl := O.nl
 have hF := fun {h'} (e : Ext h h') => fine_ok (A.ext e) (by omega)
 rw [decide_eq_true O] at hF
 have hl1 := A.rs.len
 have hl2 := A.bs.len
 rw [List.length_map] at hl1 hl2
 obtain ⟨d, hd⟩ : ∃ d, a3 % (C.rs.length + 1) = d := ⟨_, rfl⟩
 have hdl : d ≤ C.rs.length := by have := Nat.mod_lt a3 (y := C.rs.length + 1) (by omega); omega
 have hTo := fun {h'} (e : Ext h h') => Together_ok (A.ext e) (by omega) (by omega) (by omega) (d : Nat)
 have hLo := fun {h'} (e : Ext h h') (j : Nat) => Loads_ok (A.ext e) (by omega) (by omega) (by omega) (j : Nat) (d : Nat)
 have hUn := fun {h'} (e : Ext h h') i n d => Until_ok (A.ext e) (by omega) (by omega) (by omega) i n d
 have hDy := fun {h'} (e : Ext h h') i n => Days_ok (A.ext e) (by omega) (by omega) (by omega) i n
 rw [togetherR_is O hdl] at hTo
 have hsm := A.same
 by_cases hT : C.truths = []
 ·rw [CutV.tr_no hT] at hTo
  unfold CutV.cells at *
  have e0 : Ext h h := Ext.refl _
  refine Runs.intro aFunc6 rfl rfl rfl rfl fun rest => ?_;apply gS;refine gR rfl ?_;refine GoR.box rfl rfl rfl rfl rfl rfl fun h5 x5 f5 => ?_;have := e0.1;replace e0 := e0.trans x5;have := f5.1;refine gP ?_;apply gE;iterate 2 apply gS
  refine gR rfl ?_;refine gO rfl rfl (ld28 rfl f5 rfl) rfl ?_;refine GoR.call rfl rfl (aCF aFunc10 rfl) (hF e0) ?_ np;rintro v6 h6 ⟨q, x6⟩;cases q;refine ⟨_, rfl, ?_⟩;replace f5 := f5.ext x6;replace e0 := e0.trans x6;refine gP ?_;apply gE;refine gC (b := false) rfl ?_;refine gD ?_;apply gS;refine gR rfl ?_;refine gP ?_;refine gO rfl rfl (aOp_convU8 rfl Try.underlying5 Try.underlying3 (by omega)) rfl ?_;refine gO rfl rfl (fa28_2 rfl) rfl ?_;refine gO rfl rfl (ld24 rfl f5 rfl) rfl ?_;refine gO rfl rfl (aOp_lenSlice Try.underlying24 rfl hl1) rfl ?_;refine gO rfl rfl (aA rfl rfl) rfl ?_;refine gO rfl rfl (aOp_rem (r := ((d : Nat) : Int)) rfl rfl (by omega) (by rw [← hd]; rfl)) rfl ?_;refine gP ?_;apply gE;apply gS;refine gR rfl ?_;refine gO rfl rfl (ld28 rfl f5 rfl) rfl ?_;refine gP ?_;refine GoR.call rfl rfl (aCF aFunc23 rfl) (hTo e0) ?_ np;rintro v7 h7 ⟨q, x7⟩;cases q;refine ⟨_, rfl, ?_⟩;replace f5 := f5.ext x7;replace e0 := e0.trans x7;iterate 5 refine gP ?_
  apply gE;apply gS;refine gR rfl ?_;refine gP ?_;apply gE;iterate 2 apply gS
  refine gR rfl ?_;refine gO rfl rfl (fa28_4 rfl) rfl ?_;refine gO rfl rfl (ld25 rfl f5 rfl) rfl ?_;refine gO rfl rfl (aOp_lenSlice Try.underlying25 rfl hl2) rfl ?_;refine gP ?_;apply gE;refine Go.block noJ_ok ?_;refine Go.loopKeep (fun i : Nat => [(5, .ptr h.next 0), (11, .int .i64 (d : Nat)), (12, .int .i64 0), (13, .int .i64 10), (14, .int .i64 0), (48, .int .i64 C.bs.length), (49, .int .i64 (i : Nat))]) (fun m i h' => m + i = C.bs.length ∧ Ext h h' ∧ Has h' h.next (.cells .plain [.int .i64 C.dl, .int .i64 C.dh, .int .i64 C.kl, .int .i64 C.kh, r, .int .i64 C.most, b, l] 28)) (n := C.bs.length) 0 ⟨rfl, rfl, rfl, rfl, rfl, rfl, rfl, trivial⟩ ⟨rfl, e0, f5⟩ ?_;clear e0 f5;rintro m i hcc ⟨hm, e0, f5⟩ again
  have hce := e0.1
  have hb0 := f5.1
  by_cases hi : i < C.bs.length
  ·obtain ⟨x, hx⟩ : ∃ x, C.bs[i]? = some x := ⟨C.bs[i]'(by omega), by simp⟩
   have hLi := fun {h'} (e : Ext h h') => hLo e i
   rw [loadsR_is O hx hdl, CutV.tr_no hT] at hLi
   unfold zSp at hLi
   dsimp only at hLi
   apply gS;refine gR rfl ?_;refine gO rfl rfl (kLT rfl rfl) rfl ?_;apply gE;apply gS;refine gC (b := true) rfl ?_;refine gD ?_;apply gS;refine Go.block noJ_ok ?_;apply gS;refine gR rfl ?_;iterate 2 refine gP ?_
   apply gE;apply gS;refine gR rfl ?_;refine gO rfl rfl (ld28 rfl f5 rfl) rfl ?_;iterate 2 refine gP ?_
   refine GoR.call rfl rfl (aCF aFunc26 rfl) (hLi e0) ?_ np;rintro v8 h8 ⟨q, x8⟩;cases q;refine ⟨_, rfl, ?_⟩;replace f5 := f5.ext x8;replace e0 := e0.trans x8;iterate 7 refine gP ?_
   apply gE;iterate 2 apply gS
   refine gR rfl ?_;iterate 2 refine gP ?_
   refine gO rfl rfl (kXF rfl rfl) rfl ?_;apply gE;refine gC (b := false) rfl ?_;refine gD ?_;refine gR rfl ?_;iterate 2 refine gP ?_
   refine gO rfl rfl (aOp_max2 rfl rfl (r := 0) (by decide)) rfl ?_;refine gO rfl rfl (aA rfl rfl) rfl ?_;refine gP ?_;apply gE;refine Go.inBlock noJ_ok ?_;refine gR rfl ?_;refine gO rfl rfl (aA rfl rfl) rfl ?_;refine gP ?_;apply gE;exact again (m - 1) (i + 1) _ _ (by omega) ⟨rfl, rfl, rfl, rfl, rfl, rfl, rfl, trivial⟩ ⟨by omega, e0, f5⟩
  ·apply gS;refine gR rfl ?_;refine gO rfl rfl (kLF rfl rfl) rfl ?_;apply gE;apply gS;refine gC (b := false) rfl ?_;refine gD ?_;iterate 2 apply gS
   refine gR rfl ?_;refine gP ?_;refine gO rfl rfl (kXT rfl rfl) rfl ?_;apply gE;refine gC (b := true) rfl ?_;apply gS;refine gR rfl ?_;refine gP ?_;refine gO rfl rfl (kET rfl rfl) rfl ?_;iterate 2 refine gP ?_
   refine gO rfl rfl (kET rfl rfl) rfl ?_;iterate 2 refine gP ?_
   refine GoR.call rfl rfl (aCF aFunc11 rfl) (awake_ok) ?_ np;rintro v8 h8 ⟨q, x8⟩;cases q;refine ⟨_, rfl, ?_⟩;replace e0 := e0.trans x8;iterate 2 refine gP ?_
   apply gE;exact gW Try.func6 rfl rfl ⟨rfl, e0⟩
 ·rw [CutV.tr_yes hT] at hTo
  dsimp only at hTo
  obtain ⟨T, hTT⟩ : ∃ T, C.togetherV d = T := ⟨_, rfl⟩
  rw [hTT] at hTo
  unfold CutV.togetherV at hTT
  obtain ⟨F, hFF⟩ : ∃ F : Int → BV → Int, F = fun s x => s + max 0 (mostV x (surelyV (C.at d))) := ⟨_, rfl⟩
  rw [← hFF] at hTT
  unfold CutV.cells at *
  have e0 : Ext h h := Ext.refl _
  refine Runs.intro aFunc6 rfl rfl rfl rfl fun rest => ?_;apply gS;refine gR rfl ?_;refine GoR.box rfl rfl rfl rfl rfl rfl fun h5 x5 f5 => ?_;have := e0.1;replace e0 := e0.trans x5;have := f5.1;refine gP ?_;apply gE;iterate 2 apply gS
  refine gR rfl ?_;refine gO rfl rfl (ld28 rfl f5 rfl) rfl ?_;refine GoR.call rfl rfl (aCF aFunc10 rfl) (hF e0) ?_ np;rintro v6 h6 ⟨q, x6⟩;cases q;refine ⟨_, rfl, ?_⟩;replace f5 := f5.ext x6;replace e0 := e0.trans x6;refine gP ?_;apply gE;refine gC (b := false) rfl ?_;refine gD ?_;apply gS;refine gR rfl ?_;refine gP ?_;refine gO rfl rfl (aOp_convU8 rfl Try.underlying5 Try.underlying3 (by omega)) rfl ?_;refine gO rfl rfl (fa28_2 rfl) rfl ?_;refine gO rfl rfl (ld24 rfl f5 rfl) rfl ?_;refine gO rfl rfl (aOp_lenSlice Try.underlying24 rfl hl1) rfl ?_;refine gO rfl rfl (aA rfl rfl) rfl ?_;refine gO rfl rfl (aOp_rem (r := ((d : Nat) : Int)) rfl rfl (by omega) (by rw [← hd]; rfl)) rfl ?_;refine gP ?_;apply gE;apply gS;refine gR rfl ?_;refine gO rfl rfl (ld28 rfl f5 rfl) rfl ?_;refine gP ?_;refine GoR.call rfl rfl (aCF aFunc23 rfl) (hTo e0) ?_ np;rintro v7 h7 ⟨q, x7⟩;cases q;refine ⟨_, rfl, ?_⟩;replace f5 := f5.ext x7;replace e0 := e0.trans x7;iterate 5 refine gP ?_
  apply gE;apply gS;refine gR rfl ?_;refine gP ?_;apply gE;iterate 2 apply gS
  refine gR rfl ?_;refine gO rfl rfl (fa28_4 rfl) rfl ?_;refine gO rfl rfl (ld25 rfl f5 rfl) rfl ?_;refine gO rfl rfl (aOp_lenSlice Try.underlying25 rfl hl2) rfl ?_;refine gP ?_;apply gE;refine Go.block noJ_ok ?_;refine Go.loopKeep (fun a : Nat × Int => [(1, .int .u8 (a1 : Nat)), (2, .int .u8 (a2 : Nat)), (4, .int .u8 (a4 : Nat)), (5, .ptr h.next 0), (11, .int .i64 (d : Nat)), (12, .int .i64 T), (13, .int .i64 0), (14, .int .i64 a.2), (48, .int .i64 C.bs.length), (49, .int .i64 (a.1 : Nat))]) (fun m a h' => m + a.1 = C.bs.length ∧ Ext h h' ∧ Has h' h.next (.cells .plain [.int .i64 C.dl, .int .i64 C.dh, .int .i64 C.kl, .int .i64 C.kh, r, .int .i64 C.most, b, l] 28) ∧ a.2 = (C.bs.take a.1).foldl F 0 ∧ 0 ≤ a.2 ∧ a.2 ≤ 10 * a.1) (n := C.bs.length) (0, 0) ⟨rfl, rfl, rfl, rfl, rfl, rfl, rfl, rfl, rfl, rfl, trivial⟩ ⟨rfl, e0, f5, rfl, by decide, by decide⟩ ?_;clear e0 f5;rintro m ⟨i, S⟩ hcc ⟨hm, e0, f5, hS, hS0, hS1⟩ again
  dsimp only at hm hS hS0 hS1
  have hce := e0.1
  have hb0 := f5.1
  by_cases hi : i < C.bs.length
  ·obtain ⟨x, hx⟩ : ∃ x, C.bs[i]? = some x := ⟨C.bs[i]'(by omega), by simp⟩
   have hLi := fun {h'} (e : Ext h h') => hLo e i
   rw [loadsR_is O hx hdl, CutV.tr_yes hT] at hLi
   dsimp only at hLi
   have hxO := O.b x (List.mem_of_getElem? hx)
   have hro := hxO.2.2
   have mi := most_in (x := x) (su := surelyV (C.at d))
   have hnx : (C.bs.take (i + 1)).foldl F 0 = S + max 0 (mostV x (surelyV (C.at d))) := by
    rw [List.take_add_one, hx, Option.toList_some, List.foldl_append, ← hS, hFF]
    rfl
   obtain ⟨M, hM⟩ : ∃ M, mostV x (surelyV (C.at d)) = M := ⟨_, rfl⟩
   rw [hM] at mi hnx hLi
   have hm0 : 0 ≤ max 0 M ∧ max 0 M ≤ 10 := by omega
   apply gS;refine gR rfl ?_;refine gO rfl rfl (kLT rfl rfl) rfl ?_;apply gE;apply gS;refine gC (b := true) rfl ?_;refine gD ?_;apply gS;refine Go.block noJ_ok ?_;apply gS;refine gR rfl ?_;iterate 2 refine gP ?_
   apply gE;apply gS;refine gR rfl ?_;refine gO rfl rfl (ld28 rfl f5 rfl) rfl ?_;iterate 2 refine gP ?_
   refine GoR.call rfl rfl (aCF aFunc26 rfl) (hLi e0) ?_ np;rintro v8 h8 ⟨q, x8⟩;cases q;refine ⟨_, rfl, ?_⟩;replace f5 := f5.ext x8;replace e0 := e0.trans x8;iterate 7 refine gP ?_
   apply gE;iterate 2 apply gS
   refine gR rfl ?_;iterate 2 refine gP ?_
   refine gO rfl rfl (kXF rfl rfl) rfl ?_;apply gE;refine gC (b := false) rfl ?_;refine gD ?_;refine gR rfl ?_;iterate 2 refine gP ?_
   refine gO rfl rfl (aOp_max2 rfl rfl (r := max 0 M) (by split <;> omega)) rfl ?_;refine gO rfl rfl (aA rfl rfl) rfl ?_;refine gP ?_;apply gE;refine Go.inBlock noJ_ok ?_;refine gR rfl ?_;refine gO rfl rfl (aA rfl rfl) rfl ?_;refine gP ?_;apply gE;exact again (m - 1) (i + 1, S + max 0 M) _ _ (by omega) ⟨rfl, rfl, rfl, rfl, rfl, rfl, rfl, rfl, rfl, rfl, trivial⟩ ⟨by dsimp only; omega, e0, f5, hnx.symm, by dsimp only; omega, by dsimp only; omega⟩
  ·have hST : S = T := by rw [hS, List.take_of_length_le (by omega), hTT]
   subst hST;clear again
   by_cases hne : C.bs.length = 0
   ·apply gS;refine gR rfl ?_;refine gO rfl rfl (kLF rfl rfl) rfl ?_;apply gE;apply gS;refine gC (b := false) rfl ?_;refine gD ?_;iterate 2 apply gS
    refine gR rfl ?_;refine gP ?_;refine gO rfl rfl (kXF rfl rfl) rfl ?_;apply gE;refine gC (b := false) rfl ?_;refine gD ?_;iterate 2 apply gS
    refine gR rfl ?_;iterate 2 refine gP ?_
    refine gO rfl rfl (kXF rfl rfl) rfl ?_;apply gE;refine gC (b := false) rfl ?_;refine gD ?_;iterate 2 apply gS
    refine gR rfl ?_;refine gO rfl rfl (fa28_4 rfl) rfl ?_;refine gO rfl rfl (ld25 rfl f5 rfl) rfl ?_;refine gO rfl rfl (aOp_lenSlice Try.underlying25 rfl hl2) rfl ?_;refine gO rfl rfl (kET rfl rfl) rfl ?_;apply gE;refine gC (b := true) rfl ?_;apply gS;refine gR rfl ?_;refine GoR.call rfl rfl (aCF aFunc11 rfl) (awake_ok) ?_ np;rintro v8 h8 ⟨q, x8⟩;cases q;refine ⟨_, rfl, ?_⟩;replace e0 := e0.trans x8;refine gP ?_;apply gE;exact gW Try.func6 rfl rfl ⟨rfl, e0⟩
   ·obtain ⟨i1, hi1⟩ : ∃ i, a1 % C.bs.length = i := ⟨_, rfl⟩
    have hil : i1 < C.bs.length := by rw [← hi1]; exact Nat.mod_lt _ (by omega)
    obtain ⟨x, hx⟩ : ∃ x, C.bs[i1]? = some x := ⟨C.bs[i1]'(by omega), by simp⟩
    have hxO := O.b x (List.mem_of_getElem? hx)
    have hro := hxO.2.2
    obtain ⟨bq, off, u1, u2⟩ := A.bs.at (i := i1) (l := x.cells) (by rw [List.getElem?_map, hx]; rfl)
    rw [List.length_map] at u1
    unfold BV.cells at u2
    obtain ⟨R, hR⟩ : ∃ R : Nat, x.room = R := ⟨x.room.toNat, by omega⟩
    obtain ⟨n, hn⟩ : ∃ n, a2 % (R + 1) = n := ⟨_, rfl⟩
    have hnR : n ≤ R := by have := Nat.mod_lt a2 (y := R + 1) (by omega); omega
    have hnn : 0 ≤ (n : Int) ∧ (n : Int) ≤ x.room := by omega
    obtain ⟨q4, hq4⟩ : ∃ q, a4 % 4 = q := ⟨_, rfl⟩
    have hq4l : q4 < 4 := by omega
    obtain ⟨d0, hd0⟩ : ∃ d0 : Nat, d - q4 = d0 := ⟨_, rfl⟩
    have hmx : (if (0 : Int) < (d : Int) - (q4 : Nat) then (d : Int) - (q4 : Nat) else 0) = (d0 : Nat) := by split <;> omega
    have hU1 := fun {h'} (e : Ext h h') => hUn e (i1 : Nat) (n : Nat) (d : Nat)
    have hU2 := fun {h'} (e : Ext h h') => hUn e (i1 : Nat) (n : Nat) (d0 : Nat)
    have hD1 := fun {h'} (e : Ext h h') => hDy e (i1 : Nat) (n : Nat)
    rw [untilR_is O hx hnn hdl] at hU1;rw [untilR_is O hx hnn (by omega)] at hU2;rw [daysR_is O hx hnn, CutV.tr_yes hT] at hD1
    dsimp only at hD1
    have tk := fun (k : Nat) (hk : k ≤ C.rs.length) => bits_shr (n := C.rs.length + 1) (p := fun d => surelyV (C.at d) (x.needs (n : Int))) (i := k) (by omega)
    obtain ⟨b1, hb1⟩ : ∃ q, C.bits surelyV (x.needs (n : Int)) = q := ⟨_, rfl⟩
    rw [hb1] at hD1;rw [show (bitsV (C.rs.length + 1) fun d => surelyV (C.at d) (x.needs (n : Int))) = b1 from hb1] at tk
    have fu := find_upto (p := fun d => surelyV (C.at d.toNat) (x.needs (n : Int))) (a := (d : Int)) (b := C.rs.length)
    have fu0 := find_upto (p := fun d => surelyV (C.at d.toNat) (x.needs (n : Int))) (a := (d0 : Int)) (b := C.rs.length)
    cases hv : C.untilV (x.needs (n : Int)) (d : Nat) with
    | some u =>
     obtain ⟨p1, p2, p3, p4⟩ := fu.1 u hv
     obtain ⟨u0, hv0, hu0⟩ : ∃ u0, C.untilV (x.needs (n : Int)) (d0 : Nat) = some u0 ∧ u0 ≤ u := by
      cases hv0 : C.untilV (x.needs (n : Int)) (d0 : Nat) with
      | none => have := fu0.2 hv0 u (by omega) p2; rw [p3] at this; cases this
      | some u0 =>
       refine ⟨u0, rfl, ?_⟩
       obtain ⟨_, _, _, g4⟩ := fu0.1 u0 hv0
       refine Int.not_lt.1 fun q => ?_
       have := g4 u (by omega) q
       rw [p3] at this;cases this
     rw [untilQ_some hT hv] at hU1;rw [untilQ_some hT hv0] at hU2
     dsimp only at hU1 hU2
     obtain ⟨U, rfl⟩ := Int.eq_ofNat_of_zero_le (show 0 ≤ u by omega)
     apply gS;refine gR rfl ?_;refine gO rfl rfl (kLF rfl rfl) rfl ?_;apply gE;apply gS;refine gC (b := false) rfl ?_;refine gD ?_;iterate 2 apply gS
     refine gR rfl ?_;refine gP ?_;refine gO rfl rfl (kXF rfl rfl) rfl ?_;apply gE;refine gC (b := false) rfl ?_;refine gD ?_;iterate 2 apply gS
     refine gR rfl ?_;iterate 2 refine gP ?_
     refine gO rfl rfl (kXF rfl rfl) rfl ?_;apply gE;refine gC (b := false) rfl ?_;refine gD ?_;iterate 2 apply gS
     refine gR rfl ?_;refine gO rfl rfl (fa28_4 rfl) rfl ?_;refine gO rfl rfl (ld25 rfl f5 rfl) rfl ?_;refine gO rfl rfl (aOp_lenSlice Try.underlying25 rfl hl2) rfl ?_;refine gO rfl rfl (kEF rfl rfl) rfl ?_;apply gE;refine gC (b := false) rfl ?_;refine gD ?_;apply gS;refine gR rfl ?_;refine gP ?_;refine gO rfl rfl (aOp_convU8 rfl Try.underlying5 Try.underlying3 (by omega)) rfl ?_;refine gO rfl rfl (fa28_4 rfl) rfl ?_;refine gO rfl rfl (ld25 rfl f5 rfl) rfl ?_;refine gO rfl rfl (aOp_lenSlice Try.underlying25 rfl hl2) rfl ?_;refine gO rfl rfl (aOp_rem (r := ((i1 : Nat) : Int)) rfl rfl (by omega) (by rw [← hi1]; rfl)) rfl ?_;refine gP ?_;apply gE;apply gS;refine gR rfl ?_;refine gP ?_;refine gO rfl rfl (aOp_convU8 rfl Try.underlying5 Try.underlying3 (by omega)) rfl ?_;refine gO rfl rfl (fa28_4 rfl) rfl ?_;refine gO rfl rfl (ld25 rfl f5 rfl) rfl ?_;refine gP ?_;refine gO rfl rfl (aOp_indexAddr (i := i1) Try.underlying25 sz45 rfl (by assumption) rfl (Nat.ble_eq_true_of_le (by omega))) rfl ?_;refine gO rfl rfl (fa45_2 rfl) rfl ?_;refine gO rfl rfl (aOp_loadE1 (k := 3) ag3 rfl (u2.ext (by assumption)) rfl) rfl ?_;refine gO rfl rfl (aA rfl rfl) rfl ?_;refine gO rfl rfl (aOp_rem (r := ((n : Nat) : Int)) rfl rfl (by omega) (by rw [hR, ← hn]; rfl)) rfl ?_;refine gP ?_;apply gE;apply gS;refine gR rfl ?_;refine gO rfl rfl (ld28 rfl f5 rfl) rfl ?_;iterate 3 refine gP ?_
     refine GoR.call rfl rfl (aCF aFunc19 rfl) (hU1 e0) ?_ np;rintro v8 h8 ⟨q, x8⟩;cases q;refine ⟨_, rfl, ?_⟩;replace f5 := f5.ext x8;replace e0 := e0.trans x8;iterate 5 refine gP ?_
     apply gE;apply gS;refine gR rfl ?_;refine gO rfl rfl (ld28 rfl f5 rfl) rfl ?_;iterate 4 refine gP ?_
     refine gO rfl rfl (aOp_convU8 rfl Try.underlying5 Try.underlying3 (by omega)) rfl ?_;refine gO rfl rfl (aOp_rem (r := ((q4 : Nat) : Int)) rfl rfl (by omega) (by rw [← hq4]; rfl)) rfl ?_;refine gO rfl rfl (aS rfl rfl) rfl ?_;refine gO rfl rfl (aOp_max2 rfl rfl hmx) rfl ?_;refine GoR.call rfl rfl (aCF aFunc19 rfl) (hU2 e0) ?_ np;rintro v9 h9 ⟨q, x9⟩;cases q;refine ⟨_, rfl, ?_⟩;replace f5 := f5.ext x9;replace e0 := e0.trans x9;iterate 5 refine gP ?_
     apply gE;apply gS;refine gR rfl ?_;refine gO rfl rfl (ld28 rfl f5 rfl) rfl ?_;iterate 2 refine gP ?_
     refine GoR.call rfl rfl (aCF aFunc18 rfl) (hD1 e0) ?_ np;rintro v10 h10 ⟨q, x10⟩;cases q;refine ⟨_, rfl, ?_⟩;replace f5 := f5.ext x10;replace e0 := e0.trans x10;iterate 7 refine gP ?_
     apply gE;iterate 2 apply gS
     refine gR rfl ?_;refine gP ?_;refine gO rfl rfl (kXF rfl rfl) rfl ?_;iterate 2 refine gP ?_
     refine gO rfl rfl (kXF rfl rfl) rfl ?_;refine gP ?_;iterate 6 refine GoR.skip rfl rfl rfl ?_
     iterate 4 refine gP ?_
     refine gO rfl rfl (kET rfl rfl) rfl ?_;iterate 2 refine gP ?_
     refine gO rfl rfl (kXF rfl rfl) rfl ?_;iterate 3 refine gP ?_
     refine gO rfl rfl (kGF rfl rfl) rfl ?_;iterate 3 refine gP ?_
     apply gE;refine gC (b := false) rfl ?_;refine gD ?_;iterate 2 apply gS
     refine gR rfl ?_;iterate 2 refine gP ?_
     apply gE;refine Go.block noJ_ok ?_;refine Go.loopKeep (fun k : Nat => [(5, .ptr h.next 0), (21, .int .i64 (U : Nat)), (22, .int .i64 0), (25, .int .i64 (b1 : Nat)), (28, .int .i64 (k : Nat))]) (fun m k h' => m + k = C.rs.length + 1 ∧ d ≤ k ∧ Ext h h' ∧ Has h' h.next (.cells .plain [.int .i64 C.dl, .int .i64 C.dh, .int .i64 C.kl, .int .i64 C.kh, r, .int .i64 C.most, b, l] 28) ∧ k ≤ U) (n := C.rs.length + 1 - d) d ⟨rfl, rfl, rfl, rfl, rfl, trivial⟩ ⟨by omega, Nat.le_refl _, e0, f5, by omega⟩ ?_;clear e0 f5;rintro m k hcc ⟨hm, hdk, e0, f5, hku⟩ again
     have hce := e0.1
     have hb0 := f5.1
     have hk : k ≤ C.rs.length := by omega
     have t1 := tk k hk
     by_cases hkU : k = U
     ·subst hkU;rw [show surelyV (C.at k) (x.needs (n : Int)) = true from p3, if_pos rfl] at t1;iterate 2 apply gS
      refine gR rfl ?_;refine gP ?_;refine gO rfl rfl (fa28_2 rfl) rfl ?_;refine gO rfl rfl (ld24 rfl f5 rfl) rfl ?_;refine gO rfl rfl (aOp_lenSlice Try.underlying24 rfl hl1) rfl ?_;refine gO rfl rfl (kMT rfl rfl) rfl ?_;apply gE;refine gC (b := true) rfl ?_;refine gD ?_;apply gS;refine Go.block noJ_ok ?_;apply gS;refine gR rfl ?_;iterate 2 refine gP ?_
      refine gO rfl rfl (aOp_shr (i := k) rfl rfl (by omega) rfl) rfl ?_;refine gO rfl rfl (aOp_and1 rfl rfl t1) rfl ?_;refine gO rfl rfl (kET rfl rfl) rfl ?_;apply gE;refine gC (b := true) rfl ?_;apply gS;refine gR rfl ?_;refine gP ?_;refine gO rfl rfl (kET rfl rfl) rfl ?_;iterate 3 refine gP ?_
      refine gO rfl rfl (kET rfl rfl) rfl ?_;iterate 2 refine gP ?_
      refine GoR.call rfl rfl (aCF aFunc11 rfl) (awake_ok) ?_ np;rintro v11 h11 ⟨q, x11⟩;cases q;refine ⟨_, rfl, ?_⟩;replace e0 := e0.trans x11;iterate 2 refine gP ?_
      apply gE;exact gW Try.func6 rfl rfl ⟨rfl, e0⟩
     ·rw [show surelyV (C.at k) (x.needs (n : Int)) = false from p4 (k : Nat) (by omega) (by omega), if_neg (by decide)] at t1;iterate 2 apply gS
      refine gR rfl ?_;refine gP ?_;refine gO rfl rfl (fa28_2 rfl) rfl ?_;refine gO rfl rfl (ld24 rfl f5 rfl) rfl ?_;refine gO rfl rfl (aOp_lenSlice Try.underlying24 rfl hl1) rfl ?_;refine gO rfl rfl (kMT rfl rfl) rfl ?_;apply gE;refine gC (b := true) rfl ?_;refine gD ?_;apply gS;refine Go.block noJ_ok ?_;apply gS;refine gR rfl ?_;iterate 2 refine gP ?_
      refine gO rfl rfl (aOp_shr (i := k) rfl rfl (by omega) rfl) rfl ?_;refine gO rfl rfl (aOp_and1 rfl rfl t1) rfl ?_;refine gO rfl rfl (kEF rfl rfl) rfl ?_;apply gE;refine gC (b := false) rfl ?_;refine gD ?_;refine Go.inBlock noJ_ok ?_;refine gR rfl ?_;refine gP ?_;refine gO rfl rfl (aA rfl rfl) rfl ?_;refine gP ?_;apply gE;exact again (m - 1) (k + 1) _ _ (by omega) ⟨rfl, rfl, rfl, rfl, rfl, trivial⟩ ⟨by omega, by omega, e0, f5, by omega⟩
    | none =>
     have p4 := fu.2 hv
     rw [untilQ_none hT hv] at hU1
     dsimp only at hU1
     cases hv0 : C.untilV (x.needs (n : Int)) (d0 : Nat) with
     | some u0 =>
      rw [untilQ_some hT hv0] at hU2
      dsimp only at hU2
      apply gS;refine gR rfl ?_;refine gO rfl rfl (kLF rfl rfl) rfl ?_;apply gE;apply gS;refine gC (b := false) rfl ?_;refine gD ?_;iterate 2 apply gS
      refine gR rfl ?_;refine gP ?_;refine gO rfl rfl (kXF rfl rfl) rfl ?_;apply gE;refine gC (b := false) rfl ?_;refine gD ?_;iterate 2 apply gS
      refine gR rfl ?_;iterate 2 refine gP ?_
      refine gO rfl rfl (kXF rfl rfl) rfl ?_;apply gE;refine gC (b := false) rfl ?_;refine gD ?_;iterate 2 apply gS
      refine gR rfl ?_;refine gO rfl rfl (fa28_4 rfl) rfl ?_;refine gO rfl rfl (ld25 rfl f5 rfl) rfl ?_;refine gO rfl rfl (aOp_lenSlice Try.underlying25 rfl hl2) rfl ?_;refine gO rfl rfl (kEF rfl rfl) rfl ?_;apply gE;refine gC (b := false) rfl ?_;refine gD ?_;apply gS;refine gR rfl ?_;refine gP ?_;refine gO rfl rfl (aOp_convU8 rfl Try.underlying5 Try.underlying3 (by omega)) rfl ?_;refine gO rfl rfl (fa28_4 rfl) rfl ?_;refine gO rfl rfl (ld25 rfl f5 rfl) rfl ?_;refine gO rfl rfl (aOp_lenSlice Try.underlying25 rfl hl2) rfl ?_;refine gO rfl rfl (aOp_rem (r := ((i1 : Nat) : Int)) rfl rfl (by omega) (by rw [← hi1]; rfl)) rfl ?_;refine gP ?_;apply gE;apply gS;refine gR rfl ?_;refine gP ?_;refine gO rfl rfl (aOp_convU8 rfl Try.underlying5 Try.underlying3 (by omega)) rfl ?_;refine gO rfl rfl (fa28_4 rfl) rfl ?_;refine gO rfl rfl (ld25 rfl f5 rfl) rfl ?_;refine gP ?_;refine gO rfl rfl (aOp_indexAddr (i := i1) Try.underlying25 sz45 rfl (by assumption) rfl (Nat.ble_eq_true_of_le (by omega))) rfl ?_;refine gO rfl rfl (fa45_2 rfl) rfl ?_;refine gO rfl rfl (aOp_loadE1 (k := 3) ag3 rfl (u2.ext (by assumption)) rfl) rfl ?_;refine gO rfl rfl (aA rfl rfl) rfl ?_;refine gO rfl rfl (aOp_rem (r := ((n : Nat) : Int)) rfl rfl (by omega) (by rw [hR, ← hn]; rfl)) rfl ?_;refine gP ?_;apply gE;apply gS;refine gR rfl ?_;refine gO rfl rfl (ld28 rfl f5 rfl) rfl ?_;iterate 3 refine gP ?_
      refine GoR.call rfl rfl (aCF aFunc19 rfl) (hU1 e0) ?_ np;rintro v8 h8 ⟨q, x8⟩;cases q;refine ⟨_, rfl, ?_⟩;replace f5 := f5.ext x8;replace e0 := e0.trans x8;iterate 5 refine gP ?_
      apply gE;apply gS;refine gR rfl ?_;refine gO rfl rfl (ld28 rfl f5 rfl) rfl ?_;iterate 4 refine gP ?_
      refine gO rfl rfl (aOp_convU8 rfl Try.underlying5 Try.underlying3 (by omega)) rfl ?_;refine gO rfl rfl (aOp_rem (r := ((q4 : Nat) : Int)) rfl rfl (by omega) (by rw [← hq4]; rfl)) rfl ?_;refine gO rfl rfl (aS rfl rfl) rfl ?_;refine gO rfl rfl (aOp_max2 rfl rfl hmx) rfl ?_;refine GoR.call rfl rfl (aCF aFunc19 rfl) (hU2 e0) ?_ np;rintro v9 h9 ⟨q, x9⟩;cases q;refine ⟨_, rfl, ?_⟩;replace f5 := f5.ext x9;replace e0 := e0.trans x9;iterate 5 refine gP ?_
      apply gE;apply gS;refine gR rfl ?_;refine gO rfl rfl (ld28 rfl f5 rfl) rfl ?_;iterate 2 refine gP ?_
      refine GoR.call rfl rfl (aCF aFunc18 rfl) (hD1 e0) ?_ np;rintro v10 h10 ⟨q, x10⟩;cases q;refine ⟨_, rfl, ?_⟩;replace f5 := f5.ext x10;replace e0 := e0.trans x10;iterate 7 refine gP ?_
      apply gE;iterate 2 apply gS
      refine gR rfl ?_;refine gP ?_;refine gO rfl rfl (kXF rfl rfl) rfl ?_;iterate 2 refine gP ?_
      refine gO rfl rfl (kXT rfl rfl) rfl ?_;iterate 2 refine gP ?_
      refine gO rfl rfl (kXF rfl rfl) rfl ?_;iterate 2 refine gP ?_
      refine gO rfl rfl (kXF rfl rfl) rfl ?_;iterate 5 refine gP ?_
      refine gO rfl rfl (kEF rfl rfl) rfl ?_;refine gP ?_;iterate 7 refine GoR.skip rfl rfl rfl ?_
      iterate 2 refine gP ?_
      apply gE;refine gC (b := false) rfl ?_;refine gD ?_;iterate 2 apply gS
      refine gR rfl ?_;iterate 2 refine gP ?_
      apply gE;refine Go.block noJ_ok ?_;refine Go.loopKeep (fun k : Nat => [(5, .ptr h.next 0), (21, .int .i64 0), (22, .int .i64 4), (25, .int .i64 (b1 : Nat)), (28, .int .i64 (k : Nat))]) (fun m k h' => m + k = C.rs.length + 1 ∧ d ≤ k ∧ Ext h h' ∧ Has h' h.next (.cells .plain [.int .i64 C.dl, .int .i64 C.dh, .int .i64 C.kl, .int .i64 C.kh, r, .int .i64 C.most, b, l] 28)) (n := C.rs.length + 1 - d) d ⟨rfl, rfl, rfl, rfl, rfl, trivial⟩ ⟨by omega, Nat.le_refl _, e0, f5⟩ ?_;clear e0 f5;rintro m k hcc ⟨hm, hdk, e0, f5⟩ again
      have hce := e0.1
      have hb0 := f5.1
      by_cases hk : k ≤ C.rs.length
      ·have t1 := tk k hk
       rw [show surelyV (C.at k) (x.needs (n : Int)) = false from p4 (k : Nat) (by omega) (by omega), if_neg (by decide)] at t1;iterate 2 apply gS
       refine gR rfl ?_;refine gP ?_;refine gO rfl rfl (fa28_2 rfl) rfl ?_;refine gO rfl rfl (ld24 rfl f5 rfl) rfl ?_;refine gO rfl rfl (aOp_lenSlice Try.underlying24 rfl hl1) rfl ?_;refine gO rfl rfl (kMT rfl rfl) rfl ?_;apply gE;refine gC (b := true) rfl ?_;refine gD ?_;apply gS;refine Go.block noJ_ok ?_;apply gS;refine gR rfl ?_;iterate 2 refine gP ?_
       refine gO rfl rfl (aOp_shr (i := k) rfl rfl (by omega) rfl) rfl ?_;refine gO rfl rfl (aOp_and1 rfl rfl t1) rfl ?_;refine gO rfl rfl (kEF rfl rfl) rfl ?_;apply gE;refine gC (b := false) rfl ?_;refine gD ?_;refine Go.inBlock noJ_ok ?_;refine gR rfl ?_;refine gP ?_;refine gO rfl rfl (aA rfl rfl) rfl ?_;refine gP ?_;apply gE;exact again (m - 1) (k + 1) _ _ (by omega) ⟨rfl, rfl, rfl, rfl, rfl, trivial⟩ ⟨by omega, by omega, e0, f5⟩
      ·iterate 2 apply gS
       refine gR rfl ?_;refine gP ?_;refine gO rfl rfl (fa28_2 rfl) rfl ?_;refine gO rfl rfl (ld24 rfl f5 rfl) rfl ?_;refine gO rfl rfl (aOp_lenSlice Try.underlying24 rfl hl1) rfl ?_;refine gO rfl rfl (kMF rfl rfl) rfl ?_;apply gE;refine gC (b := false) rfl ?_;refine gD ?_;apply gS;refine gR rfl ?_;refine gP ?_;refine gO rfl rfl (kET rfl rfl) rfl ?_;refine gP ?_;refine GoR.call rfl rfl (aCF aFunc11 rfl) (awake_ok) ?_ np;rintro v11 h11 ⟨q, x11⟩;cases q;refine ⟨_, rfl, ?_⟩;replace e0 := e0.trans x11;iterate 2 refine gP ?_
       apply gE;exact gW Try.func6 rfl rfl ⟨rfl, e0⟩
     | none =>
      rw [untilQ_none hT hv0] at hU2
      dsimp only at hU2
      apply gS;refine gR rfl ?_;refine gO rfl rfl (kLF rfl rfl) rfl ?_;apply gE;apply gS;refine gC (b := false) rfl ?_;refine gD ?_;iterate 2 apply gS
      refine gR rfl ?_;refine gP ?_;refine gO rfl rfl (kXF rfl rfl) rfl ?_;apply gE;refine gC (b := false) rfl ?_;refine gD ?_;iterate 2 apply gS
      refine gR rfl ?_;iterate 2 refine gP ?_
      refine gO rfl rfl (kXF rfl rfl) rfl ?_;apply gE;refine gC (b := false) rfl ?_;refine gD ?_;iterate 2 apply gS
      refine gR rfl ?_;refine gO rfl rfl (fa28_4 rfl) rfl ?_;refine gO rfl rfl (ld25 rfl f5 rfl) rfl ?_;refine gO rfl rfl (aOp_lenSlice Try.underlying25 rfl hl2) rfl ?_;refine gO rfl rfl (kEF rfl rfl) rfl ?_;apply gE;refine gC (b := false) rfl ?_;refine gD ?_;apply gS;refine gR rfl ?_;refine gP ?_;refine gO rfl rfl (aOp_convU8 rfl Try.underlying5 Try.underlying3 (by omega)) rfl ?_;refine gO rfl rfl (fa28_4 rfl) rfl ?_;refine gO rfl rfl (ld25 rfl f5 rfl) rfl ?_;refine gO rfl rfl (aOp_lenSlice Try.underlying25 rfl hl2) rfl ?_;refine gO rfl rfl (aOp_rem (r := ((i1 : Nat) : Int)) rfl rfl (by omega) (by rw [← hi1]; rfl)) rfl ?_;refine gP ?_;apply gE;apply gS;refine gR rfl ?_;refine gP ?_;refine gO rfl rfl (aOp_convU8 rfl Try.underlying5 Try.underlying3 (by omega)) rfl ?_;refine gO rfl rfl (fa28_4 rfl) rfl ?_;refine gO rfl rfl (ld25 rfl f5 rfl) rfl ?_;refine gP ?_;refine gO rfl rfl (aOp_indexAddr (i := i1) Try.underlying25 sz45 rfl (by assumption) rfl (Nat.ble_eq_true_of_le (by omega))) rfl ?_;refine gO rfl rfl (fa45_2 rfl) rfl ?_;refine gO rfl rfl (aOp_loadE1 (k := 3) ag3 rfl (u2.ext (by assumption)) rfl) rfl ?_;refine gO rfl rfl (aA rfl rfl) rfl ?_;refine gO rfl rfl (aOp_rem (r := ((n : Nat) : Int)) rfl rfl (by omega) (by rw [hR, ← hn]; rfl)) rfl ?_;refine gP ?_;apply gE;apply gS;refine gR rfl ?_;refine gO rfl rfl (ld28 rfl f5 rfl) rfl ?_;iterate 3 refine gP ?_
      refine GoR.call rfl rfl (aCF aFunc19 rfl) (hU1 e0) ?_ np;rintro v8 h8 ⟨q, x8⟩;cases q;refine ⟨_, rfl, ?_⟩;replace f5 := f5.ext x8;replace e0 := e0.trans x8;iterate 5 refine gP ?_
      apply gE;apply gS;refine gR rfl ?_;refine gO rfl rfl (ld28 rfl f5 rfl) rfl ?_;iterate 4 refine gP ?_
      refine gO rfl rfl (aOp_convU8 rfl Try.underlying5 Try.underlying3 (by omega)) rfl ?_;refine gO rfl rfl (aOp_rem (r := ((q4 : Nat) : Int)) rfl rfl (by omega) (by rw [← hq4]; rfl)) rfl ?_;refine gO rfl rfl (aS rfl rfl) rfl ?_;refine gO rfl rfl (aOp_max2 rfl rfl hmx) rfl ?_;refine GoR.call rfl rfl (aCF aFunc19 rfl) (hU2 e0) ?_ np;rintro v9 h9 ⟨q, x9⟩;cases q;refine ⟨_, rfl, ?_⟩;replace f5 := f5.ext x9;replace e0 := e0.trans x9;iterate 5 refine gP ?_
      apply gE;apply gS;refine gR rfl ?_;refine gO rfl rfl (ld28 rfl f5 rfl) rfl ?_;iterate 2 refine gP ?_
      refine GoR.call rfl rfl (aCF aFunc18 rfl) (hD1 e0) ?_ np;rintro v10 h10 ⟨q, x10⟩;cases q;refine ⟨_, rfl, ?_⟩;replace f5 := f5.ext x10;replace e0 := e0.trans x10;iterate 7 refine gP ?_
      apply gE;iterate 2 apply gS
      refine gR rfl ?_;refine gP ?_;refine gO rfl rfl (kXF rfl rfl) rfl ?_;iterate 2 refine gP ?_
      refine gO rfl rfl (kXT rfl rfl) rfl ?_;iterate 2 refine gP ?_
      refine gO rfl rfl (kXF rfl rfl) rfl ?_;iterate 2 refine gP ?_
      refine gO rfl rfl (kXF rfl rfl) rfl ?_;iterate 5 refine gP ?_
      refine gO rfl rfl (kEF rfl rfl) rfl ?_;refine gP ?_;iterate 7 refine GoR.skip rfl rfl rfl ?_
      iterate 2 refine gP ?_
      apply gE;refine gC (b := false) rfl ?_;refine gD ?_;iterate 2 apply gS
      refine gR rfl ?_;iterate 2 refine gP ?_
      apply gE;refine Go.block noJ_ok ?_;refine Go.loopKeep (fun k : Nat => [(5, .ptr h.next 0), (21, .int .i64 0), (22, .int .i64 4), (25, .int .i64 (b1 : Nat)), (28, .int .i64 (k : Nat))]) (fun m k h' => m + k = C.rs.length + 1 ∧ d ≤ k ∧ Ext h h' ∧ Has h' h.next (.cells .plain [.int .i64 C.dl, .int .i64 C.dh, .int .i64 C.kl, .int .i64 C.kh, r, .int .i64 C.most, b, l] 28)) (n := C.rs.length + 1 - d) d ⟨rfl, rfl, rfl, rfl, rfl, trivial⟩ ⟨by omega, Nat.le_refl _, e0, f5⟩ ?_;clear e0 f5;rintro m k hcc ⟨hm, hdk, e0, f5⟩ again
      have hce := e0.1
      have hb0 := f5.1
      by_cases hk : k ≤ C.rs.length
      ·have t1 := tk k hk
       rw [show surelyV (C.at k) (x.needs (n : Int)) = false from p4 (k : Nat) (by omega) (by omega), if_neg (by decide)] at t1;iterate 2 apply gS
       refine gR rfl ?_;refine gP ?_;refine gO rfl rfl (fa28_2 rfl) rfl ?_;refine gO rfl rfl (ld24 rfl f5 rfl) rfl ?_;refine gO rfl rfl (aOp_lenSlice Try.underlying24 rfl hl1) rfl ?_;refine gO rfl rfl (kMT rfl rfl) rfl ?_;apply gE;refine gC (b := true) rfl ?_;refine gD ?_;apply gS;refine Go.block noJ_ok ?_;apply gS;refine gR rfl ?_;iterate 2 refine gP ?_
       refine gO rfl rfl (aOp_shr (i := k) rfl rfl (by omega) rfl) rfl ?_;refine gO rfl rfl (aOp_and1 rfl rfl t1) rfl ?_;refine gO rfl rfl (kEF rfl rfl) rfl ?_;apply gE;refine gC (b := false) rfl ?_;refine gD ?_;refine Go.inBlock noJ_ok ?_;refine gR rfl ?_;refine gP ?_;refine gO rfl rfl (aA rfl rfl) rfl ?_;refine gP ?_;apply gE;exact again (m - 1) (k + 1) _ _ (by omega) ⟨rfl, rfl, rfl, rfl, rfl, trivial⟩ ⟨by omega, by omega, e0, f5⟩
      ·iterate 2 apply gS
       refine gR rfl ?_;refine gP ?_;refine gO rfl rfl (fa28_2 rfl) rfl ?_;refine gO rfl rfl (ld24 rfl f5 rfl) rfl ?_;refine gO rfl rfl (aOp_lenSlice Try.underlying24 rfl hl1) rfl ?_;refine gO rfl rfl (kMF rfl rfl) rfl ?_;apply gE;refine gC (b := false) rfl ?_;refine gD ?_;apply gS;refine gR rfl ?_;refine gP ?_;refine gO rfl rfl (kET rfl rfl) rfl ?_;refine gP ?_;refine GoR.call rfl rfl (aCF aFunc11 rfl) (awake_ok) ?_ np;rintro v11 h11 ⟨q, x11⟩;cases q;refine ⟨_, rfl, ?_⟩;replace e0 := e0.trans x11;iterate 2 refine gP ?_
       apply gE;exact gW Try.func6 rfl rfl ⟨rfl, e0⟩
theorem law6 {C : CutV} {r b l : AVal} {h : AH} (A : CutAt h C r b l) (hb : C.rs.length < 9223372036854775808 ∧ C.bs.length < 9223372036854775808 ∧ C.ls.length < 9223372036854775808) {w1 w2 w3 w4 : Int} (h1 : 0 ≤ w1 ∧ w1 < 256) (h2 : 0 ≤ w2 ∧ w2 < 256) (h3 : 0 ≤ w3 ∧ w3 < 256) (h4 : 0 ≤ w4 ∧ w4 < 256) : Runs Try.prog 6 [.agg (C.cells r b l), .int .u8 w1, .int .u8 w2, .int .u8 w3, .int .u8 w4] h (fun en h' => en = .ret (.bool true) ∧ Ext h h') := by
 by_cases O : C.Ok
 ·obtain ⟨a1, rfl⟩ := Int.eq_ofNat_of_zero_le h1.1
  obtain ⟨a2, rfl⟩ := Int.eq_ofNat_of_zero_le h2.1
  obtain ⟨a3, rfl⟩ := Int.eq_ofNat_of_zero_le h3.1
  obtain ⟨a4, rfl⟩ := Int.eq_ofNat_of_zero_le h4.1
  exact law6_ok A O (by omega) (by omega) (by omega) (by omega)
 ·exact law6_bad A hb O
end Go.Proofs.Yteibheeleeengaa

namespace Go.AbsE
open Go Go.RowKit
section
variable {P : Program}
theorem HR.openWin {e : Env} {h : AH} {W : World} (r : HR P (Base.all W) e h W) {B lo : Nat} {PRE CS junk : List Value} {el : TypeId} {fr : Nat × Nat} {cs : List AVal} (hB : W.heap[B]? = some (.cells (PRE ++ (CS ++ junk)).toArray el fr)) (hp : PRE.length = lo) (hv : ∀ e, VRs e cs CS) :
  ∃ e' h', Env.le e e' ∧ HR P (Base.all W) e' h' W ∧ Ext h h' ∧ e' h.next = some (B, 0) ∧ Has h' h.next (.win lo cs) := by
 obtain ⟨h', k⟩ := new_some h (.win lo cs)
 obtain ⟨_, x1, x2⟩ := new_ext k
 obtain ⟨n1, n2, n3⟩ := AH.get_new k
 have hle := Env.le_ext (x := (B, 0)) r.fresh
 have hlt := (Array.getElem?_eq_some_iff.1 hB).1
 refine ⟨e.ext h.next (B, 0), h', hle, ?_, x1, Env.ext_same _ _ _, x2⟩
 refine { dom := ?_, blk := ?_, inj := ?_, imm := ?_, os := r.os, tape := r.tape, output := r.output, size := r.size, old := r.old, young := r.young }
 ·intro b' x kx
  rw [Env.ext_at] at kx
  by_cases hb' : b' = h.next
  ·omega
  ·rw [if_neg hb'] at kx; have := r.dom _ _ kx; omega
 ·intro b' o' kx
  rw [n3] at kx
  by_cases hb' : b' = h.next
  ·rw [if_pos hb'] at kx
   cases kx
   subst hb'
   exact ⟨B, 0, _, Env.ext_same _ _ _, (fun q => by cases q), hB, .win (hv _) hp⟩
  ·rw [if_neg hb'] at kx
   obtain ⟨B', c', O', k1, k2, k3, k4⟩ := r.blk _ _ kx
   exact ⟨B', c', O', hle.1 _ _ k1, k2, k3, k4.mono hle⟩
 ·intro b1 b2 B1 c1 c2 o1 o2 k1 k2 hro e1 e2
  rw [n3] at k1 k2
  rw [Env.ext_at] at e1 e2
  by_cases q1 : b1 = h.next
  ·rw [if_pos q1] at k1; cases k1; cases hro
  ·rw [if_neg q1] at k1 e1
   by_cases q2 : b2 = h.next
   ·rw [if_pos q2] at e2
    cases e2
    obtain ⟨B', c', O', j1, j2, _, _⟩ := r.blk _ _ k1
    rw [e1] at j1
    cases j1
    exact absurd hlt (j2 hro)
   ·rw [if_neg q2] at k2 e2
    exact r.inj _ _ _ _ _ _ _ k1 k2 hro e1 e2
 ·intro B1 CS' hi
  obtain ⟨i1, i2⟩ := r.imm B1 CS' hi
  refine ⟨i1, fun b' o' c' kx hro ke => ?_⟩
  rw [n3] at kx
  rw [Env.ext_at] at ke
  by_cases q : b' = h.next
  ·rw [if_pos q] at kx; cases kx; cases hro
  ·rw [if_neg q] at kx ke; exact i2 b' o' c' kx hro ke
end
end Go.AbsE

namespace Go.AbsE
open Go Go.RowKit
section
variable {P : Program}
theorem VRs.kinds {K : Type} {va : K → AVal} {vv : K → Value} (hvr : ∀ e x, VR e (va x) (vv x)) {e : Env} : ∀ l : List K, VRs e (l.map fun x => va x) (l.map fun x => vv x) := by
 intro l
 induction l with
 | nil => exact .nil
 | cons a l ih => exact .cons (hvr _ _) ih
theorem rowsG_eq {K : Type} {vv : K → Value} {C : List Value} {off sz : Nat} : ∀ (len : Nat) (f : Nat → List K), (∀ i, i < len → (f i).length = sz ∧ ∀ k n, (f i)[k]? = some n → C[off + i * sz + k]? = some (vv n)) →
  (C.drop off).take (len * sz) = (((List.range len).map f).flatten).map fun x => vv x := by
 intro len
 induction len with
 | zero => intro f _; simp
 | succ len ih =>
  intro f hf
  have h1 := ih f fun i hi => hf i (by omega)
  obtain ⟨l1, l2⟩ := hf len (by omega)
  rw [Nat.add_mul, Nat.one_mul, List.take_add, h1, List.range_succ, List.map_append, List.flatten_append, List.map_append]
  congr 1
  simp only [List.map_cons, List.map_nil, List.flatten_cons, List.flatten_nil, List.append_nil]
  rw [List.drop_drop]
  refine List.ext_getElem? fun k => ?_
  rw [List.getElem?_take, List.getElem?_drop, List.getElem?_map]
  by_cases hk : k < sz
  ·rw [if_pos hk]
   obtain ⟨n, hn⟩ : ∃ n, (f len)[k]? = some n := ⟨(f len)[k]'(by omega), by simp⟩
   rw [hn]
   exact l2 k n hn
  ·rw [if_neg hk]
   have : (f len)[k]? = none := by simp; omega
   rw [this]
   rfl
end
end Go.AbsE

namespace Go.AbsE
open Go Go.RowKit
section
variable {P : Program}
theorem HR.openRowsC {K : Type} (va : K → AVal) (vv : K → Value) (hvr : ∀ e x, VR e (va x) (vv x)) {e : Env} {h : AH} {W : World} (r : HR P (Base.all W) e h W) {a : Addr} {len cap sz : Nat} {C : Array Value} {el : TypeId} {fr : Nat × Nat} (hB : W.heap[a.block]? = some (.cells C el fr)) (hspot : a.spot = none) (f : Nat → List K)
  (hf : ∀ i, i < len → (f i).length = sz ∧ ∀ k n, (f i)[k]? = some n → W.cell? (a.add (i * sz + k)) = some (vv n)) :
  ∃ e' h' s, Env.le e e' ∧ HR P (Base.all W) e' h' W ∧ Ext h h' ∧ VR e' s (.slice (some a) len cap) ∧ SliceOf h' sz s (((List.range len).map f).map fun l => l.map fun x => va x) ∧ sameA s s = true ∧ ∃ b o, s = .slice b o len cap := by
 obtain ⟨B, off, spot⟩ := a
 dsimp only at hB hspot
 subst hspot
 have hcell : ∀ i, i < len → (f i).length = sz ∧ ∀ k n, (f i)[k]? = some n → C.toList[off + i * sz + k]? = some (vv n) := fun i hi => by
  obtain ⟨h1, h2⟩ := hf i hi
  refine ⟨h1, fun k n hn => ?_⟩
  have := h2 k n hn
  have e1 := addr_add B off (i * sz + k)
  rw [e1] at this
  unfold World.cell? at this
  rw [hB] at this
  simp only [Option.isSome_none, Bool.false_eq_true, if_false] at this
  rw [Array.getElem?_toList, Nat.add_assoc]
  exact this
 have hrows := rowsG_eq len f hcell
 let R := (List.range len).map f
 have hRl : ∀ l, l ∈ R → l.length = sz := fun l hl => by
  obtain ⟨i, hi, rfl⟩ := List.mem_map.1 hl
  exact (hf i (List.mem_range.1 hi)).1
 have hRlen : R.length = len := by simp [R]
 have hlen : (C.toList.drop off).take (len * sz) = (R.flatten).map fun x => vv x := hrows
 have hfl : R.flatten.length = len * sz := by
  have : ∀ {L : List (List K)}, (∀ l, l ∈ L → l.length = sz) → L.flatten.length = L.length * sz := by
   intro L
   induction L with
   | nil => intro _; simp
   | cons a L ih => intro h; simp only [List.flatten_cons, List.length_append, h a (by simp), ih fun l q => h l (by simp [q]), List.length_cons, Nat.add_mul]; omega
  rw [this hRl, hRlen]
 by_cases h0 : len * sz = 0
 ·-- nothing of it is read
  obtain ⟨e', h', k1, k2, k3, k4, k5⟩ := r.openWin (B := B) (lo := 0) (PRE := []) (CS := []) (junk := C.toList) (el := el) (fr := fr) (cs := []) (by simpa using hB) rfl (fun _ => .nil)
  refine ⟨e', h', .slice h.next off len cap, k1, k2, k3, .slice k4, .mk rfl rfl k5.1 (by simp) (fun l hl => ?_) ?_, by simp [sameA], _, _, rfl⟩
  ·obtain ⟨x, hx, rfl⟩ := List.mem_map.1 hl
   rw [List.length_map]
   exact hRl x hx
  ·have hnil : R.flatten = [] := List.eq_nil_of_length_eq_zero (by omega)
   unfold loadCells
   rw [k5.2]
   have e1 : ((R.map fun l => l.map fun x => va x).length * sz) = 0 := by rw [List.length_map, hRlen]; exact h0
   have e2 : (R.map fun l => l.map fun x => va x).flatten = [] := by rw [← List.map_flatten, hnil]; rfl
   show cond (Nat.ble 0 off) (slice? [] (off - 0) ((R.map fun l => l.map fun x => va x).length * sz)) none = some _
   rw [e1, e2, show Nat.ble 0 off = true from Nat.ble_eq_true_of_le (Nat.zero_le _)]
   simp [slice?]
 ·have hle : off + len * sz ≤ C.toList.length := by
   have : ((C.toList.drop off).take (len * sz)).length = len * sz := by rw [hlen, List.length_map, hfl]
   rw [List.length_take, List.length_drop] at this
   omega
  have hC : C = (C.toList.take off ++ ((R.flatten.map fun x => vv x) ++ C.toList.drop (off + len * sz))).toArray := by
   rw [← hlen]
   have : C.toList.take off ++ ((C.toList.drop off).take (len * sz) ++ C.toList.drop (off + len * sz)) = C.toList := by
    rw [← List.drop_drop, List.take_append_drop, List.take_append_drop]
   rw [this]
  obtain ⟨e', h', k1, k2, k3, k4, k5⟩ := r.openWin (B := B) (lo := off) (PRE := C.toList.take off) (CS := R.flatten.map fun x => vv x) (junk := C.toList.drop (off + len * sz)) (el := el) (fr := fr) (cs := R.flatten.map fun x => va x) (by rw [← hC]; exact hB) (by rw [List.length_take]; omega) (fun _ => VRs.kinds hvr _)
  refine ⟨e', h', .slice h.next off len cap, k1, k2, k3, .slice k4, .mk rfl rfl k5.1 (by simp) (fun l hl => ?_) ?_, by simp [sameA], _, _, rfl⟩
  ·obtain ⟨x, hx, rfl⟩ := List.mem_map.1 hl
   rw [List.length_map]
   exact hRl x hx
  ·unfold loadCells
   rw [k5.2]
   have e1 : ((R.map fun l => l.map fun x => va x).length * sz) = len * sz := by rw [List.length_map, hRlen]
   have e2 : (R.map fun l => l.map fun x => va x).flatten = R.flatten.map fun x => va x := by rw [← List.map_flatten]
   show cond (Nat.ble off off) (slice? (R.flatten.map fun x => va x) (off - off) ((R.map fun l => l.map fun x => va x).length * sz)) none = some _
   rw [e1, e2, show Nat.ble off off = true from Nat.ble_eq_true_of_le (Nat.le_refl _), Nat.sub_self]
   exact slice_all (by rw [List.length_map, hfl])
end
end Go.AbsE

namespace Go.AbsE
open Go
set_option linter.unusedSimpArgs false
set_option linter.unusedVariables false
section
variable {P : Program} {h : AH} {dst : Option Tmp} {ty tt el : TypeId} {pos : String} {after : Array Edge} {guard : Option (Nat × Bool)} {x y : Operand}
def CutS (s : AVal) (n : Nat) : Prop := n ≠ 0 → ∃ b off cap, s = .slice b off n cap ∧ n ≤ cap
theorem SliceOf.take {sz b off n cap cap' i : Nat} {L : List (List AVal)} (k : SliceOf h sz (.slice b off n cap) L) (hL : L.length = n) (hi : i ≤ n) : SliceOf h sz (.slice b off i cap') (L.take i) := by
 cases k with
 | mk hs hn hb hl hz hc =>
  rw [show aSlElems (.slice b off n cap) = some (b, off, n) from rfl] at hs
  cases hs
  have hlen : (L.take i).length = i := by rw [List.length_take]; omega
  refine .mk (b := b) (off := off) (len := i) rfl rfl hb hlen (fun l hl => hz l (List.mem_of_mem_take hl)) ?_
  have hp := loadCells_part (k := 0) (m := i * sz) hc (by rw [Nat.zero_add]; exact Nat.mul_le_mul_right _ (by omega))
  rw [Nat.add_zero] at hp
  rw [hlen, hp]
  congr 1
  have e1 : (L.take i).flatten.length = i * sz := by
   rw [flatten_len (sz := sz) (fun l hl => hz l (List.mem_of_mem_take hl)), hlen]
  have e3 : L.flatten = (L.take i).flatten ++ (L.drop i).flatten := by rw [← List.flatten_append, List.take_append_drop]
  rw [List.drop_zero, e3, ← e1, List.take_left]
end
end Go.AbsE

namespace Go.Proofs.Yteibheeleeengaa
open Go Go.AbsE Go.ChangeShapes Go.WideShapes Go.ChangeAt Go.RowKit
set_option linter.unusedSimpArgs false
set_option maxRecDepth 100000
set_option linter.unusedVariables false
theorem cells28 : Try.prog.cellsOf 28 = 8 := by kernel_rfl
theorem cells3 : Try.prog.cellsOf 3 = 1 := by kernel_rfl
theorem cells23 : Try.prog.cellsOf 23 = 2 := by kernel_rfl
theorem cells45 : Try.prog.cellsOf 45 = 4 := by kernel_rfl
theorem cells53 : Try.prog.cellsOf 53 = 3 := by kernel_rfl
theorem cells24 : Try.prog.cellsOf 24 = 1 := by kernel_rfl
theorem cells25 : Try.prog.cellsOf 25 = 1 := by kernel_rfl
theorem cells26 : Try.prog.cellsOf 26 = 1 := by kernel_rfl
theorem ctypes28 : Try.prog.cellTypes Try.prog.depth 28 = some [3, 3, 3, 3, 24, 3, 25, 26] := by kernel_rfl
theorem laidOut : laidOutB Try.prog = true := by kernel_rfl
def inI64 (n : Int) : Prop := -9223372036854775808 ≤ n ∧ n ≤ 9223372036854775807
theorem wf_in {n : Int} (h : (Lit.int .i64 n).wf = true) : inI64 n := by
 simp only [Lit.wf, Bool.and_eq_true, decide_eq_true_eq] at h
 have h1 : IntKind.i64.min = -9223372036854775808 := by decide
 have h2 : IntKind.i64.max = 9223372036854775807 := by decide
 rw [h1, h2] at h
 constructor <;> omega
variable {H : Type} {enc : TypeId × Value → H} {W : World} {base : Nat} {spare : Nat → Bool} {held : Bool}
theorem int_row {n : Nat} {cs : List Value} {x : DataW H × List MemPlace} (h : DataW.trod enc Try.prog W base spare held n 3 cs = some x) : ∃ a : Int, cs = [.int .i64 a] ∧ inI64 a := by
 obtain ⟨a, h1, _, h3⟩ := DataW.trod_int Try.underlying3 h
 exact ⟨a, h1, wf_in h3⟩
theorem span_row {n : Nat} {cs : List Value} {x : DataW H × List MemPlace} (h : DataW.trod enc Try.prog W base spare held n 23 cs = some x) : ∃ a b : Int, cs = [.int .i64 a, .int .i64 b] := by
 obtain ⟨y0, y1, k, _, hl, h0, h1⟩ := ChangeShapes.trod_struct2 Try.underlying23 h
 rw [cells23] at hl
 dsimp only at h0 h1
 rw [cells3] at h0 h1
 obtain ⟨a, ha, _⟩ := int_row h0
 obtain ⟨b, hb, _⟩ := int_row h1
 match cs, hl with
 | [c0, c1], _ =>
  simp at ha hb
  exact ⟨a, b, by rw [ha, hb]⟩
theorem list2 {α : Type} {l : List α} (h : l.length = 2) : ∃ c0 c1, l = [c0, c1] := by
 match l, h with
 | [c0, c1], _ => exact ⟨c0, c1, rfl⟩
theorem list3 {α : Type} {l : List α} (h : l.length = 3) : ∃ c0 c1 c2, l = [c0, c1, c2] := by
 match l, h with
 | [c0, c1, c2], _ => exact ⟨c0, c1, c2, rfl⟩
theorem list4 {α : Type} {l : List α} (h : l.length = 4) : ∃ c0 c1 c2 c3, l = [c0, c1, c2, c3] := by
 match l, h with
 | [c0, c1, c2, c3], _ => exact ⟨c0, c1, c2, c3, rfl⟩
theorem list6 {α : Type} {l : List α} (h : l.length = 6) : ∃ c0 c1 c2 c3 c4 c5, l = [c0, c1, c2, c3, c4, c5] := by
 match l, h with
 | [c0, c1, c2, c3, c4, c5], _ => exact ⟨c0, c1, c2, c3, c4, c5, rfl⟩
theorem sp_row {n : Nat} {cs : List Value} {x : DataW H × List MemPlace} (h : DataW.trod enc Try.prog W base spare held n 23 cs = some x) : ∃ r : List Int, r.length = 2 ∧ cs = r.map fun x => Value.int .i64 x := by
 obtain ⟨a, b, rfl⟩ := span_row h
 exact ⟨[a, b], rfl, rfl⟩
theorem boat_row {n : Nat} {cs : List Value} {x : DataW H × List MemPlace} (h : DataW.trod enc Try.prog W base spare held n 45 cs = some x) : ∃ r : List Int, r.length = 4 ∧ cs = r.map fun x => Value.int .i64 x := by
 obtain ⟨xs, m, _, _, hl, hlen, hfl⟩ := DataW.trod_struct Try.underlying45 h
 rw [cells45] at hl
 obtain ⟨c0, c1, c2, c3, rfl⟩ := list4 hl
 obtain ⟨y0, y1, y2, rfl⟩ := list3 hlen
 have t0 : DataW.trod enc Try.prog W base spare held m 23 [c0, c1] = some y0 := by
  have this : DataW.trod enc Try.prog W base spare held m 23 (([c0, c1, c2, c3].drop 0).take (Try.prog.cellsOf 23)) = [y0, y1, y2][0]? := hfl 0 _ rfl
  rw [cells23] at this;exact this
 have t1 : DataW.trod enc Try.prog W base spare held m 3 [c2] = some y1 := by
  have this : DataW.trod enc Try.prog W base spare held m 3 (([c0, c1, c2, c3].drop 2).take (Try.prog.cellsOf 3)) = [y0, y1, y2][1]? := hfl 1 _ rfl
  rw [cells3] at this;exact this
 have t2 : DataW.trod enc Try.prog W base spare held m 3 [c3] = some y2 := by
  have this : DataW.trod enc Try.prog W base spare held m 3 (([c0, c1, c2, c3].drop 3).take (Try.prog.cellsOf 3)) = [y0, y1, y2][2]? := hfl 2 _ rfl
  rw [cells3] at this;exact this
 obtain ⟨a0, a1, e0⟩ := span_row t0
 obtain ⟨a2, e1, _⟩ := int_row t1
 obtain ⟨a3, e2, _⟩ := int_row t2
 simp at e0 e1 e2
 exact ⟨[a0, a1, a2, a3], rfl, by rw [e0.1, e0.2, e1, e2]; rfl⟩
theorem look_row {n : Nat} {cs : List Value} {x : DataW H × List MemPlace} (h : DataW.trod enc Try.prog W base spare held n 53 cs = some x) : ∃ r : List Int, r.length = 3 ∧ cs = r.map fun x => Value.int .i64 x := by
 obtain ⟨xs, m, _, _, hl, hlen, hfl⟩ := DataW.trod_struct Try.underlying53 h
 rw [cells53] at hl
 obtain ⟨c0, c1, c2, rfl⟩ := list3 hl
 obtain ⟨y0, y1, rfl⟩ := list2 hlen
 have t0 : DataW.trod enc Try.prog W base spare held m 3 [c0] = some y0 := by
  have this : DataW.trod enc Try.prog W base spare held m 3 (([c0, c1, c2].drop 0).take (Try.prog.cellsOf 3)) = [y0, y1][0]? := hfl 0 _ rfl
  rw [cells3] at this;exact this
 have t1 : DataW.trod enc Try.prog W base spare held m 23 [c1, c2] = some y1 := by
  have this : DataW.trod enc Try.prog W base spare held m 23 (([c0, c1, c2].drop 1).take (Try.prog.cellsOf 23)) = [y0, y1][1]? := hfl 1 _ rfl
  rw [cells23] at this;exact this
 obtain ⟨a0, e0, _⟩ := int_row t0
 obtain ⟨a1, a2, e1⟩ := span_row t1
 simp at e0 e1
 exact ⟨[a0, a1, a2], rfl, by rw [e0, e1.1, e1.2]; rfl⟩
theorem slice_okw {t el : TypeId} {a : Addr} {len cap : Nat} {bs : Nat} (ht : Try.prog.underlying t = some (.slice el)) (h : Cell.okWide Try.prog W .any bs t (.slice (some a) len cap)) : a.spot = none ∧ ∃ C e fr, W.heap[a.block]? = some (.cells C e fr) := by
 unfold Cell.okWide at h
 rw [ht] at h
 dsimp only at h
 unfold Cell.ok at h
 rw [ht] at h
 dsimp only at h
 obtain ⟨_, _, _, h2, row, n, h3, _⟩ := h
 refine ⟨h2, ?_⟩
 unfold World.shape? at h3
 split at h3
 ·rename_i c e fr hq
  exact ⟨c, e, fr, hq⟩
 ·cases h3
theorem slice_cap {t el : TypeId} {a : Addr} {len cap : Nat} {bs : Nat} (ht : Try.prog.underlying t = some (.slice el)) (h : Cell.okWide Try.prog W .any bs t (.slice (some a) len cap)) : len < 9223372036854775808 := by
 unfold Cell.okWide at h
 rw [ht] at h
 dsimp only at h
 unfold Cell.ok at h
 rw [ht] at h
 dsimp only at h
 obtain ⟨h1, h2, _⟩ := h
 have : IntKind.i64.max = 9223372036854775807 := by decide
 rw [this] at h2
 omega
theorem slice_le {t el : TypeId} {a : Addr} {len cap : Nat} {bs : Nat} (ht : Try.prog.underlying t = some (.slice el)) (h : Cell.okWide Try.prog W .any bs t (.slice (some a) len cap)) : len ≤ cap := by
 unfold Cell.okWide at h
 rw [ht] at h
 dsimp only at h
 unfold Cell.ok at h
 rw [ht] at h
 dsimp only at h
 exact h.1
theorem rows_of {t el : TypeId} {sz fuel : Nat} {c : Value} {y : DataW H × List MemPlace} {bs : Nat} (ht : Try.prog.underlying t = some (.slice el)) (hsz : Try.prog.cellsOf el = sz)
  (hrow : ∀ {n : Nat} {cs : List Value} {x : DataW H × List MemPlace}, DataW.trod enc Try.prog W 0 (fun _ => true) true n el cs = some x → ∃ r : List Int, r.length = sz ∧ cs = r.map fun x => Value.int .i64 x)
  (h : DataW.trod enc Try.prog W 0 (fun _ => true) true fuel t [c] = some y) (hok : Cell.okWide Try.prog W .any bs t c) {e : Env} {hh : AH} (r : HR Try.prog (Base.all W) e hh W) :
  ∃ e' h' s, ∃ R : List (List Int), Env.le e e' ∧ HR Try.prog (Base.all W) e' h' W ∧ Ext hh h' ∧ VR e' s c ∧ (∀ l, l ∈ R → l.length = sz) ∧ SliceOf h' sz s (R.map fun l => l.map fun x => AVal.int .i64 x) ∧ R.length < 9223372036854775808 ∧ CutS s R.length := by
 rcases Deep.open_slice ht h with ⟨hcs, _⟩ | ⟨a, len, cap, m, n, D, Pl, hcs, _, hl, _, hmm, _, hx⟩
 ·simp at hcs
  subst hcs;exact ⟨e, hh, .nilslice, [], Env.le_refl e, r, Ext.refl _, .nilslice, (fun _ q => by cases q), .nil, by decide, fun q => absurd rfl q⟩
 ·simp at hcs
  subst hcs
  obtain ⟨hs, C, el', fr, hB⟩ := slice_okw ht hok
  have hcap := slice_cap ht hok
  have hle := slice_le ht hok
  have hm : m = cap := by simpa using hmm
  have each : ∀ i, ∃ rr : List Int, i < len → rr.length = sz ∧ ∀ k n, rr[k]? = some n → W.cell? (a.add (i * sz + k)) = some (.int .i64 n) := by
   intro i
   by_cases hi : i < len
   ·obtain ⟨cs', h1, h2⟩ := hx i (by omega)
    obtain ⟨rr, hr1, hr2⟩ := hrow h2
    rw [hsz] at h1
    obtain ⟨_, hlen, hc⟩ := World.cells?_some h1
    refine ⟨rr, fun _ => ⟨hr1, fun k n hk => ?_⟩⟩
    have hkl := (List.getElem?_eq_some_iff.1 hk).1
    have := hc k (by omega)
    obtain ⟨B, off, spot⟩ := a
    dsimp only at hs
    subst hs;rw [addr_add, addr_add] at this;rw [addr_add, ← Nat.add_assoc, this, hr2, List.getElem?_map, hk]
    rfl
   ·exact ⟨[], fun q => absurd q hi⟩
  obtain ⟨f, hf⟩ := Classical.axiomOfChoice each
  obtain ⟨e', h', s, k1, k2, k3, k4, k5, _, b, o, rfl⟩ := r.openRowsC (fun x => AVal.int .i64 x) (fun x => Value.int .i64 x) (fun _ _ => .int _ _) (cap := cap) (len := len) (sz := sz) hB hs f hf
  exact ⟨e', h', _, (List.range len).map f, k1, k2, k3, k4, fun l hl => by
   obtain ⟨i, hi, rfl⟩ := List.mem_map.1 hl
   exact (hf i (List.mem_range.1 hi)).1, k5, by rw [List.length_map, List.length_range]; exact hcap, fun _ => ⟨b, o, cap, by rw [List.length_map, List.length_range], by rw [List.length_map, List.length_range]; exact hle⟩⟩
def toS : List Int → Int × Int
 | [a, b] => (a, b)
 | _ => (0, 0)
def toB : List Int → BV
 | [a, b, c, d] => ⟨a, b, c, d⟩
 | _ => ⟨0, 0, 0, 0⟩
def toL : List Int → LV
 | [a, b, c] => ⟨a, b, c⟩
 | _ => ⟨0, 0, 0⟩
theorem ss_eq {R : List (List Int)} (h : ∀ l, l ∈ R → l.length = 2) : (R.map fun l => l.map fun x => AVal.int .i64 x) = (R.map toS).map spC := by
 rw [List.map_map];refine List.map_congr_left fun l hl => ?_
 match l, h l hl with
 | [a, b], _ => rfl
theorem bs_eq {R : List (List Int)} (h : ∀ l, l ∈ R → l.length = 4) : (R.map fun l => l.map fun x => AVal.int .i64 x) = (R.map toB).map BV.cells := by
 rw [List.map_map];refine List.map_congr_left fun l hl => ?_
 match l, h l hl with
 | [a, b, c, d], _ => rfl
theorem ls_eq {R : List (List Int)} (h : ∀ l, l ∈ R → l.length = 3) : (R.map fun l => l.map fun x => AVal.int .i64 x) = (R.map toL).map LV.cells := by
 rw [List.map_map];refine List.map_congr_left fun l hl => ?_
 match l, h l hl with
 | [a, b, c], _ => rfl
theorem array8 {α : Type} {cs : Array α} (h : cs.size = 8) : ∃ c0 c1 c2 c3 c4 c5 c6 c7, cs = #[c0, c1, c2, c3, c4, c5, c6, c7] := by
 obtain ⟨l⟩ := cs
 match l, h with
 | [c0, c1, c2, c3, c4, c5, c6, c7], _ => exact ⟨c0, c1, c2, c3, c4, c5, c6, c7, rfl⟩
theorem cut_of {bs : Nat} {v : Value} {d : DataW H} {p : List MemPlace} (hv : Value.okWide Try.prog W .any bs 28 v) (h : DataW.Trod enc Try.prog W 0 (fun _ => true) true 28 v d p) {e : Env} {hh : AH} (r : HR Try.prog (Base.all W) e hh W) :
  ∃ e' h' C sr sb sl, Env.le e e' ∧ HR Try.prog (Base.all W) e' h' W ∧ Ext hh h' ∧ VR e' (.agg (C.cells sr sb sl)) v ∧ CutAt h' C sr sb sl ∧ C.rs.length < 9223372036854775808 ∧ C.bs.length < 9223372036854775808 ∧ C.ls.length < 9223372036854775808 ∧ CutS sl C.ls.length := by
 have hv2 := hv
 obtain ⟨cs, rfl, hsz⟩ := okWide_struct Try.underlying28 hv
 obtain ⟨c0, c1, c2, c3, c4, c5, c6, c7, rfl⟩ := array8 (hsz.trans cells28)
 obtain ⟨fuel, hf⟩ := h
 obtain ⟨xs, n, _, _, hl, hlen, hfl⟩ := DataW.trod_struct Try.underlying28 hf
 obtain ⟨y0, y1, y2, y3, y4, y5, rfl⟩ := list6 hlen
 have t0 : DataW.trod enc Try.prog W 0 (fun _ => true) true n 23 [c0, c1] = some y0 := by
  have this : DataW.trod enc Try.prog W 0 (fun _ => true) true n 23 (([c0, c1, c2, c3, c4, c5, c6, c7].drop 0).take (Try.prog.cellsOf 23)) = [y0, y1, y2, y3, y4, y5][0]? := hfl 0 _ rfl
  rw [cells23] at this;exact this
 have t1 : DataW.trod enc Try.prog W 0 (fun _ => true) true n 23 [c2, c3] = some y1 := by
  have this : DataW.trod enc Try.prog W 0 (fun _ => true) true n 23 (([c0, c1, c2, c3, c4, c5, c6, c7].drop 2).take (Try.prog.cellsOf 23)) = [y0, y1, y2, y3, y4, y5][1]? := hfl 1 _ rfl
  rw [cells23] at this;exact this
 have t2 : DataW.trod enc Try.prog W 0 (fun _ => true) true n 24 [c4] = some y2 := by
  have this : DataW.trod enc Try.prog W 0 (fun _ => true) true n 24 (([c0, c1, c2, c3, c4, c5, c6, c7].drop 4).take (Try.prog.cellsOf 24)) = [y0, y1, y2, y3, y4, y5][2]? := hfl 2 _ rfl
  rw [cells24] at this;exact this
 have t3 : DataW.trod enc Try.prog W 0 (fun _ => true) true n 3 [c5] = some y3 := by
  have this : DataW.trod enc Try.prog W 0 (fun _ => true) true n 3 (([c0, c1, c2, c3, c4, c5, c6, c7].drop 5).take (Try.prog.cellsOf 3)) = [y0, y1, y2, y3, y4, y5][3]? := hfl 3 _ rfl
  rw [cells3] at this;exact this
 have t4 : DataW.trod enc Try.prog W 0 (fun _ => true) true n 25 [c6] = some y4 := by
  have this : DataW.trod enc Try.prog W 0 (fun _ => true) true n 25 (([c0, c1, c2, c3, c4, c5, c6, c7].drop 6).take (Try.prog.cellsOf 25)) = [y0, y1, y2, y3, y4, y5][4]? := hfl 4 _ rfl
  rw [cells25] at this;exact this
 have t5 : DataW.trod enc Try.prog W 0 (fun _ => true) true n 26 [c7] = some y5 := by
  have this : DataW.trod enc Try.prog W 0 (fun _ => true) true n 26 (([c0, c1, c2, c3, c4, c5, c6, c7].drop 7).take (Try.prog.cellsOf 26)) = [y0, y1, y2, y3, y4, y5][5]? := hfl 5 _ rfl
  rw [cells26] at this;exact this
 unfold Value.okWide at hv2
 rw [Try.underlying28] at hv2
 obtain ⟨cs, hcs, _, ts, hts, _, hrow⟩ := hv2
 injection hcs with hcs
 subst hcs;rw [ctypes28] at hts;cases hts
 obtain ⟨u4, hu4, ok4⟩ := hrow 4 c4 rfl
 obtain ⟨u6, hu6, ok6⟩ := hrow 6 c6 rfl
 obtain ⟨u7, hu7, ok7⟩ := hrow 7 c7 rfl
 cases hu4;cases hu6;cases hu7
 obtain ⟨n0, n1, e0⟩ := span_row t0
 obtain ⟨n2, n3, e1⟩ := span_row t1
 obtain ⟨n5, e3, _⟩ := int_row t3
 simp at e0 e1 e3
 obtain ⟨rfl, rfl⟩ := e0
 obtain ⟨rfl, rfl⟩ := e1
 subst e3
 obtain ⟨ea, ha, s0, R0, a1, a2, a3, a4, a5, a6, a7, a8⟩ := rows_of Try.underlying24 cells23 sp_row t2 ok4 r
 obtain ⟨eb, hb, s1, R1, b1, b2, b3, b4, b5, b6, b7, b8⟩ := rows_of Try.underlying25 cells45 boat_row t4 ok6 a2
 obtain ⟨ec, hc, s2, R2, g1, g2, g3, g4, g5, g6, g7, g8⟩ := rows_of Try.underlying26 cells53 look_row t5 ok7 b2
 rw [ss_eq a5] at a6;rw [bs_eq b5] at b6;rw [ls_eq g5] at g6;refine ⟨ec, hc, ⟨n0, n1, n2, n3, R0.map toS, n5, R1.map toB, R2.map toL⟩, s0, s1, s2, Env.le_trans a1 (Env.le_trans b1 g1), g2, a3.trans (b3.trans g3), ?_, ⟨(a6.ext b3).ext g3, b6.ext g3, g6⟩, by simpa using a7, by simpa using b7, by simpa using g7, by show CutS s2 (R2.map toL).length; rw [List.length_map]; exact g8⟩;exact .agg (CS := [_, _, _, _, _, _, _, _]) (.cons (.int _ _) (.cons (.int _ _) (.cons (.int _ _) (.cons (.int _ _) (.cons ((a4.mono b1).mono g1) (.cons (.int _ _) (.cons (b4.mono g1) (.cons g4 .nil))))))))
end Go.Proofs.Yteibheeleeengaa
