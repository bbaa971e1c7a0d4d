import Derived.Test.YtkcimfopboelaaaGreatMAQ
import Derived.Test.YtkcimfopboelaaaGreatMAH
import Derived.Test.YtkcimfopboelaaaGreatMAG
import Derived.Deep.Slices
import Derived.Lib.SmallJoins
import Derived.Carry
import Derived.Laws.IdiomArrays
import Derived.Test.YtkcimfopboelaaaGreatRows
import Derived.WalkKit
import Derived.ProofKit
import Derived.OpenShut
namespace Go.Proofs.YtkcimfopboelaaaGreat
open Go Go.AbsE
set_option linter.unusedSimpArgs false
set_option maxRecDepth 100000
set_option maxHeartbeats 0
set_option linter.unusedVariables false
theorem law10_bad {R : RoadV} {sp se : AVal} {h : AH} (A : RoadAt h R sp se) (hb : R.ps.length < 9223372036854775808 ∧ R.es.length < 9223372036854775808) {w1 : Int} (O : ¬ R.Ok) : Runs Tryz.prog 10 [.agg [sp, se], .int .u8 w1] h (fun en h' => en = .ret (.bool true) ∧ Ext h h') := by
 have hL := fun {h'} (e : Ext h h') => long13_ok (A.ext e) hb
 by_cases hs : R.ps.length ≤ 40 ∧ R.es.length ≤ 40
 ·rw [decide_eq_false (by simpa using hs)] at hL
  have hR := fun {h'} (e : Ext h h') => Road36_ok (A.ext e) hs.1 hs.2
  rw [decide_eq_false O] at hR
  have e0 : Ext h h := Ext.refl _
  refine Runs.intro aFunc10 rfl rfl rfl rfl fun rest => ?_;apply gS;refine gR rfl ?_;refine GoR.box rfl rfl rfl rfl rfl rfl fun h0 x0 f0 => ?_;replace e0 := e0.trans x0;refine gP ?_;apply gE;iterate 2 apply gS
  refine gR rfl ?_;refine gO rfl rfl (ld25 rfl f0 rfl) rfl ?_;refine GoR.call rfl rfl (aCF aFunc13 rfl) (hL e0) ?_ np;rintro v1 h1 ⟨q, x1⟩;cases q;refine ⟨_, rfl, ?_⟩;replace f0 := f0.ext x1;replace e0 := e0.trans x1;refine gP ?_;refine gO rfl rfl (ld25 rfl f0 rfl) rfl ?_;refine GoR.call rfl rfl (aCF aFunc36 rfl) (hR e0) ?_ np;rintro v2 h2 ⟨q, x2⟩;cases q;refine ⟨_, rfl, ?_⟩;replace e0 := e0.trans x2;iterate 2 refine gP ?_
  apply gE;refine gC (b := true) rfl ?_;apply gS;refine gR rfl ?_;refine GoR.call rfl rfl (aCF aFunc14 rfl) (alive_ok) ?_ np;rintro v3 h3 ⟨q, x3⟩;cases q;refine ⟨_, rfl, ?_⟩;replace e0 := e0.trans x3;refine gP ?_;apply gE;exact gW Tryz.func10 rfl rfl ⟨rfl, e0⟩
 ·rw [decide_eq_true (by simpa using hs)] at hL
  have e0 : Ext h h := Ext.refl _
  refine Runs.intro aFunc10 rfl rfl rfl rfl fun rest => ?_;apply gS;refine gR rfl ?_;refine GoR.box rfl rfl rfl rfl rfl rfl fun h0 x0 f0 => ?_;replace e0 := e0.trans x0;refine gP ?_;apply gE;iterate 2 apply gS
  refine gR rfl ?_;refine gO rfl rfl (ld25 rfl f0 rfl) rfl ?_;refine GoR.call rfl rfl (aCF aFunc13 rfl) (hL e0) ?_ np;rintro v1 h1 ⟨q, x1⟩;cases q;refine ⟨_, rfl, ?_⟩;replace e0 := e0.trans x1;refine gP ?_;iterate 3 refine GoR.skip rfl rfl rfl ?_
  refine gP ?_;apply gE;refine gC (b := true) rfl ?_;apply gS;refine gR rfl ?_;refine GoR.call rfl rfl (aCF aFunc14 rfl) (alive_ok) ?_ np;rintro v2 h2 ⟨q, x2⟩;cases q;refine ⟨_, rfl, ?_⟩;replace e0 := e0.trans x2;refine gP ?_;apply gE;exact gW Tryz.func10 rfl rfl ⟨rfl, e0⟩
theorem grow_same {h : AH} {el : TypeId} {sz lo : Nat} {s : AVal} {n : Nat} {cs : List AVal} (k : Grow h el sz lo s n cs) : sameA s s = true := by
 rcases k.2 with ⟨rfl, _⟩ | ⟨_, b, _, rfl, _⟩
 ·rfl
 ·simp [sameA]
theorem evc_scal : ∀ L : List EV, scalars (L.flatMap EV.cells) = true
 | [] => rfl
 | x :: L => by rw [List.flatMap_cons]; exact evc_scal L
theorem dry_ok {R : RoadV} (O : R.Ok) {v : Nat} (hl : (R.dry v).es.length ≤ 10) : (R.dry v).Ok where
 np := O.np
 ne := hl
 p := O.p
 e := fun e he => by
  rcases List.mem_append.1 he with he | he
  ·exact O.e e (List.mem_of_mem_take he)
  ·rcases List.mem_append.1 he with he | he
   ·unfold dryLooks at he
    obtain ⟨p, hp, rfl⟩ := List.mem_map.1 he
    have := List.mem_range.1 hp
    show EV.Ok _ _
    unfold EV.Ok mkLook
    have hq : (R.dry v).ps.length = R.ps.length := rfl
    dsimp only
    omega
   ·exact O.e e (List.mem_of_mem_drop he)
 d := by
  have h0 : doubtsV (dryLooks R.ps.length) = 0 := by
   unfold doubtsV
   rw [List.length_eq_zero_iff, List.filter_eq_nil_iff]
   intro e he
   obtain ⟨p, rfl⟩ := dryLooks_mem he
   simp [mkLook, EV.doubt]
  have happ : ∀ A B : List EV, doubtsV (A ++ B) = doubtsV A + doubtsV B := fun A B => by
   unfold doubtsV
   rw [List.filter_append, List.length_append]
  have h1 : doubtsV (R.dry v).es = doubtsV R.es := by
   show doubtsV (R.es.take (v + 1) ++ (dryLooks R.ps.length ++ R.es.drop (v + 1))) = _
   rw [happ, happ, h0, Nat.zero_add, ← happ, List.take_append_drop]
  rw [h1];exact O.d
theorem fdiv_zero (i : Nat) : ((0 : Nat) : Int).fdiv (2 ^ i) = 0 := by simp
theorem law10_ok {R : RoadV} {sp se : AVal} {h : AH} (A : RoadAt h R sp se) (O : R.Ok) {w : Nat} (hw : w < 256) (hC : CutS se R.es.length) : Runs Tryz.prog 10 [.agg [sp, se], .int .u8 w] h (fun en h' => en = .ret (.bool true) ∧ Ext h h') := by
 have hnp := O.np
 have hne := O.ne
 have hs : R.ps.length ≤ 40 ∧ R.es.length ≤ 40 := by omega
 have hL := fun {h'} (e : Ext h h') => long13_ok (A.ext e) (by omega)
 rw [decide_eq_false (by simpa using hs)] at hL
 have hR := fun {h'} (e : Ext h h') => Road36_ok (A.ext e) hs.1 hs.2
 rw [decide_eq_true O] at hR
 have hl1 := A.ps.len
 have hl2 := A.es.len
 rw [List.length_map] at hl1 hl2
 have hBe := fun {h'} (e : Ext h h') => Below_ok (A.ext e) hs.1 hs.2
 have hWe := fun {h'} (e : Ext h h') => Weak_ok (A.ext e) hs.1 hs.2
 have h64 : R.es.length ≤ 64 := by omega
 cases hp : R.possible with
 | false =>
  rw [show R.belowR = ((0, 0), 10) from by unfold RoadV.belowR; rw [if_pos O, if_neg (by rw [hp]; decide)]] at hBe;rw [show R.weakR = (0, 10) from by unfold RoadV.weakR; rw [if_pos O, if_neg (by rw [hp]; decide)]] at hWe
  have e0 : Ext h h := Ext.refl _
  refine Runs.intro aFunc10 rfl rfl rfl rfl fun rest => ?_;apply gS;refine gR rfl ?_;refine GoR.box rfl rfl rfl rfl rfl rfl fun h65 x65 f65 => ?_;have := e0.1;replace e0 := e0.trans x65;have := f65.1;refine gP ?_;apply gE;iterate 2 apply gS
  refine gR rfl ?_;refine gO rfl rfl (ld25 rfl f65 rfl) rfl ?_;refine GoR.call rfl rfl (aCF aFunc13 rfl) (hL e0) ?_ np;rintro v66 h66 ⟨q, x66⟩;cases q;refine ⟨_, rfl, ?_⟩;replace f65 := f65.ext x66;replace e0 := e0.trans x66;refine gP ?_;refine gO rfl rfl (ld25 rfl f65 rfl) rfl ?_;refine GoR.call rfl rfl (aCF aFunc36 rfl) (hR e0) ?_ np;rintro v67 h67 ⟨q, x67⟩;cases q;refine ⟨_, rfl, ?_⟩;replace f65 := f65.ext x67;replace e0 := e0.trans x67;iterate 2 refine gP ?_
  apply gE;refine gC (b := false) rfl ?_;refine gD ?_;apply gS;refine gR rfl ?_;refine gO rfl rfl (ld25 rfl f65 rfl) rfl ?_;refine GoR.call rfl rfl (aCF aFunc21 rfl) (hBe e0) ?_ np;rintro v68 h68 ⟨q, x68⟩;cases q;refine ⟨_, rfl, ?_⟩;replace f65 := f65.ext x68;replace e0 := e0.trans x68;iterate 7 refine gP ?_
  apply gE;apply gS;refine gR rfl ?_;refine gO rfl rfl (ld25 rfl f65 rfl) rfl ?_;refine GoR.call rfl rfl (aCF aFunc28 rfl) (hWe e0) ?_ np;rintro v69 h69 ⟨q, x69⟩;cases q;refine ⟨_, rfl, ?_⟩;replace f65 := f65.ext x69;replace e0 := e0.trans x69;iterate 5 refine gP ?_
  apply gE;iterate 2 apply gS
  refine gR rfl ?_;iterate 2 refine gP ?_
  refine gO rfl rfl (kXF rfl rfl) rfl ?_;iterate 3 refine gP ?_
  refine gO rfl rfl (aOp_andNot (a := 0) (b := 0) (r := 0) rfl rfl (by omega) (by decide)) rfl ?_;refine gO rfl rfl (kXF rfl rfl) rfl ?_;iterate 3 refine gP ?_
  refine gO rfl rfl (fa25_1 rfl) rfl ?_;refine gO rfl rfl (ld23 rfl f65 rfl) rfl ?_;refine gO rfl rfl (aOp_lenSlice Tryz.underlying23 rfl hl2) rfl ?_;refine gO rfl rfl (aOp_shr rfl rfl h64 (fdiv_zero _)) rfl ?_;refine gO rfl rfl (kXF rfl rfl) rfl ?_;iterate 3 refine gP ?_
  refine gO rfl rfl (kLF rfl rfl) rfl ?_;refine gP ?_;apply gE;refine gC (b := false) rfl ?_;refine gD ?_;iterate 2 apply gS
  refine gR rfl ?_;refine gP ?_;refine gO rfl rfl (kXT rfl rfl) rfl ?_;apply gE;refine gC (b := true) rfl ?_;apply gS;refine gR rfl ?_;refine gP ?_;refine gO rfl rfl (kET rfl rfl) rfl ?_;iterate 2 refine gP ?_
  refine gO rfl rfl (aOp_eql rfl rfl (r := true) (decide_eq_true (by simp))) rfl ?_;iterate 3 refine gP ?_
  refine gO rfl rfl (aOp_eql rfl rfl (r := true) (decide_eq_true (by simp))) rfl ?_;iterate 3 refine gP ?_
  refine gO rfl rfl (kET rfl rfl) rfl ?_;iterate 2 refine gP ?_
  refine GoR.call rfl rfl (aCF aFunc14 rfl) (alive_ok) ?_ np;rintro v70 h70 ⟨q, x70⟩;cases q;refine ⟨_, rfl, ?_⟩;replace f65 := f65.ext x70;replace e0 := e0.trans x70;iterate 2 refine gP ?_
  apply gE;exact gW Tryz.func10 rfl rfl ⟨rfl, e0⟩
 | true =>
  rw [belowR_is O hp] at hBe;rw [show R.weakR = (R.weak, 0) from by unfold RoadV.weakR; rw [if_pos O, if_pos hp]] at hWe
  obtain ⟨k, hk, hkl, hkw⟩ := weak_is O hp
  rw [hk] at hWe
  obtain ⟨S, hS⟩ : ∃ S, R.surely = S := ⟨_, rfl⟩
  obtain ⟨T, hT⟩ : ∃ T, R.perhaps = T := ⟨_, rfl⟩
  have hST := surely_perhaps O hp
  have hS2 : R.surely < 2 ^ R.es.length := bitsV_lt _ _
  have hT2 : R.perhaps < 2 ^ R.es.length := bitsV_lt _ _
  have h2n : 2 ^ R.es.length ≤ 2 ^ 10 := Nat.pow_le_pow_right (by decide) hne
  have hTd : ((R.perhaps : Nat) : Int).fdiv (2 ^ R.es.length) = 0 := by
   rw [Int.fdiv_eq_ediv_of_nonneg _ (Int.pow_nonneg (by decide))];exact Int.ediv_eq_zero_of_lt (by omega) (by exact_mod_cast hT2)
  rw [hS, hT] at hBe;rw [hS, hT] at hST;rw [hS] at hS2;rw [hT] at hT2 hTd
  dsimp only at hBe hWe
  by_cases hz : R.es.length = 0
  ·rw [hz] at hl2 hTd
   have e0 : Ext h h := Ext.refl _
   refine Runs.intro aFunc10 rfl rfl rfl rfl fun rest => ?_;apply gS;refine gR rfl ?_;refine GoR.box rfl rfl rfl rfl rfl rfl fun h65 x65 f65 => ?_;have := e0.1;replace e0 := e0.trans x65;have := f65.1;refine gP ?_;apply gE;iterate 2 apply gS
   refine gR rfl ?_;refine gO rfl rfl (ld25 rfl f65 rfl) rfl ?_;refine GoR.call rfl rfl (aCF aFunc13 rfl) (hL e0) ?_ np;rintro v66 h66 ⟨q, x66⟩;cases q;refine ⟨_, rfl, ?_⟩;replace f65 := f65.ext x66;replace e0 := e0.trans x66;refine gP ?_;refine gO rfl rfl (ld25 rfl f65 rfl) rfl ?_;refine GoR.call rfl rfl (aCF aFunc36 rfl) (hR e0) ?_ np;rintro v67 h67 ⟨q, x67⟩;cases q;refine ⟨_, rfl, ?_⟩;replace f65 := f65.ext x67;replace e0 := e0.trans x67;iterate 2 refine gP ?_
   apply gE;refine gC (b := false) rfl ?_;refine gD ?_;apply gS;refine gR rfl ?_;refine gO rfl rfl (ld25 rfl f65 rfl) rfl ?_;refine GoR.call rfl rfl (aCF aFunc21 rfl) (hBe e0) ?_ np;rintro v68 h68 ⟨q, x68⟩;cases q;refine ⟨_, rfl, ?_⟩;replace f65 := f65.ext x68;replace e0 := e0.trans x68;iterate 7 refine gP ?_
   apply gE;apply gS;refine gR rfl ?_;refine gO rfl rfl (ld25 rfl f65 rfl) rfl ?_;refine GoR.call rfl rfl (aCF aFunc28 rfl) (hWe e0) ?_ np;rintro v69 h69 ⟨q, x69⟩;cases q;refine ⟨_, rfl, ?_⟩;replace f65 := f65.ext x69;replace e0 := e0.trans x69;iterate 5 refine gP ?_
   apply gE;iterate 2 apply gS
   refine gR rfl ?_;iterate 2 refine gP ?_
   refine gO rfl rfl (kXF rfl rfl) rfl ?_;iterate 3 refine gP ?_
   refine gO rfl rfl (aOp_andNot rfl rfl (by omega) hST) rfl ?_;refine gO rfl rfl (kXF rfl rfl) rfl ?_;iterate 3 refine gP ?_
   refine gO rfl rfl (fa25_1 rfl) rfl ?_;refine gO rfl rfl (ld23 rfl f65 rfl) rfl ?_;refine gO rfl rfl (aOp_lenSlice Tryz.underlying23 rfl hl2) rfl ?_;refine gO rfl rfl (aOp_shr (i := 0) rfl rfl (by omega) hTd) rfl ?_;refine gO rfl rfl (kXF rfl rfl) rfl ?_;iterate 3 refine gP ?_
   refine gO rfl rfl (kLF rfl rfl) rfl ?_;refine gP ?_;apply gE;refine gC (b := false) rfl ?_;refine gD ?_;iterate 2 apply gS
   refine gR rfl ?_;refine gP ?_;refine gO rfl rfl (kXF rfl rfl) rfl ?_;apply gE;refine gC (b := false) rfl ?_;refine gD ?_;iterate 2 apply gS
   refine gR rfl ?_;refine gP ?_;refine gO rfl rfl (kLF rfl rfl) rfl ?_;iterate 2 refine gP ?_
   refine gO rfl rfl (fa25_0 rfl) rfl ?_;refine gO rfl rfl (ld22 rfl f65 rfl) rfl ?_;refine gO rfl rfl (aOp_lenSlice Tryz.underlying22 rfl hl1) rfl ?_;refine gO rfl rfl (kNF rfl rfl) rfl ?_;refine gP ?_;apply gE;refine gC (b := false) rfl ?_;refine gD ?_;iterate 2 apply gS
   refine gR rfl ?_;refine gO rfl rfl (fa25_1 rfl) rfl ?_;refine gO rfl rfl (ld23 rfl f65 rfl) rfl ?_;refine gO rfl rfl (aOp_lenSlice Tryz.underlying23 rfl hl2) rfl ?_;refine gO rfl rfl (kET rfl rfl) rfl ?_;apply gE;refine gC (b := true) rfl ?_;iterate 2 apply gS
   refine gR rfl ?_;refine gO rfl rfl (fa25_0 rfl) rfl ?_;refine gO rfl rfl (ld22 rfl f65 rfl) rfl ?_;refine gO rfl rfl (aOp_lenSlice Tryz.underlying22 rfl hl1) rfl ?_;refine gP ?_;apply gE;refine Go.block noJ_ok ?_;refine Go.loopKeep (fun i : Nat => [(2, .ptr h.next 0), (8, .int .i64 (k : Nat)), (101, sp), (102, .int .i64 R.ps.length), (103, .int .i64 (i : Nat))]) (fun m i h' => m + i = R.ps.length ∧ Ext h h' ∧ Has h' h.next (.cells .plain [sp, se] 25)) (n := R.ps.length) 0 ⟨rfl, rfl, rfl, rfl, rfl, trivial⟩ ⟨rfl, e0, f65⟩ ?_;clear e0 f65;rintro m i h70 ⟨hm, e0, f0⟩ again
   have hnil : R.es = [] := List.length_eq_zero_iff.1 hz
   by_cases hi : i < R.ps.length
   ·obtain ⟨x, hx⟩ : ∃ x, R.ps[i]? = some x := ⟨R.ps[i], by simp [hi]⟩
    obtain ⟨y, hy⟩ : ∃ y, R.ps[k]? = some y := ⟨R.ps[k], by simp [hkl]⟩
    obtain ⟨bq, off, q1, q2⟩ := (A.ps.ext e0).at (i := i) (l := PV.cells x) (by rw [List.getElem?_map, hx]; rfl)
    obtain ⟨br, off2, q3, q4⟩ := (A.ps.ext e0).at (i := k) (l := PV.cells y) (by rw [List.getElem?_map, hy]; rfl)
    rw [List.length_map] at q1 q3
    obtain ⟨w1, w2⟩ := hkw i hi
    rw [nil_spread O hnil hx, nil_spread O hnil hy] at w1 w2
    obtain ⟨x1, x2, x3, x4, x5, x6, x7⟩ := x
    obtain ⟨y1, y2, y3, y4, y5, y6, y7⟩ := y
    dsimp only at w1 w2
    unfold PV.cells at q2 q4
    dsimp only at q2 q4
    have e1 : Ext h70 h70 := Ext.refl _
    by_cases hxy : x1 = y1
    ·have hki := w2 hxy
     subst hxy;apply gS;refine gR rfl ?_;refine gO rfl rfl (kLT rfl rfl) rfl ?_;apply gE;apply gS;refine gC (b := true) rfl ?_;refine gD ?_;apply gS;refine Go.block noJ_ok ?_;apply gS;refine gR rfl ?_;refine gP ?_;refine gO rfl rfl (aOp_indexAddr (i := i) Tryz.underlying22 sz58 rfl q1 rfl (Nat.ble_eq_true_of_le hi)) rfl ?_;refine gO rfl rfl (aOp_loadE ag58 sz58 rfl (q2.ext e1)) rfl ?_;refine GoR.alloc rfl rfl rfl zt58 rfl rfl fun h71 x71 f71 => ?_;have := e0.1;have := e1.1;have := f0.1;replace f0 := f0.ext x71;replace e0 := e0.trans x71;replace e1 := e1.trans x71;have := f71.1;refine gP ?_;refine GoR.store rfl rfl rfl rfl rfl rfl f71 rfl sz58 rfl rfl rfl fun h72 u72 => ?_;replace f71 := u72.has f71;replace f0 := f0.upd u72 (by omega);replace e0 := e0.upd u72 (by omega);replace e1 := e1.upd u72 (by omega);apply gE;apply gS;refine gR rfl ?_;refine gO rfl rfl (fa25_0 rfl) rfl ?_;refine gO rfl rfl (ld22 rfl f0 rfl) rfl ?_;refine gP ?_;refine gO rfl rfl (aOp_indexAddr (i := k) Tryz.underlying22 sz58 rfl q3 rfl (Nat.ble_eq_true_of_le hkl)) rfl ?_;refine gO rfl rfl (fa58_0 rfl) rfl ?_;refine gO rfl rfl (fa29_0 rfl) rfl ?_;refine gO rfl rfl (aOp_loadE1 (k := 0) ag3 rfl (q4.ext e1) rfl) rfl ?_;refine gP ?_;apply gE;apply gS;refine gR rfl ?_;refine gO rfl rfl (fa58_0 rfl) rfl ?_;refine gO rfl rfl (fa29_0 rfl) rfl ?_;refine gO rfl rfl (ld3 rfl f71 rfl) rfl ?_;refine gP ?_;refine gO rfl rfl (kLF rfl rfl) rfl ?_;refine gP ?_;refine gO rfl rfl (fa58_0 rfl) rfl ?_;refine gO rfl rfl (fa29_0 rfl) rfl ?_;refine gO rfl rfl (ld3 rfl f71 rfl) rfl ?_;refine gP ?_;refine gO rfl rfl (kET rfl rfl) rfl ?_;iterate 3 refine gP ?_
     refine gO rfl rfl (kLF rfl rfl) rfl ?_;iterate 2 refine gP ?_
     apply gE;refine gC (b := false) rfl ?_;refine gD ?_;refine Go.inBlock noJ_ok ?_;refine gR rfl ?_;refine gO rfl rfl (aA rfl rfl) rfl ?_;refine gP ?_;apply gE;exact again (m - 1) (i + 1) _ _ (by omega) ⟨rfl, rfl, rfl, rfl, rfl, trivial⟩ ⟨by omega, e0, f0⟩
    ·apply gS;refine gR rfl ?_;refine gO rfl rfl (kLT rfl rfl) rfl ?_;apply gE;apply gS;refine gC (b := true) rfl ?_;refine gD ?_;apply gS;refine Go.block noJ_ok ?_;apply gS;refine gR rfl ?_;refine gP ?_;refine gO rfl rfl (aOp_indexAddr (i := i) Tryz.underlying22 sz58 rfl q1 rfl (Nat.ble_eq_true_of_le hi)) rfl ?_;refine gO rfl rfl (aOp_loadE ag58 sz58 rfl (q2.ext e1)) rfl ?_;refine GoR.alloc rfl rfl rfl zt58 rfl rfl fun h71 x71 f71 => ?_;have := e0.1;have := e1.1;have := f0.1;replace f0 := f0.ext x71;replace e0 := e0.trans x71;replace e1 := e1.trans x71;have := f71.1;refine gP ?_;refine GoR.store rfl rfl rfl rfl rfl rfl f71 rfl sz58 rfl rfl rfl fun h72 u72 => ?_;replace f71 := u72.has f71;replace f0 := f0.upd u72 (by omega);replace e0 := e0.upd u72 (by omega);replace e1 := e1.upd u72 (by omega);apply gE;apply gS;refine gR rfl ?_;refine gO rfl rfl (fa25_0 rfl) rfl ?_;refine gO rfl rfl (ld22 rfl f0 rfl) rfl ?_;refine gP ?_;refine gO rfl rfl (aOp_indexAddr (i := k) Tryz.underlying22 sz58 rfl q3 rfl (Nat.ble_eq_true_of_le hkl)) rfl ?_;refine gO rfl rfl (fa58_0 rfl) rfl ?_;refine gO rfl rfl (fa29_0 rfl) rfl ?_;refine gO rfl rfl (aOp_loadE1 (k := 0) ag3 rfl (q4.ext e1) rfl) rfl ?_;refine gP ?_;apply gE;apply gS;refine gR rfl ?_;refine gO rfl rfl (fa58_0 rfl) rfl ?_;refine gO rfl rfl (fa29_0 rfl) rfl ?_;refine gO rfl rfl (ld3 rfl f71 rfl) rfl ?_;refine gP ?_;refine gO rfl rfl (kLF rfl rfl) rfl ?_;refine gP ?_;refine gO rfl rfl (fa58_0 rfl) rfl ?_;refine gO rfl rfl (fa29_0 rfl) rfl ?_;refine gO rfl rfl (ld3 rfl f71 rfl) rfl ?_;refine gP ?_;refine gO rfl rfl (kEF rfl rfl) rfl ?_;refine gP ?_;iterate 3 refine GoR.skip rfl rfl rfl ?_
     iterate 2 refine gP ?_
     apply gE;refine gC (b := false) rfl ?_;refine gD ?_;refine Go.inBlock noJ_ok ?_;refine gR rfl ?_;refine gO rfl rfl (aA rfl rfl) rfl ?_;refine gP ?_;apply gE;exact again (m - 1) (i + 1) _ _ (by omega) ⟨rfl, rfl, rfl, rfl, rfl, trivial⟩ ⟨by omega, e0, f0⟩
   ·clear again;apply gS;refine gR rfl ?_;refine gO rfl rfl (kLF rfl rfl) rfl ?_;apply gE;apply gS;refine gC (b := false) rfl ?_;refine gD ?_;apply gS;refine gR rfl ?_;refine GoR.call rfl rfl (aCF aFunc14 rfl) (alive_ok) ?_ np;rintro v71 h71 ⟨q, x71⟩;cases q;refine ⟨_, rfl, ?_⟩;replace e0 := e0.trans x71;refine gP ?_;apply gE;exact gW Tryz.func10 rfl rfl ⟨rfl, e0⟩
  ·obtain ⟨v, hv⟩ : ∃ v, w % R.es.length = v := ⟨_, rfl⟩
   have hvl : v < R.es.length := by rw [← hv]; exact Nat.mod_lt _ (by omega)
   have hne0 : R.es ≠ [] := fun q => hz (by rw [q]; rfl)
   obtain ⟨cb, co, cc, hse, hC2⟩ := hC hz
   have hlast : (R.es.length : Int) - 1 = ((R.es.length - 1 : Nat) : Int) := by omega
   obtain ⟨E, hE⟩ : ∃ E : Nat → Int × Int, E = fun i => spreadV R.known i fun f => (f.hs[R.es.length - 1]?).getD 0 := ⟨_, rfl⟩
   obtain ⟨D, hD⟩ : ∃ D : Nat → Int × Int, D = fun i => spreadV R.known i fun f => (f.hs[v]?).getD 0 := ⟨_, rfl⟩
   have hH : ∀ {h'} (e : Ext h h') (i : Nat), i < R.ps.length → Runs Tryz.prog 15 [.agg [sp, se], .int .i64 (i : Nat), .int .i64 ((R.es.length : Int) - 1)] h' (fun en h2 => en = .ret (.tuple [.agg (spC (E i)), .int .i64 0]) ∧ Ext h' h2) := fun e i hi => by
    have := Height_ok (A.ext e) hs.1 hs.2 (i : Nat) ((R.es.length : Int) - 1)
    rw [show R.heightR (i : Nat) ((R.es.length : Int) - 1) = (E i, 0) from by rw [hlast, heightR_is O hi (by omega), if_pos hp, hE]] at this;exact this
   have hHv : ∀ {h'} (e : Ext h h') (i : Nat), i < R.ps.length → Runs Tryz.prog 15 [.agg [sp, se], .int .i64 (i : Nat), .int .i64 (v : Nat)] h' (fun en h2 => en = .ret (.tuple [.agg (spC (D i)), .int .i64 0]) ∧ Ext h' h2) := fun e i hi => by
    have := Height_ok (A.ext e) hs.1 hs.2 (i : Nat) (v : Nat)
    rw [show R.heightR (i : Nat) (v : Nat) = (D i, 0) from by rw [heightR_is O hi hvl, if_pos hp, hD]] at this;exact this
   have hEw : ∀ i, i < R.ps.length → (E k).1 ≤ (E i).1 ∧ ((E i).1 = (E k).1 → k ≤ i) := fun i hi => by
    have h1 : ∀ j, E j = spreadV R.known j fun f => f.x.height := fun j => by
     rw [hE];exact congrArg joinL (List.map_congr_left fun f hf => congrArg (fun n => (n, n)) (last_at hne0 hf))
    rw [h1 i, h1 k];exact hkw i hi
   have e0 : Ext h h := Ext.refl _
   refine Runs.intro aFunc10 rfl rfl rfl rfl fun rest => ?_;apply gS;refine gR rfl ?_;refine GoR.box rfl rfl rfl rfl rfl rfl fun h65 x65 f65 => ?_;have := e0.1;replace e0 := e0.trans x65;have := f65.1;refine gP ?_;apply gE;iterate 2 apply gS
   refine gR rfl ?_;refine gO rfl rfl (ld25 rfl f65 rfl) rfl ?_;refine GoR.call rfl rfl (aCF aFunc13 rfl) (hL e0) ?_ np;rintro v66 h66 ⟨q, x66⟩;cases q;refine ⟨_, rfl, ?_⟩;replace f65 := f65.ext x66;replace e0 := e0.trans x66;refine gP ?_;refine gO rfl rfl (ld25 rfl f65 rfl) rfl ?_;refine GoR.call rfl rfl (aCF aFunc36 rfl) (hR e0) ?_ np;rintro v67 h67 ⟨q, x67⟩;cases q;refine ⟨_, rfl, ?_⟩;replace f65 := f65.ext x67;replace e0 := e0.trans x67;iterate 2 refine gP ?_
   apply gE;refine gC (b := false) rfl ?_;refine gD ?_;apply gS;refine gR rfl ?_;refine gO rfl rfl (ld25 rfl f65 rfl) rfl ?_;refine GoR.call rfl rfl (aCF aFunc21 rfl) (hBe e0) ?_ np;rintro v68 h68 ⟨q, x68⟩;cases q;refine ⟨_, rfl, ?_⟩;replace f65 := f65.ext x68;replace e0 := e0.trans x68;iterate 7 refine gP ?_
   apply gE;apply gS;refine gR rfl ?_;refine gO rfl rfl (ld25 rfl f65 rfl) rfl ?_;refine GoR.call rfl rfl (aCF aFunc28 rfl) (hWe e0) ?_ np;rintro v69 h69 ⟨q, x69⟩;cases q;refine ⟨_, rfl, ?_⟩;replace f65 := f65.ext x69;replace e0 := e0.trans x69;iterate 5 refine gP ?_
   apply gE;iterate 2 apply gS
   refine gR rfl ?_;iterate 2 refine gP ?_
   refine gO rfl rfl (kXF rfl rfl) rfl ?_;iterate 3 refine gP ?_
   refine gO rfl rfl (aOp_andNot rfl rfl (by omega) hST) rfl ?_;refine gO rfl rfl (kXF rfl rfl) rfl ?_;iterate 3 refine gP ?_
   refine gO rfl rfl (fa25_1 rfl) rfl ?_;refine gO rfl rfl (ld23 rfl f65 rfl) rfl ?_;refine gO rfl rfl (aOp_lenSlice Tryz.underlying23 rfl hl2) rfl ?_;refine gO rfl rfl (aOp_shr rfl rfl h64 hTd) rfl ?_;refine gO rfl rfl (kXF rfl rfl) rfl ?_;iterate 3 refine gP ?_
   refine gO rfl rfl (kLF rfl rfl) rfl ?_;refine gP ?_;apply gE;refine gC (b := false) rfl ?_;refine gD ?_;iterate 2 apply gS
   refine gR rfl ?_;refine gP ?_;refine gO rfl rfl (kXF rfl rfl) rfl ?_;apply gE;refine gC (b := false) rfl ?_;refine gD ?_;iterate 2 apply gS
   refine gR rfl ?_;refine gP ?_;refine gO rfl rfl (kLF rfl rfl) rfl ?_;iterate 2 refine gP ?_
   refine gO rfl rfl (fa25_0 rfl) rfl ?_;refine gO rfl rfl (ld22 rfl f65 rfl) rfl ?_;refine gO rfl rfl (aOp_lenSlice Tryz.underlying22 rfl hl1) rfl ?_;refine gO rfl rfl (kNF rfl rfl) rfl ?_;refine gP ?_;apply gE;refine gC (b := false) rfl ?_;refine gD ?_;iterate 2 apply gS
   refine gR rfl ?_;refine gO rfl rfl (fa25_1 rfl) rfl ?_;refine gO rfl rfl (ld23 rfl f65 rfl) rfl ?_;refine gO rfl rfl (aOp_lenSlice Tryz.underlying23 rfl hl2) rfl ?_;refine gO rfl rfl (kEF rfl rfl) rfl ?_;apply gE;refine gC (b := false) rfl ?_;refine gD ?_;apply gS;refine Go.drawnE plan10_0 ?_;refine gQ rfl rfl rfl rfl ?_;refine gQ rfl rfl (aOp_convU8 rfl Tryz.underlying5 Tryz.underlying3 (by omega)) rfl ?_;refine gQ rfl rfl (fa25_1 rfl) rfl ?_;refine gQ rfl rfl (ld23 rfl f65 rfl) rfl ?_;refine gQ rfl rfl (aOp_lenSlice Tryz.underlying23 rfl hl2) rfl ?_;refine gQ rfl rfl (aOp_rem (r := ((v : Nat) : Int)) rfl rfl (by omega) (by rw [← hv]; rfl)) rfl ?_;refine gQ rfl rfl (fa25_1 rfl) rfl ?_;refine gQ rfl rfl (ld23 rfl f65 rfl) rfl ?_;refine gQ rfl rfl (aOp_lenSlice Tryz.underlying23 rfl hl2) rfl ?_;refine gQ rfl rfl (aS rfl rfl) rfl ?_;iterate 2 refine gQ rfl rfl rfl rfl ?_
   refine GoE.end rfl ?_;apply gS;refine gR rfl ?_;iterate 2 refine gP ?_
   apply gE;apply gS;refine gR rfl ?_;refine gO rfl rfl (ld25 rfl f65 rfl) rfl ?_;iterate 2 refine gP ?_
   refine GoR.call rfl rfl (aCF aFunc15 rfl) (hH e0 k hkl) ?_ np;rintro v70 h70 ⟨q, x70⟩;cases q;refine ⟨_, rfl, ?_⟩;replace f65 := f65.ext x70;replace e0 := e0.trans x70;iterate 3 refine gP ?_
   refine GoR.alloc rfl rfl rfl zt29 rfl rfl fun h71 x71 f71 => ?_;have := e0.1;have := f65.1;replace f65 := f65.ext x71;replace e0 := e0.trans x71;have := f71.1;refine GoR.store rfl rfl rfl rfl rfl rfl f71 rfl sz29 rfl rfl rfl fun h72 u72 => ?_;replace f71 := u72.has f71;replace f65 := f65.upd u72 (by omega);replace e0 := e0.upd u72 (by omega);refine gP ?_;apply gE;iterate 2 apply gS
   refine gR rfl ?_;refine gO rfl rfl (fa25_0 rfl) rfl ?_;refine gO rfl rfl (ld22 rfl f65 rfl) rfl ?_;refine gO rfl rfl (aOp_lenSlice Tryz.underlying22 rfl hl1) rfl ?_;refine gP ?_;apply gE;refine Go.block noJ_ok ?_
   refine Go.loopKeep (fun a : Nat × Bool × Bool => [(2, .ptr h.next 0), (5, .int .i64 (S : Nat)), (6, .int .i64 (T : Nat)), (8, .int .i64 (k : Nat)), (13, .int .i64 (v : Nat)), (14, .int .i64 ((R.es.length : Int) - 1)), (17, .ptr h70.next 0), (18, .int .i64 0), (152, sp), (153, .int .i64 R.ps.length), (154, .int .i64 (a.1 : Nat)), (15, .bool a.2.1), (16, .bool a.2.2)])
    (fun m a h' => m + a.1 = R.ps.length ∧ a.2.1 = (List.range a.1).any (fun j => decide ((D j).1 < 0)) ∧ a.2.2 = (List.range a.1).any (fun j => decide ((D j).2 < 0)) ∧ Ext h h' ∧ Has h' h.next (.cells .plain [sp, se] 25) ∧ Has h' h70.next (.cells .plain [.int .i64 (E k).1, .int .i64 (E k).2] 29)) (n := R.ps.length) (0, false, false) ⟨rfl, rfl, rfl, rfl, rfl, rfl, rfl, rfl, rfl, rfl, rfl, rfl, rfl, trivial⟩ ⟨rfl, rfl, rfl, e0, f65, f71⟩ ?_
   clear e0 f65 f71;rintro m ⟨i, low, sure⟩ h80 ⟨hm, hlow, hsure, e0, f0, f71⟩ again
   dsimp only at hm hlow hsure ⊢
   by_cases hi : i < R.ps.length
   ·obtain ⟨g1, g2⟩ := hEw i hi
    have n1 : (List.range (i + 1)).any (fun j => decide ((D j).1 < 0)) = (low || decide ((D i).1 < 0)) := by rw [List.range_succ, List.any_append, ← hlow]; simp
    have n2 : (List.range (i + 1)).any (fun j => decide ((D j).2 < 0)) = (sure || decide ((D i).2 < 0)) := by rw [List.range_succ, List.any_append, ← hsure]; simp
    have hki : (E i).1 = (E k).1 → k ≤ i := g2
    by_cases hx : (E i).1 = (E k).1
    ·have hk3 := hki hx
     apply gS;refine gR rfl ?_;refine gO rfl rfl (kLT rfl rfl) rfl ?_;apply gE;apply gS;refine gC (b := true) rfl ?_;refine gD ?_;apply gS;refine Go.block noJ_ok ?_;apply gS;refine gR rfl ?_;iterate 2 refine gP ?_
     apply gE;apply gS;refine gR rfl ?_;refine gO rfl rfl (ld25 rfl f0 rfl) rfl ?_;iterate 2 refine gP ?_
     refine GoR.call rfl rfl (aCF aFunc15 rfl) (hHv e0 i hi) ?_ np;rintro v81 h81 ⟨q, x81⟩;cases q;refine ⟨_, rfl, ?_⟩;replace f0 := f0.ext x81;replace f71 := f71.ext x81;replace e0 := e0.trans x81;iterate 3 refine gP ?_
     refine GoR.alloc rfl rfl rfl zt29 rfl rfl fun h82 x82 f82 => ?_;have := e0.1;have := f0.1;have := f71.1;replace f0 := f0.ext x82;replace f71 := f71.ext x82;replace e0 := e0.trans x82;have := f82.1;refine GoR.store rfl rfl rfl rfl rfl rfl f82 rfl sz29 rfl rfl rfl fun h83 u83 => ?_;replace f82 := u83.has f82;replace f0 := f0.upd u83 (by omega);replace f71 := f71.upd u83 (by omega);replace e0 := e0.upd u83 (by omega);refine gP ?_;apply gE;apply gS;refine gR rfl ?_;refine gO rfl rfl (ld25 rfl f0 rfl) rfl ?_;iterate 2 refine gP ?_
     refine GoR.call rfl rfl (aCF aFunc15 rfl) (hH e0 i hi) ?_ np;rintro v84 h84 ⟨q, x84⟩;cases q;refine ⟨_, rfl, ?_⟩;replace f82 := f82.ext x84;replace f0 := f0.ext x84;replace f71 := f71.ext x84;replace e0 := e0.trans x84;iterate 3 refine gP ?_
     refine GoR.alloc rfl rfl rfl zt29 rfl rfl fun h85 x85 f85 => ?_;have := e0.1;have := f82.1;have := f0.1;have := f71.1;replace f82 := f82.ext x85;replace f0 := f0.ext x85;replace f71 := f71.ext x85;replace e0 := e0.trans x85;have := f85.1;refine GoR.store rfl rfl rfl rfl rfl rfl f85 rfl sz29 rfl rfl rfl fun h86 u86 => ?_;replace f85 := u86.has f85;replace f82 := f82.upd u86 (by omega);replace f0 := f0.upd u86 (by omega);replace f71 := f71.upd u86 (by omega);replace e0 := e0.upd u86 (by omega);refine gP ?_;apply gE;iterate 2 apply gS
     refine gR rfl ?_;refine gP ?_;refine gO rfl rfl (kXF rfl rfl) rfl ?_;iterate 2 refine gP ?_
     refine gO rfl rfl (kXF rfl rfl) rfl ?_;iterate 3 refine gP ?_
     refine gO rfl rfl (kXF rfl rfl) rfl ?_;iterate 2 refine gP ?_
     refine gO rfl rfl (fa29_0 rfl) rfl ?_;refine gO rfl rfl (ld3 rfl f85 rfl) rfl ?_;refine gO rfl rfl (fa29_0 rfl) rfl ?_;refine gO rfl rfl (ld3 rfl f71 rfl) rfl ?_;refine gO rfl rfl (kLF rfl rfl) rfl ?_;iterate 2 refine gP ?_
     refine gO rfl rfl (fa29_0 rfl) rfl ?_;refine gO rfl rfl (ld3 rfl f85 rfl) rfl ?_;refine gO rfl rfl (fa29_0 rfl) rfl ?_;refine gO rfl rfl (ld3 rfl f71 rfl) rfl ?_;refine gO rfl rfl (kET rfl rfl) rfl ?_;iterate 3 refine gP ?_
     refine gO rfl rfl (kLF rfl rfl) rfl ?_;iterate 2 refine gP ?_
     apply gE;refine gC (b := false) rfl ?_;refine gD ?_
     cases low with
     | true =>
      cases sure with
      | true =>
       refine Go.drawnE plan10_1 ?_;iterate 2 refine gQ rfl rfl rfl rfl ?_
       iterate 3 refine GoE.skip rfl rfl rfl ?_
       iterate 3 refine gQ rfl rfl rfl rfl ?_
       iterate 3 refine GoE.skip rfl rfl rfl ?_
       iterate 3 refine gQ rfl rfl rfl rfl ?_
       refine GoE.end rfl ?_;refine Go.inBlock noJ_ok ?_;refine gR rfl ?_;refine gO rfl rfl (aA rfl rfl) rfl ?_;refine gP ?_;apply gE;exact again (m - 1) (i + 1, _, _) _ _ (by omega) ⟨rfl, rfl, rfl, rfl, rfl, rfl, rfl, rfl, rfl, rfl, rfl, rfl, rfl, trivial⟩ ⟨by dsimp only; omega, by rw [n1]; rfl, by rw [n2]; rfl, e0, f0, f71⟩
      | false =>
       refine Go.drawnE plan10_1 ?_;iterate 2 refine gQ rfl rfl rfl rfl ?_
       iterate 3 refine GoE.skip rfl rfl rfl ?_
       iterate 3 refine gQ rfl rfl rfl rfl ?_
       refine gQ rfl rfl (fa29_1 rfl) rfl ?_;refine gQ rfl rfl (ld3 rfl f82 rfl) rfl ?_;refine gQ rfl rfl (aOp_lss rfl rfl (r := decide ((D i).2 < 0)) rfl) rfl ?_;iterate 3 refine gQ rfl rfl rfl rfl ?_
       refine GoE.end rfl ?_;refine Go.inBlock noJ_ok ?_;refine gR rfl ?_;refine gO rfl rfl (aA rfl rfl) rfl ?_;refine gP ?_;apply gE;exact again (m - 1) (i + 1, _, _) _ _ (by omega) ⟨rfl, rfl, rfl, rfl, rfl, rfl, rfl, rfl, rfl, rfl, rfl, rfl, rfl, trivial⟩ ⟨by dsimp only; omega, by rw [n1]; rfl, by rw [n2]; rfl, e0, f0, f71⟩
     | false =>
      cases sure with
      | true =>
       refine Go.drawnE plan10_1 ?_;iterate 2 refine gQ rfl rfl rfl rfl ?_
       refine gQ rfl rfl (fa29_0 rfl) rfl ?_;refine gQ rfl rfl (ld3 rfl f82 rfl) rfl ?_;refine gQ rfl rfl (aOp_lss rfl rfl (r := decide ((D i).1 < 0)) rfl) rfl ?_;iterate 3 refine gQ rfl rfl rfl rfl ?_
       iterate 3 refine GoE.skip rfl rfl rfl ?_
       iterate 3 refine gQ rfl rfl rfl rfl ?_
       refine GoE.end rfl ?_;refine Go.inBlock noJ_ok ?_;refine gR rfl ?_;refine gO rfl rfl (aA rfl rfl) rfl ?_;refine gP ?_;apply gE;exact again (m - 1) (i + 1, _, _) _ _ (by omega) ⟨rfl, rfl, rfl, rfl, rfl, rfl, rfl, rfl, rfl, rfl, rfl, rfl, rfl, trivial⟩ ⟨by dsimp only; omega, by rw [n1]; rfl, by rw [n2]; rfl, e0, f0, f71⟩
      | false =>
       refine Go.drawnE plan10_1 ?_;iterate 2 refine gQ rfl rfl rfl rfl ?_
       refine gQ rfl rfl (fa29_0 rfl) rfl ?_;refine gQ rfl rfl (ld3 rfl f82 rfl) rfl ?_;refine gQ rfl rfl (aOp_lss rfl rfl (r := decide ((D i).1 < 0)) rfl) rfl ?_;iterate 3 refine gQ rfl rfl rfl rfl ?_
       refine gQ rfl rfl (fa29_1 rfl) rfl ?_;refine gQ rfl rfl (ld3 rfl f82 rfl) rfl ?_;refine gQ rfl rfl (aOp_lss rfl rfl (r := decide ((D i).2 < 0)) rfl) rfl ?_;iterate 3 refine gQ rfl rfl rfl rfl ?_
       refine GoE.end rfl ?_;refine Go.inBlock noJ_ok ?_;refine gR rfl ?_;refine gO rfl rfl (aA rfl rfl) rfl ?_;refine gP ?_;apply gE;exact again (m - 1) (i + 1, _, _) _ _ (by omega) ⟨rfl, rfl, rfl, rfl, rfl, rfl, rfl, rfl, rfl, rfl, rfl, rfl, rfl, trivial⟩ ⟨by dsimp only; omega, by rw [n1]; rfl, by rw [n2]; rfl, e0, f0, f71⟩
    ·apply gS;refine gR rfl ?_;refine gO rfl rfl (kLT rfl rfl) rfl ?_;apply gE;apply gS;refine gC (b := true) rfl ?_;refine gD ?_;apply gS;refine Go.block noJ_ok ?_;apply gS;refine gR rfl ?_;iterate 2 refine gP ?_
     apply gE;apply gS;refine gR rfl ?_;refine gO rfl rfl (ld25 rfl f0 rfl) rfl ?_;iterate 2 refine gP ?_
     refine GoR.call rfl rfl (aCF aFunc15 rfl) (hHv e0 i hi) ?_ np;rintro v81 h81 ⟨q, x81⟩;cases q;refine ⟨_, rfl, ?_⟩;replace f0 := f0.ext x81;replace f71 := f71.ext x81;replace e0 := e0.trans x81;iterate 3 refine gP ?_
     refine GoR.alloc rfl rfl rfl zt29 rfl rfl fun h82 x82 f82 => ?_;have := e0.1;have := f0.1;have := f71.1;replace f0 := f0.ext x82;replace f71 := f71.ext x82;replace e0 := e0.trans x82;have := f82.1;refine GoR.store rfl rfl rfl rfl rfl rfl f82 rfl sz29 rfl rfl rfl fun h83 u83 => ?_;replace f82 := u83.has f82;replace f0 := f0.upd u83 (by omega);replace f71 := f71.upd u83 (by omega);replace e0 := e0.upd u83 (by omega);refine gP ?_;apply gE;apply gS;refine gR rfl ?_;refine gO rfl rfl (ld25 rfl f0 rfl) rfl ?_;iterate 2 refine gP ?_
     refine GoR.call rfl rfl (aCF aFunc15 rfl) (hH e0 i hi) ?_ np;rintro v84 h84 ⟨q, x84⟩;cases q;refine ⟨_, rfl, ?_⟩;replace f82 := f82.ext x84;replace f0 := f0.ext x84;replace f71 := f71.ext x84;replace e0 := e0.trans x84;iterate 3 refine gP ?_
     refine GoR.alloc rfl rfl rfl zt29 rfl rfl fun h85 x85 f85 => ?_;have := e0.1;have := f82.1;have := f0.1;have := f71.1;replace f82 := f82.ext x85;replace f0 := f0.ext x85;replace f71 := f71.ext x85;replace e0 := e0.trans x85;have := f85.1;refine GoR.store rfl rfl rfl rfl rfl rfl f85 rfl sz29 rfl rfl rfl fun h86 u86 => ?_;replace f85 := u86.has f85;replace f82 := f82.upd u86 (by omega);replace f0 := f0.upd u86 (by omega);replace f71 := f71.upd u86 (by omega);replace e0 := e0.upd u86 (by omega);refine gP ?_;apply gE;iterate 2 apply gS
     refine gR rfl ?_;refine gP ?_;refine gO rfl rfl (kXF rfl rfl) rfl ?_;iterate 2 refine gP ?_
     refine gO rfl rfl (kXF rfl rfl) rfl ?_;iterate 3 refine gP ?_
     refine gO rfl rfl (kXF rfl rfl) rfl ?_;iterate 2 refine gP ?_
     refine gO rfl rfl (fa29_0 rfl) rfl ?_;refine gO rfl rfl (ld3 rfl f85 rfl) rfl ?_;refine gO rfl rfl (fa29_0 rfl) rfl ?_;refine gO rfl rfl (ld3 rfl f71 rfl) rfl ?_;refine gO rfl rfl (kLF rfl rfl) rfl ?_;iterate 2 refine gP ?_
     refine gO rfl rfl (fa29_0 rfl) rfl ?_;refine gO rfl rfl (ld3 rfl f85 rfl) rfl ?_;refine gO rfl rfl (fa29_0 rfl) rfl ?_;refine gO rfl rfl (ld3 rfl f71 rfl) rfl ?_;refine gO rfl rfl (kEF rfl rfl) rfl ?_;refine gP ?_;iterate 3 refine GoR.skip rfl rfl rfl ?_
     iterate 2 refine gP ?_
     apply gE;refine gC (b := false) rfl ?_;refine gD ?_
     cases low with
     | true =>
      cases sure with
      | true =>
       refine Go.drawnE plan10_1 ?_;iterate 2 refine gQ rfl rfl rfl rfl ?_
       iterate 3 refine GoE.skip rfl rfl rfl ?_
       iterate 3 refine gQ rfl rfl rfl rfl ?_
       iterate 3 refine GoE.skip rfl rfl rfl ?_
       iterate 3 refine gQ rfl rfl rfl rfl ?_
       refine GoE.end rfl ?_;refine Go.inBlock noJ_ok ?_;refine gR rfl ?_;refine gO rfl rfl (aA rfl rfl) rfl ?_;refine gP ?_;apply gE;exact again (m - 1) (i + 1, _, _) _ _ (by omega) ⟨rfl, rfl, rfl, rfl, rfl, rfl, rfl, rfl, rfl, rfl, rfl, rfl, rfl, trivial⟩ ⟨by dsimp only; omega, by rw [n1]; rfl, by rw [n2]; rfl, e0, f0, f71⟩
      | false =>
       refine Go.drawnE plan10_1 ?_;iterate 2 refine gQ rfl rfl rfl rfl ?_
       iterate 3 refine GoE.skip rfl rfl rfl ?_
       iterate 3 refine gQ rfl rfl rfl rfl ?_
       refine gQ rfl rfl (fa29_1 rfl) rfl ?_;refine gQ rfl rfl (ld3 rfl f82 rfl) rfl ?_;refine gQ rfl rfl (aOp_lss rfl rfl (r := decide ((D i).2 < 0)) rfl) rfl ?_;iterate 3 refine gQ rfl rfl rfl rfl ?_
       refine GoE.end rfl ?_;refine Go.inBlock noJ_ok ?_;refine gR rfl ?_;refine gO rfl rfl (aA rfl rfl) rfl ?_;refine gP ?_;apply gE;exact again (m - 1) (i + 1, _, _) _ _ (by omega) ⟨rfl, rfl, rfl, rfl, rfl, rfl, rfl, rfl, rfl, rfl, rfl, rfl, rfl, trivial⟩ ⟨by dsimp only; omega, by rw [n1]; rfl, by rw [n2]; rfl, e0, f0, f71⟩
     | false =>
      cases sure with
      | true =>
       refine Go.drawnE plan10_1 ?_;iterate 2 refine gQ rfl rfl rfl rfl ?_
       refine gQ rfl rfl (fa29_0 rfl) rfl ?_;refine gQ rfl rfl (ld3 rfl f82 rfl) rfl ?_;refine gQ rfl rfl (aOp_lss rfl rfl (r := decide ((D i).1 < 0)) rfl) rfl ?_;iterate 3 refine gQ rfl rfl rfl rfl ?_
       iterate 3 refine GoE.skip rfl rfl rfl ?_
       iterate 3 refine gQ rfl rfl rfl rfl ?_
       refine GoE.end rfl ?_;refine Go.inBlock noJ_ok ?_;refine gR rfl ?_;refine gO rfl rfl (aA rfl rfl) rfl ?_;refine gP ?_;apply gE;exact again (m - 1) (i + 1, _, _) _ _ (by omega) ⟨rfl, rfl, rfl, rfl, rfl, rfl, rfl, rfl, rfl, rfl, rfl, rfl, rfl, trivial⟩ ⟨by dsimp only; omega, by rw [n1]; rfl, by rw [n2]; rfl, e0, f0, f71⟩
      | false =>
       refine Go.drawnE plan10_1 ?_;iterate 2 refine gQ rfl rfl rfl rfl ?_
       refine gQ rfl rfl (fa29_0 rfl) rfl ?_;refine gQ rfl rfl (ld3 rfl f82 rfl) rfl ?_;refine gQ rfl rfl (aOp_lss rfl rfl (r := decide ((D i).1 < 0)) rfl) rfl ?_;iterate 3 refine gQ rfl rfl rfl rfl ?_
       refine gQ rfl rfl (fa29_1 rfl) rfl ?_;refine gQ rfl rfl (ld3 rfl f82 rfl) rfl ?_;refine gQ rfl rfl (aOp_lss rfl rfl (r := decide ((D i).2 < 0)) rfl) rfl ?_;iterate 3 refine gQ rfl rfl rfl rfl ?_
       refine GoE.end rfl ?_;refine Go.inBlock noJ_ok ?_;refine gR rfl ?_;refine gO rfl rfl (aA rfl rfl) rfl ?_;refine gP ?_;apply gE;exact again (m - 1) (i + 1, _, _) _ _ (by omega) ⟨rfl, rfl, rfl, rfl, rfl, rfl, rfl, rfl, rfl, rfl, rfl, rfl, rfl, trivial⟩ ⟨by dsimp only; omega, by rw [n1]; rfl, by rw [n2]; rfl, e0, f0, f71⟩
   ·clear again
    have hin : i = R.ps.length := by omega
    subst hin
    have bT := bit_at T v
    have bS := bit_at S v
    have hTl : T.testBit v = low := by
     have h1 := perhaps_low O hp hvl
     rw [hT] at h1
     have h2 : low = true ↔ ∃ i, i < R.ps.length ∧ (D i).1 < 0 := by
      rw [hlow]
      simp only [List.any_eq_true, List.mem_range, decide_eq_true_eq]
     rw [hD] at h2
     cases q : T.testBit v with
     | true => exact (h2.2 (h1.1 q)).symm
     | false =>
      cases q2 : low with
      | false => rfl
      | true => rw [h1.2 (h2.1 q2)] at q; cases q
    have hSs : sure = true → S.testBit v = true := fun q => by
     rw [hsure] at q
     simp only [List.any_eq_true, List.mem_range, decide_eq_true_eq] at q
     obtain ⟨i, hi, hlt⟩ := q
     rw [hD] at hlt
     rw [← hS]
     exact sure_low O hp hvl hi hlt
    rw [hTl] at bT
    have v64 : v ≤ 64 := by omega
    have c1 : decide ((if low = true then (1 : Int) else 0) = 1) = low := by cases low <;> rfl
    apply gS;refine gR rfl ?_;refine gO rfl rfl (kLF rfl rfl) rfl ?_;apply gE;apply gS;refine gC (b := false) rfl ?_;refine gD ?_;refine Go.seq noJ_ok (Go.join (fun _ : Unit => [(2, .ptr h.next 0), (5, .int .i64 (S : Nat)), (13, .int .i64 (v : Nat))]) (fun _ h' => h' = h80) ?_ ?_)
    ·intro k' done
     cases sure with
     | true =>
      rw [hSs rfl] at bS;apply gS;refine gR rfl ?_;iterate 2 refine gP ?_
      refine gO rfl rfl (aOp_shr rfl rfl v64 rfl) rfl ?_;refine gO rfl rfl (aOp_and1 rfl rfl bT) rfl ?_;refine gO rfl rfl (aOp_eql rfl rfl c1) rfl ?_;refine gP ?_;refine gO rfl rfl (aOp_neqBool (r := false) rfl rfl Tryz.underlying4 (by simp)) rfl ?_;iterate 5 refine gP ?_
      refine gO rfl rfl (aOp_shr rfl rfl v64 rfl) rfl ?_;refine gO rfl rfl (aOp_and1 rfl rfl bS) rfl ?_;refine gO rfl rfl (aOp_eql rfl rfl (r := false) (decide_eq_false (by simp))) rfl ?_;iterate 2 refine gP ?_
      apply gE;refine gC (b := false) rfl ?_;refine gD ?_;exact done () _ _ ⟨rfl, rfl, rfl, trivial⟩ rfl
     | false =>
      apply gS;refine gR rfl ?_;iterate 2 refine gP ?_
      refine gO rfl rfl (aOp_shr rfl rfl v64 rfl) rfl ?_;refine gO rfl rfl (aOp_and1 rfl rfl bT) rfl ?_;refine gO rfl rfl (aOp_eql rfl rfl c1) rfl ?_;refine gP ?_;refine gO rfl rfl (aOp_neqBool (r := false) rfl rfl Tryz.underlying4 (by simp)) rfl ?_;iterate 3 refine gP ?_
      iterate 5 refine GoR.skip rfl rfl rfl ?_
      iterate 2 refine gP ?_
      apply gE;refine gC (b := false) rfl ?_;refine gD ?_;exact done () _ _ ⟨rfl, rfl, rfl, trivial⟩ rfl
    rintro ⟨⟩ hX rfl
    have hsc := road_scal A
    apply gS;refine gR rfl ?_;refine gO rfl rfl (ld25 rfl f0 rfl) rfl ?_;refine GoR.alloc rfl rfl rfl zt25 rfl rfl fun h73 x73 f73 => ?_;have := e0.1;have := f0.1;have := f71.1;replace f0 := f0.ext x73;replace f71 := f71.ext x73;replace e0 := e0.trans x73;have := f73.1;refine GoR.store rfl rfl rfl rfl rfl rfl f73 rfl sz25 rfl hsc rfl fun h74 u74 => ?_;replace f73 := u74.has f73;replace f0 := f0.upd u74 (by omega);replace f71 := f71.upd u74 (by omega);replace e0 := e0.upd u74 (by omega);apply gE;apply gS;refine gR rfl ?_;refine GoR.buildSl rfl rfl (ps := []) (cs := []) Tryz.underlying23 rfl sz62 zt62 rfl rfl rfl rfl fun h75 x75 f75 => ?_;have := e0.1;have := f73.1;have := f0.1;have := f71.1;replace f73 := f73.ext x75;replace f0 := f0.ext x75;replace f71 := f71.ext x75;replace e0 := e0.trans x75;have := f75.1;refine gO rfl rfl (fa25_1 rfl) rfl ?_;refine gO rfl rfl (ld23 rfl f0 rfl) rfl ?_;refine gP ?_;refine gO rfl rfl (aA rfl rfl) rfl ?_;refine gO rfl rfl (aOp_takeS (i := v + 1) Tryz.underlying23 sz62 (congrArg some hse) rfl hvl hC2 (by omega)) rfl ?_
    have hAe : SliceOf h 7 (.slice cb co R.es.length cc) (R.es.map EV.cells) := hse ▸ A.es
    have hLl : ((R.es.map EV.cells).take (v + 1)).length = v + 1 := by rw [List.length_take, List.length_map]; omega
    refine GoR.appendNew rfl rfl Tryz.underlying23 Tryz.underlying23 sz62 by62 zt62 rfl rfl rfl f75 rfl ((hAe.ext e0).take (cap' := cc) (by rw [List.length_map]) hvl) (by rw [hLl]; omega) (by rw [hLl]; omega) rfl rfl fun h76 x76 f76 => ?_;rw [hLl]
    have hx76 := x76.1
    have hb76 := f76.1
    replace f0 := f0.ext x76;replace f73 := f73.ext x76;replace e0 := e0.trans x76;clear f75 f71 x76;refine gO rfl rfl (fa25_1 rfl) rfl ?_;refine GoR.store rfl rfl rfl rfl rfl rfl f73 rfl sz23 rfl rfl rfl fun h77 u77 => ?_;replace f76 := f76.upd u77 (by omega);replace f0 := f0.upd u77 (by omega);replace f73 := u77.has f73;replace e0 := e0.upd u77 (by omega);apply gE;iterate 2 apply gS
    refine gR rfl ?_;refine gO rfl rfl (fa25_0 rfl) rfl ?_;refine gO rfl rfl (ld22 rfl f0 rfl) rfl ?_;refine gO rfl rfl (aOp_lenSlice Tryz.underlying22 rfl hl1) rfl ?_;refine gP ?_;apply gE;refine Go.block noJ_ok ?_
    obtain ⟨PE, hPE⟩ : ∃ PE, R.es.take (v + 1) = PE := ⟨_, rfl⟩
    have hPl : PE.length = v + 1 := by rw [← hPE, List.length_take]; omega
    have cl7 : ∀ L : List EV, (L.flatMap EV.cells).length = L.length * 7 := fun L => by
     rw [List.flatMap_def, flatten_len (sz := 7) (fun l hl => by obtain ⟨_, _, rfl⟩ := List.mem_map.1 hl; rfl), List.length_map]
    have G0 : Grow h77 62 7 h75.next (.gsl h75.next 0 0 (v + 1)) (v + 1 + 0) ((PE ++ dryLooks 0).flatMap EV.cells) := by
     refine ⟨by rw [cl7, List.length_append, hPl]; rfl, .inr ⟨by omega, h75.next, Nat.le_refl _, rfl, ?_⟩⟩
     rw [← List.map_take, hPE, ← List.flatMap_def] at f76
     show Has h77 h75.next (.cells .grow ((PE ++ []).flatMap EV.cells) 62)
     rw [List.append_nil];exact f76
    refine Go.loopKeep (fun a : Nat × AVal => [(2, .ptr h.next 0), (5, .int .i64 (S : Nat)), (13, .int .i64 (v : Nat)), (24, .ptr hX.next 0), (241, .int .i64 R.ps.length), (242, .int .i64 (a.1 : Nat))])
     (fun m a h' => m + a.1 = R.ps.length ∧ Ext h h' ∧ h75.next ≤ h'.next ∧ Has h' h.next (.cells .plain [sp, se] 25) ∧ Has h' hX.next (.cells .plain [sp, a.2] 25) ∧ Grow h' 62 7 h75.next a.2 (v + 1 + a.1) ((PE ++ dryLooks a.1).flatMap EV.cells)) (n := R.ps.length) (0, _) ⟨rfl, rfl, rfl, rfl, rfl, rfl, trivial⟩ ⟨rfl, e0, by have := u77.1; omega, f0, f73, G0⟩ ?_
    clear e0 f0 f73 f76 G0;rintro m ⟨i, sl⟩ h90 ⟨hm, e0, hle, f0, f73, G⟩ again
    dsimp only at hm f73 G ⊢
    have hn0 := f0.1
    have hn7 := f73.1
    by_cases hi : i < R.ps.length
    ·have e9 : Ext h90 h90 := Ext.refl _
     have hst1 : ∀ {h : AH} {lo m : Nat} {z : AVal} {cs : List AVal}, Grow h 62 7 lo z m cs → Nat.beq z.cells.length 1 = true := fun k => by rw [(grow_scal k).2]; rfl
     have hst2 : ∀ {h : AH} {lo m : Nat} {z : AVal} {cs : List AVal}, Grow h 62 7 lo z m cs → scalars z.cells = true := fun k => by rw [(grow_scal k).2]; exact (grow_scal k).1
     have hst3 : ∀ {h : AH} {lo m : Nat} {z : AVal} {cs : List AVal}, Grow h 62 7 lo z m cs → splice [sp, sl] (0 + 1) z.cells = some [sp, z] := fun k => by rw [(grow_scal k).2]; rfl
     have hsame := grow_same G
     apply gS;refine gR rfl ?_;refine gO rfl rfl (kLT rfl rfl) rfl ?_;apply gE;apply gS;refine gC (b := true) rfl ?_;refine gD ?_;apply gS;refine Go.block noJ_ok ?_;apply gS;refine gR rfl ?_;iterate 2 refine gP ?_
     apply gE;refine Go.drawnE plan10_2 ?_;refine gQ rfl rfl (fa25_1 rfl) rfl ?_;refine gQ rfl rfl (ld23 rfl f73 rfl) rfl ?_;refine gQ rfl rfl rfl rfl ?_;refine GoE.call rfl rfl (aCF aFunc42 rfl) (look42_ok) (dD 4 2 (dK 4 1 (dK 4 0 rfl))) ?_ np;rintro v91 h91 ⟨q, x91⟩;cases q;replace f0 := f0.ext x91;replace f73 := f73.ext x91;replace e0 := e0.trans x91;replace e9 := e9.trans x91;refine ⟨(rck (h2 := h91) rfl (ld23 rfl f73 rfl) (rck (h2 := h91) rfl (fa25_1 rfl) recheck_nil)), _, rfl, ?_⟩;refine GoE.quietX rfl rfl (aOpX_lit (ps := [(0, .agg (EV.cells (mkLook (i : Nat) 0 60)))]) (cs := EV.cells (mkLook (i : Nat) 0 60)) Tryz.underlying23 rfl sz62 zt62 rfl rfl rfl) rfl ?_;refine GoE.append1L rfl rfl Tryz.underlying23 Tryz.underlying23 sz62 by62 zt62 rfl rfl rfl rfl rfl rfl (G.ext e9) (by omega) (dD 31 4 (dD 31 1 (dD 31 0 rfl))) rfl rfl fun s92 h92 y92 g92 => ?_;replace f0 := f0.extF y92 (fun q => by have := grow_own G q; omega);replace f73 := f73.extF y92 (fun q => by have := grow_own G q; omega);replace e0 := y92.low e0 (fun b q => by have := grow_own G q; omega);have := y92.1;refine ⟨recheck_nil, ?_⟩;refine gQ rfl rfl (fa25_1 rfl) rfl ?_;refine GoE.store rfl rfl rfl rfl (dD 127 6 rfl) rfl rfl f73 rfl sz23 (hst1 (by assumption)) (hst2 (by assumption)) (hst3 (by assumption)) fun h93 u93 => ?_;replace f0 := f0.upd u93 (by omega);replace f73 := u93.has f73;replace e0 := e0.upd u93 (by omega);refine ⟨recheck_nil, ?_⟩;refine GoE.end rfl ?_;refine Go.inBlock noJ_ok ?_;refine gR rfl ?_;refine gO rfl rfl (aA rfl rfl) rfl ?_;refine gP ?_;apply gE
     have m2 := y92.1
     have m3 := u93.1
     have m4 := e9.1
     have g26 := grow_extF (S := fun b => b = hX.next) g92 ((ExtF.of (Ext.refl h92)).upd u93 (.inl rfl)) (fun b q => by have : b = hX.next := q; omega)
     have g27 := g26.low (lo' := h75.next) (by omega)
     refine again (m - 1) (i + 1, s92) _ _ (by omega) ⟨rfl, rfl, rfl, rfl, rfl, rfl, trivial⟩ ⟨by dsimp only; omega, e0, by omega, f0, f73, ?_⟩
     dsimp only
     have hd1 : dryLooks (i + 1) = dryLooks i ++ [mkLook (i : Nat) 0 60] := by
      unfold dryLooks
      rw [List.range_succ, List.map_append]
      rfl
     rw [hd1, ← List.append_assoc, List.flatMap_append, List.flatMap_cons, List.flatMap_nil, List.append_nil];exact g27
    ·clear again
     have hin : i = R.ps.length := by omega
     subst hin
     obtain ⟨sd, hsd, hdo⟩ := drop_slice (i := v + 1) hAe (by rw [List.length_map]) hvl hC2
     have hsds := hsd.same
     have hsame := grow_same G
     apply gS;refine gR rfl ?_;refine gO rfl rfl (kLF rfl rfl) rfl ?_;apply gE;apply gS;refine gC (b := false) rfl ?_;refine gD ?_;apply gS;refine Go.drawnE plan10_3 ?_;refine gQ rfl rfl (fa25_1 rfl) rfl ?_;refine gQ rfl rfl (ld23 rfl f73 rfl) rfl ?_;refine gQ rfl rfl (fa25_1 rfl) rfl ?_;refine gQ rfl rfl (ld23 rfl f0 rfl) rfl ?_;refine gQ rfl rfl rfl rfl ?_;refine gQ rfl rfl (aA rfl rfl) rfl ?_;refine gQ rfl rfl (hdo Tryz.underlying23 sz62 (congrArg some hse) rfl) rfl ?_
     have hdl : ((R.es.map EV.cells).drop (v + 1)).length = R.es.length - (v + 1) := by rw [List.length_drop, List.length_map]
     have hdz : ∀ l, l ∈ (R.es.map EV.cells).drop (v + 1) → l.length = 7 := fun l hl => by
      obtain ⟨_, _, rfl⟩ := List.mem_map.1 (List.mem_of_mem_drop hl)
      rfl
     have hds : scalars ((R.es.map EV.cells).drop (v + 1)).flatten = true := by
      rw [← List.map_drop, ← List.flatMap_def]
      exact evc_scal _
     refine GoE.appendMany rfl rfl Tryz.underlying23 Tryz.underlying23 sz62 by62 zt62 rfl rfl rfl rfl (hsd.ext e0) hdz hds G (by omega) (by rw [hdl]; omega) (dD 127 6 (dD 127 5 (dD 127 4 (dD 127 3 (dD 127 2 (dD 127 1 (dD 127 0 rfl))))))) rfl rfl fun s7 h95 hle95 hlow95 g95 => ?_;refine ⟨recheck_nil, ?_⟩
     have y95 : ExtF (fun b => h75.next ≤ b) h90 h95 := ⟨hle95, fun b hb hS => hlow95 b (by omega)⟩
     replace f73 := f73.extF y95 (fun q => by omega);replace e0 := y95.low e0 (fun b q => by omega);clear y95 G hlow95
     have hst1 : Nat.beq s7.cells.length 1 = true := by rw [(grow_scal g95).2]; rfl
     have hst2 : scalars s7.cells = true := by rw [(grow_scal g95).2]; exact (grow_scal g95).1
     have hst3 : splice [sp, sl] (0 + 1) s7.cells = some [sp, s7] := by rw [(grow_scal g95).2]; rfl
     have hdr : (PE ++ dryLooks R.ps.length).flatMap EV.cells ++ ((R.es.map EV.cells).drop (v + 1)).flatten = ((R.dry v).es.map EV.cells).flatten := by
      rw [← List.map_drop, ← List.flatMap_def, ← List.flatMap_def, ← List.flatMap_append, List.append_assoc]
      show _ = (R.es.take (v + 1) ++ (dryLooks R.ps.length ++ R.es.drop (v + 1))).flatMap EV.cells
      rw [hPE]
     have hdn : v + 1 + R.ps.length + ((R.es.map EV.cells).drop (v + 1)).length = ((R.dry v).es.map EV.cells).length := by
      show _ = ((R.es.take (v + 1) ++ (dryLooks R.ps.length ++ R.es.drop (v + 1))).map EV.cells).length
      unfold dryLooks
      rw [hdl, List.length_map, List.length_append, List.length_append, hPE, hPl, List.length_map, List.length_range, List.length_drop]
      omega
     rw [hdr, hdn] at g95;refine gQ rfl rfl (fa25_1 rfl) rfl ?_;refine GoE.store rfl rfl rfl rfl (dD 511 8 rfl) rfl rfl f73 rfl sz23 hst1 hst2 hst3 fun h96 u96 => ?_;replace f73 := u96.has f73;replace e0 := e0.upd u96 (by omega);refine ⟨recheck_nil, ?_⟩;refine GoE.end rfl ?_
     have g96 := grow_extF (S := fun b => b = hX.next) g95 ((ExtF.of (Ext.refl h95)).upd u96 (.inl rfl)) (fun b q => by have : b = hX.next := q; omega)
     have hS7 : ∀ {h'}, Ext h96 h' → SliceOf h' 7 s7 ((R.dry v).es.map EV.cells) := fun e => (g96.ext e).sliceOf (slice_flatten fun l hl => by obtain ⟨_, _, rfl⟩ := List.mem_map.1 hl; rfl)
     have hl7 : lenA s7 = some (R.dry v).es.length := by
      have := (hS7 (Ext.refl _)).len
      rwa [List.length_map] at this
     have h10 : (R.dry v).es.length ≤ 15 := by
      rw [List.length_map] at hdn
      omega
     have e9 : Ext h96 h96 := Ext.refl _
     obtain ⟨RD, hRD⟩ : ∃ RD, R.dry v = RD := ⟨_, rfl⟩
     have hW := fun {h'} (e : Ext h h') (e' : Ext h96 h') => Weak_ok (R := R.dry v) (⟨A.ps.ext e, hS7 e'⟩ : RoadAt h' (R.dry v) sp s7) hs.1 (by omega)
     have hbit := surely_bit O hvl
     have hO2 := fun q => dry_ok O (v := v) q
     rw [hS] at hbit;rw [hRD] at hW hbit hl7 h10 hO2;clear hS7 g95 g96 hdn hdr hdl hsd hdo
     by_cases hbig : 10 < RD.es.length
     ·iterate 2 apply gS
      refine gR rfl ?_;refine gO rfl rfl (fa25_1 rfl) rfl ?_;refine gO rfl rfl (ld23 rfl f73 rfl) rfl ?_;refine gO rfl rfl (aOp_lenSlice Tryz.underlying23 rfl hl7) rfl ?_;refine gO rfl rfl (kGT rfl rfl) rfl ?_;apply gE;refine gC (b := true) rfl ?_;apply gS;refine gR rfl ?_;refine GoR.call rfl rfl (aCF aFunc14 rfl) (alive_ok) ?_ np;rintro v97 h97 ⟨q, x97⟩;cases q;refine ⟨_, rfl, ?_⟩;replace e0 := e0.trans x97;refine gP ?_;apply gE;exact gW Tryz.func10 rfl rfl ⟨rfl, e0⟩
     ·have O2 := hO2 (by omega)
      cases hc : RD.possible with
      | true =>
       rw [show RD.weakR = (RD.weak, 0) from by unfold RoadV.weakR; rw [if_pos O2, if_pos hc]] at hW;rw [hbit, hc] at bS;iterate 2 apply gS
       refine gR rfl ?_;refine gO rfl rfl (fa25_1 rfl) rfl ?_;refine gO rfl rfl (ld23 rfl f73 rfl) rfl ?_;refine gO rfl rfl (aOp_lenSlice Tryz.underlying23 rfl hl7) rfl ?_;refine gO rfl rfl (kGF rfl rfl) rfl ?_;apply gE;refine gC (b := false) rfl ?_;refine gD ?_;apply gS;refine gR rfl ?_;refine gO rfl rfl (ld25 rfl f73 rfl) rfl ?_;refine GoR.call rfl rfl (aCF aFunc28 rfl) (hW e0 e9) ?_ np;rintro v97 h97 ⟨q, x97⟩;cases q;refine ⟨_, rfl, ?_⟩;replace f73 := f73.ext x97;replace e0 := e0.trans x97;replace e9 := e9.trans x97;iterate 5 refine gP ?_
       apply gE;apply gS;refine gR rfl ?_;iterate 2 refine gP ?_
       refine gO rfl rfl (aOp_shr rfl rfl v64 rfl) rfl ?_;refine gO rfl rfl (aOp_and1 rfl rfl bS) rfl ?_;refine gO rfl rfl (aOp_eql rfl rfl (r := false) (decide_eq_false (by simp))) rfl ?_;refine gP ?_;refine gO rfl rfl (kEF rfl rfl) rfl ?_;refine gO rfl rfl (aOp_eqlBool rfl rfl Tryz.underlying4 (r := true) rfl) rfl ?_;iterate 2 refine gP ?_
       refine gO rfl rfl (kET rfl rfl) rfl ?_;refine gP ?_;iterate 2 refine GoR.skip rfl rfl rfl ?_
       iterate 3 refine gP ?_
       refine GoR.call rfl rfl (aCF aFunc14 rfl) (alive_ok) ?_ np;rintro v98 h98 ⟨q, x98⟩;cases q;refine ⟨_, rfl, ?_⟩;replace f73 := f73.ext x98;replace e0 := e0.trans x98;replace e9 := e9.trans x98;iterate 2 refine gP ?_
       apply gE;exact gW Tryz.func10 rfl rfl ⟨rfl, e0⟩
      | false =>
       rw [show RD.weakR = (0, 10) from by unfold RoadV.weakR; rw [if_pos O2, if_neg (by rw [hc]; decide)]] at hW;rw [hbit, hc] at bS;iterate 2 apply gS
       refine gR rfl ?_;refine gO rfl rfl (fa25_1 rfl) rfl ?_;refine gO rfl rfl (ld23 rfl f73 rfl) rfl ?_;refine gO rfl rfl (aOp_lenSlice Tryz.underlying23 rfl hl7) rfl ?_;refine gO rfl rfl (kGF rfl rfl) rfl ?_;apply gE;refine gC (b := false) rfl ?_;refine gD ?_;apply gS;refine gR rfl ?_;refine gO rfl rfl (ld25 rfl f73 rfl) rfl ?_;refine GoR.call rfl rfl (aCF aFunc28 rfl) (hW e0 e9) ?_ np;rintro v97 h97 ⟨q, x97⟩;cases q;refine ⟨_, rfl, ?_⟩;replace e0 := e0.trans x97;iterate 5 refine gP ?_
       apply gE;apply gS;refine gR rfl ?_;iterate 2 refine gP ?_
       refine gO rfl rfl (aOp_shr rfl rfl v64 rfl) rfl ?_;refine gO rfl rfl (aOp_and1 rfl rfl bS) rfl ?_;refine gO rfl rfl (aOp_eql rfl rfl (r := true) (decide_eq_true (by simp))) rfl ?_;refine gP ?_;refine gO rfl rfl (kET rfl rfl) rfl ?_;refine gO rfl rfl (aOp_eqlBool rfl rfl Tryz.underlying4 (r := true) rfl) rfl ?_;iterate 2 refine gP ?_
       refine gO rfl rfl (kEF rfl rfl) rfl ?_;iterate 2 refine gP ?_
       refine gO rfl rfl (kET rfl rfl) rfl ?_;iterate 3 refine gP ?_
       refine GoR.call rfl rfl (aCF aFunc14 rfl) (alive_ok) ?_ np;rintro v98 h98 ⟨q, x98⟩;cases q;refine ⟨_, rfl, ?_⟩;replace e0 := e0.trans x98;iterate 2 refine gP ?_
       apply gE;exact gW Tryz.func10 rfl rfl ⟨rfl, e0⟩
theorem law10 {R : RoadV} {sp se : AVal} {h : AH} (A : RoadAt h R sp se) (hb : R.ps.length < 9223372036854775808 ∧ R.es.length < 9223372036854775808 ∧ CutS se R.es.length) {w1 : Int} (h1 : 0 ≤ w1 ∧ w1 < 256) : Runs Tryz.prog 10 [.agg [sp, se], .int .u8 w1] h (fun en h' => en = .ret (.bool true) ∧ Ext h h') := by
 by_cases O : R.Ok
 ·have := law10_ok A O (w := w1.toNat) (by omega) hb.2.2
  rw [Int.toNat_of_nonneg h1.1] at this;exact this
 ·exact law10_bad A ⟨hb.1, hb.2.1⟩ O
end Go.Proofs.YtkcimfopboelaaaGreat

namespace Go.AbsE
open Go Go.RowKit
section
variable {P : Program}
theorem HR.openWin {e : Env} {h : AH} {W : World} (r : HR P (Base.all W) e h W) {B lo : Nat} {PRE CS junk : List Value} {el : TypeId} {fr : Nat × Nat} {cs : List AVal} (hB : W.heap[B]? = some (.cells (PRE ++ (CS ++ junk)).toArray el fr)) (hp : PRE.length = lo) (hv : ∀ e, VRs e cs CS) :
  ∃ e' h', Env.le e e' ∧ HR P (Base.all W) e' h' W ∧ Ext h h' ∧ e' h.next = some (B, 0) ∧ Has h' h.next (.win lo cs) := by
 obtain ⟨h', k⟩ := new_some h (.win lo cs)
 obtain ⟨_, x1, x2⟩ := new_ext k
 obtain ⟨n1, n2, n3⟩ := AH.get_new k
 have hle := Env.le_ext (x := (B, 0)) r.fresh
 have hlt := (Array.getElem?_eq_some_iff.1 hB).1
 refine ⟨e.ext h.next (B, 0), h', hle, ?_, x1, Env.ext_same _ _ _, x2⟩
 refine { dom := ?_, blk := ?_, inj := ?_, imm := ?_, os := r.os, tape := r.tape, output := r.output, size := r.size, old := r.old, young := r.young }
 ·intro b' x kx
  rw [Env.ext_at] at kx
  by_cases hb' : b' = h.next
  ·omega
  ·rw [if_neg hb'] at kx; have := r.dom _ _ kx; omega
 ·intro b' o' kx
  rw [n3] at kx
  by_cases hb' : b' = h.next
  ·rw [if_pos hb'] at kx
   cases kx
   subst hb'
   exact ⟨B, 0, _, Env.ext_same _ _ _, (fun q => by cases q), hB, .win (hv _) hp⟩
  ·rw [if_neg hb'] at kx
   obtain ⟨B', c', O', k1, k2, k3, k4⟩ := r.blk _ _ kx
   exact ⟨B', c', O', hle.1 _ _ k1, k2, k3, k4.mono hle⟩
 ·intro b1 b2 B1 c1 c2 o1 o2 k1 k2 hro e1 e2
  rw [n3] at k1 k2
  rw [Env.ext_at] at e1 e2
  by_cases q1 : b1 = h.next
  ·rw [if_pos q1] at k1; cases k1; cases hro
  ·rw [if_neg q1] at k1 e1
   by_cases q2 : b2 = h.next
   ·rw [if_pos q2] at e2
    cases e2
    obtain ⟨B', c', O', j1, j2, _, _⟩ := r.blk _ _ k1
    rw [e1] at j1
    cases j1
    exact absurd hlt (j2 hro)
   ·rw [if_neg q2] at k2 e2
    exact r.inj _ _ _ _ _ _ _ k1 k2 hro e1 e2
 ·intro B1 CS' hi
  obtain ⟨i1, i2⟩ := r.imm B1 CS' hi
  refine ⟨i1, fun b' o' c' kx hro ke => ?_⟩
  rw [n3] at kx
  rw [Env.ext_at] at ke
  by_cases q : b' = h.next
  ·rw [if_pos q] at kx; cases kx; cases hro
  ·rw [if_neg q] at kx ke; exact i2 b' o' c' kx hro ke
end
end Go.AbsE

namespace Go.AbsE
open Go Go.RowKit
section
variable {P : Program}
theorem VRs.kinds {K : Type} {va : K → AVal} {vv : K → Value} (hvr : ∀ e x, VR e (va x) (vv x)) {e : Env} : ∀ l : List K, VRs e (l.map fun x => va x) (l.map fun x => vv x) := by
 intro l
 induction l with
 | nil => exact .nil
 | cons a l ih => exact .cons (hvr _ _) ih
theorem rowsG_eq {K : Type} {vv : K → Value} {C : List Value} {off sz : Nat} : ∀ (len : Nat) (f : Nat → List K), (∀ i, i < len → (f i).length = sz ∧ ∀ k n, (f i)[k]? = some n → C[off + i * sz + k]? = some (vv n)) →
  (C.drop off).take (len * sz) = (((List.range len).map f).flatten).map fun x => vv x := by
 intro len
 induction len with
 | zero => intro f _; simp
 | succ len ih =>
  intro f hf
  have h1 := ih f fun i hi => hf i (by omega)
  obtain ⟨l1, l2⟩ := hf len (by omega)
  rw [Nat.add_mul, Nat.one_mul, List.take_add, h1, List.range_succ, List.map_append, List.flatten_append, List.map_append]
  congr 1
  simp only [List.map_cons, List.map_nil, List.flatten_cons, List.flatten_nil, List.append_nil]
  rw [List.drop_drop]
  refine List.ext_getElem? fun k => ?_
  rw [List.getElem?_take, List.getElem?_drop, List.getElem?_map]
  by_cases hk : k < sz
  ·rw [if_pos hk]
   obtain ⟨n, hn⟩ : ∃ n, (f len)[k]? = some n := ⟨(f len)[k]'(by omega), by simp⟩
   rw [hn]
   exact l2 k n hn
  ·rw [if_neg hk]
   have : (f len)[k]? = none := by simp; omega
   rw [this]
   rfl
end
end Go.AbsE

namespace Go.AbsE
open Go Go.RowKit
section
variable {P : Program}
theorem HR.openRowsC {K : Type} (va : K → AVal) (vv : K → Value) (hvr : ∀ e x, VR e (va x) (vv x)) {e : Env} {h : AH} {W : World} (r : HR P (Base.all W) e h W) {a : Addr} {len cap sz : Nat} {C : Array Value} {el : TypeId} {fr : Nat × Nat} (hB : W.heap[a.block]? = some (.cells C el fr)) (hspot : a.spot = none) (f : Nat → List K)
  (hf : ∀ i, i < len → (f i).length = sz ∧ ∀ k n, (f i)[k]? = some n → W.cell? (a.add (i * sz + k)) = some (vv n)) :
  ∃ e' h' s, Env.le e e' ∧ HR P (Base.all W) e' h' W ∧ Ext h h' ∧ VR e' s (.slice (some a) len cap) ∧ SliceOf h' sz s (((List.range len).map f).map fun l => l.map fun x => va x) ∧ sameA s s = true ∧ ∃ b o, s = .slice b o len cap := by
 obtain ⟨B, off, spot⟩ := a
 dsimp only at hB hspot
 subst hspot
 have hcell : ∀ i, i < len → (f i).length = sz ∧ ∀ k n, (f i)[k]? = some n → C.toList[off + i * sz + k]? = some (vv n) := fun i hi => by
  obtain ⟨h1, h2⟩ := hf i hi
  refine ⟨h1, fun k n hn => ?_⟩
  have := h2 k n hn
  have e1 := addr_add B off (i * sz + k)
  rw [e1] at this
  unfold World.cell? at this
  rw [hB] at this
  simp only [Option.isSome_none, Bool.false_eq_true, if_false] at this
  rw [Array.getElem?_toList, Nat.add_assoc]
  exact this
 have hrows := rowsG_eq len f hcell
 let R := (List.range len).map f
 have hRl : ∀ l, l ∈ R → l.length = sz := fun l hl => by
  obtain ⟨i, hi, rfl⟩ := List.mem_map.1 hl
  exact (hf i (List.mem_range.1 hi)).1
 have hRlen : R.length = len := by simp [R]
 have hlen : (C.toList.drop off).take (len * sz) = (R.flatten).map fun x => vv x := hrows
 have hfl : R.flatten.length = len * sz := by
  have : ∀ {L : List (List K)}, (∀ l, l ∈ L → l.length = sz) → L.flatten.length = L.length * sz := by
   intro L
   induction L with
   | nil => intro _; simp
   | cons a L ih => intro h; simp only [List.flatten_cons, List.length_append, h a (by simp), ih fun l q => h l (by simp [q]), List.length_cons, Nat.add_mul]; omega
  rw [this hRl, hRlen]
 by_cases h0 : len * sz = 0
 ·-- nothing of it is read
  obtain ⟨e', h', k1, k2, k3, k4, k5⟩ := r.openWin (B := B) (lo := 0) (PRE := []) (CS := []) (junk := C.toList) (el := el) (fr := fr) (cs := []) (by simpa using hB) rfl (fun _ => .nil)
  refine ⟨e', h', .slice h.next off len cap, k1, k2, k3, .slice k4, .mk rfl rfl k5.1 (by simp) (fun l hl => ?_) ?_, by simp [sameA], _, _, rfl⟩
  ·obtain ⟨x, hx, rfl⟩ := List.mem_map.1 hl
   rw [List.length_map]
   exact hRl x hx
  ·have hnil : R.flatten = [] := List.eq_nil_of_length_eq_zero (by omega)
   unfold loadCells
   rw [k5.2]
   have e1 : ((R.map fun l => l.map fun x => va x).length * sz) = 0 := by rw [List.length_map, hRlen]; exact h0
   have e2 : (R.map fun l => l.map fun x => va x).flatten = [] := by rw [← List.map_flatten, hnil]; rfl
   show cond (Nat.ble 0 off) (slice? [] (off - 0) ((R.map fun l => l.map fun x => va x).length * sz)) none = some _
   rw [e1, e2, show Nat.ble 0 off = true from Nat.ble_eq_true_of_le (Nat.zero_le _)]
   simp [slice?]
 ·have hle : off + len * sz ≤ C.toList.length := by
   have : ((C.toList.drop off).take (len * sz)).length = len * sz := by rw [hlen, List.length_map, hfl]
   rw [List.length_take, List.length_drop] at this
   omega
  have hC : C = (C.toList.take off ++ ((R.flatten.map fun x => vv x) ++ C.toList.drop (off + len * sz))).toArray := by
   rw [← hlen]
   have : C.toList.take off ++ ((C.toList.drop off).take (len * sz) ++ C.toList.drop (off + len * sz)) = C.toList := by
    rw [← List.drop_drop, List.take_append_drop, List.take_append_drop]
   rw [this]
  obtain ⟨e', h', k1, k2, k3, k4, k5⟩ := r.openWin (B := B) (lo := off) (PRE := C.toList.take off) (CS := R.flatten.map fun x => vv x) (junk := C.toList.drop (off + len * sz)) (el := el) (fr := fr) (cs := R.flatten.map fun x => va x) (by rw [← hC]; exact hB) (by rw [List.length_take]; omega) (fun _ => VRs.kinds hvr _)
  refine ⟨e', h', .slice h.next off len cap, k1, k2, k3, .slice k4, .mk rfl rfl k5.1 (by simp) (fun l hl => ?_) ?_, by simp [sameA], _, _, rfl⟩
  ·obtain ⟨x, hx, rfl⟩ := List.mem_map.1 hl
   rw [List.length_map]
   exact hRl x hx
  ·unfold loadCells
   rw [k5.2]
   have e1 : ((R.map fun l => l.map fun x => va x).length * sz) = len * sz := by rw [List.length_map, hRlen]
   have e2 : (R.map fun l => l.map fun x => va x).flatten = R.flatten.map fun x => va x := by rw [← List.map_flatten]
   show cond (Nat.ble off off) (slice? (R.flatten.map fun x => va x) (off - off) ((R.map fun l => l.map fun x => va x).length * sz)) none = some _
   rw [e1, e2, show Nat.ble off off = true from Nat.ble_eq_true_of_le (Nat.le_refl _), Nat.sub_self]
   exact slice_all (by rw [List.length_map, hfl])
end
end Go.AbsE

namespace Go.Proofs.YtkcimfopboelaaaGreat
open Go Go.AbsE Go.ChangeShapes Go.WideShapes Go.ChangeAt Go.RowKit
set_option linter.unusedSimpArgs false
set_option maxRecDepth 100000
set_option linter.unusedVariables false
theorem cells25 : Tryz.prog.cellsOf 25 = 2 := by kernel_rfl
theorem cells3 : Tryz.prog.cellsOf 3 = 1 := by kernel_rfl
theorem cells29 : Tryz.prog.cellsOf 29 = 2 := by kernel_rfl
theorem cells58 : Tryz.prog.cellsOf 58 = 7 := by kernel_rfl
theorem cells62 : Tryz.prog.cellsOf 62 = 7 := by kernel_rfl
theorem cells22 : Tryz.prog.cellsOf 22 = 1 := by kernel_rfl
theorem cells23 : Tryz.prog.cellsOf 23 = 1 := by kernel_rfl
theorem ctypes25 : Tryz.prog.cellTypes Tryz.prog.depth 25 = some [22, 23] := by kernel_rfl
theorem laidOut : laidOutB Tryz.prog = true := by kernel_rfl
def inI64 (n : Int) : Prop := -9223372036854775808 ≤ n ∧ n ≤ 9223372036854775807
theorem wf_in {n : Int} (h : (Lit.int .i64 n).wf = true) : inI64 n := by
 simp only [Lit.wf, Bool.and_eq_true, decide_eq_true_eq] at h
 have h1 : IntKind.i64.min = -9223372036854775808 := by decide
 have h2 : IntKind.i64.max = 9223372036854775807 := by decide
 rw [h1, h2] at h
 constructor <;> omega
variable {H : Type} {enc : TypeId × Value → H} {W : World} {base : Nat} {spare : Nat → Bool} {held : Bool}
theorem int_row {n : Nat} {cs : List Value} {x : DataW H × List MemPlace} (h : DataW.trod enc Tryz.prog W base spare held n 3 cs = some x) : ∃ a : Int, cs = [.int .i64 a] ∧ inI64 a := by
 obtain ⟨a, h1, _, h3⟩ := DataW.trod_int Tryz.underlying3 h
 exact ⟨a, h1, wf_in h3⟩
theorem span_row {n : Nat} {cs : List Value} {x : DataW H × List MemPlace} (h : DataW.trod enc Tryz.prog W base spare held n 29 cs = some x) : ∃ a b : Int, cs = [.int .i64 a, .int .i64 b] := by
 obtain ⟨y0, y1, k, _, hl, h0, h1⟩ := ChangeShapes.trod_struct2 Tryz.underlying29 h
 rw [cells29] at hl
 dsimp only at h0 h1
 rw [cells3] at h0 h1
 obtain ⟨a, ha, _⟩ := int_row h0
 obtain ⟨b, hb, _⟩ := int_row h1
 match cs, hl with
 | [c0, c1], _ =>
  simp at ha hb
  exact ⟨a, b, by rw [ha, hb]⟩
theorem list4 {α : Type} {l : List α} (h : l.length = 4) : ∃ c0 c1 c2 c3, l = [c0, c1, c2, c3] := by
 match l, h with
 | [c0, c1, c2, c3], _ => exact ⟨c0, c1, c2, c3, rfl⟩
theorem list5 {α : Type} {l : List α} (h : l.length = 5) : ∃ c0 c1 c2 c3 c4, l = [c0, c1, c2, c3, c4] := by
 match l, h with
 | [c0, c1, c2, c3, c4], _ => exact ⟨c0, c1, c2, c3, c4, rfl⟩
theorem list7 {α : Type} {l : List α} (h : l.length = 7) : ∃ c0 c1 c2 c3 c4 c5 c6, l = [c0, c1, c2, c3, c4, c5, c6] := by
 match l, h with
 | [c0, c1, c2, c3, c4, c5, c6], _ => exact ⟨c0, c1, c2, c3, c4, c5, c6, rfl⟩
theorem part_row {n : Nat} {cs : List Value} {x : DataW H × List MemPlace} (h : DataW.trod enc Tryz.prog W base spare held n 58 cs = some x) : ∃ r : List Int, r.length = 7 ∧ cs = r.map fun x => Value.int .i64 x := by
 obtain ⟨xs, m, _, _, hl, hlen, hfl⟩ := DataW.trod_struct Tryz.underlying58 h
 rw [cells58] at hl
 obtain ⟨c0, c1, c2, c3, c4, c5, c6, rfl⟩ := list7 hl
 obtain ⟨y0, y1, y2, y3, rfl⟩ := list4 hlen
 have t0 : DataW.trod enc Tryz.prog W base spare held m 29 [c0, c1] = some y0 := by
  have this : DataW.trod enc Tryz.prog W base spare held m 29 (([c0, c1, c2, c3, c4, c5, c6].drop 0).take (Tryz.prog.cellsOf 29)) = [y0, y1, y2, y3][0]? := hfl 0 _ rfl
  rw [cells29] at this;exact this
 have t1 : DataW.trod enc Tryz.prog W base spare held m 29 [c2, c3] = some y1 := by
  have this : DataW.trod enc Tryz.prog W base spare held m 29 (([c0, c1, c2, c3, c4, c5, c6].drop 2).take (Tryz.prog.cellsOf 29)) = [y0, y1, y2, y3][1]? := hfl 1 _ rfl
  rw [cells29] at this;exact this
 have t2 : DataW.trod enc Tryz.prog W base spare held m 29 [c4, c5] = some y2 := by
  have this : DataW.trod enc Tryz.prog W base spare held m 29 (([c0, c1, c2, c3, c4, c5, c6].drop 4).take (Tryz.prog.cellsOf 29)) = [y0, y1, y2, y3][2]? := hfl 2 _ rfl
  rw [cells29] at this;exact this
 have t3 : DataW.trod enc Tryz.prog W base spare held m 3 [c6] = some y3 := by
  have this : DataW.trod enc Tryz.prog W base spare held m 3 (([c0, c1, c2, c3, c4, c5, c6].drop 6).take (Tryz.prog.cellsOf 3)) = [y0, y1, y2, y3][3]? := hfl 3 _ rfl
  rw [cells3] at this;exact this
 obtain ⟨a0, a1, e0⟩ := span_row t0
 obtain ⟨a2, a3, e1⟩ := span_row t1
 obtain ⟨a4, a5, e2⟩ := span_row t2
 obtain ⟨a6, e3, _⟩ := int_row t3
 simp at e0 e1 e2 e3
 exact ⟨[a0, a1, a2, a3, a4, a5, a6], rfl, by rw [e0.1, e0.2, e1.1, e1.2, e2.1, e2.2, e3]; rfl⟩
theorem event_row {n : Nat} {cs : List Value} {x : DataW H × List MemPlace} (h : DataW.trod enc Tryz.prog W base spare held n 62 cs = some x) : ∃ r : List Int, r.length = 7 ∧ cs = r.map fun x => Value.int .i64 x := by
 obtain ⟨xs, m, _, _, hl, hlen, hfl⟩ := DataW.trod_struct Tryz.underlying62 h
 rw [cells62] at hl
 obtain ⟨c0, c1, c2, c3, c4, c5, c6, rfl⟩ := list7 hl
 obtain ⟨y0, y1, y2, y3, y4, rfl⟩ := list5 hlen
 have t0 : DataW.trod enc Tryz.prog W base spare held m 3 [c0] = some y0 := by
  have this : DataW.trod enc Tryz.prog W base spare held m 3 (([c0, c1, c2, c3, c4, c5, c6].drop 0).take (Tryz.prog.cellsOf 3)) = [y0, y1, y2, y3, y4][0]? := hfl 0 _ rfl
  rw [cells3] at this;exact this
 have t1 : DataW.trod enc Tryz.prog W base spare held m 29 [c1, c2] = some y1 := by
  have this : DataW.trod enc Tryz.prog W base spare held m 29 (([c0, c1, c2, c3, c4, c5, c6].drop 1).take (Tryz.prog.cellsOf 29)) = [y0, y1, y2, y3, y4][1]? := hfl 1 _ rfl
  rw [cells29] at this;exact this
 have t2 : DataW.trod enc Tryz.prog W base spare held m 3 [c3] = some y2 := by
  have this : DataW.trod enc Tryz.prog W base spare held m 3 (([c0, c1, c2, c3, c4, c5, c6].drop 3).take (Tryz.prog.cellsOf 3)) = [y0, y1, y2, y3, y4][2]? := hfl 2 _ rfl
  rw [cells3] at this;exact this
 have t3 : DataW.trod enc Tryz.prog W base spare held m 3 [c4] = some y3 := by
  have this : DataW.trod enc Tryz.prog W base spare held m 3 (([c0, c1, c2, c3, c4, c5, c6].drop 4).take (Tryz.prog.cellsOf 3)) = [y0, y1, y2, y3, y4][3]? := hfl 3 _ rfl
  rw [cells3] at this;exact this
 have t4 : DataW.trod enc Tryz.prog W base spare held m 29 [c5, c6] = some y4 := by
  have this : DataW.trod enc Tryz.prog W base spare held m 29 (([c0, c1, c2, c3, c4, c5, c6].drop 5).take (Tryz.prog.cellsOf 29)) = [y0, y1, y2, y3, y4][4]? := hfl 4 _ rfl
  rw [cells29] at this;exact this
 obtain ⟨a0, e0, _⟩ := int_row t0
 obtain ⟨a1, a2, e1⟩ := span_row t1
 obtain ⟨a3, e2, _⟩ := int_row t2
 obtain ⟨a4, e3, _⟩ := int_row t3
 obtain ⟨a5, a6, e4⟩ := span_row t4
 simp at e0 e1 e2 e3 e4
 exact ⟨[a0, a1, a2, a3, a4, a5, a6], rfl, by rw [e0, e1.1, e1.2, e2, e3, e4.1, e4.2]; rfl⟩
theorem slice_okw {t el : TypeId} {a : Addr} {len cap : Nat} {bs : Nat} (ht : Tryz.prog.underlying t = some (.slice el)) (h : Cell.okWide Tryz.prog W .any bs t (.slice (some a) len cap)) : a.spot = none ∧ ∃ C e fr, W.heap[a.block]? = some (.cells C e fr) := by
 unfold Cell.okWide at h
 rw [ht] at h
 dsimp only at h
 unfold Cell.ok at h
 rw [ht] at h
 dsimp only at h
 obtain ⟨_, _, _, h2, row, n, h3, _⟩ := h
 refine ⟨h2, ?_⟩
 unfold World.shape? at h3
 split at h3
 ·rename_i c e fr hq
  exact ⟨c, e, fr, hq⟩
 ·cases h3
theorem slice_cap {t el : TypeId} {a : Addr} {len cap : Nat} {bs : Nat} (ht : Tryz.prog.underlying t = some (.slice el)) (h : Cell.okWide Tryz.prog W .any bs t (.slice (some a) len cap)) : len < 9223372036854775808 := by
 unfold Cell.okWide at h
 rw [ht] at h
 dsimp only at h
 unfold Cell.ok at h
 rw [ht] at h
 dsimp only at h
 obtain ⟨h1, h2, _⟩ := h
 have : IntKind.i64.max = 9223372036854775807 := by decide
 rw [this] at h2
 omega
theorem slice_le {t el : TypeId} {a : Addr} {len cap : Nat} {bs : Nat} (ht : Tryz.prog.underlying t = some (.slice el)) (h : Cell.okWide Tryz.prog W .any bs t (.slice (some a) len cap)) : len ≤ cap := by
 unfold Cell.okWide at h
 rw [ht] at h
 dsimp only at h
 unfold Cell.ok at h
 rw [ht] at h
 dsimp only at h
 exact h.1
theorem rows_of {t el : TypeId} {sz fuel : Nat} {c : Value} {y : DataW H × List MemPlace} {bs : Nat} (ht : Tryz.prog.underlying t = some (.slice el)) (hsz : Tryz.prog.cellsOf el = sz)
  (hrow : ∀ {n : Nat} {cs : List Value} {x : DataW H × List MemPlace}, DataW.trod enc Tryz.prog W 0 (fun _ => true) true n el cs = some x → ∃ r : List Int, r.length = sz ∧ cs = r.map fun x => Value.int .i64 x)
  (h : DataW.trod enc Tryz.prog W 0 (fun _ => true) true fuel t [c] = some y) (hok : Cell.okWide Tryz.prog W .any bs t c) {e : Env} {hh : AH} (r : HR Tryz.prog (Base.all W) e hh W) :
  ∃ e' h' s, ∃ R : List (List Int), Env.le e e' ∧ HR Tryz.prog (Base.all W) e' h' W ∧ Ext hh h' ∧ VR e' s c ∧ (∀ l, l ∈ R → l.length = sz) ∧ SliceOf h' sz s (R.map fun l => l.map fun x => AVal.int .i64 x) ∧ R.length < 9223372036854775808 ∧ CutS s R.length := by
 rcases Deep.open_slice ht h with ⟨hcs, _⟩ | ⟨a, len, cap, m, n, D, Pl, hcs, _, hl, _, hmm, _, hx⟩
 ·simp at hcs
  subst hcs;exact ⟨e, hh, .nilslice, [], Env.le_refl e, r, Ext.refl _, .nilslice, (fun _ q => by cases q), .nil, by decide, fun q => absurd rfl q⟩
 ·simp at hcs
  subst hcs
  obtain ⟨hs, C, el', fr, hB⟩ := slice_okw ht hok
  have hcap := slice_cap ht hok
  have hle := slice_le ht hok
  have hm : m = cap := by simpa using hmm
  have each : ∀ i, ∃ rr : List Int, i < len → rr.length = sz ∧ ∀ k n, rr[k]? = some n → W.cell? (a.add (i * sz + k)) = some (.int .i64 n) := by
   intro i
   by_cases hi : i < len
   ·obtain ⟨cs', h1, h2⟩ := hx i (by omega)
    obtain ⟨rr, hr1, hr2⟩ := hrow h2
    rw [hsz] at h1
    obtain ⟨_, hlen, hc⟩ := World.cells?_some h1
    refine ⟨rr, fun _ => ⟨hr1, fun k n hk => ?_⟩⟩
    have hkl := (List.getElem?_eq_some_iff.1 hk).1
    have := hc k (by omega)
    obtain ⟨B, off, spot⟩ := a
    dsimp only at hs
    subst hs;rw [addr_add, addr_add] at this;rw [addr_add, ← Nat.add_assoc, this, hr2, List.getElem?_map, hk]
    rfl
   ·exact ⟨[], fun q => absurd q hi⟩
  obtain ⟨f, hf⟩ := Classical.axiomOfChoice each
  obtain ⟨e', h', s, k1, k2, k3, k4, k5, _, b, o, rfl⟩ := r.openRowsC (fun x => AVal.int .i64 x) (fun x => Value.int .i64 x) (fun _ _ => .int _ _) (cap := cap) (len := len) (sz := sz) hB hs f hf
  exact ⟨e', h', _, (List.range len).map f, k1, k2, k3, k4, fun l hl => by
   obtain ⟨i, hi, rfl⟩ := List.mem_map.1 hl
   exact (hf i (List.mem_range.1 hi)).1, k5, by rw [List.length_map, List.length_range]; exact hcap, fun _ => ⟨b, o, cap, by rw [List.length_map, List.length_range], by rw [List.length_map, List.length_range]; exact hle⟩⟩
def toP : List Int → PV
 | [a, b, c, d, e, f, g] => ⟨a, b, c, d, e, f, g⟩
 | _ => ⟨0, 0, 0, 0, 0, 0, 0⟩
def toE : List Int → EV
 | [a, b, c, d, e, f, g] => ⟨a, b, c, d, e, f, g⟩
 | _ => ⟨0, 0, 0, 0, 0, 0, 0⟩
theorem ps_eq {R : List (List Int)} (h : ∀ l, l ∈ R → l.length = 7) : (R.map fun l => l.map fun x => AVal.int .i64 x) = (R.map toP).map PV.cells := by
 rw [List.map_map];refine List.map_congr_left fun l hl => ?_
 match l, h l hl with
 | [a, b, c, d, e, f, g], _ => rfl
theorem es_eq {R : List (List Int)} (h : ∀ l, l ∈ R → l.length = 7) : (R.map fun l => l.map fun x => AVal.int .i64 x) = (R.map toE).map EV.cells := by
 rw [List.map_map];refine List.map_congr_left fun l hl => ?_
 match l, h l hl with
 | [a, b, c, d, e, f, g], _ => rfl
theorem array2 {α : Type} {cs : Array α} (h : cs.size = 2) : ∃ c0 c1, cs = #[c0, c1] := by
 obtain ⟨l⟩ := cs
 match l, h with
 | [c0, c1], _ => exact ⟨c0, c1, rfl⟩
theorem road_of {bs : Nat} {v : Value} {d : DataW H} {p : List MemPlace} (hv : Value.okWide Tryz.prog W .any bs 25 v) (h : DataW.Trod enc Tryz.prog W 0 (fun _ => true) true 25 v d p) {e : Env} {hh : AH} (r : HR Tryz.prog (Base.all W) e hh W) :
  ∃ e' h' R sp se, Env.le e e' ∧ HR Tryz.prog (Base.all W) e' h' W ∧ Ext hh h' ∧ VR e' (.agg [sp, se]) v ∧ RoadAt h' R sp se ∧ R.ps.length < 9223372036854775808 ∧ R.es.length < 9223372036854775808 ∧ CutS se R.es.length := by
 have hv2 := hv
 obtain ⟨cs, rfl, hsz⟩ := okWide_struct Tryz.underlying25 hv
 obtain ⟨c0, c1, rfl⟩ := array2 (hsz.trans cells25)
 obtain ⟨fuel, hf⟩ := h
 obtain ⟨y0, y1, n, _, hl, t0, t1⟩ := ChangeShapes.trod_struct2 Tryz.underlying25 hf
 dsimp only at t0 t1
 rw [cells22] at t0;rw [cells23] at t1
 unfold Value.okWide at hv2
 rw [Tryz.underlying25] at hv2
 obtain ⟨cs, hcs, _, ts, hts, _, hrow⟩ := hv2
 injection hcs with hcs
 subst hcs;rw [ctypes25] at hts;cases hts
 obtain ⟨u0, hu0, ok0⟩ := hrow 0 c0 rfl
 obtain ⟨u1, hu1, ok1⟩ := hrow 1 c1 rfl
 cases hu0;cases hu1
 obtain ⟨ea, ha, s0, R0, a1, a2, a3, a4, a5, a6, a7, a8⟩ := rows_of Tryz.underlying22 cells58 part_row t0 ok0 r
 obtain ⟨eb, hb, s1, R1, b1, b2, b3, b4, b5, b6, b7, b8⟩ := rows_of Tryz.underlying23 cells62 event_row t1 ok1 a2
 rw [ps_eq a5] at a6;rw [es_eq b5] at b6;refine ⟨eb, hb, ⟨R0.map toP, R1.map toE⟩, s0, s1, Env.le_trans a1 b1, b2, a3.trans b3, ?_, ⟨a6.ext b3, b6⟩, by simpa using a7, by simpa using b7, by show CutS s1 (R1.map toE).length; rw [List.length_map]; exact b8⟩;exact .agg (CS := [_, _]) (.cons (a4.mono b1) (.cons b4 .nil))
end Go.Proofs.YtkcimfopboelaaaGreat
