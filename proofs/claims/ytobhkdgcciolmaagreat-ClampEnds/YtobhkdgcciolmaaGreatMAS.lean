import Derived.Test.YtobhkdgcciolmaaGreatMAR
import Derived.Test.YtobhkdgcciolmaaGreatMAG
namespace Go.Proofs.YtobhkdgcciolmaaGreat
open Go Go.AbsE
set_option linter.unusedSimpArgs false
set_option maxRecDepth 100000
set_option maxHeartbeats 0
set_option linter.unusedVariables false
noncomputable def opsE29 : Array Oper := ((drawnOps Tryz.f6)[1]?).getD #[]
theorem befsE29 : befs0 opsE29 = [0, 0, 0, 0, 14, 31, 0, 127, 255, 511, 511, 0, 3071, 8191] := by kernel_rfl
theorem sizeE29 : opsE29.size = 14 := by kernel_rfl
theorem plE29_4_5_7_11 : planX opsE29 [0, 0, 0, 0, 14, 31, 0, 127, 255, 511, 511, 255, 3071, 8191] [0, 1, 2, 3, 6, 4, 5, 7, 8, 9, 10, 11, 12, 13] = some (mkPlan opsE29.toList [(0, 0, true, false), (1, 0, true, false), (2, 0, true, false), (3, 0, true, false), (6, 0, true, false), (4, 14, false, false), (5, 31, false, false), (7, 127, false, false), (8, 255, true, false), (9, 511, true, false), (10, 511, true, false), (11, 255, false, false), (12, 3071, false, false), (13, 8191, true, false)]) := by kernel_rfl
theorem plE29_4_5_11_7 : planX opsE29 [0, 0, 0, 0, 14, 31, 0, 2175, 2303, 2559, 2559, 63, 3071, 8191] [0, 1, 2, 3, 6, 4, 5, 11, 7, 8, 9, 10, 12, 13] = some (mkPlan opsE29.toList [(0, 0, true, false), (1, 0, true, false), (2, 0, true, false), (3, 0, true, false), (6, 0, true, false), (4, 14, false, false), (5, 31, false, false), (11, 63, false, false), (7, 2175, false, false), (8, 2303, true, false), (9, 2559, true, false), (10, 2559, true, false), (12, 3071, false, false), (13, 8191, true, false)]) := by kernel_rfl
theorem plE29_4_11_5_7 : planX opsE29 [0, 0, 0, 0, 14, 2079, 0, 2175, 2303, 2559, 2559, 30, 3071, 8191] [0, 1, 2, 3, 6, 4, 11, 5, 7, 8, 9, 10, 12, 13] = some (mkPlan opsE29.toList [(0, 0, true, false), (1, 0, true, false), (2, 0, true, false), (3, 0, true, false), (6, 0, true, false), (4, 14, false, false), (11, 30, false, false), (5, 2079, false, false), (7, 2175, false, false), (8, 2303, true, false), (9, 2559, true, false), (10, 2559, true, false), (12, 3071, false, false), (13, 8191, true, false)]) := by kernel_rfl
theorem plE29_11_4_5_7 : planX opsE29 [0, 0, 0, 0, 2062, 2079, 0, 2175, 2303, 2559, 2559, 0, 3071, 8191] [0, 1, 2, 3, 6, 11, 4, 5, 7, 8, 9, 10, 12, 13] = some (mkPlan opsE29.toList [(0, 0, true, false), (1, 0, true, false), (2, 0, true, false), (3, 0, true, false), (6, 0, true, false), (11, 0, false, false), (4, 2062, false, false), (5, 2079, false, false), (7, 2175, false, false), (8, 2303, true, false), (9, 2559, true, false), (10, 2559, true, false), (12, 3071, false, false), (13, 8191, true, false)]) := by kernel_rfl
theorem altsE29 {P : Program} {c : FC} {k : List AItem} {id : Nat} {t : Tr AVal} {h : AH} {Q : AM → Prop}
  (g4_5_7_11 : ∀ pl, planX opsE29 [0, 0, 0, 0, 14, 31, 0, 127, 255, 511, 511, 255, 3071, 8191] [0, 1, 2, 3, 6, 4, 5, 7, 8, 9, 10, 11, 12, 13] = some pl → GoE P c k Q opsE29 pl (eraseT opsE29.toList t) [] t h)
  (g4_5_11_7 : ∀ pl, planX opsE29 [0, 0, 0, 0, 14, 31, 0, 2175, 2303, 2559, 2559, 63, 3071, 8191] [0, 1, 2, 3, 6, 4, 5, 11, 7, 8, 9, 10, 12, 13] = some pl → GoE P c k Q opsE29 pl (eraseT opsE29.toList t) [] t h)
  (g4_11_5_7 : ∀ pl, planX opsE29 [0, 0, 0, 0, 14, 2079, 0, 2175, 2303, 2559, 2559, 30, 3071, 8191] [0, 1, 2, 3, 6, 4, 11, 5, 7, 8, 9, 10, 12, 13] = some pl → GoE P c k Q opsE29 pl (eraseT opsE29.toList t) [] t h)
  (g11_4_5_7 : ∀ pl, planX opsE29 [0, 0, 0, 0, 2062, 2079, 0, 2175, 2303, 2559, 2559, 0, 3071, 8191] [0, 1, 2, 3, 6, 11, 4, 5, 7, 8, 9, 10, 12, 13] = some pl → GoE P c k Q opsE29 pl (eraseT opsE29.toList t) [] t h) :
  Go P c (.code (.region id opsE29 true) :: k) t h Q := by
 refine Go.drawnX plE29_11_4_5_7 fun s hv => ?_
 have hb := fun i k hi hk => VB.before hv befsE29 i k (by rw [sizeE29]; exact hi) hk
 have h4_1 := hb 4 1 (by decide) (by decide)
 have h4_2 := hb 4 2 (by decide) (by decide)
 have h4_3 := hb 4 3 (by decide) (by decide)
 have h5_0 := hb 5 0 (by decide) (by decide)
 have h5_1 := hb 5 1 (by decide) (by decide)
 have h5_2 := hb 5 2 (by decide) (by decide)
 have h5_3 := hb 5 3 (by decide) (by decide)
 have h5_4 := hb 5 4 (by decide) (by decide)
 have h7_0 := hb 7 0 (by decide) (by decide)
 have h7_1 := hb 7 1 (by decide) (by decide)
 have h7_2 := hb 7 2 (by decide) (by decide)
 have h7_3 := hb 7 3 (by decide) (by decide)
 have h7_4 := hb 7 4 (by decide) (by decide)
 have h7_5 := hb 7 5 (by decide) (by decide)
 have h7_6 := hb 7 6 (by decide) (by decide)
 have h8_0 := hb 8 0 (by decide) (by decide)
 have h8_1 := hb 8 1 (by decide) (by decide)
 have h8_2 := hb 8 2 (by decide) (by decide)
 have h8_3 := hb 8 3 (by decide) (by decide)
 have h8_4 := hb 8 4 (by decide) (by decide)
 have h8_5 := hb 8 5 (by decide) (by decide)
 have h8_6 := hb 8 6 (by decide) (by decide)
 have h8_7 := hb 8 7 (by decide) (by decide)
 have h9_0 := hb 9 0 (by decide) (by decide)
 have h9_1 := hb 9 1 (by decide) (by decide)
 have h9_2 := hb 9 2 (by decide) (by decide)
 have h9_3 := hb 9 3 (by decide) (by decide)
 have h9_4 := hb 9 4 (by decide) (by decide)
 have h9_5 := hb 9 5 (by decide) (by decide)
 have h9_6 := hb 9 6 (by decide) (by decide)
 have h9_7 := hb 9 7 (by decide) (by decide)
 have h9_8 := hb 9 8 (by decide) (by decide)
 have h10_0 := hb 10 0 (by decide) (by decide)
 have h10_1 := hb 10 1 (by decide) (by decide)
 have h10_2 := hb 10 2 (by decide) (by decide)
 have h10_3 := hb 10 3 (by decide) (by decide)
 have h10_4 := hb 10 4 (by decide) (by decide)
 have h10_5 := hb 10 5 (by decide) (by decide)
 have h10_6 := hb 10 6 (by decide) (by decide)
 have h10_7 := hb 10 7 (by decide) (by decide)
 have h10_8 := hb 10 8 (by decide) (by decide)
 have d11_4 := VB.apart hv befsE29 11 4 (by rw [sizeE29]; decide) (by decide)
 have d11_5 := VB.apart hv befsE29 11 5 (by rw [sizeE29]; decide) (by decide)
 have d11_7 := VB.apart hv befsE29 11 7 (by rw [sizeE29]; decide) (by decide)
 by_cases q11_4 : s.idxOf 11 < s.idxOf 4
 ·refine ⟨_, _, _, plE29_11_4_5_7, VB.alt hv befsE29 sizeE29 [(11, 4), (11, 5), (11, 7), (11, 8), (11, 9), (11, 10)] (by kernel_rfl) ?_, g11_4_5_7 _ plE29_11_4_5_7⟩
  intro e he
  simp only [List.mem_cons, List.not_mem_nil, or_false] at he
  rcases he with rfl | rfl | rfl | rfl | rfl | rfl <;> dsimp only <;> omega
 ·by_cases q11_5 : s.idxOf 11 < s.idxOf 5
  ·refine ⟨_, _, _, plE29_4_11_5_7, VB.alt hv befsE29 sizeE29 [(11, 5), (11, 7), (11, 8), (11, 9), (11, 10), (1, 11), (2, 11), (3, 11), (4, 11)] (by kernel_rfl) ?_, g4_11_5_7 _ plE29_4_11_5_7⟩
   intro e he
   simp only [List.mem_cons, List.not_mem_nil, or_false] at he
   rcases he with rfl | rfl | rfl | rfl | rfl | rfl | rfl | rfl | rfl <;> dsimp only <;> omega
  ·by_cases q11_7 : s.idxOf 11 < s.idxOf 7
   ·refine ⟨_, _, _, plE29_4_5_11_7, VB.alt hv befsE29 sizeE29 [(11, 7), (11, 8), (11, 9), (11, 10), (0, 11), (1, 11), (2, 11), (3, 11), (4, 11), (5, 11)] (by kernel_rfl) ?_, g4_5_11_7 _ plE29_4_5_11_7⟩
    intro e he
    simp only [List.mem_cons, List.not_mem_nil, or_false] at he
    rcases he with rfl | rfl | rfl | rfl | rfl | rfl | rfl | rfl | rfl | rfl <;> dsimp only <;> omega
   ·refine ⟨_, _, _, plE29_4_5_7_11, VB.alt hv befsE29 sizeE29 [(0, 11), (1, 11), (2, 11), (3, 11), (4, 11), (5, 11), (6, 11), (7, 11)] (by kernel_rfl) ?_, g4_5_7_11 _ plE29_4_5_7_11⟩
    intro e he
    simp only [List.mem_cons, List.not_mem_nil, or_false] at he
    rcases he with rfl | rfl | rfl | rfl | rfl | rfl | rfl | rfl <;> dsimp only <;> omega
theorem inside33_is {n lo hi : Int} {r : Bool} (hr : decide (lo ≤ n ∧ n ≤ hi) = r) {h : AH} : Runs Tryz.prog 33 [.int .i64 n, .agg [.int .i64 lo, .int .i64 hi]] h (fun en h' => en = .ret (.bool r) ∧ Ext h h') := by
 subst hr
 have e0 : Ext h h := Ext.refl _
 refine Runs.intro aFunc33 rfl rfl rfl rfl fun rest => ?_;apply gS;refine gR rfl ?_;refine GoR.box rfl rfl rfl rfl rfl rfl fun h0 x0 f0 => ?_;have := e0.1;replace e0 := e0.trans x0;have := f0.1;refine gP ?_;apply gE;apply gS;refine gR rfl ?_;refine gO rfl rfl (fa24_0 rfl) rfl ?_;refine gO rfl rfl (ld3 rfl f0 rfl) rfl ?_;refine gP ?_
 by_cases hs0 : (lo : Int) ≤ n
 ·refine gO rfl rfl (kMT rfl rfl) rfl ?_;iterate 2 refine gP ?_
  refine gO rfl rfl (fa24_1 rfl) rfl ?_;refine gO rfl rfl (ld3 rfl f0 rfl) rfl ?_
  by_cases hs1 : (n : Int) ≤ hi
  ·refine gO rfl rfl (kMT rfl rfl) rfl ?_;iterate 2 refine gP ?_
   apply gE;exact gV (ret_end (aResult_of Tryz.func33 rfl rfl) ⟨ret_true (by omega), e0⟩)
  ·refine gO rfl rfl (kMF rfl rfl) rfl ?_;iterate 2 refine gP ?_
   apply gE;exact gV (ret_end (aResult_of Tryz.func33 rfl rfl) ⟨ret_false (by omega), e0⟩)
 ·refine gO rfl rfl (kMF rfl rfl) rfl ?_;refine gP ?_;iterate 4 refine GoR.skip rfl rfl rfl ?_
  iterate 2 refine gP ?_
  apply gE;exact gV (ret_end (aResult_of Tryz.func33 rfl rfl) ⟨ret_false (by omega), e0⟩)
theorem builtR_is {C : ClampV} (O : C.Ok) {i : Nat} (hi : i < C.ps.length) : C.builtR (i : Nat) = C.tr (C.first i) zSp := by
 unfold ClampV.builtR
 rw [ClampV.ok_yes O, ClampV.clamp_yes (by omega), Int.toNat_natCast]
theorem hasR_is {C : ClampV} (O : C.Ok) {i : Nat} (hi : i < C.ps.length) : C.hasR (i : Nat) = C.tr (C.left i) zSp := by
 unfold ClampV.hasR
 rw [ClampV.ok_yes O, ClampV.clamp_yes (by omega), Int.toNat_natCast]
theorem soldR_is {C : ClampV} (O : C.Ok) {i : Nat} (hi : i < C.ps.length) : C.soldR (i : Nat) = C.tr (C.sold i) zSp := by
 unfold ClampV.soldR
 rw [ClampV.ok_yes O, ClampV.clamp_yes (by omega), Int.toNat_natCast]
theorem enoughR_is {C : ClampV} (O : C.Ok) {i : Nat} (hi : i < C.ps.length) {n : Int} (hn : 0 ≤ n ∧ n ≤ 20000) : C.enoughR (i : Nat) n = C.tr (reachV (C.left i) n) 0 := by
 unfold ClampV.enoughR
 rw [ClampV.ok_yes O, ClampV.clamp_yes (by omega), sods_yes hn, Int.toNat_natCast]
theorem emptyR_is {C : ClampV} (O : C.Ok) : C.emptyR = C.tr (((C.gone : Nat) : Int), ((C.low : Nat) : Int)) zSp := by
 unfold ClampV.emptyR
 rw [ClampV.ok_yes O]
theorem clashR_is {C : ClampV} (O : C.Ok) : C.clashR = if C.possible = true then (0, 4) else (C.clashI.getD 0, 0) := by
 unfold ClampV.clashR ClampV.clashQ
 rw [ClampV.ok_yes O]
theorem hasR_far {C : ClampV} (O : C.Ok) : C.hasR (C.ps.length : Nat) = ((0, 0), 2) := by
 unfold ClampV.hasR
 rw [ClampV.ok_yes O, ClampV.clamp_no (by omega)]
 rfl
theorem enoughR_far {C : ClampV} (O : C.Ok) {i : Nat} (hi : i < C.ps.length) : C.enoughR (i : Nat) (-1) = (0, 2) := by
 unfold ClampV.enoughR
 rw [ClampV.ok_yes O, ClampV.clamp_yes (by omega), sods_no (by omega)]
theorem shareR_far {C : ClampV} (O : C.Ok) : C.shareR 20001 = (0, 2) := by
 unfold ClampV.shareR
 rw [ClampV.ok_yes O, sods_no (by omega)]
theorem first_in {C : ClampV} (O : C.Ok) (hp : C.possible = true) {i : Nat} (hi : i < C.ps.length) : 0 ≤ (C.first i).1 ∧ (C.first i).1 ≤ (C.first i).2 ∧ (C.first i).2 ≤ 5000 ∧ 0 ≤ (C.sold i).1 ∧ (C.sold i).1 ≤ 5000 ∧ 0 ≤ (C.sold i).2 ∧ (C.sold i).2 ≤ 5000 := by
 have hin : ∀ b, b ∈ C.builds → 1 ≤ firstV b i ∧ firstV b i ≤ 5000 := fun b hb => (aft_is O hb hi).1
 have ha : ∀ b, b ∈ C.builds → 0 ≤ (C.aft b i).1 ∧ (C.aft b i).1 ≤ (C.aft b i).2 ∧ (C.aft b i).2 ≤ firstV b i := fun b hb => by
  have := aft_is O hb hi
  omega
 obtain ⟨⟨b1, hb1, e1⟩, ⟨b2, hb2, e2⟩⟩ := join_map_ex (f := fun b => (firstV b i, firstV b i)) hp (fun b hb => by have := hin b hb; dsimp only; omega)
 obtain ⟨⟨b3, hb3, e3⟩, ⟨b4, hb4, e4⟩⟩ := join_map_ex (f := fun b => minusV (firstV b i, firstV b i) (C.aft b i)) hp (fun b hb => by have := hin b hb; have := ha b hb; unfold minusV; dsimp only; omega)
 have l1 := join_map_le (f := fun b => (firstV b i, firstV b i)) hb1
 have := hin b1 hb1
 have := hin b2 hb2
 have := hin b3 hb3
 have := hin b4 hb4
 have := ha b3 hb3
 have := ha b4 hb4
 unfold minusV at e3 e4
 unfold ClampV.first ClampV.sold
 dsimp only at e1 e2 e3 e4 l1
 unfold minusV
 dsimp only
 omega
theorem law6_bad {C : ClampV} {sp se : AVal} {h : AH} (A : ClampAt h C sp se) (hb : C.ps.length < 9223372036854775808 ∧ C.es.length < 9223372036854775808) {w1 w2 : Int} (O : ¬ C.Ok) : Runs Tryz.prog 6 [.agg (C.cells sp se), .int .u8 w1, .int .u16 w2] h (fun en h' => en = .ret (.bool true) ∧ Ext h h') := by
 have hL := fun {h'} (e : Ext h h') => long29_ok (A.ext e) hb.1 hb.2
 by_cases hs : C.ps.length ≤ 40 ∧ C.es.length ≤ 40
 ·rw [decide_eq_false (by omega)] at hL
  have B : ClampB C := ⟨hs.1, hs.2⟩
  have hR := fun {h'} (e : Ext h h') => Clamp30_ok (A.ext e) B
  rw [decide_eq_false O] at hR
  have hA := fun {h'} (e : Ext h h') => All_ok (A.ext e) B
  have hS := fun {h'} (e : Ext h h') => Share_ok (A.ext e) B 0
  rw [show C.allR = ((0, 0), 1) from ClampV.ok_no O] at hA;rw [show C.shareR 0 = (0, 1) from ClampV.ok_no O] at hS
  unfold spC at hA
  dsimp only at hA
  unfold ClampV.cells at *
  have e0 : Ext h h := Ext.refl _
  refine Runs.intro aFunc6 rfl rfl rfl rfl fun rest => ?_;apply gS;refine gR rfl ?_;refine GoR.box rfl rfl rfl rfl rfl rfl fun h0 x0 f0 => ?_;have := e0.1;replace e0 := e0.trans x0;have := f0.1;refine gP ?_;apply gE;iterate 2 apply gS
  refine gR rfl ?_;refine gO rfl rfl (ld27 rfl f0 rfl) rfl ?_;refine GoR.call rfl rfl (aCF aFunc29 rfl) (hL e0) ?_ np;rintro v1 h1 ⟨q, x1⟩;cases q;refine ⟨_, rfl, ?_⟩;replace f0 := f0.ext x1;replace e0 := e0.trans x1;apply gE;refine gC (b := false) rfl ?_;refine gD ?_;iterate 2 apply gS
  refine gR rfl ?_;refine gO rfl rfl (ld27 rfl f0 rfl) rfl ?_;refine GoR.call rfl rfl (aCF aFunc30 rfl) (hR e0) ?_ np;rintro v2 h2 ⟨q, x2⟩;cases q;refine ⟨_, rfl, ?_⟩;replace f0 := f0.ext x2;replace e0 := e0.trans x2;refine gP ?_;apply gE;refine gC (b := true) rfl ?_;apply gS;refine gR rfl ?_;refine gO rfl rfl (ld27 rfl f0 rfl) rfl ?_;refine GoR.call rfl rfl (aCF aFunc19 rfl) (hA e0) ?_ np;rintro v3 h3 ⟨q, x3⟩;cases q;refine ⟨_, rfl, ?_⟩;replace f0 := f0.ext x3;replace e0 := e0.trans x3;iterate 3 refine gP ?_
  refine GoR.alloc rfl rfl rfl zt24 rfl rfl fun h4 x4 f4 => ?_;have := e0.1;have := f0.1;replace f0 := f0.ext x4;replace e0 := e0.trans x4;have := f4.1;refine GoR.store rfl rfl rfl rfl rfl rfl f4 rfl sz24 rfl rfl rfl fun h5 u5 => ?_;replace f4 := u5.has f4;replace f0 := f0.upd u5 (by omega);replace e0 := e0.upd u5 (by omega);refine gP ?_;apply gE;apply gS;refine gR rfl ?_;refine gO rfl rfl (ld27 rfl f0 rfl) rfl ?_;refine GoR.call rfl rfl (aCF aFunc25 rfl) (hS e0) ?_ np;rintro v6 h6 ⟨q, x6⟩;cases q;refine ⟨_, rfl, ?_⟩;replace f4 := f4.ext x6;replace e0 := e0.trans x6;iterate 5 refine gP ?_
  apply gE;apply gS;refine gR rfl ?_;refine gP ?_;refine gO rfl rfl (kET rfl rfl) rfl ?_;iterate 3 refine gP ?_
  refine gO rfl rfl (kET rfl rfl) rfl ?_;iterate 2 refine gP ?_
  refine gO rfl rfl (ld24 rfl f4 rfl) rfl ?_;refine gO rfl rfl (aOp_build (ps := []) (cs := [.int .i64 0, .int .i64 0]) zt24 hu24 pl24 rfl rfl) rfl ?_;refine gO rfl rfl (aOp_eqlSpan spanT24 rfl rfl rfl) rfl ?_;iterate 3 refine gP ?_
  refine gO rfl rfl (kET rfl rfl) rfl ?_;iterate 2 refine gP ?_
  refine GoR.call rfl rfl (aCF aFunc12 rfl) (alive_ok) ?_ np;rintro v7 h7 ⟨q, x7⟩;cases q;refine ⟨_, rfl, ?_⟩;replace e0 := e0.trans x7;iterate 2 refine gP ?_
  apply gE;exact gW Tryz.func6 rfl rfl ⟨rfl, e0⟩
 ·rw [decide_eq_true (by omega)] at hL
  unfold ClampV.cells at *
  have e0 : Ext h h := Ext.refl _
  refine Runs.intro aFunc6 rfl rfl rfl rfl fun rest => ?_;apply gS;refine gR rfl ?_;refine GoR.box rfl rfl rfl rfl rfl rfl fun h0 x0 f0 => ?_;replace e0 := e0.trans x0;refine gP ?_;apply gE;iterate 2 apply gS
  refine gR rfl ?_;refine gO rfl rfl (ld27 rfl f0 rfl) rfl ?_;refine GoR.call rfl rfl (aCF aFunc29 rfl) (hL e0) ?_ np;rintro v1 h1 ⟨q, x1⟩;cases q;refine ⟨_, rfl, ?_⟩;replace e0 := e0.trans x1;apply gE;refine gC (b := true) rfl ?_;apply gS;refine gR rfl ?_;refine GoR.call rfl rfl (aCF aFunc12 rfl) (alive_ok) ?_ np;rintro v2 h2 ⟨q, x2⟩;cases q;refine ⟨_, rfl, ?_⟩;replace e0 := e0.trans x2;refine gP ?_;apply gE;exact gW Tryz.func6 rfl rfl ⟨rfl, e0⟩
theorem law6_ok {C : ClampV} {sp se : AVal} {h : AH} (A : ClampAt h C sp se) (O : C.Ok) {a b : Nat} (ha : a < 256) (hb' : b < 65536) : Runs Tryz.prog 6 [.agg (C.cells sp se), .int .u8 a, .int .u16 b] h (fun en h' => en = .ret (.bool true) ∧ Ext h h') := by
 have hnp := O.np
 have hne := O.ne
 have B : ClampB C := O.B
 have hL := fun {h'} (e : Ext h h') => long29_ok (A.ext e) (by omega) (by omega)
 rw [decide_eq_false (by omega)] at hL
 have hR := fun {h'} (e : Ext h h') => Clamp30_ok (A.ext e) B
 rw [decide_eq_true O] at hR
 have hl1 := A.ps.len
 have hl2 := A.es.len
 rw [List.length_map] at hl1 hl2
 obtain ⟨k, hk⟩ : ∃ k, a % C.ps.length = k := ⟨_, rfl⟩
 have hkl : k < C.ps.length := by rw [← hk]; exact Nat.mod_lt _ (by omega)
 obtain ⟨n, hn⟩ : ∃ n, b % 5001 = n := ⟨_, rfl⟩
 have hnl : n < 5001 := by rw [← hn]; exact Nat.mod_lt _ (by omega)
 have hHk := fun {h'} (e : Ext h h') => Has_ok (A.ext e) B (k : Nat)
 have hBk := fun {h'} (e : Ext h h') => Built_ok (A.ext e) B (k : Nat)
 have hSk := fun {h'} (e : Ext h h') => Sold_ok (A.ext e) B (k : Nat)
 have hEk := fun {h'} (e : Ext h h') => Enough_ok (A.ext e) B (k : Nat) (n : Nat)
 have hEf := fun {h'} (e : Ext h h') => Enough_ok (A.ext e) B (k : Nat) (-1)
 have hHf := fun {h'} (e : Ext h h') => Has_ok (A.ext e) B (C.ps.length : Nat)
 have hEm := fun {h'} (e : Ext h h') => Empty_ok (A.ext e) B
 have hSh := fun {h'} (e : Ext h h') => Share_ok (A.ext e) B 20001
 have hCl := fun {h'} (e : Ext h h') => Clash_ok (A.ext e) B
 rw [hasR_is O hkl] at hHk;rw [builtR_is O hkl] at hBk;rw [soldR_is O hkl] at hSk;rw [enoughR_is O hkl (by omega)] at hEk;rw [enoughR_far O hkl] at hEf;rw [hasR_far O] at hHf;rw [emptyR_is O] at hEm;rw [shareR_far O] at hSh;rw [clashR_is O] at hCl
 unfold spC at *
 dsimp only at hHf hEf hSh
 cases hp : C.possible with
 | false =>
  rw [ClampV.tr_no hp] at hHk hBk hSk hEk hEm;rw [if_neg (by rw [hp]; decide)] at hCl
  unfold zSp at *
  dsimp only at hHk hBk hSk hEk hEm hCl
  unfold ClampV.cells at *
  have e0 : Ext h h := Ext.refl _
  refine Runs.intro aFunc6 rfl rfl rfl rfl fun rest => ?_;apply gS;refine gR rfl ?_;refine GoR.box rfl rfl rfl rfl rfl rfl fun h0 x0 f0 => ?_;have := e0.1;replace e0 := e0.trans x0;have := f0.1;refine gP ?_;apply gE;iterate 2 apply gS
  refine gR rfl ?_;refine gO rfl rfl (ld27 rfl f0 rfl) rfl ?_;refine GoR.call rfl rfl (aCF aFunc29 rfl) (hL e0) ?_ np;rintro v1 h1 ⟨q, x1⟩;cases q;refine ⟨_, rfl, ?_⟩;replace f0 := f0.ext x1;replace e0 := e0.trans x1;apply gE;refine gC (b := false) rfl ?_;refine gD ?_;iterate 2 apply gS
  refine gR rfl ?_;refine gO rfl rfl (ld27 rfl f0 rfl) rfl ?_;refine GoR.call rfl rfl (aCF aFunc30 rfl) (hR e0) ?_ np;rintro v2 h2 ⟨q, x2⟩;cases q;refine ⟨_, rfl, ?_⟩;replace f0 := f0.ext x2;replace e0 := e0.trans x2;refine gP ?_;apply gE;refine gC (b := false) rfl ?_;refine gD ?_;apply gS;refine gR rfl ?_;refine gP ?_;refine gO rfl rfl (aOp_convU8 rfl Tryz.underlying5 Tryz.underlying3 (by omega)) rfl ?_;refine gO rfl rfl (fa27_0 rfl) rfl ?_;refine gO rfl rfl (ld22 rfl f0 rfl) rfl ?_;refine gO rfl rfl (aOp_lenSlice Tryz.underlying22 rfl hl1) rfl ?_;refine gO rfl rfl (aOp_rem (r := ((k : Nat) : Int)) rfl rfl (by omega) (by rw [← hk]; rfl)) rfl ?_;refine gP ?_;refine gO rfl rfl (aOp_convU16 rfl Tryz.underlying42 Tryz.underlying3 (by omega)) rfl ?_;refine gO rfl rfl (aOp_rem (r := ((n : Nat) : Int)) rfl rfl (by omega) (by rw [← hn]; rfl)) rfl ?_;iterate 2 refine gP ?_
  apply gE;apply gS;refine gR rfl ?_;refine gO rfl rfl (ld27 rfl f0 rfl) rfl ?_;refine gP ?_;refine GoR.call rfl rfl (aCF aFunc15 rfl) (hHk e0) ?_ np;rintro v3 h3 ⟨q, x3⟩;cases q;refine ⟨_, rfl, ?_⟩;replace f0 := f0.ext x3;replace e0 := e0.trans x3;iterate 3 refine gP ?_
  refine GoR.alloc rfl rfl rfl zt24 rfl rfl fun h4 x4 f4 => ?_;have := e0.1;have := f0.1;replace f0 := f0.ext x4;replace e0 := e0.trans x4;have := f4.1;refine GoR.store rfl rfl rfl rfl rfl rfl f4 rfl sz24 rfl rfl rfl fun h5 u5 => ?_;replace f4 := u5.has f4;replace f0 := f0.upd u5 (by omega);replace e0 := e0.upd u5 (by omega);refine gP ?_;apply gE;apply gS;refine gR rfl ?_;refine gO rfl rfl (ld27 rfl f0 rfl) rfl ?_;refine gP ?_;refine GoR.call rfl rfl (aCF aFunc13 rfl) (hBk e0) ?_ np;rintro v6 h6 ⟨q, x6⟩;cases q;refine ⟨_, rfl, ?_⟩;replace f4 := f4.ext x6;replace f0 := f0.ext x6;replace e0 := e0.trans x6;iterate 3 refine gP ?_
  refine GoR.alloc rfl rfl rfl zt24 rfl rfl fun h7 x7 f7 => ?_;have := e0.1;have := f4.1;have := f0.1;replace f4 := f4.ext x7;replace f0 := f0.ext x7;replace e0 := e0.trans x7;have := f7.1;refine GoR.store rfl rfl rfl rfl rfl rfl f7 rfl sz24 rfl rfl rfl fun h8 u8 => ?_;replace f7 := u8.has f7;replace f4 := f4.upd u8 (by omega);replace f0 := f0.upd u8 (by omega);replace e0 := e0.upd u8 (by omega);refine gP ?_;apply gE;apply gS;refine gR rfl ?_;refine gO rfl rfl (ld27 rfl f0 rfl) rfl ?_;refine gP ?_;refine GoR.call rfl rfl (aCF aFunc17 rfl) (hSk e0) ?_ np;rintro v9 h9 ⟨q, x9⟩;cases q;refine ⟨_, rfl, ?_⟩;replace f7 := f7.ext x9;replace f4 := f4.ext x9;replace f0 := f0.ext x9;replace e0 := e0.trans x9;iterate 3 refine gP ?_
  refine GoR.alloc rfl rfl rfl zt24 rfl rfl fun h10 x10 f10 => ?_;have := e0.1;have := f7.1;have := f4.1;have := f0.1;replace f7 := f7.ext x10;replace f4 := f4.ext x10;replace f0 := f0.ext x10;replace e0 := e0.trans x10;have := f10.1;refine GoR.store rfl rfl rfl rfl rfl rfl f10 rfl sz24 rfl rfl rfl fun h11 u11 => ?_;replace f10 := u11.has f10;replace f7 := f7.upd u11 (by omega);replace f4 := f4.upd u11 (by omega);replace f0 := f0.upd u11 (by omega);replace e0 := e0.upd u11 (by omega);refine gP ?_;apply gE;apply gS;refine gR rfl ?_;refine gO rfl rfl (ld27 rfl f0 rfl) rfl ?_;iterate 2 refine gP ?_
  refine GoR.call rfl rfl (aCF aFunc21 rfl) (hEk e0) ?_ np;rintro v12 h12 ⟨q, x12⟩;cases q;refine ⟨_, rfl, ?_⟩;replace f10 := f10.ext x12;replace f7 := f7.ext x12;replace f4 := f4.ext x12;replace f0 := f0.ext x12;replace e0 := e0.trans x12;iterate 5 refine gP ?_
  apply gE;apply gS;refine gR rfl ?_;refine gO rfl rfl (ld27 rfl f0 rfl) rfl ?_;refine GoR.call rfl rfl (aCF aFunc23 rfl) (hEm e0) ?_ np;rintro v13 h13 ⟨q, x13⟩;cases q;refine ⟨_, rfl, ?_⟩;replace f10 := f10.ext x13;replace f7 := f7.ext x13;replace f4 := f4.ext x13;replace f0 := f0.ext x13;replace e0 := e0.trans x13;iterate 7 refine gP ?_
  apply gE;apply gS;refine gR rfl ?_;refine gO rfl rfl (ld27 rfl f0 rfl) rfl ?_;refine GoR.call rfl rfl (aCF aFunc27 rfl) (hCl e0) ?_ np;rintro v14 h14 ⟨q, x14⟩;cases q;refine ⟨_, rfl, ?_⟩;replace f10 := f10.ext x14;replace f7 := f7.ext x14;replace f4 := f4.ext x14;replace f0 := f0.ext x14;replace e0 := e0.trans x14;iterate 5 refine gP ?_
  apply gE;apply gS;refine gR rfl ?_;refine gO rfl rfl (ld27 rfl f0 rfl) rfl ?_;refine gO rfl rfl (fa27_0 rfl) rfl ?_;refine gO rfl rfl (ld22 rfl f0 rfl) rfl ?_;refine gO rfl rfl (aOp_lenSlice Tryz.underlying22 rfl hl1) rfl ?_;refine GoR.call rfl rfl (aCF aFunc15 rfl) (hHf e0) ?_ np;rintro v15 h15 ⟨q, x15⟩;cases q;refine ⟨_, rfl, ?_⟩;replace f10 := f10.ext x15;replace f7 := f7.ext x15;replace f4 := f4.ext x15;replace f0 := f0.ext x15;replace e0 := e0.trans x15;iterate 3 refine gP ?_
  refine GoR.alloc rfl rfl rfl zt24 rfl rfl fun h16 x16 f16 => ?_;have := e0.1;have := f10.1;have := f7.1;have := f4.1;have := f0.1;replace f10 := f10.ext x16;replace f7 := f7.ext x16;replace f4 := f4.ext x16;replace f0 := f0.ext x16;replace e0 := e0.trans x16;have := f16.1;refine GoR.store rfl rfl rfl rfl rfl rfl f16 rfl sz24 rfl rfl rfl fun h17 u17 => ?_;replace f16 := u17.has f16;replace f10 := f10.upd u17 (by omega);replace f7 := f7.upd u17 (by omega);replace f4 := f4.upd u17 (by omega);replace f0 := f0.upd u17 (by omega);replace e0 := e0.upd u17 (by omega);refine gP ?_;apply gE;apply gS;refine gR rfl ?_;refine gO rfl rfl (ld27 rfl f0 rfl) rfl ?_;refine gP ?_;refine GoR.call rfl rfl (aCF aFunc21 rfl) (hEf e0) ?_ np;rintro v18 h18 ⟨q, x18⟩;cases q;refine ⟨_, rfl, ?_⟩;replace f16 := f16.ext x18;replace f10 := f10.ext x18;replace f7 := f7.ext x18;replace f4 := f4.ext x18;replace f0 := f0.ext x18;replace e0 := e0.trans x18;iterate 5 refine gP ?_
  apply gE;apply gS;refine gR rfl ?_;refine gO rfl rfl (ld27 rfl f0 rfl) rfl ?_;refine GoR.call rfl rfl (aCF aFunc25 rfl) (hSh e0) ?_ np;rintro v19 h19 ⟨q, x19⟩;cases q;refine ⟨_, rfl, ?_⟩;replace f16 := f16.ext x19;replace f10 := f10.ext x19;replace f7 := f7.ext x19;replace f4 := f4.ext x19;replace f0 := f0.ext x19;replace e0 := e0.trans x19;iterate 5 refine gP ?_
  apply gE;iterate 2 apply gS
  refine gR rfl ?_;refine gP ?_;refine gO rfl rfl (kXF rfl rfl) rfl ?_;iterate 3 refine gP ?_
  refine gO rfl rfl (kXF rfl rfl) rfl ?_;iterate 4 refine gP ?_
  refine gO rfl rfl (kXF rfl rfl) rfl ?_;iterate 4 refine gP ?_
  refine gO rfl rfl (kXF rfl rfl) rfl ?_;iterate 4 refine gP ?_
  refine gO rfl rfl (kXF rfl rfl) rfl ?_;iterate 4 refine gP ?_
  refine gO rfl rfl (kXF rfl rfl) rfl ?_;iterate 4 refine gP ?_
  refine gO rfl rfl (kXF rfl rfl) rfl ?_;iterate 3 refine gP ?_
  refine gO rfl rfl (kEF rfl rfl) rfl ?_;refine gP ?_;refine gO rfl rfl (kEF rfl rfl) rfl ?_;refine gO rfl rfl (aOp_neqBool (r := false) rfl rfl Tryz.underlying4 (by simp)) rfl ?_;refine gP ?_;apply gE;refine gC (b := false) rfl ?_;refine gD ?_;iterate 2 apply gS
  refine gR rfl ?_;refine gP ?_;refine gO rfl rfl (kXT rfl rfl) rfl ?_;apply gE;refine gC (b := true) rfl ?_;apply gS;refine gR rfl ?_;refine gP ?_;refine gO rfl rfl (kET rfl rfl) rfl ?_;refine gP ?_;refine gO rfl rfl (ld24 rfl f4 rfl) rfl ?_;refine gO rfl rfl (aOp_build (ps := []) (cs := [.int .i64 0, .int .i64 0]) zt24 hu24 pl24 rfl rfl) rfl ?_;refine gO rfl rfl (aOp_eqlSpan spanT24 rfl rfl rfl) rfl ?_;iterate 3 refine gP ?_
  refine gO rfl rfl (kET rfl rfl) rfl ?_;iterate 3 refine gP ?_
  refine gO rfl rfl (kET rfl rfl) rfl ?_;iterate 3 refine gP ?_
  refine gO rfl rfl (kET rfl rfl) rfl ?_;iterate 2 refine gP ?_
  refine GoR.call rfl rfl (aCF aFunc12 rfl) (alive_ok) ?_ np;rintro v20 h20 ⟨q, x20⟩;cases q;refine ⟨_, rfl, ?_⟩;replace f16 := f16.ext x20;replace f10 := f10.ext x20;replace f7 := f7.ext x20;replace f4 := f4.ext x20;replace f0 := f0.ext x20;replace e0 := e0.trans x20;iterate 2 refine gP ?_
  apply gE;exact gW Tryz.func6 rfl rfl ⟨rfl, e0⟩
 | true =>
  rw [ClampV.tr_yes hp] at hHk hBk hSk hEk hEm;rw [if_pos hp] at hCl
  dsimp only at hHk hBk hSk hEk hEm hCl
  obtain ⟨L1, L2, L3, L4, L5, L6, L7, L8, L9⟩ := left_ends O hp hkl
  obtain ⟨F1, F2, F3, F4, F5, F6, F7⟩ := first_in O hp hkl
  obtain ⟨L, hLe⟩ : ∃ L, C.left k = L := ⟨_, rfl⟩
  obtain ⟨F, hFe⟩ : ∃ F, C.first k = F := ⟨_, rfl⟩
  obtain ⟨S, hSe⟩ : ∃ S, C.sold k = S := ⟨_, rfl⟩
  rw [hLe] at L1 L2 L3 L4 L5 L6 L8 L9 hHk hEk;rw [hFe] at L8 L9 F1 F2 F3 hBk;rw [hSe] at L7 L8 L9 F4 F5 F6 F7 hSk
  obtain ⟨g2, hg2⟩ : ∃ g, decide ((n : Int) ≤ L.1) = g := ⟨_, rfl⟩
  obtain ⟨g0, hg0⟩ : ∃ g, decide (L.2 < (n : Int)) = g := ⟨_, rfl⟩
  have hr2 : decide (reachV L n = 2) = g2 := by
   rw [← hg2, decide_eq_decide]
   unfold reachV
   by_cases q1 : (n : Int) ≤ L.1
   ·rw [if_pos q1]; simp [q1]
   ·rw [if_neg q1]; by_cases q2 : (n : Int) ≤ L.2 <;> simp [q1, q2]
  have hr0 : decide (reachV L n = 0) = g0 := by
   rw [← hg0, decide_eq_decide]
   unfold reachV
   by_cases q1 : (n : Int) ≤ L.1
   ·rw [if_pos q1]
    constructor
    ·intro q; cases q
    ·intro q; omega
   ·rw [if_neg q1]
    by_cases q2 : (n : Int) ≤ L.2
    ·rw [if_pos q2]
     constructor
     ·intro q; cases q
     ·intro q; omega
    ·rw [if_neg q2]
     constructor
     ·intro q; omega
     ·intro q; rfl
  obtain ⟨z2, hz2⟩ : ∃ g, decide (L.2 = 0) = g := ⟨_, rfl⟩
  obtain ⟨z1, hz1⟩ : ∃ g, decide (L.1 = 0) = g := ⟨_, rfl⟩
  have hb2 : decide (((C.gone : Nat) : Int).fdiv (2 ^ k) % 2 = 1) = z2 := by
   rw [bit_int]
   unfold ClampV.gone
   rw [bitsV_test, hLe, hz2, decide_eq_true hkl, Bool.true_and]
  have hb1 : decide (((C.low : Nat) : Int).fdiv (2 ^ k) % 2 = 1) = z1 := by
   rw [bit_int]
   unfold ClampV.low
   rw [bitsV_test, hLe, hz1, decide_eq_true hkl, Bool.true_and]
  have hcl : C.ps.length ≤ 40 := B.p
  unfold ClampV.cells at *
  by_cases h6 : C.es.length = 6
  ·rw [h6] at hl2
   have e0 : Ext h h := Ext.refl _
   refine Runs.intro aFunc6 rfl rfl rfl rfl fun rest => ?_;apply gS;refine gR rfl ?_;refine GoR.box rfl rfl rfl rfl rfl rfl fun h7 x7 f7 => ?_;have := e0.1;replace e0 := e0.trans x7;have := f7.1;refine gP ?_;apply gE;iterate 2 apply gS
   refine gR rfl ?_;refine gO rfl rfl (ld27 rfl f7 rfl) rfl ?_;refine GoR.call rfl rfl (aCF aFunc29 rfl) (hL e0) ?_ np;rintro v8 h8 ⟨q, x8⟩;cases q;refine ⟨_, rfl, ?_⟩;replace f7 := f7.ext x8;replace e0 := e0.trans x8;apply gE;refine gC (b := false) rfl ?_;refine gD ?_;iterate 2 apply gS
   refine gR rfl ?_;refine gO rfl rfl (ld27 rfl f7 rfl) rfl ?_;refine GoR.call rfl rfl (aCF aFunc30 rfl) (hR e0) ?_ np;rintro v9 h9 ⟨q, x9⟩;cases q;refine ⟨_, rfl, ?_⟩;replace f7 := f7.ext x9;replace e0 := e0.trans x9;refine gP ?_;apply gE;refine gC (b := false) rfl ?_;refine gD ?_;apply gS;refine gR rfl ?_;refine gP ?_;refine gO rfl rfl (aOp_convU8 rfl Tryz.underlying5 Tryz.underlying3 (by omega)) rfl ?_;refine gO rfl rfl (fa27_0 rfl) rfl ?_;refine gO rfl rfl (ld22 rfl f7 rfl) rfl ?_;refine gO rfl rfl (aOp_lenSlice Tryz.underlying22 rfl hl1) rfl ?_;refine gO rfl rfl (aOp_rem (r := ((k : Nat) : Int)) rfl rfl (by omega) (by rw [← hk]; rfl)) rfl ?_;refine gP ?_;refine gO rfl rfl (aOp_convU16 rfl Tryz.underlying42 Tryz.underlying3 (by omega)) rfl ?_;refine gO rfl rfl (aOp_rem (r := ((n : Nat) : Int)) rfl rfl (by omega) (by rw [← hn]; rfl)) rfl ?_;iterate 2 refine gP ?_
   apply gE;apply gS;refine gR rfl ?_;refine gO rfl rfl (ld27 rfl f7 rfl) rfl ?_;refine gP ?_;refine GoR.call rfl rfl (aCF aFunc15 rfl) (hHk e0) ?_ np;rintro v10 h10 ⟨q, x10⟩;cases q;refine ⟨_, rfl, ?_⟩;replace f7 := f7.ext x10;replace e0 := e0.trans x10;iterate 3 refine gP ?_
   refine GoR.alloc rfl rfl rfl zt24 rfl rfl fun h11 x11 f11 => ?_;have := e0.1;have := f7.1;replace f7 := f7.ext x11;replace e0 := e0.trans x11;have := f11.1;refine GoR.store rfl rfl rfl rfl rfl rfl f11 rfl sz24 rfl rfl rfl fun h12 u12 => ?_;replace f11 := u12.has f11;replace f7 := f7.upd u12 (by omega);replace e0 := e0.upd u12 (by omega);refine gP ?_;apply gE;apply gS;refine gR rfl ?_;refine gO rfl rfl (ld27 rfl f7 rfl) rfl ?_;refine gP ?_;refine GoR.call rfl rfl (aCF aFunc13 rfl) (hBk e0) ?_ np;rintro v13 h13 ⟨q, x13⟩;cases q;refine ⟨_, rfl, ?_⟩;replace f11 := f11.ext x13;replace f7 := f7.ext x13;replace e0 := e0.trans x13;iterate 3 refine gP ?_
   refine GoR.alloc rfl rfl rfl zt24 rfl rfl fun h14 x14 f14 => ?_;have := e0.1;have := f11.1;have := f7.1;replace f11 := f11.ext x14;replace f7 := f7.ext x14;replace e0 := e0.trans x14;have := f14.1;refine GoR.store rfl rfl rfl rfl rfl rfl f14 rfl sz24 rfl rfl rfl fun h15 u15 => ?_;replace f14 := u15.has f14;replace f11 := f11.upd u15 (by omega);replace f7 := f7.upd u15 (by omega);replace e0 := e0.upd u15 (by omega);refine gP ?_;apply gE;apply gS;refine gR rfl ?_;refine gO rfl rfl (ld27 rfl f7 rfl) rfl ?_;refine gP ?_;refine GoR.call rfl rfl (aCF aFunc17 rfl) (hSk e0) ?_ np;rintro v16 h16 ⟨q, x16⟩;cases q;refine ⟨_, rfl, ?_⟩;replace f14 := f14.ext x16;replace f11 := f11.ext x16;replace f7 := f7.ext x16;replace e0 := e0.trans x16;iterate 3 refine gP ?_
   refine GoR.alloc rfl rfl rfl zt24 rfl rfl fun h17 x17 f17 => ?_;have := e0.1;have := f14.1;have := f11.1;have := f7.1;replace f14 := f14.ext x17;replace f11 := f11.ext x17;replace f7 := f7.ext x17;replace e0 := e0.trans x17;have := f17.1;refine GoR.store rfl rfl rfl rfl rfl rfl f17 rfl sz24 rfl rfl rfl fun h18 u18 => ?_;replace f17 := u18.has f17;replace f14 := f14.upd u18 (by omega);replace f11 := f11.upd u18 (by omega);replace f7 := f7.upd u18 (by omega);replace e0 := e0.upd u18 (by omega);refine gP ?_;apply gE;apply gS;refine gR rfl ?_;refine gO rfl rfl (ld27 rfl f7 rfl) rfl ?_;iterate 2 refine gP ?_
   refine GoR.call rfl rfl (aCF aFunc21 rfl) (hEk e0) ?_ np;rintro v19 h19 ⟨q, x19⟩;cases q;refine ⟨_, rfl, ?_⟩;replace f17 := f17.ext x19;replace f14 := f14.ext x19;replace f11 := f11.ext x19;replace f7 := f7.ext x19;replace e0 := e0.trans x19;iterate 5 refine gP ?_
   apply gE;apply gS;refine gR rfl ?_;refine gO rfl rfl (ld27 rfl f7 rfl) rfl ?_;refine GoR.call rfl rfl (aCF aFunc23 rfl) (hEm e0) ?_ np;rintro v20 h20 ⟨q, x20⟩;cases q;refine ⟨_, rfl, ?_⟩;replace f17 := f17.ext x20;replace f14 := f14.ext x20;replace f11 := f11.ext x20;replace f7 := f7.ext x20;replace e0 := e0.trans x20;iterate 7 refine gP ?_
   apply gE;apply gS;refine gR rfl ?_;refine gO rfl rfl (ld27 rfl f7 rfl) rfl ?_;refine GoR.call rfl rfl (aCF aFunc27 rfl) (hCl e0) ?_ np;rintro v21 h21 ⟨q, x21⟩;cases q;refine ⟨_, rfl, ?_⟩;replace f17 := f17.ext x21;replace f14 := f14.ext x21;replace f11 := f11.ext x21;replace f7 := f7.ext x21;replace e0 := e0.trans x21;iterate 5 refine gP ?_
   apply gE;apply gS;refine gR rfl ?_;refine gO rfl rfl (ld27 rfl f7 rfl) rfl ?_;refine gO rfl rfl (fa27_0 rfl) rfl ?_;refine gO rfl rfl (ld22 rfl f7 rfl) rfl ?_;refine gO rfl rfl (aOp_lenSlice Tryz.underlying22 rfl hl1) rfl ?_;refine GoR.call rfl rfl (aCF aFunc15 rfl) (hHf e0) ?_ np;rintro v22 h22 ⟨q, x22⟩;cases q;refine ⟨_, rfl, ?_⟩;replace f17 := f17.ext x22;replace f14 := f14.ext x22;replace f11 := f11.ext x22;replace f7 := f7.ext x22;replace e0 := e0.trans x22;iterate 3 refine gP ?_
   refine GoR.alloc rfl rfl rfl zt24 rfl rfl fun h23 x23 f23 => ?_;have := e0.1;have := f17.1;have := f14.1;have := f11.1;have := f7.1;replace f17 := f17.ext x23;replace f14 := f14.ext x23;replace f11 := f11.ext x23;replace f7 := f7.ext x23;replace e0 := e0.trans x23;have := f23.1;refine GoR.store rfl rfl rfl rfl rfl rfl f23 rfl sz24 rfl rfl rfl fun h24 u24 => ?_;replace f17 := f17.upd u24 (by omega);replace f14 := f14.upd u24 (by omega);replace f11 := f11.upd u24 (by omega);replace f7 := f7.upd u24 (by omega);replace e0 := e0.upd u24 (by omega);refine gP ?_;apply gE;apply gS;refine gR rfl ?_;refine gO rfl rfl (ld27 rfl f7 rfl) rfl ?_;refine gP ?_;refine GoR.call rfl rfl (aCF aFunc21 rfl) (hEf e0) ?_ np;rintro v25 h25 ⟨q, x25⟩;cases q;refine ⟨_, rfl, ?_⟩;replace f17 := f17.ext x25;replace f14 := f14.ext x25;replace f11 := f11.ext x25;replace f7 := f7.ext x25;replace e0 := e0.trans x25;iterate 5 refine gP ?_
   apply gE;apply gS;refine gR rfl ?_;refine gO rfl rfl (ld27 rfl f7 rfl) rfl ?_;refine GoR.call rfl rfl (aCF aFunc25 rfl) (hSh e0) ?_ np;rintro v26 h26 ⟨q, x26⟩;cases q;refine ⟨_, rfl, ?_⟩;replace f17 := f17.ext x26;replace f14 := f14.ext x26;replace f11 := f11.ext x26;replace f7 := f7.ext x26;replace e0 := e0.trans x26;iterate 5 refine gP ?_
   apply gE;iterate 2 apply gS
   refine gR rfl ?_;refine gP ?_;refine gO rfl rfl (kXF rfl rfl) rfl ?_;iterate 3 refine gP ?_
   refine gO rfl rfl (kXF rfl rfl) rfl ?_;iterate 4 refine gP ?_
   refine gO rfl rfl (kXF rfl rfl) rfl ?_;iterate 4 refine gP ?_
   refine gO rfl rfl (kXF rfl rfl) rfl ?_;iterate 4 refine gP ?_
   refine gO rfl rfl (kXF rfl rfl) rfl ?_;iterate 4 refine gP ?_
   refine gO rfl rfl (kXF rfl rfl) rfl ?_;iterate 4 refine gP ?_
   refine gO rfl rfl (kXF rfl rfl) rfl ?_;iterate 3 refine gP ?_
   refine gO rfl rfl (kET rfl rfl) rfl ?_;refine gP ?_;refine gO rfl rfl (kET rfl rfl) rfl ?_;refine gO rfl rfl (aOp_neqBool (r := false) rfl rfl Tryz.underlying4 (by simp)) rfl ?_;refine gP ?_;apply gE;refine gC (b := false) rfl ?_;refine gD ?_;iterate 2 apply gS
   refine gR rfl ?_;refine gP ?_;refine gO rfl rfl (kXF rfl rfl) rfl ?_;apply gE;refine gC (b := false) rfl ?_;refine gD ?_;iterate 2 apply gS
   refine Go.drawnE plan6_0 ?_;refine gQ rfl rfl (fa24_0 rfl) rfl ?_;refine gQ rfl rfl (ld3 rfl f11 rfl) rfl ?_;refine gQ rfl rfl (fa24_1 rfl) rfl ?_;refine gQ rfl rfl (ld3 rfl f11 rfl) rfl ?_;refine gQ rfl rfl (kGF rfl rfl) rfl ?_;refine gQ rfl rfl rfl rfl ?_;refine gQ rfl rfl (fa24_0 rfl) rfl ?_;refine gQ rfl rfl (ld3 rfl f11 rfl) rfl ?_;refine gQ rfl rfl (kLF rfl rfl) rfl ?_;iterate 2 refine gQ rfl rfl rfl rfl ?_
   refine gQ rfl rfl (fa24_0 rfl) rfl ?_;refine gQ rfl rfl (ld3 rfl f17 rfl) rfl ?_;refine gQ rfl rfl (kLF rfl rfl) rfl ?_;iterate 2 refine gQ rfl rfl rfl rfl ?_
   refine gQ rfl rfl (fa24_0 rfl) rfl ?_;refine gQ rfl rfl (ld3 rfl f11 rfl) rfl ?_;refine gQ rfl rfl (fa24_0 rfl) rfl ?_;refine gQ rfl rfl (ld3 rfl f14 rfl) rfl ?_;refine gQ rfl rfl (fa24_1 rfl) rfl ?_;refine gQ rfl rfl (ld3 rfl f17 rfl) rfl ?_;refine gQ rfl rfl (aS rfl rfl) rfl ?_;refine gQ rfl rfl (kLF rfl rfl) rfl ?_;iterate 2 refine gQ rfl rfl rfl rfl ?_
   refine gQ rfl rfl (fa24_1 rfl) rfl ?_;refine gQ rfl rfl (ld3 rfl f11 rfl) rfl ?_;refine gQ rfl rfl (fa24_1 rfl) rfl ?_;refine gQ rfl rfl (ld3 rfl f14 rfl) rfl ?_;refine gQ rfl rfl (fa24_0 rfl) rfl ?_;refine gQ rfl rfl (ld3 rfl f17 rfl) rfl ?_;refine gQ rfl rfl (aS rfl rfl) rfl ?_;refine gQ rfl rfl (kGF rfl rfl) rfl ?_;iterate 3 refine gQ rfl rfl rfl rfl ?_
   refine gQ rfl rfl (aOp_eql rfl rfl hr2) rfl ?_;refine gQ rfl rfl (fa24_0 rfl) rfl ?_;refine gQ rfl rfl (ld3 rfl f11 rfl) rfl ?_;refine gQ rfl rfl rfl rfl ?_;refine gQ rfl rfl (aOp_geq rfl rfl hg2) rfl ?_;refine gQ rfl rfl (aOp_neqBool (r := false) rfl rfl Tryz.underlying4 (by simp)) rfl ?_;iterate 3 refine gQ rfl rfl rfl rfl ?_
   refine gQ rfl rfl (aOp_eql rfl rfl hr0) rfl ?_;refine gQ rfl rfl (fa24_1 rfl) rfl ?_;refine gQ rfl rfl (ld3 rfl f11 rfl) rfl ?_;refine gQ rfl rfl rfl rfl ?_;refine gQ rfl rfl (aOp_lss rfl rfl hg0) rfl ?_;refine gQ rfl rfl (aOp_neqBool (r := false) rfl rfl Tryz.underlying4 (by simp)) rfl ?_;iterate 4 refine gQ rfl rfl rfl rfl ?_
   refine gQ rfl rfl (aOp_shr rfl rfl (by omega) rfl) rfl ?_;refine gQ rfl rfl (aOp_and1 rfl rfl rfl) rfl ?_;refine gQ rfl rfl (aOp_eql rfl rfl hb2) rfl ?_;refine gQ rfl rfl (fa24_1 rfl) rfl ?_;refine gQ rfl rfl (ld3 rfl f11 rfl) rfl ?_;refine gQ rfl rfl (aOp_eql rfl rfl hz2) rfl ?_;refine gQ rfl rfl (aOp_neqBool (r := false) rfl rfl Tryz.underlying4 (by simp)) rfl ?_;iterate 4 refine gQ rfl rfl rfl rfl ?_
   refine gQ rfl rfl (aOp_shr rfl rfl (by omega) rfl) rfl ?_;refine gQ rfl rfl (aOp_and1 rfl rfl rfl) rfl ?_;refine gQ rfl rfl (aOp_eql rfl rfl hb1) rfl ?_;refine gQ rfl rfl (fa24_0 rfl) rfl ?_;refine gQ rfl rfl (ld3 rfl f11 rfl) rfl ?_;refine gQ rfl rfl (aOp_eql rfl rfl hz1) rfl ?_;refine gQ rfl rfl (aOp_neqBool (r := false) rfl rfl Tryz.underlying4 (by simp)) rfl ?_;refine gQ rfl rfl rfl rfl ?_;refine GoE.end rfl ?_;refine gC (b := false) rfl ?_;refine gD ?_;iterate 2 apply gS
   refine gR rfl ?_;refine gO rfl rfl (fa27_2 rfl) rfl ?_;refine gO rfl rfl (ld25 rfl f7 rfl) rfl ?_;refine gO rfl rfl (aOp_lenSlice Tryz.underlying25 rfl hl2) rfl ?_;refine gO rfl rfl (kET rfl rfl) rfl ?_;apply gE;refine gC (b := true) rfl ?_;apply gS;refine gR rfl ?_;refine GoR.call rfl rfl (aCF aFunc12 rfl) (alive_ok) ?_ np;rintro v27 h27 ⟨q, x27⟩;cases q;refine ⟨_, rfl, ?_⟩;replace e0 := e0.trans x27;refine gP ?_;apply gE;exact gW Tryz.func6 rfl rfl ⟨rfl, e0⟩
  ·have e0 : Ext h h := Ext.refl _
   refine Runs.intro aFunc6 rfl rfl rfl rfl fun rest => ?_;apply gS;refine gR rfl ?_;refine GoR.box rfl rfl rfl rfl rfl rfl fun h7 x7 f7 => ?_;have := e0.1;replace e0 := e0.trans x7;have := f7.1;refine gP ?_;apply gE;iterate 2 apply gS
   refine gR rfl ?_;refine gO rfl rfl (ld27 rfl f7 rfl) rfl ?_;refine GoR.call rfl rfl (aCF aFunc29 rfl) (hL e0) ?_ np;rintro v8 h8 ⟨q, x8⟩;cases q;refine ⟨_, rfl, ?_⟩;replace f7 := f7.ext x8;replace e0 := e0.trans x8;apply gE;refine gC (b := false) rfl ?_;refine gD ?_;iterate 2 apply gS
   refine gR rfl ?_;refine gO rfl rfl (ld27 rfl f7 rfl) rfl ?_;refine GoR.call rfl rfl (aCF aFunc30 rfl) (hR e0) ?_ np;rintro v9 h9 ⟨q, x9⟩;cases q;refine ⟨_, rfl, ?_⟩;replace f7 := f7.ext x9;replace e0 := e0.trans x9;refine gP ?_;apply gE;refine gC (b := false) rfl ?_;refine gD ?_;apply gS;refine gR rfl ?_;refine gP ?_;refine gO rfl rfl (aOp_convU8 rfl Tryz.underlying5 Tryz.underlying3 (by omega)) rfl ?_;refine gO rfl rfl (fa27_0 rfl) rfl ?_;refine gO rfl rfl (ld22 rfl f7 rfl) rfl ?_;refine gO rfl rfl (aOp_lenSlice Tryz.underlying22 rfl hl1) rfl ?_;refine gO rfl rfl (aOp_rem (r := ((k : Nat) : Int)) rfl rfl (by omega) (by rw [← hk]; rfl)) rfl ?_;refine gP ?_;refine gO rfl rfl (aOp_convU16 rfl Tryz.underlying42 Tryz.underlying3 (by omega)) rfl ?_;refine gO rfl rfl (aOp_rem (r := ((n : Nat) : Int)) rfl rfl (by omega) (by rw [← hn]; rfl)) rfl ?_;iterate 2 refine gP ?_
   apply gE;apply gS;refine gR rfl ?_;refine gO rfl rfl (ld27 rfl f7 rfl) rfl ?_;refine gP ?_;refine GoR.call rfl rfl (aCF aFunc15 rfl) (hHk e0) ?_ np;rintro v10 h10 ⟨q, x10⟩;cases q;refine ⟨_, rfl, ?_⟩;replace f7 := f7.ext x10;replace e0 := e0.trans x10;iterate 3 refine gP ?_
   refine GoR.alloc rfl rfl rfl zt24 rfl rfl fun h11 x11 f11 => ?_;have := e0.1;have := f7.1;replace f7 := f7.ext x11;replace e0 := e0.trans x11;have := f11.1;refine GoR.store rfl rfl rfl rfl rfl rfl f11 rfl sz24 rfl rfl rfl fun h12 u12 => ?_;replace f11 := u12.has f11;replace f7 := f7.upd u12 (by omega);replace e0 := e0.upd u12 (by omega);refine gP ?_;apply gE;apply gS;refine gR rfl ?_;refine gO rfl rfl (ld27 rfl f7 rfl) rfl ?_;refine gP ?_;refine GoR.call rfl rfl (aCF aFunc13 rfl) (hBk e0) ?_ np;rintro v13 h13 ⟨q, x13⟩;cases q;refine ⟨_, rfl, ?_⟩;replace f11 := f11.ext x13;replace f7 := f7.ext x13;replace e0 := e0.trans x13;iterate 3 refine gP ?_
   refine GoR.alloc rfl rfl rfl zt24 rfl rfl fun h14 x14 f14 => ?_;have := e0.1;have := f11.1;have := f7.1;replace f11 := f11.ext x14;replace f7 := f7.ext x14;replace e0 := e0.trans x14;have := f14.1;refine GoR.store rfl rfl rfl rfl rfl rfl f14 rfl sz24 rfl rfl rfl fun h15 u15 => ?_;replace f14 := u15.has f14;replace f11 := f11.upd u15 (by omega);replace f7 := f7.upd u15 (by omega);replace e0 := e0.upd u15 (by omega);refine gP ?_;apply gE;apply gS;refine gR rfl ?_;refine gO rfl rfl (ld27 rfl f7 rfl) rfl ?_;refine gP ?_;refine GoR.call rfl rfl (aCF aFunc17 rfl) (hSk e0) ?_ np;rintro v16 h16 ⟨q, x16⟩;cases q;refine ⟨_, rfl, ?_⟩;replace f14 := f14.ext x16;replace f11 := f11.ext x16;replace f7 := f7.ext x16;replace e0 := e0.trans x16;iterate 3 refine gP ?_
   refine GoR.alloc rfl rfl rfl zt24 rfl rfl fun h17 x17 f17 => ?_;have := e0.1;have := f14.1;have := f11.1;have := f7.1;replace f14 := f14.ext x17;replace f11 := f11.ext x17;replace f7 := f7.ext x17;replace e0 := e0.trans x17;have := f17.1;refine GoR.store rfl rfl rfl rfl rfl rfl f17 rfl sz24 rfl rfl rfl fun h18 u18 => ?_;replace f17 := u18.has f17;replace f14 := f14.upd u18 (by omega);replace f11 := f11.upd u18 (by omega);replace f7 := f7.upd u18 (by omega);replace e0 := e0.upd u18 (by omega);refine gP ?_;apply gE;apply gS;refine gR rfl ?_;refine gO rfl rfl (ld27 rfl f7 rfl) rfl ?_;iterate 2 refine gP ?_
   refine GoR.call rfl rfl (aCF aFunc21 rfl) (hEk e0) ?_ np;rintro v19 h19 ⟨q, x19⟩;cases q;refine ⟨_, rfl, ?_⟩;replace f17 := f17.ext x19;replace f14 := f14.ext x19;replace f11 := f11.ext x19;replace f7 := f7.ext x19;replace e0 := e0.trans x19;iterate 5 refine gP ?_
   apply gE;apply gS;refine gR rfl ?_;refine gO rfl rfl (ld27 rfl f7 rfl) rfl ?_;refine GoR.call rfl rfl (aCF aFunc23 rfl) (hEm e0) ?_ np;rintro v20 h20 ⟨q, x20⟩;cases q;refine ⟨_, rfl, ?_⟩;replace f17 := f17.ext x20;replace f14 := f14.ext x20;replace f11 := f11.ext x20;replace f7 := f7.ext x20;replace e0 := e0.trans x20;iterate 7 refine gP ?_
   apply gE;apply gS;refine gR rfl ?_;refine gO rfl rfl (ld27 rfl f7 rfl) rfl ?_;refine GoR.call rfl rfl (aCF aFunc27 rfl) (hCl e0) ?_ np;rintro v21 h21 ⟨q, x21⟩;cases q;refine ⟨_, rfl, ?_⟩;replace f17 := f17.ext x21;replace f14 := f14.ext x21;replace f11 := f11.ext x21;replace f7 := f7.ext x21;replace e0 := e0.trans x21;iterate 5 refine gP ?_
   apply gE;apply gS;refine gR rfl ?_;refine gO rfl rfl (ld27 rfl f7 rfl) rfl ?_;refine gO rfl rfl (fa27_0 rfl) rfl ?_;refine gO rfl rfl (ld22 rfl f7 rfl) rfl ?_;refine gO rfl rfl (aOp_lenSlice Tryz.underlying22 rfl hl1) rfl ?_;refine GoR.call rfl rfl (aCF aFunc15 rfl) (hHf e0) ?_ np;rintro v22 h22 ⟨q, x22⟩;cases q;refine ⟨_, rfl, ?_⟩;replace f17 := f17.ext x22;replace f14 := f14.ext x22;replace f11 := f11.ext x22;replace f7 := f7.ext x22;replace e0 := e0.trans x22;iterate 3 refine gP ?_
   refine GoR.alloc rfl rfl rfl zt24 rfl rfl fun h23 x23 f23 => ?_;have := e0.1;have := f17.1;have := f14.1;have := f11.1;have := f7.1;replace f17 := f17.ext x23;replace f14 := f14.ext x23;replace f11 := f11.ext x23;replace f7 := f7.ext x23;replace e0 := e0.trans x23;have := f23.1;refine GoR.store rfl rfl rfl rfl rfl rfl f23 rfl sz24 rfl rfl rfl fun h24 u24 => ?_;replace f23 := u24.has f23;replace f17 := f17.upd u24 (by omega);replace f14 := f14.upd u24 (by omega);replace f11 := f11.upd u24 (by omega);replace f7 := f7.upd u24 (by omega);replace e0 := e0.upd u24 (by omega);refine gP ?_;apply gE;apply gS;refine gR rfl ?_;refine gO rfl rfl (ld27 rfl f7 rfl) rfl ?_;refine gP ?_;refine GoR.call rfl rfl (aCF aFunc21 rfl) (hEf e0) ?_ np;rintro v25 h25 ⟨q, x25⟩;cases q;refine ⟨_, rfl, ?_⟩;replace f23 := f23.ext x25;replace f17 := f17.ext x25;replace f14 := f14.ext x25;replace f11 := f11.ext x25;replace f7 := f7.ext x25;replace e0 := e0.trans x25;iterate 5 refine gP ?_
   apply gE;apply gS;refine gR rfl ?_;refine gO rfl rfl (ld27 rfl f7 rfl) rfl ?_;refine GoR.call rfl rfl (aCF aFunc25 rfl) (hSh e0) ?_ np;rintro v26 h26 ⟨q, x26⟩;cases q;refine ⟨_, rfl, ?_⟩;replace f23 := f23.ext x26;replace f17 := f17.ext x26;replace f14 := f14.ext x26;replace f11 := f11.ext x26;replace f7 := f7.ext x26;replace e0 := e0.trans x26;iterate 5 refine gP ?_
   apply gE;iterate 2 apply gS
   refine gR rfl ?_;refine gP ?_;refine gO rfl rfl (kXF rfl rfl) rfl ?_;iterate 3 refine gP ?_
   refine gO rfl rfl (kXF rfl rfl) rfl ?_;iterate 4 refine gP ?_
   refine gO rfl rfl (kXF rfl rfl) rfl ?_;iterate 4 refine gP ?_
   refine gO rfl rfl (kXF rfl rfl) rfl ?_;iterate 4 refine gP ?_
   refine gO rfl rfl (kXF rfl rfl) rfl ?_;iterate 4 refine gP ?_
   refine gO rfl rfl (kXF rfl rfl) rfl ?_;iterate 4 refine gP ?_
   refine gO rfl rfl (kXF rfl rfl) rfl ?_;iterate 3 refine gP ?_
   refine gO rfl rfl (kET rfl rfl) rfl ?_;refine gP ?_;refine gO rfl rfl (kET rfl rfl) rfl ?_;refine gO rfl rfl (aOp_neqBool (r := false) rfl rfl Tryz.underlying4 (by simp)) rfl ?_;refine gP ?_;apply gE;refine gC (b := false) rfl ?_;refine gD ?_;iterate 2 apply gS
   refine gR rfl ?_;refine gP ?_;refine gO rfl rfl (kXF rfl rfl) rfl ?_;apply gE;refine gC (b := false) rfl ?_;refine gD ?_;iterate 2 apply gS
   refine Go.drawnE plan6_0 ?_;refine gQ rfl rfl (fa24_0 rfl) rfl ?_;refine gQ rfl rfl (ld3 rfl f11 rfl) rfl ?_;refine gQ rfl rfl (fa24_1 rfl) rfl ?_;refine gQ rfl rfl (ld3 rfl f11 rfl) rfl ?_;refine gQ rfl rfl (kGF rfl rfl) rfl ?_;refine gQ rfl rfl rfl rfl ?_;refine gQ rfl rfl (fa24_0 rfl) rfl ?_;refine gQ rfl rfl (ld3 rfl f11 rfl) rfl ?_;refine gQ rfl rfl (kLF rfl rfl) rfl ?_;iterate 2 refine gQ rfl rfl rfl rfl ?_
   refine gQ rfl rfl (fa24_0 rfl) rfl ?_;refine gQ rfl rfl (ld3 rfl f17 rfl) rfl ?_;refine gQ rfl rfl (kLF rfl rfl) rfl ?_;iterate 2 refine gQ rfl rfl rfl rfl ?_
   refine gQ rfl rfl (fa24_0 rfl) rfl ?_;refine gQ rfl rfl (ld3 rfl f11 rfl) rfl ?_;refine gQ rfl rfl (fa24_0 rfl) rfl ?_;refine gQ rfl rfl (ld3 rfl f14 rfl) rfl ?_;refine gQ rfl rfl (fa24_1 rfl) rfl ?_;refine gQ rfl rfl (ld3 rfl f17 rfl) rfl ?_;refine gQ rfl rfl (aS rfl rfl) rfl ?_;refine gQ rfl rfl (kLF rfl rfl) rfl ?_;iterate 2 refine gQ rfl rfl rfl rfl ?_
   refine gQ rfl rfl (fa24_1 rfl) rfl ?_;refine gQ rfl rfl (ld3 rfl f11 rfl) rfl ?_;refine gQ rfl rfl (fa24_1 rfl) rfl ?_;refine gQ rfl rfl (ld3 rfl f14 rfl) rfl ?_;refine gQ rfl rfl (fa24_0 rfl) rfl ?_;refine gQ rfl rfl (ld3 rfl f17 rfl) rfl ?_;refine gQ rfl rfl (aS rfl rfl) rfl ?_;refine gQ rfl rfl (kGF rfl rfl) rfl ?_;iterate 3 refine gQ rfl rfl rfl rfl ?_
   refine gQ rfl rfl (aOp_eql rfl rfl hr2) rfl ?_;refine gQ rfl rfl (fa24_0 rfl) rfl ?_;refine gQ rfl rfl (ld3 rfl f11 rfl) rfl ?_;refine gQ rfl rfl rfl rfl ?_;refine gQ rfl rfl (aOp_geq rfl rfl hg2) rfl ?_;refine gQ rfl rfl (aOp_neqBool (r := false) rfl rfl Tryz.underlying4 (by simp)) rfl ?_;iterate 3 refine gQ rfl rfl rfl rfl ?_
   refine gQ rfl rfl (aOp_eql rfl rfl hr0) rfl ?_;refine gQ rfl rfl (fa24_1 rfl) rfl ?_;refine gQ rfl rfl (ld3 rfl f11 rfl) rfl ?_;refine gQ rfl rfl rfl rfl ?_;refine gQ rfl rfl (aOp_lss rfl rfl hg0) rfl ?_;refine gQ rfl rfl (aOp_neqBool (r := false) rfl rfl Tryz.underlying4 (by simp)) rfl ?_;iterate 4 refine gQ rfl rfl rfl rfl ?_
   refine gQ rfl rfl (aOp_shr rfl rfl (by omega) rfl) rfl ?_;refine gQ rfl rfl (aOp_and1 rfl rfl rfl) rfl ?_;refine gQ rfl rfl (aOp_eql rfl rfl hb2) rfl ?_;refine gQ rfl rfl (fa24_1 rfl) rfl ?_;refine gQ rfl rfl (ld3 rfl f11 rfl) rfl ?_;refine gQ rfl rfl (aOp_eql rfl rfl hz2) rfl ?_;refine gQ rfl rfl (aOp_neqBool (r := false) rfl rfl Tryz.underlying4 (by simp)) rfl ?_;iterate 4 refine gQ rfl rfl rfl rfl ?_
   refine gQ rfl rfl (aOp_shr rfl rfl (by omega) rfl) rfl ?_;refine gQ rfl rfl (aOp_and1 rfl rfl rfl) rfl ?_;refine gQ rfl rfl (aOp_eql rfl rfl hb1) rfl ?_;refine gQ rfl rfl (fa24_0 rfl) rfl ?_;refine gQ rfl rfl (ld3 rfl f11 rfl) rfl ?_;refine gQ rfl rfl (aOp_eql rfl rfl hz1) rfl ?_;refine gQ rfl rfl (aOp_neqBool (r := false) rfl rfl Tryz.underlying4 (by simp)) rfl ?_;refine gQ rfl rfl rfl rfl ?_;refine GoE.end rfl ?_;refine gC (b := false) rfl ?_;refine gD ?_;iterate 2 apply gS
   refine gR rfl ?_;refine gO rfl rfl (fa27_2 rfl) rfl ?_;refine gO rfl rfl (ld25 rfl f7 rfl) rfl ?_;refine gO rfl rfl (aOp_lenSlice Tryz.underlying25 rfl hl2) rfl ?_;refine gO rfl rfl (kEF rfl rfl) rfl ?_;apply gE;refine gC (b := false) rfl ?_;refine gD ?_;iterate 2 apply gS
   refine gR rfl ?_;refine gO rfl rfl (fa24_0 rfl) rfl ?_;refine gO rfl rfl (ld3 rfl f11 rfl) rfl ?_;refine gO rfl rfl (aS rfl rfl) rfl ?_;refine gO rfl rfl (fa24_0 rfl) rfl ?_;refine gO rfl rfl (ld3 rfl f11 rfl) rfl ?_;refine gO rfl rfl (fa24_1 rfl) rfl ?_;refine gO rfl rfl (ld3 rfl f11 rfl) rfl ?_;refine gO rfl rfl (fa24_1 rfl) rfl ?_;refine gO rfl rfl (ld3 rfl f11 rfl) rfl ?_;refine gO rfl rfl (aA rfl rfl) rfl ?_;refine GoR.buildSl rfl rfl (ps := [(0, .int .i64 (L.1 - 1)), (1, .int .i64 L.1), (2, .int .i64 L.2), (3, .int .i64 (L.2 + 1))]) (cs := [.int .i64 (L.1 - 1), .int .i64 L.1, .int .i64 L.2, .int .i64 (L.2 + 1)]) Tryz.underlying44 rfl sz3 zt3 rfl rfl rfl rfl fun h27 x27 f27 => ?_;have := e0.1;have := f23.1;have := f17.1;have := f14.1;have := f11.1;have := f7.1;replace f23 := f23.ext x27;replace f17 := f17.ext x27;replace f14 := f14.ext x27;replace f11 := f11.ext x27;replace f7 := f7.ext x27;replace e0 := e0.trans x27;have := f27.1;iterate 2 refine gP ?_
   apply gE;refine Go.block noJ_ok ?_
   have hlk : ∀ o, (o = L.1 - 1 ∨ o = L.1 ∨ o = L.2 ∨ o = L.2 + 1) → 0 ≤ o → o ≤ 5000 → ∃ (r : Bool) (m : Int) (q : Int × Int), decide (L.1 ≤ o ∧ o ≤ L.2) = r ∧ (C.with ⟨1, k, o, o⟩).Ok ∧ (C.with ⟨1, k, o, o⟩).hasR (k : Nat) = (q, m) ∧ ((r = true ∧ m = 0 ∧ q = (o, o)) ∨ (r = false ∧ m = 10)) := fun o ho h0 h5 => by
    have O2 := with_ok O (by omega) hkl ⟨h0, h5⟩
    have hkl2 : k < (C.with ⟨1, k, o, o⟩).ps.length := hkl
    have hex : (o = L.1 ∨ o = L.2) → ∃ b, b ∈ C.builds ∧ hasB (C.aft b k) o = true := fun q => by
     rcases q with rfl | rfl
     ·exact L4
     ·exact L5
    cases hq : (C.with ⟨1, k, o, o⟩).possible with
    | true =>
     obtain ⟨b, hb⟩ := possible_iff.1 hq
     obtain ⟨hb1, hb2⟩ := (builds_count O hkl ⟨h0, h5⟩).1 hb
     have := L6 b hb1 o hb2
     exact ⟨true, 0, (o, o), decide_eq_true this, O2, by rw [hasR_is O2 hkl2, ClampV.tr_yes hq, count_left O (by omega) hkl ⟨h0, h5⟩ hq], .inl ⟨rfl, rfl, rfl⟩⟩
    | false =>
     have hno : ¬ (L.1 ≤ o ∧ o ≤ L.2) := fun w => by
      have : o = L.1 ∨ o = L.2 := by omega
      obtain ⟨b, hb1, hb2⟩ := hex this
      exact possible_not.1 hq b ((builds_count O hkl ⟨h0, h5⟩).2 ⟨hb1, hb2⟩)
     exact ⟨false, 10, (0, 0), decide_eq_false hno, O2, by rw [hasR_is O2 hkl2, ClampV.tr_no hq]; rfl, .inr ⟨rfl, rfl⟩⟩
   refine Go.loopKeep (fun j : Nat => [(3, .ptr h.next 0), (11, .int .i64 (k : Nat)), (13, .ptr h10.next 0), (288, .slice h26.next 0 4 4), (289, .int .i64 4), (290, .int .i64 (j : Nat))]) (fun m j h' => m + j = 4 ∧ Ext h h' ∧ Has h' h.next (.cells .plain [sp, .int .i64 C.pl, .int .i64 C.ph, se] 27) ∧ Has h' h10.next (.cells .plain [.int .i64 L.1, .int .i64 L.2] 24) ∧ Has h' h26.next (.cells .plain [.int .i64 (L.1 - 1), .int .i64 L.1, .int .i64 L.2, .int .i64 (L.2 + 1)] 3)) (n := 4) 0 ⟨rfl, rfl, rfl, rfl, rfl, rfl, trivial⟩ ⟨rfl, e0, f7, f11, f27⟩ ?_;clear e0 f7 f11 f14 f17 f23 f27;rintro m j h30 ⟨hm, e0, f0, f10, f26⟩ again
   by_cases hj : j < 4
   ·obtain ⟨o, ho, ho2⟩ : ∃ n, ([L.1 - 1, L.1, L.2, L.2 + 1] : List Int)[j]? = some n ∧ (n = L.1 - 1 ∨ n = L.1 ∨ n = L.2 ∨ n = L.2 + 1) := by
     match j, hj with
     | 0, _ => exact ⟨_, rfl, .inl rfl⟩
     | 1, _ => exact ⟨_, rfl, .inr (.inl rfl)⟩
     | 2, _ => exact ⟨_, rfl, .inr (.inr (.inl rfl))⟩
     | 3, _ => exact ⟨_, rfl, .inr (.inr (.inr rfl))⟩
    have hval : ([AVal.int .i64 (L.1 - 1), .int .i64 L.1, .int .i64 L.2, .int .i64 (L.2 + 1)] : List AVal)[0 + j * 1]? = some (.int .i64 o) := by
     match j, hj, ho with
     | 0, _, ho => cases ho; rfl
     | 1, _, ho => cases ho; rfl
     | 2, _, ho => cases ho; rfl
     | 3, _, ho => cases ho; rfl
    by_cases hr : 0 ≤ o ∧ o ≤ 5000
    ·obtain ⟨r, mc, q, r1, O2, r2, r3⟩ := hlk o ho2 hr.1 hr.2
     have hLk := fun {h' s} (A' : ClampAt h' (C.with ⟨1, k, o, o⟩) sp s) => Has_ok A' O2.B (k : Nat)
     rw [r2] at hLk
     unfold spC at hLk
     dsimp only at hLk
     have hAt := fun {h1 h2 : AH} {s : AVal} {lo : Nat} (F : FreshS lo h1 4 s ((C.es ++ [(⟨1, k, o, o⟩ : EV)]).map EV.cells)) (e : Ext h h2) (e' : Ext h1 h2) => (⟨A.ps.ext e, F.self.ext e'⟩ : ClampAt h2 (C.with ⟨1, k, o, o⟩) sp s)
     have hlc := fun {h9} => count35_ok (c := (k : Nat)) (a := o) (b := o) (h := h9)
     apply gS;refine gR rfl ?_;refine gO rfl rfl (kLT rfl rfl) rfl ?_;apply gE;apply gS;refine gC (b := true) rfl ?_;refine gD ?_;apply gS;refine Go.block noJ_ok ?_;apply gS;refine gR rfl ?_;refine gO rfl rfl (aOp_indexAddr (i := j) Tryz.underlying44 sz3 rfl rfl rfl (Nat.ble_eq_true_of_le hj)) rfl ?_;refine gO rfl rfl (ld3 rfl f26 hval) rfl ?_;refine gP ?_;apply gE;iterate 2 apply gS
     refine gR rfl ?_;refine gP ?_;refine gO rfl rfl (kLF rfl rfl) rfl ?_;iterate 2 refine gP ?_
     refine gO rfl rfl (kGF rfl rfl) rfl ?_;refine gP ?_;apply gE;refine gC (b := false) rfl ?_;refine gD ?_
     have hsT : sameA (.tuple [.agg [.int .i64 q.1, .int .i64 q.2], .int .i64 mc]) (.tuple [.agg [.int .i64 q.1, .int .i64 q.2], .int .i64 mc]) = true := by simp [sameA, sameAs, eqI_eq]
     have hsO : sameA (.agg [.int .i64 q.1, .int .i64 q.2]) (.agg [.int .i64 q.1, .int .i64 q.2]) = true := by simp [sameA, sameAs, eqI_eq]
     have hsm := A.same
     unfold ClampV.cells at hsm
     refine Go.seq noJ_ok (Go.join (fun b : Nat => [(3, .ptr h.next 0), (11, .int .i64 (k : Nat)), (13, .ptr h10.next 0), (288, .slice h26.next 0 4 4), (289, .int .i64 4), (290, .int .i64 (j : Nat)), (33, .int .i64 o), (34, .ptr b 0), (35, .int .i64 mc)]) (fun b h' => Ext h h' ∧ Has h' h.next (.cells .plain [sp, .int .i64 C.pl, .int .i64 C.ph, se] 27) ∧ Has h' h10.next (.cells .plain [.int .i64 L.1, .int .i64 L.2] 24) ∧ Has h' h26.next (.cells .plain [.int .i64 (L.1 - 1), .int .i64 L.1, .int .i64 L.2, .int .i64 (L.2 + 1)] 3) ∧ Has h' b (.cells .plain [.int .i64 q.1, .int .i64 q.2] 24)) ?_ ?_)
     ·intro k' done
      refine altsE29 ?_ ?_ ?_ ?_
      ·intro pl hpl
       rw [plE29_4_5_7_11] at hpl;cases hpl;refine gQ rfl rfl (ld27 rfl f0 rfl) rfl ?_;iterate 4 refine gQ rfl rfl rfl rfl ?_
       refine GoE.call rfl rfl (aCF aFunc35 rfl) (hlc) (dK 14 6 (dD 14 3 (dD 14 2 (dD 14 1 (dK 14 0 rfl))))) ?_ np;rintro v31 h31 ⟨q, x31⟩;cases q;replace f0 := f0.ext x31;replace f10 := f10.ext x31;replace f26 := f26.ext x31;replace e0 := e0.trans x31;refine ⟨(rck (h2 := h31) rfl (rfl) (rck (h2 := h31) rfl (ld27 rfl f0 rfl) recheck_nil)), _, rfl, ?_⟩;refine GoE.call rfl rfl (aCF aFunc34 rfl) (with34_ok ⟨1, k, o, o⟩ (A.ext e0) B.e) (dK 31 6 (dD 31 0 rfl)) ?_ (by rintro _ _ ⟨s, q, _, FS, e9⟩; cases q);rintro v32 h32 ⟨s, q, x32, FS, e9⟩;cases q;have := e0.1;have := f0.1;have := f10.1;have := f26.1;replace f0 := f0.ext x32;replace f10 := f10.ext x32;replace f26 := f26.ext x32;replace e0 := e0.trans x32;refine ⟨(rck (h2 := h32) rfl (rfl) recheck_nil), _, rfl, ?_⟩;refine GoE.call rfl rfl (aCF aFunc15 rfl) (hLk (hAt FS e0 e9)) (dD 127 6 rfl) ?_ np;rintro v33 h33 ⟨q, x33⟩;cases q;replace f0 := f0.ext x33;replace f10 := f10.ext x33;replace f26 := f26.ext x33;replace e9 := e9.trans x33;replace e0 := e0.trans x33;refine ⟨recheck_nil, _, rfl, ?_⟩;iterate 3 refine gQ rfl rfl rfl rfl ?_
       refine GoE.alloc rfl rfl zt24 (dK 255 10 (dK 255 9 (dK 255 8 rfl))) rfl rfl fun h34 x34 f34 => ?_;have := e9.1;have := e0.1;have := f0.1;have := f10.1;have := f26.1;replace f0 := f0.ext x34;replace f10 := f10.ext x34;replace f26 := f26.ext x34;replace e9 := e9.trans x34;replace e0 := e0.trans x34;have := f34.1;refine ⟨(rck (h2 := h34) rfl (rfl) (rck (h2 := h34) rfl (rfl) (rck (h2 := h34) rfl (rfl) recheck_nil))), ?_⟩;refine GoE.store rfl rfl rfl rfl (dK 3071 10 (dD 3071 9 (dD 3071 8 rfl))) rfl rfl f34 rfl sz24 rfl rfl rfl fun h35 u35 => ?_;replace f34 := u35.has f34;replace f0 := f0.upd u35 (by omega);replace f10 := f10.upd u35 (by omega);replace f26 := f26.upd u35 (by omega);replace e9 := e9.upd u35 (by omega);replace e0 := e0.upd u35 (by omega);refine ⟨(rck (h2 := h35) rfl (rfl) recheck_nil), ?_⟩;refine gQ rfl rfl rfl rfl ?_;refine GoE.end rfl ?_;exact done _ _ _ ⟨rfl, rfl, rfl, rfl, rfl, rfl, rfl, rfl, rfl, trivial⟩ ⟨e0, f0, f10, f26, by assumption⟩
      ·intro pl hpl
       rw [plE29_4_5_11_7] at hpl;cases hpl;refine gQ rfl rfl (ld27 rfl f0 rfl) rfl ?_;iterate 4 refine gQ rfl rfl rfl rfl ?_
       refine GoE.call rfl rfl (aCF aFunc35 rfl) (hlc) (dK 14 6 (dD 14 3 (dD 14 2 (dD 14 1 (dK 14 0 rfl))))) ?_ np;rintro v31 h31 ⟨q, x31⟩;cases q;replace f0 := f0.ext x31;replace f10 := f10.ext x31;replace f26 := f26.ext x31;replace e0 := e0.trans x31;refine ⟨(rck (h2 := h31) rfl (rfl) (rck (h2 := h31) rfl (ld27 rfl f0 rfl) recheck_nil)), _, rfl, ?_⟩;refine GoE.call rfl rfl (aCF aFunc34 rfl) (with34_ok ⟨1, k, o, o⟩ (A.ext e0) B.e) (dK 31 6 (dD 31 0 rfl)) ?_ (by rintro _ _ ⟨s, q, _, FS, e9⟩; cases q);rintro v32 h32 ⟨s, q, x32, FS, e9⟩;cases q;have := e0.1;have := f0.1;have := f10.1;have := f26.1;replace f0 := f0.ext x32;replace f10 := f10.ext x32;replace f26 := f26.ext x32;replace e0 := e0.trans x32;refine ⟨(rck (h2 := h32) rfl (rfl) recheck_nil), _, rfl, ?_⟩;refine GoE.alloc rfl rfl zt24 (dK 63 6 rfl) rfl rfl fun h33 x33 f33 => ?_;have := e9.1;have := e0.1;have := f0.1;have := f10.1;have := f26.1;replace f0 := f0.ext x33;replace f10 := f10.ext x33;replace f26 := f26.ext x33;replace e9 := e9.trans x33;replace e0 := e0.trans x33;have := f33.1;refine ⟨(rck (h2 := h33) rfl (rfl) recheck_nil), ?_⟩;refine GoE.call rfl rfl (aCF aFunc15 rfl) (hLk (hAt FS e0 e9)) (dD 2175 6 rfl) ?_ np;rintro v34 h34 ⟨q, x34⟩;cases q;replace f33 := f33.ext x34;replace f0 := f0.ext x34;replace f10 := f10.ext x34;replace f26 := f26.ext x34;replace e9 := e9.trans x34;replace e0 := e0.trans x34;refine ⟨recheck_nil, _, rfl, ?_⟩;iterate 3 refine gQ rfl rfl rfl rfl ?_
       refine GoE.store rfl rfl rfl rfl (dK 3071 10 (dD 3071 9 (dD 3071 8 rfl))) rfl rfl f33 rfl sz24 rfl rfl rfl fun h35 u35 => ?_;replace f33 := u35.has f33;replace f0 := f0.upd u35 (by omega);replace f10 := f10.upd u35 (by omega);replace f26 := f26.upd u35 (by omega);replace e9 := e9.upd u35 (by omega);replace e0 := e0.upd u35 (by omega);refine ⟨(rck (h2 := h35) rfl (rfl) recheck_nil), ?_⟩;refine gQ rfl rfl rfl rfl ?_;refine GoE.end rfl ?_;exact done _ _ _ ⟨rfl, rfl, rfl, rfl, rfl, rfl, rfl, rfl, rfl, trivial⟩ ⟨e0, f0, f10, f26, by assumption⟩
      ·intro pl hpl
       rw [plE29_4_11_5_7] at hpl;cases hpl;refine gQ rfl rfl (ld27 rfl f0 rfl) rfl ?_;iterate 4 refine gQ rfl rfl rfl rfl ?_
       refine GoE.call rfl rfl (aCF aFunc35 rfl) (hlc) (dK 14 6 (dD 14 3 (dD 14 2 (dD 14 1 (dK 14 0 rfl))))) ?_ np;rintro v31 h31 ⟨q, x31⟩;cases q;replace f0 := f0.ext x31;replace f10 := f10.ext x31;replace f26 := f26.ext x31;replace e0 := e0.trans x31;refine ⟨(rck (h2 := h31) rfl (rfl) (rck (h2 := h31) rfl (ld27 rfl f0 rfl) recheck_nil)), _, rfl, ?_⟩;refine GoE.alloc rfl rfl zt24 (dK 30 6 (dK 30 0 rfl)) rfl rfl fun h32 x32 f32 => ?_;have := e0.1;have := f0.1;have := f10.1;have := f26.1;replace f0 := f0.ext x32;replace f10 := f10.ext x32;replace f26 := f26.ext x32;replace e0 := e0.trans x32;have := f32.1;refine ⟨(rck (h2 := h32) rfl (rfl) (rck (h2 := h32) rfl (ld27 rfl f0 rfl) recheck_nil)), ?_⟩;refine GoE.call rfl rfl (aCF aFunc34 rfl) (with34_ok ⟨1, k, o, o⟩ (A.ext e0) B.e) (dK 2079 6 (dD 2079 0 rfl)) ?_ (by rintro _ _ ⟨s, q, _, FS, e9⟩; cases q);rintro v33 h33 ⟨s, q, x33, FS, e9⟩;cases q;have := e0.1;have := f32.1;have := f0.1;have := f10.1;have := f26.1;replace f32 := f32.ext x33;replace f0 := f0.ext x33;replace f10 := f10.ext x33;replace f26 := f26.ext x33;replace e0 := e0.trans x33;refine ⟨(rck (h2 := h33) rfl (rfl) recheck_nil), _, rfl, ?_⟩;refine GoE.call rfl rfl (aCF aFunc15 rfl) (hLk (hAt FS e0 e9)) (dD 2175 6 rfl) ?_ np;rintro v34 h34 ⟨q, x34⟩;cases q;replace f32 := f32.ext x34;replace f0 := f0.ext x34;replace f10 := f10.ext x34;replace f26 := f26.ext x34;replace e9 := e9.trans x34;replace e0 := e0.trans x34;refine ⟨recheck_nil, _, rfl, ?_⟩;iterate 3 refine gQ rfl rfl rfl rfl ?_
       refine GoE.store rfl rfl rfl rfl (dK 3071 10 (dD 3071 9 (dD 3071 8 rfl))) rfl rfl f32 rfl sz24 rfl rfl rfl fun h35 u35 => ?_;replace f32 := u35.has f32;replace f0 := f0.upd u35 (by omega);replace f10 := f10.upd u35 (by omega);replace f26 := f26.upd u35 (by omega);clear e9;replace e0 := e0.upd u35 (by omega);refine ⟨(rck (h2 := h35) rfl (rfl) recheck_nil), ?_⟩;refine gQ rfl rfl rfl rfl ?_;refine GoE.end rfl ?_;exact done _ _ _ ⟨rfl, rfl, rfl, rfl, rfl, rfl, rfl, rfl, rfl, trivial⟩ ⟨e0, f0, f10, f26, by assumption⟩
      ·intro pl hpl
       rw [plE29_11_4_5_7] at hpl;cases hpl;refine gQ rfl rfl (ld27 rfl f0 rfl) rfl ?_;iterate 4 refine gQ rfl rfl rfl rfl ?_
       refine GoE.alloc rfl rfl zt24 (dK 0 6 (dK 0 3 (dK 0 2 (dK 0 1 (dK 0 0 rfl))))) rfl rfl fun h31 x31 f31 => ?_;have := e0.1;have := f0.1;have := f10.1;have := f26.1;replace f0 := f0.ext x31;replace f10 := f10.ext x31;replace f26 := f26.ext x31;replace e0 := e0.trans x31;have := f31.1;refine ⟨(rck (h2 := h31) rfl (rfl) (rck (h2 := h31) rfl (rfl) (rck (h2 := h31) rfl (rfl) (rck (h2 := h31) rfl (rfl) (rck (h2 := h31) rfl (ld27 rfl f0 rfl) recheck_nil))))), ?_⟩;refine GoE.call rfl rfl (aCF aFunc35 rfl) (hlc) (dK 2062 6 (dD 2062 3 (dD 2062 2 (dD 2062 1 (dK 2062 0 rfl))))) ?_ np;rintro v32 h32 ⟨q, x32⟩;cases q;replace f31 := f31.ext x32;replace f0 := f0.ext x32;replace f10 := f10.ext x32;replace f26 := f26.ext x32;replace e0 := e0.trans x32;refine ⟨(rck (h2 := h32) rfl (rfl) (rck (h2 := h32) rfl (ld27 rfl f0 rfl) recheck_nil)), _, rfl, ?_⟩;refine GoE.call rfl rfl (aCF aFunc34 rfl) (with34_ok ⟨1, k, o, o⟩ (A.ext e0) B.e) (dK 2079 6 (dD 2079 0 rfl)) ?_ (by rintro _ _ ⟨s, q, _, FS, e9⟩; cases q);rintro v33 h33 ⟨s, q, x33, FS, e9⟩;cases q;have := e0.1;have := f31.1;have := f0.1;have := f10.1;have := f26.1;replace f31 := f31.ext x33;replace f0 := f0.ext x33;replace f10 := f10.ext x33;replace f26 := f26.ext x33;replace e0 := e0.trans x33;refine ⟨(rck (h2 := h33) rfl (rfl) recheck_nil), _, rfl, ?_⟩;refine GoE.call rfl rfl (aCF aFunc15 rfl) (hLk (hAt FS e0 e9)) (dD 2175 6 rfl) ?_ np;rintro v34 h34 ⟨q, x34⟩;cases q;replace f31 := f31.ext x34;replace f0 := f0.ext x34;replace f10 := f10.ext x34;replace f26 := f26.ext x34;replace e9 := e9.trans x34;replace e0 := e0.trans x34;refine ⟨recheck_nil, _, rfl, ?_⟩;iterate 3 refine gQ rfl rfl rfl rfl ?_
       refine GoE.store rfl rfl rfl rfl (dK 3071 10 (dD 3071 9 (dD 3071 8 rfl))) rfl rfl f31 rfl sz24 rfl rfl rfl fun h35 u35 => ?_;replace f31 := u35.has f31;replace f0 := f0.upd u35 (by omega);replace f10 := f10.upd u35 (by omega);replace f26 := f26.upd u35 (by omega);clear e9;replace e0 := e0.upd u35 (by omega);refine ⟨(rck (h2 := h35) rfl (rfl) recheck_nil), ?_⟩;refine gQ rfl rfl rfl rfl ?_;refine GoE.end rfl ?_;exact done _ _ _ ⟨rfl, rfl, rfl, rfl, rfl, rfl, rfl, rfl, rfl, trivial⟩ ⟨e0, f0, f10, f26, by assumption⟩
     ·clear e0 f0 f10 f26;rintro b34 h40 ⟨e0, f0, f10, f26, f34⟩
      rcases r3 with ⟨rfl, rfl, rfl⟩ | ⟨rfl, rfl⟩
      ·apply gS;refine Go.drawnE plan6_2 ?_;refine gQ rfl rfl rfl rfl ?_;refine gQ rfl rfl (kXF rfl rfl) rfl ?_;refine gQ rfl rfl rfl rfl ?_;iterate 2 refine GoE.skip rfl rfl rfl ?_
       iterate 3 refine gQ rfl rfl rfl rfl ?_
       refine gQ rfl rfl (kET rfl rfl) rfl ?_;refine gQ rfl rfl rfl rfl ?_;refine gQ rfl rfl (ld24 rfl f10 rfl) rfl ?_;refine GoE.call rfl rfl (aCF aFunc33 rfl) (inside33_is r1) (dD 1663 10 (dD 1663 9 (dK 1663 8 (dK 1663 7 (dD 1663 6 (dD 1663 5 (dD 1663 2 (dD 1663 1 (dD 1663 0 rfl))))))))) ?_ np;rintro v41 h41 ⟨q, x41⟩;cases q;replace f0 := f0.ext x41;replace f10 := f10.ext x41;replace f26 := f26.ext x41;replace f34 := f34.ext x41;replace e0 := e0.trans x41;refine ⟨(rck (h2 := h41) rfl (kET rfl rfl) (rck (h2 := h41) rfl (rfl) recheck_nil)), _, rfl, ?_⟩;refine gQ rfl rfl (aOp_neqBool (r := false) rfl rfl Tryz.underlying4 rfl) rfl ?_;iterate 3 refine gQ rfl rfl rfl rfl ?_
       refine gQ rfl rfl (kET rfl rfl) rfl ?_;refine gQ rfl rfl rfl rfl ?_;refine gQ rfl rfl (ld24 rfl f34 rfl) rfl ?_;iterate 2 refine gQ rfl rfl rfl rfl ?_
       refine GoE.call rfl rfl (aCF aFunc36 rfl) (span36_ok) (dD 1835007 20 (dD 1835007 19 (dK 1835007 18 (dD 1835007 17 (dD 1835007 16 (dD 1835007 15 (dD 1835007 14 (dD 1835007 13 (dD 1835007 12 (dD 1835007 8 (dD 1835007 7 rfl))))))))))) ?_ np;rintro v42 h42 ⟨q, x42⟩;cases q;replace f0 := f0.ext x42;replace f10 := f10.ext x42;replace f26 := f26.ext x42;replace f34 := f34.ext x42;replace e0 := e0.trans x42;refine ⟨(rck (h2 := h42) rfl (ld24 rfl f34 rfl) recheck_nil), _, rfl, ?_⟩;refine gQ rfl rfl (aOp_neqSpan spanT24 rfl rfl (r := false) (by simp)) rfl ?_;iterate 2 refine gQ rfl rfl rfl rfl ?_
       refine GoE.end rfl ?_;refine gC (b := false) rfl ?_;refine gD ?_;refine Go.inBlock noJ_ok ?_;refine gR rfl ?_;refine gO rfl rfl (aA rfl rfl) rfl ?_;refine gP ?_;apply gE;exact again (m - 1) (j + 1) _ _ (by omega) ⟨rfl, rfl, rfl, rfl, rfl, rfl, trivial⟩ ⟨by omega, e0, f0, f10, f26⟩
      ·apply gS;refine Go.drawnE plan6_2 ?_;refine gQ rfl rfl rfl rfl ?_;refine gQ rfl rfl (kXT rfl rfl) rfl ?_;iterate 2 refine gQ rfl rfl rfl rfl ?_
       refine gQ rfl rfl (kXF rfl rfl) rfl ?_;iterate 3 refine gQ rfl rfl rfl rfl ?_
       refine gQ rfl rfl (kEF rfl rfl) rfl ?_;refine gQ rfl rfl rfl rfl ?_;refine gQ rfl rfl (ld24 rfl f10 rfl) rfl ?_;refine GoE.call rfl rfl (aCF aFunc33 rfl) (inside33_is r1) (dD 1663 10 (dD 1663 9 (dK 1663 8 (dK 1663 7 (dD 1663 6 (dD 1663 5 (dD 1663 4 (dD 1663 3 (dD 1663 2 (dD 1663 1 (dD 1663 0 rfl))))))))))) ?_ np;rintro v41 h41 ⟨q, x41⟩;cases q;replace f0 := f0.ext x41;replace f10 := f10.ext x41;replace f26 := f26.ext x41;replace e0 := e0.trans x41;refine ⟨(rck (h2 := h41) rfl (kEF rfl rfl) (rck (h2 := h41) rfl (rfl) recheck_nil)), _, rfl, ?_⟩;refine gQ rfl rfl (aOp_neqBool (r := false) rfl rfl Tryz.underlying4 rfl) rfl ?_;iterate 3 refine gQ rfl rfl rfl rfl ?_
       refine gQ rfl rfl (kEF rfl rfl) rfl ?_;refine gQ rfl rfl rfl rfl ?_;iterate 5 refine GoE.skip rfl rfl rfl ?_
       iterate 2 refine gQ rfl rfl rfl rfl ?_
       refine GoE.end rfl ?_;refine gC (b := false) rfl ?_;refine gD ?_;refine Go.inBlock noJ_ok ?_;refine gR rfl ?_;refine gO rfl rfl (aA rfl rfl) rfl ?_;refine gP ?_;apply gE;exact again (m - 1) (j + 1) _ _ (by omega) ⟨rfl, rfl, rfl, rfl, rfl, rfl, trivial⟩ ⟨by omega, e0, f0, f10, f26⟩
    ·by_cases hlt : o < 0
     ·apply gS;refine gR rfl ?_;refine gO rfl rfl (kLT rfl rfl) rfl ?_;apply gE;apply gS;refine gC (b := true) rfl ?_;refine gD ?_;apply gS;refine Go.block noJ_ok ?_;apply gS;refine gR rfl ?_;refine gO rfl rfl (aOp_indexAddr (i := j) Tryz.underlying44 sz3 rfl rfl rfl (Nat.ble_eq_true_of_le hj)) rfl ?_;refine gO rfl rfl (ld3 rfl f26 hval) rfl ?_;refine gP ?_;apply gE;iterate 2 apply gS
      refine gR rfl ?_;refine gP ?_;refine gO rfl rfl (kLT rfl rfl) rfl ?_;refine gP ?_;iterate 2 refine GoR.skip rfl rfl rfl ?_
      refine gP ?_;apply gE;refine gC (b := true) rfl ?_;refine gD ?_;refine gR rfl ?_;refine gO rfl rfl (aA rfl rfl) rfl ?_;refine gP ?_;apply gE;exact again (m - 1) (j + 1) _ _ (by omega) ⟨rfl, rfl, rfl, rfl, rfl, rfl, trivial⟩ ⟨by omega, e0, f0, f10, f26⟩
     ·apply gS;refine gR rfl ?_;refine gO rfl rfl (kLT rfl rfl) rfl ?_;apply gE;apply gS;refine gC (b := true) rfl ?_;refine gD ?_;apply gS;refine Go.block noJ_ok ?_;apply gS;refine gR rfl ?_;refine gO rfl rfl (aOp_indexAddr (i := j) Tryz.underlying44 sz3 rfl rfl rfl (Nat.ble_eq_true_of_le hj)) rfl ?_;refine gO rfl rfl (ld3 rfl f26 hval) rfl ?_;refine gP ?_;apply gE;iterate 2 apply gS
      refine gR rfl ?_;refine gP ?_;refine gO rfl rfl (kLF rfl rfl) rfl ?_;iterate 2 refine gP ?_
      refine gO rfl rfl (kGT rfl rfl) rfl ?_;refine gP ?_;apply gE;refine gC (b := true) rfl ?_;refine gD ?_;refine gR rfl ?_;refine gO rfl rfl (aA rfl rfl) rfl ?_;refine gP ?_;apply gE;exact again (m - 1) (j + 1) _ _ (by omega) ⟨rfl, rfl, rfl, rfl, rfl, rfl, trivial⟩ ⟨by omega, e0, f0, f10, f26⟩
   ·have hj4 : j = 4 := by omega
    subst hj4;apply gS;refine gR rfl ?_;refine gO rfl rfl (kLF rfl rfl) rfl ?_;apply gE;apply gS;refine gC (b := false) rfl ?_;refine gD ?_;apply gS;refine gR rfl ?_;refine GoR.call rfl rfl (aCF aFunc12 rfl) (alive_ok) ?_ np;rintro v31 h31 ⟨q, x31⟩;cases q;refine ⟨_, rfl, ?_⟩;replace e0 := e0.trans x31;refine gP ?_;apply gE;exact gW Tryz.func6 rfl rfl ⟨rfl, e0⟩
theorem law6 {C : ClampV} {sp se : AVal} {h : AH} (A : ClampAt h C sp se) (hb : C.ps.length < 9223372036854775808 ∧ C.es.length < 9223372036854775808) {w1 w2 : Int} (h1 : 0 ≤ w1 ∧ w1 < 256) (h2 : 0 ≤ w2 ∧ w2 < 65536) : Runs Tryz.prog 6 [.agg (C.cells sp se), .int .u8 w1, .int .u16 w2] h (fun en h' => en = .ret (.bool true) ∧ Ext h h') := by
 by_cases O : C.Ok
 ·have := law6_ok A O (a := w1.toNat) (b := w2.toNat) (by omega) (by omega)
  rw [Int.toNat_of_nonneg h1.1, Int.toNat_of_nonneg h2.1] at this;exact this
 ·exact law6_bad A hb O
end Go.Proofs.YtobhkdgcciolmaaGreat
