import Derived.Test.YtobhkdgcciolmaaGreatMAK
import Derived.Test.YtobhkdgcciolmaaGreatMAJ
namespace Go.Proofs.YtobhkdgcciolmaaGreat
open Go Go.AbsE
set_option linter.unusedSimpArgs false
set_option maxRecDepth 100000
set_option maxHeartbeats 0
set_option linter.unusedVariables false
theorem whose157_ok {a b c : Int} {h : AH} : Runs Tryz.prog 157 [.agg [.int .i64 a, .int .i64 b, .int .i64 c]] h (fun en h' => en = .ret (.int .i64 c) ∧ Ext h h') := by
 have e0 : Ext h h := Ext.refl _
 refine Runs.intro aFunc157 rfl rfl rfl rfl fun rest => ?_;apply gS;refine gR rfl ?_;refine GoR.box rfl rfl rfl rfl rfl rfl fun h0 x0 f0 => ?_;replace e0 := e0.trans x0;refine gP ?_;apply gE;apply gS;refine gR rfl ?_;refine gO rfl rfl (fa150_1 rfl) rfl ?_;refine gO rfl rfl (ld3 rfl f0 rfl) rfl ?_;refine gP ?_;apply gE;exact gW Tryz.func157 rfl rfl ⟨rfl, e0⟩
theorem whose_at (e : EV) (h : AH) : ∃ f args, aInvokeIface Tryz.prog (evC e) "bogworks/clamp.whose" [] h = some (.enter f args h) ∧ Runs Tryz.prog f args h (fun en h' => en = .ret (.int .i64 e.cl) ∧ Ext h h') := by
 unfold evC evA
 by_cases k0 : e.kind = 0
 ·rw [if_pos k0];exact ⟨157, [.agg [.int .i64 e.lo, .int .i64 e.hi, .int .i64 e.cl]], by kernel_rfl, whose157_ok⟩
 ·rw [if_neg k0];exact ⟨157, [.agg [.int .i64 e.lo, .int .i64 e.hi, .int .i64 e.cl]], by kernel_rfl, whose157_ok⟩
theorem countBack_ok {a b c : Int} {s : Int × Int} {h : AH} : Runs Tryz.prog 158 [.agg [.int .i64 a, .int .i64 b, .int .i64 c], .agg (spC s)] h (fun en h' => en = .ret (.agg (spC (meetV s (a, b)))) ∧ Ext h h') := by
 have hm := fun h => meet_ok (s := s) (t := (a, b)) (h := h)
 unfold spC at *
 have e0 : Ext h h := Ext.refl _
 refine Runs.intro aFunc158 rfl rfl rfl rfl fun rest => ?_;apply gS;refine gR rfl ?_;refine GoR.box rfl rfl rfl rfl rfl rfl fun h0 x0 f0 => ?_;have := e0.1;replace e0 := e0.trans x0;have := f0.1;refine GoR.box rfl rfl rfl rfl rfl rfl fun h1 x1 f1 => ?_;have := e0.1;have := f0.1;replace f0 := f0.ext x1;replace e0 := e0.trans x1;have := f1.1;refine GoR.alloc rfl rfl rfl zt71 rfl rfl fun h2 x2 f2 => ?_;have := e0.1;have := f1.1;have := f0.1;replace f1 := f1.ext x2;replace f0 := f0.ext x2;replace e0 := e0.trans x2;have := f2.1;apply gE;apply gS;refine gR rfl ?_;refine gO rfl rfl (ld71 rfl f1 rfl) rfl ?_;refine gO rfl rfl (fa152_0 rfl) rfl ?_;refine gO rfl rfl (fa150_0 rfl) rfl ?_;refine gO rfl rfl (ld71 rfl f0 rfl) rfl ?_;refine GoR.call rfl rfl (aCF aFunc160 rfl) (hm _) ?_ np;rintro v3 h3 ⟨q, x3⟩;cases q;refine ⟨_, rfl, ?_⟩;replace f2 := f2.ext x3;replace e0 := e0.trans x3;refine GoR.store rfl rfl rfl rfl rfl rfl f2 rfl sz71 rfl rfl rfl fun h4 u4 => ?_;replace f2 := u4.has f2;replace e0 := e0.upd u4 (by omega);apply gE;exact gV (ret_end (aResult_of Tryz.func158 rfl (aResults_cell rfl f2 (inCells_agg ag71 sz71 rfl))) ⟨rfl, e0⟩)
theorem countForward_ok {a b c : Int} {s : Int × Int} {h : AH} : Runs Tryz.prog 159 [.agg [.int .i64 a, .int .i64 b, .int .i64 c], .agg (spC s)] h (fun en h' => en = .ret (.agg (spC (meetV s (a, b)))) ∧ Ext h h') := by
 have hm := fun h => meet_ok (s := s) (t := (a, b)) (h := h)
 unfold spC at *
 have e0 : Ext h h := Ext.refl _
 refine Runs.intro aFunc159 rfl rfl rfl rfl fun rest => ?_;apply gS;refine gR rfl ?_;refine GoR.box rfl rfl rfl rfl rfl rfl fun h0 x0 f0 => ?_;have := e0.1;replace e0 := e0.trans x0;have := f0.1;refine GoR.box rfl rfl rfl rfl rfl rfl fun h1 x1 f1 => ?_;have := e0.1;have := f0.1;replace f0 := f0.ext x1;replace e0 := e0.trans x1;have := f1.1;refine GoR.alloc rfl rfl rfl zt71 rfl rfl fun h2 x2 f2 => ?_;have := e0.1;have := f1.1;have := f0.1;replace f1 := f1.ext x2;replace f0 := f0.ext x2;replace e0 := e0.trans x2;have := f2.1;apply gE;apply gS;refine gR rfl ?_;refine gO rfl rfl (ld71 rfl f1 rfl) rfl ?_;refine gO rfl rfl (fa152_0 rfl) rfl ?_;refine gO rfl rfl (fa150_0 rfl) rfl ?_;refine gO rfl rfl (ld71 rfl f0 rfl) rfl ?_;refine GoR.call rfl rfl (aCF aFunc160 rfl) (hm _) ?_ np;rintro v3 h3 ⟨q, x3⟩;cases q;refine ⟨_, rfl, ?_⟩;replace f2 := f2.ext x3;replace e0 := e0.trans x3;refine GoR.store rfl rfl rfl rfl rfl rfl f2 rfl sz71 rfl rfl rfl fun h4 u4 => ?_;replace f2 := u4.has f2;replace e0 := e0.upd u4 (by omega);apply gE;exact gV (ret_end (aResult_of Tryz.func159 rfl (aResults_cell rfl f2 (inCells_agg ag71 sz71 rfl))) ⟨rfl, e0⟩)
theorem saleForward_ok {a b c : Int} {s : Int × Int} (hs : Small s) (ht : Small (a, b)) {h : AH} : Runs Tryz.prog 162 [.agg [.int .i64 a, .int .i64 b, .int .i64 c], .agg (spC s)] h (fun en h' => en = .ret (.agg (spC (minusV s (a, b)))) ∧ Ext h h') := by
 have hm := fun h => minus_ok (s := s) (t := (a, b)) hs ht (h := h)
 unfold spC at *
 have e0 : Ext h h := Ext.refl _
 refine Runs.intro aFunc162 rfl rfl rfl rfl fun rest => ?_;apply gS;refine gR rfl ?_;refine GoR.box rfl rfl rfl rfl rfl rfl fun h0 x0 f0 => ?_;have := e0.1;replace e0 := e0.trans x0;have := f0.1;refine GoR.box rfl rfl rfl rfl rfl rfl fun h1 x1 f1 => ?_;have := e0.1;have := f0.1;replace f0 := f0.ext x1;replace e0 := e0.trans x1;have := f1.1;refine GoR.alloc rfl rfl rfl zt71 rfl rfl fun h2 x2 f2 => ?_;have := e0.1;have := f1.1;have := f0.1;replace f1 := f1.ext x2;replace f0 := f0.ext x2;replace e0 := e0.trans x2;have := f2.1;apply gE;apply gS;refine gR rfl ?_;refine gO rfl rfl (ld71 rfl f1 rfl) rfl ?_;refine gO rfl rfl (fa160_0 rfl) rfl ?_;refine gO rfl rfl (fa150_0 rfl) rfl ?_;refine gO rfl rfl (ld71 rfl f0 rfl) rfl ?_;refine GoR.call rfl rfl (aCF aFunc97 rfl) (hm _) ?_ np;rintro v3 h3 ⟨q, x3⟩;cases q;refine ⟨_, rfl, ?_⟩;replace f2 := f2.ext x3;replace e0 := e0.trans x3;refine GoR.store rfl rfl rfl rfl rfl rfl f2 rfl sz71 rfl rfl rfl fun h4 u4 => ?_;replace f2 := u4.has f2;replace e0 := e0.upd u4 (by omega);apply gE;exact gV (ret_end (aResult_of Tryz.func162 rfl (aResults_cell rfl f2 (inCells_agg ag71 sz71 rfl))) ⟨rfl, e0⟩)
theorem saleBack_ok {a b c : Int} {s : Int × Int} (hs : Small s) (ht : Small (a, b)) {h : AH} : Runs Tryz.prog 161 [.agg [.int .i64 a, .int .i64 b, .int .i64 c], .agg (spC s)] h (fun en h' => en = .ret (.agg (spC (if s.1 > s.2 then s else plusV s (a, b)))) ∧ Ext h h') := by
 have hm := fun h => plus_ok (s := s) (t := (a, b)) hs ht (h := h)
 have hn := fun h => none_ok (s := s) (h := h)
 by_cases q : s.1 > s.2
 ·rw [if_pos q];rw [decide_eq_true q] at hn
  unfold spC at *
  have e0 : Ext h h := Ext.refl _
  refine Runs.intro aFunc161 rfl rfl rfl rfl fun rest => ?_;apply gS;refine gR rfl ?_;refine GoR.box rfl rfl rfl rfl rfl rfl fun h0 x0 f0 => ?_;have := e0.1;replace e0 := e0.trans x0;have := f0.1;refine GoR.box rfl rfl rfl rfl rfl rfl fun h1 x1 f1 => ?_;have := e0.1;have := f0.1;replace f0 := f0.ext x1;replace e0 := e0.trans x1;have := f1.1;refine GoR.alloc rfl rfl rfl zt71 rfl rfl fun h2 x2 f2 => ?_;have := e0.1;have := f1.1;have := f0.1;replace f1 := f1.ext x2;replace e0 := e0.trans x2;have := f2.1;apply gE;iterate 2 apply gS
  refine gR rfl ?_;refine gO rfl rfl (ld71 rfl f1 rfl) rfl ?_;refine GoR.call rfl rfl (aCF aFunc163 rfl) (hn _) ?_ np;rintro v3 h3 ⟨q, x3⟩;cases q;refine ⟨_, rfl, ?_⟩;replace f2 := f2.ext x3;replace f1 := f1.ext x3;replace e0 := e0.trans x3;apply gE;refine gC (b := true) rfl ?_;apply gS;refine gR rfl ?_;refine gO rfl rfl (ld71 rfl f1 rfl) rfl ?_;refine GoR.store rfl rfl rfl rfl rfl rfl f2 rfl sz71 rfl rfl rfl fun h4 u4 => ?_;replace f2 := u4.has f2;replace e0 := e0.upd u4 (by omega);apply gE;exact gV (ret_end (aResult_of Tryz.func161 rfl (aResults_cell rfl f2 (inCells_agg ag71 sz71 rfl))) ⟨rfl, e0⟩)
 ·rw [if_neg q];rw [decide_eq_false q] at hn
  unfold spC at *
  have e0 : Ext h h := Ext.refl _
  refine Runs.intro aFunc161 rfl rfl rfl rfl fun rest => ?_;apply gS;refine gR rfl ?_;refine GoR.box rfl rfl rfl rfl rfl rfl fun h0 x0 f0 => ?_;have := e0.1;replace e0 := e0.trans x0;have := f0.1;refine GoR.box rfl rfl rfl rfl rfl rfl fun h1 x1 f1 => ?_;have := e0.1;have := f0.1;replace f0 := f0.ext x1;replace e0 := e0.trans x1;have := f1.1;refine GoR.alloc rfl rfl rfl zt71 rfl rfl fun h2 x2 f2 => ?_;have := e0.1;have := f1.1;have := f0.1;replace f1 := f1.ext x2;replace f0 := f0.ext x2;replace e0 := e0.trans x2;have := f2.1;apply gE;iterate 2 apply gS
  refine gR rfl ?_;refine gO rfl rfl (ld71 rfl f1 rfl) rfl ?_;refine GoR.call rfl rfl (aCF aFunc163 rfl) (hn _) ?_ np;rintro v3 h3 ⟨q, x3⟩;cases q;refine ⟨_, rfl, ?_⟩;replace f2 := f2.ext x3;replace f1 := f1.ext x3;replace f0 := f0.ext x3;replace e0 := e0.trans x3;apply gE;refine gC (b := false) rfl ?_;refine gD ?_;apply gS;refine gR rfl ?_;refine gO rfl rfl (ld71 rfl f1 rfl) rfl ?_;refine gO rfl rfl (fa160_0 rfl) rfl ?_;refine gO rfl rfl (fa150_0 rfl) rfl ?_;refine gO rfl rfl (ld71 rfl f0 rfl) rfl ?_;refine GoR.call rfl rfl (aCF aFunc100 rfl) (hm _) ?_ np;rintro v4 h4 ⟨q, x4⟩;cases q;refine ⟨_, rfl, ?_⟩;replace f2 := f2.ext x4;replace e0 := e0.trans x4;refine GoR.store rfl rfl rfl rfl rfl rfl f2 rfl sz71 rfl rfl rfl fun h5 u5 => ?_;replace f2 := u5.has f2;replace e0 := e0.upd u5 (by omega);apply gE;exact gV (ret_end (aResult_of Tryz.func161 rfl (aResults_cell rfl f2 (inCells_agg ag71 sz71 rfl))) ⟨rfl, e0⟩)
theorem back_at {n : Nat} {e : EV} (he : e.Ok n) {s : Int × Int} (hs : Small s) (h : AH) : ∃ f args, aInvokeIface Tryz.prog (evC e) "bogworks/clamp.back" [.agg (spC s)] h = some (.enter f args h) ∧ Runs Tryz.prog f args h (fun en h' => en = .ret (.agg (spC (e.back s))) ∧ Ext h h') := by
 unfold evC evA EV.back
 by_cases k0 : e.kind = 0
 ·rw [if_pos k0, if_pos k0]
  have ht : Small (e.lo, e.hi) := by unfold Small; have := he.2.1; dsimp only; omega
  exact ⟨161, [.agg [.int .i64 e.lo, .int .i64 e.hi, .int .i64 e.cl], .agg (spC s)], by kernel_rfl, saleBack_ok hs ht⟩
 ·rw [if_neg k0, if_neg k0];exact ⟨158, [.agg [.int .i64 e.lo, .int .i64 e.hi, .int .i64 e.cl], .agg (spC s)], by kernel_rfl, countBack_ok⟩
theorem forward_at {n : Nat} {e : EV} (he : e.Ok n) {s : Int × Int} (hs : Small s) (h : AH) : ∃ f args, aInvokeIface Tryz.prog (evC e) "bogworks/clamp.forward" [.agg (spC s)] h = some (.enter f args h) ∧ Runs Tryz.prog f args h (fun en h' => en = .ret (.agg (spC (e.fwd s))) ∧ Ext h h') := by
 unfold evC evA EV.fwd
 by_cases k0 : e.kind = 0
 ·rw [if_pos k0, if_pos k0]
  have ht : Small (e.lo, e.hi) := by unfold Small; have := he.2.1; dsimp only; omega
  exact ⟨162, [.agg [.int .i64 e.lo, .int .i64 e.hi, .int .i64 e.cl], .agg (spC s)], by kernel_rfl, saleForward_ok hs ht⟩
 ·rw [if_neg k0, if_neg k0];exact ⟨159, [.agg [.int .i64 e.lo, .int .i64 e.hi, .int .i64 e.cl], .agg (spC s)], by kernel_rfl, countForward_ok⟩
theorem own_next {F G G' : Nat → Prop} {h h1 : AH} (a : ∀ b, G' b → G b ∨ h1.next ≤ b) (c : ∀ b, G b → F b ∨ h.next ≤ b) (hn : h.next ≤ h1.next) : ∀ b, G' b → F b ∨ h.next ≤ b := fun b q => (a b q).elim (c b) fun q => .inr (by omega)
def intI (l : List Int) : List (List AVal) := l.map fun n => [.int .i64 n]
theorem intI_at {l : List Int} {k : Nat} {n : Int} (h : l[k]? = some n) : (intI l)[k]? = some [.int .i64 n] := by unfold intI; rw [List.getElem?_map, h]; rfl
theorem intI_len (l : List Int) : (intI l).length = l.length := by unfold intI; rw [List.length_map]
theorem each124_it {a b : Int} (ha : -1000 ≤ a ∧ a ≤ 1000) (hb : -1000 ≤ b ∧ b ≤ 1000) : IterN Tryz.prog 124 [.agg (spC (a, b))] [] (intI (upto a b)) (fun _ => True) := by
 intro y base J E h F hyc hys hA hbase T j0
 show Runs Tryz.prog 124 [.agg (spC (a, b)), y] h _
 obtain ⟨n, hn⟩ : ∃ n, (b - a + 1).toNat = n := ⟨_, rfl⟩
 have hlen : (intI (upto a b)).length = n := by rw [intI_len]; simp [upto, hn]
 rw [hlen]
 have hat : ∀ {k : Nat}, k < n → (intI (upto a b))[k]? = some [.int .i64 (a + k)] := fun hk => by
  refine intI_at ?_
  unfold upto
  rw [hn, List.getElem?_map, List.getElem?_range hk]
  rfl
 have hSl : ∀ b, F b → b < h.next := fun b q => T.ltJ j0 q
 have hnS : ¬ F h.next := fun q => Nat.lt_irrefl _ (hSl _ q)
 unfold spC
 have e0 : Ext h h := Ext.refl _
 refine Runs.intro aFunc124 rfl rfl rfl rfl fun rest => ?_;apply gS;refine gR rfl ?_;refine GoR.box rfl rfl rfl rfl rfl rfl fun h0 x0 f0 => ?_;have := e0.1;replace e0 := e0.trans x0;have := f0.1;apply gE;apply gS;refine gR rfl ?_;refine gO rfl rfl (fa71_0 rfl) rfl ?_;refine gO rfl rfl (fa24_0 rfl) rfl ?_;refine gO rfl rfl (ld3 rfl f0 rfl) rfl ?_;refine gP ?_;apply gE;refine Go.block noJ_ok ?_
 have hlt := f0.1
 refine Go.loopKeep (fun a' : Nat × (Nat → Prop) => [(1, y), (2, .ptr h.next 0), (4, .int .i64 (a + (a'.1 : Nat)))]) (fun m a' h' => m + a'.1 = n ∧ ExtF F h h' ∧ (∀ b, a'.2 b → F b ∨ h.next ≤ b) ∧ ¬ a'.2 h.next ∧ Has h' h.next (.cells .plain [.int .i64 a, .int .i64 b] 71) ∧ J a'.1 h' a'.2) (n := n) (0, F) ⟨rfl, rfl, (by simp; rfl), trivial⟩ ⟨rfl, ExtF.of e0, fun b q => .inl q, hnS, f0, T.ext j0 e0⟩ ?_;clear e0 f0;rintro m ⟨k, G⟩ h1 ⟨hm, x1, hG, hnG, f0, j1⟩ again
 dsimp only at hm hG hnG j1 ⊢
 have e0 : Ext h1 h1 := Ext.refl _
 have hx1 := x1.1
 by_cases hk : k < n
 ·obtain ⟨ax, a1, a2, a3⟩ := T.take (hat hk) j1
  have hb0 := f0.1
  iterate 2 apply gS
  refine gR rfl ?_;refine gP ?_;refine gO rfl rfl (fa71_0 rfl) rfl ?_;refine gO rfl rfl (fa24_1 rfl) rfl ?_;refine gO rfl rfl (ld3 rfl f0 rfl) rfl ?_;refine gO rfl rfl (kMT rfl rfl) rfl ?_;apply gE;refine gC (b := true) rfl ?_;refine gD ?_;apply gS;refine Go.block noJ_ok ?_;apply gS;refine gR rfl ?_;iterate 2 refine gP ?_
  refine GoR.does rfl rfl (aOp_callY rfl rfl a1) a2 a3 ?_ (by rintro _ _ ⟨_, _, _, ⟨q, _⟩ | ⟨q, _⟩⟩ <;> cases q);rintro v h6 ⟨x6, G', hG', ⟨q, j6⟩ | ⟨q, e6⟩⟩
  ·cases q;refine ⟨_, rfl, ?_⟩
   have y6 := x1.trans hG x6
   replace f0 := f0.extF x6 hnG;clear e0;refine gP ?_;apply gE;refine gC (b := false) rfl ?_;refine gD ?_;refine Go.inBlock noJ_ok ?_;refine gR rfl ?_;refine gP ?_;refine gO rfl rfl (aA rfl rfl) rfl ?_;refine gP ?_;apply gE;exact again (m - 1) (k + 1, G') _ _ (by omega) ⟨rfl, rfl, (by show _ = some (AVal.int .i64 (a + ((k + 1 : Nat) : Int))); rw [show a + ((k + 1 : Nat) : Int) = a + (k : Nat) + 1 by omega]; rfl), trivial⟩ ⟨by dsimp only; omega, y6, own_next hG' hG hx1, fun q => (hG' _ q).elim hnG fun q => by omega, f0, j6⟩
  ·cases q;refine ⟨_, rfl, ?_⟩;clear f0 e0;refine gP ?_;apply gE;refine gC (b := true) rfl ?_;exact gV (ret_end (aResult_of Tryz.func124 rfl rfl) ⟨rfl, x1.trans hG x6, G', own_next hG' hG hx1, .inr ⟨k, hk, e6⟩⟩)
 ·have hkn : k = n := by omega
  subst hkn;iterate 2 apply gS
  refine gR rfl ?_;refine gP ?_;refine gO rfl rfl (fa71_0 rfl) rfl ?_;refine gO rfl rfl (fa24_1 rfl) rfl ?_;refine gO rfl rfl (ld3 rfl f0 rfl) rfl ?_;refine gO rfl rfl (kMF rfl rfl) rfl ?_;apply gE;refine gC (b := false) rfl ?_;refine gD ?_;exact Go.endL (FLeft.ret (v := .tuple []) (aResult_of Tryz.func124 rfl rfl) ⟨rfl, x1, G, hG, .inl j1⟩)
theorem back137_ok {s : AVal} (hs : scalars [s] = true ∧ s.cells = [s]) {h : AH} : Runs Tryz.prog 137 [s] h (fun en h' => ∃ bb, en = .ret (.func (.func 141) [] [.ptr bb 0]) ∧ Ext h h' ∧ h.next ≤ bb ∧ Has h' bb (.cells .plain [s] 72)) := by
 obtain ⟨hs1, hs2⟩ := hs
 have e0 : Ext h h := Ext.refl _
 refine Runs.intro aFunc137 rfl rfl rfl rfl fun rest => ?_;apply gS;refine gR rfl ?_;refine GoR.box rfl rfl rfl rfl rfl rfl fun h0 x0 f0 => ?_;replace e0 := e0.trans x0;refine gP ?_;apply gE;apply gS;refine gR rfl ?_;iterate 2 refine gP ?_
 apply gE;exact gV (ret_end (aResult_of Tryz.func137 rfl rfl) ⟨_, rfl, e0, Nat.le_refl _, by rw [hs2] at f0; exact f0⟩)
def backI (vs : List AVal) : List (List AVal) := (List.range vs.length).map fun k : Nat => [.int .i64 ((vs.length - 1 - k : Nat) : Int), (vs[vs.length - 1 - k]?).getD .nilslice]
theorem backI_len (vs : List AVal) : (backI vs).length = vs.length := by unfold backI; simp
theorem backI_at {vs : List AVal} {k i : Nat} (hk : k + i + 1 = vs.length) {v : AVal} (hv : vs[i]? = some v) : (backI vs)[k]? = some [.int .i64 (i : Int), v] := by
 unfold backI
 rw [List.getElem?_map, List.getElem?_range (by omega), Option.map_some, show vs.length - 1 - k = i by omega, hv]
 rfl
theorem back141_it {s : AVal} {vs : List AVal} (hn : vs.length ≤ 100) (bb : Nat) : IterN Tryz.prog 141 [] [.ptr bb 0] (backI vs) (fun h => Has h bb (.cells .plain [s] 72) ∧ SliceOf h 1 s (vs.map fun v => [v])) := by
 intro y base J E h F hyc hys hA hbase T j0
 show Runs Tryz.prog 141 [y, .ptr bb 0] h _
 rw [backI_len]
 have e0 : Ext h h := Ext.refl _
 obtain ⟨f0, S0⟩ := hA h (ExtF.of e0)
 have hl0 := S0.len
 rw [List.length_map] at hl0;refine Runs.intro aFunc141 rfl rfl rfl rfl fun rest => ?_;apply gS;refine gR rfl ?_;refine gO rfl rfl (ld72 rfl f0 rfl) rfl ?_;refine gO rfl rfl (aOp_lenSlice Tryz.underlying72 rfl hl0) rfl ?_;refine gO rfl rfl (aS rfl rfl) rfl ?_;refine gP ?_;apply gE;refine Go.block noJ_ok ?_;refine Go.loopKeep (fun a' : Nat × (Nat → Prop) => [(0, y), (1, .ptr bb 0), (3, .int .i64 ((vs.length : Int) - 1 - (a'.1 : Nat)))]) (fun m a' h' => m + a'.1 = vs.length ∧ ExtF F h h' ∧ (∀ b, a'.2 b → F b ∨ h.next ≤ b) ∧ J a'.1 h' a'.2) (n := vs.length) (0, F) ⟨rfl, rfl, (by show _ = some (AVal.int .i64 ((vs.length : Int) - 1 - ((0 : Nat) : Int))); rw [show (vs.length : Int) - 1 - ((0 : Nat) : Int) = (vs.length : Int) - 1 by omega]; rfl), trivial⟩ ⟨rfl, ExtF.of e0, fun b q => .inl q, j0⟩ ?_;clear e0 f0 S0;rintro m ⟨k, G⟩ h1 ⟨hm, x1, hG, j1⟩ again
 dsimp only at hm hG j1 ⊢
 have e0 : Ext h1 h1 := Ext.refl _
 obtain ⟨f0, S0⟩ := hA h1 x1
 have hx1 := x1.1
 by_cases hk : k < vs.length
 ·obtain ⟨i, hi⟩ : ∃ i : Nat, k + i + 1 = vs.length := ⟨vs.length - 1 - k, by omega⟩
  have hii : (vs.length : Int) - 1 - (k : Nat) = (i : Nat) := by omega
  obtain ⟨v, hv⟩ : ∃ v, vs[i]? = some v := ⟨vs[i]'(by omega), by simp⟩
  obtain ⟨ax, a1, a2, a3⟩ := T.take (backI_at hi hv) j1
  obtain ⟨bq, off, q1, q2⟩ := S0.at (i := i) (l := [v]) (by rw [List.getElem?_map, hv]; rfl)
  rw [List.length_map] at q1;rw [hii];iterate 2 apply gS
  refine gR rfl ?_;refine gP ?_;refine gO rfl rfl (kNT rfl rfl) rfl ?_;apply gE;refine gC (b := true) rfl ?_;refine gD ?_;apply gS;refine Go.block noJ_ok ?_;apply gS;refine gR rfl ?_;iterate 2 refine gP ?_
  refine gO rfl rfl (ld72 rfl f0 rfl) rfl ?_;refine gP ?_;refine gO rfl rfl (aOp_indexAddr (i := i) Tryz.underlying72 sz138 rfl q1 rfl (Nat.ble_eq_true_of_le (by omega))) rfl ?_;refine gO rfl rfl ((aOp_loadE1 (k := 0) ag138 rfl q2 rfl)) rfl ?_;refine GoR.does rfl rfl (aOp_callY rfl rfl a1) a2 a3 ?_ (by rintro _ _ ⟨_, _, _, ⟨q, _⟩ | ⟨q, _⟩⟩ <;> cases q);rintro v h6 ⟨x6, G', hG', ⟨q, j6⟩ | ⟨q, e6⟩⟩
  ·cases q;refine ⟨_, rfl, ?_⟩
   have y6 := x1.trans hG x6
   clear f0 S0 e0 q2;refine gP ?_;apply gE;refine gC (b := false) rfl ?_;refine gD ?_;refine Go.inBlock noJ_ok ?_;refine gR rfl ?_;refine gP ?_;refine gO rfl rfl (aS rfl rfl) rfl ?_;refine gP ?_;apply gE;exact again (m - 1) (k + 1, G') _ _ (by omega) ⟨rfl, rfl, (by show _ = some (AVal.int .i64 ((vs.length : Int) - 1 - ((k + 1 : Nat) : Int))); rw [show (vs.length : Int) - 1 - ((k + 1 : Nat) : Int) = (i : Nat) - 1 by omega]; rfl), trivial⟩ ⟨by dsimp only; omega, y6, own_next hG' hG hx1, j6⟩
  ·cases q;refine ⟨_, rfl, ?_⟩;clear f0 S0 e0 q2;refine gP ?_;apply gE;refine gC (b := true) rfl ?_;exact gV (ret_end (aResult_of Tryz.func141 rfl rfl) ⟨rfl, x1.trans hG x6, G', own_next hG' hG hx1, .inr ⟨k, hk, e6⟩⟩)
 ·have hkn : k = vs.length := by omega
  subst hkn;rw [show (vs.length : Int) - 1 - (vs.length : Nat) = -1 by omega];iterate 2 apply gS
  refine gR rfl ?_;refine gP ?_;refine gO rfl rfl (aOp_geq rfl rfl (r := false) rfl) rfl ?_;apply gE;refine gC (b := false) rfl ?_;refine gD ?_;exact Go.endL (FLeft.ret (v := .tuple []) (aResult_of Tryz.func141 rfl rfl) ⟨rfl, x1, G, hG, .inl j1⟩)
theorem fm_at {α : Type} {f : Nat → List α} {N m i : Nat} {x : α} (hm : m < N) (hx : (f m)[i]? = some x) : ((List.range N).flatMap f)[((List.range m).flatMap f).length + i]? = some x := by
 have h1 : List.range N = List.range m ++ (m :: (List.range (N - (m + 1))).map (· + (m + 1))) := by
  have : N = m + (1 + (N - (m + 1))) := by omega
  conv => lhs; rw [this, List.range_add, List.range_add]
  simp only [List.map_append, List.map_map]
  congr 1
  simp only [List.range_one, List.map_cons, List.map_nil, List.cons_append, List.nil_append, Nat.add_zero]
  congr 1
  refine List.map_congr_left fun k _ => ?_
  simp only [Function.comp_apply]
  omega
 have hi := (List.getElem?_eq_some_iff.1 hx).1
 rw [h1, List.flatMap_append, List.flatMap_cons, List.getElem?_append_right (by omega), Nat.add_sub_cancel_left, List.getElem?_append_left hi];exact hx
theorem fm_succ {α : Type} (f : Nat → List α) (m : Nat) : ((List.range (m + 1)).flatMap f).length = ((List.range m).flatMap f).length + (f m).length := by
 rw [List.range_succ, List.flatMap_append, List.length_append]
 simp
def szC (p : PV) (a b n : Nat) : List Int := (List.range n).map fun c : Nat => (p.ll + a) * (p.wl + b) * (p.hl + c)
def szB (p : PV) (a n : Nat) : List Int := (List.range n).flatMap fun b => szC p a b (p.hh - p.hl + 1).toNat
def szA (p : PV) (n : Nat) : List Int := (List.range n).flatMap fun a => szB p a (p.wh - p.wl + 1).toNat
theorem sizes_is (p : PV) : p.sizes = szA p (p.lh - p.ll + 1).toNat := by
 unfold PV.sizes upto szA szB szC
 simp only [List.flatMap_map, List.map_map]
 rfl
theorem szA_succ (p : PV) (n : Nat) : (szA p (n + 1)).length = (szA p n).length + (szB p n (p.wh - p.wl + 1).toNat).length := fm_succ _ _
theorem szB_succ (p : PV) (a n : Nat) : (szB p a (n + 1)).length = (szB p a n).length + (p.hh - p.hl + 1).toNat := by
 unfold szB
 rw [fm_succ]
 congr 1
 simp [szC]
theorem sizes_at {p : PV} {a b c A : Nat} (ha : a < A) (hb : b < (p.wh - p.wl + 1).toNat) (hc : c < (p.hh - p.hl + 1).toNat) : (szA p A)[(szA p a).length + ((szB p a b).length + c)]? = some ((p.ll + a) * (p.wl + b) * (p.hl + c)) := by
 refine fm_at ha ?_;refine fm_at hb ?_
 unfold szC
 rw [List.getElem?_map, List.getElem?_range hc]
 rfl
structure SizesA (p : PV) (bb : Nat) (h : AH) : Prop where
 f : Has h bb (.cells .plain p.cells 58)
theorem sizes122_ok {p : PV} {h : AH} : Runs Tryz.prog 122 [.agg p.cells] h (fun en h' => ∃ bb, en = .ret (.func (.func 138) [] [.ptr bb 0]) ∧ Ext h h' ∧ h.next ≤ bb ∧ SizesA p bb h') := by
 unfold PV.cells
 have e0 : Ext h h := Ext.refl _
 refine Runs.intro aFunc122 rfl rfl rfl rfl fun rest => ?_;apply gS;refine gR rfl ?_;refine GoR.box rfl rfl rfl rfl rfl rfl fun h0 x0 f0 => ?_;replace e0 := e0.trans x0;refine gP ?_;apply gE;apply gS;refine gR rfl ?_;iterate 2 refine gP ?_
 apply gE;exact gV (ret_end (aResult_of Tryz.func122 rfl rfl) ⟨_, rfl, e0, Nat.le_refl _, ⟨f0⟩⟩)
theorem sizes138_it {p : PV} (hp : p.Ok) (bb : Nat) : IterN Tryz.prog 138 [] [.ptr bb 0] (intI p.sizes) (SizesA p bb) := by
 intro y base J E h F hyc hys hA hbase T j0
 show Runs Tryz.prog 138 [y, .ptr bb 0] h _
 rw [intI_len];rw [sizes_is] at *
 obtain ⟨o1, o2, o3⟩ := hp
 unfold FeetOk at o1 o2 o3
 obtain ⟨A, hAn⟩ : ∃ A, (p.lh - p.ll + 1).toNat = A := ⟨_, rfl⟩
 obtain ⟨B, hBn⟩ : ∃ B, (p.wh - p.wl + 1).toNat = B := ⟨_, rfl⟩
 obtain ⟨C, hCn⟩ : ∃ C, (p.hh - p.hl + 1).toNat = C := ⟨_, rfl⟩
 have hat : ∀ {a b c : Nat}, a < A → b < B → c < C → _ := fun ha hb hc => sizes_at (p := p) (A := A) ha (hBn ▸ hb) (hCn ▸ hc)
 have hsA : ∀ a, (szA p (a + 1)).length = (szA p a).length + (szB p a B).length := fun a => hBn ▸ szA_succ p a
 have hsB : ∀ a b, (szB p a (b + 1)).length = (szB p a b).length + C := fun a b => hCn ▸ szB_succ p a b
 rw [hAn] at T ⊢
 have hF : ∀ {h' : AH}, ExtF F h h' → Has h' bb (.cells .plain [.int .i64 p.ll, .int .i64 p.lh, .int .i64 p.wl, .int .i64 p.wh, .int .i64 p.hl, .int .i64 p.hh] 58) := fun x => (hA _ x).f
 have e0 : Ext h h := Ext.refl _
 have f0 := hF (ExtF.of e0)
 refine Runs.intro aFunc138 rfl rfl rfl rfl fun rest => ?_;apply gS;refine gR rfl ?_;refine gO rfl rfl (fa58_0 rfl) rfl ?_;refine gO rfl rfl (fa24_0 rfl) rfl ?_;refine gO rfl rfl (ld3 rfl f0 rfl) rfl ?_;refine gP ?_;apply gE;refine Go.block noJ_ok ?_;refine Go.loopKeep (fun a : Nat × (Nat → Prop) => [(0, y), (1, .ptr bb 0), (3, .int .i64 (p.ll + (a.1 : Nat)))]) (fun m a h' => m + a.1 = A ∧ ExtF F h h' ∧ (∀ b, a.2 b → F b ∨ h.next ≤ b) ∧ J (szA p a.1).length h' a.2) (n := A) (0, F) ⟨rfl, rfl, (by simp; rfl), trivial⟩ ⟨rfl, ExtF.of e0, fun b q => .inl q, T.ext j0 e0⟩ ?_;clear e0 f0;rintro m ⟨a, G⟩ h1 ⟨hm, x1, hG, j1⟩ again
 dsimp only at hm hG j1 ⊢
 have e0 : Ext h1 h1 := Ext.refl _
 have f0 := hF x1
 by_cases ha : a < A
 ·iterate 2 apply gS
  refine gR rfl ?_;refine gP ?_;refine gO rfl rfl (fa58_0 rfl) rfl ?_;refine gO rfl rfl (fa24_1 rfl) rfl ?_;refine gO rfl rfl (ld3 rfl f0 rfl) rfl ?_;refine gO rfl rfl (kMT rfl rfl) rfl ?_;apply gE;refine gC (b := true) rfl ?_;refine gD ?_;apply gS;refine Go.block noJ_ok ?_;apply gS;refine gR rfl ?_;refine gO rfl rfl (fa58_1 rfl) rfl ?_;refine gO rfl rfl (fa24_0 rfl) rfl ?_;refine gO rfl rfl (ld3 rfl f0 rfl) rfl ?_;refine gP ?_;apply gE;refine Go.block noJ_ok ?_;refine Go.loopKeep (fun b : Nat × (Nat → Prop) => [(0, y), (1, .ptr bb 0), (3, .int .i64 (p.ll + (a : Nat))), (4, .int .i64 (p.wl + (b.1 : Nat)))]) (fun m b h' => m + b.1 = B ∧ ExtF F h h' ∧ (∀ c, b.2 c → F c ∨ h.next ≤ c) ∧ J ((szA p a).length + (szB p a b.1).length) h' b.2) (n := B) (0, G) ⟨rfl, rfl, rfl, (by simp; rfl), trivial⟩ ⟨rfl, x1, hG, j1⟩ ?_;clear e0 f0 j1 x1 hG;rintro m2 ⟨b, G⟩ h2 ⟨hm2, x1, hG, j1⟩ again2
  dsimp only at hm2 hG j1 ⊢
  have e0 : Ext h2 h2 := Ext.refl _
  have f0 := hF x1
  by_cases hb' : b < B
  ·iterate 2 apply gS
   refine gR rfl ?_;refine gP ?_;refine gO rfl rfl (fa58_1 rfl) rfl ?_;refine gO rfl rfl (fa24_1 rfl) rfl ?_;refine gO rfl rfl (ld3 rfl f0 rfl) rfl ?_;refine gO rfl rfl (kMT rfl rfl) rfl ?_;apply gE;refine gC (b := true) rfl ?_;refine gD ?_;apply gS;refine Go.block noJ_ok ?_;apply gS;refine gR rfl ?_;refine gO rfl rfl (fa58_2 rfl) rfl ?_;refine gO rfl rfl (fa24_0 rfl) rfl ?_;refine gO rfl rfl (ld3 rfl f0 rfl) rfl ?_;refine gP ?_;apply gE;refine Go.block noJ_ok ?_;refine Go.loopKeep (fun c : Nat × (Nat → Prop) => [(0, y), (1, .ptr bb 0), (3, .int .i64 (p.ll + (a : Nat))), (4, .int .i64 (p.wl + (b : Nat))), (5, .int .i64 (p.hl + (c.1 : Nat)))]) (fun m c h' => m + c.1 = C ∧ ExtF F h h' ∧ (∀ b, c.2 b → F b ∨ h.next ≤ b) ∧ J ((szA p a).length + ((szB p a b).length + c.1)) h' c.2) (n := C) (0, G) ⟨rfl, rfl, rfl, rfl, (by simp; rfl), trivial⟩ ⟨rfl, x1, hG, j1⟩ ?_;clear e0 f0 j1 x1 hG;rintro m3 ⟨c, G⟩ h3 ⟨hm3, x1, hG, j1⟩ again3
   dsimp only at hm3 hG j1 ⊢
   have e0 : Ext h3 h3 := Ext.refl _
   have hx1 := x1.1
   have f0 := hF x1
   by_cases hc : c < C
   ·have hit := hat ha hb' hc
    have hlt := (List.getElem?_eq_some_iff.1 hit).1
    obtain ⟨l, hl⟩ : ∃ l : Int, p.ll + (a : Nat) = l := ⟨_, rfl⟩
    obtain ⟨w, hw⟩ : ∃ l : Int, p.wl + (b : Nat) = l := ⟨_, rfl⟩
    obtain ⟨z, hz⟩ : ∃ l : Int, p.hl + (c : Nat) = l := ⟨_, rfl⟩
    rw [hl, hw, hz] at hit ⊢
    have hpr := fun h bq (f : Has h bq (.cells .plain [.int .i64 l, .int .i64 w, .int .i64 z] 3)) => product3_ok (a := l) (c := w) (d := z) (by omega) (by omega) (by omega) f
    iterate 2 apply gS
    refine gR rfl ?_;refine gP ?_;refine gO rfl rfl (fa58_2 rfl) rfl ?_;refine gO rfl rfl (fa24_1 rfl) rfl ?_;refine gO rfl rfl (ld3 rfl f0 rfl) rfl ?_;refine gO rfl rfl (kMT rfl rfl) rfl ?_;apply gE;refine gC (b := true) rfl ?_;refine gD ?_;apply gS;refine Go.block noJ_ok ?_;apply gS;refine gR rfl ?_;iterate 4 refine gP ?_
    refine GoR.buildSl rfl rfl (ps := [(0, .int .i64 l), (1, .int .i64 w), (2, .int .i64 z)]) (cs := [.int .i64 l, .int .i64 w, .int .i64 z]) Tryz.underlying44 rfl sz3 zt3 rfl rfl rfl rfl fun h4 x4 f4 => ?_;have := e0.1;have := f0.1;replace f0 := f0.ext x4;replace e0 := e0.trans x4;have := f4.1;refine GoR.call rfl rfl (aCF aFunc128 rfl) (hpr _ _ (by assumption)) ?_ np;rintro v5 h5 ⟨q, x5⟩;cases q;refine ⟨_, rfl, ?_⟩;replace e0 := e0.trans x5
    obtain ⟨ax, a1, a2, a3⟩ := T.take (intI_at hit) (T.ext j1 e0)
    have hx5 := e0.1
    refine GoR.does rfl rfl (aOp_callY rfl rfl a1) a2 a3 ?_ (by rintro _ _ ⟨_, _, _, ⟨q, _⟩ | ⟨q, _⟩⟩ <;> cases q);rintro v h6 ⟨x6, G', hG', ⟨q, j6⟩ | ⟨q, e6⟩⟩
    ·cases q;refine ⟨_, rfl, ?_⟩
     have x9 := (x1.ext e0).trans hG x6
     clear f0 e0;refine gP ?_;apply gE;refine gC (b := false) rfl ?_;refine gD ?_;refine Go.inBlock noJ_ok ?_;refine gR rfl ?_;refine gP ?_;refine gO rfl rfl (aA rfl rfl) rfl ?_;refine gP ?_;apply gE;exact again3 (m3 - 1) (c + 1, G') _ _ (by omega) ⟨rfl, rfl, (by rw [hl]; rfl), (by rw [hw]; rfl), (by show _ = some (AVal.int .i64 (p.hl + ((c + 1 : Nat) : Int))); rw [show p.hl + ((c + 1 : Nat) : Int) = z + 1 by omega]; rfl), trivial⟩ ⟨by dsimp only; omega, x9, own_next hG' hG (by omega), j6⟩
    ·cases q;refine ⟨_, rfl, ?_⟩
     have x9 := (x1.ext e0).trans hG x6
     clear f0 e0;refine gP ?_;apply gE;refine gC (b := true) rfl ?_;exact gV (ret_end (aResult_of Tryz.func138 rfl rfl) ⟨rfl, x9, G', own_next hG' hG (by omega), .inr ⟨_, hlt, e6⟩⟩)
   ·iterate 2 apply gS
    refine gR rfl ?_;refine gP ?_;refine gO rfl rfl (fa58_2 rfl) rfl ?_;refine gO rfl rfl (fa24_1 rfl) rfl ?_;refine gO rfl rfl (ld3 rfl f0 rfl) rfl ?_;refine gO rfl rfl (kMF rfl rfl) rfl ?_;apply gE;refine gC (b := false) rfl ?_;refine gD ?_;refine Go.inBlock noJ_ok ?_;refine gR rfl ?_;refine gP ?_;refine gO rfl rfl (aA rfl rfl) rfl ?_;refine gP ?_;apply gE
    have hcn : c = C := by omega
    exact again2 (m2 - 1) (b + 1, G) _ _ (by omega) ⟨rfl, rfl, rfl, (by simp [Int.add_assoc]; rfl), trivial⟩ ⟨by dsimp only; omega, x1, hG, by rw [hsB, ← hcn]; exact j1⟩
  ·iterate 2 apply gS
   refine gR rfl ?_;refine gP ?_;refine gO rfl rfl (fa58_1 rfl) rfl ?_;refine gO rfl rfl (fa24_1 rfl) rfl ?_;refine gO rfl rfl (ld3 rfl f0 rfl) rfl ?_;refine gO rfl rfl (kMF rfl rfl) rfl ?_;apply gE;refine gC (b := false) rfl ?_;refine gD ?_;refine Go.inBlock noJ_ok ?_;refine gR rfl ?_;refine gP ?_;refine gO rfl rfl (aA rfl rfl) rfl ?_;refine gP ?_;apply gE
   have hbn : b = B := by omega
   exact again (m - 1) (a + 1, G) _ _ (by omega) ⟨rfl, rfl, (by simp [Int.add_assoc]; rfl), trivial⟩ ⟨by dsimp only; omega, x1, hG, by rw [hsA, ← hbn]; exact j1⟩
 ·have ha' : a = A := by omega
  rw [ha'] at j1;iterate 2 apply gS
  refine gR rfl ?_;refine gP ?_;refine gO rfl rfl (fa58_0 rfl) rfl ?_;refine gO rfl rfl (fa24_1 rfl) rfl ?_;refine gO rfl rfl (ld3 rfl f0 rfl) rfl ?_;refine gO rfl rfl (kMF rfl rfl) rfl ?_;apply gE;refine gC (b := false) rfl ?_;refine gD ?_;exact Go.endL (FLeft.ret (v := .tuple []) (aResult_of Tryz.func138 rfl rfl) ⟨rfl, x1, G, hG, .inl j1⟩)
end Go.Proofs.YtobhkdgcciolmaaGreat

namespace Go.Proofs.YtobhkdgcciolmaaGreat
open Go Go.AbsE
set_option linter.unusedSimpArgs false
set_option maxRecDepth 100000
set_option maxHeartbeats 0
set_option linter.unusedVariables false
def cellsG (g : Nat → Int × Int) : List AVal := [.int .i64 (g 0).1, .int .i64 (g 0).2, .int .i64 (g 1).1, .int .i64 (g 1).2, .int .i64 (g 2).1, .int .i64 (g 2).2, .int .i64 (g 3).1, .int .i64 (g 3).2]
def updG (g : Nat → Int × Int) (i : Nat) (v : Int × Int) : Nat → Int × Int := fun j => if j = i then v else g j
theorem cellsG_put {g : Nat → Int × Int} {i : Nat} (hi : i < 4) (v : Int × Int) : splice (cellsG g) (0 + i * 2) (AVal.agg (spC v)).cells = some (cellsG (updG g i v)) := by
 match i, hi with
 | 0, _ => rfl
 | 1, _ => rfl
 | 2, _ => rfl
 | 3, _ => rfl
theorem cellsG_at (g : Nat → Int × Int) {i : Nat} (hi : i < 4) : slice? (cellsG g) (0 + i * 2) 2 = some (spC (g i)) := by
 match i, hi with
 | 0, _ => rfl
 | 1, _ => rfl
 | 2, _ => rfl
 | 3, _ => rfl
theorem cellsG_eq {g g' : Nat → Int × Int} (h : ∀ i, i < 4 → g i = g' i) : cellsG g = cellsG g' := by
 unfold cellsG
 rw [h 0 (by decide), h 1 (by decide), h 2 (by decide), h 3 (by decide)]
def ClampV.canG (C : ClampV) : Nat → Int × Int := fun i => if i < C.ps.length then C.canI i else (0, 0)
def ClampV.befG (C : ClampV) (j : Nat) : Nat → Int × Int := fun i => if i < C.ps.length then backE i (C.es.drop (C.es.length - j)) (0, 5000) else (0, 0)
def startG (n : Nat) : Nat → Int × Int := fun i => if i < n then (0, 5000) else (0, 0)
theorem back_small {n : Nat} {e : EV} (he : e.Ok n) {s : Int × Int} {m : Int} (h1 : 0 ≤ s.1 ∧ s.1 ≤ m) (h2 : 0 ≤ s.2 ∧ s.2 ≤ m) (hm : 5000 ≤ m) : (0 ≤ (e.back s).1 ∧ (e.back s).1 ≤ m + 5000) ∧ (0 ≤ (e.back s).2 ∧ (e.back s).2 ≤ m + 5000) := by
 obtain ⟨_, o2, _⟩ := he
 unfold EV.back plusV meetV
 split
 ·split
  ·omega
  ·dsimp only; omega
 ·dsimp only; omega
theorem backE_small {n i : Nat} : ∀ {es : List EV}, (∀ e, e ∈ es → e.Ok n) → (0 ≤ (backE i es (0, 5000)).1 ∧ (backE i es (0, 5000)).1 ≤ 5000 + 5000 * (es.length : Int)) ∧ (0 ≤ (backE i es (0, 5000)).2 ∧ (backE i es (0, 5000)).2 ≤ 5000 + 5000 * (es.length : Int))
 | [], _ => by simp [backE]
 | e :: es, h => by
  have ih := backE_small (i := i) (es := es) fun e he => h e (List.mem_cons_of_mem _ he)
  have hb : backE i (e :: es) (0, 5000) = (if e.cl = (i : Int) then e.back (backE i es (0, 5000)) else backE i es (0, 5000)) := rfl
  rw [hb, List.length_cons]
  have := back_small (h e List.mem_cons_self) ih.1 ih.2 (by omega)
  split <;> omega
theorem befG_small {C : ClampV} (O : C.Ok) (j i : Nat) : Small (C.befG j i) := by
 unfold ClampV.befG
 split
 ·have := backE_small (i := i) (n := C.ps.length) (es := C.es.drop (C.es.length - j)) fun e he => O.e e (List.mem_of_mem_drop he)
  have hl : (C.es.drop (C.es.length - j)).length ≤ 6 := by rw [List.length_drop]; have := O.ne; omega
  unfold Small
  omega
 ·unfold Small; dsimp only; omega
theorem drop_cons {α : Type} {l : List α} {i : Nat} {x : α} (h : l[i]? = some x) : l.drop i = x :: l.drop (i + 1) := by
 have hi := (List.getElem?_eq_some_iff.1 h).1
 have hv := (List.getElem?_eq_some_iff.1 h).2
 rw [List.drop_eq_getElem_cons hi, hv]
theorem befG_succ {C : ClampV} (O : C.Ok) {j i c : Nat} {e : EV} (hi : j + i + 1 = C.es.length) (he : C.es[i]? = some e) (hc : e.cl = (c : Int)) : ∀ k, updG (C.befG j) c (e.back (C.befG j c)) k = C.befG (j + 1) k := by
 intro k
 have hcn : c < C.ps.length := by have := (O.e e (List.mem_of_getElem? he)).1; omega
 have h1 : C.es.length - j = i + 1 := by omega
 have h2 : C.es.length - (j + 1) = i := by omega
 unfold updG ClampV.befG
 rw [h1, h2, if_pos hcn, drop_cons he]
 have hb : ∀ k, backE k (e :: C.es.drop (i + 1)) (0, 5000) = (if e.cl = (k : Int) then e.back (backE k (C.es.drop (i + 1)) (0, 5000)) else backE k (C.es.drop (i + 1)) (0, 5000)) := fun k => rfl
 by_cases q : k = c
 ·subst q;rw [if_pos rfl, if_pos hcn, hb, if_pos hc]
 ·have hck : ¬ e.cl = (k : Int) := fun z => q (by omega)
  simp only [if_neg q, hb, if_neg hck]
theorem startG_put {n j : Nat} (hj : j < n) : ∀ k, updG (startG j) j (0, 5000) k = startG (j + 1) k := by
 intro k
 unfold updG startG
 by_cases q : k = j
 ·subst q; rw [if_pos rfl, if_pos (by omega)]
 ·rw [if_neg q]
  by_cases z : k < j
  ·rw [if_pos z, if_pos (by omega)]
  ·rw [if_neg z, if_neg (by omega)]
theorem before_ok {C : ClampV} (O : C.Ok) {gp ge : AVal} {h : AH} (A : YardAt h C gp ge) : Runs Tryz.prog 119 [.agg (C.cells gp ge)] h (fun en h' => en = .ret (.agg (cellsG C.canG)) ∧ Ext h h') := by
 have hnp := O.np
 have hne := O.ne
 have hl1 := A.psl.len
 have hl2 := A.esl.len
 rw [List.length_map] at hl1 hl2
 unfold ClampV.cells
 have e0 : Ext h h := Ext.refl _
 refine Runs.intro aFunc119 rfl rfl rfl rfl fun rest => ?_;apply gS;refine gR rfl ?_;refine GoR.box rfl rfl rfl rfl rfl rfl fun h0 x0 f0 => ?_;have := e0.1;replace e0 := e0.trans x0;have := f0.1;refine GoR.alloc rfl rfl rfl zt116 rfl rfl fun h1 x1 f1 => ?_;have := e0.1;have := f0.1;replace f0 := f0.ext x1;replace e0 := e0.trans x1;have := f1.1;apply gE;iterate 2 apply gS
 refine gR rfl ?_;refine gO rfl rfl (fa74_0 rfl) rfl ?_;refine gO rfl rfl (ld22 rfl f0 rfl) rfl ?_;refine gO rfl rfl (aOp_lenSlice Tryz.underlying22 rfl hl1) rfl ?_;refine gP ?_;apply gE;refine Go.block noJ_ok ?_
 have hb1 := f1.1
 refine Go.loopKeep (fun i : Nat => [(1, .ptr h.next 0), (2, .ptr h0.next 0), (9, .int .i64 C.ps.length), (10, .int .i64 (i : Nat))])
  (fun n i h' => n + i = C.ps.length ∧ Ext h h' ∧ Has h' h.next (.cells .plain [gp, .int .i64 C.pl, .int .i64 C.ph, ge] 74) ∧ Has h' h0.next (.cells .plain (cellsG (startG i)) 116)) (n := C.ps.length) 0 ⟨rfl, rfl, rfl, rfl, trivial⟩ ⟨rfl, e0, f0, f1⟩ ?_
 clear e0 f0 f1;rintro n i hc ⟨hn, e0, f0, f1⟩ again
 by_cases hi : i < C.ps.length
 ·have hsp := cellsG_put (g := startG i) (i := i) (by omega) (0, 5000)
  rw [cellsG_eq (fun k _ => startG_put hi k)] at hsp
  unfold spC at hsp
  dsimp only at hsp
  apply gS;refine gR rfl ?_;refine gO rfl rfl (kLT rfl rfl) rfl ?_;apply gE;apply gS;refine gC (b := true) rfl ?_;refine gD ?_;apply gS;refine Go.block noJ_ok ?_;apply gS;refine gR rfl ?_;iterate 2 refine gP ?_
  apply gE;refine gR rfl ?_;refine gP ?_;refine GoR.call rfl rfl (aCF aFunc127 rfl) (between_ok) ?_ np;rintro v2 h2 ⟨q, x2⟩;cases q;refine ⟨_, rfl, ?_⟩;replace f0 := f0.ext x2;replace f1 := f1.ext x2;replace e0 := e0.trans x2;refine gO rfl rfl (aOp_indexAddrArr (i := i) Tryz.underlying116 sz71 rfl rfl (Nat.ble_eq_true_of_le (by omega))) rfl ?_;refine GoR.store rfl rfl rfl rfl rfl rfl f1 rfl sz71 rfl rfl hsp fun h3 u3 => ?_;replace f0 := f0.upd u3 (by omega);replace f1 := u3.has f1;replace e0 := e0.upd u3 (by omega);apply gE;refine Go.inBlock noJ_ok ?_;refine gR rfl ?_;refine gO rfl rfl (aA rfl rfl) rfl ?_;refine gP ?_;apply gE;exact again (n - 1) (i + 1) _ _ (by omega) ⟨rfl, rfl, rfl, rfl, trivial⟩ ⟨by omega, e0, f0, f1⟩
 ·have hin : i = C.ps.length := by omega
  subst hin
  have hsc := A.esl.scal
  have hbc := f1.1
  apply gS;refine gR rfl ?_;refine gO rfl rfl (kLF rfl rfl) rfl ?_;apply gE;apply gS;refine gC (b := false) rfl ?_;refine gD ?_;iterate 2 apply gS
  refine gR rfl ?_;refine gO rfl rfl (fa74_2 rfl) rfl ?_;refine gO rfl rfl (ld72 rfl f0 rfl) rfl ?_;refine GoR.call rfl rfl (aCF aFunc137 rfl) (back137_ok hsc) ?_ (by rintro _ _ ⟨bb, q, _, hbb, HB⟩; cases q);rintro v2 h2 ⟨bb, q, x2, hbb, HB⟩;cases q;refine ⟨_, rfl, ?_⟩;have := e0.1;replace f1 := f1.ext x2;replace e0 := e0.trans x2;apply gE;refine Go.block noJ_ok ?_
  have hbs := f1.1
  have eF : ∀ {hh}, ExtF (fun b => b = h0.next) _ hh → Ext h hh := fun x => x.low e0 fun b q => by omega
  refine Go.rangeN (items := backI (C.es.map evC)) (A := fun h => Has h bb (.cells .plain [ge] 72) ∧ SliceOf h 1 ge ((C.es.map evC).map fun v => [v])) (fun b => b = h0.next)
   (fun j hh G => Has hh h0.next (.cells .plain (cellsG (C.befG j)) 116) ∧ ∀ b, G b ↔ b = h0.next)
   (fun _ _ _ => False) rfl aFunc141 Tryz.func119 (back141_it (s := ge) (by rw [List.length_map]; omega) bb) ?_ ⟨?_, fun b => Iff.rfl⟩ ?_ ?_ ?_ ?_ ?_ ?_ ?_
  ·intro h' x
   refine ⟨HB.extF x (by omega), ?_⟩;rw [List.map_map];exact (A.ext (eF x)).esl
  ·rw [cellsG_eq (g := C.befG 0) (g' := startG C.ps.length) (fun k _ => by unfold ClampV.befG startG; rw [Nat.sub_zero, List.drop_length]; rfl)];exact f1
  ·rintro k hh G b ⟨g1, hG⟩ q
   rw [(hG b).1 q]
   exact g1.1
  ·rintro c hh G b q;exact q.elim
  ·rintro k h4' h5' G ⟨g1, hG⟩ hn hk;exact ⟨g1.keep hn (hk _ g1.1 (.inr ((hG _).2 rfl))), hG⟩
  ·rintro c h4' h5' G q;exact q.elim
  ·rintro j item hj
   have hjl := (List.getElem?_eq_some_iff.1 hj).1
   rw [backI_len, List.length_map] at hjl
   obtain ⟨i, hi⟩ : ∃ i : Nat, j + i + 1 = C.es.length := ⟨C.es.length - 1 - j, by omega⟩
   obtain ⟨e, he⟩ : ∃ e, C.es[i]? = some e := ⟨C.es[i]'(by omega), by simp⟩
   have hit := backI_at (vs := C.es.map evC) (k := j) (i := i) (by rw [List.length_map]; exact hi) (v := evC e) (by rw [List.getElem?_map, he]; rfl)
   rw [hj] at hit
   cases Option.some.inj hit
   have heO := O.e e (List.mem_of_getElem? he)
   obtain ⟨c, hc⟩ : ∃ c : Nat, e.cl = (c : Int) := ⟨e.cl.toNat, by have := heO.1; omega⟩
   have hcn : c < 4 := by have := heO.1; omega
   refine ⟨_, rfl, ?_⟩;rintro hh G lb r0 fr rest' Q' ⟨g1, hG⟩ x1 hsub hnl hlb fl hready contT contF
   have hx1 := x1.1
   have hb1' := HB.1
   have hfl := fl.1
   have hl0 : h0.next ≠ lb := by omega
   have y9 : ExtF (fun b => G b ∨ b = lb) hh hh := ExtF.of (Ext.refl _)
   clear e0 f0 f1 contF;refine gR rfl ?_;refine gP ?_;apply gE;refine Go.beginRound fl hready fun h41 u41 => ?_;replace g1 := g1.upd u41 hl0;replace fl := u41.has fl;replace y9 := y9.upd u41 (.inl (.inr rfl))
   obtain ⟨f1, hf1⟩ : ∃ f1, f1 = g1 := ⟨_, rfl⟩
   clear hf1 g1
   have hk1 := f1.1
   have hbk := back_at heO (befG_small O j c)
   have hwh := whose_at e
   rw [hc] at hwh
   have hat := cellsG_at (C.befG j) hcn
   have hput := cellsG_put (g := C.befG j) hcn (e.back (C.befG j c))
   rw [cellsG_eq (fun k _ => befG_succ O hi he hc k)] at hput
   have hnil : nilCheckOk Tryz.prog (.func (.method "bogworks/clamp.back") [evC e] []) = true := by
    unfold evC evA
    split <;> kernel_rfl
   obtain ⟨ev, hev⟩ : ∃ ev, evC e = ev := ⟨_, rfl⟩
   have hsv := (evC_scal e).2.2
   rw [hev] at hbk hwh hsv hnil ⊢
   have e0 : Ext h41 h41 := Ext.refl _
   obtain ⟨wf, wargs, w1, w2⟩ := hwh h41
   refine Go.block noJ_ok ?_;apply gS;refine gR rfl ?_;refine gP ?_;refine GoR.call rfl rfl (aOp_invoke rfl rfl (w1)) (w2) ?_ np;rintro _ h42 ⟨q, x42⟩;cases q;refine ⟨_, rfl, ?_⟩;replace fl := fl.ext x42;replace f1 := f1.ext x42;replace y9 := y9.ext x42;refine gP ?_;apply gE;refine Go.drawnE plan119_0 ?_;iterate 3 refine gQ rfl rfl rfl rfl ?_
   refine gQ rfl rfl (aOp_indexAddrArr (i := c) Tryz.underlying116 sz71 rfl rfl (Nat.ble_eq_true_of_le (by omega))) rfl ?_;refine gQ rfl rfl (ld71 rfl f1 hat) rfl ?_;refine gQ rfl rfl rfl rfl ?_;refine gQ rfl rfl (aOp_nilCheck rfl hnil) rfl ?_;refine gQ rfl rfl rfl rfl ?_
   obtain ⟨bf, bargs, b1, b2⟩ := hbk h42
   unfold spC at b1 b2 hput
   refine GoE.call rfl rfl (aOp_invoke rfl rfl (b1)) (b2) (dD 254 7 (dD 254 6 (dD 254 5 (dD 254 4 (dD 254 3 (dD 254 2 (dD 254 1 (dK 254 0 rfl)))))))) ?_ np;rintro v43 h43 ⟨q, x43⟩;cases q;replace fl := fl.ext x43;replace f1 := f1.ext x43;replace y9 := y9.ext x43;refine ⟨(rck (h2 := h43) rfl (rfl) recheck_nil), _, rfl, ?_⟩;refine gQ rfl rfl (aOp_indexAddrArr (i := c) Tryz.underlying116 sz71 rfl rfl (Nat.ble_eq_true_of_le (by omega))) rfl ?_;refine GoE.store rfl rfl rfl rfl (dD 1023 9 (dD 1023 0 rfl)) rfl rfl f1 rfl sz71 rfl rfl hput fun h44 u44 => ?_;replace fl := fl.upd u44 (by omega);replace f1 := u44.has f1;clear e0;refine ⟨recheck_nil, ?_⟩;refine GoE.end rfl ?_;refine Go.inBlock noJ_ok ?_;exact contT _ _ G ⟨f1, hG⟩ (fun b q => .inl q) (y9.upd u44 (.inl (.inl ((hG _).2 rfl)))) fl
  ·rintro d h30 G x30 hGs hnd hd hdd ⟨g1, hG⟩
   have hx30 := x30.1
   have e30 := eF x30
   rw [backI_len, List.length_map, cellsG_eq (g := C.befG C.es.length) (g' := C.canG) (fun k _ => by unfold ClampV.befG ClampV.canG ClampV.canI; rw [Nat.sub_self, List.drop_zero])] at g1
   have hcs : slice? (cellsG C.canG) 0 8 = some (cellsG C.canG) := rfl
   clear e0 f0 f1
   obtain ⟨f1, hf1⟩ : ∃ f1, f1 = g1 := ⟨_, rfl⟩
   have hn1 := f1.1
   have hdn : d ≠ h0.next := fun q => by rw [q] at hd; omega
   clear hf1 g1
   have e0 := e30
   clear e30;refine Go.inBlock noJ_ok ?_;apply gS;refine gR rfl ?_;refine gO rfl rfl (ld116 rfl f1 hcs) rfl ?_;refine GoR.store rfl rfl rfl rfl rfl rfl f1 rfl sz116 rfl rfl rfl fun h31 u31 => ?_;replace hdd := hdd.upd u31 (by omega);replace f1 := u31.has f1;replace e0 := e0.upd u31 (by omega);apply gE;exact Go.retC hdd fun h9 u9 => ⟨aResult_of Tryz.func119 rfl (aResults_cell rfl (f1.upd u9 (fun q => hdn q.symm)) (inCells_agg ag116 sz116 hcs)), rfl, e0.upd u9 (by omega)⟩
  ·rintro c d h30 G x30 hGs hnd hd hdd q;exact q.elim
def padB (l : List Int) : List Int := l ++ List.replicate (4 - l.length) 0
def builtC (b : BT) : List AVal := i64s (padB b.1 ++ [b.2])
theorem padB_len {l : List Int} (h : l.length ≤ 4) : (padB l).length = 4 := by unfold padB; rw [List.length_append, List.length_replicate]; omega
theorem builtC_len {b : BT} (h : b.1.length ≤ 4) : (builtC b).length = 5 := by unfold builtC i64s; rw [List.length_map, List.length_append, padB_len h]; rfl
theorem ints_scal : ∀ l : List Int, scalars (i64s l) = true
 | [] => rfl
 | x :: l => ints_scal l
theorem builtC_scal (b : BT) : scalars (builtC b) = true := ints_scal _
theorem builtC_same (b : BT) : sameA (.agg (builtC b)) (.agg (builtC b)) = true := same_ints _
theorem padB_at {l : List Int} {i : Nat} (hi : i < 4) : (padB l)[i]? = some (l.getD i 0) ∨ 4 < l.length := by
 by_cases q : 4 < l.length
 ·exact .inr q
 ·left
  unfold padB
  by_cases z : i < l.length
  ·rw [List.getElem?_append_left z, List.getD_eq_getElem?_getD, List.getElem?_eq_getElem z]; rfl
  ·rw [List.getElem?_append_right (by omega), List.getElem?_replicate, if_pos (by omega), List.getD_eq_getElem?_getD, List.getElem?_eq_none (by omega)]; rfl
theorem builtC_at {b : BT} (h : b.1.length ≤ 4) {i : Nat} (hi : i < 4) : (builtC b)[i]? = some (.int .i64 (b.1.getD i 0)) := by
 have h1 := (padB_at (l := b.1) hi).resolve_right (by omega)
 unfold builtC i64s
 rw [List.getElem?_map, List.getElem?_append_left (by rw [padB_len h]; exact hi), h1]
 rfl
theorem builtC_pack {b : BT} (h : b.1.length ≤ 4) : (builtC b)[4]? = some (.int .i64 b.2) := by
 unfold builtC i64s
 rw [List.getElem?_map, List.getElem?_append_right (by rw [padB_len h]; exact Nat.le_refl _), padB_len h]
 rfl
theorem slice_all {l : List AVal} {n : Nat} (h : l.length = n) : slice? l 0 n = some l := by
 subst h
 unfold slice?
 simp
theorem first94_ok {b : BT} (hv4 : b.1.length ≤ 4) {i : Nat} (hi : i < 4) (hv1 : 0 ≤ b.1.getD i 0 ∧ b.1.getD i 0 ≤ 1000) (hv2 : 0 ≤ b.2 ∧ b.2 ≤ 1000) {h : AH} : Runs Tryz.prog 94 [.agg (builtC b), .int .i64 i] h (fun en h' => en = .ret (.int .i64 (firstV b i)) ∧ Ext h h') := by
 have k1 := builtC_at hv4 hi
 have k2 := builtC_pack hv4
 have k1' : (builtC b)[0 + 0 + i * 1]? = some (.int .i64 (b.1.getD i 0)) := by rw [show 0 + 0 + i * 1 = i by omega]; exact k1
 have k2' : (builtC b)[0 + 4]? = some (.int .i64 b.2) := k2
 unfold firstV
 obtain ⟨x, hx⟩ : ∃ x, b.1.getD i 0 = x := ⟨_, rfl⟩
 obtain ⟨k, hk⟩ : ∃ k, b.2 = k := ⟨_, rfl⟩
 rw [hx] at k1' hv1;rw [hk] at k2' hv2;rw [hx, hk]
 obtain ⟨cc, hcc⟩ : ∃ cc, builtC b = cc := ⟨_, rfl⟩
 rw [hcc] at k1' k2' ⊢
 have hpr := fun h bq (f : Has h bq (.cells .plain [.int .i64 x, .int .i64 k] 3)) => product2_ok hv1 hv2 f
 have e0 : Ext h h := Ext.refl _
 refine Runs.intro aFunc94 rfl rfl rfl rfl fun rest => ?_;apply gS;refine gR rfl ?_;refine GoR.box rfl rfl rfl rfl rfl rfl fun h0 x0 f0 => ?_;replace e0 := e0.trans x0;refine gP ?_;apply gE;apply gS;refine Go.drawnE plan94_0 ?_;refine gQ rfl rfl rfl rfl ?_;refine gQ rfl rfl (fa114_0 rfl) rfl ?_;refine gQ rfl rfl (aOp_indexAddrArr (i := i) Tryz.underlying112 sz3 rfl rfl (Nat.ble_eq_true_of_le (by omega))) rfl ?_;refine gQ rfl rfl (ld3 rfl f0 k1') rfl ?_;refine gQ rfl rfl (fa114_1 rfl) rfl ?_;refine gQ rfl rfl (ld3 rfl f0 k2') rfl ?_;refine GoE.buildSl rfl rfl (ps := [(0, .int .i64 x), (1, .int .i64 k)]) (cs := [.int .i64 x, .int .i64 k]) Tryz.underlying44 rfl sz3 zt3 rfl rfl rfl (dD 63 5 (dD 63 4 (dD 63 3 (dD 63 2 (dD 63 1 (dD 63 0 rfl)))))) rfl fun h1 x1 f1 => ?_;replace f0 := f0.ext x1;replace e0 := e0.trans x1;refine ⟨recheck_nil, ?_⟩;refine GoE.call rfl rfl (aCF aFunc128 rfl) (hpr _ _ (by assumption)) rfl ?_ np;rintro v2 h2 ⟨q, x2⟩;cases q;replace e0 := e0.trans x2;refine ⟨recheck_nil, _, rfl, ?_⟩;refine gQ rfl rfl rfl rfl ?_;refine GoE.end rfl ?_;exact gW Tryz.func94 rfl rfl ⟨rfl, e0⟩
def ClampV.aftG (C : ClampV) (b : BT) (j : Nat) : Nat → Int × Int := fun i => if i < C.ps.length then fwdE i (C.es.take j) (firstV b i, firstV b i) else (0, 0)
def oneG (b : BT) (n : Nat) : Nat → Int × Int := fun i => if i < n then (firstV b i, firstV b i) else (0, 0)
theorem oneG_put {b : BT} {j : Nat} : ∀ k, updG (oneG b j) j (firstV b j, firstV b j) k = oneG b (j + 1) k := by
 intro k
 unfold updG oneG
 by_cases q : k = j
 ·subst q; rw [if_pos rfl, if_pos (by omega)]
 ·rw [if_neg q]
  by_cases z : k < j
  ·rw [if_pos z, if_pos (by omega)]
  ·rw [if_neg z, if_neg (by omega)]
theorem fwdE_snoc (i : Nat) (es : List EV) (e : EV) (s : Int × Int) : fwdE i (es ++ [e]) s = (if e.cl = (i : Int) then e.fwd (fwdE i es s) else fwdE i es s) := by
 unfold fwdE
 rw [List.foldl_append]
 rfl
theorem aftG_succ {C : ClampV} {b : BT} {j c : Nat} {e : EV} (he : C.es[j]? = some e) (hcn : c < C.ps.length) (hc : e.cl = (c : Int)) : ∀ k, updG (C.aftG b j) c (e.fwd (C.aftG b j c)) k = C.aftG b (j + 1) k := by
 intro k
 unfold updG ClampV.aftG
 rw [if_pos hcn, List.take_add_one, he, Option.toList_some]
 simp only [fwdE_snoc]
 by_cases q : k = c
 ·subst q;rw [if_pos rfl, if_pos hcn, if_pos hc]
 ·have hck : ¬ e.cl = (k : Int) := fun z => q (by omega)
  simp only [if_neg q, if_neg hck]
theorem fwd_small {n : Nat} {e : EV} (he : e.Ok n) {s : Int × Int} {m : Int} (hv1 : 0 ≤ s.1 ∧ s.1 ≤ 5000) (hv2 : -m ≤ s.2 ∧ s.2 ≤ 5000) (hm : 0 ≤ m) : (0 ≤ (e.fwd s).1 ∧ (e.fwd s).1 ≤ 5000) ∧ (-(m + 5000) ≤ (e.fwd s).2 ∧ (e.fwd s).2 ≤ 5000) := by
 obtain ⟨_, o2, _⟩ := he
 unfold EV.fwd minusV meetV
 split <;> (dsimp only; omega)
theorem fwdE_small {n i : Nat} : ∀ {es : List EV}, (∀ e, e ∈ es → e.Ok n) → ∀ {s : Int × Int} {m : Int}, (0 ≤ s.1 ∧ s.1 ≤ 5000) → (-m ≤ s.2 ∧ s.2 ≤ 5000) → 0 ≤ m → (0 ≤ (fwdE i es s).1 ∧ (fwdE i es s).1 ≤ 5000) ∧ (-(m + 5000 * (es.length : Int)) ≤ (fwdE i es s).2 ∧ (fwdE i es s).2 ≤ 5000)
 | [], _, s, m, a, b, c => by refine ⟨a, ?_, b.2⟩; show -(m + 5000 * ((0 : Nat) : Int)) ≤ s.2; omega
 | e :: es, h, s, m, a, b, c => by
  have hb : fwdE i (e :: es) s = fwdE i es (if e.cl = (i : Int) then e.fwd s else s) := rfl
  rw [hb, List.length_cons]
  have k := fwd_small (h e List.mem_cons_self) a b c
  have hes := fun e he => h e (List.mem_cons_of_mem _ he)
  split
  ·have := fwdE_small (i := i) hes k.1 k.2 (by omega)
   omega
  ·have := fwdE_small (i := i) hes a b c
   omega
theorem aftG_small {C : ClampV} (O : C.Ok) {b : BT} (hb : ∀ i, i < C.ps.length → 0 ≤ firstV b i ∧ firstV b i ≤ 5000) (j i : Nat) : Small (C.aftG b j i) := by
 unfold ClampV.aftG
 split
 ·rename_i q
  have k := hb i q
  have := fwdE_small (i := i) (n := C.ps.length) (es := C.es.take j) (s := (firstV b i, firstV b i)) (m := 0) (fun e he => O.e e (List.mem_of_mem_take he)) k (by dsimp only; omega) (by omega)
  have hl : (C.es.take j).length ≤ 6 := by rw [List.length_take]; have := O.ne; omega
  unfold Small
  omega
 ·unfold Small; dsimp only; omega
structure BuildB (C : ClampV) (b : BT) : Prop where
 len : b.1.length ≤ 4
 fs : ∀ i, 0 ≤ b.1.getD i 0 ∧ b.1.getD i 0 ≤ 1000
 k : 0 ≤ b.2 ∧ b.2 ≤ 1000
 first : ∀ i, i < C.ps.length → 0 ≤ firstV b i ∧ firstV b i ≤ 5000
theorem after_ok {C : ClampV} (O : C.Ok) {b : BT} (B : BuildB C b) {gp ge : AVal} {h : AH} (A : YardAt h C gp ge) : Runs Tryz.prog 90 [.agg (C.cells gp ge), .agg (builtC b)] h (fun en h' => en = .ret (.agg (cellsG (C.aft b))) ∧ Ext h h') := by
 have hnp := O.np
 have hne := O.ne
 have hl1 := A.psl.len
 have hl2 := A.esl.len
 rw [List.length_map] at hl1 hl2
 have hbl := builtC_len B.len
 have hbs := builtC_same b
 have hfi := fun i hi h => first94_ok B.len (i := i) hi (B.fs i) B.k (h := h)
 obtain ⟨cb, hcb⟩ : ∃ cb, builtC b = cb := ⟨_, rfl⟩
 rw [hcb] at hbl hbs hfi ⊢
 have hsl := slice_all hbl
 unfold ClampV.cells
 have e0 : Ext h h := Ext.refl _
 refine Runs.intro aFunc90 rfl rfl rfl rfl fun rest => ?_;apply gS;refine gR rfl ?_;refine GoR.box rfl rfl rfl rfl rfl rfl fun h0 x0 f0 => ?_;have := e0.1;replace e0 := e0.trans x0;have := f0.1;refine GoR.box rfl rfl rfl rfl rfl rfl fun h1 x1 f1 => ?_;have := e0.1;have := f0.1;replace f0 := f0.ext x1;replace e0 := e0.trans x1;have := f1.1;refine GoR.alloc rfl rfl rfl zt116 rfl rfl fun h2 x2 f2 => ?_;have := e0.1;have := f1.1;have := f0.1;replace f1 := f1.ext x2;replace f0 := f0.ext x2;replace e0 := e0.trans x2;have := f2.1;apply gE;iterate 2 apply gS
 refine gR rfl ?_;refine gO rfl rfl (fa74_0 rfl) rfl ?_;refine gO rfl rfl (ld22 rfl f0 rfl) rfl ?_;refine gO rfl rfl (aOp_lenSlice Tryz.underlying22 rfl hl1) rfl ?_;refine gP ?_;apply gE;refine Go.block noJ_ok ?_
 refine Go.loopKeep (fun i : Nat => [(2, .ptr h.next 0), (3, .ptr h0.next 0), (4, .ptr h1.next 0), (11, .int .i64 C.ps.length), (12, .int .i64 (i : Nat))])
  (fun n i h' => n + i = C.ps.length ∧ Ext h h' ∧ Has h' h.next (.cells .plain [gp, .int .i64 C.pl, .int .i64 C.ph, ge] 74) ∧ Has h' h0.next (.cells .plain cb 114) ∧ Has h' h1.next (.cells .plain (cellsG (oneG b i)) 116)) (n := C.ps.length) 0 ⟨rfl, rfl, rfl, rfl, rfl, trivial⟩ ⟨rfl, e0, f0, f1, f2⟩ ?_
 clear e0 f0 f1 f2;rintro n i hc ⟨hn, e0, f0, f1, f2⟩ again
 by_cases hi : i < C.ps.length
 ·have hsp := cellsG_put (g := oneG b i) (i := i) (by omega) (firstV b i, firstV b i)
  rw [cellsG_eq (fun k _ => oneG_put k)] at hsp
  have hon := fun h => one_ok (n := firstV b i) (h := h)
  unfold spC at hsp hon
  dsimp only at hsp hon
  apply gS;refine gR rfl ?_;refine gO rfl rfl (kLT rfl rfl) rfl ?_;apply gE;apply gS;refine gC (b := true) rfl ?_;refine gD ?_;apply gS;refine Go.block noJ_ok ?_;apply gS;refine gR rfl ?_;iterate 2 refine gP ?_
  apply gE;refine gR rfl ?_;refine gP ?_;refine gO rfl rfl (ld114 rfl f1 hsl) rfl ?_;refine gP ?_;refine GoR.call rfl rfl (aCF aFunc94 rfl) (hfi i (by omega) _) ?_ np;rintro v3 h3 ⟨q, x3⟩;cases q;refine ⟨_, rfl, ?_⟩;replace f0 := f0.ext x3;replace f1 := f1.ext x3;replace f2 := f2.ext x3;replace e0 := e0.trans x3;refine GoR.call rfl rfl (aCF aFunc93 rfl) (hon _) ?_ np;rintro v4 h4 ⟨q, x4⟩;cases q;refine ⟨_, rfl, ?_⟩;replace f0 := f0.ext x4;replace f1 := f1.ext x4;replace f2 := f2.ext x4;replace e0 := e0.trans x4;refine gO rfl rfl (aOp_indexAddrArr (i := i) Tryz.underlying116 sz71 rfl rfl (Nat.ble_eq_true_of_le (by omega))) rfl ?_;refine GoR.store rfl rfl rfl rfl rfl rfl f2 rfl sz71 rfl rfl hsp fun h5 u5 => ?_;replace f0 := f0.upd u5 (by omega);replace f1 := f1.upd u5 (by omega);replace f2 := u5.has f2;replace e0 := e0.upd u5 (by omega);apply gE;refine Go.inBlock noJ_ok ?_;refine gR rfl ?_;refine gO rfl rfl (aA rfl rfl) rfl ?_;refine gP ?_;apply gE;exact again (n - 1) (i + 1) _ _ (by omega) ⟨rfl, rfl, rfl, rfl, rfl, trivial⟩ ⟨by omega, e0, f0, f1, f2⟩
 ·have hin : i = C.ps.length := by omega
  subst hin;rw [cellsG_eq (g := oneG b C.ps.length) (g' := C.aftG b 0) (fun k _ => by unfold oneG ClampV.aftG; rw [List.take_zero]; rfl)] at f2;clear again;apply gS;refine gR rfl ?_;refine gO rfl rfl (kLF rfl rfl) rfl ?_;apply gE;apply gS;refine gC (b := false) rfl ?_;refine gD ?_;iterate 2 apply gS
  refine gR rfl ?_;refine gO rfl rfl (fa74_2 rfl) rfl ?_;refine gO rfl rfl (ld72 rfl f0 rfl) rfl ?_;refine gO rfl rfl (aOp_lenSlice Tryz.underlying72 rfl hl2) rfl ?_;refine gP ?_;apply gE;refine Go.block noJ_ok ?_
  refine Go.loopKeep (fun i : Nat => [(4, .ptr h1.next 0), (23, ge), (24, .int .i64 C.es.length), (25, .int .i64 (i : Nat))])
   (fun n i h' => n + i = C.es.length ∧ Ext h h' ∧ Has h' h1.next (.cells .plain (cellsG (C.aftG b i)) 116)) (n := C.es.length) 0 ⟨rfl, rfl, rfl, rfl, trivial⟩ ⟨rfl, e0, f2⟩ ?_
  clear e0 f0 f1 f2;rintro n i hc ⟨hn, e0, f2⟩ again
  by_cases hi : i < C.es.length
  ·obtain ⟨e, he⟩ : ∃ e, C.es[i]? = some e := ⟨C.es[i], by simp [hi]⟩
   have heO := O.e e (List.mem_of_getElem? he)
   obtain ⟨c, hc'⟩ : ∃ c : Nat, e.cl = (c : Int) := ⟨e.cl.toNat, by have := heO.1; omega⟩
   have hcn : c < C.ps.length := by have := heO.1; omega
   obtain ⟨bq, off, q1, q2⟩ := (A.ext e0).esl.at (i := i) (l := [evC e]) (by rw [List.getElem?_map, he]; rfl)
   rw [List.length_map] at q1
   have hbk := forward_at heO (aftG_small O B.first i c)
   have hwh := whose_at e
   rw [hc'] at hwh
   have hat := cellsG_at (C.aftG b i) (i := c) (by omega)
   have hput := cellsG_put (g := C.aftG b i) (i := c) (by omega) (e.fwd (C.aftG b i c))
   rw [cellsG_eq (fun k _ => aftG_succ he hcn hc' k)] at hput
   have hnil : nilCheckOk Tryz.prog (.func (.method "bogworks/clamp.forward") [evC e] []) = true := by
    unfold evC evA
    split <;> kernel_rfl
   obtain ⟨ev, hev⟩ : ∃ ev, evC e = ev := ⟨_, rfl⟩
   have hsv := (evC_scal e).2.2
   rw [hev] at hbk hwh hsv hnil q2
   have e9 : Ext hc hc := Ext.refl _
   obtain ⟨wf, wargs, w1, w2⟩ := hwh hc
   apply gS;refine gR rfl ?_;refine gO rfl rfl (kLT rfl rfl) rfl ?_;apply gE;apply gS;refine gC (b := true) rfl ?_;refine gD ?_;apply gS;refine Go.block noJ_ok ?_;apply gS;refine gR rfl ?_;refine gO rfl rfl (aOp_indexAddr (i := i) Tryz.underlying72 sz138 rfl q1 rfl (Nat.ble_eq_true_of_le hi)) rfl ?_;refine gO rfl rfl ((aOp_loadE1 (k := 0) ag138 rfl (q2.ext e9) rfl)) rfl ?_;refine gP ?_;apply gE;apply gS;refine gR rfl ?_;refine gP ?_;refine GoR.call rfl rfl (aOp_invoke rfl rfl (w1)) (w2) ?_ np;rintro _ h3 ⟨q, x3⟩;cases q;refine ⟨_, rfl, ?_⟩;replace f2 := f2.ext x3;replace e0 := e0.trans x3;refine gP ?_;apply gE;refine Go.drawnE plan90_0 ?_;iterate 3 refine gQ rfl rfl rfl rfl ?_
   refine gQ rfl rfl (aOp_indexAddrArr (i := c) Tryz.underlying116 sz71 rfl rfl (Nat.ble_eq_true_of_le (by omega))) rfl ?_;refine gQ rfl rfl (ld71 rfl f2 hat) rfl ?_;refine gQ rfl rfl rfl rfl ?_;refine gQ rfl rfl (aOp_nilCheck rfl hnil) rfl ?_;refine gQ rfl rfl rfl rfl ?_
   obtain ⟨bf, bargs, b1, b2⟩ := hbk h3
   unfold spC at b1 b2 hput
   refine GoE.call rfl rfl (aOp_invoke rfl rfl (b1)) (b2) (dD 254 7 (dD 254 6 (dD 254 5 (dD 254 4 (dD 254 3 (dD 254 2 (dD 254 1 (dK 254 0 rfl)))))))) ?_ np;rintro v4 h4 ⟨q, x4⟩;cases q;replace f2 := f2.ext x4;replace e0 := e0.trans x4;refine ⟨(rck (h2 := h4) rfl (rfl) recheck_nil), _, rfl, ?_⟩;refine gQ rfl rfl (aOp_indexAddrArr (i := c) Tryz.underlying116 sz71 rfl rfl (Nat.ble_eq_true_of_le (by omega))) rfl ?_;refine GoE.store rfl rfl rfl rfl (dD 1023 9 (dD 1023 0 rfl)) rfl rfl f2 rfl sz71 rfl rfl hput fun h5 u5 => ?_;replace f2 := u5.has f2;replace e0 := e0.upd u5 (by omega);clear e9;refine ⟨recheck_nil, ?_⟩;refine GoE.end rfl ?_;refine Go.inBlock noJ_ok ?_;refine gR rfl ?_;refine gO rfl rfl (aA rfl rfl) rfl ?_;refine gP ?_;apply gE;exact again (n - 1) (i + 1) _ _ (by omega) ⟨rfl, rfl, rfl, rfl, trivial⟩ ⟨by omega, e0, f2⟩
  ·have hin : i = C.es.length := by omega
   subst hin;rw [cellsG_eq (g := C.aftG b C.es.length) (g' := C.aft b) (fun k _ => by unfold ClampV.aftG ClampV.aft; rw [List.take_length])] at f2
   have hcs : slice? (cellsG (C.aft b)) 0 8 = some (cellsG (C.aft b)) := rfl
   apply gS;refine gR rfl ?_;refine gO rfl rfl (kLF rfl rfl) rfl ?_;apply gE;apply gS;refine gC (b := false) rfl ?_;refine gD ?_;apply gS;refine gR rfl ?_;refine gO rfl rfl (ld116 rfl f2 hcs) rfl ?_;refine GoR.store rfl rfl rfl rfl rfl rfl f2 rfl sz116 rfl rfl rfl fun h3 u3 => ?_;replace f2 := u3.has f2;replace e0 := e0.upd u3 (by omega);apply gE;exact gV (ret_end (aResult_of Tryz.func90 rfl (aResults_cell rfl f2 (inCells_agg ag116 sz116 rfl))) ⟨rfl, e0⟩)
end Go.Proofs.YtobhkdgcciolmaaGreat
