import Derived.Test.YtmimdgjehnhnoaaMAP
import Derived.Test.YtmimdgjehnhnoaaMAM
import Derived.Test.YtmimdgjehnhnoaaMAL
import Derived.Test.YtmimdgjehnhnoaaMAG
import Derived.Test.YtmimdgjehnhnoaaMAK
import Derived.Test.YtmimdgjehnhnoaaMAN
namespace Go.Proofs.Ytmimdgjehnhnoaa
open Go Go.AbsE
set_option linter.unusedSimpArgs false
set_option maxRecDepth 100000
set_option maxHeartbeats 0
set_option linter.unusedVariables false
def zero8 : List Int := [0, 0, 0, 0, 0, 0, 0, 0]
noncomputable def FootV.top (F : FootV) : Hv := F.reap F.hs.length zero8
theorem most_ok {F : FootV} (O : F.Ok) {rsl hsl : AVal} {h : AH} (A : FootAt h F rsl hsl) :
  Runs Try.prog 77 [.agg (F.cells rsl hsl)] h (fun en h' => ∃ s, en = .ret (.agg [.int .i64 F.top.sods, s]) ∧ Ext h h' ∧ PlsAt (fun b => b < h.next) h' s F.top.plans) := by
 have hre : ∀ (c : Nat) (h2 : AH) (bw bk bf bm : Nat), c < h2.next → c ≠ bm → h.next ≤ bm → (bw ≠ bm ∧ bk ≠ bm ∧ bf ≠ bm) → Ext h h2 → Has h2 bw (.cells .plain (F.cells rsl hsl) 80) → Has h2 bk (.cells .plain [.map bm] 143) → Has h2 bf (.cells .plain [.func (.func 100) [] [.ptr bw 0, .ptr bk 0, .ptr bf 0]] 144) → Has h2 bm (.map [] 0) →
   Runs Try.prog 100 [.agg (i64s (zero8 ++ [((0 : Nat) : Int)])), .ptr bw 0, .ptr bk 0, .ptr bf 0] h2 (fun en h' => ∃ sods s, en = .ret (.agg [.int .i64 sods, s]) ∧ ExtF (fun b => b = bm) h2 h' ∧ sods = F.top.sods ∧ PlsAt (fun b => (b < h.next ∨ b = c) ∨ b = bm) h' s F.top.plans ∧ ExtF (fun b => b = c) h' h') := fun c h2 bw bk bf bm hc hc2 h1 h2' h3 h4 h5 h6 h7 =>
  (reap_ok O A (bw := bw) (bk := bk) (bf := bf) (bm := bm) h1 h2' F.hs.length 0 (by omega) zero8 h2 (fun b => b < h.next ∨ b = c) rfl (by decide) h3 h4 h5 h6 ⟨_, _, [], h7, rfl, (fun _ q => by cases q), (fun q => by omega), (fun _ _ q => by cases q)⟩ (lt_add (X := fun b => b < h.next) (fun b q => q) h3.1 hc)).mono
   fun en h' ⟨a, b, c1, c2, c3, c4, c5⟩ => ⟨a, b, c1, c2, c3, c4, .of (Ext.refl _)⟩
 unfold FootV.cells at hre ⊢
 have e0 : Ext h h := Ext.refl _
 refine Runs.intro aFunc77 rfl rfl rfl rfl fun rest => ?_;apply gS;refine gR rfl ?_;refine GoR.box rfl rfl rfl rfl rfl rfl fun h0 x0 f0 => ?_;have := e0.1;replace e0 := e0.trans x0;have := f0.1;refine GoR.alloc rfl rfl rfl zt111 rfl rfl fun h1 x1 f1 => ?_;have := e0.1;have := f0.1;replace f0 := f0.ext x1;replace e0 := e0.trans x1;have := f1.1;apply gE;apply gS;refine gR rfl ?_;refine GoR.makeMap rfl rfl rfl rfl rfl fun h2 x2 f2 => ?_;have := e0.1;have := f1.1;have := f0.1;replace f1 := f1.ext x2;replace f0 := f0.ext x2;replace e0 := e0.trans x2;have := f2.1;refine GoR.alloc rfl rfl rfl zt143 rfl rfl fun h3 x3 f3 => ?_;have := e0.1;have := f2.1;have := f1.1;have := f0.1;replace f2 := f2.ext x3;replace f1 := f1.ext x3;replace f0 := f0.ext x3;replace e0 := e0.trans x3;have := f3.1;refine GoR.store rfl rfl rfl rfl rfl rfl f3 rfl sz143 rfl rfl rfl fun h4 u4 => ?_;replace f3 := u4.has f3;replace f2 := f2.upd u4 (by omega);replace f1 := f1.upd u4 (by omega);replace f0 := f0.upd u4 (by omega);replace e0 := e0.upd u4 (by omega);apply gE;apply gS;refine gR rfl ?_;refine GoR.alloc rfl rfl rfl zt144 rfl rfl fun h5 x5 f5 => ?_;have := e0.1;have := f3.1;have := f2.1;have := f1.1;have := f0.1;replace f3 := f3.ext x5;replace f2 := f2.ext x5;replace f1 := f1.ext x5;replace f0 := f0.ext x5;replace e0 := e0.trans x5;have := f5.1;apply gE;apply gS;refine gR rfl ?_;refine gP ?_;refine GoR.store rfl rfl rfl rfl rfl rfl f5 rfl sz144 rfl rfl rfl fun h6 u6 => ?_;replace f5 := u6.has f5;replace f3 := f3.upd u6 (by omega);replace f2 := f2.upd u6 (by omega);replace f1 := f1.upd u6 (by omega);replace f0 := f0.upd u6 (by omega);replace e0 := e0.upd u6 (by omega);apply gE;apply gS;refine gR rfl ?_;refine gO rfl rfl (ld144 rfl f5 rfl) rfl ?_;refine gO rfl rfl (aOp_build zt138 hu138 pl138 rfl rfl) rfl ?_;refine GoR.call rfl rfl (aOp_callVal rfl aFunc100 rfl) (hre h0.next _ _ _ _ h1.next f1.1 (by omega) (by omega) (by omega) e0 (by assumption) (by assumption) (by assumption) (by assumption)) ?_ (by rintro _ _ ⟨_, s, q, _, rfl, hs2, yo⟩; cases q);rintro v7 h7 ⟨_, s, q, y7, rfl, hs2, yo⟩;cases q;refine ⟨_, rfl, ?_⟩;iterate 2 have := e0.1
 have := f5.1;have := f3.1;have := f2.1;have := f1.1;have := f0.1;clear f2;replace f1 := f1.extF y7 (fun q => by omega);replace e0 := y7.low e0 (fun b q => by omega);have := y7.1;refine GoR.store rfl rfl rfl rfl rfl rfl f1 rfl sz111 rfl (hs2.sc _) rfl fun h8 u8 => ?_;replace f1 := u8.has f1;replace e0 := e0.upd u8 (by omega);replace yo := yo.upd u8 (.inl rfl);apply gE;exact gV (ret_end (aResult_of Try.func77 rfl (aResults_c rfl f1 (inCells_agg ag111 sz111 rfl) rfl)) (⟨s, rfl, e0, (hs2.extF yo (fun b q => .inl (.inr q))).mono (fun b q => .inl (.inl (.inl q)))⟩))
theorem scal_one' {a : AVal} (h : scalars [a] = true) : scalar a = true := by
 unfold scalars at h
 cases q : scalar a with
 | true => rfl
 | false => rw [q] at h; cases h
theorem withM_ok {F : FootV} {n : Int} {rsl hsl : AVal} {h : AH} {g : AH} (A : FootAt g F rsl hsl) : Runs Try.prog 105 [.agg (F.cells rsl hsl), .int .i64 n] h (fun en h' => en = .ret (.agg (FootV.cells { F with men := n } rsl hsl)) ∧ Ext h h') := by
 have hsc : scalars [rsl, .int .i64 n, .int .i64 F.l0, .int .i64 F.l1, .int .i64 F.l2, .int .i64 F.d0, .int .i64 F.d1, .int .i64 F.d2, hsl] = true := by
  unfold scalars
  rw [scal_one' A.rs.scal.1]
  simp only [scalars, scal_one' A.hs.scal.1, cond_true]
  rfl
 unfold FootV.cells
 have e0 : Ext h h := Ext.refl _
 refine Runs.intro aFunc105 rfl rfl rfl rfl fun rest => ?_;apply gS;refine gR rfl ?_;refine GoR.box rfl rfl rfl rfl rfl rfl fun h0 x0 f0 => ?_;have := e0.1;replace e0 := e0.trans x0;have := f0.1;refine GoR.alloc rfl rfl rfl zt80 rfl rfl fun h1 x1 f1 => ?_;have := e0.1;have := f0.1;replace f0 := f0.ext x1;replace e0 := e0.trans x1;have := f1.1;apply gE;apply gS;refine gR rfl ?_;refine gP ?_;refine gO rfl rfl (fa80_1 rfl) rfl ?_;refine GoR.store rfl rfl rfl rfl rfl rfl f0 rfl sz3 rfl rfl rfl fun h2 u2 => ?_;replace f1 := f1.upd u2 (by omega);replace f0 := u2.has f0;replace e0 := e0.upd u2 (by omega);apply gE;apply gS;refine gR rfl ?_;refine gO rfl rfl (ld80 rfl f0 rfl) rfl ?_;refine GoR.store rfl rfl rfl rfl rfl rfl f1 rfl sz80 rfl hsc rfl fun h3 u3 => ?_;replace f1 := u3.has f1;replace e0 := e0.upd u3 (by omega);apply gE;exact gV (ret_end (aResult_of Try.func105 rfl (aResults_cell rfl f1 (inCells_agg ag80 sz80 rfl))) ⟨rfl, e0⟩)
def FootV.by (F : FootV) (n : Nat) : FootV := { F with men := n }
theorem by_ok {F : FootV} (O : F.Ok) {n : Nat} (hn : n ≤ 3) : (F.by n).Ok := ⟨O.nr, O.r, ⟨by show (0 : Int) ≤ n; omega, by show (n : Int) ≤ 3; omega⟩, O.l0, O.l1, O.l2, O.d0, O.d1, O.d2, O.nh, O.h⟩
theorem FootAt.by {h : AH} {F : FootV} {rsl hsl : AVal} (A : FootAt h F rsl hsl) (n : Nat) : FootAt h (F.by n) rsl hsl := ⟨A.rs, A.hs, A.c⟩
def FootV.Hands (F : FootV) (n : Nat) : Prop := n ≤ 3 ∧ ¬ (F.by n).top.sods < (F.by 3).top.sods ∧ ∀ k, k < n → (F.by k).top.sods < (F.by 3).top.sods
theorem men_ok {F : FootV} (O : F.Ok) {rsl hsl : AVal} {h : AH} (A : FootAt h F rsl hsl) :
  Runs Try.prog 80 [.agg (F.cells rsl hsl)] h (fun en h' => ∃ n : Nat, en = .ret (.tuple [.int .i64 n, .int .i64 (F.by 3).top.sods]) ∧ Ext h h' ∧ F.Hands n) := by
 have hwi := fun (n : Nat) h => withM_ok (F := F) (n := (n : Int)) (h := h) A
 have hmo := fun (n : Nat) (hn : n ≤ 3) h (e : Ext h h) A => most_ok (by_ok O hn) (rsl := rsl) (hsl := hsl) (h := h) A
 have hto : ∀ n, n ≤ 3 → 0 ≤ (F.by n).top.sods ∧ (F.by n).top.sods ≤ 1500 := fun n hn => by
  have := reap_in (by_ok O hn) (F.by n).hs.length zero8
  have h3 : (F.by n).hs.length ≤ 3 := O.nh
  unfold FootV.top
  omega
 have hfc : ∀ n : Nat, FootV.cells { F with men := (n : Int) } rsl hsl = (F.by n).cells rsl hsl := fun n => rfl
 unfold FootV.cells at *
 have e0 : Ext h h := Ext.refl _
 refine Runs.intro aFunc80 rfl rfl rfl rfl fun rest => ?_;apply gS;refine gR rfl ?_;refine GoR.box rfl rfl rfl rfl rfl rfl fun h0 x0 f0 => ?_;have := e0.1;replace e0 := e0.trans x0;have := f0.1;iterate 2 refine gP ?_
 apply gE;apply gS;refine gR rfl ?_;refine gO rfl rfl (ld80 rfl f0 rfl) rfl ?_;refine GoR.call rfl rfl (aCF aFunc105 rfl) (hwi 3 _) ?_ np;rintro v1 h1 ⟨q, x1⟩;cases q;refine ⟨_, rfl, ?_⟩;replace f0 := f0.ext x1;replace e0 := e0.trans x1;refine GoR.call rfl rfl (aCF aFunc77 rfl) (hmo 3 (by omega) _ (Ext.refl _) ((A.ext e0).by 3)) ?_ (by rintro _ _ ⟨sb, q, _, hsb⟩; cases q);rintro v2 h2 ⟨sb, q, x2, hsb⟩;cases q;refine ⟨_, rfl, ?_⟩;have := e0.1;replace f0 := f0.ext x2;replace e0 := e0.trans x2;refine gO rfl rfl (fd111_0 rfl rfl) rfl ?_;refine gP ?_;apply gE;apply gS;refine Go.block noJ_ok ?_
 refine Go.loopKeep (fun n : Nat => [(1, .ptr h.next 0), (2, .int .i64 (n : Nat)), (3, .int .i64 (F.by 3).top.sods)]) (fun m n h' => m + n = 3 ∧ Ext h h' ∧ Has h' h.next (.cells .plain [rsl, .int .i64 F.men, .int .i64 F.l0, .int .i64 F.l1, .int .i64 F.l2, .int .i64 F.d0, .int .i64 F.d1, .int .i64 F.d2, hsl] 80) ∧ ∀ k, k < n → (F.by k).top.sods < (F.by 3).top.sods)
  (n := 3) 0 ⟨rfl, rfl, rfl, trivial⟩ ⟨rfl, e0, f0, fun k q => absurd q (Nat.not_lt_zero k)⟩ ?_
 clear e0 f0;rintro m n h20 ⟨hm, e0, f0, hk⟩ again
 have hn1 := hto n (by omega)
 by_cases c1 : (F.by n).top.sods < (F.by 3).top.sods
 ·have hn3 : n < 3 := by
   rcases Nat.lt_or_ge n 3 with q | q
   ·exact q
   ·have : n = 3 := by omega
    subst this
    omega
  iterate 2 apply gS
  refine gR rfl ?_;refine gO rfl rfl (ld80 rfl f0 rfl) rfl ?_;refine gP ?_;refine GoR.call rfl rfl (aCF aFunc105 rfl) (hwi n _) ?_ np;rintro v21 h21 ⟨q, x21⟩;cases q;refine ⟨_, rfl, ?_⟩;replace f0 := f0.ext x21;replace e0 := e0.trans x21;refine GoR.call rfl rfl (aCF aFunc77 rfl) (hmo n (by omega) _ (Ext.refl _) ((A.ext e0).by n)) ?_ (by rintro _ _ ⟨sb, q, _, hsb⟩; cases q);rintro v22 h22 ⟨sb, q, x22, hsb⟩;cases q;refine ⟨_, rfl, ?_⟩;replace f0 := f0.ext x22;replace e0 := e0.trans x22;refine gO rfl rfl (fd111_0 rfl rfl) rfl ?_;refine gP ?_;refine gO rfl rfl (kLT rfl rfl) rfl ?_;apply gE;refine gC (b := true) rfl ?_;refine gD ?_;refine Go.block noJ_ok ?_;refine gR rfl ?_;refine gP ?_;refine gO rfl rfl (aA rfl rfl) rfl ?_;refine gP ?_;apply gE;refine Go.inBlock noJ_ok ?_;refine again (m - 1) (n + 1) _ _ (by omega) ⟨rfl, rfl, rfl, trivial⟩ ⟨by omega, e0, f0, fun k q => ?_⟩
  rcases Nat.lt_or_ge k n with q' | q'
  ·exact hk k q'
  ·rw [show k = n by omega];exact c1
 ·iterate 2 apply gS
  refine gR rfl ?_;refine gO rfl rfl (ld80 rfl f0 rfl) rfl ?_;refine gP ?_;refine GoR.call rfl rfl (aCF aFunc105 rfl) (hwi n _) ?_ np;rintro v21 h21 ⟨q, x21⟩;cases q;refine ⟨_, rfl, ?_⟩;replace e0 := e0.trans x21;refine GoR.call rfl rfl (aCF aFunc77 rfl) (hmo n (by omega) _ (Ext.refl _) ((A.ext e0).by n)) ?_ (by rintro _ _ ⟨sb, q, _, hsb⟩; cases q);rintro v22 h22 ⟨sb, q, x22, hsb⟩;cases q;refine ⟨_, rfl, ?_⟩;replace e0 := e0.trans x22;refine gO rfl rfl (fd111_0 rfl rfl) rfl ?_;refine gP ?_;refine gO rfl rfl (kLF rfl rfl) rfl ?_;apply gE;refine gC (b := false) rfl ?_;refine gD ?_;apply gS;refine gR rfl ?_;iterate 4 refine gP ?_
  apply gE;exact gV (ret_end (aResult_of Try.func80 rfl rfl) ⟨n, rfl, e0, by omega, c1, hk⟩)
end Go.Proofs.Ytmimdgjehnhnoaa

namespace Go.Proofs.Ytmimdgjehnhnoaa
open Go Go.AbsE
set_option linter.unusedSimpArgs false
set_option maxRecDepth 100000
set_option maxHeartbeats 0
set_option linter.unusedVariables false
def Pl.lt (p q : Pl) : Prop := p.a < q.a ∨ (p.a = q.a ∧ (p.b < q.b ∨ (p.b = q.b ∧ p.c < q.c)))
def wholeP (p : Pl) : Prop := 0 ≤ p.a ∧ 0 ≤ p.b ∧ 0 ≤ p.c
instance (p : Pl) : Decidable (wholeP p) := by unfold wholeP; infer_instance
def FootV.Right (F : FootV) : List Int → Nat → List Pl → Prop
 | _, _, [] => True
 | st, i, p :: L => (p = none3 ∨ (p ∈ wholeL F.rs.length ∧ fullB st F.men p = false ∧ F.Kept true i p)) ∧ F.Right (withV st p) (i + 1) L
end Go.Proofs.Ytmimdgjehnhnoaa

namespace Go.Proofs.Ytmimdgjehnhnoaa
open Go Go.AbsE
set_option linter.unusedSimpArgs false
set_option maxRecDepth 100000
set_option maxHeartbeats 0
set_option linter.unusedVariables false
theorem bestB_ok {F : FootV} (O : F.Ok) {rsl hsl : AVal} {b1 b2 : Nat} {h : AH} (A : FootAt h F rsl hsl) (hb : b1 ≠ b2)
  (f0 : Has h b1 (.cells .plain [.int .i64 0] 3)) (f1 : Has h b2 (.cells .plain [.nilslice] 40)) :
  Runs Try.prog 76 [.agg (F.cells rsl hsl), .ptr b1 0, .ptr b2 0] h (fun en h' => en = .ret (.tuple []) ∧ ExtF (fun x => x = b1 ∨ x = b2) h h' ∧ ∃ s, Has h' b1 (.cells .plain [.int .i64 F.top.sods] 3) ∧ Has h' b2 (.cells .plain [s] 40) ∧ PlsAt (fun b => b < h.next) h' s F.top.plans) := by
 have hmo : ∀ h2, FootAt h2 F rsl hsl → Runs Try.prog 77 [.agg (F.cells rsl hsl)] h2 (fun en h' => ∃ s, en = .ret (.agg [.int .i64 F.top.sods, s]) ∧ Ext h2 h' ∧ PlsAt (fun b => b < h2.next) h' s F.top.plans ∧ ExtF (fun x => x = b1 ∨ x = b2) h' h' ∧ sameA s s = true) := fun h2 A =>
  (most_ok O (h := h2) (rsl := rsl) (hsl := hsl) A).mono fun en h' ⟨s, c1, c2, c3⟩ => ⟨s, c1, c2, c3, .of (Ext.refl _), c3.sl.same⟩
 have hn1 := f0.1
 have hn2 := f1.1
 have y0 : ExtF (fun x => x = b1 ∨ x = b2) h h := ExtF.of (Ext.refl _)
 unfold FootV.cells at hmo ⊢
 have e0 : Ext h h := Ext.refl _
 refine Runs.intro aFunc76 rfl rfl rfl rfl fun rest => ?_;apply gS;refine gR rfl ?_;refine GoR.box rfl rfl rfl rfl rfl rfl fun h2 x2 f2 => ?_;have := e0.1;have := f0.1;have := f1.1;replace f0 := f0.ext x2;replace f1 := f1.ext x2;replace e0 := e0.trans x2;replace y0 := y0.ext x2;have := f2.1;apply gE;apply gS;refine gR rfl ?_;refine gO rfl rfl (ld80 rfl f2 rfl) rfl ?_;refine GoR.call rfl rfl (aCF aFunc77 rfl) (hmo _ (A.ext e0)) ?_ (by rintro _ _ ⟨s, q, _, hP, yo, hss⟩; cases q);rintro v3 h3 ⟨s, q, x3, hP, yo, hss⟩;cases q;refine ⟨_, rfl, ?_⟩;have := e0.1;replace f2 := f2.ext x3;replace f0 := f0.ext x3;replace f1 := f1.ext x3;replace e0 := e0.trans x3;replace y0 := y0.ext x3;refine GoR.alloc rfl rfl rfl zt111 rfl rfl fun h4 x4 f4 => ?_;have := e0.1;have := f2.1;have := f0.1;have := f1.1;replace f0 := f0.ext x4;replace f1 := f1.ext x4;replace yo := yo.ext x4;replace y0 := y0.ext x4;have := f4.1;refine GoR.store rfl rfl rfl rfl rfl rfl f4 rfl sz111 rfl (hP.sc _) rfl fun h5 u5 => ?_;replace f4 := u5.has f4;replace f0 := f0.upd u5 (by omega);replace f1 := f1.upd u5 (by omega);replace yo := yo.upd u5 (.inr (by omega));replace y0 := y0.upd u5 (.inr (by omega));apply gE;refine Go.drawnE plan76_0 ?_;refine gQ rfl rfl (fa111_0 rfl) rfl ?_;refine gQ rfl rfl (ld3 rfl f4 rfl) rfl ?_;refine gQ rfl rfl (fa111_1 rfl) rfl ?_;refine gQ rfl rfl (ld40 rfl f4 rfl) rfl ?_;refine GoE.store rfl rfl rfl rfl (dK 3 3 (dK 3 2 (dD 3 1 (dD 3 0 rfl)))) rfl rfl f0 rfl sz3 rfl rfl rfl fun h6 u6 => ?_;replace f4 := f4.upd u6 (by omega);replace f0 := u6.has f0;replace f1 := f1.upd u6 (by omega);clear e0;replace yo := yo.upd u6 (by omega);replace y0 := y0.upd u6 (by omega);refine ⟨(rck (h2 := h6) rfl (ld40 rfl f4 rfl) (rck (h2 := h6) rfl (fa111_1 rfl) recheck_nil)), ?_⟩;refine GoE.store rfl rfl rfl rfl (dD 31 3 (dD 31 2 rfl)) rfl rfl f1 rfl sz40 hP.one hP.sc1 (hP.spl _) fun h7 u7 => ?_;replace f0 := f0.upd u7 (by omega);replace f1 := u7.has f1;replace yo := yo.upd u7 (by omega);replace y0 := y0.upd u7 (by omega);refine ⟨recheck_nil, ?_⟩;refine GoE.end rfl ?_;exact Go.endL (FLeft.ret (v := .tuple []) (aResult_of Try.func76 rfl rfl) ⟨rfl, y0, s, f0, f1, (hP.extF yo (fun b q => by omega)).mono (fun b q => .inl (by omega))⟩)
theorem bestA_ok {F : FootV} (O : F.Ok) {rsl hsl : AVal} {b1 b2 : Nat} {h : AH} (A : FootAt h F rsl hsl) (hb : b1 ≠ b2)
  (f0 : Has h b1 (.cells .plain [.int .i64 0] 3)) (f1 : Has h b2 (.cells .plain [.nilslice] 40)) :
  Runs Try.prog 42 [.agg (F.cells rsl hsl), .func (.func 76) [] [.ptr b1 0, .ptr b2 0]] h (fun en h' => ∃ s, en = .ret (.int .i64 0) ∧ ExtF (fun x => x = b1 ∨ x = b2) h h' ∧ Has h' b1 (.cells .plain [.int .i64 F.top.sods] 3) ∧ Has h' b2 (.cells .plain [s] 40) ∧ PlsAt (fun b => b < h.next) h' s F.top.plans ∧ ExtF (fun x => x = b1 ∨ x = b2) h' h' ∧ sameA s s = true) := by
 refine (attempt_makes O rsl hsl h A 76 _ aFunc76 [.ptr b1 0, .ptr b2 0] (fun x => x = b1 ∨ x = b2) (fun b q => q.elim (fun q => by rw [q]; exact f0.1) (fun q => by rw [q]; exact f1.1))
  (fun n h' => ∃ s, Has h' b1 (.cells .plain [.int .i64 F.top.sods] 3) ∧ Has h' b2 (.cells .plain [s] 40) ∧ PlsAt (fun b => b < n) h' s F.top.plans) (fun h' e => bestB_ok O (A.ext e) hb (f0.ext e) (f1.ext e))).mono ?_
 rintro en h' ⟨n, h2, q, x, ⟨s, g0, g1, hP⟩, le, l1, l2, same⟩;refine ⟨s, q, x, g0.keep le (same _ g0.1 (.inl f0.1)), g1.keep le (same _ g1.1 (.inl f1.1)), hP.moved le (fun b q r => same b q (.inr r)) l1, .of (Ext.refl _), hP.sl.same⟩
open Classical in
noncomputable def FootV.bestR (F : FootV) : Hv × Int := if F.Ok then (F.top, 0) else (⟨0, []⟩, 1)
theorem Best_ok {F : FootV} {rsl hsl : AVal} {h : AH} (A : FootAt h F rsl hsl) (hb1 : F.rs.length ≤ 40) (hb2 : F.hs.length ≤ 40) :
  Runs Try.prog 34 [.agg (F.cells rsl hsl)] h (fun en h' => ∃ s, en = .ret (.tuple [.int .i64 F.bestR.1.sods, s, .int .i64 F.bestR.2]) ∧ Ext h h' ∧ PlsAt (fun b => b < h.next) h' s F.bestR.1.plans) := by
 unfold FootV.bestR
 by_cases O : F.Ok
 ·rw [if_pos O]
  have hB := fun h b1 b2 A => bestA_ok O (rsl := rsl) (hsl := hsl) (b1 := b1) (b2 := b2) (h := h) A
  unfold FootV.cells at hB ⊢
  have e0 : Ext h h := Ext.refl _
  refine Runs.intro aFunc34 rfl rfl rfl rfl fun rest => ?_;apply gS;refine gR rfl ?_;refine GoR.box rfl rfl rfl rfl rfl rfl fun h0 x0 f0 => ?_;have := e0.1;replace e0 := e0.trans x0;have := f0.1;refine GoR.alloc rfl rfl rfl zt3 rfl rfl fun h1 x1 f1 => ?_;have := e0.1;have := f0.1;replace f0 := f0.ext x1;replace e0 := e0.trans x1;have := f1.1;refine GoR.alloc rfl rfl rfl zt40 rfl rfl fun h2 x2 f2 => ?_;have := e0.1;have := f1.1;have := f0.1;replace f1 := f1.ext x2;replace f0 := f0.ext x2;replace e0 := e0.trans x2;have := f2.1;refine gP ?_;apply gE;apply gS;refine gR rfl ?_;refine gO rfl rfl (ld26 rfl f0 rfl) rfl ?_;refine gP ?_;refine GoR.call rfl rfl (aCF aFunc42 rfl) (hB _ h0.next h1.next (A.ext e0) (by omega) f1 f2) ?_ (by rintro _ _ ⟨s, q, _, fa, fb, hP, yo, hss⟩; cases q);rintro v3 h3 ⟨s, q, y3, fa, fb, hP, yo, hss⟩;cases q;refine ⟨_, rfl, ?_⟩;iterate 2 have := e0.1
  have := f2.1;have := f1.1;have := f0.1;clear f2;clear f1;replace e0 := y3.low e0 (fun b q => by omega);have := y3.1;refine gP ?_;apply gE;apply gS;refine Go.drawnE plan34_0 ?_;refine gQ rfl rfl (ld3 rfl fa rfl) rfl ?_;refine gQ rfl rfl (ld40 rfl fb rfl) rfl ?_;refine gQ rfl rfl rfl rfl ?_;refine GoE.store rfl rfl rfl rfl (dK 1 2 (dK 1 1 (dD 1 0 rfl))) rfl rfl fa rfl sz3 rfl rfl rfl fun h4 u4 => ?_;replace fa := u4.has fa;replace fb := fb.upd u4 (by omega);replace e0 := e0.upd u4 (by omega);replace yo := yo.upd u4 (by omega);refine ⟨(rck (h2 := h4) rfl (rfl) (rck (h2 := h4) rfl (ld40 rfl fb rfl) recheck_nil)), ?_⟩;refine GoE.store rfl rfl rfl rfl (dK 11 2 (dD 11 1 rfl)) rfl rfl fb rfl sz40 hP.one hP.sc1 (hP.spl _) fun h5 u5 => ?_;replace fa := fa.upd u5 (by omega);replace fb := u5.has fb;replace e0 := e0.upd u5 (by omega);replace yo := yo.upd u5 (by omega);refine ⟨(rck (h2 := h5) rfl (rfl) recheck_nil), ?_⟩;refine gQ rfl rfl rfl rfl ?_;refine GoE.end rfl ?_;exact gV (ret_end (aResult_of Try.func34 rfl (aResults_c rfl fa (inCells_one ag3 rfl) (aResults_c rfl fb (inCells_one ag40 rfl) rfl))) (⟨s, rfl, e0, (hP.extF yo (fun b q => by omega)).mono (fun b q => .inl (by omega))⟩))
 ·rw [if_neg O]
  have hat := attempt_bad O hb1 hb2 rsl hsl
  unfold FootV.cells at hat ⊢
  have e0 : Ext h h := Ext.refl _
  refine Runs.intro aFunc34 rfl rfl rfl rfl fun rest => ?_;apply gS;refine gR rfl ?_;refine GoR.box rfl rfl rfl rfl rfl rfl fun h0 x0 f0 => ?_;have := e0.1;replace e0 := e0.trans x0;have := f0.1;refine GoR.alloc rfl rfl rfl zt3 rfl rfl fun h1 x1 f1 => ?_;have := e0.1;have := f0.1;replace f0 := f0.ext x1;replace e0 := e0.trans x1;have := f1.1;refine GoR.alloc rfl rfl rfl zt40 rfl rfl fun h2 x2 f2 => ?_;have := e0.1;have := f1.1;have := f0.1;replace f1 := f1.ext x2;replace f0 := f0.ext x2;replace e0 := e0.trans x2;have := f2.1;refine gP ?_;apply gE;apply gS;refine gR rfl ?_;refine gO rfl rfl (ld26 rfl f0 rfl) rfl ?_;refine gP ?_;refine GoR.call rfl rfl (aCF aFunc42 rfl) (hat _ (A.ext e0) 76 _) ?_ np;rintro v3 h3 ⟨q, x3⟩;cases q;refine ⟨_, rfl, ?_⟩;replace f2 := f2.ext x3;replace f1 := f1.ext x3;replace e0 := e0.trans x3;refine gP ?_;apply gE;apply gS;refine Go.drawnE plan34_0 ?_;refine gQ rfl rfl (ld3 rfl f1 rfl) rfl ?_;refine gQ rfl rfl (ld40 rfl f2 rfl) rfl ?_;refine gQ rfl rfl rfl rfl ?_;refine GoE.store rfl rfl rfl rfl (dK 1 2 (dK 1 1 (dD 1 0 rfl))) rfl rfl f1 rfl sz3 rfl rfl rfl fun h4 u4 => ?_;replace f2 := f2.upd u4 (by omega);replace f1 := u4.has f1;replace e0 := e0.upd u4 (by omega);refine ⟨(rck (h2 := h4) rfl (rfl) (rck (h2 := h4) rfl (ld40 rfl f2 rfl) recheck_nil)), ?_⟩;refine GoE.store rfl rfl rfl rfl (dK 11 2 (dD 11 1 rfl)) rfl rfl f2 rfl sz40 rfl rfl rfl fun h5 u5 => ?_;replace f2 := u5.has f2;replace f1 := f1.upd u5 (by omega);replace e0 := e0.upd u5 (by omega);refine ⟨(rck (h2 := h5) rfl (rfl) recheck_nil), ?_⟩;refine gQ rfl rfl rfl rfl ?_;refine GoE.end rfl ?_;exact gV (ret_end (aResult_of Try.func34 rfl (aResults_c rfl f1 (inCells_one ag3 rfl) (aResults_c rfl f2 (inCells_one ag40 rfl) rfl))) (⟨_, rfl, e0, .nil⟩))
theorem menB_ok {F : FootV} (O : F.Ok) {rsl hsl : AVal} {b1 b2 : Nat} {h : AH} (A : FootAt h F rsl hsl) (hb : b1 ≠ b2)
  (f0 : Has h b1 (.cells .plain [.int .i64 0] 3)) (f1 : Has h b2 (.cells .plain [.int .i64 0] 3)) :
  Runs Try.prog 79 [.agg (F.cells rsl hsl), .ptr b1 0, .ptr b2 0] h (fun en h' => en = .ret (.tuple []) ∧ ExtF (fun x => x = b1 ∨ x = b2) h h' ∧ ∃ n : Nat, F.Hands n ∧ Has h' b1 (.cells .plain [.int .i64 n] 3) ∧ Has h' b2 (.cells .plain [.int .i64 (F.by 3).top.sods] 3)) := by
 have hmo := fun h A => men_ok O (h := h) (rsl := rsl) (hsl := hsl) A
 have hn1 := f0.1
 have hn2 := f1.1
 have y0 : ExtF (fun x => x = b1 ∨ x = b2) h h := ExtF.of (Ext.refl _)
 unfold FootV.cells at hmo ⊢
 have e0 : Ext h h := Ext.refl _
 refine Runs.intro aFunc79 rfl rfl rfl rfl fun rest => ?_;apply gS;refine gR rfl ?_;refine GoR.box rfl rfl rfl rfl rfl rfl fun h2 x2 f2 => ?_;have := e0.1;have := f0.1;have := f1.1;replace f0 := f0.ext x2;replace f1 := f1.ext x2;replace e0 := e0.trans x2;replace y0 := y0.ext x2;have := f2.1;apply gE;refine gR rfl ?_;refine gO rfl rfl (ld80 rfl f2 rfl) rfl ?_;refine GoR.call rfl rfl (aCF aFunc80 rfl) (hmo _ (A.ext e0)) ?_ (by rintro _ _ ⟨n, q, _, hH⟩; cases q);rintro v3 h3 ⟨n, q, x3, hH⟩;cases q;refine ⟨_, rfl, ?_⟩;have := e0.1;replace f0 := f0.ext x3;replace f1 := f1.ext x3;replace y0 := y0.ext x3;iterate 3 refine gP ?_
 refine GoR.store rfl rfl rfl rfl rfl rfl f0 rfl sz3 rfl rfl rfl fun h4 u4 => ?_;replace f0 := u4.has f0;replace f1 := f1.upd u4 (by omega);clear e0;replace y0 := y0.upd u4 (by omega);refine GoR.store rfl rfl rfl rfl rfl rfl f1 rfl sz3 rfl rfl rfl fun h5 u5 => ?_;replace f0 := f0.upd u5 (by omega);replace f1 := u5.has f1;replace y0 := y0.upd u5 (by omega);apply gE;exact Go.endL (FLeft.ret (v := .tuple []) (aResult_of Try.func79 rfl rfl) ⟨rfl, y0, n, hH, f0, f1⟩)
theorem Men_ok {F : FootV} (O : F.Ok) {rsl hsl : AVal} {h : AH} (A : FootAt h F rsl hsl) :
  Runs Try.prog 38 [.agg (F.cells rsl hsl)] h (fun en h' => ∃ n : Nat, en = .ret (.tuple [.int .i64 n, .int .i64 (F.by 3).top.sods, .int .i64 0]) ∧ Ext h h' ∧ F.Hands n) := by
 have hat := attempt_does O rsl hsl
 have hB := fun b1 b2 h A => menB_ok O (rsl := rsl) (hsl := hsl) (b1 := b1) (b2 := b2) (h := h) A
 unfold FootV.cells at hat hB ⊢
 have e0 : Ext h h := Ext.refl _
 refine Runs.intro aFunc38 rfl rfl rfl rfl fun rest => ?_;apply gS;refine gR rfl ?_;refine GoR.box rfl rfl rfl rfl rfl rfl fun h0 x0 f0 => ?_;have := e0.1;replace e0 := e0.trans x0;have := f0.1;refine GoR.alloc rfl rfl rfl zt3 rfl rfl fun h1 x1 f1 => ?_;have := e0.1;have := f0.1;replace f0 := f0.ext x1;replace e0 := e0.trans x1;have := f1.1;refine GoR.alloc rfl rfl rfl zt3 rfl rfl fun h2 x2 f2 => ?_;have := e0.1;have := f1.1;have := f0.1;replace f1 := f1.ext x2;replace f0 := f0.ext x2;replace e0 := e0.trans x2;have := f2.1;refine gP ?_;apply gE;apply gS;refine gR rfl ?_;refine gO rfl rfl (ld26 rfl f0 rfl) rfl ?_;refine gP ?_;refine GoR.call rfl rfl (aCF aFunc42 rfl) (hat _ (A.ext e0) 79 _ aFunc79 _ (fun x => x = h0.next ∨ x = h1.next) (fun b q => by omega) (fun h' => ∃ n : Nat, F.Hands n ∧ Has h' h0.next (.cells .plain [.int .i64 n] 3) ∧ Has h' h1.next (.cells .plain [.int .i64 (F.by 3).top.sods] 3)) (fun h4 h' le same ⟨n, t0, t1, t2⟩ => ⟨n, t0, t1.keep le (same _ (by omega)), t2.keep le (same _ (by omega))⟩) (fun h' e => hB _ _ h' ((A.ext e0).ext e) (by omega) (f1.ext e) (f2.ext e))) ?_ (by rintro _ _ ⟨q, _, n, hH, fa, fb⟩; cases q);rintro v3 h3 ⟨q, y3, n, hH, fa, fb⟩;cases q;refine ⟨_, rfl, ?_⟩;have := e0.1;have := f2.1;have := f1.1;have := f0.1;clear f2;clear f1;replace e0 := y3.low e0 (fun b q => by omega);have := y3.1;refine gP ?_;apply gE;apply gS;refine Go.drawnE plan38_0 ?_;refine gQ rfl rfl (ld3 rfl fa rfl) rfl ?_;refine gQ rfl rfl (ld3 rfl fb rfl) rfl ?_;refine gQ rfl rfl rfl rfl ?_;refine GoE.store rfl rfl rfl rfl (dK 1 2 (dK 1 1 (dD 1 0 rfl))) rfl rfl fa rfl sz3 rfl rfl rfl fun h4 u4 => ?_;replace fa := u4.has fa;replace fb := fb.upd u4 (by omega);replace e0 := e0.upd u4 (by omega);refine ⟨(rck (h2 := h4) rfl (rfl) (rck (h2 := h4) rfl (ld3 rfl fb rfl) recheck_nil)), ?_⟩;refine GoE.store rfl rfl rfl rfl (dK 11 2 (dD 11 1 rfl)) rfl rfl fb rfl sz3 rfl rfl rfl fun h5 u5 => ?_;replace fa := fa.upd u5 (by omega);replace fb := u5.has fb;replace e0 := e0.upd u5 (by omega);refine ⟨(rck (h2 := h5) rfl (rfl) recheck_nil), ?_⟩;refine gQ rfl rfl rfl rfl ?_;refine GoE.end rfl ?_;exact gV (ret_end (aResult_of Try.func38 rfl (aResults_c rfl fa (inCells_one ag3 rfl) (aResults_c rfl fb (inCells_one ag3 rfl) rfl))) (⟨n, rfl, e0, hH⟩))
end Go.Proofs.Ytmimdgjehnhnoaa

set_option linter.unusedSimpArgs false
namespace Go.AbsE
open Go
section
variable {P : Program} {t : Tr AVal} {h : AH} {dst : Option Tmp} {ty tt ty2 : TypeId} {pos : String} {after : Array Edge} {guard : Option (Nat × Bool)} {x y : Operand}
theorem aOp_eqlG {v w : List AVal} {v' w' : List Value} {b r : Bool} (hg : P.eqGuardType P.depth ty = false) (hx : ev t x = some (.agg v)) (hy : ev t y = some (.agg w)) (hv : grounds v = some v') (hw : grounds w = some w')
  (he : pureRun P (Op.equal ty (.agg v'.toArray) (.agg w'.toArray)) = some b) (hr : b = r) : aOp P t h ⟨dst, .binOp .eql ty x y ty2, tt, pos, after, guard⟩ = some (.val (.bool r) h) := by
 show opBin P t h .eql ty x y = _
 unfold opBin
 rw [hx, hy]
 have hb : pureRun P (binOp .eql ty (.agg v'.toArray) (.agg w'.toArray)) = some (.bool b) := by
  show pureRun P (Op.equal ty (.agg v'.toArray) (.agg w'.toArray) >>= fun r => pure (Value.bool r)) = _
  rw [pureRun_bind, he]
  rfl
 show valO h (binAgg P .eql ty v w) = _
 unfold binAgg
 rw [hv, hw]
 simp only [hg, hb, hr]
 rfl
theorem aOp_neqG {v w : List AVal} {v' w' : List Value} {b r : Bool} (hg : P.eqGuardType P.depth ty = false) (hx : ev t x = some (.agg v)) (hy : ev t y = some (.agg w)) (hv : grounds v = some v') (hw : grounds w = some w')
  (he : pureRun P (Op.equal ty (.agg v'.toArray) (.agg w'.toArray)) = some b) (hr : (!b) = r) : aOp P t h ⟨dst, .binOp .neq ty x y ty2, tt, pos, after, guard⟩ = some (.val (.bool r) h) := by
 show opBin P t h .neq ty x y = _
 unfold opBin
 rw [hx, hy]
 have hb : pureRun P (binOp .neq ty (.agg v'.toArray) (.agg w'.toArray)) = some (.bool (!b)) := by
  show pureRun P (Op.equal ty (.agg v'.toArray) (.agg w'.toArray) >>= fun r => pure (Value.bool (!r))) = _
  rw [pureRun_bind, he]
  rfl
 show valO h (binAgg P .neq ty v w) = _
 unfold binAgg
 rw [hv, hw]
 simp only [hg, hb, hr]
 rfl
theorem aOp_eqlArr {e : TypeId} {k : IntKind} {n : Nat} {a b : List Int} {r : Bool} (hu : P.underlying ty = some (.array n e)) (hi : P.underlying e = some (.int k)) (hs : sizeT P e = some 1) (hg : P.eqGuardType P.depth ty = false)
  (hx : ev t x = some (.agg (i64s a))) (hy : ev t y = some (.agg (i64s b))) (ha : a.length = n) (hb : b.length = n) (hr : decide (a = b) = r) : aOp P t h ⟨dst, .binOp .eql ty x y ty2, tt, pos, after, guard⟩ = some (.val (.bool r) h) :=
 aOp_eqlG hg hx hy (grounds_i64s a) (grounds_i64s b) (pr_eq_arr (d := 9998) hu hi hs ha hb) hr
theorem aOp_neqArr {e : TypeId} {k : IntKind} {n : Nat} {a b : List Int} {r : Bool} (hu : P.underlying ty = some (.array n e)) (hi : P.underlying e = some (.int k)) (hs : sizeT P e = some 1) (hg : P.eqGuardType P.depth ty = false)
  (hx : ev t x = some (.agg (i64s a))) (hy : ev t y = some (.agg (i64s b))) (ha : a.length = n) (hb : b.length = n) (hr : (!decide (a = b)) = r) : aOp P t h ⟨dst, .binOp .neq ty x y ty2, tt, pos, after, guard⟩ = some (.val (.bool r) h) :=
 aOp_neqG hg hx hy (grounds_i64s a) (grounds_i64s b) (pr_eq_arr (d := 9998) hu hi hs ha hb) hr
end
end Go.AbsE

namespace Go.Proofs.Ytmimdgjehnhnoaa
open Go Go.AbsE
set_option linter.unusedSimpArgs false
set_option maxRecDepth 100000
set_option maxHeartbeats 0
set_option linter.unusedVariables false
def sampleF (m : Int) : FootV := ⟨[(0, 2), (1, 3), (0, 0), (0, 4), (0, 1), (0, 2)], m, 12, 8, 4, 2, 3, 4, [⟨8, 11, 100⟩, ⟨10, 10, 60⟩, ⟨30, 31, 40⟩]⟩
def pA : Pl := ⟨0, 3, 5⟩
theorem smp_ok1 : (sampleF 1).Ok := (okB_iff _).1 (by decide +kernel)
theorem smp_ok2 : (sampleF 2).Ok := (okB_iff _).1 (by decide +kernel)
theorem smp_wet : (sampleF 1).wetR 0 pA 3 = ((0, 7), 0) := by decide +kernel
theorem smp_can : (sampleF 1).canR 0 ⟨0, 2, 4⟩ = (1, 0) := by decide +kernel
theorem smp_soon1 : (sampleF 1).soonR 1 = (pA, 0) := by decide +kernel
theorem smp_soon2 : (sampleF 1).soonR 2 = (zeroPl, 4) := by decide +kernel
theorem smp_clamp : (sampleF 1).clampR = (3, 3, 0) := by decide +kernel
theorem smp_bad : (sampleF 1).badR [pA, pA, none3] = ((1, 0, 3), 0) := by decide +kernel
theorem smp_top : (sampleF 2).top = ⟨160, [pA, pA, none3]⟩ := by kernel_rfl
theorem smp_top2 : ((sampleF 1).by 2).top.sods = 160 := by kernel_rfl
theorem smp_top3 : ((sampleF 1).by 3).top.sods = 160 := by kernel_rfl
theorem smp_top1 : ((sampleF 1).by 1).top.sods = 100 := by kernel_rfl
theorem smp_top0 : ((sampleF 1).by 0).top.sods = 0 := by kernel_rfl
theorem smp_best : (sampleF 2).bestR = (⟨160, [pA, pA, none3]⟩, 0) := by
 show (if (sampleF 2).Ok then ((sampleF 2).top, (0 : Int)) else (⟨0, []⟩, 1)) = _
 exact (if_pos smp_ok2).trans (congrArg (fun x => (x, (0 : Int))) smp_top)
theorem hands_two {x : Nat → Int} {n : Nat} (h1 : n ≤ 3) (h2 : ¬ x n < x 3) (h3 : ∀ k, k < n → x k < x 3) (t0 : x 0 = 0) (t1 : x 1 = 100) (t2 : x 2 = 160) (t3 : x 3 = 160) : n = 2 := by
 have h32 := h3 2
 match n, h1, h2, h32 with
 | 0, _, h2, _ => omega
 | 1, _, h2, _ => omega
 | 2, _, _, _ => rfl
 | 3, _, _, h32 => have := h32 (by omega); omega
theorem smp_hands {n : Nat} (h : (sampleF 1).Hands n) : n = 2 := hands_two (x := fun n => ((sampleF 1).by n).top.sods) h.1 h.2.1 h.2.2 smp_top0 smp_top1 smp_top2 smp_top3
theorem pls_len3 (L : List Pl) : ∀ i v, (L.map Pl.cells)[i]? = some v → slice? (L.flatMap Pl.cells) (i * 3) 3 = some v := fun i v q => flat_slice (f := Pl.cells) (sz := 3) (fun _ => rfl) q
theorem pls_slice {h : AH} {b n : Nat} {g : Kd} {el : TypeId} {L : List Pl} (hn : L.length = n) (f : Has h b (.cells g (L.flatMap Pl.cells) el)) : SliceOf h 3 (.slice b 0 n n) (L.map Pl.cells) :=
 SliceOf.mk' rfl rfl f (by rw [List.length_map, hn]) fun i v q => by rw [Nat.zero_add]; exact pls_len3 L i v q
theorem sps_slice {h : AH} {b n : Nat} {g : Kd} {el : TypeId} {L : List (Int × Int)} (hn : L.length = n) (f : Has h b (.cells g (L.flatMap spC) el)) : SliceOf h 2 (.slice b 0 n n) (L.map spC) :=
 SliceOf.mk' rfl rfl f (by rw [List.length_map, hn]) fun i v q => by rw [Nat.zero_add]; exact flat_slice (f := spC) (sz := 2) (fun _ => rfl) q
theorem hfs_slice {h : AH} {b n : Nat} {g : Kd} {el : TypeId} {L : List HF} (hn : L.length = n) (f : Has h b (.cells g (L.flatMap HF.cells) el)) : SliceOf h 3 (.slice b 0 n n) (L.map HF.cells) :=
 SliceOf.mk' rfl rfl f (by rw [List.length_map, hn]) fun i v q => by rw [Nat.zero_add]; exact flat_slice (f := HF.cells) (sz := 3) (fun _ => rfl) q
theorem sample_ok {m : Int} {h : AH} : Runs Try.prog 41 [.int .i64 m] h (fun en h' => ∃ b1 b2, en = .ret (.agg ((sampleF m).cells (.slice b1 0 6 6) (.slice b2 0 3 3))) ∧ Ext h h' ∧ FootAt h' (sampleF m) (.slice b1 0 6 6) (.slice b2 0 3 3) ∧ Ext h' h') := by
 unfold FootV.cells
 have e0 : Ext h h := Ext.refl _
 refine Runs.intro aFunc41 rfl rfl rfl rfl fun rest => ?_;apply gS;refine gR rfl ?_;refine GoR.alloc rfl rfl rfl zt26 rfl rfl fun h0 x0 f0 => ?_;have := e0.1;replace e0 := e0.trans x0;have := f0.1;apply gE;apply gS;refine gR rfl ?_;refine GoR.call rfl rfl (aCF aFunc36 rfl) (span36_ok) ?_ np;rintro v1 h1 ⟨q, x1⟩;cases q;refine ⟨_, rfl, ?_⟩;replace f0 := f0.ext x1;replace e0 := e0.trans x1;refine GoR.call rfl rfl (aCF aFunc36 rfl) (span36_ok) ?_ np;rintro v2 h2 ⟨q, x2⟩;cases q;refine ⟨_, rfl, ?_⟩;replace f0 := f0.ext x2;replace e0 := e0.trans x2;refine GoR.call rfl rfl (aCF aFunc36 rfl) (span36_ok) ?_ np;rintro v3 h3 ⟨q, x3⟩;cases q;refine ⟨_, rfl, ?_⟩;replace f0 := f0.ext x3;replace e0 := e0.trans x3;refine GoR.call rfl rfl (aCF aFunc36 rfl) (span36_ok) ?_ np;rintro v4 h4 ⟨q, x4⟩;cases q;refine ⟨_, rfl, ?_⟩;replace f0 := f0.ext x4;replace e0 := e0.trans x4;refine GoR.call rfl rfl (aCF aFunc36 rfl) (span36_ok) ?_ np;rintro v5 h5 ⟨q, x5⟩;cases q;refine ⟨_, rfl, ?_⟩;replace f0 := f0.ext x5;replace e0 := e0.trans x5;refine GoR.call rfl rfl (aCF aFunc36 rfl) (span36_ok) ?_ np;rintro v6 h6 ⟨q, x6⟩;cases q;refine ⟨_, rfl, ?_⟩;replace f0 := f0.ext x6;replace e0 := e0.trans x6;refine GoR.buildSl rfl rfl (ps := [(0, .agg [.int .i64 0, .int .i64 2]), (1, .agg [.int .i64 1, .int .i64 3]), (2, .agg [.int .i64 0, .int .i64 0]), (3, .agg [.int .i64 0, .int .i64 4]), (4, .agg [.int .i64 0, .int .i64 1]), (5, .agg [.int .i64 0, .int .i64 2])]) (cs := (sampleF m).rs.flatMap spC) Try.underlying22 rfl sz31 zt31 rfl rfl rfl rfl fun h7 x7 f7 => ?_;have := e0.1;have := f0.1;replace f0 := f0.ext x7;replace e0 := e0.trans x7;have := f7.1;refine gP ?_;iterate 2 refine gO rfl rfl (aOp_buildArr zt23 Try.underlying23 sz3 rfl rfl) rfl ?_
 refine GoR.call rfl rfl (aCF aFunc36 rfl) (span36_ok) ?_ np;rintro v8 h8 ⟨q, x8⟩;cases q;refine ⟨_, rfl, ?_⟩;replace f7 := f7.ext x8;replace f0 := f0.ext x8;replace e0 := e0.trans x8;refine gO rfl rfl (aOp_build zt72 hu72 pl72 rfl rfl) rfl ?_;refine GoR.call rfl rfl (aCF aFunc36 rfl) (span36_ok) ?_ np;rintro v9 h9 ⟨q, x9⟩;cases q;refine ⟨_, rfl, ?_⟩;replace f7 := f7.ext x9;replace f0 := f0.ext x9;replace e0 := e0.trans x9;refine gO rfl rfl (aOp_build zt72 hu72 pl72 rfl rfl) rfl ?_;refine GoR.call rfl rfl (aCF aFunc36 rfl) (span36_ok) ?_ np;rintro v10 h10 ⟨q, x10⟩;cases q;refine ⟨_, rfl, ?_⟩;replace f7 := f7.ext x10;replace f0 := f0.ext x10;replace e0 := e0.trans x10;refine gO rfl rfl (aOp_build zt72 hu72 pl72 rfl rfl) rfl ?_;refine GoR.buildSl rfl rfl (ps := [(0, .agg [.int .i64 8, .int .i64 11, .int .i64 100]), (1, .agg [.int .i64 10, .int .i64 10, .int .i64 60]), (2, .agg [.int .i64 30, .int .i64 31, .int .i64 40])]) (cs := (sampleF m).hs.flatMap HF.cells) Try.underlying24 rfl sz72 zt72 rfl rfl rfl rfl fun h11 x11 f11 => ?_;have := e0.1;have := f7.1;have := f0.1;replace f7 := f7.ext x11;replace f0 := f0.ext x11;replace e0 := e0.trans x11;have := f11.1;refine gO rfl rfl (aOp_build zt26 hu26 pl26 rfl rfl) rfl ?_;refine GoR.store rfl rfl rfl rfl rfl rfl f0 rfl sz26 rfl rfl rfl fun h12 u12 => ?_;replace f11 := f11.upd u12 (by omega);replace f7 := f7.upd u12 (by omega);replace f0 := u12.has f0;replace e0 := e0.upd u12 (by omega);apply gE;exact gV (ret_end (aResult_of Try.func41 rfl (aResults_c rfl f0 (inCells_agg ag26 sz26 rfl) rfl)) (⟨_, _, rfl, e0, ⟨sps_slice rfl f7, hfs_slice rfl f11, .sl (Nat.le_refl _)⟩, Ext.refl _⟩))
theorem eqG27 : Try.prog.eqGuardType Try.prog.depth 27 = false := by kernel_rfl
theorem spanT31 : SpanT Try.prog 31 := ⟨⟨_, _, Try.underlying31, by decide, by decide, rfl, rfl, ⟨_, Try.underlying3⟩, ⟨_, Try.underlying3⟩⟩, by kernel_rfl, by kernel_rfl⟩
theorem pl_ne {p p' : Pl} (h : p ≠ p') : (!decide (([p.a, p.b, p.c] : List Int) = [p'.a, p'.b, p'.c])) = true := by
 rw [decide_eq_false, Bool.not_false]
 intro q
 obtain ⟨a, b, c⟩ := p
 obtain ⟨a', b', c'⟩ := p'
 simp only [List.cons.injEq, and_true] at q
 obtain ⟨rfl, rfl, rfl⟩ := q
 exact h rfl
theorem Plans_ok {L M : List Pl} {s1 s2 : AVal} {h : AH} (hs1 : SliceOf h 3 s1 (L.map Pl.cells)) (hs2 : SliceOf h 3 s2 (M.map Pl.cells)) (hb1 : L.length ≤ 100) (hb2 : M.length ≤ 100) :
  Runs Try.prog 40 [s1, s2] h (fun en h' => en = .ret (.bool (decide (L = M))) ∧ Ext h h') := by
 have hl1 := hs1.len
 have hl2 := hs2.len
 rw [List.length_map] at hl1 hl2
 by_cases hl : L.length = M.length
 ·have e0 : Ext h h := Ext.refl _
  refine Runs.intro aFunc40 rfl rfl rfl rfl fun rest => ?_;apply gS;refine gR rfl ?_;refine gP ?_;apply gE;iterate 2 apply gS
  refine gR rfl ?_;refine gP ?_;refine gO rfl rfl (aOp_lenSlice Try.underlying40 rfl hl1) rfl ?_;refine gP ?_;refine gO rfl rfl (aOp_lenSlice Try.underlying40 rfl hl2) rfl ?_;refine gO rfl rfl (kXF rfl rfl) rfl ?_;apply gE;refine gC (b := false) rfl ?_;refine gD ?_;iterate 2 apply gS
  refine gR rfl ?_;refine gP ?_;apply gE;refine Go.block noJ_ok ?_;refine Go.loopKeep (fun i : Nat => [(0, s1), (1, s2), (5, .int .i64 (i : Nat))]) (fun m i h' => m + i = L.length ∧ Ext h h' ∧ L.take i = M.take i) (n := L.length) 0 ⟨rfl, rfl, rfl, trivial⟩ ⟨rfl, e0, rfl⟩ ?_;clear e0;rintro m i h20 ⟨hm, e0, hk⟩ again
  by_cases hi : i < L.length
  ·obtain ⟨p, hp⟩ : ∃ p, L[i]? = some p := ⟨L[i], by simp [hi]⟩
   obtain ⟨p', hp'⟩ : ∃ p, M[i]? = some p := ⟨M[i]'(by omega), by simp⟩
   obtain ⟨b1, o1, r1, r2⟩ := hs1.at (i := i) (l := Pl.cells p) (by rw [List.getElem?_map, hp]; rfl)
   obtain ⟨b2, o2, r3, r4⟩ := hs2.at (i := i) (l := Pl.cells p') (by rw [List.getElem?_map, hp']; rfl)
   rw [List.length_map] at r1 r3
   by_cases c1 : p = p'
   ·iterate 2 apply gS
    refine gR rfl ?_;iterate 2 refine gP ?_
    refine gO rfl rfl (aOp_lenSlice Try.underlying40 rfl hl1) rfl ?_;refine gO rfl rfl (kLT rfl rfl) rfl ?_;apply gE;refine gC (b := true) rfl ?_;refine gD ?_;apply gS;refine Go.block noJ_ok ?_;apply gS;refine Go.drawnE plan40_0 ?_;iterate 2 refine gQ rfl rfl rfl rfl ?_
    refine gQ rfl rfl (aOp_indexAddr (i := i) Try.underlying40 sz27 rfl r1 rfl (Nat.ble_eq_true_of_le (by omega))) rfl ?_;refine gQ rfl rfl (aOp_loadE ag27 sz27 rfl (r2.ext e0)) rfl ?_;iterate 2 refine gQ rfl rfl rfl rfl ?_
    refine gQ rfl rfl (aOp_indexAddr (i := i) Try.underlying40 sz27 rfl r3 rfl (Nat.ble_eq_true_of_le (by omega))) rfl ?_;refine gQ rfl rfl (aOp_loadE ag27 sz27 rfl (r4.ext e0)) rfl ?_;refine gQ rfl rfl (aOp_neqArr (a := [p.a, p.b, p.c]) (b := [p'.a, p'.b, p'.c]) (r := false) Try.underlying27 Try.underlying3 sz3 eqG27 rfl rfl rfl rfl (by simp [c1])) rfl ?_;refine GoE.end rfl ?_;refine gC (b := false) rfl ?_;refine gD ?_;refine Go.inBlock noJ_ok ?_;refine gR rfl ?_;refine gP ?_;refine gO rfl rfl (aA rfl rfl) rfl ?_;refine gP ?_;apply gE;refine again (m - 1) (i + 1) _ _ (by omega) ⟨rfl, rfl, rfl, trivial⟩ ⟨by omega, e0, ?_⟩;rw [List.take_add_one, List.take_add_one, hp, hp', hk, c1]
   ·have hne : AEnd.ret (.bool false) = .ret (.bool (decide (L = M))) := ret_false (by rintro rfl; rw [hp] at hp'; cases hp'; exact c1 rfl)
    iterate 2 apply gS
    refine gR rfl ?_;iterate 2 refine gP ?_
    refine gO rfl rfl (aOp_lenSlice Try.underlying40 rfl hl1) rfl ?_;refine gO rfl rfl (kLT rfl rfl) rfl ?_;apply gE;refine gC (b := true) rfl ?_;refine gD ?_;apply gS;refine Go.block noJ_ok ?_;apply gS;refine Go.drawnE plan40_0 ?_;iterate 2 refine gQ rfl rfl rfl rfl ?_
    refine gQ rfl rfl (aOp_indexAddr (i := i) Try.underlying40 sz27 rfl r1 rfl (Nat.ble_eq_true_of_le (by omega))) rfl ?_;refine gQ rfl rfl (aOp_loadE ag27 sz27 rfl (r2.ext e0)) rfl ?_;iterate 2 refine gQ rfl rfl rfl rfl ?_
    refine gQ rfl rfl (aOp_indexAddr (i := i) Try.underlying40 sz27 rfl r3 rfl (Nat.ble_eq_true_of_le (by omega))) rfl ?_;refine gQ rfl rfl (aOp_loadE ag27 sz27 rfl (r4.ext e0)) rfl ?_;refine gQ rfl rfl (aOp_neqArr (a := [p.a, p.b, p.c]) (b := [p'.a, p'.b, p'.c]) (r := true) Try.underlying27 Try.underlying3 sz3 eqG27 rfl rfl rfl rfl (pl_ne c1)) rfl ?_;refine GoE.end rfl ?_;refine gC (b := true) rfl ?_;apply gS;refine gR rfl ?_;refine gP ?_;apply gE;exact gV (ret_end (aResult_of Try.func40 rfl rfl) ⟨hne, e0⟩)
  ·rw [List.take_of_length_le (by omega), List.take_of_length_le (by omega)] at hk
   have hne : AEnd.ret (.bool true) = .ret (.bool (decide (L = M))) := ret_true hk
   iterate 2 apply gS
   refine gR rfl ?_;iterate 2 refine gP ?_
   refine gO rfl rfl (aOp_lenSlice Try.underlying40 rfl hl1) rfl ?_;refine gO rfl rfl (kLF rfl rfl) rfl ?_;apply gE;refine gC (b := false) rfl ?_;refine gD ?_;apply gS;refine gR rfl ?_;refine gP ?_;apply gE;exact gV (ret_end (aResult_of Try.func40 rfl rfl) ⟨hne, e0⟩)
 ·have hne : AEnd.ret (.bool false) = .ret (.bool (decide (L = M))) := ret_false (by rintro rfl; exact hl rfl)
  have e0 : Ext h h := Ext.refl _
  refine Runs.intro aFunc40 rfl rfl rfl rfl fun rest => ?_;apply gS;refine gR rfl ?_;refine gP ?_;apply gE;iterate 2 apply gS
  refine gR rfl ?_;refine gP ?_;refine gO rfl rfl (aOp_lenSlice Try.underlying40 rfl hl1) rfl ?_;refine gP ?_;refine gO rfl rfl (aOp_lenSlice Try.underlying40 rfl hl2) rfl ?_;refine gO rfl rfl (kXT rfl rfl) rfl ?_;apply gE;refine gC (b := true) rfl ?_;apply gS;refine gR rfl ?_;refine gP ?_;apply gE;exact gV (ret_end (aResult_of Try.func40 rfl rfl) ⟨hne, e0⟩)
theorem awake_ok {h : AH} : Runs Try.prog 13 [] h (fun en h' => en = .ret (.bool true) ∧ Ext h h') := by
 have s1 := fun h => sample_ok (m := 1) (h := h)
 have s2 := fun h => sample_ok (m := 2) (h := h)
 have hW : ∀ {h' rsl hsl}, FootAt h' (sampleF 1) rsl hsl → Runs Try.prog 14 [.agg ((sampleF 1).cells rsl hsl), .int .i64 0, .agg pA.cells, .int .i64 3] h' (fun en h2 => en = .ret (.tuple [.agg [.int .i64 0, .int .i64 7], .int .i64 0]) ∧ Ext h' h2) := fun A => by
  have := Wet_ok A (by decide) (by decide) 0 pA 3
  rw [smp_wet] at this;exact this
 have hC : ∀ {h' rsl hsl}, FootAt h' (sampleF 1) rsl hsl → Runs Try.prog 16 [.agg ((sampleF 1).cells rsl hsl), .int .i64 0, .agg (Pl.cells ⟨0, 2, 4⟩)] h' (fun en h2 => en = .ret (.tuple [.int .i64 1, .int .i64 0]) ∧ Ext h' h2) := fun A => by
  have := Can_ok A (by decide) (by decide) 0 ⟨0, 2, 4⟩
  rw [smp_can] at this;exact this
 have hS1 : ∀ {h' rsl hsl}, FootAt h' (sampleF 1) rsl hsl → Runs Try.prog 18 [.agg ((sampleF 1).cells rsl hsl), .int .i64 1] h' (fun en h2 => en = .ret (.tuple [.agg pA.cells, .int .i64 0]) ∧ Ext h' h2) := fun A => by
  have := Soonest_ok A (by decide) (by decide) 1
  rw [smp_soon1] at this;exact this
 have hS2 : ∀ {h' rsl hsl}, FootAt h' (sampleF 1) rsl hsl → Runs Try.prog 18 [.agg ((sampleF 1).cells rsl hsl), .int .i64 2] h' (fun en h2 => en = .ret (.tuple [.agg zeroPl.cells, .int .i64 4]) ∧ Ext h' h2) := fun A => by
  have := Soonest_ok A (by decide) (by decide) 2
  rw [smp_soon2] at this;exact this
 have hK : ∀ {h' rsl hsl}, FootAt h' (sampleF 1) rsl hsl → Runs Try.prog 20 [.agg ((sampleF 1).cells rsl hsl)] h' (fun en h2 => en = .ret (.tuple [.int .i64 3, .int .i64 3, .int .i64 0]) ∧ Ext h' h2) := fun A => by
  have := Clamped_ok A (by decide) (by decide)
  rw [smp_clamp] at this;exact this
 have hB : ∀ {h' rsl hsl s}, FootAt h' (sampleF 1) rsl hsl → SliceOf h' 3 s ([pA, pA, none3].map Pl.cells) → Runs Try.prog 22 [.agg ((sampleF 1).cells rsl hsl), s] h' (fun en h2 => en = .ret (.tuple [.int .i64 1, .int .i64 0, .int .i64 3, .int .i64 0]) ∧ Ext h' h2) := fun A S => by
  have := Broken_ok A (by decide) (by decide) (L := [pA, pA, none3]) (by decide) S
  rw [smp_bad] at this;exact this
 have hM : ∀ {h' rsl hsl}, FootAt h' (sampleF 1) rsl hsl → Runs Try.prog 38 [.agg ((sampleF 1).cells rsl hsl)] h' (fun en h2 => en = .ret (.tuple [.int .i64 2, .int .i64 160, .int .i64 0]) ∧ Ext h' h2) := fun A =>
  (Men_ok smp_ok1 A).mono fun en h2 ⟨n, c1, c2, c3⟩ => ⟨by rw [c1, smp_hands c3, smp_top3]; rfl, c2⟩
 have hX : ∀ {h' rsl hsl}, FootAt h' (sampleF 2) rsl hsl → Runs Try.prog 34 [.agg ((sampleF 2).cells rsl hsl)] h' (fun en h2 => ∃ s, en = .ret (.tuple [.int .i64 160, s, .int .i64 0]) ∧ Ext h' h2 ∧ SliceOf h2 3 s ([pA, pA, none3].map Pl.cells) ∧ Ext h2 h2) := fun A =>
  (Best_ok A (by decide) (by decide)).mono fun en h2 ⟨s, c1, c2, c3⟩ => by
   rw [smp_best] at c1 c3;exact ⟨s, c1, c2, c3.sl, Ext.refl _⟩
 unfold FootV.cells at *
 have e0 : Ext h h := Ext.refl _
 refine Runs.intro aFunc13 rfl rfl rfl rfl fun rest => ?_;apply gS;refine gR rfl ?_;refine gP ?_;apply gE;apply gS;refine gR rfl ?_;refine GoR.call rfl rfl (aCF aFunc41 rfl) (s1 _) ?_ (by rintro _ _ ⟨b1, b2, q, _, A, e1⟩; cases q);rintro v0 h0 ⟨b1, b2, q, x0, A, e1⟩;cases q;refine ⟨_, rfl, ?_⟩;have := e0.1;replace e0 := e0.trans x0;refine GoR.call rfl rfl (aCF aFunc33 rfl) (None_ok) ?_ np;rintro v1 h1 ⟨q, x1⟩;cases q;refine ⟨_, rfl, ?_⟩;replace e1 := e1.trans x1;replace e0 := e0.trans x1;refine GoR.alloc rfl rfl rfl zt26 rfl rfl fun h2 x2 f2 => ?_;have := e1.1;have := e0.1;replace e1 := e1.trans x2;replace e0 := e0.trans x2;have := f2.1;refine GoR.alloc rfl rfl rfl zt27 rfl rfl fun h3 x3 f3 => ?_;have := e1.1;have := e0.1;have := f2.1;replace f2 := f2.ext x3;replace e1 := e1.trans x3;replace e0 := e0.trans x3;have := f3.1;refine GoR.store rfl rfl rfl rfl rfl rfl f2 rfl sz26 rfl rfl rfl fun h4 u4 => ?_;replace f3 := f3.upd u4 (by omega);replace f2 := u4.has f2;replace e1 := e1.upd u4 (by omega);replace e0 := e0.upd u4 (by omega);refine GoR.store rfl rfl rfl rfl rfl rfl f3 rfl sz27 rfl rfl rfl fun h5 u5 => ?_;replace f3 := u5.has f3;replace f2 := f2.upd u5 (by omega);replace e1 := e1.upd u5 (by omega);replace e0 := e0.upd u5 (by omega);apply gE;apply gS;refine gR rfl ?_;refine gO rfl rfl (ld26 rfl f2 rfl) rfl ?_;refine gO rfl rfl (aOp_buildArr zt27 Try.underlying27 sz3 rfl rfl) rfl ?_;refine GoR.call rfl rfl (aCF aFunc14 rfl) (hW (A.ext e1)) ?_ np;rintro v6 h6 ⟨q, x6⟩;cases q;refine ⟨_, rfl, ?_⟩;replace f3 := f3.ext x6;replace f2 := f2.ext x6;replace e1 := e1.trans x6;replace e0 := e0.trans x6;iterate 3 refine gP ?_
 refine GoR.alloc rfl rfl rfl zt31 rfl rfl fun h7 x7 f7 => ?_;have := e1.1;have := e0.1;have := f3.1;have := f2.1;replace f3 := f3.ext x7;replace f2 := f2.ext x7;replace e1 := e1.trans x7;replace e0 := e0.trans x7;have := f7.1;refine GoR.store rfl rfl rfl rfl rfl rfl f7 rfl sz31 rfl rfl rfl fun h8 u8 => ?_;replace f7 := u8.has f7;replace f3 := f3.upd u8 (by omega);replace f2 := f2.upd u8 (by omega);replace e1 := e1.upd u8 (by omega);replace e0 := e0.upd u8 (by omega);refine gP ?_;apply gE;apply gS;refine gR rfl ?_;refine gO rfl rfl (ld26 rfl f2 rfl) rfl ?_;refine gO rfl rfl (aOp_buildArr zt27 Try.underlying27 sz3 rfl rfl) rfl ?_;refine GoR.call rfl rfl (aCF aFunc16 rfl) (hC (A.ext e1)) ?_ np;rintro v9 h9 ⟨q, x9⟩;cases q;refine ⟨_, rfl, ?_⟩;replace f7 := f7.ext x9;replace f3 := f3.ext x9;replace f2 := f2.ext x9;replace e1 := e1.trans x9;replace e0 := e0.trans x9;iterate 5 refine gP ?_
 apply gE;apply gS;refine gR rfl ?_;refine gO rfl rfl (ld26 rfl f2 rfl) rfl ?_;refine GoR.call rfl rfl (aCF aFunc18 rfl) (hS1 (A.ext e1)) ?_ np;rintro v10 h10 ⟨q, x10⟩;cases q;refine ⟨_, rfl, ?_⟩;replace f7 := f7.ext x10;replace f3 := f3.ext x10;replace f2 := f2.ext x10;replace e1 := e1.trans x10;replace e0 := e0.trans x10;iterate 3 refine gP ?_
 refine GoR.alloc rfl rfl rfl zt27 rfl rfl fun h11 x11 f11 => ?_;have := e1.1;have := e0.1;have := f7.1;have := f3.1;have := f2.1;replace f7 := f7.ext x11;replace f3 := f3.ext x11;replace f2 := f2.ext x11;replace e1 := e1.trans x11;replace e0 := e0.trans x11;have := f11.1;refine GoR.store rfl rfl rfl rfl rfl rfl f11 rfl sz27 rfl rfl rfl fun h12 u12 => ?_;replace f11 := u12.has f11;replace f7 := f7.upd u12 (by omega);replace f3 := f3.upd u12 (by omega);replace f2 := f2.upd u12 (by omega);replace e1 := e1.upd u12 (by omega);replace e0 := e0.upd u12 (by omega);refine gP ?_;apply gE;apply gS;refine gR rfl ?_;refine gO rfl rfl (ld26 rfl f2 rfl) rfl ?_;refine GoR.call rfl rfl (aCF aFunc20 rfl) (hK (A.ext e1)) ?_ np;rintro v13 h13 ⟨q, x13⟩;cases q;refine ⟨_, rfl, ?_⟩;replace f11 := f11.ext x13;replace f7 := f7.ext x13;replace f3 := f3.ext x13;replace f2 := f2.ext x13;replace e1 := e1.trans x13;replace e0 := e0.trans x13;iterate 7 refine gP ?_
 apply gE;apply gS;refine gR rfl ?_;refine gO rfl rfl (ld26 rfl f2 rfl) rfl ?_;iterate 2 refine gO rfl rfl (aOp_buildArr zt27 Try.underlying27 sz3 rfl rfl) rfl ?_
 refine gO rfl rfl (ld27 rfl f3 rfl) rfl ?_;refine GoR.buildSl rfl rfl (ps := [(0, .agg pA.cells), (1, .agg pA.cells), (2, .agg none3.cells)]) (cs := [pA, pA, none3].flatMap Pl.cells) Try.underlying40 rfl sz27 zt27 rfl rfl rfl rfl fun h14 x14 f14 => ?_;have := e1.1;have := e0.1;have := f11.1;have := f7.1;have := f3.1;have := f2.1;replace f11 := f11.ext x14;replace f7 := f7.ext x14;replace f3 := f3.ext x14;replace f2 := f2.ext x14;replace e1 := e1.trans x14;replace e0 := e0.trans x14;have := f14.1;refine GoR.call rfl rfl (aCF aFunc22 rfl) (hB (A.ext e1) (pls_slice (L := [pA, pA, none3]) rfl (by assumption))) ?_ np;rintro v15 h15 ⟨q, x15⟩;cases q;refine ⟨_, rfl, ?_⟩;replace f14 := f14.ext x15;replace f11 := f11.ext x15;replace f7 := f7.ext x15;replace f3 := f3.ext x15;replace f2 := f2.ext x15;replace e1 := e1.trans x15;replace e0 := e0.trans x15;iterate 9 refine gP ?_
 apply gE;apply gS;refine gR rfl ?_;refine GoR.call rfl rfl (aCF aFunc41 rfl) (s2 _) ?_ (by rintro _ _ ⟨b3, b4, q, _, A2, e2⟩; cases q);rintro v16 h16 ⟨b3, b4, q, x16, A2, e2⟩;cases q;refine ⟨_, rfl, ?_⟩;have := e1.1;have := e0.1;replace f14 := f14.ext x16;replace f11 := f11.ext x16;replace f7 := f7.ext x16;replace f3 := f3.ext x16;replace f2 := f2.ext x16;replace e1 := e1.trans x16;replace e0 := e0.trans x16;refine GoR.call rfl rfl (aCF aFunc34 rfl) (hX (A2.ext e2)) ?_ (by rintro _ _ ⟨s, q, _, S, e3⟩; cases q);rintro v17 h17 ⟨s, q, x17, S, e3⟩;cases q;refine ⟨_, rfl, ?_⟩;have := e2.1;have := e1.1;have := e0.1;replace f14 := f14.ext x17;replace f11 := f11.ext x17;replace f7 := f7.ext x17;replace f3 := f3.ext x17;replace f2 := f2.ext x17;replace e2 := e2.trans x17;replace e1 := e1.trans x17;replace e0 := e0.trans x17;iterate 7 refine gP ?_
 apply gE;apply gS;refine gR rfl ?_;refine gO rfl rfl (ld26 rfl f2 rfl) rfl ?_;refine GoR.call rfl rfl (aCF aFunc38 rfl) (hM (A.ext e1)) ?_ np;rintro v18 h18 ⟨q, x18⟩;cases q;refine ⟨_, rfl, ?_⟩;replace f14 := f14.ext x18;replace f11 := f11.ext x18;replace f7 := f7.ext x18;replace f3 := f3.ext x18;replace f2 := f2.ext x18;replace e3 := e3.trans x18;replace e2 := e2.trans x18;replace e1 := e1.trans x18;replace e0 := e0.trans x18;iterate 7 refine gP ?_
 apply gE;apply gS;refine gR rfl ?_;refine gO rfl rfl (ld26 rfl f2 rfl) rfl ?_;refine GoR.call rfl rfl (aCF aFunc18 rfl) (hS2 (A.ext e1)) ?_ np;rintro v19 h19 ⟨q, x19⟩;cases q;refine ⟨_, rfl, ?_⟩;replace f14 := f14.ext x19;replace f11 := f11.ext x19;replace f7 := f7.ext x19;replace f3 := f3.ext x19;replace f2 := f2.ext x19;replace e3 := e3.trans x19;replace e2 := e2.trans x19;replace e1 := e1.trans x19;replace e0 := e0.trans x19;iterate 3 refine gP ?_
 refine GoR.alloc rfl rfl rfl zt27 rfl rfl fun h20 x20 f20 => ?_;have := e3.1;have := e2.1;have := e1.1;have := e0.1;have := f14.1;have := f11.1;have := f7.1;have := f3.1;have := f2.1;replace f14 := f14.ext x20;replace f11 := f11.ext x20;replace f7 := f7.ext x20;replace f3 := f3.ext x20;replace f2 := f2.ext x20;replace e3 := e3.trans x20;replace e2 := e2.trans x20;replace e1 := e1.trans x20;replace e0 := e0.trans x20;have := f20.1;refine GoR.store rfl rfl rfl rfl rfl rfl f20 rfl sz27 rfl rfl rfl fun h21 u21 => ?_;replace f20 := u21.has f20;replace f14 := f14.upd u21 (by omega);replace f11 := f11.upd u21 (by omega);replace f7 := f7.upd u21 (by omega);replace f3 := f3.upd u21 (by omega);replace f2 := f2.upd u21 (by omega);replace e3 := e3.upd u21 (by omega);replace e2 := e2.upd u21 (by omega);replace e1 := e1.upd u21 (by omega);replace e0 := e0.upd u21 (by omega);refine gP ?_;apply gE;iterate 2 apply gS
 refine Go.drawnE plan13_0 ?_;refine gQ rfl rfl (ld31 rfl f7 rfl) rfl ?_;refine GoE.call rfl rfl (aCF aFunc36 rfl) (span36_ok) (dK 0 0 rfl) ?_ np;rintro v22 h22 ⟨q, x22⟩;cases q;replace f20 := f20.ext x22;replace f14 := f14.ext x22;replace f11 := f11.ext x22;replace f7 := f7.ext x22;replace f3 := f3.ext x22;replace f2 := f2.ext x22;replace e3 := e3.trans x22;replace e2 := e2.trans x22;replace e1 := e1.trans x22;replace e0 := e0.trans x22;refine ⟨(rck (h2 := h22) rfl (ld31 rfl f7 rfl) recheck_nil), _, rfl, ?_⟩;refine gQ rfl rfl (aOp_neqSpan spanT31 rfl rfl (r := false) rfl) rfl ?_;iterate 2 refine gQ rfl rfl rfl rfl ?_
 refine gQ rfl rfl (kXF rfl rfl) rfl ?_;iterate 3 refine gQ rfl rfl rfl rfl ?_
 refine gQ rfl rfl (kXF rfl rfl) rfl ?_;iterate 3 refine gQ rfl rfl rfl rfl ?_
 refine gQ rfl rfl (kXF rfl rfl) rfl ?_;iterate 2 refine gQ rfl rfl rfl rfl ?_
 refine gQ rfl rfl (ld27 rfl f11 rfl) rfl ?_;refine gQ rfl rfl (aOp_buildArr zt27 Try.underlying27 sz3 rfl rfl) rfl ?_;refine gQ rfl rfl (aOp_neqArr (a := [0, 3, 5]) (b := [0, 3, 5]) (r := false) Try.underlying27 Try.underlying3 sz3 eqG27 rfl rfl rfl rfl rfl) rfl ?_;iterate 3 refine gQ rfl rfl rfl rfl ?_
 refine gQ rfl rfl (kXF rfl rfl) rfl ?_;iterate 3 refine gQ rfl rfl rfl rfl ?_
 refine gQ rfl rfl (kXF rfl rfl) rfl ?_;iterate 3 refine gQ rfl rfl rfl rfl ?_
 refine gQ rfl rfl (kXF rfl rfl) rfl ?_;iterate 3 refine gQ rfl rfl rfl rfl ?_
 refine gQ rfl rfl (kXF rfl rfl) rfl ?_;iterate 3 refine gQ rfl rfl rfl rfl ?_
 refine gQ rfl rfl (kXF rfl rfl) rfl ?_;iterate 3 refine gQ rfl rfl rfl rfl ?_
 refine gQ rfl rfl (kXF rfl rfl) rfl ?_;iterate 3 refine gQ rfl rfl rfl rfl ?_
 refine gQ rfl rfl (kXF rfl rfl) rfl ?_;iterate 3 refine gQ rfl rfl rfl rfl ?_
 refine gQ rfl rfl (kXF rfl rfl) rfl ?_;refine gQ rfl rfl rfl rfl ?_;refine GoE.end rfl ?_;refine gC (b := false) rfl ?_;refine gD ?_;apply gS;refine gR rfl ?_;refine gP ?_;refine gO rfl rfl (kET rfl rfl) rfl ?_;iterate 2 refine gP ?_
 iterate 2 refine gO rfl rfl (aOp_buildArr zt27 Try.underlying27 sz3 rfl rfl) rfl ?_
 refine gO rfl rfl (ld27 rfl f3 rfl) rfl ?_;refine GoR.buildSl rfl rfl (ps := [(0, .agg pA.cells), (1, .agg pA.cells), (2, .agg none3.cells)]) (cs := [pA, pA, none3].flatMap Pl.cells) Try.underlying40 rfl sz27 zt27 rfl rfl rfl rfl fun h23 x23 f23 => ?_;replace f20 := f20.ext x23;replace f14 := f14.ext x23;replace f11 := f11.ext x23;replace f7 := f7.ext x23;replace f3 := f3.ext x23;replace f2 := f2.ext x23;replace e3 := e3.trans x23;replace e2 := e2.trans x23;replace e1 := e1.trans x23;replace e0 := e0.trans x23;refine GoR.call rfl rfl (aCF aFunc40 rfl) (Plans_ok (L := [pA, pA, none3]) (M := [pA, pA, none3]) (S.ext e3) (pls_slice (L := [pA, pA, none3]) rfl (by assumption)) (by decide) (by decide)) ?_ np;rintro v24 h24 ⟨q, x24⟩;cases q;refine ⟨_, rfl, ?_⟩;replace e0 := e0.trans x24;iterate 3 refine gP ?_
 refine gO rfl rfl (kET rfl rfl) rfl ?_;iterate 3 refine gP ?_
 refine gO rfl rfl (kET rfl rfl) rfl ?_;iterate 3 refine gP ?_
 refine gO rfl rfl (kET rfl rfl) rfl ?_;iterate 3 refine gP ?_
 refine gO rfl rfl (kET rfl rfl) rfl ?_;iterate 3 refine gP ?_
 refine gO rfl rfl (kET rfl rfl) rfl ?_;iterate 2 refine gP ?_
 apply gE;exact gW Try.func13 rfl rfl ⟨rfl, e0⟩
end Go.Proofs.Ytmimdgjehnhnoaa

namespace Go.Proofs.Ytmimdgjehnhnoaa
open Go Go.AbsE
set_option linter.unusedSimpArgs false
set_option maxRecDepth 100000
set_option maxHeartbeats 0
set_option linter.unusedVariables false
end Go.Proofs.Ytmimdgjehnhnoaa

namespace Go.Proofs.Ytmimdgjehnhnoaa
open Go Go.AbsE
set_option linter.unusedSimpArgs false
set_option maxRecDepth 100000
set_option maxHeartbeats 0
set_option linter.unusedVariables false
theorem until0_ok {a b c : Int} {h : AH} : Runs Try.prog 73 [.agg [.int .i64 a, .int .i64 b, .int .i64 c], .int .i64 0] h (fun en h' => en = .ret (.bool true) ∧ Ext h h') := by
 have e0 : Ext h h := Ext.refl _
 refine Runs.intro aFunc73 rfl rfl rfl rfl fun rest => ?_;apply gS;refine gR rfl ?_;refine GoR.box rfl rfl rfl rfl rfl rfl fun h0 x0 f0 => ?_;replace e0 := e0.trans x0;refine gP ?_;apply gE;apply gS;refine Go.drawnE plan73_0 ?_;refine gQ rfl rfl rfl rfl ?_;refine gQ rfl rfl (aOp_indexAddrArr (i := 0) Try.underlying27 sz3 rfl rfl rfl) rfl ?_;refine gQ rfl rfl (ld3 rfl f0 rfl) rfl ?_
 by_cases hs0 : (a : Int) < (0 : Int)
 ·refine gQ rfl rfl (kLT rfl rfl) rfl ?_;refine gQ rfl rfl rfl rfl ?_;iterate 2 refine GoE.skip rfl rfl rfl ?_
  iterate 2 refine gQ rfl rfl rfl rfl ?_
  iterate 15 refine GoE.skip rfl rfl rfl ?_
  iterate 2 refine gQ rfl rfl rfl rfl ?_
  refine GoE.end rfl ?_;exact gW Try.func73 rfl rfl ⟨rfl, e0⟩
 ·refine gQ rfl rfl (kLF rfl rfl) rfl ?_;iterate 2 refine gQ rfl rfl rfl rfl ?_
  refine gQ rfl rfl (kET rfl rfl) rfl ?_;iterate 2 refine gQ rfl rfl rfl rfl ?_
  iterate 15 refine GoE.skip rfl rfl rfl ?_
  iterate 2 refine gQ rfl rfl rfl rfl ?_
  refine GoE.end rfl ?_;exact gW Try.func73 rfl rfl ⟨rfl, e0⟩
theorem until1_ok {a b c : Int} {r : Bool} (hr : decide (b < 0 ∨ 0 ≤ a ∧ a < b) = r) {h : AH} : Runs Try.prog 73 [.agg [.int .i64 a, .int .i64 b, .int .i64 c], .int .i64 1] h (fun en h' => en = .ret (.bool r) ∧ Ext h h') := by
 subst hr
 have e0 : Ext h h := Ext.refl _
 refine Runs.intro aFunc73 rfl rfl rfl rfl fun rest => ?_;apply gS;refine gR rfl ?_;refine GoR.box rfl rfl rfl rfl rfl rfl fun h0 x0 f0 => ?_;replace e0 := e0.trans x0;refine gP ?_;apply gE;apply gS;refine Go.drawnE plan73_0 ?_;refine gQ rfl rfl rfl rfl ?_;refine gQ rfl rfl (aOp_indexAddrArr (i := 1) Try.underlying27 sz3 rfl rfl rfl) rfl ?_;refine gQ rfl rfl (ld3 rfl f0 rfl) rfl ?_
 by_cases hs0 : (b : Int) < (0 : Int)
 ·refine gQ rfl rfl (kLT rfl rfl) rfl ?_;refine gQ rfl rfl rfl rfl ?_;iterate 2 refine GoE.skip rfl rfl rfl ?_
  iterate 2 refine gQ rfl rfl rfl rfl ?_
  iterate 15 refine GoE.skip rfl rfl rfl ?_
  iterate 2 refine gQ rfl rfl rfl rfl ?_
  refine GoE.end rfl ?_;exact gV (ret_end (aResult_of Try.func73 rfl rfl) ⟨ret_true (by omega), e0⟩)
 ·refine gQ rfl rfl (kLF rfl rfl) rfl ?_;iterate 2 refine gQ rfl rfl rfl rfl ?_
  refine gQ rfl rfl (kEF rfl rfl) rfl ?_;iterate 3 refine gQ rfl rfl rfl rfl ?_
  refine gQ rfl rfl (aS rfl rfl) rfl ?_;refine gQ rfl rfl (aOp_indexAddrArr (i := 0) Try.underlying27 sz3 rfl rfl rfl) rfl ?_;refine gQ rfl rfl (ld3 rfl f0 rfl) rfl ?_
  by_cases hs1 : ((0 : Int) : Int) ≤ a
  ·refine gQ rfl rfl (kNT rfl rfl) rfl ?_;iterate 2 refine gQ rfl rfl rfl rfl ?_
   refine gQ rfl rfl (aS rfl rfl) rfl ?_;refine gQ rfl rfl (aOp_indexAddrArr (i := 0) Try.underlying27 sz3 rfl rfl rfl) rfl ?_;refine gQ rfl rfl (ld3 rfl f0 rfl) rfl ?_;refine gQ rfl rfl rfl rfl ?_;refine gQ rfl rfl (aOp_indexAddrArr (i := 1) Try.underlying27 sz3 rfl rfl rfl) rfl ?_;refine gQ rfl rfl (ld3 rfl f0 rfl) rfl ?_
   by_cases hs2 : (a : Int) < b
   ·refine gQ rfl rfl (kLT rfl rfl) rfl ?_;iterate 3 refine gQ rfl rfl rfl rfl ?_
    refine GoE.end rfl ?_;exact gV (ret_end (aResult_of Try.func73 rfl rfl) ⟨ret_true (by omega), e0⟩)
   ·refine gQ rfl rfl (kLF rfl rfl) rfl ?_;iterate 3 refine gQ rfl rfl rfl rfl ?_
    refine GoE.end rfl ?_;exact gV (ret_end (aResult_of Try.func73 rfl rfl) ⟨ret_false (by omega), e0⟩)
  ·refine gQ rfl rfl (kNF rfl rfl) rfl ?_;refine gQ rfl rfl rfl rfl ?_;iterate 8 refine GoE.skip rfl rfl rfl ?_
   iterate 3 refine gQ rfl rfl rfl rfl ?_
   refine GoE.end rfl ?_;exact gV (ret_end (aResult_of Try.func73 rfl rfl) ⟨ret_false (by omega), e0⟩)
theorem until2_ok {a b c : Int} {r : Bool} (hr : decide (c < 0 ∨ 0 ≤ b ∧ b < c) = r) {h : AH} : Runs Try.prog 73 [.agg [.int .i64 a, .int .i64 b, .int .i64 c], .int .i64 2] h (fun en h' => en = .ret (.bool r) ∧ Ext h h') := by
 subst hr
 have e0 : Ext h h := Ext.refl _
 refine Runs.intro aFunc73 rfl rfl rfl rfl fun rest => ?_;apply gS;refine gR rfl ?_;refine GoR.box rfl rfl rfl rfl rfl rfl fun h0 x0 f0 => ?_;replace e0 := e0.trans x0;refine gP ?_;apply gE;apply gS;refine Go.drawnE plan73_0 ?_;refine gQ rfl rfl rfl rfl ?_;refine gQ rfl rfl (aOp_indexAddrArr (i := 2) Try.underlying27 sz3 rfl rfl rfl) rfl ?_;refine gQ rfl rfl (ld3 rfl f0 rfl) rfl ?_
 by_cases hs0 : (c : Int) < (0 : Int)
 ·refine gQ rfl rfl (kLT rfl rfl) rfl ?_;refine gQ rfl rfl rfl rfl ?_;iterate 2 refine GoE.skip rfl rfl rfl ?_
  iterate 2 refine gQ rfl rfl rfl rfl ?_
  iterate 15 refine GoE.skip rfl rfl rfl ?_
  iterate 2 refine gQ rfl rfl rfl rfl ?_
  refine GoE.end rfl ?_;exact gV (ret_end (aResult_of Try.func73 rfl rfl) ⟨ret_true (by omega), e0⟩)
 ·refine gQ rfl rfl (kLF rfl rfl) rfl ?_;iterate 2 refine gQ rfl rfl rfl rfl ?_
  refine gQ rfl rfl (kEF rfl rfl) rfl ?_;iterate 3 refine gQ rfl rfl rfl rfl ?_
  refine gQ rfl rfl (aS rfl rfl) rfl ?_;refine gQ rfl rfl (aOp_indexAddrArr (i := 1) Try.underlying27 sz3 rfl rfl rfl) rfl ?_;refine gQ rfl rfl (ld3 rfl f0 rfl) rfl ?_
  by_cases hs1 : ((0 : Int) : Int) ≤ b
  ·refine gQ rfl rfl (kNT rfl rfl) rfl ?_;iterate 2 refine gQ rfl rfl rfl rfl ?_
   refine gQ rfl rfl (aS rfl rfl) rfl ?_;refine gQ rfl rfl (aOp_indexAddrArr (i := 1) Try.underlying27 sz3 rfl rfl rfl) rfl ?_;refine gQ rfl rfl (ld3 rfl f0 rfl) rfl ?_;refine gQ rfl rfl rfl rfl ?_;refine gQ rfl rfl (aOp_indexAddrArr (i := 2) Try.underlying27 sz3 rfl rfl rfl) rfl ?_;refine gQ rfl rfl (ld3 rfl f0 rfl) rfl ?_
   by_cases hs2 : (b : Int) < c
   ·refine gQ rfl rfl (kLT rfl rfl) rfl ?_;iterate 3 refine gQ rfl rfl rfl rfl ?_
    refine GoE.end rfl ?_;exact gV (ret_end (aResult_of Try.func73 rfl rfl) ⟨ret_true (by omega), e0⟩)
   ·refine gQ rfl rfl (kLF rfl rfl) rfl ?_;iterate 3 refine gQ rfl rfl rfl rfl ?_
    refine GoE.end rfl ?_;exact gV (ret_end (aResult_of Try.func73 rfl rfl) ⟨ret_false (by omega), e0⟩)
  ·refine gQ rfl rfl (kNF rfl rfl) rfl ?_;refine gQ rfl rfl rfl rfl ?_;iterate 8 refine GoE.skip rfl rfl rfl ?_
   iterate 3 refine gQ rfl rfl rfl rfl ?_
   refine GoE.end rfl ?_;exact gV (ret_end (aResult_of Try.func73 rfl rfl) ⟨ret_false (by omega), e0⟩)
theorem numbers_ok {F : FootV} {rsl hsl : AVal} {p : Pl} {h : AH} (A : FootAt h F rsl hsl) (hl : F.rs.length ≤ 40) :
  Runs Try.prog 72 [.agg (F.cells rsl hsl), .agg p.cells] h (fun en h' => en = .ret (.bool (decide (p.Num F.rs.length))) ∧ Ext h h') := by
 have hl1 := A.rs.len
 rw [List.length_map] at hl1
 unfold FootV.cells Pl.cells
 by_cases c1 : p.Num F.rs.length
 ·have hy := ret_true c1
  unfold Pl.Num at c1
  have e0 : Ext h h := Ext.refl _
  refine Runs.intro aFunc72 rfl rfl rfl rfl fun rest => ?_;apply gS;refine gR rfl ?_;refine GoR.box rfl rfl rfl rfl rfl rfl fun h0 x0 f0 => ?_;replace e0 := e0.trans x0;refine GoR.box rfl rfl rfl rfl rfl rfl fun h1 x1 f1 => ?_;replace f0 := f0.ext x1;replace e0 := e0.trans x1;refine gP ?_;apply gE;iterate 2 apply gS
  refine gR rfl ?_;refine gP ?_;apply gE;refine Go.block noJ_ok ?_;refine Go.loop noJ_ok ?_;iterate 2 apply gS
  refine gR rfl ?_;refine gP ?_;refine gO rfl rfl (kLT rfl rfl) rfl ?_;apply gE;refine gC (b := true) rfl ?_;refine gD ?_;apply gS;refine Go.block noJ_ok ?_;apply gS;refine Go.drawnE plan72_0 ?_;refine gQ rfl rfl rfl rfl ?_;refine gQ rfl rfl (aOp_indexAddrArr (i := 0) Try.underlying27 sz3 rfl rfl rfl) rfl ?_;refine gQ rfl rfl (ld3 rfl f1 rfl) rfl ?_;refine gQ rfl rfl (fa26_0 rfl) rfl ?_;refine gQ rfl rfl (ld22 rfl f0 rfl) rfl ?_;refine gQ rfl rfl (aOp_lenSlice Try.underlying22 rfl hl1) rfl ?_;refine gQ rfl rfl (aS rfl rfl) rfl ?_;refine GoE.call rfl rfl (aCF aFunc74 rfl) (in74_is (r := true) (dt (by omega))) (dD 127 6 (dD 127 5 (dD 127 4 (dD 127 3 (dD 127 2 (dD 127 1 (dD 127 0 rfl))))))) ?_ np;rintro v2 h2 ⟨q, x2⟩;cases q;replace f1 := f1.ext x2;replace f0 := f0.ext x2;replace e0 := e0.trans x2;refine ⟨recheck_nil, _, rfl, ?_⟩;refine gQ rfl rfl rfl rfl ?_;refine GoE.end rfl ?_;refine gC (b := false) rfl ?_;refine gD ?_;refine Go.inBlock noJ_ok ?_;refine gR rfl ?_;refine gP ?_;refine gO rfl rfl (aA rfl rfl) rfl ?_;refine gP ?_;apply gE;refine Go.inLoop noJ_ok ?_;iterate 2 apply gS
  refine gR rfl ?_;refine gP ?_;refine gO rfl rfl (kLT rfl rfl) rfl ?_;apply gE;refine gC (b := true) rfl ?_;refine gD ?_;apply gS;refine Go.block noJ_ok ?_;apply gS;refine Go.drawnE plan72_0 ?_;refine gQ rfl rfl rfl rfl ?_;refine gQ rfl rfl (aOp_indexAddrArr (i := 1) Try.underlying27 sz3 rfl rfl rfl) rfl ?_;refine gQ rfl rfl (ld3 rfl f1 rfl) rfl ?_;refine gQ rfl rfl (fa26_0 rfl) rfl ?_;refine gQ rfl rfl (ld22 rfl f0 rfl) rfl ?_;refine gQ rfl rfl (aOp_lenSlice Try.underlying22 rfl hl1) rfl ?_;refine gQ rfl rfl (aS rfl rfl) rfl ?_;refine GoE.call rfl rfl (aCF aFunc74 rfl) (in74_is (r := true) (dt (by omega))) (dD 127 6 (dD 127 5 (dD 127 4 (dD 127 3 (dD 127 2 (dD 127 1 (dD 127 0 rfl))))))) ?_ np;rintro v3 h3 ⟨q, x3⟩;cases q;replace f1 := f1.ext x3;replace f0 := f0.ext x3;replace e0 := e0.trans x3;refine ⟨recheck_nil, _, rfl, ?_⟩;refine gQ rfl rfl rfl rfl ?_;refine GoE.end rfl ?_;refine gC (b := false) rfl ?_;refine gD ?_;refine Go.inBlock noJ_ok ?_;refine gR rfl ?_;refine gP ?_;refine gO rfl rfl (aA rfl rfl) rfl ?_;refine gP ?_;apply gE;refine Go.inLoop noJ_ok ?_;iterate 2 apply gS
  refine gR rfl ?_;refine gP ?_;refine gO rfl rfl (kLT rfl rfl) rfl ?_;apply gE;refine gC (b := true) rfl ?_;refine gD ?_;apply gS;refine Go.block noJ_ok ?_;apply gS;refine Go.drawnE plan72_0 ?_;refine gQ rfl rfl rfl rfl ?_;refine gQ rfl rfl (aOp_indexAddrArr (i := 2) Try.underlying27 sz3 rfl rfl rfl) rfl ?_;refine gQ rfl rfl (ld3 rfl f1 rfl) rfl ?_;refine gQ rfl rfl (fa26_0 rfl) rfl ?_;refine gQ rfl rfl (ld22 rfl f0 rfl) rfl ?_;refine gQ rfl rfl (aOp_lenSlice Try.underlying22 rfl hl1) rfl ?_;refine gQ rfl rfl (aS rfl rfl) rfl ?_;refine GoE.call rfl rfl (aCF aFunc74 rfl) (in74_is (r := true) (dt (by omega))) (dD 127 6 (dD 127 5 (dD 127 4 (dD 127 3 (dD 127 2 (dD 127 1 (dD 127 0 rfl))))))) ?_ np;rintro v4 h4 ⟨q, x4⟩;cases q;replace e0 := e0.trans x4;refine ⟨recheck_nil, _, rfl, ?_⟩;refine gQ rfl rfl rfl rfl ?_;refine GoE.end rfl ?_;refine gC (b := false) rfl ?_;refine gD ?_;refine Go.inBlock noJ_ok ?_;refine gR rfl ?_;refine gP ?_;refine gO rfl rfl (aA rfl rfl) rfl ?_;refine gP ?_;apply gE;refine Go.inLoop noJ_ok ?_;iterate 2 apply gS
  refine gR rfl ?_;refine gP ?_;refine gO rfl rfl (kLF rfl rfl) rfl ?_;apply gE;refine gC (b := false) rfl ?_;refine gD ?_;apply gS;refine gR rfl ?_;refine gP ?_;apply gE;exact gV (ret_end (aResult_of Try.func72 rfl rfl) ⟨hy, e0⟩)
 ·have hy := ret_false c1
  unfold Pl.Num at c1
  have e0 : Ext h h := Ext.refl _
  refine Runs.intro aFunc72 rfl rfl rfl rfl fun rest => ?_;apply gS;refine gR rfl ?_;refine GoR.box rfl rfl rfl rfl rfl rfl fun h0 x0 f0 => ?_;replace e0 := e0.trans x0;refine GoR.box rfl rfl rfl rfl rfl rfl fun h1 x1 f1 => ?_;replace f0 := f0.ext x1;replace e0 := e0.trans x1;refine gP ?_;apply gE;iterate 2 apply gS
  refine gR rfl ?_;refine gP ?_;apply gE;refine Go.block noJ_ok ?_;refine Go.loop noJ_ok ?_;iterate 2 apply gS
  refine gR rfl ?_;refine gP ?_;refine gO rfl rfl (kLT rfl rfl) rfl ?_;apply gE;refine gC (b := true) rfl ?_;refine gD ?_;apply gS;refine Go.block noJ_ok ?_;apply gS;refine Go.drawnE plan72_0 ?_;refine gQ rfl rfl rfl rfl ?_;refine gQ rfl rfl (aOp_indexAddrArr (i := 0) Try.underlying27 sz3 rfl rfl rfl) rfl ?_;refine gQ rfl rfl (ld3 rfl f1 rfl) rfl ?_;refine gQ rfl rfl (fa26_0 rfl) rfl ?_;refine gQ rfl rfl (ld22 rfl f0 rfl) rfl ?_;refine gQ rfl rfl (aOp_lenSlice Try.underlying22 rfl hl1) rfl ?_;refine gQ rfl rfl (aS rfl rfl) rfl ?_;refine GoE.call rfl rfl (aCF aFunc74 rfl) (in74_ok) (dD 127 6 (dD 127 5 (dD 127 4 (dD 127 3 (dD 127 2 (dD 127 1 (dD 127 0 rfl))))))) ?_ np;rintro v2 h2 ⟨q, x2⟩;cases q;replace f1 := f1.ext x2;replace f0 := f0.ext x2;replace e0 := e0.trans x2;refine ⟨recheck_nil, _, rfl, ?_⟩;refine gQ rfl rfl rfl rfl ?_;refine GoE.end rfl ?_
  by_cases hs0 : (-1 : Int) ≤ p.a ∧ p.a ≤ (↑F.rs.length : Int) - (1 : Int)
  ·rw [decide_eq_true hs0];refine gC (b := false) rfl ?_;refine gD ?_;refine Go.inBlock noJ_ok ?_;refine gR rfl ?_;refine gP ?_;refine gO rfl rfl (aA rfl rfl) rfl ?_;refine gP ?_;apply gE;refine Go.inLoop noJ_ok ?_;iterate 2 apply gS
   refine gR rfl ?_;refine gP ?_;refine gO rfl rfl (kLT rfl rfl) rfl ?_;apply gE;refine gC (b := true) rfl ?_;refine gD ?_;apply gS;refine Go.block noJ_ok ?_;apply gS;refine Go.drawnE plan72_0 ?_;refine gQ rfl rfl rfl rfl ?_;refine gQ rfl rfl (aOp_indexAddrArr (i := 1) Try.underlying27 sz3 rfl rfl rfl) rfl ?_;refine gQ rfl rfl (ld3 rfl f1 rfl) rfl ?_;refine gQ rfl rfl (fa26_0 rfl) rfl ?_;refine gQ rfl rfl (ld22 rfl f0 rfl) rfl ?_;refine gQ rfl rfl (aOp_lenSlice Try.underlying22 rfl hl1) rfl ?_;refine gQ rfl rfl (aS rfl rfl) rfl ?_;refine GoE.call rfl rfl (aCF aFunc74 rfl) (in74_ok) (dD 127 6 (dD 127 5 (dD 127 4 (dD 127 3 (dD 127 2 (dD 127 1 (dD 127 0 rfl))))))) ?_ np;rintro v3 h3 ⟨q, x3⟩;cases q;replace f1 := f1.ext x3;replace f0 := f0.ext x3;replace e0 := e0.trans x3;refine ⟨recheck_nil, _, rfl, ?_⟩;refine gQ rfl rfl rfl rfl ?_;refine GoE.end rfl ?_
   by_cases hs1 : (-1 : Int) ≤ p.b ∧ p.b ≤ (↑F.rs.length : Int) - (1 : Int)
   ·rw [decide_eq_true hs1];refine gC (b := false) rfl ?_;refine gD ?_;refine Go.inBlock noJ_ok ?_;refine gR rfl ?_;refine gP ?_;refine gO rfl rfl (aA rfl rfl) rfl ?_;refine gP ?_;apply gE;refine Go.inLoop noJ_ok ?_;iterate 2 apply gS
    refine gR rfl ?_;refine gP ?_;refine gO rfl rfl (kLT rfl rfl) rfl ?_;apply gE;refine gC (b := true) rfl ?_;refine gD ?_;apply gS;refine Go.block noJ_ok ?_;apply gS;refine Go.drawnE plan72_0 ?_;refine gQ rfl rfl rfl rfl ?_;refine gQ rfl rfl (aOp_indexAddrArr (i := 2) Try.underlying27 sz3 rfl rfl rfl) rfl ?_;refine gQ rfl rfl (ld3 rfl f1 rfl) rfl ?_;refine gQ rfl rfl (fa26_0 rfl) rfl ?_;refine gQ rfl rfl (ld22 rfl f0 rfl) rfl ?_;refine gQ rfl rfl (aOp_lenSlice Try.underlying22 rfl hl1) rfl ?_;refine gQ rfl rfl (aS rfl rfl) rfl ?_;refine GoE.call rfl rfl (aCF aFunc74 rfl) (in74_ok) (dD 127 6 (dD 127 5 (dD 127 4 (dD 127 3 (dD 127 2 (dD 127 1 (dD 127 0 rfl))))))) ?_ np;rintro v4 h4 ⟨q, x4⟩;cases q;replace e0 := e0.trans x4;refine ⟨recheck_nil, _, rfl, ?_⟩;refine gQ rfl rfl rfl rfl ?_;refine GoE.end rfl ?_
    by_cases hs2 : (-1 : Int) ≤ p.c ∧ p.c ≤ (↑F.rs.length : Int) - (1 : Int)
    ·rw [decide_eq_true hs2];refine gC (b := false) rfl ?_;refine gD ?_;refine Go.inBlock noJ_ok ?_;refine gR rfl ?_;refine gP ?_;refine gO rfl rfl (aA rfl rfl) rfl ?_;refine gP ?_;apply gE;refine Go.inLoop noJ_ok ?_;iterate 2 apply gS
     refine gR rfl ?_;refine gP ?_;refine gO rfl rfl (kLT rfl rfl) rfl ?_;apply gE;refine gC (b := true) rfl ?_;refine gD ?_;apply gS;refine Go.block noJ_ok ?_;apply gS;refine Go.drawnE plan72_0 ?_;refine gQ rfl rfl rfl rfl ?_;refine gQ rfl rfl (aOp_indexAddrArr (i := 3) Try.underlying27 sz3 rfl rfl (Nat.ble_eq_true_of_le (by omega))) rfl ?_
     (exfalso; omega)
    ·rw [decide_eq_false hs2];refine gC (b := true) rfl ?_;apply gS;refine gR rfl ?_;refine gP ?_;apply gE;exact gV (ret_end (aResult_of Try.func72 rfl rfl) ⟨hy, e0⟩)
   ·rw [decide_eq_false hs1];refine gC (b := true) rfl ?_;apply gS;refine gR rfl ?_;refine gP ?_;apply gE;exact gV (ret_end (aResult_of Try.func72 rfl rfl) ⟨hy, e0⟩)
  ·rw [decide_eq_false hs0];refine gC (b := true) rfl ?_;apply gS;refine gR rfl ?_;refine gP ?_;apply gE;exact gV (ret_end (aResult_of Try.func72 rfl rfl) ⟨hy, e0⟩)
theorem Plan_ok {F : FootV} {rsl hsl : AVal} {p : Pl} {h : AH} (A : FootAt h F rsl hsl) (hl : F.rs.length ≤ 40) :
  Runs Try.prog 31 [.agg (F.cells rsl hsl), .agg p.cells] h (fun en h' => en = .ret (.bool (decide (p.Ord F.rs.length))) ∧ Ext h h') := by
 have hn := fun h A => numbers_ok (F := F) (rsl := rsl) (hsl := hsl) (p := p) (h := h) A hl
 have yes : p.Ord F.rs.length → AEnd.ret (.bool true) = .ret (.bool (decide (p.Ord F.rs.length))) := ret_true
 have no : ¬ p.Ord F.rs.length → AEnd.ret (.bool false) = .ret (.bool (decide (p.Ord F.rs.length))) := ret_false
 by_cases c1 : p.Num F.rs.length
 ·rw [decide_eq_true c1] at hn
  by_cases c2 : p.b < 0 ∨ 0 ≤ p.a ∧ p.a < p.b
  ·by_cases c3 : p.c < 0 ∨ 0 ≤ p.b ∧ p.b < p.c
   ·have hy := yes (by unfold Pl.Num at c1; unfold Pl.Ord; omega)
    unfold FootV.cells Pl.cells at *
    have e0 : Ext h h := Ext.refl _
    refine Runs.intro aFunc31 rfl rfl rfl rfl fun rest => ?_;apply gS;refine gR rfl ?_;refine GoR.box rfl rfl rfl rfl rfl rfl fun h0 x0 f0 => ?_;replace e0 := e0.trans x0;refine GoR.box rfl rfl rfl rfl rfl rfl fun h1 x1 f1 => ?_;replace f0 := f0.ext x1;replace e0 := e0.trans x1;refine gP ?_;apply gE;apply gS;refine gR rfl ?_;refine gO rfl rfl (ld26 rfl f0 rfl) rfl ?_;refine gO rfl rfl (ld27 rfl f1 rfl) rfl ?_;refine GoR.call rfl rfl (aCF aFunc72 rfl) (hn _ (A.ext e0)) ?_ np;rintro v2 h2 ⟨q, x2⟩;cases q;refine ⟨_, rfl, ?_⟩;replace f1 := f1.ext x2;replace e0 := e0.trans x2;refine gP ?_;refine gO rfl rfl (ld27 rfl f1 rfl) rfl ?_;refine GoR.call rfl rfl (aCF aFunc73 rfl) (until0_ok) ?_ np;rintro v3 h3 ⟨q, x3⟩;cases q;refine ⟨_, rfl, ?_⟩;replace f1 := f1.ext x3;replace e0 := e0.trans x3;iterate 2 refine gP ?_
    refine gO rfl rfl (ld27 rfl f1 rfl) rfl ?_;refine GoR.call rfl rfl (aCF aFunc73 rfl) (until1_ok (decide_eq_true c2)) ?_ np;rintro v4 h4 ⟨q, x4⟩;cases q;refine ⟨_, rfl, ?_⟩;replace f1 := f1.ext x4;replace e0 := e0.trans x4;iterate 2 refine gP ?_
    refine gO rfl rfl (ld27 rfl f1 rfl) rfl ?_;refine GoR.call rfl rfl (aCF aFunc73 rfl) (until2_ok (decide_eq_true c3)) ?_ np;rintro v5 h5 ⟨q, x5⟩;cases q;refine ⟨_, rfl, ?_⟩;replace e0 := e0.trans x5;iterate 2 refine gP ?_
    apply gE;exact gV (ret_end (aResult_of Try.func31 rfl rfl) ⟨hy, e0⟩)
   ·have hy := no (by unfold Pl.Num at c1; unfold Pl.Ord; omega)
    unfold FootV.cells Pl.cells at *
    have e0 : Ext h h := Ext.refl _
    refine Runs.intro aFunc31 rfl rfl rfl rfl fun rest => ?_;apply gS;refine gR rfl ?_;refine GoR.box rfl rfl rfl rfl rfl rfl fun h0 x0 f0 => ?_;replace e0 := e0.trans x0;refine GoR.box rfl rfl rfl rfl rfl rfl fun h1 x1 f1 => ?_;replace f0 := f0.ext x1;replace e0 := e0.trans x1;refine gP ?_;apply gE;apply gS;refine gR rfl ?_;refine gO rfl rfl (ld26 rfl f0 rfl) rfl ?_;refine gO rfl rfl (ld27 rfl f1 rfl) rfl ?_;refine GoR.call rfl rfl (aCF aFunc72 rfl) (hn _ (A.ext e0)) ?_ np;rintro v2 h2 ⟨q, x2⟩;cases q;refine ⟨_, rfl, ?_⟩;replace f1 := f1.ext x2;replace e0 := e0.trans x2;refine gP ?_;refine gO rfl rfl (ld27 rfl f1 rfl) rfl ?_;refine GoR.call rfl rfl (aCF aFunc73 rfl) (until0_ok) ?_ np;rintro v3 h3 ⟨q, x3⟩;cases q;refine ⟨_, rfl, ?_⟩;replace f1 := f1.ext x3;replace e0 := e0.trans x3;iterate 2 refine gP ?_
    refine gO rfl rfl (ld27 rfl f1 rfl) rfl ?_;refine GoR.call rfl rfl (aCF aFunc73 rfl) (until1_ok (decide_eq_true c2)) ?_ np;rintro v4 h4 ⟨q, x4⟩;cases q;refine ⟨_, rfl, ?_⟩;replace f1 := f1.ext x4;replace e0 := e0.trans x4;iterate 2 refine gP ?_
    refine gO rfl rfl (ld27 rfl f1 rfl) rfl ?_;refine GoR.call rfl rfl (aCF aFunc73 rfl) (until2_ok (decide_eq_false c3)) ?_ np;rintro v5 h5 ⟨q, x5⟩;cases q;refine ⟨_, rfl, ?_⟩;replace e0 := e0.trans x5;iterate 2 refine gP ?_
    apply gE;exact gV (ret_end (aResult_of Try.func31 rfl rfl) ⟨hy, e0⟩)
  ·have hy := no (by unfold Pl.Num at c1; unfold Pl.Ord; omega)
   unfold FootV.cells Pl.cells at *
   have e0 : Ext h h := Ext.refl _
   refine Runs.intro aFunc31 rfl rfl rfl rfl fun rest => ?_;apply gS;refine gR rfl ?_;refine GoR.box rfl rfl rfl rfl rfl rfl fun h0 x0 f0 => ?_;replace e0 := e0.trans x0;refine GoR.box rfl rfl rfl rfl rfl rfl fun h1 x1 f1 => ?_;replace f0 := f0.ext x1;replace e0 := e0.trans x1;refine gP ?_;apply gE;apply gS;refine gR rfl ?_;refine gO rfl rfl (ld26 rfl f0 rfl) rfl ?_;refine gO rfl rfl (ld27 rfl f1 rfl) rfl ?_;refine GoR.call rfl rfl (aCF aFunc72 rfl) (hn _ (A.ext e0)) ?_ np;rintro v2 h2 ⟨q, x2⟩;cases q;refine ⟨_, rfl, ?_⟩;replace f1 := f1.ext x2;replace e0 := e0.trans x2;refine gP ?_;refine gO rfl rfl (ld27 rfl f1 rfl) rfl ?_;refine GoR.call rfl rfl (aCF aFunc73 rfl) (until0_ok) ?_ np;rintro v3 h3 ⟨q, x3⟩;cases q;refine ⟨_, rfl, ?_⟩;replace f1 := f1.ext x3;replace e0 := e0.trans x3;iterate 2 refine gP ?_
   refine gO rfl rfl (ld27 rfl f1 rfl) rfl ?_;refine GoR.call rfl rfl (aCF aFunc73 rfl) (until1_ok (decide_eq_false c2)) ?_ np;rintro v4 h4 ⟨q, x4⟩;cases q;refine ⟨_, rfl, ?_⟩;replace e0 := e0.trans x4;iterate 2 refine gP ?_
   iterate 2 refine GoR.skip rfl rfl rfl ?_
   iterate 2 refine gP ?_
   apply gE;exact gV (ret_end (aResult_of Try.func31 rfl rfl) ⟨hy, e0⟩)
 ·have hy := no (by unfold Pl.Num at c1; unfold Pl.Ord; omega)
  rw [decide_eq_false c1] at hn
  unfold FootV.cells Pl.cells at *
  have e0 : Ext h h := Ext.refl _
  refine Runs.intro aFunc31 rfl rfl rfl rfl fun rest => ?_;apply gS;refine gR rfl ?_;refine GoR.box rfl rfl rfl rfl rfl rfl fun h0 x0 f0 => ?_;replace e0 := e0.trans x0;refine GoR.box rfl rfl rfl rfl rfl rfl fun h1 x1 f1 => ?_;replace f0 := f0.ext x1;replace e0 := e0.trans x1;refine gP ?_;apply gE;apply gS;refine gR rfl ?_;refine gO rfl rfl (ld26 rfl f0 rfl) rfl ?_;refine gO rfl rfl (ld27 rfl f1 rfl) rfl ?_;refine GoR.call rfl rfl (aCF aFunc72 rfl) (hn _ (A.ext e0)) ?_ np;rintro v2 h2 ⟨q, x2⟩;cases q;refine ⟨_, rfl, ?_⟩;replace e0 := e0.trans x2;refine gP ?_;iterate 2 refine GoR.skip rfl rfl rfl ?_
  iterate 2 refine gP ?_
  iterate 2 refine GoR.skip rfl rfl rfl ?_
  iterate 2 refine gP ?_
  iterate 2 refine GoR.skip rfl rfl rfl ?_
  iterate 2 refine gP ?_
  apply gE;exact gV (ret_end (aResult_of Try.func31 rfl rfl) ⟨hy, e0⟩)
end Go.Proofs.Ytmimdgjehnhnoaa

namespace Go.Proofs.Ytmimdgjehnhnoaa
open Go Go.AbsE
set_option linter.unusedSimpArgs false
set_option maxRecDepth 100000
set_option maxHeartbeats 0
set_option linter.unusedVariables false
end Go.Proofs.Ytmimdgjehnhnoaa

namespace Go.Proofs.Ytmimdgjehnhnoaa
open Go Go.AbsE
set_option linter.unusedSimpArgs false
set_option maxRecDepth 100000
set_option maxHeartbeats 0
set_option linter.unusedVariables false
end Go.Proofs.Ytmimdgjehnhnoaa

namespace Go.Proofs.Ytmimdgjehnhnoaa
open Go Go.AbsE
set_option linter.unusedSimpArgs false
set_option maxRecDepth 100000
set_option maxHeartbeats 0
set_option linter.unusedVariables false
def FootV.tw (F : FootV) (R : List Int) (x : Int) (p : Pl) : Nat → Int
 | 0 => x
 | d + 1 => if doneV p d ≤ 2 then max 0 (F.tw R x p d + ((R[d]?).getD 0 - F.dr (doneV p d))) else F.tw R x p d
end Go.Proofs.Ytmimdgjehnhnoaa

namespace Go.Proofs.Ytmimdgjehnhnoaa
open Go Go.AbsE
set_option linter.unusedSimpArgs false
set_option maxRecDepth 100000
set_option maxHeartbeats 0
set_option linter.unusedVariables false
def FootV.TK (F : FootV) (R : List Int) (x : Int) (p : Pl) : Prop := ∀ k, k < 3 → p.at k = -1 ∨ F.tw R x p (p.at k).toNat ≤ F.lm k
instance (F : FootV) (R : List Int) (x : Int) (p : Pl) : Decidable (F.TK R x p) := by unfold FootV.TK; infer_instance
theorem lm_get {F : FootV} {rsl hsl : AVal} {k : Nat} (hk : k < 3) : ([rsl, .int .i64 F.men, .int .i64 F.l0, .int .i64 F.l1, .int .i64 F.l2, .int .i64 F.d0, .int .i64 F.d1, .int .i64 F.d2, hsl] : List AVal)[0 + 2 + k * 1]? = some (.int .i64 (F.lm k)) := by
 match k, hk with
 | 0, _ => rfl
 | 1, _ => rfl
 | 2, _ => rfl
theorem lm_in {F : FootV} (O : F.Ok) (k : Nat) : 0 ≤ F.lm k ∧ F.lm k ≤ 60 := by
 have := O.l0
 have := O.l1
 have := O.l2
 unfold FootV.lm
 split <;> omega
theorem ord_num {n : Int} {p : Pl} (h : p.Ord n) : p.Num n := by
 unfold Pl.Ord at h
 unfold Pl.Num
 omega
end Go.Proofs.Ytmimdgjehnhnoaa

namespace Go.Proofs.Ytmimdgjehnhnoaa
open Go Go.AbsE
set_option linter.unusedSimpArgs false
set_option maxRecDepth 100000
set_option maxHeartbeats 0
set_option linter.unusedVariables false
end Go.Proofs.Ytmimdgjehnhnoaa

namespace Go.Proofs.Ytmimdgjehnhnoaa
open Go Go.AbsE
set_option linter.unusedSimpArgs false
set_option maxRecDepth 100000
set_option maxHeartbeats 0
set_option linter.unusedVariables false
end Go.Proofs.Ytmimdgjehnhnoaa

namespace Go.Proofs.Ytmimdgjehnhnoaa
open Go Go.AbsE
set_option linter.unusedSimpArgs false
set_option maxRecDepth 100000
set_option maxHeartbeats 0
set_option linter.unusedVariables false
theorem kept_at {F : FootV} {T : Bool} {i : Nat} {p : Pl} : F.Kept T i p ↔ ∀ k, k < 3 → p.at k = -1 ∨ F.w T i p (p.at k).toNat ≤ F.lm k := by
 constructor
 ·intro h k hk
  match k, hk with
  | 0, _ => exact h.1
  | 1, _ => exact h.2.1
  | 2, _ => exact h.2.2
 ·intro h
  exact ⟨h 0 (by omega), h 1 (by omega), h 2 (by omega)⟩
end Go.Proofs.Ytmimdgjehnhnoaa

namespace Go.Proofs.Ytmimdgjehnhnoaa
open Go Go.AbsE
set_option linter.unusedSimpArgs false
set_option maxRecDepth 100000
set_option maxHeartbeats 0
set_option linter.unusedVariables false
def FootV.rain (F : FootV) (T : Bool) : List Int := F.rs.map fun r => if T then r.2 else r.1
def FootV.first (F : FootV) (T : Bool) : List Int := F.hs.map fun x => if T then x.hi else x.lo
theorem rain_get {F : FootV} {T : Bool} (d : Nat) : ((F.rain T)[d]?).getD 0 = F.rn T d := by
 unfold FootV.rain FootV.rn
 rw [List.getElem?_map]
 cases F.rs[d]? <;> rfl
theorem w_tw {F : FootV} {T : Bool} {i : Nat} {p : Pl} : ∀ d : Nat, F.w T i p d = F.tw (F.rain T) (F.st T i) p d
 | 0 => rfl
 | d + 1 => by
  have ih := w_tw (F := F) (T := T) (i := i) (p := p) d
  unfold FootV.w FootV.tw
  rw [ih, rain_get]
theorem tw_mono {F : FootV} {R R' : List Int} {x x' : Int} {p : Pl} (hx : x ≤ x') (hR : ∀ d : Nat, (R[d]?).getD 0 ≤ (R'[d]?).getD 0) : ∀ d : Nat, F.tw R x p d ≤ F.tw R' x' p d
 | 0 => hx
 | d + 1 => by
  have ih := tw_mono (F := F) (p := p) hx hR d
  have := hR d
  unfold FootV.tw
  split <;> omega
structure Truth (F : FootV) (R fl : List Int) : Prop where
 lr : R.length = F.rs.length
 r : ∀ (k : Nat) r x, F.rs[k]? = some r → R[k]? = some x → r.1 ≤ x ∧ x ≤ r.2
 lf : fl.length = F.hs.length
 f : ∀ (k : Nat) x w, F.hs[k]? = some x → fl[k]? = some w → x.lo ≤ w ∧ w ≤ x.hi
theorem Truth.get {F : FootV} {R fl : List Int} (t : Truth F R fl) (d : Nat) : F.rn false d ≤ (R[d]?).getD 0 ∧ (R[d]?).getD 0 ≤ F.rn true d := by
 unfold FootV.rn
 have hl := t.lr
 cases e : F.rs[d]? with
 | none =>
  have : R[d]? = none := by
   rw [List.getElem?_eq_none_iff] at e ⊢
   omega
  rw [this];exact ⟨Int.le_refl _, Int.le_refl _⟩
 | some r =>
  have hd := (List.getElem?_eq_some_iff.1 e).1
  have hx : R[d]? = some (R[d]'(by omega)) := List.getElem?_eq_getElem _
  rw [hx];exact t.r d r _ e hx
theorem Truth.first {F : FootV} (O : F.Ok) {R fl : List Int} (t : Truth F R fl) {i : Nat} (hi : i < F.hs.length) : ∃ x, fl[i]? = some x ∧ F.st false i ≤ x ∧ x ≤ F.st true i ∧ 0 ≤ x ∧ x ≤ 60 := by
 have hl := t.lf
 have hx : fl[i]? = some (fl[i]'(by omega)) := List.getElem?_eq_getElem _
 have hh : F.hs[i]? = some F.hs[i] := List.getElem?_eq_getElem hi
 have h1 := t.f i _ _ hh hx
 have h2 := O.h _ (List.getElem_mem hi)
 refine ⟨_, hx, ?_⟩
 unfold FootV.st
 rw [hh]
 dsimp only
 rw [if_neg (by simp), if_pos rfl]
 omega
theorem Truth.wet {F : FootV} {R fl : List Int} (t : Truth F R fl) {i : Nat} {x : Int} (h1 : F.st false i ≤ x) (h2 : x ≤ F.st true i) {p : Pl} (d : Nat) : F.w false i p d ≤ F.tw R x p d ∧ F.tw R x p d ≤ F.w true i p d := by
 rw [w_tw, w_tw];exact ⟨tw_mono h1 (fun d => by rw [rain_get]; exact (t.get d).1) d, tw_mono h2 (fun d => by rw [rain_get]; exact (t.get d).2) d⟩
theorem Truth.keeps {F : FootV} {R fl : List Int} (t : Truth F R fl) {i : Nat} {x : Int} (h1 : F.st false i ≤ x) (h2 : x ≤ F.st true i) {p : Pl} : (F.Kept true i p → F.TK R x p) ∧ (F.TK R x p → F.Kept false i p) := by
 constructor
 ·intro h k hk
  rcases kept_at.1 h k hk with q | q
  ·exact .inl q
  ·have := (t.wet h1 h2 (p := p) (p.at k).toNat).2
   exact .inr (by omega)
 ·intro h
  refine kept_at.2 fun k hk => ?_
  rcases h k hk with q | q
  ·exact .inl q
  ·have := (t.wet h1 h2 (p := p) (p.at k).toNat).1
   exact .inr (by omega)
end Go.Proofs.Ytmimdgjehnhnoaa
