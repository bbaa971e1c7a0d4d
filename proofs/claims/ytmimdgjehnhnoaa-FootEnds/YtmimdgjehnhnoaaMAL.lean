import Derived.Test.YtmimdgjehnhnoaaMAK
import Derived.Test.YtmimdgjehnhnoaaMAH
import Derived.Test.YtmimdgjehnhnoaaMAG
namespace Go.Proofs.Ytmimdgjehnhnoaa
open Go Go.AbsE
set_option linter.unusedSimpArgs false
set_option maxRecDepth 100000
set_option maxHeartbeats 0
set_option linter.unusedVariables false
instance (F : FootV) : Decidable F.Ok := decidable_of_iff (F.okB = true) (okB_iff F)
theorem needHeap_yes {F : FootV} {rsl hsl : AVal} {n : Int} {h : AH} (A : FootAt h F rsl hsl) (hl : F.hs.length ≤ 40) (hn : 0 ≤ n ∧ n ≤ (F.hs.length : Int) - 1) : Runs Try.prog 44 [.agg (F.cells rsl hsl), .int .i64 n] h (fun en h' => en = .ret (.tuple []) ∧ Ext h h') := by
 have := needHeap_ok (n := n) A hl
 rwa [if_pos hn] at this
theorem needHeap_no {F : FootV} {rsl hsl : AVal} {n : Int} {h : AH} (A : FootAt h F rsl hsl) (hl : F.hs.length ≤ 40) (hn : ¬ (0 ≤ n ∧ n ≤ (F.hs.length : Int) - 1)) : Runs Try.prog 44 [.agg (F.cells rsl hsl), .int .i64 n] h (fun en h' => en = .pan (refusal 2) ∧ Ext h h') := by
 have := needHeap_ok (n := n) A hl
 rwa [if_neg hn] at this
theorem needOrder_yes {F : FootV} {rsl hsl : AVal} {p : Pl} {h : AH} (A : FootAt h F rsl hsl) (hl : F.rs.length ≤ 40) (hp : p.Ord F.rs.length) : Runs Try.prog 45 [.agg (F.cells rsl hsl), .agg p.cells] h (fun en h' => en = .ret (.tuple []) ∧ Ext h h') := by
 have := needOrder_ok (a := p.a) (b := p.b) (c := p.c) A hl
 rwa [if_pos hp] at this
theorem needOrder_no {F : FootV} {rsl hsl : AVal} {p : Pl} {h : AH} (A : FootAt h F rsl hsl) (hl : F.rs.length ≤ 40) (hp : ¬ p.Ord F.rs.length) : Runs Try.prog 45 [.agg (F.cells rsl hsl), .agg p.cells] h (fun en h' => en = .pan (refusal 2) ∧ Ext h h') := by
 have := needOrder_ok (a := p.a) (b := p.b) (c := p.c) A hl
 rwa [if_neg hp] at this
theorem needDay_yes {F : FootV} {rsl hsl : AVal} {n : Int} {h : AH} (A : FootAt h F rsl hsl) (hl : F.rs.length ≤ 40) (hn : 0 ≤ n ∧ n ≤ (F.rs.length : Int)) : Runs Try.prog 46 [.agg (F.cells rsl hsl), .int .i64 n] h (fun en h' => en = .ret (.tuple []) ∧ Ext h h') := by
 have := needDay_ok (n := n) A hl
 rwa [if_pos hn] at this
theorem needDay_no {F : FootV} {rsl hsl : AVal} {n : Int} {h : AH} (A : FootAt h F rsl hsl) (hl : F.rs.length ≤ 40) (hn : ¬ (0 ≤ n ∧ n ≤ (F.rs.length : Int))) : Runs Try.prog 46 [.agg (F.cells rsl hsl), .int .i64 n] h (fun en h' => en = .pan (refusal 2) ∧ Ext h h') := by
 have := needDay_ok (n := n) A hl
 rwa [if_neg hn] at this
theorem attempt_puts {F : FootV} (O : F.Ok) (rsl hsl : AVal) (h : AH) (A : FootAt h F rsl hsl) (W : FuncId) (fW : Func) (hfid : aFunc Try.prog W = some fW) (caps : List AVal) (b : Nat) (hb : b < h.next) (o : ABlk)
  (hbody : ∀ h', Ext h h' → Runs Try.prog W ([.agg (F.cells rsl hsl)] ++ caps) h' (fun en h'' => en = .ret (.tuple []) ∧ ExtF (fun x => x = b) h' h'' ∧ Has h'' b o)) :
  Runs Try.prog 42 [.agg (F.cells rsl hsl), .func (.func W) [] caps] h (fun en h' => en = .ret (.int .i64 0) ∧ ExtF (fun x => x = b) h h' ∧ Has h' b o) :=
 attempt_does O rsl hsl h A W fW hfid caps (fun x => x = b) (fun x q => by subst q; exact hb) (fun h' => Has h' b o) (fun h4 h' le same t => t.keep le (same _ hb)) hbody
theorem wetB_no {F : FootV} (O : F.Ok) {rsl hsl : AVal} {i d : Int} {p : Pl} {bi bp bd br : Nat} {h : AH} (A : FootAt h F rsl hsl) (hno : ¬ ((0 ≤ i ∧ i ≤ (F.hs.length : Int) - 1) ∧ p.Ord F.rs.length ∧ 0 ≤ d ∧ d ≤ (F.rs.length : Int)))
  (f0 : Has h bi (.cells .plain [.int .i64 i] 3)) (f1 : Has h bp (.cells .plain [.int .i64 p.a, .int .i64 p.b, .int .i64 p.c] 27)) (f2 : Has h bd (.cells .plain [.int .i64 d] 3)) :
  Runs Try.prog 43 [.agg (F.cells rsl hsl), .ptr bi 0, .ptr bp 0, .ptr bd 0, .ptr br 0] h (fun en h' => en = .pan (refusal 2) ∧ Ext h h') := by
 have hnr := O.nr
 have hnh := O.nh
 have k1 := fun h A => needHeap_yes (F := F) (rsl := rsl) (hsl := hsl) (n := i) (h := h) A (by omega)
 have k2 := fun h A => needHeap_no (F := F) (rsl := rsl) (hsl := hsl) (n := i) (h := h) A (by omega)
 have k3 := fun h A => needOrder_yes (F := F) (rsl := rsl) (hsl := hsl) (p := p) (h := h) A (by omega)
 have k4 := fun h A => needOrder_no (F := F) (rsl := rsl) (hsl := hsl) (p := p) (h := h) A (by omega)
 have k5 := fun h A => needDay_no (F := F) (rsl := rsl) (hsl := hsl) (n := d) (h := h) A (by omega)
 unfold FootV.cells at k1 k2 k3 k4 k5 ⊢
 unfold Pl.cells at k3 k4
 by_cases c1 : 0 ≤ i ∧ i ≤ (F.hs.length : Int) - 1
 ·by_cases c2 : p.Ord F.rs.length
  ·have c3 : ¬ (0 ≤ d ∧ d ≤ (F.rs.length : Int)) := fun q => hno ⟨c1, c2, q⟩
   have e0 : Ext h h := Ext.refl _
   refine Runs.intro aFunc43 rfl rfl rfl rfl fun rest => ?_;apply gS;refine gR rfl ?_;refine GoR.box rfl rfl rfl rfl rfl rfl fun h3 x3 f3 => ?_;replace f0 := f0.ext x3;replace f1 := f1.ext x3;replace f2 := f2.ext x3;replace e0 := e0.trans x3;apply gE;apply gS;refine gR rfl ?_;refine gO rfl rfl (ld80 rfl f3 rfl) rfl ?_;refine gO rfl rfl (ld3 rfl f0 rfl) rfl ?_;refine GoR.call rfl rfl (aCF aFunc44 rfl) (k1 _ (A.ext e0) c1) ?_ np;rintro v4 h4 ⟨q, x4⟩;cases q;refine ⟨_, rfl, ?_⟩;replace f3 := f3.ext x4;replace f1 := f1.ext x4;replace f2 := f2.ext x4;replace e0 := e0.trans x4;apply gE;apply gS;refine gR rfl ?_;refine gO rfl rfl (ld80 rfl f3 rfl) rfl ?_;refine gO rfl rfl (ld27 rfl f1 rfl) rfl ?_;refine GoR.call rfl rfl (aCF aFunc45 rfl) (k3 _ (A.ext e0) c2) ?_ np;rintro v5 h5 ⟨q, x5⟩;cases q;refine ⟨_, rfl, ?_⟩;replace f3 := f3.ext x5;replace f2 := f2.ext x5;replace e0 := e0.trans x5;apply gE;apply gS;refine gR rfl ?_;refine gO rfl rfl (ld80 rfl f3 rfl) rfl ?_;refine gO rfl rfl (ld3 rfl f2 rfl) rfl ?_;refine GoR.callP rfl rfl (aCF aFunc46 rfl) (k5 _ (A.ext e0) c3) (by rintro _ _ ⟨q, _⟩; cases q) ?_;rintro chain h6 ⟨q, x6⟩
   have q := AEnd.pan.inj q
   subst q;replace e0 := e0.trans x6;exact FLeft.pan (⟨rfl, e0⟩)
  ·have e0 : Ext h h := Ext.refl _
   refine Runs.intro aFunc43 rfl rfl rfl rfl fun rest => ?_;apply gS;refine gR rfl ?_;refine GoR.box rfl rfl rfl rfl rfl rfl fun h3 x3 f3 => ?_;replace f0 := f0.ext x3;replace f1 := f1.ext x3;replace e0 := e0.trans x3;apply gE;apply gS;refine gR rfl ?_;refine gO rfl rfl (ld80 rfl f3 rfl) rfl ?_;refine gO rfl rfl (ld3 rfl f0 rfl) rfl ?_;refine GoR.call rfl rfl (aCF aFunc44 rfl) (k1 _ (A.ext e0) c1) ?_ np;rintro v4 h4 ⟨q, x4⟩;cases q;refine ⟨_, rfl, ?_⟩;replace f3 := f3.ext x4;replace f1 := f1.ext x4;replace e0 := e0.trans x4;apply gE;apply gS;refine gR rfl ?_;refine gO rfl rfl (ld80 rfl f3 rfl) rfl ?_;refine gO rfl rfl (ld27 rfl f1 rfl) rfl ?_;refine GoR.callP rfl rfl (aCF aFunc45 rfl) (k4 _ (A.ext e0) c2) (by rintro _ _ ⟨q, _⟩; cases q) ?_;rintro chain h5 ⟨q, x5⟩
   have q := AEnd.pan.inj q
   subst q;replace e0 := e0.trans x5;exact FLeft.pan (⟨rfl, e0⟩)
 ·have e0 : Ext h h := Ext.refl _
  refine Runs.intro aFunc43 rfl rfl rfl rfl fun rest => ?_;apply gS;refine gR rfl ?_;refine GoR.box rfl rfl rfl rfl rfl rfl fun h3 x3 f3 => ?_;replace f0 := f0.ext x3;replace e0 := e0.trans x3;apply gE;apply gS;refine gR rfl ?_;refine gO rfl rfl (ld80 rfl f3 rfl) rfl ?_;refine gO rfl rfl (ld3 rfl f0 rfl) rfl ?_;refine GoR.callP rfl rfl (aCF aFunc44 rfl) (k2 _ (A.ext e0) c1) (by rintro _ _ ⟨q, _⟩; cases q) ?_;rintro chain h4 ⟨q, x4⟩
  have q := AEnd.pan.inj q
  subst q;replace e0 := e0.trans x4;exact FLeft.pan (⟨rfl, e0⟩)
theorem wetB_ok {F : FootV} (O : F.Ok) {rsl hsl : AVal} {i d : Nat} {p : Pl} {bi bp bd br : Nat} {h : AH} (A : FootAt h F rsl hsl) (hi : i < F.hs.length) (hp : p.Ord F.rs.length) (hd : d ≤ F.rs.length)
  (f0 : Has h bi (.cells .plain [.int .i64 i] 3)) (f1 : Has h bp (.cells .plain [.int .i64 p.a, .int .i64 p.b, .int .i64 p.c] 27)) (f2 : Has h bd (.cells .plain [.int .i64 d] 3)) (f3 : Has h br (.cells .plain [.int .i64 0, .int .i64 0] 31)) (hb1 : bi ≠ br) (hb2 : bp ≠ br) (hb3 : bd ≠ br) :
  Runs Try.prog 43 [.agg (F.cells rsl hsl), .ptr bi 0, .ptr bp 0, .ptr bd 0, .ptr br 0] h (fun en h' => en = .ret (.tuple []) ∧ ExtF (fun x => x = br) h h' ∧ Has h' br (.cells .plain (spC (F.w false i p d, F.w true i p d)) 31)) := by
 have hnr := O.nr
 have hnh := O.nh
 have k1 := fun h A => needHeap_yes (F := F) (rsl := rsl) (hsl := hsl) (n := i) (h := h) A (by omega) (by omega)
 have k3 := fun h A => needOrder_yes (F := F) (rsl := rsl) (hsl := hsl) (p := p) (h := h) A (by omega) hp
 have k5 := fun h A => needDay_yes (F := F) (rsl := rsl) (hsl := hsl) (n := d) (h := h) A (by omega) (by omega)
 have k6 := fun h A => wet_ok O (rsl := rsl) (hsl := hsl) (h := h) A hi p d hd
 unfold FootV.cells at k1 k3 k5 k6 ⊢
 unfold Pl.cells at k3 k6
 have y0 : ExtF (fun b => b = br) h h := ExtF.of (Ext.refl _)
 have hbr := f3.1
 have e0 : Ext h h := Ext.refl _
 refine Runs.intro aFunc43 rfl rfl rfl rfl fun rest => ?_;apply gS;refine gR rfl ?_;refine GoR.box rfl rfl rfl rfl rfl rfl fun h4 x4 f4 => ?_;have := e0.1;have := f0.1;have := f1.1;have := f2.1;have := f3.1;replace f0 := f0.ext x4;replace f1 := f1.ext x4;replace f2 := f2.ext x4;replace f3 := f3.ext x4;replace e0 := e0.trans x4;replace y0 := y0.ext x4;have := f4.1;apply gE;apply gS;refine gR rfl ?_;refine gO rfl rfl (ld80 rfl f4 rfl) rfl ?_;refine gO rfl rfl (ld3 rfl f0 rfl) rfl ?_;refine GoR.call rfl rfl (aCF aFunc44 rfl) (k1 _ (A.ext e0)) ?_ np;rintro v5 h5 ⟨q, x5⟩;cases q;refine ⟨_, rfl, ?_⟩;replace f4 := f4.ext x5;replace f0 := f0.ext x5;replace f1 := f1.ext x5;replace f2 := f2.ext x5;replace f3 := f3.ext x5;replace e0 := e0.trans x5;replace y0 := y0.ext x5;apply gE;apply gS;refine gR rfl ?_;refine gO rfl rfl (ld80 rfl f4 rfl) rfl ?_;refine gO rfl rfl (ld27 rfl f1 rfl) rfl ?_;refine GoR.call rfl rfl (aCF aFunc45 rfl) (k3 _ (A.ext e0)) ?_ np;rintro v6 h6 ⟨q, x6⟩;cases q;refine ⟨_, rfl, ?_⟩;replace f4 := f4.ext x6;replace f0 := f0.ext x6;replace f1 := f1.ext x6;replace f2 := f2.ext x6;replace f3 := f3.ext x6;replace e0 := e0.trans x6;replace y0 := y0.ext x6;apply gE;apply gS;refine gR rfl ?_;refine gO rfl rfl (ld80 rfl f4 rfl) rfl ?_;refine gO rfl rfl (ld3 rfl f2 rfl) rfl ?_;refine GoR.call rfl rfl (aCF aFunc46 rfl) (k5 _ (A.ext e0)) ?_ np;rintro v7 h7 ⟨q, x7⟩;cases q;refine ⟨_, rfl, ?_⟩;replace f4 := f4.ext x7;replace f0 := f0.ext x7;replace f1 := f1.ext x7;replace f2 := f2.ext x7;replace f3 := f3.ext x7;replace e0 := e0.trans x7;replace y0 := y0.ext x7;apply gE;refine gR rfl ?_;refine gO rfl rfl (ld80 rfl f4 rfl) rfl ?_;refine gO rfl rfl (ld3 rfl f0 rfl) rfl ?_;refine gO rfl rfl (ld27 rfl f1 rfl) rfl ?_;refine gO rfl rfl (ld3 rfl f2 rfl) rfl ?_;refine GoR.call rfl rfl (aCF aFunc47 rfl) (k6 _ (A.ext e0)) ?_ np;rintro v8 h8 ⟨q, x8⟩;cases q;refine ⟨_, rfl, ?_⟩;replace f4 := f4.ext x8;replace f0 := f0.ext x8;replace f1 := f1.ext x8;replace f2 := f2.ext x8;replace f3 := f3.ext x8;replace e0 := e0.trans x8;replace y0 := y0.ext x8;refine GoR.store rfl rfl rfl rfl rfl rfl f3 rfl sz31 rfl rfl rfl fun h9 u9 => ?_;replace f4 := f4.upd u9 (by omega);replace f0 := f0.upd u9 (by omega);replace f1 := f1.upd u9 (by omega);replace f2 := f2.upd u9 (by omega);replace f3 := u9.has f3
 first | replace e0 := e0.upd u9 (by omega) | clear e0
 first | replace y0 := y0.upd u9 (by first | exact .inl rfl | exact .inl (.inl rfl) | exact .inl (.inr rfl) | exact .inl (by assumption) | exact .inr (by omega)) | skip
 apply gE;exact Go.endL (FLeft.ret (v := .tuple []) (aResult_of Try.func43 rfl rfl) ⟨rfl, y0, f3⟩)
def FootV.wetR (F : FootV) (i : Int) (p : Pl) (d : Int) : (Int × Int) × Int :=
 if F.Ok then (if (0 ≤ i ∧ i ≤ (F.hs.length : Int) - 1) ∧ p.Ord F.rs.length ∧ 0 ≤ d ∧ d ≤ (F.rs.length : Int) then ((F.w false i.toNat p d.toNat, F.w true i.toNat p d.toNat), 0) else ((0, 0), 2)) else ((0, 0), 1)
theorem Wet_ok {F : FootV} {rsl hsl : AVal} {h : AH} (A : FootAt h F rsl hsl) (hb1 : F.rs.length ≤ 40) (hb2 : F.hs.length ≤ 40) (i : Int) (p : Pl) (d : Int) :
  Runs Try.prog 14 [.agg (F.cells rsl hsl), .int .i64 i, .agg p.cells, .int .i64 d] h (fun en h' => en = .ret (.tuple [.agg (spC (F.wetR i p d).1), .int .i64 (F.wetR i p d).2]) ∧ Ext h h') := by
 unfold FootV.wetR
 by_cases O : F.Ok
 ·rw [if_pos O]
  by_cases hr : (0 ≤ i ∧ i ≤ (F.hs.length : Int) - 1) ∧ p.Ord F.rs.length ∧ 0 ≤ d ∧ d ≤ (F.rs.length : Int)
  ·rw [if_pos hr]
   obtain ⟨h1', h2', h3'⟩ := hr
   obtain ⟨i', rfl⟩ := Int.eq_ofNat_of_zero_le h1'.1
   obtain ⟨d', rfl⟩ := Int.eq_ofNat_of_zero_le h3'.1
   rw [Int.toNat_natCast, Int.toNat_natCast]
   have hat := attempt_puts O rsl hsl
   have hB := fun bi bp bd br h A => wetB_ok O (rsl := rsl) (hsl := hsl) (i := i') (d := d') (p := p) (bi := bi) (bp := bp) (bd := bd) (br := br) (h := h) A (by omega) h2' (by omega)
   unfold FootV.cells at hat hB ⊢
   unfold Pl.cells
   have e0 : Ext h h := Ext.refl _
   refine Runs.intro aFunc14 rfl rfl rfl rfl fun rest => ?_;apply gS;refine gR rfl ?_;refine GoR.box rfl rfl rfl rfl rfl rfl fun h0 x0 f0 => ?_;have := e0.1;replace e0 := e0.trans x0;have := f0.1;refine GoR.box rfl rfl rfl rfl rfl rfl fun h1 x1 f1 => ?_;have := e0.1;have := f0.1;replace f0 := f0.ext x1;replace e0 := e0.trans x1;have := f1.1;refine GoR.box rfl rfl rfl rfl rfl rfl fun h2 x2 f2 => ?_;have := e0.1;have := f1.1;have := f0.1;replace f1 := f1.ext x2;replace f0 := f0.ext x2;replace e0 := e0.trans x2;have := f2.1;refine GoR.box rfl rfl rfl rfl rfl rfl fun h3 x3 f3 => ?_;have := e0.1;have := f2.1;have := f1.1;have := f0.1;replace f2 := f2.ext x3;replace f1 := f1.ext x3;replace f0 := f0.ext x3;replace e0 := e0.trans x3;have := f3.1;refine GoR.alloc rfl rfl rfl zt31 rfl rfl fun h4 x4 f4 => ?_;have := e0.1;have := f3.1;have := f2.1;have := f1.1;have := f0.1;replace f3 := f3.ext x4;replace f2 := f2.ext x4;replace f1 := f1.ext x4;replace f0 := f0.ext x4;replace e0 := e0.trans x4;have := f4.1;refine gP ?_;apply gE;apply gS;refine gR rfl ?_;refine gO rfl rfl (ld26 rfl f0 rfl) rfl ?_;refine gP ?_;refine GoR.call rfl rfl (aCF aFunc42 rfl) (hat _ (A.ext e0) 43 _ aFunc43 _ h3.next (by omega) _ (fun h' e => hB _ _ _ _ h' ((A.ext e0).ext e) (f1.ext e) (f2.ext e) (f3.ext e) (f4.ext e) (by omega) (by omega) (by omega))) ?_ (by rintro _ _ ⟨q, _, _⟩; cases q);rintro v5 h5 ⟨q, y5, f5⟩;cases q;refine ⟨_, rfl, ?_⟩;have := e0.1;have := f4.1;have := f3.1;have := f2.1;have := f1.1;have := f0.1
   first | replace f4 := f4.extF y5 (fun q => by omega) | clear f4
   first | replace f3 := f3.extF y5 (fun q => by omega) | clear f3
   first | replace f2 := f2.extF y5 (fun q => by omega) | clear f2
   first | replace f1 := f1.extF y5 (fun q => by omega) | clear f1
   first | replace f0 := f0.extF y5 (fun q => by omega) | clear f0
   first | replace e0 := y5.low e0 (fun b q => by omega) | clear e0
   have := y5.1;refine gP ?_;apply gE;apply gS;refine gR rfl ?_;refine gO rfl rfl (ld31 rfl f5 rfl) rfl ?_;refine gP ?_;refine GoR.store rfl rfl rfl rfl rfl rfl f5 rfl sz31 rfl rfl rfl fun h6 u6 => ?_;replace f5 := u6.has f5;replace f3 := f3.upd u6 (by omega);replace f2 := f2.upd u6 (by omega);replace f1 := f1.upd u6 (by omega);replace f0 := f0.upd u6 (by omega)
   first | replace e0 := e0.upd u6 (by omega) | clear e0
   first | replace y5 := y5.upd u6 (by first | exact .inl rfl | exact .inl (.inl rfl) | exact .inl (.inr rfl) | exact .inl (by assumption) | exact .inr (by omega)) | skip
   refine gP ?_;apply gE;exact gV (ret_end (aResult_of Try.func14 rfl (aResults_c rfl f5 (inCells_agg ag31 sz31 rfl) rfl)) ⟨rfl, e0⟩)
  ·rw [if_neg hr]
   have hat := attempt_gives O rsl hsl
   have hB := fun bi bp bd br h A => wetB_no O (rsl := rsl) (hsl := hsl) (i := i) (d := d) (p := p) (bi := bi) (bp := bp) (bd := bd) (br := br) (h := h) A hr
   unfold FootV.cells at hat hB ⊢
   unfold Pl.cells
   have e0 : Ext h h := Ext.refl _
   refine Runs.intro aFunc14 rfl rfl rfl rfl fun rest => ?_;apply gS;refine gR rfl ?_;refine GoR.box rfl rfl rfl rfl rfl rfl fun h0 x0 f0 => ?_;have := e0.1;replace e0 := e0.trans x0;have := f0.1;refine GoR.box rfl rfl rfl rfl rfl rfl fun h1 x1 f1 => ?_;have := e0.1;have := f0.1;replace f0 := f0.ext x1;replace e0 := e0.trans x1;have := f1.1;refine GoR.box rfl rfl rfl rfl rfl rfl fun h2 x2 f2 => ?_;have := e0.1;have := f1.1;have := f0.1;replace f1 := f1.ext x2;replace f0 := f0.ext x2;replace e0 := e0.trans x2;have := f2.1;refine GoR.box rfl rfl rfl rfl rfl rfl fun h3 x3 f3 => ?_;have := e0.1;have := f2.1;have := f1.1;have := f0.1;replace f2 := f2.ext x3;replace f1 := f1.ext x3;replace f0 := f0.ext x3;replace e0 := e0.trans x3;have := f3.1;refine GoR.alloc rfl rfl rfl zt31 rfl rfl fun h4 x4 f4 => ?_;have := e0.1;have := f3.1;have := f2.1;have := f1.1;have := f0.1;replace f3 := f3.ext x4;replace f2 := f2.ext x4;replace f1 := f1.ext x4;replace f0 := f0.ext x4;replace e0 := e0.trans x4;have := f4.1;refine gP ?_;apply gE;apply gS;refine gR rfl ?_;refine gO rfl rfl (ld26 rfl f0 rfl) rfl ?_;refine gP ?_;refine GoR.call rfl rfl (aCF aFunc42 rfl) (hat _ (A.ext e0) 43 _ aFunc43 _ 2 (fun h' e => hB _ _ _ _ h' ((A.ext e0).ext e) (f1.ext e) (f2.ext e) (f3.ext e))) ?_ np;rintro v5 h5 ⟨q, x5⟩;cases q;refine ⟨_, rfl, ?_⟩;replace f4 := f4.ext x5;replace e0 := e0.trans x5;refine gP ?_;apply gE;apply gS;refine gR rfl ?_;refine gO rfl rfl (ld31 rfl f4 rfl) rfl ?_;refine gP ?_;refine GoR.store rfl rfl rfl rfl rfl rfl f4 rfl sz31 rfl rfl rfl fun h6 u6 => ?_;replace f4 := u6.has f4
   first | replace e0 := e0.upd u6 (by omega) | clear e0
   refine gP ?_;apply gE;exact gV (ret_end (aResult_of Try.func14 rfl (aResults_c rfl f4 (inCells_agg ag31 sz31 rfl) rfl)) ⟨rfl, e0⟩)
 ·rw [if_neg O]
  have hat := attempt_bad O hb1 hb2 rsl hsl
  unfold FootV.cells at hat ⊢
  unfold Pl.cells
  have e0 : Ext h h := Ext.refl _
  refine Runs.intro aFunc14 rfl rfl rfl rfl fun rest => ?_;apply gS;refine gR rfl ?_;refine GoR.box rfl rfl rfl rfl rfl rfl fun h0 x0 f0 => ?_;have := e0.1;replace e0 := e0.trans x0;have := f0.1;refine GoR.box rfl rfl rfl rfl rfl rfl fun h1 x1 f1 => ?_;have := e0.1;have := f0.1;replace f0 := f0.ext x1;replace e0 := e0.trans x1;have := f1.1;refine GoR.box rfl rfl rfl rfl rfl rfl fun h2 x2 f2 => ?_;have := e0.1;have := f1.1;have := f0.1;replace f1 := f1.ext x2;replace f0 := f0.ext x2;replace e0 := e0.trans x2;have := f2.1;refine GoR.box rfl rfl rfl rfl rfl rfl fun h3 x3 f3 => ?_;have := e0.1;have := f2.1;have := f1.1;have := f0.1;replace f2 := f2.ext x3;replace f1 := f1.ext x3;replace f0 := f0.ext x3;replace e0 := e0.trans x3;have := f3.1;refine GoR.alloc rfl rfl rfl zt31 rfl rfl fun h4 x4 f4 => ?_;have := e0.1;have := f3.1;have := f2.1;have := f1.1;have := f0.1;replace f0 := f0.ext x4;replace e0 := e0.trans x4;have := f4.1;refine gP ?_;apply gE;apply gS;refine gR rfl ?_;refine gO rfl rfl (ld26 rfl f0 rfl) rfl ?_;refine gP ?_;refine GoR.call rfl rfl (aCF aFunc42 rfl) (hat _ (A.ext e0) 43 _) ?_ np;rintro v5 h5 ⟨q, x5⟩;cases q;refine ⟨_, rfl, ?_⟩;replace f4 := f4.ext x5;replace e0 := e0.trans x5;refine gP ?_;apply gE;apply gS;refine gR rfl ?_;refine gO rfl rfl (ld31 rfl f4 rfl) rfl ?_;refine gP ?_;refine GoR.store rfl rfl rfl rfl rfl rfl f4 rfl sz31 rfl rfl rfl fun h6 u6 => ?_;replace f4 := u6.has f4
  first | replace e0 := e0.upd u6 (by omega) | clear e0
  refine gP ?_;apply gE;exact gV (ret_end (aResult_of Try.func14 rfl (aResults_c rfl f4 (inCells_agg ag31 sz31 rfl) rfl)) ⟨rfl, e0⟩)
end Go.Proofs.Ytmimdgjehnhnoaa

set_option linter.unusedSimpArgs false
namespace Go.AbsE
open Go
section
variable {P : Program}
def IterP (P : Program) (g : FuncId) (first cap : List AVal) (items : List (List AVal)) (A : AH → Prop) : Prop :=
 ∀ (y : AVal) (J E : Nat → AH → Prop) (h : AH), y.cells = [y] → scalars [y] = true → (∀ k h, J k h → A h) →
  (∀ (k : Nat) item h, items[k]? = some item → J k h → ∃ x, callY P y [.agg item] h = some x ∧ (∀ v h', x ≠ .val v h') ∧ Does P x (fun en h' => (en = .ret (.bool true) ∧ J (k + 1) h') ∨ (en = .ret (.bool false) ∧ E k h'))) →
  J 0 h → Runs P g (first ++ [y] ++ cap) h (fun en h' => en = .ret (.tuple []) ∧ (J items.length h' ∨ ∃ k, k < items.length ∧ E k h'))
theorem IterP.iter {g : FuncId} {first cap : List AVal} {items : List (List AVal)} {A : AH → Prop} (k : IterP P g first cap items A) : Iter P g first cap items A := by
 intro y base S J E h hyc hys hA hb T j0
 obtain ⟨fr, hfr, hr⟩ := k y (fun n h' => ExtF S h h' ∧ J n h') (fun n h' => ExtF S h h' ∧ E n h') h hyc hys (fun _ h' q => hA h' q.1) (fun n item h' hit q => by
  obtain ⟨x, c1, c2, c3⟩ := T.take hit q.2
  refine ⟨x, c1, c2, c3.mono fun en h'' r => ?_⟩
  have x2 : ExtF S h h'' := q.1.trans (fun _ w => .inl w) r.1
  exact r.2.elim (fun r => .inl ⟨r.1, x2, r.2⟩) (fun r => .inr ⟨r.1, x2, r.2⟩)) ⟨ExtF.of (Ext.refl _), j0⟩
 exact Runs.mono ⟨fr, hfr, hr⟩ fun en h' q => ⟨q.1, q.2.elim (fun r => r.1) (fun ⟨_, _, r⟩ => r.1), q.2.elim (fun r => .inl r.2) (fun ⟨m, hm, r⟩ => .inr ⟨m, hm, r.2⟩)⟩
theorem Go.rangeP {fn n : Nat} {ds : List ADef} {dk : Bool} {rst : List AFr} {k : List AItem} {Q : AM → Prop} {t : Tr AVal} {h : AH} {x : Operand} {params : Array Tmp} {assign body : Code} {g : FuncId} {gf fnr : Func} {first cap : List AVal}
  {items : List (List AVal)} {A : AH → Prop} (Inv : Nat → Nat → AH → Prop) (Fin : Nat → Code → AH → Prop)
  (hx : ev t x = some (.func (.func g) first cap)) (hg : aFunc P g = some gf) (hfn : P.funcs[fn]? = some fnr) (it : IterP P g first cap items A)
  (hA : ∀ lb j hh, Inv lb j hh → A hh) (hI : ∀ lb h2, h.next ≤ lb → Ext h h2 → Inv lb 0 h2)
  (kI : ∀ lb j h1 h2, Inv lb j h1 → h2.next = h1.next → (∀ b, b ≠ lb → h2.get b = h1.get b) → Inv lb j h2)
  (kF : ∀ lb c h1 h2, Fin lb c h1 → h2.next = h1.next → (∀ b, b ≠ lb → h2.get b = h1.get b) → Fin lb c h2)
  (bd : ∀ (j : Nat) item, items[j]? = some item → ∃ t1, putArgs t n params.toList [.agg item] = some t1 ∧ ∀ (hh : AH) (d lb : Nat) (r0 : ALoop) (fr : AFr) (rest : List AFr) (Q' : AM → Prop), Inv lb j hh → h.next ≤ d → d < lb → Has hh lb (.loop r0) → Has hh d (.deferred (some [])) → r0.state = .ready →
   (∀ tt h', Inv lb (j + 1) h' → Has h' lb (.loop { r0 with state := .busy }) → Has h' d (.deferred (some [])) → Go P ⟨fn, n, [], false, some lb, fr :: rest⟩ [] tt h' Q') →
   (∀ c tt h' kk, (c = .ret ∨ ∃ id, c = .exit id ∧ exitA id kk = none) → Fin lb c h' → Has h' lb (.loop { r0 with state := .busy }) → Has h' d (.deferred (some [])) → Go P ⟨fn, n, [], false, some lb, fr :: rest⟩ (.code c :: kk) tt h' Q') →
   Go P ⟨fn, n, [], false, some lb, fr :: rest⟩ [.code assign, .beginRound, .code body] t1 hh Q')
  (nx : ∀ d lb h3, h.next ≤ d → d < lb → Has h3 d (.deferred (some [])) → Inv lb items.length h3 → Go P ⟨fn, n, .collected d :: ds, dk, none, rst⟩ k t h3 Q)
  (fx : ∀ c d lb h3, h.next ≤ d → d < lb → Has h3 d (.deferred (some [])) → Fin lb c h3 → Go P ⟨fn, n, .collected d :: ds, dk, none, rst⟩ (.code c :: k) t h3 Q) :
  Go P ⟨fn, n, ds, dk, none, rst⟩ (.code (.rangeFunc x params assign body) :: k) t h Q := by
 refine Go.rangeFunc hx hg fun d lb h2 hd hlb e2 fd fl => ?_
 obtain ⟨r0, hr0, fl⟩ : ∃ r0 : ALoop, r0 = _ ∧ Has h2 lb (.loop r0) := ⟨_, rfl, fl⟩
 have n2 := e2.1
 let J : Nat → AH → Prop := fun j hh => Inv lb j hh ∧ Has hh lb (.loop r0) ∧ Has hh d (.deferred (some []))
 let E : Nat → AH → Prop := fun j hh => ∃ c, Fin lb c hh ∧ Has hh lb (.loop { r0 with state := .done, pending := some c }) ∧ Has hh d (.deferred (some []))
 have keepD : ∀ {h1 h3 : AH} {o : ABlk}, Has h1 d (.deferred (some [])) → Upd h1 lb o h3 → Has h3 d (.deferred (some [])) := fun a u => a.upd u (by omega)
 have tk : ∀ (k : Nat) item h, items[k]? = some item → J k h → ∃ x, callY P (.yield lb) [.agg item] h = some x ∧ (∀ v h', x ≠ .val v h') ∧ Does P x (fun en h' => (en = .ret (.bool true) ∧ J (k + 1) h') ∨ (en = .ret (.bool false) ∧ E k h')) := by
  rintro j item hh hit ⟨i, f, fd'⟩
  obtain ⟨t1, p1, p2⟩ := bd j item hit
  refine ⟨_, rfl, (fun _ _ q => by cases q), ?_⟩
  subst hr0
  refine Does.round f p1 hfn fun fr rest Q' hr hpn => ?_
  refine p2 hh d lb _ fr rest Q' i (by omega) (by omega) f fd' rfl ?_ ?_
  ·intro tt h' i' f' fd2
   refine Go.roundEnd f' fun h'' u => ?_
   exact hr (.bool true) h'' (.inl ⟨rfl, kI _ _ _ _ i' u.1 u.2.2, u.has f', keepD fd2 u⟩)
  ·intro c tt h' kk hc i' f' fd2
   have fin : ∀ h'', Upd h' lb (.loop { state := .done, pending := some c, fn := fn, n := n, tmps := t, params := params.toList, assign := assign, body := body, defers := d }) h'' → ∃ fr', fr.finish (.bool false) = some fr' ∧ Reach P ⟨fr' :: rest, h''⟩ Q' := by
    intro h'' u
    exact hr (.bool false) h'' (.inr ⟨rfl, c, kF _ _ _ _ i' u.1 u.2.2, u.has f', keepD fd2 u⟩)
   rcases hc with rfl | ⟨id, rfl, hk⟩
   ·exact Go.roundRet f' fin
   ·exact Go.roundExit f' hk fin
 refine ⟨_, it (.yield lb) J E h2 rfl rfl (fun k h j => hA _ _ _ j.1) tk ⟨hI _ _ (by omega) e2, fl, fd⟩, (fun chain h' q => by cases q.1), ?_⟩
 rintro v h' ⟨q, j | ⟨kk, hk, c, j, f, fd'⟩⟩
 ·obtain ⟨i, f, fd'⟩ := j
  refine ⟨r0, f, by rw [hr0]; exact (fun q => by cases q), fun h3 u => ?_⟩
  have hp : r0.pending = none := by rw [hr0]
  rw [hp]
  exact nx d lb h3 (by omega) (by omega) (keepD fd' u) (kI _ _ _ _ i u.1 u.2.2)
 ·refine ⟨_, f, (fun q => by cases q), fun h3 u => ?_⟩
  exact fx c d lb h3 (by omega) (by omega) (keepD fd' u) (kF _ _ _ _ j u.1 u.2.2)
end
end Go.AbsE

namespace Go.Proofs.Ytmimdgjehnhnoaa
open Go Go.AbsE
set_option linter.unusedSimpArgs false
set_option maxRecDepth 100000
set_option maxHeartbeats 0
set_option linter.unusedVariables false
def itC (a b m : Nat) : List Pl := (List.range m).map fun k => ⟨(a : Nat), (b : Nat), ((b + 1 + k : Nat) : Int)⟩
def itB (n a m : Nat) : List Pl := (List.range m).flatMap fun k => itC a (a + 1 + k) (n - (a + 1 + k + 1))
def itA (n m : Nat) : List Pl := (List.range m).flatMap fun a => itB n a (n - (a + 1))
def wholeL (n : Nat) : List Pl := itA n n
theorem fm_at {α : Type} {f : Nat → List α} {N m i : Nat} {x : α} (hm : m < N) (hx : (f m)[i]? = some x) : ((List.range N).flatMap f)[((List.range m).flatMap f).length + i]? = some x := by
 have h1 : List.range N = List.range m ++ (m :: (List.range (N - (m + 1))).map (· + (m + 1))) := by
  have : N = m + (1 + (N - (m + 1))) := by omega
  conv => lhs; rw [this, List.range_add, List.range_add]
  simp only [List.map_append, List.map_map]
  congr 1
  simp only [List.range_one, List.map_cons, List.map_nil, List.cons_append, List.nil_append, Nat.add_zero]
  congr 1
  refine List.map_congr_left fun k _ => ?_
  simp only [Function.comp_apply]
  omega
 have hi := (List.getElem?_eq_some_iff.1 hx).1
 rw [h1, List.flatMap_append, List.flatMap_cons, List.getElem?_append_right (by omega), Nat.add_sub_cancel_left, List.getElem?_append_left hi];exact hx
theorem fm_succ {α : Type} (f : Nat → List α) (m : Nat) : ((List.range (m + 1)).flatMap f).length = ((List.range m).flatMap f).length + (f m).length := by
 rw [List.range_succ, List.flatMap_append, List.length_append]
 simp
theorem itC_len (a b m : Nat) : (itC a b m).length = m := by simp [itC]
theorem itB_succ (n a j : Nat) : (itB n a (j + 1)).length = (itB n a j).length + (n - (a + 1 + j + 1)) := by
 unfold itB
 rw [fm_succ, itC_len]
theorem itA_succ (n a : Nat) : (itA n (a + 1)).length = (itA n a).length + (itB n a (n - (a + 1))).length := fm_succ _ _
theorem whole_at {n a j k : Nat} (ha : a < n) (hj : a + 1 + j < n) (hk : a + 1 + j + 1 + k < n) : (wholeL n)[(itA n a).length + ((itB n a j).length + k)]? = some ⟨(a : Nat), ((a + 1 + j : Nat) : Int), ((a + 1 + j + 1 + k : Nat) : Int)⟩ := by
 refine fm_at ha ?_;refine fm_at (by omega) ?_
 unfold itC
 rw [List.getElem?_map, List.getElem?_range (by omega)]
 rfl
def WholeA (F : FootV) (rsl hsl : AVal) (bw : Nat) (h : AH) : Prop := Has h bw (.cells .plain (F.cells rsl hsl) 80)
theorem whole_itP {F : FootV} (O : F.Ok) {rsl hsl : AVal} (hl : lenA rsl = some F.rs.length) (bw : Nat) : IterP Try.prog 119 [] [.ptr bw 0] ((wholeL F.rs.length).map Pl.cells) (WholeA F rsl hsl bw) := by
 intro y J E h hyc hys hA T j0
 show Runs Try.prog 119 [y, .ptr bw 0] h _
 have hnr := O.nr
 rw [List.length_map]
 unfold WholeA FootV.cells at hA
 obtain ⟨n, hn⟩ : ∃ n, F.rs.length = n := ⟨_, rfl⟩
 rw [hn] at T hl hnr ⊢
 have e0 : Ext h h := Ext.refl _
 have f0 := hA _ h j0
 refine Runs.intro aFunc119 rfl rfl rfl rfl fun rest => ?_;apply gS;refine gR rfl ?_;refine gO rfl rfl (fa80_0 rfl) rfl ?_;refine gO rfl rfl (ld22 rfl f0 rfl) rfl ?_;refine gO rfl rfl (aOp_lenSlice Try.underlying22 rfl (by assumption)) rfl ?_;refine gP ?_;apply gE;apply gS;refine gR rfl ?_;iterate 2 refine gP ?_
 apply gE;refine Go.block noJ_ok ?_;refine Go.loopKeep (fun a : Nat => [(0, y), (3, .int .i64 (n : Nat)), (10, .int .i64 (n : Nat)), (11, .int .i64 (a : Nat))]) (fun m a h' => m + a = n ∧ J (itA n a).length h') (n := n) 0 ⟨rfl, rfl, rfl, rfl, trivial⟩ ⟨rfl, j0⟩ ?_;clear e0 f0;rintro m a h1 ⟨hm, j1⟩ again
 have e0 : Ext h1 h1 := Ext.refl _
 by_cases ha : a < n
 ·apply gS;refine gR rfl ?_;refine gO rfl rfl (kLT rfl rfl) rfl ?_;apply gE;apply gS;refine gC (b := true) rfl ?_;refine gD ?_;apply gS;refine Go.block noJ_ok ?_;apply gS;refine gR rfl ?_;iterate 2 refine gP ?_
  apply gE;apply gS;refine gR rfl ?_;refine gP ?_;refine gO rfl rfl (aA rfl rfl) rfl ?_;refine gP ?_;apply gE;refine Go.block noJ_ok ?_;refine Go.loopKeep (fun j : Nat => [(0, y), (3, .int .i64 (n : Nat)), (4, .int .i64 (a : Nat)), (5, .int .i64 ((a + 1 + j : Nat) : Int)), (10, .int .i64 (n : Nat)), (11, .int .i64 (a : Nat))]) (fun m j h' => m + (a + 1 + j) = n ∧ J ((itA n a).length + (itB n a j).length) h') (n := n - (a + 1)) 0 ⟨rfl, rfl, rfl, rfl, rfl, rfl, trivial⟩ ⟨by omega, j1⟩ ?_;clear e0 j1;rintro m2 j h2 ⟨hm2, j1⟩ again2
  have e0 : Ext h2 h2 := Ext.refl _
  by_cases hj : a + 1 + j < n
  ·iterate 2 apply gS
   refine gR rfl ?_;iterate 2 refine gP ?_
   refine gO rfl rfl (kLT rfl rfl) rfl ?_;apply gE;refine gC (b := true) rfl ?_;refine gD ?_;apply gS;refine Go.block noJ_ok ?_;apply gS;refine gR rfl ?_;refine gP ?_;refine gO rfl rfl (aA rfl rfl) rfl ?_;refine gP ?_;apply gE;refine Go.block noJ_ok ?_;refine Go.loopKeep (fun k : Nat => [(0, y), (3, .int .i64 (n : Nat)), (4, .int .i64 (a : Nat)), (5, .int .i64 ((a + 1 + j : Nat) : Int)), (6, .int .i64 ((a + 1 + j + 1 + k : Nat) : Int)), (10, .int .i64 (n : Nat)), (11, .int .i64 (a : Nat))]) (fun m k h' => m + (a + 1 + j + 1 + k) = n ∧ J ((itA n a).length + ((itB n a j).length + k)) h') (n := n - (a + 1 + j + 1)) 0 ⟨rfl, rfl, rfl, rfl, rfl, rfl, rfl, trivial⟩ ⟨by omega, j1⟩ ?_;clear e0 j1;rintro m3 k h3 ⟨hm3, j1⟩ again3
   have e0 : Ext h3 h3 := Ext.refl _
   by_cases hk : a + 1 + j + 1 + k < n
   ·have hit : ((wholeL n).map Pl.cells)[(itA n a).length + ((itB n a j).length + k)]? = some [.int .i64 (a : Nat), .int .i64 ((a + 1 + j : Nat) : Int), .int .i64 ((a + 1 + j + 1 + k : Nat) : Int)] := by
     rw [List.getElem?_map, whole_at ha hj hk]
     rfl
    have hlt : (itA n a).length + ((itB n a j).length + k) < (wholeL n).length := (List.getElem?_eq_some_iff.1 (whole_at ha hj hk)).1
    iterate 2 apply gS
    refine gR rfl ?_;iterate 2 refine gP ?_
    refine gO rfl rfl (kLT rfl rfl) rfl ?_;apply gE;refine gC (b := true) rfl ?_;refine gD ?_;apply gS;refine Go.block noJ_ok ?_;apply gS;refine gR rfl ?_;iterate 4 refine gP ?_
    refine gO rfl rfl (aOp_buildArr zt83 Try.underlying83 sz3 rfl rfl) rfl ?_
    obtain ⟨ax, a1, a2, a3⟩ := T _ _ _ hit j1
    refine GoR.does rfl rfl (aOp_callY rfl rfl a1) a2 a3 ?_ (by rintro _ _ (⟨q, _⟩ | ⟨q, _⟩) <;> cases q);rintro v h6 (⟨q, j6⟩ | ⟨q, e6⟩)
    ·cases q;refine ⟨_, rfl, ?_⟩;refine gP ?_;apply gE;refine gC (b := false) rfl ?_;refine gD ?_;refine Go.inBlock noJ_ok ?_;refine gR rfl ?_;refine gP ?_;refine gO rfl rfl (aA rfl rfl) rfl ?_;refine gP ?_;apply gE;exact again3 (m3 - 1) (k + 1) _ _ (by omega) ⟨rfl, rfl, rfl, rfl, rfl, rfl, rfl, trivial⟩ ⟨by omega, j6⟩
    ·cases q;refine ⟨_, rfl, ?_⟩;refine gP ?_;apply gE;refine gC (b := true) rfl ?_;exact gV (ret_end (aResult_of Try.func119 rfl rfl) ⟨rfl, .inr ⟨_, hlt, e6⟩⟩)
   ·iterate 2 apply gS
    refine gR rfl ?_;iterate 2 refine gP ?_
    refine gO rfl rfl (kLF rfl rfl) rfl ?_;apply gE;refine gC (b := false) rfl ?_;refine gD ?_;refine Go.inBlock noJ_ok ?_;refine gR rfl ?_;refine gP ?_;refine gO rfl rfl (aA rfl rfl) rfl ?_;refine gP ?_;apply gE
    have hk' : n - (a + 1 + j + 1) = k := by omega
    exact again2 (m2 - 1) (j + 1) _ _ (by omega) ⟨rfl, rfl, rfl, rfl, rfl, rfl, trivial⟩ ⟨by omega, by rw [itB_succ, hk']; exact j1⟩
  ·iterate 2 apply gS
   refine gR rfl ?_;iterate 2 refine gP ?_
   refine gO rfl rfl (kLF rfl rfl) rfl ?_;apply gE;refine gC (b := false) rfl ?_;refine gD ?_;refine Go.inBlock noJ_ok ?_;refine gR rfl ?_;refine gO rfl rfl (aA rfl rfl) rfl ?_;refine gP ?_;apply gE
   have hj' : n - (a + 1) = j := by omega
   exact again (m - 1) (a + 1) _ _ (by omega) ⟨rfl, rfl, rfl, rfl, trivial⟩ ⟨by omega, by rw [itA_succ, hj']; exact j1⟩
 ·have ha' : a = n := by omega
  rw [ha'] at j1;apply gS;refine gR rfl ?_;refine gO rfl rfl (kLF rfl rfl) rfl ?_;apply gE;apply gS;refine gC (b := false) rfl ?_;refine gD ?_;exact Go.endL (FLeft.ret (v := .tuple []) (aResult_of Try.func119 rfl rfl) ⟨rfl, .inl j1⟩)
theorem whole_it {F : FootV} (O : F.Ok) {rsl hsl : AVal} (hl : lenA rsl = some F.rs.length) (bw : Nat) : Iter Try.prog 119 [] [.ptr bw 0] ((wholeL F.rs.length).map Pl.cells) (WholeA F rsl hsl bw) := (whole_itP O hl bw).iter
end Go.Proofs.Ytmimdgjehnhnoaa

namespace Go.Proofs.Ytmimdgjehnhnoaa
open Go Go.AbsE
set_option linter.unusedSimpArgs false
set_option maxRecDepth 100000
set_option maxHeartbeats 0
set_option linter.unusedVariables false
def stepV (p : Pl → Bool) (st : Option Pl) (x : Pl) : Option Pl := if p x then (match st with | none => some x | some q => if x.c < q.c then some x else some q) else st
def firstV (p : Pl → Bool) (L : List Pl) : Option Pl := L.foldl (stepV p) none
def zeroPl : Pl := ⟨0, 0, 0⟩
theorem better_ok (p q : Pl) (h : AH) : Runs Try.prog 93 [.agg p.cells, .agg q.cells] h (fun en h' => en = .ret (.bool (decide (p.c < q.c))) ∧ Ext h h') := by
 unfold Pl.cells
 have e0 : Ext h h := Ext.refl _
 refine Runs.intro aFunc93 rfl rfl rfl rfl fun rest => ?_;apply gS;refine gR rfl ?_;refine GoR.box rfl rfl rfl rfl rfl rfl fun h0 x0 f0 => ?_;replace e0 := e0.trans x0;refine GoR.box rfl rfl rfl rfl rfl rfl fun h1 x1 f1 => ?_;replace f0 := f0.ext x1;replace e0 := e0.trans x1;refine gP ?_;apply gE;apply gS;refine gR rfl ?_;refine gO rfl rfl (aOp_indexAddrArr (i := 2) Try.underlying83 sz3 rfl rfl rfl) rfl ?_;refine gO rfl rfl (ld3 rfl f0 rfl) rfl ?_;refine gO rfl rfl (aOp_indexAddrArr (i := 2) Try.underlying83 sz3 rfl rfl rfl) rfl ?_;refine gO rfl rfl (ld3 rfl f1 rfl) rfl ?_
 by_cases hs0 : (p.c : Int) < q.c
 ·refine gO rfl rfl (kLT rfl rfl) rfl ?_;refine gP ?_;apply gE;exact gV (ret_end (aResult_of Try.func93 rfl rfl) ⟨ret_true (by omega), e0⟩)
 ·refine gO rfl rfl (kLF rfl rfl) rfl ?_;refine gP ?_;apply gE;exact gV (ret_end (aResult_of Try.func93 rfl rfl) ⟨ret_false (by omega), e0⟩)
theorem first_ok {F : FootV} (O : F.Ok) {rsl hsl : AVal} {h : AH} (hl : lenA rsl = some F.rs.length) {bw : Nat} (hw : WholeA F rsl hsl bw h) {fid : FuncId} {caps : List AVal} {fn : Func} (hfid : aFunc Try.prog fid = some fn) (p : Pl → Bool)
  (hc : ∀ x h', x ∈ wholeL F.rs.length → Ext h h' → Runs Try.prog fid ([.agg (Pl.cells x)] ++ caps) h' (fun en h'' => en = .ret (.bool (p x)) ∧ Ext h' h'')) :
  Runs Try.prog 90 [.func (.func 119) [] [.ptr bw 0], .agg [.func (.func fid) [] caps, .func (.func 93) [] []]] h (fun en h' => en = .ret (.tuple [.agg ((firstV p (wholeL F.rs.length)).getD zeroPl).cells, .bool (firstV p (wholeL F.rs.length)).isSome]) ∧ Ext h h') := by
 have hit := whole_it O (hsl := hsl) hl bw
 have hw1 := hw.1
 obtain ⟨L, hL⟩ : ∃ L, wholeL F.rs.length = L := ⟨_, rfl⟩
 rw [hL] at hit hc ⊢
 have e0 : Ext h h := Ext.refl _
 refine Runs.intro aFunc90 rfl rfl rfl rfl fun rest => ?_;apply gS;refine gR rfl ?_;refine GoR.box rfl rfl rfl rfl rfl rfl fun h0 x0 f0 => ?_;have := e0.1;replace e0 := e0.trans x0;have := f0.1;refine GoR.alloc rfl rfl rfl zt83 rfl rfl fun h1 x1 f1 => ?_;have := e0.1;have := f0.1;replace f0 := f0.ext x1;replace e0 := e0.trans x1;have := f1.1;refine GoR.alloc rfl rfl rfl zt4 rfl rfl fun h2 x2 f2 => ?_;have := e0.1;have := f1.1;have := f0.1;replace f1 := f1.ext x2;replace f0 := f0.ext x2;replace e0 := e0.trans x2;have := f2.1;apply gE;iterate 2 apply gS
 refine gR rfl ?_;refine gP ?_;apply gE;refine Go.block noJ_ok ?_
 have hx0 := f0.1
 have hx1 := f1.1
 have hx2 := f2.1
 have he0 := e0.1
 have g0 := f0
 refine Go.rangeTk (items := L.map Pl.cells) (A := WholeA F rsl hsl bw) (fun b => b = h0.next ∨ b = h1.next)
  (fun j hh => Has hh h0.next (.cells .plain (((firstV p (L.take j)).getD zeroPl).cells) 83) ∧ Has hh h1.next (.cells .plain [.bool (firstV p (L.take j)).isSome] 4)) (fun _ _ => False)
  rfl aFunc119 Try.func90 hit (fun b q => by omega) (fun h' x => by
   have := (show Has h _ _ from hw).ext e0
   exact this.extF x (by omega)) ⟨f1, f2⟩ ?_ ?_ ?_ ?_ ?_
 ·rintro k p1 p2 ⟨fa, fb⟩ hn' hk;exact ⟨fa.keep hn' (hk _ (by omega)), fb.keep hn' (hk _ (by omega))⟩
 ·rintro _ _ _ q _ _;exact q.elim
 ·rintro j item hj;refine ⟨_, rfl, ?_⟩;rintro hh lb r0 fr rest' Q' ⟨fa, fb⟩ x7 hlb fl hready contT contF
  obtain ⟨x, hx, rfl⟩ : ∃ x, L[j]? = some x ∧ Pl.cells x = item := by
   rw [List.getElem?_map] at hj
   cases q : L[j]? with
   | none => rw [q] at hj; cases hj
   | some x => rw [q] at hj; exact ⟨x, rfl, Option.some.inj hj⟩
  obtain ⟨st, hst⟩ : ∃ st, firstV p (L.take j) = st := ⟨_, rfl⟩
  have hnext : firstV p (L.take (j + 1)) = stepV p st x := by
   unfold firstV at hst ⊢
   rw [List.take_add_one, hx, Option.toList_some, List.foldl_append, hst]
   rfl
  rw [hst] at fa fb;rw [hnext] at contT
  have hx7 := x7.1
  have hfl := fl.1
  replace f0 := f0.extF x7 (by omega)
  have e9 : Ext h hh := x7.low e0 (fun b q => by omega)
  have he9 := e9.1
  have y0 : ExtF (fun b => (b = h0.next ∨ b = h1.next) ∨ b = lb) hh hh := ExtF.of (Ext.refl _)
  clear e0 f1 f2
  unfold Pl.cells
  refine gR rfl ?_;refine GoR.alloc rfl rfl rfl zt83 rfl rfl fun h8 x8 f8 => ?_;have := e9.1;have := fl.1;have := fb.1;have := fa.1;have := f0.1;replace fl := fl.ext x8;replace fb := fb.ext x8;replace fa := fa.ext x8;replace f0 := f0.ext x8;replace e9 := e9.trans x8;replace y0 := y0.ext x8;have := f8.1;refine GoR.store rfl rfl rfl rfl rfl rfl f8 rfl sz83 rfl rfl rfl fun h9 u9 => ?_;replace f8 := u9.has f8;replace fl := fl.upd u9 (by omega);replace fb := fb.upd u9 (by omega);replace fa := fa.upd u9 (by omega);replace f0 := f0.upd u9 (by omega)
  first | replace e9 := e9.upd u9 (by omega) | clear e9
  first | replace y0 := y0.upd u9 (by first | exact .inl rfl | ((try dsimp only) <;> omega) | exact .inl (by assumption) | exact .inr (by omega)) | skip
  apply gE;refine Go.beginRound fl hready fun h30 u30 => ?_;replace f8 := f8.upd u30 (by omega);replace fb := fb.upd u30 (by omega);replace fa := fa.upd u30 (by omega);replace f0 := f0.upd u30 (by omega);replace fl := u30.has fl;replace e9 := e9.upd u30 (by omega);replace y0 := y0.upd u30 (.inl (.inr rfl))
  have hx30 := u30.1
  have hcx := hc x h30 (List.mem_of_getElem? hx) e9
  unfold Pl.cells at hcx
  cases hp : p x with
  | false =>
   rw [hp] at hcx
   have hs : stepV p st x = st := by unfold stepV; rw [hp]; rfl
   rw [hs] at contT;refine Go.block noJ_ok ?_;apply gS;refine gR rfl ?_;refine gO rfl rfl (fa130_0 rfl) rfl ?_;refine gO rfl rfl (ld127 rfl f0 rfl) rfl ?_;refine gO rfl rfl (ld83 rfl f8 rfl) rfl ?_;refine GoR.call rfl rfl (aOp_callVal rfl hfid rfl) (hcx) ?_ np;rintro v31 h31 ⟨q, x31⟩;cases q;refine ⟨_, rfl, ?_⟩;replace f8 := f8.ext x31;replace fb := fb.ext x31;replace fa := fa.ext x31;replace f0 := f0.ext x31;replace fl := fl.ext x31;replace e9 := e9.trans x31;replace y0 := y0.ext x31;refine gP ?_;iterate 9 refine GoR.skip rfl rfl rfl ?_
   refine gP ?_;apply gE;refine gC (b := false) rfl ?_;refine gD ?_;refine Go.inBlock noJ_ok ?_;exact contT _ _ ⟨fa, fb⟩ y0 fl
  | true =>
   rw [hp] at hcx
   cases st with
   | none =>
    have hs : stepV p none x = some x := by unfold stepV; rw [hp]; rfl
    rw [hs] at contT;refine Go.block noJ_ok ?_;apply gS;refine gR rfl ?_;refine gO rfl rfl (fa130_0 rfl) rfl ?_;refine gO rfl rfl (ld127 rfl f0 rfl) rfl ?_;refine gO rfl rfl (ld83 rfl f8 rfl) rfl ?_;refine GoR.call rfl rfl (aOp_callVal rfl hfid rfl) (hcx) ?_ np;rintro v31 h31 ⟨q, x31⟩;cases q;refine ⟨_, rfl, ?_⟩;replace f8 := f8.ext x31;replace f0 := f0.ext x31;replace fl := fl.ext x31;replace fb := fb.ext x31;replace fa := fa.ext x31;replace e9 := e9.trans x31;replace y0 := y0.ext x31;refine gP ?_;refine gO rfl rfl (ld4 rfl fb rfl) rfl ?_;iterate 2 refine gP ?_
    iterate 5 refine GoR.skip rfl rfl rfl ?_
    iterate 2 refine gP ?_
    apply gE;refine gC (b := true) rfl ?_;refine gR rfl ?_;refine gO rfl rfl (ld83 rfl f8 rfl) rfl ?_;refine GoR.store rfl rfl rfl rfl rfl rfl fa rfl sz83 rfl rfl rfl fun h32 u32 => ?_;replace f8 := f8.upd u32 (by omega);replace f0 := f0.upd u32 (by omega);replace fl := fl.upd u32 (by omega);replace fb := fb.upd u32 (by omega);replace fa := u32.has fa
    first | replace e9 := e9.upd u32 (by omega) | clear e9
    first | replace y0 := y0.upd u32 (by first | exact .inl rfl | ((try dsimp only) <;> omega) | exact .inl (by assumption) | exact .inr (by omega)) | skip
    refine GoR.store rfl rfl rfl rfl rfl rfl fb rfl sz4 rfl rfl rfl fun h33 u33 => ?_;replace f8 := f8.upd u33 (by omega);replace f0 := f0.upd u33 (by omega);replace fl := fl.upd u33 (by omega);replace fb := u33.has fb;replace fa := fa.upd u33 (by omega)
    first | replace e9 := e9.upd u33 (by omega) | clear e9
    first | replace y0 := y0.upd u33 (by first | exact .inl rfl | ((try dsimp only) <;> omega) | exact .inl (by assumption) | exact .inr (by omega)) | skip
    apply gE;refine Go.inBlock noJ_ok ?_;exact contT _ _ ⟨fa, fb⟩ y0 fl
   | some q =>
    by_cases hq : x.c < q.c
    ·have hs : stepV p (some q) x = some x := by unfold stepV; rw [hp]; simp [hq]
     rw [hs] at contT
     have hb := fun h => better_ok x q h
     rw [decide_eq_true hq] at hb
     unfold Pl.cells at hb
     unfold Pl.cells at fa
     refine Go.block noJ_ok ?_;apply gS;refine gR rfl ?_;refine gO rfl rfl (fa130_0 rfl) rfl ?_;refine gO rfl rfl (ld127 rfl f0 rfl) rfl ?_;refine gO rfl rfl (ld83 rfl f8 rfl) rfl ?_;refine GoR.call rfl rfl (aOp_callVal rfl hfid rfl) (hcx) ?_ np;rintro v31 h31 ⟨q, x31⟩;cases q;refine ⟨_, rfl, ?_⟩;replace f8 := f8.ext x31;replace f0 := f0.ext x31;replace fl := fl.ext x31;replace fb := fb.ext x31;replace fa := fa.ext x31;replace e9 := e9.trans x31;replace y0 := y0.ext x31;refine gP ?_;refine gO rfl rfl (ld4 rfl fb rfl) rfl ?_;iterate 2 refine gP ?_
     refine gO rfl rfl (fa130_1 rfl) rfl ?_;refine gO rfl rfl (ld128 rfl f0 rfl) rfl ?_;refine gO rfl rfl (ld83 rfl f8 rfl) rfl ?_;refine gO rfl rfl (ld83 rfl fa rfl) rfl ?_;refine GoR.call rfl rfl (aOp_callVal rfl aFunc93 rfl) (hb _) ?_ np;rintro v32 h32 ⟨q, x32⟩;cases q;refine ⟨_, rfl, ?_⟩;replace f8 := f8.ext x32;replace f0 := f0.ext x32;replace fl := fl.ext x32;replace fb := fb.ext x32;replace fa := fa.ext x32;replace e9 := e9.trans x32;replace y0 := y0.ext x32;iterate 2 refine gP ?_
     apply gE;refine gC (b := true) rfl ?_;refine gR rfl ?_;refine gO rfl rfl (ld83 rfl f8 rfl) rfl ?_;refine GoR.store rfl rfl rfl rfl rfl rfl fa rfl sz83 rfl rfl rfl fun h33 u33 => ?_;replace f8 := f8.upd u33 (by omega);replace f0 := f0.upd u33 (by omega);replace fl := fl.upd u33 (by omega);replace fb := fb.upd u33 (by omega);replace fa := u33.has fa
     first | replace e9 := e9.upd u33 (by omega) | clear e9
     first | replace y0 := y0.upd u33 (by first | exact .inl rfl | ((try dsimp only) <;> omega) | exact .inl (by assumption) | exact .inr (by omega)) | skip
     refine GoR.store rfl rfl rfl rfl rfl rfl fb rfl sz4 rfl rfl rfl fun h34 u34 => ?_;replace f8 := f8.upd u34 (by omega);replace f0 := f0.upd u34 (by omega);replace fl := fl.upd u34 (by omega);replace fb := u34.has fb;replace fa := fa.upd u34 (by omega)
     first | replace e9 := e9.upd u34 (by omega) | clear e9
     first | replace y0 := y0.upd u34 (by first | exact .inl rfl | ((try dsimp only) <;> omega) | exact .inl (by assumption) | exact .inr (by omega)) | skip
     apply gE;refine Go.inBlock noJ_ok ?_;exact contT _ _ ⟨fa, fb⟩ y0 fl
    ·have hs : stepV p (some q) x = some q := by unfold stepV; rw [hp]; simp [hq]
     rw [hs] at contT
     have hb := fun h => better_ok x q h
     rw [decide_eq_false hq] at hb
     unfold Pl.cells at hb
     unfold Pl.cells at fa
     refine Go.block noJ_ok ?_;apply gS;refine gR rfl ?_;refine gO rfl rfl (fa130_0 rfl) rfl ?_;refine gO rfl rfl (ld127 rfl f0 rfl) rfl ?_;refine gO rfl rfl (ld83 rfl f8 rfl) rfl ?_;refine GoR.call rfl rfl (aOp_callVal rfl hfid rfl) (hcx) ?_ np;rintro v31 h31 ⟨q, x31⟩;cases q;refine ⟨_, rfl, ?_⟩;replace f8 := f8.ext x31;replace f0 := f0.ext x31;replace fl := fl.ext x31;replace fb := fb.ext x31;replace fa := fa.ext x31;replace y0 := y0.ext x31;refine gP ?_;refine gO rfl rfl (ld4 rfl fb rfl) rfl ?_;iterate 2 refine gP ?_
     refine gO rfl rfl (fa130_1 rfl) rfl ?_;refine gO rfl rfl (ld128 rfl f0 rfl) rfl ?_;refine gO rfl rfl (ld83 rfl f8 rfl) rfl ?_;refine gO rfl rfl (ld83 rfl fa rfl) rfl ?_;refine GoR.call rfl rfl (aOp_callVal rfl aFunc93 rfl) (hb _) ?_ np;rintro v32 h32 ⟨q, x32⟩;cases q;refine ⟨_, rfl, ?_⟩;replace fl := fl.ext x32;replace fb := fb.ext x32;replace fa := fa.ext x32;replace y0 := y0.ext x32;iterate 2 refine gP ?_
     apply gE;refine gC (b := false) rfl ?_;refine gD ?_;refine Go.inBlock noJ_ok ?_;exact contT _ _ ⟨fa, fb⟩ y0 fl
 ·rintro d h3 x3 hd hdd ⟨fa, fb⟩
  have e7 : Ext h h3 := x3.low e0 (fun b q => by omega)
  have hx3 := x3.1
  rw [List.length_map, List.take_length] at fa fb;clear e0 f0 f1 f2;refine Go.inBlock noJ_ok ?_;apply gS;refine Go.drawnE plan90_0 ?_;refine gQ rfl rfl (ld83 rfl fa rfl) rfl ?_;refine gQ rfl rfl (ld4 rfl fb rfl) rfl ?_;refine GoE.store rfl rfl rfl rfl (dK 1 1 (dD 1 0 rfl)) rfl rfl fa rfl sz83 rfl rfl rfl fun h4 u4 => ?_;replace hdd := hdd.upd u4 (by omega);replace fa := u4.has fa;replace fb := fb.upd u4 (by omega)
  first | replace e7 := e7.upd u4 (by omega) | clear e7
  refine ⟨(rck (h2 := h4) rfl (ld4 rfl fb rfl) recheck_nil), ?_⟩;refine GoE.store rfl rfl rfl rfl (dD 7 1 rfl) rfl rfl fb rfl sz4 rfl rfl rfl fun h5 u5 => ?_;replace hdd := hdd.upd u5 (by omega);replace fa := fa.upd u5 (by omega);replace fb := u5.has fb
  first | replace e7 := e7.upd u5 (by omega) | clear e7
  refine ⟨recheck_nil, ?_⟩;refine GoE.end rfl ?_;exact Go.retC hdd fun h9 u9 => ⟨aResult_of Try.func90 rfl (aResults_c rfl (fa.upd u9 (by omega)) (inCells_agg ag83 sz83 rfl) (aResults_c rfl (fb.upd u9 (by omega)) (inCells_one ag4 rfl) rfl)), rfl, e7.upd u9 (by omega)⟩
 ·rintro _ _ _ _ _ _ q;exact q.elim
end Go.Proofs.Ytmimdgjehnhnoaa

namespace Go.Proofs.Ytmimdgjehnhnoaa
open Go Go.AbsE
set_option linter.unusedSimpArgs false
set_option maxRecDepth 100000
set_option maxHeartbeats 0
set_option linter.unusedVariables false
theorem itC_mem {a b m : Nat} {p : Pl} : p ∈ itC a b m ↔ ∃ k, k < m ∧ p = ⟨(a : Nat), (b : Nat), ((b + 1 + k : Nat) : Int)⟩ := by
 unfold itC
 simp only [List.mem_map, List.mem_range]
 constructor
 ·rintro ⟨k, hk, rfl⟩; exact ⟨k, hk, rfl⟩
 ·rintro ⟨k, hk, rfl⟩; exact ⟨k, hk, rfl⟩
theorem whole_mem {n : Nat} {p : Pl} : p ∈ wholeL n ↔ 0 ≤ p.a ∧ p.a < p.b ∧ p.b < p.c ∧ p.c < n := by
 unfold wholeL itA itB
 simp only [List.mem_flatMap, List.mem_range, itC_mem]
 constructor
 ·rintro ⟨a, ha, j, hj, k, hk, rfl⟩
  dsimp only
  omega
 ·rintro ⟨h1, h2, h3, h4⟩
  obtain ⟨a, b, c⟩ := p
  dsimp only at h1 h2 h3 h4
  refine ⟨a.toNat, by omega, (b - a - 1).toNat, by omega, (c - b - 1).toNat, by omega, ?_⟩
  congr 1 <;> omega
theorem whole_ord {n : Nat} {p : Pl} (h : p ∈ wholeL n) : p.Ord n := by
 have := whole_mem.1 h
 unfold Pl.Ord
 omega
def FootV.soon (F : FootV) (T : Bool) (i : Nat) : Option Pl := firstV (fun p => decide (F.Kept T i p)) (wholeL F.rs.length)
theorem suit_ok {F : FootV} (O : F.Ok) {rsl hsl : AVal} {h : AH} (A : FootAt h F rsl hsl) (T : Bool) {i : Nat} (hi : i < F.hs.length) {b1 b2 b3 : Nat} (p : Pl) (hp : p.Ord F.rs.length)
  (f0 : Has h b1 (.cells .plain (F.cells rsl hsl) 80)) (f1 : Has h b2 (.cells .plain [truthV T F rsl hsl] 94)) (f2 : Has h b3 (.cells .plain [.int .i64 i] 3)) :
  Runs Try.prog 92 [.agg p.cells, .ptr b1 0, .ptr b2 0, .ptr b3 0] h (fun en h' => en = .ret (.bool (decide (F.Kept T i p))) ∧ Ext h h') := by
 have hk := fun h A => kept_ok O (h := h) (rsl := rsl) (hsl := hsl) A T hi p hp
 obtain ⟨tv, htv⟩ : ∃ tv, truthV T F rsl hsl = tv := ⟨_, rfl⟩
 rw [htv] at hk f1
 unfold Pl.cells FootV.cells at hk
 unfold FootV.cells at f0
 unfold Pl.cells
 have e0 : Ext h h := Ext.refl _
 refine Runs.intro aFunc92 rfl rfl rfl rfl fun rest => ?_;apply gS;refine gR rfl ?_;refine GoR.box rfl rfl rfl rfl rfl rfl fun h3 x3 f3 => ?_;replace f0 := f0.ext x3;replace f2 := f2.ext x3;replace f1 := f1.ext x3;replace e0 := e0.trans x3;refine gP ?_;apply gE;apply gS;refine gR rfl ?_;refine gO rfl rfl (ld80 rfl f0 rfl) rfl ?_;refine gO rfl rfl (ld94 rfl f1 rfl) rfl ?_;refine gO rfl rfl (ld3 rfl f2 rfl) rfl ?_;refine gO rfl rfl (ld83 rfl f3 rfl) rfl ?_;refine GoR.call rfl rfl (aCF aFunc87 rfl) (hk _ (A.ext e0)) ?_ np;rintro v4 h4 ⟨q, x4⟩;cases q;refine ⟨_, rfl, ?_⟩;replace e0 := e0.trans x4;refine gP ?_;apply gE;exact gW Try.func92 rfl rfl ⟨rfl, e0⟩
theorem truthV_cells (T : Bool) (F : FootV) (rsl hsl : AVal) : (truthV T F rsl hsl).cells = [truthV T F rsl hsl] ∧ scalars [truthV T F rsl hsl] = true := by
 unfold truthV
 split <;> exact ⟨rfl, rfl⟩
theorem whole91_ok {F : FootV} {rsl hsl : AVal} (h : AH) : Runs Try.prog 91 [.agg (F.cells rsl hsl)] h (fun en h' => ∃ bw, en = .ret (.func (.func 119) [] [.ptr bw 0]) ∧ Ext h h' ∧ Has h' bw (.cells .plain (F.cells rsl hsl) 80) ∧ h.next ≤ bw) := by
 unfold FootV.cells
 have e0 : Ext h h := Ext.refl _
 refine Runs.intro aFunc91 rfl rfl rfl rfl fun rest => ?_;apply gS;refine gR rfl ?_;refine GoR.box rfl rfl rfl rfl rfl rfl fun h0 x0 f0 => ?_;replace e0 := e0.trans x0;refine gP ?_;apply gE;apply gS;refine gR rfl ?_;iterate 2 refine gP ?_
 apply gE;exact gV (ret_end (aResult_of Try.func91 rfl rfl) ⟨_, rfl, e0, f0, Nat.le_refl _⟩)
theorem soonest_ok {F : FootV} (O : F.Ok) {rsl hsl : AVal} {h : AH} (A : FootAt h F rsl hsl) (T : Bool) {i : Nat} (hi : i < F.hs.length) :
  Runs Try.prog 57 [.agg (F.cells rsl hsl), truthV T F rsl hsl, .int .i64 i] h (fun en h' => en = .ret (.tuple [.agg ((F.soon T i).getD zeroPl).cells, .bool (F.soon T i).isSome]) ∧ Ext h h') := by
 have hl1 := A.rs.len
 rw [List.length_map] at hl1
 have hf := fun bw b1 b2 b3 h (A : FootAt h F rsl hsl) (fw : Has h bw (.cells .plain (F.cells rsl hsl) 80)) (f0 : Has h b1 (.cells .plain (F.cells rsl hsl) 80)) (f1 : Has h b2 (.cells .plain [truthV T F rsl hsl] 94)) (f2 : Has h b3 (.cells .plain [.int .i64 i] 3)) =>
  first_ok O (h := h) (rsl := rsl) (hsl := hsl) hl1 (bw := bw) fw (fid := 92) (caps := [.ptr b1 0, .ptr b2 0, .ptr b3 0]) aFunc92 (fun p => decide (F.Kept T i p)) (fun x h' hx e => suit_ok O (A.ext e) T hi x (whole_ord hx) (f0.ext e) (f1.ext e) (f2.ext e))
 have hff : firstV (fun p => decide (F.Kept T i p)) (wholeL F.rs.length) = F.soon T i := rfl
 simp only [hff] at hf
 obtain ⟨tc, tsc⟩ := truthV_cells T F rsl hsl
 obtain ⟨tv, htv⟩ : ∃ tv, truthV T F rsl hsl = tv := ⟨_, rfl⟩
 rw [htv] at hf tc tsc ⊢
 unfold FootV.cells at hf ⊢
 have hwh := fun h => whole91_ok (F := F) (rsl := rsl) (hsl := hsl) h
 unfold FootV.cells at hwh
 have e0 : Ext h h := Ext.refl _
 refine Runs.intro aFunc57 rfl rfl rfl rfl fun rest => ?_;apply gS;refine gR rfl ?_;refine GoR.box rfl rfl rfl rfl rfl rfl fun h0 x0 f0 => ?_;have := e0.1;replace e0 := e0.trans x0;have := f0.1;refine GoR.box rfl rfl rfl rfl rfl rfl fun h1 x1 f1 => ?_;have := e0.1;have := f0.1;replace f0 := f0.ext x1;replace e0 := e0.trans x1;have := f1.1;refine GoR.box rfl rfl rfl rfl rfl rfl fun h2 x2 f2 => ?_;have := e0.1;have := f1.1;have := f0.1;replace f1 := f1.ext x2;replace f0 := f0.ext x2;replace e0 := e0.trans x2;have := f2.1;refine GoR.alloc rfl rfl rfl zt83 rfl rfl fun h3 x3 f3 => ?_;have := e0.1;have := f2.1;have := f1.1;have := f0.1;replace f2 := f2.ext x3;replace f1 := f1.ext x3;replace f0 := f0.ext x3;replace e0 := e0.trans x3;have := f3.1;refine gP ?_;apply gE;apply gS;refine gR rfl ?_;refine gO rfl rfl (ld80 rfl f0 rfl) rfl ?_;refine GoR.call rfl rfl (aCF aFunc91 rfl) (hwh _) ?_ (by rintro _ _ ⟨bw, q, _, fw, _⟩; cases q);rintro v4 h4 ⟨bw, q, x4, fw, _⟩;cases q;refine ⟨_, rfl, ?_⟩;have := e0.1;replace f3 := f3.ext x4;replace f2 := f2.ext x4;replace f1 := f1.ext x4;replace f0 := f0.ext x4;replace e0 := e0.trans x4;refine gP ?_;refine gO rfl rfl (aOp_build zt130 hu130 pl130 rfl rfl) rfl ?_;refine GoR.call rfl rfl (aCF aFunc90 rfl) (hf _ _ _ _ _ (A.ext e0) fw f0 (by have := f1; rw [tc] at this; exact this) f2) ?_ np;rintro v5 h5 ⟨q, x5⟩;cases q;refine ⟨_, rfl, ?_⟩;replace fw := fw.ext x5;replace f3 := f3.ext x5;replace e0 := e0.trans x5;iterate 2 refine gP ?_
 refine GoR.store rfl rfl rfl rfl rfl rfl f3 rfl sz83 rfl rfl rfl fun h6 u6 => ?_;replace fw := fw.upd u6 (by omega);replace f3 := u6.has f3;replace e0 := e0.upd u6 (by omega);refine gP ?_;apply gE;exact gV (ret_end (aResult_of Try.func57 rfl (aResults_c rfl f3 (inCells_agg ag83 sz83 rfl) rfl)) ⟨rfl, e0⟩)
noncomputable def ops56 : Array Oper := ((drawnOps Try.f56)[0]?).getD #[]
theorem befs56 : befs0 ops56 = [0, 0, 2, 0, 15, 31, 63, 63, 0, 383, 1023] := by kernel_rfl
theorem size56 : ops56.size = 11 := by kernel_rfl
theorem pl56a : planX ops56 [0, 0, 258, 0, 271, 287, 319, 319, 0, 383, 1023] [0, 1, 3, 8, 2, 4, 5, 6, 7, 9, 10] = some (mkPlan ops56.toList [(0, 0, true, false), (1, 0, true, false), (3, 0, true, false), (8, 0, false, false), (2, 258, false, false), (4, 271, false, false), (5, 287, true, false), (6, 319, true, false), (7, 319, true, false), (9, 383, false, false), (10, 1023, true, false)]) := by kernel_rfl
theorem pl56b : planX ops56 [0, 0, 2, 0, 271, 287, 319, 319, 6, 383, 1023] [0, 1, 3, 2, 8, 4, 5, 6, 7, 9, 10] = some (mkPlan ops56.toList [(0, 0, true, false), (1, 0, true, false), (3, 0, true, false), (2, 2, false, false), (8, 6, false, false), (4, 271, false, false), (5, 287, true, false), (6, 319, true, false), (7, 319, true, false), (9, 383, false, false), (10, 1023, true, false)]) := by kernel_rfl
theorem pl56c : planX ops56 [0, 0, 2, 0, 15, 31, 63, 63, 31, 383, 1023] [0, 1, 3, 2, 4, 5, 6, 7, 8, 9, 10] = some (mkPlan ops56.toList [(0, 0, true, false), (1, 0, true, false), (3, 0, true, false), (2, 2, false, false), (4, 15, false, false), (5, 31, true, false), (6, 63, true, false), (7, 63, true, false), (8, 31, false, false), (9, 383, false, false), (10, 1023, true, false)]) := by kernel_rfl
theorem alts56 {P : Program} {c : FC} {k : List AItem} {id : Nat} {t : Tr AVal} {h : AH} {Q : AM → Prop}
  (ga : ∀ pl, planX ops56 [0, 0, 258, 0, 271, 287, 319, 319, 0, 383, 1023] [0, 1, 3, 8, 2, 4, 5, 6, 7, 9, 10] = some pl → GoE P c k Q ops56 pl (eraseT ops56.toList t) [] t h)
  (gb : ∀ pl, planX ops56 [0, 0, 2, 0, 271, 287, 319, 319, 6, 383, 1023] [0, 1, 3, 2, 8, 4, 5, 6, 7, 9, 10] = some pl → GoE P c k Q ops56 pl (eraseT ops56.toList t) [] t h)
  (gc : ∀ pl, planX ops56 [0, 0, 2, 0, 15, 31, 63, 63, 31, 383, 1023] [0, 1, 3, 2, 4, 5, 6, 7, 8, 9, 10] = some pl → GoE P c k Q ops56 pl (eraseT ops56.toList t) [] t h) :
  Go P c (.code (.region id ops56 true) :: k) t h Q := by
 refine Go.drawnX pl56c fun s hv => ?_
 have hb := fun i k hi hk => VB.before hv befs56 i k (by rw [size56]; exact hi) hk
 have h2_1 := hb 2 1 (by decide) (by decide)
 have h4_0 := hb 4 0 (by decide) (by decide)
 have h4_1 := hb 4 1 (by decide) (by decide)
 have h4_2 := hb 4 2 (by decide) (by decide)
 have h4_3 := hb 4 3 (by decide) (by decide)
 have h5_0 := hb 5 0 (by decide) (by decide)
 have h5_1 := hb 5 1 (by decide) (by decide)
 have h5_2 := hb 5 2 (by decide) (by decide)
 have h5_3 := hb 5 3 (by decide) (by decide)
 have h5_4 := hb 5 4 (by decide) (by decide)
 have h6_0 := hb 6 0 (by decide) (by decide)
 have h6_1 := hb 6 1 (by decide) (by decide)
 have h6_2 := hb 6 2 (by decide) (by decide)
 have h6_3 := hb 6 3 (by decide) (by decide)
 have h6_4 := hb 6 4 (by decide) (by decide)
 have h6_5 := hb 6 5 (by decide) (by decide)
 have h7_0 := hb 7 0 (by decide) (by decide)
 have h7_1 := hb 7 1 (by decide) (by decide)
 have h7_2 := hb 7 2 (by decide) (by decide)
 have h7_3 := hb 7 3 (by decide) (by decide)
 have h7_4 := hb 7 4 (by decide) (by decide)
 have h7_5 := hb 7 5 (by decide) (by decide)
 have d2 := VB.apart hv befs56 8 2 (by rw [size56]; decide) (by decide)
 have d4 := VB.apart hv befs56 8 4 (by rw [size56]; decide) (by decide)
 by_cases q2 : s.idxOf 8 < s.idxOf 2
 ·refine ⟨_, _, _, pl56a, VB.alt hv befs56 size56 [(8, 2), (8, 4), (8, 5), (8, 6), (8, 7)] (by kernel_rfl) ?_, ga _ pl56a⟩
  intro e he
  simp only [List.mem_cons, List.not_mem_nil, or_false] at he
  rcases he with rfl | rfl | rfl | rfl | rfl <;> dsimp only <;> omega
 by_cases q4 : s.idxOf 8 < s.idxOf 4
 ·refine ⟨_, _, _, pl56b, VB.alt hv befs56 size56 [(8, 4), (8, 5), (8, 6), (8, 7), (1, 8), (2, 8)] (by kernel_rfl) ?_, gb _ pl56b⟩
  intro e he
  simp only [List.mem_cons, List.not_mem_nil, or_false] at he
  rcases he with rfl | rfl | rfl | rfl | rfl | rfl <;> dsimp only <;> omega
 refine ⟨_, _, _, pl56c, VB.alt hv befs56 size56 [(0, 8), (1, 8), (2, 8), (3, 8), (4, 8)] (by kernel_rfl) ?_, gc _ pl56c⟩
 intro e he
 simp only [List.mem_cons, List.not_mem_nil, or_false] at he
 rcases he with rfl | rfl | rfl | rfl | rfl <;> dsimp only <;> omega
theorem soonB_no {F : FootV} (O : F.Ok) {rsl hsl : AVal} {n : Int} {bi br : Nat} {h : AH} (A : FootAt h F rsl hsl) (hno : ¬ (0 ≤ n ∧ n ≤ (F.hs.length : Int) - 1))
  (f0 : Has h bi (.cells .plain [.int .i64 n] 3)) : Runs Try.prog 56 [.agg (F.cells rsl hsl), .ptr bi 0, .ptr br 0] h (fun en h' => en = .pan (refusal 2) ∧ Ext h h') := by
 have hnh := O.nh
 have k2 := fun h A => needHeap_no (F := F) (rsl := rsl) (hsl := hsl) (n := n) (h := h) A (by omega) hno
 unfold FootV.cells at k2 ⊢
 have e0 : Ext h h := Ext.refl _
 refine Runs.intro aFunc56 rfl rfl rfl rfl fun rest => ?_;apply gS;refine gR rfl ?_;refine GoR.box rfl rfl rfl rfl rfl rfl fun h1 x1 f1 => ?_;replace f0 := f0.ext x1;replace e0 := e0.trans x1;apply gE;apply gS;refine gR rfl ?_;refine gO rfl rfl (ld80 rfl f1 rfl) rfl ?_;refine gO rfl rfl (ld3 rfl f0 rfl) rfl ?_;refine GoR.callP rfl rfl (aCF aFunc44 rfl) (k2 _ (A.ext e0)) (by rintro _ _ ⟨q, _⟩; cases q) ?_;rintro chain h2 ⟨q, x2⟩
 have q := AEnd.pan.inj q
 subst q;replace e0 := e0.trans x2;exact FLeft.pan (⟨rfl, e0⟩)
theorem soonB_ok {F : FootV} (O : F.Ok) {rsl hsl : AVal} {i : Nat} {bi br : Nat} {h : AH} (A : FootAt h F rsl hsl) (hi : i < F.hs.length) (hb : bi ≠ br)
  (f0 : Has h bi (.cells .plain [.int .i64 i] 3)) (f1 : Has h br (.cells .plain [.int .i64 0, .int .i64 0, .int .i64 0] 27)) :
  Runs Try.prog 56 [.agg (F.cells rsl hsl), .ptr bi 0, .ptr br 0] h (fun en h' => match F.soon true i with | some p => en = .ret (.tuple []) ∧ ExtF (fun x => x = br) h h' ∧ Has h' br (.cells .plain p.cells 27) | none => en = .pan (refusal 4) ∧ Ext h h') := by
 have hnh := O.nh
 have k1 := fun h A => needHeap_yes (F := F) (rsl := rsl) (hsl := hsl) (n := i) (h := h) A (by omega) (by omega)
 have k3 := fun h A => soonest_ok (h := h) (rsl := rsl) (hsl := hsl) O A true hi
 have hw := fun h => worst_ok (F := F) (rsl := rsl) (hsl := hsl) (h := h)
 have s1 := same_cells F A
 have s2 := same_truth F A true
 obtain ⟨tv, htv⟩ : ∃ tv, truthV true F rsl hsl = tv := ⟨_, rfl⟩
 rw [htv] at k3 hw s2
 unfold FootV.cells at k1 k3 hw ⊢
 have y0 : ExtF (fun b => b = br) h h := ExtF.of (Ext.refl _)
 have hbr := f1.1
 obtain ⟨sp, hsp⟩ : ∃ sp, F.soon true i = sp := ⟨_, rfl⟩
 rw [hsp] at k3 ⊢
 obtain ⟨sr, hsr⟩ : ∃ sr, sp.getD zeroPl = sr := ⟨_, rfl⟩
 rw [hsr] at k3
 have s4 := same_plan sr
 have s5 : sameA (.tuple [.agg [.int .i64 sr.a, .int .i64 sr.b, .int .i64 sr.c], .bool sp.isSome]) (.tuple [.agg [.int .i64 sr.a, .int .i64 sr.b, .int .i64 sr.c], .bool sp.isSome]) = true := by
  simp only [sameA, sameAs] at s4 ⊢
  rw [s4]
  cases sp.isSome <;> rfl
 unfold Pl.cells at k3
 have e0 : Ext h h := Ext.refl _
 refine Runs.intro aFunc56 rfl rfl rfl rfl fun rest => ?_;apply gS;refine gR rfl ?_;refine GoR.box rfl rfl rfl rfl rfl rfl fun h2 x2 f2 => ?_;have := e0.1;have := f0.1;have := f1.1;replace f0 := f0.ext x2;replace f1 := f1.ext x2;replace e0 := e0.trans x2;replace y0 := y0.ext x2;have := f2.1;apply gE;apply gS;refine gR rfl ?_;refine gO rfl rfl (ld80 rfl f2 rfl) rfl ?_;refine gO rfl rfl (ld3 rfl f0 rfl) rfl ?_;refine GoR.call rfl rfl (aCF aFunc44 rfl) (k1 _ (A.ext e0)) ?_ np;rintro v3 h3 ⟨q, x3⟩;cases q;refine ⟨_, rfl, ?_⟩;replace f2 := f2.ext x3;replace f0 := f0.ext x3;replace f1 := f1.ext x3;replace e0 := e0.trans x3;replace y0 := y0.ext x3;apply gE
 have h9 := e0.1
 refine Go.seq noJ_ok (Go.join (fun b : Nat => [(1, .ptr bi 0), (2, .ptr br 0), (3, .ptr h.next 0), (4, .ptr b 0), (5, .bool sp.isSome)]) (fun b h' => ExtF (fun b => b = br) h h' ∧ Ext h h' ∧ b ≠ br ∧ Has h' br (.cells .plain [.int .i64 0, .int .i64 0, .int .i64 0] 27) ∧ Has h' b (.cells .plain [.int .i64 sr.a, .int .i64 sr.b, .int .i64 sr.c] 83)) ?_ ?_)
 ·intro k' done
  refine alts56 ?_ ?_ ?_
  ·intro pl hpl
   rw [pl56a] at hpl;cases hpl;iterate 2 refine gQ rfl rfl (ld80 rfl f2 rfl) rfl ?_
   refine gQ rfl rfl (ld3 rfl f0 rfl) rfl ?_;refine GoE.alloc rfl rfl zt83 (dK 0 3 (dK 0 1 (dK 0 0 rfl))) rfl rfl fun h10 x10 f10 => ?_;have := e0.1;have := f2.1;have := f0.1;have := f1.1;replace f2 := f2.ext x10;replace f0 := f0.ext x10;replace f1 := f1.ext x10;replace e0 := e0.trans x10;replace y0 := y0.ext x10;have := f10.1;refine ⟨(rck (h2 := h10) rfl (ld3 rfl f0 rfl) (rck (h2 := h10) rfl (ld80 rfl f2 rfl) (rck (h2 := h10) rfl (ld80 rfl f2 rfl) recheck_nil))), ?_⟩;refine GoE.call rfl rfl (aCF aFunc58 rfl) (hw _) (dK 258 3 (dD 258 1 (dK 258 0 rfl))) ?_ np;rintro v11 h11 ⟨q, x11⟩;cases q;replace f10 := f10.ext x11;replace f2 := f2.ext x11;replace f0 := f0.ext x11;replace f1 := f1.ext x11;replace e0 := e0.trans x11;replace y0 := y0.ext x11;refine ⟨(rck (h2 := h11) rfl (ld3 rfl f0 rfl) (rck (h2 := h11) rfl (ld80 rfl f2 rfl) recheck_nil)), _, rfl, ?_⟩;refine GoE.call rfl rfl (aCF aFunc57 rfl) (k3 _ (A.ext e0)) (dD 271 3 (dD 271 0 rfl)) ?_ np;rintro v12 h12 ⟨q, x12⟩;cases q;replace f10 := f10.ext x12;replace f2 := f2.ext x12;replace f0 := f0.ext x12;replace f1 := f1.ext x12;replace e0 := e0.trans x12;replace y0 := y0.ext x12;refine ⟨recheck_nil, _, rfl, ?_⟩;iterate 3 refine gQ rfl rfl rfl rfl ?_
   refine GoE.store rfl rfl rfl rfl (dK 383 7 (dD 383 6 (dD 383 5 rfl))) rfl rfl f10 rfl sz83 rfl rfl rfl fun h13 u13 => ?_;replace f10 := u13.has f10;replace f2 := f2.upd u13 (by omega);replace f0 := f0.upd u13 (by omega);replace f1 := f1.upd u13 (by omega);replace e0 := e0.upd u13 (by omega);replace y0 := y0.upd u13 (.inr (by omega));refine ⟨(rck (h2 := h13) rfl (rfl) recheck_nil), ?_⟩;refine gQ rfl rfl rfl rfl ?_;refine GoE.end rfl ?_;exact done _ _ _ ⟨rfl, rfl, rfl, rfl, rfl, trivial⟩ ⟨y0, e0, by have := x10.1; have := x11.1; omega, f1, by assumption⟩
  ·intro pl hpl
   rw [pl56b] at hpl;cases hpl;iterate 2 refine gQ rfl rfl (ld80 rfl f2 rfl) rfl ?_
   refine gQ rfl rfl (ld3 rfl f0 rfl) rfl ?_;refine GoE.call rfl rfl (aCF aFunc58 rfl) (hw _) (dK 2 3 (dD 2 1 (dK 2 0 rfl))) ?_ np;rintro v10 h10 ⟨q, x10⟩;cases q;replace f2 := f2.ext x10;replace f0 := f0.ext x10;replace f1 := f1.ext x10;replace e0 := e0.trans x10;replace y0 := y0.ext x10;refine ⟨(rck (h2 := h10) rfl (ld3 rfl f0 rfl) (rck (h2 := h10) rfl (ld80 rfl f2 rfl) recheck_nil)), _, rfl, ?_⟩;refine GoE.alloc rfl rfl zt83 (dK 6 3 (dK 6 0 rfl)) rfl rfl fun h11 x11 f11 => ?_;have := e0.1;have := f2.1;have := f0.1;have := f1.1;replace f2 := f2.ext x11;replace f0 := f0.ext x11;replace f1 := f1.ext x11;replace e0 := e0.trans x11;replace y0 := y0.ext x11;have := f11.1;refine ⟨(rck (h2 := h11) rfl (ld3 rfl f0 rfl) (rck (h2 := h11) rfl (ld80 rfl f2 rfl) recheck_nil)), ?_⟩;refine GoE.call rfl rfl (aCF aFunc57 rfl) (k3 _ (A.ext e0)) (dD 271 3 (dD 271 0 rfl)) ?_ np;rintro v12 h12 ⟨q, x12⟩;cases q;replace f11 := f11.ext x12;replace f2 := f2.ext x12;replace f0 := f0.ext x12;replace f1 := f1.ext x12;replace e0 := e0.trans x12;replace y0 := y0.ext x12;refine ⟨recheck_nil, _, rfl, ?_⟩;iterate 3 refine gQ rfl rfl rfl rfl ?_
   refine GoE.store rfl rfl rfl rfl (dK 383 7 (dD 383 6 (dD 383 5 rfl))) rfl rfl f11 rfl sz83 rfl rfl rfl fun h13 u13 => ?_;replace f11 := u13.has f11;replace f2 := f2.upd u13 (by omega);replace f0 := f0.upd u13 (by omega);replace f1 := f1.upd u13 (by omega);replace e0 := e0.upd u13 (by omega);replace y0 := y0.upd u13 (.inr (by omega));refine ⟨(rck (h2 := h13) rfl (rfl) recheck_nil), ?_⟩;refine gQ rfl rfl rfl rfl ?_;refine GoE.end rfl ?_;exact done _ _ _ ⟨rfl, rfl, rfl, rfl, rfl, trivial⟩ ⟨y0, e0, by have := x10.1; have := x11.1; omega, f1, by assumption⟩
  ·intro pl hpl
   rw [pl56c] at hpl;cases hpl;iterate 2 refine gQ rfl rfl (ld80 rfl f2 rfl) rfl ?_
   refine gQ rfl rfl (ld3 rfl f0 rfl) rfl ?_;refine GoE.call rfl rfl (aCF aFunc58 rfl) (hw _) (dK 2 3 (dD 2 1 (dK 2 0 rfl))) ?_ np;rintro v10 h10 ⟨q, x10⟩;cases q;replace f2 := f2.ext x10;replace f0 := f0.ext x10;replace f1 := f1.ext x10;replace e0 := e0.trans x10;replace y0 := y0.ext x10;refine ⟨(rck (h2 := h10) rfl (ld3 rfl f0 rfl) (rck (h2 := h10) rfl (ld80 rfl f2 rfl) recheck_nil)), _, rfl, ?_⟩;refine GoE.call rfl rfl (aCF aFunc57 rfl) (k3 _ (A.ext e0)) (dD 15 3 (dD 15 0 rfl)) ?_ np;rintro v11 h11 ⟨q, x11⟩;cases q;replace f2 := f2.ext x11;replace f0 := f0.ext x11;replace f1 := f1.ext x11;replace e0 := e0.trans x11;replace y0 := y0.ext x11;refine ⟨recheck_nil, _, rfl, ?_⟩;iterate 3 refine gQ rfl rfl rfl rfl ?_
   refine GoE.alloc rfl rfl zt83 (dK 31 7 (dK 31 6 (dK 31 5 rfl))) rfl rfl fun h12 x12 f12 => ?_;have := e0.1;have := f2.1;have := f0.1;have := f1.1;replace f2 := f2.ext x12;replace f0 := f0.ext x12;replace f1 := f1.ext x12;replace e0 := e0.trans x12;replace y0 := y0.ext x12;have := f12.1;refine ⟨(rck (h2 := h12) rfl (rfl) (rck (h2 := h12) rfl (rfl) (rck (h2 := h12) rfl (rfl) recheck_nil))), ?_⟩;refine GoE.store rfl rfl rfl rfl (dK 383 7 (dD 383 6 (dD 383 5 rfl))) rfl rfl f12 rfl sz83 rfl rfl rfl fun h13 u13 => ?_;replace f12 := u13.has f12;replace f2 := f2.upd u13 (by omega);replace f0 := f0.upd u13 (by omega);replace f1 := f1.upd u13 (by omega);replace e0 := e0.upd u13 (by omega);replace y0 := y0.upd u13 (.inr (by omega));refine ⟨(rck (h2 := h13) rfl (rfl) recheck_nil), ?_⟩;refine gQ rfl rfl rfl rfl ?_;refine GoE.end rfl ?_;exact done _ _ _ ⟨rfl, rfl, rfl, rfl, rfl, trivial⟩ ⟨y0, e0, by have := x10.1; have := x11.1; omega, f1, by assumption⟩
 ·clear e0 y0 f0 f1 f2;rintro b h20 ⟨y0, e0, hb, f1, f4⟩
  cases sp with
  | none =>
   apply gS;refine gR rfl ?_;iterate 2 refine gP ?_
   refine GoR.callP rfl rfl (aCF aFunc59 rfl) (refuse_yes _ _) (by rintro _ _ ⟨q, _⟩; cases q) ?_;rintro chain h21 ⟨q, x21⟩
   have q := AEnd.pan.inj q
   subst q;replace f1 := f1.ext x21;replace f4 := f4.ext x21;replace e0 := e0.trans x21;replace y0 := y0.ext x21;exact FLeft.pan (⟨rfl, e0⟩)
  | some p =>
   have hpr : p = sr := hsr
   subst hpr;apply gS;refine gR rfl ?_;iterate 2 refine gP ?_
   refine GoR.call rfl rfl (aCF aFunc59 rfl) (refuse_no _ _) ?_ np;rintro v21 h21 ⟨q, x21⟩;cases q;refine ⟨_, rfl, ?_⟩;replace f1 := f1.ext x21;replace f4 := f4.ext x21;replace y0 := y0.ext x21;apply gE;refine gR rfl ?_;refine gO rfl rfl (ld83 rfl f4 rfl) rfl ?_;refine GoR.store rfl rfl rfl rfl rfl rfl f1 rfl sz27 rfl rfl rfl fun h22 u22 => ?_;replace f1 := u22.has f1;clear e0;replace y0 := y0.upd u22 (.inl rfl);apply gE;exact Go.endL (FLeft.ret (v := .tuple []) (aResult_of Try.func56 rfl rfl) ⟨rfl, y0, f1⟩)
end Go.Proofs.Ytmimdgjehnhnoaa
