import Derived.Test.YtmimdgjehnhnoaaMAQ
namespace Go.Proofs.Ytmimdgjehnhnoaa
open Go Go.AbsE
set_option linter.unusedSimpArgs false
set_option maxRecDepth 100000
set_option maxHeartbeats 0
set_option linter.unusedVariables false
def doneK (p : Pl) (d : Int) : Nat → Int
 | 0 => 0
 | i + 1 => doneK p d i + (if 0 ≤ p.at i ∧ p.at i ≤ d then 1 else 0)
theorem doneK_3 {p : Pl} {d : Int} : doneK p d 3 = doneV p d := by
 unfold doneV
 show 0 + _ + _ + _ = _
 rw [Int.zero_add]
 rfl
theorem doneK_in {p : Pl} {d : Int} : ∀ i, 0 ≤ doneK p d i ∧ doneK p d i ≤ i
 | 0 => ⟨Int.le_refl _, Int.le_refl _⟩
 | i + 1 => by
  have ih := doneK_in (p := p) (d := d) i
  show 0 ≤ doneK p d i + (if 0 ≤ p.at i ∧ p.at i ≤ d then 1 else 0) ∧ doneK p d i + (if 0 ≤ p.at i ∧ p.at i ≤ d then 1 else 0) ≤ ((i + 1 : Nat) : Int)
  split <;> omega
theorem Done86_ok {p : Pl} {d : Int} {h : AH} : Runs Try.prog 86 [.agg p.cells, .int .i64 d] h (fun en h' => en = .ret (.int .i64 (doneV p d)) ∧ Ext h h') := by
 unfold Pl.cells
 have e0 : Ext h h := Ext.refl _
 refine Runs.intro aFunc86 rfl rfl rfl rfl fun rest => ?_;apply gS;refine gR rfl ?_;refine GoR.box rfl rfl rfl rfl rfl rfl fun h0 x0 f0 => ?_;have := e0.1;replace e0 := e0.trans x0;have := f0.1;refine gP ?_;apply gE;apply gS;refine gR rfl ?_;refine gP ?_;apply gE;iterate 2 apply gS
 refine gR rfl ?_;refine gP ?_;apply gE;refine Go.block noJ_ok ?_
 refine Go.loopKeep (fun i : Nat => [(1, .int .i64 d), (2, .ptr h.next 0), (5, .int .i64 (doneK p d i)), (6, .int .i64 (i : Nat))])
  (fun m i h' => m + i = 3 ∧ Ext h h' ∧ Has h' h.next (.cells .plain [.int .i64 p.a, .int .i64 p.b, .int .i64 p.c] 27))
  (n := 3) 0 ⟨rfl, rfl, rfl, rfl, trivial⟩ ⟨rfl, e0, f0⟩ ?_
 clear e0 f0;rintro m i h20 ⟨hm, e0, f0⟩ again
 by_cases hi : i < 3
 ·have hget := at_get (p := p) hi
  have hki := doneK_in (p := p) (d := d) i
  have hnx : doneK p d (i + 1) = doneK p d i + (if 0 ≤ p.at i ∧ p.at i ≤ d then 1 else 0) := rfl
  by_cases c1 : 0 ≤ p.at i
  ·by_cases c2 : p.at i ≤ d
   ·rw [if_pos ⟨c1, c2⟩] at hnx;iterate 2 apply gS
    refine gR rfl ?_;refine gP ?_;refine gO rfl rfl (kLT rfl rfl) rfl ?_;apply gE;refine gC (b := true) rfl ?_;refine gD ?_;apply gS;refine Go.block noJ_ok ?_;apply gS;refine gR rfl ?_;refine gP ?_;refine gO rfl rfl (aOp_indexAddrArr (i := i) Try.underlying27 sz3 rfl rfl (Nat.ble_eq_true_of_le hi)) rfl ?_;refine gO rfl rfl (ld3 rfl f0 hget) rfl ?_;refine gO rfl rfl (kNT rfl rfl) rfl ?_;iterate 2 refine gP ?_
    refine gO rfl rfl (aOp_indexAddrArr (i := i) Try.underlying27 sz3 rfl rfl (Nat.ble_eq_true_of_le hi)) rfl ?_;refine gO rfl rfl (ld3 rfl f0 hget) rfl ?_;refine gP ?_;refine gO rfl rfl (kMT rfl rfl) rfl ?_;refine gP ?_;apply gE;refine gC (b := true) rfl ?_;refine gR rfl ?_;refine gP ?_;refine gO rfl rfl (aA rfl rfl) rfl ?_;refine gP ?_;apply gE;refine Go.inBlock noJ_ok ?_;refine gR rfl ?_;refine gP ?_;refine gO rfl rfl (aA rfl rfl) rfl ?_;refine gP ?_;apply gE;exact again (m - 1) (i + 1) _ _ (by omega) ⟨rfl, rfl, congrArg (fun z : Int => some (AVal.int .i64 z)) hnx.symm, rfl, trivial⟩ ⟨by omega, e0, f0⟩
   ·rw [if_neg (fun z => c2 z.2), Int.add_zero] at hnx;iterate 2 apply gS
    refine gR rfl ?_;refine gP ?_;refine gO rfl rfl (kLT rfl rfl) rfl ?_;apply gE;refine gC (b := true) rfl ?_;refine gD ?_;apply gS;refine Go.block noJ_ok ?_;apply gS;refine gR rfl ?_;refine gP ?_;refine gO rfl rfl (aOp_indexAddrArr (i := i) Try.underlying27 sz3 rfl rfl (Nat.ble_eq_true_of_le hi)) rfl ?_;refine gO rfl rfl (ld3 rfl f0 hget) rfl ?_;refine gO rfl rfl (kNT rfl rfl) rfl ?_;iterate 2 refine gP ?_
    refine gO rfl rfl (aOp_indexAddrArr (i := i) Try.underlying27 sz3 rfl rfl (Nat.ble_eq_true_of_le hi)) rfl ?_;refine gO rfl rfl (ld3 rfl f0 hget) rfl ?_;refine gP ?_;refine gO rfl rfl (kMF rfl rfl) rfl ?_;refine gP ?_;apply gE;refine gC (b := false) rfl ?_;refine gD ?_;refine Go.inBlock noJ_ok ?_;refine gR rfl ?_;refine gP ?_;refine gO rfl rfl (aA rfl rfl) rfl ?_;refine gP ?_;apply gE;exact again (m - 1) (i + 1) _ _ (by omega) ⟨rfl, rfl, congrArg (fun z : Int => some (AVal.int .i64 z)) hnx.symm, rfl, trivial⟩ ⟨by omega, e0, f0⟩
  ·rw [if_neg (fun z => c1 z.1), Int.add_zero] at hnx;iterate 2 apply gS
   refine gR rfl ?_;refine gP ?_;refine gO rfl rfl (kLT rfl rfl) rfl ?_;apply gE;refine gC (b := true) rfl ?_;refine gD ?_;apply gS;refine Go.block noJ_ok ?_;apply gS;refine gR rfl ?_;refine gP ?_;refine gO rfl rfl (aOp_indexAddrArr (i := i) Try.underlying27 sz3 rfl rfl (Nat.ble_eq_true_of_le hi)) rfl ?_;refine gO rfl rfl (ld3 rfl f0 hget) rfl ?_;refine gO rfl rfl (kNF rfl rfl) rfl ?_;refine gP ?_;iterate 5 refine GoR.skip rfl rfl rfl ?_
   refine gP ?_;apply gE;refine gC (b := false) rfl ?_;refine gD ?_;refine Go.inBlock noJ_ok ?_;refine gR rfl ?_;refine gP ?_;refine gO rfl rfl (aA rfl rfl) rfl ?_;refine gP ?_;apply gE;exact again (m - 1) (i + 1) _ _ (by omega) ⟨rfl, rfl, congrArg (fun z : Int => some (AVal.int .i64 z)) hnx.symm, rfl, trivial⟩ ⟨by omega, e0, f0⟩
 ·have h3 : i = 3 := by omega
  subst h3
  rw [← doneK_3]
  iterate 2 apply gS
  refine gR rfl ?_;refine gP ?_;refine gO rfl rfl (kLF rfl rfl) rfl ?_;apply gE;refine gC (b := false) rfl ?_;refine gD ?_;apply gS;refine gR rfl ?_;iterate 2 refine gP ?_
  apply gE;exact gW Try.func86 rfl rfl ⟨rfl, e0⟩
theorem Heap49_ok {F : FootV} {rsl hsl : AVal} {h : AH} (A : FootAt h F rsl hsl) (hb2 : F.hs.length ≤ 40) (i : Int) :
  Runs Try.prog 49 [.agg (F.cells rsl hsl), .int .i64 i] h (fun en h' => en = .ret (.bool (decide (0 ≤ i ∧ i ≤ (F.hs.length : Int) - 1))) ∧ Ext h h') := by
 have hl2 := A.hs.len
 rw [List.length_map] at hl2
 unfold FootV.cells
 have e0 : Ext h h := Ext.refl _
 refine Runs.intro aFunc49 rfl rfl rfl rfl fun rest => ?_;apply gS;refine gR rfl ?_;refine GoR.box rfl rfl rfl rfl rfl rfl fun h0 x0 f0 => ?_;replace e0 := e0.trans x0;refine gP ?_;apply gE;apply gS;refine gR rfl ?_;refine gP ?_;refine gO rfl rfl (fa26_4 rfl) rfl ?_;refine gO rfl rfl (ld24 rfl f0 rfl) rfl ?_;refine gO rfl rfl (aOp_lenSlice Try.underlying24 rfl hl2) rfl ?_;refine gO rfl rfl (aS rfl rfl) rfl ?_;refine GoR.call rfl rfl (aCF aFunc74 rfl) (in74_is rfl) ?_ np;rintro v1 h1 ⟨q, x1⟩;cases q;refine ⟨_, rfl, ?_⟩;replace e0 := e0.trans x1;refine gP ?_;apply gE;exact gW Try.func49 rfl rfl ⟨rfl, e0⟩
theorem Day50_ok {F : FootV} {rsl hsl : AVal} {h : AH} (A : FootAt h F rsl hsl) (hb2 : F.rs.length ≤ 40) (i : Int) :
  Runs Try.prog 50 [.agg (F.cells rsl hsl), .int .i64 i] h (fun en h' => en = .ret (.bool (decide (0 ≤ i ∧ i ≤ (F.rs.length : Int)))) ∧ Ext h h') := by
 have hl2 := A.rs.len
 rw [List.length_map] at hl2
 unfold FootV.cells
 have e0 : Ext h h := Ext.refl _
 refine Runs.intro aFunc50 rfl rfl rfl rfl fun rest => ?_;apply gS;refine gR rfl ?_;refine GoR.box rfl rfl rfl rfl rfl rfl fun h0 x0 f0 => ?_;replace e0 := e0.trans x0;refine gP ?_;apply gE;apply gS;refine gR rfl ?_;refine gP ?_;refine gO rfl rfl (fa26_0 rfl) rfl ?_;refine gO rfl rfl (ld22 rfl f0 rfl) rfl ?_;refine gO rfl rfl (aOp_lenSlice Try.underlying22 rfl hl2) rfl ?_;refine GoR.call rfl rfl (aCF aFunc74 rfl) (in74_is rfl) ?_ np;rintro v1 h1 ⟨q, x1⟩;cases q;refine ⟨_, rfl, ?_⟩;replace e0 := e0.trans x1;refine gP ?_;apply gE;exact gW Try.func50 rfl rfl ⟨rfl, e0⟩
theorem dr_get {F : FootV} {rsl hsl : AVal} {k : Nat} (hk : k < 3) : ([rsl, .int .i64 F.men, .int .i64 F.l0, .int .i64 F.l1, .int .i64 F.l2, .int .i64 F.d0, .int .i64 F.d1, .int .i64 F.d2, hsl] : List AVal)[0 + 5 + k * 1]? = some (.int .i64 (F.dr k)) := by
 match k, hk with
 | 0, _ => rfl
 | 1, _ => rfl
 | 2, _ => rfl
theorem check48_ok {F : FootV} {rsl hsl : AVal} {h : AH} (A : FootAt h F rsl hsl) (hb1 : F.rs.length ≤ 40) (hb2 : F.hs.length ≤ 40) (b : Bool) {r : Int} (hr : (if F.Ok then (if b = true then 0 else 2) else 1) = r) :
  Runs Try.prog 48 [.agg (F.cells rsl hsl), .bool b] h (fun en h' => en = .ret (.int .i64 r) ∧ Ext h h') := by
 have hf := fun h A => foot32_ok (F := F) (h := h) (rsl := rsl) (hsl := hsl) A hb1 hb2
 by_cases O : F.Ok
 ·rw [(okB_iff F).2 O] at hf
  rw [if_pos O] at hr
  unfold FootV.cells at hf ⊢
  cases b with
  | true =>
   rw [if_pos rfl] at hr;subst hr
   have e0 : Ext h h := Ext.refl _
   refine Runs.intro aFunc48 rfl rfl rfl rfl fun rest => ?_;apply gS;refine gR rfl ?_;refine GoR.box rfl rfl rfl rfl rfl rfl fun h0 x0 f0 => ?_;replace e0 := e0.trans x0;refine gP ?_;apply gE;iterate 2 apply gS
   refine gR rfl ?_;refine gO rfl rfl (ld26 rfl f0 rfl) rfl ?_;refine GoR.call rfl rfl (aCF aFunc32 rfl) (hf _ (A.ext e0)) ?_ np;rintro v1 h1 ⟨q, x1⟩;cases q;refine ⟨_, rfl, ?_⟩;replace f0 := f0.ext x1;replace e0 := e0.trans x1;refine gP ?_;apply gE;refine gC (b := false) rfl ?_;refine gD ?_;iterate 2 apply gS
   refine gR rfl ?_;iterate 2 refine gP ?_
   apply gE;refine gC (b := false) rfl ?_;refine gD ?_;apply gS;refine gR rfl ?_;refine gP ?_;apply gE;exact gW Try.func48 rfl rfl ⟨rfl, e0⟩
  | false =>
   rw [if_neg (by simp)] at hr;subst hr
   have e0 : Ext h h := Ext.refl _
   refine Runs.intro aFunc48 rfl rfl rfl rfl fun rest => ?_;apply gS;refine gR rfl ?_;refine GoR.box rfl rfl rfl rfl rfl rfl fun h0 x0 f0 => ?_;replace e0 := e0.trans x0;refine gP ?_;apply gE;iterate 2 apply gS
   refine gR rfl ?_;refine gO rfl rfl (ld26 rfl f0 rfl) rfl ?_;refine GoR.call rfl rfl (aCF aFunc32 rfl) (hf _ (A.ext e0)) ?_ np;rintro v1 h1 ⟨q, x1⟩;cases q;refine ⟨_, rfl, ?_⟩;replace e0 := e0.trans x1;refine gP ?_;apply gE;refine gC (b := false) rfl ?_;refine gD ?_;iterate 2 apply gS
   refine gR rfl ?_;iterate 2 refine gP ?_
   apply gE;refine gC (b := true) rfl ?_;apply gS;refine gR rfl ?_;refine gP ?_;apply gE;exact gW Try.func48 rfl rfl ⟨rfl, e0⟩
 ·have hn : F.okB = false := Bool.eq_false_iff.2 fun z => O ((okB_iff F).1 z)
  rw [hn] at hf;rw [if_neg O] at hr;subst hr
  unfold FootV.cells at hf ⊢
  have e0 : Ext h h := Ext.refl _
  refine Runs.intro aFunc48 rfl rfl rfl rfl fun rest => ?_;apply gS;refine gR rfl ?_;refine GoR.box rfl rfl rfl rfl rfl rfl fun h0 x0 f0 => ?_;replace e0 := e0.trans x0;refine gP ?_;apply gE;iterate 2 apply gS
  refine gR rfl ?_;refine gO rfl rfl (ld26 rfl f0 rfl) rfl ?_;refine GoR.call rfl rfl (aCF aFunc32 rfl) (hf _ (A.ext e0)) ?_ np;rintro v1 h1 ⟨q, x1⟩;cases q;refine ⟨_, rfl, ?_⟩;replace e0 := e0.trans x1;refine gP ?_;apply gE;refine gC (b := true) rfl ?_;apply gS;refine gR rfl ?_;refine gP ?_;apply gE;exact gW Try.func48 rfl rfl ⟨rfl, e0⟩
theorem best51_ok {F : FootV} (O : F.Ok) {rsl hsl : AVal} {h : AH} (A : FootAt h F rsl hsl) {i : Nat} (hi : i < F.hs.length) {p : Pl} {d : Nat} (hd : d ≤ F.rs.length) :
  Runs Try.prog 51 [.agg (F.cells rsl hsl), .int .i64 (i : Nat), .agg p.cells, .int .i64 (d : Nat)] h (fun en h' => en = .ret (.int .i64 (F.w false i p d)) ∧ Ext h h') := by
 have hnr := O.nr
 have hnh := O.nh
 have hl1 := A.rs.len
 have hl2 := A.hs.len
 rw [List.length_map] at hl1 hl2
 have hsr := A.rs.same
 have hss := A.hs.same
 obtain ⟨x, hx⟩ : ∃ x, F.hs[i]? = some x := ⟨F.hs[i], by simp [hi]⟩
 obtain ⟨b2, o2, r3, r4⟩ := A.hs.at (i := i) (l := HF.cells x) (by rw [List.getElem?_map, hx]; rfl)
 rw [List.length_map] at r3
 unfold HF.cells at r4
 have hst : F.st false i = x.lo := by unfold FootV.st; rw [hx]; rfl
 have hdone := fun h k => Done86_ok (p := p) (d := k) (h := h)
 unfold FootV.cells Pl.cells
 unfold Pl.cells at hdone
 have e0 : Ext h h := Ext.refl _
 refine Runs.intro aFunc51 rfl rfl rfl rfl fun rest => ?_;apply gS;refine gR rfl ?_;refine GoR.box rfl rfl rfl rfl rfl rfl fun h0 x0 f0 => ?_;have := e0.1;replace e0 := e0.trans x0;have := f0.1;refine GoR.box rfl rfl rfl rfl rfl rfl fun h1 x1 f1 => ?_;have := e0.1;have := f0.1;replace f0 := f0.ext x1;replace e0 := e0.trans x1;have := f1.1;refine gP ?_;apply gE;apply gS;refine gR rfl ?_;refine gO rfl rfl (fa26_4 rfl) rfl ?_;refine gO rfl rfl (ld24 rfl f0 rfl) rfl ?_;refine gP ?_;refine gO rfl rfl (aOp_indexAddr (i := i) Try.underlying24 sz72 rfl r3 rfl (Nat.ble_eq_true_of_le hi)) rfl ?_;refine gO rfl rfl (fa72_0 rfl) rfl ?_;refine gO rfl rfl (fa31_0 rfl) rfl ?_;refine gO rfl rfl (aOp_loadE1 (k := 0) ag3 rfl (r4.ext e0) rfl) rfl ?_;refine gP ?_;apply gE;iterate 2 apply gS
 refine gR rfl ?_;refine gP ?_;apply gE;refine Go.block noJ_ok ?_
 refine Go.loopKeep (fun k : Nat => [(1, .int .i64 (i : Nat)), (3, .int .i64 (d : Nat)), (4, .ptr h.next 0), (6, .ptr h0.next 0), (9, .int .i64 (F.w false i p k)), (10, .int .i64 (k : Nat))])
  (fun m k h' => m + k = d ∧ Ext h h' ∧ Has h' h.next (.cells .plain [rsl, .int .i64 F.men, .int .i64 F.l0, .int .i64 F.l1, .int .i64 F.l2, .int .i64 F.d0, .int .i64 F.d1, .int .i64 F.d2, hsl] 26) ∧ Has h' h0.next (.cells .plain [.int .i64 p.a, .int .i64 p.b, .int .i64 p.c] 27))
  (n := d) 0 ⟨rfl, rfl, rfl, rfl, congrArg (fun z : Int => some (AVal.int .i64 z)) hst.symm, rfl, trivial⟩ ⟨rfl, e0, f0, f1⟩ ?_
 have m0 : h.next < h0.next := by have := x0.1; have := f0.1; omega
 clear e0 f0 f1;rintro m k h20 ⟨hm, e0, f0, f1⟩ again
 have n0 := f0.1
 have n1 := f1.1
 by_cases hk : k < d
 ·obtain ⟨r, hr⟩ : ∃ r, F.rs[k]? = some r := ⟨F.rs[k]'(by omega), by simp⟩
  obtain ⟨b3, o3, r5, r6⟩ := A.rs.at (i := k) (l := spC r) (by rw [List.getElem?_map, hr]; rfl)
  rw [List.length_map] at r5
  unfold spC at r6
  have hrn : F.rn false k = r.1 := by unfold FootV.rn; rw [hr]; rfl
  have hrb := rn_in O false k
  have hw := w_in O false i p k
  have hdi := doneV_in p k
  have hnx : F.w false i p (k + 1) = if doneV p k ≤ 2 then max 0 (F.w false i p k + (F.rn false k - F.dr (doneV p k))) else F.w false i p k := rfl
  rw [hrn] at hnx hrb
  obtain ⟨q, hq⟩ : ∃ q : Nat, doneV p k = q := Int.eq_ofNat_of_zero_le hdi.1
  have hdo := fun h => hdone h k
  rw [hq] at hnx hdi hdo
  obtain ⟨w, hww⟩ : ∃ w, F.w false i p k = w := ⟨_, rfl⟩
  rw [hww] at hw hnx ⊢
  by_cases c1 : q ≤ 2
  ·rw [if_pos (by omega)] at hnx
   have hq3 : q < 3 := by omega
   have hdr := dr_in O q
   have hdg := dr_get (F := F) (rsl := rsl) (hsl := hsl) hq3
   obtain ⟨dv, hdv⟩ : ∃ v, F.dr q = v := ⟨_, rfl⟩
   rw [hdv] at hnx hdr hdg
   have hsub : (w + r.1) - dv = w + (r.1 - dv) := by omega
   iterate 2 apply gS
   refine gR rfl ?_;iterate 2 refine gP ?_
   refine gO rfl rfl (kLT rfl rfl) rfl ?_;apply gE;refine gC (b := true) rfl ?_;refine gD ?_;apply gS;refine Go.block noJ_ok ?_;apply gS;refine gR rfl ?_;refine gO rfl rfl (ld27 rfl f1 rfl) rfl ?_;refine gP ?_;refine GoR.call rfl rfl (aCF aFunc86 rfl) (hdo _) ?_ np;rintro v21 h21 ⟨q, x21⟩;cases q;refine ⟨_, rfl, ?_⟩;replace f0 := f0.ext x21;replace f1 := f1.ext x21;replace e0 := e0.trans x21;refine gO rfl rfl (kLT rfl rfl) rfl ?_;apply gE;refine gC (b := true) rfl ?_;refine Go.drawnE plan51_0 ?_;refine gQ rfl rfl rfl rfl ?_;refine gQ rfl rfl (fa26_0 rfl) rfl ?_;refine gQ rfl rfl (ld22 rfl f0 rfl) rfl ?_;refine gQ rfl rfl rfl rfl ?_;refine gQ rfl rfl (aOp_indexAddr (i := k) Try.underlying22 sz31 rfl r5 rfl (Nat.ble_eq_true_of_le (by omega))) rfl ?_;refine gQ rfl rfl (fa31_0 rfl) rfl ?_;refine gQ rfl rfl (aOp_loadE1 (k := 0) ag3 rfl (r6.ext e0) rfl) rfl ?_;refine gQ rfl rfl (aA rfl rfl) rfl ?_;refine gQ rfl rfl (ld27 rfl f1 rfl) rfl ?_;refine gQ rfl rfl rfl rfl ?_;refine gQ rfl rfl (fa26_3 rfl) rfl ?_;refine GoE.call rfl rfl (aCF aFunc86 rfl) (hdo _) (dK 768 11 (dD 768 9 (dD 768 8 (dK 768 7 (dK 768 6 (dK 768 5 (dK 768 4 (dK 768 3 (dK 768 2 (dK 768 1 (dK 768 0 rfl))))))))))) ?_ np;rintro v22 h22 ⟨q, x22⟩;cases q;replace f0 := f0.ext x22;replace f1 := f1.ext x22;replace e0 := e0.trans x22;refine ⟨(rck (h2 := h22) rfl (fa26_3 rfl) (rck (h2 := h22) rfl (aA rfl rfl) (rck (h2 := h22) rfl (aOp_loadE1 (k := 0) ag3 rfl (r6.ext e0) rfl) (rck (h2 := h22) rfl (fa31_0 rfl) (rck (h2 := h22) rfl (aOp_indexAddr (i := k) Try.underlying22 sz31 rfl r5 rfl (Nat.ble_eq_true_of_le (by omega))) (rck (h2 := h22) rfl (rfl) (rck (h2 := h22) rfl (ld22 rfl f0 rfl) (rck (h2 := h22) rfl (fa26_0 rfl) (rck (h2 := h22) rfl (rfl) recheck_nil))))))))), _, rfl, ?_⟩;refine gQ rfl rfl (aOp_indexAddrArr (i := q) Try.underlying23 sz3 rfl rfl (Nat.ble_eq_true_of_le hq3)) rfl ?_;refine gQ rfl rfl (ld3 rfl f0 hdg) rfl ?_;refine gQ rfl rfl (aS rfl rfl) rfl ?_;refine gQ rfl rfl (aOp_max2 rfl rfl rfl) rfl ?_;refine gQ rfl rfl rfl rfl ?_;refine GoE.end rfl ?_;refine Go.inBlock noJ_ok ?_;refine gR rfl ?_;refine gP ?_;refine gO rfl rfl (aA rfl rfl) rfl ?_;refine gP ?_;apply gE;exact again (m - 1) (k + 1) _ _ (by omega) ⟨rfl, rfl, rfl, rfl, congrArg (fun z : Int => some (AVal.int .i64 z)) (by rw [hnx]; omega), rfl, trivial⟩ ⟨by omega, e0, f0, f1⟩
  ·rw [if_neg (by omega)] at hnx;iterate 2 apply gS
   refine gR rfl ?_;iterate 2 refine gP ?_
   refine gO rfl rfl (kLT rfl rfl) rfl ?_;apply gE;refine gC (b := true) rfl ?_;refine gD ?_;apply gS;refine Go.block noJ_ok ?_;apply gS;refine gR rfl ?_;refine gO rfl rfl (ld27 rfl f1 rfl) rfl ?_;refine gP ?_;refine GoR.call rfl rfl (aCF aFunc86 rfl) (hdo _) ?_ np;rintro v21 h21 ⟨q, x21⟩;cases q;refine ⟨_, rfl, ?_⟩;replace f0 := f0.ext x21;replace f1 := f1.ext x21;replace e0 := e0.trans x21;refine gO rfl rfl (kLF rfl rfl) rfl ?_;apply gE;refine gC (b := false) rfl ?_;refine gD ?_;refine Go.inBlock noJ_ok ?_;refine gR rfl ?_;refine gP ?_;refine gO rfl rfl (aA rfl rfl) rfl ?_;refine gP ?_;apply gE;exact again (m - 1) (k + 1) _ _ (by omega) ⟨rfl, rfl, rfl, rfl, congrArg (fun z : Int => some (AVal.int .i64 z)) hnx.symm, rfl, trivial⟩ ⟨by omega, e0, f0, f1⟩
 ·have hkd : k = d := by omega
  subst hkd
  obtain ⟨w, hww⟩ : ∃ w, F.w false i p k = w := ⟨_, rfl⟩
  rw [hww];iterate 2 apply gS
  refine gR rfl ?_;iterate 2 refine gP ?_
  refine gO rfl rfl (kLF rfl rfl) rfl ?_;apply gE;refine gC (b := false) rfl ?_;refine gD ?_;apply gS;refine gR rfl ?_;iterate 2 refine gP ?_
  apply gE;exact gW Try.func51 rfl rfl ⟨rfl, e0⟩
theorem worst52_ok {F : FootV} (O : F.Ok) {rsl hsl : AVal} {h : AH} (A : FootAt h F rsl hsl) {i : Nat} (hi : i < F.hs.length) {p : Pl} {d : Nat} (hd : d ≤ F.rs.length) :
  Runs Try.prog 52 [.agg (F.cells rsl hsl), .int .i64 (i : Nat), .agg p.cells, .int .i64 (d : Nat)] h (fun en h' => en = .ret (.int .i64 (F.w true i p d)) ∧ Ext h h') := by
 have hnr := O.nr
 have hnh := O.nh
 have hl1 := A.rs.len
 have hl2 := A.hs.len
 rw [List.length_map] at hl1 hl2
 have hsr := A.rs.same
 have hss := A.hs.same
 obtain ⟨x, hx⟩ : ∃ x, F.hs[i]? = some x := ⟨F.hs[i], by simp [hi]⟩
 obtain ⟨b2, o2, r3, r4⟩ := A.hs.at (i := i) (l := HF.cells x) (by rw [List.getElem?_map, hx]; rfl)
 rw [List.length_map] at r3
 unfold HF.cells at r4
 have hst : F.st true i = x.hi := by unfold FootV.st; rw [hx]; rfl
 have hdone := fun h k => Done86_ok (p := p) (d := k) (h := h)
 unfold FootV.cells Pl.cells
 unfold Pl.cells at hdone
 have e0 : Ext h h := Ext.refl _
 refine Runs.intro aFunc52 rfl rfl rfl rfl fun rest => ?_;apply gS;refine gR rfl ?_;refine GoR.box rfl rfl rfl rfl rfl rfl fun h0 x0 f0 => ?_;have := e0.1;replace e0 := e0.trans x0;have := f0.1;refine GoR.box rfl rfl rfl rfl rfl rfl fun h1 x1 f1 => ?_;have := e0.1;have := f0.1;replace f0 := f0.ext x1;replace e0 := e0.trans x1;have := f1.1;refine gP ?_;apply gE;apply gS;refine gR rfl ?_;refine gO rfl rfl (fa26_4 rfl) rfl ?_;refine gO rfl rfl (ld24 rfl f0 rfl) rfl ?_;refine gP ?_;refine gO rfl rfl (aOp_indexAddr (i := i) Try.underlying24 sz72 rfl r3 rfl (Nat.ble_eq_true_of_le hi)) rfl ?_;refine gO rfl rfl (fa72_0 rfl) rfl ?_;refine gO rfl rfl (fa31_1 rfl) rfl ?_;refine gO rfl rfl (aOp_loadE1 (k := 1) ag3 rfl (r4.ext e0) rfl) rfl ?_;refine gP ?_;apply gE;iterate 2 apply gS
 refine gR rfl ?_;refine gP ?_;apply gE;refine Go.block noJ_ok ?_
 refine Go.loopKeep (fun k : Nat => [(1, .int .i64 (i : Nat)), (3, .int .i64 (d : Nat)), (4, .ptr h.next 0), (6, .ptr h0.next 0), (9, .int .i64 (F.w true i p k)), (10, .int .i64 (k : Nat))])
  (fun m k h' => m + k = d ∧ Ext h h' ∧ Has h' h.next (.cells .plain [rsl, .int .i64 F.men, .int .i64 F.l0, .int .i64 F.l1, .int .i64 F.l2, .int .i64 F.d0, .int .i64 F.d1, .int .i64 F.d2, hsl] 26) ∧ Has h' h0.next (.cells .plain [.int .i64 p.a, .int .i64 p.b, .int .i64 p.c] 27))
  (n := d) 0 ⟨rfl, rfl, rfl, rfl, congrArg (fun z : Int => some (AVal.int .i64 z)) hst.symm, rfl, trivial⟩ ⟨rfl, e0, f0, f1⟩ ?_
 have m0 : h.next < h0.next := by have := x0.1; have := f0.1; omega
 clear e0 f0 f1;rintro m k h20 ⟨hm, e0, f0, f1⟩ again
 have n0 := f0.1
 have n1 := f1.1
 by_cases hk : k < d
 ·obtain ⟨r, hr⟩ : ∃ r, F.rs[k]? = some r := ⟨F.rs[k]'(by omega), by simp⟩
  obtain ⟨b3, o3, r5, r6⟩ := A.rs.at (i := k) (l := spC r) (by rw [List.getElem?_map, hr]; rfl)
  rw [List.length_map] at r5
  unfold spC at r6
  have hrn : F.rn true k = r.2 := by unfold FootV.rn; rw [hr]; rfl
  have hrb := rn_in O true k
  have hw := w_in O true i p k
  have hdi := doneV_in p k
  have hnx : F.w true i p (k + 1) = if doneV p k ≤ 2 then max 0 (F.w true i p k + (F.rn true k - F.dr (doneV p k))) else F.w true i p k := rfl
  rw [hrn] at hnx hrb
  obtain ⟨q, hq⟩ : ∃ q : Nat, doneV p k = q := Int.eq_ofNat_of_zero_le hdi.1
  have hdo := fun h => hdone h k
  rw [hq] at hnx hdi hdo
  obtain ⟨w, hww⟩ : ∃ w, F.w true i p k = w := ⟨_, rfl⟩
  rw [hww] at hw hnx ⊢
  by_cases c1 : q ≤ 2
  ·rw [if_pos (by omega)] at hnx
   have hq3 : q < 3 := by omega
   have hdr := dr_in O q
   have hdg := dr_get (F := F) (rsl := rsl) (hsl := hsl) hq3
   obtain ⟨dv, hdv⟩ : ∃ v, F.dr q = v := ⟨_, rfl⟩
   rw [hdv] at hnx hdr hdg
   have hsub : (w + r.2) - dv = w + (r.2 - dv) := by omega
   iterate 2 apply gS
   refine gR rfl ?_;iterate 2 refine gP ?_
   refine gO rfl rfl (kLT rfl rfl) rfl ?_;apply gE;refine gC (b := true) rfl ?_;refine gD ?_;apply gS;refine Go.block noJ_ok ?_;apply gS;refine gR rfl ?_;refine gO rfl rfl (ld27 rfl f1 rfl) rfl ?_;refine gP ?_;refine GoR.call rfl rfl (aCF aFunc86 rfl) (hdo _) ?_ np;rintro v21 h21 ⟨q, x21⟩;cases q;refine ⟨_, rfl, ?_⟩;replace f0 := f0.ext x21;replace f1 := f1.ext x21;replace e0 := e0.trans x21;refine gO rfl rfl (kLT rfl rfl) rfl ?_;apply gE;refine gC (b := true) rfl ?_;refine Go.drawnE plan52_0 ?_;refine gQ rfl rfl rfl rfl ?_;refine gQ rfl rfl (fa26_0 rfl) rfl ?_;refine gQ rfl rfl (ld22 rfl f0 rfl) rfl ?_;refine gQ rfl rfl rfl rfl ?_;refine gQ rfl rfl (aOp_indexAddr (i := k) Try.underlying22 sz31 rfl r5 rfl (Nat.ble_eq_true_of_le (by omega))) rfl ?_;refine gQ rfl rfl (fa31_1 rfl) rfl ?_;refine gQ rfl rfl (aOp_loadE1 (k := 1) ag3 rfl (r6.ext e0) rfl) rfl ?_;refine gQ rfl rfl (aA rfl rfl) rfl ?_;refine gQ rfl rfl (ld27 rfl f1 rfl) rfl ?_;refine gQ rfl rfl rfl rfl ?_;refine gQ rfl rfl (fa26_3 rfl) rfl ?_;refine GoE.call rfl rfl (aCF aFunc86 rfl) (hdo _) (dK 768 11 (dD 768 9 (dD 768 8 (dK 768 7 (dK 768 6 (dK 768 5 (dK 768 4 (dK 768 3 (dK 768 2 (dK 768 1 (dK 768 0 rfl))))))))))) ?_ np;rintro v22 h22 ⟨q, x22⟩;cases q;replace f0 := f0.ext x22;replace f1 := f1.ext x22;replace e0 := e0.trans x22;refine ⟨(rck (h2 := h22) rfl (fa26_3 rfl) (rck (h2 := h22) rfl (aA rfl rfl) (rck (h2 := h22) rfl (aOp_loadE1 (k := 1) ag3 rfl (r6.ext e0) rfl) (rck (h2 := h22) rfl (fa31_1 rfl) (rck (h2 := h22) rfl (aOp_indexAddr (i := k) Try.underlying22 sz31 rfl r5 rfl (Nat.ble_eq_true_of_le (by omega))) (rck (h2 := h22) rfl (rfl) (rck (h2 := h22) rfl (ld22 rfl f0 rfl) (rck (h2 := h22) rfl (fa26_0 rfl) (rck (h2 := h22) rfl (rfl) recheck_nil))))))))), _, rfl, ?_⟩;refine gQ rfl rfl (aOp_indexAddrArr (i := q) Try.underlying23 sz3 rfl rfl (Nat.ble_eq_true_of_le hq3)) rfl ?_;refine gQ rfl rfl (ld3 rfl f0 hdg) rfl ?_;refine gQ rfl rfl (aS rfl rfl) rfl ?_;refine gQ rfl rfl (aOp_max2 rfl rfl rfl) rfl ?_;refine gQ rfl rfl rfl rfl ?_;refine GoE.end rfl ?_;refine Go.inBlock noJ_ok ?_;refine gR rfl ?_;refine gP ?_;refine gO rfl rfl (aA rfl rfl) rfl ?_;refine gP ?_;apply gE;exact again (m - 1) (k + 1) _ _ (by omega) ⟨rfl, rfl, rfl, rfl, congrArg (fun z : Int => some (AVal.int .i64 z)) (by rw [hnx]; omega), rfl, trivial⟩ ⟨by omega, e0, f0, f1⟩
  ·rw [if_neg (by omega)] at hnx;iterate 2 apply gS
   refine gR rfl ?_;iterate 2 refine gP ?_
   refine gO rfl rfl (kLT rfl rfl) rfl ?_;apply gE;refine gC (b := true) rfl ?_;refine gD ?_;apply gS;refine Go.block noJ_ok ?_;apply gS;refine gR rfl ?_;refine gO rfl rfl (ld27 rfl f1 rfl) rfl ?_;refine gP ?_;refine GoR.call rfl rfl (aCF aFunc86 rfl) (hdo _) ?_ np;rintro v21 h21 ⟨q, x21⟩;cases q;refine ⟨_, rfl, ?_⟩;replace f0 := f0.ext x21;replace f1 := f1.ext x21;replace e0 := e0.trans x21;refine gO rfl rfl (kLF rfl rfl) rfl ?_;apply gE;refine gC (b := false) rfl ?_;refine gD ?_;refine Go.inBlock noJ_ok ?_;refine gR rfl ?_;refine gP ?_;refine gO rfl rfl (aA rfl rfl) rfl ?_;refine gP ?_;apply gE;exact again (m - 1) (k + 1) _ _ (by omega) ⟨rfl, rfl, rfl, rfl, congrArg (fun z : Int => some (AVal.int .i64 z)) hnx.symm, rfl, trivial⟩ ⟨by omega, e0, f0, f1⟩
 ·have hkd : k = d := by omega
  subst hkd
  obtain ⟨w, hww⟩ : ∃ w, F.w true i p k = w := ⟨_, rfl⟩
  rw [hww];iterate 2 apply gS
  refine gR rfl ?_;iterate 2 refine gP ?_
  refine gO rfl rfl (kLF rfl rfl) rfl ?_;apply gE;refine gC (b := false) rfl ?_;refine gD ?_;apply gS;refine gR rfl ?_;iterate 2 refine gP ?_
  apply gE;exact gW Try.func52 rfl rfl ⟨rfl, e0⟩
theorem surely88_ok {F : FootV} (O : F.Ok) {rsl hsl : AVal} {h : AH} (A : FootAt h F rsl hsl) {i : Nat} (hi : i < F.hs.length) {p : Pl} (hp : p.Ord F.rs.length) {s : Nat} (hs : s < 3) {b : Bool} (hb : decide (p.at s = -1 ∨ F.w true i p (p.at s).toNat ≤ F.lm s) = b) :
  Runs Try.prog 88 [.agg (F.cells rsl hsl), .int .i64 (i : Nat), .agg p.cells, .int .i64 (s : Nat)] h (fun en h' => en = .ret (.bool b) ∧ Ext h h') := by
 have hnr := O.nr
 have hsr := A.rs.same
 have hss := A.hs.same
 have hget := at_get (p := p) hs
 have hlg := lm_get (F := F) (rsl := rsl) (hsl := hsl) hs
 have hn := at_num (ord_num hp) s
 have hlm := lm_in O s
 subst hb
 by_cases c1 : p.at s = -1
 ·rw [decide_eq_true (show p.at s = -1 ∨ F.w true i p (p.at s).toNat ≤ F.lm s from .inl c1)];rw [c1] at hget
  have hw : ∀ h, FootAt h F rsl hsl → True := fun _ _ => trivial
  unfold FootV.cells Pl.cells
  have e0 : Ext h h := Ext.refl _
  refine Runs.intro aFunc88 rfl rfl rfl rfl fun rest => ?_;apply gS;refine gR rfl ?_;refine GoR.box rfl rfl rfl rfl rfl rfl fun h0 x0 f0 => ?_;replace e0 := e0.trans x0;refine GoR.box rfl rfl rfl rfl rfl rfl fun h1 x1 f1 => ?_;replace e0 := e0.trans x1;refine gP ?_;apply gE;apply gS;refine Go.drawnE plan88_0 ?_;refine gQ rfl rfl rfl rfl ?_;refine gQ rfl rfl (aOp_indexAddrArr (i := s) Try.underlying27 sz3 rfl rfl (Nat.ble_eq_true_of_le hs)) rfl ?_;refine gQ rfl rfl (ld3 rfl f1 hget) rfl ?_;refine gQ rfl rfl (kLT rfl rfl) rfl ?_;refine gQ rfl rfl rfl rfl ?_;iterate 12 refine GoE.skip rfl rfl rfl ?_
  iterate 2 refine gQ rfl rfl rfl rfl ?_
  refine GoE.end rfl ?_;exact gW Try.func88 rfl rfl ⟨rfl, e0⟩
 ·obtain ⟨d, hd⟩ : ∃ d : Nat, p.at s = d := Int.eq_ofNat_of_zero_le (by omega)
  rw [hd] at hget hn ⊢
  have hw := fun h A => worst52_ok O (h := h) (rsl := rsl) (hsl := hsl) A hi (p := p) (d := d) (by omega)
  obtain ⟨w, hww⟩ : ∃ w, F.w true i p d = w := ⟨_, rfl⟩
  rw [Int.toNat_natCast, hww];rw [hww] at hw
  unfold FootV.cells Pl.cells at hw
  unfold FootV.cells Pl.cells
  by_cases c2 : w ≤ F.lm s
  ·rw [decide_eq_true (show (d : Int) = -1 ∨ w ≤ F.lm s from .inr c2)]
   have e0 : Ext h h := Ext.refl _
   refine Runs.intro aFunc88 rfl rfl rfl rfl fun rest => ?_;apply gS;refine gR rfl ?_;refine GoR.box rfl rfl rfl rfl rfl rfl fun h0 x0 f0 => ?_;have := e0.1;replace e0 := e0.trans x0;have := f0.1;refine GoR.box rfl rfl rfl rfl rfl rfl fun h1 x1 f1 => ?_;have := e0.1;have := f0.1;replace f0 := f0.ext x1;replace e0 := e0.trans x1;have := f1.1;refine gP ?_;apply gE;apply gS;refine Go.drawnE plan88_0 ?_;refine gQ rfl rfl rfl rfl ?_;refine gQ rfl rfl (aOp_indexAddrArr (i := s) Try.underlying27 sz3 rfl rfl (Nat.ble_eq_true_of_le hs)) rfl ?_;refine gQ rfl rfl (ld3 rfl f1 hget) rfl ?_;refine gQ rfl rfl (kLF rfl rfl) rfl ?_;refine gQ rfl rfl rfl rfl ?_;refine gQ rfl rfl (ld26 rfl f0 rfl) rfl ?_;refine gQ rfl rfl rfl rfl ?_;refine gQ rfl rfl (ld27 rfl f1 rfl) rfl ?_;refine gQ rfl rfl rfl rfl ?_;refine gQ rfl rfl (aOp_indexAddrArr (i := s) Try.underlying27 sz3 rfl rfl (Nat.ble_eq_true_of_le hs)) rfl ?_;refine gQ rfl rfl (ld3 rfl f1 hget) rfl ?_;refine gQ rfl rfl rfl rfl ?_;refine gQ rfl rfl (fa26_2 rfl) rfl ?_;refine gQ rfl rfl (aOp_indexAddrArr (i := s) Try.underlying27 sz3 rfl rfl (Nat.ble_eq_true_of_le hs)) rfl ?_;refine gQ rfl rfl (ld3 rfl f0 hlg) rfl ?_;refine GoE.call rfl rfl (aCF aFunc52 rfl) (hw _ (A.ext e0)) (dK 2047 15 (dK 2047 14 (dK 2047 13 (dK 2047 12 (dD 2047 10 (dD 2047 9 (dD 2047 8 (dD 2047 7 (dD 2047 6 (dD 2047 5 (dD 2047 4 (dD 2047 3 (dD 2047 2 (dD 2047 1 (dD 2047 0 rfl))))))))))))))) ?_ np;rintro v2 h2 ⟨q, x2⟩;cases q;replace f0 := f0.ext x2;replace e0 := e0.trans x2;refine ⟨(rck (h2 := h2) rfl (ld3 rfl f0 hlg) (rck (h2 := h2) rfl (aOp_indexAddrArr (i := s) Try.underlying27 sz3 rfl rfl (Nat.ble_eq_true_of_le hs)) (rck (h2 := h2) rfl (fa26_2 rfl) (rck (h2 := h2) rfl (rfl) recheck_nil)))), _, rfl, ?_⟩;refine gQ rfl rfl (kMT rfl rfl) rfl ?_;iterate 2 refine gQ rfl rfl rfl rfl ?_
   refine GoE.end rfl ?_;exact gW Try.func88 rfl rfl ⟨rfl, e0⟩
  ·rw [decide_eq_false (show ¬ ((d : Int) = -1 ∨ w ≤ F.lm s) from fun z => z.elim (fun z => by omega) c2)]
   have e0 : Ext h h := Ext.refl _
   refine Runs.intro aFunc88 rfl rfl rfl rfl fun rest => ?_;apply gS;refine gR rfl ?_;refine GoR.box rfl rfl rfl rfl rfl rfl fun h0 x0 f0 => ?_;have := e0.1;replace e0 := e0.trans x0;have := f0.1;refine GoR.box rfl rfl rfl rfl rfl rfl fun h1 x1 f1 => ?_;have := e0.1;have := f0.1;replace f0 := f0.ext x1;replace e0 := e0.trans x1;have := f1.1;refine gP ?_;apply gE;apply gS;refine Go.drawnE plan88_0 ?_;refine gQ rfl rfl rfl rfl ?_;refine gQ rfl rfl (aOp_indexAddrArr (i := s) Try.underlying27 sz3 rfl rfl (Nat.ble_eq_true_of_le hs)) rfl ?_;refine gQ rfl rfl (ld3 rfl f1 hget) rfl ?_;refine gQ rfl rfl (kLF rfl rfl) rfl ?_;refine gQ rfl rfl rfl rfl ?_;refine gQ rfl rfl (ld26 rfl f0 rfl) rfl ?_;refine gQ rfl rfl rfl rfl ?_;refine gQ rfl rfl (ld27 rfl f1 rfl) rfl ?_;refine gQ rfl rfl rfl rfl ?_;refine gQ rfl rfl (aOp_indexAddrArr (i := s) Try.underlying27 sz3 rfl rfl (Nat.ble_eq_true_of_le hs)) rfl ?_;refine gQ rfl rfl (ld3 rfl f1 hget) rfl ?_;refine gQ rfl rfl rfl rfl ?_;refine gQ rfl rfl (fa26_2 rfl) rfl ?_;refine gQ rfl rfl (aOp_indexAddrArr (i := s) Try.underlying27 sz3 rfl rfl (Nat.ble_eq_true_of_le hs)) rfl ?_;refine gQ rfl rfl (ld3 rfl f0 hlg) rfl ?_;refine GoE.call rfl rfl (aCF aFunc52 rfl) (hw _ (A.ext e0)) (dK 2047 15 (dK 2047 14 (dK 2047 13 (dK 2047 12 (dD 2047 10 (dD 2047 9 (dD 2047 8 (dD 2047 7 (dD 2047 6 (dD 2047 5 (dD 2047 4 (dD 2047 3 (dD 2047 2 (dD 2047 1 (dD 2047 0 rfl))))))))))))))) ?_ np;rintro v2 h2 ⟨q, x2⟩;cases q;replace f0 := f0.ext x2;replace e0 := e0.trans x2;refine ⟨(rck (h2 := h2) rfl (ld3 rfl f0 hlg) (rck (h2 := h2) rfl (aOp_indexAddrArr (i := s) Try.underlying27 sz3 rfl rfl (Nat.ble_eq_true_of_le hs)) (rck (h2 := h2) rfl (fa26_2 rfl) (rck (h2 := h2) rfl (rfl) recheck_nil)))), _, rfl, ?_⟩;refine gQ rfl rfl (kMF rfl rfl) rfl ?_;iterate 2 refine gQ rfl rfl rfl rfl ?_
   refine GoE.end rfl ?_;exact gW Try.func88 rfl rfl ⟨rfl, e0⟩
theorem perhaps89_ok {F : FootV} (O : F.Ok) {rsl hsl : AVal} {h : AH} (A : FootAt h F rsl hsl) {i : Nat} (hi : i < F.hs.length) {p : Pl} (hp : p.Ord F.rs.length) {s : Nat} (hs : s < 3) {b : Bool} (hb : decide (p.at s = -1 ∨ F.w false i p (p.at s).toNat ≤ F.lm s) = b) :
  Runs Try.prog 89 [.agg (F.cells rsl hsl), .int .i64 (i : Nat), .agg p.cells, .int .i64 (s : Nat)] h (fun en h' => en = .ret (.bool b) ∧ Ext h h') := by
 have hnr := O.nr
 have hsr := A.rs.same
 have hss := A.hs.same
 have hget := at_get (p := p) hs
 have hlg := lm_get (F := F) (rsl := rsl) (hsl := hsl) hs
 have hn := at_num (ord_num hp) s
 have hlm := lm_in O s
 subst hb
 by_cases c1 : p.at s = -1
 ·rw [decide_eq_true (show p.at s = -1 ∨ F.w false i p (p.at s).toNat ≤ F.lm s from .inl c1)];rw [c1] at hget
  have hw : ∀ h, FootAt h F rsl hsl → True := fun _ _ => trivial
  unfold FootV.cells Pl.cells
  have e0 : Ext h h := Ext.refl _
  refine Runs.intro aFunc89 rfl rfl rfl rfl fun rest => ?_;apply gS;refine gR rfl ?_;refine GoR.box rfl rfl rfl rfl rfl rfl fun h0 x0 f0 => ?_;replace e0 := e0.trans x0;refine GoR.box rfl rfl rfl rfl rfl rfl fun h1 x1 f1 => ?_;replace e0 := e0.trans x1;refine gP ?_;apply gE;apply gS;refine Go.drawnE plan89_0 ?_;refine gQ rfl rfl rfl rfl ?_;refine gQ rfl rfl (aOp_indexAddrArr (i := s) Try.underlying27 sz3 rfl rfl (Nat.ble_eq_true_of_le hs)) rfl ?_;refine gQ rfl rfl (ld3 rfl f1 hget) rfl ?_;refine gQ rfl rfl (kLT rfl rfl) rfl ?_;refine gQ rfl rfl rfl rfl ?_;iterate 12 refine GoE.skip rfl rfl rfl ?_
  iterate 2 refine gQ rfl rfl rfl rfl ?_
  refine GoE.end rfl ?_;exact gW Try.func89 rfl rfl ⟨rfl, e0⟩
 ·obtain ⟨d, hd⟩ : ∃ d : Nat, p.at s = d := Int.eq_ofNat_of_zero_le (by omega)
  rw [hd] at hget hn ⊢
  have hw := fun h A => best51_ok O (h := h) (rsl := rsl) (hsl := hsl) A hi (p := p) (d := d) (by omega)
  obtain ⟨w, hww⟩ : ∃ w, F.w false i p d = w := ⟨_, rfl⟩
  rw [Int.toNat_natCast, hww];rw [hww] at hw
  unfold FootV.cells Pl.cells at hw
  unfold FootV.cells Pl.cells
  by_cases c2 : w ≤ F.lm s
  ·rw [decide_eq_true (show (d : Int) = -1 ∨ w ≤ F.lm s from .inr c2)]
   have e0 : Ext h h := Ext.refl _
   refine Runs.intro aFunc89 rfl rfl rfl rfl fun rest => ?_;apply gS;refine gR rfl ?_;refine GoR.box rfl rfl rfl rfl rfl rfl fun h0 x0 f0 => ?_;have := e0.1;replace e0 := e0.trans x0;have := f0.1;refine GoR.box rfl rfl rfl rfl rfl rfl fun h1 x1 f1 => ?_;have := e0.1;have := f0.1;replace f0 := f0.ext x1;replace e0 := e0.trans x1;have := f1.1;refine gP ?_;apply gE;apply gS;refine Go.drawnE plan89_0 ?_;refine gQ rfl rfl rfl rfl ?_;refine gQ rfl rfl (aOp_indexAddrArr (i := s) Try.underlying27 sz3 rfl rfl (Nat.ble_eq_true_of_le hs)) rfl ?_;refine gQ rfl rfl (ld3 rfl f1 hget) rfl ?_;refine gQ rfl rfl (kLF rfl rfl) rfl ?_;refine gQ rfl rfl rfl rfl ?_;refine gQ rfl rfl (ld26 rfl f0 rfl) rfl ?_;refine gQ rfl rfl rfl rfl ?_;refine gQ rfl rfl (ld27 rfl f1 rfl) rfl ?_;refine gQ rfl rfl rfl rfl ?_;refine gQ rfl rfl (aOp_indexAddrArr (i := s) Try.underlying27 sz3 rfl rfl (Nat.ble_eq_true_of_le hs)) rfl ?_;refine gQ rfl rfl (ld3 rfl f1 hget) rfl ?_;refine gQ rfl rfl rfl rfl ?_;refine gQ rfl rfl (fa26_2 rfl) rfl ?_;refine gQ rfl rfl (aOp_indexAddrArr (i := s) Try.underlying27 sz3 rfl rfl (Nat.ble_eq_true_of_le hs)) rfl ?_;refine gQ rfl rfl (ld3 rfl f0 hlg) rfl ?_;refine GoE.call rfl rfl (aCF aFunc51 rfl) (hw _ (A.ext e0)) (dK 2047 15 (dK 2047 14 (dK 2047 13 (dK 2047 12 (dD 2047 10 (dD 2047 9 (dD 2047 8 (dD 2047 7 (dD 2047 6 (dD 2047 5 (dD 2047 4 (dD 2047 3 (dD 2047 2 (dD 2047 1 (dD 2047 0 rfl))))))))))))))) ?_ np;rintro v2 h2 ⟨q, x2⟩;cases q;replace f0 := f0.ext x2;replace e0 := e0.trans x2;refine ⟨(rck (h2 := h2) rfl (ld3 rfl f0 hlg) (rck (h2 := h2) rfl (aOp_indexAddrArr (i := s) Try.underlying27 sz3 rfl rfl (Nat.ble_eq_true_of_le hs)) (rck (h2 := h2) rfl (fa26_2 rfl) (rck (h2 := h2) rfl (rfl) recheck_nil)))), _, rfl, ?_⟩;refine gQ rfl rfl (kMT rfl rfl) rfl ?_;iterate 2 refine gQ rfl rfl rfl rfl ?_
   refine GoE.end rfl ?_;exact gW Try.func89 rfl rfl ⟨rfl, e0⟩
  ·rw [decide_eq_false (show ¬ ((d : Int) = -1 ∨ w ≤ F.lm s) from fun z => z.elim (fun z => by omega) c2)]
   have e0 : Ext h h := Ext.refl _
   refine Runs.intro aFunc89 rfl rfl rfl rfl fun rest => ?_;apply gS;refine gR rfl ?_;refine GoR.box rfl rfl rfl rfl rfl rfl fun h0 x0 f0 => ?_;have := e0.1;replace e0 := e0.trans x0;have := f0.1;refine GoR.box rfl rfl rfl rfl rfl rfl fun h1 x1 f1 => ?_;have := e0.1;have := f0.1;replace f0 := f0.ext x1;replace e0 := e0.trans x1;have := f1.1;refine gP ?_;apply gE;apply gS;refine Go.drawnE plan89_0 ?_;refine gQ rfl rfl rfl rfl ?_;refine gQ rfl rfl (aOp_indexAddrArr (i := s) Try.underlying27 sz3 rfl rfl (Nat.ble_eq_true_of_le hs)) rfl ?_;refine gQ rfl rfl (ld3 rfl f1 hget) rfl ?_;refine gQ rfl rfl (kLF rfl rfl) rfl ?_;refine gQ rfl rfl rfl rfl ?_;refine gQ rfl rfl (ld26 rfl f0 rfl) rfl ?_;refine gQ rfl rfl rfl rfl ?_;refine gQ rfl rfl (ld27 rfl f1 rfl) rfl ?_;refine gQ rfl rfl rfl rfl ?_;refine gQ rfl rfl (aOp_indexAddrArr (i := s) Try.underlying27 sz3 rfl rfl (Nat.ble_eq_true_of_le hs)) rfl ?_;refine gQ rfl rfl (ld3 rfl f1 hget) rfl ?_;refine gQ rfl rfl rfl rfl ?_;refine gQ rfl rfl (fa26_2 rfl) rfl ?_;refine gQ rfl rfl (aOp_indexAddrArr (i := s) Try.underlying27 sz3 rfl rfl (Nat.ble_eq_true_of_le hs)) rfl ?_;refine gQ rfl rfl (ld3 rfl f0 hlg) rfl ?_;refine GoE.call rfl rfl (aCF aFunc51 rfl) (hw _ (A.ext e0)) (dK 2047 15 (dK 2047 14 (dK 2047 13 (dK 2047 12 (dD 2047 10 (dD 2047 9 (dD 2047 8 (dD 2047 7 (dD 2047 6 (dD 2047 5 (dD 2047 4 (dD 2047 3 (dD 2047 2 (dD 2047 1 (dD 2047 0 rfl))))))))))))))) ?_ np;rintro v2 h2 ⟨q, x2⟩;cases q;replace f0 := f0.ext x2;replace e0 := e0.trans x2;refine ⟨(rck (h2 := h2) rfl (ld3 rfl f0 hlg) (rck (h2 := h2) rfl (aOp_indexAddrArr (i := s) Try.underlying27 sz3 rfl rfl (Nat.ble_eq_true_of_le hs)) (rck (h2 := h2) rfl (fa26_2 rfl) (rck (h2 := h2) rfl (rfl) recheck_nil)))), _, rfl, ?_⟩;refine gQ rfl rfl (kMF rfl rfl) rfl ?_;iterate 2 refine gQ rfl rfl rfl rfl ?_
   refine GoE.end rfl ?_;exact gW Try.func89 rfl rfl ⟨rfl, e0⟩
end Go.Proofs.Ytmimdgjehnhnoaa
