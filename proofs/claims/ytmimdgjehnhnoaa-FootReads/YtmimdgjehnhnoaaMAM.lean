import Derived.Test.YtmimdgjehnhnoaaMAL
import Derived.Test.YtmimdgjehnhnoaaMAG
import Derived.Test.YtmimdgjehnhnoaaMAH
namespace Go.Proofs.Ytmimdgjehnhnoaa
open Go Go.AbsE
set_option linter.unusedSimpArgs false
set_option maxRecDepth 100000
set_option maxHeartbeats 0
set_option linter.unusedVariables false
theorem itC_mem {a b m : Nat} {p : Pl} : p ∈ itC a b m ↔ ∃ k, k < m ∧ p = ⟨(a : Nat), (b : Nat), ((b + 1 + k : Nat) : Int)⟩ := by
 unfold itC
 simp only [List.mem_map, List.mem_range]
 constructor
 ·rintro ⟨k, hk, rfl⟩; exact ⟨k, hk, rfl⟩
 ·rintro ⟨k, hk, rfl⟩; exact ⟨k, hk, rfl⟩
theorem whole_mem {n : Nat} {p : Pl} : p ∈ wholeL n ↔ 0 ≤ p.a ∧ p.a < p.b ∧ p.b < p.c ∧ p.c < n := by
 unfold wholeL itA itB
 simp only [List.mem_flatMap, List.mem_range, itC_mem]
 constructor
 ·rintro ⟨a, ha, j, hj, k, hk, rfl⟩
  dsimp only
  omega
 ·rintro ⟨h1, h2, h3, h4⟩
  obtain ⟨a, b, c⟩ := p
  dsimp only at h1 h2 h3 h4
  refine ⟨a.toNat, by omega, (b - a - 1).toNat, by omega, (c - b - 1).toNat, by omega, ?_⟩
  congr 1 <;> omega
theorem whole_ord {n : Nat} {p : Pl} (h : p ∈ wholeL n) : p.Ord n := by
 have := whole_mem.1 h
 unfold Pl.Ord
 omega
def FootV.soon (F : FootV) (T : Bool) (i : Nat) : Option Pl := firstV (fun p => decide (F.Kept T i p)) (wholeL F.rs.length)
theorem suit_ok {F : FootV} (O : F.Ok) {rsl hsl : AVal} {h : AH} (A : FootAt h F rsl hsl) (T : Bool) {i : Nat} (hi : i < F.hs.length) {b1 b2 b3 : Nat} (p : Pl) (hp : p.Ord F.rs.length)
  (f0 : Has h b1 (.cells .plain (F.cells rsl hsl) 80)) (f1 : Has h b2 (.cells .plain [truthV T F rsl hsl] 94)) (f2 : Has h b3 (.cells .plain [.int .i64 i] 3)) :
  Runs Try.prog 92 [.agg p.cells, .ptr b1 0, .ptr b2 0, .ptr b3 0] h (fun en h' => en = .ret (.bool (decide (F.Kept T i p))) ∧ Ext h h') := by
 have hk := fun h A => kept_ok O (h := h) (rsl := rsl) (hsl := hsl) A T hi p hp
 obtain ⟨tv, htv⟩ : ∃ tv, truthV T F rsl hsl = tv := ⟨_, rfl⟩
 rw [htv] at hk f1
 unfold Pl.cells FootV.cells at hk
 unfold FootV.cells at f0
 unfold Pl.cells
 have e0 : Ext h h := Ext.refl _
 refine Runs.intro aFunc92 rfl rfl rfl rfl fun rest => ?_;apply gS;refine gR rfl ?_;refine GoR.box rfl rfl rfl rfl rfl rfl fun h3 x3 f3 => ?_;replace f0 := f0.ext x3;replace f2 := f2.ext x3;replace f1 := f1.ext x3;replace e0 := e0.trans x3;refine gP ?_;apply gE;apply gS;refine gR rfl ?_;refine gO rfl rfl (ld80 rfl f0 rfl) rfl ?_;refine gO rfl rfl (ld94 rfl f1 rfl) rfl ?_;refine gO rfl rfl (ld3 rfl f2 rfl) rfl ?_;refine gO rfl rfl (ld83 rfl f3 rfl) rfl ?_;refine GoR.call rfl rfl (aCF aFunc87 rfl) (hk _ (A.ext e0)) ?_ np;rintro v4 h4 ⟨q, x4⟩;cases q;refine ⟨_, rfl, ?_⟩;replace e0 := e0.trans x4;refine gP ?_;apply gE;exact gW Try.func92 rfl rfl ⟨rfl, e0⟩
theorem truthV_cells (T : Bool) (F : FootV) (rsl hsl : AVal) : (truthV T F rsl hsl).cells = [truthV T F rsl hsl] ∧ scalars [truthV T F rsl hsl] = true := by
 unfold truthV
 split <;> exact ⟨rfl, rfl⟩
theorem whole91_ok {F : FootV} {rsl hsl : AVal} (h : AH) : Runs Try.prog 91 [.agg (F.cells rsl hsl)] h (fun en h' => ∃ bw, en = .ret (.func (.func 119) [] [.ptr bw 0]) ∧ Ext h h' ∧ Has h' bw (.cells .plain (F.cells rsl hsl) 80) ∧ h.next ≤ bw) := by
 unfold FootV.cells
 have e0 : Ext h h := Ext.refl _
 refine Runs.intro aFunc91 rfl rfl rfl rfl fun rest => ?_;apply gS;refine gR rfl ?_;refine GoR.box rfl rfl rfl rfl rfl rfl fun h0 x0 f0 => ?_;replace e0 := e0.trans x0;refine gP ?_;apply gE;apply gS;refine gR rfl ?_;iterate 2 refine gP ?_
 apply gE;exact gV (ret_end (aResult_of Try.func91 rfl rfl) ⟨_, rfl, e0, f0, Nat.le_refl _⟩)
theorem soonest_ok {F : FootV} (O : F.Ok) {rsl hsl : AVal} {h : AH} (A : FootAt h F rsl hsl) (T : Bool) {i : Nat} (hi : i < F.hs.length) :
  Runs Try.prog 57 [.agg (F.cells rsl hsl), truthV T F rsl hsl, .int .i64 i] h (fun en h' => en = .ret (.tuple [.agg ((F.soon T i).getD zeroPl).cells, .bool (F.soon T i).isSome]) ∧ Ext h h') := by
 have hl1 := A.rs.len
 rw [List.length_map] at hl1
 have hf := fun bw b1 b2 b3 h (A : FootAt h F rsl hsl) (fw : Has h bw (.cells .plain (F.cells rsl hsl) 80)) (f0 : Has h b1 (.cells .plain (F.cells rsl hsl) 80)) (f1 : Has h b2 (.cells .plain [truthV T F rsl hsl] 94)) (f2 : Has h b3 (.cells .plain [.int .i64 i] 3)) =>
  first_ok O (h := h) (rsl := rsl) (hsl := hsl) hl1 (bw := bw) fw (fid := 92) (caps := [.ptr b1 0, .ptr b2 0, .ptr b3 0]) aFunc92 (fun p => decide (F.Kept T i p)) (fun x h' hx e => suit_ok O (A.ext e) T hi x (whole_ord hx) (f0.ext e) (f1.ext e) (f2.ext e))
 have hff : firstV (fun p => decide (F.Kept T i p)) (wholeL F.rs.length) = F.soon T i := rfl
 simp only [hff] at hf
 obtain ⟨tc, tsc⟩ := truthV_cells T F rsl hsl
 obtain ⟨tv, htv⟩ : ∃ tv, truthV T F rsl hsl = tv := ⟨_, rfl⟩
 rw [htv] at hf tc tsc ⊢
 unfold FootV.cells at hf ⊢
 have hwh := fun h => whole91_ok (F := F) (rsl := rsl) (hsl := hsl) h
 unfold FootV.cells at hwh
 have e0 : Ext h h := Ext.refl _
 refine Runs.intro aFunc57 rfl rfl rfl rfl fun rest => ?_;apply gS;refine gR rfl ?_;refine GoR.box rfl rfl rfl rfl rfl rfl fun h0 x0 f0 => ?_;have := e0.1;replace e0 := e0.trans x0;have := f0.1;refine GoR.box rfl rfl rfl rfl rfl rfl fun h1 x1 f1 => ?_;have := e0.1;have := f0.1;replace f0 := f0.ext x1;replace e0 := e0.trans x1;have := f1.1;refine GoR.box rfl rfl rfl rfl rfl rfl fun h2 x2 f2 => ?_;have := e0.1;have := f1.1;have := f0.1;replace f1 := f1.ext x2;replace f0 := f0.ext x2;replace e0 := e0.trans x2;have := f2.1;refine GoR.alloc rfl rfl rfl zt83 rfl rfl fun h3 x3 f3 => ?_;have := e0.1;have := f2.1;have := f1.1;have := f0.1;replace f2 := f2.ext x3;replace f1 := f1.ext x3;replace f0 := f0.ext x3;replace e0 := e0.trans x3;have := f3.1;refine gP ?_;apply gE;apply gS;refine gR rfl ?_;refine gO rfl rfl (ld80 rfl f0 rfl) rfl ?_;refine GoR.call rfl rfl (aCF aFunc91 rfl) (hwh _) ?_ (by rintro _ _ ⟨bw, q, _, fw, _⟩; cases q);rintro v4 h4 ⟨bw, q, x4, fw, _⟩;cases q;refine ⟨_, rfl, ?_⟩;have := e0.1;replace f3 := f3.ext x4;replace f2 := f2.ext x4;replace f1 := f1.ext x4;replace f0 := f0.ext x4;replace e0 := e0.trans x4;refine gP ?_;refine gO rfl rfl (aOp_build zt130 hu130 pl130 rfl rfl) rfl ?_;refine GoR.call rfl rfl (aCF aFunc90 rfl) (hf _ _ _ _ _ (A.ext e0) fw f0 (by have := f1; rw [tc] at this; exact this) f2) ?_ np;rintro v5 h5 ⟨q, x5⟩;cases q;refine ⟨_, rfl, ?_⟩;replace fw := fw.ext x5;replace f3 := f3.ext x5;replace e0 := e0.trans x5;iterate 2 refine gP ?_
 refine GoR.store rfl rfl rfl rfl rfl rfl f3 rfl sz83 rfl rfl rfl fun h6 u6 => ?_;replace fw := fw.upd u6 (by omega);replace f3 := u6.has f3;replace e0 := e0.upd u6 (by omega);refine gP ?_;apply gE;exact gV (ret_end (aResult_of Try.func57 rfl (aResults_c rfl f3 (inCells_agg ag83 sz83 rfl) rfl)) ⟨rfl, e0⟩)
noncomputable def ops56 : Array Oper := ((drawnOps Try.f56)[0]?).getD #[]
theorem befs56 : befs0 ops56 = [0, 0, 2, 0, 15, 31, 63, 63, 0, 383, 1023] := by kernel_rfl
theorem size56 : ops56.size = 11 := by kernel_rfl
theorem pl56a : planX ops56 [0, 0, 258, 0, 271, 287, 319, 319, 0, 383, 1023] [0, 1, 3, 8, 2, 4, 5, 6, 7, 9, 10] = some (mkPlan ops56.toList [(0, 0, true, false), (1, 0, true, false), (3, 0, true, false), (8, 0, false, false), (2, 258, false, false), (4, 271, false, false), (5, 287, true, false), (6, 319, true, false), (7, 319, true, false), (9, 383, false, false), (10, 1023, true, false)]) := by kernel_rfl
theorem pl56b : planX ops56 [0, 0, 2, 0, 271, 287, 319, 319, 6, 383, 1023] [0, 1, 3, 2, 8, 4, 5, 6, 7, 9, 10] = some (mkPlan ops56.toList [(0, 0, true, false), (1, 0, true, false), (3, 0, true, false), (2, 2, false, false), (8, 6, false, false), (4, 271, false, false), (5, 287, true, false), (6, 319, true, false), (7, 319, true, false), (9, 383, false, false), (10, 1023, true, false)]) := by kernel_rfl
theorem pl56c : planX ops56 [0, 0, 2, 0, 15, 31, 63, 63, 31, 383, 1023] [0, 1, 3, 2, 4, 5, 6, 7, 8, 9, 10] = some (mkPlan ops56.toList [(0, 0, true, false), (1, 0, true, false), (3, 0, true, false), (2, 2, false, false), (4, 15, false, false), (5, 31, true, false), (6, 63, true, false), (7, 63, true, false), (8, 31, false, false), (9, 383, false, false), (10, 1023, true, false)]) := by kernel_rfl
theorem alts56 {P : Program} {c : FC} {k : List AItem} {id : Nat} {t : Tr AVal} {h : AH} {Q : AM → Prop}
  (ga : ∀ pl, planX ops56 [0, 0, 258, 0, 271, 287, 319, 319, 0, 383, 1023] [0, 1, 3, 8, 2, 4, 5, 6, 7, 9, 10] = some pl → GoE P c k Q ops56 pl (eraseT ops56.toList t) [] t h)
  (gb : ∀ pl, planX ops56 [0, 0, 2, 0, 271, 287, 319, 319, 6, 383, 1023] [0, 1, 3, 2, 8, 4, 5, 6, 7, 9, 10] = some pl → GoE P c k Q ops56 pl (eraseT ops56.toList t) [] t h)
  (gc : ∀ pl, planX ops56 [0, 0, 2, 0, 15, 31, 63, 63, 31, 383, 1023] [0, 1, 3, 2, 4, 5, 6, 7, 8, 9, 10] = some pl → GoE P c k Q ops56 pl (eraseT ops56.toList t) [] t h) :
  Go P c (.code (.region id ops56 true) :: k) t h Q := by
 refine Go.drawnX pl56c fun s hv => ?_
 have hb := fun i k hi hk => VB.before hv befs56 i k (by rw [size56]; exact hi) hk
 have h2_1 := hb 2 1 (by decide) (by decide)
 have h4_0 := hb 4 0 (by decide) (by decide)
 have h4_1 := hb 4 1 (by decide) (by decide)
 have h4_2 := hb 4 2 (by decide) (by decide)
 have h4_3 := hb 4 3 (by decide) (by decide)
 have h5_0 := hb 5 0 (by decide) (by decide)
 have h5_1 := hb 5 1 (by decide) (by decide)
 have h5_2 := hb 5 2 (by decide) (by decide)
 have h5_3 := hb 5 3 (by decide) (by decide)
 have h5_4 := hb 5 4 (by decide) (by decide)
 have h6_0 := hb 6 0 (by decide) (by decide)
 have h6_1 := hb 6 1 (by decide) (by decide)
 have h6_2 := hb 6 2 (by decide) (by decide)
 have h6_3 := hb 6 3 (by decide) (by decide)
 have h6_4 := hb 6 4 (by decide) (by decide)
 have h6_5 := hb 6 5 (by decide) (by decide)
 have h7_0 := hb 7 0 (by decide) (by decide)
 have h7_1 := hb 7 1 (by decide) (by decide)
 have h7_2 := hb 7 2 (by decide) (by decide)
 have h7_3 := hb 7 3 (by decide) (by decide)
 have h7_4 := hb 7 4 (by decide) (by decide)
 have h7_5 := hb 7 5 (by decide) (by decide)
 have d2 := VB.apart hv befs56 8 2 (by rw [size56]; decide) (by decide)
 have d4 := VB.apart hv befs56 8 4 (by rw [size56]; decide) (by decide)
 by_cases q2 : s.idxOf 8 < s.idxOf 2
 ·refine ⟨_, _, _, pl56a, VB.alt hv befs56 size56 [(8, 2), (8, 4), (8, 5), (8, 6), (8, 7)] (by kernel_rfl) ?_, ga _ pl56a⟩
  intro e he
  simp only [List.mem_cons, List.not_mem_nil, or_false] at he
  rcases he with rfl | rfl | rfl | rfl | rfl <;> dsimp only <;> omega
 by_cases q4 : s.idxOf 8 < s.idxOf 4
 ·refine ⟨_, _, _, pl56b, VB.alt hv befs56 size56 [(8, 4), (8, 5), (8, 6), (8, 7), (1, 8), (2, 8)] (by kernel_rfl) ?_, gb _ pl56b⟩
  intro e he
  simp only [List.mem_cons, List.not_mem_nil, or_false] at he
  rcases he with rfl | rfl | rfl | rfl | rfl | rfl <;> dsimp only <;> omega
 refine ⟨_, _, _, pl56c, VB.alt hv befs56 size56 [(0, 8), (1, 8), (2, 8), (3, 8), (4, 8)] (by kernel_rfl) ?_, gc _ pl56c⟩
 intro e he
 simp only [List.mem_cons, List.not_mem_nil, or_false] at he
 rcases he with rfl | rfl | rfl | rfl | rfl <;> dsimp only <;> omega
theorem soonB_no {F : FootV} (O : F.Ok) {rsl hsl : AVal} {n : Int} {bi br : Nat} {h : AH} (A : FootAt h F rsl hsl) (hno : ¬ (0 ≤ n ∧ n ≤ (F.hs.length : Int) - 1))
  (f0 : Has h bi (.cells .plain [.int .i64 n] 3)) : Runs Try.prog 56 [.agg (F.cells rsl hsl), .ptr bi 0, .ptr br 0] h (fun en h' => en = .pan (refusal 2) ∧ Ext h h') := by
 have hnh := O.nh
 have k2 := fun h A => needHeap_no (F := F) (rsl := rsl) (hsl := hsl) (n := n) (h := h) A (by omega) hno
 unfold FootV.cells at k2 ⊢
 have e0 : Ext h h := Ext.refl _
 refine Runs.intro aFunc56 rfl rfl rfl rfl fun rest => ?_;apply gS;refine gR rfl ?_;refine GoR.box rfl rfl rfl rfl rfl rfl fun h1 x1 f1 => ?_;replace f0 := f0.ext x1;replace e0 := e0.trans x1;apply gE;apply gS;refine gR rfl ?_;refine gO rfl rfl (ld80 rfl f1 rfl) rfl ?_;refine gO rfl rfl (ld3 rfl f0 rfl) rfl ?_;refine GoR.callP rfl rfl (aCF aFunc44 rfl) (k2 _ (A.ext e0)) (by rintro _ _ ⟨q, _⟩; cases q) ?_;rintro chain h2 ⟨q, x2⟩
 have q := AEnd.pan.inj q
 subst q;replace e0 := e0.trans x2;exact FLeft.pan (⟨rfl, e0⟩)
theorem soonB_ok {F : FootV} (O : F.Ok) {rsl hsl : AVal} {i : Nat} {bi br : Nat} {h : AH} (A : FootAt h F rsl hsl) (hi : i < F.hs.length) (hb : bi ≠ br)
  (f0 : Has h bi (.cells .plain [.int .i64 i] 3)) (f1 : Has h br (.cells .plain [.int .i64 0, .int .i64 0, .int .i64 0] 27)) :
  Runs Try.prog 56 [.agg (F.cells rsl hsl), .ptr bi 0, .ptr br 0] h (fun en h' => match F.soon true i with | some p => en = .ret (.tuple []) ∧ ExtF (fun x => x = br) h h' ∧ Has h' br (.cells .plain p.cells 27) | none => en = .pan (refusal 4) ∧ Ext h h') := by
 have hnh := O.nh
 have k1 := fun h A => needHeap_yes (F := F) (rsl := rsl) (hsl := hsl) (n := i) (h := h) A (by omega) (by omega)
 have k3 := fun h A => soonest_ok (h := h) (rsl := rsl) (hsl := hsl) O A true hi
 have hw := fun h => worst_ok (F := F) (rsl := rsl) (hsl := hsl) (h := h)
 have s1 := same_cells F A
 have s2 := same_truth F A true
 obtain ⟨tv, htv⟩ : ∃ tv, truthV true F rsl hsl = tv := ⟨_, rfl⟩
 rw [htv] at k3 hw s2
 unfold FootV.cells at k1 k3 hw ⊢
 have y0 : ExtF (fun b => b = br) h h := ExtF.of (Ext.refl _)
 have hbr := f1.1
 obtain ⟨sp, hsp⟩ : ∃ sp, F.soon true i = sp := ⟨_, rfl⟩
 rw [hsp] at k3 ⊢
 obtain ⟨sr, hsr⟩ : ∃ sr, sp.getD zeroPl = sr := ⟨_, rfl⟩
 rw [hsr] at k3
 have s4 := same_plan sr
 have s5 : sameA (.tuple [.agg [.int .i64 sr.a, .int .i64 sr.b, .int .i64 sr.c], .bool sp.isSome]) (.tuple [.agg [.int .i64 sr.a, .int .i64 sr.b, .int .i64 sr.c], .bool sp.isSome]) = true := by
  simp only [sameA, sameAs] at s4 ⊢
  rw [s4]
  cases sp.isSome <;> rfl
 unfold Pl.cells at k3
 have e0 : Ext h h := Ext.refl _
 refine Runs.intro aFunc56 rfl rfl rfl rfl fun rest => ?_;apply gS;refine gR rfl ?_;refine GoR.box rfl rfl rfl rfl rfl rfl fun h2 x2 f2 => ?_;have := e0.1;have := f0.1;have := f1.1;replace f0 := f0.ext x2;replace f1 := f1.ext x2;replace e0 := e0.trans x2;replace y0 := y0.ext x2;have := f2.1;apply gE;apply gS;refine gR rfl ?_;refine gO rfl rfl (ld80 rfl f2 rfl) rfl ?_;refine gO rfl rfl (ld3 rfl f0 rfl) rfl ?_;refine GoR.call rfl rfl (aCF aFunc44 rfl) (k1 _ (A.ext e0)) ?_ np;rintro v3 h3 ⟨q, x3⟩;cases q;refine ⟨_, rfl, ?_⟩;replace f2 := f2.ext x3;replace f0 := f0.ext x3;replace f1 := f1.ext x3;replace e0 := e0.trans x3;replace y0 := y0.ext x3;apply gE
 have h9 := e0.1
 refine Go.seq noJ_ok (Go.join (fun b : Nat => [(1, .ptr bi 0), (2, .ptr br 0), (3, .ptr h.next 0), (4, .ptr b 0), (5, .bool sp.isSome)]) (fun b h' => ExtF (fun b => b = br) h h' ∧ Ext h h' ∧ b ≠ br ∧ Has h' br (.cells .plain [.int .i64 0, .int .i64 0, .int .i64 0] 27) ∧ Has h' b (.cells .plain [.int .i64 sr.a, .int .i64 sr.b, .int .i64 sr.c] 83)) ?_ ?_)
 ·intro k' done
  refine alts56 ?_ ?_ ?_
  ·intro pl hpl
   rw [pl56a] at hpl;cases hpl;iterate 2 refine gQ rfl rfl (ld80 rfl f2 rfl) rfl ?_
   refine gQ rfl rfl (ld3 rfl f0 rfl) rfl ?_;refine GoE.alloc rfl rfl zt83 (dK 0 3 (dK 0 1 (dK 0 0 rfl))) rfl rfl fun h10 x10 f10 => ?_;have := e0.1;have := f2.1;have := f0.1;have := f1.1;replace f2 := f2.ext x10;replace f0 := f0.ext x10;replace f1 := f1.ext x10;replace e0 := e0.trans x10;replace y0 := y0.ext x10;have := f10.1;refine ⟨(rck (h2 := h10) rfl (ld3 rfl f0 rfl) (rck (h2 := h10) rfl (ld80 rfl f2 rfl) (rck (h2 := h10) rfl (ld80 rfl f2 rfl) recheck_nil))), ?_⟩;refine GoE.call rfl rfl (aCF aFunc58 rfl) (hw _) (dK 258 3 (dD 258 1 (dK 258 0 rfl))) ?_ np;rintro v11 h11 ⟨q, x11⟩;cases q;replace f10 := f10.ext x11;replace f2 := f2.ext x11;replace f0 := f0.ext x11;replace f1 := f1.ext x11;replace e0 := e0.trans x11;replace y0 := y0.ext x11;refine ⟨(rck (h2 := h11) rfl (ld3 rfl f0 rfl) (rck (h2 := h11) rfl (ld80 rfl f2 rfl) recheck_nil)), _, rfl, ?_⟩;refine GoE.call rfl rfl (aCF aFunc57 rfl) (k3 _ (A.ext e0)) (dD 271 3 (dD 271 0 rfl)) ?_ np;rintro v12 h12 ⟨q, x12⟩;cases q;replace f10 := f10.ext x12;replace f2 := f2.ext x12;replace f0 := f0.ext x12;replace f1 := f1.ext x12;replace e0 := e0.trans x12;replace y0 := y0.ext x12;refine ⟨recheck_nil, _, rfl, ?_⟩;iterate 3 refine gQ rfl rfl rfl rfl ?_
   refine GoE.store rfl rfl rfl rfl (dK 383 7 (dD 383 6 (dD 383 5 rfl))) rfl rfl f10 rfl sz83 rfl rfl rfl fun h13 u13 => ?_;replace f10 := u13.has f10;replace f2 := f2.upd u13 (by omega);replace f0 := f0.upd u13 (by omega);replace f1 := f1.upd u13 (by omega);replace e0 := e0.upd u13 (by omega);replace y0 := y0.upd u13 (.inr (by omega));refine ⟨(rck (h2 := h13) rfl (rfl) recheck_nil), ?_⟩;refine gQ rfl rfl rfl rfl ?_;refine GoE.end rfl ?_;exact done _ _ _ ⟨rfl, rfl, rfl, rfl, rfl, trivial⟩ ⟨y0, e0, by have := x10.1; have := x11.1; omega, f1, by assumption⟩
  ·intro pl hpl
   rw [pl56b] at hpl;cases hpl;iterate 2 refine gQ rfl rfl (ld80 rfl f2 rfl) rfl ?_
   refine gQ rfl rfl (ld3 rfl f0 rfl) rfl ?_;refine GoE.call rfl rfl (aCF aFunc58 rfl) (hw _) (dK 2 3 (dD 2 1 (dK 2 0 rfl))) ?_ np;rintro v10 h10 ⟨q, x10⟩;cases q;replace f2 := f2.ext x10;replace f0 := f0.ext x10;replace f1 := f1.ext x10;replace e0 := e0.trans x10;replace y0 := y0.ext x10;refine ⟨(rck (h2 := h10) rfl (ld3 rfl f0 rfl) (rck (h2 := h10) rfl (ld80 rfl f2 rfl) recheck_nil)), _, rfl, ?_⟩;refine GoE.alloc rfl rfl zt83 (dK 6 3 (dK 6 0 rfl)) rfl rfl fun h11 x11 f11 => ?_;have := e0.1;have := f2.1;have := f0.1;have := f1.1;replace f2 := f2.ext x11;replace f0 := f0.ext x11;replace f1 := f1.ext x11;replace e0 := e0.trans x11;replace y0 := y0.ext x11;have := f11.1;refine ⟨(rck (h2 := h11) rfl (ld3 rfl f0 rfl) (rck (h2 := h11) rfl (ld80 rfl f2 rfl) recheck_nil)), ?_⟩;refine GoE.call rfl rfl (aCF aFunc57 rfl) (k3 _ (A.ext e0)) (dD 271 3 (dD 271 0 rfl)) ?_ np;rintro v12 h12 ⟨q, x12⟩;cases q;replace f11 := f11.ext x12;replace f2 := f2.ext x12;replace f0 := f0.ext x12;replace f1 := f1.ext x12;replace e0 := e0.trans x12;replace y0 := y0.ext x12;refine ⟨recheck_nil, _, rfl, ?_⟩;iterate 3 refine gQ rfl rfl rfl rfl ?_
   refine GoE.store rfl rfl rfl rfl (dK 383 7 (dD 383 6 (dD 383 5 rfl))) rfl rfl f11 rfl sz83 rfl rfl rfl fun h13 u13 => ?_;replace f11 := u13.has f11;replace f2 := f2.upd u13 (by omega);replace f0 := f0.upd u13 (by omega);replace f1 := f1.upd u13 (by omega);replace e0 := e0.upd u13 (by omega);replace y0 := y0.upd u13 (.inr (by omega));refine ⟨(rck (h2 := h13) rfl (rfl) recheck_nil), ?_⟩;refine gQ rfl rfl rfl rfl ?_;refine GoE.end rfl ?_;exact done _ _ _ ⟨rfl, rfl, rfl, rfl, rfl, trivial⟩ ⟨y0, e0, by have := x10.1; have := x11.1; omega, f1, by assumption⟩
  ·intro pl hpl
   rw [pl56c] at hpl;cases hpl;iterate 2 refine gQ rfl rfl (ld80 rfl f2 rfl) rfl ?_
   refine gQ rfl rfl (ld3 rfl f0 rfl) rfl ?_;refine GoE.call rfl rfl (aCF aFunc58 rfl) (hw _) (dK 2 3 (dD 2 1 (dK 2 0 rfl))) ?_ np;rintro v10 h10 ⟨q, x10⟩;cases q;replace f2 := f2.ext x10;replace f0 := f0.ext x10;replace f1 := f1.ext x10;replace e0 := e0.trans x10;replace y0 := y0.ext x10;refine ⟨(rck (h2 := h10) rfl (ld3 rfl f0 rfl) (rck (h2 := h10) rfl (ld80 rfl f2 rfl) recheck_nil)), _, rfl, ?_⟩;refine GoE.call rfl rfl (aCF aFunc57 rfl) (k3 _ (A.ext e0)) (dD 15 3 (dD 15 0 rfl)) ?_ np;rintro v11 h11 ⟨q, x11⟩;cases q;replace f2 := f2.ext x11;replace f0 := f0.ext x11;replace f1 := f1.ext x11;replace e0 := e0.trans x11;replace y0 := y0.ext x11;refine ⟨recheck_nil, _, rfl, ?_⟩;iterate 3 refine gQ rfl rfl rfl rfl ?_
   refine GoE.alloc rfl rfl zt83 (dK 31 7 (dK 31 6 (dK 31 5 rfl))) rfl rfl fun h12 x12 f12 => ?_;have := e0.1;have := f2.1;have := f0.1;have := f1.1;replace f2 := f2.ext x12;replace f0 := f0.ext x12;replace f1 := f1.ext x12;replace e0 := e0.trans x12;replace y0 := y0.ext x12;have := f12.1;refine ⟨(rck (h2 := h12) rfl (rfl) (rck (h2 := h12) rfl (rfl) (rck (h2 := h12) rfl (rfl) recheck_nil))), ?_⟩;refine GoE.store rfl rfl rfl rfl (dK 383 7 (dD 383 6 (dD 383 5 rfl))) rfl rfl f12 rfl sz83 rfl rfl rfl fun h13 u13 => ?_;replace f12 := u13.has f12;replace f2 := f2.upd u13 (by omega);replace f0 := f0.upd u13 (by omega);replace f1 := f1.upd u13 (by omega);replace e0 := e0.upd u13 (by omega);replace y0 := y0.upd u13 (.inr (by omega));refine ⟨(rck (h2 := h13) rfl (rfl) recheck_nil), ?_⟩;refine gQ rfl rfl rfl rfl ?_;refine GoE.end rfl ?_;exact done _ _ _ ⟨rfl, rfl, rfl, rfl, rfl, trivial⟩ ⟨y0, e0, by have := x10.1; have := x11.1; omega, f1, by assumption⟩
 ·clear e0 y0 f0 f1 f2;rintro b h20 ⟨y0, e0, hb, f1, f4⟩
  cases sp with
  | none =>
   apply gS;refine gR rfl ?_;iterate 2 refine gP ?_
   refine GoR.callP rfl rfl (aCF aFunc59 rfl) (refuse_yes _ _) (by rintro _ _ ⟨q, _⟩; cases q) ?_;rintro chain h21 ⟨q, x21⟩
   have q := AEnd.pan.inj q
   subst q;replace f1 := f1.ext x21;replace f4 := f4.ext x21;replace e0 := e0.trans x21;replace y0 := y0.ext x21;exact FLeft.pan (⟨rfl, e0⟩)
  | some p =>
   have hpr : p = sr := hsr
   subst hpr;apply gS;refine gR rfl ?_;iterate 2 refine gP ?_
   refine GoR.call rfl rfl (aCF aFunc59 rfl) (refuse_no _ _) ?_ np;rintro v21 h21 ⟨q, x21⟩;cases q;refine ⟨_, rfl, ?_⟩;replace f1 := f1.ext x21;replace f4 := f4.ext x21;replace y0 := y0.ext x21;apply gE;refine gR rfl ?_;refine gO rfl rfl (ld83 rfl f4 rfl) rfl ?_;refine GoR.store rfl rfl rfl rfl rfl rfl f1 rfl sz27 rfl rfl rfl fun h22 u22 => ?_;replace f1 := u22.has f1;clear e0;replace y0 := y0.upd u22 (.inl rfl);apply gE;exact Go.endL (FLeft.ret (v := .tuple []) (aResult_of Try.func56 rfl rfl) ⟨rfl, y0, f1⟩)
end Go.Proofs.Ytmimdgjehnhnoaa

namespace Go.Proofs.Ytmimdgjehnhnoaa
open Go Go.AbsE
set_option linter.unusedSimpArgs false
set_option maxRecDepth 100000
set_option maxHeartbeats 0
set_option linter.unusedVariables false
def FootV.set (F : FootV) (T : Bool) : Nat → Nat
 | 0 => 0
 | i + 1 => if (F.soon T i).isSome then F.set T i ||| 2 ^ i else F.set T i
theorem set_lt (F : FootV) (T : Bool) : ∀ i, F.set T i < 2 ^ i
 | 0 => Nat.one_pos
 | i + 1 => by
  have := set_lt F T i
  unfold FootV.set
  split
  ·exact Nat.or_lt_two_pow (Nat.lt_of_lt_of_le this (Nat.pow_le_pow_right (by omega) (by omega))) (Nat.pow_lt_pow_right (by omega) (by omega))
  ·exact Nat.lt_of_lt_of_le this (Nat.pow_le_pow_right (by omega) (by omega))
theorem clamped_ok {F : FootV} (O : F.Ok) {rsl hsl : AVal} {h : AH} (A : FootAt h F rsl hsl) (T : Bool) :
  Runs Try.prog 62 [.agg (F.cells rsl hsl), truthV T F rsl hsl] h (fun en h' => en = .ret (.int .i64 (F.set T F.hs.length : Nat)) ∧ Ext h h') := by
 have hl1 := A.hs.len
 rw [List.length_map] at hl1
 have hnh := O.nh
 have hk := fun h A i hi => soonest_ok O (h := h) (rsl := rsl) (hsl := hsl) A T (i := i) hi
 obtain ⟨tv, htv⟩ : ∃ tv, truthV T F rsl hsl = tv := ⟨_, rfl⟩
 rw [htv] at hk ⊢
 unfold FootV.cells at hk ⊢
 have e0 : Ext h h := Ext.refl _
 refine Runs.intro aFunc62 rfl rfl rfl rfl fun rest => ?_;apply gS;refine gR rfl ?_;refine GoR.box rfl rfl rfl rfl rfl rfl fun h0 x0 f0 => ?_;have := e0.1;replace e0 := e0.trans x0;have := f0.1;refine gP ?_;apply gE;apply gS;refine gR rfl ?_;refine gP ?_;apply gE;iterate 2 apply gS
 refine gR rfl ?_;refine gO rfl rfl (fa80_4 rfl) rfl ?_;refine gO rfl rfl (ld24 rfl f0 rfl) rfl ?_;refine gO rfl rfl (aOp_lenSlice Try.underlying24 rfl (by assumption)) rfl ?_;refine gP ?_;apply gE;refine Go.block noJ_ok ?_
 refine Go.loopKeep (fun i : Nat => [(1, tv), (2, .ptr h.next 0), (5, .int .i64 (F.set T i : Nat)), (11, .int .i64 F.hs.length), (12, .int .i64 (i : Nat))])
  (fun m i h' => m + i = F.hs.length ∧ Ext h h' ∧ Has h' h.next (.cells .plain [rsl, .int .i64 F.men, .int .i64 F.l0, .int .i64 F.l1, .int .i64 F.l2, .int .i64 F.d0, .int .i64 F.d1, .int .i64 F.d2, hsl] 80))
  (n := F.hs.length) 0 ⟨rfl, rfl, rfl, rfl, rfl, trivial⟩ ⟨rfl, e0, f0⟩ ?_
 clear e0 f0;rintro m i h20 ⟨hm, e0, f0⟩ again
 by_cases hi : i < F.hs.length
 ·have hki := fun h A => hk h A i hi
  obtain ⟨sp, hsp⟩ : ∃ sp, F.soon T i = sp := ⟨_, rfl⟩
  rw [hsp] at hki
  have hs := set_lt F T i
  have hs8 : 2 ^ i ≤ 2 ^ 3 := Nat.pow_le_pow_right (by omega) (by omega)
  have hsn : F.set T (i + 1) = if sp.isSome then F.set T i ||| 2 ^ i else F.set T i := by rw [← hsp]; rfl
  unfold Pl.cells at hki
  cases sp with
  | none =>
   apply gS;refine gR rfl ?_;refine gO rfl rfl (kLT rfl rfl) rfl ?_;apply gE;apply gS;refine gC (b := true) rfl ?_;refine gD ?_;apply gS;refine Go.block noJ_ok ?_;apply gS;refine gR rfl ?_;iterate 2 refine gP ?_
   apply gE;apply gS;refine gR rfl ?_;refine gO rfl rfl (ld80 rfl f0 rfl) rfl ?_;iterate 2 refine gP ?_
   refine GoR.call rfl rfl (aCF aFunc57 rfl) (hki _ (A.ext e0)) ?_ np;rintro v21 h21 ⟨q, x21⟩;cases q;refine ⟨_, rfl, ?_⟩;replace f0 := f0.ext x21;replace e0 := e0.trans x21;iterate 3 refine gP ?_
   refine GoR.alloc rfl rfl rfl zt83 rfl rfl fun h22 x22 f22 => ?_;have := e0.1;have := f0.1;replace f0 := f0.ext x22;replace e0 := e0.trans x22;have := f22.1;refine GoR.store rfl rfl rfl rfl rfl rfl f22 rfl sz83 rfl rfl rfl fun h23 u23 => ?_;replace f22 := u23.has f22;replace f0 := f0.upd u23 (by omega);replace e0 := e0.upd u23 (by omega);refine gP ?_;apply gE;apply gS;refine gR rfl ?_;refine gP ?_;apply gE;refine gC (b := false) rfl ?_;refine gD ?_;refine Go.inBlock noJ_ok ?_;refine gR rfl ?_;refine gO rfl rfl (aA rfl rfl) rfl ?_;refine gP ?_;apply gE;exact again (m - 1) (i + 1) _ _ (by omega) ⟨rfl, rfl, by rw [hsn]; rfl, rfl, rfl, trivial⟩ ⟨by omega, e0, f0⟩
  | some p =>
   apply gS;refine gR rfl ?_;refine gO rfl rfl (kLT rfl rfl) rfl ?_;apply gE;apply gS;refine gC (b := true) rfl ?_;refine gD ?_;apply gS;refine Go.block noJ_ok ?_;apply gS;refine gR rfl ?_;iterate 2 refine gP ?_
   apply gE;apply gS;refine gR rfl ?_;refine gO rfl rfl (ld80 rfl f0 rfl) rfl ?_;iterate 2 refine gP ?_
   refine GoR.call rfl rfl (aCF aFunc57 rfl) (hki _ (A.ext e0)) ?_ np;rintro v21 h21 ⟨q, x21⟩;cases q;refine ⟨_, rfl, ?_⟩;replace f0 := f0.ext x21;replace e0 := e0.trans x21;iterate 3 refine gP ?_
   refine GoR.alloc rfl rfl rfl zt83 rfl rfl fun h22 x22 f22 => ?_;have := e0.1;have := f0.1;replace f0 := f0.ext x22;replace e0 := e0.trans x22;have := f22.1;refine GoR.store rfl rfl rfl rfl rfl rfl f22 rfl sz83 rfl rfl rfl fun h23 u23 => ?_;replace f0 := f0.upd u23 (by omega);replace e0 := e0.upd u23 (by omega);refine gP ?_;apply gE;apply gS;refine gR rfl ?_;refine gP ?_;apply gE;refine gC (b := true) rfl ?_;refine gR rfl ?_;iterate 2 refine gP ?_
   refine gO rfl rfl (aOp_shl (i := i) (r := ((2 ^ i : Nat) : Int)) rfl rfl (by omega) (by rw [Int.one_mul]; norm_cast) (by omega)) rfl ?_;refine gO rfl rfl (aOp_orNat (a := F.set T i) (b := 2 ^ i) rfl rfl (by omega) (by omega) rfl) rfl ?_;refine gP ?_;apply gE;refine Go.inBlock noJ_ok ?_;refine gR rfl ?_;refine gO rfl rfl (aA rfl rfl) rfl ?_;refine gP ?_;apply gE;exact again (m - 1) (i + 1) _ _ (by omega) ⟨rfl, rfl, by rw [hsn]; rfl, rfl, rfl, trivial⟩ ⟨by omega, e0, f0⟩
 ·have hii : i = F.hs.length := by omega
  subst hii;apply gS;refine gR rfl ?_;refine gO rfl rfl (kLF rfl rfl) rfl ?_;apply gE;apply gS;refine gC (b := false) rfl ?_;refine gD ?_;apply gS;refine gR rfl ?_;iterate 2 refine gP ?_
  apply gE;exact gW Try.func62 rfl rfl ⟨rfl, e0⟩
theorem canB_no {F : FootV} (O : F.Ok) {rsl hsl : AVal} {i : Int} {p : Pl} {bi bp br : Nat} {h : AH} (A : FootAt h F rsl hsl) (hno : ¬ ((0 ≤ i ∧ i ≤ (F.hs.length : Int) - 1) ∧ p.Ord F.rs.length))
  (f0 : Has h bi (.cells .plain [.int .i64 i] 3)) (f1 : Has h bp (.cells .plain [.int .i64 p.a, .int .i64 p.b, .int .i64 p.c] 27)) :
  Runs Try.prog 53 [.agg (F.cells rsl hsl), .ptr bi 0, .ptr bp 0, .ptr br 0] h (fun en h' => en = .pan (refusal 2) ∧ Ext h h') := by
 have hnr := O.nr
 have hnh := O.nh
 have k1 := fun h A => needHeap_yes (F := F) (rsl := rsl) (hsl := hsl) (n := i) (h := h) A (by omega)
 have k2 := fun h A => needHeap_no (F := F) (rsl := rsl) (hsl := hsl) (n := i) (h := h) A (by omega)
 have k4 := fun h A => needOrder_no (F := F) (rsl := rsl) (hsl := hsl) (p := p) (h := h) A (by omega)
 unfold FootV.cells at k1 k2 k4 ⊢
 unfold Pl.cells at k4
 by_cases c1 : 0 ≤ i ∧ i ≤ (F.hs.length : Int) - 1
 ·have c2 : ¬ p.Ord F.rs.length := fun q => hno ⟨c1, q⟩
  have e0 : Ext h h := Ext.refl _
  refine Runs.intro aFunc53 rfl rfl rfl rfl fun rest => ?_;apply gS;refine gR rfl ?_;refine GoR.box rfl rfl rfl rfl rfl rfl fun h2 x2 f2 => ?_;replace f0 := f0.ext x2;replace f1 := f1.ext x2;replace e0 := e0.trans x2;apply gE;apply gS;refine gR rfl ?_;refine gO rfl rfl (ld80 rfl f2 rfl) rfl ?_;refine gO rfl rfl (ld3 rfl f0 rfl) rfl ?_;refine GoR.call rfl rfl (aCF aFunc44 rfl) (k1 _ (A.ext e0) c1) ?_ np;rintro v3 h3 ⟨q, x3⟩;cases q;refine ⟨_, rfl, ?_⟩;replace f2 := f2.ext x3;replace f1 := f1.ext x3;replace e0 := e0.trans x3;apply gE;apply gS;refine gR rfl ?_;refine gO rfl rfl (ld80 rfl f2 rfl) rfl ?_;refine gO rfl rfl (ld27 rfl f1 rfl) rfl ?_;refine GoR.callP rfl rfl (aCF aFunc45 rfl) (k4 _ (A.ext e0) c2) (by rintro _ _ ⟨q, _⟩; cases q) ?_;rintro chain h4 ⟨q, x4⟩
  have q := AEnd.pan.inj q
  subst q;replace e0 := e0.trans x4;exact FLeft.pan (⟨rfl, e0⟩)
 ·have e0 : Ext h h := Ext.refl _
  refine Runs.intro aFunc53 rfl rfl rfl rfl fun rest => ?_;apply gS;refine gR rfl ?_;refine GoR.box rfl rfl rfl rfl rfl rfl fun h2 x2 f2 => ?_;replace f0 := f0.ext x2;replace e0 := e0.trans x2;apply gE;apply gS;refine gR rfl ?_;refine gO rfl rfl (ld80 rfl f2 rfl) rfl ?_;refine gO rfl rfl (ld3 rfl f0 rfl) rfl ?_;refine GoR.callP rfl rfl (aCF aFunc44 rfl) (k2 _ (A.ext e0) c1) (by rintro _ _ ⟨q, _⟩; cases q) ?_;rintro chain h3 ⟨q, x3⟩
  have q := AEnd.pan.inj q
  subst q;replace e0 := e0.trans x3;exact FLeft.pan (⟨rfl, e0⟩)
theorem canB_ok {F : FootV} (O : F.Ok) {rsl hsl : AVal} {i : Nat} {p : Pl} {bi bp br : Nat} {h : AH} (A : FootAt h F rsl hsl) (hi : i < F.hs.length) (hp : p.Ord F.rs.length)
  (f0 : Has h bi (.cells .plain [.int .i64 i] 3)) (f1 : Has h bp (.cells .plain [.int .i64 p.a, .int .i64 p.b, .int .i64 p.c] 27)) (f2 : Has h br (.cells .plain [.int .i64 0] 3)) (hb1 : bi ≠ br) (hb2 : bp ≠ br) :
  Runs Try.prog 53 [.agg (F.cells rsl hsl), .ptr bi 0, .ptr bp 0, .ptr br 0] h (fun en h' => en = .ret (.tuple []) ∧ ExtF (fun x => x = br) h h' ∧ Has h' br (.cells .plain [.int .i64 (F.can i p)] 3)) := by
 have hnr := O.nr
 have hnh := O.nh
 have k1 := fun h A => needHeap_yes (F := F) (rsl := rsl) (hsl := hsl) (n := i) (h := h) A (by omega) (by omega)
 have k3 := fun h A => needOrder_yes (F := F) (rsl := rsl) (hsl := hsl) (p := p) (h := h) A (by omega) hp
 have k6 := fun h A => can_ok O (rsl := rsl) (hsl := hsl) (h := h) A hi p hp
 unfold FootV.cells at k1 k3 k6 ⊢
 unfold Pl.cells at k3 k6
 have y0 : ExtF (fun b => b = br) h h := ExtF.of (Ext.refl _)
 have hbr := f2.1
 have e0 : Ext h h := Ext.refl _
 refine Runs.intro aFunc53 rfl rfl rfl rfl fun rest => ?_;apply gS;refine gR rfl ?_;refine GoR.box rfl rfl rfl rfl rfl rfl fun h3 x3 f3 => ?_;replace f0 := f0.ext x3;replace f1 := f1.ext x3;replace f2 := f2.ext x3;replace e0 := e0.trans x3;replace y0 := y0.ext x3;apply gE;apply gS;refine gR rfl ?_;refine gO rfl rfl (ld80 rfl f3 rfl) rfl ?_;refine gO rfl rfl (ld3 rfl f0 rfl) rfl ?_;refine GoR.call rfl rfl (aCF aFunc44 rfl) (k1 _ (A.ext e0)) ?_ np;rintro v4 h4 ⟨q, x4⟩;cases q;refine ⟨_, rfl, ?_⟩;replace f3 := f3.ext x4;replace f0 := f0.ext x4;replace f1 := f1.ext x4;replace f2 := f2.ext x4;replace e0 := e0.trans x4;replace y0 := y0.ext x4;apply gE;apply gS;refine gR rfl ?_;refine gO rfl rfl (ld80 rfl f3 rfl) rfl ?_;refine gO rfl rfl (ld27 rfl f1 rfl) rfl ?_;refine GoR.call rfl rfl (aCF aFunc45 rfl) (k3 _ (A.ext e0)) ?_ np;rintro v5 h5 ⟨q, x5⟩;cases q;refine ⟨_, rfl, ?_⟩;replace f3 := f3.ext x5;replace f0 := f0.ext x5;replace f1 := f1.ext x5;replace f2 := f2.ext x5;replace e0 := e0.trans x5;replace y0 := y0.ext x5;apply gE;refine gR rfl ?_;refine gO rfl rfl (ld80 rfl f3 rfl) rfl ?_;refine gO rfl rfl (ld3 rfl f0 rfl) rfl ?_;refine gO rfl rfl (ld27 rfl f1 rfl) rfl ?_;refine GoR.call rfl rfl (aCF aFunc54 rfl) (k6 _ (A.ext e0)) ?_ np;rintro v6 h6 ⟨q, x6⟩;cases q;refine ⟨_, rfl, ?_⟩;replace f2 := f2.ext x6;replace y0 := y0.ext x6;refine GoR.store rfl rfl rfl rfl rfl rfl f2 rfl sz3 rfl rfl rfl fun h7 u7 => ?_;replace f2 := u7.has f2;clear e0;replace y0 := y0.upd u7 (.inl rfl);apply gE;exact Go.endL (FLeft.ret (v := .tuple []) (aResult_of Try.func53 rfl rfl) ⟨rfl, y0, f2⟩)
def FootV.canR (F : FootV) (i : Int) (p : Pl) : Int × Int :=
 if F.Ok then (if (0 ≤ i ∧ i ≤ (F.hs.length : Int) - 1) ∧ p.Ord F.rs.length then (F.can i.toNat p, 0) else (0, 2)) else (0, 1)
theorem Can_ok {F : FootV} {rsl hsl : AVal} {h : AH} (A : FootAt h F rsl hsl) (hb1 : F.rs.length ≤ 40) (hb2 : F.hs.length ≤ 40) (i : Int) (p : Pl) :
  Runs Try.prog 16 [.agg (F.cells rsl hsl), .int .i64 i, .agg p.cells] h (fun en h' => en = .ret (.tuple [.int .i64 (F.canR i p).1, .int .i64 (F.canR i p).2]) ∧ Ext h h') := by
 unfold FootV.canR
 by_cases O : F.Ok
 ·rw [if_pos O]
  by_cases hr : (0 ≤ i ∧ i ≤ (F.hs.length : Int) - 1) ∧ p.Ord F.rs.length
  ·rw [if_pos hr]
   obtain ⟨h1', h2'⟩ := hr
   obtain ⟨i', rfl⟩ := Int.eq_ofNat_of_zero_le h1'.1
   rw [Int.toNat_natCast]
   have hat := attempt_puts O rsl hsl
   have hB := fun bi bp br h A => canB_ok O (rsl := rsl) (hsl := hsl) (i := i') (p := p) (bi := bi) (bp := bp) (br := br) (h := h) A (by omega) h2'
   unfold FootV.cells at hat hB ⊢
   unfold Pl.cells
   have e0 : Ext h h := Ext.refl _
   refine Runs.intro aFunc16 rfl rfl rfl rfl fun rest => ?_;apply gS;refine gR rfl ?_;refine GoR.box rfl rfl rfl rfl rfl rfl fun h0 x0 f0 => ?_;have := e0.1;replace e0 := e0.trans x0;have := f0.1;refine GoR.box rfl rfl rfl rfl rfl rfl fun h1 x1 f1 => ?_;have := e0.1;have := f0.1;replace f0 := f0.ext x1;replace e0 := e0.trans x1;have := f1.1;refine GoR.box rfl rfl rfl rfl rfl rfl fun h2 x2 f2 => ?_;have := e0.1;have := f1.1;have := f0.1;replace f1 := f1.ext x2;replace f0 := f0.ext x2;replace e0 := e0.trans x2;have := f2.1;refine GoR.alloc rfl rfl rfl zt3 rfl rfl fun h3 x3 f3 => ?_;have := e0.1;have := f2.1;have := f1.1;have := f0.1;replace f2 := f2.ext x3;replace f1 := f1.ext x3;replace f0 := f0.ext x3;replace e0 := e0.trans x3;have := f3.1;refine gP ?_;apply gE;apply gS;refine gR rfl ?_;refine gO rfl rfl (ld26 rfl f0 rfl) rfl ?_;refine gP ?_;refine GoR.call rfl rfl (aCF aFunc42 rfl) (hat _ (A.ext e0) 53 _ aFunc53 _ h2.next (by omega) _ (fun h' e => hB _ _ _ h' ((A.ext e0).ext e) (f1.ext e) (f2.ext e) (f3.ext e) (by omega) (by omega))) ?_ (by rintro _ _ ⟨q, _, _⟩; cases q);rintro v4 h4 ⟨q, y4, f4⟩;cases q;refine ⟨_, rfl, ?_⟩;have := e0.1;have := f3.1;have := f2.1;have := f1.1;have := f0.1;clear f3;replace e0 := y4.low e0 (fun b q => by omega);have := y4.1;refine gP ?_;apply gE;apply gS;refine gR rfl ?_;refine gO rfl rfl (ld3 rfl f4 rfl) rfl ?_;refine gP ?_;refine GoR.store rfl rfl rfl rfl rfl rfl f4 rfl sz3 rfl rfl rfl fun h5 u5 => ?_;replace f4 := u5.has f4;replace e0 := e0.upd u5 (by omega);refine gP ?_;apply gE;exact gV (ret_end (aResult_of Try.func16 rfl (aResults_c rfl f4 (inCells_one ag3 rfl) rfl)) ⟨rfl, e0⟩)
  ·rw [if_neg hr]
   have hat := attempt_gives O rsl hsl
   have hB := fun bi bp br h A => canB_no O (rsl := rsl) (hsl := hsl) (i := i) (p := p) (bi := bi) (bp := bp) (br := br) (h := h) A hr
   unfold FootV.cells at hat hB ⊢
   unfold Pl.cells
   have e0 : Ext h h := Ext.refl _
   refine Runs.intro aFunc16 rfl rfl rfl rfl fun rest => ?_;apply gS;refine gR rfl ?_;refine GoR.box rfl rfl rfl rfl rfl rfl fun h0 x0 f0 => ?_;have := e0.1;replace e0 := e0.trans x0;have := f0.1;refine GoR.box rfl rfl rfl rfl rfl rfl fun h1 x1 f1 => ?_;have := e0.1;have := f0.1;replace f0 := f0.ext x1;replace e0 := e0.trans x1;have := f1.1;refine GoR.box rfl rfl rfl rfl rfl rfl fun h2 x2 f2 => ?_;have := e0.1;have := f1.1;have := f0.1;replace f1 := f1.ext x2;replace f0 := f0.ext x2;replace e0 := e0.trans x2;have := f2.1;refine GoR.alloc rfl rfl rfl zt3 rfl rfl fun h3 x3 f3 => ?_;have := e0.1;have := f2.1;have := f1.1;have := f0.1;replace f2 := f2.ext x3;replace f1 := f1.ext x3;replace f0 := f0.ext x3;replace e0 := e0.trans x3;have := f3.1;refine gP ?_;apply gE;apply gS;refine gR rfl ?_;refine gO rfl rfl (ld26 rfl f0 rfl) rfl ?_;refine gP ?_;refine GoR.call rfl rfl (aCF aFunc42 rfl) (hat _ (A.ext e0) 53 _ aFunc53 _ 2 (fun h' e => hB _ _ _ h' ((A.ext e0).ext e) (f1.ext e) (f2.ext e))) ?_ np;rintro v4 h4 ⟨q, x4⟩;cases q;refine ⟨_, rfl, ?_⟩;replace f3 := f3.ext x4;replace e0 := e0.trans x4;refine gP ?_;apply gE;apply gS;refine gR rfl ?_;refine gO rfl rfl (ld3 rfl f3 rfl) rfl ?_;refine gP ?_;refine GoR.store rfl rfl rfl rfl rfl rfl f3 rfl sz3 rfl rfl rfl fun h5 u5 => ?_;replace f3 := u5.has f3;replace e0 := e0.upd u5 (by omega);refine gP ?_;apply gE;exact gV (ret_end (aResult_of Try.func16 rfl (aResults_c rfl f3 (inCells_one ag3 rfl) rfl)) ⟨rfl, e0⟩)
 ·rw [if_neg O]
  have hat := attempt_bad O hb1 hb2 rsl hsl
  unfold FootV.cells at hat ⊢
  unfold Pl.cells
  have e0 : Ext h h := Ext.refl _
  refine Runs.intro aFunc16 rfl rfl rfl rfl fun rest => ?_;apply gS;refine gR rfl ?_;refine GoR.box rfl rfl rfl rfl rfl rfl fun h0 x0 f0 => ?_;have := e0.1;replace e0 := e0.trans x0;have := f0.1;refine GoR.box rfl rfl rfl rfl rfl rfl fun h1 x1 f1 => ?_;have := e0.1;have := f0.1;replace f0 := f0.ext x1;replace e0 := e0.trans x1;have := f1.1;refine GoR.box rfl rfl rfl rfl rfl rfl fun h2 x2 f2 => ?_;have := e0.1;have := f1.1;have := f0.1;replace f1 := f1.ext x2;replace f0 := f0.ext x2;replace e0 := e0.trans x2;have := f2.1;refine GoR.alloc rfl rfl rfl zt3 rfl rfl fun h3 x3 f3 => ?_;have := e0.1;have := f2.1;have := f1.1;have := f0.1;replace f0 := f0.ext x3;replace e0 := e0.trans x3;have := f3.1;refine gP ?_;apply gE;apply gS;refine gR rfl ?_;refine gO rfl rfl (ld26 rfl f0 rfl) rfl ?_;refine gP ?_;refine GoR.call rfl rfl (aCF aFunc42 rfl) (hat _ (A.ext e0) 53 _) ?_ np;rintro v4 h4 ⟨q, x4⟩;cases q;refine ⟨_, rfl, ?_⟩;replace f3 := f3.ext x4;replace e0 := e0.trans x4;refine gP ?_;apply gE;apply gS;refine gR rfl ?_;refine gO rfl rfl (ld3 rfl f3 rfl) rfl ?_;refine gP ?_;refine GoR.store rfl rfl rfl rfl rfl rfl f3 rfl sz3 rfl rfl rfl fun h5 u5 => ?_;replace f3 := u5.has f3;replace e0 := e0.upd u5 (by omega);refine gP ?_;apply gE;exact gV (ret_end (aResult_of Try.func16 rfl (aResults_c rfl f3 (inCells_one ag3 rfl) rfl)) ⟨rfl, e0⟩)
def FootV.soonR (F : FootV) (i : Int) : Pl × Int :=
 if F.Ok then (if 0 ≤ i ∧ i ≤ (F.hs.length : Int) - 1 then (match F.soon true i.toNat with | some p => (p, 0) | none => (zeroPl, 4)) else (zeroPl, 2)) else (zeroPl, 1)
theorem Soonest_ok {F : FootV} {rsl hsl : AVal} {h : AH} (A : FootAt h F rsl hsl) (hb1 : F.rs.length ≤ 40) (hb2 : F.hs.length ≤ 40) (i : Int) :
  Runs Try.prog 18 [.agg (F.cells rsl hsl), .int .i64 i] h (fun en h' => en = .ret (.tuple [.agg (F.soonR i).1.cells, .int .i64 (F.soonR i).2]) ∧ Ext h h') := by
 unfold FootV.soonR
 by_cases O : F.Ok
 ·rw [if_pos O]
  by_cases hr : 0 ≤ i ∧ i ≤ (F.hs.length : Int) - 1
  ·rw [if_pos hr]
   obtain ⟨i', rfl⟩ := Int.eq_ofNat_of_zero_le hr.1
   rw [Int.toNat_natCast]
   have hB := fun bi br h A => soonB_ok O (rsl := rsl) (hsl := hsl) (i := i') (bi := bi) (br := br) (h := h) A (by omega)
   cases hs : F.soon true i' with
   | some p =>
    rw [hs] at hB
    have hat := attempt_puts O rsl hsl
    unfold FootV.cells at hat hB ⊢
    dsimp only at hB ⊢
    unfold Pl.cells at hB ⊢
    have e0 : Ext h h := Ext.refl _
    refine Runs.intro aFunc18 rfl rfl rfl rfl fun rest => ?_;apply gS;refine gR rfl ?_;refine GoR.box rfl rfl rfl rfl rfl rfl fun h0 x0 f0 => ?_;have := e0.1;replace e0 := e0.trans x0;have := f0.1;refine GoR.box rfl rfl rfl rfl rfl rfl fun h1 x1 f1 => ?_;have := e0.1;have := f0.1;replace f0 := f0.ext x1;replace e0 := e0.trans x1;have := f1.1;refine GoR.alloc rfl rfl rfl zt27 rfl rfl fun h2 x2 f2 => ?_;have := e0.1;have := f1.1;have := f0.1;replace f1 := f1.ext x2;replace f0 := f0.ext x2;replace e0 := e0.trans x2;have := f2.1;refine gP ?_;apply gE;apply gS;refine gR rfl ?_;refine gO rfl rfl (ld26 rfl f0 rfl) rfl ?_;refine gP ?_;refine GoR.call rfl rfl (aCF aFunc42 rfl) (hat _ (A.ext e0) 56 _ aFunc56 _ h1.next (by omega) _ (fun h' e => hB _ _ h' ((A.ext e0).ext e) (by omega) (f1.ext e) (f2.ext e))) ?_ (by rintro _ _ ⟨q, _, _⟩; cases q);rintro v3 h3 ⟨q, y3, f3⟩;cases q;refine ⟨_, rfl, ?_⟩;have := e0.1;have := f2.1;have := f1.1;have := f0.1;clear f2;replace f1 := f1.extF y3 (fun q => by omega);replace f0 := f0.extF y3 (fun q => by omega);replace e0 := y3.low e0 (fun b q => by omega);have := y3.1;refine gP ?_;apply gE;apply gS;refine gR rfl ?_;refine gO rfl rfl (ld27 rfl f3 rfl) rfl ?_;refine gP ?_;refine GoR.store rfl rfl rfl rfl rfl rfl f3 rfl sz27 rfl rfl rfl fun h4 u4 => ?_;replace f3 := u4.has f3;replace f1 := f1.upd u4 (by omega);replace f0 := f0.upd u4 (by omega);replace e0 := e0.upd u4 (by omega);refine gP ?_;apply gE;exact gV (ret_end (aResult_of Try.func18 rfl (aResults_c rfl f3 (inCells_agg ag27 sz27 rfl) rfl)) ⟨rfl, e0⟩)
   | none =>
    rw [hs] at hB
    have hat := attempt_gives O rsl hsl
    unfold FootV.cells at hat hB ⊢
    dsimp only at hB ⊢
    have e0 : Ext h h := Ext.refl _
    refine Runs.intro aFunc18 rfl rfl rfl rfl fun rest => ?_;apply gS;refine gR rfl ?_;refine GoR.box rfl rfl rfl rfl rfl rfl fun h0 x0 f0 => ?_;have := e0.1;replace e0 := e0.trans x0;have := f0.1;refine GoR.box rfl rfl rfl rfl rfl rfl fun h1 x1 f1 => ?_;have := e0.1;have := f0.1;replace f0 := f0.ext x1;replace e0 := e0.trans x1;have := f1.1;refine GoR.alloc rfl rfl rfl zt27 rfl rfl fun h2 x2 f2 => ?_;have := e0.1;have := f1.1;have := f0.1;replace f1 := f1.ext x2;replace f0 := f0.ext x2;replace e0 := e0.trans x2;have := f2.1;refine gP ?_;apply gE;apply gS;refine gR rfl ?_;refine gO rfl rfl (ld26 rfl f0 rfl) rfl ?_;refine gP ?_;refine GoR.call rfl rfl (aCF aFunc42 rfl) (hat _ (A.ext e0) 56 _ aFunc56 _ 4 (fun h' e => hB _ _ h' ((A.ext e0).ext e) (by omega) (f1.ext e) (f2.ext e))) ?_ np;rintro v3 h3 ⟨q, x3⟩;cases q;refine ⟨_, rfl, ?_⟩;replace f2 := f2.ext x3;replace e0 := e0.trans x3;refine gP ?_;apply gE;apply gS;refine gR rfl ?_;refine gO rfl rfl (ld27 rfl f2 rfl) rfl ?_;refine gP ?_;refine GoR.store rfl rfl rfl rfl rfl rfl f2 rfl sz27 rfl rfl rfl fun h4 u4 => ?_;replace f2 := u4.has f2;replace e0 := e0.upd u4 (by omega);refine gP ?_;apply gE;exact gV (ret_end (aResult_of Try.func18 rfl (aResults_c rfl f2 (inCells_agg ag27 sz27 rfl) rfl)) ⟨rfl, e0⟩)
  ·rw [if_neg hr]
   have hat := attempt_gives O rsl hsl
   have hB := fun bi br h A => soonB_no O (rsl := rsl) (hsl := hsl) (n := i) (bi := bi) (br := br) (h := h) A hr
   unfold FootV.cells at hat hB ⊢
   have e0 : Ext h h := Ext.refl _
   refine Runs.intro aFunc18 rfl rfl rfl rfl fun rest => ?_;apply gS;refine gR rfl ?_;refine GoR.box rfl rfl rfl rfl rfl rfl fun h0 x0 f0 => ?_;have := e0.1;replace e0 := e0.trans x0;have := f0.1;refine GoR.box rfl rfl rfl rfl rfl rfl fun h1 x1 f1 => ?_;have := e0.1;have := f0.1;replace f0 := f0.ext x1;replace e0 := e0.trans x1;have := f1.1;refine GoR.alloc rfl rfl rfl zt27 rfl rfl fun h2 x2 f2 => ?_;have := e0.1;have := f1.1;have := f0.1;replace f1 := f1.ext x2;replace f0 := f0.ext x2;replace e0 := e0.trans x2;have := f2.1;refine gP ?_;apply gE;apply gS;refine gR rfl ?_;refine gO rfl rfl (ld26 rfl f0 rfl) rfl ?_;refine gP ?_;refine GoR.call rfl rfl (aCF aFunc42 rfl) (hat _ (A.ext e0) 56 _ aFunc56 _ 2 (fun h' e => hB _ _ h' ((A.ext e0).ext e) (f1.ext e))) ?_ np;rintro v3 h3 ⟨q, x3⟩;cases q;refine ⟨_, rfl, ?_⟩;replace f2 := f2.ext x3;replace e0 := e0.trans x3;refine gP ?_;apply gE;apply gS;refine gR rfl ?_;refine gO rfl rfl (ld27 rfl f2 rfl) rfl ?_;refine gP ?_;refine GoR.store rfl rfl rfl rfl rfl rfl f2 rfl sz27 rfl rfl rfl fun h4 u4 => ?_;replace f2 := u4.has f2;replace e0 := e0.upd u4 (by omega);refine gP ?_;apply gE;exact gV (ret_end (aResult_of Try.func18 rfl (aResults_c rfl f2 (inCells_agg ag27 sz27 rfl) rfl)) ⟨rfl, e0⟩)
 ·rw [if_neg O]
  have hat := attempt_bad O hb1 hb2 rsl hsl
  unfold FootV.cells at hat ⊢
  have e0 : Ext h h := Ext.refl _
  refine Runs.intro aFunc18 rfl rfl rfl rfl fun rest => ?_;apply gS;refine gR rfl ?_;refine GoR.box rfl rfl rfl rfl rfl rfl fun h0 x0 f0 => ?_;have := e0.1;replace e0 := e0.trans x0;have := f0.1;refine GoR.box rfl rfl rfl rfl rfl rfl fun h1 x1 f1 => ?_;have := e0.1;have := f0.1;replace f0 := f0.ext x1;replace e0 := e0.trans x1;have := f1.1;refine GoR.alloc rfl rfl rfl zt27 rfl rfl fun h2 x2 f2 => ?_;have := e0.1;have := f1.1;have := f0.1;replace f0 := f0.ext x2;replace e0 := e0.trans x2;have := f2.1;refine gP ?_;apply gE;apply gS;refine gR rfl ?_;refine gO rfl rfl (ld26 rfl f0 rfl) rfl ?_;refine gP ?_;refine GoR.call rfl rfl (aCF aFunc42 rfl) (hat _ (A.ext e0) 56 _) ?_ np;rintro v3 h3 ⟨q, x3⟩;cases q;refine ⟨_, rfl, ?_⟩;replace f2 := f2.ext x3;replace e0 := e0.trans x3;refine gP ?_;apply gE;apply gS;refine gR rfl ?_;refine gO rfl rfl (ld27 rfl f2 rfl) rfl ?_;refine gP ?_;refine GoR.store rfl rfl rfl rfl rfl rfl f2 rfl sz27 rfl rfl rfl fun h4 u4 => ?_;replace f2 := u4.has f2;replace e0 := e0.upd u4 (by omega);refine gP ?_;apply gE;exact gV (ret_end (aResult_of Try.func18 rfl (aResults_c rfl f2 (inCells_agg ag27 sz27 rfl) rfl)) ⟨rfl, e0⟩)
theorem clampB_ok {F : FootV} (O : F.Ok) {rsl hsl : AVal} {b1 b2 : Nat} {h : AH} (A : FootAt h F rsl hsl) (hb : b1 ≠ b2)
  (f0 : Has h b1 (.cells .plain [.int .i64 0] 3)) (f1 : Has h b2 (.cells .plain [.int .i64 0] 3)) :
  Runs Try.prog 61 [.agg (F.cells rsl hsl), .ptr b1 0, .ptr b2 0] h (fun en h' => en = .ret (.tuple []) ∧ ExtF (fun x => x = b1 ∨ x = b2) h h' ∧ Has h' b1 (.cells .plain [.int .i64 (F.set true F.hs.length : Nat)] 3) ∧ Has h' b2 (.cells .plain [.int .i64 (F.set false F.hs.length : Nat)] 3)) := by
 have hcb := fun h A => clamped_ok O (h := h) (rsl := rsl) (hsl := hsl) A false
 have hcw := fun h A => clamped_ok O (h := h) (rsl := rsl) (hsl := hsl) A true
 have hb' := fun h => best_ok (F := F) (rsl := rsl) (hsl := hsl) (h := h)
 have hw := fun h => worst_ok (F := F) (rsl := rsl) (hsl := hsl) (h := h)
 have s1 := same_cells F A
 have s2 := same_truth F A true
 have s3 := same_truth F A false
 obtain ⟨tb, htb⟩ : ∃ tv, truthV false F rsl hsl = tv := ⟨_, rfl⟩
 obtain ⟨tw, htw⟩ : ∃ tv, truthV true F rsl hsl = tv := ⟨_, rfl⟩
 rw [htb] at hcb hb' s3;rw [htw] at hcw hw s2
 have hn1 := f0.1
 have hn2 := f1.1
 have y0 : ExtF (fun x => x = b1 ∨ x = b2) h h := ExtF.of (Ext.refl _)
 unfold FootV.cells at hcb hcw hb' hw ⊢
 have e0 : Ext h h := Ext.refl _
 refine Runs.intro aFunc61 rfl rfl rfl rfl fun rest => ?_;apply gS;refine gR rfl ?_;refine GoR.box rfl rfl rfl rfl rfl rfl fun h2 x2 f2 => ?_;have := e0.1;have := f0.1;have := f1.1;replace f0 := f0.ext x2;replace f1 := f1.ext x2;replace e0 := e0.trans x2;replace y0 := y0.ext x2;have := f2.1;apply gE;refine Go.drawnE plan61_0 ?_;iterate 4 refine gQ rfl rfl (ld80 rfl f2 rfl) rfl ?_
 refine GoE.call rfl rfl (aCF aFunc58 rfl) (hw _) (dK 2 5 (dK 2 4 (dD 2 1 (dK 2 0 rfl)))) ?_ np;rintro v3 h3 ⟨q, x3⟩;cases q;replace f2 := f2.ext x3;replace f0 := f0.ext x3;replace f1 := f1.ext x3;replace e0 := e0.trans x3;replace y0 := y0.ext x3;refine ⟨(rck (h2 := h3) rfl (ld80 rfl f2 rfl) (rck (h2 := h3) rfl (ld80 rfl f2 rfl) (rck (h2 := h3) rfl (ld80 rfl f2 rfl) recheck_nil))), _, rfl, ?_⟩;refine GoE.call rfl rfl (aCF aFunc62 rfl) (hcw _ (A.ext e0)) (dK 7 5 (dK 7 4 (dD 7 0 rfl))) ?_ np;rintro v4 h4 ⟨q, x4⟩;cases q;replace f2 := f2.ext x4;replace f0 := f0.ext x4;replace f1 := f1.ext x4;replace e0 := e0.trans x4;replace y0 := y0.ext x4;refine ⟨(rck (h2 := h4) rfl (ld80 rfl f2 rfl) (rck (h2 := h4) rfl (ld80 rfl f2 rfl) recheck_nil)), _, rfl, ?_⟩;refine GoE.call rfl rfl (aCF aFunc63 rfl) (hb' _) (dD 47 5 (dK 47 4 rfl)) ?_ np;rintro v5 h5 ⟨q, x5⟩;cases q;replace f2 := f2.ext x5;replace f0 := f0.ext x5;replace f1 := f1.ext x5;replace e0 := e0.trans x5;replace y0 := y0.ext x5;refine ⟨(rck (h2 := h5) rfl (ld80 rfl f2 rfl) recheck_nil), _, rfl, ?_⟩;refine GoE.call rfl rfl (aCF aFunc62 rfl) (hcb _ (A.ext e0)) (dD 127 4 rfl) ?_ np;rintro v6 h6 ⟨q, x6⟩;cases q;replace f0 := f0.ext x6;replace f1 := f1.ext x6;replace y0 := y0.ext x6;refine ⟨recheck_nil, _, rfl, ?_⟩;refine GoE.store rfl rfl rfl rfl rfl rfl rfl f0 rfl sz3 rfl rfl rfl fun h7 u7 => ?_;replace f0 := u7.has f0;replace f1 := f1.upd u7 (by omega);clear e0;replace y0 := y0.upd u7 (by omega);refine ⟨recheck_nil, ?_⟩;refine GoE.store rfl rfl rfl rfl rfl rfl rfl f1 rfl sz3 rfl rfl rfl fun h8 u8 => ?_;replace f0 := f0.upd u8 (by omega);replace f1 := u8.has f1;replace y0 := y0.upd u8 (by omega);refine ⟨recheck_nil, ?_⟩;refine GoE.end rfl ?_;exact Go.endL (FLeft.ret (v := .tuple []) (aResult_of Try.func61 rfl rfl) ⟨rfl, y0, f0, f1⟩)
def FootV.clampR (F : FootV) : Nat × Nat × Int := if F.Ok then (F.set true F.hs.length, F.set false F.hs.length, 0) else (0, 0, 1)
theorem Clamped_ok {F : FootV} {rsl hsl : AVal} {h : AH} (A : FootAt h F rsl hsl) (hb1 : F.rs.length ≤ 40) (hb2 : F.hs.length ≤ 40) :
  Runs Try.prog 20 [.agg (F.cells rsl hsl)] h (fun en h' => en = .ret (.tuple [.int .i64 (F.clampR.1 : Nat), .int .i64 (F.clampR.2.1 : Nat), .int .i64 F.clampR.2.2]) ∧ Ext h h') := by
 unfold FootV.clampR
 by_cases O : F.Ok
 ·rw [if_pos O]
  have hat := attempt_does O rsl hsl
  have hB := fun b1 b2 h A => clampB_ok O (rsl := rsl) (hsl := hsl) (b1 := b1) (b2 := b2) (h := h) A
  unfold FootV.cells at hat hB ⊢
  have e0 : Ext h h := Ext.refl _
  refine Runs.intro aFunc20 rfl rfl rfl rfl fun rest => ?_;apply gS;refine gR rfl ?_;refine GoR.box rfl rfl rfl rfl rfl rfl fun h0 x0 f0 => ?_;have := e0.1;replace e0 := e0.trans x0;have := f0.1;refine GoR.alloc rfl rfl rfl zt3 rfl rfl fun h1 x1 f1 => ?_;have := e0.1;have := f0.1;replace f0 := f0.ext x1;replace e0 := e0.trans x1;have := f1.1;refine GoR.alloc rfl rfl rfl zt3 rfl rfl fun h2 x2 f2 => ?_;have := e0.1;have := f1.1;have := f0.1;replace f1 := f1.ext x2;replace f0 := f0.ext x2;replace e0 := e0.trans x2;have := f2.1;refine gP ?_;apply gE;apply gS;refine gR rfl ?_;refine gO rfl rfl (ld26 rfl f0 rfl) rfl ?_;refine gP ?_;refine GoR.call rfl rfl (aCF aFunc42 rfl) (hat _ (A.ext e0) 61 _ aFunc61 _ (fun x => x = h0.next ∨ x = h1.next) (fun b q => by omega) (fun h' => Has h' h0.next (.cells .plain [.int .i64 (F.set true F.hs.length : Nat)] 3) ∧ Has h' h1.next (.cells .plain [.int .i64 (F.set false F.hs.length : Nat)] 3)) (fun h4 h' le same t => ⟨t.1.keep le (same _ (by omega)), t.2.keep le (same _ (by omega))⟩) (fun h' e => hB _ _ h' ((A.ext e0).ext e) (by omega) (f1.ext e) (f2.ext e))) ?_ (by rintro _ _ ⟨q, _, fa, fb⟩; cases q);rintro v3 h3 ⟨q, y3, fa, fb⟩;cases q;refine ⟨_, rfl, ?_⟩;have := e0.1;have := f2.1;have := f1.1;have := f0.1;clear f2;clear f1;replace e0 := y3.low e0 (fun b q => by omega);have := y3.1;refine gP ?_;apply gE;apply gS;refine Go.drawnE plan20_0 ?_;refine gQ rfl rfl (ld3 rfl fa rfl) rfl ?_;refine gQ rfl rfl (ld3 rfl fb rfl) rfl ?_;refine gQ rfl rfl rfl rfl ?_;refine GoE.store rfl rfl rfl rfl (dK 1 2 (dK 1 1 (dD 1 0 rfl))) rfl rfl fa rfl sz3 rfl rfl rfl fun h4 u4 => ?_;replace fa := u4.has fa;replace fb := fb.upd u4 (by omega);replace e0 := e0.upd u4 (by omega);refine ⟨(rck (h2 := h4) rfl (rfl) (rck (h2 := h4) rfl (ld3 rfl fb rfl) recheck_nil)), ?_⟩;refine GoE.store rfl rfl rfl rfl (dK 11 2 (dD 11 1 rfl)) rfl rfl fb rfl sz3 rfl rfl rfl fun h5 u5 => ?_;replace fa := fa.upd u5 (by omega);replace fb := u5.has fb;replace e0 := e0.upd u5 (by omega);refine ⟨(rck (h2 := h5) rfl (rfl) recheck_nil), ?_⟩;refine gQ rfl rfl rfl rfl ?_;refine GoE.end rfl ?_;exact gV (ret_end (aResult_of Try.func20 rfl (aResults_c rfl fa (inCells_one ag3 rfl) (aResults_c rfl fb (inCells_one ag3 rfl) rfl))) ⟨rfl, e0⟩)
 ·rw [if_neg O]
  have hat := attempt_bad O hb1 hb2 rsl hsl
  unfold FootV.cells at hat ⊢
  have e0 : Ext h h := Ext.refl _
  refine Runs.intro aFunc20 rfl rfl rfl rfl fun rest => ?_;apply gS;refine gR rfl ?_;refine GoR.box rfl rfl rfl rfl rfl rfl fun h0 x0 f0 => ?_;have := e0.1;replace e0 := e0.trans x0;have := f0.1;refine GoR.alloc rfl rfl rfl zt3 rfl rfl fun h1 x1 f1 => ?_;have := e0.1;have := f0.1;replace f0 := f0.ext x1;replace e0 := e0.trans x1;have := f1.1;refine GoR.alloc rfl rfl rfl zt3 rfl rfl fun h2 x2 f2 => ?_;have := e0.1;have := f1.1;have := f0.1;replace f1 := f1.ext x2;replace f0 := f0.ext x2;replace e0 := e0.trans x2;have := f2.1;refine gP ?_;apply gE;apply gS;refine gR rfl ?_;refine gO rfl rfl (ld26 rfl f0 rfl) rfl ?_;refine gP ?_;refine GoR.call rfl rfl (aCF aFunc42 rfl) (hat _ (A.ext e0) 61 _) ?_ np;rintro v3 h3 ⟨q, x3⟩;cases q;refine ⟨_, rfl, ?_⟩;replace f2 := f2.ext x3;replace f1 := f1.ext x3;replace e0 := e0.trans x3;refine gP ?_;apply gE;apply gS;refine Go.drawnE plan20_0 ?_;refine gQ rfl rfl (ld3 rfl f1 rfl) rfl ?_;refine gQ rfl rfl (ld3 rfl f2 rfl) rfl ?_;refine gQ rfl rfl rfl rfl ?_;refine GoE.store rfl rfl rfl rfl (dK 1 2 (dK 1 1 (dD 1 0 rfl))) rfl rfl f1 rfl sz3 rfl rfl rfl fun h4 u4 => ?_;replace f2 := f2.upd u4 (by omega);replace f1 := u4.has f1;replace e0 := e0.upd u4 (by omega);refine ⟨(rck (h2 := h4) rfl (rfl) (rck (h2 := h4) rfl (ld3 rfl f2 rfl) recheck_nil)), ?_⟩;refine GoE.store rfl rfl rfl rfl (dK 11 2 (dD 11 1 rfl)) rfl rfl f2 rfl sz3 rfl rfl rfl fun h5 u5 => ?_;replace f2 := u5.has f2;replace f1 := f1.upd u5 (by omega);replace e0 := e0.upd u5 (by omega);refine ⟨(rck (h2 := h5) rfl (rfl) recheck_nil), ?_⟩;refine gQ rfl rfl rfl rfl ?_;refine GoE.end rfl ?_;exact gV (ret_end (aResult_of Try.func20 rfl (aResults_c rfl f1 (inCells_one ag3 rfl) (aResults_c rfl f2 (inCells_one ag3 rfl) rfl))) ⟨rfl, e0⟩)
end Go.Proofs.Ytmimdgjehnhnoaa

namespace Go.Proofs.Ytmimdgjehnhnoaa
open Go Go.AbsE
set_option linter.unusedSimpArgs false
set_option maxRecDepth 100000
set_option maxHeartbeats 0
set_option linter.unusedVariables false
def Pl.at (p : Pl) (k : Nat) : Int := match k with | 0 => p.a | 1 => p.b | _ => p.c
def Pl.Num (n : Int) (p : Pl) : Prop := (p.a = -1 ∨ (0 ≤ p.a ∧ p.a ≤ n - 1)) ∧ (p.b = -1 ∨ (0 ≤ p.b ∧ p.b ≤ n - 1)) ∧ (p.c = -1 ∨ (0 ≤ p.c ∧ p.c ≤ n - 1))
instance (n : Int) (p : Pl) : Decidable (p.Num n) := by unfold Pl.Num; infer_instance
theorem at_num {n : Int} {p : Pl} (h : p.Num n) (k : Nat) : p.at k = -1 ∨ (0 ≤ p.at k ∧ p.at k ≤ n - 1) := by
 obtain ⟨a, b, c⟩ := h
 unfold Pl.at
 split <;> assumption
theorem at_get {p : Pl} {k : Nat} (hk : k < 3) : ([.int .i64 p.a, .int .i64 p.b, .int .i64 p.c] : List AVal)[0 + k * 1]? = some (.int .i64 (p.at k)) := by
 match k, hk with
 | 0, _ => rfl
 | 1, _ => rfl
 | 2, _ => rfl
theorem num_at {n : Int} {p : Pl} (h : ∀ k, k < 3 → (p.at k = -1 ∨ (0 ≤ p.at k ∧ p.at k ≤ n - 1))) : p.Num n := ⟨h 0 (by omega), h 1 (by omega), h 2 (by omega)⟩
def Pl.upTo (p : Pl) (k : Nat) : Pl := ⟨p.a, if k < 1 then -1 else p.b, if k < 2 then -1 else p.c⟩
def addDay (st : List Int) (x : Int) : List Int := if x = -1 then st else st.set x.toNat ((st[x.toNat]?).getD 0 + 1)
def withV (st : List Int) (p : Pl) : List Int := addDay (addDay (addDay st p.a) p.b) p.c
def FootV.rule (F : FootV) (st : List Int) (i : Nat) (p : Pl) (k : Nat) : Int :=
 if p.at k = -1 then 0 else if ¬ (p.upTo k).Ord F.rs.length then 1 else if ¬ F.w true i (p.upTo k) (p.at k).toNat ≤ F.lm k then 2 else if F.men ≤ (st[(p.at k).toNat]?).getD 0 then 3 else 0
theorem addDay_len (st : List Int) (x : Int) : (addDay st x).length = st.length := by unfold addDay; split <;> simp
theorem withV_len (st : List Int) (p : Pl) : (withV st p).length = st.length := by unfold withV; rw [addDay_len, addDay_len, addDay_len]
theorem addDay_in {st : List Int} {x m : Int} (h : ∀ y, y ∈ st → 0 ≤ y ∧ y ≤ m) (hm : 0 ≤ m) : ∀ y, y ∈ addDay st x → 0 ≤ y ∧ y ≤ m + 1 := by
 intro y hy
 unfold addDay at hy
 split at hy
 ·have := h y hy; omega
 ·rcases List.mem_or_eq_of_mem_set hy with q | q
  ·have := h y q; omega
  ·rw [q]
   cases e : st[x.toNat]? with
   | none => simp; omega
   | some z => have := h z (List.mem_of_getElem? e); simp; omega
theorem withV_in {st : List Int} {p : Pl} {m : Int} (h : ∀ y, y ∈ st → 0 ≤ y ∧ y ≤ m) (hm : 0 ≤ m) : ∀ y, y ∈ withV st p → 0 ≤ y ∧ y ≤ m + 3 := by
 intro y hy
 have h1 := addDay_in (x := p.a) h hm
 have h2 := addDay_in (x := p.b) h1 (by omega)
 have h3 := addDay_in (x := p.c) h2 (by omega) y hy
 omega
def stK (st : List Int) (p : Pl) (k : Nat) : List Int := match k with | 0 => st | 1 => addDay st p.a | 2 => addDay (addDay st p.a) p.b | _ => withV st p
theorem stK_succ {st : List Int} {p : Pl} {k : Nat} (hk : k < 3) : stK st p (k + 1) = addDay (stK st p k) (p.at k) := by
 match k, hk with
 | 0, _ => rfl
 | 1, _ => rfl
 | 2, _ => rfl
theorem stK_len {st : List Int} (hl : st.length = 8) {p : Pl} (k : Nat) : (stK st p k).length = 8 := by
 unfold stK
 split <;> simp [addDay_len, withV_len, hl]
theorem stK_in {st : List Int} (h : ∀ y, y ∈ st → 0 ≤ y ∧ y ≤ 1000) {p : Pl} (k : Nat) : ∀ y, y ∈ stK st p k → 0 ≤ y ∧ y ≤ 1003 := by
 intro y hy
 have h1 := addDay_in (x := p.a) h (by omega)
 have h2 := addDay_in (x := p.b) h1 (by omega)
 unfold stK at hy
 split at hy
 ·have := h y hy; omega
 ·have := h1 y hy; omega
 ·have := h2 y hy; omega
 ·have := withV_in h (by omega) y hy; omega
theorem ros_set {st : List Int} {i : Int} {d : Nat} {v : Int} (hd : d < st.length) : splice (i64s (st ++ [i])) (0 + d * 1) (AVal.int .i64 v).cells = some (i64s (st.set d v ++ [i])) := by
 rw [Nat.zero_add, Nat.mul_one]
 show splice _ _ [_] = _
 rw [splice_at (by rw [i64s_len]; simp; omega)]
 unfold i64s
 rw [← List.map_set, List.set_append_left _ _ hd]
theorem ros_get {st : List Int} {i : Int} {d : Nat} (hd : d < st.length) : (i64s (st ++ [i]))[0 + d * 1]? = some (.int .i64 ((st[d]?).getD 0)) := by
 refine i64s_at ?_;rw [List.getElem?_append_left hd]
 simp [hd]
theorem ros_next {st : List Int} {i : Int} (hl : st.length = 8) : (i64s (st ++ [i]))[0 + 8]? = some (.int .i64 i) := by
 have : (st ++ [i])[8]? = some i := by rw [List.getElem?_append_right (by omega), hl]; rfl
 have := i64s_at this
 rwa [Nat.mul_one] at this
theorem ros_len {st : List Int} {i : Int} (hl : st.length = 8) : (i64s (st ++ [i])).length = 9 := by rw [i64s_len]; simp [hl]
theorem ros_one {st : List Int} {i v : Int} (hl : st.length = 8) : splice (i64s (st ++ [i])) (0 + 8) (AVal.int .i64 v).cells = some (i64s (st ++ [v])) := by
 show splice _ _ [_] = _
 rw [splice_at (by rw [ros_len hl]; omega)]
 unfold i64s
 rw [← List.map_set, List.set_append_right _ _ (by omega), hl]
 rfl
theorem with_ok {st : List Int} {i : Int} {p : Pl} {h : AH} (hl : st.length = 8) (hp : p.Num 8) (hs : ∀ y, y ∈ st → 0 ≤ y ∧ y ≤ 1000) (hi : 0 ≤ i ∧ i ≤ 1000) :
  Runs Try.prog 96 [.agg (i64s (st ++ [i])), .agg p.cells] h (fun en h' => en = .ret (.agg (i64s (withV st p ++ [i + 1]))) ∧ Ext h h') := by
 have g9 := @ros_len st i hl
 unfold Pl.cells
 have e0 : Ext h h := Ext.refl _
 refine Runs.intro aFunc96 rfl rfl rfl rfl fun rest => ?_;apply gS;refine gR rfl ?_;refine GoR.box rfl rfl rfl rfl rfl rfl fun h0 x0 f0 => ?_;have := e0.1;replace e0 := e0.trans x0;have := f0.1;refine GoR.box rfl rfl rfl rfl rfl rfl fun h1 x1 f1 => ?_;have := e0.1;have := f0.1;replace f0 := f0.ext x1;replace e0 := e0.trans x1;have := f1.1;refine GoR.alloc rfl rfl rfl zt138 rfl rfl fun h2 x2 f2 => ?_;have := e0.1;have := f1.1;have := f0.1;replace f1 := f1.ext x2;replace f0 := f0.ext x2;replace e0 := e0.trans x2;have := f2.1;apply gE;iterate 2 apply gS
 refine gR rfl ?_;refine gO rfl rfl (ld83 rfl f1 rfl) rfl ?_;refine gP ?_;apply gE;refine Go.block noJ_ok ?_
 refine Go.loopKeep (fun k : Nat => [(2, .ptr h.next 0), (4, .ptr h1.next 0), (7, .agg [.int .i64 p.a, .int .i64 p.b, .int .i64 p.c]), (8, .int .i64 (k : Nat))])
  (fun m k h' => m + k = 3 ∧ Ext h h' ∧ h1.next < h'.next ∧ Has h' h1.next (.cells .plain [.int .i64 0, .int .i64 0, .int .i64 0, .int .i64 0, .int .i64 0, .int .i64 0, .int .i64 0, .int .i64 0, .int .i64 0] 138) ∧ Has h' h.next (.cells .plain (i64s (stK st p k ++ [i])) 138))
  (n := 3) 0 ⟨rfl, rfl, rfl, rfl, trivial⟩ ⟨rfl, e0, f2.1, f2, f0⟩ ?_
 clear e0 f0 f1 f2;rintro m k h20 ⟨hm, e0, hn1, f2, f0⟩ again
 have hlk := stK_len hl (p := p) k
 have hsk := stK_in hs (p := p) k
 by_cases hk : k < 3
 ·have hss := stK_succ (st := st) (p := p) hk
  have hnum := at_num hp k
  have hget := at_get (p := p) hk
  by_cases hx : p.at k = -1
  ·have hs1 : stK st p (k + 1) = stK st p k := by rw [hss]; unfold addDay; rw [if_pos hx]
   apply gS;refine gR rfl ?_;refine gO rfl rfl (kLT rfl rfl) rfl ?_;apply gE;apply gS;refine gC (b := true) rfl ?_;refine gD ?_;apply gS;refine Go.block noJ_ok ?_;apply gS;refine gR rfl ?_;refine gO rfl rfl (aOp_indexArr (i := k) Try.underlying83 sz3 rfl rfl (Nat.ble_eq_true_of_le (by omega)) (partT_one ag3 (by rw [Nat.zero_add] at hget; exact hget))) rfl ?_;refine gP ?_;apply gE;apply gS;refine gR rfl ?_;refine gP ?_;refine gO rfl rfl (kXF rfl rfl) rfl ?_;apply gE;refine gC (b := false) rfl ?_;refine gD ?_;refine Go.inBlock noJ_ok ?_;refine gR rfl ?_;refine gO rfl rfl (aA rfl rfl) rfl ?_;refine gP ?_;apply gE;exact again (m - 1) (k + 1) _ _ (by omega) ⟨rfl, rfl, rfl, rfl, trivial⟩ ⟨by omega, e0, hn1, f2, by rw [hs1]; exact f0⟩
  ·have hs1 : stK st p (k + 1) = (stK st p k).set (p.at k).toNat (((stK st p k)[(p.at k).toNat]?).getD 0 + 1) := by rw [hss]; unfold addDay; rw [if_neg hx]
   have hd : (p.at k).toNat < (stK st p k).length := by omega
   obtain ⟨v, hv⟩ : ∃ v, (stK st p k)[(p.at k).toNat]? = some v := ⟨_, List.getElem?_eq_getElem hd⟩
   have hvi := hsk v (List.mem_of_getElem? hv)
   have g1 := ros_get (i := i) hd
   have g2 := ros_set (i := i) (v := v + 1) hd
   rw [hv] at g1 hs1
   dsimp only [Option.getD_some] at g1 hs1
   apply gS;refine gR rfl ?_;refine gO rfl rfl (kLT rfl rfl) rfl ?_;apply gE;apply gS;refine gC (b := true) rfl ?_;refine gD ?_;apply gS;refine Go.block noJ_ok ?_;apply gS;refine gR rfl ?_;refine gO rfl rfl (aOp_indexArr (i := k) Try.underlying83 sz3 rfl rfl (Nat.ble_eq_true_of_le (by omega)) (partT_one ag3 (by rw [Nat.zero_add] at hget; exact hget))) rfl ?_;refine gP ?_;apply gE;apply gS;refine gR rfl ?_;refine gP ?_;refine gO rfl rfl (kXT rfl rfl) rfl ?_;apply gE;refine gC (b := true) rfl ?_;refine gR rfl ?_;refine gP ?_;refine gO rfl rfl (fa138_0 rfl) rfl ?_;refine gO rfl rfl (aOp_indexAddrArrI Try.underlying136 sz3 rfl rfl (by omega)) rfl ?_;refine gO rfl rfl (ld3 rfl f0 g1) rfl ?_;refine gO rfl rfl (aA rfl rfl) rfl ?_;refine gO rfl rfl (fa138_0 rfl) rfl ?_;refine gO rfl rfl (aOp_indexAddrArrI Try.underlying136 sz3 rfl rfl (by omega)) rfl ?_;refine GoR.store rfl rfl rfl rfl rfl rfl f0 rfl sz3 rfl rfl g2 fun h21 u21 => ?_;replace f2 := f2.upd u21 (by omega);replace f0 := u21.has f0;replace e0 := e0.upd u21 (by omega);apply gE;refine Go.inBlock noJ_ok ?_;refine gR rfl ?_;refine gO rfl rfl (aA rfl rfl) rfl ?_;refine gP ?_;apply gE;exact again (m - 1) (k + 1) _ _ (by omega) ⟨rfl, rfl, rfl, rfl, trivial⟩ ⟨by omega, e0, f2.1, f2, by rw [hs1]; exact f0⟩
 ·have hk3 : k = 3 := by omega
  subst hk3
  have hwl : (withV st p).length = 8 := by rw [withV_len, hl]
  replace f0 : Has h20 h.next (.cells .plain (i64s (withV st p ++ [i])) 138) := f0
  have g1 := ros_next (st := withV st p) (i := i) hwl
  have g2 := ros_one (st := withV st p) (i := i) (v := i + 1) hwl
  have g3 := ros_len (st := withV st p) (i := i + 1) hwl
  apply gS;refine gR rfl ?_;refine gO rfl rfl (kLF rfl rfl) rfl ?_;apply gE;apply gS;refine gC (b := false) rfl ?_;refine gD ?_;apply gS;refine gR rfl ?_;refine gO rfl rfl (fa138_1 rfl) rfl ?_;refine gO rfl rfl (ld3 rfl f0 g1) rfl ?_;refine gO rfl rfl (aA rfl rfl) rfl ?_;refine gO rfl rfl (fa138_1 rfl) rfl ?_;refine GoR.store rfl rfl rfl rfl rfl rfl f0 rfl sz3 rfl rfl g2 fun h21 u21 => ?_;replace f2 := f2.upd u21 (by omega);replace f0 := u21.has f0;replace e0 := e0.upd u21 (by omega);apply gE;apply gS;refine gR rfl ?_;refine gO rfl rfl (ld138 rfl f0 (slice_all g3)) rfl ?_;refine GoR.store rfl rfl rfl rfl rfl rfl f2 rfl sz138 (beq_len g3) (scal_ints _) (splice_whole (by rw [show (AVal.agg (i64s (withV st p ++ [i + 1]))).cells = i64s (withV st p ++ [i + 1]) from rfl, g3]; rfl)) fun h22 u22 => ?_;replace f2 := u22.has f2;replace e0 := e0.upd u22 (by omega);apply gE;exact gV (ret_end (aResult_of Try.func96 rfl (aResults_c rfl f2 (inCells_agg ag138 sz138 (slice_all g3)) rfl)) ⟨rfl, e0⟩)
noncomputable def ops95 : Array Oper := ((drawnOps Try.f95)[0]?).getD #[]
theorem befs95 : befs0 ops95 = [0, 1, 3, 0, 0, 24, 0, 127, 255] := by kernel_rfl
theorem size95 : ops95.size = 9 := by kernel_rfl
theorem pl95a : planX ops95 [0, 1, 3, 0, 0, 88, 0, 127, 255] [0, 1, 2, 3, 4, 6, 5, 7, 8] = some (mkPlan ops95.toList [(0, 0, true, false), (1, 1, true, false), (2, 3, true, false), (3, 0, true, false), (4, 0, true, false), (6, 0, false, false), (5, 88, false, false), (7, 127, true, false), (8, 255, false, false)]) := by kernel_rfl
theorem pl95b : planX ops95 [0, 1, 3, 0, 0, 24, 56, 127, 255] [0, 1, 2, 3, 4, 5, 6, 7, 8] = some (mkPlan ops95.toList [(0, 0, true, false), (1, 1, true, false), (2, 3, true, false), (3, 0, true, false), (4, 0, true, false), (5, 24, false, false), (6, 56, false, false), (7, 127, true, false), (8, 255, false, false)]) := by kernel_rfl
theorem alts95 {P : Program} {c : FC} {k : List AItem} {id : Nat} {t : Tr AVal} {h : AH} {Q : AM → Prop}
  (ga : ∀ pl, planX ops95 [0, 1, 3, 0, 0, 88, 0, 127, 255] [0, 1, 2, 3, 4, 6, 5, 7, 8] = some pl → GoE P c k Q ops95 pl (eraseT ops95.toList t) [] t h)
  (gb : ∀ pl, planX ops95 [0, 1, 3, 0, 0, 24, 56, 127, 255] [0, 1, 2, 3, 4, 5, 6, 7, 8] = some pl → GoE P c k Q ops95 pl (eraseT ops95.toList t) [] t h) :
  Go P c (.code (.region id ops95 true) :: k) t h Q := by
 refine Go.drawnX pl95b fun s hv => ?_
 have hb := fun i k hi hk => VB.before hv befs95 i k (by rw [size95]; exact hi) hk
 have h5_3 := hb 5 3 (by decide) (by decide)
 have h5_4 := hb 5 4 (by decide) (by decide)
 have d5 := VB.apart hv befs95 6 5 (by rw [size95]; decide) (by decide)
 by_cases q5 : s.idxOf 6 < s.idxOf 5
 ·refine ⟨_, _, _, pl95a, VB.alt hv befs95 size95 [(6, 5)] (by kernel_rfl) ?_, ga _ pl95a⟩
  intro e he
  simp only [List.mem_cons, List.not_mem_nil, or_false] at he
  rcases he with rfl <;> dsimp only <;> omega
 refine ⟨_, _, _, pl95b, VB.alt hv befs95 size95 [(3, 6), (4, 6), (5, 6)] (by kernel_rfl) ?_, gb _ pl95b⟩
 intro e he
 simp only [List.mem_cons, List.not_mem_nil, or_false] at he
 rcases he with rfl | rfl | rfl <;> dsimp only <;> omega
theorem rule_ok {F : FootV} (O : F.Ok) {rsl hsl : AVal} {h : AH} (A : FootAt h F rsl hsl) {st : List Int} (hst : st.length = 8) {i : Nat} (hi : i < F.hs.length) {p : Pl} (hp : p.Num F.rs.length) {k : Nat} (hk : k < 3) :
  Runs Try.prog 95 [.agg (F.cells rsl hsl), .agg (i64s (st ++ [(i : Int)])), .agg p.cells, .int .i64 k] h (fun en h' => en = .ret (.int .i64 (F.rule st i p k)) ∧ Ext h h') := by
 have hl1 := A.rs.len
 rw [List.length_map] at hl1
 have hnr := O.nr
 have hnum := at_num hp k
 have hget := at_get (p := p) hk
 obtain ⟨q, hq⟩ : ∃ q, p.upTo k = q := ⟨_, rfl⟩
 have hup : ∀ h, Runs Try.prog 120 [.agg [.int .i64 p.a, .int .i64 p.b, .int .i64 p.c], .int .i64 k] h (fun en h' => en = .ret (.agg [.int .i64 q.a, .int .i64 q.b, .int .i64 q.c]) ∧ Ext h h') := fun h => by rw [← hq]; exact upTo_ok k hk
 have hco := fun h A => course_ok O (h := h) (rsl := rsl) (hsl := hsl) A true hi q
 have hw := fun h => worst_ok (F := F) (rsl := rsl) (hsl := hsl) (h := h)
 have hne := fun h => need_ok (F := F) (rsl := rsl) (hsl := hsl) (h := h) k hk
 have hl9 : (F.crs true i q F.rs.length).length = 9 := by unfold FootV.crs; simp
 have hci : (i64s (F.crs true i q F.rs.length)).length = 9 := by rw [i64s_len, hl9]
 have s1 := same_cells F A
 have s2 := same_truth F A true
 have s4 := same_plan q
 have s5 := same_plan p
 have s6 : sameA (.func (.func 125) [.int .i64 (F.lm k)] []) (.func (.func 125) [.int .i64 (F.lm k)] []) = true := by simp [sameA, sameAs, eqI_eq]
 obtain ⟨tv, htv⟩ : ∃ tv, truthV true F rsl hsl = tv := ⟨_, rfl⟩
 rw [htv] at hco hw s2
 have sa := fun h hd => suits_ok (L := F.crs true i q F.rs.length) (d := p.at k) (l := F.lm k) (x := F.w true i q (p.at k).toNat) (h := h) hl9 hd (fun q => crs_day (by omega) (by omega))
 have g9 := ros_len (i := (i : Int)) hst
 have gn := ros_next (i := (i : Int)) hst
 unfold FootV.rule
 rw [hq]
 have hio := fun h => inOrder_ok (a := q.a) (b := q.b) (c := q.c) (n := F.rs.length) (h := h) (by omega)
 unfold FootV.cells at hco hw hne ⊢
 unfold Pl.cells at hco ⊢
 have e0 : Ext h h := Ext.refl _
 refine Runs.intro aFunc95 rfl rfl rfl rfl fun rest => ?_;apply gS;refine gR rfl ?_;refine GoR.box rfl rfl rfl rfl rfl rfl fun h0 x0 f0 => ?_;have := e0.1;replace e0 := e0.trans x0;have := f0.1;refine GoR.box rfl rfl rfl rfl rfl rfl fun h1 x1 f1 => ?_;have := e0.1;have := f0.1;replace f0 := f0.ext x1;replace e0 := e0.trans x1;have := f1.1;refine GoR.box rfl rfl rfl rfl rfl rfl fun h2 x2 f2 => ?_;have := e0.1;have := f1.1;have := f0.1;replace f1 := f1.ext x2;replace f0 := f0.ext x2;replace e0 := e0.trans x2;have := f2.1;refine gP ?_;apply gE
 refine Go.seq noJ_ok (Go.join (fun b : Nat => [(3, .int .i64 (k : Nat)), (4, .ptr h.next 0), (5, .ptr h0.next 0), (6, .ptr h1.next 0), (9, .int .i64 (p.at k)), (10, .ptr b 0)])
  (fun b h' => Ext h h' ∧ Has h' h.next (.cells .plain [rsl, .int .i64 F.men, .int .i64 F.l0, .int .i64 F.l1, .int .i64 F.l2, .int .i64 F.d0, .int .i64 F.d1, .int .i64 F.d2, hsl] 80) ∧ Has h' h0.next (.cells .plain (i64s (st ++ [(i : Int)])) 138) ∧ Has h' b (.cells .plain [.int .i64 q.a, .int .i64 q.b, .int .i64 q.c] 83)) ?_ ?_)
 ·intro k' done
  refine alts95 ?_ ?_
  ·intro pl hpl
   rw [pl95a] at hpl;cases hpl;refine gQ rfl rfl rfl rfl ?_;refine gQ rfl rfl (aOp_indexAddrArr (i := k) Try.underlying83 sz3 rfl rfl (Nat.ble_eq_true_of_le (by omega))) rfl ?_;refine gQ rfl rfl (ld3 rfl f2 hget) rfl ?_;refine gQ rfl rfl (ld83 rfl f2 rfl) rfl ?_;refine gQ rfl rfl rfl rfl ?_;refine GoE.alloc rfl rfl zt83 (dK 0 4 (dK 0 3 (dK 0 2 (dK 0 1 (dK 0 0 rfl))))) rfl rfl fun h3 x3 f3 => ?_;have := e0.1;have := f2.1;have := f1.1;have := f0.1;replace f2 := f2.ext x3;replace f1 := f1.ext x3;replace f0 := f0.ext x3;replace e0 := e0.trans x3;have := f3.1;refine ⟨(rck (h2 := h3) rfl (rfl) (rck (h2 := h3) rfl (ld83 rfl f2 rfl) (rck (h2 := h3) rfl (ld3 rfl f2 hget) (rck (h2 := h3) rfl (aOp_indexAddrArr (i := k) Try.underlying83 sz3 rfl rfl (Nat.ble_eq_true_of_le (by omega))) (rck (h2 := h3) rfl (rfl) recheck_nil))))), ?_⟩;refine GoE.call rfl rfl (aCF aFunc120 rfl) (hup _) (dD 88 4 (dD 88 3 (dK 88 2 (dK 88 1 (dK 88 0 rfl))))) ?_ np;rintro v4 h4 ⟨q, x4⟩;cases q;replace f3 := f3.ext x4;replace f2 := f2.ext x4;replace f1 := f1.ext x4;replace f0 := f0.ext x4;replace e0 := e0.trans x4;refine ⟨(rck (h2 := h4) rfl (ld3 rfl f2 hget) (rck (h2 := h4) rfl (aOp_indexAddrArr (i := k) Try.underlying83 sz3 rfl rfl (Nat.ble_eq_true_of_le (by omega))) (rck (h2 := h4) rfl (rfl) recheck_nil))), _, rfl, ?_⟩;refine gQ rfl rfl rfl rfl ?_;refine GoE.store rfl rfl rfl rfl (dD 255 7 (dD 255 2 (dD 255 1 (dD 255 0 rfl)))) rfl rfl f3 rfl sz83 rfl rfl rfl fun h5 u5 => ?_;replace f3 := u5.has f3;replace f2 := f2.upd u5 (by omega);replace f1 := f1.upd u5 (by omega);replace f0 := f0.upd u5 (by omega);replace e0 := e0.upd u5 (by omega);refine ⟨recheck_nil, ?_⟩;refine GoE.end rfl ?_;exact done _ _ _ ⟨rfl, rfl, rfl, rfl, rfl, rfl, trivial⟩ ⟨e0, f0, f1, by assumption⟩
  ·intro pl hpl
   rw [pl95b] at hpl;cases hpl;refine gQ rfl rfl rfl rfl ?_;refine gQ rfl rfl (aOp_indexAddrArr (i := k) Try.underlying83 sz3 rfl rfl (Nat.ble_eq_true_of_le (by omega))) rfl ?_;refine gQ rfl rfl (ld3 rfl f2 hget) rfl ?_;refine gQ rfl rfl (ld83 rfl f2 rfl) rfl ?_;refine gQ rfl rfl rfl rfl ?_;refine GoE.call rfl rfl (aCF aFunc120 rfl) (hup _) (dD 24 4 (dD 24 3 (dK 24 2 (dK 24 1 (dK 24 0 rfl))))) ?_ np;rintro v3 h3 ⟨q, x3⟩;cases q;replace f2 := f2.ext x3;replace f1 := f1.ext x3;replace f0 := f0.ext x3;replace e0 := e0.trans x3;refine ⟨(rck (h2 := h3) rfl (ld3 rfl f2 hget) (rck (h2 := h3) rfl (aOp_indexAddrArr (i := k) Try.underlying83 sz3 rfl rfl (Nat.ble_eq_true_of_le (by omega))) (rck (h2 := h3) rfl (rfl) recheck_nil))), _, rfl, ?_⟩;refine GoE.alloc rfl rfl zt83 (dK 56 2 (dK 56 1 (dK 56 0 rfl))) rfl rfl fun h4 x4 f4 => ?_;have := e0.1;have := f2.1;have := f1.1;have := f0.1;replace f2 := f2.ext x4;replace f1 := f1.ext x4;replace f0 := f0.ext x4;replace e0 := e0.trans x4;have := f4.1;refine ⟨(rck (h2 := h4) rfl (ld3 rfl f2 hget) (rck (h2 := h4) rfl (aOp_indexAddrArr (i := k) Try.underlying83 sz3 rfl rfl (Nat.ble_eq_true_of_le (by omega))) (rck (h2 := h4) rfl (rfl) recheck_nil))), ?_⟩;refine gQ rfl rfl rfl rfl ?_;refine GoE.store rfl rfl rfl rfl (dD 255 7 (dD 255 2 (dD 255 1 (dD 255 0 rfl)))) rfl rfl f4 rfl sz83 rfl rfl rfl fun h5 u5 => ?_;replace f4 := u5.has f4;replace f2 := f2.upd u5 (by omega);replace f1 := f1.upd u5 (by omega);replace f0 := f0.upd u5 (by omega);replace e0 := e0.upd u5 (by omega);refine ⟨recheck_nil, ?_⟩;refine GoE.end rfl ?_;exact done _ _ _ ⟨rfl, rfl, rfl, rfl, rfl, rfl, trivial⟩ ⟨e0, f0, f1, by assumption⟩
 clear e0 f0 f1 f2;rintro b h20 ⟨e0, f0, f1, f3⟩
 by_cases c1 : p.at k = -1
 ·rw [if_pos c1];apply gS;refine Go.block noJ_ok ?_;apply gS;refine gR rfl ?_;refine gP ?_;refine gO rfl rfl (kET rfl rfl) rfl ?_;refine gP ?_;apply gE;refine gC (b := true) rfl ?_;apply gS;refine gR rfl ?_;refine gP ?_;apply gE;exact gW Try.func95 rfl rfl ⟨rfl, e0⟩
 ·rw [if_neg c1]
  by_cases c2 : q.Ord F.rs.length
  ·rw [if_neg (by simp [c2])];rw [decide_eq_true c2] at hio
   by_cases c3 : F.w true i q (p.at k).toNat ≤ F.lm k
   ·rw [if_neg (by omega)]
    have hsb := fun h => sa h (by omega)
    rw [decide_eq_true (show p.at k = -1 ∨ F.w true i q (p.at k).toNat ≤ F.lm k from .inr c3)] at hsb
    have g1 := ros_get (st := st) (i := (i : Int)) (d := (p.at k).toNat) (by omega)
    have g1' : (i64s (st ++ [(i : Int)]))[0 + 0 + (p.at k).toNat * 1]? = some (.int .i64 ((st[(p.at k).toNat]?).getD 0)) := g1
    by_cases c4 : F.men ≤ (st[(p.at k).toNat]?).getD 0
    ·rw [if_pos c4];apply gS;refine Go.block noJ_ok ?_;apply gS;refine gR rfl ?_;refine gP ?_;refine gO rfl rfl (kEF rfl rfl) rfl ?_;refine gP ?_;apply gE;refine gC (b := false) rfl ?_;apply gS;refine gR rfl ?_;refine gO rfl rfl (ld83 rfl f3 rfl) rfl ?_;refine gO rfl rfl (fa80_0 rfl) rfl ?_;refine gO rfl rfl (ld22 rfl f0 rfl) rfl ?_;refine gO rfl rfl (aOp_lenSlice Try.underlying22 rfl (by assumption)) rfl ?_;refine GoR.call rfl rfl (aCF aFunc84 rfl) (hio _) ?_ np;rintro v21 h21 ⟨q, x21⟩;cases q;refine ⟨_, rfl, ?_⟩;replace f0 := f0.ext x21;replace f1 := f1.ext x21;replace f3 := f3.ext x21;replace e0 := e0.trans x21;iterate 2 refine gP ?_
     apply gE;refine gC (b := false) rfl ?_;apply gS;refine Go.drawnE plan95_1 ?_;iterate 2 refine gQ rfl rfl (ld80 rfl f0 rfl) rfl ?_
     refine gQ rfl rfl (fa138_1 rfl) rfl ?_;refine gQ rfl rfl (ld3 rfl f1 gn) rfl ?_;refine gQ rfl rfl (ld83 rfl f3 rfl) rfl ?_;refine gQ rfl rfl rfl rfl ?_;refine gQ rfl rfl (ld80 rfl f0 rfl) rfl ?_;refine gQ rfl rfl rfl rfl ?_;refine GoE.call rfl rfl (aCF aFunc58 rfl) (hw _) (dK 2 9 (dK 2 8 (dK 2 7 (dK 2 5 (dK 2 4 (dK 2 3 (dD 2 1 (dK 2 0 rfl)))))))) ?_ np;rintro v22 h22 ⟨q, x22⟩;cases q;replace f0 := f0.ext x22;replace f1 := f1.ext x22;replace f3 := f3.ext x22;replace e0 := e0.trans x22;refine ⟨(rck (h2 := h22) rfl (rfl) (rck (h2 := h22) rfl (ld80 rfl f0 rfl) (rck (h2 := h22) rfl (rfl) (rck (h2 := h22) rfl (ld83 rfl f3 rfl) (rck (h2 := h22) rfl (ld3 rfl f1 gn) (rck (h2 := h22) rfl (fa138_1 rfl) (rck (h2 := h22) rfl (ld80 rfl f0 rfl) recheck_nil))))))), _, rfl, ?_⟩;refine GoE.call rfl rfl (aCF aFunc85 rfl) (hco _ (A.ext e0)) (dK 63 9 (dK 63 8 (dK 63 7 (dD 63 5 (dD 63 4 (dD 63 3 (dD 63 0 rfl))))))) ?_ np;rintro v23 h23 ⟨q, x23⟩;cases q;replace f0 := f0.ext x23;replace f1 := f1.ext x23;replace e0 := e0.trans x23;refine ⟨(rck (h2 := h23) rfl (rfl) (rck (h2 := h23) rfl (ld80 rfl f0 rfl) (rck (h2 := h23) rfl (rfl) recheck_nil))), _, rfl, ?_⟩;refine GoE.call rfl rfl (aCF aFunc118 rfl) (hne _) (dD 895 9 (dD 895 8 (dK 895 7 rfl))) ?_ np;rintro v24 h24 ⟨q, x24⟩;cases q;replace f0 := f0.ext x24;replace f1 := f1.ext x24;replace e0 := e0.trans x24;refine ⟨(rck (h2 := h24) rfl (rfl) recheck_nil), _, rfl, ?_⟩;refine GoE.call rfl rfl (aCF aFunc117 rfl) (hsb _) (dD 2047 7 rfl) ?_ np;rintro v25 h25 ⟨q, x25⟩;cases q;replace f0 := f0.ext x25;replace f1 := f1.ext x25;replace e0 := e0.trans x25;refine ⟨recheck_nil, _, rfl, ?_⟩;iterate 2 refine gQ rfl rfl rfl rfl ?_
     refine GoE.end rfl ?_;refine gC (b := false) rfl ?_;apply gS;refine Go.drawnE plan95_2 ?_;refine gQ rfl rfl rfl rfl ?_;refine gQ rfl rfl (fa138_0 rfl) rfl ?_;refine gQ rfl rfl (aOp_indexAddrArrI Try.underlying136 sz3 rfl rfl (by omega)) rfl ?_;refine gQ rfl rfl (ld3 rfl f1 g1') rfl ?_;refine gQ rfl rfl (fa80_1 rfl) rfl ?_;refine gQ rfl rfl (ld3 rfl f0 rfl) rfl ?_;refine gQ rfl rfl (kNT rfl rfl) rfl ?_;refine gQ rfl rfl rfl rfl ?_;refine GoE.end rfl ?_;refine gC (b := true) rfl ?_;apply gS;refine gR rfl ?_;refine gP ?_;apply gE;exact gW Try.func95 rfl rfl ⟨rfl, e0⟩
    ·rw [if_neg c4];apply gS;refine Go.block noJ_ok ?_;apply gS;refine gR rfl ?_;refine gP ?_;refine gO rfl rfl (kEF rfl rfl) rfl ?_;refine gP ?_;apply gE;refine gC (b := false) rfl ?_;apply gS;refine gR rfl ?_;refine gO rfl rfl (ld83 rfl f3 rfl) rfl ?_;refine gO rfl rfl (fa80_0 rfl) rfl ?_;refine gO rfl rfl (ld22 rfl f0 rfl) rfl ?_;refine gO rfl rfl (aOp_lenSlice Try.underlying22 rfl (by assumption)) rfl ?_;refine GoR.call rfl rfl (aCF aFunc84 rfl) (hio _) ?_ np;rintro v21 h21 ⟨q, x21⟩;cases q;refine ⟨_, rfl, ?_⟩;replace f0 := f0.ext x21;replace f1 := f1.ext x21;replace f3 := f3.ext x21;replace e0 := e0.trans x21;iterate 2 refine gP ?_
     apply gE;refine gC (b := false) rfl ?_;apply gS;refine Go.drawnE plan95_1 ?_;iterate 2 refine gQ rfl rfl (ld80 rfl f0 rfl) rfl ?_
     refine gQ rfl rfl (fa138_1 rfl) rfl ?_;refine gQ rfl rfl (ld3 rfl f1 gn) rfl ?_;refine gQ rfl rfl (ld83 rfl f3 rfl) rfl ?_;refine gQ rfl rfl rfl rfl ?_;refine gQ rfl rfl (ld80 rfl f0 rfl) rfl ?_;refine gQ rfl rfl rfl rfl ?_;refine GoE.call rfl rfl (aCF aFunc58 rfl) (hw _) (dK 2 9 (dK 2 8 (dK 2 7 (dK 2 5 (dK 2 4 (dK 2 3 (dD 2 1 (dK 2 0 rfl)))))))) ?_ np;rintro v22 h22 ⟨q, x22⟩;cases q;replace f0 := f0.ext x22;replace f1 := f1.ext x22;replace f3 := f3.ext x22;replace e0 := e0.trans x22;refine ⟨(rck (h2 := h22) rfl (rfl) (rck (h2 := h22) rfl (ld80 rfl f0 rfl) (rck (h2 := h22) rfl (rfl) (rck (h2 := h22) rfl (ld83 rfl f3 rfl) (rck (h2 := h22) rfl (ld3 rfl f1 gn) (rck (h2 := h22) rfl (fa138_1 rfl) (rck (h2 := h22) rfl (ld80 rfl f0 rfl) recheck_nil))))))), _, rfl, ?_⟩;refine GoE.call rfl rfl (aCF aFunc85 rfl) (hco _ (A.ext e0)) (dK 63 9 (dK 63 8 (dK 63 7 (dD 63 5 (dD 63 4 (dD 63 3 (dD 63 0 rfl))))))) ?_ np;rintro v23 h23 ⟨q, x23⟩;cases q;replace f0 := f0.ext x23;replace f1 := f1.ext x23;replace e0 := e0.trans x23;refine ⟨(rck (h2 := h23) rfl (rfl) (rck (h2 := h23) rfl (ld80 rfl f0 rfl) (rck (h2 := h23) rfl (rfl) recheck_nil))), _, rfl, ?_⟩;refine GoE.call rfl rfl (aCF aFunc118 rfl) (hne _) (dD 895 9 (dD 895 8 (dK 895 7 rfl))) ?_ np;rintro v24 h24 ⟨q, x24⟩;cases q;replace f0 := f0.ext x24;replace f1 := f1.ext x24;replace e0 := e0.trans x24;refine ⟨(rck (h2 := h24) rfl (rfl) recheck_nil), _, rfl, ?_⟩;refine GoE.call rfl rfl (aCF aFunc117 rfl) (hsb _) (dD 2047 7 rfl) ?_ np;rintro v25 h25 ⟨q, x25⟩;cases q;replace f0 := f0.ext x25;replace f1 := f1.ext x25;replace e0 := e0.trans x25;refine ⟨recheck_nil, _, rfl, ?_⟩;iterate 2 refine gQ rfl rfl rfl rfl ?_
     refine GoE.end rfl ?_;refine gC (b := false) rfl ?_;apply gS;refine Go.drawnE plan95_2 ?_;refine gQ rfl rfl rfl rfl ?_;refine gQ rfl rfl (fa138_0 rfl) rfl ?_;refine gQ rfl rfl (aOp_indexAddrArrI Try.underlying136 sz3 rfl rfl (by omega)) rfl ?_;refine gQ rfl rfl (ld3 rfl f1 g1') rfl ?_;refine gQ rfl rfl (fa80_1 rfl) rfl ?_;refine gQ rfl rfl (ld3 rfl f0 rfl) rfl ?_;refine gQ rfl rfl (kNF rfl rfl) rfl ?_;refine gQ rfl rfl rfl rfl ?_;refine GoE.end rfl ?_;refine gC (b := false) rfl ?_;refine gD ?_;refine Go.inBlock noJ_ok ?_;apply gS;refine gR rfl ?_;refine gP ?_;apply gE;exact gW Try.func95 rfl rfl ⟨rfl, e0⟩
   ·rw [if_pos c3]
    have hsb := fun h => sa h (by omega)
    rw [decide_eq_false (show ¬ (p.at k = -1 ∨ F.w true i q (p.at k).toNat ≤ F.lm k) by omega)] at hsb;apply gS;refine Go.block noJ_ok ?_;apply gS;refine gR rfl ?_;refine gP ?_;refine gO rfl rfl (kEF rfl rfl) rfl ?_;refine gP ?_;apply gE;refine gC (b := false) rfl ?_;apply gS;refine gR rfl ?_;refine gO rfl rfl (ld83 rfl f3 rfl) rfl ?_;refine gO rfl rfl (fa80_0 rfl) rfl ?_;refine gO rfl rfl (ld22 rfl f0 rfl) rfl ?_;refine gO rfl rfl (aOp_lenSlice Try.underlying22 rfl (by assumption)) rfl ?_;refine GoR.call rfl rfl (aCF aFunc84 rfl) (hio _) ?_ np;rintro v21 h21 ⟨q, x21⟩;cases q;refine ⟨_, rfl, ?_⟩;replace f0 := f0.ext x21;replace f1 := f1.ext x21;replace f3 := f3.ext x21;replace e0 := e0.trans x21;iterate 2 refine gP ?_
    apply gE;refine gC (b := false) rfl ?_;apply gS;refine Go.drawnE plan95_1 ?_;iterate 2 refine gQ rfl rfl (ld80 rfl f0 rfl) rfl ?_
    refine gQ rfl rfl (fa138_1 rfl) rfl ?_;refine gQ rfl rfl (ld3 rfl f1 gn) rfl ?_;refine gQ rfl rfl (ld83 rfl f3 rfl) rfl ?_;refine gQ rfl rfl rfl rfl ?_;refine gQ rfl rfl (ld80 rfl f0 rfl) rfl ?_;refine gQ rfl rfl rfl rfl ?_;refine GoE.call rfl rfl (aCF aFunc58 rfl) (hw _) (dK 2 9 (dK 2 8 (dK 2 7 (dK 2 5 (dK 2 4 (dK 2 3 (dD 2 1 (dK 2 0 rfl)))))))) ?_ np;rintro v22 h22 ⟨q, x22⟩;cases q;replace f0 := f0.ext x22;replace f1 := f1.ext x22;replace f3 := f3.ext x22;replace e0 := e0.trans x22;refine ⟨(rck (h2 := h22) rfl (rfl) (rck (h2 := h22) rfl (ld80 rfl f0 rfl) (rck (h2 := h22) rfl (rfl) (rck (h2 := h22) rfl (ld83 rfl f3 rfl) (rck (h2 := h22) rfl (ld3 rfl f1 gn) (rck (h2 := h22) rfl (fa138_1 rfl) (rck (h2 := h22) rfl (ld80 rfl f0 rfl) recheck_nil))))))), _, rfl, ?_⟩;refine GoE.call rfl rfl (aCF aFunc85 rfl) (hco _ (A.ext e0)) (dK 63 9 (dK 63 8 (dK 63 7 (dD 63 5 (dD 63 4 (dD 63 3 (dD 63 0 rfl))))))) ?_ np;rintro v23 h23 ⟨q, x23⟩;cases q;replace f0 := f0.ext x23;replace e0 := e0.trans x23;refine ⟨(rck (h2 := h23) rfl (rfl) (rck (h2 := h23) rfl (ld80 rfl f0 rfl) (rck (h2 := h23) rfl (rfl) recheck_nil))), _, rfl, ?_⟩;refine GoE.call rfl rfl (aCF aFunc118 rfl) (hne _) (dD 895 9 (dD 895 8 (dK 895 7 rfl))) ?_ np;rintro v24 h24 ⟨q, x24⟩;cases q;replace e0 := e0.trans x24;refine ⟨(rck (h2 := h24) rfl (rfl) recheck_nil), _, rfl, ?_⟩;refine GoE.call rfl rfl (aCF aFunc117 rfl) (hsb _) (dD 2047 7 rfl) ?_ np;rintro v25 h25 ⟨q, x25⟩;cases q;replace e0 := e0.trans x25;refine ⟨recheck_nil, _, rfl, ?_⟩;iterate 2 refine gQ rfl rfl rfl rfl ?_
    refine GoE.end rfl ?_;refine gC (b := true) rfl ?_;apply gS;refine gR rfl ?_;refine gP ?_;apply gE;exact gW Try.func95 rfl rfl ⟨rfl, e0⟩
  ·rw [if_pos c2];rw [decide_eq_false c2] at hio;apply gS;refine Go.block noJ_ok ?_;apply gS;refine gR rfl ?_;refine gP ?_;refine gO rfl rfl (kEF rfl rfl) rfl ?_;refine gP ?_;apply gE;refine gC (b := false) rfl ?_;apply gS;refine gR rfl ?_;refine gO rfl rfl (ld83 rfl f3 rfl) rfl ?_;refine gO rfl rfl (fa80_0 rfl) rfl ?_;refine gO rfl rfl (ld22 rfl f0 rfl) rfl ?_;refine gO rfl rfl (aOp_lenSlice Try.underlying22 rfl (by assumption)) rfl ?_;refine GoR.call rfl rfl (aCF aFunc84 rfl) (hio _) ?_ np;rintro v21 h21 ⟨q, x21⟩;cases q;refine ⟨_, rfl, ?_⟩;replace e0 := e0.trans x21;iterate 2 refine gP ?_
   apply gE;refine gC (b := true) rfl ?_;apply gS;refine gR rfl ?_;refine gP ?_;apply gE;exact gW Try.func95 rfl rfl ⟨rfl, e0⟩
end Go.Proofs.Ytmimdgjehnhnoaa
