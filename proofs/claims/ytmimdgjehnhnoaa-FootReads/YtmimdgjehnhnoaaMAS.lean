import Derived.Test.YtmimdgjehnhnoaaMAR
namespace Go.Proofs.Ytmimdgjehnhnoaa
open Go Go.AbsE
set_option linter.unusedSimpArgs false
set_option maxRecDepth 100000
set_option maxHeartbeats 0
set_option linter.unusedVariables false
theorem kept55_ok {F : FootV} (O : F.Ok) {rsl hsl : AVal} {h : AH} (A : FootAt h F rsl hsl) {i : Nat} (hi : i < F.hs.length) {p : Pl} (hp : p.Ord F.rs.length) :
  Runs Try.prog 55 [.agg (F.cells rsl hsl), .int .i64 (i : Nat), .agg p.cells] h (fun en h' => en = .ret (.int .i64 (F.can i p)) ∧ Ext h h') := by
 have hsr := A.rs.same
 have hss := A.hs.same
 obtain ⟨b0, hb0⟩ : ∃ b, decide (p.at 0 = -1 ∨ F.w true i p (p.at 0).toNat ≤ F.lm 0) = b := ⟨_, rfl⟩
 have qb0 : ∀ h, FootAt h F rsl hsl → Runs Try.prog 88 [.agg (F.cells rsl hsl), .int .i64 (i : Nat), .agg p.cells, .int .i64 0] h (fun en h' => en = .ret (.bool b0) ∧ Ext h h') := fun h A => surely88_ok O A hi hp (s := 0) (by omega) hb0
 obtain ⟨b1, hb1⟩ : ∃ b, decide (p.at 1 = -1 ∨ F.w true i p (p.at 1).toNat ≤ F.lm 1) = b := ⟨_, rfl⟩
 have qb1 : ∀ h, FootAt h F rsl hsl → Runs Try.prog 88 [.agg (F.cells rsl hsl), .int .i64 (i : Nat), .agg p.cells, .int .i64 1] h (fun en h' => en = .ret (.bool b1) ∧ Ext h h') := fun h A => surely88_ok O A hi hp (s := 1) (by omega) hb1
 obtain ⟨b2, hb2⟩ : ∃ b, decide (p.at 2 = -1 ∨ F.w true i p (p.at 2).toNat ≤ F.lm 2) = b := ⟨_, rfl⟩
 have qb2 : ∀ h, FootAt h F rsl hsl → Runs Try.prog 88 [.agg (F.cells rsl hsl), .int .i64 (i : Nat), .agg p.cells, .int .i64 2] h (fun en h' => en = .ret (.bool b2) ∧ Ext h h') := fun h A => surely88_ok O A hi hp (s := 2) (by omega) hb2
 have ht : F.Kept true i p ↔ b0 = true ∧ b1 = true ∧ b2 = true := kept_at.trans ⟨fun z => ⟨hb0.symm.trans (decide_eq_true (z 0 (by omega))), hb1.symm.trans (decide_eq_true (z 1 (by omega))), hb2.symm.trans (decide_eq_true (z 2 (by omega)))⟩, fun ⟨z0, z1, z2⟩ k hk => match k, hk with
  | 0, _ => of_decide_eq_true (hb0.trans z0)
  | 1, _ => of_decide_eq_true (hb1.trans z1)
  | 2, _ => of_decide_eq_true (hb2.trans z2)⟩
 obtain ⟨c0, hc0⟩ : ∃ b, decide (p.at 0 = -1 ∨ F.w false i p (p.at 0).toNat ≤ F.lm 0) = b := ⟨_, rfl⟩
 have qc0 : ∀ h, FootAt h F rsl hsl → Runs Try.prog 89 [.agg (F.cells rsl hsl), .int .i64 (i : Nat), .agg p.cells, .int .i64 0] h (fun en h' => en = .ret (.bool c0) ∧ Ext h h') := fun h A => perhaps89_ok O A hi hp (s := 0) (by omega) hc0
 obtain ⟨c1, hc1⟩ : ∃ b, decide (p.at 1 = -1 ∨ F.w false i p (p.at 1).toNat ≤ F.lm 1) = b := ⟨_, rfl⟩
 have qc1 : ∀ h, FootAt h F rsl hsl → Runs Try.prog 89 [.agg (F.cells rsl hsl), .int .i64 (i : Nat), .agg p.cells, .int .i64 1] h (fun en h' => en = .ret (.bool c1) ∧ Ext h h') := fun h A => perhaps89_ok O A hi hp (s := 1) (by omega) hc1
 obtain ⟨c2, hc2⟩ : ∃ b, decide (p.at 2 = -1 ∨ F.w false i p (p.at 2).toNat ≤ F.lm 2) = b := ⟨_, rfl⟩
 have qc2 : ∀ h, FootAt h F rsl hsl → Runs Try.prog 89 [.agg (F.cells rsl hsl), .int .i64 (i : Nat), .agg p.cells, .int .i64 2] h (fun en h' => en = .ret (.bool c2) ∧ Ext h h') := fun h A => perhaps89_ok O A hi hp (s := 2) (by omega) hc2
 have hf : F.Kept false i p ↔ c0 = true ∧ c1 = true ∧ c2 = true := kept_at.trans ⟨fun z => ⟨hc0.symm.trans (decide_eq_true (z 0 (by omega))), hc1.symm.trans (decide_eq_true (z 1 (by omega))), hc2.symm.trans (decide_eq_true (z 2 (by omega)))⟩, fun ⟨z0, z1, z2⟩ k hk => match k, hk with
  | 0, _ => of_decide_eq_true (hc0.trans z0)
  | 1, _ => of_decide_eq_true (hc1.trans z1)
  | 2, _ => of_decide_eq_true (hc2.trans z2)⟩
 clear hb0 hb1 hb2 hc0 hc1 hc2
 unfold FootV.can
 unfold FootV.cells Pl.cells at qb0 qb1 qb2 qc0 qc1 qc2
 unfold FootV.cells Pl.cells
 cases b0 with
 | false =>
  rw [if_neg (fun z => by have := ht.1 z; simp at this)]
  cases c0 with
  | false =>
   rw [if_neg (fun z => by have := hf.1 z; simp at this)]
   have e0 : Ext h h := Ext.refl _
   refine Runs.intro aFunc55 rfl rfl rfl rfl fun rest => ?_;apply gS;refine gR rfl ?_;refine GoR.box rfl rfl rfl rfl rfl rfl fun h0 x0 f0 => ?_;replace e0 := e0.trans x0;refine GoR.box rfl rfl rfl rfl rfl rfl fun h1 x1 f1 => ?_;replace f0 := f0.ext x1;replace e0 := e0.trans x1;refine gP ?_;apply gE;iterate 2 apply gS
   refine gR rfl ?_;refine gO rfl rfl (ld26 rfl f0 rfl) rfl ?_;refine gP ?_;refine gO rfl rfl (ld27 rfl f1 rfl) rfl ?_;refine GoR.call rfl rfl (aCF aFunc88 rfl) (qb0 _ (A.ext e0)) ?_ np;rintro v2 h2 ⟨q, x2⟩;cases q;refine ⟨_, rfl, ?_⟩;replace f1 := f1.ext x2;replace f0 := f0.ext x2;replace e0 := e0.trans x2;refine gP ?_;iterate 4 refine GoR.skip rfl rfl rfl ?_
   iterate 2 refine gP ?_
   iterate 4 refine GoR.skip rfl rfl rfl ?_
   refine gP ?_;apply gE;refine gC (b := false) rfl ?_;refine gD ?_;iterate 2 apply gS
   refine gR rfl ?_;refine gO rfl rfl (ld26 rfl f0 rfl) rfl ?_;refine gP ?_;refine gO rfl rfl (ld27 rfl f1 rfl) rfl ?_;refine GoR.call rfl rfl (aCF aFunc89 rfl) (qc0 _ (A.ext e0)) ?_ np;rintro v3 h3 ⟨q, x3⟩;cases q;refine ⟨_, rfl, ?_⟩;replace f1 := f1.ext x3;replace f0 := f0.ext x3;replace e0 := e0.trans x3;refine gP ?_;iterate 4 refine GoR.skip rfl rfl rfl ?_
   iterate 2 refine gP ?_
   iterate 4 refine GoR.skip rfl rfl rfl ?_
   refine gP ?_;apply gE;refine gC (b := false) rfl ?_;refine gD ?_;apply gS;refine gR rfl ?_;refine gP ?_;apply gE;exact gW Try.func55 rfl rfl ⟨rfl, e0⟩
  | true =>
   cases c1 with
   | false =>
    rw [if_neg (fun z => by have := hf.1 z; simp at this)]
    have e0 : Ext h h := Ext.refl _
    refine Runs.intro aFunc55 rfl rfl rfl rfl fun rest => ?_;apply gS;refine gR rfl ?_;refine GoR.box rfl rfl rfl rfl rfl rfl fun h0 x0 f0 => ?_;replace e0 := e0.trans x0;refine GoR.box rfl rfl rfl rfl rfl rfl fun h1 x1 f1 => ?_;replace f0 := f0.ext x1;replace e0 := e0.trans x1;refine gP ?_;apply gE;iterate 2 apply gS
    refine gR rfl ?_;refine gO rfl rfl (ld26 rfl f0 rfl) rfl ?_;refine gP ?_;refine gO rfl rfl (ld27 rfl f1 rfl) rfl ?_;refine GoR.call rfl rfl (aCF aFunc88 rfl) (qb0 _ (A.ext e0)) ?_ np;rintro v2 h2 ⟨q, x2⟩;cases q;refine ⟨_, rfl, ?_⟩;replace f1 := f1.ext x2;replace f0 := f0.ext x2;replace e0 := e0.trans x2;refine gP ?_;iterate 4 refine GoR.skip rfl rfl rfl ?_
    iterate 2 refine gP ?_
    iterate 4 refine GoR.skip rfl rfl rfl ?_
    refine gP ?_;apply gE;refine gC (b := false) rfl ?_;refine gD ?_;iterate 2 apply gS
    refine gR rfl ?_;refine gO rfl rfl (ld26 rfl f0 rfl) rfl ?_;refine gP ?_;refine gO rfl rfl (ld27 rfl f1 rfl) rfl ?_;refine GoR.call rfl rfl (aCF aFunc89 rfl) (qc0 _ (A.ext e0)) ?_ np;rintro v3 h3 ⟨q, x3⟩;cases q;refine ⟨_, rfl, ?_⟩;replace f1 := f1.ext x3;replace f0 := f0.ext x3;replace e0 := e0.trans x3;refine gP ?_;refine gO rfl rfl (ld26 rfl f0 rfl) rfl ?_;refine gP ?_;refine gO rfl rfl (ld27 rfl f1 rfl) rfl ?_;refine GoR.call rfl rfl (aCF aFunc89 rfl) (qc1 _ (A.ext e0)) ?_ np;rintro v4 h4 ⟨q, x4⟩;cases q;refine ⟨_, rfl, ?_⟩;replace f1 := f1.ext x4;replace f0 := f0.ext x4;replace e0 := e0.trans x4;iterate 2 refine gP ?_
    iterate 4 refine GoR.skip rfl rfl rfl ?_
    refine gP ?_;apply gE;refine gC (b := false) rfl ?_;refine gD ?_;apply gS;refine gR rfl ?_;refine gP ?_;apply gE;exact gW Try.func55 rfl rfl ⟨rfl, e0⟩
   | true =>
    cases c2 with
    | false =>
     rw [if_neg (fun z => by have := hf.1 z; simp at this)]
     have e0 : Ext h h := Ext.refl _
     refine Runs.intro aFunc55 rfl rfl rfl rfl fun rest => ?_;apply gS;refine gR rfl ?_;refine GoR.box rfl rfl rfl rfl rfl rfl fun h0 x0 f0 => ?_;replace e0 := e0.trans x0;refine GoR.box rfl rfl rfl rfl rfl rfl fun h1 x1 f1 => ?_;replace f0 := f0.ext x1;replace e0 := e0.trans x1;refine gP ?_;apply gE;iterate 2 apply gS
     refine gR rfl ?_;refine gO rfl rfl (ld26 rfl f0 rfl) rfl ?_;refine gP ?_;refine gO rfl rfl (ld27 rfl f1 rfl) rfl ?_;refine GoR.call rfl rfl (aCF aFunc88 rfl) (qb0 _ (A.ext e0)) ?_ np;rintro v2 h2 ⟨q, x2⟩;cases q;refine ⟨_, rfl, ?_⟩;replace f1 := f1.ext x2;replace f0 := f0.ext x2;replace e0 := e0.trans x2;refine gP ?_;iterate 4 refine GoR.skip rfl rfl rfl ?_
     iterate 2 refine gP ?_
     iterate 4 refine GoR.skip rfl rfl rfl ?_
     refine gP ?_;apply gE;refine gC (b := false) rfl ?_;refine gD ?_;iterate 2 apply gS
     refine gR rfl ?_;refine gO rfl rfl (ld26 rfl f0 rfl) rfl ?_;refine gP ?_;refine gO rfl rfl (ld27 rfl f1 rfl) rfl ?_;refine GoR.call rfl rfl (aCF aFunc89 rfl) (qc0 _ (A.ext e0)) ?_ np;rintro v3 h3 ⟨q, x3⟩;cases q;refine ⟨_, rfl, ?_⟩;replace f1 := f1.ext x3;replace f0 := f0.ext x3;replace e0 := e0.trans x3;refine gP ?_;refine gO rfl rfl (ld26 rfl f0 rfl) rfl ?_;refine gP ?_;refine gO rfl rfl (ld27 rfl f1 rfl) rfl ?_;refine GoR.call rfl rfl (aCF aFunc89 rfl) (qc1 _ (A.ext e0)) ?_ np;rintro v4 h4 ⟨q, x4⟩;cases q;refine ⟨_, rfl, ?_⟩;replace f1 := f1.ext x4;replace f0 := f0.ext x4;replace e0 := e0.trans x4;iterate 2 refine gP ?_
     refine gO rfl rfl (ld26 rfl f0 rfl) rfl ?_;refine gP ?_;refine gO rfl rfl (ld27 rfl f1 rfl) rfl ?_;refine GoR.call rfl rfl (aCF aFunc89 rfl) (qc2 _ (A.ext e0)) ?_ np;rintro v5 h5 ⟨q, x5⟩;cases q;refine ⟨_, rfl, ?_⟩;replace f1 := f1.ext x5;replace f0 := f0.ext x5;replace e0 := e0.trans x5;refine gP ?_;apply gE;refine gC (b := false) rfl ?_;refine gD ?_;apply gS;refine gR rfl ?_;refine gP ?_;apply gE;exact gW Try.func55 rfl rfl ⟨rfl, e0⟩
    | true =>
     rw [if_pos (hf.2 ⟨rfl, rfl, rfl⟩)]
     have e0 : Ext h h := Ext.refl _
     refine Runs.intro aFunc55 rfl rfl rfl rfl fun rest => ?_;apply gS;refine gR rfl ?_;refine GoR.box rfl rfl rfl rfl rfl rfl fun h0 x0 f0 => ?_;replace e0 := e0.trans x0;refine GoR.box rfl rfl rfl rfl rfl rfl fun h1 x1 f1 => ?_;replace f0 := f0.ext x1;replace e0 := e0.trans x1;refine gP ?_;apply gE;iterate 2 apply gS
     refine gR rfl ?_;refine gO rfl rfl (ld26 rfl f0 rfl) rfl ?_;refine gP ?_;refine gO rfl rfl (ld27 rfl f1 rfl) rfl ?_;refine GoR.call rfl rfl (aCF aFunc88 rfl) (qb0 _ (A.ext e0)) ?_ np;rintro v2 h2 ⟨q, x2⟩;cases q;refine ⟨_, rfl, ?_⟩;replace f1 := f1.ext x2;replace f0 := f0.ext x2;replace e0 := e0.trans x2;refine gP ?_;iterate 4 refine GoR.skip rfl rfl rfl ?_
     iterate 2 refine gP ?_
     iterate 4 refine GoR.skip rfl rfl rfl ?_
     refine gP ?_;apply gE;refine gC (b := false) rfl ?_;refine gD ?_;iterate 2 apply gS
     refine gR rfl ?_;refine gO rfl rfl (ld26 rfl f0 rfl) rfl ?_;refine gP ?_;refine gO rfl rfl (ld27 rfl f1 rfl) rfl ?_;refine GoR.call rfl rfl (aCF aFunc89 rfl) (qc0 _ (A.ext e0)) ?_ np;rintro v3 h3 ⟨q, x3⟩;cases q;refine ⟨_, rfl, ?_⟩;replace f1 := f1.ext x3;replace f0 := f0.ext x3;replace e0 := e0.trans x3;refine gP ?_;refine gO rfl rfl (ld26 rfl f0 rfl) rfl ?_;refine gP ?_;refine gO rfl rfl (ld27 rfl f1 rfl) rfl ?_;refine GoR.call rfl rfl (aCF aFunc89 rfl) (qc1 _ (A.ext e0)) ?_ np;rintro v4 h4 ⟨q, x4⟩;cases q;refine ⟨_, rfl, ?_⟩;replace f1 := f1.ext x4;replace f0 := f0.ext x4;replace e0 := e0.trans x4;iterate 2 refine gP ?_
     refine gO rfl rfl (ld26 rfl f0 rfl) rfl ?_;refine gP ?_;refine gO rfl rfl (ld27 rfl f1 rfl) rfl ?_;refine GoR.call rfl rfl (aCF aFunc89 rfl) (qc2 _ (A.ext e0)) ?_ np;rintro v5 h5 ⟨q, x5⟩;cases q;refine ⟨_, rfl, ?_⟩;replace f1 := f1.ext x5;replace f0 := f0.ext x5;replace e0 := e0.trans x5;refine gP ?_;apply gE;refine gC (b := true) rfl ?_;apply gS;refine gR rfl ?_;refine gP ?_;apply gE;exact gW Try.func55 rfl rfl ⟨rfl, e0⟩
 | true =>
  cases b1 with
  | false =>
   rw [if_neg (fun z => by have := ht.1 z; simp at this)]
   cases c0 with
   | false =>
    rw [if_neg (fun z => by have := hf.1 z; simp at this)]
    have e0 : Ext h h := Ext.refl _
    refine Runs.intro aFunc55 rfl rfl rfl rfl fun rest => ?_;apply gS;refine gR rfl ?_;refine GoR.box rfl rfl rfl rfl rfl rfl fun h0 x0 f0 => ?_;replace e0 := e0.trans x0;refine GoR.box rfl rfl rfl rfl rfl rfl fun h1 x1 f1 => ?_;replace f0 := f0.ext x1;replace e0 := e0.trans x1;refine gP ?_;apply gE;iterate 2 apply gS
    refine gR rfl ?_;refine gO rfl rfl (ld26 rfl f0 rfl) rfl ?_;refine gP ?_;refine gO rfl rfl (ld27 rfl f1 rfl) rfl ?_;refine GoR.call rfl rfl (aCF aFunc88 rfl) (qb0 _ (A.ext e0)) ?_ np;rintro v2 h2 ⟨q, x2⟩;cases q;refine ⟨_, rfl, ?_⟩;replace f1 := f1.ext x2;replace f0 := f0.ext x2;replace e0 := e0.trans x2;refine gP ?_;refine gO rfl rfl (ld26 rfl f0 rfl) rfl ?_;refine gP ?_;refine gO rfl rfl (ld27 rfl f1 rfl) rfl ?_;refine GoR.call rfl rfl (aCF aFunc88 rfl) (qb1 _ (A.ext e0)) ?_ np;rintro v3 h3 ⟨q, x3⟩;cases q;refine ⟨_, rfl, ?_⟩;replace f1 := f1.ext x3;replace f0 := f0.ext x3;replace e0 := e0.trans x3;iterate 2 refine gP ?_
    iterate 4 refine GoR.skip rfl rfl rfl ?_
    refine gP ?_;apply gE;refine gC (b := false) rfl ?_;refine gD ?_;iterate 2 apply gS
    refine gR rfl ?_;refine gO rfl rfl (ld26 rfl f0 rfl) rfl ?_;refine gP ?_;refine gO rfl rfl (ld27 rfl f1 rfl) rfl ?_;refine GoR.call rfl rfl (aCF aFunc89 rfl) (qc0 _ (A.ext e0)) ?_ np;rintro v4 h4 ⟨q, x4⟩;cases q;refine ⟨_, rfl, ?_⟩;replace f1 := f1.ext x4;replace f0 := f0.ext x4;replace e0 := e0.trans x4;refine gP ?_;iterate 4 refine GoR.skip rfl rfl rfl ?_
    iterate 2 refine gP ?_
    iterate 4 refine GoR.skip rfl rfl rfl ?_
    refine gP ?_;apply gE;refine gC (b := false) rfl ?_;refine gD ?_;apply gS;refine gR rfl ?_;refine gP ?_;apply gE;exact gW Try.func55 rfl rfl ⟨rfl, e0⟩
   | true =>
    cases c1 with
    | false =>
     rw [if_neg (fun z => by have := hf.1 z; simp at this)]
     have e0 : Ext h h := Ext.refl _
     refine Runs.intro aFunc55 rfl rfl rfl rfl fun rest => ?_;apply gS;refine gR rfl ?_;refine GoR.box rfl rfl rfl rfl rfl rfl fun h0 x0 f0 => ?_;replace e0 := e0.trans x0;refine GoR.box rfl rfl rfl rfl rfl rfl fun h1 x1 f1 => ?_;replace f0 := f0.ext x1;replace e0 := e0.trans x1;refine gP ?_;apply gE;iterate 2 apply gS
     refine gR rfl ?_;refine gO rfl rfl (ld26 rfl f0 rfl) rfl ?_;refine gP ?_;refine gO rfl rfl (ld27 rfl f1 rfl) rfl ?_;refine GoR.call rfl rfl (aCF aFunc88 rfl) (qb0 _ (A.ext e0)) ?_ np;rintro v2 h2 ⟨q, x2⟩;cases q;refine ⟨_, rfl, ?_⟩;replace f1 := f1.ext x2;replace f0 := f0.ext x2;replace e0 := e0.trans x2;refine gP ?_;refine gO rfl rfl (ld26 rfl f0 rfl) rfl ?_;refine gP ?_;refine gO rfl rfl (ld27 rfl f1 rfl) rfl ?_;refine GoR.call rfl rfl (aCF aFunc88 rfl) (qb1 _ (A.ext e0)) ?_ np;rintro v3 h3 ⟨q, x3⟩;cases q;refine ⟨_, rfl, ?_⟩;replace f1 := f1.ext x3;replace f0 := f0.ext x3;replace e0 := e0.trans x3;iterate 2 refine gP ?_
     iterate 4 refine GoR.skip rfl rfl rfl ?_
     refine gP ?_;apply gE;refine gC (b := false) rfl ?_;refine gD ?_;iterate 2 apply gS
     refine gR rfl ?_;refine gO rfl rfl (ld26 rfl f0 rfl) rfl ?_;refine gP ?_;refine gO rfl rfl (ld27 rfl f1 rfl) rfl ?_;refine GoR.call rfl rfl (aCF aFunc89 rfl) (qc0 _ (A.ext e0)) ?_ np;rintro v4 h4 ⟨q, x4⟩;cases q;refine ⟨_, rfl, ?_⟩;replace f1 := f1.ext x4;replace f0 := f0.ext x4;replace e0 := e0.trans x4;refine gP ?_;refine gO rfl rfl (ld26 rfl f0 rfl) rfl ?_;refine gP ?_;refine gO rfl rfl (ld27 rfl f1 rfl) rfl ?_;refine GoR.call rfl rfl (aCF aFunc89 rfl) (qc1 _ (A.ext e0)) ?_ np;rintro v5 h5 ⟨q, x5⟩;cases q;refine ⟨_, rfl, ?_⟩;replace f1 := f1.ext x5;replace f0 := f0.ext x5;replace e0 := e0.trans x5;iterate 2 refine gP ?_
     iterate 4 refine GoR.skip rfl rfl rfl ?_
     refine gP ?_;apply gE;refine gC (b := false) rfl ?_;refine gD ?_;apply gS;refine gR rfl ?_;refine gP ?_;apply gE;exact gW Try.func55 rfl rfl ⟨rfl, e0⟩
    | true =>
     cases c2 with
     | false =>
      rw [if_neg (fun z => by have := hf.1 z; simp at this)]
      have e0 : Ext h h := Ext.refl _
      refine Runs.intro aFunc55 rfl rfl rfl rfl fun rest => ?_;apply gS;refine gR rfl ?_;refine GoR.box rfl rfl rfl rfl rfl rfl fun h0 x0 f0 => ?_;replace e0 := e0.trans x0;refine GoR.box rfl rfl rfl rfl rfl rfl fun h1 x1 f1 => ?_;replace f0 := f0.ext x1;replace e0 := e0.trans x1;refine gP ?_;apply gE;iterate 2 apply gS
      refine gR rfl ?_;refine gO rfl rfl (ld26 rfl f0 rfl) rfl ?_;refine gP ?_;refine gO rfl rfl (ld27 rfl f1 rfl) rfl ?_;refine GoR.call rfl rfl (aCF aFunc88 rfl) (qb0 _ (A.ext e0)) ?_ np;rintro v2 h2 ⟨q, x2⟩;cases q;refine ⟨_, rfl, ?_⟩;replace f1 := f1.ext x2;replace f0 := f0.ext x2;replace e0 := e0.trans x2;refine gP ?_;refine gO rfl rfl (ld26 rfl f0 rfl) rfl ?_;refine gP ?_;refine gO rfl rfl (ld27 rfl f1 rfl) rfl ?_;refine GoR.call rfl rfl (aCF aFunc88 rfl) (qb1 _ (A.ext e0)) ?_ np;rintro v3 h3 ⟨q, x3⟩;cases q;refine ⟨_, rfl, ?_⟩;replace f1 := f1.ext x3;replace f0 := f0.ext x3;replace e0 := e0.trans x3;iterate 2 refine gP ?_
      iterate 4 refine GoR.skip rfl rfl rfl ?_
      refine gP ?_;apply gE;refine gC (b := false) rfl ?_;refine gD ?_;iterate 2 apply gS
      refine gR rfl ?_;refine gO rfl rfl (ld26 rfl f0 rfl) rfl ?_;refine gP ?_;refine gO rfl rfl (ld27 rfl f1 rfl) rfl ?_;refine GoR.call rfl rfl (aCF aFunc89 rfl) (qc0 _ (A.ext e0)) ?_ np;rintro v4 h4 ⟨q, x4⟩;cases q;refine ⟨_, rfl, ?_⟩;replace f1 := f1.ext x4;replace f0 := f0.ext x4;replace e0 := e0.trans x4;refine gP ?_;refine gO rfl rfl (ld26 rfl f0 rfl) rfl ?_;refine gP ?_;refine gO rfl rfl (ld27 rfl f1 rfl) rfl ?_;refine GoR.call rfl rfl (aCF aFunc89 rfl) (qc1 _ (A.ext e0)) ?_ np;rintro v5 h5 ⟨q, x5⟩;cases q;refine ⟨_, rfl, ?_⟩;replace f1 := f1.ext x5;replace f0 := f0.ext x5;replace e0 := e0.trans x5;iterate 2 refine gP ?_
      refine gO rfl rfl (ld26 rfl f0 rfl) rfl ?_;refine gP ?_;refine gO rfl rfl (ld27 rfl f1 rfl) rfl ?_;refine GoR.call rfl rfl (aCF aFunc89 rfl) (qc2 _ (A.ext e0)) ?_ np;rintro v6 h6 ⟨q, x6⟩;cases q;refine ⟨_, rfl, ?_⟩;replace f1 := f1.ext x6;replace f0 := f0.ext x6;replace e0 := e0.trans x6;refine gP ?_;apply gE;refine gC (b := false) rfl ?_;refine gD ?_;apply gS;refine gR rfl ?_;refine gP ?_;apply gE;exact gW Try.func55 rfl rfl ⟨rfl, e0⟩
     | true =>
      rw [if_pos (hf.2 ⟨rfl, rfl, rfl⟩)]
      have e0 : Ext h h := Ext.refl _
      refine Runs.intro aFunc55 rfl rfl rfl rfl fun rest => ?_;apply gS;refine gR rfl ?_;refine GoR.box rfl rfl rfl rfl rfl rfl fun h0 x0 f0 => ?_;replace e0 := e0.trans x0;refine GoR.box rfl rfl rfl rfl rfl rfl fun h1 x1 f1 => ?_;replace f0 := f0.ext x1;replace e0 := e0.trans x1;refine gP ?_;apply gE;iterate 2 apply gS
      refine gR rfl ?_;refine gO rfl rfl (ld26 rfl f0 rfl) rfl ?_;refine gP ?_;refine gO rfl rfl (ld27 rfl f1 rfl) rfl ?_;refine GoR.call rfl rfl (aCF aFunc88 rfl) (qb0 _ (A.ext e0)) ?_ np;rintro v2 h2 ⟨q, x2⟩;cases q;refine ⟨_, rfl, ?_⟩;replace f1 := f1.ext x2;replace f0 := f0.ext x2;replace e0 := e0.trans x2;refine gP ?_;refine gO rfl rfl (ld26 rfl f0 rfl) rfl ?_;refine gP ?_;refine gO rfl rfl (ld27 rfl f1 rfl) rfl ?_;refine GoR.call rfl rfl (aCF aFunc88 rfl) (qb1 _ (A.ext e0)) ?_ np;rintro v3 h3 ⟨q, x3⟩;cases q;refine ⟨_, rfl, ?_⟩;replace f1 := f1.ext x3;replace f0 := f0.ext x3;replace e0 := e0.trans x3;iterate 2 refine gP ?_
      iterate 4 refine GoR.skip rfl rfl rfl ?_
      refine gP ?_;apply gE;refine gC (b := false) rfl ?_;refine gD ?_;iterate 2 apply gS
      refine gR rfl ?_;refine gO rfl rfl (ld26 rfl f0 rfl) rfl ?_;refine gP ?_;refine gO rfl rfl (ld27 rfl f1 rfl) rfl ?_;refine GoR.call rfl rfl (aCF aFunc89 rfl) (qc0 _ (A.ext e0)) ?_ np;rintro v4 h4 ⟨q, x4⟩;cases q;refine ⟨_, rfl, ?_⟩;replace f1 := f1.ext x4;replace f0 := f0.ext x4;replace e0 := e0.trans x4;refine gP ?_;refine gO rfl rfl (ld26 rfl f0 rfl) rfl ?_;refine gP ?_;refine gO rfl rfl (ld27 rfl f1 rfl) rfl ?_;refine GoR.call rfl rfl (aCF aFunc89 rfl) (qc1 _ (A.ext e0)) ?_ np;rintro v5 h5 ⟨q, x5⟩;cases q;refine ⟨_, rfl, ?_⟩;replace f1 := f1.ext x5;replace f0 := f0.ext x5;replace e0 := e0.trans x5;iterate 2 refine gP ?_
      refine gO rfl rfl (ld26 rfl f0 rfl) rfl ?_;refine gP ?_;refine gO rfl rfl (ld27 rfl f1 rfl) rfl ?_;refine GoR.call rfl rfl (aCF aFunc89 rfl) (qc2 _ (A.ext e0)) ?_ np;rintro v6 h6 ⟨q, x6⟩;cases q;refine ⟨_, rfl, ?_⟩;replace f1 := f1.ext x6;replace f0 := f0.ext x6;replace e0 := e0.trans x6;refine gP ?_;apply gE;refine gC (b := true) rfl ?_;apply gS;refine gR rfl ?_;refine gP ?_;apply gE;exact gW Try.func55 rfl rfl ⟨rfl, e0⟩
  | true =>
   cases b2 with
   | false =>
    rw [if_neg (fun z => by have := ht.1 z; simp at this)]
    cases c0 with
    | false =>
     rw [if_neg (fun z => by have := hf.1 z; simp at this)]
     have e0 : Ext h h := Ext.refl _
     refine Runs.intro aFunc55 rfl rfl rfl rfl fun rest => ?_;apply gS;refine gR rfl ?_;refine GoR.box rfl rfl rfl rfl rfl rfl fun h0 x0 f0 => ?_;replace e0 := e0.trans x0;refine GoR.box rfl rfl rfl rfl rfl rfl fun h1 x1 f1 => ?_;replace f0 := f0.ext x1;replace e0 := e0.trans x1;refine gP ?_;apply gE;iterate 2 apply gS
     refine gR rfl ?_;refine gO rfl rfl (ld26 rfl f0 rfl) rfl ?_;refine gP ?_;refine gO rfl rfl (ld27 rfl f1 rfl) rfl ?_;refine GoR.call rfl rfl (aCF aFunc88 rfl) (qb0 _ (A.ext e0)) ?_ np;rintro v2 h2 ⟨q, x2⟩;cases q;refine ⟨_, rfl, ?_⟩;replace f1 := f1.ext x2;replace f0 := f0.ext x2;replace e0 := e0.trans x2;refine gP ?_;refine gO rfl rfl (ld26 rfl f0 rfl) rfl ?_;refine gP ?_;refine gO rfl rfl (ld27 rfl f1 rfl) rfl ?_;refine GoR.call rfl rfl (aCF aFunc88 rfl) (qb1 _ (A.ext e0)) ?_ np;rintro v3 h3 ⟨q, x3⟩;cases q;refine ⟨_, rfl, ?_⟩;replace f1 := f1.ext x3;replace f0 := f0.ext x3;replace e0 := e0.trans x3;iterate 2 refine gP ?_
     refine gO rfl rfl (ld26 rfl f0 rfl) rfl ?_;refine gP ?_;refine gO rfl rfl (ld27 rfl f1 rfl) rfl ?_;refine GoR.call rfl rfl (aCF aFunc88 rfl) (qb2 _ (A.ext e0)) ?_ np;rintro v4 h4 ⟨q, x4⟩;cases q;refine ⟨_, rfl, ?_⟩;replace f1 := f1.ext x4;replace f0 := f0.ext x4;replace e0 := e0.trans x4;refine gP ?_;apply gE;refine gC (b := false) rfl ?_;refine gD ?_;iterate 2 apply gS
     refine gR rfl ?_;refine gO rfl rfl (ld26 rfl f0 rfl) rfl ?_;refine gP ?_;refine gO rfl rfl (ld27 rfl f1 rfl) rfl ?_;refine GoR.call rfl rfl (aCF aFunc89 rfl) (qc0 _ (A.ext e0)) ?_ np;rintro v5 h5 ⟨q, x5⟩;cases q;refine ⟨_, rfl, ?_⟩;replace f1 := f1.ext x5;replace f0 := f0.ext x5;replace e0 := e0.trans x5;refine gP ?_;iterate 4 refine GoR.skip rfl rfl rfl ?_
     iterate 2 refine gP ?_
     iterate 4 refine GoR.skip rfl rfl rfl ?_
     refine gP ?_;apply gE;refine gC (b := false) rfl ?_;refine gD ?_;apply gS;refine gR rfl ?_;refine gP ?_;apply gE;exact gW Try.func55 rfl rfl ⟨rfl, e0⟩
    | true =>
     cases c1 with
     | false =>
      rw [if_neg (fun z => by have := hf.1 z; simp at this)]
      have e0 : Ext h h := Ext.refl _
      refine Runs.intro aFunc55 rfl rfl rfl rfl fun rest => ?_;apply gS;refine gR rfl ?_;refine GoR.box rfl rfl rfl rfl rfl rfl fun h0 x0 f0 => ?_;replace e0 := e0.trans x0;refine GoR.box rfl rfl rfl rfl rfl rfl fun h1 x1 f1 => ?_;replace f0 := f0.ext x1;replace e0 := e0.trans x1;refine gP ?_;apply gE;iterate 2 apply gS
      refine gR rfl ?_;refine gO rfl rfl (ld26 rfl f0 rfl) rfl ?_;refine gP ?_;refine gO rfl rfl (ld27 rfl f1 rfl) rfl ?_;refine GoR.call rfl rfl (aCF aFunc88 rfl) (qb0 _ (A.ext e0)) ?_ np;rintro v2 h2 ⟨q, x2⟩;cases q;refine ⟨_, rfl, ?_⟩;replace f1 := f1.ext x2;replace f0 := f0.ext x2;replace e0 := e0.trans x2;refine gP ?_;refine gO rfl rfl (ld26 rfl f0 rfl) rfl ?_;refine gP ?_;refine gO rfl rfl (ld27 rfl f1 rfl) rfl ?_;refine GoR.call rfl rfl (aCF aFunc88 rfl) (qb1 _ (A.ext e0)) ?_ np;rintro v3 h3 ⟨q, x3⟩;cases q;refine ⟨_, rfl, ?_⟩;replace f1 := f1.ext x3;replace f0 := f0.ext x3;replace e0 := e0.trans x3;iterate 2 refine gP ?_
      refine gO rfl rfl (ld26 rfl f0 rfl) rfl ?_;refine gP ?_;refine gO rfl rfl (ld27 rfl f1 rfl) rfl ?_;refine GoR.call rfl rfl (aCF aFunc88 rfl) (qb2 _ (A.ext e0)) ?_ np;rintro v4 h4 ⟨q, x4⟩;cases q;refine ⟨_, rfl, ?_⟩;replace f1 := f1.ext x4;replace f0 := f0.ext x4;replace e0 := e0.trans x4;refine gP ?_;apply gE;refine gC (b := false) rfl ?_;refine gD ?_;iterate 2 apply gS
      refine gR rfl ?_;refine gO rfl rfl (ld26 rfl f0 rfl) rfl ?_;refine gP ?_;refine gO rfl rfl (ld27 rfl f1 rfl) rfl ?_;refine GoR.call rfl rfl (aCF aFunc89 rfl) (qc0 _ (A.ext e0)) ?_ np;rintro v5 h5 ⟨q, x5⟩;cases q;refine ⟨_, rfl, ?_⟩;replace f1 := f1.ext x5;replace f0 := f0.ext x5;replace e0 := e0.trans x5;refine gP ?_;refine gO rfl rfl (ld26 rfl f0 rfl) rfl ?_;refine gP ?_;refine gO rfl rfl (ld27 rfl f1 rfl) rfl ?_;refine GoR.call rfl rfl (aCF aFunc89 rfl) (qc1 _ (A.ext e0)) ?_ np;rintro v6 h6 ⟨q, x6⟩;cases q;refine ⟨_, rfl, ?_⟩;replace f1 := f1.ext x6;replace f0 := f0.ext x6;replace e0 := e0.trans x6;iterate 2 refine gP ?_
      iterate 4 refine GoR.skip rfl rfl rfl ?_
      refine gP ?_;apply gE;refine gC (b := false) rfl ?_;refine gD ?_;apply gS;refine gR rfl ?_;refine gP ?_;apply gE;exact gW Try.func55 rfl rfl ⟨rfl, e0⟩
     | true =>
      cases c2 with
      | false =>
       rw [if_neg (fun z => by have := hf.1 z; simp at this)]
       have e0 : Ext h h := Ext.refl _
       refine Runs.intro aFunc55 rfl rfl rfl rfl fun rest => ?_;apply gS;refine gR rfl ?_;refine GoR.box rfl rfl rfl rfl rfl rfl fun h0 x0 f0 => ?_;replace e0 := e0.trans x0;refine GoR.box rfl rfl rfl rfl rfl rfl fun h1 x1 f1 => ?_;replace f0 := f0.ext x1;replace e0 := e0.trans x1;refine gP ?_;apply gE;iterate 2 apply gS
       refine gR rfl ?_;refine gO rfl rfl (ld26 rfl f0 rfl) rfl ?_;refine gP ?_;refine gO rfl rfl (ld27 rfl f1 rfl) rfl ?_;refine GoR.call rfl rfl (aCF aFunc88 rfl) (qb0 _ (A.ext e0)) ?_ np;rintro v2 h2 ⟨q, x2⟩;cases q;refine ⟨_, rfl, ?_⟩;replace f1 := f1.ext x2;replace f0 := f0.ext x2;replace e0 := e0.trans x2;refine gP ?_;refine gO rfl rfl (ld26 rfl f0 rfl) rfl ?_;refine gP ?_;refine gO rfl rfl (ld27 rfl f1 rfl) rfl ?_;refine GoR.call rfl rfl (aCF aFunc88 rfl) (qb1 _ (A.ext e0)) ?_ np;rintro v3 h3 ⟨q, x3⟩;cases q;refine ⟨_, rfl, ?_⟩;replace f1 := f1.ext x3;replace f0 := f0.ext x3;replace e0 := e0.trans x3;iterate 2 refine gP ?_
       refine gO rfl rfl (ld26 rfl f0 rfl) rfl ?_;refine gP ?_;refine gO rfl rfl (ld27 rfl f1 rfl) rfl ?_;refine GoR.call rfl rfl (aCF aFunc88 rfl) (qb2 _ (A.ext e0)) ?_ np;rintro v4 h4 ⟨q, x4⟩;cases q;refine ⟨_, rfl, ?_⟩;replace f1 := f1.ext x4;replace f0 := f0.ext x4;replace e0 := e0.trans x4;refine gP ?_;apply gE;refine gC (b := false) rfl ?_;refine gD ?_;iterate 2 apply gS
       refine gR rfl ?_;refine gO rfl rfl (ld26 rfl f0 rfl) rfl ?_;refine gP ?_;refine gO rfl rfl (ld27 rfl f1 rfl) rfl ?_;refine GoR.call rfl rfl (aCF aFunc89 rfl) (qc0 _ (A.ext e0)) ?_ np;rintro v5 h5 ⟨q, x5⟩;cases q;refine ⟨_, rfl, ?_⟩;replace f1 := f1.ext x5;replace f0 := f0.ext x5;replace e0 := e0.trans x5;refine gP ?_;refine gO rfl rfl (ld26 rfl f0 rfl) rfl ?_;refine gP ?_;refine gO rfl rfl (ld27 rfl f1 rfl) rfl ?_;refine GoR.call rfl rfl (aCF aFunc89 rfl) (qc1 _ (A.ext e0)) ?_ np;rintro v6 h6 ⟨q, x6⟩;cases q;refine ⟨_, rfl, ?_⟩;replace f1 := f1.ext x6;replace f0 := f0.ext x6;replace e0 := e0.trans x6;iterate 2 refine gP ?_
       refine gO rfl rfl (ld26 rfl f0 rfl) rfl ?_;refine gP ?_;refine gO rfl rfl (ld27 rfl f1 rfl) rfl ?_;refine GoR.call rfl rfl (aCF aFunc89 rfl) (qc2 _ (A.ext e0)) ?_ np;rintro v7 h7 ⟨q, x7⟩;cases q;refine ⟨_, rfl, ?_⟩;replace f1 := f1.ext x7;replace f0 := f0.ext x7;replace e0 := e0.trans x7;refine gP ?_;apply gE;refine gC (b := false) rfl ?_;refine gD ?_;apply gS;refine gR rfl ?_;refine gP ?_;apply gE;exact gW Try.func55 rfl rfl ⟨rfl, e0⟩
      | true =>
       rw [if_pos (hf.2 ⟨rfl, rfl, rfl⟩)]
       have e0 : Ext h h := Ext.refl _
       refine Runs.intro aFunc55 rfl rfl rfl rfl fun rest => ?_;apply gS;refine gR rfl ?_;refine GoR.box rfl rfl rfl rfl rfl rfl fun h0 x0 f0 => ?_;replace e0 := e0.trans x0;refine GoR.box rfl rfl rfl rfl rfl rfl fun h1 x1 f1 => ?_;replace f0 := f0.ext x1;replace e0 := e0.trans x1;refine gP ?_;apply gE;iterate 2 apply gS
       refine gR rfl ?_;refine gO rfl rfl (ld26 rfl f0 rfl) rfl ?_;refine gP ?_;refine gO rfl rfl (ld27 rfl f1 rfl) rfl ?_;refine GoR.call rfl rfl (aCF aFunc88 rfl) (qb0 _ (A.ext e0)) ?_ np;rintro v2 h2 ⟨q, x2⟩;cases q;refine ⟨_, rfl, ?_⟩;replace f1 := f1.ext x2;replace f0 := f0.ext x2;replace e0 := e0.trans x2;refine gP ?_;refine gO rfl rfl (ld26 rfl f0 rfl) rfl ?_;refine gP ?_;refine gO rfl rfl (ld27 rfl f1 rfl) rfl ?_;refine GoR.call rfl rfl (aCF aFunc88 rfl) (qb1 _ (A.ext e0)) ?_ np;rintro v3 h3 ⟨q, x3⟩;cases q;refine ⟨_, rfl, ?_⟩;replace f1 := f1.ext x3;replace f0 := f0.ext x3;replace e0 := e0.trans x3;iterate 2 refine gP ?_
       refine gO rfl rfl (ld26 rfl f0 rfl) rfl ?_;refine gP ?_;refine gO rfl rfl (ld27 rfl f1 rfl) rfl ?_;refine GoR.call rfl rfl (aCF aFunc88 rfl) (qb2 _ (A.ext e0)) ?_ np;rintro v4 h4 ⟨q, x4⟩;cases q;refine ⟨_, rfl, ?_⟩;replace f1 := f1.ext x4;replace f0 := f0.ext x4;replace e0 := e0.trans x4;refine gP ?_;apply gE;refine gC (b := false) rfl ?_;refine gD ?_;iterate 2 apply gS
       refine gR rfl ?_;refine gO rfl rfl (ld26 rfl f0 rfl) rfl ?_;refine gP ?_;refine gO rfl rfl (ld27 rfl f1 rfl) rfl ?_;refine GoR.call rfl rfl (aCF aFunc89 rfl) (qc0 _ (A.ext e0)) ?_ np;rintro v5 h5 ⟨q, x5⟩;cases q;refine ⟨_, rfl, ?_⟩;replace f1 := f1.ext x5;replace f0 := f0.ext x5;replace e0 := e0.trans x5;refine gP ?_;refine gO rfl rfl (ld26 rfl f0 rfl) rfl ?_;refine gP ?_;refine gO rfl rfl (ld27 rfl f1 rfl) rfl ?_;refine GoR.call rfl rfl (aCF aFunc89 rfl) (qc1 _ (A.ext e0)) ?_ np;rintro v6 h6 ⟨q, x6⟩;cases q;refine ⟨_, rfl, ?_⟩;replace f1 := f1.ext x6;replace f0 := f0.ext x6;replace e0 := e0.trans x6;iterate 2 refine gP ?_
       refine gO rfl rfl (ld26 rfl f0 rfl) rfl ?_;refine gP ?_;refine gO rfl rfl (ld27 rfl f1 rfl) rfl ?_;refine GoR.call rfl rfl (aCF aFunc89 rfl) (qc2 _ (A.ext e0)) ?_ np;rintro v7 h7 ⟨q, x7⟩;cases q;refine ⟨_, rfl, ?_⟩;replace f1 := f1.ext x7;replace f0 := f0.ext x7;replace e0 := e0.trans x7;refine gP ?_;apply gE;refine gC (b := true) rfl ?_;apply gS;refine gR rfl ?_;refine gP ?_;apply gE;exact gW Try.func55 rfl rfl ⟨rfl, e0⟩
   | true =>
    rw [if_pos (ht.2 ⟨rfl, rfl, rfl⟩)]
    have e0 : Ext h h := Ext.refl _
    refine Runs.intro aFunc55 rfl rfl rfl rfl fun rest => ?_;apply gS;refine gR rfl ?_;refine GoR.box rfl rfl rfl rfl rfl rfl fun h0 x0 f0 => ?_;replace e0 := e0.trans x0;refine GoR.box rfl rfl rfl rfl rfl rfl fun h1 x1 f1 => ?_;replace f0 := f0.ext x1;replace e0 := e0.trans x1;refine gP ?_;apply gE;iterate 2 apply gS
    refine gR rfl ?_;refine gO rfl rfl (ld26 rfl f0 rfl) rfl ?_;refine gP ?_;refine gO rfl rfl (ld27 rfl f1 rfl) rfl ?_;refine GoR.call rfl rfl (aCF aFunc88 rfl) (qb0 _ (A.ext e0)) ?_ np;rintro v2 h2 ⟨q, x2⟩;cases q;refine ⟨_, rfl, ?_⟩;replace f1 := f1.ext x2;replace f0 := f0.ext x2;replace e0 := e0.trans x2;refine gP ?_;refine gO rfl rfl (ld26 rfl f0 rfl) rfl ?_;refine gP ?_;refine gO rfl rfl (ld27 rfl f1 rfl) rfl ?_;refine GoR.call rfl rfl (aCF aFunc88 rfl) (qb1 _ (A.ext e0)) ?_ np;rintro v3 h3 ⟨q, x3⟩;cases q;refine ⟨_, rfl, ?_⟩;replace f1 := f1.ext x3;replace f0 := f0.ext x3;replace e0 := e0.trans x3;iterate 2 refine gP ?_
    refine gO rfl rfl (ld26 rfl f0 rfl) rfl ?_;refine gP ?_;refine gO rfl rfl (ld27 rfl f1 rfl) rfl ?_;refine GoR.call rfl rfl (aCF aFunc88 rfl) (qb2 _ (A.ext e0)) ?_ np;rintro v4 h4 ⟨q, x4⟩;cases q;refine ⟨_, rfl, ?_⟩;replace e0 := e0.trans x4;refine gP ?_;apply gE;refine gC (b := true) rfl ?_;apply gS;refine gR rfl ?_;refine gP ?_;apply gE;exact gW Try.func55 rfl rfl ⟨rfl, e0⟩
theorem Can17_ok {F : FootV} {rsl hsl : AVal} {h : AH} (A : FootAt h F rsl hsl) (hb1 : F.rs.length ≤ 40) (hb2 : F.hs.length ≤ 40) (i : Int) (p : Pl) :
  Runs Try.prog 17 [.agg (F.cells rsl hsl), .int .i64 i, .agg p.cells] h (fun en h' => en = .ret (.tuple [.int .i64 (F.canR i p).1, .int .i64 (F.canR i p).2]) ∧ Ext h h') := by
 have s1 := same_cells F A
 have s4 := same_plan p
 unfold FootV.cells at s1
 have hH := fun h A => Heap49_ok (F := F) (h := h) (rsl := rsl) (hsl := hsl) A hb2 i
 have hP := fun h A => Plan_ok (F := F) (h := h) (rsl := rsl) (hsl := hsl) (p := p) A hb1
 have hC := fun h A b r hr => check48_ok (F := F) (h := h) (rsl := rsl) (hsl := hsl) A hb1 hb2 b (r := r) hr
 have hK := fun O h A i' hi hp => kept55_ok (F := F) O (h := h) (rsl := rsl) (hsl := hsl) A (i := i') hi (p := p) hp
 unfold FootV.canR
 unfold FootV.cells at hH hC
 unfold FootV.cells Pl.cells at hP hK
 unfold FootV.cells Pl.cells
 by_cases c1 : 0 ≤ i ∧ i ≤ (F.hs.length : Int) - 1
 ·rw [decide_eq_true c1] at hH
  by_cases c2 : p.Ord F.rs.length
  ·rw [decide_eq_true c2] at hP
   by_cases O : F.Ok
   ·rw [if_pos O, if_pos ⟨c1, c2⟩]
    obtain ⟨i', rfl⟩ := Int.eq_ofNat_of_zero_le c1.1
    rw [Int.toNat_natCast]
    have hc := fun h A => hC h A true 0 (by rw [if_pos O, if_pos rfl])
    have e0 : Ext h h := Ext.refl _
    refine Runs.intro aFunc17 rfl rfl rfl rfl fun rest => ?_;apply gS;refine gR rfl ?_;refine GoR.box rfl rfl rfl rfl rfl rfl fun h0 x0 f0 => ?_;have := e0.1;replace e0 := e0.trans x0;have := f0.1;refine GoR.box rfl rfl rfl rfl rfl rfl fun h1 x1 f1 => ?_;have := e0.1;have := f0.1;replace f0 := f0.ext x1;replace e0 := e0.trans x1;have := f1.1;iterate 2 refine gP ?_
    apply gE;apply gS;refine Go.drawnE plan17_0 ?_;iterate 2 refine gQ rfl rfl (ld26 rfl f0 rfl) rfl ?_
    refine gQ rfl rfl rfl rfl ?_;refine GoE.call rfl rfl (aCF aFunc49 rfl) (hH _ (A.ext e0)) (dD 6 2 (dD 6 1 (dK 6 0 rfl))) ?_ np;rintro v2 h2 ⟨q, x2⟩;cases q;replace f1 := f1.ext x2;replace f0 := f0.ext x2;replace e0 := e0.trans x2;refine ⟨(rck (h2 := h2) rfl (ld26 rfl f0 rfl) recheck_nil), _, rfl, ?_⟩;refine gQ rfl rfl rfl rfl ?_;refine gQ rfl rfl (ld26 rfl f0 rfl) rfl ?_;refine gQ rfl rfl (ld27 rfl f1 rfl) rfl ?_;refine GoE.call rfl rfl (aCF aFunc31 rfl) (hP _ (A.ext e0)) (dD 126 6 (dD 126 5 (dD 126 4 (dK 126 0 rfl)))) ?_ np;rintro v3 h3 ⟨q, x3⟩;cases q;replace f1 := f1.ext x3;replace f0 := f0.ext x3;replace e0 := e0.trans x3;refine ⟨(rck (h2 := h3) rfl (ld26 rfl f0 rfl) recheck_nil), _, rfl, ?_⟩;refine gQ rfl rfl rfl rfl ?_;refine GoE.call rfl rfl (aCF aFunc48 rfl) (hc _ (A.ext e0)) (dD 511 8 (dD 511 0 rfl)) ?_ np;rintro v4 h4 ⟨q, x4⟩;cases q;replace f1 := f1.ext x4;replace f0 := f0.ext x4;replace e0 := e0.trans x4;refine ⟨recheck_nil, _, rfl, ?_⟩;refine gQ rfl rfl rfl rfl ?_;refine GoE.end rfl ?_;iterate 2 apply gS
    refine gR rfl ?_;refine gP ?_;refine gO rfl rfl (kXF rfl rfl) rfl ?_;apply gE;refine gC (b := false) rfl ?_;refine gD ?_;apply gS;refine gR rfl ?_;refine gO rfl rfl (ld26 rfl f0 rfl) rfl ?_;refine gP ?_;refine gO rfl rfl (ld27 rfl f1 rfl) rfl ?_;refine GoR.call rfl rfl (aCF aFunc55 rfl) (hK O _ (A.ext e0) _ (by omega) c2) ?_ np;rintro v5 h5 ⟨q, x5⟩;cases q;refine ⟨_, rfl, ?_⟩;replace e0 := e0.trans x5;iterate 2 refine gP ?_
    apply gE;exact gW Try.func17 rfl rfl ⟨rfl, e0⟩
   ·rw [if_neg O]
    have hc := fun h A => hC h A true 1 (by rw [if_neg O])
    have e0 : Ext h h := Ext.refl _
    refine Runs.intro aFunc17 rfl rfl rfl rfl fun rest => ?_;apply gS;refine gR rfl ?_;refine GoR.box rfl rfl rfl rfl rfl rfl fun h0 x0 f0 => ?_;have := e0.1;replace e0 := e0.trans x0;have := f0.1;refine GoR.box rfl rfl rfl rfl rfl rfl fun h1 x1 f1 => ?_;have := e0.1;have := f0.1;replace f0 := f0.ext x1;replace e0 := e0.trans x1;have := f1.1;iterate 2 refine gP ?_
    apply gE;apply gS;refine Go.drawnE plan17_0 ?_;iterate 2 refine gQ rfl rfl (ld26 rfl f0 rfl) rfl ?_
    refine gQ rfl rfl rfl rfl ?_;refine GoE.call rfl rfl (aCF aFunc49 rfl) (hH _ (A.ext e0)) (dD 6 2 (dD 6 1 (dK 6 0 rfl))) ?_ np;rintro v2 h2 ⟨q, x2⟩;cases q;replace f1 := f1.ext x2;replace f0 := f0.ext x2;replace e0 := e0.trans x2;refine ⟨(rck (h2 := h2) rfl (ld26 rfl f0 rfl) recheck_nil), _, rfl, ?_⟩;refine gQ rfl rfl rfl rfl ?_;refine gQ rfl rfl (ld26 rfl f0 rfl) rfl ?_;refine gQ rfl rfl (ld27 rfl f1 rfl) rfl ?_;refine GoE.call rfl rfl (aCF aFunc31 rfl) (hP _ (A.ext e0)) (dD 126 6 (dD 126 5 (dD 126 4 (dK 126 0 rfl)))) ?_ np;rintro v3 h3 ⟨q, x3⟩;cases q;replace f0 := f0.ext x3;replace e0 := e0.trans x3;refine ⟨(rck (h2 := h3) rfl (ld26 rfl f0 rfl) recheck_nil), _, rfl, ?_⟩;refine gQ rfl rfl rfl rfl ?_;refine GoE.call rfl rfl (aCF aFunc48 rfl) (hc _ (A.ext e0)) (dD 511 8 (dD 511 0 rfl)) ?_ np;rintro v4 h4 ⟨q, x4⟩;cases q;replace e0 := e0.trans x4;refine ⟨recheck_nil, _, rfl, ?_⟩;refine gQ rfl rfl rfl rfl ?_;refine GoE.end rfl ?_;iterate 2 apply gS
    refine gR rfl ?_;refine gP ?_;refine gO rfl rfl (kXT rfl rfl) rfl ?_;apply gE;refine gC (b := true) rfl ?_;apply gS;refine gR rfl ?_;iterate 3 refine gP ?_
    apply gE;exact gW Try.func17 rfl rfl ⟨rfl, e0⟩
  ·rw [decide_eq_false c2] at hP
   by_cases O : F.Ok
   ·rw [if_pos O, if_neg (fun z => c2 z.2)]
    have hc := fun h A => hC h A false 2 (by rw [if_pos O, if_neg (by simp)])
    have e0 : Ext h h := Ext.refl _
    refine Runs.intro aFunc17 rfl rfl rfl rfl fun rest => ?_;apply gS;refine gR rfl ?_;refine GoR.box rfl rfl rfl rfl rfl rfl fun h0 x0 f0 => ?_;have := e0.1;replace e0 := e0.trans x0;have := f0.1;refine GoR.box rfl rfl rfl rfl rfl rfl fun h1 x1 f1 => ?_;have := e0.1;have := f0.1;replace f0 := f0.ext x1;replace e0 := e0.trans x1;have := f1.1;iterate 2 refine gP ?_
    apply gE;apply gS;refine Go.drawnE plan17_0 ?_;iterate 2 refine gQ rfl rfl (ld26 rfl f0 rfl) rfl ?_
    refine gQ rfl rfl rfl rfl ?_;refine GoE.call rfl rfl (aCF aFunc49 rfl) (hH _ (A.ext e0)) (dD 6 2 (dD 6 1 (dK 6 0 rfl))) ?_ np;rintro v2 h2 ⟨q, x2⟩;cases q;replace f1 := f1.ext x2;replace f0 := f0.ext x2;replace e0 := e0.trans x2;refine ⟨(rck (h2 := h2) rfl (ld26 rfl f0 rfl) recheck_nil), _, rfl, ?_⟩;refine gQ rfl rfl rfl rfl ?_;refine gQ rfl rfl (ld26 rfl f0 rfl) rfl ?_;refine gQ rfl rfl (ld27 rfl f1 rfl) rfl ?_;refine GoE.call rfl rfl (aCF aFunc31 rfl) (hP _ (A.ext e0)) (dD 126 6 (dD 126 5 (dD 126 4 (dK 126 0 rfl)))) ?_ np;rintro v3 h3 ⟨q, x3⟩;cases q;replace f0 := f0.ext x3;replace e0 := e0.trans x3;refine ⟨(rck (h2 := h3) rfl (ld26 rfl f0 rfl) recheck_nil), _, rfl, ?_⟩;refine gQ rfl rfl rfl rfl ?_;refine GoE.call rfl rfl (aCF aFunc48 rfl) (hc _ (A.ext e0)) (dD 511 8 (dD 511 0 rfl)) ?_ np;rintro v4 h4 ⟨q, x4⟩;cases q;replace e0 := e0.trans x4;refine ⟨recheck_nil, _, rfl, ?_⟩;refine gQ rfl rfl rfl rfl ?_;refine GoE.end rfl ?_;iterate 2 apply gS
    refine gR rfl ?_;refine gP ?_;refine gO rfl rfl (kXT rfl rfl) rfl ?_;apply gE;refine gC (b := true) rfl ?_;apply gS;refine gR rfl ?_;iterate 3 refine gP ?_
    apply gE;exact gW Try.func17 rfl rfl ⟨rfl, e0⟩
   ·rw [if_neg O]
    have hc := fun h A => hC h A false 1 (by rw [if_neg O])
    have e0 : Ext h h := Ext.refl _
    refine Runs.intro aFunc17 rfl rfl rfl rfl fun rest => ?_;apply gS;refine gR rfl ?_;refine GoR.box rfl rfl rfl rfl rfl rfl fun h0 x0 f0 => ?_;have := e0.1;replace e0 := e0.trans x0;have := f0.1;refine GoR.box rfl rfl rfl rfl rfl rfl fun h1 x1 f1 => ?_;have := e0.1;have := f0.1;replace f0 := f0.ext x1;replace e0 := e0.trans x1;have := f1.1;iterate 2 refine gP ?_
    apply gE;apply gS;refine Go.drawnE plan17_0 ?_;iterate 2 refine gQ rfl rfl (ld26 rfl f0 rfl) rfl ?_
    refine gQ rfl rfl rfl rfl ?_;refine GoE.call rfl rfl (aCF aFunc49 rfl) (hH _ (A.ext e0)) (dD 6 2 (dD 6 1 (dK 6 0 rfl))) ?_ np;rintro v2 h2 ⟨q, x2⟩;cases q;replace f1 := f1.ext x2;replace f0 := f0.ext x2;replace e0 := e0.trans x2;refine ⟨(rck (h2 := h2) rfl (ld26 rfl f0 rfl) recheck_nil), _, rfl, ?_⟩;refine gQ rfl rfl rfl rfl ?_;refine gQ rfl rfl (ld26 rfl f0 rfl) rfl ?_;refine gQ rfl rfl (ld27 rfl f1 rfl) rfl ?_;refine GoE.call rfl rfl (aCF aFunc31 rfl) (hP _ (A.ext e0)) (dD 126 6 (dD 126 5 (dD 126 4 (dK 126 0 rfl)))) ?_ np;rintro v3 h3 ⟨q, x3⟩;cases q;replace f0 := f0.ext x3;replace e0 := e0.trans x3;refine ⟨(rck (h2 := h3) rfl (ld26 rfl f0 rfl) recheck_nil), _, rfl, ?_⟩;refine gQ rfl rfl rfl rfl ?_;refine GoE.call rfl rfl (aCF aFunc48 rfl) (hc _ (A.ext e0)) (dD 511 8 (dD 511 0 rfl)) ?_ np;rintro v4 h4 ⟨q, x4⟩;cases q;replace e0 := e0.trans x4;refine ⟨recheck_nil, _, rfl, ?_⟩;refine gQ rfl rfl rfl rfl ?_;refine GoE.end rfl ?_;iterate 2 apply gS
    refine gR rfl ?_;refine gP ?_;refine gO rfl rfl (kXT rfl rfl) rfl ?_;apply gE;refine gC (b := true) rfl ?_;apply gS;refine gR rfl ?_;iterate 3 refine gP ?_
    apply gE;exact gW Try.func17 rfl rfl ⟨rfl, e0⟩
 ·rw [decide_eq_false c1] at hH
  by_cases O : F.Ok
  ·rw [if_pos O, if_neg (fun z => c1 z.1)]
   have hc := fun h A => hC h A false 2 (by rw [if_pos O, if_neg (by simp)])
   have e0 : Ext h h := Ext.refl _
   refine Runs.intro aFunc17 rfl rfl rfl rfl fun rest => ?_;apply gS;refine gR rfl ?_;refine GoR.box rfl rfl rfl rfl rfl rfl fun h0 x0 f0 => ?_;have := e0.1;replace e0 := e0.trans x0;have := f0.1;refine GoR.box rfl rfl rfl rfl rfl rfl fun h1 x1 f1 => ?_;have := e0.1;have := f0.1;replace f0 := f0.ext x1;replace e0 := e0.trans x1;have := f1.1;iterate 2 refine gP ?_
   apply gE;apply gS;refine Go.drawnE plan17_0 ?_;iterate 2 refine gQ rfl rfl (ld26 rfl f0 rfl) rfl ?_
   refine gQ rfl rfl rfl rfl ?_;refine GoE.call rfl rfl (aCF aFunc49 rfl) (hH _ (A.ext e0)) (dD 6 2 (dD 6 1 (dK 6 0 rfl))) ?_ np;rintro v2 h2 ⟨q, x2⟩;cases q;replace f0 := f0.ext x2;replace e0 := e0.trans x2;refine ⟨(rck (h2 := h2) rfl (ld26 rfl f0 rfl) recheck_nil), _, rfl, ?_⟩;refine gQ rfl rfl rfl rfl ?_;iterate 3 refine GoE.skip rfl rfl rfl ?_
   refine gQ rfl rfl rfl rfl ?_;refine GoE.call rfl rfl (aCF aFunc48 rfl) (hc _ (A.ext e0)) (dD 511 8 (dD 511 4 (dD 511 0 rfl))) ?_ np;rintro v3 h3 ⟨q, x3⟩;cases q;replace e0 := e0.trans x3;refine ⟨recheck_nil, _, rfl, ?_⟩;refine gQ rfl rfl rfl rfl ?_;refine GoE.end rfl ?_;iterate 2 apply gS
   refine gR rfl ?_;refine gP ?_;refine gO rfl rfl (kXT rfl rfl) rfl ?_;apply gE;refine gC (b := true) rfl ?_;apply gS;refine gR rfl ?_;iterate 3 refine gP ?_
   apply gE;exact gW Try.func17 rfl rfl ⟨rfl, e0⟩
  ·rw [if_neg O]
   have hc := fun h A => hC h A false 1 (by rw [if_neg O])
   have e0 : Ext h h := Ext.refl _
   refine Runs.intro aFunc17 rfl rfl rfl rfl fun rest => ?_;apply gS;refine gR rfl ?_;refine GoR.box rfl rfl rfl rfl rfl rfl fun h0 x0 f0 => ?_;have := e0.1;replace e0 := e0.trans x0;have := f0.1;refine GoR.box rfl rfl rfl rfl rfl rfl fun h1 x1 f1 => ?_;have := e0.1;have := f0.1;replace f0 := f0.ext x1;replace e0 := e0.trans x1;have := f1.1;iterate 2 refine gP ?_
   apply gE;apply gS;refine Go.drawnE plan17_0 ?_;iterate 2 refine gQ rfl rfl (ld26 rfl f0 rfl) rfl ?_
   refine gQ rfl rfl rfl rfl ?_;refine GoE.call rfl rfl (aCF aFunc49 rfl) (hH _ (A.ext e0)) (dD 6 2 (dD 6 1 (dK 6 0 rfl))) ?_ np;rintro v2 h2 ⟨q, x2⟩;cases q;replace f0 := f0.ext x2;replace e0 := e0.trans x2;refine ⟨(rck (h2 := h2) rfl (ld26 rfl f0 rfl) recheck_nil), _, rfl, ?_⟩;refine gQ rfl rfl rfl rfl ?_;iterate 3 refine GoE.skip rfl rfl rfl ?_
   refine gQ rfl rfl rfl rfl ?_;refine GoE.call rfl rfl (aCF aFunc48 rfl) (hc _ (A.ext e0)) (dD 511 8 (dD 511 4 (dD 511 0 rfl))) ?_ np;rintro v3 h3 ⟨q, x3⟩;cases q;replace e0 := e0.trans x3;refine ⟨recheck_nil, _, rfl, ?_⟩;refine gQ rfl rfl rfl rfl ?_;refine GoE.end rfl ?_;iterate 2 apply gS
   refine gR rfl ?_;refine gP ?_;refine gO rfl rfl (kXT rfl rfl) rfl ?_;apply gE;refine gC (b := true) rfl ?_;apply gS;refine gR rfl ?_;iterate 3 refine gP ?_
   apply gE;exact gW Try.func17 rfl rfl ⟨rfl, e0⟩
theorem Wet15_ok {F : FootV} {rsl hsl : AVal} {h : AH} (A : FootAt h F rsl hsl) (hb1 : F.rs.length ≤ 40) (hb2 : F.hs.length ≤ 40) (i : Int) (p : Pl) (d : Int) :
  Runs Try.prog 15 [.agg (F.cells rsl hsl), .int .i64 i, .agg p.cells, .int .i64 d] h (fun en h' => en = .ret (.tuple [.agg (spC (F.wetR i p d).1), .int .i64 (F.wetR i p d).2]) ∧ Ext h h') := by
 have s1 := same_cells F A
 have s4 := same_plan p
 unfold FootV.cells at s1
 have hH := fun h A => Heap49_ok (F := F) (h := h) (rsl := rsl) (hsl := hsl) A hb2 i
 have hP := fun h A => Plan_ok (F := F) (h := h) (rsl := rsl) (hsl := hsl) (p := p) A hb1
 have hD := fun h A => Day50_ok (F := F) (h := h) (rsl := rsl) (hsl := hsl) A hb1 d
 have hC := fun h A b r hr => check48_ok (F := F) (h := h) (rsl := rsl) (hsl := hsl) A hb1 hb2 b (r := r) hr
 have hB := fun O h A i' hi d' hd => best51_ok (F := F) O (h := h) (rsl := rsl) (hsl := hsl) A (i := i') hi (p := p) (d := d') hd
 have hW := fun O h A i' hi d' hd => worst52_ok (F := F) O (h := h) (rsl := rsl) (hsl := hsl) A (i := i') hi (p := p) (d := d') hd
 unfold FootV.wetR
 unfold FootV.cells at hH hC hD
 unfold FootV.cells Pl.cells at hP hB hW
 unfold FootV.cells Pl.cells
 by_cases c1 : 0 ≤ i ∧ i ≤ (F.hs.length : Int) - 1
 ·rw [decide_eq_true c1] at hH
  by_cases c2 : p.Ord F.rs.length
  ·rw [decide_eq_true c2] at hP
   by_cases c3 : 0 ≤ d ∧ d ≤ (F.rs.length : Int)
   ·rw [decide_eq_true c3] at hD
    by_cases O : F.Ok
    ·rw [if_pos O, if_pos ⟨c1, c2, c3⟩]
     obtain ⟨i', rfl⟩ := Int.eq_ofNat_of_zero_le c1.1
     obtain ⟨d', rfl⟩ := Int.eq_ofNat_of_zero_le c3.1
     rw [Int.toNat_natCast, Int.toNat_natCast]
     have hB2 := fun h A => hB O h A i' (by omega) d' (by omega)
     have hW2 := fun h A => hW O h A i' (by omega) d' (by omega)
     obtain ⟨x, hx⟩ : ∃ x, F.w false i' p d' = x := ⟨_, rfl⟩
     obtain ⟨y, hy⟩ : ∃ x, F.w true i' p d' = x := ⟨_, rfl⟩
     rw [hx] at hB2;rw [hy] at hW2;rw [hx, hy]
     have hc := fun h A => hC h A true 0 (by rw [if_pos O, if_pos rfl])
     have e0 : Ext h h := Ext.refl _
     refine Runs.intro aFunc15 rfl rfl rfl rfl fun rest => ?_;apply gS;refine gR rfl ?_;refine GoR.box rfl rfl rfl rfl rfl rfl fun h0 x0 f0 => ?_;have := e0.1;replace e0 := e0.trans x0;have := f0.1;refine GoR.box rfl rfl rfl rfl rfl rfl fun h1 x1 f1 => ?_;have := e0.1;have := f0.1;replace f0 := f0.ext x1;replace e0 := e0.trans x1;have := f1.1;refine GoR.alloc rfl rfl rfl zt31 rfl rfl fun h2 x2 f2 => ?_;have := e0.1;have := f1.1;have := f0.1;replace f1 := f1.ext x2;replace f0 := f0.ext x2;replace e0 := e0.trans x2;have := f2.1;refine gP ?_;apply gE;apply gS;refine Go.drawnE plan15_0 ?_;iterate 2 refine gQ rfl rfl (ld26 rfl f0 rfl) rfl ?_
     refine gQ rfl rfl rfl rfl ?_;refine GoE.call rfl rfl (aCF aFunc49 rfl) (hH _ (A.ext e0)) (dD 6 2 (dD 6 1 (dK 6 0 rfl))) ?_ np;rintro v3 h3 ⟨q, x3⟩;cases q;replace f2 := f2.ext x3;replace f1 := f1.ext x3;replace f0 := f0.ext x3;replace e0 := e0.trans x3;refine ⟨(rck (h2 := h3) rfl (ld26 rfl f0 rfl) recheck_nil), _, rfl, ?_⟩;refine gQ rfl rfl rfl rfl ?_;refine gQ rfl rfl (ld26 rfl f0 rfl) rfl ?_;refine gQ rfl rfl (ld27 rfl f1 rfl) rfl ?_;refine GoE.call rfl rfl (aCF aFunc31 rfl) (hP _ (A.ext e0)) (dD 126 6 (dD 126 5 (dD 126 4 (dK 126 0 rfl)))) ?_ np;rintro v4 h4 ⟨q, x4⟩;cases q;replace f2 := f2.ext x4;replace f1 := f1.ext x4;replace f0 := f0.ext x4;replace e0 := e0.trans x4;refine ⟨(rck (h2 := h4) rfl (ld26 rfl f0 rfl) recheck_nil), _, rfl, ?_⟩;iterate 2 refine gQ rfl rfl rfl rfl ?_
     refine gQ rfl rfl (ld26 rfl f0 rfl) rfl ?_;refine gQ rfl rfl rfl rfl ?_;refine GoE.call rfl rfl (aCF aFunc50 rfl) (hD _ (A.ext e0)) (dD 4094 11 (dD 4094 10 (dD 4094 9 (dD 4094 8 (dK 4094 0 rfl))))) ?_ np;rintro v5 h5 ⟨q, x5⟩;cases q;replace f2 := f2.ext x5;replace f1 := f1.ext x5;replace f0 := f0.ext x5;replace e0 := e0.trans x5;refine ⟨(rck (h2 := h5) rfl (ld26 rfl f0 rfl) recheck_nil), _, rfl, ?_⟩;refine gQ rfl rfl rfl rfl ?_;refine GoE.call rfl rfl (aCF aFunc48 rfl) (hc _ (A.ext e0)) (dD 16383 13 (dD 16383 0 rfl)) ?_ np;rintro v6 h6 ⟨q, x6⟩;cases q;replace f2 := f2.ext x6;replace f1 := f1.ext x6;replace f0 := f0.ext x6;replace e0 := e0.trans x6;refine ⟨recheck_nil, _, rfl, ?_⟩;refine gQ rfl rfl rfl rfl ?_;refine GoE.end rfl ?_;iterate 2 apply gS
     refine gR rfl ?_;refine gP ?_;refine gO rfl rfl (kXF rfl rfl) rfl ?_;apply gE;refine gC (b := false) rfl ?_;refine gD ?_;apply gS;refine Go.drawnE plan15_1 ?_;refine gQ rfl rfl (ld26 rfl f0 rfl) rfl ?_;refine gQ rfl rfl rfl rfl ?_;refine gQ rfl rfl (ld27 rfl f1 rfl) rfl ?_;refine gQ rfl rfl rfl rfl ?_;refine gQ rfl rfl (ld26 rfl f0 rfl) rfl ?_;refine gQ rfl rfl rfl rfl ?_;refine gQ rfl rfl (ld27 rfl f1 rfl) rfl ?_;refine gQ rfl rfl rfl rfl ?_;refine GoE.call rfl rfl (aCF aFunc51 rfl) (hB2 _ (A.ext e0)) (dK 15 8 (dK 15 7 (dK 15 6 (dK 15 5 (dD 15 3 (dD 15 2 (dD 15 1 (dD 15 0 rfl)))))))) ?_ np;rintro v7 h7 ⟨q, x7⟩;cases q;replace f2 := f2.ext x7;replace f1 := f1.ext x7;replace f0 := f0.ext x7;replace e0 := e0.trans x7;refine ⟨(rck (h2 := h7) rfl (rfl) (rck (h2 := h7) rfl (ld27 rfl f1 rfl) (rck (h2 := h7) rfl (rfl) (rck (h2 := h7) rfl (ld26 rfl f0 rfl) recheck_nil)))), _, rfl, ?_⟩;refine GoE.call rfl rfl (aCF aFunc52 rfl) (hW2 _ (A.ext e0)) (dD 511 8 (dD 511 7 (dD 511 6 (dD 511 5 rfl)))) ?_ np;rintro v8 h8 ⟨q, x8⟩;cases q;replace f2 := f2.ext x8;replace e0 := e0.trans x8;refine ⟨recheck_nil, _, rfl, ?_⟩;refine gQ rfl rfl (aOp_build zt31 hu31 pl31 rfl rfl) rfl ?_;refine GoE.store rfl rfl rfl rfl (dD 2047 10 rfl) rfl rfl f2 rfl sz31 rfl rfl rfl fun h9 u9 => ?_;replace f2 := u9.has f2;replace e0 := e0.upd u9 (by omega);refine ⟨recheck_nil, ?_⟩;refine gQ rfl rfl rfl rfl ?_;refine GoE.end rfl ?_;exact gV (ret_end (aResult_of Try.func15 rfl (aResults_c rfl f2 (inCells_agg ag31 sz31 rfl) rfl)) ⟨rfl, e0⟩)
    ·rw [if_neg O]
     have hc := fun h A => hC h A true 1 (by rw [if_neg O])
     have e0 : Ext h h := Ext.refl _
     refine Runs.intro aFunc15 rfl rfl rfl rfl fun rest => ?_;apply gS;refine gR rfl ?_;refine GoR.box rfl rfl rfl rfl rfl rfl fun h0 x0 f0 => ?_;have := e0.1;replace e0 := e0.trans x0;have := f0.1;refine GoR.box rfl rfl rfl rfl rfl rfl fun h1 x1 f1 => ?_;have := e0.1;have := f0.1;replace f0 := f0.ext x1;replace e0 := e0.trans x1;have := f1.1;refine GoR.alloc rfl rfl rfl zt31 rfl rfl fun h2 x2 f2 => ?_;have := e0.1;have := f1.1;have := f0.1;replace f1 := f1.ext x2;replace f0 := f0.ext x2;replace e0 := e0.trans x2;have := f2.1;refine gP ?_;apply gE;apply gS;refine Go.drawnE plan15_0 ?_;iterate 2 refine gQ rfl rfl (ld26 rfl f0 rfl) rfl ?_
     refine gQ rfl rfl rfl rfl ?_;refine GoE.call rfl rfl (aCF aFunc49 rfl) (hH _ (A.ext e0)) (dD 6 2 (dD 6 1 (dK 6 0 rfl))) ?_ np;rintro v3 h3 ⟨q, x3⟩;cases q;replace f2 := f2.ext x3;replace f1 := f1.ext x3;replace f0 := f0.ext x3;replace e0 := e0.trans x3;refine ⟨(rck (h2 := h3) rfl (ld26 rfl f0 rfl) recheck_nil), _, rfl, ?_⟩;refine gQ rfl rfl rfl rfl ?_;refine gQ rfl rfl (ld26 rfl f0 rfl) rfl ?_;refine gQ rfl rfl (ld27 rfl f1 rfl) rfl ?_;refine GoE.call rfl rfl (aCF aFunc31 rfl) (hP _ (A.ext e0)) (dD 126 6 (dD 126 5 (dD 126 4 (dK 126 0 rfl)))) ?_ np;rintro v4 h4 ⟨q, x4⟩;cases q;replace f2 := f2.ext x4;replace f0 := f0.ext x4;replace e0 := e0.trans x4;refine ⟨(rck (h2 := h4) rfl (ld26 rfl f0 rfl) recheck_nil), _, rfl, ?_⟩;iterate 2 refine gQ rfl rfl rfl rfl ?_
     refine gQ rfl rfl (ld26 rfl f0 rfl) rfl ?_;refine gQ rfl rfl rfl rfl ?_;refine GoE.call rfl rfl (aCF aFunc50 rfl) (hD _ (A.ext e0)) (dD 4094 11 (dD 4094 10 (dD 4094 9 (dD 4094 8 (dK 4094 0 rfl))))) ?_ np;rintro v5 h5 ⟨q, x5⟩;cases q;replace f2 := f2.ext x5;replace f0 := f0.ext x5;replace e0 := e0.trans x5;refine ⟨(rck (h2 := h5) rfl (ld26 rfl f0 rfl) recheck_nil), _, rfl, ?_⟩;refine gQ rfl rfl rfl rfl ?_;refine GoE.call rfl rfl (aCF aFunc48 rfl) (hc _ (A.ext e0)) (dD 16383 13 (dD 16383 0 rfl)) ?_ np;rintro v6 h6 ⟨q, x6⟩;cases q;replace f2 := f2.ext x6;replace e0 := e0.trans x6;refine ⟨recheck_nil, _, rfl, ?_⟩;refine gQ rfl rfl rfl rfl ?_;refine GoE.end rfl ?_;iterate 2 apply gS
     refine gR rfl ?_;refine gP ?_;refine gO rfl rfl (kXT rfl rfl) rfl ?_;apply gE;refine gC (b := true) rfl ?_;apply gS;refine gR rfl ?_;refine gO rfl rfl (aOp_build zt31 hu31 pl31 rfl rfl) rfl ?_;refine gP ?_;refine GoR.store rfl rfl rfl rfl rfl rfl f2 rfl sz31 rfl rfl rfl fun h7 u7 => ?_;replace f2 := u7.has f2;replace e0 := e0.upd u7 (by omega);refine gP ?_;apply gE;exact gV (ret_end (aResult_of Try.func15 rfl (aResults_c rfl f2 (inCells_agg ag31 sz31 rfl) rfl)) ⟨rfl, e0⟩)
   ·rw [decide_eq_false c3] at hD
    by_cases O : F.Ok
    ·rw [if_pos O, if_neg (fun z => c3 z.2.2)]
     have hc := fun h A => hC h A false 2 (by rw [if_pos O, if_neg (by simp)])
     have e0 : Ext h h := Ext.refl _
     refine Runs.intro aFunc15 rfl rfl rfl rfl fun rest => ?_;apply gS;refine gR rfl ?_;refine GoR.box rfl rfl rfl rfl rfl rfl fun h0 x0 f0 => ?_;have := e0.1;replace e0 := e0.trans x0;have := f0.1;refine GoR.box rfl rfl rfl rfl rfl rfl fun h1 x1 f1 => ?_;have := e0.1;have := f0.1;replace f0 := f0.ext x1;replace e0 := e0.trans x1;have := f1.1;refine GoR.alloc rfl rfl rfl zt31 rfl rfl fun h2 x2 f2 => ?_;have := e0.1;have := f1.1;have := f0.1;replace f1 := f1.ext x2;replace f0 := f0.ext x2;replace e0 := e0.trans x2;have := f2.1;refine gP ?_;apply gE;apply gS;refine Go.drawnE plan15_0 ?_;iterate 2 refine gQ rfl rfl (ld26 rfl f0 rfl) rfl ?_
     refine gQ rfl rfl rfl rfl ?_;refine GoE.call rfl rfl (aCF aFunc49 rfl) (hH _ (A.ext e0)) (dD 6 2 (dD 6 1 (dK 6 0 rfl))) ?_ np;rintro v3 h3 ⟨q, x3⟩;cases q;replace f2 := f2.ext x3;replace f1 := f1.ext x3;replace f0 := f0.ext x3;replace e0 := e0.trans x3;refine ⟨(rck (h2 := h3) rfl (ld26 rfl f0 rfl) recheck_nil), _, rfl, ?_⟩;refine gQ rfl rfl rfl rfl ?_;refine gQ rfl rfl (ld26 rfl f0 rfl) rfl ?_;refine gQ rfl rfl (ld27 rfl f1 rfl) rfl ?_;refine GoE.call rfl rfl (aCF aFunc31 rfl) (hP _ (A.ext e0)) (dD 126 6 (dD 126 5 (dD 126 4 (dK 126 0 rfl)))) ?_ np;rintro v4 h4 ⟨q, x4⟩;cases q;replace f2 := f2.ext x4;replace f0 := f0.ext x4;replace e0 := e0.trans x4;refine ⟨(rck (h2 := h4) rfl (ld26 rfl f0 rfl) recheck_nil), _, rfl, ?_⟩;iterate 2 refine gQ rfl rfl rfl rfl ?_
     refine gQ rfl rfl (ld26 rfl f0 rfl) rfl ?_;refine gQ rfl rfl rfl rfl ?_;refine GoE.call rfl rfl (aCF aFunc50 rfl) (hD _ (A.ext e0)) (dD 4094 11 (dD 4094 10 (dD 4094 9 (dD 4094 8 (dK 4094 0 rfl))))) ?_ np;rintro v5 h5 ⟨q, x5⟩;cases q;replace f2 := f2.ext x5;replace f0 := f0.ext x5;replace e0 := e0.trans x5;refine ⟨(rck (h2 := h5) rfl (ld26 rfl f0 rfl) recheck_nil), _, rfl, ?_⟩;refine gQ rfl rfl rfl rfl ?_;refine GoE.call rfl rfl (aCF aFunc48 rfl) (hc _ (A.ext e0)) (dD 16383 13 (dD 16383 0 rfl)) ?_ np;rintro v6 h6 ⟨q, x6⟩;cases q;replace f2 := f2.ext x6;replace e0 := e0.trans x6;refine ⟨recheck_nil, _, rfl, ?_⟩;refine gQ rfl rfl rfl rfl ?_;refine GoE.end rfl ?_;iterate 2 apply gS
     refine gR rfl ?_;refine gP ?_;refine gO rfl rfl (kXT rfl rfl) rfl ?_;apply gE;refine gC (b := true) rfl ?_;apply gS;refine gR rfl ?_;refine gO rfl rfl (aOp_build zt31 hu31 pl31 rfl rfl) rfl ?_;refine gP ?_;refine GoR.store rfl rfl rfl rfl rfl rfl f2 rfl sz31 rfl rfl rfl fun h7 u7 => ?_;replace f2 := u7.has f2;replace e0 := e0.upd u7 (by omega);refine gP ?_;apply gE;exact gV (ret_end (aResult_of Try.func15 rfl (aResults_c rfl f2 (inCells_agg ag31 sz31 rfl) rfl)) ⟨rfl, e0⟩)
    ·rw [if_neg O]
     have hc := fun h A => hC h A false 1 (by rw [if_neg O])
     have e0 : Ext h h := Ext.refl _
     refine Runs.intro aFunc15 rfl rfl rfl rfl fun rest => ?_;apply gS;refine gR rfl ?_;refine GoR.box rfl rfl rfl rfl rfl rfl fun h0 x0 f0 => ?_;have := e0.1;replace e0 := e0.trans x0;have := f0.1;refine GoR.box rfl rfl rfl rfl rfl rfl fun h1 x1 f1 => ?_;have := e0.1;have := f0.1;replace f0 := f0.ext x1;replace e0 := e0.trans x1;have := f1.1;refine GoR.alloc rfl rfl rfl zt31 rfl rfl fun h2 x2 f2 => ?_;have := e0.1;have := f1.1;have := f0.1;replace f1 := f1.ext x2;replace f0 := f0.ext x2;replace e0 := e0.trans x2;have := f2.1;refine gP ?_;apply gE;apply gS;refine Go.drawnE plan15_0 ?_;iterate 2 refine gQ rfl rfl (ld26 rfl f0 rfl) rfl ?_
     refine gQ rfl rfl rfl rfl ?_;refine GoE.call rfl rfl (aCF aFunc49 rfl) (hH _ (A.ext e0)) (dD 6 2 (dD 6 1 (dK 6 0 rfl))) ?_ np;rintro v3 h3 ⟨q, x3⟩;cases q;replace f2 := f2.ext x3;replace f1 := f1.ext x3;replace f0 := f0.ext x3;replace e0 := e0.trans x3;refine ⟨(rck (h2 := h3) rfl (ld26 rfl f0 rfl) recheck_nil), _, rfl, ?_⟩;refine gQ rfl rfl rfl rfl ?_;refine gQ rfl rfl (ld26 rfl f0 rfl) rfl ?_;refine gQ rfl rfl (ld27 rfl f1 rfl) rfl ?_;refine GoE.call rfl rfl (aCF aFunc31 rfl) (hP _ (A.ext e0)) (dD 126 6 (dD 126 5 (dD 126 4 (dK 126 0 rfl)))) ?_ np;rintro v4 h4 ⟨q, x4⟩;cases q;replace f2 := f2.ext x4;replace f0 := f0.ext x4;replace e0 := e0.trans x4;refine ⟨(rck (h2 := h4) rfl (ld26 rfl f0 rfl) recheck_nil), _, rfl, ?_⟩;iterate 2 refine gQ rfl rfl rfl rfl ?_
     refine gQ rfl rfl (ld26 rfl f0 rfl) rfl ?_;refine gQ rfl rfl rfl rfl ?_;refine GoE.call rfl rfl (aCF aFunc50 rfl) (hD _ (A.ext e0)) (dD 4094 11 (dD 4094 10 (dD 4094 9 (dD 4094 8 (dK 4094 0 rfl))))) ?_ np;rintro v5 h5 ⟨q, x5⟩;cases q;replace f2 := f2.ext x5;replace f0 := f0.ext x5;replace e0 := e0.trans x5;refine ⟨(rck (h2 := h5) rfl (ld26 rfl f0 rfl) recheck_nil), _, rfl, ?_⟩;refine gQ rfl rfl rfl rfl ?_;refine GoE.call rfl rfl (aCF aFunc48 rfl) (hc _ (A.ext e0)) (dD 16383 13 (dD 16383 0 rfl)) ?_ np;rintro v6 h6 ⟨q, x6⟩;cases q;replace f2 := f2.ext x6;replace e0 := e0.trans x6;refine ⟨recheck_nil, _, rfl, ?_⟩;refine gQ rfl rfl rfl rfl ?_;refine GoE.end rfl ?_;iterate 2 apply gS
     refine gR rfl ?_;refine gP ?_;refine gO rfl rfl (kXT rfl rfl) rfl ?_;apply gE;refine gC (b := true) rfl ?_;apply gS;refine gR rfl ?_;refine gO rfl rfl (aOp_build zt31 hu31 pl31 rfl rfl) rfl ?_;refine gP ?_;refine GoR.store rfl rfl rfl rfl rfl rfl f2 rfl sz31 rfl rfl rfl fun h7 u7 => ?_;replace f2 := u7.has f2;replace e0 := e0.upd u7 (by omega);refine gP ?_;apply gE;exact gV (ret_end (aResult_of Try.func15 rfl (aResults_c rfl f2 (inCells_agg ag31 sz31 rfl) rfl)) ⟨rfl, e0⟩)
  ·rw [decide_eq_false c2] at hP
   by_cases O : F.Ok
   ·rw [if_pos O, if_neg (fun z => c2 z.2.1)]
    have hc := fun h A => hC h A false 2 (by rw [if_pos O, if_neg (by simp)])
    have e0 : Ext h h := Ext.refl _
    refine Runs.intro aFunc15 rfl rfl rfl rfl fun rest => ?_;apply gS;refine gR rfl ?_;refine GoR.box rfl rfl rfl rfl rfl rfl fun h0 x0 f0 => ?_;have := e0.1;replace e0 := e0.trans x0;have := f0.1;refine GoR.box rfl rfl rfl rfl rfl rfl fun h1 x1 f1 => ?_;have := e0.1;have := f0.1;replace f0 := f0.ext x1;replace e0 := e0.trans x1;have := f1.1;refine GoR.alloc rfl rfl rfl zt31 rfl rfl fun h2 x2 f2 => ?_;have := e0.1;have := f1.1;have := f0.1;replace f1 := f1.ext x2;replace f0 := f0.ext x2;replace e0 := e0.trans x2;have := f2.1;refine gP ?_;apply gE;apply gS;refine Go.drawnE plan15_0 ?_;iterate 2 refine gQ rfl rfl (ld26 rfl f0 rfl) rfl ?_
    refine gQ rfl rfl rfl rfl ?_;refine GoE.call rfl rfl (aCF aFunc49 rfl) (hH _ (A.ext e0)) (dD 6 2 (dD 6 1 (dK 6 0 rfl))) ?_ np;rintro v3 h3 ⟨q, x3⟩;cases q;replace f2 := f2.ext x3;replace f1 := f1.ext x3;replace f0 := f0.ext x3;replace e0 := e0.trans x3;refine ⟨(rck (h2 := h3) rfl (ld26 rfl f0 rfl) recheck_nil), _, rfl, ?_⟩;refine gQ rfl rfl rfl rfl ?_;refine gQ rfl rfl (ld26 rfl f0 rfl) rfl ?_;refine gQ rfl rfl (ld27 rfl f1 rfl) rfl ?_;refine GoE.call rfl rfl (aCF aFunc31 rfl) (hP _ (A.ext e0)) (dD 126 6 (dD 126 5 (dD 126 4 (dK 126 0 rfl)))) ?_ np;rintro v4 h4 ⟨q, x4⟩;cases q;replace f2 := f2.ext x4;replace f0 := f0.ext x4;replace e0 := e0.trans x4;refine ⟨(rck (h2 := h4) rfl (ld26 rfl f0 rfl) recheck_nil), _, rfl, ?_⟩;iterate 2 refine gQ rfl rfl rfl rfl ?_
    iterate 3 refine GoE.skip rfl rfl rfl ?_
    refine gQ rfl rfl rfl rfl ?_;refine GoE.call rfl rfl (aCF aFunc48 rfl) (hc _ (A.ext e0)) (dD 16383 13 (dD 16383 9 (dD 16383 8 (dD 16383 0 rfl)))) ?_ np;rintro v5 h5 ⟨q, x5⟩;cases q;replace f2 := f2.ext x5;replace e0 := e0.trans x5;refine ⟨recheck_nil, _, rfl, ?_⟩;refine gQ rfl rfl rfl rfl ?_;refine GoE.end rfl ?_;iterate 2 apply gS
    refine gR rfl ?_;refine gP ?_;refine gO rfl rfl (kXT rfl rfl) rfl ?_;apply gE;refine gC (b := true) rfl ?_;apply gS;refine gR rfl ?_;refine gO rfl rfl (aOp_build zt31 hu31 pl31 rfl rfl) rfl ?_;refine gP ?_;refine GoR.store rfl rfl rfl rfl rfl rfl f2 rfl sz31 rfl rfl rfl fun h6 u6 => ?_;replace f2 := u6.has f2;replace e0 := e0.upd u6 (by omega);refine gP ?_;apply gE;exact gV (ret_end (aResult_of Try.func15 rfl (aResults_c rfl f2 (inCells_agg ag31 sz31 rfl) rfl)) ⟨rfl, e0⟩)
   ·rw [if_neg O]
    have hc := fun h A => hC h A false 1 (by rw [if_neg O])
    have e0 : Ext h h := Ext.refl _
    refine Runs.intro aFunc15 rfl rfl rfl rfl fun rest => ?_;apply gS;refine gR rfl ?_;refine GoR.box rfl rfl rfl rfl rfl rfl fun h0 x0 f0 => ?_;have := e0.1;replace e0 := e0.trans x0;have := f0.1;refine GoR.box rfl rfl rfl rfl rfl rfl fun h1 x1 f1 => ?_;have := e0.1;have := f0.1;replace f0 := f0.ext x1;replace e0 := e0.trans x1;have := f1.1;refine GoR.alloc rfl rfl rfl zt31 rfl rfl fun h2 x2 f2 => ?_;have := e0.1;have := f1.1;have := f0.1;replace f1 := f1.ext x2;replace f0 := f0.ext x2;replace e0 := e0.trans x2;have := f2.1;refine gP ?_;apply gE;apply gS;refine Go.drawnE plan15_0 ?_;iterate 2 refine gQ rfl rfl (ld26 rfl f0 rfl) rfl ?_
    refine gQ rfl rfl rfl rfl ?_;refine GoE.call rfl rfl (aCF aFunc49 rfl) (hH _ (A.ext e0)) (dD 6 2 (dD 6 1 (dK 6 0 rfl))) ?_ np;rintro v3 h3 ⟨q, x3⟩;cases q;replace f2 := f2.ext x3;replace f1 := f1.ext x3;replace f0 := f0.ext x3;replace e0 := e0.trans x3;refine ⟨(rck (h2 := h3) rfl (ld26 rfl f0 rfl) recheck_nil), _, rfl, ?_⟩;refine gQ rfl rfl rfl rfl ?_;refine gQ rfl rfl (ld26 rfl f0 rfl) rfl ?_;refine gQ rfl rfl (ld27 rfl f1 rfl) rfl ?_;refine GoE.call rfl rfl (aCF aFunc31 rfl) (hP _ (A.ext e0)) (dD 126 6 (dD 126 5 (dD 126 4 (dK 126 0 rfl)))) ?_ np;rintro v4 h4 ⟨q, x4⟩;cases q;replace f2 := f2.ext x4;replace f0 := f0.ext x4;replace e0 := e0.trans x4;refine ⟨(rck (h2 := h4) rfl (ld26 rfl f0 rfl) recheck_nil), _, rfl, ?_⟩;iterate 2 refine gQ rfl rfl rfl rfl ?_
    iterate 3 refine GoE.skip rfl rfl rfl ?_
    refine gQ rfl rfl rfl rfl ?_;refine GoE.call rfl rfl (aCF aFunc48 rfl) (hc _ (A.ext e0)) (dD 16383 13 (dD 16383 9 (dD 16383 8 (dD 16383 0 rfl)))) ?_ np;rintro v5 h5 ⟨q, x5⟩;cases q;replace f2 := f2.ext x5;replace e0 := e0.trans x5;refine ⟨recheck_nil, _, rfl, ?_⟩;refine gQ rfl rfl rfl rfl ?_;refine GoE.end rfl ?_;iterate 2 apply gS
    refine gR rfl ?_;refine gP ?_;refine gO rfl rfl (kXT rfl rfl) rfl ?_;apply gE;refine gC (b := true) rfl ?_;apply gS;refine gR rfl ?_;refine gO rfl rfl (aOp_build zt31 hu31 pl31 rfl rfl) rfl ?_;refine gP ?_;refine GoR.store rfl rfl rfl rfl rfl rfl f2 rfl sz31 rfl rfl rfl fun h6 u6 => ?_;replace f2 := u6.has f2;replace e0 := e0.upd u6 (by omega);refine gP ?_;apply gE;exact gV (ret_end (aResult_of Try.func15 rfl (aResults_c rfl f2 (inCells_agg ag31 sz31 rfl) rfl)) ⟨rfl, e0⟩)
 ·rw [decide_eq_false c1] at hH
  by_cases O : F.Ok
  ·rw [if_pos O, if_neg (fun z => c1 z.1)]
   have hc := fun h A => hC h A false 2 (by rw [if_pos O, if_neg (by simp)])
   have e0 : Ext h h := Ext.refl _
   refine Runs.intro aFunc15 rfl rfl rfl rfl fun rest => ?_;apply gS;refine gR rfl ?_;refine GoR.box rfl rfl rfl rfl rfl rfl fun h0 x0 f0 => ?_;have := e0.1;replace e0 := e0.trans x0;have := f0.1;refine GoR.box rfl rfl rfl rfl rfl rfl fun h1 x1 f1 => ?_;have := e0.1;have := f0.1;replace f0 := f0.ext x1;replace e0 := e0.trans x1;have := f1.1;refine GoR.alloc rfl rfl rfl zt31 rfl rfl fun h2 x2 f2 => ?_;have := e0.1;have := f1.1;have := f0.1;replace f0 := f0.ext x2;replace e0 := e0.trans x2;have := f2.1;refine gP ?_;apply gE;apply gS;refine Go.drawnE plan15_0 ?_;iterate 2 refine gQ rfl rfl (ld26 rfl f0 rfl) rfl ?_
   refine gQ rfl rfl rfl rfl ?_;refine GoE.call rfl rfl (aCF aFunc49 rfl) (hH _ (A.ext e0)) (dD 6 2 (dD 6 1 (dK 6 0 rfl))) ?_ np;rintro v3 h3 ⟨q, x3⟩;cases q;replace f2 := f2.ext x3;replace f0 := f0.ext x3;replace e0 := e0.trans x3;refine ⟨(rck (h2 := h3) rfl (ld26 rfl f0 rfl) recheck_nil), _, rfl, ?_⟩;refine gQ rfl rfl rfl rfl ?_;iterate 3 refine GoE.skip rfl rfl rfl ?_
   iterate 2 refine gQ rfl rfl rfl rfl ?_
   iterate 3 refine GoE.skip rfl rfl rfl ?_
   refine gQ rfl rfl rfl rfl ?_;refine GoE.call rfl rfl (aCF aFunc48 rfl) (hc _ (A.ext e0)) (dD 16383 13 (dD 16383 9 (dD 16383 8 (dD 16383 4 (dD 16383 0 rfl))))) ?_ np;rintro v4 h4 ⟨q, x4⟩;cases q;replace f2 := f2.ext x4;replace e0 := e0.trans x4;refine ⟨recheck_nil, _, rfl, ?_⟩;refine gQ rfl rfl rfl rfl ?_;refine GoE.end rfl ?_;iterate 2 apply gS
   refine gR rfl ?_;refine gP ?_;refine gO rfl rfl (kXT rfl rfl) rfl ?_;apply gE;refine gC (b := true) rfl ?_;apply gS;refine gR rfl ?_;refine gO rfl rfl (aOp_build zt31 hu31 pl31 rfl rfl) rfl ?_;refine gP ?_;refine GoR.store rfl rfl rfl rfl rfl rfl f2 rfl sz31 rfl rfl rfl fun h5 u5 => ?_;replace f2 := u5.has f2;replace e0 := e0.upd u5 (by omega);refine gP ?_;apply gE;exact gV (ret_end (aResult_of Try.func15 rfl (aResults_c rfl f2 (inCells_agg ag31 sz31 rfl) rfl)) ⟨rfl, e0⟩)
  ·rw [if_neg O]
   have hc := fun h A => hC h A false 1 (by rw [if_neg O])
   have e0 : Ext h h := Ext.refl _
   refine Runs.intro aFunc15 rfl rfl rfl rfl fun rest => ?_;apply gS;refine gR rfl ?_;refine GoR.box rfl rfl rfl rfl rfl rfl fun h0 x0 f0 => ?_;have := e0.1;replace e0 := e0.trans x0;have := f0.1;refine GoR.box rfl rfl rfl rfl rfl rfl fun h1 x1 f1 => ?_;have := e0.1;have := f0.1;replace f0 := f0.ext x1;replace e0 := e0.trans x1;have := f1.1;refine GoR.alloc rfl rfl rfl zt31 rfl rfl fun h2 x2 f2 => ?_;have := e0.1;have := f1.1;have := f0.1;replace f0 := f0.ext x2;replace e0 := e0.trans x2;have := f2.1;refine gP ?_;apply gE;apply gS;refine Go.drawnE plan15_0 ?_;iterate 2 refine gQ rfl rfl (ld26 rfl f0 rfl) rfl ?_
   refine gQ rfl rfl rfl rfl ?_;refine GoE.call rfl rfl (aCF aFunc49 rfl) (hH _ (A.ext e0)) (dD 6 2 (dD 6 1 (dK 6 0 rfl))) ?_ np;rintro v3 h3 ⟨q, x3⟩;cases q;replace f2 := f2.ext x3;replace f0 := f0.ext x3;replace e0 := e0.trans x3;refine ⟨(rck (h2 := h3) rfl (ld26 rfl f0 rfl) recheck_nil), _, rfl, ?_⟩;refine gQ rfl rfl rfl rfl ?_;iterate 3 refine GoE.skip rfl rfl rfl ?_
   iterate 2 refine gQ rfl rfl rfl rfl ?_
   iterate 3 refine GoE.skip rfl rfl rfl ?_
   refine gQ rfl rfl rfl rfl ?_;refine GoE.call rfl rfl (aCF aFunc48 rfl) (hc _ (A.ext e0)) (dD 16383 13 (dD 16383 9 (dD 16383 8 (dD 16383 4 (dD 16383 0 rfl))))) ?_ np;rintro v4 h4 ⟨q, x4⟩;cases q;replace f2 := f2.ext x4;replace e0 := e0.trans x4;refine ⟨recheck_nil, _, rfl, ?_⟩;refine gQ rfl rfl rfl rfl ?_;refine GoE.end rfl ?_;iterate 2 apply gS
   refine gR rfl ?_;refine gP ?_;refine gO rfl rfl (kXT rfl rfl) rfl ?_;apply gE;refine gC (b := true) rfl ?_;apply gS;refine gR rfl ?_;refine gO rfl rfl (aOp_build zt31 hu31 pl31 rfl rfl) rfl ?_;refine gP ?_;refine GoR.store rfl rfl rfl rfl rfl rfl f2 rfl sz31 rfl rfl rfl fun h5 u5 => ?_;replace f2 := u5.has f2;replace e0 := e0.upd u5 (by omega);refine gP ?_;apply gE;exact gV (ret_end (aResult_of Try.func15 rfl (aResults_c rfl f2 (inCells_agg ag31 sz31 rfl) rfl)) ⟨rfl, e0⟩)
end Go.Proofs.Ytmimdgjehnhnoaa

namespace Go.Proofs.Ytmimdgjehnhnoaa
open Go Go.AbsE
set_option linter.unusedSimpArgs false
set_option maxRecDepth 100000
set_option maxHeartbeats 0
set_option linter.unusedVariables false
theorem itC_next {a b k : Nat} : itC a b (k + 1) = itC a b k ++ [⟨(a : Nat), (b : Nat), ((b + 1 + k : Nat) : Int)⟩] := by
 unfold itC
 rw [List.range_succ, List.map_append]
 rfl
theorem itB_next {n a j : Nat} : itB n a (j + 1) = itB n a j ++ itC a (a + 1 + j) (n - (a + 1 + j + 1)) := by
 unfold itB
 rw [List.range_succ, List.flatMap_append]
 simp
theorem itA_next {n a : Nat} : itA n (a + 1) = itA n a ++ itB n a (n - (a + 1)) := by
 unfold itA
 rw [List.range_succ, List.flatMap_append]
 simp
theorem itC_n {a b k : Nat} : (itC a b k).length = k := by unfold itC; rw [List.length_map, List.length_range]
theorem itB_len {n a : Nat} (hn : n ≤ 40) : ∀ j, (itB n a j).length ≤ 40 * j
 | 0 => Nat.le_refl _
 | j + 1 => by
  have ih := itB_len (n := n) (a := a) hn j
  rw [itB_next, List.length_append, itC_n]
  omega
theorem itA_len {n : Nat} (hn : n ≤ 40) : ∀ a, (itA n a).length ≤ 1600 * a
 | 0 => Nat.le_refl _
 | a + 1 => by
  have ih := itA_len hn a
  have := itB_len (n := n) (a := a) hn (n - (a + 1))
  rw [itA_next, List.length_append]
  omega
theorem whole64_ok {F : FootV} {rsl hsl : AVal} {h : AH} (A : FootAt h F rsl hsl) (hb1 : F.rs.length ≤ 40) :
  Runs Try.prog 64 [.agg (F.cells rsl hsl)] h (fun en h' => ∃ s, en = .ret s ∧ Ext h h' ∧ Grow h' 27 3 h.next s (wholeL F.rs.length).length ((wholeL F.rs.length).flatMap Pl.cells)) := by
 have hl1 := A.rs.len
 rw [List.length_map] at hl1
 obtain ⟨n, hn⟩ : ∃ n, F.rs.length = n := ⟨_, rfl⟩
 rw [hn] at hl1 hb1 ⊢
 unfold FootV.cells
 have e0 : Ext h h := Ext.refl _
 refine Runs.intro aFunc64 rfl rfl rfl rfl fun rest => ?_;apply gS;refine gR rfl ?_;refine GoR.box rfl rfl rfl rfl rfl rfl fun h0 x0 f0 => ?_;have := e0.1;replace e0 := e0.trans x0;have := f0.1;refine gP ?_;apply gE;apply gS;refine gR rfl ?_;refine gP ?_;apply gE;iterate 2 apply gS
 refine gR rfl ?_;refine gP ?_;apply gE;refine Go.block noJ_ok ?_
 refine Go.loopKeep (fun a : Nat × AVal × List Pl => [(1, .ptr h.next 0), (3, a.2.1), (4, .int .i64 (a.1 : Nat))])
  (fun m a h' => m + a.1 = n ∧ Ext h h' ∧ Has h' h.next (.cells .plain [rsl, .int .i64 F.men, .int .i64 F.l0, .int .i64 F.l1, .int .i64 F.l2, .int .i64 F.d0, .int .i64 F.d1, .int .i64 F.d2, hsl] 26) ∧ h0.next ≤ h'.next ∧ a.2.2 = itA n a.1 ∧ Grow h' 27 3 h0.next a.2.1 a.2.2.length (a.2.2.flatMap Pl.cells))
  (n := n) (0, .nilslice, []) ⟨rfl, rfl, rfl, trivial⟩ ⟨rfl, e0, f0, Nat.le_refl _, rfl, Grow.nil _ _ _ _⟩ ?_
 have m0 := f0.1
 clear e0 f0;rintro m ⟨a, sa, L⟩ h10 ⟨hm, e0, f0, hle, hL, G⟩ again
 dsimp only at hm hL G ⊢
 by_cases ha : a < n
 ·have n0 := f0.1
  iterate 2 apply gS
  refine gR rfl ?_;refine gP ?_;refine gO rfl rfl (fa26_0 rfl) rfl ?_;refine gO rfl rfl (ld22 rfl f0 rfl) rfl ?_;refine gO rfl rfl (aOp_lenSlice Try.underlying22 rfl hl1) rfl ?_;refine gO rfl rfl (kLT rfl rfl) rfl ?_;apply gE;refine gC (b := true) rfl ?_;refine gD ?_;apply gS;refine Go.block noJ_ok ?_;apply gS;refine gR rfl ?_;refine gP ?_;refine gO rfl rfl (aA rfl rfl) rfl ?_;refine gP ?_;apply gE;refine Go.block noJ_ok ?_
  refine Go.loopKeep (fun b : Nat × AVal × List Pl => [(1, .ptr h.next 0), (3, b.2.1), (4, .int .i64 (a : Nat)), (5, .int .i64 (a + 1 + b.1 : Nat))])
   (fun m b h' => m + (a + 1 + b.1) = n ∧ Ext h h' ∧ Has h' h.next (.cells .plain [rsl, .int .i64 F.men, .int .i64 F.l0, .int .i64 F.l1, .int .i64 F.l2, .int .i64 F.d0, .int .i64 F.d1, .int .i64 F.d2, hsl] 26) ∧ h0.next ≤ h'.next ∧ b.2.2 = itA n a ++ itB n a b.1 ∧ Grow h' 27 3 h0.next b.2.1 b.2.2.length (b.2.2.flatMap Pl.cells))
   (n := n - (a + 1)) (0, sa, L) ⟨rfl, rfl, rfl, rfl, trivial⟩ ⟨by dsimp only; omega, e0, f0, by omega, by dsimp only; rw [hL]; exact (List.append_nil _).symm, G⟩ ?_
  clear e0 f0 hL G;rintro mb ⟨j, sb, Lb⟩ h20 ⟨hmb, e0, f0, hleb, hL, G⟩ againb
  dsimp only at hmb hL G ⊢
  have n1 := f0.1
  obtain ⟨b, hb⟩ : ∃ b, a + 1 + j = b := ⟨_, rfl⟩
  rw [hb] at hmb ⊢
  by_cases hbn : b < n
  ·iterate 2 apply gS
   refine gR rfl ?_;refine gP ?_;refine gO rfl rfl (fa26_0 rfl) rfl ?_;refine gO rfl rfl (ld22 rfl f0 rfl) rfl ?_;refine gO rfl rfl (aOp_lenSlice Try.underlying22 rfl hl1) rfl ?_;refine gO rfl rfl (kLT rfl rfl) rfl ?_;apply gE;refine gC (b := true) rfl ?_;refine gD ?_;apply gS;refine Go.block noJ_ok ?_;apply gS;refine gR rfl ?_;refine gP ?_;refine gO rfl rfl (aA rfl rfl) rfl ?_;refine gP ?_;apply gE;refine Go.block noJ_ok ?_
   refine Go.loopKeep (fun c : Nat × AVal × List Pl => [(1, .ptr h.next 0), (3, c.2.1), (4, .int .i64 (a : Nat)), (5, .int .i64 (b : Nat)), (6, .int .i64 (b + 1 + c.1 : Nat))])
    (fun m c h' => m + (b + 1 + c.1) = n ∧ Ext h h' ∧ Has h' h.next (.cells .plain [rsl, .int .i64 F.men, .int .i64 F.l0, .int .i64 F.l1, .int .i64 F.l2, .int .i64 F.d0, .int .i64 F.d1, .int .i64 F.d2, hsl] 26) ∧ h0.next ≤ h'.next ∧ c.2.2 = itA n a ++ itB n a j ++ itC a b c.1 ∧ Grow h' 27 3 h0.next c.2.1 c.2.2.length (c.2.2.flatMap Pl.cells))
    (n := n - (b + 1)) (0, sb, Lb) ⟨rfl, rfl, rfl, rfl, rfl, trivial⟩ ⟨by dsimp only; omega, e0, f0, by omega, by dsimp only; rw [hL]; exact (List.append_nil _).symm, G⟩ ?_
   clear e0 f0 hL G;rintro mc ⟨k, sc, Lc⟩ h30 ⟨hmc, e0, f0, hlec, hL, G⟩ againc
   dsimp only at hmc hL G ⊢
   have n2 := f0.1
   obtain ⟨c, hc⟩ : ∃ c, b + 1 + k = c := ⟨_, rfl⟩
   rw [hc] at hmc ⊢
   by_cases hcn : c < n
   ·iterate 2 apply gS
    refine gR rfl ?_;refine gP ?_;refine gO rfl rfl (fa26_0 rfl) rfl ?_;refine gO rfl rfl (ld22 rfl f0 rfl) rfl ?_;refine gO rfl rfl (aOp_lenSlice Try.underlying22 rfl hl1) rfl ?_;refine gO rfl rfl (kLT rfl rfl) rfl ?_;apply gE;refine gC (b := true) rfl ?_;refine gD ?_;apply gS;refine Go.block noJ_ok ?_;refine gR rfl ?_;iterate 4 refine gP ?_
    refine gO rfl rfl (aOp_buildArr zt27 Try.underlying27 sz3 rfl rfl) rfl ?_;refine GoR.buildSl rfl rfl (ps := [(0, .agg [.int .i64 (a : Nat), .int .i64 (b : Nat), .int .i64 (c : Nat)])]) (cs := [.int .i64 (a : Nat), .int .i64 (b : Nat), .int .i64 (c : Nat)]) Try.underlying40 rfl sz27 zt27 rfl rfl rfl rfl fun h31 x31 f31 => ?_;have := e0.1;have := f0.1;replace f0 := f0.ext x31;replace e0 := e0.trans x31;have := f31.1
    have hLl : Lc.length < 100000 := by
     have q1 := itA_len hb1 a
     have q2 := itB_len (a := a) hb1 j
     rw [hL, List.length_append, List.length_append, itC_n]
     omega
    have G' := G.ext x31
    have m6 := x31.1
    refine GoR.append1F (lo := h0.next) (s := sc) rfl rfl rfl Try.underlying40 Try.underlying40 sz27 by27 zt27 rfl rfl rfl rfl f31 rfl rfl G' (by omega) rfl rfl fun s6 h59 y59 g59 => ?_
    have z0 : Ext h h59 := y59.low e0 (fun b q => by have := (grow_own G' q).1; omega)
    have z2 := f0.extF y59 (fun q => by have := (grow_own G' q).1; omega)
    have m7 := y59.1
    have g61 := g59.low (lo' := h0.next) (by omega)
    clear e0 f0 f31
    have e0 := z0
    refine gP ?_;apply gE;refine Go.inBlock noJ_ok ?_;refine gR rfl ?_;refine gP ?_;refine gO rfl rfl (aA rfl rfl) rfl ?_;refine gP ?_;apply gE;refine againc (mc - 1) (k + 1, s6, Lc ++ [⟨(a : Nat), (b : Nat), (c : Nat)⟩]) _ _ (by omega) ⟨rfl, rfl, rfl, rfl, congrArg (fun z : Int => some (AVal.int .i64 z)) (by dsimp only; omega), trivial⟩ ⟨by dsimp only; omega, z0, z2, by omega, by dsimp only; rw [hL, itC_next, hc, List.append_assoc (itA n a ++ itB n a j)], ?_⟩
    dsimp only
    rw [List.flatMap_append, List.length_append];exact g61
   ·iterate 2 apply gS
    refine gR rfl ?_;refine gP ?_;refine gO rfl rfl (fa26_0 rfl) rfl ?_;refine gO rfl rfl (ld22 rfl f0 rfl) rfl ?_;refine gO rfl rfl (aOp_lenSlice Try.underlying22 rfl hl1) rfl ?_;refine gO rfl rfl (kLF rfl rfl) rfl ?_;apply gE;refine gC (b := false) rfl ?_;refine gD ?_;refine Go.inBlock noJ_ok ?_;refine gR rfl ?_;refine gP ?_;refine gO rfl rfl (aA rfl rfl) rfl ?_;refine gP ?_;apply gE
    have hk : k = n - (a + 1 + j + 1) := by omega
    refine againb (mb - 1) (j + 1, sc, Lc) _ _ (by omega) ⟨rfl, rfl, rfl, congrArg (fun z : Int => some (AVal.int .i64 z)) (by dsimp only; omega), trivial⟩ ⟨by dsimp only; omega, e0, f0, by omega, by dsimp only; rw [hL, itB_next, hk, ← hb, List.append_assoc], G⟩
  ·iterate 2 apply gS
   refine gR rfl ?_;refine gP ?_;refine gO rfl rfl (fa26_0 rfl) rfl ?_;refine gO rfl rfl (ld22 rfl f0 rfl) rfl ?_;refine gO rfl rfl (aOp_lenSlice Try.underlying22 rfl hl1) rfl ?_;refine gO rfl rfl (kLF rfl rfl) rfl ?_;apply gE;refine gC (b := false) rfl ?_;refine gD ?_;refine Go.inBlock noJ_ok ?_;refine gR rfl ?_;refine gP ?_;refine gO rfl rfl (aA rfl rfl) rfl ?_;refine gP ?_;apply gE
   have hj : j = n - (a + 1) := by omega
   refine again (m - 1) (a + 1, sb, Lb) _ _ (by omega) ⟨rfl, rfl, rfl, trivial⟩ ⟨by dsimp only; omega, e0, f0, by omega, by dsimp only; rw [hL, itA_next, hj], G⟩
 ·have han : a = n := by omega
  have G2 : Grow h10 27 3 h.next sa (wholeL n).length ((wholeL n).flatMap Pl.cells) := by
   rw [hL, han] at G;exact G.low (lo' := h.next) (by omega)
  clear G again;iterate 2 apply gS
  refine gR rfl ?_;refine gP ?_;refine gO rfl rfl (fa26_0 rfl) rfl ?_;refine gO rfl rfl (ld22 rfl f0 rfl) rfl ?_;refine gO rfl rfl (aOp_lenSlice Try.underlying22 rfl hl1) rfl ?_;refine gO rfl rfl (kLF rfl rfl) rfl ?_;apply gE;refine gC (b := false) rfl ?_;refine gD ?_;apply gS;refine gR rfl ?_;iterate 2 refine gP ?_
  apply gE;exact gV (ret_end (aResult_of Try.func64 rfl rfl) ⟨_, rfl, e0, G2⟩)
end Go.Proofs.Ytmimdgjehnhnoaa

namespace Go.Proofs.Ytmimdgjehnhnoaa
open Go Go.AbsE
set_option linter.unusedSimpArgs false
set_option maxRecDepth 100000
set_option maxHeartbeats 0
set_option linter.unusedVariables false
theorem take_next {l : List Pl} {k : Nat} {p : Pl} (h : l[k]? = some p) : l.take (k + 1) = l.take k ++ [p] := by
 rw [List.take_add_one, h]
 rfl
theorem can_two {F : FootV} {i : Nat} {p : Pl} : F.can i p = 2 ↔ F.Kept true i p := by
 unfold FootV.can
 by_cases c : F.Kept true i p
 ·rw [if_pos c]; exact ⟨fun _ => c, fun _ => rfl⟩
 ·rw [if_neg c];refine ⟨fun q => ?_, fun q => absurd q c⟩
  split at q <;> omega
def FootV.sureL (F : FootV) (i : Nat) : List Pl := (wholeL F.rs.length).filter fun p => decide (F.Kept true i p)
theorem sure60_ok {F : FootV} (O : F.Ok) {rsl hsl : AVal} {h : AH} (A : FootAt h F rsl hsl) {i : Nat} (hi : i < F.hs.length) :
  Runs Try.prog 60 [.agg (F.cells rsl hsl), .int .i64 (i : Nat)] h (fun en h' => ∃ s, en = .ret s ∧ Ext h h' ∧ SliceOf h' 3 s ((F.sureL i).map Pl.cells) ∧ Ext h' h') := by
 have hnr := O.nr
 have s1 := same_cells F A
 unfold FootV.cells at s1
 obtain ⟨W, hW⟩ : ∃ W, wholeL F.rs.length = W := ⟨_, rfl⟩
 have hWo : ∀ p, p ∈ W → p.Ord F.rs.length := fun p hp => whole_ord (by rw [hW]; exact hp)
 have hWl : W.length < 100000 := by
  have := itA_len (n := F.rs.length) (by omega) F.rs.length
  rw [← hW]
  show (itA _ _).length < _
  omega
 unfold FootV.sureL
 have hw : ∀ h, FootAt h F rsl hsl → Runs Try.prog 64 [.agg (F.cells rsl hsl)] h (fun en h' => ∃ s, en = .ret s ∧ Ext h h' ∧ SliceOf h' 3 s (W.map Pl.cells) ∧ Ext h' h') := fun h A =>
  (whole64_ok A (by omega)).mono fun en h' ⟨s, q, x, G⟩ => ⟨s, q, x, by rw [← hW]; exact Grow.sliceOf (L := (wholeL F.rs.length).map Pl.cells) (cs := (wholeL F.rs.length).flatMap Pl.cells) (by rw [List.length_map]; exact G) (pls_len3 _), Ext.refl _⟩
 have hK := fun h A p hp => kept55_ok O (h := h) (rsl := rsl) (hsl := hsl) A hi (p := p) hp
 rw [hW]
 unfold FootV.cells at hw
 unfold FootV.cells Pl.cells at hK
 unfold FootV.cells
 have e0 : Ext h h := Ext.refl _
 refine Runs.intro aFunc60 rfl rfl rfl rfl fun rest => ?_;apply gS;refine gR rfl ?_;refine GoR.box rfl rfl rfl rfl rfl rfl fun h0 x0 f0 => ?_;have := e0.1;replace e0 := e0.trans x0;have := f0.1;refine gP ?_;apply gE;apply gS;refine gR rfl ?_;refine gO rfl rfl (ld26 rfl f0 rfl) rfl ?_;refine GoR.call rfl rfl (aCF aFunc64 rfl) (hw _ (A.ext e0)) ?_ (by rintro _ _ ⟨sw, q, _, SW, e9⟩; cases q);rintro v1 h1 ⟨sw, q, x1, SW, e9⟩;cases q;refine ⟨_, rfl, ?_⟩;have := e0.1;replace f0 := f0.ext x1;replace e0 := e0.trans x1;refine gP ?_;apply gE;apply gS;refine gR rfl ?_;refine gP ?_;apply gE;iterate 2 apply gS
 refine gR rfl ?_;refine gP ?_;apply gE;refine Go.block noJ_ok ?_
 have hlW := SW.len
 have hsW := SW.same
 rw [List.length_map] at hlW
 refine Go.loopKeep (fun a : Nat × AVal × List Pl => [(1, .int .i64 (i : Nat)), (2, .ptr h.next 0), (5, v1), (6, a.2.1), (7, .int .i64 (a.1 : Nat))])
  (fun m a h' => m + a.1 = W.length ∧ Ext h h' ∧ Ext h1 h' ∧ Has h' h.next (.cells .plain [rsl, .int .i64 F.men, .int .i64 F.l0, .int .i64 F.l1, .int .i64 F.l2, .int .i64 F.d0, .int .i64 F.d1, .int .i64 F.d2, hsl] 26) ∧ a.2.2 = (W.take a.1).filter (fun p => decide (F.Kept true i p)) ∧ a.2.2.length ≤ a.1 ∧ Grow h' 27 3 h1.next a.2.1 a.2.2.length (a.2.2.flatMap Pl.cells))
  (n := W.length) (0, .nilslice, []) ⟨rfl, rfl, rfl, rfl, rfl, trivial⟩ ⟨rfl, e0, e9, f0, rfl, Nat.le_refl _, Grow.nil _ _ _ _⟩ ?_
 have m0 := f0.1
 have m1 := x0.1
 clear e0 e9 f0;rintro m ⟨k, sb, L⟩ h10 ⟨hm, e0, e9, f0, hL, hLk, G⟩ again
 dsimp only at hm hL hLk G ⊢
 have n0 := f0.1
 have n1 := e9.1
 by_cases hk : k < W.length
 ·obtain ⟨p, hp⟩ : ∃ p, W[k]? = some p := ⟨W[k], by simp [hk]⟩
  obtain ⟨b5, o5, r1, r2⟩ := SW.at (i := k) (l := Pl.cells p) (by rw [List.getElem?_map, hp]; rfl)
  rw [List.length_map] at r1
  unfold Pl.cells at r2
  have hpo := hWo p (List.mem_of_getElem? hp)
  have s4 := same_plan p
  have hK2 := fun h A => hK h A p hpo
  obtain ⟨c, hc⟩ : ∃ c, F.can i p = c := ⟨_, rfl⟩
  have hc2 := can_two (F := F) (i := i) (p := p)
  rw [hc] at hK2 hc2
  have hnx : (W.take (k + 1)).filter (fun p => decide (F.Kept true i p)) = L ++ (if c = 2 then [p] else []) := by
   rw [take_next hp, List.filter_append, ← hL]
   congr 1
   by_cases z : c = 2
   ·have z2 := hc2.1 z
    rw [if_pos z]
    simp [List.filter_cons, z2]
   ·have z2 : ¬ F.Kept true i p := fun y => z (hc2.2 y)
    rw [if_neg z]
    simp [List.filter_cons, z2]
  by_cases c1 : c = 2
  ·rw [if_pos c1] at hnx;subst c1;iterate 2 apply gS
   refine gR rfl ?_;iterate 2 refine gP ?_
   refine gO rfl rfl (aOp_lenSlice Try.underlying40 rfl hlW) rfl ?_;refine gO rfl rfl (kLT rfl rfl) rfl ?_;apply gE;refine gC (b := true) rfl ?_;refine gD ?_;apply gS;refine Go.block noJ_ok ?_;apply gS;refine Go.drawnE plan60_0 ?_;refine gQ rfl rfl (ld26 rfl f0 rfl) rfl ?_;iterate 3 refine gQ rfl rfl rfl rfl ?_
   refine gQ rfl rfl (aOp_indexAddr (i := k) Try.underlying40 sz27 rfl r1 rfl (Nat.ble_eq_true_of_le hk)) rfl ?_;refine gQ rfl rfl (aOp_loadE ag27 sz27 rfl (r2.ext e9)) rfl ?_;refine GoE.call rfl rfl (aCF aFunc55 rfl) (hK2 _ (A.ext e0)) (dD 63 5 (dD 63 4 (dD 63 3 (dD 63 2 (dD 63 1 (dD 63 0 rfl)))))) ?_ np;rintro v11 h11 ⟨q, x11⟩;cases q;replace f0 := f0.ext x11;replace e0 := e0.trans x11;replace e9 := e9.trans x11;refine ⟨recheck_nil, _, rfl, ?_⟩;refine gQ rfl rfl (kET rfl rfl) rfl ?_;refine GoE.end rfl ?_;refine gC (b := true) rfl ?_;refine gR rfl ?_;iterate 3 refine gP ?_
   refine gO rfl rfl (aOp_indexAddr (i := k) Try.underlying40 sz27 rfl r1 rfl (Nat.ble_eq_true_of_le hk)) rfl ?_;refine gO rfl rfl (aOp_loadE ag27 sz27 rfl (r2.ext e9)) rfl ?_;refine GoR.buildSl rfl rfl (ps := [(0, .agg [.int .i64 p.a, .int .i64 p.b, .int .i64 p.c])]) (cs := [.int .i64 p.a, .int .i64 p.b, .int .i64 p.c]) Try.underlying40 rfl sz27 zt27 rfl rfl rfl rfl fun h12 x12 f12 => ?_;have := e0.1;have := e9.1;have := f0.1;replace f0 := f0.ext x12;replace e0 := e0.trans x12;replace e9 := e9.trans x12;have := f12.1
   have e10 : Ext h10 h12 := x11.trans x12
   have G' := G.ext e10
   have m6 := e10.1
   refine GoR.append1F (lo := h1.next) (s := sb) rfl rfl rfl Try.underlying40 Try.underlying40 sz27 by27 zt27 rfl rfl rfl rfl f12 rfl rfl G' (by omega) rfl rfl fun s6 h59 y59 g59 => ?_
   have z0 : Ext h h59 := y59.low e0 (fun b q => by have := (grow_own G' q).1; omega)
   have z1 : Ext h1 h59 := y59.low e9 (fun b q => by have := (grow_own G' q).1; omega)
   have z2 := f0.extF y59 (fun q => by have := (grow_own G' q).1; omega)
   have m7 := y59.1
   have g61 := g59.low (lo' := h1.next) (by omega)
   clear e0 e9 e10 f0 f12
   have e0 := z0
   refine gP ?_;apply gE;refine Go.inBlock noJ_ok ?_;refine gR rfl ?_;refine gP ?_;refine gO rfl rfl (aA rfl rfl) rfl ?_;refine gP ?_;apply gE;refine again (m - 1) (k + 1, s6, L ++ [p]) _ _ (by omega) ⟨rfl, rfl, rfl, rfl, rfl, trivial⟩ ⟨by dsimp only; omega, z0, z1, z2, hnx.symm, by dsimp only; rw [List.length_append]; show L.length + 1 ≤ k + 1; omega, ?_⟩
   dsimp only
   rw [List.flatMap_append, List.length_append];exact g61
  ·rw [if_neg c1, List.append_nil] at hnx;iterate 2 apply gS
   refine gR rfl ?_;iterate 2 refine gP ?_
   refine gO rfl rfl (aOp_lenSlice Try.underlying40 rfl hlW) rfl ?_;refine gO rfl rfl (kLT rfl rfl) rfl ?_;apply gE;refine gC (b := true) rfl ?_;refine gD ?_;apply gS;refine Go.block noJ_ok ?_;apply gS;refine Go.drawnE plan60_0 ?_;refine gQ rfl rfl (ld26 rfl f0 rfl) rfl ?_;iterate 3 refine gQ rfl rfl rfl rfl ?_
   refine gQ rfl rfl (aOp_indexAddr (i := k) Try.underlying40 sz27 rfl r1 rfl (Nat.ble_eq_true_of_le hk)) rfl ?_;refine gQ rfl rfl (aOp_loadE ag27 sz27 rfl (r2.ext e9)) rfl ?_;refine GoE.call rfl rfl (aCF aFunc55 rfl) (hK2 _ (A.ext e0)) (dD 63 5 (dD 63 4 (dD 63 3 (dD 63 2 (dD 63 1 (dD 63 0 rfl)))))) ?_ np;rintro v11 h11 ⟨q, x11⟩;cases q;replace f0 := f0.ext x11;replace e0 := e0.trans x11;replace e9 := e9.trans x11;refine ⟨recheck_nil, _, rfl, ?_⟩;refine gQ rfl rfl (kEF rfl rfl) rfl ?_;refine GoE.end rfl ?_;refine gC (b := false) rfl ?_;refine gD ?_;refine Go.inBlock noJ_ok ?_;refine gR rfl ?_;refine gP ?_;refine gO rfl rfl (aA rfl rfl) rfl ?_;refine gP ?_;apply gE;exact again (m - 1) (k + 1, sb, L) _ _ (by omega) ⟨rfl, rfl, rfl, rfl, rfl, trivial⟩ ⟨by dsimp only; omega, e0, e9, f0, hnx.symm, by dsimp only; omega, G.ext x11⟩
 ·have hkn : k = W.length := by omega
  rw [hkn, List.take_length] at hL
  have G2 : SliceOf h10 3 sb (L.map Pl.cells) := Grow.sliceOf (L := L.map Pl.cells) (cs := L.flatMap Pl.cells) (by rw [List.length_map]; exact G) (pls_len3 L)
  rw [hL] at G2;clear G again;iterate 2 apply gS
  refine gR rfl ?_;iterate 2 refine gP ?_
  refine gO rfl rfl (aOp_lenSlice Try.underlying40 rfl hlW) rfl ?_;refine gO rfl rfl (kLF rfl rfl) rfl ?_;apply gE;refine gC (b := false) rfl ?_;refine gD ?_;apply gS;refine gR rfl ?_;iterate 2 refine gP ?_
  apply gE;exact gV (ret_end (aResult_of Try.func60 rfl rfl) ⟨_, rfl, e0, G2, Ext.refl _⟩)
end Go.Proofs.Ytmimdgjehnhnoaa
