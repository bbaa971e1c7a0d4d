import Derived.Test.YtmimdgjehnhnoaaMAQ
import Derived.Test.YtmimdgjehnhnoaaMAH
import Derived.Test.YtmimdgjehnhnoaaMAN
namespace Go.Proofs.Ytmimdgjehnhnoaa
open Go Go.AbsE
set_option linter.unusedSimpArgs false
set_option maxRecDepth 100000
set_option maxHeartbeats 0
set_option linter.unusedVariables false
def FootV.tw (F : FootV) (R : List Int) (x : Int) (p : Pl) : Nat → Int
 | 0 => x
 | d + 1 => if doneV p d ≤ 2 then max 0 (F.tw R x p d + ((R[d]?).getD 0 - F.dr (doneV p d))) else F.tw R x p d
theorem done_step {n : Int} {p : Pl} (hp : p.Ord n) (d : Nat) : doneV p d = doneV p ((d : Int) - 1) + (if (doneV p ((d : Int) - 1) = 0 ∧ p.a = d) ∨ (doneV p ((d : Int) - 1) = 1 ∧ p.b = d) ∨ (doneV p ((d : Int) - 1) = 2 ∧ p.c = d) then 1 else 0) := by
 unfold Pl.Ord at hp
 have key : ∀ x : Int, (if 0 ≤ x ∧ x ≤ (d : Int) then (1 : Int) else 0) = (if 0 ≤ x ∧ x ≤ (d : Int) - 1 then (1 : Int) else 0) + (if x = d then 1 else 0) := by
  intro x
  split <;> split <;> split <;> omega
 unfold doneV
 rw [key p.a, key p.b, key p.c]
 obtain ⟨A, hA⟩ : ∃ A : Int, (if 0 ≤ p.a ∧ p.a ≤ (d : Int) - 1 then (1 : Int) else 0) = A := ⟨_, rfl⟩
 obtain ⟨B, hB⟩ : ∃ A : Int, (if 0 ≤ p.b ∧ p.b ≤ (d : Int) - 1 then (1 : Int) else 0) = A := ⟨_, rfl⟩
 obtain ⟨C, hC⟩ : ∃ A : Int, (if 0 ≤ p.c ∧ p.c ≤ (d : Int) - 1 then (1 : Int) else 0) = A := ⟨_, rfl⟩
 rw [hA, hB, hC]
 have hA' : (A = 1 ∧ 0 ≤ p.a ∧ p.a ≤ (d : Int) - 1) ∨ (A = 0 ∧ ¬ (0 ≤ p.a ∧ p.a ≤ (d : Int) - 1)) := by rw [← hA]; split <;> simp_all
 have hB' : (B = 1 ∧ 0 ≤ p.b ∧ p.b ≤ (d : Int) - 1) ∨ (B = 0 ∧ ¬ (0 ≤ p.b ∧ p.b ≤ (d : Int) - 1)) := by rw [← hB]; split <;> simp_all
 have hC' : (C = 1 ∧ 0 ≤ p.c ∧ p.c ≤ (d : Int) - 1) ∨ (C = 0 ∧ ¬ (0 ≤ p.c ∧ p.c ≤ (d : Int) - 1)) := by rw [← hC]; split <;> simp_all
 clear hA hB hC key
 split <;> split <;> split <;> split <;> omega
theorem tw_in {F : FootV} (O : F.Ok) {R : List Int} (hR : ∀ x, x ∈ R → 0 ≤ x ∧ x ≤ 10) {x : Int} (hx : 0 ≤ x ∧ x ≤ 60) {p : Pl} : ∀ d : Nat, 0 ≤ F.tw R x p d ∧ F.tw R x p d ≤ 60 + 10 * d
 | 0 => by unfold FootV.tw; omega
 | d + 1 => by
  have ih := tw_in O hR hx (p := p) d
  have hd := dr_in O (doneV p d)
  have hr : 0 ≤ (R[d]?).getD 0 ∧ (R[d]?).getD 0 ≤ 10 := by
   cases e : R[d]? with
   | none => simp
   | some y => exact hR y (List.mem_of_getElem? e)
  unfold FootV.tw
  split <;> omega
def ints (l : List Int) : List (List AVal) := l.map fun x => [AVal.int .i64 x]
theorem ints_at {l : List Int} {i : Nat} {x : Int} (h : l[i]? = some x) : (ints l)[i]? = some [.int .i64 x] := by
 unfold ints
 rw [List.getElem?_map, h]
 rfl
theorem ints_len (l : List Int) : (ints l).length = l.length := by unfold ints; rw [List.length_map]
theorem twet_ok {F : FootV} (O : F.Ok) {R fl : List Int} (hR : R.length = F.rs.length) (hRb : ∀ x, x ∈ R → 0 ≤ x ∧ x ≤ 10) {i : Nat} {x : Int} (hx : fl[i]? = some x) (hxb : 0 ≤ x ∧ x ≤ 60) {p : Pl} (hp : p.Ord F.rs.length)
  {rs fs rsl hsl : AVal} {h g : AH} (A : FootAt g F rsl hsl) (hrs : SliceOf h 1 rs (ints R)) (hfs : SliceOf h 1 fs (ints fl)) :
  Runs Try.prog 27 [.agg [rs, fs], .agg (F.cells rsl hsl), .int .i64 i, .agg p.cells] h (fun en h' => ∃ s, en = .ret s ∧ Ext h h' ∧ SliceOf h' 1 s (ints ((List.range (F.rs.length + 1)).map (F.tw R x p))) ∧ sameA s s = true) := by
 have hnr := O.nr
 have hl1 := hrs.len
 have hl2 := hfs.len
 rw [ints_len] at hl1 hl2
 have hil := (List.getElem?_eq_some_iff.1 hx).1
 obtain ⟨bq, off, q1, q2⟩ := hfs.at (ints_at hx)
 rw [ints_len] at q1
 have hsc := foot_scal A F.men
 have hsc2 : scalars [rs, fs] = true := by
  unfold scalars
  rw [scal_one' hrs.scal.1]
  simp only [scalars, scal_one' hfs.scal.1, cond_true]
 unfold FootV.cells Pl.cells
 have e0 : Ext h h := Ext.refl _
 refine Runs.intro aFunc27 rfl rfl rfl rfl fun rest => ?_;apply gS;refine gR rfl ?_;refine GoR.box rfl rfl rfl rfl rfl rfl fun h0 x0 f0 => ?_;have := e0.1;replace e0 := e0.trans x0;have := f0.1;refine GoR.box rfl rfl rfl rfl rfl rfl fun h1 x1 f1 => ?_;have := e0.1;have := f0.1;replace f0 := f0.ext x1;replace e0 := e0.trans x1;have := f1.1;refine GoR.box rfl rfl rfl rfl rfl rfl fun h2 x2 f2 => ?_;have := e0.1;have := f1.1;have := f0.1;replace f1 := f1.ext x2;replace f0 := f0.ext x2;replace e0 := e0.trans x2;have := f2.1;refine gP ?_;apply gE;apply gS;refine gR rfl ?_;refine gO rfl rfl (fa51_1 rfl) rfl ?_;refine gO rfl rfl (ld49 rfl f0 rfl) rfl ?_;refine gP ?_;refine gO rfl rfl (aOp_indexAddr (i := i) Try.underlying49 sz3 rfl q1 rfl (Nat.ble_eq_true_of_le hil)) rfl ?_;refine gO rfl rfl (aOp_loadE1 (k := 0) ag3 rfl (q2.ext e0) rfl) rfl ?_;iterate 2 refine gP ?_
 apply gE;apply gS;refine gR rfl ?_;iterate 2 refine gP ?_
 refine GoR.buildSl rfl rfl (ps := [(0, .int .i64 x)]) (cs := [.int .i64 x]) Try.underlying49 rfl sz3 zt3 rfl rfl rfl rfl fun h3 x3 f3 => ?_;have := e0.1;have := f2.1;have := f1.1;have := f0.1;replace f2 := f2.ext x3;replace f1 := f1.ext x3;replace f0 := f0.ext x3;replace e0 := e0.trans x3;have := f3.1
 have G0 := Grow.nil h3 3 1 h.next
 refine GoR.append1F (lo := h.next) (s := .nilslice) rfl rfl rfl Try.underlying49 Try.underlying49 sz3 by3 zt3 rfl rfl rfl rfl f3 rfl rfl G0 (by omega) rfl rfl fun s6 h59 y59 g59 => ?_
 have z0 : Ext h h59 := y59.low e0 (fun b q => by cases q)
 have z1 : Has h59 h0.next (.cells .plain [rsl, .int .i64 F.men, .int .i64 F.l0, .int .i64 F.l1, .int .i64 F.l2, .int .i64 F.d0, .int .i64 F.d1, .int .i64 F.d2, hsl] 26) := f1.extF y59 (fun q => by cases q)
 have z2 : Has h59 h1.next (.cells .plain [.int .i64 p.a, .int .i64 p.b, .int .i64 p.c] 27) := f2.extF y59 (fun q => by cases q)
 have z3 : Has h59 h.next (.cells .plain [rs, fs] 51) := f0.extF y59 (fun q => by cases q)
 have g60 := g59.low (lo' := h.next) (by have := e0.1; omega)
 have n0 := x0.1
 have n1 := f1.1
 have n2 := f2.1
 clear e0 f0 f1 f2 f3
 have d0 : doneV p (((0 : Nat) : Int) - 1) = 0 := by unfold doneV; rw [if_neg (by omega), if_neg (by omega), if_neg (by omega)]; rfl
 have e0 := z0
 have f0 := z3
 refine gP ?_;apply gE;iterate 2 apply gS
 refine gR rfl ?_;refine gO rfl rfl (fa51_0 rfl) rfl ?_;refine gO rfl rfl (ld49 rfl f0 rfl) rfl ?_;refine gO rfl rfl (aOp_lenSlice Try.underlying49 rfl hl1) rfl ?_;refine gP ?_;apply gE;refine Go.block noJ_ok ?_
 refine Go.loopKeep (fun a : Nat × AVal => [(5, .ptr h0.next 0), (7, .ptr h1.next 0), (8, a.2), (9, .int .i64 (F.tw R x p a.1)), (10, .int .i64 (doneV p ((a.1 : Int) - 1))), (23, rs), (24, .int .i64 R.length), (25, .int .i64 (a.1 : Nat))])
  (fun m a h' => m + a.1 = R.length ∧ Ext h h' ∧ Has h' h0.next (.cells .plain [rsl, .int .i64 F.men, .int .i64 F.l0, .int .i64 F.l1, .int .i64 F.l2, .int .i64 F.d0, .int .i64 F.d1, .int .i64 F.d2, hsl] 26) ∧ Has h' h1.next (.cells .plain [.int .i64 p.a, .int .i64 p.b, .int .i64 p.c] 27) ∧ Grow h' 3 1 h.next a.2 (a.1 + 1) (i64s ((List.range (a.1 + 1)).map (F.tw R x p))) ∧ (∀ b, a.2 = .gsl b 0 0 (a.1 + 1) → b ≠ h0.next ∧ b ≠ h1.next))
  (n := R.length) (0, s6) ⟨rfl, rfl, rfl, rfl, congrArg (fun z : Int => some (AVal.int .i64 z)) d0.symm, rfl, rfl, rfl, trivial⟩ ⟨rfl, e0, z1, z2, g60, fun b q => by have := (grow_own g59 q).1; omega⟩ ?_
 clear e0 f0 z0 z1 z2 z3 g59 g60 G0;rintro m ⟨d, sa⟩ h20 ⟨hm, e0, f1, f2, G, hb⟩ again
 dsimp only at hm G hb ⊢
 have hn9 := e0.1
 by_cases hd : d < R.length
 ·obtain ⟨r, hr⟩ : ∃ r, R[d]? = some r := ⟨R[d], by simp [hd]⟩
  have hrb := hRb r (List.mem_of_getElem? hr)
  obtain ⟨br, offr, r1, r2⟩ := hrs.at (ints_at hr)
  rw [ints_len] at r1
  have hst := done_step hp d
  have hdi := doneV_in p ((d : Int) - 1)
  have hdj := doneV_in p d
  have htw := tw_in O hRb hxb (p := p) d
  have hnext : F.tw R x p (d + 1) = if doneV p d ≤ 2 then max 0 (F.tw R x p d + (r - F.dr (doneV p d))) else F.tw R x p d := by
   show (if doneV p d ≤ 2 then max 0 (F.tw R x p d + ((R[d]?).getD 0 - F.dr (doneV p d))) else F.tw R x p d) = _
   rw [hr]
   rfl
  obtain ⟨w, hw⟩ : ∃ w, F.tw R x p d = w := ⟨_, rfl⟩
  obtain ⟨w2, hw2⟩ : ∃ w, F.tw R x p (d + 1) = w := ⟨_, rfl⟩
  obtain ⟨k1, hk1⟩ : ∃ k : Int, doneV p ((d : Int) - 1) = k := ⟨_, rfl⟩
  obtain ⟨k2, hk2⟩ : ∃ k : Int, doneV p d = k := ⟨_, rfl⟩
  rw [hw] at htw hnext;rw [hw2] at hnext;rw [hk1] at hst hdi;rw [hk2] at hst hdj hnext;rw [hw, hk1];apply gS;refine gR rfl ?_;refine gO rfl rfl (kLT rfl rfl) rfl ?_;apply gE;apply gS;refine gC (b := true) rfl ?_;refine gD ?_;apply gS;refine Go.block noJ_ok ?_;apply gS;refine gR rfl ?_;refine gP ?_;refine gO rfl rfl (aOp_indexAddr (i := d) Try.underlying49 sz3 rfl r1 rfl (Nat.ble_eq_true_of_le hd)) rfl ?_;refine gO rfl rfl (aOp_loadE1 (k := 0) ag3 rfl (r2.ext e0) rfl) rfl ?_;iterate 2 refine gP ?_
  apply gE
  have y9 : ExtF (fun _ => False) h20 h20 := .of (Ext.refl _)
  have e9 : Ext h20 h20 := Ext.refl _
  refine Go.seq noJ_ok (Go.join (fun _ : Unit => [(5, .ptr h0.next 0), (7, .ptr h1.next 0), (8, sa), (9, .int .i64 w), (10, .int .i64 k2), (12, .int .i64 r), (23, rs), (24, .int .i64 R.length), (25, .int .i64 (d : Nat))]) (fun _ h' => Ext h h' ∧ Has h' h0.next (.cells .plain [rsl, .int .i64 F.men, .int .i64 F.l0, .int .i64 F.l1, .int .i64 F.l2, .int .i64 F.d0, .int .i64 F.d1, .int .i64 F.d2, hsl] 26) ∧ Has h' h1.next (.cells .plain [.int .i64 p.a, .int .i64 p.b, .int .i64 p.c] 27) ∧ Grow h' 3 1 h.next sa (d + 1) (i64s ((List.range (d + 1)).map (F.tw R x p)))) ?_ ?_)
  ·intro k' done
   have fin : ∀ h', Ext h20 h' → Grow h' 3 1 h.next sa (d + 1) (i64s ((List.range (d + 1)).map (F.tw R x p))) := fun h' e => G.ext e
   have hc : (k1 = 0 ∧ ((p.a = d ∧ k2 = 1) ∨ (p.a ≠ d ∧ k2 = 0))) ∨ (k1 = 1 ∧ ((p.b = d ∧ k2 = 2) ∨ (p.b ≠ d ∧ k2 = 1))) ∨ (k1 = 2 ∧ ((p.c = d ∧ k2 = 3) ∨ (p.c ≠ d ∧ k2 = 2))) ∨ (k1 = 3 ∧ k2 = 3) := by
    split at hst <;> omega
   rcases hc with ⟨rfl, ⟨q, rfl⟩ | ⟨q, rfl⟩⟩ | ⟨rfl, ⟨q, rfl⟩ | ⟨q, rfl⟩⟩ | ⟨rfl, ⟨q, rfl⟩ | ⟨q, rfl⟩⟩ | ⟨rfl, rfl⟩
   ·apply gS;refine gR rfl ?_;refine gP ?_;refine gO rfl rfl (kLT rfl rfl) rfl ?_;iterate 2 refine gP ?_
    refine gO rfl rfl (aOp_indexAddrArr (i := 0) Try.underlying27 sz3 rfl rfl rfl) rfl ?_;refine gO rfl rfl (ld3 rfl f2 rfl) rfl ?_;refine gP ?_;refine gO rfl rfl (kET rfl rfl) rfl ?_;refine gP ?_;apply gE;refine gC (b := true) rfl ?_;refine gR rfl ?_;refine gP ?_;refine gO rfl rfl (aA rfl rfl) rfl ?_;refine gP ?_;apply gE;exact done () _ _ ⟨rfl, rfl, rfl, rfl, rfl, rfl, rfl, rfl, rfl, trivial⟩ ⟨e0, f1, f2, fin _ e9⟩
   ·apply gS;refine gR rfl ?_;refine gP ?_;refine gO rfl rfl (kLT rfl rfl) rfl ?_;iterate 2 refine gP ?_
    refine gO rfl rfl (aOp_indexAddrArr (i := 0) Try.underlying27 sz3 rfl rfl rfl) rfl ?_;refine gO rfl rfl (ld3 rfl f2 rfl) rfl ?_;refine gP ?_;refine gO rfl rfl (kEF rfl rfl) rfl ?_;refine gP ?_;apply gE;refine gC (b := false) rfl ?_;refine gD ?_;exact done () _ _ ⟨rfl, rfl, rfl, rfl, rfl, rfl, rfl, rfl, rfl, trivial⟩ ⟨e0, f1, f2, fin _ e9⟩
   ·apply gS;refine gR rfl ?_;refine gP ?_;refine gO rfl rfl (kLT rfl rfl) rfl ?_;iterate 2 refine gP ?_
    refine gO rfl rfl (aOp_indexAddrArr (i := 1) Try.underlying27 sz3 rfl rfl rfl) rfl ?_;refine gO rfl rfl (ld3 rfl f2 rfl) rfl ?_;refine gP ?_;refine gO rfl rfl (kET rfl rfl) rfl ?_;refine gP ?_;apply gE;refine gC (b := true) rfl ?_;refine gR rfl ?_;refine gP ?_;refine gO rfl rfl (aA rfl rfl) rfl ?_;refine gP ?_;apply gE;exact done () _ _ ⟨rfl, rfl, rfl, rfl, rfl, rfl, rfl, rfl, rfl, trivial⟩ ⟨e0, f1, f2, fin _ e9⟩
   ·apply gS;refine gR rfl ?_;refine gP ?_;refine gO rfl rfl (kLT rfl rfl) rfl ?_;iterate 2 refine gP ?_
    refine gO rfl rfl (aOp_indexAddrArr (i := 1) Try.underlying27 sz3 rfl rfl rfl) rfl ?_;refine gO rfl rfl (ld3 rfl f2 rfl) rfl ?_;refine gP ?_;refine gO rfl rfl (kEF rfl rfl) rfl ?_;refine gP ?_;apply gE;refine gC (b := false) rfl ?_;refine gD ?_;exact done () _ _ ⟨rfl, rfl, rfl, rfl, rfl, rfl, rfl, rfl, rfl, trivial⟩ ⟨e0, f1, f2, fin _ e9⟩
   ·apply gS;refine gR rfl ?_;refine gP ?_;refine gO rfl rfl (kLT rfl rfl) rfl ?_;iterate 2 refine gP ?_
    refine gO rfl rfl (aOp_indexAddrArr (i := 2) Try.underlying27 sz3 rfl rfl rfl) rfl ?_;refine gO rfl rfl (ld3 rfl f2 rfl) rfl ?_;refine gP ?_;refine gO rfl rfl (kET rfl rfl) rfl ?_;refine gP ?_;apply gE;refine gC (b := true) rfl ?_;refine gR rfl ?_;refine gP ?_;refine gO rfl rfl (aA rfl rfl) rfl ?_;refine gP ?_;apply gE;exact done () _ _ ⟨rfl, rfl, rfl, rfl, rfl, rfl, rfl, rfl, rfl, trivial⟩ ⟨e0, f1, f2, fin _ e9⟩
   ·apply gS;refine gR rfl ?_;refine gP ?_;refine gO rfl rfl (kLT rfl rfl) rfl ?_;iterate 2 refine gP ?_
    refine gO rfl rfl (aOp_indexAddrArr (i := 2) Try.underlying27 sz3 rfl rfl rfl) rfl ?_;refine gO rfl rfl (ld3 rfl f2 rfl) rfl ?_;refine gP ?_;refine gO rfl rfl (kEF rfl rfl) rfl ?_;refine gP ?_;apply gE;refine gC (b := false) rfl ?_;refine gD ?_;exact done () _ _ ⟨rfl, rfl, rfl, rfl, rfl, rfl, rfl, rfl, rfl, trivial⟩ ⟨e0, f1, f2, fin _ e9⟩
   ·apply gS;refine gR rfl ?_;refine gP ?_;refine gO rfl rfl (kLF rfl rfl) rfl ?_;refine gP ?_;iterate 5 refine GoR.skip rfl rfl rfl ?_
    refine gP ?_;apply gE;refine gC (b := false) rfl ?_;refine gD ?_;exact done () _ _ ⟨rfl, rfl, rfl, rfl, rfl, rfl, rfl, rfl, rfl, trivial⟩ ⟨e0, f1, f2, fin _ e9⟩
  clear e0 f1 f2 G y9 e9;rintro _ h30 ⟨e0, f1, f2, G⟩
  have hn10 := e0.1
  have hdo := O.d0
  have hd1 := O.d1
  have hd2 := O.d2
  refine Go.seq noJ_ok (Go.join (fun _ : Unit => [(5, .ptr h0.next 0), (7, .ptr h1.next 0), (8, sa), (9, .int .i64 w2), (10, .int .i64 k2), (23, rs), (24, .int .i64 R.length), (25, .int .i64 (d : Nat))]) (fun _ h' => Ext h h' ∧ Has h' h0.next (.cells .plain [rsl, .int .i64 F.men, .int .i64 F.l0, .int .i64 F.l1, .int .i64 F.l2, .int .i64 F.d0, .int .i64 F.d1, .int .i64 F.d2, hsl] 26) ∧ Has h' h1.next (.cells .plain [.int .i64 p.a, .int .i64 p.b, .int .i64 p.c] 27) ∧ Grow h' 3 1 h.next sa (d + 1) (i64s ((List.range (d + 1)).map (F.tw R x p)))) ?_ ?_)
  ·intro k' done
   have fin : ∀ h', Ext h30 h' → Grow h' 3 1 h.next sa (d + 1) (i64s ((List.range (d + 1)).map (F.tw R x p))) := fun h' e => G.ext e
   have e9 : Ext h30 h30 := Ext.refl _
   have hmx : ∀ a b : Int, (if 0 < a then a else 0) = b → some (AVal.int .i64 (if 0 < a then a else 0)) = some (.int .i64 b) := fun a b q => by rw [q]
   have hc : (k2 = 0 ∧ w2 = max 0 (w + (r - F.d0))) ∨ (k2 = 1 ∧ w2 = max 0 (w + (r - F.d1))) ∨ (k2 = 2 ∧ w2 = max 0 (w + (r - F.d2))) ∨ (k2 = 3 ∧ w2 = w) := by
    have : k2 = 0 ∨ k2 = 1 ∨ k2 = 2 ∨ k2 = 3 := by omega
    rcases this with rfl | rfl | rfl | rfl
    ·exact .inl ⟨rfl, hnext⟩
    ·exact .inr (.inl ⟨rfl, hnext⟩)
    ·exact .inr (.inr (.inl ⟨rfl, hnext⟩))
    ·exact .inr (.inr (.inr ⟨rfl, hnext⟩))
   rcases hc with ⟨rfl, q⟩ | ⟨rfl, q⟩ | ⟨rfl, q⟩ | ⟨rfl, q⟩
   ·apply gS;refine gR rfl ?_;refine gP ?_;refine gO rfl rfl (kLT rfl rfl) rfl ?_;apply gE;refine gC (b := true) rfl ?_;refine gR rfl ?_;iterate 2 refine gP ?_
    refine gO rfl rfl (aA rfl rfl) rfl ?_;refine gP ?_;refine gO rfl rfl (fa26_3 rfl) rfl ?_;refine gO rfl rfl (aOp_indexAddrArr (i := 0) Try.underlying23 sz3 rfl rfl rfl) rfl ?_;refine gO rfl rfl (ld3 rfl f1 rfl) rfl ?_;refine gO rfl rfl (aS rfl rfl) rfl ?_;refine gO rfl rfl (aOp_max2 rfl rfl rfl) rfl ?_;refine gP ?_;apply gE;exact done () _ _ ⟨rfl, rfl, rfl, hmx _ _ (by omega), rfl, rfl, rfl, rfl, trivial⟩ ⟨e0, f1, f2, fin _ e9⟩
   ·apply gS;refine gR rfl ?_;refine gP ?_;refine gO rfl rfl (kLT rfl rfl) rfl ?_;apply gE;refine gC (b := true) rfl ?_;refine gR rfl ?_;iterate 2 refine gP ?_
    refine gO rfl rfl (aA rfl rfl) rfl ?_;refine gP ?_;refine gO rfl rfl (fa26_3 rfl) rfl ?_;refine gO rfl rfl (aOp_indexAddrArr (i := 1) Try.underlying23 sz3 rfl rfl rfl) rfl ?_;refine gO rfl rfl (ld3 rfl f1 rfl) rfl ?_;refine gO rfl rfl (aS rfl rfl) rfl ?_;refine gO rfl rfl (aOp_max2 rfl rfl rfl) rfl ?_;refine gP ?_;apply gE;exact done () _ _ ⟨rfl, rfl, rfl, hmx _ _ (by omega), rfl, rfl, rfl, rfl, trivial⟩ ⟨e0, f1, f2, fin _ e9⟩
   ·apply gS;refine gR rfl ?_;refine gP ?_;refine gO rfl rfl (kLT rfl rfl) rfl ?_;apply gE;refine gC (b := true) rfl ?_;refine gR rfl ?_;iterate 2 refine gP ?_
    refine gO rfl rfl (aA rfl rfl) rfl ?_;refine gP ?_;refine gO rfl rfl (fa26_3 rfl) rfl ?_;refine gO rfl rfl (aOp_indexAddrArr (i := 2) Try.underlying23 sz3 rfl rfl rfl) rfl ?_;refine gO rfl rfl (ld3 rfl f1 rfl) rfl ?_;refine gO rfl rfl (aS rfl rfl) rfl ?_;refine gO rfl rfl (aOp_max2 rfl rfl rfl) rfl ?_;refine gP ?_;apply gE;exact done () _ _ ⟨rfl, rfl, rfl, hmx _ _ (by omega), rfl, rfl, rfl, rfl, trivial⟩ ⟨e0, f1, f2, fin _ e9⟩
   ·apply gS;refine gR rfl ?_;refine gP ?_;refine gO rfl rfl (kLF rfl rfl) rfl ?_;apply gE;refine gC (b := false) rfl ?_;refine gD ?_;exact done () _ _ ⟨rfl, rfl, rfl, by rw [q]; rfl, rfl, rfl, rfl, rfl, trivial⟩ ⟨e0, f1, f2, fin _ e9⟩
  clear e0 f1 f2 G;rintro _ h40 ⟨e0, f1, f2, G⟩
  have hn11 := e0.1
  have e7 : Ext h40 h40 := Ext.refl _
  refine gR rfl ?_;iterate 2 refine gP ?_
  refine GoR.buildSl rfl rfl (ps := [(0, .int .i64 w2)]) (cs := [.int .i64 w2]) Try.underlying49 rfl sz3 zt3 rfl rfl rfl rfl fun h60 x60 f60 => ?_;have := e0.1;have := e7.1;have := f1.1;have := f2.1;replace f1 := f1.ext x60;replace f2 := f2.ext x60;replace e0 := e0.trans x60;replace e7 := e7.trans x60;have := f60.1
  have G' := G.ext e7
  refine GoR.append1F (lo := h.next) (s := sa) rfl rfl rfl Try.underlying49 Try.underlying49 sz3 by3 zt3 rfl rfl rfl rfl f60 rfl rfl G' (by omega) rfl rfl fun s6 h59 y59 g59 => ?_
  have z0 : Ext h h59 := y59.low e0 (fun b q => (grow_own G' q).1)
  have z1 := f1.extF y59 (fun q => (hb _ q).1 rfl)
  have z2 := f2.extF y59 (fun q => (hb _ q).2 rfl)
  have g61 := g59.low (lo' := h.next) (by have := e0.1; omega)
  have hlt1 := f1.1
  have hlt2 := f2.1
  clear e0 f1 f2 f60 e7
  have e0 := z0
  have again2 := again (m - 1) (d + 1, s6)
  dsimp only at again2
  refine gP ?_;apply gE;refine Go.inBlock noJ_ok ?_;refine gR rfl ?_;refine gO rfl rfl (aA rfl rfl) rfl ?_;refine gP ?_;apply gE;refine again2 _ _ (by omega) ⟨rfl, rfl, rfl, congrArg (fun z : Int => some (AVal.int .i64 z)) hw2.symm, congrArg (fun z : Int => some (AVal.int .i64 z)) (hk2.symm.trans (congrArg (doneV p) (by omega))), rfl, rfl, rfl, trivial⟩ ⟨by omega, z0, z1, z2, ?_, fun b q => by have := (grow_own g59 q).1; omega⟩;rw [List.range_succ, List.map_append]
  unfold i64s at g61 ⊢
  rw [List.map_append, List.map_cons, List.map_nil, List.map_cons, List.map_nil, hw2];exact g61
 ·have hdR : d + 1 = F.rs.length + 1 := by omega
  rw [hdR] at G
  have hS := nums_sl (by rw [List.length_map, List.length_range]) G
  apply gS;refine gR rfl ?_;refine gO rfl rfl (kLF rfl rfl) rfl ?_;apply gE;apply gS;refine gC (b := false) rfl ?_;refine gD ?_;apply gS;refine gR rfl ?_;iterate 2 refine gP ?_
  apply gE;exact gV (ret_end (aResult_of Try.func27 rfl rfl) ⟨sa, rfl, e0, hS, hS.same⟩)
end Go.Proofs.Ytmimdgjehnhnoaa

namespace Go.Proofs.Ytmimdgjehnhnoaa
open Go Go.AbsE
set_option linter.unusedSimpArgs false
set_option maxRecDepth 100000
set_option maxHeartbeats 0
set_option linter.unusedVariables false
def FootV.TK (F : FootV) (R : List Int) (x : Int) (p : Pl) : Prop := ∀ k, k < 3 → p.at k = -1 ∨ F.tw R x p (p.at k).toNat ≤ F.lm k
instance (F : FootV) (R : List Int) (x : Int) (p : Pl) : Decidable (F.TK R x p) := by unfold FootV.TK; infer_instance
theorem lm_get {F : FootV} {rsl hsl : AVal} {k : Nat} (hk : k < 3) : ([rsl, .int .i64 F.men, .int .i64 F.l0, .int .i64 F.l1, .int .i64 F.l2, .int .i64 F.d0, .int .i64 F.d1, .int .i64 F.d2, hsl] : List AVal)[0 + 2 + k * 1]? = some (.int .i64 (F.lm k)) := by
 match k, hk with
 | 0, _ => rfl
 | 1, _ => rfl
 | 2, _ => rfl
theorem lm_in {F : FootV} (O : F.Ok) (k : Nat) : 0 ≤ F.lm k ∧ F.lm k ≤ 60 := by
 have := O.l0
 have := O.l1
 have := O.l2
 unfold FootV.lm
 split <;> omega
end Go.Proofs.Ytmimdgjehnhnoaa

namespace Go.Proofs.Ytmimdgjehnhnoaa
open Go Go.AbsE
set_option linter.unusedSimpArgs false
set_option maxRecDepth 100000
set_option maxHeartbeats 0
set_option linter.unusedVariables false
theorem grow_scal {h : AH} {el : TypeId} {sz lo : Nat} {s : AVal} {n : Nat} {cs : List AVal} (k : Grow h el sz lo s n cs) : scalars [s] = true ∧ s.cells = [s] := by
 rcases k.2 with ⟨rfl, _⟩ | ⟨_, b, _, rfl, _⟩ <;> exact ⟨rfl, rfl⟩
theorem grow_same {h : AH} {el : TypeId} {sz lo : Nat} {s : AVal} {n : Nat} {cs : List AVal} (k : Grow h el sz lo s n cs) : sameA s s = true := by
 rcases k.2 with ⟨rfl, _⟩ | ⟨_, b, _, rfl, _⟩
 ·rfl
 ·simp [sameA]
theorem pick78_ok {T : Bool} {lo hi : Int} {b : Nat} {h : AH} (f0 : Has h b (.cells .plain [.bool T] 4)) : Runs Try.prog 78 [.agg [.int .i64 lo, .int .i64 hi], .ptr b 0] h (fun en h' => en = .ret (.int .i64 (if T then hi else lo)) ∧ Ext h h') := by
 have lb := f0.1
 cases T with
 | true =>
  have e0 : Ext h h := Ext.refl _
  refine Runs.intro aFunc78 rfl rfl rfl rfl fun rest => ?_;apply gS;refine gR rfl ?_;refine GoR.box rfl rfl rfl rfl rfl rfl fun h1 x1 f1 => ?_;replace f0 := f0.ext x1;replace e0 := e0.trans x1;refine gP ?_;apply gE;iterate 2 apply gS
  refine gR rfl ?_;refine gO rfl rfl (ld4 rfl f0 rfl) rfl ?_;apply gE;refine gC (b := true) rfl ?_;apply gS;refine gR rfl ?_;refine gO rfl rfl (fa31_1 rfl) rfl ?_;refine gO rfl rfl (ld3 rfl f1 rfl) rfl ?_;refine gP ?_;apply gE;exact gW Try.func78 rfl rfl ⟨rfl, e0⟩
 | false =>
  have e0 : Ext h h := Ext.refl _
  refine Runs.intro aFunc78 rfl rfl rfl rfl fun rest => ?_;apply gS;refine gR rfl ?_;refine GoR.box rfl rfl rfl rfl rfl rfl fun h1 x1 f1 => ?_;replace f0 := f0.ext x1;replace e0 := e0.trans x1;refine gP ?_;apply gE;iterate 2 apply gS
  refine gR rfl ?_;refine gO rfl rfl (ld4 rfl f0 rfl) rfl ?_;apply gE;refine gC (b := false) rfl ?_;refine gD ?_;apply gS;refine gR rfl ?_;refine gO rfl rfl (fa31_0 rfl) rfl ?_;refine gO rfl rfl (ld3 rfl f1 rfl) rfl ?_;refine gP ?_;apply gE;exact gW Try.func78 rfl rfl ⟨rfl, e0⟩
theorem ends35_ok {F : FootV} (O : F.Ok) {T : Bool} {rsl hsl : AVal} {h : AH} (A : FootAt h F rsl hsl) :
  Runs Try.prog 35 [.agg (F.cells rsl hsl), .bool T] h (fun en h' => ∃ rs fs, en = .ret (.agg [rs, fs]) ∧ Ext h h' ∧ Grow h' 3 1 h.next rs F.rs.length (i64s (F.rs.map fun r => if T then r.2 else r.1)) ∧ Grow h' 3 1 h.next fs F.hs.length (i64s (F.hs.map fun x => if T then x.hi else x.lo)) ∧ scalars [rs, fs] = true ∧ sameA rs rs = true ∧ sameA fs fs = true) := by
 have hl1 := A.rs.len
 have hl2 := A.hs.len
 rw [List.length_map] at hl1 hl2
 have hnh := O.nh
 have hnr := O.nr
 have hpk := fun lo hi b h f => pick78_ok (T := T) (lo := lo) (hi := hi) (b := b) (h := h) f
 unfold FootV.cells
 have e0 : Ext h h := Ext.refl _
 refine Runs.intro aFunc35 rfl rfl rfl rfl fun rest => ?_;apply gS;refine gR rfl ?_;refine GoR.box rfl rfl rfl rfl rfl rfl fun h0 x0 f0 => ?_;have := e0.1;replace e0 := e0.trans x0;have := f0.1;refine GoR.box rfl rfl rfl rfl rfl rfl fun h1 x1 f1 => ?_;have := e0.1;have := f0.1;replace f0 := f0.ext x1;replace e0 := e0.trans x1;have := f1.1;refine GoR.alloc rfl rfl rfl zt51 rfl rfl fun h2 x2 f2 => ?_;have := e0.1;have := f1.1;have := f0.1;replace f1 := f1.ext x2;replace f0 := f0.ext x2;replace e0 := e0.trans x2;have := f2.1;apply gE;apply gS;refine gR rfl ?_;iterate 2 refine gP ?_
 apply gE;iterate 2 apply gS
 refine gR rfl ?_;refine gO rfl rfl (fa26_0 rfl) rfl ?_;refine gO rfl rfl (ld22 rfl f0 rfl) rfl ?_;refine gO rfl rfl (aOp_lenSlice Try.underlying22 rfl hl1) rfl ?_;refine gP ?_;apply gE;refine Go.block noJ_ok ?_
 have hn0 := f0.1
 have hn1 := f1.1
 have hn2 := f2.1
 have hb1 : h.next < h0.next := by omega
 have hb2 : h0.next < h1.next := by omega
 refine Go.loopKeep (fun a : Nat × AVal => [(2, .ptr h.next 0), (4, .ptr h1.next 0), (5, .func (.func 78) [] [.ptr h0.next 0]), (12, rsl), (13, .int .i64 F.rs.length), (14, .int .i64 (a.1 : Nat))])
  (fun m a h' => m + a.1 = F.rs.length ∧ Ext h h' ∧ h2.next ≤ h'.next ∧ Has h' h.next (.cells .plain [rsl, .int .i64 F.men, .int .i64 F.l0, .int .i64 F.l1, .int .i64 F.l2, .int .i64 F.d0, .int .i64 F.d1, .int .i64 F.d2, hsl] 26) ∧ Has h' h0.next (.cells .plain [.bool T] 4) ∧ Has h' h1.next (.cells .plain [a.2, .nilslice] 51) ∧ Grow h' 3 1 h2.next a.2 a.1 (i64s ((F.rs.take a.1).map fun r => if T then r.2 else r.1)))
  (n := F.rs.length) (0, .nilslice) ⟨rfl, rfl, rfl, rfl, rfl, rfl, trivial⟩ ⟨rfl, e0, Nat.le_refl _, f0, f1, f2, Grow.nil _ _ _ _⟩ ?_
 clear e0 f0 f1 f2;rintro m ⟨i, sa⟩ h20 ⟨hm, e0, hle, f0, f1, f2, G⟩ again
 dsimp only at hm f2 G ⊢
 have hn9 := f0.1
 have hn8 := f1.1
 have hn7 := f2.1
 by_cases hi : i < F.rs.length
 ·obtain ⟨r, hr⟩ : ∃ r, F.rs[i]? = some r := ⟨F.rs[i], by simp [hi]⟩
  obtain ⟨bq, off, q1, q2⟩ := A.rs.at (i := i) (l := spC r) (by rw [List.getElem?_map, hr]; rfl)
  rw [List.length_map] at q1
  obtain ⟨r1, r2⟩ := r
  unfold spC at q2
  dsimp only at q2
  have e5 : Ext h20 h20 := Ext.refl _
  have hsame := grow_same G
  have hst1 : ∀ {h : AH} {lo m : Nat} {z : AVal} {cs : List AVal}, Grow h 3 1 lo z m cs → Nat.beq z.cells.length 1 = true := fun k => by rw [(grow_scal k).2]; rfl
  have hst2 : ∀ {h : AH} {lo m : Nat} {z : AVal} {cs : List AVal}, Grow h 3 1 lo z m cs → scalars z.cells = true := fun k => by rw [(grow_scal k).2]; exact (grow_scal k).1
  have hst3 : ∀ {h : AH} {lo m : Nat} {z : AVal} {cs : List AVal}, Grow h 3 1 lo z m cs → splice [sa, .nilslice] (0 + 0) z.cells = some [z, .nilslice] := fun k => by rw [(grow_scal k).2]; rfl
  obtain ⟨w, hw⟩ : ∃ w : Int, (if T then r2 else r1) = w := ⟨_, rfl⟩
  have hpk2 := fun b h f => hpk r1 r2 b h f
  rw [hw] at hpk2;apply gS;refine gR rfl ?_;refine gO rfl rfl (kLT rfl rfl) rfl ?_;apply gE;apply gS;refine gC (b := true) rfl ?_;refine gD ?_;apply gS;refine Go.block noJ_ok ?_;apply gS;refine gR rfl ?_;refine gO rfl rfl (aOp_indexAddr (i := i) Try.underlying22 sz31 rfl q1 rfl (Nat.ble_eq_true_of_le hi)) rfl ?_;refine gO rfl rfl (aOp_loadE ag31 sz31 rfl (q2.ext e0)) rfl ?_;refine GoR.alloc rfl rfl rfl zt31 rfl rfl fun h21 x21 f21 => ?_;have := e0.1;have := e5.1;have := f0.1;have := f1.1;have := f2.1;replace f0 := f0.ext x21;replace f1 := f1.ext x21;replace f2 := f2.ext x21;replace e0 := e0.trans x21;replace e5 := e5.trans x21;have := f21.1;refine GoR.store rfl rfl rfl rfl rfl rfl f21 rfl sz31 rfl rfl rfl fun h22 u22 => ?_;replace f21 := u22.has f21;replace f0 := f0.upd u22 (by omega);replace f1 := f1.upd u22 (by omega);replace f2 := f2.upd u22 (by omega);replace e0 := e0.upd u22 (by omega);replace e5 := e5.upd u22 (by omega);apply gE;refine Go.drawnE plan35_0 ?_;refine gQ rfl rfl (fa51_0 rfl) rfl ?_;refine gQ rfl rfl (ld49 rfl f2 rfl) rfl ?_;refine gQ rfl rfl rfl rfl ?_;refine gQ rfl rfl (ld31 rfl f21 rfl) rfl ?_;refine GoE.call rfl rfl (aOp_callVal rfl aFunc78 rfl) (hpk2 _ _ (by assumption)) (dD 12 3 (dD 12 2 (dK 12 1 (dK 12 0 rfl)))) ?_ np;rintro v23 h23 ⟨q, x23⟩;cases q;replace f21 := f21.ext x23;replace f0 := f0.ext x23;replace f1 := f1.ext x23;replace f2 := f2.ext x23;replace e0 := e0.trans x23;replace e5 := e5.trans x23;refine ⟨(rck (h2 := h23) rfl (ld49 rfl f2 rfl) (rck (h2 := h23) rfl (fa51_0 rfl) recheck_nil)), _, rfl, ?_⟩;refine GoE.quietX rfl rfl (aOpX_lit (ps := [(0, .int .i64 w)]) (cs := [.int .i64 w]) Try.underlying49 rfl sz3 zt3 rfl rfl rfl) rfl ?_;refine GoE.append1L rfl rfl Try.underlying49 Try.underlying49 sz3 by3 zt3 rfl rfl rfl rfl rfl rfl (G.ext e5) (by omega) (dD 63 5 (dD 63 1 (dD 63 0 rfl))) rfl rfl fun s24 h24 y24 g24 => ?_;replace f21 := f21.extF y24 (fun q => by have := grow_own G q; omega);replace f0 := f0.extF y24 (fun q => by have := grow_own G q; omega);replace f1 := f1.extF y24 (fun q => by have := grow_own G q; omega);replace f2 := f2.extF y24 (fun q => by have := grow_own G q; omega);replace e0 := y24.low e0 (fun b q => by have := grow_own G q; omega);have := y24.1;refine ⟨recheck_nil, ?_⟩;refine gQ rfl rfl (fa51_0 rfl) rfl ?_;refine GoE.store rfl rfl rfl rfl (dD 255 7 rfl) rfl rfl f2 rfl sz49 (hst1 (by assumption)) (hst2 (by assumption)) (hst3 (by assumption)) fun h25 u25 => ?_;replace f0 := f0.upd u25 (by omega);replace f1 := f1.upd u25 (by omega);replace f2 := u25.has f2;replace e0 := e0.upd u25 (by omega);refine ⟨recheck_nil, ?_⟩;refine GoE.end rfl ?_;refine Go.inBlock noJ_ok ?_;refine gR rfl ?_;refine gO rfl rfl (aA rfl rfl) rfl ?_;refine gP ?_;apply gE
  have m1 := e5.1
  have m2 := y24.1
  have m3 := u25.1
  have g26 := grow_extF (S := fun b => b = h1.next) g24 ((ExtF.of (Ext.refl h24)).upd u25 (.inl rfl)) (fun b q => by have : b = h1.next := q; omega)
  have g27 := g26.low (lo' := h2.next) (by omega)
  refine again (m - 1) (i + 1, s24) _ _ (by omega) ⟨rfl, rfl, rfl, rfl, rfl, rfl, trivial⟩ ⟨by dsimp only; omega, e0, by omega, f0, f1, f2, ?_⟩;rw [List.take_add_one, hr, Option.toList_some, List.map_append, List.map_cons, List.map_nil]
  dsimp only
  rw [hw]
  unfold i64s at g27 ⊢
  rw [List.map_append];exact g27
 ·apply gS;refine gR rfl ?_;refine gO rfl rfl (kLF rfl rfl) rfl ?_;apply gE;apply gS;refine gC (b := false) rfl ?_;refine gD ?_;iterate 2 apply gS
  refine gR rfl ?_;refine gO rfl rfl (fa26_4 rfl) rfl ?_;refine gO rfl rfl (ld24 rfl f0 rfl) rfl ?_;refine gO rfl rfl (aOp_lenSlice Try.underlying24 rfl hl2) rfl ?_;refine gP ?_;apply gE;refine Go.block noJ_ok ?_
  have hii : i = F.rs.length := by omega
  subst hii;rw [List.take_length] at G;clear again
  refine Go.loopKeep (fun a : Nat × AVal => [(2, .ptr h.next 0), (4, .ptr h1.next 0), (5, .func (.func 78) [] [.ptr h0.next 0]), (28, hsl), (29, .int .i64 F.hs.length), (30, .int .i64 (a.1 : Nat))])
   (fun m a h' => m + a.1 = F.hs.length ∧ Ext h h' ∧ h20.next ≤ h'.next ∧ Has h' h.next (.cells .plain [rsl, .int .i64 F.men, .int .i64 F.l0, .int .i64 F.l1, .int .i64 F.l2, .int .i64 F.d0, .int .i64 F.d1, .int .i64 F.d2, hsl] 26) ∧ Has h' h0.next (.cells .plain [.bool T] 4) ∧ Has h' h1.next (.cells .plain [sa, a.2] 51) ∧ Grow h' 3 1 h2.next sa F.rs.length (i64s (F.rs.map fun r => if T then r.2 else r.1)) ∧ Grow h' 3 1 h20.next a.2 a.1 (i64s ((F.hs.take a.1).map fun x => if T then x.hi else x.lo)))
   (n := F.hs.length) (0, .nilslice) ⟨rfl, rfl, rfl, rfl, rfl, rfl, trivial⟩ ⟨rfl, e0, Nat.le_refl _, f0, f1, f2, G, Grow.nil _ _ _ _⟩ ?_
  have hown := fun b q => grow_own G (b := b) q
  have hsame := grow_same G
  have hsca := grow_scal G
  clear e0 f0 f1 f2 hm G;rintro m ⟨i, sb⟩ h40 ⟨hm, e0, hle2, f0, f1, f2, G1, G⟩ again
  dsimp only at hm f2 G ⊢
  have hn9 := f0.1
  have hn8 := f1.1
  have hn7 := f2.1
  by_cases hi : i < F.hs.length
  ·obtain ⟨x, hx⟩ : ∃ x, F.hs[i]? = some x := ⟨F.hs[i], by simp [hi]⟩
   obtain ⟨bq, off, q1, q2⟩ := A.hs.at (i := i) (l := HF.cells x) (by rw [List.getElem?_map, hx]; rfl)
   rw [List.length_map] at q1
   unfold HF.cells at q2
   have e5 : Ext h40 h40 := Ext.refl _
   have hsame2 := grow_same G
   have hst1 : ∀ {h : AH} {lo m : Nat} {z : AVal} {cs : List AVal}, Grow h 3 1 lo z m cs → Nat.beq z.cells.length 1 = true := fun k => by rw [(grow_scal k).2]; rfl
   have hst2 : ∀ {h : AH} {lo m : Nat} {z : AVal} {cs : List AVal}, Grow h 3 1 lo z m cs → scalars z.cells = true := fun k => by rw [(grow_scal k).2]; exact (grow_scal k).1
   have hst3 : ∀ {h : AH} {lo m : Nat} {z : AVal} {cs : List AVal}, Grow h 3 1 lo z m cs → splice [sa, sb] (0 + 1) z.cells = some [sa, z] := fun k => by rw [(grow_scal k).2]; rfl
   obtain ⟨w, hw⟩ : ∃ w : Int, (if T then x.hi else x.lo) = w := ⟨_, rfl⟩
   have hpk2 := fun b h f => hpk x.lo x.hi b h f
   rw [hw] at hpk2;apply gS;refine gR rfl ?_;refine gO rfl rfl (kLT rfl rfl) rfl ?_;apply gE;apply gS;refine gC (b := true) rfl ?_;refine gD ?_;apply gS;refine Go.block noJ_ok ?_;apply gS;refine gR rfl ?_;refine gO rfl rfl (aOp_indexAddr (i := i) Try.underlying24 sz72 rfl q1 rfl (Nat.ble_eq_true_of_le hi)) rfl ?_;refine gO rfl rfl (aOp_loadE ag72 sz72 rfl (q2.ext e0)) rfl ?_;refine GoR.alloc rfl rfl rfl zt72 rfl rfl fun h41 x41 f41 => ?_;have := e0.1;have := e5.1;have := f0.1;have := f1.1;have := f2.1;replace f0 := f0.ext x41;replace f1 := f1.ext x41;replace f2 := f2.ext x41;replace e0 := e0.trans x41;replace e5 := e5.trans x41;have := f41.1;refine GoR.store rfl rfl rfl rfl rfl rfl f41 rfl sz72 rfl rfl rfl fun h42 u42 => ?_;replace f41 := u42.has f41;replace f0 := f0.upd u42 (by omega);replace f1 := f1.upd u42 (by omega);replace f2 := f2.upd u42 (by omega);replace e0 := e0.upd u42 (by omega);replace e5 := e5.upd u42 (by omega);apply gE;refine Go.drawnE plan35_1 ?_;refine gQ rfl rfl (fa51_1 rfl) rfl ?_;refine gQ rfl rfl (ld49 rfl f2 rfl) rfl ?_;refine gQ rfl rfl rfl rfl ?_;refine gQ rfl rfl (fa72_0 rfl) rfl ?_;refine gQ rfl rfl (ld31 rfl f41 rfl) rfl ?_;refine GoE.call rfl rfl (aOp_callVal rfl aFunc78 rfl) (hpk2 _ _ (by assumption)) (dD 28 4 (dD 28 3 (dD 28 2 (dK 28 1 (dK 28 0 rfl))))) ?_ np;rintro v43 h43 ⟨q, x43⟩;cases q;replace f41 := f41.ext x43;replace f0 := f0.ext x43;replace f1 := f1.ext x43;replace f2 := f2.ext x43;replace e0 := e0.trans x43;replace e5 := e5.trans x43;refine ⟨(rck (h2 := h43) rfl (ld49 rfl f2 rfl) (rck (h2 := h43) rfl (fa51_1 rfl) recheck_nil)), _, rfl, ?_⟩;refine GoE.quietX rfl rfl (aOpX_lit (ps := [(0, .int .i64 w)]) (cs := [.int .i64 w]) Try.underlying49 rfl sz3 zt3 rfl rfl rfl) rfl ?_;refine GoE.append1L rfl rfl Try.underlying49 Try.underlying49 sz3 by3 zt3 rfl rfl rfl rfl rfl rfl (G.ext e5) (by omega) (dD 127 6 (dD 127 1 (dD 127 0 rfl))) rfl rfl fun s44 h44 y44 g44 => ?_;replace f41 := f41.extF y44 (fun q => by have := grow_own G q; omega);replace f0 := f0.extF y44 (fun q => by have := grow_own G q; omega);replace f1 := f1.extF y44 (fun q => by have := grow_own G q; omega);replace f2 := f2.extF y44 (fun q => by have := grow_own G q; omega);replace e0 := y44.low e0 (fun b q => by have := grow_own G q; omega);have := y44.1;refine ⟨recheck_nil, ?_⟩;refine gQ rfl rfl (fa51_1 rfl) rfl ?_;refine GoE.store rfl rfl rfl rfl (dD 511 8 rfl) rfl rfl f2 rfl sz49 (hst1 (by assumption)) (hst2 (by assumption)) (hst3 (by assumption)) fun h45 u45 => ?_;replace f0 := f0.upd u45 (by omega);replace f1 := f1.upd u45 (by omega);replace f2 := u45.has f2;replace e0 := e0.upd u45 (by omega);refine ⟨recheck_nil, ?_⟩;refine GoE.end rfl ?_;refine Go.inBlock noJ_ok ?_;refine gR rfl ?_;refine gO rfl rfl (aA rfl rfl) rfl ?_;refine gP ?_;apply gE
   have m1 := e5.1
   have m2 := y44.1
   have m3 := u45.1
   have g46 := grow_extF (S := fun b => b = h1.next) g44 ((ExtF.of (Ext.refl h44)).upd u45 (.inl rfl)) (fun b q => by have : b = h1.next := q; omega)
   have g47 := g46.low (lo' := h20.next) (by omega)
   have g49 : Grow h45 3 1 h2.next sa F.rs.length (i64s (F.rs.map fun r => if T then r.2 else r.1)) := G1.keep (by omega) fun b q1 q2 q3 => by
    have q4 := hown b q3
    rw [u45.2.2 b (by omega), y44.2 b (by omega) (fun q => by have := grow_own G q; omega), e5.2 b (by omega)]
   refine again (m - 1) (i + 1, s44) _ _ (by omega) ⟨rfl, rfl, rfl, rfl, rfl, rfl, trivial⟩ ⟨by dsimp only; omega, e0, by omega, f0, f1, f2, g49, ?_⟩;rw [List.take_add_one, hx, Option.toList_some, List.map_append, List.map_cons, List.map_nil];rw [hw]
   unfold i64s at g47 ⊢
   rw [List.map_append];exact g47
  ·have hii : i = F.hs.length := by omega
   subst hii;rw [List.take_length] at G
   have hsc2 : scalars [sa, sb] = true := by
    unfold scalars
    rw [scal_one' (grow_scal G1).1]
    simp only [scalars, scal_one' (grow_scal G).1, cond_true]
   have hS1 := nums_sl (by rw [List.length_map]) G1
   have hS2 := nums_sl (by rw [List.length_map]) G
   have e5 : Ext h40 h40 := Ext.refl _
   have hrs : ∀ h', ExtF (fun b => b = h1.next) h40 h' → Grow h' 3 1 h.next sa F.rs.length (i64s (F.rs.map fun r => if T then r.2 else r.1)) := fun h' y => (grow_extF G1 y (fun b q => by have : b = h1.next := q; omega)).low (by omega)
   have hfs : ∀ h', ExtF (fun b => b = h1.next) h40 h' → Grow h' 3 1 h.next sb F.hs.length (i64s (F.hs.map fun x => if T then x.hi else x.lo)) := fun h' y => (grow_extF G y (fun b q => by have : b = h1.next := q; omega)).low (by omega)
   have y7 : ExtF (fun b => b = h1.next) h40 h40 := .of (Ext.refl _)
   have hss1 := grow_same G1
   have hss2 := grow_same G
   apply gS;refine gR rfl ?_;refine gO rfl rfl (kLF rfl rfl) rfl ?_;apply gE;apply gS;refine gC (b := false) rfl ?_;refine gD ?_;apply gS;refine gR rfl ?_;refine gO rfl rfl (ld51 rfl f2 rfl) rfl ?_;refine GoR.store rfl rfl rfl rfl rfl rfl f2 rfl sz51 rfl hsc2 rfl fun h41 u41 => ?_;replace f2 := u41.has f2;replace e0 := e0.upd u41 (by omega);clear e5;replace y7 := y7.upd u41 (.inl rfl);apply gE;exact gV (ret_end (aResult_of Try.func35 rfl (aResults_c rfl f2 (inCells_agg ag51 sz51 rfl) rfl)) (⟨sa, sb, rfl, e0, hrs _ y7, hfs _ y7, hsc2, hss1, hss2⟩))
end Go.Proofs.Ytmimdgjehnhnoaa

namespace Go.Proofs.Ytmimdgjehnhnoaa
open Go Go.AbsE
set_option linter.unusedSimpArgs false
set_option maxRecDepth 100000
set_option maxHeartbeats 0
set_option linter.unusedVariables false
end Go.Proofs.Ytmimdgjehnhnoaa

namespace Go.Proofs.Ytmimdgjehnhnoaa
open Go Go.AbsE
set_option linter.unusedSimpArgs false
set_option maxRecDepth 100000
set_option maxHeartbeats 0
set_option linter.unusedVariables false
theorem rule_zero {F : FootV} {st : List Int} {i : Nat} {p : Pl} {k : Nat} : F.rule st i p k = 0 ↔ p.at k = -1 ∨ ((p.upTo k).Ord F.rs.length ∧ F.w true i (p.upTo k) (p.at k).toNat ≤ F.lm k ∧ ¬ F.men ≤ (st[(p.at k).toNat]?).getD 0) := by
 unfold FootV.rule
 by_cases c1 : p.at k = -1
 ·rw [if_pos c1]; exact ⟨fun _ => .inl c1, fun _ => rfl⟩
 ·rw [if_neg c1]
  by_cases c2 : (p.upTo k).Ord F.rs.length
  ·rw [if_neg (not_not_intro c2)]
   by_cases c3 : F.w true i (p.upTo k) (p.at k).toNat ≤ F.lm k
   ·rw [if_neg (not_not_intro c3)]
    by_cases c4 : F.men ≤ (st[(p.at k).toNat]?).getD 0
    ·rw [if_pos c4];exact ⟨fun q => by omega, fun q => q.elim (fun q => absurd q c1) fun q => absurd c4 q.2.2⟩
    ·rw [if_neg c4];exact ⟨fun _ => .inr ⟨c2, c3, c4⟩, fun _ => rfl⟩
   ·rw [if_pos c3];exact ⟨fun q => by omega, fun q => q.elim (fun q => absurd q c1) fun q => absurd q.2.1 c3⟩
  ·rw [if_pos c2];exact ⟨fun q => by omega, fun q => q.elim (fun q => absurd q c1) fun q => absurd q.1 c2⟩
theorem kept_at {F : FootV} {T : Bool} {i : Nat} {p : Pl} : F.Kept T i p ↔ ∀ k, k < 3 → p.at k = -1 ∨ F.w T i p (p.at k).toNat ≤ F.lm k := by
 constructor
 ·intro h k hk
  match k, hk with
  | 0, _ => exact h.1
  | 1, _ => exact h.2.1
  | 2, _ => exact h.2.2
 ·intro h
  exact ⟨h 0 (by omega), h 1 (by omega), h 2 (by omega)⟩
end Go.Proofs.Ytmimdgjehnhnoaa

namespace Go.Proofs.Ytmimdgjehnhnoaa
open Go Go.AbsE
set_option linter.unusedSimpArgs false
set_option maxRecDepth 100000
set_option maxHeartbeats 0
set_option linter.unusedVariables false
def FootV.rain (F : FootV) (T : Bool) : List Int := F.rs.map fun r => if T then r.2 else r.1
def FootV.first (F : FootV) (T : Bool) : List Int := F.hs.map fun x => if T then x.hi else x.lo
theorem rain_get {F : FootV} {T : Bool} (d : Nat) : ((F.rain T)[d]?).getD 0 = F.rn T d := by
 unfold FootV.rain FootV.rn
 rw [List.getElem?_map]
 cases F.rs[d]? <;> rfl
theorem first_get {F : FootV} {T : Bool} {i : Nat} (hi : i < F.hs.length) : (F.first T)[i]? = some (F.st T i) := by
 unfold FootV.first FootV.st
 rw [List.getElem?_map, List.getElem?_eq_getElem hi]
 rfl
theorem w_tw {F : FootV} {T : Bool} {i : Nat} {p : Pl} : ∀ d : Nat, F.w T i p d = F.tw (F.rain T) (F.st T i) p d
 | 0 => rfl
 | d + 1 => by
  have ih := w_tw (F := F) (T := T) (i := i) (p := p) d
  unfold FootV.w FootV.tw
  rw [ih, rain_get]
theorem tw_mono {F : FootV} {R R' : List Int} {x x' : Int} {p : Pl} (hx : x ≤ x') (hR : ∀ d : Nat, (R[d]?).getD 0 ≤ (R'[d]?).getD 0) : ∀ d : Nat, F.tw R x p d ≤ F.tw R' x' p d
 | 0 => hx
 | d + 1 => by
  have ih := tw_mono (F := F) (p := p) hx hR d
  have := hR d
  unfold FootV.tw
  split <;> omega
theorem rains_in {F : FootV} (O : F.Ok) (T : Bool) : ∀ x, x ∈ F.rain T → 0 ≤ x ∧ x ≤ 10 := by
 intro x hx
 obtain ⟨r, hr, rfl⟩ := List.mem_map.1 hx
 have := O.r r hr
 cases T
 ·show 0 ≤ r.1 ∧ r.1 ≤ 10
  omega
 ·show 0 ≤ r.2 ∧ r.2 ≤ 10
  omega
theorem rain_len {F : FootV} {T : Bool} : (F.rain T).length = F.rs.length := by unfold FootV.rain; rw [List.length_map]
structure Truth (F : FootV) (R fl : List Int) : Prop where
 lr : R.length = F.rs.length
 r : ∀ (k : Nat) r x, F.rs[k]? = some r → R[k]? = some x → r.1 ≤ x ∧ x ≤ r.2
 lf : fl.length = F.hs.length
 f : ∀ (k : Nat) x w, F.hs[k]? = some x → fl[k]? = some w → x.lo ≤ w ∧ w ≤ x.hi
theorem Truth.get {F : FootV} {R fl : List Int} (t : Truth F R fl) (d : Nat) : F.rn false d ≤ (R[d]?).getD 0 ∧ (R[d]?).getD 0 ≤ F.rn true d := by
 unfold FootV.rn
 have hl := t.lr
 cases e : F.rs[d]? with
 | none =>
  have : R[d]? = none := by
   rw [List.getElem?_eq_none_iff] at e ⊢
   omega
  rw [this];exact ⟨Int.le_refl _, Int.le_refl _⟩
 | some r =>
  have hd := (List.getElem?_eq_some_iff.1 e).1
  have hx : R[d]? = some (R[d]'(by omega)) := List.getElem?_eq_getElem _
  rw [hx];exact t.r d r _ e hx
theorem Truth.first {F : FootV} (O : F.Ok) {R fl : List Int} (t : Truth F R fl) {i : Nat} (hi : i < F.hs.length) : ∃ x, fl[i]? = some x ∧ F.st false i ≤ x ∧ x ≤ F.st true i ∧ 0 ≤ x ∧ x ≤ 60 := by
 have hl := t.lf
 have hx : fl[i]? = some (fl[i]'(by omega)) := List.getElem?_eq_getElem _
 have hh : F.hs[i]? = some F.hs[i] := List.getElem?_eq_getElem hi
 have h1 := t.f i _ _ hh hx
 have h2 := O.h _ (List.getElem_mem hi)
 refine ⟨_, hx, ?_⟩
 unfold FootV.st
 rw [hh]
 dsimp only
 rw [if_neg (by simp), if_pos rfl]
 omega
theorem Truth.wet {F : FootV} {R fl : List Int} (t : Truth F R fl) {i : Nat} {x : Int} (h1 : F.st false i ≤ x) (h2 : x ≤ F.st true i) {p : Pl} (d : Nat) : F.w false i p d ≤ F.tw R x p d ∧ F.tw R x p d ≤ F.w true i p d := by
 rw [w_tw, w_tw];exact ⟨tw_mono h1 (fun d => by rw [rain_get]; exact (t.get d).1) d, tw_mono h2 (fun d => by rw [rain_get]; exact (t.get d).2) d⟩
theorem Truth.keeps {F : FootV} {R fl : List Int} (t : Truth F R fl) {i : Nat} {x : Int} (h1 : F.st false i ≤ x) (h2 : x ≤ F.st true i) {p : Pl} : (F.Kept true i p → F.TK R x p) ∧ (F.TK R x p → F.Kept false i p) := by
 constructor
 ·intro h k hk
  rcases kept_at.1 h k hk with q | q
  ·exact .inl q
  ·have := (t.wet h1 h2 (p := p) (p.at k).toNat).2
   exact .inr (by omega)
 ·intro h
  refine kept_at.2 fun k hk => ?_
  rcases h k hk with q | q
  ·exact .inl q
  ·have := (t.wet h1 h2 (p := p) (p.at k).toNat).1
   exact .inr (by omega)
end Go.Proofs.Ytmimdgjehnhnoaa

set_option linter.unusedSimpArgs false
namespace Go.AbsE
open Go
section
variable {P : Program}
def MapI (es : List AMapE) (f : List (Int × AVal)) : Prop := es.map (fun e => (e.key, e.val)) = f.map fun x => (Value.int .i64 x.1, x.2)
noncomputable def findI (k : Int) : List (Int × AVal) → Option AVal
 | [] => none
 | x :: f => if k = x.1 then some x.2 else findI k f
noncomputable def setI (k : Int) (v : AVal) : List (Int × AVal) → List (Int × AVal)
 | [] => [(k, v)]
 | x :: f => if k = x.1 then (k, v) :: f else x :: setI k v f
theorem findI_set {k d : Int} {v : AVal} : ∀ f : List (Int × AVal), findI d (setI k v f) = if d = k then some v else findI d f
 | [] => by
  show (if d = k then some v else none) = _
  rfl
 | x :: f => by
  have ih := findI_set (k := k) (d := d) (v := v) f
  unfold setI
  by_cases q : k = x.1
  ·rw [if_pos q]
   show (if d = k then some v else findI d f) = if d = k then some v else (if d = x.1 then some x.2 else findI d f)
   by_cases q2 : d = k
   ·rw [if_pos q2, if_pos q2]
   ·rw [if_neg q2, if_neg q2, if_neg (by rw [← q]; exact q2)]
  ·rw [if_neg q]
   show (if d = x.1 then some x.2 else findI d (setI k v f)) = if d = k then some v else (if d = x.1 then some x.2 else findI d f)
   rw [ih]
   by_cases q2 : d = x.1
   ·rw [if_pos q2, if_neg (by rw [q2]; exact fun z => q z.symm), if_pos q2]
   ·rw [if_neg q2, if_neg q2]
theorem pr_eq_k {kt : TypeId} {K : IntKind} (hk : P.underlying kt = some (.int K)) {a b : Int} : pureRun P (Op.equal kt (.int .i64 a) (.int .i64 b)) = some (decide (a = b)) := by
 have := pr_eq_int (P := P) (q := .i64) hk (d := 9999) (a := a) (b := b)
 show pureRun P (Op.equalIn (9999 + 1) kt _ _) = _
 rw [this]
 congr 1
theorem findI_ok {kt : TypeId} {K : IntKind} (hk : P.underlying kt = some (.int K)) {k : Int} : ∀ {es : List AMapE} {f : List (Int × AVal)}, MapI es f → aMapFind P kt (Value.int .i64 k) es = some (findI k f) := by
 intro es
 induction es with
 | nil =>
  intro f h
  cases f with
  | nil => rfl
  | cons x f => cases h
 | cons e es ih =>
  intro f h
  cases f with
  | nil => cases h
  | cons x f =>
   simp only [MapI, List.map_cons, List.cons.injEq, Prod.mk.injEq] at h
   obtain ⟨⟨hk1, hv1⟩, h⟩ := h
   have hih := ih (f := f) h
   unfold aMapFind findI
   rw [hk1, pr_eq_k hk]
   by_cases q : k = x.1
   ·rw [if_pos q, decide_eq_true q, hv1]
   ·rw [if_neg q, decide_eq_false q]; exact hih
theorem setI_ok {kt : TypeId} {K : IntKind} (hk : P.underlying kt = some (.int K)) {k : Int} (v : AVal) (clock : Nat) : ∀ {es : List AMapE} {f : List (Int × AVal)}, MapI es f → ∃ es' c', aMapSet P kt (Value.int .i64 k) v clock es = some (es', c') ∧ MapI es' (setI k v f) := by
 intro es
 induction es with
 | nil =>
  intro f h
  cases f with
  | nil => exact ⟨_, _, rfl, rfl⟩
  | cons x f => cases h
 | cons e es ih =>
  intro f h
  cases f with
  | nil => cases h
  | cons x f =>
   simp only [MapI, List.map_cons, List.cons.injEq, Prod.mk.injEq] at h
   obtain ⟨⟨hk1, hv1⟩, h⟩ := h
   obtain ⟨es', c', hih1, hih2⟩ := ih (f := f) h
   unfold aMapSet setI
   rw [hk1, pr_eq_k hk]
   by_cases q : k = x.1
   ·rw [if_pos q, decide_eq_true q]
    have hsb : Instr.sameBits 10000 (.int .i64 x.1) (.int .i64 k) = true := by rw [q]; simp [Instr.sameBits]
    simp only [hsb, cond_true]
    exact ⟨_, _, rfl, by simp only [MapI, List.map_cons, List.cons.injEq]; exact ⟨trivial, h⟩⟩
   ·rw [if_neg q, decide_eq_false q]
    simp only [hih1]
    exact ⟨_, _, rfl, by simp only [MapI, List.map_cons, List.cons.injEq, Prod.mk.injEq]; exact ⟨⟨hk1, hv1⟩, hih2⟩⟩
theorem aOp_lookupI {t : Tr AVal} {h : AH} {dst : Option Tmp} {tt : TypeId} {pos : String} {after : Array Edge} {guard : Option (Nat × Bool)} {ty kt vt : TypeId} {K : IntKind} {x k : Operand} {b clock : Nat} {es : List AMapE} {f : List (Int × AVal)} {key : Int} {z : AVal}
  (hu : P.underlying ty = some (.map kt vt)) (hi : P.underlying kt = some (.int K)) (hz : zeroT P vt = some z) (hx : ev t x = some (.map b)) (hk : ev t k = some (.int .i64 key))
  (hb : Has h b (.map es clock)) (hm : MapI es f) :
  aOp P t h ⟨dst, .lookup ty x k false, tt, pos, after, guard⟩ = some (.val ((findI key f).getD z) h) := by
 show opLookup P t h ty x k false = _
 unfold opLookup
 rw [hu, hx, hk]
 dsimp only
 rw [hb.2, show (AVal.int .i64 key).ground = some (.int .i64 key) from by simp [AVal.ground], hz]
 dsimp only
 rw [pr_check_int hi, findI_ok hi hm]
 cases findI key f with
 | none => rfl
 | some v => rfl
theorem GoR.mapUpdateI {J : Jump} {c : FC} {k : List AItem} {Q : AM → Prop} {all : Array Oper} {l : List Oper} {dst : Option Tmp} {tt : TypeId} {pos : String} {after : Array Edge} {guard : Option (Nat × Bool)} {rest : List Oper} {i : Nat} {t : Tr AVal} {h : AH} {ty kt vt : TypeId} {K : IntKind} {x kx y : Operand} {b clock : Nat} {es : List AMapE} {f : List (Int × AVal)} {key : Int} {v : AVal}
  (hl : l = ⟨dst, .mapUpdate ty x kx y, tt, pos, after, guard⟩ :: rest) (hw : wantedA all t ⟨dst, .mapUpdate ty x kx y, tt, pos, after, guard⟩ = some true) (hu : P.underlying ty = some (.map kt vt)) (hi : P.underlying kt = some (.int K)) (hd : dst = none)
  (hx : ev t x = some (.map b)) (hk : ev t kx = some (.int .i64 key)) (hy : ev t y = some v) (hb : Has h b (.map es clock)) (hm : MapI es f)
  (g : ∀ es' c' h1, Upd h b (.map es' c') h1 → MapI es' (setI key v f) → GoR P J c k Q (runOps P c.n all rest (i + 1) t h1)) : GoR P J c k Q (runOps P c.n all l i t h) := by
 obtain ⟨es', c', q1, q2⟩ := setI_ok hi (k := key) v clock hm
 obtain ⟨h', s1, s2⟩ := set_upd h b (.map es' c')
 refine GoR.op hl hw (v := undefA) (h' := h') ?_ ?_ (g es' c' h' s2 q2)
 ·show opMapUpdate P t h ty x kx y = _
  unfold opMapUpdate
  rw [hu, hx, hk, hy]
  dsimp only
  rw [hb.2, show (AVal.int .i64 key).ground = some (.int .i64 key) from by simp [AVal.ground]]
  dsimp only
  rw [pr_check_int hi]
  dsimp only
  rw [q1]
  dsimp only
  rw [s1]
 ·unfold prepD
  rw [show (⟨dst, .mapUpdate ty x kx y, tt, pos, after, guard⟩ : Oper).dst = none from hd]
end
end Go.AbsE
