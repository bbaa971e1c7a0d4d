import Derived.Test.YtkhiagdmbajimaaMAS
import Derived.Test.YtkhiagdmbajimaaMAG
import Derived.Deep.Slices
import Derived.Lib.SmallJoins
import Derived.Carry
import Derived.Test.YtkhiagdmbajimaaMAK
namespace Go.Proofs.Ytkhiagdmbajimaa
open Go Go.AbsE
set_option linter.unusedSimpArgs false
set_option maxRecDepth 100000
set_option maxHeartbeats 0
set_option linter.unusedVariables false
structure TruJ (D : DrainV) (h' : AH) (bx : Nat) (b d r sw sl sy : AVal) (l ys : List Int) (S : List (Int × Int)) : Prop where
 fx : Has h' bx (.cells .plain [b, d, r, sw] 29)
 T : TrueT D l ys
 seen : SeenR D l S
 n : S.length ≤ 4
 sw : SliceOf h' 2 sw (S.map spC)
 sl : SliceOf h' 1 sl (l.map fun x => [AVal.int .i64 x])
 sy : SliceOf h' 1 sy (ys.map fun x => [AVal.int .i64 x])
theorem in29_is {n lo hi : Int} {r : Bool} (hr : decide (lo ≤ n ∧ n ≤ hi) = r) {h : AH} : Runs Try.prog 29 [.int .i64 n, .agg [.int .i64 lo, .int .i64 hi]] h (fun en h' => en = .ret (.bool r) ∧ Ext h h') := by
 subst hr
 have e0 : Ext h h := Ext.refl _
 refine Runs.intro aFunc29 rfl rfl rfl rfl fun rest => ?_;apply gS;refine gR rfl ?_;refine GoR.box rfl rfl rfl rfl rfl rfl fun h0 x0 f0 => ?_;have := e0.1;replace e0 := e0.trans x0;have := f0.1;refine gP ?_;apply gE;apply gS;refine gR rfl ?_;refine gO rfl rfl (fa35_0 rfl) rfl ?_;refine gO rfl rfl (ld3 rfl f0 rfl) rfl ?_;refine gP ?_
 by_cases hs0 : (lo : Int) ≤ n
 ·refine gO rfl rfl (kMT rfl rfl) rfl ?_;iterate 2 refine gP ?_
  refine gO rfl rfl (fa35_1 rfl) rfl ?_;refine gO rfl rfl (ld3 rfl f0 rfl) rfl ?_
  by_cases hs1 : (n : Int) ≤ hi
  ·refine gO rfl rfl (kMT rfl rfl) rfl ?_;iterate 2 refine gP ?_
   apply gE;exact gV (ret_end (aResult_of Try.func29 rfl rfl) ⟨ret_true (by omega), e0⟩)
  ·refine gO rfl rfl (kMF rfl rfl) rfl ?_;iterate 2 refine gP ?_
   apply gE;exact gV (ret_end (aResult_of Try.func29 rfl rfl) ⟨ret_false (by omega), e0⟩)
 ·refine gO rfl rfl (kMF rfl rfl) rfl ?_;refine gP ?_;iterate 4 refine GoR.skip rfl rfl rfl ?_
  iterate 2 refine gP ?_
  apply gE;exact gV (ret_end (aResult_of Try.func29 rfl rfl) ⟨ret_false (by omega), e0⟩)
theorem ys_at {D : DrainV} {ys : List Int} (hl : ys.length = D.bs.length) {i : Nat} (hi : i < D.bs.length) : ys[i]? = some (lv ys i) := by
 unfold lv
 rw [List.getElem?_eq_getElem (by omega)]
 rfl
theorem outs_in {D : DrainV} (O : D.Ok) {l ys : List Int} (T : TrueT D l ys) : ∀ i, i ≤ D.bs.length → 0 ≤ sumI ((roots (D.course 0 l) i).map (wat (D.course 0 l) ys)) ∧ sumI ((roots (D.course 0 l) i).map (wat (D.course 0 l) ys)) ≤ 100 * (i : Nat)
 | 0, _ => ⟨Int.le_refl _, Int.le_refl _⟩
 | i + 1, hi => by
  have ih := outs_in O T i (by omega)
  have h1 := wat_100 O T (a := i) (by omega) 0
  rw [roots_succ, List.map_append, sumI_app]
  split
  ·rw [List.map_cons, List.map_nil, sumI_one]
   omega
  ·rw [List.map_nil]
   show 0 ≤ _ + (0 : Int) ∧ _ + (0 : Int) ≤ _
   omega
theorem sum_in2 {ys : List Int} (hy : ∀ x, 0 ≤ lv ys x ∧ lv ys x ≤ 20) : ∀ i, 0 ≤ sumI (ys.take i) ∧ sumI (ys.take i) ≤ 20 * (i : Nat)
 | 0 => ⟨Int.le_refl _, Int.le_refl _⟩
 | i + 1 => by
  have ih := sum_in2 hy i
  rw [List.take_add_one, sumI_app]
  have h1 := hy i
  unfold lv at h1
  cases q : ys[i]? with
  | none =>
   show 0 ≤ _ + (0 : Int) ∧ _ + (0 : Int) ≤ _
   omega
  | some x =>
   rw [q] at h1;rw [Option.toList_some, sumI_one]
   have h2 : 0 ≤ x ∧ x ≤ 20 := h1
   omega
theorem andNot_bit {a b i : Nat} (hi : i < 64) : (andNot a b).testBit i = (a.testBit i && !b.testBit i) := by
 unfold andNot
 rw [BitVec.testBit_toNat, BitVec.getLsbD_and, BitVec.getLsbD_not, BitVec.getLsbD_ofNat, BitVec.getLsbD_ofNat]
 simp [hi]
theorem bit_one {N i : Nat} (h : N.testBit i = true) : ∃ q : Int, ((N : Nat) : Int).fdiv (2 ^ i) = q ∧ q % 2 = 1 := ⟨_, rfl, by
 have := bit_int N i
 rw [h] at this
 exact of_decide_eq_true this⟩
theorem bit_zero {N i : Nat} (h : N.testBit i = false) : ∃ q : Int, ((N : Nat) : Int).fdiv (2 ^ i) = q ∧ q % 2 = 0 := ⟨_, rfl, by
 have := bit_int N i
 rw [h] at this
 have := of_decide_eq_false this
 omega⟩
theorem shr_none {N i : Nat} (h : N < 2 ^ i) : ((N : Nat) : Int).fdiv (2 ^ i) = 0 := by
 rw [Int.fdiv_eq_ediv_of_nonneg _ (Int.pow_nonneg (by omega)), show ((2 : Int) ^ i) = ((2 ^ i : Nat) : Int) by simp, ← Int.natCast_ediv, Nat.div_eq_of_lt h]
 rfl
theorem law4_far {D : DrainV} {b d r s qv : AVal} {h : AH} (A : DrainAt h D b d r s) (L : DrainL D) (B : ¬ DrainB D) : Runs Try.prog 4 [.agg (dC b d r s), qv] h (fun en h' => en = .ret (.bool true) ∧ Ext h h') := by
 have hF := fun {h'} (e : Ext h h') => far_ok (A.ext e) L
 rw [decide_eq_true B] at hF
 have hsm := A.same
 unfold dC at *
 have e0 : Ext h h := Ext.refl _
 refine Runs.intro aFunc4 rfl rfl rfl rfl fun rest => ?_;apply gS;refine gR rfl ?_;refine GoR.box rfl rfl rfl rfl rfl rfl fun h0 x0 f0 => ?_;replace e0 := e0.trans x0;refine gP ?_;apply gE;iterate 2 apply gS
 refine gR rfl ?_;refine gO rfl rfl (ld29 rfl f0 rfl) rfl ?_;refine GoR.call rfl rfl (aCF aFunc22 rfl) (hF e0) ?_ np;rintro v1 h1 ⟨q, x1⟩;cases q;refine ⟨_, rfl, ?_⟩;replace e0 := e0.trans x1;refine gP ?_;iterate 3 refine GoR.skip rfl rfl rfl ?_
 refine gP ?_;apply gE;refine gC (b := true) rfl ?_;apply gS;refine gR rfl ?_;refine GoR.call rfl rfl (aCF aFunc20 rfl) (awake_ok) ?_ np;rintro v2 h2 ⟨q, x2⟩;cases q;refine ⟨_, rfl, ?_⟩;replace e0 := e0.trans x2;refine gP ?_;apply gE;exact gW Try.func4 rfl rfl ⟨rfl, e0⟩
theorem law4_bad {D : DrainV} {b d r s qv : AVal} {h : AH} (A : DrainAt h D b d r s) (B : DrainB D) (O : ¬ D.Ok) : Runs Try.prog 4 [.agg (dC b d r s), qv] h (fun en h' => en = .ret (.bool true) ∧ Ext h h') := by
 have hF := fun {h'} (e : Ext h h') => far_ok (A.ext e) B.L
 rw [decide_eq_false (fun w => w B)] at hF
 have hR := fun {h'} (e : Ext h h') => Drain23_ok (A.ext e) B
 rw [decide_eq_false O] at hR
 have hsm := A.same
 unfold dC at *
 have e0 : Ext h h := Ext.refl _
 refine Runs.intro aFunc4 rfl rfl rfl rfl fun rest => ?_;apply gS;refine gR rfl ?_;refine GoR.box rfl rfl rfl rfl rfl rfl fun h0 x0 f0 => ?_;replace e0 := e0.trans x0;refine gP ?_;apply gE;iterate 2 apply gS
 refine gR rfl ?_;refine gO rfl rfl (ld29 rfl f0 rfl) rfl ?_;refine GoR.call rfl rfl (aCF aFunc22 rfl) (hF e0) ?_ np;rintro v1 h1 ⟨q, x1⟩;cases q;refine ⟨_, rfl, ?_⟩;replace f0 := f0.ext x1;replace e0 := e0.trans x1;refine gP ?_;refine gO rfl rfl (ld29 rfl f0 rfl) rfl ?_;refine GoR.call rfl rfl (aCF aFunc23 rfl) (hR e0) ?_ np;rintro v2 h2 ⟨q, x2⟩;cases q;refine ⟨_, rfl, ?_⟩;replace e0 := e0.trans x2;iterate 2 refine gP ?_
 apply gE;refine gC (b := true) rfl ?_;apply gS;refine gR rfl ?_;refine GoR.call rfl rfl (aCF aFunc20 rfl) (awake_ok) ?_ np;rintro v3 h3 ⟨q, x3⟩;cases q;refine ⟨_, rfl, ?_⟩;replace e0 := e0.trans x3;refine gP ?_;apply gE;exact gW Try.func4 rfl rfl ⟨rfl, e0⟩
theorem law4_ok {D : DrainV} {b d r s qv : AVal} {h : AH} (A : DrainAt h D b d r s) (O : D.Ok) {bs : List Int} (hbs : ∀ x, x ∈ bs → 0 ≤ x ∧ x < 65536) (hlen : bs.length < 9223372036854775808) (Q : SliceOf h 1 qv (u16s bs)) : Runs Try.prog 4 [.agg (dC b d r s), qv] h (fun en h' => en = .ret (.bool true) ∧ Ext h h') := by
 have hnb := O.nb
 have hnd := O.nd
 have hnr := O.nr
 have hF := fun {h'} (e : Ext h h') => far_ok (A.ext e) O.B.L
 rw [decide_eq_false (fun w => w O.B)] at hF
 have hR := fun {h'} (e : Ext h h') => Drain23_ok (A.ext e) O.B
 rw [decide_eq_true O] at hR
 have hsm := A.same
 have hsq := Q.same
 have hqs := Q.scal
 have hl2 := A.ds.len
 have hl3 := A.rs.len
 rw [List.length_map] at hl2 hl3
 have hdr := fun h => draws25_ok qv h hqs.1 hqs.2
 have htr : ∀ {ba bb : Nat} {h1 : AH} (e : Ext h h1) (h1' : h.next ≤ ba) (h2' : h.next ≤ bb) (hab : ba ≠ bb) (fa : Has h1 ba (.cells .plain [.int .i64 0] 3)) (fb : Has h1 bb (.cells .plain [qv] 45)), Runs Try.prog 24 [.agg (dC b d r s), .func (.func 64) [] [.ptr ba 0, .ptr bb 0]] h1 (fun en h' => ∃ (sw sl sy : AVal) (l ys : List Int) (S : List (Int × Int)), en = .ret (.tuple [.agg (dC b d r sw), sl, sy]) ∧ ExtF (fun b => b = ba) h1 h' ∧ TrueT D l ys ∧ SeenR D l S ∧ S.length ≤ 4 ∧ (∀ h2, ExtF (fun b => b < h1.next) h' h2 → SliceOf h2 2 sw (S.map spC) ∧ SliceOf h2 1 sl (l.map fun x => [.int .i64 x]) ∧ SliceOf h2 1 sy (ys.map fun x => [.int .i64 x])) ∧ ExtF (fun b => b < h1.next) h' h' ∧ sameA (.tuple [.agg (dC b d r sw), sl, sy]) (.tuple [.agg (dC b d r sw), sl, sy]) = true ∧ sameA (.agg (dC b d r sw)) (.agg (dC b d r sw)) = true ∧ sameA sl sl = true ∧ sameA sy sy = true ∧ scalars (dC b d r sw) = true) := fun e h1' h2' hab fa fb =>
  (truly24_ok O hbs hlen A e h1' h2' hab Q (fa := fa) (fb := fb)).mono fun en h' ⟨sw, sl, sy, l, ys, S, q, y, T, hS, h4, tt⟩ => by
   obtain ⟨t1, t2, t3⟩ := tt h' (.of (Ext.refl _))
   exact ⟨sw, sl, sy, l, ys, S, q, y, T, hS, h4, tt, .of (Ext.refl _), by unfold dC; simp [sameA, sameAs, A.bs.same, A.ds.same, A.rs.same, t1.same, t2.same, t3.same], by unfold dC; simp [sameA, sameAs, A.bs.same, A.ds.same, A.rs.same, t1.same], t2.same, t3.same, scal_app (a := [b]) A.bs.scal.1 (scal_app (a := [d]) A.ds.scal.1 (scal_app (a := [r]) A.rs.scal.1 t1.scal.1))⟩
 have hsb1 := A.bs.same
 have hsd1 := A.ds.same
 have hsr1 := A.rs.same
 unfold dC at *
 have e0 : Ext h h := Ext.refl _
 refine Runs.intro aFunc4 rfl rfl rfl rfl fun rest => ?_;apply gS;refine gR rfl ?_;refine GoR.box rfl rfl rfl rfl rfl rfl fun h0 x0 f0 => ?_;have := e0.1;replace e0 := e0.trans x0;have := f0.1;refine gP ?_;apply gE;iterate 2 apply gS
 refine gR rfl ?_;refine gO rfl rfl (ld29 rfl f0 rfl) rfl ?_;refine GoR.call rfl rfl (aCF aFunc22 rfl) (hF e0) ?_ np;rintro v1 h1 ⟨q, x1⟩;cases q;refine ⟨_, rfl, ?_⟩;replace f0 := f0.ext x1;replace e0 := e0.trans x1;refine gP ?_;refine gO rfl rfl (ld29 rfl f0 rfl) rfl ?_;refine GoR.call rfl rfl (aCF aFunc23 rfl) (hR e0) ?_ np;rintro v2 h2 ⟨q, x2⟩;cases q;refine ⟨_, rfl, ?_⟩;replace f0 := f0.ext x2;replace e0 := e0.trans x2;iterate 2 refine gP ?_
 apply gE;refine gC (b := false) rfl ?_;refine gD ?_;refine Go.seq noJ_ok (Go.join (fun a : Nat × AVal × AVal => [(2, .ptr h.next 0), (5, .ptr a.1 0), (6, a.2.1), (7, a.2.2)]) (fun a h' => Ext h h' ∧ Has h' h.next (.cells .plain [b, d, r, s] 29) ∧ ∃ sw l ys S, TruJ D h' a.1 b d r sw a.2.1 a.2.2 l ys S) ?_ ?_)
 ·intro k' done
  refine alts4a ?_ ?_ ?_
  ·intro pl hpl
   rw [pl4a_2_3_8] at hpl;cases hpl;refine gQ rfl rfl (ld29 rfl f0 rfl) rfl ?_;refine gQ rfl rfl rfl rfl ?_;refine GoE.call rfl rfl (aCF aFunc25 rfl) (hdr _) (dD 2 1 (dK 2 0 rfl)) ?_ (by rintro _ _ ⟨ba, bb, q, _, hba, hbb, hab, fa, fb⟩; cases q);rintro v3 h3 ⟨ba, bb, q, x3, hba, hbb, hab, fa, fb⟩;cases q;have := e0.1;have := f0.1;replace f0 := f0.ext x3;replace e0 := e0.trans x3;refine ⟨(rck (h2 := h3) rfl (ld29 rfl f0 rfl) recheck_nil), _, rfl, ?_⟩;refine GoE.call rfl rfl (aCF aFunc24 rfl) (htr e0 (by omega) (by omega) hab (by assumption) (by assumption)) (dD 7 0 rfl) ?_ (by rintro _ _ ⟨sw, sl, sy, l, ys, S, q, _, TT, TS, hS4, T1, y31, hs0, hs1, hs2, hs3, hs4⟩; cases q);rintro v4 h4 ⟨sw, sl, sy, l, ys, S, q, y4, TT, TS, hS4, T1, y31, hs0, hs1, hs2, hs3, hs4⟩;cases q;have := e0.1;have := fa.1;have := fb.1;have := f0.1;have := e0.1;have := fa.1;have := fb.1;have := f0.1;clear fa;replace fb := fb.extF y4 (fun q => by omega);replace f0 := f0.extF y4 (fun q => by omega);replace e0 := y4.low e0 (fun b q => by omega);have := y4.1;refine ⟨recheck_nil, _, rfl, ?_⟩;iterate 4 refine gQ rfl rfl rfl rfl ?_
   refine GoE.alloc rfl rfl zt29 (dK 15 7 (dK 15 6 (dK 15 5 (dK 15 4 rfl)))) rfl rfl fun h5 x5 f5 => ?_;have := e0.1;have := fb.1;have := f0.1;replace fb := fb.ext x5;replace f0 := f0.ext x5;replace e0 := e0.trans x5;replace y4 := y4.ext x5;replace y31 := y31.ext x5;have := f5.1;refine ⟨(rck (h2 := h5) rfl (rfl) (rck (h2 := h5) rfl (rfl) (rck (h2 := h5) rfl (rfl) (rck (h2 := h5) rfl (rfl) recheck_nil)))), ?_⟩;refine GoE.store rfl rfl rfl rfl (dK 319 7 (dK 319 6 (dD 319 5 (dD 319 4 rfl)))) rfl rfl f5 rfl sz29 rfl hs4 rfl fun h6 u6 => ?_;replace f5 := u6.has f5;replace fb := fb.upd u6 (by omega);replace f0 := f0.upd u6 (by omega);replace e0 := e0.upd u6 (by omega);replace y4 := y4.upd u6 (.inr (by omega));replace y31 := y31.upd u6 (.inr (by omega));refine ⟨(rck (h2 := h6) rfl (rfl) (rck (h2 := h6) rfl (rfl) recheck_nil)), ?_⟩;iterate 2 refine gQ rfl rfl rfl rfl ?_
   refine GoE.end rfl ?_
   obtain ⟨t1, t2, t3⟩ := T1 _ y31
   have hd := (⟨by assumption, TT, TS, hS4, t1, t2, t3⟩ : TruJ D _ _ b d r sw sl sy l ys S)
   exact done ⟨_, _, _⟩ _ _ ⟨rfl, rfl, rfl, rfl, trivial⟩ ⟨e0, by assumption, _, _, _, _, hd⟩
  ·intro pl hpl
   rw [pl4a_2_8_3] at hpl;cases hpl;refine gQ rfl rfl (ld29 rfl f0 rfl) rfl ?_;refine gQ rfl rfl rfl rfl ?_;refine GoE.call rfl rfl (aCF aFunc25 rfl) (hdr _) (dD 2 1 (dK 2 0 rfl)) ?_ (by rintro _ _ ⟨ba, bb, q, _, hba, hbb, hab, fa, fb⟩; cases q);rintro v3 h3 ⟨ba, bb, q, x3, hba, hbb, hab, fa, fb⟩;cases q;have := e0.1;have := f0.1;replace f0 := f0.ext x3;replace e0 := e0.trans x3;refine ⟨(rck (h2 := h3) rfl (ld29 rfl f0 rfl) recheck_nil), _, rfl, ?_⟩;refine GoE.alloc rfl rfl zt29 (dK 6 0 rfl) rfl rfl fun h4 x4 f4 => ?_;have := e0.1;have := fa.1;have := fb.1;have := f0.1;replace fa := fa.ext x4;replace fb := fb.ext x4;replace f0 := f0.ext x4;replace e0 := e0.trans x4;have := f4.1;refine ⟨(rck (h2 := h4) rfl (ld29 rfl f0 rfl) recheck_nil), ?_⟩;refine GoE.call rfl rfl (aCF aFunc24 rfl) (htr e0 (by omega) (by omega) hab (by assumption) (by assumption)) (dD 263 0 rfl) ?_ (by rintro _ _ ⟨sw, sl, sy, l, ys, S, q, _, TT, TS, hS4, T1, y31, hs0, hs1, hs2, hs3, hs4⟩; cases q);rintro v5 h5 ⟨sw, sl, sy, l, ys, S, q, y5, TT, TS, hS4, T1, y31, hs0, hs1, hs2, hs3, hs4⟩;cases q;have := e0.1;have := f4.1;have := fa.1;have := fb.1;have := f0.1;have := e0.1;have := f4.1;have := fa.1;have := fb.1;have := f0.1;replace f4 := f4.extF y5 (fun q => by omega);clear fa;replace fb := fb.extF y5 (fun q => by omega);replace f0 := f0.extF y5 (fun q => by omega);replace e0 := y5.low e0 (fun b q => by omega);have := y5.1;refine ⟨recheck_nil, _, rfl, ?_⟩;iterate 4 refine gQ rfl rfl rfl rfl ?_
   refine GoE.store rfl rfl rfl rfl (dK 319 7 (dK 319 6 (dD 319 5 (dD 319 4 rfl)))) rfl rfl f4 rfl sz29 rfl hs4 rfl fun h6 u6 => ?_;replace f4 := u6.has f4;replace fb := fb.upd u6 (by omega);replace f0 := f0.upd u6 (by omega);replace e0 := e0.upd u6 (by omega);replace y31 := y31.upd u6 (.inl (by assumption));refine ⟨(rck (h2 := h6) rfl (rfl) (rck (h2 := h6) rfl (rfl) recheck_nil)), ?_⟩;iterate 2 refine gQ rfl rfl rfl rfl ?_
   refine GoE.end rfl ?_
   obtain ⟨t1, t2, t3⟩ := T1 _ y31
   have hd := (⟨by assumption, TT, TS, hS4, t1, t2, t3⟩ : TruJ D _ _ b d r sw sl sy l ys S)
   exact done ⟨_, _, _⟩ _ _ ⟨rfl, rfl, rfl, rfl, trivial⟩ ⟨e0, by assumption, _, _, _, _, hd⟩
  ·intro pl hpl
   rw [pl4a_8_2_3] at hpl;cases hpl;refine gQ rfl rfl (ld29 rfl f0 rfl) rfl ?_;refine gQ rfl rfl rfl rfl ?_;refine GoE.alloc rfl rfl zt29 (dK 0 1 (dK 0 0 rfl)) rfl rfl fun h3 x3 f3 => ?_;have := e0.1;have := f0.1;replace f0 := f0.ext x3;replace e0 := e0.trans x3;have := f3.1;refine ⟨(rck (h2 := h3) rfl (rfl) (rck (h2 := h3) rfl (ld29 rfl f0 rfl) recheck_nil)), ?_⟩;refine GoE.call rfl rfl (aCF aFunc25 rfl) (hdr _) (dD 258 1 (dK 258 0 rfl)) ?_ (by rintro _ _ ⟨ba, bb, q, _, hba, hbb, hab, fa, fb⟩; cases q);rintro v4 h4 ⟨ba, bb, q, x4, hba, hbb, hab, fa, fb⟩;cases q;have := e0.1;have := f3.1;have := f0.1;replace f3 := f3.ext x4;replace f0 := f0.ext x4;replace e0 := e0.trans x4;refine ⟨(rck (h2 := h4) rfl (ld29 rfl f0 rfl) recheck_nil), _, rfl, ?_⟩;refine GoE.call rfl rfl (aCF aFunc24 rfl) (htr e0 (by omega) (by omega) hab (by assumption) (by assumption)) (dD 263 0 rfl) ?_ (by rintro _ _ ⟨sw, sl, sy, l, ys, S, q, _, TT, TS, hS4, T1, y31, hs0, hs1, hs2, hs3, hs4⟩; cases q);rintro v5 h5 ⟨sw, sl, sy, l, ys, S, q, y5, TT, TS, hS4, T1, y31, hs0, hs1, hs2, hs3, hs4⟩;cases q;have := e0.1;have := fa.1;have := fb.1;have := f3.1;have := f0.1;have := e0.1;have := fa.1;have := fb.1;have := f3.1;have := f0.1;clear fa;replace fb := fb.extF y5 (fun q => by omega);replace f3 := f3.extF y5 (fun q => by omega);replace f0 := f0.extF y5 (fun q => by omega);replace e0 := y5.low e0 (fun b q => by omega);have := y5.1;refine ⟨recheck_nil, _, rfl, ?_⟩;iterate 4 refine gQ rfl rfl rfl rfl ?_
   refine GoE.store rfl rfl rfl rfl (dK 319 7 (dK 319 6 (dD 319 5 (dD 319 4 rfl)))) rfl rfl f3 rfl sz29 rfl hs4 rfl fun h6 u6 => ?_;replace fb := fb.upd u6 (by omega);replace f3 := u6.has f3;replace f0 := f0.upd u6 (by omega);replace e0 := e0.upd u6 (by omega);replace y31 := y31.upd u6 (.inl (by assumption));refine ⟨(rck (h2 := h6) rfl (rfl) (rck (h2 := h6) rfl (rfl) recheck_nil)), ?_⟩;iterate 2 refine gQ rfl rfl rfl rfl ?_
   refine GoE.end rfl ?_
   obtain ⟨t1, t2, t3⟩ := T1 _ y31
   have hd := (⟨by assumption, TT, TS, hS4, t1, t2, t3⟩ : TruJ D _ _ b d r sw sl sy l ys S)
   exact done ⟨_, _, _⟩ _ _ ⟨rfl, rfl, rfl, rfl, trivial⟩ ⟨e0, by assumption, _, _, _, _, hd⟩
 ·rintro ⟨bx, sl, sy⟩ h9 ⟨e0, f0, sw, l, ys, S, J⟩
  dsimp only at J ⊢
  have XO := saw_ok O J.T.l J.seen J.n
  have AX : ∀ {h'}, Ext h h' → Ext h9 h' → DrainAt h' (D.saw S) b d r sw := fun e e1 => ⟨A.bs.ext e, A.ds.ext e, A.rs.ext e, J.sw.ext e1⟩
  have hll := levs_len J.T.l
  have hyl := J.T.yl
  have hTl := saw_truth J.T.l J.seen
  have hTr : (D.saw S).truths ≠ [] := fun q => by rw [q] at hTl; cases hTl
  have hy20 := lv_20 O J.T
  have hcl := course_len D 0 l
  have dn := course_down O J.T.l 0
  have hlsn : (sgnC (D.course 0 l)).length = D.bs.length := by unfold sgnC; rw [List.length_map, hcl]
  have hclash := fun {h'} (e : Ext h h') (e1 : Ext h9 h') => Clash_ok (AX e e1) XO.B
  rw [show (D.saw S).clashR = (0, 4) from (DrainV.ok_yes XO).trans (by unfold DrainV.clashQ; rw [saw_clash J.T.l J.seen])] at hclash
  obtain ⟨su, hsu⟩ : ∃ su, (D.saw S).surely = su := ⟨_, rfl⟩
  obtain ⟨pe, hpe⟩ : ∃ pe, (D.saw S).perhaps = pe := ⟨_, rfl⟩
  obtain ⟨st, hst⟩ : ∃ st, stopV (D.saw S) = st := ⟨_, rfl⟩
  have hbreaks := fun {h'} (e : Ext h h') (e1 : Ext h9 h') => Breaks_ok (AX e e1) XO.B
  rw [breaksR_is XO, DrainV.tr_yes hTr, hsu, hpe] at hbreaks
  have hstop := fun {h'} (e : Ext h h') (e1 : Ext h9 h') => Stop_ok (AX e e1) XO.B
  rw [stopR_is XO, DrainV.tr_yes hTr, hst] at hstop
  dsimp only at hclash hbreaks hstop
  have hst2 := (stop_ex XO).1
  rw [hst] at hst2
  have hst3 : st < 2 ^ D.ds.length := hst2
  have hst4 : (2 : Nat) ^ D.ds.length ≤ 2 ^ 7 := Nat.pow_le_pow_right (by omega) hnd
  have hnr2 : (2 : Nat) ^ D.rs.length ≤ 2 ^ 4 := Nat.pow_le_pow_right (by omega) hnr
  have hsu2 : su < 16 := by
   have h1 : (D.saw S).surely < 2 ^ (0 + (D.saw S).rs.length) := bits_lt
   rw [hsu, Nat.zero_add] at h1
   have h2 : su < 2 ^ D.rs.length := h1
   omega
  have hsub : andNot su pe = 0 := by
   refine Nat.eq_of_testBit_eq fun i => ?_;rw [Nat.zero_testBit]
   by_cases hi : i < 64
   ·rw [andNot_bit hi]
    cases q : su.testBit i with
    | false => rfl
    | true =>
     have := sure_perhaps XO hTl i (by rw [hsu]; exact q)
     rw [hpe] at this;rw [this]
     rfl
   ·have h1 := andNot_le su pe (by omega)
    have : 2 ^ 64 ≤ 2 ^ i := Nat.pow_le_pow_right (by decide) (by omega)
    exact Nat.testBit_lt_two_pow (by omega)
  have hshr : ((st : Nat) : Int).fdiv (2 ^ D.ds.length) = 0 := by
   rw [Int.fdiv_eq_ediv_of_nonneg _ (Int.pow_nonneg (by omega)), show ((2 : Int) ^ D.ds.length) = ((2 ^ D.ds.length : Nat) : Int) by simp, ← Int.natCast_ediv, Nat.div_eq_of_lt hst3]
   rfl
  have S1 := J.sl
  have S2 := J.sy
  have f5 := J.fx
  have e1 : Ext h9 h9 := Ext.refl _
  have hbx := J.fx.1
  have hs1 : sameA (.agg [b, d, r, sw]) (.agg [b, d, r, sw]) = true := by have := A.bs.same; have := A.ds.same; have := A.rs.same; have := J.sw.same; simp [sameA, sameAs, *]
  have hs2 := J.sl.same
  have hs3 := J.sy.same
  have hls := S1.len
  have hly := S2.len
  rw [List.length_map] at hls hly;rw [hll] at hls;rw [hyl] at hly
  unfold dC at *
  apply gS;refine gR rfl ?_;refine gP ?_;refine gO rfl rfl (aOp_lenSlice Try.underlying47 rfl hls) rfl ?_;refine gP ?_;apply gE;apply gS;refine gR rfl ?_;refine gO rfl rfl (ld29 rfl f0 rfl) rfl ?_;refine gP ?_;refine GoR.call rfl rfl (aCF aFunc26 rfl) (courses26_e O (l := l) (st := 0) hll (A.ext e0) (S1.ext e1)) ?_ (by rintro _ _ ⟨sn, q, _, Gn, e2⟩; cases q);rintro v10 h10 ⟨sn, q, x10, Gn, e2⟩;cases q;refine ⟨_, rfl, ?_⟩;have := e0.1;have := e1.1;replace f0 := f0.ext x10;replace f5 := f5.ext x10;replace e0 := e0.trans x10;replace e1 := e1.trans x10;refine gP ?_;apply gE;apply gS;refine gR rfl ?_;iterate 2 refine gP ?_
  refine GoR.call rfl rfl (aCF aFunc27 rfl) (waters27_e dn (by rw [hcl]; exact hnb) (by rw [hcl]; exact hyl) hy20 (ints_slice hlsn (Gn.ext e2)) (S2.ext e1)) ?_ (by rintro _ _ ⟨bt, q, _, hbt, _⟩; cases q);rintro v11 h11 ⟨bt, q, x11, hbt, f11⟩;cases q;refine ⟨_, rfl, ?_⟩;have := e2.1;have := e0.1;have := e1.1;replace f0 := f0.ext x11;replace f5 := f5.ext x11;replace e2 := e2.trans x11;replace e0 := e0.trans x11;replace e1 := e1.trans x11;refine gP ?_;apply gE;apply gS;refine gR rfl ?_;refine gO rfl rfl (ld29 rfl f5 rfl) rfl ?_;refine GoR.call rfl rfl (aCF aFunc19 rfl) (hclash e0 e1) ?_ np;rintro v12 h12 ⟨q, x12⟩;cases q;refine ⟨_, rfl, ?_⟩;replace f11 := f11.ext x12;replace f0 := f0.ext x12;replace f5 := f5.ext x12;replace e2 := e2.trans x12;replace e0 := e0.trans x12;replace e1 := e1.trans x12;iterate 5 refine gP ?_
  apply gE;apply gS;refine gR rfl ?_;refine gO rfl rfl (ld29 rfl f5 rfl) rfl ?_;refine GoR.call rfl rfl (aCF aFunc16 rfl) (hbreaks e0 e1) ?_ np;rintro v13 h13 ⟨q, x13⟩;cases q;refine ⟨_, rfl, ?_⟩;replace f11 := f11.ext x13;replace f0 := f0.ext x13;replace f5 := f5.ext x13;replace e2 := e2.trans x13;replace e0 := e0.trans x13;replace e1 := e1.trans x13;iterate 7 refine gP ?_
  apply gE;apply gS;refine gR rfl ?_;refine gO rfl rfl (ld29 rfl f5 rfl) rfl ?_;refine GoR.call rfl rfl (aCF aFunc18 rfl) (hstop e0 e1) ?_ np;rintro v14 h14 ⟨q, x14⟩;cases q;refine ⟨_, rfl, ?_⟩;replace f11 := f11.ext x14;replace f0 := f0.ext x14;replace f5 := f5.ext x14;replace e2 := e2.trans x14;replace e0 := e0.trans x14;replace e1 := e1.trans x14;iterate 7 refine gP ?_
  apply gE;iterate 2 apply gS
  refine gR rfl ?_;refine gP ?_;refine gO rfl rfl (kXF rfl rfl) rfl ?_;iterate 2 refine gP ?_
  refine gO rfl rfl (kXF rfl rfl) rfl ?_;iterate 4 refine gP ?_
  refine gO rfl rfl (aOp_andNot (r := 0) rfl rfl (by omega) hsub) rfl ?_;refine gO rfl rfl (kXF rfl rfl) rfl ?_;iterate 3 refine gP ?_
  refine gO rfl rfl (kXF rfl rfl) rfl ?_;iterate 3 refine gP ?_
  refine gO rfl rfl (kLF rfl rfl) rfl ?_;iterate 3 refine gP ?_
  refine gO rfl rfl (fa29_1 rfl) rfl ?_;refine gO rfl rfl (ld26 rfl f0 rfl) rfl ?_;refine gO rfl rfl (aOp_lenSlice Try.underlying26 rfl hl2) rfl ?_;refine gO rfl rfl (aOp_shr rfl rfl (by omega) hshr) rfl ?_;refine gO rfl rfl (kXF rfl rfl) rfl ?_;iterate 3 refine gP ?_
  refine GoR.call rfl rfl (aCF aFunc28 rfl) (size28_ok _ (by omega)) ?_ np;rintro v15 h15 ⟨q, x15⟩;cases q;refine ⟨_, rfl, ?_⟩;replace f11 := f11.ext x15;replace f0 := f0.ext x15;replace f5 := f5.ext x15;replace e2 := e2.trans x15;replace e0 := e0.trans x15;replace e1 := e1.trans x15;refine gP ?_;refine gO rfl rfl (kXF rfl rfl) rfl ?_;refine gP ?_;apply gE;refine gC (b := false) rfl ?_;refine gD ?_;apply gS;refine gR rfl ?_;iterate 2 refine gP ?_
  apply gE;iterate 2 apply gS
  refine gR rfl ?_;iterate 2 refine gP ?_
  apply gE;refine Go.block noJ_ok ?_
  have SN := ints_slice hlsn (Gn.ext e2)
  have SW : SliceOf h15 1 (.slice bt 0 (D.course 0 l).length (D.course 0 l).length) ((watL (D.course 0 l) ys).map fun x => [AVal.int .i64 x]) := lit_slice (by unfold watL; simp) f11
  have S1K := S1.ext e1
  have S2K := S2.ext e1
  have hlw : (watL (D.course 0 l) ys).length = D.bs.length := by unfold watL; simp [hcl]
  have AK : DrainAt h15 (D.saw S) b d r sw := AX e0 e1
  have e15 := e0
  rw [hcl] at *
  have hcl := course_len D 0 l
  have eK : Ext h15 h15 := Ext.refl _
  clear Gn e2 e1 f11 S1 S2
  refine Go.loopKeep (fun i : Nat => [(2, .ptr h.next 0), (5, .ptr bx 0), (6, sl), (7, sy), (8, .int .i64 D.bs.length), (9, v10), (10, .slice bt 0 D.bs.length D.bs.length), (13, .int .i64 (su : Nat)), (14, .int .i64 (pe : Nat)), (17, .int .i64 (st : Nat)), (19, .int .i64 (sumI (ys.take i))), (20, .int .i64 (sumI ((roots (D.course 0 l) i).map (wat (D.course 0 l) ys)))), (114, .int .i64 D.bs.length), (115, .int .i64 (i : Nat))])
   (fun m i h' => m + i = D.bs.length ∧ Ext h h' ∧ Ext h15 h' ∧ Has h' h.next (.cells .plain [b, d, r, s] 29) ∧ Has h' bx (.cells .plain [b, d, r, sw] 29))
   (n := D.bs.length) 0 ⟨rfl, rfl, rfl, rfl, rfl, rfl, rfl, rfl, rfl, rfl, rfl, rfl, rfl, rfl, trivial⟩ ⟨rfl, e0, eK, f0, f5⟩ ?_
  clear e0 eK f0 f5;rintro m i h20 ⟨hm, e0, eK, f0, f5⟩ again
  by_cases hi : i < D.bs.length
  ·obtain ⟨bn, on, p1, p2⟩ := SN.at (i := i) (l := [.int .i64 (sgn D.bs.length (nx (D.course 0 l) i))]) (by rw [List.getElem?_map, sgnC_at hi]; rfl)
   rw [List.length_map, hlsn] at p1
   have hle := dn.le i (by omega)
   apply gS;refine gR rfl ?_;refine gO rfl rfl (kLT rfl rfl) rfl ?_;apply gE;apply gS;refine gC (b := true) rfl ?_;refine gD ?_;apply gS;refine Go.block noJ_ok ?_;apply gS;refine gR rfl ?_;iterate 2 refine gP ?_
   apply gE;apply gS;refine gR rfl ?_;iterate 2 refine gP ?_
   refine gO rfl rfl (aOp_indexAddr (i := i) Try.underlying47 sz3 rfl p1 rfl (Nat.ble_eq_true_of_le hi)) rfl ?_;refine gO rfl rfl (aOp_loadE1 (k := 0) ag3 rfl (p2.ext eK) rfl) rfl ?_;iterate 3 refine gP ?_
   apply gE;apply gS;refine Go.block noJ_ok ?_
   have hlo := (dn.lo i (by omega))
   refine Go.loopKeep (fun e : Nat => [(2, .ptr h.next 0), (5, .ptr bx 0), (6, sl), (7, sy), (8, .int .i64 D.bs.length), (9, v10), (10, .slice bt 0 D.bs.length D.bs.length), (13, .int .i64 (su : Nat)), (14, .int .i64 (pe : Nat)), (17, .int .i64 (st : Nat)), (19, .int .i64 (sumI (ys.take i))), (20, .int .i64 (sumI ((roots (D.course 0 l) i).map (wat (D.course 0 l) ys)))), (114, .int .i64 D.bs.length), (115, .int .i64 (i : Nat)), (21, .int .i64 (i : Nat)), (22, .int .i64 (sgn D.bs.length (nx (D.course 0 l) i))), (23, .int .i64 (e : Nat))])
    (fun m e h' => (lv l e).toNat ≤ m ∧ e < D.bs.length ∧ endV (D.course 0 l) 21 e = endV (D.course 0 l) 21 i ∧ Ext h h' ∧ Ext h15 h' ∧ Has h' h.next (.cells .plain [b, d, r, s] 29) ∧ Has h' bx (.cells .plain [b, d, r, sw] 29))
    (n := 20) i ⟨rfl, rfl, rfl, rfl, rfl, rfl, rfl, rfl, rfl, rfl, rfl, rfl, rfl, rfl, rfl, rfl, rfl, trivial⟩ ⟨by omega, hi, rfl, e0, eK, f0, f5⟩ ?_
   clear e0 eK f0 f5;rintro m2 e h30 ⟨hm2, he, hend, e0, eK, f0, f5⟩ again2
   have hen := end_next dn (a := e) (by omega)
   have hle2 := dn.le e (by omega)
   obtain ⟨bm, om, r1, r2⟩ := SN.at (i := e) (l := [.int .i64 (sgn D.bs.length (nx (D.course 0 l) e))]) (by rw [List.getElem?_map, sgnC_at he]; rfl)
   rw [List.length_map, hlsn] at r1
   by_cases hq : nx (D.course 0 l) e < D.bs.length
   ·have hv : sgn D.bs.length (nx (D.course 0 l) e) = ((nx (D.course 0 l) e : Nat) : Int) := if_neg (by omega)
    rw [hv] at r2;rw [if_pos (by omega)] at hen
    have hlt := dn.lt e (by omega) (by omega)
    have hl0 := dn.lo (nx (D.course 0 l) e) (by omega)
    iterate 2 apply gS
    refine gR rfl ?_;iterate 2 refine gP ?_
    refine gO rfl rfl (aOp_indexAddr (i := e) Try.underlying47 sz3 rfl r1 rfl (Nat.ble_eq_true_of_le he)) rfl ?_;refine gO rfl rfl (aOp_loadE1 (k := 0) ag3 rfl (r2.ext eK) rfl) rfl ?_;refine gO rfl rfl (kNT rfl rfl) rfl ?_;apply gE;refine gC (b := true) rfl ?_;refine gD ?_;refine Go.block noJ_ok ?_;refine gR rfl ?_;iterate 2 refine gP ?_
    refine gO rfl rfl (aOp_indexAddr (i := e) Try.underlying47 sz3 rfl r1 rfl (Nat.ble_eq_true_of_le he)) rfl ?_;refine gO rfl rfl (aOp_loadE1 (k := 0) ag3 rfl (r2.ext eK) rfl) rfl ?_;refine gP ?_;apply gE;refine Go.inBlock noJ_ok ?_;exact again2 (m2 - 1) (nx (D.course 0 l) e) _ _ (by omega) ⟨rfl, rfl, rfl, rfl, rfl, rfl, rfl, rfl, rfl, rfl, rfl, rfl, rfl, rfl, rfl, rfl, rfl, trivial⟩ ⟨by omega, hq, by rw [← hen]; exact hend, e0, eK, f0, f5⟩
   ·have hv : sgn D.bs.length (nx (D.course 0 l) e) = -1 := if_pos (by omega)
    rw [hv] at r2;rw [if_neg (by omega)] at hen;rw [hen] at hend;clear again2;iterate 2 apply gS
    refine gR rfl ?_;iterate 2 refine gP ?_
    refine gO rfl rfl (aOp_indexAddr (i := e) Try.underlying47 sz3 rfl r1 rfl (Nat.ble_eq_true_of_le he)) rfl ?_;refine gO rfl rfl (aOp_loadE1 (k := 0) ag3 rfl (r2.ext eK) rfl) rfl ?_;refine gO rfl rfl (kNF rfl rfl) rfl ?_;apply gE;refine gC (b := false) rfl ?_;refine gD ?_
    have hw100 := wat_100 O J.T hi 0
    have ho1 := outs_in O J.T i (by omega)
    have hs1' := sum_in2 hy20 i
    obtain ⟨bw, ow, w1, w2⟩ := SW.at (i := i) (l := [.int .i64 (wat (D.course 0 l) ys i)]) (by rw [List.getElem?_map, watL_at (by omega)]; rfl)
    rw [List.length_map, hlw] at w1
    have hrs := roots_succ (D.course 0 l) i
    rw [hcl] at hrs
    refine Go.seq noJ_ok (Go.join (fun _ : Unit => [(2, .ptr h.next 0), (5, .ptr bx 0), (6, sl), (7, sy), (8, .int .i64 D.bs.length), (9, v10), (10, .slice bt 0 D.bs.length D.bs.length), (13, .int .i64 (su : Nat)), (14, .int .i64 (pe : Nat)), (17, .int .i64 (st : Nat)), (19, .int .i64 (sumI (ys.take i))), (20, .int .i64 (sumI ((roots (D.course 0 l) (i + 1)).map (wat (D.course 0 l) ys)))), (114, .int .i64 D.bs.length), (115, .int .i64 (i : Nat)), (21, .int .i64 (i : Nat)), (22, .int .i64 (nx (D.course 0 l) i : Nat)), (23, .int .i64 (e : Nat))])
     (fun _ h' => Ext h h' ∧ Ext h15 h' ∧ Has h' h.next (.cells .plain [b, d, r, s] 29) ∧ Has h' bx (.cells .plain [b, d, r, sw] 29)) ?_ ?_)
    ·intro k' done
     by_cases hq2 : nx (D.course 0 l) i = D.bs.length
     ·rw [show sgn D.bs.length (nx (D.course 0 l) i) = -1 from if_pos hq2];rw [if_pos hq2] at hrs
      have hout : sumI ((roots (D.course 0 l) i).map (wat (D.course 0 l) ys)) + wat (D.course 0 l) ys i = sumI ((roots (D.course 0 l) (i + 1)).map (wat (D.course 0 l) ys)) := by
       rw [hrs, List.map_append, sumI_app, List.map_cons, List.map_nil, sumI_one]
      apply gS;refine gR rfl ?_;refine gP ?_;refine gO rfl rfl (kLT rfl rfl) rfl ?_;apply gE;refine gC (b := true) rfl ?_;refine Go.drawnE plan4_1 ?_;iterate 4 refine gQ rfl rfl rfl rfl ?_
      refine gQ rfl rfl (aOp_indexAddr (i := i) Try.underlying47 sz3 rfl w1 rfl (Nat.ble_eq_true_of_le hi)) rfl ?_;refine gQ rfl rfl (aOp_loadE1 (k := 0) ag3 rfl (w2.ext eK) rfl) rfl ?_;refine gQ rfl rfl (aOp_add rfl rfl (by constructor <;> omega) hout) rfl ?_;iterate 2 refine gQ rfl rfl rfl rfl ?_
      refine GoE.end rfl ?_;exact done () _ _ ⟨rfl, rfl, rfl, rfl, rfl, rfl, rfl, rfl, rfl, rfl, rfl, rfl, rfl, rfl, rfl, (by rw [hq2]; rfl), rfl, trivial⟩ ⟨e0, eK, f0, f5⟩
     ·rw [show sgn D.bs.length (nx (D.course 0 l) i) = ((nx (D.course 0 l) i : Nat) : Int) from if_neg hq2];rw [if_neg hq2, List.append_nil] at hrs;rw [hrs] at done;apply gS;refine gR rfl ?_;refine gP ?_;refine gO rfl rfl (kLF rfl rfl) rfl ?_;apply gE;refine gC (b := false) rfl ?_;refine gD ?_;exact done () _ _ ⟨rfl, rfl, rfl, rfl, rfl, rfl, rfl, rfl, rfl, rfl, rfl, rfl, rfl, rfl, rfl, rfl, rfl, trivial⟩ ⟨e0, eK, f0, f5⟩
    ·clear e0 eK f0 f5;rintro _ h31 ⟨e0, eK, f0, f5⟩
     obtain ⟨by2, oy, y1, y2⟩ := S2K.at (i := i) (l := [.int .i64 (lv ys i)]) (by rw [List.getElem?_map, ys_at hyl hi]; rfl)
     rw [List.length_map, hyl] at y1
     have hyi := hy20 i
     have hsum : sumI (ys.take i) + lv ys i = sumI (ys.take (i + 1)) := by rw [List.take_add_one, ys_at hyl hi, Option.toList_some, sumI_app, sumI_one]
     have hnx := fun {h'} (e : Ext h15 h') => Next_ok (AK.ext e) XO.B (i : Nat)
     rw [show (D.saw S).nextR (i : Nat) = ((((D.saw S).nexts i : Nat) : Int), 0) from by unfold DrainV.nextR; rw [DrainV.ok_yes XO, DrainV.bank_yes (D := D.saw S) (show (0 : Int) ≤ (i : Nat) ∧ ((i : Nat) : Int) ≤ (D.bs.length : Int) - 1 by omega), DrainV.tr_yes hTr, Int.toNat_natCast]] at hnx
     have hen2 := fun {h'} (e : Ext h15 h') => Ends_ok (AK.ext e) XO.B (i : Nat)
     rw [show (D.saw S).endsR (i : Nat) = ((((D.saw S).endsS i : Nat) : Int), 0) from by unfold DrainV.endsR; rw [DrainV.ok_yes XO, DrainV.bank_yes (D := D.saw S) (show (0 : Int) ≤ (i : Nat) ∧ ((i : Nat) : Int) ≤ (D.bs.length : Int) - 1 by omega), DrainV.tr_yes hTr, Int.toNat_natCast]] at hen2
     have hwt := fun {h'} (e : Ext h15 h') => Water_ok (AK.ext e) XO.B (i : Nat)
     have hwi := waters_in J.T J.seen i
     have hn1 := nexts_in J.T.l J.seen i
     have hn2 := nexts_lt (D.saw S) (a := i) hi
     have hn3 := ends_in J.T.l J.seen i
     have hn4 := ends_lt XO (a := i) hi
     rw [show (D.saw S).waterR (i : Nat) = ((D.saw S).waters i, 0) from by unfold DrainV.waterR; rw [DrainV.ok_yes XO, DrainV.bank_yes (D := D.saw S) (show (0 : Int) ≤ (i : Nat) ∧ ((i : Nat) : Int) ≤ (D.bs.length : Int) - 1 by omega), DrainV.tr_yes hTr, Int.toNat_natCast]] at hwt
     obtain ⟨N, hN⟩ : ∃ N, (D.saw S).nexts i = N := ⟨_, rfl⟩
     obtain ⟨E, hE⟩ : ∃ E, (D.saw S).endsS i = E := ⟨_, rfl⟩
     obtain ⟨⟨wl, wh⟩, hW⟩ : ∃ W, (D.saw S).waters i = W := ⟨_, rfl⟩
     rw [hN] at hnx hn1 hn2;rw [hE] at hen2 hn3 hn4;rw [hW] at hwt hwi
     rw [← hend] at hn3
     dsimp only at hnx hen2 hwt hwi
     obtain ⟨q1, hq1, hq1'⟩ := bit_one hn1
     obtain ⟨q3, hq3, hq3'⟩ := bit_one hn3
     have hq2 := shr_none (show N < 2 ^ (D.bs.length + 1) from hn2)
     have hq4 := shr_none (show E < 2 ^ D.bs.length from hn4)
     have hnn : ((D.bs.length : Nat) : Int) + 1 = ((D.bs.length + 1 : Nat) : Int) := by omega
     have hin := decide_eq_true hwi
     apply gS;refine gR rfl ?_;iterate 3 refine gP ?_
     refine gO rfl rfl (aOp_indexAddr (i := i) Try.underlying47 sz3 rfl y1 rfl (Nat.ble_eq_true_of_le hi)) rfl ?_;refine gO rfl rfl (aOp_loadE1 (k := 0) ag3 rfl (y2.ext eK) rfl) rfl ?_;refine gO rfl rfl (aOp_add rfl rfl (by constructor <;> omega) hsum) rfl ?_;refine gP ?_;apply gE;apply gS;refine gR rfl ?_;refine gO rfl rfl (ld29 rfl f5 rfl) rfl ?_;refine gP ?_;refine GoR.call rfl rfl (aCF aFunc10 rfl) (hnx eK) ?_ np;rintro v32 h32 ⟨q, x32⟩;cases q;refine ⟨_, rfl, ?_⟩;replace f0 := f0.ext x32;replace f5 := f5.ext x32;replace e0 := e0.trans x32;replace eK := eK.trans x32;iterate 5 refine gP ?_
     apply gE;apply gS;refine gR rfl ?_;refine gO rfl rfl (ld29 rfl f5 rfl) rfl ?_;refine gP ?_;refine GoR.call rfl rfl (aCF aFunc13 rfl) (hen2 eK) ?_ np;rintro v33 h33 ⟨q, x33⟩;cases q;refine ⟨_, rfl, ?_⟩;replace f0 := f0.ext x33;replace f5 := f5.ext x33;replace e0 := e0.trans x33;replace eK := eK.trans x33;iterate 5 refine gP ?_
     apply gE;apply gS;refine gR rfl ?_;refine gO rfl rfl (ld29 rfl f5 rfl) rfl ?_;refine gP ?_;refine GoR.call rfl rfl (aCF aFunc14 rfl) (hwt eK) ?_ np;rintro v34 h34 ⟨q, x34⟩;cases q;refine ⟨_, rfl, ?_⟩;replace f0 := f0.ext x34;replace f5 := f5.ext x34;replace e0 := e0.trans x34;replace eK := eK.trans x34;iterate 3 refine gP ?_
     refine GoR.alloc rfl rfl rfl zt35 rfl rfl fun h35 x35 f35 => ?_;have := e0.1
     have := eK.1
     have := f0.1;have := f5.1;replace f0 := f0.ext x35;replace f5 := f5.ext x35;replace e0 := e0.trans x35;replace eK := eK.trans x35;have := f35.1;refine GoR.store rfl rfl rfl rfl rfl rfl f35 rfl sz35 rfl rfl rfl fun h36 u36 => ?_;replace f35 := u36.has f35;replace f0 := f0.upd u36 (by omega);replace f5 := f5.upd u36 (by omega);replace e0 := e0.upd u36 (by omega);replace eK := eK.upd u36 (by omega);refine gP ?_;apply gE;iterate 2 apply gS
     refine Go.drawnE plan4_2 ?_;refine gQ rfl rfl rfl rfl ?_;refine gQ rfl rfl (kXF rfl rfl) rfl ?_;iterate 2 refine gQ rfl rfl rfl rfl ?_
     refine gQ rfl rfl (kXF rfl rfl) rfl ?_;iterate 3 refine gQ rfl rfl rfl rfl ?_
     refine gQ rfl rfl (kXF rfl rfl) rfl ?_;iterate 4 refine gQ rfl rfl rfl rfl ?_
     refine gQ rfl rfl (aOp_shr rfl rfl (by omega) hq1) rfl ?_;refine gQ rfl rfl (aOp_and1 rfl rfl hq1') rfl ?_;refine gQ rfl rfl (kXF rfl rfl) rfl ?_;iterate 4 refine gQ rfl rfl rfl rfl ?_
     refine gQ rfl rfl (aOp_add rfl rfl (by constructor <;> omega) hnn) rfl ?_;refine gQ rfl rfl (aOp_shr rfl rfl (by omega) hq2) rfl ?_;refine gQ rfl rfl (kXF rfl rfl) rfl ?_;iterate 4 refine gQ rfl rfl rfl rfl ?_
     refine gQ rfl rfl (aOp_shr rfl rfl (by omega) hq3) rfl ?_;refine gQ rfl rfl (aOp_and1 rfl rfl hq3') rfl ?_;refine gQ rfl rfl (kXF rfl rfl) rfl ?_;iterate 4 refine gQ rfl rfl rfl rfl ?_
     refine gQ rfl rfl (aOp_shr rfl rfl (by omega) hq4) rfl ?_;refine gQ rfl rfl (kXF rfl rfl) rfl ?_;iterate 4 refine gQ rfl rfl rfl rfl ?_
     refine gQ rfl rfl (aOp_indexAddr (i := i) Try.underlying47 sz3 rfl w1 rfl (Nat.ble_eq_true_of_le hi)) rfl ?_;refine gQ rfl rfl (aOp_loadE1 (k := 0) ag3 rfl (w2.ext eK) rfl) rfl ?_;refine gQ rfl rfl (ld35 rfl f35 rfl) rfl ?_;refine GoE.call rfl rfl (aCF aFunc29 rfl) (in29_is hin) (dD 8796093022207 42 (dD 8796093022207 41 (dD 8796093022207 40 (dD 8796093022207 39 (dD 8796093022207 38 (dD 8796093022207 37 (dD 8796093022207 36 (dD 8796093022207 35 (dD 8796093022207 34 (dD 8796093022207 33 (dD 8796093022207 32 (dD 8796093022207 31 (dD 8796093022207 30 (dD 8796093022207 29 (dD 8796093022207 28 (dD 8796093022207 27 (dD 8796093022207 26 (dD 8796093022207 25 (dD 8796093022207 24 (dD 8796093022207 23 (dD 8796093022207 22 (dD 8796093022207 21 (dD 8796093022207 20 (dD 8796093022207 19 (dD 8796093022207 18 (dD 8796093022207 17 (dD 8796093022207 16 (dD 8796093022207 15 (dD 8796093022207 14 (dD 8796093022207 13 (dD 8796093022207 12 (dD 8796093022207 11 (dD 8796093022207 10 (dD 8796093022207 9 (dD 8796093022207 8 (dD 8796093022207 7 (dD 8796093022207 6 (dD 8796093022207 5 (dD 8796093022207 4 (dD 8796093022207 3 (dD 8796093022207 2 (dD 8796093022207 1 (dD 8796093022207 0 rfl))))))))))))))))))))))))))))))))))))))))))) ?_ np;rintro v37 h37 ⟨q, x37⟩;cases q;replace f0 := f0.ext x37;replace f5 := f5.ext x37;replace e0 := e0.trans x37;replace eK := eK.trans x37;refine ⟨recheck_nil, _, rfl, ?_⟩;iterate 2 refine gQ rfl rfl rfl rfl ?_
     refine GoE.end rfl ?_;refine gC (b := false) rfl ?_;refine gD ?_;apply gS;refine gR rfl ?_;iterate 2 refine gP ?_
     apply gE;refine Go.block noJ_ok ?_
     refine Go.loopKeep (fun j : Nat => [(2, .ptr h.next 0), (5, .ptr bx 0), (6, sl), (7, sy), (8, .int .i64 D.bs.length), (9, v10), (10, .slice bt 0 D.bs.length D.bs.length), (13, .int .i64 (su : Nat)), (14, .int .i64 (pe : Nat)), (17, .int .i64 (st : Nat)), (19, .int .i64 (sumI (ys.take (i + 1)))), (20, .int .i64 (sumI ((roots (D.course 0 l) (i + 1)).map (wat (D.course 0 l) ys)))), (114, .int .i64 D.bs.length), (115, .int .i64 (i : Nat)), (21, .int .i64 (i : Nat)), (211, .int .i64 D.bs.length), (212, .int .i64 (j : Nat))])
      (fun m j h' => m + j = D.bs.length ∧ Ext h h' ∧ Ext h15 h' ∧ Has h' h.next (.cells .plain [b, d, r, s] 29) ∧ Has h' bx (.cells .plain [b, d, r, sw] 29))
      (n := D.bs.length) 0 ⟨rfl, rfl, rfl, rfl, rfl, rfl, rfl, rfl, rfl, rfl, rfl, rfl, rfl, rfl, rfl, rfl, rfl, trivial⟩ ⟨rfl, e0, eK, f0, f5⟩ ?_
     clear e0 eK f0 f5;rintro m3 j h40 ⟨hm3, e0, eK, f0, f5⟩ again3
     by_cases hj : j < D.bs.length
     ·by_cases hij : i = j
      ·subst hij;apply gS;refine gR rfl ?_;refine gO rfl rfl (kLT rfl rfl) rfl ?_;apply gE;apply gS;refine gC (b := true) rfl ?_;refine gD ?_;apply gS;refine Go.block noJ_ok ?_;apply gS;refine gR rfl ?_;iterate 2 refine gP ?_
       apply gE;iterate 2 apply gS
       refine gR rfl ?_;iterate 2 refine gP ?_
       refine gO rfl rfl (kET rfl rfl) rfl ?_;apply gE;refine gC (b := true) rfl ?_;refine gD ?_;refine gR rfl ?_;refine gO rfl rfl (aA rfl rfl) rfl ?_;refine gP ?_;apply gE;exact again3 (m3 - 1) (i + 1) _ _ (by omega) ⟨rfl, rfl, rfl, rfl, rfl, rfl, rfl, rfl, rfl, rfl, rfl, rfl, rfl, rfl, rfl, rfl, rfl, trivial⟩ ⟨by omega, e0, eK, f0, f5⟩
      ·have hfi := flow_in J.T J.seen i j
       have hpo : PairOk D.bs.length ((i : Int), (j : Int)) := ⟨⟨by dsimp only; omega, by dsimp only; omega⟩, ⟨by dsimp only; omega, by dsimp only; omega⟩, by dsimp only; omega⟩
       have hfl := fun {h'} (e : Ext h15 h') => Flow_ok (AK.ext e) XO.B (i : Nat) (j : Nat)
       rw [show (D.saw S).flowR (i : Nat) (j : Nat) = ((D.saw S).flow i j, 0) from by unfold DrainV.flowR; rw [DrainV.ok_yes XO, DrainV.pair_yes (D := D.saw S) hpo, DrainV.tr_yes hTr, Int.toNat_natCast, Int.toNat_natCast]] at hfl
       obtain ⟨⟨fl, fh⟩, hF2⟩ : ∃ W, (D.saw S).flow i j = W := ⟨_, rfl⟩
       rw [hF2] at hfl hfi
       dsimp only at hfl hfi
       obtain ⟨z, hz⟩ : ∃ z, sgn D.bs.length (nx (D.course 0 l) i) = z := ⟨_, rfl⟩
       have hzj : z = (j : Int) ↔ nx (D.course 0 l) i = j := by
        rw [← hz]
        unfold sgn
        split <;> omega
       rw [hz] at p2
       by_cases hq5 : nx (D.course 0 l) i = j
       ·have hzj := hzj.2 hq5
        rw [if_pos hq5] at hfi
        have hin2 := decide_eq_true hfi
        apply gS;refine gR rfl ?_;refine gO rfl rfl (kLT rfl rfl) rfl ?_;apply gE;apply gS;refine gC (b := true) rfl ?_;refine gD ?_;apply gS;refine Go.block noJ_ok ?_;apply gS;refine gR rfl ?_;iterate 2 refine gP ?_
        apply gE;iterate 2 apply gS
        refine gR rfl ?_;iterate 2 refine gP ?_
        refine gO rfl rfl (kEF rfl rfl) rfl ?_;apply gE;refine gC (b := false) rfl ?_;refine gD ?_;apply gS;refine gR rfl ?_;refine gP ?_;apply gE;iterate 2 apply gS
        refine gR rfl ?_;iterate 2 refine gP ?_
        refine gO rfl rfl (aOp_indexAddr (i := i) Try.underlying47 sz3 rfl p1 rfl (Nat.ble_eq_true_of_le hi)) rfl ?_;refine gO rfl rfl (aOp_loadE1 (k := 0) ag3 rfl (p2.ext eK) rfl) rfl ?_;refine gP ?_;refine gO rfl rfl (kET rfl rfl) rfl ?_;apply gE;refine gC (b := true) rfl ?_;refine gR rfl ?_;iterate 2 refine gP ?_
        refine gO rfl rfl (aOp_indexAddr (i := i) Try.underlying47 sz3 rfl w1 rfl (Nat.ble_eq_true_of_le hi)) rfl ?_;refine gO rfl rfl (aOp_loadE1 (k := 0) ag3 rfl (w2.ext eK) rfl) rfl ?_;refine gP ?_;apply gE;apply gS;refine gR rfl ?_;refine gO rfl rfl (ld29 rfl f5 rfl) rfl ?_;iterate 2 refine gP ?_
        refine GoR.call rfl rfl (aCF aFunc15 rfl) (hfl eK) ?_ np;rintro v41 h41 ⟨q, x41⟩;cases q;refine ⟨_, rfl, ?_⟩;replace f0 := f0.ext x41;replace f5 := f5.ext x41;replace e0 := e0.trans x41;replace eK := eK.trans x41;iterate 3 refine gP ?_
        refine GoR.alloc rfl rfl rfl zt35 rfl rfl fun h42 x42 f42 => ?_;have := e0.1
        have := eK.1
        have := f0.1;have := f5.1;replace f0 := f0.ext x42;replace f5 := f5.ext x42;replace e0 := e0.trans x42;replace eK := eK.trans x42;have := f42.1;refine GoR.store rfl rfl rfl rfl rfl rfl f42 rfl sz35 rfl rfl rfl fun h43 u43 => ?_;replace f42 := u43.has f42;replace f0 := f0.upd u43 (by omega);replace f5 := f5.upd u43 (by omega);replace e0 := e0.upd u43 (by omega);replace eK := eK.upd u43 (by omega);refine gP ?_;apply gE;apply gS;refine gR rfl ?_;refine gP ?_;refine gO rfl rfl (kXF rfl rfl) rfl ?_;iterate 2 refine gP ?_
        refine gO rfl rfl (ld35 rfl f42 rfl) rfl ?_;refine GoR.call rfl rfl (aCF aFunc29 rfl) (in29_is hin2) ?_ np;rintro v44 h44 ⟨q, x44⟩;cases q;refine ⟨_, rfl, ?_⟩;replace f0 := f0.ext x44;replace f5 := f5.ext x44;replace e0 := e0.trans x44;replace eK := eK.trans x44;iterate 2 refine gP ?_
        apply gE;refine gC (b := false) rfl ?_;refine gD ?_;refine Go.inBlock noJ_ok ?_;refine gR rfl ?_;refine gO rfl rfl (aA rfl rfl) rfl ?_;refine gP ?_;apply gE;exact again3 (m3 - 1) (j + 1) _ _ (by omega) ⟨rfl, rfl, rfl, rfl, rfl, rfl, rfl, rfl, rfl, rfl, rfl, rfl, rfl, rfl, rfl, rfl, rfl, trivial⟩ ⟨by omega, e0, eK, f0, f5⟩
       ·have hzj : ¬ z = (j : Int) := fun q => hq5 (hzj.1 q)
        rw [if_neg hq5] at hfi
        have hin2 := decide_eq_true hfi
        apply gS;refine gR rfl ?_;refine gO rfl rfl (kLT rfl rfl) rfl ?_;apply gE;apply gS;refine gC (b := true) rfl ?_;refine gD ?_;apply gS;refine Go.block noJ_ok ?_;apply gS;refine gR rfl ?_;iterate 2 refine gP ?_
        apply gE;iterate 2 apply gS
        refine gR rfl ?_;iterate 2 refine gP ?_
        refine gO rfl rfl (kEF rfl rfl) rfl ?_;apply gE;refine gC (b := false) rfl ?_;refine gD ?_;apply gS;refine gR rfl ?_;refine gP ?_;apply gE;iterate 2 apply gS
        refine gR rfl ?_;iterate 2 refine gP ?_
        refine gO rfl rfl (aOp_indexAddr (i := i) Try.underlying47 sz3 rfl p1 rfl (Nat.ble_eq_true_of_le hi)) rfl ?_;refine gO rfl rfl (aOp_loadE1 (k := 0) ag3 rfl (p2.ext eK) rfl) rfl ?_;refine gP ?_;refine gO rfl rfl (kEF rfl rfl) rfl ?_;apply gE;refine gC (b := false) rfl ?_;refine gD ?_;apply gS;refine gR rfl ?_;refine gO rfl rfl (ld29 rfl f5 rfl) rfl ?_;iterate 2 refine gP ?_
        refine GoR.call rfl rfl (aCF aFunc15 rfl) (hfl eK) ?_ np;rintro v41 h41 ⟨q, x41⟩;cases q;refine ⟨_, rfl, ?_⟩;replace f0 := f0.ext x41;replace f5 := f5.ext x41;replace e0 := e0.trans x41;replace eK := eK.trans x41;iterate 3 refine gP ?_
        refine GoR.alloc rfl rfl rfl zt35 rfl rfl fun h42 x42 f42 => ?_;have := e0.1
        have := eK.1
        have := f0.1;have := f5.1;replace f0 := f0.ext x42;replace f5 := f5.ext x42;replace e0 := e0.trans x42;replace eK := eK.trans x42;have := f42.1;refine GoR.store rfl rfl rfl rfl rfl rfl f42 rfl sz35 rfl rfl rfl fun h43 u43 => ?_;replace f42 := u43.has f42;replace f0 := f0.upd u43 (by omega);replace f5 := f5.upd u43 (by omega);replace e0 := e0.upd u43 (by omega);replace eK := eK.upd u43 (by omega);refine gP ?_;apply gE;apply gS;refine gR rfl ?_;refine gP ?_;refine gO rfl rfl (kXF rfl rfl) rfl ?_;iterate 2 refine gP ?_
        refine gO rfl rfl (ld35 rfl f42 rfl) rfl ?_;refine GoR.call rfl rfl (aCF aFunc29 rfl) (in29_is hin2) ?_ np;rintro v44 h44 ⟨q, x44⟩;cases q;refine ⟨_, rfl, ?_⟩;replace f0 := f0.ext x44;replace f5 := f5.ext x44;replace e0 := e0.trans x44;replace eK := eK.trans x44;iterate 2 refine gP ?_
        apply gE;refine gC (b := false) rfl ?_;refine gD ?_;refine Go.inBlock noJ_ok ?_;refine gR rfl ?_;refine gO rfl rfl (aA rfl rfl) rfl ?_;refine gP ?_;apply gE;exact again3 (m3 - 1) (j + 1) _ _ (by omega) ⟨rfl, rfl, rfl, rfl, rfl, rfl, rfl, rfl, rfl, rfl, rfl, rfl, rfl, rfl, rfl, rfl, rfl, trivial⟩ ⟨by omega, e0, eK, f0, f5⟩
     ·clear again3;apply gS;refine gR rfl ?_;refine gO rfl rfl (kLF rfl rfl) rfl ?_;apply gE;apply gS;refine gC (b := false) rfl ?_;refine gD ?_;refine Go.inBlock noJ_ok ?_;refine gR rfl ?_;refine gO rfl rfl (aA rfl rfl) rfl ?_;refine gP ?_;apply gE;exact again (m - 1) (i + 1) _ _ (by omega) ⟨rfl, rfl, rfl, rfl, rfl, rfl, rfl, rfl, rfl, rfl, rfl, rfl, rfl, rfl, trivial⟩ ⟨by omega, e0, eK, f0, f5⟩
  ·have hin : i = D.bs.length := by omega
   subst hin;clear again
   have dn2 := course_down O J.T.l st
   have hcl2 := course_len D st l
   have hlsn2 : (sgnC (D.course st l)).length = D.bs.length := by unfold sgnC; rw [List.length_map, hcl2]
   apply gS;refine gR rfl ?_;refine gO rfl rfl (kLF rfl rfl) rfl ?_;apply gE;apply gS;refine gC (b := false) rfl ?_;refine gD ?_;apply gS;refine gR rfl ?_;refine gO rfl rfl (ld29 rfl f0 rfl) rfl ?_;iterate 2 refine gP ?_
   refine GoR.call rfl rfl (aCF aFunc26 rfl) (courses26_e O (l := l) (st := st) hll (A.ext e0) (S1K.ext eK)) ?_ (by rintro _ _ ⟨sn2, q, _, Gn2, e2⟩; cases q);rintro v21 h21 ⟨sn2, q, x21, Gn2, e2⟩;cases q;refine ⟨_, rfl, ?_⟩;have := e0.1
   have := eK.1
   replace f0 := f0.ext x21;replace f5 := f5.ext x21;replace e0 := e0.trans x21;replace eK := eK.trans x21;refine gP ?_;apply gE;apply gS;refine gR rfl ?_;iterate 2 refine gP ?_
   refine GoR.call rfl rfl (aCF aFunc27 rfl) (waters27_e dn2 (by rw [hcl2]; exact hnb) (by rw [hcl2]; exact hyl) hy20 (ints_slice hlsn2 (Gn2.ext e2)) (S2K.ext eK)) ?_ (by rintro _ _ ⟨bt2, q, _, hbt2, _⟩; cases q);rintro v22 h22 ⟨bt2, q, x22, hbt2, f22⟩;cases q;refine ⟨_, rfl, ?_⟩;have := e2.1;have := e0.1
   have := eK.1
   replace f0 := f0.ext x22;replace f5 := f5.ext x22;replace e2 := e2.trans x22;replace e0 := e0.trans x22;replace eK := eK.trans x22;refine gP ?_;apply gE;iterate 2 apply gS
   refine gR rfl ?_;refine gO rfl rfl (fa29_2 rfl) rfl ?_;refine gO rfl rfl (ld27 rfl f0 rfl) rfl ?_;refine gO rfl rfl (aOp_lenSlice Try.underlying27 rfl hl3) rfl ?_;refine gP ?_;apply gE;refine Go.block noJ_ok ?_
   have SN2 := ints_slice hlsn2 (Gn2.ext e2)
   have SW2 : SliceOf h22 1 (.slice bt2 0 (D.course st l).length (D.course st l).length) ((watL (D.course st l) ys).map fun x => [AVal.int .i64 x]) := lit_slice (by unfold watL; simp) f22
   have hlw2 : (watL (D.course st l) ys).length = D.bs.length := by unfold watL; simp [hcl2]
   rw [hcl2] at *
   have hcl2 := course_len D st l
   have g1 := SN.same
   have g2 := SW.same
   have g3 := SN2.same
   have g4 := SW2.same
   have eL : Ext h22 h22 := Ext.refl _
   clear e2 Gn2
   refine Go.loopKeep (fun k : Nat => [(9, v10), (10, .slice bt 0 D.bs.length D.bs.length), (13, .int .i64 (su : Nat)), (14, .int .i64 (pe : Nat)), (19, .int .i64 (sumI (ys.take D.bs.length))), (20, .int .i64 (sumI ((roots (D.course 0 l) D.bs.length).map (wat (D.course 0 l) ys)))), (34, v21), (35, .slice bt2 0 D.bs.length D.bs.length), (253, r), (254, .int .i64 D.rs.length), (255, .int .i64 (k : Nat))])
    (fun m k h' => m + k = D.rs.length ∧ Ext h h' ∧ Ext h15 h' ∧ Ext h22 h')
    (n := D.rs.length) 0 ⟨rfl, rfl, rfl, rfl, rfl, rfl, rfl, rfl, rfl, rfl, rfl, trivial⟩ ⟨rfl, e0, eK, eL⟩ ?_
   clear e0 eK eL f0 f5 f22;rintro m k h30 ⟨hm, e0, eK, eL⟩ again
   by_cases hk : k < D.rs.length
   ·obtain ⟨⟨ro, rt, rm⟩, hr⟩ : ∃ x, D.rs[k]? = some x := ⟨D.rs[k], by simp [hk]⟩
    have hro := O.r _ (List.mem_of_getElem? hr)
    unfold RtV.Ok PairOk at hro
    dsimp only at hro
    obtain ⟨o, rfl⟩ := Int.eq_ofNat_of_zero_le hro.1.1.1
    obtain ⟨t, rfl⟩ := Int.eq_ofNat_of_zero_le hro.1.2.1.1
    have ho : o < D.bs.length := by omega
    have ht : t < D.bs.length := by omega
    obtain ⟨br, or1, r1, r2⟩ := A.rs.at (i := k) (l := RtV.cells ⟨(o : Int), (t : Int), rm⟩) (by rw [List.getElem?_map, hr]; rfl)
    rw [List.length_map] at r1
    unfold RtV.cells at r2
    obtain ⟨z, hz⟩ : ∃ z, sgn D.bs.length (nx (D.course 0 l) o) = z := ⟨_, rfl⟩
    have hle1 := dn.le o (by omega)
    have hzt : z = (t : Int) ↔ nx (D.course 0 l) o = t := by
     rw [← hz]
     unfold sgn
     split <;> omega
    obtain ⟨z2, hz2⟩ : ∃ z, sgn D.bs.length (nx (D.course st l) o) = z := ⟨_, rfl⟩
    have hle2 := dn2.le o (by omega)
    have hzt2 : z2 = (t : Int) ↔ nx (D.course st l) o = t := by
     rw [← hz2]
     unfold sgn
     split <;> omega
    obtain ⟨bn, on, p1, p2⟩ := SN.at (i := o) (l := [.int .i64 z]) (by rw [List.getElem?_map, sgnC_at ho, hz]; rfl)
    rw [List.length_map, hlsn] at p1
    obtain ⟨bw, ow, w1, w2⟩ := SW.at (i := o) (l := [.int .i64 (wat (D.course 0 l) ys o)]) (by rw [List.getElem?_map, watL_at (by omega)]; rfl)
    rw [List.length_map, hlw] at w1
    obtain ⟨bn2, on2, p3, p4⟩ := SN2.at (i := o) (l := [.int .i64 z2]) (by rw [List.getElem?_map, sgnC_at ho, hz2]; rfl)
    rw [List.length_map, hlsn2] at p3
    obtain ⟨bw2, ow2, w3, w4⟩ := SW2.at (i := o) (l := [.int .i64 (wat (D.course st l) ys o)]) (by rw [List.getElem?_map, watL_at (by omega)]; rfl)
    rw [List.length_map, hlw2] at w3
    have hbs1 := brk_stopped O J.T J.seen J.n hro.2.1 hr
    rw [hst] at hbs1;apply gS;refine gR rfl ?_;refine gO rfl rfl (kLT rfl rfl) rfl ?_;apply gE;apply gS;refine gC (b := true) rfl ?_;refine gD ?_;apply gS;refine Go.block noJ_ok ?_;apply gS;refine gR rfl ?_;refine gP ?_;refine gO rfl rfl (aOp_indexAddr (i := k) Try.underlying27 sz57 rfl r1 rfl (Nat.ble_eq_true_of_le hk)) rfl ?_;refine gO rfl rfl (aOp_loadE ag57 sz57 rfl (r2.ext e0)) rfl ?_;refine GoR.alloc rfl rfl rfl zt57 rfl rfl fun h31 x31 f31 => ?_;have := e0.1
    have := eK.1
    have := eL.1
    replace e0 := e0.trans x31;replace eK := eK.trans x31;replace eL := eL.trans x31;have := f31.1;refine gP ?_;refine GoR.store rfl rfl rfl rfl rfl rfl f31 rfl sz57 rfl rfl rfl fun h32 u32 => ?_;replace f31 := u32.has f31;replace e0 := e0.upd u32 (by omega);replace eK := eK.upd u32 (by omega);replace eL := eL.upd u32 (by omega);apply gE
    refine Go.seq noJ_ok (Go.join (fun v : Bool => [(9, v10), (10, .slice bt 0 D.bs.length D.bs.length), (13, .int .i64 (su : Nat)), (14, .int .i64 (pe : Nat)), (19, .int .i64 (sumI (ys.take D.bs.length))), (20, .int .i64 (sumI ((roots (D.course 0 l) D.bs.length).map (wat (D.course 0 l) ys)))), (34, v21), (35, .slice bt2 0 D.bs.length D.bs.length), (253, r), (254, .int .i64 D.rs.length), (255, .int .i64 (k : Nat)), (36, .int .i64 (k : Nat)), (37, .ptr h30.next 0), (38, .bool v)])
     (fun v h' => (v = true ↔ brk (D.course 0 l) ys o t rm) ∧ Ext h h' ∧ Ext h15 h' ∧ Ext h22 h' ∧ Has h' h30.next (.cells .plain [.int .i64 (o : Nat), .int .i64 (t : Nat), .int .i64 rm] 57)) ?_ ?_)
    ·intro k' done
     by_cases b1 : nx (D.course 0 l) o = t
     ·have hz1 := hzt.2 b1
      by_cases b2 : rm < wat (D.course 0 l) ys o
      ·refine Go.drawnE plan4_3 ?_;refine gQ rfl rfl rfl rfl ?_;refine gQ rfl rfl (fa57_0 rfl) rfl ?_;refine gQ rfl rfl (ld3 rfl f31 rfl) rfl ?_;refine gQ rfl rfl (aOp_indexAddr (i := o) Try.underlying47 sz3 rfl p1 rfl (Nat.ble_eq_true_of_le ho)) rfl ?_;refine gQ rfl rfl (aOp_loadE1 (k := 0) ag3 rfl (p2.ext eK) rfl) rfl ?_;refine gQ rfl rfl (fa57_1 rfl) rfl ?_;refine gQ rfl rfl (ld3 rfl f31 rfl) rfl ?_;refine gQ rfl rfl (kET rfl rfl) rfl ?_;iterate 2 refine gQ rfl rfl rfl rfl ?_
       refine gQ rfl rfl (fa57_0 rfl) rfl ?_;refine gQ rfl rfl (ld3 rfl f31 rfl) rfl ?_;refine gQ rfl rfl (aOp_indexAddr (i := o) Try.underlying47 sz3 rfl w1 rfl (Nat.ble_eq_true_of_le ho)) rfl ?_;refine gQ rfl rfl (aOp_loadE1 (k := 0) ag3 rfl (w2.ext eK) rfl) rfl ?_;refine gQ rfl rfl (fa57_2 rfl) rfl ?_;refine gQ rfl rfl (ld3 rfl f31 rfl) rfl ?_;refine gQ rfl rfl (kGT rfl rfl) rfl ?_;iterate 2 refine gQ rfl rfl rfl rfl ?_
       refine GoE.end rfl ?_;exact done true _ _ ⟨rfl, rfl, rfl, rfl, rfl, rfl, rfl, rfl, rfl, rfl, rfl, rfl, rfl, rfl, trivial⟩ ⟨⟨fun _ => ⟨b1, b2⟩, fun _ => rfl⟩, e0, eK, eL, by assumption⟩
      ·refine Go.drawnE plan4_3 ?_;refine gQ rfl rfl rfl rfl ?_;refine gQ rfl rfl (fa57_0 rfl) rfl ?_;refine gQ rfl rfl (ld3 rfl f31 rfl) rfl ?_;refine gQ rfl rfl (aOp_indexAddr (i := o) Try.underlying47 sz3 rfl p1 rfl (Nat.ble_eq_true_of_le ho)) rfl ?_;refine gQ rfl rfl (aOp_loadE1 (k := 0) ag3 rfl (p2.ext eK) rfl) rfl ?_;refine gQ rfl rfl (fa57_1 rfl) rfl ?_;refine gQ rfl rfl (ld3 rfl f31 rfl) rfl ?_;refine gQ rfl rfl (kET rfl rfl) rfl ?_;iterate 2 refine gQ rfl rfl rfl rfl ?_
       refine gQ rfl rfl (fa57_0 rfl) rfl ?_;refine gQ rfl rfl (ld3 rfl f31 rfl) rfl ?_;refine gQ rfl rfl (aOp_indexAddr (i := o) Try.underlying47 sz3 rfl w1 rfl (Nat.ble_eq_true_of_le ho)) rfl ?_;refine gQ rfl rfl (aOp_loadE1 (k := 0) ag3 rfl (w2.ext eK) rfl) rfl ?_;refine gQ rfl rfl (fa57_2 rfl) rfl ?_;refine gQ rfl rfl (ld3 rfl f31 rfl) rfl ?_;refine gQ rfl rfl (kGF rfl rfl) rfl ?_;iterate 2 refine gQ rfl rfl rfl rfl ?_
       refine GoE.end rfl ?_;exact done false _ _ ⟨rfl, rfl, rfl, rfl, rfl, rfl, rfl, rfl, rfl, rfl, rfl, rfl, rfl, rfl, trivial⟩ ⟨⟨fun q => (by cases q), fun q => absurd q.2 b2⟩, e0, eK, eL, by assumption⟩
     ·have hz1 : ¬ z = (t : Int) := fun q => b1 (hzt.1 q)
      refine Go.drawnE plan4_3 ?_;refine gQ rfl rfl rfl rfl ?_;refine gQ rfl rfl (fa57_0 rfl) rfl ?_;refine gQ rfl rfl (ld3 rfl f31 rfl) rfl ?_;refine gQ rfl rfl (aOp_indexAddr (i := o) Try.underlying47 sz3 rfl p1 rfl (Nat.ble_eq_true_of_le ho)) rfl ?_;refine gQ rfl rfl (aOp_loadE1 (k := 0) ag3 rfl (p2.ext eK) rfl) rfl ?_;refine gQ rfl rfl (fa57_1 rfl) rfl ?_;refine gQ rfl rfl (ld3 rfl f31 rfl) rfl ?_;refine gQ rfl rfl (kEF rfl rfl) rfl ?_;refine gQ rfl rfl rfl rfl ?_;iterate 8 refine GoE.skip rfl rfl rfl ?_
      iterate 2 refine gQ rfl rfl rfl rfl ?_
      refine GoE.end rfl ?_;exact done false _ _ ⟨rfl, rfl, rfl, rfl, rfl, rfl, rfl, rfl, rfl, rfl, rfl, rfl, rfl, rfl, trivial⟩ ⟨⟨fun q => (by cases q), fun q => absurd q.1 b1⟩, e0, eK, eL, by assumption⟩
    ·clear e0 eK eL f31;rintro v h33 ⟨hv, e0, eK, eL, f31⟩
     cases v with
     | true =>
      have hpb := brk_perhaps J.T J.seen hr (hv.1 rfl)
      rw [hpe] at hpb
      obtain ⟨q1, hq1, hq1'⟩ := bit_one hpb
      by_cases b3 : nx (D.course st l) o = t
      ·have hz3 := hzt2.2 b3
       have b4 : ¬ rm < wat (D.course st l) ys o := fun q => hbs1 ⟨b3, q⟩
       apply gS;refine Go.drawnE plan4_4 ?_;iterate 4 refine gQ rfl rfl rfl rfl ?_
       refine gQ rfl rfl (aOp_shr rfl rfl (by omega) hq1) rfl ?_;refine gQ rfl rfl (aOp_and1 rfl rfl hq1') rfl ?_;refine gQ rfl rfl (kEF rfl rfl) rfl ?_;iterate 5 refine gQ rfl rfl rfl rfl ?_
       iterate 5 refine GoE.skip rfl rfl rfl ?_
       iterate 4 refine gQ rfl rfl rfl rfl ?_
       refine gQ rfl rfl (fa57_0 rfl) rfl ?_;refine gQ rfl rfl (ld3 rfl f31 rfl) rfl ?_;refine gQ rfl rfl (aOp_indexAddr (i := o) Try.underlying47 sz3 rfl p3 rfl (Nat.ble_eq_true_of_le ho)) rfl ?_;refine gQ rfl rfl (aOp_loadE1 (k := 0) ag3 rfl (p4.ext eL) rfl) rfl ?_;refine gQ rfl rfl (fa57_1 rfl) rfl ?_;refine gQ rfl rfl (ld3 rfl f31 rfl) rfl ?_;refine gQ rfl rfl (kET rfl rfl) rfl ?_;iterate 2 refine gQ rfl rfl rfl rfl ?_
       refine gQ rfl rfl (fa57_0 rfl) rfl ?_;refine gQ rfl rfl (ld3 rfl f31 rfl) rfl ?_;refine gQ rfl rfl (aOp_indexAddr (i := o) Try.underlying47 sz3 rfl w3 rfl (Nat.ble_eq_true_of_le ho)) rfl ?_;refine gQ rfl rfl (aOp_loadE1 (k := 0) ag3 rfl (w4.ext eL) rfl) rfl ?_;refine gQ rfl rfl (fa57_2 rfl) rfl ?_;refine gQ rfl rfl (ld3 rfl f31 rfl) rfl ?_;refine gQ rfl rfl (kGF rfl rfl) rfl ?_;iterate 2 refine gQ rfl rfl rfl rfl ?_
       refine GoE.end rfl ?_;refine gC (b := false) rfl ?_;refine gD ?_;refine Go.inBlock noJ_ok ?_;refine gR rfl ?_;refine gO rfl rfl (aA rfl rfl) rfl ?_;refine gP ?_;apply gE;exact again (m - 1) (k + 1) _ _ (by omega) ⟨rfl, rfl, rfl, rfl, rfl, rfl, rfl, rfl, rfl, rfl, rfl, trivial⟩ ⟨by omega, e0, eK, eL⟩
      ·have hz3 : ¬ z2 = (t : Int) := fun q => b3 (hzt2.1 q)
       apply gS;refine Go.drawnE plan4_4 ?_;iterate 4 refine gQ rfl rfl rfl rfl ?_
       refine gQ rfl rfl (aOp_shr rfl rfl (by omega) hq1) rfl ?_;refine gQ rfl rfl (aOp_and1 rfl rfl hq1') rfl ?_;refine gQ rfl rfl (kEF rfl rfl) rfl ?_;iterate 5 refine gQ rfl rfl rfl rfl ?_
       iterate 5 refine GoE.skip rfl rfl rfl ?_
       iterate 4 refine gQ rfl rfl rfl rfl ?_
       refine gQ rfl rfl (fa57_0 rfl) rfl ?_;refine gQ rfl rfl (ld3 rfl f31 rfl) rfl ?_;refine gQ rfl rfl (aOp_indexAddr (i := o) Try.underlying47 sz3 rfl p3 rfl (Nat.ble_eq_true_of_le ho)) rfl ?_;refine gQ rfl rfl (aOp_loadE1 (k := 0) ag3 rfl (p4.ext eL) rfl) rfl ?_;refine gQ rfl rfl (fa57_1 rfl) rfl ?_;refine gQ rfl rfl (ld3 rfl f31 rfl) rfl ?_;refine gQ rfl rfl (kEF rfl rfl) rfl ?_;refine gQ rfl rfl rfl rfl ?_;iterate 8 refine GoE.skip rfl rfl rfl ?_
       iterate 2 refine gQ rfl rfl rfl rfl ?_
       refine GoE.end rfl ?_;refine gC (b := false) rfl ?_;refine gD ?_;refine Go.inBlock noJ_ok ?_;refine gR rfl ?_;refine gO rfl rfl (aA rfl rfl) rfl ?_;refine gP ?_;apply gE;exact again (m - 1) (k + 1) _ _ (by omega) ⟨rfl, rfl, rfl, rfl, rfl, rfl, rfl, rfl, rfl, rfl, rfl, trivial⟩ ⟨by omega, e0, eK, eL⟩
     | false =>
      have hsb := brk_surely J.T J.seen hro.2.1 hr (fun q => by have := hv.2 q; cases this)
      rw [hsu] at hsb
      obtain ⟨q1, hq1, hq1'⟩ := bit_zero hsb
      by_cases b3 : nx (D.course st l) o = t
      ·have hz3 := hzt2.2 b3
       have b4 : ¬ rm < wat (D.course st l) ys o := fun q => hbs1 ⟨b3, q⟩
       apply gS;refine Go.drawnE plan4_4 ?_;iterate 2 refine gQ rfl rfl rfl rfl ?_
       iterate 5 refine GoE.skip rfl rfl rfl ?_
       iterate 7 refine gQ rfl rfl rfl rfl ?_
       refine gQ rfl rfl (aOp_shr rfl rfl (by omega) hq1) rfl ?_;refine gQ rfl rfl (aOp_and1 rfl rfl hq1') rfl ?_;refine gQ rfl rfl (kEF rfl rfl) rfl ?_;iterate 4 refine gQ rfl rfl rfl rfl ?_
       refine gQ rfl rfl (fa57_0 rfl) rfl ?_;refine gQ rfl rfl (ld3 rfl f31 rfl) rfl ?_;refine gQ rfl rfl (aOp_indexAddr (i := o) Try.underlying47 sz3 rfl p3 rfl (Nat.ble_eq_true_of_le ho)) rfl ?_;refine gQ rfl rfl (aOp_loadE1 (k := 0) ag3 rfl (p4.ext eL) rfl) rfl ?_;refine gQ rfl rfl (fa57_1 rfl) rfl ?_;refine gQ rfl rfl (ld3 rfl f31 rfl) rfl ?_;refine gQ rfl rfl (kET rfl rfl) rfl ?_;iterate 2 refine gQ rfl rfl rfl rfl ?_
       refine gQ rfl rfl (fa57_0 rfl) rfl ?_;refine gQ rfl rfl (ld3 rfl f31 rfl) rfl ?_;refine gQ rfl rfl (aOp_indexAddr (i := o) Try.underlying47 sz3 rfl w3 rfl (Nat.ble_eq_true_of_le ho)) rfl ?_;refine gQ rfl rfl (aOp_loadE1 (k := 0) ag3 rfl (w4.ext eL) rfl) rfl ?_;refine gQ rfl rfl (fa57_2 rfl) rfl ?_;refine gQ rfl rfl (ld3 rfl f31 rfl) rfl ?_;refine gQ rfl rfl (kGF rfl rfl) rfl ?_;iterate 2 refine gQ rfl rfl rfl rfl ?_
       refine GoE.end rfl ?_;refine gC (b := false) rfl ?_;refine gD ?_;refine Go.inBlock noJ_ok ?_;refine gR rfl ?_;refine gO rfl rfl (aA rfl rfl) rfl ?_;refine gP ?_;apply gE;exact again (m - 1) (k + 1) _ _ (by omega) ⟨rfl, rfl, rfl, rfl, rfl, rfl, rfl, rfl, rfl, rfl, rfl, trivial⟩ ⟨by omega, e0, eK, eL⟩
      ·have hz3 : ¬ z2 = (t : Int) := fun q => b3 (hzt2.1 q)
       apply gS;refine Go.drawnE plan4_4 ?_;iterate 2 refine gQ rfl rfl rfl rfl ?_
       iterate 5 refine GoE.skip rfl rfl rfl ?_
       iterate 7 refine gQ rfl rfl rfl rfl ?_
       refine gQ rfl rfl (aOp_shr rfl rfl (by omega) hq1) rfl ?_;refine gQ rfl rfl (aOp_and1 rfl rfl hq1') rfl ?_;refine gQ rfl rfl (kEF rfl rfl) rfl ?_;iterate 4 refine gQ rfl rfl rfl rfl ?_
       refine gQ rfl rfl (fa57_0 rfl) rfl ?_;refine gQ rfl rfl (ld3 rfl f31 rfl) rfl ?_;refine gQ rfl rfl (aOp_indexAddr (i := o) Try.underlying47 sz3 rfl p3 rfl (Nat.ble_eq_true_of_le ho)) rfl ?_;refine gQ rfl rfl (aOp_loadE1 (k := 0) ag3 rfl (p4.ext eL) rfl) rfl ?_;refine gQ rfl rfl (fa57_1 rfl) rfl ?_;refine gQ rfl rfl (ld3 rfl f31 rfl) rfl ?_;refine gQ rfl rfl (kEF rfl rfl) rfl ?_;refine gQ rfl rfl rfl rfl ?_;iterate 8 refine GoE.skip rfl rfl rfl ?_
       iterate 2 refine gQ rfl rfl rfl rfl ?_
       refine GoE.end rfl ?_;refine gC (b := false) rfl ?_;refine gD ?_;refine Go.inBlock noJ_ok ?_;refine gR rfl ?_;refine gO rfl rfl (aA rfl rfl) rfl ?_;refine gP ?_;apply gE;exact again (m - 1) (k + 1) _ _ (by omega) ⟨rfl, rfl, rfl, rfl, rfl, rfl, rfl, rfl, rfl, rfl, rfl, trivial⟩ ⟨by omega, e0, eK, eL⟩
   ·have hkn : k = D.rs.length := by omega
    subst hkn;clear again
    have hso : sumI (ys.take D.bs.length) = sumI ((roots (D.course 0 l) D.bs.length).map (wat (D.course 0 l) ys)) := by
     have h1 := sum_out dn (ys := ys) (by rw [hcl]; exact hyl)
     rw [hcl] at h1;rw [h1, List.take_of_length_le (by omega)]
    apply gS;refine gR rfl ?_;refine gO rfl rfl (kLF rfl rfl) rfl ?_;apply gE;apply gS;refine gC (b := false) rfl ?_;refine gD ?_;apply gS;refine gR rfl ?_;iterate 2 refine gP ?_
    refine gO rfl rfl (aOp_eql rfl rfl (r := true) (decide_eq_true hso)) rfl ?_;refine gP ?_;refine GoR.call rfl rfl (aCF aFunc20 rfl) (awake_ok) ?_ np;rintro v31 h31 ⟨q, x31⟩;cases q;refine ⟨_, rfl, ?_⟩;replace e0 := e0.trans x31;replace eK := eK.trans x31;replace eL := eL.trans x31;iterate 2 refine gP ?_
    apply gE;exact gW Try.func4 rfl rfl ⟨rfl, e0⟩
theorem law4 {D : DrainV} {b d r s qv : AVal} {h : AH} (A : DrainAt h D b d r s) (L : DrainL D) {bs : List Int} (hbs : ∀ x, x ∈ bs → 0 ≤ x ∧ x < 65536) (hlen : bs.length < 9223372036854775808) (Q : SliceOf h 1 qv (u16s bs)) : Runs Try.prog 4 [.agg (dC b d r s), qv] h (fun en h' => en = .ret (.bool true) ∧ Ext h h') := by
 by_cases B : DrainB D
 ·by_cases O : D.Ok
  ·exact law4_ok A O hbs hlen Q
  ·exact law4_bad A B O
 ·exact law4_far A L B
end Go.Proofs.Ytkhiagdmbajimaa

namespace Go.AbsE
open Go Go.RowKit
section
variable {P : Program}
theorem VRs.ints {e : Env} : ∀ l : List Int, VRs e (l.map fun x => AVal.int .i64 x) (l.map fun x => Value.int .i64 x) := by
 intro l
 induction l with
 | nil => exact .nil
 | cons a l ih => exact .cons (.int _ _) ih
theorem HR.openWin {e : Env} {h : AH} {W : World} (r : HR P (Base.all W) e h W) {B lo : Nat} {PRE CS junk : List Value} {el : TypeId} {fr : Nat × Nat} {cs : List AVal} (hB : W.heap[B]? = some (.cells (PRE ++ (CS ++ junk)).toArray el fr)) (hp : PRE.length = lo) (hv : ∀ e, VRs e cs CS) :
  ∃ e' h', Env.le e e' ∧ HR P (Base.all W) e' h' W ∧ Ext h h' ∧ e' h.next = some (B, 0) ∧ Has h' h.next (.win lo cs) := by
 obtain ⟨h', k⟩ := new_some h (.win lo cs)
 obtain ⟨_, x1, x2⟩ := new_ext k
 obtain ⟨n1, n2, n3⟩ := AH.get_new k
 have hle := Env.le_ext (x := (B, 0)) r.fresh
 have hlt := (Array.getElem?_eq_some_iff.1 hB).1
 refine ⟨e.ext h.next (B, 0), h', hle, ?_, x1, Env.ext_same _ _ _, x2⟩
 refine { dom := ?_, blk := ?_, inj := ?_, imm := ?_, os := r.os, tape := r.tape, output := r.output, size := r.size, old := r.old, young := r.young }
 ·intro b' x kx
  rw [Env.ext_at] at kx
  by_cases hb' : b' = h.next
  ·omega
  ·rw [if_neg hb'] at kx; have := r.dom _ _ kx; omega
 ·intro b' o' kx
  rw [n3] at kx
  by_cases hb' : b' = h.next
  ·rw [if_pos hb'] at kx
   cases kx
   subst hb'
   exact ⟨B, 0, _, Env.ext_same _ _ _, (fun q => by cases q), hB, .win (hv _) hp⟩
  ·rw [if_neg hb'] at kx
   obtain ⟨B', c', O', k1, k2, k3, k4⟩ := r.blk _ _ kx
   exact ⟨B', c', O', hle.1 _ _ k1, k2, k3, k4.mono hle⟩
 ·intro b1 b2 B1 c1 c2 o1 o2 k1 k2 hro e1 e2
  rw [n3] at k1 k2
  rw [Env.ext_at] at e1 e2
  by_cases q1 : b1 = h.next
  ·rw [if_pos q1] at k1; cases k1; cases hro
  ·rw [if_neg q1] at k1 e1
   by_cases q2 : b2 = h.next
   ·rw [if_pos q2] at e2
    cases e2
    obtain ⟨B', c', O', j1, j2, _, _⟩ := r.blk _ _ k1
    rw [e1] at j1
    cases j1
    exact absurd hlt (j2 hro)
   ·rw [if_neg q2] at k2 e2
    exact r.inj _ _ _ _ _ _ _ k1 k2 hro e1 e2
 ·intro B1 CS' hi
  obtain ⟨i1, i2⟩ := r.imm B1 CS' hi
  refine ⟨i1, fun b' o' c' kx hro ke => ?_⟩
  rw [n3] at kx
  rw [Env.ext_at] at ke
  by_cases q : b' = h.next
  ·rw [if_pos q] at kx; cases kx; cases hro
  ·rw [if_neg q] at kx ke; exact i2 b' o' c' kx hro ke
end
end Go.AbsE

namespace Go.AbsE
open Go Go.RowKit
section
variable {P : Program}
theorem VRs.kinds {K : Type} {va : K → AVal} {vv : K → Value} (hvr : ∀ e x, VR e (va x) (vv x)) {e : Env} : ∀ l : List K, VRs e (l.map fun x => va x) (l.map fun x => vv x) := by
 intro l
 induction l with
 | nil => exact .nil
 | cons a l ih => exact .cons (hvr _ _) ih
theorem rowsG_eq {K : Type} {vv : K → Value} {C : List Value} {off sz : Nat} : ∀ (len : Nat) (f : Nat → List K), (∀ i, i < len → (f i).length = sz ∧ ∀ k n, (f i)[k]? = some n → C[off + i * sz + k]? = some (vv n)) →
  (C.drop off).take (len * sz) = (((List.range len).map f).flatten).map fun x => vv x := by
 intro len
 induction len with
 | zero => intro f _; simp
 | succ len ih =>
  intro f hf
  have h1 := ih f fun i hi => hf i (by omega)
  obtain ⟨l1, l2⟩ := hf len (by omega)
  rw [Nat.add_mul, Nat.one_mul, List.take_add, h1, List.range_succ, List.map_append, List.flatten_append, List.map_append]
  congr 1
  simp only [List.map_cons, List.map_nil, List.flatten_cons, List.flatten_nil, List.append_nil]
  rw [List.drop_drop]
  refine List.ext_getElem? fun k => ?_
  rw [List.getElem?_take, List.getElem?_drop, List.getElem?_map]
  by_cases hk : k < sz
  ·rw [if_pos hk]
   obtain ⟨n, hn⟩ : ∃ n, (f len)[k]? = some n := ⟨(f len)[k]'(by omega), by simp⟩
   rw [hn]
   exact l2 k n hn
  ·rw [if_neg hk]
   have : (f len)[k]? = none := by simp; omega
   rw [this]
   rfl
theorem HR.openRowsG {K : Type} (va : K → AVal) (vv : K → Value) (hvr : ∀ e x, VR e (va x) (vv x)) {e : Env} {h : AH} {W : World} (r : HR P (Base.all W) e h W) {a : Addr} {len cap sz : Nat} {C : Array Value} {el : TypeId} {fr : Nat × Nat} (hB : W.heap[a.block]? = some (.cells C el fr)) (hspot : a.spot = none) (f : Nat → List K)
  (hf : ∀ i, i < len → (f i).length = sz ∧ ∀ k n, (f i)[k]? = some n → W.cell? (a.add (i * sz + k)) = some (vv n)) :
  ∃ e' h' s, Env.le e e' ∧ HR P (Base.all W) e' h' W ∧ Ext h h' ∧ VR e' s (.slice (some a) len cap) ∧ SliceOf h' sz s (((List.range len).map f).map fun l => l.map fun x => va x) ∧ sameA s s = true := by
 obtain ⟨B, off, spot⟩ := a
 dsimp only at hB hspot
 subst hspot
 have hcell : ∀ i, i < len → (f i).length = sz ∧ ∀ k n, (f i)[k]? = some n → C.toList[off + i * sz + k]? = some (vv n) := fun i hi => by
  obtain ⟨h1, h2⟩ := hf i hi
  refine ⟨h1, fun k n hn => ?_⟩
  have := h2 k n hn
  have e1 := addr_add B off (i * sz + k)
  rw [e1] at this
  unfold World.cell? at this
  rw [hB] at this
  simp only [Option.isSome_none, Bool.false_eq_true, if_false] at this
  rw [Array.getElem?_toList, Nat.add_assoc]
  exact this
 have hrows := rowsG_eq len f hcell
 let R := (List.range len).map f
 have hRl : ∀ l, l ∈ R → l.length = sz := fun l hl => by
  obtain ⟨i, hi, rfl⟩ := List.mem_map.1 hl
  exact (hf i (List.mem_range.1 hi)).1
 have hRlen : R.length = len := by simp [R]
 have hlen : (C.toList.drop off).take (len * sz) = (R.flatten).map fun x => vv x := hrows
 have hfl : R.flatten.length = len * sz := by
  have : ∀ {L : List (List K)}, (∀ l, l ∈ L → l.length = sz) → L.flatten.length = L.length * sz := by
   intro L
   induction L with
   | nil => intro _; simp
   | cons a L ih => intro h; simp only [List.flatten_cons, List.length_append, h a (by simp), ih fun l q => h l (by simp [q]), List.length_cons, Nat.add_mul]; omega
  rw [this hRl, hRlen]
 by_cases h0 : len * sz = 0
 ·-- nothing of it is read
  obtain ⟨e', h', k1, k2, k3, k4, k5⟩ := r.openWin (B := B) (lo := 0) (PRE := []) (CS := []) (junk := C.toList) (el := el) (fr := fr) (cs := []) (by simpa using hB) rfl (fun _ => .nil)
  refine ⟨e', h', .slice h.next off len cap, k1, k2, k3, .slice k4, .mk rfl rfl k5.1 (by simp) (fun l hl => ?_) ?_, by simp [sameA]⟩
  ·obtain ⟨x, hx, rfl⟩ := List.mem_map.1 hl
   rw [List.length_map]
   exact hRl x hx
  ·have hnil : R.flatten = [] := List.eq_nil_of_length_eq_zero (by omega)
   unfold loadCells
   rw [k5.2]
   have e1 : ((R.map fun l => l.map fun x => va x).length * sz) = 0 := by rw [List.length_map, hRlen]; exact h0
   have e2 : (R.map fun l => l.map fun x => va x).flatten = [] := by rw [← List.map_flatten, hnil]; rfl
   show cond (Nat.ble 0 off) (slice? [] (off - 0) ((R.map fun l => l.map fun x => va x).length * sz)) none = some _
   rw [e1, e2, show Nat.ble 0 off = true from Nat.ble_eq_true_of_le (Nat.zero_le _)]
   simp [slice?]
 ·have hle : off + len * sz ≤ C.toList.length := by
   have : ((C.toList.drop off).take (len * sz)).length = len * sz := by rw [hlen, List.length_map, hfl]
   rw [List.length_take, List.length_drop] at this
   omega
  have hC : C = (C.toList.take off ++ ((R.flatten.map fun x => vv x) ++ C.toList.drop (off + len * sz))).toArray := by
   rw [← hlen]
   have : C.toList.take off ++ ((C.toList.drop off).take (len * sz) ++ C.toList.drop (off + len * sz)) = C.toList := by
    rw [← List.drop_drop, List.take_append_drop, List.take_append_drop]
   rw [this]
  obtain ⟨e', h', k1, k2, k3, k4, k5⟩ := r.openWin (B := B) (lo := off) (PRE := C.toList.take off) (CS := R.flatten.map fun x => vv x) (junk := C.toList.drop (off + len * sz)) (el := el) (fr := fr) (cs := R.flatten.map fun x => va x) (by rw [← hC]; exact hB) (by rw [List.length_take]; omega) (fun _ => VRs.kinds hvr _)
  refine ⟨e', h', .slice h.next off len cap, k1, k2, k3, .slice k4, .mk rfl rfl k5.1 (by simp) (fun l hl => ?_) ?_, by simp [sameA]⟩
  ·obtain ⟨x, hx, rfl⟩ := List.mem_map.1 hl
   rw [List.length_map]
   exact hRl x hx
  ·unfold loadCells
   rw [k5.2]
   have e1 : ((R.map fun l => l.map fun x => va x).length * sz) = len * sz := by rw [List.length_map, hRlen]
   have e2 : (R.map fun l => l.map fun x => va x).flatten = R.flatten.map fun x => va x := by rw [← List.map_flatten]
   show cond (Nat.ble off off) (slice? (R.flatten.map fun x => va x) (off - off) ((R.map fun l => l.map fun x => va x).length * sz)) none = some _
   rw [e1, e2, show Nat.ble off off = true from Nat.ble_eq_true_of_le (Nat.le_refl _), Nat.sub_self]
   exact slice_all (by rw [List.length_map, hfl])
end
end Go.AbsE

namespace Go.AbsE
open Go Go.RowKit
section
variable {P : Program}
theorem HR.openRowsC {K : Type} (va : K → AVal) (vv : K → Value) (hvr : ∀ e x, VR e (va x) (vv x)) {e : Env} {h : AH} {W : World} (r : HR P (Base.all W) e h W) {a : Addr} {len cap sz : Nat} {C : Array Value} {el : TypeId} {fr : Nat × Nat} (hB : W.heap[a.block]? = some (.cells C el fr)) (hspot : a.spot = none) (f : Nat → List K)
  (hf : ∀ i, i < len → (f i).length = sz ∧ ∀ k n, (f i)[k]? = some n → W.cell? (a.add (i * sz + k)) = some (vv n)) :
  ∃ e' h' s, Env.le e e' ∧ HR P (Base.all W) e' h' W ∧ Ext h h' ∧ VR e' s (.slice (some a) len cap) ∧ SliceOf h' sz s (((List.range len).map f).map fun l => l.map fun x => va x) ∧ sameA s s = true ∧ ∃ b o, s = .slice b o len cap := by
 obtain ⟨B, off, spot⟩ := a
 dsimp only at hB hspot
 subst hspot
 have hcell : ∀ i, i < len → (f i).length = sz ∧ ∀ k n, (f i)[k]? = some n → C.toList[off + i * sz + k]? = some (vv n) := fun i hi => by
  obtain ⟨h1, h2⟩ := hf i hi
  refine ⟨h1, fun k n hn => ?_⟩
  have := h2 k n hn
  have e1 := addr_add B off (i * sz + k)
  rw [e1] at this
  unfold World.cell? at this
  rw [hB] at this
  simp only [Option.isSome_none, Bool.false_eq_true, if_false] at this
  rw [Array.getElem?_toList, Nat.add_assoc]
  exact this
 have hrows := rowsG_eq len f hcell
 let R := (List.range len).map f
 have hRl : ∀ l, l ∈ R → l.length = sz := fun l hl => by
  obtain ⟨i, hi, rfl⟩ := List.mem_map.1 hl
  exact (hf i (List.mem_range.1 hi)).1
 have hRlen : R.length = len := by simp [R]
 have hlen : (C.toList.drop off).take (len * sz) = (R.flatten).map fun x => vv x := hrows
 have hfl : R.flatten.length = len * sz := by
  have : ∀ {L : List (List K)}, (∀ l, l ∈ L → l.length = sz) → L.flatten.length = L.length * sz := by
   intro L
   induction L with
   | nil => intro _; simp
   | cons a L ih => intro h; simp only [List.flatten_cons, List.length_append, h a (by simp), ih fun l q => h l (by simp [q]), List.length_cons, Nat.add_mul]; omega
  rw [this hRl, hRlen]
 by_cases h0 : len * sz = 0
 ·-- nothing of it is read
  obtain ⟨e', h', k1, k2, k3, k4, k5⟩ := r.openWin (B := B) (lo := 0) (PRE := []) (CS := []) (junk := C.toList) (el := el) (fr := fr) (cs := []) (by simpa using hB) rfl (fun _ => .nil)
  refine ⟨e', h', .slice h.next off len cap, k1, k2, k3, .slice k4, .mk rfl rfl k5.1 (by simp) (fun l hl => ?_) ?_, by simp [sameA], _, _, rfl⟩
  ·obtain ⟨x, hx, rfl⟩ := List.mem_map.1 hl
   rw [List.length_map]
   exact hRl x hx
  ·have hnil : R.flatten = [] := List.eq_nil_of_length_eq_zero (by omega)
   unfold loadCells
   rw [k5.2]
   have e1 : ((R.map fun l => l.map fun x => va x).length * sz) = 0 := by rw [List.length_map, hRlen]; exact h0
   have e2 : (R.map fun l => l.map fun x => va x).flatten = [] := by rw [← List.map_flatten, hnil]; rfl
   show cond (Nat.ble 0 off) (slice? [] (off - 0) ((R.map fun l => l.map fun x => va x).length * sz)) none = some _
   rw [e1, e2, show Nat.ble 0 off = true from Nat.ble_eq_true_of_le (Nat.zero_le _)]
   simp [slice?]
 ·have hle : off + len * sz ≤ C.toList.length := by
   have : ((C.toList.drop off).take (len * sz)).length = len * sz := by rw [hlen, List.length_map, hfl]
   rw [List.length_take, List.length_drop] at this
   omega
  have hC : C = (C.toList.take off ++ ((R.flatten.map fun x => vv x) ++ C.toList.drop (off + len * sz))).toArray := by
   rw [← hlen]
   have : C.toList.take off ++ ((C.toList.drop off).take (len * sz) ++ C.toList.drop (off + len * sz)) = C.toList := by
    rw [← List.drop_drop, List.take_append_drop, List.take_append_drop]
   rw [this]
  obtain ⟨e', h', k1, k2, k3, k4, k5⟩ := r.openWin (B := B) (lo := off) (PRE := C.toList.take off) (CS := R.flatten.map fun x => vv x) (junk := C.toList.drop (off + len * sz)) (el := el) (fr := fr) (cs := R.flatten.map fun x => va x) (by rw [← hC]; exact hB) (by rw [List.length_take]; omega) (fun _ => VRs.kinds hvr _)
  refine ⟨e', h', .slice h.next off len cap, k1, k2, k3, .slice k4, .mk rfl rfl k5.1 (by simp) (fun l hl => ?_) ?_, by simp [sameA], _, _, rfl⟩
  ·obtain ⟨x, hx, rfl⟩ := List.mem_map.1 hl
   rw [List.length_map]
   exact hRl x hx
  ·unfold loadCells
   rw [k5.2]
   have e1 : ((R.map fun l => l.map fun x => va x).length * sz) = len * sz := by rw [List.length_map, hRlen]
   have e2 : (R.map fun l => l.map fun x => va x).flatten = R.flatten.map fun x => va x := by rw [← List.map_flatten]
   show cond (Nat.ble off off) (slice? (R.flatten.map fun x => va x) (off - off) ((R.map fun l => l.map fun x => va x).length * sz)) none = some _
   rw [e1, e2, show Nat.ble off off = true from Nat.ble_eq_true_of_le (Nat.le_refl _), Nat.sub_self]
   exact slice_all (by rw [List.length_map, hfl])
end
end Go.AbsE

namespace Go.AbsE
open Go
set_option linter.unusedSimpArgs false
set_option linter.unusedVariables false
section
variable {P : Program} {h : AH} {dst : Option Tmp} {ty tt el : TypeId} {pos : String} {after : Array Edge} {guard : Option (Nat × Bool)} {x y : Operand}
def CutS (s : AVal) (n : Nat) : Prop := n ≠ 0 → ∃ b off cap, s = .slice b off n cap ∧ n ≤ cap
theorem SliceOf.take {sz b off n cap cap' i : Nat} {L : List (List AVal)} (k : SliceOf h sz (.slice b off n cap) L) (hL : L.length = n) (hi : i ≤ n) : SliceOf h sz (.slice b off i cap') (L.take i) := by
 cases k with
 | mk hs hn hb hl hz hc =>
  rw [show aSlElems (.slice b off n cap) = some (b, off, n) from rfl] at hs
  cases hs
  have hlen : (L.take i).length = i := by rw [List.length_take]; omega
  refine .mk (b := b) (off := off) (len := i) rfl rfl hb hlen (fun l hl => hz l (List.mem_of_mem_take hl)) ?_
  have hp := loadCells_part (k := 0) (m := i * sz) hc (by rw [Nat.zero_add]; exact Nat.mul_le_mul_right _ (by omega))
  rw [Nat.add_zero] at hp
  rw [hlen, hp]
  congr 1
  have e1 : (L.take i).flatten.length = i * sz := by
   rw [flatten_len (sz := sz) (fun l hl => hz l (List.mem_of_mem_take hl)), hlen]
  have e3 : L.flatten = (L.take i).flatten ++ (L.drop i).flatten := by rw [← List.flatten_append, List.take_append_drop]
  rw [List.drop_zero, e3, ← e1, List.take_left]
end
end Go.AbsE
