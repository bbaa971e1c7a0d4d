import Derived.Test.YtkcimfopboelaaaGreatMAJ
import Derived.Test.YtkcimfopboelaaaGreatMAG
import Derived.Test.YtkcimfopboelaaaGreatMAH
namespace Go.Proofs.YtkcimfopboelaaaGreat
open Go Go.AbsE
set_option linter.unusedSimpArgs false
set_option maxRecDepth 100000
set_option maxHeartbeats 0
set_option linter.unusedVariables false
structure RoadAt (h : AH) (R : RoadV) (psl esl : AVal) : Prop where
 ps : SliceOf h 7 psl (R.ps.map PV.cells)
 es : SliceOf h 7 esl (R.es.map EV.cells)
theorem RoadAt.ext {h h' : AH} {R : RoadV} {psl esl : AVal} (k : RoadAt h R psl esl) (e : Ext h h') : RoadAt h' R psl esl := ⟨k.ps.ext e, k.es.ext e⟩
structure GroundAt (h : AH) (R : RoadV) (lo : Nat) (gp ge : AVal) : Prop where
 psl : SliceOf h 7 gp (R.ps.map PV.cells)
 esl : SliceOf h 1 ge (R.es.map fun e => [evC e])
theorem GroundAt.ext {h h' : AH} {R : RoadV} {lo : Nat} {gp ge : AVal} (k : GroundAt h R lo gp ge) (e : Ext h h') : GroundAt h' R lo gp ge := ⟨k.psl.ext e, k.esl.ext e⟩
theorem grow_scal {h : AH} {el : TypeId} {sz lo : Nat} {s : AVal} {n : Nat} {cs : List AVal} (k : Grow h el sz lo s n cs) : scalars [s] = true ∧ s.cells = [s] := by
 rcases k.2 with ⟨rfl, _⟩ | ⟨_, b, _, rfl, _⟩
 ·exact ⟨rfl, rfl⟩
 ·exact ⟨rfl, rfl⟩
theorem cells_agg (l : List AVal) : (AVal.agg l).cells = l := rfl
theorem any_not {α : Type} (L : List α) (p : α → Bool) : (!(L.any fun x => !p x)) = L.all p := by
 induction L with
 | nil => rfl
 | cons x L ih => rw [List.any_cons, List.all_cons, ← ih]; cases p x <;> rfl
theorem valid_ok {R : RoadV} {psl esl : AVal} {h : AH} (A : RoadAt h R psl esl) (hb1 : R.ps.length ≤ 40) (hb2 : R.es.length ≤ 40) :
  Runs Tryz.prog 92 [.agg [psl, esl]] h (fun en h' => en = .ret (.bool R.okB) ∧ Ext h h') := by
 have hl1 := A.ps.len
 have hl2 := A.es.len
 rw [List.length_map] at hl1 hl2
 have hcp : ∀ {h' : AH} {r : AVal}, SliceOf h' 7 r (R.ps.map PV.cells) → Runs Tryz.prog 129 [r, .func (.func 130) [] []] h' (fun en h'' => en = .ret (.bool (R.ps.any fun p => !decide p.Ok)) ∧ Ext h' h'') := fun s =>
  cont129_ok (caps := []) aFunc130 _ s (by omega) fun x h' hx e => bad_ok x h'
 have hce : ∀ {h' : AH} {b : Nat} {el : TypeId}, RoadAt h' R psl esl → Has h' b (.cells .plain [psl, esl] el) → Runs Tryz.prog 131 [esl, .func (.func 127) [] [.ptr b 0]] h' (fun en h'' => en = .ret (.bool (R.es.any fun e => !decide (e.Ok R.ps.length))) ∧ Ext h' h'') := fun {h' b el} A' f => by
  have hfb := f.1
  refine cont131_ok (caps := [.ptr b 0]) aFunc127 _ A'.es (by omega) fun x h'' hx k9 => ?_
  have f0 := f.ext k9
  have ln := (A'.ps.ext k9).len
  rw [List.length_map] at ln;clear k9
  have hv := fun h => validEvent_ok x (n := R.ps.length) (by omega) h
  unfold EV.cells at *
  have e0 : Ext h'' h'' := Ext.refl _
  refine Runs.intro aFunc127 rfl rfl rfl rfl fun rest => ?_;apply gS;refine gR rfl ?_;refine GoR.box rfl rfl rfl rfl rfl rfl fun h1 x1 f1 => ?_;replace f0 := f0.ext x1;replace e0 := e0.trans x1;refine gP ?_;apply gE;apply gS;refine gR rfl ?_;refine gO rfl rfl (ld62 rfl f1 rfl) rfl ?_;refine gO rfl rfl (fa25_0 rfl) rfl ?_;refine gO rfl rfl (ld22 rfl f0 rfl) rfl ?_;refine gO rfl rfl (aOp_lenSlice Tryz.underlying22 rfl (by assumption)) rfl ?_;refine GoR.call rfl rfl (aCF aFunc128 rfl) (hv _) ?_ np;rintro v2 h2 ⟨q, x2⟩;cases q;refine ⟨_, rfl, ?_⟩;replace f1 := f1.ext x2;replace f0 := f0.ext x2;replace e0 := e0.trans x2;iterate 2 refine gP ?_
  apply gE;exact gW Tryz.func127 rfl rfl ⟨rfl, e0⟩
 unfold RoadV.okB
 by_cases h1 : 1 ≤ R.ps.length ∧ R.ps.length ≤ 4
 ·rw [decide_eq_true h1]
  cases h2 : R.ps.all (fun p => decide p.Ok) with
  | false =>
   have h2' : R.ps.any (fun p => !decide p.Ok) = true := by rw [← any_not] at h2; simpa using h2
   rw [h2'] at hcp
   have e0 : Ext h h := Ext.refl _
   refine Runs.intro aFunc92 rfl rfl rfl rfl fun rest => ?_;apply gS;refine gR rfl ?_;refine GoR.box rfl rfl rfl rfl rfl rfl fun h3 x3 f3 => ?_;replace e0 := e0.trans x3;refine gP ?_;apply gE;apply gS;refine gR rfl ?_;iterate 2 refine gP ?_
   apply gE;apply gS;refine gR rfl ?_;refine gO rfl rfl (fa25_0 rfl) rfl ?_;refine gO rfl rfl (ld22 rfl f3 rfl) rfl ?_;refine gO rfl rfl (aOp_lenSlice Tryz.underlying22 rfl (by assumption)) rfl ?_;refine GoR.call rfl rfl (aCF aFunc95 rfl) (inside_is (r := true) (dt (by omega))) ?_ np;rintro v4 h4 ⟨q, x4⟩;cases q;refine ⟨_, rfl, ?_⟩;replace f3 := f3.ext x4;replace e0 := e0.trans x4;refine gP ?_;refine gO rfl rfl (fa25_0 rfl) rfl ?_;refine gO rfl rfl (ld22 rfl f3 rfl) rfl ?_;refine GoR.call rfl rfl (aCF aFunc93 rfl) (partsOf_ok (A.ps.ext e0) (by omega)) ?_ (by rintro _ _ ⟨r, q, _, _⟩; cases q);rintro v5 h5 ⟨r, q, x5, f5⟩;cases q;refine ⟨_, rfl, ?_⟩;replace f3 := f3.ext x5;replace e0 := e0.trans x5;refine GoR.call rfl rfl (aCF aFunc129 rfl) (hcp (grow_slice pv_len rfl (by assumption))) ?_ np;rintro v6 h6 ⟨q, x6⟩;cases q;refine ⟨_, rfl, ?_⟩;replace f3 := f3.ext x6;replace e0 := e0.trans x6;iterate 3 refine gP ?_
   iterate 4 refine GoR.skip rfl rfl rfl ?_
   iterate 2 refine gP ?_
   iterate 5 refine GoR.skip rfl rfl rfl ?_
   iterate 2 refine gP ?_
   iterate 4 refine GoR.skip rfl rfl rfl ?_
   iterate 2 refine gP ?_
   apply gE;exact gW Tryz.func92 rfl rfl ⟨rfl, e0⟩
  | true =>
   have h2' : R.ps.any (fun p => !decide p.Ok) = false := by rw [← any_not] at h2; simpa using h2
   rw [h2'] at hcp
   by_cases h3 : R.es.length ≤ 10
   ·rw [decide_eq_true h3]
    cases h4 : R.es.all (fun e => decide (e.Ok R.ps.length)) with
    | false =>
     have h4' : R.es.any (fun e => !decide (e.Ok R.ps.length)) = true := by rw [← any_not] at h4; simpa using h4
     rw [h4'] at hce
     have e0 : Ext h h := Ext.refl _
     refine Runs.intro aFunc92 rfl rfl rfl rfl fun rest => ?_;apply gS;refine gR rfl ?_;refine GoR.box rfl rfl rfl rfl rfl rfl fun h5 x5 f5 => ?_;replace e0 := e0.trans x5;refine gP ?_;apply gE;apply gS;refine gR rfl ?_;iterate 2 refine gP ?_
     apply gE;apply gS;refine gR rfl ?_;refine gO rfl rfl (fa25_0 rfl) rfl ?_;refine gO rfl rfl (ld22 rfl f5 rfl) rfl ?_;refine gO rfl rfl (aOp_lenSlice Tryz.underlying22 rfl (by assumption)) rfl ?_;refine GoR.call rfl rfl (aCF aFunc95 rfl) (inside_is (r := true) (dt (by omega))) ?_ np;rintro v6 h6 ⟨q, x6⟩;cases q;refine ⟨_, rfl, ?_⟩;replace f5 := f5.ext x6;replace e0 := e0.trans x6;refine gP ?_;refine gO rfl rfl (fa25_0 rfl) rfl ?_;refine gO rfl rfl (ld22 rfl f5 rfl) rfl ?_;refine GoR.call rfl rfl (aCF aFunc93 rfl) (partsOf_ok (A.ps.ext e0) (by omega)) ?_ (by rintro _ _ ⟨r, q, _, _⟩; cases q);rintro v7 h7 ⟨r, q, x7, f7⟩;cases q;refine ⟨_, rfl, ?_⟩;replace f5 := f5.ext x7;replace e0 := e0.trans x7;refine GoR.call rfl rfl (aCF aFunc129 rfl) (hcp (grow_slice pv_len rfl (by assumption))) ?_ np;rintro v8 h8 ⟨q, x8⟩;cases q;refine ⟨_, rfl, ?_⟩;replace f5 := f5.ext x8;replace e0 := e0.trans x8;iterate 3 refine gP ?_
     refine gO rfl rfl (fa25_1 rfl) rfl ?_;refine gO rfl rfl (ld23 rfl f5 rfl) rfl ?_;refine gO rfl rfl (aOp_lenSlice Tryz.underlying23 rfl (by assumption)) rfl ?_;refine gO rfl rfl (kMT rfl rfl) rfl ?_;iterate 2 refine gP ?_
     refine gO rfl rfl (fa25_1 rfl) rfl ?_;refine gO rfl rfl (ld23 rfl f5 rfl) rfl ?_;refine gP ?_;refine GoR.call rfl rfl (aCF aFunc131 rfl) (hce (A.ext e0) (by assumption)) ?_ np;rintro v9 h9 ⟨q, x9⟩;cases q;refine ⟨_, rfl, ?_⟩;replace f5 := f5.ext x9;replace e0 := e0.trans x9;iterate 3 refine gP ?_
     iterate 4 refine GoR.skip rfl rfl rfl ?_
     iterate 2 refine gP ?_
     apply gE;exact gW Tryz.func92 rfl rfl ⟨rfl, e0⟩
    | true =>
     have h4' : R.es.any (fun e => !decide (e.Ok R.ps.length)) = false := by rw [← any_not] at h4; simpa using h4
     rw [h4'] at hce
     by_cases h5 : doubtsV R.es ≤ 4
     ·rw [decide_eq_true h5]
      have e0 : Ext h h := Ext.refl _
      refine Runs.intro aFunc92 rfl rfl rfl rfl fun rest => ?_;apply gS;refine gR rfl ?_;refine GoR.box rfl rfl rfl rfl rfl rfl fun h6 x6 f6 => ?_;replace e0 := e0.trans x6;refine gP ?_;apply gE;apply gS;refine gR rfl ?_;iterate 2 refine gP ?_
      apply gE;apply gS;refine gR rfl ?_;refine gO rfl rfl (fa25_0 rfl) rfl ?_;refine gO rfl rfl (ld22 rfl f6 rfl) rfl ?_;refine gO rfl rfl (aOp_lenSlice Tryz.underlying22 rfl (by assumption)) rfl ?_;refine GoR.call rfl rfl (aCF aFunc95 rfl) (inside_is (r := true) (dt (by omega))) ?_ np;rintro v7 h7 ⟨q, x7⟩;cases q;refine ⟨_, rfl, ?_⟩;replace f6 := f6.ext x7;replace e0 := e0.trans x7;refine gP ?_;refine gO rfl rfl (fa25_0 rfl) rfl ?_;refine gO rfl rfl (ld22 rfl f6 rfl) rfl ?_;refine GoR.call rfl rfl (aCF aFunc93 rfl) (partsOf_ok (A.ps.ext e0) (by omega)) ?_ (by rintro _ _ ⟨r, q, _, _⟩; cases q);rintro v8 h8 ⟨r, q, x8, f8⟩;cases q;refine ⟨_, rfl, ?_⟩;replace f6 := f6.ext x8;replace e0 := e0.trans x8;refine GoR.call rfl rfl (aCF aFunc129 rfl) (hcp (grow_slice pv_len rfl (by assumption))) ?_ np;rintro v9 h9 ⟨q, x9⟩;cases q;refine ⟨_, rfl, ?_⟩;replace f6 := f6.ext x9;replace e0 := e0.trans x9;iterate 3 refine gP ?_
      refine gO rfl rfl (fa25_1 rfl) rfl ?_;refine gO rfl rfl (ld23 rfl f6 rfl) rfl ?_;refine gO rfl rfl (aOp_lenSlice Tryz.underlying23 rfl (by assumption)) rfl ?_;refine gO rfl rfl (kMT rfl rfl) rfl ?_;iterate 2 refine gP ?_
      refine gO rfl rfl (fa25_1 rfl) rfl ?_;refine gO rfl rfl (ld23 rfl f6 rfl) rfl ?_;refine gP ?_;refine GoR.call rfl rfl (aCF aFunc131 rfl) (hce (A.ext e0) (by assumption)) ?_ np;rintro v10 h10 ⟨q, x10⟩;cases q;refine ⟨_, rfl, ?_⟩;replace f6 := f6.ext x10;replace e0 := e0.trans x10;iterate 3 refine gP ?_
      refine gO rfl rfl (fa25_1 rfl) rfl ?_;refine gO rfl rfl (ld23 rfl f6 rfl) rfl ?_;refine GoR.call rfl rfl (aCF aFunc132 rfl) (doubts_ok (A.es.ext e0) (by omega)) ?_ np;rintro v11 h11 ⟨q, x11⟩;cases q;refine ⟨_, rfl, ?_⟩;replace e0 := e0.trans x11;refine gO rfl rfl (kMT rfl rfl) rfl ?_;iterate 2 refine gP ?_
      apply gE;exact gW Tryz.func92 rfl rfl ⟨rfl, e0⟩
     ·rw [decide_eq_false h5]
      have e0 : Ext h h := Ext.refl _
      refine Runs.intro aFunc92 rfl rfl rfl rfl fun rest => ?_;apply gS;refine gR rfl ?_;refine GoR.box rfl rfl rfl rfl rfl rfl fun h6 x6 f6 => ?_;replace e0 := e0.trans x6;refine gP ?_;apply gE;apply gS;refine gR rfl ?_;iterate 2 refine gP ?_
      apply gE;apply gS;refine gR rfl ?_;refine gO rfl rfl (fa25_0 rfl) rfl ?_;refine gO rfl rfl (ld22 rfl f6 rfl) rfl ?_;refine gO rfl rfl (aOp_lenSlice Tryz.underlying22 rfl (by assumption)) rfl ?_;refine GoR.call rfl rfl (aCF aFunc95 rfl) (inside_is (r := true) (dt (by omega))) ?_ np;rintro v7 h7 ⟨q, x7⟩;cases q;refine ⟨_, rfl, ?_⟩;replace f6 := f6.ext x7;replace e0 := e0.trans x7;refine gP ?_;refine gO rfl rfl (fa25_0 rfl) rfl ?_;refine gO rfl rfl (ld22 rfl f6 rfl) rfl ?_;refine GoR.call rfl rfl (aCF aFunc93 rfl) (partsOf_ok (A.ps.ext e0) (by omega)) ?_ (by rintro _ _ ⟨r, q, _, _⟩; cases q);rintro v8 h8 ⟨r, q, x8, f8⟩;cases q;refine ⟨_, rfl, ?_⟩;replace f6 := f6.ext x8;replace e0 := e0.trans x8;refine GoR.call rfl rfl (aCF aFunc129 rfl) (hcp (grow_slice pv_len rfl (by assumption))) ?_ np;rintro v9 h9 ⟨q, x9⟩;cases q;refine ⟨_, rfl, ?_⟩;replace f6 := f6.ext x9;replace e0 := e0.trans x9;iterate 3 refine gP ?_
      refine gO rfl rfl (fa25_1 rfl) rfl ?_;refine gO rfl rfl (ld23 rfl f6 rfl) rfl ?_;refine gO rfl rfl (aOp_lenSlice Tryz.underlying23 rfl (by assumption)) rfl ?_;refine gO rfl rfl (kMT rfl rfl) rfl ?_;iterate 2 refine gP ?_
      refine gO rfl rfl (fa25_1 rfl) rfl ?_;refine gO rfl rfl (ld23 rfl f6 rfl) rfl ?_;refine gP ?_;refine GoR.call rfl rfl (aCF aFunc131 rfl) (hce (A.ext e0) (by assumption)) ?_ np;rintro v10 h10 ⟨q, x10⟩;cases q;refine ⟨_, rfl, ?_⟩;replace f6 := f6.ext x10;replace e0 := e0.trans x10;iterate 3 refine gP ?_
      refine gO rfl rfl (fa25_1 rfl) rfl ?_;refine gO rfl rfl (ld23 rfl f6 rfl) rfl ?_;refine GoR.call rfl rfl (aCF aFunc132 rfl) (doubts_ok (A.es.ext e0) (by omega)) ?_ np;rintro v11 h11 ⟨q, x11⟩;cases q;refine ⟨_, rfl, ?_⟩;replace e0 := e0.trans x11;refine gO rfl rfl (kMF rfl rfl) rfl ?_;iterate 2 refine gP ?_
      apply gE;exact gW Tryz.func92 rfl rfl ⟨rfl, e0⟩
   ·rw [decide_eq_false h3]
    have e0 : Ext h h := Ext.refl _
    refine Runs.intro aFunc92 rfl rfl rfl rfl fun rest => ?_;apply gS;refine gR rfl ?_;refine GoR.box rfl rfl rfl rfl rfl rfl fun h4 x4 f4 => ?_;replace e0 := e0.trans x4;refine gP ?_;apply gE;apply gS;refine gR rfl ?_;iterate 2 refine gP ?_
    apply gE;apply gS;refine gR rfl ?_;refine gO rfl rfl (fa25_0 rfl) rfl ?_;refine gO rfl rfl (ld22 rfl f4 rfl) rfl ?_;refine gO rfl rfl (aOp_lenSlice Tryz.underlying22 rfl (by assumption)) rfl ?_;refine GoR.call rfl rfl (aCF aFunc95 rfl) (inside_is (r := true) (dt (by omega))) ?_ np;rintro v5 h5 ⟨q, x5⟩;cases q;refine ⟨_, rfl, ?_⟩;replace f4 := f4.ext x5;replace e0 := e0.trans x5;refine gP ?_;refine gO rfl rfl (fa25_0 rfl) rfl ?_;refine gO rfl rfl (ld22 rfl f4 rfl) rfl ?_;refine GoR.call rfl rfl (aCF aFunc93 rfl) (partsOf_ok (A.ps.ext e0) (by omega)) ?_ (by rintro _ _ ⟨r, q, _, _⟩; cases q);rintro v6 h6 ⟨r, q, x6, f6⟩;cases q;refine ⟨_, rfl, ?_⟩;replace f4 := f4.ext x6;replace e0 := e0.trans x6;refine GoR.call rfl rfl (aCF aFunc129 rfl) (hcp (grow_slice pv_len rfl (by assumption))) ?_ np;rintro v7 h7 ⟨q, x7⟩;cases q;refine ⟨_, rfl, ?_⟩;replace f4 := f4.ext x7;replace e0 := e0.trans x7;iterate 3 refine gP ?_
    refine gO rfl rfl (fa25_1 rfl) rfl ?_;refine gO rfl rfl (ld23 rfl f4 rfl) rfl ?_;refine gO rfl rfl (aOp_lenSlice Tryz.underlying23 rfl (by assumption)) rfl ?_;refine gO rfl rfl (kMF rfl rfl) rfl ?_;iterate 2 refine gP ?_
    iterate 5 refine GoR.skip rfl rfl rfl ?_
    iterate 2 refine gP ?_
    iterate 4 refine GoR.skip rfl rfl rfl ?_
    iterate 2 refine gP ?_
    apply gE;exact gW Tryz.func92 rfl rfl ⟨rfl, e0⟩
 ·rw [decide_eq_false h1]
  have e0 : Ext h h := Ext.refl _
  refine Runs.intro aFunc92 rfl rfl rfl rfl fun rest => ?_;apply gS;refine gR rfl ?_;refine GoR.box rfl rfl rfl rfl rfl rfl fun h2 x2 f2 => ?_;replace e0 := e0.trans x2;refine gP ?_;apply gE;apply gS;refine gR rfl ?_;iterate 2 refine gP ?_
  apply gE;apply gS;refine gR rfl ?_;refine gO rfl rfl (fa25_0 rfl) rfl ?_;refine gO rfl rfl (ld22 rfl f2 rfl) rfl ?_;refine gO rfl rfl (aOp_lenSlice Tryz.underlying22 rfl (by assumption)) rfl ?_;refine GoR.call rfl rfl (aCF aFunc95 rfl) (inside_is (r := false) (df (by omega))) ?_ np;rintro v3 h3 ⟨q, x3⟩;cases q;refine ⟨_, rfl, ?_⟩;replace e0 := e0.trans x3;refine gP ?_;iterate 5 refine GoR.skip rfl rfl rfl ?_
  iterate 2 refine gP ?_
  iterate 4 refine GoR.skip rfl rfl rfl ?_
  iterate 2 refine gP ?_
  iterate 5 refine GoR.skip rfl rfl rfl ?_
  iterate 2 refine gP ?_
  iterate 4 refine GoR.skip rfl rfl rfl ?_
  iterate 2 refine gP ?_
  apply gE;exact gW Tryz.func92 rfl rfl ⟨rfl, e0⟩
theorem valid_yes {R : RoadV} (O : R.Ok) {psl esl : AVal} {h : AH} (A : RoadAt h R psl esl) : Runs Tryz.prog 92 [.agg [psl, esl]] h (fun en h' => en = .ret (.bool true) ∧ Ext h h') := by
 have := O.np
 have := O.ne
 have k := valid_ok A (by omega) (by omega)
 rw [(okB_iff R).2 O] at k
 exact k
theorem valid_no {R : RoadV} (hno : ¬ R.Ok) {psl esl : AVal} {h : AH} (A : RoadAt h R psl esl) (hb1 : R.ps.length ≤ 40) (hb2 : R.es.length ≤ 40) : Runs Tryz.prog 92 [.agg [psl, esl]] h (fun en h' => en = .ret (.bool false) ∧ Ext h h') := by
 have k := valid_ok A hb1 hb2
 have : R.okB = false := by
  cases q : R.okB with
  | false => rfl
  | true => exact absurd ((okB_iff R).1 q) hno
 rw [this] at k;exact k
def refusal (code : Int) : List AEntry := [⟨.iface 116 (.int .i64 code), false⟩]
theorem refuse_ok (b : Bool) (code : Int) (h : AH) : Runs Tryz.prog 91 [.bool b, .int .i64 code] h (fun en h' => h' = h ∧ ((b = false ∧ en = .ret (.tuple [])) ∨ (b = true ∧ en = .pan (refusal code)))) := by
 refine Runs.intro aFunc91 rfl rfl rfl rfl fun rest => ?_;refine Go.seq noJ_ok (gR rfl ?_);refine gP ?_
 cases b with
 | false =>
  refine GoR.end (gC (b := false) rfl (gD (Go.endL (FLeft.ret (v := .tuple []) ?_ ⟨rfl, .inl ⟨rfl, rfl⟩⟩))));exact aResult_of Tryz.func91 rfl rfl
 | true =>
  refine GoR.end (gC (b := true) rfl (gR rfl ?_));refine gP ?_;refine gP ?_;refine GoR.panic rfl rfl rfl (FLeft.pan ⟨rfl, .inr ⟨rfl, rfl⟩⟩)
theorem attempt_pan {rest : List AFr} {t : Tr AVal} {h : AH} {b : Nat} {c0 code : Int} {R : AEnd → AH → Prop} (ht : t.get (pth 4) = some (.ptr b 0)) (hb : Has h b (.cells .plain [.int .i64 c0] 30))
  (hR : ∀ h', h.next ≤ h'.next → (∀ x, x < h.next → x ≠ b → h'.get x = h.get x) → R (.ret (.int .i64 code)) h') :
  FLeft Tryz.prog ⟨48, 19, [.call (.func 90) [.ptr b 0] []], false, none, rest⟩ (.panicking (refusal code)) t h (Post Tryz.prog 48 rest R) := by
 refine FLeft.defer (fun q => by cases q) aFunc90 rfl rfl rfl rfl fun todo => ?_;refine Go.seq noJ_ok (gR rfl ?_);refine GoR.recover1 rfl rfl rfl rfl rfl ?_
 have y0 : ExtF (fun x => x = b) h h := ExtF.of (Ext.refl _)
 apply gE;refine Go.block noJ_ok ?_;apply gS;refine gR rfl ?_;refine gP ?_;apply gE;refine gC (b := false) rfl ?_;apply gS;refine gR rfl ?_;iterate 3 refine gP ?_
 apply gE;refine gC (b := true) rfl ?_;apply gS;refine gR rfl ?_;refine gP ?_;apply gE;refine gR rfl ?_;refine gP ?_;refine GoR.store rfl rfl rfl rfl rfl rfl hb rfl sz30 rfl rfl rfl fun h0 u0 => ?_;replace hb := u0.has hb;replace y0 := y0.upd u0 (.inl rfl);apply gE;refine Go.inBlock noJ_ok ?_;refine Go.endL ?_;refine FLeft.settle (v := .tuple []) (aResult_of Tryz.func90 rfl rfl) ?_;exact FLeft.ret (v := .int .i64 code) (aResult_of Tryz.func48 rfl (aResults_cell ht hb (inCells_one ag30 rfl))) (hR _ y0.1 fun x hx hn => y0.2 x hx hn) todo
theorem attempt_ret {rest : List AFr} {t : Tr AVal} {h : AH} {b : Nat} {code : Int} {R : AEnd → AH → Prop} (ht : t.get (pth 4) = some (.ptr b 0)) (hb : Has h b (.cells .plain [.int .i64 code] 30)) (hR : R (.ret (.int .i64 code)) h) :
  FLeft Tryz.prog ⟨48, 19, [.call (.func 90) [.ptr b 0] []], false, none, rest⟩ .returning t h (Post Tryz.prog 48 rest R) := by
 refine FLeft.defer (fun q => by cases q) aFunc90 rfl rfl rfl rfl fun todo => ?_;refine Go.seq noJ_ok (gR rfl ?_);refine GoR.recover0 rfl rfl rfl rfl rfl ?_;apply gE;refine Go.block noJ_ok ?_;apply gS;refine gR rfl ?_;refine gP ?_;apply gE;refine gC (b := true) rfl ?_;refine gR rfl ?_;refine gP ?_;apply gE;refine Go.inBlock noJ_ok ?_;refine Go.endL ?_;refine FLeft.settle (v := .tuple []) (aResult_of Tryz.func90 rfl rfl) ?_;exact FLeft.ret (v := .int .i64 code) (aResult_of Tryz.func48 rfl (aResults_cell ht hb (inCells_one ag30 rfl))) hR todo
theorem refuse_no (code : Int) (h : AH) : Runs Tryz.prog 91 [.bool false, .int .i64 code] h (fun en h' => en = .ret (.tuple []) ∧ Ext h h') :=
 (refuse_ok false code h).mono fun en h' k => by
  rcases k with ⟨rfl, ⟨_, q⟩ | ⟨q, _⟩⟩
  ·exact ⟨q, Ext.refl _⟩
  ·cases q
theorem refuse_yes (code : Int) (h : AH) : Runs Tryz.prog 91 [.bool true, .int .i64 code] h (fun en h' => en = .pan (refusal code) ∧ Ext h h') :=
 (refuse_ok true code h).mono fun en h' k => by
  rcases k with ⟨rfl, ⟨q, _⟩ | ⟨_, q⟩⟩
  ·cases q
  ·exact ⟨q, Ext.refl _⟩
theorem attempt_ok {R : RoadV} (O : R.Ok) (psl esl : AVal) (h : AH) (A : RoadAt h R psl esl) (W : FuncId) (fW : Func) (hfid : aFunc Tryz.prog W = some fW) (caps : List AVal) (hsm : sameA (.func (.func W) [] caps) (.func (.func W) [] caps) = true) (S : Nat → Prop) (hS : ∀ b, S b → b < h.next) (T : Int → AH → Prop)
  (hbody : ∀ h' gp ge, Ext h h' → GroundAt h' R h.next gp ge → Runs Tryz.prog W ([.agg [gp, ge]] ++ caps) h' (fun en h'' => ExtF S h' h'' ∧ ((en = .ret (.tuple []) ∧ T 0 h'') ∨ ∃ code, en = .pan (refusal code) ∧ T code h''))) :
  Runs Tryz.prog 48 [.agg [psl, esl], .func (.func W) [] caps] h (fun en h' => ∃ code h2, en = .ret (.int .i64 code) ∧ T code h2 ∧ ExtF S h h' ∧ h2.next ≤ h'.next ∧ ∀ b, b < h.next → h'.get b = h2.get b) := by
 have hv := fun h A => valid_yes O (psl := psl) (esl := esl) (h := h) A
 have hnp := O.np
 have hne := O.ne
 have hk : ∀ e, e ∈ R.es → e.kind = 0 ∨ e.kind = 1 ∨ e.kind = 2 := fun e he => by
  rcases O.e e he with q | q | q
  ·exact .inl q.1
  ·exact .inr (.inl q.1)
  ·exact .inr (.inr q.1)
 have s1 := A.es.same
 have s2 := A.ps.same
 have e0 : Ext h h := Ext.refl _
 refine Runs.intro aFunc48 rfl rfl rfl rfl fun rest => ?_;apply gS;refine gR rfl ?_;refine GoR.box rfl rfl rfl rfl rfl rfl fun h0 x0 f0 => ?_;have := e0.1;replace e0 := e0.trans x0;have := f0.1;refine GoR.alloc rfl rfl rfl zt30 rfl rfl fun h1 x1 f1 => ?_;have := e0.1;have := f0.1;replace f0 := f0.ext x1;replace e0 := e0.trans x1;have := f1.1;apply gE;apply gS;refine gR rfl ?_;refine gP ?_
 have hx0 := x0.1
 have hx1 := x1.1
 refine GoR.defer rfl rfl rfl rfl ?_;apply gE;apply gS;refine gR rfl ?_;refine gO rfl rfl (ld25 rfl f0 rfl) rfl ?_;refine GoR.call rfl rfl (aCF aFunc92 rfl) (hv _ (A.ext e0)) ?_ np;rintro v2 h2 ⟨q, x2⟩;cases q;refine ⟨_, rfl, ?_⟩;replace f1 := f1.ext x2;replace f0 := f0.ext x2;replace e0 := e0.trans x2;refine gP ?_;refine GoR.call rfl rfl (aCF aFunc91 rfl) (refuse_no 1 _) ?_ np;rintro v3 h3 ⟨q, x3⟩;cases q;refine ⟨_, rfl, ?_⟩;replace f1 := f1.ext x3;replace f0 := f0.ext x3;replace e0 := e0.trans x3;apply gE;apply gS;refine Go.drawnE plan48_0 ?_;refine gQ rfl rfl rfl rfl ?_;refine gQ rfl rfl (fa25_0 rfl) rfl ?_;refine gQ rfl rfl (ld22 rfl f0 rfl) rfl ?_;refine gQ rfl rfl (fa25_1 rfl) rfl ?_;refine gQ rfl rfl (ld23 rfl f0 rfl) rfl ?_;refine GoE.call rfl rfl (aCF aFunc93 rfl) (partsOf_ok (A.ps.ext e0) (by omega)) (dK 6 5 (dK 6 4 (dD 6 2 (dD 6 1 (dK 6 0 rfl))))) ?_ (by rintro _ _ ⟨gp, q, _, g4⟩; cases q);rintro v4 h4 ⟨gp, q, x4, g4⟩;cases q;have := e0.1;have := f1.1;have := f0.1;replace f1 := f1.ext x4;replace f0 := f0.ext x4;replace e0 := e0.trans x4;refine ⟨(rck (h2 := h4) rfl (ld23 rfl f0 rfl) (rck (h2 := h4) rfl (fa25_1 rfl) (rck (h2 := h4) rfl (rfl) recheck_nil))), _, rfl, ?_⟩;refine GoE.call rfl rfl (aCF aFunc94 rfl) (eventsOf_ok (A.es.ext e0) (by omega) hk) (dD 62 5 (dD 62 4 (dK 62 0 rfl))) ?_ (by rintro _ _ ⟨ge, q, _, g5⟩; cases q);rintro v5 h5 ⟨ge, q, x5, g5⟩;cases q;have := e0.1;have := f1.1;have := f0.1;replace f1 := f1.ext x5;replace e0 := e0.trans x5;refine ⟨(rck (h2 := h5) rfl (rfl) recheck_nil), _, rfl, ?_⟩
 have he5 := e0.1
 have l1 := (grow_scal g4).2
 have l2 := (grow_scal g5).2
 have hx5 := x5.1
 have hx4 := x4.1
 have K : GroundAt h5 R h.next v4 v5 := ⟨grow_slice pv_len rfl (g4.ext x5), grow_slice (f := fun e => [evC e]) (sz := 1) (fun _ => rfl) rfl g5⟩
 refine gQ rfl rfl (aOp_build (ps := [(0, v4), (1, v5)]) (cs := [v4, v5]) zt77 hu77 pl77 rfl (by simp [aFillA, l1, l2, cells_agg, splice])) rfl ?_
 have nf1 := f1.1
 have hnS : ¬ S h0.next := fun q => by have := hS _ q; omega
 refine GoE.callP rfl rfl (aOp_callVal rfl hfid rfl) (hbody h5 v4 v5 e0 K) (dD 255 7 (dD 255 0 rfl)) ?_ ?_
 ·rintro v h6 ⟨x6, ⟨q, t6⟩ | ⟨code, q, _⟩⟩
  ·cases q;refine ⟨?_, _, rfl, ?_⟩
   ·exact recheck_nil
   have hx6 := x6.1
   replace f1 := f1.extF x6 hnS
   have y9 : ExtF S h h6 := (ExtF.of e0).trans (fun _ q => .inl q) x6
   clear e0 f0;refine GoE.end rfl ?_;apply gS;refine gR rfl ?_;refine GoR.store rfl rfl rfl rfl rfl rfl f1 rfl sz30 rfl rfl rfl fun h7 u7 => ?_;replace f1 := u7.has f1;replace y9 := y9.upd u7 (.inr (by omega));apply gE;exact Go.retL (attempt_ret rfl f1 ⟨0, h6, rfl, t6, y9, by rw [u7.1]; exact Nat.le_refl _, fun b hb => u7.2.2 b (by omega)⟩)
  ·cases q
 ·rintro chain h6 ⟨x6, ⟨q, _⟩ | ⟨code, q, t6⟩⟩
  ·cases q
  have q := AEnd.pan.inj q
  subst q
  have hx6 := x6.1
  refine attempt_pan rfl (f1.extF x6 hnS) fun h' n1 n2 => ⟨code, h6, rfl, t6, ⟨by omega, fun b hb hbS => by rw [n2 b (by omega) (by omega), x6.2 b (by omega) hbS, e0.2 b hb]⟩, n1, fun b hlt => n2 b (by omega) (by omega)⟩
theorem attempt_bad {R : RoadV} (hno : ¬ R.Ok) (hb1 : R.ps.length ≤ 40) (hb2 : R.es.length ≤ 40) (psl esl : AVal) (h : AH) (A : RoadAt h R psl esl) (W : FuncId) (caps : List AVal) :
  Runs Tryz.prog 48 [.agg [psl, esl], .func (.func W) [] caps] h (fun en h' => en = .ret (.int .i64 1) ∧ Ext h h') := by
 have hv := fun h A => valid_no hno (psl := psl) (esl := esl) (h := h) A hb1 hb2
 have e0 : Ext h h := Ext.refl _
 refine Runs.intro aFunc48 rfl rfl rfl rfl fun rest => ?_;apply gS;refine gR rfl ?_;refine GoR.box rfl rfl rfl rfl rfl rfl fun h0 x0 f0 => ?_;replace e0 := e0.trans x0;refine GoR.alloc rfl rfl rfl zt30 rfl rfl fun h1 x1 f1 => ?_;replace f0 := f0.ext x1;replace e0 := e0.trans x1;apply gE;apply gS;refine gR rfl ?_;refine gP ?_
 have hx0 := x0.1
 have hx1 := x1.1
 refine GoR.defer rfl rfl rfl rfl ?_;apply gE;apply gS;refine gR rfl ?_;refine gO rfl rfl (ld25 rfl f0 rfl) rfl ?_;refine GoR.call rfl rfl (aCF aFunc92 rfl) (hv _ (A.ext e0)) ?_ np;rintro v2 h2 ⟨q, x2⟩;cases q;refine ⟨_, rfl, ?_⟩;replace f1 := f1.ext x2;replace e0 := e0.trans x2;refine gP ?_;refine GoR.callP rfl rfl (aCF aFunc91 rfl) (refuse_ok true 1 _) (by rintro _ _ ⟨_, ⟨q, _⟩ | ⟨_, q⟩⟩ <;> cases q) ?_;rintro chain h9 ⟨rfl, ⟨q, _⟩ | ⟨_, q⟩⟩
 ·cases q
 have q := AEnd.pan.inj q
 subst q
 have hx9 := e0.1
 refine attempt_pan rfl f1 fun h' n1 n2 => ⟨rfl, ?_, fun b hb => by rw [n2 b (by omega) (by omega), e0.2 b hb]⟩
 omega
theorem needLoad_ok {n : Int} {h : AH} : Runs Tryz.prog 60 [.int .i64 n] h (fun en h' => en = (if 0 ≤ n ∧ n ≤ 60 then .ret (.tuple []) else .pan (refusal 2)) ∧ Ext h h') := by
 by_cases hq : 0 ≤ n ∧ n ≤ 60
 ·rw [if_pos hq]
  have e0 : Ext h h := Ext.refl _
  refine Runs.intro aFunc60 rfl rfl rfl rfl fun rest => ?_;refine gR rfl ?_;refine gP ?_;refine GoR.call rfl rfl (aCF aFunc95 rfl) (inside_is (r := true) (decide_eq_true hq)) ?_ np;rintro v0 h0 ⟨q, x0⟩;cases q;refine ⟨_, rfl, ?_⟩;replace e0 := e0.trans x0;refine gP ?_;refine GoR.call rfl rfl (aCF aFunc91 rfl) (refuse_no _ _) ?_ np;rintro v1 h1 ⟨q, x1⟩;cases q;refine ⟨_, rfl, ?_⟩;replace e0 := e0.trans x1;apply gE;exact Go.endL (FLeft.ret (v := .tuple []) (aResult_of Tryz.func60 rfl rfl) ⟨rfl, e0⟩)
 ·rw [if_neg hq]
  have e0 : Ext h h := Ext.refl _
  refine Runs.intro aFunc60 rfl rfl rfl rfl fun rest => ?_;refine gR rfl ?_;refine gP ?_;refine GoR.call rfl rfl (aCF aFunc95 rfl) (inside_is (r := false) (decide_eq_false hq)) ?_ np;rintro v0 h0 ⟨q, x0⟩;cases q;refine ⟨_, rfl, ?_⟩;replace e0 := e0.trans x0;refine gP ?_;refine GoR.callP rfl rfl (aCF aFunc91 rfl) (refuse_yes _ _) (by rintro _ _ ⟨q, _⟩; cases q) ?_;rintro chain h1 ⟨q, x1⟩
  have q := AEnd.pan.inj q
  subst q;replace e0 := e0.trans x1;exact FLeft.pan (⟨rfl, e0⟩)
theorem needPart_ok {R : RoadV} {lo : Nat} {gp ge : AVal} {n : Int} {h : AH} (A : GroundAt h R lo gp ge) (hl : R.ps.length ≤ 40) : Runs Tryz.prog 50 [.agg [gp, ge], .int .i64 n] h (fun en h' => en = (if 0 ≤ n ∧ n ≤ (R.ps.length : Int) - 1 then .ret (.tuple []) else .pan (refusal 2)) ∧ Ext h h') := by
 have hl1 := A.psl.len
 rw [List.length_map] at hl1
 by_cases hq : 0 ≤ n ∧ n ≤ (R.ps.length : Int) - 1
 ·rw [if_pos hq]
  have e0 : Ext h h := Ext.refl _
  refine Runs.intro aFunc50 rfl rfl rfl rfl fun rest => ?_;apply gS;refine gR rfl ?_;refine GoR.box rfl rfl rfl rfl rfl rfl fun h0 x0 f0 => ?_;replace e0 := e0.trans x0;apply gE;refine gR rfl ?_;refine gP ?_;refine gO rfl rfl (fa77_0 rfl) rfl ?_;refine gO rfl rfl (ld74 rfl f0 rfl) rfl ?_;refine gO rfl rfl (aOp_lenSlice Tryz.underlying74 rfl (by assumption)) rfl ?_;refine gO rfl rfl (aS rfl rfl) rfl ?_;refine GoR.call rfl rfl (aCF aFunc95 rfl) (inside_is (r := true) (decide_eq_true hq)) ?_ np;rintro v1 h1 ⟨q, x1⟩;cases q;refine ⟨_, rfl, ?_⟩;replace e0 := e0.trans x1;refine gP ?_;refine GoR.call rfl rfl (aCF aFunc91 rfl) (refuse_no _ _) ?_ np;rintro v2 h2 ⟨q, x2⟩;cases q;refine ⟨_, rfl, ?_⟩;replace e0 := e0.trans x2;apply gE;exact Go.endL (FLeft.ret (v := .tuple []) (aResult_of Tryz.func50 rfl rfl) ⟨rfl, e0⟩)
 ·rw [if_neg hq]
  have e0 : Ext h h := Ext.refl _
  refine Runs.intro aFunc50 rfl rfl rfl rfl fun rest => ?_;apply gS;refine gR rfl ?_;refine GoR.box rfl rfl rfl rfl rfl rfl fun h0 x0 f0 => ?_;replace e0 := e0.trans x0;apply gE;refine gR rfl ?_;refine gP ?_;refine gO rfl rfl (fa77_0 rfl) rfl ?_;refine gO rfl rfl (ld74 rfl f0 rfl) rfl ?_;refine gO rfl rfl (aOp_lenSlice Tryz.underlying74 rfl (by assumption)) rfl ?_;refine gO rfl rfl (aS rfl rfl) rfl ?_;refine GoR.call rfl rfl (aCF aFunc95 rfl) (inside_is (r := false) (decide_eq_false hq)) ?_ np;rintro v1 h1 ⟨q, x1⟩;cases q;refine ⟨_, rfl, ?_⟩;replace e0 := e0.trans x1;refine gP ?_;refine GoR.callP rfl rfl (aCF aFunc91 rfl) (refuse_yes _ _) (by rintro _ _ ⟨q, _⟩; cases q) ?_;rintro chain h2 ⟨q, x2⟩
  have q := AEnd.pan.inj q
  subst q;replace e0 := e0.trans x2;exact FLeft.pan (⟨rfl, e0⟩)
theorem needEvent_ok {R : RoadV} {lo : Nat} {gp ge : AVal} {n : Int} {h : AH} (A : GroundAt h R lo gp ge) (hl : R.es.length ≤ 40) : Runs Tryz.prog 51 [.agg [gp, ge], .int .i64 n] h (fun en h' => en = (if 0 ≤ n ∧ n ≤ (R.es.length : Int) - 1 then .ret (.tuple []) else .pan (refusal 2)) ∧ Ext h h') := by
 have hl1 := A.esl.len
 rw [List.length_map] at hl1
 by_cases hq : 0 ≤ n ∧ n ≤ (R.es.length : Int) - 1
 ·rw [if_pos hq]
  have e0 : Ext h h := Ext.refl _
  refine Runs.intro aFunc51 rfl rfl rfl rfl fun rest => ?_;apply gS;refine gR rfl ?_;refine GoR.box rfl rfl rfl rfl rfl rfl fun h0 x0 f0 => ?_;replace e0 := e0.trans x0;apply gE;refine gR rfl ?_;refine gP ?_;refine gO rfl rfl (fa77_1 rfl) rfl ?_;refine gO rfl rfl (ld75 rfl f0 rfl) rfl ?_;refine gO rfl rfl (aOp_lenSlice Tryz.underlying75 rfl (by assumption)) rfl ?_;refine gO rfl rfl (aS rfl rfl) rfl ?_;refine GoR.call rfl rfl (aCF aFunc95 rfl) (inside_is (r := true) (decide_eq_true hq)) ?_ np;rintro v1 h1 ⟨q, x1⟩;cases q;refine ⟨_, rfl, ?_⟩;replace e0 := e0.trans x1;refine gP ?_;refine GoR.call rfl rfl (aCF aFunc91 rfl) (refuse_no _ _) ?_ np;rintro v2 h2 ⟨q, x2⟩;cases q;refine ⟨_, rfl, ?_⟩;replace e0 := e0.trans x2;apply gE;exact Go.endL (FLeft.ret (v := .tuple []) (aResult_of Tryz.func51 rfl rfl) ⟨rfl, e0⟩)
 ·rw [if_neg hq]
  have e0 : Ext h h := Ext.refl _
  refine Runs.intro aFunc51 rfl rfl rfl rfl fun rest => ?_;apply gS;refine gR rfl ?_;refine GoR.box rfl rfl rfl rfl rfl rfl fun h0 x0 f0 => ?_;replace e0 := e0.trans x0;apply gE;refine gR rfl ?_;refine gP ?_;refine gO rfl rfl (fa77_1 rfl) rfl ?_;refine gO rfl rfl (ld75 rfl f0 rfl) rfl ?_;refine gO rfl rfl (aOp_lenSlice Tryz.underlying75 rfl (by assumption)) rfl ?_;refine gO rfl rfl (aS rfl rfl) rfl ?_;refine GoR.call rfl rfl (aCF aFunc95 rfl) (inside_is (r := false) (decide_eq_false hq)) ?_ np;rintro v1 h1 ⟨q, x1⟩;cases q;refine ⟨_, rfl, ?_⟩;replace e0 := e0.trans x1;refine gP ?_;refine GoR.callP rfl rfl (aCF aFunc91 rfl) (refuse_yes _ _) (by rintro _ _ ⟨q, _⟩; cases q) ?_;rintro chain h2 ⟨q, x2⟩
  have q := AEnd.pan.inj q
  subst q;replace e0 := e0.trans x2;exact FLeft.pan (⟨rfl, e0⟩)
end Go.Proofs.YtkcimfopboelaaaGreat

set_option linter.unusedSimpArgs false
namespace Go.AbsE
open Go
section
variable {P : Program}
def IterP (P : Program) (g : FuncId) (first cap : List AVal) (items : List (List AVal)) (A : AH → Prop) : Prop :=
 ∀ (y : AVal) (J E : Nat → AH → Prop) (h : AH), y.cells = [y] → scalars [y] = true → (∀ k h, J k h → A h) →
  (∀ (k : Nat) item h, items[k]? = some item → J k h → ∃ x, callY P y [.agg item] h = some x ∧ (∀ v h', x ≠ .val v h') ∧ Does P x (fun en h' => (en = .ret (.bool true) ∧ J (k + 1) h') ∨ (en = .ret (.bool false) ∧ E k h'))) →
  J 0 h → Runs P g (first ++ [y] ++ cap) h (fun en h' => en = .ret (.tuple []) ∧ (J items.length h' ∨ ∃ k, k < items.length ∧ E k h'))
theorem IterP.iter {g : FuncId} {first cap : List AVal} {items : List (List AVal)} {A : AH → Prop} (k : IterP P g first cap items A) : Iter P g first cap items A := by
 intro y base S J E h hyc hys hA hb T j0
 obtain ⟨fr, hfr, hr⟩ := k y (fun n h' => ExtF S h h' ∧ J n h') (fun n h' => ExtF S h h' ∧ E n h') h hyc hys (fun _ h' q => hA h' q.1) (fun n item h' hit q => by
  obtain ⟨x, c1, c2, c3⟩ := T.take hit q.2
  refine ⟨x, c1, c2, c3.mono fun en h'' r => ?_⟩
  have x2 : ExtF S h h'' := q.1.trans (fun _ w => .inl w) r.1
  exact r.2.elim (fun r => .inl ⟨r.1, x2, r.2⟩) (fun r => .inr ⟨r.1, x2, r.2⟩)) ⟨ExtF.of (Ext.refl _), j0⟩
 exact Runs.mono ⟨fr, hfr, hr⟩ fun en h' q => ⟨q.1, q.2.elim (fun r => r.1) (fun ⟨_, _, r⟩ => r.1), q.2.elim (fun r => .inl r.2) (fun ⟨m, hm, r⟩ => .inr ⟨m, hm, r.2⟩)⟩
end
end Go.AbsE

set_option linter.unusedSimpArgs false
namespace Go.AbsE
open Go
section
variable {P : Program}
theorem Takes.keep {base : Nat} {y : AVal} {items : List (List AVal)} {J E : Nat → AH → (Nat → Prop) → Prop} (T : Takes P base y items J E) {k : Nat} {h h' : AH} {F : Nat → Prop} (j : J k h F) (hn : h.next ≤ h'.next) (he : ∀ b, b < h.next → (b < base ∨ F b) → h'.get b = h.get b) : J k h' F := T.keepJ j hn he
theorem Takes.shift {base : Nat} {y : AVal} {items sub : List (List AVal)} {J E : Nat → AH → (Nat → Prop) → Prop} (T : Takes P base y items J E) (o : Nat) (hs : ∀ (n : Nat) v, sub[n]? = some v → items[o + n]? = some v) :
  Takes P base y sub (fun n => J (o + n)) (fun n => E (o + n)) where
 ltJ := fun j => T.ltJ j
 keepJ := fun j => T.keepJ j
 ltE := fun j => T.ltE j
 keepE := fun j => T.keepE j
 take := fun h j => T.take (hs _ _ h) j
def IterFR (F : Nat → Prop) (J E : Nat → AH → (Nat → Prop) → Prop) (n : Nat) (h : AH) (en : AEnd) (h' : AH) : Prop := en = .ret (.tuple []) ∧ ExtF F h h' ∧ ∃ F', (∀ b, F' b → F b ∨ h.next ≤ b) ∧ (J n h' F' ∨ ∃ k, k < n ∧ E k h' F')
def IterF (P : Program) (g : FuncId) (first cap : List AVal) (items : List (List AVal)) (A : AH → Prop) : Prop :=
 ∀ (y : AVal) (base : Nat) (J E : Nat → AH → (Nat → Prop) → Prop) (h : AH) (F : Nat → Prop), y.cells = [y] → scalars [y] = true → (∀ h', ExtF F h h' → A h') → base ≤ h.next → Takes P base y items J E → J 0 h F → Runs P g (first ++ [y] ++ cap) h (IterFR F J E items.length h)
theorem IterF.mono {g : FuncId} {first cap : List AVal} {items : List (List AVal)} {A A' : AH → Prop} (k : IterF P g first cap items A) (hA : ∀ h, A' h → A h) : IterF P g first cap items A' :=
 fun y base J E h F hyc hys hA' => k y base J E h F hyc hys fun h' x => hA h' (hA' h' x)
theorem Go.rangeF {fn n : Nat} {ds : List ADef} {dk : Bool} {rst : List AFr} {k : List AItem} {Q : AM → Prop} {t : Tr AVal} {h : AH} {x : Operand} {params : Array Tmp} {assign body : Code} {g : FuncId} {gf fnr : Func} {first cap : List AVal}
  {items : List (List AVal)} {A : AH → Prop} (F0 : Nat → Prop) (Inv : Nat → AH → (Nat → Prop) → Prop) (Fin : Code → AH → (Nat → Prop) → Prop)
  (hx : ev t x = some (.func (.func g) first cap)) (hg : aFunc P g = some gf) (hfn : P.funcs[fn]? = some fnr) (it : IterF P g first cap items A)
  (hA : ∀ h', ExtF F0 h h' → A h') (hI : Inv 0 h F0)
  (lI : ∀ k hh F b, Inv k hh F → F b → b < hh.next) (lF : ∀ c hh F b, Fin c hh F → F b → b < hh.next)
  (kI : ∀ k h1 h2 F, Inv k h1 F → h1.next ≤ h2.next → (∀ b, b < h1.next → (b < h.next ∨ F b) → h2.get b = h1.get b) → Inv k h2 F)
  (kF : ∀ c h1 h2 F, Fin c h1 F → h1.next ≤ h2.next → (∀ b, b < h1.next → (b < h.next ∨ F b) → h2.get b = h1.get b) → Fin c h2 F)
  (bd : ∀ (j : Nat) item, items[j]? = some item → ∃ t1, putArgs t n params.toList [.agg item] = some t1 ∧ ∀ (hh : AH) (F : Nat → Prop) (lb : Nat) (r0 : ALoop) (fr : AFr) (rest : List AFr) (Q' : AM → Prop), Inv j hh F → ExtF F0 h hh → (∀ b, F b → F0 b ∨ h.next ≤ b) → ¬ F lb → h.next ≤ lb → Has hh lb (.loop r0) → r0.state = .ready →
   (∀ tt h' F', Inv (j + 1) h' F' → (∀ b, F' b → F b ∨ hh.next ≤ b) → ExtF (fun b => F b ∨ b = lb) hh h' → Has h' lb (.loop { r0 with state := .busy }) → Go P ⟨fn, n, [], false, some lb, fr :: rest⟩ [] tt h' Q') →
   (∀ c tt h' kk F', (c = .ret ∨ ∃ id, c = .exit id ∧ exitA id kk = none) → Fin c h' F' → (∀ b, F' b → F b ∨ hh.next ≤ b) → ExtF (fun b => F b ∨ b = lb) hh h' → Has h' lb (.loop { r0 with state := .busy }) → Go P ⟨fn, n, [], false, some lb, fr :: rest⟩ (.code c :: kk) tt h' Q') →
   Go P ⟨fn, n, [], false, some lb, fr :: rest⟩ [.code assign, .beginRound, .code body] t1 hh Q')
  (nx : ∀ d h3 F, ExtF F0 h h3 → (∀ b, F b → F0 b ∨ h.next ≤ b) → ¬ F d → h.next ≤ d → Has h3 d (.deferred (some [])) → Inv items.length h3 F → Go P ⟨fn, n, .collected d :: ds, dk, none, rst⟩ k t h3 Q)
  (fx : ∀ c d h3 F, ExtF F0 h h3 → (∀ b, F b → F0 b ∨ h.next ≤ b) → ¬ F d → h.next ≤ d → Has h3 d (.deferred (some [])) → Fin c h3 F → Go P ⟨fn, n, .collected d :: ds, dk, none, rst⟩ (.code c :: k) t h3 Q) :
  Go P ⟨fn, n, ds, dk, none, rst⟩ (.code (.rangeFunc x params assign body) :: k) t h Q := by
 refine Go.rangeFunc hx hg fun d lb h2 hd hlb e2 fd fl => ?_
 obtain ⟨r0, hr0, fl⟩ : ∃ r0 : ALoop, r0 = _ ∧ Has h2 lb (.loop r0) := ⟨_, rfl, fl⟩
 have n2 := e2.1
 have nl := fl.1
 have nd := fd.1
 have hF0 : ∀ b, F0 b → b < h.next := fun b q => lI _ _ _ _ hI q
 let Agree : AH → Prop := fun hh => h2.next ≤ hh.next ∧ ∀ b, b < h2.next → ¬ F0 b → b ≠ lb → hh.get b = h2.get b
 let Sub : (Nat → Prop) → Prop := fun F => ∀ b, F b → F0 b ∨ h2.next ≤ b
 let J : Nat → AH → (Nat → Prop) → Prop := fun j hh G => ∃ F, (∀ b, G b ↔ (F b ∨ b = lb)) ∧ Sub F ∧ Inv j hh F ∧ Agree hh ∧ Has hh lb (.loop r0)
 let E : Nat → AH → (Nat → Prop) → Prop := fun j hh G => ∃ F, (∀ b, G b ↔ (F b ∨ b = lb)) ∧ Sub F ∧ ∃ c, Fin c hh F ∧ Agree hh ∧ Has hh lb (.loop { r0 with state := .done, pending := some c })
 have hsub : ∀ {hh}, Agree hh → ExtF F0 h hh := fun {hh} a => ⟨by have := a.1; omega, fun b hb hn => by rw [a.2 b (by omega) hn (by omega), e2.2 b hb]⟩
 have hd' : ∀ {hh}, Agree hh → Has hh d (.deferred (some [])) := fun {hh} a => ⟨by have := a.1; omega, by rw [a.2 d nd (fun q => by have := hF0 d q; omega) (by omega)]; exact fd.2⟩
 have agU : ∀ {h1 h3 : AH} {o : ABlk}, Agree h1 → Upd h1 lb o h3 → Agree h3 := fun a u => ⟨by rw [u.1]; exact a.1, fun b hb h1 h2 => by rw [u.2.2 b h2]; exact a.2 b hb h1 h2⟩
 have low : ∀ {F}, Sub F → ∀ b, F b → F0 b ∨ h.next ≤ b := fun s b q => (s b q).elim .inl fun q => .inr (by omega)
 have nlb : ∀ {F}, Sub F → ¬ F lb := fun s q => (s lb q).elim (fun q => by have := hF0 _ q; omega) fun q => by omega
 have nd' : ∀ {F}, Sub F → ¬ F d := fun s q => (s d q).elim (fun q => by have := hF0 _ q; omega) fun q => by omega
 have tk : Takes P h2.next (.yield lb) items J E := by
  refine ⟨?_, ?_, ?_, ?_, ?_⟩
  ·rintro j hh G b ⟨F, hG, s, i, a, f⟩ q
   rcases (hG b).1 q with q | rfl
   ·exact lI _ _ _ _ i q
   ·exact f.1
  ·rintro j hh G h' ⟨F, hG, s, i, a, f⟩ hn he
   have := a.1
   refine ⟨F, hG, s, kI _ _ _ _ i hn fun b hb q => he b hb (q.elim (fun q => .inl (by omega)) fun q => .inr ((hG b).2 (.inl q))), ⟨by omega, fun b hb h1 h2' => by rw [he b (by omega) (.inl hb)]; exact a.2 b hb h1 h2'⟩, ⟨by have := f.1; omega, by rw [he lb f.1 (.inr ((hG lb).2 (.inr rfl)))]; exact f.2⟩⟩
  ·rintro j hh G b ⟨F, hG, s, c, i, a, f⟩ q
   rcases (hG b).1 q with q | rfl
   ·exact lF _ _ _ _ i q
   ·exact f.1
  ·rintro j hh G h' ⟨F, hG, s, c, i, a, f⟩ hn he
   have := a.1
   refine ⟨F, hG, s, c, kF _ _ _ _ i hn fun b hb q => he b hb (q.elim (fun q => .inl (by omega)) fun q => .inr ((hG b).2 (.inl q))), ⟨by omega, fun b hb h1 h2' => by rw [he b (by omega) (.inl hb)]; exact a.2 b hb h1 h2'⟩, ⟨by have := f.1; omega, by rw [he lb f.1 (.inr ((hG lb).2 (.inr rfl)))]; exact f.2⟩⟩
  ·rintro j item hh G hit ⟨F, hG, s, i, a, f⟩
   obtain ⟨t1, p1, p2⟩ := bd j item hit
   refine ⟨_, rfl, (fun _ _ q => by cases q), ?_⟩
   subst hr0
   refine Does.round f p1 hfn fun fr rest Q' hr hpn => ?_
   have hGx : ∀ {h'}, ExtF (fun b => F b ∨ b = lb) hh h' → ExtF G hh h' := fun x' => ⟨x'.1, fun b hb hn => x'.2 b hb fun q => hn ((hG b).2 q)⟩
   have hlt2 : h2.next ≤ hh.next := a.1
   have ag : ∀ {h'}, ExtF (fun b => F b ∨ b = lb) hh h' → Agree h' := fun x' => ⟨by have := a.1; have := x'.1; omega, fun b hb h1 h2' => by
    rw [x'.2 b (by have := a.1; omega) (fun q => q.elim (fun q => (s b q).elim h1 fun q => by omega) h2')]
    exact a.2 b hb h1 h2'⟩
   have sub' : ∀ {F' : Nat → Prop}, (∀ b, F' b → F b ∨ hh.next ≤ b) → Sub F' := fun q b hb => (q b hb).elim (s b) fun q => .inr (by omega)
   have upx : ∀ {h' h''} {o : ABlk}, ExtF (fun b => F b ∨ b = lb) hh h' → Upd h' lb o h'' → ExtF (fun b => F b ∨ b = lb) hh h'' := fun x' u => ⟨by rw [u.1]; exact x'.1, fun b hb hn => by rw [u.2.2 b (fun q => hn (.inr q))]; exact x'.2 b hb hn⟩
   have own : ∀ {F' : Nat → Prop}, (∀ b, F' b → F b ∨ hh.next ≤ b) → ∀ b, (F' b ∨ b = lb) → G b ∨ hh.next ≤ b := fun q b z => z.elim (fun z => (q b z).elim (fun z => .inl ((hG b).2 (.inl z))) .inr) fun z => .inl ((hG b).2 (.inr z))
   refine p2 hh F lb _ fr rest Q' i (hsub a) (low s) (nlb s) (by omega) f rfl ?_ ?_
   ·intro tt h' F' i' so x' f'
    refine Go.roundEnd f' fun h'' u => ?_
    refine hr (.bool true) h'' ⟨hGx (upx x' u), fun b => F' b ∨ b = lb, own so, .inl ⟨rfl, F', fun b => Iff.rfl, sub' so, kI _ _ _ _ i' (by rw [u.1]; exact Nat.le_refl _) (fun b hb q => u.2.2 b (fun z => by subst z; exact q.elim (fun q => by omega) (nlb (sub' so)))), agU (ag x') u, u.has f'⟩⟩
   ·intro c tt h' kk F' hc i' so x' f'
    have fin : ∀ h'', Upd h' lb (.loop { state := .done, pending := some c, fn := fn, n := n, tmps := t, params := params.toList, assign := assign, body := body, defers := d }) h'' → ∃ fr', fr.finish (.bool false) = some fr' ∧ Reach P ⟨fr' :: rest, h''⟩ Q' := by
     intro h'' u
     exact hr (.bool false) h'' ⟨hGx (upx x' u), fun b => F' b ∨ b = lb, own so, .inr ⟨rfl, F', fun b => Iff.rfl, sub' so, c, kF _ _ _ _ i' (by rw [u.1]; exact Nat.le_refl _) (fun b hb q => u.2.2 b (fun z => by subst z; exact q.elim (fun q => by omega) (nlb (sub' so)))), agU (ag x') u, u.has f'⟩⟩
    rcases hc with rfl | ⟨id, rfl, hk⟩
    ·exact Go.roundRet f' fin
    ·exact Go.roundExit f' hk fin
 have ag2 : Agree h2 := ⟨Nat.le_refl _, fun _ _ _ _ => rfl⟩
 have s0 : Sub F0 := fun b q => .inl q
 have i2 : Inv 0 h2 F0 := kI _ _ _ _ hI n2 (fun b hb _ => e2.2 b hb)
 refine ⟨IterFR (fun b => F0 b ∨ b = lb) J E items.length h2, it (.yield lb) h2.next J E h2 (fun b => F0 b ∨ b = lb) rfl rfl (fun h' x => hA h' ⟨by have := x.1; omega, fun b hb hn => by rw [x.2 b (by omega) (fun q => q.elim hn (fun q => by omega)), e2.2 b hb]⟩) (Nat.le_refl _) tk ⟨F0, fun b => Iff.rfl, s0, i2, ag2, fl⟩, (fun chain h' q => by cases q.1), ?_⟩
 rintro v h' ⟨q, x', G, hGG, j | ⟨kk, hk, j⟩⟩
 ·obtain ⟨F, hG, s, i, a, f⟩ := j
  refine ⟨r0, f, by rw [hr0]; exact (fun q => by cases q), fun h3 u => ?_⟩
  have hp : r0.pending = none := by rw [hr0]
  rw [hp]
  exact nx d h3 F (hsub (agU a u)) (low s) (nd' s) (by omega) (hd' (agU a u)) (kI _ _ _ _ i (by rw [u.1]; exact Nat.le_refl _) (fun b hb q => u.2.2 b (fun z => by subst z; exact q.elim (fun q => by omega) (nlb s))))
 ·obtain ⟨F, hG, s, c, i, a, f⟩ := j
  refine ⟨_, f, (fun q => by cases q), fun h3 u => ?_⟩
  exact fx c d h3 F (hsub (agU a u)) (low s) (nd' s) (by omega) (hd' (agU a u)) (kF _ _ _ _ i (by rw [u.1]; exact Nat.le_refl _) (fun b hb q => u.2.2 b (fun z => by subst z; exact q.elim (fun q => by omega) (nlb s))))
end
end Go.AbsE

namespace Go.Proofs.YtkcimfopboelaaaGreat
open Go Go.AbsE
set_option linter.unusedSimpArgs false
set_option maxRecDepth 100000
set_option maxHeartbeats 0
set_option linter.unusedVariables false
theorem fm_at {α : Type} {f : Nat → List α} {N m i : Nat} {x : α} (hm : m < N) (hx : (f m)[i]? = some x) : ((List.range N).flatMap f)[((List.range m).flatMap f).length + i]? = some x := by
 have h1 : List.range N = List.range m ++ (m :: (List.range (N - (m + 1))).map (· + (m + 1))) := by
  have : N = m + (1 + (N - (m + 1))) := by omega
  conv => lhs; rw [this, List.range_add, List.range_add]
  simp only [List.map_append, List.map_map]
  congr 1
  simp only [List.range_one, List.map_cons, List.map_nil, List.cons_append, List.nil_append, Nat.add_zero]
  congr 1
  refine List.map_congr_left fun k _ => ?_
  simp only [Function.comp_apply]
  omega
 have hi := (List.getElem?_eq_some_iff.1 hx).1
 rw [h1, List.flatMap_append, List.flatMap_cons, List.getElem?_append_right (by omega), Nat.add_sub_cancel_left, List.getElem?_append_left hi];exact hx
theorem fm_succ {α : Type} (f : Nat → List α) (m : Nat) : ((List.range (m + 1)).flatMap f).length = ((List.range m).flatMap f).length + (f m).length := by
 rw [List.range_succ, List.flatMap_append, List.length_append]
 simp
def pcC (p : PV) (a b n : Nat) : List Pc := (List.range n).map fun c : Nat => ⟨p.hl + a, p.sl + b, p.rl + c, p.full⟩
def pcB (p : PV) (a n : Nat) : List Pc := (List.range n).flatMap fun b => pcC p a b (p.rh - p.rl + 1).toNat
def pcA (p : PV) (n : Nat) : List Pc := (List.range n).flatMap fun a => pcB p a (p.sh - p.sl + 1).toNat
theorem pcs_is (p : PV) : p.pcs = pcA p (p.hh - p.hl + 1).toNat := by
 unfold PV.pcs upto pcA pcB pcC
 simp only [List.flatMap_map, List.map_map]
 rfl
theorem pcA_succ (p : PV) (n : Nat) : (pcA p (n + 1)).length = (pcA p n).length + (pcB p n (p.sh - p.sl + 1).toNat).length := fm_succ _ _
theorem pcB_succ (p : PV) (a n : Nat) : (pcB p a (n + 1)).length = (pcB p a n).length + (p.rh - p.rl + 1).toNat := by
 unfold pcB
 rw [fm_succ]
 congr 1
 simp [pcC]
theorem pcs_at {p : PV} {a b c A : Nat} (ha : a < A) (hb : b < (p.sh - p.sl + 1).toNat) (hc : c < (p.rh - p.rl + 1).toNat) : (pcA p A)[(pcA p a).length + ((pcB p a b).length + c)]? = some ⟨p.hl + a, p.sl + b, p.rl + c, p.full⟩ := by
 refine fm_at ha ?_;refine fm_at hb ?_
 unfold pcC
 rw [List.getElem?_map, List.getElem?_range hc]
 rfl
theorem own_next {F F' F0 : Nat → Prop} {a b : Nat} (h1 : ∀ b, F' b → F b ∨ b ≥ a) (h2 : ∀ c, F c → F0 c ∨ b ≤ c) (hab : b ≤ a) : ∀ c, F' c → F0 c ∨ b ≤ c := fun c q => (h1 c q).elim (h2 c) fun q => .inr (by omega)
theorem pieces_it {p : PV} (hp : p.Ok) : IterF Tryz.prog 138 [.agg p.cells] [] (p.pcs.map Pc.cells) (fun _ => True) := by
 intro y base J E h F hyc hys hA hb T j0
 show Runs Tryz.prog 138 [.agg p.cells, y] h _
 rw [List.length_map, pcs_is] at *
 obtain ⟨o1, o2, o3, o4⟩ := hp
 obtain ⟨A, hAn⟩ : ∃ A, (p.hh - p.hl + 1).toNat = A := ⟨_, rfl⟩
 obtain ⟨B, hBn⟩ : ∃ B, (p.sh - p.sl + 1).toNat = B := ⟨_, rfl⟩
 obtain ⟨C, hCn⟩ : ∃ C, (p.rh - p.rl + 1).toNat = C := ⟨_, rfl⟩
 have hat : ∀ {a b c : Nat}, a < A → b < B → c < C → _ := fun ha hb hc => pcs_at (p := p) (A := A) ha (hBn ▸ hb) (hCn ▸ hc)
 have hsA : ∀ a, (pcA p (a + 1)).length = (pcA p a).length + (pcB p a B).length := fun a => hBn ▸ pcA_succ p a
 have hsB : ∀ a b, (pcB p a (b + 1)).length = (pcB p a b).length + C := fun a b => hCn ▸ pcB_succ p a b
 rw [hAn] at T ⊢
 have hSl : ∀ b, F b → b < h.next := fun b q => T.ltJ j0 q
 have hnS : ¬ F h.next := fun q => Nat.lt_irrefl _ (hSl _ q)
 unfold PV.cells
 have e0 : Ext h h := Ext.refl _
 refine Runs.intro aFunc138 rfl rfl rfl rfl fun rest => ?_;apply gS;refine gR rfl ?_;refine GoR.box rfl rfl rfl rfl rfl rfl fun h0 x0 f0 => ?_;have := e0.1;replace e0 := e0.trans x0;have := f0.1;apply gE;apply gS;refine gR rfl ?_;refine gO rfl rfl (fa157_0 rfl) rfl ?_;refine gO rfl rfl (fa29_0 rfl) rfl ?_;refine gO rfl rfl (ld3 rfl f0 rfl) rfl ?_;refine gP ?_;apply gE;refine Go.block noJ_ok ?_
 have hlt := f0.1
 refine Go.loopKeep (fun a : Nat × (Nat → Prop) => [(1, y), (2, .ptr h.next 0), (4, .int .i64 (p.hl + (a.1 : Nat)))]) (fun m a h' => m + a.1 = A ∧ ExtF F h h' ∧ (∀ b, a.2 b → F b ∨ h.next ≤ b) ∧ ¬ a.2 h.next ∧ Has h' h.next (.cells .plain p.cells 157) ∧ J (pcA p a.1).length h' a.2) (n := A) (0, F) ⟨rfl, rfl, (by simp; rfl), trivial⟩ ⟨rfl, ExtF.of e0, fun b q => .inl q, hnS, f0, T.ext j0 e0⟩ ?_;clear e0 f0;rintro m ⟨a, G⟩ h1 ⟨hm, x1, hG, hnG, f0, j1⟩ again
 dsimp only at hm hG hnG j1 ⊢
 have e0 : Ext h1 h1 := Ext.refl _
 unfold PV.cells at f0
 by_cases ha : a < A
 ·iterate 2 apply gS
  refine gR rfl ?_;refine gP ?_;refine gO rfl rfl (fa157_0 rfl) rfl ?_;refine gO rfl rfl (fa29_1 rfl) rfl ?_;refine gO rfl rfl (ld3 rfl f0 rfl) rfl ?_;refine gO rfl rfl (kMT rfl rfl) rfl ?_;apply gE;refine gC (b := true) rfl ?_;refine gD ?_;apply gS;refine Go.block noJ_ok ?_;apply gS;refine gR rfl ?_;refine gO rfl rfl (fa157_1 rfl) rfl ?_;refine gO rfl rfl (fa29_0 rfl) rfl ?_;refine gO rfl rfl (ld3 rfl f0 rfl) rfl ?_;refine gP ?_;apply gE;refine Go.block noJ_ok ?_;refine Go.loopKeep (fun b : Nat × (Nat → Prop) => [(1, y), (2, .ptr h.next 0), (4, .int .i64 (p.hl + (a : Nat))), (5, .int .i64 (p.sl + (b.1 : Nat)))]) (fun m b h' => m + b.1 = B ∧ ExtF F h h' ∧ (∀ c, b.2 c → F c ∨ h.next ≤ c) ∧ ¬ b.2 h.next ∧ Has h' h.next (.cells .plain p.cells 157) ∧ J ((pcA p a).length + (pcB p a b.1).length) h' b.2) (n := B) (0, G) ⟨rfl, rfl, rfl, (by simp; rfl), trivial⟩ ⟨rfl, x1, hG, hnG, f0, j1⟩ ?_;clear e0 f0 j1 x1 hG hnG;rintro m2 ⟨b, G⟩ h2 ⟨hm2, x1, hG, hnG, f0, j1⟩ again2
  dsimp only at hm2 hG hnG j1 ⊢
  have e0 : Ext h2 h2 := Ext.refl _
  unfold PV.cells at f0
  by_cases hb' : b < B
  ·iterate 2 apply gS
   refine gR rfl ?_;refine gP ?_;refine gO rfl rfl (fa157_1 rfl) rfl ?_;refine gO rfl rfl (fa29_1 rfl) rfl ?_;refine gO rfl rfl (ld3 rfl f0 rfl) rfl ?_;refine gO rfl rfl (kMT rfl rfl) rfl ?_;apply gE;refine gC (b := true) rfl ?_;refine gD ?_;apply gS;refine Go.block noJ_ok ?_;apply gS;refine gR rfl ?_;refine gO rfl rfl (fa157_2 rfl) rfl ?_;refine gO rfl rfl (fa29_0 rfl) rfl ?_;refine gO rfl rfl (ld3 rfl f0 rfl) rfl ?_;refine gP ?_;apply gE;refine Go.block noJ_ok ?_;refine Go.loopKeep (fun c : Nat × (Nat → Prop) => [(1, y), (2, .ptr h.next 0), (4, .int .i64 (p.hl + (a : Nat))), (5, .int .i64 (p.sl + (b : Nat))), (6, .int .i64 (p.rl + (c.1 : Nat)))]) (fun m c h' => m + c.1 = C ∧ ExtF F h h' ∧ (∀ b, c.2 b → F b ∨ h.next ≤ b) ∧ ¬ c.2 h.next ∧ Has h' h.next (.cells .plain p.cells 157) ∧ J ((pcA p a).length + ((pcB p a b).length + c.1)) h' c.2) (n := C) (0, G) ⟨rfl, rfl, rfl, rfl, (by simp; rfl), trivial⟩ ⟨rfl, x1, hG, hnG, f0, j1⟩ ?_;clear e0 f0 j1 x1 hG hnG;rintro m3 ⟨c, G⟩ h3 ⟨hm3, x1, hG, hnG, f0, j1⟩ again3
   dsimp only at hm3 hG hnG j1 ⊢
   have e0 : Ext h3 h3 := Ext.refl _
   have hx1 := x1.1
   unfold PV.cells at f0
   by_cases hc : c < C
   ·have hit := hat ha hb' hc
    have hlt := (List.getElem?_eq_some_iff.1 hit).1
    obtain ⟨ax, a1, a2, a3⟩ := T.take (by rw [List.getElem?_map, hit]; rfl) j1
    unfold Pc.cells at a1
    have hb0 := f0.1
    iterate 2 apply gS
    refine gR rfl ?_;refine gP ?_;refine gO rfl rfl (fa157_2 rfl) rfl ?_;refine gO rfl rfl (fa29_1 rfl) rfl ?_;refine gO rfl rfl (ld3 rfl f0 rfl) rfl ?_;refine gO rfl rfl (kMT rfl rfl) rfl ?_;apply gE;refine gC (b := true) rfl ?_;refine gD ?_;apply gS;refine Go.block noJ_ok ?_;apply gS;refine gR rfl ?_;iterate 4 refine gP ?_
    refine gO rfl rfl (fa157_3 rfl) rfl ?_;refine gO rfl rfl (ld3 rfl f0 rfl) rfl ?_;refine gO rfl rfl (aOp_build zt84 hu84 pl84 rfl rfl) rfl ?_;refine GoR.does rfl rfl (aOp_callY rfl rfl a1) a2 a3 ?_ (by rintro _ _ ⟨_, _, _, ⟨q, _⟩ | ⟨q, _⟩⟩ <;> cases q);rintro v h6 ⟨x6, G', hG', ⟨q, j6⟩ | ⟨q, e6⟩⟩
    ·cases q;refine ⟨_, rfl, ?_⟩;replace f0 := f0.extF x6 hnG;refine gP ?_;apply gE;refine gC (b := false) rfl ?_;refine gD ?_;refine Go.inBlock noJ_ok ?_;refine gR rfl ?_;refine gP ?_;refine gO rfl rfl (aA rfl rfl) rfl ?_;refine gP ?_;apply gE;exact again3 (m3 - 1) (c + 1, G') _ _ (by omega) ⟨rfl, rfl, rfl, rfl, (by simp [Int.add_assoc]; rfl), trivial⟩ ⟨by dsimp only; omega, x1.trans hG x6, own_next hG' hG hx1, fun q => (hG' _ q).elim hnG fun q => by omega, f0, j6⟩
    ·cases q;refine ⟨_, rfl, ?_⟩;refine gP ?_;apply gE;refine gC (b := true) rfl ?_;exact gV (ret_end (aResult_of Tryz.func138 rfl rfl) ⟨rfl, x1.trans hG x6, G', own_next hG' hG hx1, .inr ⟨_, hlt, e6⟩⟩)
   ·iterate 2 apply gS
    refine gR rfl ?_;refine gP ?_;refine gO rfl rfl (fa157_2 rfl) rfl ?_;refine gO rfl rfl (fa29_1 rfl) rfl ?_;refine gO rfl rfl (ld3 rfl f0 rfl) rfl ?_;refine gO rfl rfl (kMF rfl rfl) rfl ?_;apply gE;refine gC (b := false) rfl ?_;refine gD ?_;refine Go.inBlock noJ_ok ?_;refine gR rfl ?_;refine gP ?_;refine gO rfl rfl (aA rfl rfl) rfl ?_;refine gP ?_;apply gE
    have hcn : c = C := by omega
    exact again2 (m2 - 1) (b + 1, G) _ _ (by omega) ⟨rfl, rfl, rfl, (by simp [Int.add_assoc]; rfl), trivial⟩ ⟨by dsimp only; omega, x1, hG, hnG, f0, by rw [hsB, ← hcn]; exact j1⟩
  ·iterate 2 apply gS
   refine gR rfl ?_;refine gP ?_;refine gO rfl rfl (fa157_1 rfl) rfl ?_;refine gO rfl rfl (fa29_1 rfl) rfl ?_;refine gO rfl rfl (ld3 rfl f0 rfl) rfl ?_;refine gO rfl rfl (kMF rfl rfl) rfl ?_;apply gE;refine gC (b := false) rfl ?_;refine gD ?_;refine Go.inBlock noJ_ok ?_;refine gR rfl ?_;refine gP ?_;refine gO rfl rfl (aA rfl rfl) rfl ?_;refine gP ?_;apply gE
   have hbn : b = B := by omega
   exact again (m - 1) (a + 1, G) _ _ (by omega) ⟨rfl, rfl, (by simp [Int.add_assoc]; rfl), trivial⟩ ⟨by dsimp only; omega, x1, hG, hnG, f0, by rw [hsA, ← hbn]; exact j1⟩
 ·have ha' : a = A := by omega
  rw [ha'] at j1;iterate 2 apply gS
  refine gR rfl ?_;refine gP ?_;refine gO rfl rfl (fa157_0 rfl) rfl ?_;refine gO rfl rfl (fa29_1 rfl) rfl ?_;refine gO rfl rfl (ld3 rfl f0 rfl) rfl ?_;refine gO rfl rfl (kMF rfl rfl) rfl ?_;apply gE;refine gC (b := false) rfl ?_;refine gD ?_;exact Go.endL (FLeft.ret (v := .tuple []) (aResult_of Tryz.func138 rfl rfl) ⟨rfl, x1, G, hG, .inl j1⟩)
end Go.Proofs.YtkcimfopboelaaaGreat

namespace Go.Proofs.YtkcimfopboelaaaGreat
open Go Go.AbsE
set_option linter.unusedSimpArgs false
set_option maxRecDepth 100000
set_option maxHeartbeats 0
set_option linter.unusedVariables false
theorem passAfter_ok {a b : Int} {x : Pc} {l : Int} (h1 : 0 ≤ l ∧ l ≤ 1000) (h2 : 1 ≤ x.stiff ∧ x.stiff ≤ 10) (h3 : -10000 ≤ x.height ∧ x.height ≤ 1000) {h : AH} : Runs Tryz.prog 173 [.agg [.int .i64 a, .int .i64 b], .agg x.cells, .int .i64 l] h (fun en h' => en = .ret (.agg (x.pressed l).cells) ∧ Ext h h') := by
 have hp := fun h => pressed_ok (x := x) h1 h2 h3 (h := h)
 unfold Pc.cells at *
 have e0 : Ext h h := Ext.refl _
 refine Runs.intro aFunc173 rfl rfl rfl rfl fun rest => ?_;apply gS;refine gR rfl ?_;refine GoR.box rfl rfl rfl rfl rfl rfl fun h4 x4 f4 => ?_;have := e0.1;replace e0 := e0.trans x4;have := f4.1;refine GoR.box rfl rfl rfl rfl rfl rfl fun h5 x5 f5 => ?_;have := e0.1;have := f4.1;replace f4 := f4.ext x5;replace e0 := e0.trans x5;have := f5.1;refine GoR.alloc rfl rfl rfl zt84 rfl rfl fun h6 x6 f6 => ?_;have := e0.1;have := f5.1;have := f4.1;replace f5 := f5.ext x6;replace e0 := e0.trans x6;have := f6.1;apply gE;apply gS;refine gR rfl ?_;refine gO rfl rfl (ld84 rfl f5 rfl) rfl ?_;refine gP ?_;refine GoR.call rfl rfl (aCF aFunc141 rfl) (hp _) ?_ np;rintro v7 h7 ⟨q, x7⟩;cases q;refine ⟨_, rfl, ?_⟩;replace f6 := f6.ext x7;replace e0 := e0.trans x7;refine GoR.store rfl rfl rfl rfl rfl rfl f6 rfl sz84 rfl rfl rfl fun h8 u8 => ?_;replace f6 := u8.has f6;replace e0 := e0.upd u8 (by omega);apply gE;exact gV (ret_end (aResult_of Tryz.func173 rfl (aResults_cell rfl f6 (inCells_agg ag84 sz84 rfl))) ⟨rfl, e0⟩)
theorem restAfter_ok {d : Int} {x : Pc} {l : Int} (h1 : 0 ≤ d ∧ d ≤ 1000) (h2 : 0 ≤ x.rise ∧ x.rise ≤ 5) (h3 : -10000 ≤ x.height ∧ x.height ≤ 1000) {h : AH} : Runs Tryz.prog 176 [.agg [.int .i64 d], .agg x.cells, .int .i64 l] h (fun en h' => en = .ret (.agg (x.rested d).cells) ∧ Ext h h') := by
 have hp := fun h => rested_ok (x := x) h1 h2 h3 (h := h)
 unfold Pc.cells at *
 have e0 : Ext h h := Ext.refl _
 refine Runs.intro aFunc176 rfl rfl rfl rfl fun rest => ?_;apply gS;refine gR rfl ?_;refine GoR.box rfl rfl rfl rfl rfl rfl fun h4 x4 f4 => ?_;have := e0.1;replace e0 := e0.trans x4;have := f4.1;refine GoR.box rfl rfl rfl rfl rfl rfl fun h5 x5 f5 => ?_;have := e0.1;have := f4.1;replace f4 := f4.ext x5;replace e0 := e0.trans x5;have := f5.1;refine GoR.alloc rfl rfl rfl zt84 rfl rfl fun h6 x6 f6 => ?_;have := e0.1;have := f5.1;have := f4.1;replace f5 := f5.ext x6;replace f4 := f4.ext x6;replace e0 := e0.trans x6;have := f6.1;apply gE;apply gS;refine gR rfl ?_;refine gO rfl rfl (ld84 rfl f5 rfl) rfl ?_;refine gO rfl rfl (fa164_0 rfl) rfl ?_;refine gO rfl rfl (ld3 rfl f4 rfl) rfl ?_;refine GoR.call rfl rfl (aCF aFunc116 rfl) (hp _) ?_ np;rintro v7 h7 ⟨q, x7⟩;cases q;refine ⟨_, rfl, ?_⟩;replace f6 := f6.ext x7;replace e0 := e0.trans x7;refine GoR.store rfl rfl rfl rfl rfl rfl f6 rfl sz84 rfl rfl rfl fun h8 u8 => ?_;replace f6 := u8.has f6;replace e0 := e0.upd u8 (by omega);apply gE;exact gV (ret_end (aResult_of Tryz.func176 rfl (aResults_cell rfl f6 (inCells_agg ag84 sz84 rfl))) ⟨rfl, e0⟩)
theorem passLoads_ok {a b : Int} {h : AH} : Runs Tryz.prog 174 [.agg [.int .i64 a, .int .i64 b]] h (fun en h' => en = .ret (.agg [.int .i64 a, .int .i64 b]) ∧ Ext h h') := by
 have e0 : Ext h h := Ext.refl _
 refine Runs.intro aFunc174 rfl rfl rfl rfl fun rest => ?_;apply gS;refine gR rfl ?_;refine GoR.box rfl rfl rfl rfl rfl rfl fun h0 x0 f0 => ?_;have := e0.1;replace e0 := e0.trans x0;have := f0.1;refine GoR.alloc rfl rfl rfl zt29 rfl rfl fun h1 x1 f1 => ?_;have := e0.1;have := f0.1;replace f0 := f0.ext x1;replace e0 := e0.trans x1;have := f1.1;apply gE;apply gS;refine gR rfl ?_;refine gO rfl rfl (fa162_0 rfl) rfl ?_;refine gO rfl rfl (ld29 rfl f0 rfl) rfl ?_;refine GoR.store rfl rfl rfl rfl rfl rfl f1 rfl sz29 rfl rfl rfl fun h2 u2 => ?_;replace f1 := u2.has f1;replace e0 := e0.upd u2 (by omega);apply gE;exact gV (ret_end (aResult_of Tryz.func174 rfl (aResults_cell rfl f1 (inCells_agg ag29 sz29 rfl))) ⟨rfl, e0⟩)
theorem restLoads_ok {d : Int} {h : AH} : Runs Tryz.prog 177 [.agg [.int .i64 d]] h (fun en h' => en = .ret (.agg [.int .i64 0, .int .i64 0]) ∧ Ext h h') := by
 have e0 : Ext h h := Ext.refl _
 refine Runs.intro aFunc177 rfl rfl rfl rfl fun rest => ?_;apply gS;refine gR rfl ?_;refine GoR.box rfl rfl rfl rfl rfl rfl fun h0 x0 f0 => ?_;have := e0.1;replace e0 := e0.trans x0;have := f0.1;refine GoR.alloc rfl rfl rfl zt29 rfl rfl fun h1 x1 f1 => ?_;have := e0.1;have := f0.1;replace e0 := e0.trans x1;have := f1.1;apply gE;apply gS;refine gR rfl ?_;refine GoR.call rfl rfl (aCF aFunc102 rfl) (one_ok) ?_ np;rintro v2 h2 ⟨q, x2⟩;cases q;refine ⟨_, rfl, ?_⟩;replace f1 := f1.ext x2;replace e0 := e0.trans x2;refine GoR.store rfl rfl rfl rfl rfl rfl f1 rfl sz29 rfl rfl rfl fun h3 u3 => ?_;replace f1 := u3.has f1;replace e0 := e0.upd u3 (by omega);apply gE;exact gV (ret_end (aResult_of Tryz.func177 rfl (aResults_cell rfl f1 (inCells_agg ag29 sz29 rfl))) ⟨rfl, e0⟩)
theorem passRight_ok {a b n : Int} {x : Pc} {h : AH} : Runs Tryz.prog 175 [.agg [.int .i64 a, .int .i64 b], .int .i64 n, .agg x.cells] h (fun en h' => en = .ret (.bool true) ∧ Ext h h') := by
 unfold Pc.cells
 have e0 : Ext h h := Ext.refl _
 refine Runs.intro aFunc175 rfl rfl rfl rfl fun rest => ?_;apply gS;refine gR rfl ?_;refine GoR.box rfl rfl rfl rfl rfl rfl fun h0 x0 f0 => ?_;replace e0 := e0.trans x0;refine GoR.box rfl rfl rfl rfl rfl rfl fun h1 x1 f1 => ?_;replace e0 := e0.trans x1;refine gP ?_;apply gE;apply gS;refine gR rfl ?_;refine gP ?_;apply gE;exact gW Tryz.func175 rfl rfl ⟨rfl, e0⟩
theorem restRight_ok {a n : Int} {x : Pc} {h : AH} : Runs Tryz.prog 178 [.agg [.int .i64 a], .int .i64 n, .agg x.cells] h (fun en h' => en = .ret (.bool true) ∧ Ext h h') := by
 unfold Pc.cells
 have e0 : Ext h h := Ext.refl _
 refine Runs.intro aFunc178 rfl rfl rfl rfl fun rest => ?_;apply gS;refine gR rfl ?_;refine GoR.box rfl rfl rfl rfl rfl rfl fun h0 x0 f0 => ?_;replace e0 := e0.trans x0;refine GoR.box rfl rfl rfl rfl rfl rfl fun h1 x1 f1 => ?_;replace e0 := e0.trans x1;refine gP ?_;apply gE;apply gS;refine gR rfl ?_;refine gP ?_;apply gE;exact gW Tryz.func178 rfl rfl ⟨rfl, e0⟩
theorem lookRight_ok {d p a b n : Int} {x : Pc} {h : AH} : Runs Tryz.prog 179 [.agg [.int .i64 d, .int .i64 p, .int .i64 a, .int .i64 b], .int .i64 n, .agg x.cells] h (fun en h' => en = .ret (.bool (decide (n = p → a ≤ x.height ∧ x.height ≤ b))) ∧ Ext h h') := by
 unfold Pc.cells
 by_cases q : n = p
 ·have hq : decide (n = p → a ≤ x.height ∧ x.height ≤ b) = decide (a ≤ x.height ∧ x.height ≤ b) := decide_eq_decide.2 (by simp [q])
  rw [hq]
  have e0 : Ext h h := Ext.refl _
  refine Runs.intro aFunc179 rfl rfl rfl rfl fun rest => ?_;apply gS;refine gR rfl ?_;refine GoR.box rfl rfl rfl rfl rfl rfl fun h0 x0 f0 => ?_;replace e0 := e0.trans x0;refine GoR.box rfl rfl rfl rfl rfl rfl fun h1 x1 f1 => ?_;replace f0 := f0.ext x1;replace e0 := e0.trans x1;refine gP ?_;apply gE;apply gS;refine gR rfl ?_;refine gP ?_;refine gO rfl rfl (fa166_1 rfl) rfl ?_;refine gO rfl rfl (ld3 rfl f0 rfl) rfl ?_;refine gO rfl rfl (kXF rfl rfl) rfl ?_;refine gP ?_;refine gO rfl rfl (fa84_0 rfl) rfl ?_;refine gO rfl rfl (ld3 rfl f1 rfl) rfl ?_;refine gO rfl rfl (fa166_2 rfl) rfl ?_;refine gO rfl rfl (fa29_0 rfl) rfl ?_;refine gO rfl rfl (ld3 rfl f0 rfl) rfl ?_;refine gO rfl rfl (fa166_2 rfl) rfl ?_;refine gO rfl rfl (fa29_1 rfl) rfl ?_;refine gO rfl rfl (ld3 rfl f0 rfl) rfl ?_;refine GoR.call rfl rfl (aCF aFunc95 rfl) (inside_ok) ?_ np;rintro v2 h2 ⟨q, x2⟩;cases q;refine ⟨_, rfl, ?_⟩;replace e0 := e0.trans x2;iterate 2 refine gP ?_
  apply gE;exact gW Tryz.func179 rfl rfl ⟨rfl, e0⟩
 ·have hq : decide (n = p → a ≤ x.height ∧ x.height ≤ b) = true := decide_eq_true fun z => absurd z q
  rw [hq]
  have e0 : Ext h h := Ext.refl _
  refine Runs.intro aFunc179 rfl rfl rfl rfl fun rest => ?_;apply gS;refine gR rfl ?_;refine GoR.box rfl rfl rfl rfl rfl rfl fun h0 x0 f0 => ?_;replace e0 := e0.trans x0;refine GoR.box rfl rfl rfl rfl rfl rfl fun h1 x1 f1 => ?_;replace f0 := f0.ext x1;replace e0 := e0.trans x1;refine gP ?_;apply gE;apply gS;refine gR rfl ?_;refine gP ?_;refine gO rfl rfl (fa166_1 rfl) rfl ?_;refine gO rfl rfl (ld3 rfl f0 rfl) rfl ?_;refine gO rfl rfl (kXT rfl rfl) rfl ?_;refine gP ?_;iterate 9 refine GoR.skip rfl rfl rfl ?_
  iterate 2 refine gP ?_
  apply gE;exact gW Tryz.func179 rfl rfl ⟨rfl, e0⟩
theorem after_at {n : Int} {e : EV} (he : e.Ok n) {x : Pc} {l : Int} (h1 : e.lo ≤ l ∧ l ≤ e.hi) (h2 : 1 ≤ x.stiff ∧ x.stiff ≤ 10) (h3 : -10000 ≤ x.height ∧ x.height ≤ 1000) (h4 : 0 ≤ x.rise ∧ x.rise ≤ 5) (h : AH) :
  ∃ f args, aInvokeIface Tryz.prog (evC e) "bogworks/road.after" [.agg x.cells, .int .i64 l] h = some (.enter f args h) ∧ Runs Tryz.prog f args h (fun en h' => en = .ret (.agg (e.after x l).cells) ∧ Ext h h') := by
 unfold evC EV.after EV.rest
 unfold EV.lo EV.hi at h1
 by_cases k0 : e.kind = 0
 ·rw [if_pos k0, if_pos k0];rw [if_pos k0, if_pos k0] at h1
  have hl : 0 ≤ l ∧ l ≤ 60 := by rcases he with he | he | he <;> omega
  exact ⟨173, [.agg [.int .i64 e.ll, .int .i64 e.lh], .agg x.cells, .int .i64 l], by kernel_rfl, passAfter_ok (by omega) h2 h3⟩
 ·rw [if_neg k0, if_neg k0]
  by_cases k1 : e.kind = 1
  ·rw [if_pos k1, if_pos k1]
   have hl : 1 ≤ e.days ∧ e.days ≤ 10 := by rcases he with he | he | he <;> omega
   exact ⟨176, [.agg [.int .i64 e.days], .agg x.cells, .int .i64 l], by kernel_rfl, restAfter_ok (by omega) h4 h3⟩
  ·rw [if_neg k1, if_neg k1];exact ⟨176, [.agg [.int .i64 0], .agg x.cells, .int .i64 l], by kernel_rfl, restAfter_ok (by omega) h4 h3⟩
theorem loads_at {n : Int} {e : EV} (he : e.Ok n) (h : AH) :
  ∃ f args, aInvokeIface Tryz.prog (evC e) "bogworks/road.loads" [] h = some (.enter f args h) ∧ Runs Tryz.prog f args h (fun en h' => en = .ret (.agg [.int .i64 e.lo, .int .i64 e.hi]) ∧ Ext h h') := by
 unfold evC EV.lo EV.hi
 by_cases k0 : e.kind = 0
 ·rw [if_pos k0, if_pos k0, if_pos k0];exact ⟨174, [.agg [.int .i64 e.ll, .int .i64 e.lh]], by kernel_rfl, passLoads_ok⟩
 ·rw [if_neg k0, if_neg k0, if_neg k0]
  by_cases k1 : e.kind = 1
  ·rw [if_pos k1];exact ⟨177, [.agg [.int .i64 e.days]], by kernel_rfl, restLoads_ok⟩
  ·rw [if_neg k1];exact ⟨177, [.agg [.int .i64 0]], by kernel_rfl, restLoads_ok⟩
theorem right_at {n : Int} {e : EV} (he : e.Ok n) {x : Pc} {p : Int} (h : AH) :
  ∃ f args, aInvokeIface Tryz.prog (evC e) "bogworks/road.right" [.int .i64 p, .agg x.cells] h = some (.enter f args h) ∧ Runs Tryz.prog f args h (fun en h' => en = .ret (.bool (e.right p x)) ∧ Ext h h') := by
 unfold evC EV.right
 by_cases k0 : e.kind = 0
 ·rw [if_pos k0, show decide (e.kind = 2 → p = e.part → e.wl ≤ x.height ∧ x.height ≤ e.wh) = true from decide_eq_true fun q => by omega];exact ⟨175, [.agg [.int .i64 e.ll, .int .i64 e.lh], .int .i64 p, .agg x.cells], by kernel_rfl, passRight_ok⟩
 ·rw [if_neg k0]
  by_cases k1 : e.kind = 1
  ·rw [if_pos k1, show decide (e.kind = 2 → p = e.part → e.wl ≤ x.height ∧ x.height ≤ e.wh) = true from decide_eq_true fun q => by omega];exact ⟨178, [.agg [.int .i64 e.days], .int .i64 p, .agg x.cells], by kernel_rfl, restRight_ok⟩
  ·have k2 : e.kind = 2 := by rcases he with he | he | he <;> omega
   rw [if_neg k1, show decide (e.kind = 2 → p = e.part → e.wl ≤ x.height ∧ x.height ≤ e.wh) = decide (p = e.part → e.wl ≤ x.height ∧ x.height ≤ e.wh) from decide_eq_decide.2 (by simp [k2])];exact ⟨179, [.agg [.int .i64 0, .int .i64 e.part, .int .i64 e.wl, .int .i64 e.wh], .int .i64 p, .agg x.cells], by kernel_rfl, lookRight_ok⟩
end Go.Proofs.YtkcimfopboelaaaGreat

namespace Go.Proofs.YtkcimfopboelaaaGreat
open Go Go.AbsE
set_option linter.unusedSimpArgs false
set_option maxRecDepth 100000
set_option maxHeartbeats 0
set_option linter.unusedVariables false
def zeroFt : Ft := ⟨⟨0, 0, 0, 0⟩, []⟩
def haulC (w : List Int) (n : Int) : List AVal := i64s w ++ [.int .i64 n]
def LoadsOk (es : List EV) (w : List Int) : Prop := ∀ (i : Nat) e k, es[i]? = some e → w[i]? = some k → e.lo ≤ k ∧ k ≤ e.hi
def padZ (hs : List Int) : List Int := hs ++ List.replicate (10 - hs.length) 0
theorem padZ_set {hs : List Int} (h : hs.length < 10) (v : Int) : splice (AVal.int .i64 0 :: .int .i64 0 :: .int .i64 0 :: .int .i64 0 :: i64s (padZ hs)) (4 + hs.length * 1) (AVal.int .i64 v).cells = some (AVal.int .i64 0 :: .int .i64 0 :: .int .i64 0 :: .int .i64 0 :: i64s (padZ (hs ++ [v]))) := by
 show splice _ _ [_] = _
 have hl : (i64s (padZ hs)).length = 10 := by unfold i64s padZ; simp; omega
 rw [splice_at (by simp only [List.length_cons, hl]; omega)]
 congr 1
 rw [show 4 + hs.length * 1 = hs.length + 1 + 1 + 1 + 1 by omega]
 simp only [List.set_cons_succ]
 congr 4
 unfold i64s padZ
 rw [← List.map_set, List.set_append_right _ _ (Nat.le_refl _), Nat.sub_self, List.append_assoc]
 rw [show 10 - hs.length = (10 - (hs ++ [v]).length) + 1 by simp; omega, List.replicate_succ]
 simp
theorem zip_at {es : List EV} {w : List Int} {i : Nat} {e : EV} {k : Int} (he : es[i]? = some e) (hk : w[i]? = some k) : (es.zip w)[i]? = some (e, k) := List.getElem?_zip_eq_some.2 ⟨he, hk⟩
theorem drop_at {α : Type} {l : List α} {i : Nat} {x : α} (h : l[i]? = some x) : l.drop i = x :: l.drop (i + 1) := by
 have hlt := (List.getElem?_eq_some_iff.1 h).1
 rw [List.drop_eq_getElem_cons hlt, (List.getElem?_eq_some_iff.1 h).2]
theorem ft_len {f : Ft} (h : f.hs.length ≤ 10) : f.cells.length = 14 := by
 unfold Ft.cells Pc.cells i64s
 simp
 omega
theorem ft_scal (f : Ft) : scalars f.cells = true := by
 show scalars ([AVal.int .i64 f.x.height, .int .i64 f.x.stiff, .int .i64 f.x.rise, .int .i64 f.x.full] ++ i64s _) = true
 show cond true (cond true (cond true (cond true (scalars (i64s _)) false) false) false) false = true
 rw [scal_ints]
 rfl
theorem fate_ok {R : RoadV} (O : R.Ok) {lo : Nat} {gp ge : AVal} {h : AH} (A : GroundAt h R lo gp ge) {part : Int} {x : Pc} (hx : x.In 0) {w : List Int} (hw : w.length = 10) (hl : LoadsOk R.es w) {n : Int} :
  Runs Tryz.prog 139 [.agg [gp, ge], .int .i64 part, .agg x.cells, .agg (haulC w n)] h (fun en h' => en = .ret (.tuple [.agg ((fateV R.es part x w).getD zeroFt).cells, .bool (fateV R.es part x w).isSome]) ∧ Ext h h') := by
 have hne := O.ne
 have hE := A.esl
 have hlen := hE.len
 rw [List.length_map] at hlen
 obtain ⟨x0', hx0'⟩ : ∃ x', x' = x := ⟨_, rfl⟩
 have hxc : x.cells = [.int .i64 x.height, .int .i64 x.stiff, .int .i64 x.rise, .int .i64 x.full] := rfl
 have hhl : (haulC w n).length = 11 := by simp [haulC, i64s, hw]
 rw [hxc]
 have e0 : Ext h h := Ext.refl _
 refine Runs.intro aFunc139 rfl rfl rfl rfl fun rest => ?_;apply gS;refine gR rfl ?_;refine GoR.box rfl rfl rfl rfl rfl rfl fun h0 x0 f0 => ?_;have := e0.1;replace e0 := e0.trans x0;have := f0.1;refine GoR.box rfl rfl rfl rfl rfl rfl fun h1 x1 f1 => ?_;have := e0.1;have := f0.1;replace f0 := f0.ext x1;replace e0 := e0.trans x1;have := f1.1;refine GoR.box rfl rfl rfl rfl rfl rfl fun h2 x2 f2 => ?_;have := e0.1;have := f1.1;have := f0.1;replace f1 := f1.ext x2;replace f0 := f0.ext x2;replace e0 := e0.trans x2;have := f2.1;refine GoR.alloc rfl rfl rfl zt87 rfl rfl fun h3 x3 f3 => ?_;have := e0.1;have := f2.1;have := f1.1;have := f0.1;replace f2 := f2.ext x3;replace f1 := f1.ext x3;replace f0 := f0.ext x3;replace e0 := e0.trans x3;have := f3.1;refine gP ?_;apply gE;iterate 2 apply gS
 refine gR rfl ?_;refine gO rfl rfl (fa77_1 rfl) rfl ?_;refine gO rfl rfl (ld75 rfl f0 rfl) rfl ?_;refine gO rfl rfl (aOp_lenSlice Tryz.underlying75 rfl (by assumption)) rfl ?_;refine gP ?_;apply gE;refine Go.block noJ_ok ?_;rw [cells_agg] at f2
 obtain ⟨rr, hrr⟩ : ∃ rr, fateV R.es part x w = rr := ⟨_, rfl⟩
 have hb0 := f0.1
 have hb1 := f1.1
 have hb2 := f2.1
 have hb3 := f3.1
 have hn0 := x0.1
 have hn1 := x1.1
 have hn2 := x2.1
 have he0 := e0.1
 rw [hrr]
 refine Go.loopKeep (fun a : Nat × Pc × List Int => [(1, .int .i64 part), (4, .ptr h.next 0), (6, .ptr h0.next 0), (7, .ptr h1.next 0), (8, .ptr h2.next 0), (13, ge), (14, .int .i64 R.es.length), (15, .int .i64 (a.1 : Nat))])
  (fun m a h' => m + a.1 = R.es.length ∧ a.2.1.In (60 * a.1) ∧ a.2.2.length = a.1 ∧ fateGo part ((R.es.zip w).drop a.1) a.2.1 a.2.2 = rr ∧ Ext h h' ∧ Has h' h.next (.cells .plain [gp, ge] 77) ∧ Has h' h0.next (.cells .plain a.2.1.cells 84) ∧ Has h' h1.next (.cells .plain (haulC w n) 126) ∧ Has h' h2.next (.cells .plain (AVal.int .i64 0 :: .int .i64 0 :: .int .i64 0 :: .int .i64 0 :: i64s (padZ a.2.2)) 87))
  (n := R.es.length) (0, x, []) ⟨rfl, rfl, rfl, rfl, rfl, rfl, rfl, rfl, trivial⟩ ⟨rfl, (by simpa using hx), rfl, hrr, e0, f0, f1, f2, f3⟩ ?_
 clear e0 f0 f1 f2 f3;rintro m ⟨i, y, hs⟩ hc ⟨hm, hy, hhs, hgo, e0, f0, f1, f2, f3⟩ again
 dsimp only at hm hy hhs hgo f1 f3 ⊢
 have e9 : Ext hc hc := Ext.refl _
 by_cases hi : i < R.es.length
 ·obtain ⟨e, he⟩ : ∃ e, R.es[i]? = some e := ⟨R.es[i], by simp [hi]⟩
  obtain ⟨l, hl'⟩ : ∃ l, w[i]? = some l := ⟨w[i]'(by omega), by simp⟩
  have heO := O.e e (List.mem_of_getElem? he)
  have hlO := hl i e l he hl'
  obtain ⟨bq, off, q1, q2⟩ := (hE.ext e0).at (i := i) (l := [evC e]) (by rw [List.getElem?_map, he]; rfl)
  rw [List.length_map] at q1
  have hld : (haulC w n)[0 + i * 1]? = some (.int .i64 l) := by
   unfold haulC
   rw [Nat.zero_add, Nat.mul_one, List.getElem?_append_left (by simp [i64s]; omega)]
   unfold i64s
   rw [List.getElem?_map, hl']
   rfl
  have hi10 : i < 10 := by omega
  rw [drop_at (zip_at he hl')] at hgo
  unfold fateGo at hgo
  dsimp only at hgo
  have hyh := hy.h
  have hys := hy.s
  have hyf := hy.f
  have k1 := fun h => after_at heO hlO hy.s (by omega) hy.r (x := y) h
  have k3 := fun h => right_at heO (x := e.after y l) (p := part) h
  have hz := after_in heO hy hlO.1 hlO.2
  have hsm : sameA (evC e) (evC e) = true := by
   unfold evC
   split
   ·simp [sameA, sameAs, eqI_eq]
   ·split <;> simp [sameA, sameAs, eqI_eq]
  have hce : (evC e).cells = [evC e] := by
   unfold evC
   split
   ·rfl
   ·split <;> rfl
  have hnil : nilCheckOk Tryz.prog (.func (.method "bogworks/road.after") [evC e] []) = true := by
   unfold evC
   split
   ·kernel_rfl
   ·split <;> kernel_rfl
  obtain ⟨z, hzz⟩ : ∃ z, e.after y l = z := ⟨_, rfl⟩
  rw [hzz] at hz hgo k1 k3
  have hzc : z.cells = [.int .i64 z.height, .int .i64 z.stiff, .int .i64 z.rise, .int .i64 z.full] := rfl
  have hyc : y.cells = [.int .i64 y.height, .int .i64 y.stiff, .int .i64 y.rise, .int .i64 y.full] := rfl
  obtain ⟨ev, hev⟩ : ∃ ev, evC e = ev := ⟨_, rfl⟩
  rw [hev] at k1 k3 q2 hsm hce hnil;rw [hyc] at f1 k1;rw [hzc] at k1 k3
  obtain ⟨ff, fargs, k1, k2⟩ := k1 hc
  apply gS;refine gR rfl ?_;refine gO rfl rfl (kLT rfl rfl) rfl ?_;apply gE;apply gS;refine gC (b := true) rfl ?_;refine gD ?_;apply gS;refine Go.block noJ_ok ?_;apply gS;refine gR rfl ?_;refine gP ?_;refine gO rfl rfl (aOp_indexAddr (i := i) Tryz.underlying75 sz169 rfl (by assumption) rfl (Nat.ble_eq_true_of_le (by omega))) rfl ?_;refine gO rfl rfl ((aOp_loadE1 (k := 0) ag169 rfl q2 rfl)) rfl ?_;iterate 2 refine gP ?_
  apply gE;apply gS;refine Go.drawnE plan139_0 ?_;refine gQ rfl rfl rfl rfl ?_;refine gQ rfl rfl (ld84 rfl f1 rfl) rfl ?_;refine gQ rfl rfl rfl rfl ?_;refine gQ rfl rfl (fa126_0 rfl) rfl ?_;refine gQ rfl rfl (aOp_indexAddrArr (i := i) Tryz.underlying85 sz3 rfl rfl (Nat.ble_eq_true_of_le (by omega))) rfl ?_;refine gQ rfl rfl (ld3 rfl f2 hld) rfl ?_;refine gQ rfl rfl rfl rfl ?_;refine gQ rfl rfl (aOp_nilCheck rfl hnil) rfl ?_;refine gQ rfl rfl rfl rfl ?_;refine GoE.call rfl rfl (aOp_invoke rfl rfl (k1)) (k2) (dD 511 8 (dD 511 7 (dD 511 6 (dD 511 5 (dD 511 4 (dD 511 3 (dD 511 2 (dD 511 1 (dD 511 0 rfl))))))))) ?_ np;rintro v4 h4 ⟨q, x4⟩;cases q;replace f0 := f0.ext x4;replace f1 := f1.ext x4;replace f2 := f2.ext x4;replace f3 := f3.ext x4;replace e0 := e0.trans x4;refine ⟨recheck_nil, _, rfl, ?_⟩;refine GoE.store rfl rfl rfl rfl rfl rfl rfl f1 rfl sz84 rfl rfl rfl fun h5 u5 => ?_;replace f0 := f0.upd u5 (by omega);replace f1 := u5.has f1;replace f2 := f2.upd u5 (by omega);replace f3 := f3.upd u5 (by omega);replace e0 := e0.upd u5 (by omega);clear e9;refine ⟨recheck_nil, ?_⟩;refine GoE.end rfl ?_;iterate 2 apply gS
  refine gR rfl ?_;iterate 2 refine gP ?_
  refine gO rfl rfl (ld84 rfl f1 rfl) rfl ?_
  obtain ⟨fg, gargs, k5, k6⟩ := k3 h5
  cases hr : e.right part z with
  | false =>
   rw [hr] at hgo k6
   have hrn : rr = none := hgo.symm
   subst hrn
   have hll : (AVal.int .i64 0 :: .int .i64 0 :: .int .i64 0 :: .int .i64 0 :: i64s (padZ hs)).length = 14 := by unfold i64s padZ; simp; omega
   refine GoR.call rfl rfl (aOp_invoke rfl rfl (k5)) (k6) ?_ np;rintro _ h6 ⟨q, x6⟩;cases q;refine ⟨_, rfl, ?_⟩;replace f0 := f0.ext x6;replace f1 := f1.ext x6;replace f2 := f2.ext x6;replace f3 := f3.ext x6;replace e0 := e0.trans x6;refine gP ?_;apply gE;refine gC (b := true) rfl ?_;apply gS;refine gR rfl ?_;refine gO rfl rfl (aOp_build zt87 hu87 pl87 rfl rfl) rfl ?_;refine GoR.store rfl rfl rfl rfl rfl rfl f3 rfl sz87 rfl rfl (splice_whole hll) fun h7 u7 => ?_;replace f0 := f0.upd u7 (by omega);replace f1 := f1.upd u7 (by omega);replace f2 := f2.upd u7 (by omega);replace f3 := u7.has f3;replace e0 := e0.upd u7 (by omega);refine gP ?_;apply gE;exact gV (ret_end (aResult_of Tryz.func139 rfl (aResults_c rfl f3 (inCells_agg ag87 sz87 rfl) rfl)) ⟨rfl, e0⟩)
  | true =>
   rw [hr] at hgo k6
   have hset := padZ_set (hs := hs) (by omega) z.height
   rw [hhs] at hset;refine GoR.call rfl rfl (aOp_invoke rfl rfl (k5)) (k6) ?_ np;rintro _ h6 ⟨q, x6⟩;cases q;refine ⟨_, rfl, ?_⟩;replace f0 := f0.ext x6;replace f1 := f1.ext x6;replace f2 := f2.ext x6;replace f3 := f3.ext x6;replace e0 := e0.trans x6;refine gP ?_;apply gE;refine gC (b := false) rfl ?_;refine gD ?_;refine gR rfl ?_;refine gP ?_;refine gO rfl rfl (fa84_0 rfl) rfl ?_;refine gO rfl rfl (ld3 rfl f1 rfl) rfl ?_;refine gO rfl rfl (fa87_1 rfl) rfl ?_;refine gO rfl rfl (aOp_indexAddrArr (i := i) Tryz.underlying85 sz3 rfl rfl (Nat.ble_eq_true_of_le (by omega))) rfl ?_;refine GoR.store rfl rfl rfl rfl rfl rfl f3 rfl sz3 rfl rfl ((show splice _ (0 + 4 + i * 1) _ = _ by rw [Nat.zero_add]; exact hset)) fun h7 u7 => ?_;replace f0 := f0.upd u7 (by omega);replace f1 := f1.upd u7 (by omega);replace f2 := f2.upd u7 (by omega);replace f3 := u7.has f3;replace e0 := e0.upd u7 (by omega);apply gE;refine Go.inBlock noJ_ok ?_;refine gR rfl ?_;refine gO rfl rfl (aA rfl rfl) rfl ?_;refine gP ?_;apply gE;exact again (m - 1) (i + 1, z, hs ++ [z.height]) _ _ (by omega) ⟨rfl, rfl, rfl, rfl, rfl, rfl, rfl, rfl, trivial⟩ ⟨by dsimp only; omega, (by rw [show 60 * (((i + 1, z, hs ++ [z.height]) : Nat × Pc × List Int).1 : Int) = 60 * (i : Nat) + 60 by dsimp only; omega]; exact hz), by dsimp only; rw [List.length_append, hhs]; rfl, hgo, e0, f0, f1, f2, f3⟩
 ·have hin : i = R.es.length := by omega
  rw [hin, List.drop_eq_nil_of_le (by rw [List.length_zip]; omega)] at hgo
  unfold fateGo at hgo
  subst hgo
  have hyc : y.cells = [.int .i64 y.height, .int .i64 y.stiff, .int .i64 y.rise, .int .i64 y.full] := rfl
  rw [hyc] at f1
  have hsp : splice (AVal.int .i64 0 :: .int .i64 0 :: .int .i64 0 :: .int .i64 0 :: i64s (padZ hs)) (0 + 0) [AVal.int .i64 y.height, .int .i64 y.stiff, .int .i64 y.rise, .int .i64 y.full] = some (Ft.cells ⟨y, hs⟩) := by
   show _ = some (AVal.int .i64 y.height :: .int .i64 y.stiff :: .int .i64 y.rise :: .int .i64 y.full :: i64s (padZ hs))
   cases i64s (padZ hs) <;> rfl
  have hfl := ft_len (f := ⟨y, hs⟩) (by dsimp only; omega)
  have hfs := ft_scal ⟨y, hs⟩
  apply gS;refine gR rfl ?_;refine gO rfl rfl (kLF rfl rfl) rfl ?_;apply gE;apply gS;refine gC (b := false) rfl ?_;refine gD ?_;apply gS;refine gR rfl ?_;refine gO rfl rfl (ld84 rfl f1 rfl) rfl ?_;refine gO rfl rfl (fa87_0 rfl) rfl ?_;refine GoR.store rfl rfl rfl rfl rfl rfl f3 rfl sz84 rfl rfl hsp fun h4 u4 => ?_;replace f3 := u4.has f3;replace e0 := e0.upd u4 (by omega);clear e9;apply gE;apply gS;refine gR rfl ?_;refine gO rfl rfl (ld87 rfl f3 (slice_all hfl)) rfl ?_;refine GoR.store rfl rfl rfl rfl rfl rfl f3 rfl sz87 (by rw [cells_agg, hfl]; rfl) (by rw [cells_agg]; exact hfs) (by rw [cells_agg]; exact splice_whole rfl) fun h5 u5 => ?_;replace f3 := u5.has f3;replace e0 := e0.upd u5 (by omega);refine gP ?_;apply gE;exact gV (ret_end (aResult_of Tryz.func139 rfl (aResults_c rfl f3 (inCells_agg ag87 sz87 (slice_all hfl)) rfl)) ⟨rfl, e0⟩)
end Go.Proofs.YtkcimfopboelaaaGreat
