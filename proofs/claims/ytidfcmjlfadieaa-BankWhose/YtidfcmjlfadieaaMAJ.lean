import Derived.Test.YtidfcmjlfadieaaMAI
import Derived.Test.YtidfcmjlfadieaaMAG
namespace Go.Proofs.Ytidfcmjlfadieaa
open Go Go.AbsE
set_option maxRecDepth 100000
set_option linter.unusedVariables false

/-- A lease, as numbers. -/
structure LeaseV where
  o : Int
  fl : Int
  fh : Int
  tl : Int
  th : Int
def LeaseV.cells (l : LeaseV) : List AVal := [.int .i64 l.o, .int .i64 l.fl, .int .i64 l.fh, .int .i64 l.tl, .int .i64 l.th]
/-- A mark, as numbers. -/
structure MarkV where
  p : Int
  h : Int
def MarkV.cells (m : MarkV) : List AVal := [.int .i64 m.p, .int .i64 m.h]
def fitsF (np nh : Int) : List AVal → Bool
  | [.int _ o, .int _ fl, .int _ fh, .int _ tl, .int _ th] => decide (0 ≤ o ∧ o ≤ nh - 1 ∧ fl ≤ fh ∧ 0 ≤ fl ∧ fh ≤ np - 1 ∧ fh - fl ≤ 2 ∧ tl ≤ th ∧ 1 ≤ tl ∧ th ≤ np ∧ th - tl ≤ 2 ∧ fl < th)
  | _ => false
def markF (np nh : Int) : List AVal → Bool
  | [.int _ p, .int _ h] => decide (0 ≤ p ∧ p ≤ np - 1 ∧ 0 ≤ h ∧ h ≤ nh)
  | _ => false
theorem scal_int (k : IntKind) (n : Int) (l : List AVal) : scalars (.int k n :: l) = scalars l := rfl
theorem five_all {Ls : List LeaseV} : ∀ l, l ∈ Ls.map LeaseV.cells → Five l := by
  intro l hl
  obtain ⟨a, _, rfl⟩ := List.mem_map.1 hl
  exact ⟨_, _, _, _, _, rfl, rfl⟩
theorem five_len {Ls : List LeaseV} : ∀ l, l ∈ Ls.map LeaseV.cells → l.length = 5 := by
  intro l hl
  obtain ⟨a, _, rfl⟩ := List.mem_map.1 hl
  rfl
theorem lease_len {Ls : List LeaseV} : ∀ l, l ∈ Ls.map LeaseV.cells → l.length = 5 ∧ scalars l = true := by
  intro l hl
  obtain ⟨a, _, rfl⟩ := List.mem_map.1 hl
  exact ⟨rfl, rfl⟩
theorem mark_len {Ms : List MarkV} : ∀ l, l ∈ Ms.map MarkV.cells → l.length = 2 ∧ scalars l = true := by
  intro l hl
  obtain ⟨a, _, rfl⟩ := List.mem_map.1 hl
  exact ⟨rfl, rfl⟩
theorem sameA_ptr (b o : Nat) : sameA (.ptr b o) (.ptr b o) = true := by simp [sameA]
theorem bankSame (np nh : Int) {s marks : AVal} (hs : sameA s s = true) (hm : sameA marks marks = true) : sameA (.agg [.int .i64 np, .int .i64 nh, s, marks]) (.agg [.int .i64 np, .int .i64 nh, s, marks]) = true := by simp [sameA, sameAs, eqI_eq, hs, hm]
theorem fits_all {np nh : Int} {Ls : List LeaseV} (hp : inI64 np) (hh : inI64 nh) (h1 : 1 ≤ np ∧ np ≤ 10) (h2 : 1 ≤ nh ∧ nh ≤ 4) (s marks : AVal) : ∀ l, l ∈ Ls.map LeaseV.cells → ∀ h', Runs Try.prog 160 [.agg l, .agg [.int .i64 np, .int .i64 nh, s, marks]] h' (fun en h'' => en = .ret (.bool (fitsF np nh l)) ∧ Ext h' h'') := by
  intro l hl h'
  obtain ⟨a, _, rfl⟩ := List.mem_map.1 hl
  exact fits_ok a.o a.fl a.fh a.tl a.th np nh s marks hp (by constructor <;> omega) (by constructor <;> omega) rfl h'
theorem mark_all {np nh : Int} {Ms : List MarkV} (hp : inI64 np) (hh : inI64 nh) (h1 : 1 ≤ np ∧ np ≤ 10) (s marks : AVal) : ∀ l, l ∈ Ms.map MarkV.cells → ∀ h', Runs Try.prog 162 [.agg l, .agg [.int .i64 np, .int .i64 nh, s, marks]] h' (fun en h'' => en = .ret (.bool (markF np nh l)) ∧ Ext h' h'') := by
  intro l hl h'
  obtain ⟨a, _, rfl⟩ := List.mem_map.1 hl
  exact markFits_ok a.p a.h np nh s marks (by constructor <;> omega) rfl h'
noncomputable def ops117 : Array Oper := ((drawnOps Try.f117)[0]?).getD #[]
theorem plan117 : plan ops117 = some (mkPlan ops117.toList [(0, 0, true, false), (1, 1, true, false), (2, 3, false, false), (3, 7, true, false), (4, 15, true, false), (5, 31, true, false), (6, 63, false, false), (7, 127, true, false), (8, 255, true, false), (9, 511, true, false), (10, 1023, true, false), (11, 2047, true, false), (12, 4095, true, false), (13, 8191, true, false), (14, 16383, true, false), (15, 32767, true, false), (17, 32767, true, false), (16, 65535, false, false), (18, 262143, false, false), (19, 524287, true, false), (20, 1048575, true, false), (21, 2097151, true, false), (22, 4194303, true, false), (23, 8388607, true, false), (24, 16777215, true, false), (25, 33554431, true, false), (26, 67108863, true, false), (27, 134217727, true, false), (28, 268435455, true, false), (29, 134217727, true, false), (30, 1073741823, false, false), (31, 2147483647, true, false), (32, 4294967295, true, false)]) := by kernel_rfl

theorem valid_ok (np nh : Int) (s marks : AVal) (Ls : List LeaseV) (Ms : List MarkV) (hp : inI64 np) (hh : inI64 nh) (h : AH) (hs : SliceOf h 5 s (Ls.map LeaseV.cells)) (hm : SliceOf h 2 marks (Ms.map MarkV.cells)) (hss : sameA s s = true) (hsm : sameA marks marks = true)
    {r : Bool} (hr : (decide (1 ≤ np ∧ np ≤ 10) && decide (1 ≤ nh ∧ nh ≤ 4) && decide ((Ls.length : Int) ≤ 4) && (Ls.map LeaseV.cells).all (fitsF np nh) && decide ((Ms.length : Int) ≤ 6) && (Ms.map MarkV.cells).all (markF np nh)) = r) :
    Runs Try.prog 117 [.agg [.int .i64 np, .int .i64 nh, s, marks]] h (fun en h' => en = .ret (.bool r) ∧ Ext h h') := by
  refine Runs.intro aFunc117 rfl rfl rfl rfl fun rest => ?_
  refine Go.seq noJ_ok (Go.region noJ_ok rfl ?_)
  refine GoR.box rfl rfl rfl rfl rfl rfl fun h1 x1 f1 => ?_
  refine GoR.op rfl rfl rfl rfl ?_
  refine GoR.end (Go.seq noJ_ok (Go.drawn plan117 ?_))
  cases e1 : decide (1 ≤ np ∧ np ≤ 10) with
  | false =>
    refine GoD.quiet rfl rfl (fun h' x => fa25_0 rfl) (sameA_ptr _ _) rfl ?_
    refine GoD.quiet rfl rfl (fun h' x => ld3 rfl (f1.ext x) rfl) (sameA_int _ _) rfl ?_
    refine GoD.call rfl rfl (aOp_callFunc aFunc75 rfl) (inside_ok _ _ _ e1 _) ?_ (by rintro _ _ ⟨q, _⟩; cases q)
    rintro _ k2 ⟨q, x2⟩
    cases q
    replace f1 := f1.ext x2
    refine ⟨x2, _, rfl, ?_⟩
    refine GoD.quiet rfl rfl (fun h' x => rfl) (rfl) rfl ?_
    refine GoD.skip rfl rfl rfl ?_
    refine GoD.skip rfl rfl rfl ?_
    refine GoD.skip rfl rfl rfl ?_
    refine GoD.quiet rfl rfl (fun h' x => rfl) (rfl) rfl ?_
    refine GoD.quiet rfl rfl (fun h' x => rfl) (rfl) rfl ?_
    refine GoD.skip rfl rfl rfl ?_
    refine GoD.skip rfl rfl rfl ?_
    refine GoD.skip rfl rfl rfl ?_
    refine GoD.skip rfl rfl rfl ?_
    refine GoD.quiet rfl rfl (fun h' x => rfl) (rfl) rfl ?_
    refine GoD.quiet rfl rfl (fun h' x => rfl) (rfl) rfl ?_
    refine GoD.skip rfl rfl rfl ?_
    refine GoD.skip rfl rfl rfl ?_
    refine GoD.skip rfl rfl rfl ?_
    refine GoD.skip rfl rfl rfl ?_
    refine GoD.quiet rfl rfl (fun h' x => rfl) (rfl) rfl ?_
    refine GoD.quiet rfl rfl (fun h' x => rfl) (rfl) rfl ?_
    refine GoD.skip rfl rfl rfl ?_
    refine GoD.skip rfl rfl rfl ?_
    refine GoD.skip rfl rfl rfl ?_
    refine GoD.skip rfl rfl rfl ?_
    refine GoD.quiet rfl rfl (fun h' x => rfl) (rfl) rfl ?_
    refine GoD.quiet rfl rfl (fun h' x => rfl) (rfl) rfl ?_
    refine GoD.skip rfl rfl rfl ?_
    refine GoD.skip rfl rfl rfl ?_
    refine GoD.skip rfl rfl rfl ?_
    refine GoD.skip rfl rfl rfl ?_
    refine GoD.quiet rfl rfl (fun h' x => rfl) (rfl) rfl ?_
    refine GoD.quiet rfl rfl (fun h' x => rfl) (rfl) rfl ?_
    refine GoD.end rfl (Go.ret noJ_ok (ret_end (aResult_of Try.func117 rfl rfl) ⟨?_, (x1).trans x2⟩))
    rw [← hr]
    simp only [e1]
    rfl
  | true =>
    cases e2 : decide (1 ≤ nh ∧ nh ≤ 4) with
    | false =>
      refine GoD.quiet rfl rfl (fun h' x => fa25_0 rfl) (sameA_ptr _ _) rfl ?_
      refine GoD.quiet rfl rfl (fun h' x => ld3 rfl (f1.ext x) rfl) (sameA_int _ _) rfl ?_
      refine GoD.call rfl rfl (aOp_callFunc aFunc75 rfl) (inside_ok _ _ _ e1 _) ?_ (by rintro _ _ ⟨q, _⟩; cases q)
      rintro _ k2 ⟨q, x2⟩
      cases q
      replace f1 := f1.ext x2
      refine ⟨x2, _, rfl, ?_⟩
      refine GoD.quiet rfl rfl (fun h' x => rfl) (rfl) rfl ?_
      refine GoD.quiet rfl rfl (fun h' x => fa25_1 rfl) (sameA_ptr _ _) rfl ?_
      refine GoD.quiet rfl rfl (fun h' x => ld3 rfl (f1.ext x) rfl) (sameA_int _ _) rfl ?_
      refine GoD.call rfl rfl (aOp_callFunc aFunc75 rfl) (inside_ok _ _ _ e2 _) ?_ (by rintro _ _ ⟨q, _⟩; cases q)
      rintro _ k6 ⟨q, x6⟩
      cases q
      replace f1 := f1.ext x6
      refine ⟨x6, _, rfl, ?_⟩
      refine GoD.quiet rfl rfl (fun h' x => rfl) (rfl) rfl ?_
      refine GoD.quiet rfl rfl (fun h' x => rfl) (rfl) rfl ?_
      refine GoD.skip rfl rfl rfl ?_
      refine GoD.skip rfl rfl rfl ?_
      refine GoD.skip rfl rfl rfl ?_
      refine GoD.skip rfl rfl rfl ?_
      refine GoD.quiet rfl rfl (fun h' x => rfl) (rfl) rfl ?_
      refine GoD.quiet rfl rfl (fun h' x => rfl) (rfl) rfl ?_
      refine GoD.skip rfl rfl rfl ?_
      refine GoD.skip rfl rfl rfl ?_
      refine GoD.skip rfl rfl rfl ?_
      refine GoD.skip rfl rfl rfl ?_
      refine GoD.quiet rfl rfl (fun h' x => rfl) (rfl) rfl ?_
      refine GoD.quiet rfl rfl (fun h' x => rfl) (rfl) rfl ?_
      refine GoD.skip rfl rfl rfl ?_
      refine GoD.skip rfl rfl rfl ?_
      refine GoD.skip rfl rfl rfl ?_
      refine GoD.skip rfl rfl rfl ?_
      refine GoD.quiet rfl rfl (fun h' x => rfl) (rfl) rfl ?_
      refine GoD.quiet rfl rfl (fun h' x => rfl) (rfl) rfl ?_
      refine GoD.skip rfl rfl rfl ?_
      refine GoD.skip rfl rfl rfl ?_
      refine GoD.skip rfl rfl rfl ?_
      refine GoD.skip rfl rfl rfl ?_
      refine GoD.quiet rfl rfl (fun h' x => rfl) (rfl) rfl ?_
      refine GoD.quiet rfl rfl (fun h' x => rfl) (rfl) rfl ?_
      refine GoD.end rfl (Go.ret noJ_ok (ret_end (aResult_of Try.func117 rfl rfl) ⟨?_, ((x1).trans x2).trans x6⟩))
      rw [← hr]
      simp only [e1, e2]
      rfl
    | true =>
      cases e3 : decide ((Ls.length : Int) ≤ 4) with
      | false =>
        refine GoD.quiet rfl rfl (fun h' x => fa25_0 rfl) (sameA_ptr _ _) rfl ?_
        refine GoD.quiet rfl rfl (fun h' x => ld3 rfl (f1.ext x) rfl) (sameA_int _ _) rfl ?_
        refine GoD.call rfl rfl (aOp_callFunc aFunc75 rfl) (inside_ok _ _ _ e1 _) ?_ (by rintro _ _ ⟨q, _⟩; cases q)
        rintro _ k2 ⟨q, x2⟩
        cases q
        replace f1 := f1.ext x2
        refine ⟨x2, _, rfl, ?_⟩
        refine GoD.quiet rfl rfl (fun h' x => rfl) (rfl) rfl ?_
        refine GoD.quiet rfl rfl (fun h' x => fa25_1 rfl) (sameA_ptr _ _) rfl ?_
        refine GoD.quiet rfl rfl (fun h' x => ld3 rfl (f1.ext x) rfl) (sameA_int _ _) rfl ?_
        refine GoD.call rfl rfl (aOp_callFunc aFunc75 rfl) (inside_ok _ _ _ e2 _) ?_ (by rintro _ _ ⟨q, _⟩; cases q)
        rintro _ k6 ⟨q, x6⟩
        cases q
        replace f1 := f1.ext x6
        refine ⟨x6, _, rfl, ?_⟩
        refine GoD.quiet rfl rfl (fun h' x => rfl) (rfl) rfl ?_
        refine GoD.quiet rfl rfl (fun h' x => rfl) (rfl) rfl ?_
        refine GoD.quiet rfl rfl (fun h' x => fa25_2 rfl) (sameA_ptr _ _) rfl ?_
        refine GoD.quiet rfl rfl (fun h' x => ld22 rfl (f1.ext x) rfl) (hss) rfl ?_
        refine GoD.quiet rfl rfl (fun h' x => aOp_lenSlice Try.underlying22 rfl (by rw [hs.len, List.length_map])) (sameA_int _ _) rfl ?_
        refine GoD.quiet rfl rfl (fun h' x => aOp_leq rfl rfl (r := false) e3) (rfl) rfl ?_
        refine GoD.quiet rfl rfl (fun h' x => rfl) (rfl) rfl ?_
        refine GoD.quiet rfl rfl (fun h' x => rfl) (rfl) rfl ?_
        refine GoD.skip rfl rfl rfl ?_
        refine GoD.skip rfl rfl rfl ?_
        refine GoD.skip rfl rfl rfl ?_
        refine GoD.skip rfl rfl rfl ?_
        refine GoD.quiet rfl rfl (fun h' x => rfl) (rfl) rfl ?_
        refine GoD.quiet rfl rfl (fun h' x => rfl) (rfl) rfl ?_
        refine GoD.skip rfl rfl rfl ?_
        refine GoD.skip rfl rfl rfl ?_
        refine GoD.skip rfl rfl rfl ?_
        refine GoD.skip rfl rfl rfl ?_
        refine GoD.quiet rfl rfl (fun h' x => rfl) (rfl) rfl ?_
        refine GoD.quiet rfl rfl (fun h' x => rfl) (rfl) rfl ?_
        refine GoD.skip rfl rfl rfl ?_
        refine GoD.skip rfl rfl rfl ?_
        refine GoD.skip rfl rfl rfl ?_
        refine GoD.skip rfl rfl rfl ?_
        refine GoD.quiet rfl rfl (fun h' x => rfl) (rfl) rfl ?_
        refine GoD.quiet rfl rfl (fun h' x => rfl) (rfl) rfl ?_
        refine GoD.end rfl (Go.ret noJ_ok (ret_end (aResult_of Try.func117 rfl rfl) ⟨?_, ((x1).trans x2).trans x6⟩))
        rw [← hr]
        simp only [e1, e2, e3]
        rfl
      | true =>
        cases e4 : (Ls.map LeaseV.cells).all (fitsF np nh) with
        | false =>
          refine GoD.quiet rfl rfl (fun h' x => fa25_0 rfl) (sameA_ptr _ _) rfl ?_
          refine GoD.quiet rfl rfl (fun h' x => ld3 rfl (f1.ext x) rfl) (sameA_int _ _) rfl ?_
          refine GoD.call rfl rfl (aOp_callFunc aFunc75 rfl) (inside_ok _ _ _ e1 _) ?_ (by rintro _ _ ⟨q, _⟩; cases q)
          rintro _ k2 ⟨q, x2⟩
          cases q
          replace f1 := f1.ext x2
          refine ⟨x2, _, rfl, ?_⟩
          refine GoD.quiet rfl rfl (fun h' x => rfl) (rfl) rfl ?_
          refine GoD.quiet rfl rfl (fun h' x => fa25_1 rfl) (sameA_ptr _ _) rfl ?_
          refine GoD.quiet rfl rfl (fun h' x => ld3 rfl (f1.ext x) rfl) (sameA_int _ _) rfl ?_
          refine GoD.call rfl rfl (aOp_callFunc aFunc75 rfl) (inside_ok _ _ _ e2 _) ?_ (by rintro _ _ ⟨q, _⟩; cases q)
          rintro _ k6 ⟨q, x6⟩
          cases q
          replace f1 := f1.ext x6
          refine ⟨x6, _, rfl, ?_⟩
          refine GoD.quiet rfl rfl (fun h' x => rfl) (rfl) rfl ?_
          refine GoD.quiet rfl rfl (fun h' x => rfl) (rfl) rfl ?_
          refine GoD.quiet rfl rfl (fun h' x => fa25_2 rfl) (sameA_ptr _ _) rfl ?_
          refine GoD.quiet rfl rfl (fun h' x => ld22 rfl (f1.ext x) rfl) (hss) rfl ?_
          refine GoD.quiet rfl rfl (fun h' x => aOp_lenSlice Try.underlying22 rfl (by rw [hs.len, List.length_map])) (sameA_int _ _) rfl ?_
          refine GoD.quiet rfl rfl (fun h' x => aOp_leq rfl rfl (r := true) e3) (rfl) rfl ?_
          refine GoD.quiet rfl rfl (fun h' x => rfl) (rfl) rfl ?_
          refine GoD.quiet rfl rfl (fun h' x => rfl) (rfl) rfl ?_
          refine GoD.quiet rfl rfl (fun h' x => ld25 rfl (f1.ext x) rfl) (bankSame _ _ hss hsm) rfl ?_
          refine GoD.quiet rfl rfl (fun h' x => ld25 rfl (f1.ext x) rfl) (bankSame _ _ hss hsm) rfl ?_
          refine GoD.call rfl rfl (aOp_callFunc aFunc159 rfl) (leases_ok np nh s marks (Ls.map LeaseV.cells) _ (by rw [List.length_map]; simp only [decide_eq_true_eq] at e3; omega) five_all (hs.ext (x1.trans (x2.trans x6)))) ?_ (by rintro _ _ ⟨_, q, _⟩; cases q)
          rintro _ k16 ⟨s', q, x16, g3⟩
          have q := (AEnd.ret.inj q).symm
          subst q
          replace f1 := f1.ext x16
          have hs' := g3.sliceOf (slice_flatten five_len)
          refine ⟨x16, _, rfl, ?_⟩
          refine GoD.call rfl rfl (aOp_callFunc aFunc158 rfl) (all158_ok 160 Try.f160 aFunc160 [.int .i64 np, .int .i64 nh, s, marks] rfl s' (Ls.map LeaseV.cells) (fitsF np nh) _ (by rw [List.length_map]; simp only [decide_eq_true_eq] at e3; omega) lease_len hs' (fits_all hp hh (by simpa using e1) (by simpa using e2) s marks) |> (e4 ▸ ·)) ?_ (by rintro _ _ ⟨q, _⟩; cases q)
          rintro _ k18 ⟨q, x18⟩
          cases q
          replace f1 := f1.ext x18
          refine ⟨x18, _, rfl, ?_⟩
          refine GoD.quiet rfl rfl (fun h' x => rfl) (rfl) rfl ?_
          refine GoD.quiet rfl rfl (fun h' x => rfl) (rfl) rfl ?_
          refine GoD.skip rfl rfl rfl ?_
          refine GoD.skip rfl rfl rfl ?_
          refine GoD.skip rfl rfl rfl ?_
          refine GoD.skip rfl rfl rfl ?_
          refine GoD.quiet rfl rfl (fun h' x => rfl) (rfl) rfl ?_
          refine GoD.quiet rfl rfl (fun h' x => rfl) (rfl) rfl ?_
          refine GoD.skip rfl rfl rfl ?_
          refine GoD.skip rfl rfl rfl ?_
          refine GoD.skip rfl rfl rfl ?_
          refine GoD.skip rfl rfl rfl ?_
          refine GoD.quiet rfl rfl (fun h' x => rfl) (rfl) rfl ?_
          refine GoD.quiet rfl rfl (fun h' x => rfl) (rfl) rfl ?_
          refine GoD.end rfl (Go.ret noJ_ok (ret_end (aResult_of Try.func117 rfl rfl) ⟨?_, ((((x1).trans x2).trans x6).trans x16).trans x18⟩))
          rw [← hr]
          simp only [e1, e2, e3, e4]
          rfl
        | true =>
          cases e5 : decide ((Ms.length : Int) ≤ 6) with
          | false =>
            refine GoD.quiet rfl rfl (fun h' x => fa25_0 rfl) (sameA_ptr _ _) rfl ?_
            refine GoD.quiet rfl rfl (fun h' x => ld3 rfl (f1.ext x) rfl) (sameA_int _ _) rfl ?_
            refine GoD.call rfl rfl (aOp_callFunc aFunc75 rfl) (inside_ok _ _ _ e1 _) ?_ (by rintro _ _ ⟨q, _⟩; cases q)
            rintro _ k2 ⟨q, x2⟩
            cases q
            replace f1 := f1.ext x2
            refine ⟨x2, _, rfl, ?_⟩
            refine GoD.quiet rfl rfl (fun h' x => rfl) (rfl) rfl ?_
            refine GoD.quiet rfl rfl (fun h' x => fa25_1 rfl) (sameA_ptr _ _) rfl ?_
            refine GoD.quiet rfl rfl (fun h' x => ld3 rfl (f1.ext x) rfl) (sameA_int _ _) rfl ?_
            refine GoD.call rfl rfl (aOp_callFunc aFunc75 rfl) (inside_ok _ _ _ e2 _) ?_ (by rintro _ _ ⟨q, _⟩; cases q)
            rintro _ k6 ⟨q, x6⟩
            cases q
            replace f1 := f1.ext x6
            refine ⟨x6, _, rfl, ?_⟩
            refine GoD.quiet rfl rfl (fun h' x => rfl) (rfl) rfl ?_
            refine GoD.quiet rfl rfl (fun h' x => rfl) (rfl) rfl ?_
            refine GoD.quiet rfl rfl (fun h' x => fa25_2 rfl) (sameA_ptr _ _) rfl ?_
            refine GoD.quiet rfl rfl (fun h' x => ld22 rfl (f1.ext x) rfl) (hss) rfl ?_
            refine GoD.quiet rfl rfl (fun h' x => aOp_lenSlice Try.underlying22 rfl (by rw [hs.len, List.length_map])) (sameA_int _ _) rfl ?_
            refine GoD.quiet rfl rfl (fun h' x => aOp_leq rfl rfl (r := true) e3) (rfl) rfl ?_
            refine GoD.quiet rfl rfl (fun h' x => rfl) (rfl) rfl ?_
            refine GoD.quiet rfl rfl (fun h' x => rfl) (rfl) rfl ?_
            refine GoD.quiet rfl rfl (fun h' x => ld25 rfl (f1.ext x) rfl) (bankSame _ _ hss hsm) rfl ?_
            refine GoD.quiet rfl rfl (fun h' x => ld25 rfl (f1.ext x) rfl) (bankSame _ _ hss hsm) rfl ?_
            refine GoD.call rfl rfl (aOp_callFunc aFunc159 rfl) (leases_ok np nh s marks (Ls.map LeaseV.cells) _ (by rw [List.length_map]; simp only [decide_eq_true_eq] at e3; omega) five_all (hs.ext (x1.trans (x2.trans x6)))) ?_ (by rintro _ _ ⟨_, q, _⟩; cases q)
            rintro _ k16 ⟨s', q, x16, g3⟩
            have q := (AEnd.ret.inj q).symm
            subst q
            replace f1 := f1.ext x16
            have hs' := g3.sliceOf (slice_flatten five_len)
            refine ⟨x16, _, rfl, ?_⟩
            refine GoD.call rfl rfl (aOp_callFunc aFunc158 rfl) (all158_ok 160 Try.f160 aFunc160 [.int .i64 np, .int .i64 nh, s, marks] rfl s' (Ls.map LeaseV.cells) (fitsF np nh) _ (by rw [List.length_map]; simp only [decide_eq_true_eq] at e3; omega) lease_len hs' (fits_all hp hh (by simpa using e1) (by simpa using e2) s marks) |> (e4 ▸ ·)) ?_ (by rintro _ _ ⟨q, _⟩; cases q)
            rintro _ k18 ⟨q, x18⟩
            cases q
            replace f1 := f1.ext x18
            refine ⟨x18, _, rfl, ?_⟩
            refine GoD.quiet rfl rfl (fun h' x => rfl) (rfl) rfl ?_
            refine GoD.quiet rfl rfl (fun h' x => rfl) (rfl) rfl ?_
            refine GoD.quiet rfl rfl (fun h' x => fa25_3 rfl) (sameA_ptr _ _) rfl ?_
            refine GoD.quiet rfl rfl (fun h' x => ld23 rfl (f1.ext x) rfl) (hsm) rfl ?_
            refine GoD.quiet rfl rfl (fun h' x => aOp_lenSlice Try.underlying23 rfl (by rw [hm.len, List.length_map])) (sameA_int _ _) rfl ?_
            refine GoD.quiet rfl rfl (fun h' x => aOp_leq rfl rfl (r := false) e5) (rfl) rfl ?_
            refine GoD.quiet rfl rfl (fun h' x => rfl) (rfl) rfl ?_
            refine GoD.quiet rfl rfl (fun h' x => rfl) (rfl) rfl ?_
            refine GoD.skip rfl rfl rfl ?_
            refine GoD.skip rfl rfl rfl ?_
            refine GoD.skip rfl rfl rfl ?_
            refine GoD.skip rfl rfl rfl ?_
            refine GoD.quiet rfl rfl (fun h' x => rfl) (rfl) rfl ?_
            refine GoD.quiet rfl rfl (fun h' x => rfl) (rfl) rfl ?_
            refine GoD.end rfl (Go.ret noJ_ok (ret_end (aResult_of Try.func117 rfl rfl) ⟨?_, ((((x1).trans x2).trans x6).trans x16).trans x18⟩))
            rw [← hr]
            simp only [e1, e2, e3, e4, e5]
            rfl
          | true =>
            cases e6 : (Ms.map MarkV.cells).all (markF np nh) with
            | false =>
              refine GoD.quiet rfl rfl (fun h' x => fa25_0 rfl) (sameA_ptr _ _) rfl ?_
              refine GoD.quiet rfl rfl (fun h' x => ld3 rfl (f1.ext x) rfl) (sameA_int _ _) rfl ?_
              refine GoD.call rfl rfl (aOp_callFunc aFunc75 rfl) (inside_ok _ _ _ e1 _) ?_ (by rintro _ _ ⟨q, _⟩; cases q)
              rintro _ k2 ⟨q, x2⟩
              cases q
              replace f1 := f1.ext x2
              refine ⟨x2, _, rfl, ?_⟩
              refine GoD.quiet rfl rfl (fun h' x => rfl) (rfl) rfl ?_
              refine GoD.quiet rfl rfl (fun h' x => fa25_1 rfl) (sameA_ptr _ _) rfl ?_
              refine GoD.quiet rfl rfl (fun h' x => ld3 rfl (f1.ext x) rfl) (sameA_int _ _) rfl ?_
              refine GoD.call rfl rfl (aOp_callFunc aFunc75 rfl) (inside_ok _ _ _ e2 _) ?_ (by rintro _ _ ⟨q, _⟩; cases q)
              rintro _ k6 ⟨q, x6⟩
              cases q
              replace f1 := f1.ext x6
              refine ⟨x6, _, rfl, ?_⟩
              refine GoD.quiet rfl rfl (fun h' x => rfl) (rfl) rfl ?_
              refine GoD.quiet rfl rfl (fun h' x => rfl) (rfl) rfl ?_
              refine GoD.quiet rfl rfl (fun h' x => fa25_2 rfl) (sameA_ptr _ _) rfl ?_
              refine GoD.quiet rfl rfl (fun h' x => ld22 rfl (f1.ext x) rfl) (hss) rfl ?_
              refine GoD.quiet rfl rfl (fun h' x => aOp_lenSlice Try.underlying22 rfl (by rw [hs.len, List.length_map])) (sameA_int _ _) rfl ?_
              refine GoD.quiet rfl rfl (fun h' x => aOp_leq rfl rfl (r := true) e3) (rfl) rfl ?_
              refine GoD.quiet rfl rfl (fun h' x => rfl) (rfl) rfl ?_
              refine GoD.quiet rfl rfl (fun h' x => rfl) (rfl) rfl ?_
              refine GoD.quiet rfl rfl (fun h' x => ld25 rfl (f1.ext x) rfl) (bankSame _ _ hss hsm) rfl ?_
              refine GoD.quiet rfl rfl (fun h' x => ld25 rfl (f1.ext x) rfl) (bankSame _ _ hss hsm) rfl ?_
              refine GoD.call rfl rfl (aOp_callFunc aFunc159 rfl) (leases_ok np nh s marks (Ls.map LeaseV.cells) _ (by rw [List.length_map]; simp only [decide_eq_true_eq] at e3; omega) five_all (hs.ext (x1.trans (x2.trans x6)))) ?_ (by rintro _ _ ⟨_, q, _⟩; cases q)
              rintro _ k16 ⟨s', q, x16, g3⟩
              have q := (AEnd.ret.inj q).symm
              subst q
              replace f1 := f1.ext x16
              have hs' := g3.sliceOf (slice_flatten five_len)
              refine ⟨x16, _, rfl, ?_⟩
              refine GoD.call rfl rfl (aOp_callFunc aFunc158 rfl) (all158_ok 160 Try.f160 aFunc160 [.int .i64 np, .int .i64 nh, s, marks] rfl s' (Ls.map LeaseV.cells) (fitsF np nh) _ (by rw [List.length_map]; simp only [decide_eq_true_eq] at e3; omega) lease_len hs' (fits_all hp hh (by simpa using e1) (by simpa using e2) s marks) |> (e4 ▸ ·)) ?_ (by rintro _ _ ⟨q, _⟩; cases q)
              rintro _ k18 ⟨q, x18⟩
              cases q
              replace f1 := f1.ext x18
              refine ⟨x18, _, rfl, ?_⟩
              refine GoD.quiet rfl rfl (fun h' x => rfl) (rfl) rfl ?_
              refine GoD.quiet rfl rfl (fun h' x => rfl) (rfl) rfl ?_
              refine GoD.quiet rfl rfl (fun h' x => fa25_3 rfl) (sameA_ptr _ _) rfl ?_
              refine GoD.quiet rfl rfl (fun h' x => ld23 rfl (f1.ext x) rfl) (hsm) rfl ?_
              refine GoD.quiet rfl rfl (fun h' x => aOp_lenSlice Try.underlying23 rfl (by rw [hm.len, List.length_map])) (sameA_int _ _) rfl ?_
              refine GoD.quiet rfl rfl (fun h' x => aOp_leq rfl rfl (r := true) e5) (rfl) rfl ?_
              refine GoD.quiet rfl rfl (fun h' x => rfl) (rfl) rfl ?_
              refine GoD.quiet rfl rfl (fun h' x => rfl) (rfl) rfl ?_
              refine GoD.quiet rfl rfl (fun h' x => fa25_3 rfl) (sameA_ptr _ _) rfl ?_
              refine GoD.quiet rfl rfl (fun h' x => ld23 rfl (f1.ext x) rfl) (hsm) rfl ?_
              refine GoD.quiet rfl rfl (fun h' x => ld25 rfl (f1.ext x) rfl) (bankSame _ _ hss hsm) rfl ?_
              refine GoD.call rfl rfl (aOp_callFunc aFunc161 rfl) (all161_ok 162 Try.f162 aFunc162 [.int .i64 np, .int .i64 nh, s, marks] rfl marks (Ms.map MarkV.cells) (markF np nh) _ (by rw [List.length_map]; simp only [decide_eq_true_eq] at e5; omega) mark_len (hm.ext (x1.trans (x2.trans (x6.trans (x16.trans x18))))) (mark_all hp hh (by simpa using e1) s marks) |> (e6 ▸ ·)) ?_ (by rintro _ _ ⟨q, _⟩; cases q)
              rintro _ k30 ⟨q, x30⟩
              cases q
              replace f1 := f1.ext x30
              refine ⟨x30, _, rfl, ?_⟩
              refine GoD.quiet rfl rfl (fun h' x => rfl) (rfl) rfl ?_
              refine GoD.quiet rfl rfl (fun h' x => rfl) (rfl) rfl ?_
              refine GoD.end rfl (Go.ret noJ_ok (ret_end (aResult_of Try.func117 rfl rfl) ⟨?_, (((((x1).trans x2).trans x6).trans x16).trans x18).trans x30⟩))
              rw [← hr]
              simp only [e1, e2, e3, e4, e5, e6]
              rfl
            | true =>
              refine GoD.quiet rfl rfl (fun h' x => fa25_0 rfl) (sameA_ptr _ _) rfl ?_
              refine GoD.quiet rfl rfl (fun h' x => ld3 rfl (f1.ext x) rfl) (sameA_int _ _) rfl ?_
              refine GoD.call rfl rfl (aOp_callFunc aFunc75 rfl) (inside_ok _ _ _ e1 _) ?_ (by rintro _ _ ⟨q, _⟩; cases q)
              rintro _ k2 ⟨q, x2⟩
              cases q
              replace f1 := f1.ext x2
              refine ⟨x2, _, rfl, ?_⟩
              refine GoD.quiet rfl rfl (fun h' x => rfl) (rfl) rfl ?_
              refine GoD.quiet rfl rfl (fun h' x => fa25_1 rfl) (sameA_ptr _ _) rfl ?_
              refine GoD.quiet rfl rfl (fun h' x => ld3 rfl (f1.ext x) rfl) (sameA_int _ _) rfl ?_
              refine GoD.call rfl rfl (aOp_callFunc aFunc75 rfl) (inside_ok _ _ _ e2 _) ?_ (by rintro _ _ ⟨q, _⟩; cases q)
              rintro _ k6 ⟨q, x6⟩
              cases q
              replace f1 := f1.ext x6
              refine ⟨x6, _, rfl, ?_⟩
              refine GoD.quiet rfl rfl (fun h' x => rfl) (rfl) rfl ?_
              refine GoD.quiet rfl rfl (fun h' x => rfl) (rfl) rfl ?_
              refine GoD.quiet rfl rfl (fun h' x => fa25_2 rfl) (sameA_ptr _ _) rfl ?_
              refine GoD.quiet rfl rfl (fun h' x => ld22 rfl (f1.ext x) rfl) (hss) rfl ?_
              refine GoD.quiet rfl rfl (fun h' x => aOp_lenSlice Try.underlying22 rfl (by rw [hs.len, List.length_map])) (sameA_int _ _) rfl ?_
              refine GoD.quiet rfl rfl (fun h' x => aOp_leq rfl rfl (r := true) e3) (rfl) rfl ?_
              refine GoD.quiet rfl rfl (fun h' x => rfl) (rfl) rfl ?_
              refine GoD.quiet rfl rfl (fun h' x => rfl) (rfl) rfl ?_
              refine GoD.quiet rfl rfl (fun h' x => ld25 rfl (f1.ext x) rfl) (bankSame _ _ hss hsm) rfl ?_
              refine GoD.quiet rfl rfl (fun h' x => ld25 rfl (f1.ext x) rfl) (bankSame _ _ hss hsm) rfl ?_
              refine GoD.call rfl rfl (aOp_callFunc aFunc159 rfl) (leases_ok np nh s marks (Ls.map LeaseV.cells) _ (by rw [List.length_map]; simp only [decide_eq_true_eq] at e3; omega) five_all (hs.ext (x1.trans (x2.trans x6)))) ?_ (by rintro _ _ ⟨_, q, _⟩; cases q)
              rintro _ k16 ⟨s', q, x16, g3⟩
              have q := (AEnd.ret.inj q).symm
              subst q
              replace f1 := f1.ext x16
              have hs' := g3.sliceOf (slice_flatten five_len)
              refine ⟨x16, _, rfl, ?_⟩
              refine GoD.call rfl rfl (aOp_callFunc aFunc158 rfl) (all158_ok 160 Try.f160 aFunc160 [.int .i64 np, .int .i64 nh, s, marks] rfl s' (Ls.map LeaseV.cells) (fitsF np nh) _ (by rw [List.length_map]; simp only [decide_eq_true_eq] at e3; omega) lease_len hs' (fits_all hp hh (by simpa using e1) (by simpa using e2) s marks) |> (e4 ▸ ·)) ?_ (by rintro _ _ ⟨q, _⟩; cases q)
              rintro _ k18 ⟨q, x18⟩
              cases q
              replace f1 := f1.ext x18
              refine ⟨x18, _, rfl, ?_⟩
              refine GoD.quiet rfl rfl (fun h' x => rfl) (rfl) rfl ?_
              refine GoD.quiet rfl rfl (fun h' x => rfl) (rfl) rfl ?_
              refine GoD.quiet rfl rfl (fun h' x => fa25_3 rfl) (sameA_ptr _ _) rfl ?_
              refine GoD.quiet rfl rfl (fun h' x => ld23 rfl (f1.ext x) rfl) (hsm) rfl ?_
              refine GoD.quiet rfl rfl (fun h' x => aOp_lenSlice Try.underlying23 rfl (by rw [hm.len, List.length_map])) (sameA_int _ _) rfl ?_
              refine GoD.quiet rfl rfl (fun h' x => aOp_leq rfl rfl (r := true) e5) (rfl) rfl ?_
              refine GoD.quiet rfl rfl (fun h' x => rfl) (rfl) rfl ?_
              refine GoD.quiet rfl rfl (fun h' x => rfl) (rfl) rfl ?_
              refine GoD.quiet rfl rfl (fun h' x => fa25_3 rfl) (sameA_ptr _ _) rfl ?_
              refine GoD.quiet rfl rfl (fun h' x => ld23 rfl (f1.ext x) rfl) (hsm) rfl ?_
              refine GoD.quiet rfl rfl (fun h' x => ld25 rfl (f1.ext x) rfl) (bankSame _ _ hss hsm) rfl ?_
              refine GoD.call rfl rfl (aOp_callFunc aFunc161 rfl) (all161_ok 162 Try.f162 aFunc162 [.int .i64 np, .int .i64 nh, s, marks] rfl marks (Ms.map MarkV.cells) (markF np nh) _ (by rw [List.length_map]; simp only [decide_eq_true_eq] at e5; omega) mark_len (hm.ext (x1.trans (x2.trans (x6.trans (x16.trans x18))))) (mark_all hp hh (by simpa using e1) s marks) |> (e6 ▸ ·)) ?_ (by rintro _ _ ⟨q, _⟩; cases q)
              rintro _ k30 ⟨q, x30⟩
              cases q
              replace f1 := f1.ext x30
              refine ⟨x30, _, rfl, ?_⟩
              refine GoD.quiet rfl rfl (fun h' x => rfl) (rfl) rfl ?_
              refine GoD.quiet rfl rfl (fun h' x => rfl) (rfl) rfl ?_
              refine GoD.end rfl (Go.ret noJ_ok (ret_end (aResult_of Try.func117 rfl rfl) ⟨?_, (((((x1).trans x2).trans x6).trans x16).trans x18).trans x30⟩))
              rw [← hr]
              simp only [e1, e2, e3, e4, e5, e6]
              rfl
end Go.Proofs.Ytidfcmjlfadieaa

namespace Go.Proofs.Ytidfcmjlfadieaa
open Go Go.AbsE
set_option maxRecDepth 100000
set_option linter.unusedVariables false
theorem zt139 : zeroT Try.prog 139 = some (.agg [.int .i64 0]) := by kernel_rfl
theorem zt28 : zeroT Try.prog 28 = some (.int .i64 0) := by kernel_rfl

/-- What a refusal panics with. -/
def refusal (code : Int) : List AEntry := [⟨.iface 139 (.agg [.int .i64 code]), false⟩]

theorem refuse_ok (b : Bool) (code : Int) (h : AH) : Runs Try.prog 74 [.bool b, .int .i64 code] h (fun en h' => h' = h ∧ ((b = false ∧ en = .ret (.tuple [])) ∨ (b = true ∧ en = .pan (refusal code)))) := by
  refine Runs.intro aFunc74 rfl rfl rfl rfl fun rest => ?_
  refine Go.seq noJ_ok (Go.region noJ_ok rfl ?_)
  refine GoR.op rfl rfl rfl rfl ?_
  cases b with
  | false =>
    refine GoR.end (Go.cond noJ_ok (b := false) rfl (Go.code noJ_ok (Go.endL (FLeft.ret (v := .tuple []) ?_ ⟨rfl, .inl ⟨rfl, rfl⟩⟩))))
    exact aResult_of Try.func74 rfl rfl
  | true =>
    refine GoR.end (Go.cond noJ_ok (b := true) rfl (Go.region noJ_ok rfl ?_))
    refine GoR.op rfl rfl rfl rfl ?_
    refine GoR.op rfl rfl (aOp_build zt139 Try.underlying139 rfl rfl rfl) rfl ?_
    refine GoR.op rfl rfl rfl rfl ?_
    refine GoR.panic rfl rfl rfl (FLeft.pan ⟨rfl, .inr ⟨rfl, rfl⟩⟩)

/-- attempt's last word, where its body panicked. -/
theorem attempt_pan {rest : List AFr} {t : Tr AVal} {h : AH} {b : Nat} {c0 code : Int} {R : AEnd → AH → Prop} (ht : t.get (pth 4) = some (.ptr b 0)) (hb : Has h b (.cells .plain [.int .i64 c0] 28))
    (hR : ∀ h', h.next ≤ h'.next → (∀ x, x < h.next → x ≠ b → h'.get x = h.get x) → R (.ret (.int .i64 code)) h') :
    FLeft Try.prog ⟨58, 14, [.call (.func 116) [.ptr b 0] []], false, none, rest⟩ (.panicking (refusal code)) t h (Post Try.prog 58 rest R) := by
  refine FLeft.defer (fun q => by cases q) aFunc116 rfl rfl rfl rfl fun todo => ?_
  refine Go.seq noJ_ok (Go.region noJ_ok rfl ?_)
  refine GoR.recover1 rfl rfl rfl rfl rfl ?_
  refine GoR.end (Go.block noJ_ok (Go.seq noJ_ok (Go.region noJ_ok rfl ?_)))
  refine GoR.op rfl rfl rfl rfl ?_
  refine GoR.end (Go.cond noJ_ok (b := false) rfl (Go.seq noJ_ok (Go.region noJ_ok rfl ?_)))
  refine GoR.op rfl rfl rfl rfl ?_
  refine GoR.op rfl rfl rfl rfl ?_
  refine GoR.op rfl rfl rfl rfl ?_
  refine GoR.end (Go.cond noJ_ok (b := true) rfl (Go.seq noJ_ok (Go.region noJ_ok rfl ?_)))
  refine GoR.alloc rfl rfl rfl zt139 rfl rfl fun h1 x1 f1 => ?_
  refine GoR.store rfl rfl rfl rfl rfl rfl f1 rfl sz139 rfl rfl rfl fun h2 u2 => ?_
  refine GoR.end (Go.region noJ_ok rfl ?_)
  refine GoR.op rfl rfl (fa139_0 rfl) rfl ?_
  refine GoR.op rfl rfl (ld28 rfl (u2.has f1) rfl) rfl ?_
  have x2 : Ext h h2 := x1.upd u2 (Nat.le_refl _)
  refine GoR.store rfl rfl rfl rfl rfl rfl (hb.ext x2) rfl sz28 rfl rfl rfl fun h3 u3 => ?_
  refine GoR.end (Go.inBlock noJ_ok (Go.endL ?_))
  refine FLeft.settle (v := .tuple []) (aResult_of Try.func116 rfl rfl) ?_
  exact FLeft.ret (v := .int .i64 code) (aResult_of Try.func58 rfl (aResults_cell ht (u3.has (hb.ext x2)) (inCells_one ag28 rfl))) (hR h3 (by rw [u3.1]; exact x2.1) (fun x hx hn => by rw [u3.2.2 x hn, x2.2 x hx])) todo

/-- attempt's last word, where it returns. -/
theorem attempt_ret {rest : List AFr} {t : Tr AVal} {h : AH} {b : Nat} {code : Int} {R : AEnd → AH → Prop} (ht : t.get (pth 4) = some (.ptr b 0)) (hb : Has h b (.cells .plain [.int .i64 code] 28)) (hR : R (.ret (.int .i64 code)) h) :
    FLeft Try.prog ⟨58, 14, [.call (.func 116) [.ptr b 0] []], false, none, rest⟩ .returning t h (Post Try.prog 58 rest R) := by
  refine FLeft.defer (fun q => by cases q) aFunc116 rfl rfl rfl rfl fun todo => ?_
  refine Go.seq noJ_ok (Go.region noJ_ok rfl ?_)
  refine GoR.recover0 rfl rfl rfl rfl rfl ?_
  refine GoR.end (Go.block noJ_ok (Go.seq noJ_ok (Go.region noJ_ok rfl ?_)))
  refine GoR.op rfl rfl rfl rfl ?_
  refine GoR.end (Go.cond noJ_ok (b := true) rfl (Go.region noJ_ok rfl ?_))
  refine GoR.op rfl rfl rfl rfl ?_
  refine GoR.end (Go.inBlock noJ_ok (Go.endL ?_))
  refine FLeft.settle (v := .tuple []) (aResult_of Try.func116 rfl rfl) ?_
  exact FLeft.ret (v := .int .i64 code) (aResult_of Try.func58 rfl (aResults_cell ht hb (inCells_one ag28 rfl))) hR todo

/-- What attempt is to do with a bank. -/
structure BankIn (h : AH) (np nh : Int) (s marks : AVal) (Ls : List LeaseV) (Ms : List MarkV) : Prop where
  hp : inI64 np
  hh : inI64 nh
  hs : SliceOf h 5 s (Ls.map LeaseV.cells)
  hm : SliceOf h 2 marks (Ms.map MarkV.cells)
  hss : sameA s s = true
  hsm : sameA marks marks = true
  hmc : marks.cells = [marks]
  hms : scalars [marks] = true

def bankValid (np nh : Int) (Ls : List LeaseV) (Ms : List MarkV) : Bool := decide (1 ≤ np ∧ np ≤ 10) && decide (1 ≤ nh ∧ nh ≤ 4) && decide ((Ls.length : Int) ≤ 4) && (Ls.map LeaseV.cells).all (fitsF np nh) && decide ((Ms.length : Int) ≤ 6) && (Ms.map MarkV.cells).all (markF np nh)

theorem attempt_invalid (np nh : Int) (s marks : AVal) (Ls : List LeaseV) (Ms : List MarkV) (F : FuncId) (first cap : List AVal) (h : AH) (B : BankIn h np nh s marks Ls Ms) (hv : bankValid np nh Ls Ms = false) :
    Runs Try.prog 58 [.agg [.int .i64 np, .int .i64 nh, s, marks], .func (.func F) first cap] h (fun en h' => en = .ret (.int .i64 1) ∧ Ext h h') := by
  refine Runs.intro aFunc58 rfl rfl rfl rfl fun rest => ?_
  refine Go.seq noJ_ok (Go.region noJ_ok rfl ?_)
  refine GoR.box rfl rfl rfl rfl rfl rfl fun h1 x1 f1 => ?_
  refine GoR.alloc rfl rfl rfl zt28 rfl rfl fun h2 x2 f2 => ?_
  replace f1 := f1.ext x2
  refine GoR.end (Go.seq noJ_ok (Go.region noJ_ok rfl ?_))
  refine GoR.op rfl rfl rfl rfl ?_
  refine GoR.defer rfl rfl rfl rfl ?_
  refine GoR.end (Go.seq noJ_ok (Go.region noJ_ok rfl ?_))
  refine GoR.op rfl rfl (ld25 rfl f1 rfl) rfl ?_
  refine GoR.call rfl rfl (aOp_callFunc aFunc117 rfl) (valid_ok np nh s marks Ls Ms B.hp B.hh _ (B.hs.ext (x1.trans x2)) (B.hm.ext (x1.trans x2)) B.hss B.hsm hv) ?_ (by rintro _ _ ⟨q, _⟩; cases q)
  rintro _ h3 ⟨q, x3⟩
  cases q
  replace f1 := f1.ext x3
  replace f2 := f2.ext x3
  refine ⟨_, rfl, ?_⟩
  refine GoR.op rfl rfl rfl rfl ?_
  refine GoR.callP rfl rfl (aOp_callFunc aFunc74 rfl) (refuse_ok true 1 h3) (by rintro _ _ ⟨_, ⟨q, _⟩ | ⟨_, q⟩⟩ <;> cases q) ?_
  rintro chain h4 ⟨rfl, ⟨q, _⟩ | ⟨_, q⟩⟩
  · cases q
  have q := (AEnd.pan.inj q)
  subst q
  refine attempt_pan rfl f2 ?_
  intro h' n1 n2
  refine ⟨rfl, Nat.le_trans ((x1.trans x2).trans x3).1 n1, fun x hx => ?_⟩
  have a1 := x1.1
  have a3 := ((x1.trans x2).trans x3).1
  rw [n2 x (by omega) (by omega), ((x1.trans x2).trans x3).2 x hx]

theorem has_extS {S : List Nat} {h h' : AH} {b : Nat} {o : ABlk} (k : Has h b o) (e : ExtS S h h') (hb : b ∉ S) : Has h' b o := ⟨Nat.lt_of_lt_of_le k.1 e.1, by rw [e.2 b k.1 hb]; exact k.2⟩

theorem attempt_valid (np nh : Int) (s marks : AVal) (Ls : List LeaseV) (Ms : List MarkV) (F : FuncId) (fF : Func) (hF : aFunc Try.prog F = some fF) (first cap : List AVal) (h : AH) (B : BankIn h np nh s marks Ls Ms) (hv : bankValid np nh Ls Ms = true)
    (S : List Nat) (hS : ∀ b, b ∈ S → b < h.next) (T : Int → AH → Prop)
    (hbody : ∀ s' h', Ext h h' → SliceOf h' 5 s' (Ls.map LeaseV.cells) → sameA s' s' = true → s'.cells = [s'] → scalars [s'] = true →
      Runs Try.prog F (first ++ [.agg [.int .i64 np, .int .i64 nh, s', marks]] ++ cap) h' (fun en h'' => ExtS S h' h'' ∧ ((en = .ret (.tuple []) ∧ T 0 h'') ∨ ∃ code, en = .pan (refusal code) ∧ T code h''))) :
    Runs Try.prog 58 [.agg [.int .i64 np, .int .i64 nh, s, marks], .func (.func F) first cap] h (fun en h' => ∃ code h2, en = .ret (.int .i64 code) ∧ T code h2 ∧ ExtS S h h' ∧ ∀ b, b < h.next → h'.get b = h2.get b) := by
  have hlen : Ls.length ≤ 100 := by
    unfold bankValid at hv
    simp only [Bool.and_eq_true, decide_eq_true_eq] at hv
    omega
  refine Runs.intro aFunc58 rfl rfl rfl rfl fun rest => ?_
  refine Go.seq noJ_ok (Go.region noJ_ok rfl ?_)
  refine GoR.box rfl rfl rfl rfl rfl rfl fun h1 x1 f1 => ?_
  refine GoR.alloc rfl rfl rfl zt28 rfl rfl fun h2 x2 f2 => ?_
  replace f1 := f1.ext x2
  refine GoR.end (Go.seq noJ_ok (Go.region noJ_ok rfl ?_))
  refine GoR.op rfl rfl rfl rfl ?_
  refine GoR.defer rfl rfl rfl rfl ?_
  refine GoR.end (Go.seq noJ_ok (Go.region noJ_ok rfl ?_))
  refine GoR.op rfl rfl (ld25 rfl f1 rfl) rfl ?_
  refine GoR.call rfl rfl (aOp_callFunc aFunc117 rfl) (valid_ok np nh s marks Ls Ms B.hp B.hh _ (B.hs.ext (x1.trans x2)) (B.hm.ext (x1.trans x2)) B.hss B.hsm hv) ?_ (by rintro _ _ ⟨q, _⟩; cases q)
  rintro _ h3 ⟨q, x3⟩
  cases q
  replace f1 := f1.ext x3
  replace f2 := f2.ext x3
  refine ⟨_, rfl, ?_⟩
  refine GoR.op rfl rfl rfl rfl ?_
  refine GoR.call rfl rfl (aOp_callFunc aFunc74 rfl) (refuse_ok false 1 h3) ?_ (by rintro _ _ ⟨_, ⟨_, q⟩ | ⟨q, _⟩⟩ <;> cases q)
  rintro v h4 ⟨rfl, ⟨_, q⟩ | ⟨q, _⟩⟩
  case inr => cases q
  cases q
  refine ⟨_, rfl, ?_⟩
  refine GoR.end (Go.seq noJ_ok (Go.region noJ_ok rfl ?_))
  refine GoR.op rfl rfl rfl rfl ?_
  refine GoR.op rfl rfl (ld25 rfl f1 rfl) rfl ?_
  have x13 := (x1.trans x2).trans x3
  refine GoR.call rfl rfl (aOp_callFunc aFunc118 rfl) (survey_ok np nh s marks (Ls.map LeaseV.cells) _ (by rw [List.length_map]; exact hlen) five_all (B.hs.ext x13) B.hss B.hsm B.hmc B.hms) ?_ (by rintro _ _ ⟨_, q, _⟩; cases q)
  rintro _ h5 ⟨s', q, x5, g5⟩
  have q := (AEnd.ret.inj q)
  subst q
  replace f2 := f2.ext x5
  have x15 := x13.trans x5
  have hsc' : s'.cells = [s'] ∧ scalars [s'] = true ∧ sameA s' s' = true := by
    obtain ⟨_, ⟨rfl, _⟩ | ⟨_, b, _, rfl, _⟩⟩ := g5
    · exact ⟨rfl, rfl, rfl⟩
    · exact ⟨rfl, rfl, by simp [sameA]⟩
  obtain ⟨k1, k2, k3⟩ := hsc'
  refine ⟨_, rfl, ?_⟩
  have hnS : h1.next ∉ S := fun q => absurd (hS _ q) (by have := x1.1; omega)
  have ext_of : ∀ {h6 h7 : AH}, ExtS S h5 h6 → h6.next ≤ h7.next → (∀ x, x < h6.next → x ≠ h1.next → h7.get x = h6.get x) → ExtS S h h7 ∧ ∀ b, b < h.next → h7.get b = h6.get b := by
    intro h6 h7 e n1 n2
    have a1 := x1.1
    have a2 := x15.1
    have a3 := e.1
    have a4 : ∀ b, b < h.next → h7.get b = h6.get b := fun b hb => n2 b (by omega) (by omega)
    exact ⟨⟨by omega, fun b hb hbS => by rw [a4 b hb, e.2 b (by omega) hbS, x15.2 b hb]⟩, a4⟩
  refine GoR.callP rfl rfl (aOp_callVal rfl hF rfl) (hbody s' h5 x15 (g5.sliceOf (slice_flatten five_len)) k3 k1 k2) ?_ ?_
  · rintro v h6 ⟨e6, ⟨q, hT⟩ | ⟨code, q, _⟩⟩
    case inr => cases q
    cases q
    refine ⟨_, rfl, ?_⟩
    refine GoR.end (Go.seq noJ_ok (Go.region noJ_ok rfl ?_))
    have f6 := has_extS f2 e6 hnS
    refine GoR.store rfl rfl rfl rfl rfl rfl f6 rfl sz28 rfl rfl rfl fun h7 u7 => ?_
    refine GoR.end (Go.retL (attempt_ret (code := 0) rfl (u7.has f6) ?_))
    obtain ⟨y1, y2⟩ := ext_of (h7 := h7) e6 (by rw [u7.1]; exact Nat.le_refl _) (fun x _ hx => u7.2.2 x hx)
    exact ⟨0, h6, rfl, hT, y1, y2⟩
  · rintro chain h6 ⟨e6, ⟨q, _⟩ | ⟨code, q, hT⟩⟩
    · cases q
    have q := (AEnd.pan.inj q)
    subst q
    refine attempt_pan rfl (has_extS f2 e6 hnS) ?_
    intro h7 n1 n2
    obtain ⟨y1, y2⟩ := ext_of e6 n1 n2
    exact ⟨code, h6, rfl, hT, y1, y2⟩
end Go.Proofs.Ytidfcmjlfadieaa

namespace Go.Proofs.Ytidfcmjlfadieaa
open Go Go.AbsE
set_option maxRecDepth 100000
set_option linter.unusedVariables false
theorem done_ok (np nb ln : Int) (s m s0 s1 s2 s3 : AVal) {r : Bool} (hr : decide (ln > np) = r) (h : AH) : Runs Try.prog 123 [.agg [.int .i64 np, .int .i64 nb, s, m], .agg [.int .i64 ln, s0, s1, s2, s3]] h (fun en h' => en = .ret (.bool r) ∧ Ext h h') := by
  refine Runs.intro aFunc123 rfl rfl rfl rfl fun rest => ?_
  refine Go.seq noJ_ok (Go.region noJ_ok rfl ?_)
  refine GoR.box rfl rfl rfl rfl rfl rfl fun h1 x1 f1 => ?_
  refine GoR.box rfl rfl rfl rfl rfl rfl fun h2 x2 f2 => ?_
  replace f1 := f1.ext x2
  refine GoR.op rfl rfl rfl rfl ?_
  refine GoR.end (Go.seq noJ_ok (Go.region noJ_ok rfl ?_))
  refine GoR.op rfl rfl (fa149_0 rfl) rfl ?_
  refine GoR.op rfl rfl (ld3 rfl f2 rfl) rfl ?_
  refine GoR.op rfl rfl (fa92_0 rfl) rfl ?_
  refine GoR.op rfl rfl (ld3 rfl f1 rfl) rfl ?_
  refine GoR.op rfl rfl (aOp_gtr rfl rfl hr) rfl ?_
  refine GoR.op rfl rfl rfl rfl ?_
  exact GoR.end (Go.ret noJ_ok (ret_end (aResult_of Try.func123 rfl rfl) ⟨rfl, (x1).trans x2⟩))

def denyV (p hh : Int) (m : MarkV) : Bool := decide (m.p = p) && !decide (m.h = hh)
theorem denies_ok (marks : AVal) (Ms : List MarkV) (p hh : Int) (h : AH) (hL : Ms.length ≤ 100) (hs : SliceOf h 2 marks (Ms.map MarkV.cells)) (hmc : marks.cells = [marks]) :
    Runs Try.prog 217 [.agg [marks], .int .i64 p, .int .i64 hh] h (fun en h' => en = .ret (.bool (Ms.any (denyV p hh))) ∧ Ext h h') := by
  refine Runs.intro aFunc217 rfl rfl rfl rfl fun rest => ?_
  refine Go.seq noJ_ok (Go.region noJ_ok rfl ?_)
  refine GoR.box rfl rfl rfl rfl rfl rfl fun h1 x1 f1 => ?_
  refine GoR.op rfl rfl rfl rfl ?_
  refine GoR.end (Go.seq noJ_ok (Go.seq noJ_ok (Go.region noJ_ok rfl ?_)))
  refine GoR.op rfl rfl (fa90_0 rfl) rfl ?_
  refine GoR.op rfl rfl (ld23 rfl f1 rfl) rfl ?_
  refine GoR.op rfl rfl (aOp_lenSlice Try.underlying23 rfl hs.len) rfl ?_
  refine GoR.op rfl rfl rfl rfl ?_
  refine GoR.end (Go.block noJ_ok ?_)
  rw [List.length_map]
  refine Go.keep [(1, .int .i64 p), (2, .int .i64 hh), (10, marks), (11, .int .i64 Ms.length), (12, .int .i64 0)] ⟨rfl, rfl, rfl, rfl, rfl, trivial⟩ ?_
  refine Go.loopInv (fun n t h' => ∃ i, n + i = Ms.length ∧ t = keepT [(1, .int .i64 p), (2, .int .i64 hh), (10, marks), (11, .int .i64 Ms.length), (12, .int .i64 (Int.ofNat i))] ∧ Ext h h' ∧ (Ms.take i).any (denyV p hh) = false) (n := Ms.length) ⟨0, rfl, rfl, x1, rfl⟩ ?_
  rintro n t h2 ⟨i, hn, rfl, x2, ha⟩ again
  refine Go.seq noJ_ok (Go.region noJ_ok rfl ?_)
  by_cases hi : i < Ms.length
  · refine GoR.op rfl rfl (aOp_lss rfl rfl (r := true) (by simp; omega)) rfl ?_
    refine GoR.end (Go.seq noJ_ok (Go.cond noJ_ok rfl (Go.code noJ_ok ?_)))
    refine Go.seq noJ_ok (Go.block noJ_ok (Go.seq noJ_ok (Go.region noJ_ok rfl ?_)))
    obtain ⟨m, hm⟩ : ∃ m, Ms[i]? = some m := ⟨Ms[i], by simp [hi]⟩
    have hl : (Ms.map MarkV.cells)[i]? = some m.cells := by rw [List.getElem?_map, hm]; rfl
    obtain ⟨b, off, k1, k2⟩ := (hs.ext x2).at hl
    rw [List.length_map] at k1
    refine GoR.op rfl rfl (aOp_indexAddr Try.underlying23 sz52 rfl k1 rfl (Nat.ble_eq_true_of_le hi)) rfl ?_
    refine GoR.op rfl rfl (aOp_loadE ag52 sz52 rfl k2) rfl ?_
    refine GoR.alloc rfl rfl rfl zt52 rfl rfl fun h3 x3 f3 => ?_
    refine GoR.store rfl rfl rfl rfl rfl rfl f3 rfl sz52 rfl rfl rfl fun h4 u4 => ?_
    have x4 : Ext h2 h4 := x3.upd u4 (Nat.le_refl _)
    have f4 := u4.has f3
    refine GoR.end (Go.seq noJ_ok (Go.region noJ_ok rfl ?_))
    have hmore : (Ms.take (i + 1)).any (denyV p hh) = denyV p hh m := by rw [List.take_add_one, hm]; simp [ha]
    cases e1 : decide (m.p = p) with
    | false =>
      refine GoR.op rfl rfl (fa52_0 rfl) rfl ?_
      refine GoR.op rfl rfl (ld3 rfl f4 rfl) rfl ?_
      refine GoR.op rfl rfl rfl rfl ?_
      refine GoR.op rfl rfl (aOp_eql rfl rfl (r := false) e1) rfl ?_
      refine GoR.op rfl rfl rfl rfl ?_
      refine GoR.skip rfl rfl rfl ?_
      refine GoR.skip rfl rfl rfl ?_
      refine GoR.skip rfl rfl rfl ?_
      refine GoR.skip rfl rfl rfl ?_
      refine GoR.op rfl rfl rfl rfl ?_
      have hd : denyV p hh m = false := by unfold denyV; rw [e1]; rfl
      rw [hd] at hmore
      refine GoR.end (Go.cond noJ_ok (b := false) rfl (Go.code noJ_ok ?_))
      refine Go.inBlock noJ_ok (Go.region noJ_ok rfl ?_)
      have hi64 : inI64 (Int.ofNat i + 1) := by constructor <;> simp <;> omega
      refine GoR.op rfl rfl (aOp_add rfl rfl hi64 rfl) rfl ?_
      refine GoR.op rfl rfl rfl rfl ?_
      refine GoR.end ?_
      refine Go.keep [(1, .int .i64 p), (2, .int .i64 hh), (10, marks), (11, .int .i64 Ms.length), (12, .int .i64 (Int.ofNat i + 1))] ⟨rfl, rfl, rfl, rfl, rfl, trivial⟩ ?_
      exact again (n - 1) _ _ (by omega) ⟨i + 1, by omega, rfl, x2.trans x4, hmore⟩
    | true =>
      cases e2 : decide (m.h = hh) with
      | false =>
        refine GoR.op rfl rfl (fa52_0 rfl) rfl ?_
        refine GoR.op rfl rfl (ld3 rfl f4 rfl) rfl ?_
        refine GoR.op rfl rfl rfl rfl ?_
        refine GoR.op rfl rfl (aOp_eql rfl rfl (r := true) e1) rfl ?_
        refine GoR.op rfl rfl rfl rfl ?_
        refine GoR.op rfl rfl (fa52_1 rfl) rfl ?_
        refine GoR.op rfl rfl (ld3 rfl f4 rfl) rfl ?_
        refine GoR.op rfl rfl rfl rfl ?_
        refine GoR.op rfl rfl (aOp_neq rfl rfl (r := true) e2) rfl ?_
        refine GoR.op rfl rfl rfl rfl ?_
        refine GoR.end (Go.cond noJ_ok (b := true) rfl (Go.seq noJ_ok (Go.region noJ_ok rfl ?_)))
        refine GoR.op rfl rfl rfl rfl ?_
        refine GoR.end (Go.ret noJ_ok (ret_end (aResult_of Try.func217 rfl rfl) ⟨?_, x2.trans x4⟩))
        have : Ms.any (denyV p hh) = true := List.any_eq_true.2 ⟨m, List.mem_of_getElem? hm, by unfold denyV; rw [e1, e2]; rfl⟩
        rw [this]
        rfl
      | true =>
        refine GoR.op rfl rfl (fa52_0 rfl) rfl ?_
        refine GoR.op rfl rfl (ld3 rfl f4 rfl) rfl ?_
        refine GoR.op rfl rfl rfl rfl ?_
        refine GoR.op rfl rfl (aOp_eql rfl rfl (r := true) e1) rfl ?_
        refine GoR.op rfl rfl rfl rfl ?_
        refine GoR.op rfl rfl (fa52_1 rfl) rfl ?_
        refine GoR.op rfl rfl (ld3 rfl f4 rfl) rfl ?_
        refine GoR.op rfl rfl rfl rfl ?_
        refine GoR.op rfl rfl (aOp_neq rfl rfl (r := false) e2) rfl ?_
        refine GoR.op rfl rfl rfl rfl ?_
        have hd : denyV p hh m = false := by unfold denyV; rw [e1, e2]; rfl
        rw [hd] at hmore
        refine GoR.end (Go.cond noJ_ok (b := false) rfl (Go.code noJ_ok ?_))
        refine Go.inBlock noJ_ok (Go.region noJ_ok rfl ?_)
        have hi64 : inI64 (Int.ofNat i + 1) := by constructor <;> simp <;> omega
        refine GoR.op rfl rfl (aOp_add rfl rfl hi64 rfl) rfl ?_
        refine GoR.op rfl rfl rfl rfl ?_
        refine GoR.end ?_
        refine Go.keep [(1, .int .i64 p), (2, .int .i64 hh), (10, marks), (11, .int .i64 Ms.length), (12, .int .i64 (Int.ofNat i + 1))] ⟨rfl, rfl, rfl, rfl, rfl, trivial⟩ ?_
        exact again (n - 1) _ _ (by omega) ⟨i + 1, by omega, rfl, x2.trans x4, hmore⟩
  · refine GoR.op rfl rfl (aOp_lss rfl rfl (r := false) (by simp; omega)) rfl ?_
    refine GoR.end (Go.seq noJ_ok (Go.cond noJ_ok rfl (Go.code noJ_ok ?_)))
    refine Go.seq noJ_ok (Go.region noJ_ok rfl ?_)
    refine GoR.op rfl rfl rfl rfl ?_
    refine GoR.end (Go.ret noJ_ok (ret_end (aResult_of Try.func217 rfl rfl) ⟨?_, x2⟩))
    have : i = Ms.length := by omega
    subst this
    rw [List.take_length] at ha
    rw [ha]
    rfl

theorem right218_ok (marks : AVal) (Ms : List MarkV) (p hh : Int) (h : AH) (hL : Ms.length ≤ 100) (hs : SliceOf h 2 marks (Ms.map MarkV.cells)) (hmc : marks.cells = [marks]) {r : Bool} (hr : (!Ms.any (denyV p hh)) = r) :
    Runs Try.prog 218 [.agg [marks], .int .i64 p, .int .i64 hh] h (fun en h' => en = .ret (.bool r) ∧ Ext h h') := by
  refine Runs.intro aFunc218 rfl rfl rfl rfl fun rest => ?_
  refine Go.seq noJ_ok (Go.region noJ_ok rfl ?_)
  refine GoR.box rfl rfl rfl rfl rfl rfl fun h1 x1 f1 => ?_
  refine GoR.op rfl rfl rfl rfl ?_
  refine GoR.end (Go.seq noJ_ok (Go.region noJ_ok rfl ?_))
  refine GoR.op rfl rfl (ld90 rfl f1 rfl) rfl ?_
  refine GoR.op rfl rfl rfl rfl ?_
  refine GoR.op rfl rfl rfl rfl ?_
  refine GoR.call rfl rfl (aOp_callFunc aFunc217 rfl) (denies_ok marks Ms p hh _ hL (hs.ext x1) hmc) ?_ (by rintro _ _ ⟨q, _⟩; cases q)
  rintro _ h2 ⟨q, x2⟩
  cases q
  replace f1 := f1.ext x2
  refine ⟨_, rfl, ?_⟩
  refine GoR.op rfl rfl rfl rfl ?_
  refine GoR.op rfl rfl rfl rfl ?_
  subst hr
  exact GoR.end (Go.ret noJ_ok (ret_end (aResult_of Try.func218 rfl rfl) ⟨rfl, (x1).trans x2⟩))

def claimV (a b o p hh : Int) : Bool := decide (hh = o) || !decide (a ≤ p ∧ p ≤ b)
theorem right223_ok (marks : AVal) (Ms : List MarkV) (a b o p hh : Int) (h : AH) (hL : Ms.length ≤ 100) (hs : SliceOf h 2 marks (Ms.map MarkV.cells)) (hmc : marks.cells = [marks]) {r : Bool} (hr : (!Ms.any (denyV p hh) && claimV a b o p hh) = r) :
    Runs Try.prog 223 [.agg [marks, .int .i64 a, .int .i64 b, .int .i64 o], .int .i64 p, .int .i64 hh] h (fun en h' => en = .ret (.bool r) ∧ Ext h h') := by
  refine Runs.intro aFunc223 rfl rfl rfl rfl fun rest => ?_
  refine Go.seq noJ_ok (Go.region noJ_ok rfl ?_)
  refine GoR.box rfl rfl rfl rfl rfl rfl fun h1 x1 f1 => ?_
  refine GoR.op rfl rfl rfl rfl ?_
  refine GoR.end (Go.seq noJ_ok (Go.region noJ_ok rfl ?_))
  cases e1 : Ms.any (denyV p hh) with
  | true =>
    refine GoR.op rfl rfl (fa206_0 rfl) rfl ?_
    refine GoR.op rfl rfl (ld90 rfl f1 rfl) rfl ?_
    refine GoR.op rfl rfl rfl rfl ?_
    refine GoR.op rfl rfl rfl rfl ?_
    refine GoR.call rfl rfl (aOp_callFunc aFunc217 rfl) (e1 ▸ denies_ok marks Ms p hh _ hL (hs.ext x1) hmc) ?_ (by rintro _ _ ⟨q, _⟩; cases q)
    rintro _ h2 ⟨q, x2⟩
    cases q
    replace f1 := f1.ext x2
    refine ⟨_, rfl, ?_⟩
    refine GoR.op rfl rfl rfl rfl ?_
    refine GoR.op rfl rfl rfl rfl ?_
    refine GoR.skip rfl rfl rfl ?_
    refine GoR.skip rfl rfl rfl ?_
    refine GoR.skip rfl rfl rfl ?_
    refine GoR.skip rfl rfl rfl ?_
    refine GoR.skip rfl rfl rfl ?_
    refine GoR.skip rfl rfl rfl ?_
    refine GoR.skip rfl rfl rfl ?_
    refine GoR.skip rfl rfl rfl ?_
    refine GoR.skip rfl rfl rfl ?_
    refine GoR.skip rfl rfl rfl ?_
    refine GoR.skip rfl rfl rfl ?_
    refine GoR.skip rfl rfl rfl ?_
    refine GoR.skip rfl rfl rfl ?_
    refine GoR.op rfl rfl rfl rfl ?_
    refine GoR.op rfl rfl rfl rfl ?_
    refine GoR.end (Go.ret noJ_ok (ret_end (aResult_of Try.func223 rfl rfl) ⟨?_, (x1).trans x2⟩))
    rw [← hr]
    simp only [claimV, e1]
    rfl
  | false =>
    cases e2 : decide (hh = o) with
    | true =>
      refine GoR.op rfl rfl (fa206_0 rfl) rfl ?_
      refine GoR.op rfl rfl (ld90 rfl f1 rfl) rfl ?_
      refine GoR.op rfl rfl rfl rfl ?_
      refine GoR.op rfl rfl rfl rfl ?_
      refine GoR.call rfl rfl (aOp_callFunc aFunc217 rfl) (e1 ▸ denies_ok marks Ms p hh _ hL (hs.ext x1) hmc) ?_ (by rintro _ _ ⟨q, _⟩; cases q)
      rintro _ h2 ⟨q, x2⟩
      cases q
      replace f1 := f1.ext x2
      refine ⟨_, rfl, ?_⟩
      refine GoR.op rfl rfl rfl rfl ?_
      refine GoR.op rfl rfl rfl rfl ?_
      refine GoR.op rfl rfl rfl rfl ?_
      refine GoR.op rfl rfl (fa206_3 rfl) rfl ?_
      refine GoR.op rfl rfl (ld3 rfl f1 rfl) rfl ?_
      refine GoR.op rfl rfl (aOp_eql rfl rfl (r := true) e2) rfl ?_
      refine GoR.op rfl rfl rfl rfl ?_
      refine GoR.skip rfl rfl rfl ?_
      refine GoR.skip rfl rfl rfl ?_
      refine GoR.skip rfl rfl rfl ?_
      refine GoR.skip rfl rfl rfl ?_
      refine GoR.skip rfl rfl rfl ?_
      refine GoR.skip rfl rfl rfl ?_
      refine GoR.skip rfl rfl rfl ?_
      refine GoR.op rfl rfl rfl rfl ?_
      refine GoR.op rfl rfl rfl rfl ?_
      refine GoR.op rfl rfl rfl rfl ?_
      refine GoR.end (Go.ret noJ_ok (ret_end (aResult_of Try.func223 rfl rfl) ⟨?_, (x1).trans x2⟩))
      rw [← hr]
      simp only [claimV, e1, e2]
      rfl
    | false =>
      cases e3 : decide (a ≤ p ∧ p ≤ b) with
      | true =>
        refine GoR.op rfl rfl (fa206_0 rfl) rfl ?_
        refine GoR.op rfl rfl (ld90 rfl f1 rfl) rfl ?_
        refine GoR.op rfl rfl rfl rfl ?_
        refine GoR.op rfl rfl rfl rfl ?_
        refine GoR.call rfl rfl (aOp_callFunc aFunc217 rfl) (e1 ▸ denies_ok marks Ms p hh _ hL (hs.ext x1) hmc) ?_ (by rintro _ _ ⟨q, _⟩; cases q)
        rintro _ h2 ⟨q, x2⟩
        cases q
        replace f1 := f1.ext x2
        refine ⟨_, rfl, ?_⟩
        refine GoR.op rfl rfl rfl rfl ?_
        refine GoR.op rfl rfl rfl rfl ?_
        refine GoR.op rfl rfl rfl rfl ?_
        refine GoR.op rfl rfl (fa206_3 rfl) rfl ?_
        refine GoR.op rfl rfl (ld3 rfl f1 rfl) rfl ?_
        refine GoR.op rfl rfl (aOp_eql rfl rfl (r := false) e2) rfl ?_
        refine GoR.op rfl rfl rfl rfl ?_
        refine GoR.op rfl rfl rfl rfl ?_
        refine GoR.op rfl rfl (fa206_1 rfl) rfl ?_
        refine GoR.op rfl rfl (ld3 rfl f1 rfl) rfl ?_
        refine GoR.op rfl rfl (fa206_2 rfl) rfl ?_
        refine GoR.op rfl rfl (ld3 rfl f1 rfl) rfl ?_
        refine GoR.call rfl rfl (aOp_callFunc aFunc75 rfl) (inside_ok _ _ _ e3 _) ?_ (by rintro _ _ ⟨q, _⟩; cases q)
        rintro _ h3 ⟨q, x3⟩
        cases q
        replace f1 := f1.ext x3
        refine ⟨_, rfl, ?_⟩
        refine GoR.op rfl rfl rfl rfl ?_
        refine GoR.op rfl rfl rfl rfl ?_
        refine GoR.op rfl rfl rfl rfl ?_
        refine GoR.op rfl rfl rfl rfl ?_
        refine GoR.end (Go.ret noJ_ok (ret_end (aResult_of Try.func223 rfl rfl) ⟨?_, ((x1).trans x2).trans x3⟩))
        rw [← hr]
        simp only [claimV, e1, e2, e3]
        rfl
      | false =>
        refine GoR.op rfl rfl (fa206_0 rfl) rfl ?_
        refine GoR.op rfl rfl (ld90 rfl f1 rfl) rfl ?_
        refine GoR.op rfl rfl rfl rfl ?_
        refine GoR.op rfl rfl rfl rfl ?_
        refine GoR.call rfl rfl (aOp_callFunc aFunc217 rfl) (e1 ▸ denies_ok marks Ms p hh _ hL (hs.ext x1) hmc) ?_ (by rintro _ _ ⟨q, _⟩; cases q)
        rintro _ h2 ⟨q, x2⟩
        cases q
        replace f1 := f1.ext x2
        refine ⟨_, rfl, ?_⟩
        refine GoR.op rfl rfl rfl rfl ?_
        refine GoR.op rfl rfl rfl rfl ?_
        refine GoR.op rfl rfl rfl rfl ?_
        refine GoR.op rfl rfl (fa206_3 rfl) rfl ?_
        refine GoR.op rfl rfl (ld3 rfl f1 rfl) rfl ?_
        refine GoR.op rfl rfl (aOp_eql rfl rfl (r := false) e2) rfl ?_
        refine GoR.op rfl rfl rfl rfl ?_
        refine GoR.op rfl rfl rfl rfl ?_
        refine GoR.op rfl rfl (fa206_1 rfl) rfl ?_
        refine GoR.op rfl rfl (ld3 rfl f1 rfl) rfl ?_
        refine GoR.op rfl rfl (fa206_2 rfl) rfl ?_
        refine GoR.op rfl rfl (ld3 rfl f1 rfl) rfl ?_
        refine GoR.call rfl rfl (aOp_callFunc aFunc75 rfl) (inside_ok _ _ _ e3 _) ?_ (by rintro _ _ ⟨q, _⟩; cases q)
        rintro _ h3 ⟨q, x3⟩
        cases q
        replace f1 := f1.ext x3
        refine ⟨_, rfl, ?_⟩
        refine GoR.op rfl rfl rfl rfl ?_
        refine GoR.op rfl rfl rfl rfl ?_
        refine GoR.op rfl rfl rfl rfl ?_
        refine GoR.op rfl rfl rfl rfl ?_
        refine GoR.end (Go.ret noJ_ok (ret_end (aResult_of Try.func223 rfl rfl) ⟨?_, ((x1).trans x2).trans x3⟩))
        rw [← hr]
        simp only [claimV, e1, e2, e3]
        rfl
end Go.Proofs.Ytidfcmjlfadieaa

namespace Go.Proofs.Ytidfcmjlfadieaa
open Go Go.AbsE
set_option maxRecDepth 100000
set_option linter.unusedVariables false
theorem zt40 : zeroT Try.prog 40 = some (.agg [.int .i64 0, .int .i64 0]) := by kernel_rfl
theorem zt146 : zeroT Try.prog 146 = some (.int .i64 0) := by kernel_rfl
theorem by146 : bytesT Try.prog 146 = some 8 := by kernel_rfl

def turnsV (l : LeaseV) (s : Int) : Int × Int := if s = 1 then (l.tl, l.th) else (l.fl, if l.th - 1 < l.fh then l.th - 1 else l.fh)
theorem turns_ok (l : LeaseV) (s : Int) (hi : inI64 (l.th - 1)) (h : AH) : Runs Try.prog 199 [.agg l.cells, .int .i64 s] h (fun en h' => en = .ret (.agg [.int .i64 (turnsV l s).1, .int .i64 (turnsV l s).2]) ∧ Ext h h') := by
  refine Runs.intro aFunc199 rfl rfl rfl rfl fun rest => ?_
  refine Go.seq noJ_ok (Go.region noJ_ok rfl ?_)
  refine GoR.box rfl rfl rfl rfl rfl rfl fun h1 x1 f1 => ?_
  refine GoR.alloc rfl rfl rfl zt40 rfl rfl fun h2 x2 f2 => ?_
  replace f1 := f1.ext x2
  refine GoR.end (Go.seq noJ_ok (Go.seq noJ_ok (Go.region noJ_ok rfl ?_)))
  by_cases e : s = 1
  · refine GoR.op rfl rfl rfl rfl ?_
    refine GoR.op rfl rfl (aOp_eql rfl rfl (r := true) (by simp [e])) rfl ?_
    refine GoR.end (Go.cond noJ_ok (b := true) rfl (Go.seq noJ_ok (Go.region noJ_ok rfl ?_)))
    refine GoR.op rfl rfl (fa195_2 rfl) rfl ?_
    refine GoR.op rfl rfl (ld40 rfl f1 rfl) rfl ?_
    refine GoR.store rfl rfl rfl rfl rfl rfl f2 rfl sz40 rfl rfl rfl fun h3 u3 => ?_
    refine GoR.end (Go.ret noJ_ok (ret_end (aResult_of Try.func199 rfl (aResults_cell rfl (u3.has f2) (inCells_agg ag40 sz40 rfl))) ⟨?_, (x1.trans x2).upd u3 x1.1⟩))
    simp only [turnsV, if_pos e]
    rfl
  · refine GoR.op rfl rfl rfl rfl ?_
    refine GoR.op rfl rfl (aOp_eql rfl rfl (r := false) (by simp [e])) rfl ?_
    refine GoR.end (Go.cond noJ_ok (b := false) rfl (Go.code noJ_ok (Go.seq noJ_ok (Go.region noJ_ok rfl ?_))))
    refine GoR.op rfl rfl (fa195_1 rfl) rfl ?_
    refine GoR.op rfl rfl (fa40_0 rfl) rfl ?_
    refine GoR.op rfl rfl (ld3 rfl f1 rfl) rfl ?_
    refine GoR.op rfl rfl (fa195_1 rfl) rfl ?_
    refine GoR.op rfl rfl (fa40_1 rfl) rfl ?_
    refine GoR.op rfl rfl (ld3 rfl f1 rfl) rfl ?_
    refine GoR.op rfl rfl (fa195_2 rfl) rfl ?_
    refine GoR.op rfl rfl (fa40_1 rfl) rfl ?_
    refine GoR.op rfl rfl (ld3 rfl f1 rfl) rfl ?_
    refine GoR.op rfl rfl (aOp_sub rfl rfl hi rfl) rfl ?_
    refine GoR.op rfl rfl (aOp_min2 rfl rfl rfl) rfl ?_
    refine GoR.op rfl rfl (aOp_build zt40 Try.underlying40 rfl rfl rfl) rfl ?_
    refine GoR.store rfl rfl rfl rfl rfl rfl f2 rfl sz40 rfl rfl rfl fun h3 u3 => ?_
    refine GoR.end (Go.ret noJ_ok (ret_end (aResult_of Try.func199 rfl (aResults_cell rfl (u3.has f2) (inCells_agg ag40 sz40 rfl))) ⟨?_, (x1.trans x2).upd u3 x1.1⟩))
    simp only [turnsV, if_neg e]
    rfl

def pastV (l : LeaseV) (line s : Int) : List Int := if s = 2 then [2] else (if line < (turnsV l s).2 then [s] else []) ++ (if (turnsV l s).1 ≤ line ∧ line ≤ (turnsV l s).2 then [s + 1] else [])
def one1 (x : Int) : List AVal := [.int .i64 x]
theorem past_ok (l : LeaseV) (line s : Int) (hi : inI64 (l.th - 1)) (hs1 : inI64 (s + 1)) (h : AH) : Runs Try.prog 183 [.agg l.cells, .int .i64 line, .int .i64 s] h (fun en h' => ∃ v, en = .ret v ∧ Ext h h' ∧ FreshS h.next h' 1 v ((pastV l line s).map one1)) := by
  refine Runs.intro aFunc183 rfl rfl rfl rfl fun rest => ?_
  refine Go.seq noJ_ok (Go.region noJ_ok rfl ?_)
  refine GoR.box rfl rfl rfl rfl rfl rfl fun h1 x1 f1 => ?_
  refine GoR.op rfl rfl rfl rfl ?_
  refine GoR.end (Go.seq noJ_ok (Go.seq noJ_ok (Go.region noJ_ok rfl ?_)))
  by_cases e : s = 2
  · refine GoR.op rfl rfl rfl rfl ?_
    refine GoR.op rfl rfl (aOp_eql rfl rfl (r := true) (by simp [e])) rfl ?_
    refine GoR.end (Go.cond noJ_ok (b := true) rfl (Go.seq noJ_ok (Go.region noJ_ok rfl ?_)))
    refine GoR.build1 rfl rfl rfl Try.underlying234 sz146 zt146 rfl rfl rfl rfl rfl rfl fun h5 x5 f5 => ?_
    refine GoR.op rfl rfl rfl rfl ?_
    refine GoR.end (Go.ret noJ_ok (ret_end (aResult_of Try.func183 rfl rfl) ⟨_, rfl, x1.trans x5, ?_⟩))
    have hp : pastV l line s = [2] := by unfold pastV; rw [if_pos e]
    rw [hp]
    intro h6 n6 e6
    refine SliceOf.mk' rfl rfl (f5.fresh x1.1 n6 e6) rfl ?_
    intro i l q
    cases i with
    | zero => cases q; rfl
    | succ i => simp at q
  · refine GoR.op rfl rfl rfl rfl ?_
    refine GoR.op rfl rfl (aOp_eql rfl rfl (r := false) (by simp [e])) rfl ?_
    refine GoR.end (Go.cond noJ_ok (b := false) rfl (Go.code noJ_ok (Go.seq noJ_ok (Go.region noJ_ok rfl ?_))))
    refine GoR.op rfl rfl (ld195 rfl f1 rfl) rfl ?_
    refine GoR.op rfl rfl rfl rfl ?_
    refine GoR.call rfl rfl (aOp_callFunc aFunc199 rfl) (turns_ok l s hi _) ?_ (by rintro _ _ ⟨q, _⟩; cases q)
    rintro _ h2 ⟨q, x2⟩
    cases q
    refine ⟨_, rfl, ?_⟩
    refine GoR.alloc rfl rfl rfl zt40 rfl rfl fun h3 x3 f3 => ?_
    refine GoR.store rfl rfl rfl rfl rfl rfl f3 rfl sz40 rfl rfl rfl fun h4 u4 => ?_
    have x4 : Ext h h4 := (x1.trans x2).trans (x3.upd u4 (Nat.le_refl _))
    have f4 := u4.has f3
    generalize hlo : (turnsV l s).1 = lo at f4
    generalize hhi : (turnsV l s).2 = hi at f4
    refine GoR.end (Go.seq noJ_ok (Go.region noJ_ok rfl ?_))
    refine GoR.op rfl rfl rfl rfl ?_
    refine GoR.end (Go.seq noJ_ok (Go.seq noJ_ok (Go.region noJ_ok rfl ?_)))
    have hpast : pastV l line s = (if line < hi then [s] else []) ++ (if lo ≤ line ∧ line ≤ hi then [s + 1] else []) := by unfold pastV; rw [if_neg e, hlo, hhi]
    rw [hpast]
    cases c2 : decide (line < hi) with
    | true =>
      cases c3 : decide (lo ≤ line ∧ line ≤ hi) with
      | true =>
        refine GoR.op rfl rfl rfl rfl ?_
        refine GoR.op rfl rfl (fa40_1 rfl) rfl ?_
        refine GoR.op rfl rfl (ld3 rfl f4 rfl) rfl ?_
        refine GoR.op rfl rfl (aOp_lss rfl rfl (r := true) c2) rfl ?_
        refine GoR.end (Go.cond noJ_ok (b := true) rfl (Go.region noJ_ok rfl ?_))
        refine GoR.op rfl rfl rfl rfl ?_
        refine GoR.op rfl rfl rfl rfl ?_
        refine GoR.build1 rfl rfl rfl Try.underlying234 sz146 zt146 rfl rfl rfl rfl rfl rfl fun h6 x6 f6 => ?_
        have y6 : Ext h4 h6 := (Ext.refl h4).trans x6
        refine GoR.append1 (h0 := h4) (s := .nilslice) (n := 0) (cs := []) rfl rfl rfl Try.underlying234 Try.underlying234 sz146 by146 zt146 rfl rfl rfl rfl f6 rfl rfl (⟨rfl, .inl ⟨rfl, rfl⟩⟩) (by omega) y6 rfl rfl fun s6 h7 y7 g7 => ?_
        refine GoR.op rfl rfl rfl rfl ?_
        refine GoR.end ?_
        refine Go.seq noJ_ok (Go.seq noJ_ok (Go.region noJ_ok rfl ?_))
        refine GoR.op rfl rfl rfl rfl ?_
        refine GoR.op rfl rfl (fa40_0 rfl) rfl ?_
        refine GoR.op rfl rfl (ld3 rfl (f4.ext y7) rfl) rfl ?_
        refine GoR.op rfl rfl (fa40_1 rfl) rfl ?_
        refine GoR.op rfl rfl (ld3 rfl (f4.ext y7) rfl) rfl ?_
        refine GoR.call rfl rfl (aOp_callFunc aFunc75 rfl) (inside_ok _ _ _ c3 _) ?_ (by rintro _ _ ⟨q, _⟩; cases q)
        rintro _ h8 ⟨q, x8⟩
        cases q
        have y8 : Ext h4 h8 := y7.trans x8
        refine ⟨_, rfl, ?_⟩
        refine GoR.end (Go.cond noJ_ok (b := true) rfl (Go.region noJ_ok rfl ?_))
        refine GoR.op rfl rfl rfl rfl ?_
        refine GoR.op rfl rfl rfl rfl ?_
        refine GoR.op rfl rfl (aOp_add rfl rfl hs1 rfl) rfl ?_
        refine GoR.build1 rfl rfl rfl Try.underlying234 sz146 zt146 rfl rfl rfl rfl rfl rfl fun h10 x10 f10 => ?_
        have y10 : Ext h4 h10 := y8.trans x10
        refine GoR.append1 (h0 := h4) (s := s6) (n := 1) (cs := [.int .i64 s]) rfl rfl rfl Try.underlying234 Try.underlying234 sz146 by146 zt146 rfl rfl rfl rfl f10 rfl rfl ((g7.ext x8).ext x10) (by omega) y10 rfl rfl fun s10 h11 y11 g11 => ?_
        refine GoR.op rfl rfl rfl rfl ?_
        refine GoR.end ?_
        refine Go.seq noJ_ok (Go.region noJ_ok rfl ?_)
        refine GoR.op rfl rfl rfl rfl ?_
        refine GoR.op rfl rfl rfl rfl ?_
        refine GoR.end (Go.ret noJ_ok (ret_end (aResult_of Try.func183 rfl rfl) ⟨_, rfl, x4.trans y11, ?_⟩))
        rw [if_pos (by simpa using c2), if_pos (by simpa using c3)]
        intro h6 n6 e6
        have hg := ((g11).fresh x4.1 n6 e6).sliceOf (L := [s, s + 1].map one1) (slice_flatten (sz := 1) (L := [s, s + 1].map one1) (by intro l hl; obtain ⟨_, _, rfl⟩ := List.mem_map.1 hl; rfl))
        exact hg
      | false =>
        refine GoR.op rfl rfl rfl rfl ?_
        refine GoR.op rfl rfl (fa40_1 rfl) rfl ?_
        refine GoR.op rfl rfl (ld3 rfl f4 rfl) rfl ?_
        refine GoR.op rfl rfl (aOp_lss rfl rfl (r := true) c2) rfl ?_
        refine GoR.end (Go.cond noJ_ok (b := true) rfl (Go.region noJ_ok rfl ?_))
        refine GoR.op rfl rfl rfl rfl ?_
        refine GoR.op rfl rfl rfl rfl ?_
        refine GoR.build1 rfl rfl rfl Try.underlying234 sz146 zt146 rfl rfl rfl rfl rfl rfl fun h6 x6 f6 => ?_
        have y6 : Ext h4 h6 := (Ext.refl h4).trans x6
        refine GoR.append1 (h0 := h4) (s := .nilslice) (n := 0) (cs := []) rfl rfl rfl Try.underlying234 Try.underlying234 sz146 by146 zt146 rfl rfl rfl rfl f6 rfl rfl (⟨rfl, .inl ⟨rfl, rfl⟩⟩) (by omega) y6 rfl rfl fun s6 h7 y7 g7 => ?_
        refine GoR.op rfl rfl rfl rfl ?_
        refine GoR.end ?_
        refine Go.seq noJ_ok (Go.seq noJ_ok (Go.region noJ_ok rfl ?_))
        refine GoR.op rfl rfl rfl rfl ?_
        refine GoR.op rfl rfl (fa40_0 rfl) rfl ?_
        refine GoR.op rfl rfl (ld3 rfl (f4.ext y7) rfl) rfl ?_
        refine GoR.op rfl rfl (fa40_1 rfl) rfl ?_
        refine GoR.op rfl rfl (ld3 rfl (f4.ext y7) rfl) rfl ?_
        refine GoR.call rfl rfl (aOp_callFunc aFunc75 rfl) (inside_ok _ _ _ c3 _) ?_ (by rintro _ _ ⟨q, _⟩; cases q)
        rintro _ h8 ⟨q, x8⟩
        cases q
        have y8 : Ext h4 h8 := y7.trans x8
        refine ⟨_, rfl, ?_⟩
        refine GoR.end (Go.cond noJ_ok (b := false) rfl (Go.code noJ_ok ?_))
        refine Go.seq noJ_ok (Go.region noJ_ok rfl ?_)
        refine GoR.op rfl rfl rfl rfl ?_
        refine GoR.op rfl rfl rfl rfl ?_
        refine GoR.end (Go.ret noJ_ok (ret_end (aResult_of Try.func183 rfl rfl) ⟨_, rfl, x4.trans y8, ?_⟩))
        rw [if_pos (by simpa using c2), if_neg (by simpa using c3)]
        intro h6 n6 e6
        have hg := (((g7.ext x8)).fresh x4.1 n6 e6).sliceOf (L := [s].map one1) (slice_flatten (sz := 1) (L := [s].map one1) (by intro l hl; obtain ⟨_, _, rfl⟩ := List.mem_map.1 hl; rfl))
        exact hg
    | false =>
      cases c3 : decide (lo ≤ line ∧ line ≤ hi) with
      | true =>
        refine GoR.op rfl rfl rfl rfl ?_
        refine GoR.op rfl rfl (fa40_1 rfl) rfl ?_
        refine GoR.op rfl rfl (ld3 rfl f4 rfl) rfl ?_
        refine GoR.op rfl rfl (aOp_lss rfl rfl (r := false) c2) rfl ?_
        refine GoR.end (Go.cond noJ_ok (b := false) rfl (Go.code noJ_ok ?_))
        refine Go.seq noJ_ok (Go.seq noJ_ok (Go.region noJ_ok rfl ?_))
        refine GoR.op rfl rfl rfl rfl ?_
        refine GoR.op rfl rfl (fa40_0 rfl) rfl ?_
        refine GoR.op rfl rfl (ld3 rfl (f4.ext (Ext.refl h4)) rfl) rfl ?_
        refine GoR.op rfl rfl (fa40_1 rfl) rfl ?_
        refine GoR.op rfl rfl (ld3 rfl (f4.ext (Ext.refl h4)) rfl) rfl ?_
        refine GoR.call rfl rfl (aOp_callFunc aFunc75 rfl) (inside_ok _ _ _ c3 _) ?_ (by rintro _ _ ⟨q, _⟩; cases q)
        rintro _ h8 ⟨q, x8⟩
        cases q
        have y8 : Ext h4 h8 := (Ext.refl h4).trans x8
        refine ⟨_, rfl, ?_⟩
        refine GoR.end (Go.cond noJ_ok (b := true) rfl (Go.region noJ_ok rfl ?_))
        refine GoR.op rfl rfl rfl rfl ?_
        refine GoR.op rfl rfl rfl rfl ?_
        refine GoR.op rfl rfl (aOp_add rfl rfl hs1 rfl) rfl ?_
        refine GoR.build1 rfl rfl rfl Try.underlying234 sz146 zt146 rfl rfl rfl rfl rfl rfl fun h10 x10 f10 => ?_
        have y10 : Ext h4 h10 := y8.trans x10
        refine GoR.append1 (h0 := h4) (s := .nilslice) (n := 0) (cs := []) rfl rfl rfl Try.underlying234 Try.underlying234 sz146 by146 zt146 rfl rfl rfl rfl f10 rfl rfl (⟨rfl, .inl ⟨rfl, rfl⟩⟩) (by omega) y10 rfl rfl fun s10 h11 y11 g11 => ?_
        refine GoR.op rfl rfl rfl rfl ?_
        refine GoR.end ?_
        refine Go.seq noJ_ok (Go.region noJ_ok rfl ?_)
        refine GoR.op rfl rfl rfl rfl ?_
        refine GoR.op rfl rfl rfl rfl ?_
        refine GoR.end (Go.ret noJ_ok (ret_end (aResult_of Try.func183 rfl rfl) ⟨_, rfl, x4.trans y11, ?_⟩))
        rw [if_neg (by simpa using c2), if_pos (by simpa using c3)]
        intro h6 n6 e6
        have hg := ((g11).fresh x4.1 n6 e6).sliceOf (L := [s + 1].map one1) (slice_flatten (sz := 1) (L := [s + 1].map one1) (by intro l hl; obtain ⟨_, _, rfl⟩ := List.mem_map.1 hl; rfl))
        exact hg
      | false =>
        refine GoR.op rfl rfl rfl rfl ?_
        refine GoR.op rfl rfl (fa40_1 rfl) rfl ?_
        refine GoR.op rfl rfl (ld3 rfl f4 rfl) rfl ?_
        refine GoR.op rfl rfl (aOp_lss rfl rfl (r := false) c2) rfl ?_
        refine GoR.end (Go.cond noJ_ok (b := false) rfl (Go.code noJ_ok ?_))
        refine Go.seq noJ_ok (Go.seq noJ_ok (Go.region noJ_ok rfl ?_))
        refine GoR.op rfl rfl rfl rfl ?_
        refine GoR.op rfl rfl (fa40_0 rfl) rfl ?_
        refine GoR.op rfl rfl (ld3 rfl (f4.ext (Ext.refl h4)) rfl) rfl ?_
        refine GoR.op rfl rfl (fa40_1 rfl) rfl ?_
        refine GoR.op rfl rfl (ld3 rfl (f4.ext (Ext.refl h4)) rfl) rfl ?_
        refine GoR.call rfl rfl (aOp_callFunc aFunc75 rfl) (inside_ok _ _ _ c3 _) ?_ (by rintro _ _ ⟨q, _⟩; cases q)
        rintro _ h8 ⟨q, x8⟩
        cases q
        have y8 : Ext h4 h8 := (Ext.refl h4).trans x8
        refine ⟨_, rfl, ?_⟩
        refine GoR.end (Go.cond noJ_ok (b := false) rfl (Go.code noJ_ok ?_))
        refine Go.seq noJ_ok (Go.region noJ_ok rfl ?_)
        refine GoR.op rfl rfl rfl rfl ?_
        refine GoR.op rfl rfl rfl rfl ?_
        refine GoR.end (Go.ret noJ_ok (ret_end (aResult_of Try.func183 rfl rfl) ⟨_, rfl, x4.trans y8, ?_⟩))
        rw [if_neg (by simpa using c2), if_neg (by simpa using c3)]
        intro h6 n6 e6
        exact .nil
end Go.Proofs.Ytidfcmjlfadieaa

namespace Go.Proofs.Ytidfcmjlfadieaa
open Go Go.AbsE
set_option maxRecDepth 100000
set_option linter.unusedVariables false
def I64 (x : Int) : AVal := .int .i64 x
def ownerV (nb : Int) (Ls : List LeaseV) (st : List Int) : Int := (Ls.zip st).foldl (fun acc x => if x.2 = 1 then x.1.o else acc) nb
theorem zip_take_succ {α β : Type} : ∀ {l : List α} {m : List β} {i : Nat} {a : α} {b : β}, l[i]? = some a → m[i]? = some b → (l.take (i + 1)).zip m = (l.take i).zip m ++ [(a, b)] := by
  intro l
  induction l with
  | nil => intro m i a b h; simp at h
  | cons x l ih =>
    intro m i a b h1 h2
    cases m with
    | nil => simp at h2
    | cons y m =>
      cases i with
      | zero => simp at h1 h2; subst h1 h2; simp
      | succ i =>
        simp at h1 h2
        simp only [List.take_succ_cons, List.zip_cons_cons, ih h1 h2, List.cons_append]
theorem ownerV_succ {nb : Int} {Ls : List LeaseV} {st : List Int} {i : Nat} {l : LeaseV} {x : Int} (h1 : Ls[i]? = some l) (h2 : st[i]? = some x) : ownerV nb (Ls.take (i + 1)) st = if x = 1 then l.o else ownerV nb (Ls.take i) st := by
  unfold ownerV
  rw [zip_take_succ h1 h2, List.foldl_append]
  rfl

theorem slice_first {cs l : List AVal} {a : AVal} {off n : Nat} (h : slice? cs off n = some (a :: l)) : cs[off]? = some a := by
  unfold slice? at h
  dsimp only at h
  cases hq : Nat.beq ((cs.drop off).take n).length n with
  | false => rw [hq] at h; cases h
  | true =>
    rw [hq] at h
    have h := Option.some.inj h
    have : ((cs.drop off).take n)[0]? = some a := by rw [h]; rfl
    rw [List.getElem?_take] at this
    split at this
    · rw [List.getElem?_drop] at this; exact this
    · cases this

theorem owner_ok (np nb ln : Int) (s m : AVal) (Ls : List LeaseV) (st : List Int) (hst : st.length = 4) (hL : Ls.length ≤ 4) (h : AH) (hs : SliceOf h 5 s (Ls.map LeaseV.cells)) :
    Runs Try.prog 167 [.agg [.int .i64 np, .int .i64 nb, s, m], .agg (.int .i64 ln :: st.map I64)] h (fun en h' => en = .ret (.int .i64 (ownerV nb Ls st)) ∧ Ext h h') := by
  refine Runs.intro aFunc167 rfl rfl rfl rfl fun rest => ?_
  refine Go.seq noJ_ok (Go.region noJ_ok rfl ?_)
  refine GoR.box rfl rfl rfl rfl rfl rfl fun h1 x1 f1 => ?_
  refine GoR.box rfl rfl rfl rfl rfl rfl fun h2 x2 f2 => ?_
  replace f1 := f1.ext x2
  refine GoR.op rfl rfl rfl rfl ?_
  refine GoR.end (Go.seq noJ_ok (Go.seq noJ_ok (Go.region noJ_ok rfl ?_)))
  refine GoR.op rfl rfl (fa92_2 rfl) rfl ?_
  refine GoR.op rfl rfl (ld88 rfl f1 rfl) rfl ?_
  refine GoR.op rfl rfl (aOp_lenSlice Try.underlying88 rfl (hs.len)) rfl ?_
  rw [List.length_map]
  have h64 : inI64 ((Ls.length : Int) - 1) := by constructor <;> omega
  refine GoR.op rfl rfl (aOp_sub rfl rfl h64 rfl) rfl ?_
  refine GoR.op rfl rfl rfl rfl ?_
  refine GoR.end (Go.block noJ_ok ?_)
  refine Go.keep [(2, .ptr h.next 0), (3, .ptr h1.next 0), (5, .int .i64 ((Ls.length : Int) - 1))] ⟨rfl, rfl, rfl, trivial⟩ ?_
  refine Go.loopInv (fun n t h' => n ≤ Ls.length ∧ t = keepT [(2, .ptr h.next 0), (3, .ptr h1.next 0), (5, .int .i64 ((n : Int) - 1))] ∧ Ext h2 h' ∧ ownerV nb Ls st = ownerV nb (Ls.take n) st) (n := Ls.length) ⟨Nat.le_refl _, rfl, Ext.refl _, by rw [List.take_length]⟩ ?_
  rintro n t h3 ⟨hn, rfl, x3, ha⟩ again
  replace f1 := f1.ext x3
  replace f2 := f2.ext x3
  cases n with
  | zero =>
    refine Go.seq noJ_ok (Go.seq noJ_ok (Go.region noJ_ok rfl ?_))
    refine GoR.op rfl rfl rfl rfl ?_
    refine GoR.op rfl rfl (aOp_geq rfl rfl (r := false) (by simp)) rfl ?_
    refine GoR.end (Go.cond noJ_ok (b := false) rfl (Go.code noJ_ok ?_))
    refine Go.seq noJ_ok (Go.region noJ_ok rfl ?_)
    refine GoR.op rfl rfl (fa92_1 rfl) rfl ?_
    refine GoR.op rfl rfl (ld3 rfl f1 rfl) rfl ?_
    refine GoR.op rfl rfl rfl rfl ?_
    refine GoR.end (Go.ret noJ_ok (ret_end (aResult_of Try.func167 rfl rfl) ⟨?_, (x1.trans x2).trans x3⟩))
    rw [ha]
    rfl
  | succ n =>
    have hv : ((n + 1 : Nat) : Int) - 1 = ((n : Nat) : Int) := by omega
    rw [hv]
    obtain ⟨l, hl⟩ : ∃ l, Ls[n]? = some l := ⟨Ls[n], by simp⟩
    obtain ⟨x, hx⟩ : ∃ x, st[n]? = some x := ⟨st[n], by simp⟩
    have hl5 : (Ls.map LeaseV.cells)[n]? = some l.cells := by rw [List.getElem?_map, hl]; rfl
    have hx5 : (AVal.int .i64 ln :: st.map I64)[0 + 1 + n * 1]? = some (.int .i64 x) := by rw [Nat.zero_add, Nat.mul_one, Nat.add_comm, List.getElem?_cons_succ, List.getElem?_map, hx]; rfl
    obtain ⟨b, off, k1, k2⟩ := (hs.ext ((x1.trans x2).trans x3)).at hl5
    rw [List.length_map] at k1
    refine Go.seq noJ_ok (Go.seq noJ_ok (Go.region noJ_ok rfl ?_))
    refine GoR.op rfl rfl rfl rfl ?_
    refine GoR.op rfl rfl (aOp_geq rfl rfl (r := true) (by simp)) rfl ?_
    refine GoR.end (Go.cond noJ_ok (b := true) rfl (Go.code noJ_ok ?_))
    refine Go.seq noJ_ok (Go.block noJ_ok (Go.seq noJ_ok (Go.region noJ_ok rfl ?_)))
    refine GoR.op rfl rfl rfl rfl ?_
    refine GoR.op rfl rfl (fa149_1 rfl) rfl ?_
    refine GoR.op rfl rfl (aOp_indexAddrArr Try.underlying147 sz146 rfl rfl (Nat.ble_eq_true_of_le (by omega))) rfl ?_
    refine GoR.op rfl rfl (ld146 rfl f2 hx5) rfl ?_
    have hsucc := ownerV_succ (nb := nb) hl hx
    rw [← ha] at hsucc
    by_cases e : x = 1
    · refine GoR.op rfl rfl (aOp_eql rfl rfl (r := true) (by simp [e])) rfl ?_
      refine GoR.end (Go.cond noJ_ok (b := true) rfl (Go.seq noJ_ok (Go.region noJ_ok rfl ?_)))
      refine GoR.op rfl rfl (fa92_2 rfl) rfl ?_
      refine GoR.op rfl rfl (ld88 rfl f1 rfl) rfl ?_
      refine GoR.op rfl rfl rfl rfl ?_
      refine GoR.op rfl rfl (aOp_indexAddr Try.underlying88 sz195 rfl k1 rfl (Nat.ble_eq_true_of_le hn)) rfl ?_
      refine GoR.op rfl rfl (fa195_0 rfl) rfl ?_
      refine GoR.op rfl rfl (aOp_loadE1 (k := 0) ag3 rfl k2 rfl) rfl ?_
      refine GoR.op rfl rfl rfl rfl ?_
      refine GoR.end (Go.ret noJ_ok (ret_end (aResult_of Try.func167 rfl rfl) ⟨?_, (x1.trans x2).trans x3⟩))
      rw [hsucc, if_pos e]
      rfl
    · refine GoR.op rfl rfl (aOp_eql rfl rfl (r := false) (by simp [e])) rfl ?_
      refine GoR.end (Go.cond noJ_ok (b := false) rfl (Go.code noJ_ok ?_))
      refine Go.inBlock noJ_ok (Go.region noJ_ok rfl ?_)
      refine GoR.op rfl rfl rfl rfl ?_
      have h64 : inI64 ((n : Int) - 1) := by constructor <;> omega
      refine GoR.op rfl rfl (aOp_sub rfl rfl h64 rfl) rfl ?_
      refine GoR.op rfl rfl rfl rfl ?_
      refine GoR.end ?_
      refine Go.keep [(2, .ptr h.next 0), (3, .ptr h1.next 0), (5, .int .i64 ((n : Int) - 1))] ⟨rfl, rfl, rfl, trivial⟩ ?_
      exact again n _ _ (by omega) ⟨by omega, rfl, x3, by rw [hsucc, if_neg e]⟩
end Go.Proofs.Ytidfcmjlfadieaa

namespace Go.Proofs.Ytidfcmjlfadieaa
open Go Go.AbsE
set_option maxRecDepth 100000
set_option linter.unusedVariables false
theorem prog_cells {ln : Int} {st : List Int} (hst : st.length = 4) : slice? (AVal.int .i64 ln :: st.map I64) 0 5 = some (AVal.int .i64 ln :: st.map I64) := slice_all (by simp [hst])
def doneV (np ln : Int) : Bool := decide (np < ln)
theorem done_ok' (np nb ln : Int) (s m : AVal) (st : List Int) (hst : st.length = 4) (h : AH) : Runs Try.prog 123 [.agg [.int .i64 np, .int .i64 nb, s, m], .agg (.int .i64 ln :: st.map I64)] h (fun en h' => en = .ret (.bool (doneV np ln)) ∧ Ext h h') := by
  match st, hst with
  | [a, b, c, d], _ => exact done_ok np nb ln s m (I64 a) (I64 b) (I64 c) (I64 d) rfl h

theorem own_ok (np nb ln hd : Int) (s m : AVal) (Ls : List LeaseV) (st : List Int) (hst : st.length = 4) (hL : Ls.length ≤ 4) (h : AH) (hs : SliceOf h 5 s (Ls.map LeaseV.cells)) :
    Runs Try.prog 132 [.agg [.int .i64 np, .int .i64 nb, s, m], .agg (.int .i64 ln :: st.map I64), .int .i64 hd] h (fun en h' => en = .ret (.int .i64 (if doneV np ln = false ∧ ownerV nb Ls st = hd then 1 else 0)) ∧ Ext h h') := by
  refine Runs.intro aFunc132 rfl rfl rfl rfl fun rest => ?_
  refine Go.seq noJ_ok (Go.region noJ_ok rfl ?_)
  refine GoR.box rfl rfl rfl rfl rfl rfl fun h1 x1 f1 => ?_
  refine GoR.box rfl rfl rfl rfl rfl rfl fun h2 x2 f2 => ?_
  replace f1 := f1.ext x2
  refine GoR.op rfl rfl rfl rfl ?_
  refine GoR.end (Go.seq noJ_ok (Go.seq noJ_ok (Go.region noJ_ok rfl ?_)))
  cases e1 : doneV np ln with
  | true =>
    refine GoR.op rfl rfl (ld92 rfl f1 rfl) rfl ?_
    refine GoR.op rfl rfl (ld149 rfl f2 (prog_cells hst)) rfl ?_
    refine GoR.call rfl rfl (aOp_callFunc aFunc123 rfl) (e1 ▸ done_ok' np nb ln s m st hst _) ?_ (by rintro _ _ ⟨q, _⟩; cases q)
    rintro _ h3 ⟨q, x3⟩
    cases q
    replace f1 := f1.ext x3
    replace f2 := f2.ext x3
    refine ⟨_, rfl, ?_⟩
    refine GoR.op rfl rfl rfl rfl ?_
    refine GoR.op rfl rfl rfl rfl ?_
    refine GoR.skip rfl rfl rfl ?_
    refine GoR.skip rfl rfl rfl ?_
    refine GoR.skip rfl rfl rfl ?_
    refine GoR.skip rfl rfl rfl ?_
    refine GoR.skip rfl rfl rfl ?_
    refine GoR.op rfl rfl rfl rfl ?_
    refine GoR.end (Go.cond noJ_ok (b := false) rfl (Go.code noJ_ok (Go.seq noJ_ok (Go.region noJ_ok rfl ?_))))
    refine GoR.op rfl rfl rfl rfl ?_
    refine GoR.end (Go.ret noJ_ok (ret_end (aResult_of Try.func132 rfl rfl) ⟨?_, ((x1).trans x2).trans x3⟩))
    rw [if_neg (fun q => by cases q.1)]
    rfl
  | false =>
    cases e2 : decide (ownerV nb Ls st = hd) with
    | true =>
      refine GoR.op rfl rfl (ld92 rfl f1 rfl) rfl ?_
      refine GoR.op rfl rfl (ld149 rfl f2 (prog_cells hst)) rfl ?_
      refine GoR.call rfl rfl (aOp_callFunc aFunc123 rfl) (e1 ▸ done_ok' np nb ln s m st hst _) ?_ (by rintro _ _ ⟨q, _⟩; cases q)
      rintro _ h3 ⟨q, x3⟩
      cases q
      replace f1 := f1.ext x3
      replace f2 := f2.ext x3
      refine ⟨_, rfl, ?_⟩
      refine GoR.op rfl rfl rfl rfl ?_
      refine GoR.op rfl rfl rfl rfl ?_
      refine GoR.op rfl rfl (ld92 rfl f1 rfl) rfl ?_
      refine GoR.op rfl rfl (ld149 rfl f2 (prog_cells hst)) rfl ?_
      refine GoR.call rfl rfl (aOp_callFunc aFunc167 rfl) (owner_ok np nb ln s m Ls st hst hL _ (hs.ext (x1.trans (x2.trans x3)))) ?_ (by rintro _ _ ⟨q, _⟩; cases q)
      rintro _ h4 ⟨q, x4⟩
      cases q
      replace f1 := f1.ext x4
      replace f2 := f2.ext x4
      refine ⟨_, rfl, ?_⟩
      refine GoR.op rfl rfl rfl rfl ?_
      refine GoR.op rfl rfl (aOp_eql rfl rfl (r := true) e2) rfl ?_
      refine GoR.op rfl rfl rfl rfl ?_
      refine GoR.end (Go.cond noJ_ok (b := true) rfl (Go.seq noJ_ok (Go.region noJ_ok rfl ?_)))
      refine GoR.op rfl rfl rfl rfl ?_
      refine GoR.end (Go.ret noJ_ok (ret_end (aResult_of Try.func132 rfl rfl) ⟨?_, (((x1).trans x2).trans x3).trans x4⟩))
      rw [if_pos ⟨rfl, by simpa using e2⟩]
      rfl
    | false =>
      refine GoR.op rfl rfl (ld92 rfl f1 rfl) rfl ?_
      refine GoR.op rfl rfl (ld149 rfl f2 (prog_cells hst)) rfl ?_
      refine GoR.call rfl rfl (aOp_callFunc aFunc123 rfl) (e1 ▸ done_ok' np nb ln s m st hst _) ?_ (by rintro _ _ ⟨q, _⟩; cases q)
      rintro _ h3 ⟨q, x3⟩
      cases q
      replace f1 := f1.ext x3
      replace f2 := f2.ext x3
      refine ⟨_, rfl, ?_⟩
      refine GoR.op rfl rfl rfl rfl ?_
      refine GoR.op rfl rfl rfl rfl ?_
      refine GoR.op rfl rfl (ld92 rfl f1 rfl) rfl ?_
      refine GoR.op rfl rfl (ld149 rfl f2 (prog_cells hst)) rfl ?_
      refine GoR.call rfl rfl (aOp_callFunc aFunc167 rfl) (owner_ok np nb ln s m Ls st hst hL _ (hs.ext (x1.trans (x2.trans x3)))) ?_ (by rintro _ _ ⟨q, _⟩; cases q)
      rintro _ h4 ⟨q, x4⟩
      cases q
      replace f1 := f1.ext x4
      replace f2 := f2.ext x4
      refine ⟨_, rfl, ?_⟩
      refine GoR.op rfl rfl rfl rfl ?_
      refine GoR.op rfl rfl (aOp_eql rfl rfl (r := false) e2) rfl ?_
      refine GoR.op rfl rfl rfl rfl ?_
      refine GoR.end (Go.cond noJ_ok (b := false) rfl (Go.code noJ_ok (Go.seq noJ_ok (Go.region noJ_ok rfl ?_))))
      refine GoR.op rfl rfl rfl rfl ?_
      refine GoR.end (Go.ret noJ_ok (ret_end (aResult_of Try.func132 rfl rfl) ⟨?_, (((x1).trans x2).trans x3).trans x4⟩))
      rw [if_neg (fun q => by simp at e2; exact e2 q.2)]
      rfl

theorem sum_ok (s : AVal) (L : List Int) (h : AH) (hs : SliceOf h 1 s (L.map one1)) (hb : ∀ n, n ≤ L.length → inI64 ((L.take n).foldl (· + ·) 0)) (hL : L.length ≤ 1000) :
    Runs Try.prog 133 [s] h (fun en h' => en = .ret (.int .i64 (L.foldl (· + ·) 0)) ∧ Ext h h') := by
  refine Runs.intro aFunc133 rfl rfl rfl rfl fun rest => ?_
  refine Go.seq noJ_ok (Go.region noJ_ok rfl ?_)
  refine GoR.op rfl rfl rfl rfl ?_
  refine GoR.end (Go.seq noJ_ok (Go.region noJ_ok rfl ?_))
  refine GoR.op rfl rfl rfl rfl ?_
  refine GoR.end (Go.seq noJ_ok (Go.seq noJ_ok (Go.region noJ_ok rfl ?_)))
  refine GoR.op rfl rfl rfl rfl ?_
  refine GoR.op rfl rfl (aOp_lenSlice Try.underlying44 rfl hs.len) rfl ?_
  rw [List.length_map]
  refine GoR.op rfl rfl rfl rfl ?_
  refine GoR.end (Go.block noJ_ok ?_)
  refine Go.keep [(3, .int .i64 0), (6, s), (7, .int .i64 L.length), (8, .int .i64 0)] ⟨rfl, rfl, rfl, rfl, trivial⟩ ?_
  refine Go.loopInv (fun n t h' => ∃ i, n + i = L.length ∧ t = keepT [(3, .int .i64 ((L.take i).foldl (· + ·) 0)), (6, s), (7, .int .i64 L.length), (8, .int .i64 (Int.ofNat i))] ∧ Ext h h') (n := L.length) ⟨0, rfl, rfl, Ext.refl _⟩ ?_
  rintro n t h2 ⟨i, hn, rfl, x2⟩ again
  refine Go.seq noJ_ok (Go.region noJ_ok rfl ?_)
  by_cases hi : i < L.length
  · refine GoR.op rfl rfl (aOp_lss rfl rfl (r := true) (by simp; omega)) rfl ?_
    refine GoR.end (Go.seq noJ_ok (Go.cond noJ_ok rfl (Go.code noJ_ok ?_)))
    refine Go.seq noJ_ok (Go.block noJ_ok (Go.seq noJ_ok (Go.region noJ_ok rfl ?_)))
    obtain ⟨a, ha⟩ : ∃ a, L[i]? = some a := ⟨L[i], by simp [hi]⟩
    have hl : (L.map one1)[i]? = some (one1 a) := by rw [List.getElem?_map, ha]; rfl
    obtain ⟨b, off, k1, k2⟩ := (hs.ext x2).at hl
    rw [List.length_map] at k1
    refine GoR.op rfl rfl (aOp_indexAddr Try.underlying44 sz3 rfl k1 rfl (Nat.ble_eq_true_of_le hi)) rfl ?_
    refine GoR.op rfl rfl (aOp_loadE1 (k := 0) ag3 rfl k2 rfl) rfl ?_
    refine GoR.op rfl rfl rfl rfl ?_
    refine GoR.end (Go.region noJ_ok rfl ?_)
    have hsum : (L.take (i + 1)).foldl (· + ·) 0 = (L.take i).foldl (· + ·) 0 + a := by rw [List.take_add_one, ha]; simp [List.foldl_append]
    have h64 := hb (i + 1) hi
    rw [hsum] at h64
    refine GoR.op rfl rfl rfl rfl ?_
    refine GoR.op rfl rfl rfl rfl ?_
    refine GoR.op rfl rfl (aOp_add rfl rfl h64 rfl) rfl ?_
    refine GoR.op rfl rfl rfl rfl ?_
    refine GoR.end (Go.inBlock noJ_ok (Go.region noJ_ok rfl ?_))
    have hi64 : inI64 (Int.ofNat i + 1) := by constructor <;> simp <;> omega
    refine GoR.op rfl rfl (aOp_add rfl rfl hi64 rfl) rfl ?_
    refine GoR.op rfl rfl rfl rfl ?_
    refine GoR.end ?_
    refine Go.keep [(3, .int .i64 ((L.take i).foldl (· + ·) 0 + a)), (6, s), (7, .int .i64 L.length), (8, .int .i64 (Int.ofNat i + 1))] ⟨rfl, rfl, rfl, rfl, trivial⟩ ?_
    exact again (n - 1) _ _ (by omega) ⟨i + 1, by omega, by rw [hsum]; rfl, x2⟩
  · refine GoR.op rfl rfl (aOp_lss rfl rfl (r := false) (by simp; omega)) rfl ?_
    refine GoR.end (Go.seq noJ_ok (Go.cond noJ_ok rfl (Go.code noJ_ok ?_)))
    refine Go.seq noJ_ok (Go.region noJ_ok rfl ?_)
    refine GoR.op rfl rfl rfl rfl ?_
    refine GoR.op rfl rfl rfl rfl ?_
    refine GoR.end (Go.ret noJ_ok (ret_end (aResult_of Try.func133 rfl rfl) ⟨?_, x2⟩))
    have : i = L.length := by omega
    subst this
    rw [List.take_length]
    rfl
end Go.Proofs.Ytidfcmjlfadieaa
