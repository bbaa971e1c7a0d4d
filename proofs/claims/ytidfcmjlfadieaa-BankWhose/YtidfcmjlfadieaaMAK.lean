import Derived.Test.YtidfcmjlfadieaaMAJ
import Derived.Test.YtidfcmjlfadieaaMAG
namespace Go.Proofs.Ytidfcmjlfadieaa
open Go Go.AbsE
set_option maxRecDepth 100000
set_option linter.unusedVariables false
theorem sameAs_I64 : ∀ st : List Int, sameAs (st.map I64) (st.map I64) = true := by
  intro st
  induction st with
  | nil => rfl
  | cons a l ih => simp [sameAs, I64, sameA, eqI_eq, ih]
theorem progSame (ln : Int) (st : List Int) : sameA (.agg (.int .i64 ln :: st.map I64)) (.agg (.int .i64 ln :: st.map I64)) = true := by simp [sameA, sameAs, eqI_eq, sameAs_I64]
noncomputable def ops124 : Array Oper := ((drawnOps Try.f124)[0]?).getD #[]
theorem plan124 : plan ops124 = some (mkPlan ops124.toList [(0, 0, true, false), (1, 0, true, false), (2, 3, false, false), (3, 7, true, false), (4, 15, true, false), (5, 15, true, false), (6, 47, true, false), (7, 111, true, false), (8, 15, true, false), (9, 15, true, false), (11, 31, true, false), (12, 2079, true, false), (13, 6175, true, false), (10, 783, false, false), (14, 16383, false, false), (15, 32767, true, false), (16, 65535, true, false)]) := by kernel_rfl

/-- The name of the method that is called in some operations. -/
noncomputable def nameOf : List Oper → String
  | [] => default
  | o :: l => match o.op with
    | .call ⟨.invoke _ n, _, _⟩ => n
    | _ => nameOf l
noncomputable def rightName : String := nameOf ops124.toList
/-- What is asked, as a value: its method answers so. -/
def AsksFrom (av : AVal) (A : Int → Int → Bool) (h : AH) : Prop := (sameA av av = true ∧ nilCheckOk Try.prog (.func (.method rightName) [av] []) = true) ∧ ∀ p hd h', Ext h h' → ∃ F fF args, aFunc Try.prog F = some fF ∧ aInvokeIface Try.prog av rightName [.int .i64 p, .int .i64 hd] h' = some (.enter F args h') ∧ Runs Try.prog F args h' (fun en h'' => en = .ret (.bool (A p hd)) ∧ Ext h' h'')
theorem AsksFrom.ext {av : AVal} {A : Int → Int → Bool} {h h' : AH} (k : AsksFrom av A h) (e : Ext h h') : AsksFrom av A h' := ⟨k.1, fun p hd h2 e2 => k.2 p hd h2 (e.trans e2)⟩
def suitsV (np nb : Int) (Ls : List LeaseV) (A : Int → Int → Bool) (ln : Int) (st : List Int) : Bool := doneV np ln || A (ln - 1) (ownerV nb Ls st)

theorem sameA_bool (b : Bool) : sameA (.bool b) (.bool b) = true := by cases b <;> rfl
theorem suits_ok (np nb ln : Int) (s m av : AVal) (A : Int → Int → Bool) (Ls : List LeaseV) (st : List Int) (hst : st.length = 4) (hL : Ls.length ≤ 4) (hln : inI64 (ln - 1)) (h : AH) (hs : SliceOf h 5 s (Ls.map LeaseV.cells)) (hss : sameA s s = true) (hsm : sameA m m = true) (hA : AsksFrom av A h) {r : Bool} (hr : suitsV np nb Ls A ln st = r) :
    Runs Try.prog 124 [.agg [.int .i64 np, .int .i64 nb, s, m], .agg (.int .i64 ln :: st.map I64), av] h (fun en h' => en = .ret (.bool r) ∧ Ext h h') := by
  refine Runs.intro aFunc124 rfl rfl rfl rfl fun rest => ?_
  refine Go.seq noJ_ok (Go.region noJ_ok rfl ?_)
  refine GoR.box rfl rfl rfl rfl rfl rfl fun h1 x1 f1 => ?_
  refine GoR.box rfl rfl rfl rfl rfl rfl fun h2 x2 f2 => ?_
  replace f1 := f1.ext x2
  refine GoR.op rfl rfl rfl rfl ?_
  refine GoR.end (Go.seq noJ_ok (Go.drawn plan124 ?_))
  refine GoD.quiet rfl rfl (fun h' x => ld92 rfl (f1.ext x) rfl) (bankSame _ _ hss hsm) rfl ?_
  refine GoD.quiet rfl rfl (fun h' x => ld149 rfl (f2.ext x) (prog_cells hst)) (progSame _ _) rfl ?_
  refine GoD.call rfl rfl (aOp_callFunc aFunc123 rfl) (done_ok' np nb ln s m st hst _) ?_ (by rintro _ _ ⟨q, _⟩; cases q)
  rintro _ h3 ⟨q, x3⟩
  cases q
  replace f1 := f1.ext x3
  replace f2 := f2.ext x3
  refine ⟨x3, _, rfl, ?_⟩
  cases e1 : doneV np ln with
  | true =>
    refine GoD.quiet rfl rfl (fun h' x => rfl) rfl rfl ?_
    refine GoD.skip rfl rfl rfl ?_
    refine GoD.skip rfl rfl rfl ?_
    refine GoD.skip rfl rfl rfl ?_
    refine GoD.skip rfl rfl rfl ?_
    refine GoD.skip rfl rfl rfl ?_
    refine GoD.skip rfl rfl rfl ?_
    refine GoD.skip rfl rfl rfl ?_
    refine GoD.skip rfl rfl rfl ?_
    refine GoD.skip rfl rfl rfl ?_
    refine GoD.skip rfl rfl rfl ?_
    refine GoD.skip rfl rfl rfl ?_
    refine GoD.quiet rfl rfl (fun h' x => rfl) rfl rfl ?_
    refine GoD.quiet rfl rfl (fun h' x => rfl) rfl rfl ?_
    refine GoD.end rfl (Go.ret noJ_ok (ret_end (aResult_of Try.func124 rfl rfl) ⟨?_, (x1.trans x2).trans x3⟩))
    rw [← hr]
    unfold suitsV
    rw [e1]
    rfl
  | false =>
    refine GoD.quiet rfl rfl (fun h' x => rfl) rfl rfl ?_
    refine GoD.quiet rfl rfl (fun h' x => rfl) hA.1.1 rfl ?_
    refine GoD.quiet rfl rfl (fun h' x => fa149_0 rfl) (sameA_ptr _ _) rfl ?_
    refine GoD.quiet rfl rfl (fun h' x => ld3 rfl (f2.ext x) rfl) (sameA_int _ _) rfl ?_
    refine GoD.quiet rfl rfl (fun h' x => aOp_sub rfl rfl hln rfl) (sameA_int _ _) rfl ?_
    refine GoD.quiet rfl rfl (fun h' x => ld92 rfl (f1.ext x) rfl) (bankSame _ _ hss hsm) rfl ?_
    refine GoD.quiet rfl rfl (fun h' x => ld149 rfl (f2.ext x) (prog_cells hst)) (progSame _ _) rfl ?_
    refine GoD.quiet rfl rfl (fun h' x => rfl) (by simp [sameA, sameAs, hA.1.1]) rfl ?_
    refine GoD.quiet rfl rfl (fun h' x => aOp_nilCheck rfl hA.1.2) (by simp [sameA, sameAs, hA.1.1]) rfl ?_
    refine GoD.quiet rfl rfl (fun h' x => rfl) hA.1.1 rfl ?_
    refine GoD.call rfl rfl (aOp_callFunc aFunc167 rfl) (owner_ok np nb ln s m Ls st hst hL _ (hs.ext ((x1.trans x2).trans x3))) ?_ (by rintro _ _ ⟨q, _⟩; cases q)
    rintro _ h4 ⟨q, x4⟩
    cases q
    refine ⟨x4, _, rfl, ?_⟩
    have x14 := ((x1.trans x2).trans x3).trans x4
    obtain ⟨F, fF, args, k0, k1, k2⟩ := hA.2 (ln - 1) (ownerV nb Ls st) h4 x14
    refine GoD.call rfl rfl (aOp_invoke rfl rfl k1) k2 ?_ (by rintro _ _ ⟨q, _⟩; cases q)
    rintro _ h5 ⟨q, x5⟩
    cases q
    refine ⟨x5, _, rfl, ?_⟩
    refine GoD.quiet rfl rfl (fun h' x => rfl) (sameA_bool _) rfl ?_
    refine GoD.quiet rfl rfl (fun h' x => rfl) (sameA_bool _) rfl ?_
    refine GoD.end rfl (Go.ret noJ_ok (ret_end (aResult_of Try.func124 rfl rfl) ⟨?_, x14.trans x5⟩))
    rw [← hr]
    unfold suitsV
    rw [e1]
    rfl
end Go.Proofs.Ytidfcmjlfadieaa

namespace Go.Proofs.Ytidfcmjlfadieaa
open Go Go.AbsE
set_option maxRecDepth 100000
set_option linter.unusedVariables false
theorem meth90 (v : AVal) : aMethod Try.prog 8 90 v rightName = some (218, v) := by kernel_rfl
theorem meth206 (v : AVal) : aMethod Try.prog 8 206 v rightName = some (223, v) := by kernel_rfl
theorem asks_marked (marks : AVal) (Ms : List MarkV) (h : AH) (hL : Ms.length ≤ 100) (hs : SliceOf h 2 marks (Ms.map MarkV.cells)) (hmc : marks.cells = [marks]) (hsm : sameA marks marks = true) :
    AsksFrom (.iface 90 (.agg [marks])) (fun p hd => !Ms.any (denyV p hd)) h := by
  refine ⟨⟨?_, ?_⟩, fun p hd h' e => ⟨218, _, [.agg [marks], .int .i64 p, .int .i64 hd], aFunc218, ?_, right218_ok marks Ms p hd h' hL (hs.ext e) hmc rfl⟩⟩
  · simp [sameA, sameAs, hsm]
  · show (match aMethod Try.prog 8 90 (.agg [marks]) rightName with | some _ => true | none => false) = true
    rw [meth90]
  · show (match aMethod Try.prog 8 90 (.agg [marks]) rightName with | some (f, r) => aEnter Try.prog f (r :: [.int .i64 p, .int .i64 hd]) h' | none => none) = _
    rw [meth90]
    simp only [aEnter, aFunc218]
theorem asks_claimed (marks : AVal) (Ms : List MarkV) (a b o : Int) (h : AH) (hL : Ms.length ≤ 100) (hs : SliceOf h 2 marks (Ms.map MarkV.cells)) (hmc : marks.cells = [marks]) (hsm : sameA marks marks = true) :
    AsksFrom (.iface 206 (.agg [marks, .int .i64 a, .int .i64 b, .int .i64 o])) (fun p hd => !Ms.any (denyV p hd) && claimV a b o p hd) h := by
  refine ⟨⟨?_, ?_⟩, fun p hd h' e => ⟨223, _, [.agg [marks, .int .i64 a, .int .i64 b, .int .i64 o], .int .i64 p, .int .i64 hd], aFunc223, ?_, right223_ok marks Ms a b o p hd h' hL (hs.ext e) hmc rfl⟩⟩
  · simp [sameA, sameAs, hsm, eqI_eq]
  · show (match aMethod Try.prog 8 206 (.agg [marks, .int .i64 a, .int .i64 b, .int .i64 o]) rightName with | some _ => true | none => false) = true
    rw [meth206]
  · show (match aMethod Try.prog 8 206 (.agg [marks, .int .i64 a, .int .i64 b, .int .i64 o]) rightName with | some (f, r) => aEnter Try.prog f (r :: [.int .i64 p, .int .i64 hd]) h' | none => none) = _
    rw [meth206]
    simp only [aEnter, aFunc223]
end Go.Proofs.Ytidfcmjlfadieaa

namespace Go.Proofs.Ytidfcmjlfadieaa
open Go Go.AbsE
set_option maxRecDepth 100000
set_option linter.unusedVariables false
theorem splice_one {α : Type} : ∀ {l : List α} {k : Nat} {v : α}, k < l.length → splice l k [v] = some (l.set k v) := by
  intro l
  induction l with
  | nil => intro k v h; simp at h
  | cons a l ih =>
    intro k v h
    cases k with
    | zero => simp [splice]
    | succ k => simp only [splice, ih (k := k) (by simpa using h), List.set_cons_succ]
theorem zt111 : zeroT Try.prog 111 = some (.agg [.int .i64 0, .int .i64 0, .int .i64 0, .int .i64 0, .int .i64 0, .int .i64 0, .int .i64 0, .int .i64 0, .int .i64 0, .int .i64 0, .int .i64 0]) := by kernel_rfl
def stepV (own : Nat) (os w : List Int) (i : Nat) : List Int := match os[i]?, w[i + own]? with
  | some x, some y => if 0 < x then w.set (i + own) (y + x) else w
  | _, _ => w
def plusV (own : Nat) (os w : List Int) (n : Nat) : List Int := (List.range n).foldl (stepV own os) w
theorem plusV_succ {own : Nat} {os w : List Int} {n : Nat} : plusV own os w (n + 1) = stepV own os (plusV own os w n) n := by
  unfold plusV
  rw [List.range_succ, List.foldl_append]
  rfl
theorem stepV_len {own : Nat} {os w : List Int} {i : Nat} : (stepV own os w i).length = w.length := by
  unfold stepV
  split
  · split
    · simp
    · rfl
  · rfl
theorem plusV_len {own : Nat} {os w : List Int} : ∀ n, (plusV own os w n).length = w.length := by
  intro n
  induction n with
  | zero => rfl
  | succ n ih => rw [plusV_succ, stepV_len, ih]

theorem scal_I64 : ∀ l : List Int, scalars (l.map I64) = true := by
  intro l
  induction l with
  | nil => rfl
  | cons a l ih => exact ih

theorem plus_ok (w os : List Int) (own : Nat) (hw : w.length = 11) (ho : os.length = 11) (hown : own ≤ 1) (h : AH)
    (hb : ∀ i x, os[i]? = some x → 0 < x → i + own < 11 ∧ ∀ y, (plusV own os w i)[i + own]? = some y → inI64 (y + x)) :
    Runs Try.prog 131 [.agg (w.map I64), .agg (os.map I64), .int .i64 own] h (fun en h' => en = .ret (.agg ((plusV own os w 11).map I64)) ∧ Ext h h') := by
  refine Runs.intro aFunc131 rfl rfl rfl rfl fun rest => ?_
  refine Go.seq noJ_ok (Go.region noJ_ok rfl ?_)
  refine GoR.box rfl rfl rfl rfl rfl rfl fun h1 x1 f1 => ?_
  have hlt1 := f1.1
  refine GoR.box rfl rfl rfl rfl rfl rfl fun h2 x2 f2 => ?_
  refine GoR.alloc rfl rfl rfl zt111 rfl rfl fun h3 x3 f3 => ?_
  replace f1 := (f1.ext x2).ext x3
  replace f2 := f2.ext x3
  refine GoR.end (Go.seq noJ_ok (Go.seq noJ_ok (Go.region noJ_ok rfl ?_)))
  refine GoR.op rfl rfl (ld111 rfl f2 (slice_all (by simp [cells_agg, ho]))) rfl ?_
  refine GoR.op rfl rfl rfl rfl ?_
  refine GoR.end (Go.block noJ_ok ?_)
  refine Go.keep [(2, .int .i64 own), (3, .ptr h.next 0), (6, .ptr h2.next 0), (9, .agg (os.map I64)), (10, .int .i64 0)] ⟨rfl, rfl, rfl, rfl, rfl, trivial⟩ ?_
  refine Go.loopInv (fun n t h' => ∃ i, n + i = 11 ∧ t = keepT [(2, .int .i64 own), (3, .ptr h.next 0), (6, .ptr h2.next 0), (9, .agg (os.map I64)), (10, .int .i64 (Int.ofNat i))] ∧ Ext h h' ∧ h2.next < h'.next ∧ Has h' h.next (.cells .plain ((plusV own os w i).map I64) 111) ∧ Has h' h2.next (.cells .plain [.int .i64 0, .int .i64 0, .int .i64 0, .int .i64 0, .int .i64 0, .int .i64 0, .int .i64 0, .int .i64 0, .int .i64 0, .int .i64 0, .int .i64 0] 111)) (n := 11) ⟨0, rfl, rfl, (x1.trans x2).trans x3, f3.1, f1, f3⟩ ?_
  rintro n t h4 ⟨i, hn, rfl, x4, hlt, g1, g3⟩ again
  have hne : h.next ≠ h2.next := by have := x2.1; omega
  have hln := plusV_len (own := own) (os := os) (w := w) i
  refine Go.seq noJ_ok (Go.region noJ_ok rfl ?_)
  by_cases hi : i < 11
  · refine GoR.op rfl rfl (aOp_lss rfl rfl (r := true) (by simp; omega)) rfl ?_
    refine GoR.end (Go.seq noJ_ok (Go.cond noJ_ok rfl (Go.code noJ_ok ?_)))
    refine Go.seq noJ_ok (Go.block noJ_ok (Go.seq noJ_ok (Go.region noJ_ok rfl ?_)))
    obtain ⟨x, hx⟩ : ∃ x, os[i]? = some x := ⟨os[i], by simp⟩
    have hx5 : (os.map I64)[i * 1]? = some (.int .i64 x) := by rw [Nat.mul_one, List.getElem?_map, hx]; rfl
    refine GoR.op rfl rfl rfl rfl ?_
    refine GoR.op rfl rfl (aOp_indexArr Try.underlying111 sz3 rfl rfl (Nat.ble_eq_true_of_le hi) (partT_one ag3 hx5)) rfl ?_
    refine GoR.op rfl rfl rfl rfl ?_
    refine GoR.op rfl rfl rfl rfl ?_
    refine GoR.end (Go.seq noJ_ok (Go.region noJ_ok rfl ?_))
    refine GoR.op rfl rfl rfl rfl ?_
    have hi64 : inI64 (Int.ofNat i + 1) := by constructor <;> simp <;> omega
    by_cases e : 0 < x
    · refine GoR.op rfl rfl (aOp_gtr rfl rfl (r := true) (by simp [e])) rfl ?_
      refine GoR.end (Go.cond noJ_ok (b := true) rfl (Go.region noJ_ok rfl ?_))
      obtain ⟨q1, q2⟩ := hb i x hx e
      obtain ⟨y, hy⟩ : ∃ y, (plusV own os w i)[i + own]? = some y := ⟨(plusV own os w i)[i + own]'(by omega), by simp⟩
      have hy5 : ((plusV own os w i).map I64)[0 + (i + own) * 1]? = some (.int .i64 y) := by rw [Nat.zero_add, Nat.mul_one, List.getElem?_map, hy]; rfl
      have h64 : inI64 (Int.ofNat i + (own : Int)) := by constructor <;> simp <;> omega
      have hio : Int.ofNat i + (own : Int) = ((i + own : Nat) : Int) := by simp
      refine GoR.op rfl rfl rfl rfl ?_
      refine GoR.op rfl rfl rfl rfl ?_
      refine GoR.op rfl rfl (aOp_add rfl rfl h64 hio) rfl ?_
      refine GoR.op rfl rfl (aOp_indexAddrArr Try.underlying111 sz3 rfl rfl (Nat.ble_eq_true_of_le q1)) rfl ?_
      refine GoR.op rfl rfl (ld3 rfl g1 hy5) rfl ?_
      refine GoR.op rfl rfl rfl rfl ?_
      refine GoR.op rfl rfl (aOp_add rfl rfl (q2 y hy) rfl) rfl ?_
      refine GoR.op rfl rfl (aOp_indexAddrArr Try.underlying111 sz3 rfl rfl (Nat.ble_eq_true_of_le q1)) rfl ?_
      have hsp : splice ((plusV own os w i).map I64) (0 + (i + own) * 1) (AVal.int .i64 (y + x)).cells = some ((plusV own os w (i + 1)).map I64) := by
        rw [plusV_succ]
        unfold stepV
        rw [hx, hy]
        simp only [if_pos e, Nat.zero_add, Nat.mul_one]
        rw [List.map_set]
        exact splice_one (by rw [List.length_map, hln]; omega)
      refine GoR.store rfl rfl rfl rfl rfl rfl g1 rfl sz3 rfl rfl hsp fun h5 u5 => ?_
      refine GoR.end (Go.inBlock noJ_ok (Go.region noJ_ok rfl ?_))
      refine GoR.op rfl rfl (aOp_add rfl rfl hi64 rfl) rfl ?_
      refine GoR.op rfl rfl rfl rfl ?_
      refine GoR.end ?_
      refine Go.keep [(2, .int .i64 own), (3, .ptr h.next 0), (6, .ptr h2.next 0), (9, .agg (os.map I64)), (10, .int .i64 (Int.ofNat i + 1))] ⟨rfl, rfl, rfl, rfl, rfl, trivial⟩ ?_
      exact again (n - 1) _ _ (by omega) ⟨i + 1, by omega, rfl, x4.upd u5 (Nat.le_refl _), by rw [u5.1]; exact hlt, u5.has g1, g3.upd u5 (fun q => hne q.symm)⟩
    · refine GoR.op rfl rfl (aOp_gtr rfl rfl (r := false) (by simp; omega)) rfl ?_
      refine GoR.end (Go.cond noJ_ok (b := false) rfl (Go.code noJ_ok ?_))
      refine Go.inBlock noJ_ok (Go.region noJ_ok rfl ?_)
      have hst : plusV own os w (i + 1) = plusV own os w i := by
        rw [plusV_succ]
        unfold stepV
        rw [hx]
        split
        · rename_i q _
          cases q
          rw [if_neg e]
        · rfl
      refine GoR.op rfl rfl (aOp_add rfl rfl hi64 rfl) rfl ?_
      refine GoR.op rfl rfl rfl rfl ?_
      refine GoR.end ?_
      refine Go.keep [(2, .int .i64 own), (3, .ptr h.next 0), (6, .ptr h2.next 0), (9, .agg (os.map I64)), (10, .int .i64 (Int.ofNat i + 1))] ⟨rfl, rfl, rfl, rfl, rfl, trivial⟩ ?_
      exact again (n - 1) _ _ (by omega) ⟨i + 1, by omega, rfl, x4, hlt, by rw [hst]; exact g1, g3⟩
  · refine GoR.op rfl rfl (aOp_lss rfl rfl (r := false) (by simp; omega)) rfl ?_
    refine GoR.end (Go.seq noJ_ok (Go.cond noJ_ok rfl (Go.code noJ_ok ?_)))
    refine Go.seq noJ_ok (Go.region noJ_ok rfl ?_)
    have : i = 11 := by omega
    subst this
    refine GoR.op rfl rfl (ld111 rfl g1 (slice_all (by rw [List.length_map, hln, hw]))) rfl ?_
    refine GoR.store rfl rfl rfl rfl rfl rfl g3 rfl sz111 (by simp [cells_agg, hln, hw]) (scal_I64 _) (splice_all (by simp [cells_agg, hln, hw])) fun h5 u5 => ?_
    refine GoR.end (Go.ret noJ_ok (ret_end (aResult_of Try.func131 rfl (aResults_cell rfl (u5.has g3) (inCells_agg ag111 sz111 (slice_all (by simp [cells_agg, hln, hw]))))) ⟨rfl, x4.upd u5 (by have := x1.1; have := x2.1; omega)⟩))
end Go.Proofs.Ytidfcmjlfadieaa

namespace Go.Proofs.Ytidfcmjlfadieaa
open Go Go.AbsE
set_option maxRecDepth 100000
set_option linter.unusedVariables false

/-- moved hands out an iterator over a progress, by what a lease does. -/
theorem moved_ok (pc : List AVal) (i : Int) (past : AVal) (h : AH) : Runs Try.prog 182 [.agg pc, .int .i64 i, past] h (fun en h' => ∃ b3 b4 b5, h.next ≤ b3 ∧ h.next ≤ b4 ∧ h.next ≤ b5 ∧ en = .ret (.func (.func 198) [] [.ptr b5 0, .ptr b3 0, .ptr b4 0]) ∧ Ext h h' ∧ Has h' b3 (.cells .plain pc 149) ∧ Has h' b4 (.cells .plain [.int .i64 i] 3) ∧ Has h' b5 (.cells .plain past.cells 221)) := by
  refine Runs.intro aFunc182 rfl rfl rfl rfl fun rest => ?_
  refine Go.seq noJ_ok (Go.region noJ_ok rfl ?_)
  refine GoR.box rfl rfl rfl rfl rfl rfl fun h1 x1 f1 => ?_
  refine GoR.box rfl rfl rfl rfl rfl rfl fun h2 x2 f2 => ?_
  replace f1 := f1.ext x2
  refine GoR.box rfl rfl rfl rfl rfl rfl fun h3 x3 f3 => ?_
  replace f1 := f1.ext x3
  replace f2 := f2.ext x3
  refine GoR.op rfl rfl rfl rfl ?_
  refine GoR.end (Go.seq noJ_ok (Go.region noJ_ok rfl ?_))
  refine GoR.op rfl rfl rfl rfl ?_
  refine GoR.op rfl rfl rfl rfl ?_
  exact GoR.end (Go.ret noJ_ok (ret_end (aResult_of Try.func182 rfl rfl) ⟨_, _, _, Nat.le_refl _, x1.1, (x1.trans x2).1, rfl, (x1.trans x2).trans x3, f1, f2, f3⟩))

/-- next hands out an iterator over a progress. -/
theorem next_ok (gc pc : List AVal) (h : AH) : Runs Try.prog 122 [.agg gc, .agg pc] h (fun en h' => ∃ b2 b3, h.next ≤ b2 ∧ h.next ≤ b3 ∧ en = .ret (.func (.func 165) [] [.ptr b2 0, .ptr b3 0]) ∧ Ext h h' ∧ Has h' b2 (.cells .plain gc 92) ∧ Has h' b3 (.cells .plain pc 149)) := by
  refine Runs.intro aFunc122 rfl rfl rfl rfl fun rest => ?_
  refine Go.seq noJ_ok (Go.region noJ_ok rfl ?_)
  refine GoR.box rfl rfl rfl rfl rfl rfl fun h1 x1 f1 => ?_
  refine GoR.box rfl rfl rfl rfl rfl rfl fun h2 x2 f2 => ?_
  replace f1 := f1.ext x2
  refine GoR.op rfl rfl rfl rfl ?_
  refine GoR.end (Go.seq noJ_ok (Go.region noJ_ok rfl ?_))
  refine GoR.op rfl rfl rfl rfl ?_
  refine GoR.op rfl rfl rfl rfl ?_
  exact GoR.end (Go.ret noJ_ok (ret_end (aResult_of Try.func122 rfl rfl) ⟨_, _, Nat.le_refl _, x1.1, rfl, x1.trans x2, f1, f2⟩))
end Go.Proofs.Ytidfcmjlfadieaa

namespace Go.Proofs.Ytidfcmjlfadieaa
open Go Go.AbsE
set_option maxRecDepth 100000
set_option linter.unusedVariables false
theorem zt149 : zeroT Try.prog 149 = some (.agg [.int .i64 0, .int .i64 0, .int .i64 0, .int .i64 0, .int .i64 0]) := by kernel_rfl
noncomputable def ops198 : Array Oper := ((drawnOps Try.f198)[0]?).getD #[]
theorem plan198 : plan ops198 = some (mkPlan ops198.toList [(0, 0, true, false), (1, 0, true, false), (2, 2, true, false), (3, 0, true, false), (4, 0, true, false), (5, 24, true, false), (6, 56, true, false), (9, 0, true, false), (7, 127, false, false), (8, 255, true, false)]) := by kernel_rfl
theorem sameA_lease (l : LeaseV) : sameA (.func (.func 183) [.agg l.cells] []) (.func (.func 183) [.agg l.cells] []) = true := by simp [sameA, sameAs, LeaseV.cells, eqI_eq]

/-- The progresses that one lease makes of one. -/
def movesV (l : LeaseV) (ln : Int) (st : List Int) (i : Nat) (s : Int) : List (List AVal) := (pastV l ln s).map fun x => .int .i64 ln :: (st.set i x).map I64

theorem moved1_ok (y : AVal) (l : LeaseV) (ln : Int) (st : List Int) (i : Nat) (s : Int) (b3 b4 b5 : Nat) (F : Nat → Prop) (J E : Nat → AH → (Nat → Prop) → Prop) (h : AH) (hst : st.length = 4) (hs : st[i]? = some s) (hi64 : inI64 (l.th - 1)) (hs1 : inI64 (s + 1))
    (f5 : Has h b5 (.cells .plain [.func (.func 183) [.agg l.cells] []] 221)) (f3 : Has h b3 (.cells .plain (.int .i64 ln :: st.map I64) 149)) (f4 : Has h b4 (.cells .plain [.int .i64 i] 3))
    (n3 : ¬ F b3) (n4 : ¬ F b4) (hlen : (pastV l ln s).length ≤ 3) {base : Nat} (T : Takes Try.prog base y (movesV l ln st i s) J E) (hJ : J 0 h F) :
    Runs Try.prog 198 [y, .ptr b5 0, .ptr b3 0, .ptr b4 0] h (fun en h' => en = .ret (.tuple []) ∧ ExtF F h h' ∧ ∃ F', (∀ b, F' b → F b ∨ h.next ≤ b) ∧ (J (pastV l ln s).length h' F' ∨ ∃ k, k < (pastV l ln s).length ∧ E k h' F')) := by
  have hi4 : i < 4 := by
    have := (List.getElem?_eq_some_iff.1 hs).1
    omega
  have hs5 : (AVal.int .i64 ln :: st.map I64)[0 + 1 + i * 1]? = some (.int .i64 s) := by rw [Nat.zero_add, Nat.mul_one, Nat.add_comm, List.getElem?_cons_succ, List.getElem?_map, hs]; rfl
  refine Runs.intro aFunc198 rfl rfl rfl rfl fun rest => ?_
  refine Go.seq noJ_ok (Go.drawn plan198 ?_)
  refine GoD.quiet rfl rfl (fun h' x => ld221 rfl (f5.ext x) rfl) (sameA_lease l) rfl ?_
  refine GoD.quiet rfl rfl (fun h' x => fa149_0 rfl) (sameA_ptr _ _) rfl ?_
  refine GoD.quiet rfl rfl (fun h' x => ld3 rfl (f3.ext x) rfl) (sameA_int _ _) rfl ?_
  refine GoD.quiet rfl rfl (fun h' x => ld3 rfl (f4.ext x) rfl) (sameA_int _ _) rfl ?_
  refine GoD.quiet rfl rfl (fun h' x => fa149_1 rfl) (sameA_ptr _ _) rfl ?_
  refine GoD.quiet rfl rfl (fun h' x => aOp_indexAddrArr Try.underlying147 sz146 rfl rfl (Nat.ble_eq_true_of_le hi4)) (sameA_ptr _ _) rfl ?_
  refine GoD.quiet rfl rfl (fun h' x => ld146 rfl (f3.ext x) hs5) (sameA_int _ _) rfl ?_
  refine GoD.quiet rfl rfl (fun h' x => rfl) rfl rfl ?_
  refine GoD.call rfl rfl (aOp_callVal rfl aFunc183 rfl) (past_ok l ln s hi64 hs1 h) ?_ (by rintro _ _ ⟨_, q, _⟩; cases q)
  rintro _ h1 ⟨v, q, x1, g1⟩
  have q := (AEnd.ret.inj q).symm
  subst q
  refine ⟨x1, _, rfl, ?_⟩
  refine GoD.quiet rfl rfl (fun h' x => aOp_lenSlice Try.underlying234 rfl g1.self.len) (sameA_int _ _) rfl ?_
  rw [List.length_map]
  refine GoD.end rfl (Go.block noJ_ok ?_)
  refine Go.keep [(0, y), (2, .ptr b3 0), (3, .ptr b4 0), (15, v), (16, .int .i64 (pastV l ln s).length), (17, .int .i64 0)] ⟨rfl, rfl, rfl, rfl, rfl, rfl, trivial⟩ ?_
  refine Go.loopInv (fun n t h' => ∃ k F', n + k = (pastV l ln s).length ∧ t = keepT [(0, y), (2, .ptr b3 0), (3, .ptr b4 0), (15, v), (16, .int .i64 (pastV l ln s).length), (17, .int .i64 (Int.ofNat k))] ∧ ExtF F h1 h' ∧ (∀ b, F' b → F b ∨ h1.next ≤ b) ∧ J k h' F') (n := (pastV l ln s).length) ⟨0, F, rfl, rfl, .of (Ext.refl _), fun b hb => .inl hb, T.ext hJ x1⟩ ?_
  rintro n t h2 ⟨k, Fk, hn, rfl, x2, hF, hj⟩ again
  have l1 := x1.1
  have x02 : ExtF F h h2 := (ExtF.of x1).trans (fun x q => .inl q) x2
  have hF0 : ∀ b, Fk b → F b ∨ h.next ≤ b := fun b q => (hF b q).imp id (fun q => by omega)
  replace f3 := f3.extF x02 n3
  replace f4 := f4.extF x02 n4
  replace g1 := g1.on x2.1 fun b hb hb2 => x2.2 b hb2 fun q => absurd (T.ltJ hJ q) (by omega)
  refine Go.seq noJ_ok (Go.region noJ_ok rfl ?_)
  by_cases hk : k < (pastV l ln s).length
  · refine GoR.op rfl rfl (aOp_lss rfl rfl (r := true) (by simp; omega)) rfl ?_
    refine GoR.end (Go.seq noJ_ok (Go.cond noJ_ok rfl (Go.code noJ_ok ?_)))
    refine Go.seq noJ_ok (Go.block noJ_ok (Go.seq noJ_ok (Go.region noJ_ok rfl ?_)))
    obtain ⟨x, hx⟩ : ∃ x, (pastV l ln s)[k]? = some x := ⟨(pastV l ln s)[k], by simp [hk]⟩
    have hl : ((pastV l ln s).map one1)[k]? = some (one1 x) := by rw [List.getElem?_map, hx]; rfl
    have hit : (movesV l ln st i s)[k]? = some (.int .i64 ln :: (st.set i x).map I64) := by unfold movesV; rw [List.getElem?_map, hx]; rfl
    obtain ⟨b, off, k1, k2⟩ := g1.self.at hl
    rw [List.length_map] at k1
    refine GoR.op rfl rfl (aOp_indexAddr Try.underlying234 sz146 rfl k1 rfl (Nat.ble_eq_true_of_le hk)) rfl ?_
    refine GoR.op rfl rfl (aOp_loadE1 (k := 0) ag146 rfl k2 rfl) rfl ?_
    refine GoR.op rfl rfl rfl rfl ?_
    refine GoR.end (Go.seq noJ_ok (Go.region noJ_ok rfl ?_))
    refine GoR.op rfl rfl (ld149 rfl f3 (prog_cells hst)) rfl ?_
    refine GoR.alloc rfl rfl rfl zt149 rfl rfl fun h3 x3 f7 => ?_
    refine GoR.store rfl rfl rfl rfl rfl rfl f7 rfl sz149 (by simp [cells_agg, hst]) (scal_I64 (ln :: st)) (splice_all (by simp [cells_agg, hst])) fun h4 u4 => ?_
    have x4 : Ext h2 h4 := x3.upd u4 (Nat.le_refl _)
    have f7' := u4.has f7
    refine GoR.end (Go.seq noJ_ok (Go.region noJ_ok rfl ?_))
    refine GoR.op rfl rfl (ld3 rfl (f4.ext x4) rfl) rfl ?_
    refine GoR.op rfl rfl rfl rfl ?_
    refine GoR.op rfl rfl (fa149_1 rfl) rfl ?_
    refine GoR.op rfl rfl (aOp_indexAddrArr Try.underlying147 sz146 rfl rfl (Nat.ble_eq_true_of_le hi4)) rfl ?_
    have hsp : splice (AVal.int .i64 ln :: st.map I64) (0 + 1 + i * 1) (AVal.int .i64 x).cells = some (.int .i64 ln :: (st.set i x).map I64) := by
      have : (AVal.int .i64 ln :: (st.set i x).map I64) = (AVal.int .i64 ln :: st.map I64).set (0 + 1 + i * 1) (.int .i64 x) := by
        rw [Nat.zero_add, Nat.mul_one, Nat.add_comm, List.set_cons_succ, List.map_set]
        rfl
      rw [this]
      exact splice_one (by simp [hst]; omega)
    refine GoR.store rfl rfl rfl rfl rfl rfl f7' rfl sz146 rfl rfl hsp fun h5 u5 => ?_
    have x5 : Ext h2 h5 := x4.upd u5 (Nat.le_refl _)
    have f7'' := u5.has f7'
    refine GoR.end (Go.seq noJ_ok (Go.region noJ_ok rfl ?_))
    refine GoR.op rfl rfl rfl rfl ?_
    refine GoR.op rfl rfl (ld149 rfl f7'' (prog_cells (by simp [hst]))) rfl ?_
    have l5 := x5.1
    have l2 := x2.1
    obtain ⟨ax, a1, a2, a3⟩ := T.take hit (T.ext hj x5)
    refine GoR.does rfl rfl (aOp_callY rfl rfl a1) a2 a3 ?_ (by rintro _ _ ⟨_, _, _, ⟨q, _⟩ | ⟨q, _⟩⟩ <;> cases q)
    rintro w h6 ⟨x6, F6, hF6, ⟨q, hj6⟩ | ⟨q, he6⟩⟩
    · cases q
      refine ⟨_, rfl, ?_⟩
      refine GoR.op rfl rfl rfl rfl ?_
      refine GoR.end (Go.cond noJ_ok (b := false) rfl (Go.code noJ_ok ?_))
      refine Go.inBlock noJ_ok (Go.region noJ_ok rfl ?_)
      have hi64 : inI64 (Int.ofNat k + 1) := by constructor <;> simp <;> omega
      refine GoR.op rfl rfl (aOp_add rfl rfl hi64 rfl) rfl ?_
      refine GoR.op rfl rfl rfl rfl ?_
      refine GoR.end ?_
      refine Go.keep [(0, y), (2, .ptr b3 0), (3, .ptr b4 0), (15, v), (16, .int .i64 (pastV l ln s).length), (17, .int .i64 (Int.ofNat k + 1))] ⟨rfl, rfl, rfl, rfl, rfl, rfl, trivial⟩ ?_
      exact again (n - 1) _ _ (by omega) ⟨k + 1, F6, by omega, rfl, (x2.trans (fun x q => .inl q) (.of x5)).trans hF x6, fun b q => (hF6 b q).elim (hF b) (fun q => .inr (by omega)), hj6⟩
    · cases q
      refine ⟨_, rfl, ?_⟩
      refine GoR.op rfl rfl rfl rfl ?_
      refine GoR.end (Go.cond noJ_ok (b := true) rfl ?_)
      exact Go.ret noJ_ok (ret_end (aResult_of Try.func198 rfl rfl) ⟨rfl, (x02.trans (fun x q => .inl q) (.of x5)).trans hF0 x6, F6, fun b q => (hF6 b q).elim (hF0 b) (fun q => .inr (by omega)), .inr ⟨k, hk, he6⟩⟩)
  · refine GoR.op rfl rfl (aOp_lss rfl rfl (r := false) (by simp; omega)) rfl ?_
    refine GoR.end (Go.seq noJ_ok (Go.cond noJ_ok rfl (Go.code noJ_ok ?_)))
    have : k = (pastV l ln s).length := by omega
    subst this
    exact Go.endL (FLeft.ret (v := .tuple []) (aResult_of Try.func198 rfl rfl) ⟨rfl, x02, Fk, hF0, .inl hj⟩)
end Go.Proofs.Ytidfcmjlfadieaa

namespace Go.Proofs.Ytidfcmjlfadieaa
open Go Go.AbsE
set_option maxRecDepth 100000
set_option linter.unusedVariables false
theorem zt4 : zeroT Try.prog 4 = some (.bool false) := by kernel_rfl
/-- What is yielded when the leases from one on are taken past the line. -/
def passV : List LeaseV → Nat → Int → List Int → List (List AVal)
  | [], _, ln, st => [.int .i64 (ln + 1) :: st.map I64]
  | l :: rest, i, ln, st => match st[i]? with
    | some s => (pastV l ln s).flatMap fun x => passV rest (i + 1) ln (st.set i x)
    | none => []
/-- A slice that stays while only blocks of F change. -/
def KeepSl (F : Nat → Prop) (h : AH) (sz : Nat) (s : AVal) (L : List (List AVal)) : Prop := ∀ h', ExtF F h h' → SliceOf h' sz s L
def PassR (F : Nat → Prop) (J E : Nat → AH → (Nat → Prop) → Prop) (n : Nat) (h : AH) (en : AEnd) (h' : AH) : Prop := ExtF F h h' ∧ ∃ F', (∀ b, F' b → F b ∨ h.next ≤ b) ∧ ((en = .ret (.bool true) ∧ J n h' F') ∨ ∃ k, k < n ∧ en = .ret (.bool false) ∧ E k h' F')

/-- The leases are all past: one is yielded. -/
theorem pass_last (np nb ln : Int) (s m y : AVal) (Ls : List LeaseV) (st : List Int) (hst : st.length = 4) (hln : inI64 (ln + 1)) (F : Nat → Prop) (J E : Nat → AH → (Nat → Prop) → Prop) (h : AH)
    (hs : KeepSl F h 5 s (Ls.map LeaseV.cells)) (hyc : y.cells = [y]) {base : Nat} (hbase : base ≤ h.next) (T : Takes Try.prog base y [.int .i64 (ln + 1) :: st.map I64] J E) (hJ : J 0 h F) :
    Runs Try.prog 166 [.agg [.int .i64 np, .int .i64 nb, s, m], .agg (.int .i64 ln :: st.map I64), .int .i64 Ls.length, y] h (PassR F J E 1 h) := by
  refine Runs.intro aFunc166 rfl rfl rfl rfl fun rest => ?_
  refine Go.seq noJ_ok (Go.region noJ_ok rfl ?_)
  refine GoR.box rfl rfl rfl rfl rfl rfl fun h1 x1 f1 => ?_
  refine GoR.box rfl rfl rfl rfl rfl rfl fun h2 x2 f2 => ?_
  refine GoR.box rfl rfl rfl rfl rfl rfl fun h3 x3 f3 => ?_
  refine GoR.box rfl rfl rfl rfl rfl rfl fun h4 x4 f4 => ?_
  refine GoR.alloc rfl rfl rfl zt4 rfl rfl fun h5 x5 f5 => ?_
  have y1 := (((x1.trans x2).trans x3).trans x4).trans x5
  have l1 := f1.1
  have e2 := x2.1
  have e3 := x3.1
  have e4 := x4.1
  replace f1 := (((f1.ext x2).ext x3).ext x4).ext x5
  have l2 := f2.1
  replace f2 := ((f2.ext x3).ext x4).ext x5
  have l3 := f3.1
  replace f3 := (f3.ext x4).ext x5
  have l4 := f4.1
  replace f4 := f4.ext x5
  have hs5 := hs h5 (.of y1)
  refine GoR.end (Go.seq noJ_ok (Go.seq noJ_ok (Go.region noJ_ok rfl ?_)))
  refine GoR.op rfl rfl (ld3 rfl f3 rfl) rfl ?_
  refine GoR.op rfl rfl (fa92_2 rfl) rfl ?_
  refine GoR.op rfl rfl (ld88 rfl f1 rfl) rfl ?_
  refine GoR.op rfl rfl (aOp_lenSlice Try.underlying88 rfl hs5.len) rfl ?_
  rw [List.length_map]
  refine GoR.op rfl rfl (aOp_eql rfl rfl (r := true) (by simp)) rfl ?_
  refine GoR.end (Go.cond noJ_ok (b := true) rfl (Go.seq noJ_ok (Go.region noJ_ok rfl ?_)))
  refine GoR.op rfl rfl (fa149_0 rfl) rfl ?_
  refine GoR.op rfl rfl (ld3 rfl f2 rfl) rfl ?_
  refine GoR.op rfl rfl (aOp_add rfl rfl hln rfl) rfl ?_
  refine GoR.op rfl rfl (fa149_0 rfl) rfl ?_
  have hsp : splice (AVal.int .i64 ln :: st.map I64) (0 + 0) (AVal.int .i64 (ln + 1)).cells = some (.int .i64 (ln + 1) :: st.map I64) := splice_one (by simp)
  refine GoR.store rfl rfl rfl rfl rfl rfl f2 rfl sz3 rfl rfl hsp fun h6 u6 => ?_
  have y2 : Ext h h6 := y1.upd u6 (by omega)
  have f2' := u6.has f2
  replace f4 := f4.upd u6 (by omega)
  replace f5 := f5.upd u6 (by have := f4.1; omega)
  refine GoR.end (Go.seq noJ_ok (Go.region noJ_ok rfl ?_))
  refine GoR.op rfl rfl (ld154 rfl f4 (by rw [hyc]; rfl)) rfl ?_
  refine GoR.op rfl rfl (ld149 rfl f2' (prog_cells (ln := ln + 1) hst)) rfl ?_
  obtain ⟨ax, a1, a2, a3⟩ := T.take (k := 0) rfl (T.ext hJ y2)
  refine GoR.does rfl rfl (aOp_callY rfl rfl a1) a2 a3 ?_ (by rintro _ _ ⟨_, _, _, ⟨q, _⟩ | ⟨q, _⟩⟩ <;> cases q)
  have l0 := x1.1
  have l5 := f5.1
  rintro w h7 ⟨x7, F7, hF7, hw⟩
  have n8 : ¬ F h4.next := fun q => absurd (T.ltJ hJ q) (by omega)
  have m8 : ∀ b, F7 b → b ≠ h4.next := fun b q => (hF7 b q).elim (fun q e => n8 (e ▸ q)) (fun q => by omega)
  have f7 := f5.extF x7 n8
  have l6 := y2.1
  have hb : ∃ b, w = .bool b := by
    rcases hw with ⟨q, _⟩ | ⟨q, _⟩
    · exact ⟨true, AEnd.ret.inj q⟩
    · exact ⟨false, AEnd.ret.inj q⟩
  obtain ⟨b, rfl⟩ := hb
  refine ⟨_, rfl, ?_⟩
  refine GoR.store rfl rfl rfl rfl rfl rfl f7 rfl sz4 rfl rfl rfl fun h8 u8 => ?_
  refine GoR.end (Go.ret noJ_ok (ret_end (aResult_of Try.func166 rfl (aResults_cell rfl (u8.has f7) (inCells_one ag4 rfl))) ?_))
  have l7 := x7.1
  refine ⟨⟨by rw [u8.1]; omega, fun x hx hn => by rw [u8.2.2 x (by omega), x7.2 x (by omega) hn, y2.2 x hx]⟩, F7, fun x q => (hF7 x q).imp id (fun q => by omega), ?_⟩
  rcases hw with ⟨q, hj⟩ | ⟨q, he⟩
  · cases q
    exact .inl ⟨rfl, T.keepJ hj (by rw [u8.1]; exact Nat.le_refl _) fun x _ q => u8.2.2 x (q.elim (fun q => by omega) (m8 x))⟩
  · cases q
    exact .inr ⟨0, by omega, rfl, T.keepE he (by rw [u8.1]; exact Nat.le_refl _) fun x _ q => u8.2.2 x (q.elim (fun q => by omega) (m8 x))⟩
end Go.Proofs.Ytidfcmjlfadieaa

namespace Go.Proofs.Ytidfcmjlfadieaa
open Go Go.AbsE
set_option linter.unusedVariables false

/-! How many ways there are, as numbers. -/
abbrev Pr := Int × List Int
def prC (p : Pr) : List AVal := .int .i64 p.1 :: p.2.map I64
def passP : List LeaseV → Nat → Int → List Int → List Pr
  | [], _, ln, st => [(ln + 1, st)]
  | l :: rest, i, ln, st => match st[i]? with
    | some s => (pastV l ln s).flatMap fun x => passP rest (i + 1) ln (st.set i x)
    | none => []
theorem passV_eq : ∀ (Ls : List LeaseV) (i : Nat) (ln : Int) (st : List Int), passV Ls i ln st = (passP Ls i ln st).map prC := by
  intro Ls
  induction Ls with
  | nil => intro i ln st; rfl
  | cons l rest ih =>
    intro i ln st
    unfold passV passP
    cases st[i]? with
    | none => rfl
    | some s => simp only [List.map_flatMap, ih]

/-- Stages are such. -/
def OkSt (st : List Int) : Prop := st.length = 4 ∧ ∀ x, x ∈ st → 0 ≤ x ∧ x ≤ 2
theorem OkSt.get {st : List Int} (h : OkSt st) {i : Nat} {s : Int} (k : st[i]? = some s) : 0 ≤ s ∧ s ≤ 2 := h.2 s (List.mem_of_getElem? k)
theorem OkSt.set {st : List Int} (h : OkSt st) {i : Nat} {x : Int} (k : 0 ≤ x ∧ x ≤ 2) : OkSt (st.set i x) :=
  ⟨by rw [List.length_set]; exact h.1, fun y hy => (List.mem_or_eq_of_mem_set hy).elim (h.2 y) fun e => e ▸ k⟩
theorem pastV_ok {l : LeaseV} {ln s x : Int} (hs : 0 ≤ s ∧ s ≤ 2) (hx : x ∈ pastV l ln s) : 0 ≤ x ∧ x ≤ 2 := by
  unfold pastV at hx
  split at hx
  · simp at hx; omega
  · rw [List.mem_append] at hx
    rcases hx with hx | hx
    · split at hx
      · simp at hx; omega
      · simp at hx
    · split at hx
      · simp at hx; omega
      · simp at hx
theorem pastV_len {l : LeaseV} {ln s : Int} : (pastV l ln s).length ≤ 2 := by
  unfold pastV
  split
  · simp
  · rw [List.length_append]
    split <;> split <;> simp
theorem passP_mem : ∀ {Ls : List LeaseV} {i : Nat} {ln : Int} {st : List Int} {q : Pr}, OkSt st → q ∈ passP Ls i ln st → q.1 = ln + 1 ∧ OkSt q.2 := by
  intro Ls
  induction Ls with
  | nil => intro i ln st q h hq; simp [passP] at hq; subst hq; exact ⟨rfl, h⟩
  | cons l rest ih =>
    intro i ln st q h hq
    unfold passP at hq
    cases hs : st[i]? with
    | none => rw [hs] at hq; simp at hq
    | some s =>
      rw [hs] at hq
      simp only [List.mem_flatMap] at hq
      obtain ⟨x, hx, hq⟩ := hq
      exact ih (h.set (pastV_ok (h.get hs) hx)) hq
theorem flatMap_len {α β : Type} {f : α → List β} {B : Nat} (hf : ∀ x, (f x).length ≤ B) : ∀ (l : List α), (l.flatMap f).length ≤ l.length * B := by
  intro l
  induction l with
  | nil => simp
  | cons a l ih => rw [List.flatMap_cons, List.length_append, List.length_cons, Nat.add_mul]; have := hf a; omega
theorem passP_len : ∀ {Ls : List LeaseV} {i : Nat} {ln : Int} {st : List Int}, (passP Ls i ln st).length ≤ 2 ^ Ls.length := by
  intro Ls
  induction Ls with
  | nil => intro i ln st; simp [passP]
  | cons l rest ih =>
    intro i ln st
    unfold passP
    cases st[i]? with
    | none => simp
    | some s =>
      have := flatMap_len (f := fun x => passP rest (i + 1) ln (st.set i x)) (B := 2 ^ rest.length) (fun x => ih) (pastV l ln s)
      have h2 := pastV_len (l := l) (ln := ln) (s := s)
      have : (pastV l ln s).length * 2 ^ rest.length ≤ 2 * 2 ^ rest.length := Nat.mul_le_mul_right _ h2
      rw [List.length_cons, Nat.pow_succ, Nat.mul_comm _ 2]
      dsimp only
      omega
theorem passP_le16 {Ls : List LeaseV} (hL : Ls.length ≤ 4) {i : Nat} {ln : Int} {st : List Int} : (passP Ls i ln st).length ≤ 16 :=
  Nat.le_trans passP_len (Nat.le_trans (Nat.pow_le_pow_right (by omega) hL) (by decide))

/-! sums -/
theorem foldl_add : ∀ (l : List Int) (a : Int), l.foldl (· + ·) a = a + l.sum := by
  intro l
  induction l with
  | nil => intro a; simp
  | cons x l ih => intro a; rw [List.foldl_cons, ih, List.sum_cons]; omega
theorem sum_set : ∀ {l : List Int} {i : Nat} {y x : Int}, l[i]? = some y → (l.set i (y + x)).sum = l.sum + x := by
  intro l
  induction l with
  | nil => intro i y x h; simp at h
  | cons a l ih =>
    intro i y x h
    cases i with
    | zero => simp at h; subst h; simp only [List.set_cons_zero, List.sum_cons]; omega
    | succ i => simp at h; simp only [List.set_cons_succ, List.sum_cons, ih h]; omega
theorem sum_nonneg : ∀ {l : List Int}, (∀ x, x ∈ l → 0 ≤ x) → 0 ≤ l.sum := by
  intro l
  induction l with
  | nil => intro _; simp
  | cons a l ih => intro h; rw [List.sum_cons]; have := ih fun x hx => h x (by simp [hx]); have := h a (by simp); omega
theorem le_sum : ∀ {l : List Int} {i : Nat} {y : Int}, (∀ x, x ∈ l → 0 ≤ x) → l[i]? = some y → y ≤ l.sum := by
  intro l
  induction l with
  | nil => intro i y _ h; simp at h
  | cons a l ih =>
    intro i y hn h
    have h1 := sum_nonneg (l := l) fun x hx => hn x (by simp [hx])
    have h2 := hn a (by simp)
    rw [List.sum_cons]
    cases i with
    | zero => simp at h; omega
    | succ i => simp at h; have := ih (fun x hx => hn x (by simp [hx])) h; omega
theorem sum_take_succ {l : List Int} {i : Nat} {x : Int} (h : l[i]? = some x) : (l.take (i + 1)).sum = (l.take i).sum + x := by
  rw [List.take_add_one, h]
  simp
theorem sum_take_le : ∀ {l : List Int} {i : Nat}, (∀ x, x ∈ l → 0 ≤ x) → (l.take i).sum ≤ l.sum := by
  intro l
  induction l with
  | nil => intro i _; simp
  | cons a l ih =>
    intro i hn
    have h1 := sum_nonneg (l := l) fun x hx => hn x (by simp [hx])
    have h2 := hn a (by simp)
    cases i with
    | zero => simp only [List.take_zero, List.sum_nil, List.sum_cons]; omega
    | succ i => have := ih (i := i) fun x hx => hn x (by simp [hx]); simp only [List.take_succ_cons, List.sum_cons]; omega

/-! widths -/
/-- Widths, of at most so many perches. -/
structure Wd (w : List Int) (k : Nat) : Prop where
  len : w.length = 11
  pos : ∀ x, x ∈ w → 0 ≤ x
  top : ∀ i x, w[i]? = some x → 0 < x → i ≤ k
theorem Wd.mono {w : List Int} {k k' : Nat} (h : Wd w k) (hk : k ≤ k') : Wd w k' := ⟨h.len, h.pos, fun i x a b => Nat.le_trans (h.top i x a b) hk⟩
theorem plusV_sum {own : Nat} {os w : List Int} {k : Nat} (hw : Wd w (k + own)) (ho : Wd os k) (hk : k + own ≤ 10) : ∀ n, n ≤ 11 → Wd (plusV own os w n) (k + own) ∧ (plusV own os w n).sum = w.sum + (os.take n).sum := by
  intro n
  induction n with
  | zero => intro _; exact ⟨hw, by simp [plusV]⟩
  | succ n ih =>
    intro hn
    obtain ⟨h1, h2⟩ := ih (by omega)
    obtain ⟨x, hx⟩ : ∃ x, os[n]? = some x := ⟨os[n]'(by rw [ho.len]; omega), by simp⟩
    have hx0 := ho.pos x (List.mem_of_getElem? hx)
    rw [plusV_succ, sum_take_succ hx]
    unfold stepV
    rw [hx]
    by_cases e : 0 < x
    · have hnk := ho.top n x hx e
      obtain ⟨y, hy⟩ : ∃ y, (plusV own os w n)[n + own]? = some y := ⟨(plusV own os w n)[n + own]'(by rw [h1.len]; omega), by simp⟩
      have hy0 := h1.pos y (List.mem_of_getElem? hy)
      rw [hy]
      simp only [if_pos e]
      refine ⟨⟨by rw [List.length_set]; exact h1.len, fun z hz => (List.mem_or_eq_of_mem_set hz).elim (h1.pos z) (fun q => by omega), fun i z hz hp => ?_⟩, by rw [sum_set hy, h2]; omega⟩
      by_cases q : i = n + own
      · omega
      · rw [List.getElem?_set_ne (fun e => q e.symm)] at hz
        exact h1.top i z hz hp
    · have : x = 0 := by omega
      subst this
      refine ⟨?_, ?_⟩
      · split
        · rename_i a b q _; cases q; simpa using h1
        · exact h1
      · split
        · rename_i a b q _; cases q; simp [h2]
        · simp [h2]
theorem plusV_bound {own : Nat} {os w : List Int} {k : Nat} (hw : Wd w (k + own)) (ho : Wd os k) (hk : k + own ≤ 10) (hs : w.sum + os.sum < 9223372036854775808) :
    ∀ (i : Nat) (x : Int), os[i]? = some x → 0 < x → i + own < 11 ∧ ∀ y, (plusV own os w i)[i + own]? = some y → inI64 (y + x) := by
  intro i x hx e
  have hi := ho.top i x hx e
  refine ⟨by omega, fun y hy => ?_⟩
  obtain ⟨h1, h2⟩ := plusV_sum hw ho hk i (by omega)
  have a1 := h1.pos y (List.mem_of_getElem? hy)
  have a2 := le_sum h1.pos hy
  have a3 := sum_take_succ hx
  have a4 := sum_take_le (i := i + 1) ho.pos
  unfold inI64
  omega

structure Sv where
  np : Int
  nb : Int
  hd : Int
  Ls : List LeaseV
  A : Int → Int → Bool
def Sv.ownN (S : Sv) (q : Pr) : Nat := if doneV S.np q.1 = false ∧ ownerV S.nb S.Ls q.2 = S.hd then 1 else 0
def Sv.suits (S : Sv) (q : Pr) : Bool := suitsV S.np S.nb S.Ls S.A q.1 q.2
def Sv.nx (S : Sv) (p : Pr) : List Pr := passP S.Ls 0 p.1 p.2
def unit11 : List Int := [1, 0, 0, 0, 0, 0, 0, 0, 0, 0, 0]
def zero11 : List Int := [0, 0, 0, 0, 0, 0, 0, 0, 0, 0, 0]
def Sv.stepW (S : Sv) (f : Pr → List Int) (w : List Int) (q : Pr) : List Int := if S.suits q then plusV (S.ownN q) (f q) w 11 else w
def waysV (S : Sv) : Nat → Pr → List Int
  | 0, _ => unit11
  | r + 1, p => (S.nx p).foldl (S.stepW (waysV S r)) zero11
def Sv.rem (S : Sv) (p : Pr) : Nat := (S.np + 1 - p.1).toNat
def Sv.W (S : Sv) (p : Pr) : List Int := waysV S (S.rem p) p
def Sv.C (S : Sv) (p : Pr) : Int := (S.W p).sum
/-- Whether there is a way. -/
def canV (S : Sv) : Nat → Pr → Bool
  | 0, _ => true
  | r + 1, p => (S.nx p).any fun q => S.suits q && canV S r q

structure Sv.Ok (S : Sv) : Prop where
  np : 1 ≤ S.np ∧ S.np ≤ 10
  Ls : S.Ls.length ≤ 4
structure Sv.At (S : Sv) (p : Pr) : Prop where
  ln : 0 ≤ p.1 ∧ p.1 ≤ S.np + 1
  st : OkSt p.2

theorem Sv.rem_zero {S : Sv} {p : Pr} (h : S.At p) : S.rem p = 0 ↔ doneV S.np p.1 = true := by
  unfold Sv.rem doneV
  have := h.ln
  simp
  omega
theorem Sv.rem_pos {S : Sv} {p : Pr} (h : S.At p) (hd : doneV S.np p.1 = false) : S.rem p = (S.np - p.1).toNat + 1 ∧ p.1 ≤ S.np := by
  unfold Sv.rem
  unfold doneV at hd
  simp at hd
  omega
theorem Sv.rem_nx {S : Sv} {p q : Pr} (h : S.At p) (hd : doneV S.np p.1 = false) (hq : q ∈ S.nx p) : S.At q ∧ S.rem p = S.rem q + 1 := by
  obtain ⟨q1, q2⟩ := passP_mem h.st hq
  obtain ⟨k1, k2⟩ := S.rem_pos h hd
  have := h.ln
  refine ⟨⟨by omega, q2⟩, ?_⟩
  unfold Sv.rem
  omega
theorem foldl_congr {α β : Type} {f g : β → α → β} : ∀ {l : List α} {b : β}, (∀ b x, x ∈ l → f b x = g b x) → l.foldl f b = l.foldl g b := by
  intro l
  induction l with
  | nil => intro b _; rfl
  | cons a l ih => intro b h; rw [List.foldl_cons, List.foldl_cons, h b a (by simp)]; exact ih fun b x hx => h b x (by simp [hx])
theorem Sv.W_done {S : Sv} {p : Pr} (h : S.At p) (hd : doneV S.np p.1 = true) : S.W p = unit11 := by
  unfold Sv.W
  rw [S.rem_zero h |>.2 hd]
  rfl
theorem Sv.W_step {S : Sv} {p : Pr} (h : S.At p) (hd : doneV S.np p.1 = false) : S.W p = (S.nx p).foldl (S.stepW S.W) zero11 := by
  unfold Sv.W
  rw [(S.rem_pos h hd).1]
  show (S.nx p).foldl (S.stepW (waysV S ((S.np - p.1).toNat))) zero11 = _
  refine foldl_congr fun b q hq => ?_
  unfold Sv.stepW
  have := (S.rem_nx h hd hq).2
  have h2 := (S.rem_pos h hd).1
  have : S.rem q = (S.np - p.1).toNat := by omega
  show (if S.suits q = true then plusV (S.ownN q) (waysV S (S.np - p.1).toNat q) b 11 else b) = if S.suits q = true then plusV (S.ownN q) (waysV S (S.rem q) q) b 11 else b
  rw [this]

theorem wd_unit : Wd unit11 0 := ⟨rfl, by decide, by
  intro i x h hx
  match i with
  | 0 => omega
  | i + 1 =>
    have : x ∈ [0, 0, 0, 0, 0, 0, 0, 0, 0, (0 : Int)] := List.mem_of_getElem? (i := i) (by simpa [unit11] using h)
    simp at this
    omega⟩
theorem wd_zero : Wd zero11 0 := ⟨rfl, by decide, by
  intro i x h hx
  have : x ∈ zero11 := List.mem_of_getElem? h
  simp [zero11] at this
  omega⟩

/-- What is known of the ways of a progress. -/
theorem Sv.wd {S : Sv} (hS : S.Ok) : ∀ (r : Nat) (p : Pr), S.At p → S.rem p = r → Wd (S.W p) (r - 1) ∧ (S.W p).sum ≤ 16 ^ r ∧ ((S.W p).sum > 0 ↔ canV S r p = true) := by
  intro r
  induction r with
  | zero =>
    intro p h hr
    rw [S.W_done h ((S.rem_zero h).1 hr)]
    exact ⟨wd_unit, by decide, by simp [canV, unit11]⟩
  | succ r ih =>
    intro p h hr
    have hd : doneV S.np p.1 = false := by
      cases hq : doneV S.np p.1 with
      | false => rfl
      | true => have := (S.rem_zero h).2 hq; omega
    rw [S.W_step h hd]
    have hr10 : r ≤ 10 := by
      have := (S.rem_pos h hd).1
      have := h.ln
      have := hS.np
      omega
    have key : ∀ (l : List Pr) (w : List Int), (∀ q, q ∈ l → q ∈ S.nx p) → Wd w r → Wd (l.foldl (S.stepW S.W) w) r ∧ (l.foldl (S.stepW S.W) w).sum ≤ w.sum + l.length * 16 ^ r ∧
        w.sum ≤ (l.foldl (S.stepW S.W) w).sum ∧ ((l.foldl (S.stepW S.W) w).sum > w.sum ↔ (l.any fun q => S.suits q && canV S r q) = true) := by
      intro l
      induction l with
      | nil => intro w _ hw; exact ⟨hw, by simp, by simp, by simp⟩
      | cons q l ihl =>
        intro w hl hw
        obtain ⟨hq1, hq2⟩ := S.rem_nx h hd (hl q (by simp))
        obtain ⟨a1, a2, a3⟩ := ih q hq1 (by omega)
        have a0 := sum_nonneg a1.pos
        rw [List.foldl_cons]
        have one : Wd (S.stepW S.W w q) r ∧ (S.stepW S.W w q).sum ≤ w.sum + 16 ^ r ∧ w.sum ≤ (S.stepW S.W w q).sum ∧ ((S.stepW S.W w q).sum > w.sum ↔ (S.suits q && canV S r q) = true) := by
          unfold Sv.stepW
          cases hs : S.suits q with
          | false =>
            have : (0 : Int) < 16 ^ r := Int.pow_pos (by decide)
            simp only [Bool.false_eq_true, if_false]
            exact ⟨hw, by omega, by omega, by simp⟩
          | true =>
            simp only [if_true, Bool.true_and]
            have hown : r - 1 + S.ownN q ≤ r := by
              unfold Sv.ownN
              split
              · rename_i k
                have : ¬ S.rem q = 0 := fun e => by have := (S.rem_zero hq1).1 e; rw [k.1] at this; cases this
                omega
              · omega
            have hw2 : Wd w (r - 1 + S.ownN q) ∨ True := .inr trivial
            have hown1 : S.ownN q ≤ 1 := by unfold Sv.ownN; split <;> omega
            have hos : Wd (S.W q) (r - S.ownN q) := a1.mono (by omega)
            have hk : r - S.ownN q + S.ownN q = r := by omega
            obtain ⟨b1, b2⟩ := plusV_sum (own := S.ownN q) (os := S.W q) (w := w) (k := r - S.ownN q) (by rw [hk]; exact hw) hos (by omega) 11 (Nat.le_refl _)
            rw [hk] at b1
            rw [List.take_of_length_le (by rw [hos.len]; exact Nat.le_refl _)] at b2
            exact ⟨b1, by omega, by omega, by rw [← a3, b2]; omega⟩
        obtain ⟨o1, o2, o3, o4⟩ := one
        obtain ⟨i1, i2, i3, i4⟩ := ihl (S.stepW S.W w q) (fun x hx => hl x (by simp [hx])) o1
        refine ⟨i1, ?_, by omega, ?_⟩
        · rw [List.length_cons]
          have : ((l.length + 1 : Nat) : Int) * 16 ^ r = l.length * 16 ^ r + 16 ^ r := by rw [Int.natCast_add, Int.add_mul]; simp
          omega
        · rw [List.any_cons, Bool.or_eq_true, ← o4, ← i4]
          omega
    obtain ⟨k1, k2, k3, k4⟩ := key (S.nx p) zero11 (fun _ h => h) (wd_zero.mono (by omega))
    have h16 : (S.nx p).length ≤ 16 := passP_le16 hS.Ls
    refine ⟨k1, ?_, ?_⟩
    · have e0 : zero11.sum = 0 := rfl
      have : ((S.nx p).length : Int) * 16 ^ r ≤ 16 * 16 ^ r := Int.mul_le_mul_of_nonneg_right (by omega) (Int.le_of_lt (Int.pow_pos (by decide)))
      rw [Int.pow_succ, Int.mul_comm _ 16]
      omega
    · have e0 : zero11.sum = 0 := rfl
      rw [e0] at k4
      exact k4
end Go.Proofs.Ytidfcmjlfadieaa

namespace Go.Proofs.Ytidfcmjlfadieaa
open Go Go.AbsE
set_option maxRecDepth 100000
set_option linter.unusedVariables false
theorem flat_get {α β : Type} {f : α → List β} : ∀ {xs : List α} {k n : Nat} {x : α} {v : β}, xs[k]? = some x → (f x)[n]? = some v → (xs.flatMap f)[((xs.take k).map fun x => (f x).length).sum + n]? = some v := by
  intro xs
  induction xs with
  | nil => intro k n x v h; simp at h
  | cons a xs ih =>
    intro k n x v h1 h2
    cases k with
    | zero =>
      simp at h1
      subst h1
      have hn := (List.getElem?_eq_some_iff.1 h2).1
      simp only [List.take_zero, List.map_nil, List.sum_nil, Nat.zero_add, List.flatMap_cons]
      rw [List.getElem?_append_left hn]
      exact h2
    | succ k =>
      simp at h1
      have := ih h1 h2
      simp only [List.take_succ_cons, List.map_cons, List.sum_cons, List.flatMap_cons]
      rw [Nat.add_assoc, List.getElem?_append_right (by omega), Nat.add_sub_cancel_left]
      exact this
theorem flat_succ {α β : Type} {f : α → List β} {xs : List α} {k : Nat} {x : α} (h : xs[k]? = some x) : ((xs.take (k + 1)).map fun x => (f x).length).sum = ((xs.take k).map fun x => (f x).length).sum + (f x).length := by
  rw [List.take_add_one, h]
  simp
theorem flat_le {α β : Type} {f : α → List β} : ∀ {xs : List α} {k : Nat}, ((xs.take k).map fun x => (f x).length).sum ≤ (xs.flatMap f).length := by
  intro xs
  induction xs with
  | nil => intro k; simp
  | cons a xs ih =>
    intro k
    cases k with
    | zero => simp
    | succ k => have := ih (k := k); simp only [List.take_succ_cons, List.map_cons, List.sum_cons, List.flatMap_cons, List.length_append]; omega
theorem flat_all {α β : Type} {f : α → List β} {xs : List α} : ((xs.take xs.length).map fun x => (f x).length).sum = (xs.flatMap f).length := by
  rw [List.take_length]
  induction xs with
  | nil => rfl
  | cons a xs ih => simp only [List.map_cons, List.sum_cons, List.flatMap_cons, List.length_append, ih]

/-- Of the items only those from one on. -/
theorem Takes.shift {base : Nat} {y : AVal} {items sub : List (List AVal)} {J E : Nat → AH → (Nat → Prop) → Prop} (T : Takes Try.prog base y items J E) (o : Nat) (hs : ∀ (n : Nat) v, sub[n]? = some v → items[o + n]? = some v) :
    Takes Try.prog base y sub (fun n => J (o + n)) (fun n => E (o + n)) where
  ltJ := fun j => T.ltJ j
  keepJ := fun j => T.keepJ j
  ltE := fun j => T.ltE j
  keepE := fun j => T.keepE j
  take := fun h j => T.take (hs _ _ h) j

noncomputable def ops166 : Array Oper := ((drawnOps Try.f166)[0]?).getD #[]
theorem plan166 : plan ops166 = some (mkPlan ops166.toList [(0, 0, true, false), (1, 0, true, false), (2, 0, true, false), (3, 4, true, false), (4, 0, true, false), (5, 28, true, false), (6, 60, true, false), (7, 124, true, false), (8, 255, false, false)]) := by kernel_rfl
theorem leaseSame (l : LeaseV) : sameA (.agg l.cells) (.agg l.cells) = true := by simp [sameA, sameAs, LeaseV.cells, eqI_eq]

theorem pass_step (np nb ln : Int) (s m y : AVal) (Ls rest' : List LeaseV) (l : LeaseV) (i : Nat) (st : List Int) (sv : Int) (hl : Ls[i]? = some l) (hst : st.length = 4) (hsv : st[i]? = some sv) (hl64 : inI64 (l.th - 1)) (hs1 : inI64 (sv + 1)) (F : Nat → Prop) (J E : Nat → AH → (Nat → Prop) → Prop) (h : AH)
    (hs : KeepSl F h 5 s (Ls.map LeaseV.cells)) (hss : sameA s s = true) (hyc : y.cells = [y]) {base : Nat} (hbase : base ≤ h.next) (T : Takes Try.prog base y (passV (l :: rest') i ln st) J E) (hJ : J 0 h F)
    (IH : ∀ x, x ∈ pastV l ln sv → ∀ (F' : Nat → Prop) (J' E' : Nat → AH → (Nat → Prop) → Prop) (h' : AH), KeepSl F' h' 5 s (Ls.map LeaseV.cells) → base ≤ h'.next → Takes Try.prog base y (passV rest' (i + 1) ln (st.set i x)) J' E' → J' 0 h' F' →
      Runs Try.prog 166 [.agg [.int .i64 np, .int .i64 nb, s, m], .agg (.int .i64 ln :: (st.set i x).map I64), .int .i64 ((i : Int) + 1), y] h' (PassR F' J' E' (passV rest' (i + 1) ln (st.set i x)).length h')) :
    Runs Try.prog 166 [.agg [.int .i64 np, .int .i64 nb, s, m], .agg (.int .i64 ln :: st.map I64), .int .i64 i, y] h (PassR F J E (passV (l :: rest') i ln st).length h) := by
  have hi : i < Ls.length := (List.getElem?_eq_some_iff.1 hl).1
  have hi4 : i < 4 := by have := (List.getElem?_eq_some_iff.1 hsv).1; omega
  refine Runs.intro aFunc166 rfl rfl rfl rfl fun rest => ?_
  refine Go.seq noJ_ok (Go.region noJ_ok rfl ?_)
  refine GoR.box rfl rfl rfl rfl rfl rfl fun h1 x1 f1 => ?_
  refine GoR.box rfl rfl rfl rfl rfl rfl fun h2 x2 f2 => ?_
  refine GoR.box rfl rfl rfl rfl rfl rfl fun h3 x3 f3 => ?_
  refine GoR.box rfl rfl rfl rfl rfl rfl fun h4 x4 f4 => ?_
  refine GoR.alloc rfl rfl rfl zt4 rfl rfl fun h5 x5 f5 => ?_
  have y1 := (((x1.trans x2).trans x3).trans x4).trans x5
  have e1 := x1.1
  have e2 := x2.1
  have e3 := x3.1
  have e4 := x4.1
  have l1 := f1.1
  replace f1 := (((f1.ext x2).ext x3).ext x4).ext x5
  have l2 := f2.1
  replace f2 := ((f2.ext x3).ext x4).ext x5
  have l3 := f3.1
  replace f3 := (f3.ext x4).ext x5
  have l4 := f4.1
  replace f4 := f4.ext x5
  have l5 := f5.1
  have hs5 := hs h5 (.of y1)
  refine GoR.end (Go.seq noJ_ok (Go.seq noJ_ok (Go.region noJ_ok rfl ?_)))
  refine GoR.op rfl rfl (ld3 rfl f3 rfl) rfl ?_
  refine GoR.op rfl rfl (fa92_2 rfl) rfl ?_
  refine GoR.op rfl rfl (ld88 rfl f1 rfl) rfl ?_
  refine GoR.op rfl rfl (aOp_lenSlice Try.underlying88 rfl hs5.len) rfl ?_
  rw [List.length_map]
  refine GoR.op rfl rfl (aOp_eql rfl rfl (r := false) (by simp; omega)) rfl ?_
  refine GoR.end (Go.cond noJ_ok (b := false) rfl (Go.code noJ_ok ?_))
  have hl5 : (Ls.map LeaseV.cells)[i]? = some l.cells := by rw [List.getElem?_map, hl]; rfl
  obtain ⟨b, off', k1, k2⟩ := hs5.at hl5
  rw [List.length_map] at k1
  refine Go.seq noJ_ok (Go.seq noJ_ok (Go.drawn plan166 ?_))
  refine GoD.quiet rfl rfl (fun h' x => ld149 rfl (f2.ext x) (prog_cells hst)) (progSame _ _) rfl ?_
  refine GoD.quiet rfl rfl (fun h' x => ld3 rfl (f3.ext x) rfl) (sameA_int _ _) rfl ?_
  refine GoD.quiet rfl rfl (fun h' x => fa92_2 rfl) (sameA_ptr _ _) rfl ?_
  refine GoD.quiet rfl rfl (fun h' x => ld88 rfl (f1.ext x) rfl) hss rfl ?_
  refine GoD.quiet rfl rfl (fun h' x => ld3 rfl (f3.ext x) rfl) (sameA_int _ _) rfl ?_
  refine GoD.quiet rfl rfl (fun h' x => aOp_indexAddr Try.underlying88 sz195 rfl k1 rfl (Nat.ble_eq_true_of_le hi)) (sameA_ptr _ _) rfl ?_
  refine GoD.quiet rfl rfl (fun h' x => aOp_loadE ag195 sz195 rfl (k2.ext x)) (leaseSame l) rfl ?_
  refine GoD.quiet rfl rfl (fun h' x => rfl) (sameA_lease l) rfl ?_
  refine GoD.call rfl rfl (aOp_callFunc aFunc182 rfl) (moved_ok (.int .i64 ln :: st.map I64) i _ h5) ?_ (by rintro _ _ ⟨_, _, _, _, _, _, q, _⟩; cases q)
  rintro _ h6 ⟨b3, b4, b5, m3, m4, m5, q, x6, q3, q4, q5⟩
  have q := AEnd.ret.inj q
  subst q
  refine ⟨x6, _, rfl, ?_⟩
  refine GoD.end rfl (Go.block noJ_ok ?_)
  refine Go.keep [(4, .ptr h.next 0), (6, .ptr h2.next 0), (7, .ptr h3.next 0), (8, .ptr h4.next 0), (30, .func (.func 198) [] [.ptr b5 0, .ptr b3 0, .ptr b4 0])] ⟨rfl, rfl, rfl, rfl, rfl, trivial⟩ ?_
  refine Go.rangeFunc rfl aFunc198 fun d lb h7 hd hlb x7 fd fl => ?_
  obtain ⟨r0, hr0, fl⟩ : ∃ r0 : ALoop, r0 = _ ∧ Has h7 lb (.loop r0) := ⟨_, rfl, fl⟩
  have z6 := x6.1
  have z7 := x7.1
  have zl := fl.1
  have zy := y1.1
  have x57 := x6.trans x7
  have x07 := y1.trans x57
  replace f1 := f1.ext x57
  replace f3 := f3.ext x57
  replace f4 := f4.ext x57
  replace f5 := f5.ext x57
  have hFlt : ∀ b, F b → b < h.next := fun b q => T.ltJ hJ q
  let off : Nat → Nat := fun k => (((pastV l ln sv).take k).map fun x => (passV rest' (i + 1) ln (st.set i x)).length).sum
  have hpv : passV (l :: rest') i ln st = (pastV l ln sv).flatMap fun x => passV rest' (i + 1) ln (st.set i x) := by
    show (match st[i]? with | some s => (pastV l ln s).flatMap fun x => passV rest' (i + 1) ln (st.set i x) | none => []) = _
    rw [hsv]
  let Agree : AH → Prop := fun hh => h7.next ≤ hh.next ∧ ∀ b, b < h7.next → ¬ F b → b ≠ lb → b ≠ h4.next → hh.get b = h7.get b
  let J' : Nat → AH → (Nat → Prop) → Prop := fun k hh F' => ∃ Fin : Nat → Prop, F' = (fun b => Fin b ∨ b = lb ∨ b = h4.next) ∧ J (off k) hh Fin ∧ (∀ b, Fin b → F b ∨ h7.next ≤ b) ∧ Agree hh ∧ Has hh lb (.loop r0) ∧ Has hh h4.next (.cells .plain [.bool false] 4)
  let E' : Nat → AH → (Nat → Prop) → Prop := fun k hh F' => ∃ (Fin : Nat → Prop) (j : Nat), F' = (fun b => Fin b ∨ b = lb ∨ b = h4.next) ∧ j < (passV (l :: rest') i ln st).length ∧ E j hh Fin ∧ (∀ b, Fin b → F b ∨ h7.next ≤ b) ∧ Agree hh ∧ Has hh lb (.loop { r0 with state := .done, pending := some .ret }) ∧ Has hh h4.next (.cells .plain [.bool false] 4)
  have hoff : ∀ {k : Nat} {x : Int}, (pastV l ln sv)[k]? = some x → off (k + 1) = off k + (passV rest' (i + 1) ln (st.set i x)).length := fun h => flat_succ (f := fun x => passV rest' (i + 1) ln (st.set i x)) h
  have hoffle : ∀ k, off k ≤ (passV (l :: rest') i ln st).length := fun k => by rw [hpv]; exact flat_le (f := fun x => passV rest' (i + 1) ln (st.set i x))
  have hs0 : r0.state = .ready := by rw [hr0]
  have hp0 : r0.pending = none := by rw [hr0]
  have nF : ∀ {Fin : Nat → Prop}, (∀ b, Fin b → F b ∨ h7.next ≤ b) → ∀ b, h.next ≤ b → b < h7.next → ¬ Fin b := fun hF b h1 h2 q => (hF b q).elim (fun q => absurd (hFlt b q) (by omega)) (fun q => by omega)
  have hlh : h.next < h7.next := by omega
  have hTk : Takes Try.prog h7.next (.yield lb) (movesV l ln st i sv) J' E' := by
    refine ⟨?_, ?_, ?_, ?_, ?_⟩
    · rintro k hh F' b ⟨Fin, rfl, j, hF, ag, g1, g2⟩ (q | rfl | rfl)
      · exact T.ltJ j q
      · exact g1.1
      · exact g2.1
    · rintro k hh F' h' ⟨Fin, rfl, j, hF, ag, g1, g2⟩ n e
      have a := ag.1
      refine ⟨Fin, rfl, T.keepJ j n fun b hb q => e b hb (q.elim (fun q => .inl (by omega)) (fun q => .inr (.inl q))), hF, ⟨by omega, fun b hb k1 k2 k3 => by rw [e b (by omega) (.inl hb), ag.2 b hb k1 k2 k3]⟩, ⟨by have := g1.1; omega, by rw [e lb g1.1 (.inr (.inr (.inl rfl)))]; exact g1.2⟩, ⟨by have := g2.1; omega, by rw [e _ g2.1 (.inr (.inr (.inr rfl)))]; exact g2.2⟩⟩
    · rintro k hh F' b ⟨Fin, j, rfl, hj, he, hF, ag, g1, g2⟩ (q | rfl | rfl)
      · exact T.ltE he q
      · exact g1.1
      · exact g2.1
    · rintro k hh F' h' ⟨Fin, j, rfl, hj, he, hF, ag, g1, g2⟩ n e
      have a := ag.1
      refine ⟨Fin, j, rfl, hj, T.keepE he n fun b hb q => e b hb (q.elim (fun q => .inl (by omega)) (fun q => .inr (.inl q))), hF, ⟨by omega, fun b hb k1 k2 k3 => by rw [e b (by omega) (.inl hb), ag.2 b hb k1 k2 k3]⟩, ⟨by have := g1.1; omega, by rw [e lb g1.1 (.inr (.inr (.inl rfl)))]; exact g1.2⟩, ⟨by have := g2.1; omega, by rw [e _ g2.1 (.inr (.inr (.inr rfl)))]; exact g2.2⟩⟩
    · rintro k item hh F' hit ⟨Fin, rfl, j, hF, ag, g1, g2⟩
      refine ⟨_, rfl, (fun _ _ q => by cases q), ?_⟩
      obtain ⟨x, hx, rfl⟩ : ∃ x, (pastV l ln sv)[k]? = some x ∧ item = .int .i64 ln :: (st.set i x).map I64 := by
        unfold movesV at hit
        rw [List.getElem?_map] at hit
        cases hq : (pastV l ln sv)[k]? with
        | none => rw [hq] at hit; cases hit
        | some x => rw [hq] at hit; cases hit; exact ⟨x, rfl, rfl⟩
      have a := ag.1
      have low : ∀ {b o}, Has h7 b o → ¬ F b → b ≠ lb → b ≠ h4.next → Has hh b o := fun k1 k2 k3 k4 => ⟨Nat.lt_of_lt_of_le k1.1 a, by rw [ag.2 _ k1.1 k2 k3 k4]; exact k1.2⟩
      have nFh : ∀ b, h.next ≤ b → ¬ F b := fun b hb q => absurd (hFlt b q) (by omega)
      have w1 := low f1 (nFh _ (Nat.le_refl _)) (by omega) (by omega)
      have w3 := low f3 (nFh _ (by omega)) (by omega) (by omega)
      have w4 := low f4 (nFh _ (by omega)) (by omega) (by omega)
      have hst' : (st.set i x).length = 4 := by simp [hst]
      subst hr0
      refine Does.round g1 rfl Try.func166 fun fr rest Q hr hpn => ?_
      refine Go.region noJ_ok rfl ?_
      refine GoR.alloc rfl rfl rfl zt149 rfl rfl fun e1 y1 f9 => ?_
      refine GoR.store rfl rfl rfl rfl rfl rfl f9 rfl sz149 (by simp [cells_agg, hst]) (scal_I64 (ln :: st.set i x)) (splice_all (by simp [cells_agg, hst])) fun e2 u2 => ?_
      have y2 : Ext hh e2 := y1.upd u2 (Nat.le_refl _)
      have f9' := u2.has f9
      refine GoR.end (Go.beginRound (g1.ext y2) rfl fun e3 u3 => ?_)
      have lbn : ∀ {b}, b ≠ lb → b < hh.next → e3.get b = hh.get b := fun k1 k2 => by rw [u3.2.2 _ k1, y2.2 _ k2]
      have ln3 : hh.next < e3.next := by rw [u3.1, u2.1]; have := f9.1; omega
      have v1 := (w1.ext y2).upd u3 (by omega)
      have v3 := (w3.ext y2).upd u3 (by omega)
      have v4 := (w4.ext y2).upd u3 (by omega)
      have v5 := (g2.ext y2).upd u3 (by omega)
      have v9 := f9'.upd u3 (by have := g1.1; omega)
      have vl := u3.has (g1.ext y2)
      refine Go.block noJ_ok (Go.seq noJ_ok (Go.region noJ_ok rfl ?_))
      refine GoR.op rfl rfl (ld92 rfl v1 rfl) rfl ?_
      refine GoR.op rfl rfl (ld149 rfl v9 (prog_cells hst')) rfl ?_
      refine GoR.op rfl rfl (ld3 rfl v3 rfl) rfl ?_
      have hi64 : inI64 ((i : Int) + 1) := by constructor <;> omega
      refine GoR.op rfl rfl (aOp_add rfl rfl hi64 rfl) rfl ?_
      refine GoR.op rfl rfl (ld154 rfl v4 (by rw [hyc]; rfl)) rfl ?_
      have nlb : ¬ Fin lb := nF hF lb (by omega) (by omega)
      have nre : ¬ Fin h4.next := nF hF _ (by omega) (by omega)
      have jin : J (off k + 0) e3 Fin := T.keepJ j (by omega) fun b hb q => lbn (fun e => q.elim (fun q => by omega) (fun q => nlb (e ▸ q))) hb
      have ksl : KeepSl Fin e3 5 s (Ls.map LeaseV.cells) := by
        intro h'' e''
        refine hs h'' ⟨by have := e''.1; omega, fun b hb hn => ?_⟩
        rw [e''.2 b (by omega) (fun q => (hF b q).elim hn (fun q => by omega)), lbn (by omega) (by omega), ag.2 b (by omega) hn (by omega) (by omega), x07.2 b hb]
      have hxm := List.mem_of_getElem? hx
      have tsh : Takes Try.prog base y (passV rest' (i + 1) ln (st.set i x)) (fun n => J (off k + n)) (fun n => E (off k + n)) := Takes.shift T (off k) fun n v hv => by
        rw [hpv]
        exact flat_get (f := fun x => passV rest' (i + 1) ln (st.set i x)) hx hv
      refine GoR.call rfl rfl (aOp_callFunc aFunc166 rfl) (IH x hxm Fin (fun n => J (off k + n)) (fun n => E (off k + n)) e3 ksl (by omega) tsh jin) ?_ (by rintro _ _ ⟨_, _, _, ⟨q, _⟩ | ⟨_, _, q, _⟩⟩ <;> cases q)
      rintro v e4 ⟨x4, F4, hF4, hv⟩
      have a4 := x4.1
      have hF4' : ∀ b, F4 b → F b ∨ h7.next ≤ b := fun b q => (hF4 b q).elim (hF b) (fun q => .inr (by omega))
      have vl4 := vl.extF x4 nlb
      have v54 := v5.extF x4 nre
      have ag4 : ∀ b, b < h7.next → ¬ F b → b ≠ lb → b ≠ h4.next → e4.get b = h7.get b := fun b hb k1 k2 k3 => by
        rw [x4.2 b (by omega) (fun q => (hF b q).elim k1 (fun q => by omega)), lbn k2 (by omega), ag.2 b hb k1 k2 k3]
      have n4l : ¬ F4 lb := nF hF4' lb (by omega) (by omega)
      have n4r : ¬ F4 h4.next := nF hF4' _ (by omega) (by omega)
      have fin : ∀ {e5 : AH} {b}, e4.next ≤ e5.next → (∀ b, b < hh.next → ¬ Fin b → b ≠ lb → b ≠ h4.next → e5.get b = e4.get b) → b < hh.next → ¬ (Fin b ∨ b = lb ∨ b = h4.next) → e5.get b = hh.get b := fun _ k k1 k2 => by
        rw [k _ k1 (fun q => k2 (.inl q)) (fun q => k2 (.inr (.inl q))) (fun q => k2 (.inr (.inr q))), x4.2 _ (by omega) (fun q => k2 (.inl q)), lbn (fun q => k2 (.inr (.inl q))) k1]
      rcases hv with ⟨q, hj4⟩ | ⟨kk, hkk, q, he4⟩
      · cases q
        refine ⟨_, rfl, ?_⟩
        refine GoR.op rfl rfl rfl rfl ?_
        refine GoR.end (Go.cond noJ_ok (b := false) rfl (Go.code noJ_ok (Go.inBlock noJ_ok ?_)))
        refine Go.roundEnd vl4 fun e5 u5 => ?_
        have u5n : e5.next = e4.next := u5.1
        refine hr _ _ ⟨⟨by omega, fun b hb hn => fin (by omega) (fun b _ _ k2 _ => u5.2.2 b k2) hb hn⟩, (fun b => F4 b ∨ b = lb ∨ b = h4.next), fun b q => ?_, .inl ⟨rfl, F4, rfl, ?_, hF4', ⟨by omega, fun b hb k1 k2 k3 => by rw [u5.2.2 b k2, ag4 b hb k1 k2 k3]⟩, u5.has vl4, v54.upd u5 (by omega)⟩⟩
        · rcases q with q | q | q
          · exact (hF4 b q).elim (fun q => .inl (.inl q)) (fun q => .inr (by omega))
          · exact .inl (.inr (.inl q))
          · exact .inl (.inr (.inr q))
        · rw [hoff hx]
          exact T.keepJ hj4 (by omega) fun b hb q => u5.2.2 b fun e => q.elim (fun q => by omega) (fun q => n4l (e ▸ q))
      · cases q
        refine ⟨_, rfl, ?_⟩
        refine GoR.op rfl rfl rfl rfl ?_
        refine GoR.end (Go.cond noJ_ok (b := true) rfl (Go.seq noJ_ok (Go.region noJ_ok rfl ?_)))
        refine GoR.store rfl rfl rfl rfl rfl rfl v54 rfl sz4 rfl rfl rfl fun e5 u5 => ?_
        have u5n : e5.next = e4.next := u5.1
        refine GoR.end (Go.roundRet (vl4.upd u5 (by omega)) fun e6 u6 => ?_)
        have u6n : e6.next = e5.next := u6.1
        have e64 : ∀ b, b ≠ lb → b ≠ h4.next → e6.get b = e4.get b := fun b k1 k2 => by rw [u6.2.2 b k1, u5.2.2 b k2]
        refine hr _ _ ⟨⟨by omega, fun b hb hn => fin (by omega) (fun b _ _ k2 k3 => e64 b k2 k3) hb hn⟩, (fun b => F4 b ∨ b = lb ∨ b = h4.next), fun b q => ?_, .inr ⟨rfl, F4, off k + kk, rfl, ?_, ?_, hF4', ⟨by omega, fun b hb k1 k2 k3 => by rw [e64 b k2 k3, ag4 b hb k1 k2 k3]⟩, u6.has (vl4.upd u5 (by omega)), (u5.has v54).upd u6 (by omega)⟩⟩
        · rcases q with q | q | q
          · exact (hF4 b q).elim (fun q => .inl (.inl q)) (fun q => .inr (by omega))
          · exact .inl (.inr (.inl q))
          · exact .inl (.inr (.inr q))
        · have := hoffle (k + 1)
          rw [hoff hx] at this
          omega
        · exact T.keepE he4 (by omega) fun b hb q => e64 b (fun e => q.elim (fun q => by omega) (fun q => n4l (e ▸ q))) (fun e => q.elim (fun q => by omega) (fun q => n4r (e ▸ q)))
  have hJ0 : J' 0 h7 (fun b => F b ∨ b = lb ∨ b = h4.next) := ⟨F, rfl, T.ext hJ x07, fun b q => .inl q, ⟨Nat.le_refl _, fun _ _ _ _ _ => rfl⟩, fl, f5⟩
  have q3l := q3.1
  have q4l := q4.1
  refine ⟨_, moved1_ok (.yield lb) l ln st i sv b3 b4 b5 (fun b => F b ∨ b = lb ∨ b = h4.next) J' E' h7 hst hsv hl64 hs1 (q5.ext x7) (q3.ext x7) (q4.ext x7) ?_ ?_ (Nat.le_trans pastV_len (by omega)) hTk hJ0, ?_, ?_⟩
  · rintro (q | q | q)
    · exact absurd (hFlt _ q) (by omega)
    · omega
    · omega
  · rintro (q | q | q)
    · exact absurd (hFlt _ q) (by omega)
    · omega
    · omega
  · rintro _ _ ⟨q, _⟩
    cases q
  rintro v h8 ⟨_, x8, F8, hF8, hJE⟩
  have a8 := x8.1
  have fd8 : ∀ {hh : AH}, Agree hh → Has hh d (.deferred (some [])) := fun ag => ⟨by have := ag.1; have := fd.1; omega, by rw [ag.2 d fd.1 (fun q => absurd (hFlt _ q) (by omega)) (by omega) (by omega)]; exact fd.2⟩
  have fext : ∀ {e5 : AH}, h8.next ≤ e5.next → (∀ b, b < h.next → ¬ F b → e5.get b = h8.get b) → ExtF F h e5 := fun k1 k2 => ⟨by omega, fun b hb hn => by
    rw [k2 b hb hn, x8.2 b (by omega) (fun q => q.elim hn (fun q => q.elim (fun q => by omega) (fun q => by omega))), x07.2 b hb]⟩
  rcases hJE with ⟨Fin, e8, j, hF, ag, g1, g2⟩ | ⟨kk, hkk, Fin, jj, e8, hj, he, hF, ag, g1, g2⟩
  · refine ⟨r0, g1, (by rw [hs0]; intro q; cases q), fun h9 u9 => ?_⟩
    rw [hp0]
    have u9n : h9.next = h8.next := u9.1
    refine Go.inBlock noJ_ok (Go.seq noJ_ok (Go.region noJ_ok rfl ?_))
    refine GoR.store rfl rfl rfl rfl rfl rfl (g2.upd u9 (by omega)) rfl sz4 rfl rfl rfl fun h10 u10 => ?_
    have u10n : h10.next = h9.next := u10.1
    have fd10 := ((fd8 ag).upd u9 (by omega)).upd u10 (by omega)
    refine GoR.end (Go.retL (FLeft.collected (fun q => by cases q) fd10 fun h11 u11 => ?_))
    have u11n : h11.next = h10.next := u11.1
    have g211 := (u10.has (g2.upd u9 (by omega))).upd u11 (by omega)
    have e118 : ∀ b, b ≠ lb → b ≠ h4.next → b ≠ d → h11.get b = h8.get b := fun b k1 k2 k3 => by rw [u11.2.2 b k3, u10.2.2 b k2, u9.2.2 b k1]
    have nl := nF hF lb (by omega) (by omega)
    have nr := nF hF h4.next (by omega) (by omega)
    have nd := nF hF d (by omega) (by omega)
    refine FLeft.ret (v := .bool true) (aResult_of Try.func166 rfl (aResults_cell rfl g211 (inCells_one ag4 rfl))) ⟨fext (by omega) (fun b hb _ => e118 b (by omega) (by omega) (by omega)), Fin, fun b q => (hF b q).imp id (fun q => by omega), .inl ⟨rfl, ?_⟩⟩
    have : off (pastV l ln sv).length = (passV (l :: rest') i ln st).length := by
      rw [hpv]
      exact flat_all (f := fun x => passV rest' (i + 1) ln (st.set i x))
    rw [← this]
    exact T.keepJ j (by omega) fun b hb q => e118 b (fun e => q.elim (fun q => by omega) (fun q => nl (e ▸ q))) (fun e => q.elim (fun q => by omega) (fun q => nr (e ▸ q))) (fun e => q.elim (fun q => by omega) (fun q => nd (e ▸ q)))
  · refine ⟨_, g1, fun q => (by cases q), fun h9 u9 => ?_⟩
    have u9n : h9.next = h8.next := u9.1
    have fd9 := (fd8 ag).upd u9 (by omega)
    refine Go.retL (FLeft.collected (fun q => by cases q) fd9 fun h11 u11 => ?_)
    have u11n : h11.next = h9.next := u11.1
    have g211 := (g2.upd u9 (by omega)).upd u11 (by omega)
    have e118 : ∀ b, b ≠ lb → b ≠ d → h11.get b = h8.get b := fun b k1 k3 => by rw [u11.2.2 b k3, u9.2.2 b k1]
    have nl := nF hF lb (by omega) (by omega)
    have nd := nF hF d (by omega) (by omega)
    refine FLeft.ret (v := .bool false) (aResult_of Try.func166 rfl (aResults_cell rfl g211 (inCells_one ag4 rfl))) ⟨fext (by omega) (fun b hb _ => e118 b (by omega) (by omega)), Fin, fun b q => (hF b q).imp id (fun q => by omega), .inr ⟨jj, hj, rfl, ?_⟩⟩
    exact T.keepE he (by omega) fun b hb q => e118 b (fun e => q.elim (fun q => by omega) (fun q => nl (e ▸ q))) (fun e => q.elim (fun q => by omega) (fun q => nd (e ▸ q)))
end Go.Proofs.Ytidfcmjlfadieaa

namespace Go.Proofs.Ytidfcmjlfadieaa
open Go Go.AbsE
set_option maxRecDepth 100000
set_option linter.unusedVariables false

theorem pass_ok (np nb ln : Int) (s m y : AVal) (Ls : List LeaseV) (hL : Ls.length ≤ 4) (hLs : ∀ l, l ∈ Ls → inI64 (l.th - 1)) (hln : inI64 (ln + 1)) (hss : sameA s s = true) (hyc : y.cells = [y]) {base : Nat} :
    ∀ (rest : List LeaseV) (i : Nat) (st : List Int), Ls.drop i = rest → i ≤ Ls.length → OkSt st → ∀ (F : Nat → Prop) (J E : Nat → AH → (Nat → Prop) → Prop) (h : AH), KeepSl F h 5 s (Ls.map LeaseV.cells) → base ≤ h.next → Takes Try.prog base y (passV rest i ln st) J E → J 0 h F →
      Runs Try.prog 166 [.agg [.int .i64 np, .int .i64 nb, s, m], .agg (.int .i64 ln :: st.map I64), .int .i64 (i : Int), y] h (PassR F J E (passV rest i ln st).length h) := by
  intro rest
  induction rest with
  | nil =>
    intro i st hd hi hst F J E h hs hb T hJ
    have : i = Ls.length := by
      have := congrArg List.length hd
      rw [List.length_drop, List.length_nil] at this
      omega
    subst this
    exact pass_last np nb ln s m y Ls st hst.1 hln F J E h hs hyc hb T hJ
  | cons l rest ih =>
    intro i st hd hi hst F J E h hs hb T hJ
    have hlt : i < Ls.length := by
      have := congrArg List.length hd
      rw [List.length_drop, List.length_cons] at this
      omega
    have hl : Ls[i]? = some l := by
      have : (Ls.drop i)[0]? = some l := by rw [hd]; rfl
      rw [List.getElem?_drop] at this
      exact this
    have hd2 : Ls.drop (i + 1) = rest := by rw [← List.tail_drop, hd]; rfl
    obtain ⟨sv, hsv⟩ : ∃ sv, st[i]? = some sv := ⟨st[i]'(by have := hst.1; omega), by simp⟩
    have hs2 := hst.get hsv
    refine pass_step np nb ln s m y Ls rest l i st sv hl hst.1 hsv (hLs l (List.mem_of_getElem? hl)) (by constructor <;> omega) F J E h hs hss hyc hb T hJ ?_
    intro x hx F' J' E' h' hs' hb' T' hJ'
    have := ih (i + 1) (st.set i x) hd2 (by omega) (hst.set (pastV_ok hs2 hx)) F' J' E' h' hs' hb' T' hJ'
    rw [Int.natCast_add] at this
    exact this

/-- next's iterator. -/
theorem next1_ok (np nb ln : Int) (s m y : AVal) (Ls : List LeaseV) (st : List Int) (hL : Ls.length ≤ 4) (hLs : ∀ l, l ∈ Ls → inI64 (l.th - 1)) (hln : inI64 (ln + 1)) (hss : sameA s s = true) (hyc : y.cells = [y]) (hst : OkSt st) {base : Nat} (b2 b3 : Nat)
    (F : Nat → Prop) (J E : Nat → AH → (Nat → Prop) → Prop) (h : AH) (f2 : Has h b2 (.cells .plain [.int .i64 np, .int .i64 nb, s, m] 92)) (f3 : Has h b3 (.cells .plain (.int .i64 ln :: st.map I64) 149))
    (hs : KeepSl F h 5 s (Ls.map LeaseV.cells)) (hb : base ≤ h.next) (T : Takes Try.prog base y ((passP Ls 0 ln st).map prC) J E) (hJ : J 0 h F) :
    Runs Try.prog 165 [y, .ptr b2 0, .ptr b3 0] h (fun en h' => en = .ret (.tuple []) ∧ ExtF F h h' ∧ ∃ F', (∀ b, F' b → F b ∨ h.next ≤ b) ∧ (J (passP Ls 0 ln st).length h' F' ∨ ∃ k, k < (passP Ls 0 ln st).length ∧ E k h' F')) := by
  rw [← passV_eq] at T
  refine Runs.intro aFunc165 rfl rfl rfl rfl fun rest => ?_
  refine Go.region noJ_ok rfl ?_
  refine GoR.op rfl rfl (ld92 rfl f2 rfl) rfl ?_
  refine GoR.op rfl rfl (ld149 rfl f3 (prog_cells hst.1)) rfl ?_
  refine GoR.op rfl rfl rfl rfl ?_
  refine GoR.call rfl rfl (aOp_callFunc aFunc166 rfl) (pass_ok np nb ln s m y Ls hL hLs hln hss hyc Ls 0 st rfl (Nat.zero_le _) hst F J E h hs hb T hJ) ?_ (by rintro _ _ ⟨_, _, _, ⟨q, _⟩ | ⟨_, _, q, _⟩⟩ <;> cases q)
  rintro v h1 ⟨x1, F1, hF1, hv⟩
  rw [passV_eq, List.length_map] at hv
  refine ⟨_, rfl, GoR.end (Go.endL (FLeft.ret (v := .tuple []) (aResult_of Try.func165 rfl rfl) ⟨rfl, x1, F1, hF1, ?_⟩))⟩
  rcases hv with ⟨_, q⟩ | ⟨k, hk, _, q⟩
  · exact .inl q
  · exact .inr ⟨k, hk, q⟩
end Go.Proofs.Ytidfcmjlfadieaa

namespace Go.Proofs.Ytidfcmjlfadieaa
open Go Go.AbsE
set_option maxRecDepth 100000
set_option linter.unusedVariables false
theorem key149 : KeyT Try.prog 149 3 147 146 := ⟨⟨_, _, Try.underlying149, by decide, by decide, rfl, rfl, rfl, rfl⟩, by kernel_rfl, ⟨_, Try.underlying3⟩, Try.underlying147, sz147, ⟨_, Try.underlying146⟩, sz146⟩
theorem aOp_buildArr {t : Tr AVal} {h : AH} {dst : Option Tmp} {tt : TypeId} {pos : String} {after : Array Edge} {guard : Option (Nat × Bool)} {ty el : TypeId} {len size : Nat} {parts : Array (Nat × Operand)} {ps : List (Nat × AVal)} {z : AVal} {cs : List AVal} (hz : zeroT Try.prog ty = some z) (hu : Try.prog.underlying ty = some (.array len el)) (hs : sizeT Try.prog el = some size)
    (hp : evParts t parts.toList = some ps) (hc : aFillA (fun i => some (i * size, size)) z.cells ps = some cs) : aOp Try.prog t h ⟨dst, .build ty parts, tt, pos, after, guard⟩ = some (.val (.agg cs) h) := by
  show opBuild Try.prog t h ty parts = _
  unfold opBuild
  rw [hz, hp, hu]
  simp only [hs, hc]
theorem ExtF.on {F : Nat → Prop} {a b c : AH} (x : ExtF F a b) (y : ExtF F b c) : ExtF F a c := x.trans (fun _ q => .inl q) y

structure WaysIn (S : Sv) (s m av : AVal) (bg bk ba bw bh bm : Nat) (h : AH) : Prop where
  g : Has h bg (.cells .plain [.int .i64 S.np, .int .i64 S.nb, s, m] 92)
  k : Has h bk (.cells .plain [.map bm] 164)
  a : Has h ba (.cells .plain [av] 144)
  w : Has h bw (.cells .plain [.func (.func 130) [] [.ptr bg 0, .ptr bk 0, .ptr ba 0, .ptr bw 0, .ptr bh 0]] 165)
  hd : Has h bh (.cells .plain [.int .i64 S.hd] 3)
  kp : ∀ h', ExtF (fun b => b = bm) h h' → SliceOf h' 5 s (S.Ls.map LeaseV.cells) ∧ AsksFrom av S.A h'
  ne : bg ≠ bm ∧ bk ≠ bm ∧ ba ≠ bm ∧ bw ≠ bm ∧ bh ≠ bm
variable {S : Sv} {s m av : AVal} {bg bk ba bw bh bm : Nat} {h h' : AH}
theorem WaysIn.on (I : WaysIn S s m av bg bk ba bw bh bm h) (x : ExtF (fun b => b = bm) h h') : WaysIn S s m av bg bk ba bw bh bm h' :=
  ⟨I.g.extF x I.ne.1, I.k.extF x I.ne.2.1, I.a.extF x I.ne.2.2.1, I.w.extF x I.ne.2.2.2.1, I.hd.extF x I.ne.2.2.2.2, fun h2 y => I.kp h2 (ExtF.on x y), I.ne⟩
def MapR (S : Sv) (bm : Nat) (h : AH) : Prop := ∃ es c f, Has h bm (.map es c) ∧ MapOf es f ∧ Four f ∧ ∀ x, x ∈ f → S.At x.1 ∧ x.2 = .agg ((S.W x.1).map I64)
theorem MapR.ext (k : MapR S bm h) (e : Ext h h') : MapR S bm h' := by
  obtain ⟨es, c, f, k1, k2⟩ := k
  exact ⟨es, c, f, k1.ext e, k2⟩
theorem MapR.same (k : MapR S bm h) (hn : h.next ≤ h'.next) (e : h'.get bm = h.get bm) : MapR S bm h' := by
  obtain ⟨es, c, f, k1, k2⟩ := k
  exact ⟨es, c, f, ⟨Nat.lt_of_lt_of_le k1.1 hn, by rw [e]; exact k1.2⟩, k2⟩
theorem MapR.lt (k : MapR S bm h) : bm < h.next := by
  obtain ⟨es, c, f, k1, k2⟩ := k
  exact k1.1
noncomputable def ops130 : Array Oper := ((drawnOps Try.f130)[0]?).getD #[]
theorem plan130 : plan ops130 = some (mkPlan ops130.toList [(0, 0, true, false), (1, 0, true, false), (2, 0, true, false), (3, 0, true, false), (4, 0, true, false), (5, 28, false, false), (6, 63, false, false), (7, 127, false, false)]) := by kernel_rfl
theorem sameA_I64 (l : List Int) : sameA (.agg (l.map I64)) (.agg (l.map I64)) = true := sameAs_I64 l
theorem ownN_cast (S : Sv) (q : Pr) : ((S.ownN q : Nat) : Int) = if doneV S.np q.1 = false ∧ ownerV S.nb S.Ls q.2 = S.hd then 1 else 0 := by
  unfold Sv.ownN
  split <;> rfl
theorem ownN_le (S : Sv) (q : Pr) : S.ownN q ≤ 1 := by
  unfold Sv.ownN
  split <;> omega
/-- What plus needs. -/
theorem Sv.plus_hyp (hS : S.Ok) {p q : Pr} (hp : S.At p) (hd : doneV S.np p.1 = false) (hq : q ∈ S.nx p) {w : List Int} (hw : Wd w (S.rem p - 1)) (hsum : w.sum ≤ 16 * 16 ^ 11) :
    w.length = 11 ∧ (S.W q).length = 11 ∧ ∀ (i : Nat) (x : Int), (S.W q)[i]? = some x → 0 < x → i + S.ownN q < 11 ∧ ∀ y, (plusV (S.ownN q) (S.W q) w i)[i + S.ownN q]? = some y → inI64 (y + x) := by
  obtain ⟨q1, q2⟩ := S.rem_nx hp hd hq
  obtain ⟨a1, a2, _⟩ := S.wd hS _ q q1 rfl
  have hr : S.rem p ≤ 11 := by
    have := hp.ln
    have := hS.np
    unfold Sv.rem
    omega
  have hown : S.rem q - 1 + S.ownN q ≤ S.rem q := by
    have h1 := ownN_le S q
    by_cases e : S.rem q = 0
    · have : S.ownN q = 0 := by
        unfold Sv.ownN
        rw [(S.rem_zero q1).1 e]
        rfl
      omega
    · omega
  have hown1 := ownN_le S q
  have hpow : (16 : Int) ^ S.rem q ≤ 16 ^ 10 := by
    exact_mod_cast Nat.pow_le_pow_right (n := 16) (by omega) (show S.rem q ≤ 10 by omega)
  have e10 : (16 : Int) ^ 10 = 1099511627776 := by decide
  have e11 : (16 : Int) * 16 ^ 11 = 281474976710656 := by decide
  have hk : S.rem q - S.ownN q + S.ownN q = S.rem q ∨ S.rem q = 0 := by omega
  refine ⟨hw.len, a1.len, ?_⟩
  have hk2 : (S.rem q - S.ownN q) + S.ownN q ≤ 10 ∧ S.rem p - 1 ≤ (S.rem q - S.ownN q) + S.ownN q := by omega
  exact plusV_bound (k := S.rem q - S.ownN q) (hw.mono hk2.2) (a1.mono (by omega)) hk2.1 (by omega)

theorem Sv.fold_wd (hS : S.Ok) {p : Pr} (hp : S.At p) (hd : doneV S.np p.1 = false) (k : Nat) : Wd (((S.nx p).take k).foldl (S.stepW S.W) zero11) (S.rem p - 1) ∧ (((S.nx p).take k).foldl (S.stepW S.W) zero11).sum ≤ 16 * 16 ^ 11 := by
  have hr : S.rem p ≤ 11 := by
    have := hp.ln
    have := hS.np
    unfold Sv.rem
    omega
  obtain ⟨hr1, hr2⟩ := S.rem_pos hp hd
  have key : ∀ (l : List Pr) (w : List Int), (∀ q, q ∈ l → q ∈ S.nx p) → Wd w (S.rem p - 1) → Wd (l.foldl (S.stepW S.W) w) (S.rem p - 1) ∧ (l.foldl (S.stepW S.W) w).sum ≤ w.sum + l.length * 16 ^ 11 := by
    intro l
    induction l with
    | nil => intro w _ hw; exact ⟨hw, by simp⟩
    | cons q l ihl =>
      intro w hl hw
      obtain ⟨q1, q2⟩ := S.rem_nx hp hd (hl q (by simp))
      obtain ⟨a1, a2, _⟩ := S.wd hS _ q q1 rfl
      have hown1 := ownN_le S q
      have hown : S.rem q = 0 → S.ownN q = 0 := fun e => by
        unfold Sv.ownN
        rw [(S.rem_zero q1).1 e]
        rfl
      have hpow : (16 : Int) ^ S.rem q ≤ 16 ^ 11 := by
        exact_mod_cast Nat.pow_le_pow_right (n := 16) (by omega) (show S.rem q ≤ 11 by omega)
      rw [List.foldl_cons, List.length_cons]
      have one : Wd (S.stepW S.W w q) (S.rem p - 1) ∧ (S.stepW S.W w q).sum ≤ w.sum + 16 ^ 11 := by
        unfold Sv.stepW
        cases hs : S.suits q with
        | false =>
          have : (0 : Int) < 16 ^ 11 := by decide
          simp only [Bool.false_eq_true, if_false]
          exact ⟨hw, by omega⟩
        | true =>
          simp only [if_true]
          have hkk : S.rem p - 1 = S.rem q - S.ownN q + S.ownN q := by omega
          obtain ⟨b1, b2⟩ := plusV_sum (own := S.ownN q) (os := S.W q) (w := w) (k := S.rem q - S.ownN q) (by rw [← hkk]; exact hw) (a1.mono (by omega)) (by omega) 11 (Nat.le_refl _)
          rw [← hkk] at b1
          rw [List.take_of_length_le (by rw [a1.len]; exact Nat.le_refl _)] at b2
          exact ⟨b1, by omega⟩
      obtain ⟨i1, i2⟩ := ihl (S.stepW S.W w q) (fun x hx => hl x (by simp [hx])) one.1
      refine ⟨i1, ?_⟩
      have : ((l.length + 1 : Nat) : Int) * 16 ^ 11 = l.length * 16 ^ 11 + 16 ^ 11 := by rw [Int.natCast_add, Int.add_mul]; simp
      have := one.2
      omega
  obtain ⟨k1, k2⟩ := key ((S.nx p).take k) zero11 (fun q hq => List.mem_of_mem_take hq) (wd_zero.mono (by omega))
  refine ⟨k1, ?_⟩
  have e0 : zero11.sum = 0 := rfl
  have h16 : ((S.nx p).take k).length ≤ 16 := Nat.le_trans (List.length_take_le' _ _) (passP_le16 hS.Ls)
  have : (((S.nx p).take k).length : Int) * 16 ^ 11 ≤ 16 * 16 ^ 11 := Int.mul_le_mul_of_nonneg_right (by omega) (by decide)
  omega
end Go.Proofs.Ytidfcmjlfadieaa
