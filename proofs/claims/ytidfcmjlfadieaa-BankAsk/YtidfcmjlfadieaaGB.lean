import Derived.Test.YtidfcmjlfadieaaRB
import Derived.Test.YtidfcmjlfadieaaGA
namespace Go.Proofs.Ytidfcmjlfadieaa
open Go Go.AbsE
set_option maxRecDepth 100000
set_option linter.unusedVariables false
theorem zt139 : zeroT Try.prog 139 = some (.agg [.int .i64 0]) := by kernel_rfl
theorem zt28 : zeroT Try.prog 28 = some (.int .i64 0) := by kernel_rfl

/-- What a refusal panics with. -/
def refusal (code : Int) : List AEntry := [⟨.iface 139 (.agg [.int .i64 code]), false⟩]

theorem refuse_ok (b : Bool) (code : Int) (h : AH) : Runs Try.prog 74 [.bool b, .int .i64 code] h (fun en h' => h' = h ∧ ((b = false ∧ en = .ret (.tuple [])) ∨ (b = true ∧ en = .pan (refusal code)))) := by
  refine Runs.intro aFunc74 rfl rfl rfl rfl fun rest => ?_
  refine Go.seq noJ_ok (Go.region noJ_ok rfl ?_)
  refine GoR.op rfl rfl rfl rfl ?_
  cases b with
  | false =>
    refine GoR.end (Go.cond noJ_ok (b := false) rfl (Go.code noJ_ok (Go.endL (FLeft.ret (v := .tuple []) ?_ ⟨rfl, .inl ⟨rfl, rfl⟩⟩))))
    exact aResult_of Try.func74 rfl rfl
  | true =>
    refine GoR.end (Go.cond noJ_ok (b := true) rfl (Go.region noJ_ok rfl ?_))
    refine GoR.op rfl rfl rfl rfl ?_
    refine GoR.op rfl rfl (aOp_build zt139 Try.underlying139 rfl rfl rfl) rfl ?_
    refine GoR.op rfl rfl rfl rfl ?_
    refine GoR.panic rfl rfl rfl (FLeft.pan ⟨rfl, .inr ⟨rfl, rfl⟩⟩)

/-- attempt's last word, where its body panicked. -/
theorem attempt_pan {rest : List AFr} {t : Tr AVal} {h : AH} {b : Nat} {c0 code : Int} {R : AEnd → AH → Prop} (ht : t.get (pth 4) = some (.ptr b 0)) (hb : Has h b (.cells .plain [.int .i64 c0] 28))
    (hR : ∀ h', h.next ≤ h'.next → (∀ x, x < h.next → x ≠ b → h'.get x = h.get x) → R (.ret (.int .i64 code)) h') :
    FLeft Try.prog ⟨58, 14, [.call (.func 116) [.ptr b 0] []], false, none, rest⟩ (.panicking (refusal code)) t h (Post Try.prog 58 rest R) := by
  refine FLeft.defer (fun q => by cases q) aFunc116 rfl rfl rfl rfl fun todo => ?_
  refine Go.seq noJ_ok (Go.region noJ_ok rfl ?_)
  refine GoR.recover1 rfl rfl rfl rfl rfl ?_
  refine GoR.end (Go.block noJ_ok (Go.seq noJ_ok (Go.region noJ_ok rfl ?_)))
  refine GoR.op rfl rfl rfl rfl ?_
  refine GoR.end (Go.cond noJ_ok (b := false) rfl (Go.seq noJ_ok (Go.region noJ_ok rfl ?_)))
  refine GoR.op rfl rfl rfl rfl ?_
  refine GoR.op rfl rfl rfl rfl ?_
  refine GoR.op rfl rfl rfl rfl ?_
  refine GoR.end (Go.cond noJ_ok (b := true) rfl (Go.seq noJ_ok (Go.region noJ_ok rfl ?_)))
  refine GoR.alloc rfl rfl rfl zt139 rfl rfl fun h1 x1 f1 => ?_
  refine GoR.store rfl rfl rfl rfl rfl rfl f1 rfl sz139 rfl rfl rfl fun h2 u2 => ?_
  refine GoR.end (Go.region noJ_ok rfl ?_)
  refine GoR.op rfl rfl (fa139_0 rfl) rfl ?_
  refine GoR.op rfl rfl (ld28 rfl (u2.has f1) rfl) rfl ?_
  have x2 : Ext h h2 := x1.upd u2 (Nat.le_refl _)
  refine GoR.store rfl rfl rfl rfl rfl rfl (hb.ext x2) rfl sz28 rfl rfl rfl fun h3 u3 => ?_
  refine GoR.end (Go.inBlock noJ_ok (Go.endL ?_))
  refine FLeft.settle (v := .tuple []) (aResult_of Try.func116 rfl rfl) ?_
  exact FLeft.ret (v := .int .i64 code) (aResult_of Try.func58 rfl (aResults_cell ht (u3.has (hb.ext x2)) (inCells_one ag28 rfl))) (hR h3 (by rw [u3.1]; exact x2.1) (fun x hx hn => by rw [u3.2.2 x hn, x2.2 x hx])) todo

/-- attempt's last word, where it returns. -/
theorem attempt_ret {rest : List AFr} {t : Tr AVal} {h : AH} {b : Nat} {code : Int} {R : AEnd → AH → Prop} (ht : t.get (pth 4) = some (.ptr b 0)) (hb : Has h b (.cells .plain [.int .i64 code] 28)) (hR : R (.ret (.int .i64 code)) h) :
    FLeft Try.prog ⟨58, 14, [.call (.func 116) [.ptr b 0] []], false, none, rest⟩ .returning t h (Post Try.prog 58 rest R) := by
  refine FLeft.defer (fun q => by cases q) aFunc116 rfl rfl rfl rfl fun todo => ?_
  refine Go.seq noJ_ok (Go.region noJ_ok rfl ?_)
  refine GoR.recover0 rfl rfl rfl rfl rfl ?_
  refine GoR.end (Go.block noJ_ok (Go.seq noJ_ok (Go.region noJ_ok rfl ?_)))
  refine GoR.op rfl rfl rfl rfl ?_
  refine GoR.end (Go.cond noJ_ok (b := true) rfl (Go.region noJ_ok rfl ?_))
  refine GoR.op rfl rfl rfl rfl ?_
  refine GoR.end (Go.inBlock noJ_ok (Go.endL ?_))
  refine FLeft.settle (v := .tuple []) (aResult_of Try.func116 rfl rfl) ?_
  exact FLeft.ret (v := .int .i64 code) (aResult_of Try.func58 rfl (aResults_cell ht hb (inCells_one ag28 rfl))) hR todo

/-- What attempt is to do with a bank. -/
structure BankIn (h : AH) (np nh : Int) (s marks : AVal) (Ls : List LeaseV) (Ms : List MarkV) : Prop where
  hp : inI64 np
  hh : inI64 nh
  hs : SliceOf h 5 s (Ls.map LeaseV.cells)
  hm : SliceOf h 2 marks (Ms.map MarkV.cells)
  hss : sameA s s = true
  hsm : sameA marks marks = true
  hmc : marks.cells = [marks]
  hms : scalars [marks] = true

def bankValid (np nh : Int) (Ls : List LeaseV) (Ms : List MarkV) : Bool := decide (1 ≤ np ∧ np ≤ 10) && decide (1 ≤ nh ∧ nh ≤ 4) && decide ((Ls.length : Int) ≤ 4) && (Ls.map LeaseV.cells).all (fitsF np nh) && decide ((Ms.length : Int) ≤ 6) && (Ms.map MarkV.cells).all (markF np nh)

theorem attempt_invalid (np nh : Int) (s marks : AVal) (Ls : List LeaseV) (Ms : List MarkV) (F : FuncId) (first cap : List AVal) (h : AH) (B : BankIn h np nh s marks Ls Ms) (hv : bankValid np nh Ls Ms = false) :
    Runs Try.prog 58 [.agg [.int .i64 np, .int .i64 nh, s, marks], .func (.func F) first cap] h (fun en h' => en = .ret (.int .i64 1) ∧ Ext h h') := by
  refine Runs.intro aFunc58 rfl rfl rfl rfl fun rest => ?_
  refine Go.seq noJ_ok (Go.region noJ_ok rfl ?_)
  refine GoR.box rfl rfl rfl rfl rfl rfl fun h1 x1 f1 => ?_
  refine GoR.alloc rfl rfl rfl zt28 rfl rfl fun h2 x2 f2 => ?_
  replace f1 := f1.ext x2
  refine GoR.end (Go.seq noJ_ok (Go.region noJ_ok rfl ?_))
  refine GoR.op rfl rfl rfl rfl ?_
  refine GoR.defer rfl rfl rfl rfl ?_
  refine GoR.end (Go.seq noJ_ok (Go.region noJ_ok rfl ?_))
  refine GoR.op rfl rfl (ld25 rfl f1 rfl) rfl ?_
  refine GoR.call rfl rfl (aOp_callFunc aFunc117 rfl) (valid_ok np nh s marks Ls Ms B.hp B.hh _ (B.hs.ext (x1.trans x2)) (B.hm.ext (x1.trans x2)) B.hss B.hsm hv) ?_ (by rintro _ _ ⟨q, _⟩; cases q)
  rintro _ h3 ⟨q, x3⟩
  cases q
  replace f1 := f1.ext x3
  replace f2 := f2.ext x3
  refine ⟨_, rfl, ?_⟩
  refine GoR.op rfl rfl rfl rfl ?_
  refine GoR.callP rfl rfl (aOp_callFunc aFunc74 rfl) (refuse_ok true 1 h3) (by rintro _ _ ⟨_, ⟨q, _⟩ | ⟨_, q⟩⟩ <;> cases q) ?_
  rintro chain h4 ⟨rfl, ⟨q, _⟩ | ⟨_, q⟩⟩
  · cases q
  have q := (AEnd.pan.inj q)
  subst q
  refine attempt_pan rfl f2 ?_
  intro h' n1 n2
  refine ⟨rfl, Nat.le_trans ((x1.trans x2).trans x3).1 n1, fun x hx => ?_⟩
  have a1 := x1.1
  have a3 := ((x1.trans x2).trans x3).1
  rw [n2 x (by omega) (by omega), ((x1.trans x2).trans x3).2 x hx]

theorem has_extS {S : List Nat} {h h' : AH} {b : Nat} {o : ABlk} (k : Has h b o) (e : ExtS S h h') (hb : b ∉ S) : Has h' b o := ⟨Nat.lt_of_lt_of_le k.1 e.1, by rw [e.2 b k.1 hb]; exact k.2⟩

theorem attempt_valid (np nh : Int) (s marks : AVal) (Ls : List LeaseV) (Ms : List MarkV) (F : FuncId) (fF : Func) (hF : aFunc Try.prog F = some fF) (first cap : List AVal) (h : AH) (B : BankIn h np nh s marks Ls Ms) (hv : bankValid np nh Ls Ms = true)
    (S : List Nat) (hS : ∀ b, b ∈ S → b < h.next) (T : Int → AH → Prop)
    (hbody : ∀ s' h', Ext h h' → SliceOf h' 5 s' (Ls.map LeaseV.cells) → sameA s' s' = true → s'.cells = [s'] → scalars [s'] = true →
      Runs Try.prog F (first ++ [.agg [.int .i64 np, .int .i64 nh, s', marks]] ++ cap) h' (fun en h'' => ExtS S h' h'' ∧ ((en = .ret (.tuple []) ∧ T 0 h'') ∨ ∃ code, en = .pan (refusal code) ∧ T code h''))) :
    Runs Try.prog 58 [.agg [.int .i64 np, .int .i64 nh, s, marks], .func (.func F) first cap] h (fun en h' => ∃ code h2, en = .ret (.int .i64 code) ∧ T code h2 ∧ ExtS S h h' ∧ ∀ b, b < h.next → h'.get b = h2.get b) := by
  have hlen : Ls.length ≤ 100 := by
    unfold bankValid at hv
    simp only [Bool.and_eq_true, decide_eq_true_eq] at hv
    omega
  refine Runs.intro aFunc58 rfl rfl rfl rfl fun rest => ?_
  refine Go.seq noJ_ok (Go.region noJ_ok rfl ?_)
  refine GoR.box rfl rfl rfl rfl rfl rfl fun h1 x1 f1 => ?_
  refine GoR.alloc rfl rfl rfl zt28 rfl rfl fun h2 x2 f2 => ?_
  replace f1 := f1.ext x2
  refine GoR.end (Go.seq noJ_ok (Go.region noJ_ok rfl ?_))
  refine GoR.op rfl rfl rfl rfl ?_
  refine GoR.defer rfl rfl rfl rfl ?_
  refine GoR.end (Go.seq noJ_ok (Go.region noJ_ok rfl ?_))
  refine GoR.op rfl rfl (ld25 rfl f1 rfl) rfl ?_
  refine GoR.call rfl rfl (aOp_callFunc aFunc117 rfl) (valid_ok np nh s marks Ls Ms B.hp B.hh _ (B.hs.ext (x1.trans x2)) (B.hm.ext (x1.trans x2)) B.hss B.hsm hv) ?_ (by rintro _ _ ⟨q, _⟩; cases q)
  rintro _ h3 ⟨q, x3⟩
  cases q
  replace f1 := f1.ext x3
  replace f2 := f2.ext x3
  refine ⟨_, rfl, ?_⟩
  refine GoR.op rfl rfl rfl rfl ?_
  refine GoR.call rfl rfl (aOp_callFunc aFunc74 rfl) (refuse_ok false 1 h3) ?_ (by rintro _ _ ⟨_, ⟨_, q⟩ | ⟨q, _⟩⟩ <;> cases q)
  rintro v h4 ⟨rfl, ⟨_, q⟩ | ⟨q, _⟩⟩
  case inr => cases q
  cases q
  refine ⟨_, rfl, ?_⟩
  refine GoR.end (Go.seq noJ_ok (Go.region noJ_ok rfl ?_))
  refine GoR.op rfl rfl rfl rfl ?_
  refine GoR.op rfl rfl (ld25 rfl f1 rfl) rfl ?_
  have x13 := (x1.trans x2).trans x3
  refine GoR.call rfl rfl (aOp_callFunc aFunc118 rfl) (survey_ok np nh s marks (Ls.map LeaseV.cells) _ (by rw [List.length_map]; exact hlen) five_all (B.hs.ext x13) B.hss B.hsm B.hmc B.hms) ?_ (by rintro _ _ ⟨_, q, _⟩; cases q)
  rintro _ h5 ⟨s', q, x5, g5⟩
  have q := (AEnd.ret.inj q)
  subst q
  replace f2 := f2.ext x5
  have x15 := x13.trans x5
  have hsc' : s'.cells = [s'] ∧ scalars [s'] = true ∧ sameA s' s' = true := by
    obtain ⟨_, ⟨rfl, _⟩ | ⟨_, b, _, rfl, _⟩⟩ := g5
    · exact ⟨rfl, rfl, rfl⟩
    · exact ⟨rfl, rfl, by simp [sameA]⟩
  obtain ⟨k1, k2, k3⟩ := hsc'
  refine ⟨_, rfl, ?_⟩
  have hnS : h1.next ∉ S := fun q => absurd (hS _ q) (by have := x1.1; omega)
  have ext_of : ∀ {h6 h7 : AH}, ExtS S h5 h6 → h6.next ≤ h7.next → (∀ x, x < h6.next → x ≠ h1.next → h7.get x = h6.get x) → ExtS S h h7 ∧ ∀ b, b < h.next → h7.get b = h6.get b := by
    intro h6 h7 e n1 n2
    have a1 := x1.1
    have a2 := x15.1
    have a3 := e.1
    have a4 : ∀ b, b < h.next → h7.get b = h6.get b := fun b hb => n2 b (by omega) (by omega)
    exact ⟨⟨by omega, fun b hb hbS => by rw [a4 b hb, e.2 b (by omega) hbS, x15.2 b hb]⟩, a4⟩
  refine GoR.callP rfl rfl (aOp_callVal rfl hF rfl) (hbody s' h5 x15 (g5.sliceOf (slice_flatten five_len)) k3 k1 k2) ?_ ?_
  · rintro v h6 ⟨e6, ⟨q, hT⟩ | ⟨code, q, _⟩⟩
    case inr => cases q
    cases q
    refine ⟨_, rfl, ?_⟩
    refine GoR.end (Go.seq noJ_ok (Go.region noJ_ok rfl ?_))
    have f6 := has_extS f2 e6 hnS
    refine GoR.store rfl rfl rfl rfl rfl rfl f6 rfl sz28 rfl rfl rfl fun h7 u7 => ?_
    refine GoR.end (Go.retL (attempt_ret (code := 0) rfl (u7.has f6) ?_))
    obtain ⟨y1, y2⟩ := ext_of (h7 := h7) e6 (by rw [u7.1]; exact Nat.le_refl _) (fun x _ hx => u7.2.2 x hx)
    exact ⟨0, h6, rfl, hT, y1, y2⟩
  · rintro chain h6 ⟨e6, ⟨q, _⟩ | ⟨code, q, hT⟩⟩
    · cases q
    have q := (AEnd.pan.inj q)
    subst q
    refine attempt_pan rfl (has_extS f2 e6 hnS) ?_
    intro h7 n1 n2
    obtain ⟨y1, y2⟩ := ext_of e6 n1 n2
    exact ⟨code, h6, rfl, hT, y1, y2⟩
end Go.Proofs.Ytidfcmjlfadieaa

namespace Go.Proofs.Ytidfcmjlfadieaa
open Go Go.AbsE
set_option maxRecDepth 100000
set_option linter.unusedVariables false
theorem done_ok (np nb ln : Int) (s m s0 s1 s2 s3 : AVal) {r : Bool} (hr : decide (ln > np) = r) (h : AH) : Runs Try.prog 123 [.agg [.int .i64 np, .int .i64 nb, s, m], .agg [.int .i64 ln, s0, s1, s2, s3]] h (fun en h' => en = .ret (.bool r) ∧ Ext h h') := by
  refine Runs.intro aFunc123 rfl rfl rfl rfl fun rest => ?_
  refine Go.seq noJ_ok (Go.region noJ_ok rfl ?_)
  refine GoR.box rfl rfl rfl rfl rfl rfl fun h1 x1 f1 => ?_
  refine GoR.box rfl rfl rfl rfl rfl rfl fun h2 x2 f2 => ?_
  replace f1 := f1.ext x2
  refine GoR.op rfl rfl rfl rfl ?_
  refine GoR.end (Go.seq noJ_ok (Go.region noJ_ok rfl ?_))
  refine GoR.op rfl rfl (fa149_0 rfl) rfl ?_
  refine GoR.op rfl rfl (ld3 rfl f2 rfl) rfl ?_
  refine GoR.op rfl rfl (fa92_0 rfl) rfl ?_
  refine GoR.op rfl rfl (ld3 rfl f1 rfl) rfl ?_
  refine GoR.op rfl rfl (aOp_gtr rfl rfl hr) rfl ?_
  refine GoR.op rfl rfl rfl rfl ?_
  exact GoR.end (Go.ret noJ_ok (ret_end (aResult_of Try.func123 rfl rfl) ⟨rfl, (x1).trans x2⟩))

def denyV (p hh : Int) (m : MarkV) : Bool := decide (m.p = p) && !decide (m.h = hh)
theorem denies_ok (marks : AVal) (Ms : List MarkV) (p hh : Int) (h : AH) (hL : Ms.length ≤ 100) (hs : SliceOf h 2 marks (Ms.map MarkV.cells)) (hmc : marks.cells = [marks]) :
    Runs Try.prog 217 [.agg [marks], .int .i64 p, .int .i64 hh] h (fun en h' => en = .ret (.bool (Ms.any (denyV p hh))) ∧ Ext h h') := by
  refine Runs.intro aFunc217 rfl rfl rfl rfl fun rest => ?_
  refine Go.seq noJ_ok (Go.region noJ_ok rfl ?_)
  refine GoR.box rfl rfl rfl rfl rfl rfl fun h1 x1 f1 => ?_
  refine GoR.op rfl rfl rfl rfl ?_
  refine GoR.end (Go.seq noJ_ok (Go.seq noJ_ok (Go.region noJ_ok rfl ?_)))
  refine GoR.op rfl rfl (fa90_0 rfl) rfl ?_
  refine GoR.op rfl rfl (ld23 rfl f1 rfl) rfl ?_
  refine GoR.op rfl rfl (aOp_lenSlice Try.underlying23 rfl hs.len) rfl ?_
  refine GoR.op rfl rfl rfl rfl ?_
  refine GoR.end (Go.block noJ_ok ?_)
  rw [List.length_map]
  refine Go.keep [(1, .int .i64 p), (2, .int .i64 hh), (10, marks), (11, .int .i64 Ms.length), (12, .int .i64 0)] ⟨rfl, rfl, rfl, rfl, rfl, trivial⟩ ?_
  refine Go.loopInv (fun n t h' => ∃ i, n + i = Ms.length ∧ t = keepT [(1, .int .i64 p), (2, .int .i64 hh), (10, marks), (11, .int .i64 Ms.length), (12, .int .i64 (Int.ofNat i))] ∧ Ext h h' ∧ (Ms.take i).any (denyV p hh) = false) (n := Ms.length) ⟨0, rfl, rfl, x1, rfl⟩ ?_
  rintro n t h2 ⟨i, hn, rfl, x2, ha⟩ again
  refine Go.seq noJ_ok (Go.region noJ_ok rfl ?_)
  by_cases hi : i < Ms.length
  · refine GoR.op rfl rfl (aOp_lss rfl rfl (r := true) (by simp; omega)) rfl ?_
    refine GoR.end (Go.seq noJ_ok (Go.cond noJ_ok rfl (Go.code noJ_ok ?_)))
    refine Go.seq noJ_ok (Go.block noJ_ok (Go.seq noJ_ok (Go.region noJ_ok rfl ?_)))
    obtain ⟨m, hm⟩ : ∃ m, Ms[i]? = some m := ⟨Ms[i], by simp [hi]⟩
    have hl : (Ms.map MarkV.cells)[i]? = some m.cells := by rw [List.getElem?_map, hm]; rfl
    obtain ⟨b, off, k1, k2⟩ := (hs.ext x2).at hl
    rw [List.length_map] at k1
    refine GoR.op rfl rfl (aOp_indexAddr Try.underlying23 sz52 rfl k1 rfl (Nat.ble_eq_true_of_le hi)) rfl ?_
    refine GoR.op rfl rfl (aOp_loadE ag52 sz52 rfl k2) rfl ?_
    refine GoR.alloc rfl rfl rfl zt52 rfl rfl fun h3 x3 f3 => ?_
    refine GoR.store rfl rfl rfl rfl rfl rfl f3 rfl sz52 rfl rfl rfl fun h4 u4 => ?_
    have x4 : Ext h2 h4 := x3.upd u4 (Nat.le_refl _)
    have f4 := u4.has f3
    refine GoR.end (Go.seq noJ_ok (Go.region noJ_ok rfl ?_))
    have hmore : (Ms.take (i + 1)).any (denyV p hh) = denyV p hh m := by rw [List.take_add_one, hm]; simp [ha]
    cases e1 : decide (m.p = p) with
    | false =>
      refine GoR.op rfl rfl (fa52_0 rfl) rfl ?_
      refine GoR.op rfl rfl (ld3 rfl f4 rfl) rfl ?_
      refine GoR.op rfl rfl rfl rfl ?_
      refine GoR.op rfl rfl (aOp_eql rfl rfl (r := false) e1) rfl ?_
      refine GoR.op rfl rfl rfl rfl ?_
      refine GoR.skip rfl rfl rfl ?_
      refine GoR.skip rfl rfl rfl ?_
      refine GoR.skip rfl rfl rfl ?_
      refine GoR.skip rfl rfl rfl ?_
      refine GoR.op rfl rfl rfl rfl ?_
      have hd : denyV p hh m = false := by unfold denyV; rw [e1]; rfl
      rw [hd] at hmore
      refine GoR.end (Go.cond noJ_ok (b := false) rfl (Go.code noJ_ok ?_))
      refine Go.inBlock noJ_ok (Go.region noJ_ok rfl ?_)
      have hi64 : inI64 (Int.ofNat i + 1) := by constructor <;> simp <;> omega
      refine GoR.op rfl rfl (aOp_add rfl rfl hi64 rfl) rfl ?_
      refine GoR.op rfl rfl rfl rfl ?_
      refine GoR.end ?_
      refine Go.keep [(1, .int .i64 p), (2, .int .i64 hh), (10, marks), (11, .int .i64 Ms.length), (12, .int .i64 (Int.ofNat i + 1))] ⟨rfl, rfl, rfl, rfl, rfl, trivial⟩ ?_
      exact again (n - 1) _ _ (by omega) ⟨i + 1, by omega, rfl, x2.trans x4, hmore⟩
    | true =>
      cases e2 : decide (m.h = hh) with
      | false =>
        refine GoR.op rfl rfl (fa52_0 rfl) rfl ?_
        refine GoR.op rfl rfl (ld3 rfl f4 rfl) rfl ?_
        refine GoR.op rfl rfl rfl rfl ?_
        refine GoR.op rfl rfl (aOp_eql rfl rfl (r := true) e1) rfl ?_
        refine GoR.op rfl rfl rfl rfl ?_
        refine GoR.op rfl rfl (fa52_1 rfl) rfl ?_
        refine GoR.op rfl rfl (ld3 rfl f4 rfl) rfl ?_
        refine GoR.op rfl rfl rfl rfl ?_
        refine GoR.op rfl rfl (aOp_neq rfl rfl (r := true) e2) rfl ?_
        refine GoR.op rfl rfl rfl rfl ?_
        refine GoR.end (Go.cond noJ_ok (b := true) rfl (Go.seq noJ_ok (Go.region noJ_ok rfl ?_)))
        refine GoR.op rfl rfl rfl rfl ?_
        refine GoR.end (Go.ret noJ_ok (ret_end (aResult_of Try.func217 rfl rfl) ⟨?_, x2.trans x4⟩))
        have : Ms.any (denyV p hh) = true := List.any_eq_true.2 ⟨m, List.mem_of_getElem? hm, by unfold denyV; rw [e1, e2]; rfl⟩
        rw [this]
        rfl
      | true =>
        refine GoR.op rfl rfl (fa52_0 rfl) rfl ?_
        refine GoR.op rfl rfl (ld3 rfl f4 rfl) rfl ?_
        refine GoR.op rfl rfl rfl rfl ?_
        refine GoR.op rfl rfl (aOp_eql rfl rfl (r := true) e1) rfl ?_
        refine GoR.op rfl rfl rfl rfl ?_
        refine GoR.op rfl rfl (fa52_1 rfl) rfl ?_
        refine GoR.op rfl rfl (ld3 rfl f4 rfl) rfl ?_
        refine GoR.op rfl rfl rfl rfl ?_
        refine GoR.op rfl rfl (aOp_neq rfl rfl (r := false) e2) rfl ?_
        refine GoR.op rfl rfl rfl rfl ?_
        have hd : denyV p hh m = false := by unfold denyV; rw [e1, e2]; rfl
        rw [hd] at hmore
        refine GoR.end (Go.cond noJ_ok (b := false) rfl (Go.code noJ_ok ?_))
        refine Go.inBlock noJ_ok (Go.region noJ_ok rfl ?_)
        have hi64 : inI64 (Int.ofNat i + 1) := by constructor <;> simp <;> omega
        refine GoR.op rfl rfl (aOp_add rfl rfl hi64 rfl) rfl ?_
        refine GoR.op rfl rfl rfl rfl ?_
        refine GoR.end ?_
        refine Go.keep [(1, .int .i64 p), (2, .int .i64 hh), (10, marks), (11, .int .i64 Ms.length), (12, .int .i64 (Int.ofNat i + 1))] ⟨rfl, rfl, rfl, rfl, rfl, trivial⟩ ?_
        exact again (n - 1) _ _ (by omega) ⟨i + 1, by omega, rfl, x2.trans x4, hmore⟩
  · refine GoR.op rfl rfl (aOp_lss rfl rfl (r := false) (by simp; omega)) rfl ?_
    refine GoR.end (Go.seq noJ_ok (Go.cond noJ_ok rfl (Go.code noJ_ok ?_)))
    refine Go.seq noJ_ok (Go.region noJ_ok rfl ?_)
    refine GoR.op rfl rfl rfl rfl ?_
    refine GoR.end (Go.ret noJ_ok (ret_end (aResult_of Try.func217 rfl rfl) ⟨?_, x2⟩))
    have : i = Ms.length := by omega
    subst this
    rw [List.take_length] at ha
    rw [ha]
    rfl

theorem right218_ok (marks : AVal) (Ms : List MarkV) (p hh : Int) (h : AH) (hL : Ms.length ≤ 100) (hs : SliceOf h 2 marks (Ms.map MarkV.cells)) (hmc : marks.cells = [marks]) {r : Bool} (hr : (!Ms.any (denyV p hh)) = r) :
    Runs Try.prog 218 [.agg [marks], .int .i64 p, .int .i64 hh] h (fun en h' => en = .ret (.bool r) ∧ Ext h h') := by
  refine Runs.intro aFunc218 rfl rfl rfl rfl fun rest => ?_
  refine Go.seq noJ_ok (Go.region noJ_ok rfl ?_)
  refine GoR.box rfl rfl rfl rfl rfl rfl fun h1 x1 f1 => ?_
  refine GoR.op rfl rfl rfl rfl ?_
  refine GoR.end (Go.seq noJ_ok (Go.region noJ_ok rfl ?_))
  refine GoR.op rfl rfl (ld90 rfl f1 rfl) rfl ?_
  refine GoR.op rfl rfl rfl rfl ?_
  refine GoR.op rfl rfl rfl rfl ?_
  refine GoR.call rfl rfl (aOp_callFunc aFunc217 rfl) (denies_ok marks Ms p hh _ hL (hs.ext x1) hmc) ?_ (by rintro _ _ ⟨q, _⟩; cases q)
  rintro _ h2 ⟨q, x2⟩
  cases q
  replace f1 := f1.ext x2
  refine ⟨_, rfl, ?_⟩
  refine GoR.op rfl rfl rfl rfl ?_
  refine GoR.op rfl rfl rfl rfl ?_
  subst hr
  exact GoR.end (Go.ret noJ_ok (ret_end (aResult_of Try.func218 rfl rfl) ⟨rfl, (x1).trans x2⟩))

def claimV (a b o p hh : Int) : Bool := decide (hh = o) || !decide (a ≤ p ∧ p ≤ b)
theorem right223_ok (marks : AVal) (Ms : List MarkV) (a b o p hh : Int) (h : AH) (hL : Ms.length ≤ 100) (hs : SliceOf h 2 marks (Ms.map MarkV.cells)) (hmc : marks.cells = [marks]) {r : Bool} (hr : (!Ms.any (denyV p hh) && claimV a b o p hh) = r) :
    Runs Try.prog 223 [.agg [marks, .int .i64 a, .int .i64 b, .int .i64 o], .int .i64 p, .int .i64 hh] h (fun en h' => en = .ret (.bool r) ∧ Ext h h') := by
  refine Runs.intro aFunc223 rfl rfl rfl rfl fun rest => ?_
  refine Go.seq noJ_ok (Go.region noJ_ok rfl ?_)
  refine GoR.box rfl rfl rfl rfl rfl rfl fun h1 x1 f1 => ?_
  refine GoR.op rfl rfl rfl rfl ?_
  refine GoR.end (Go.seq noJ_ok (Go.region noJ_ok rfl ?_))
  cases e1 : Ms.any (denyV p hh) with
  | true =>
    refine GoR.op rfl rfl (fa206_0 rfl) rfl ?_
    refine GoR.op rfl rfl (ld90 rfl f1 rfl) rfl ?_
    refine GoR.op rfl rfl rfl rfl ?_
    refine GoR.op rfl rfl rfl rfl ?_
    refine GoR.call rfl rfl (aOp_callFunc aFunc217 rfl) (e1 ▸ denies_ok marks Ms p hh _ hL (hs.ext x1) hmc) ?_ (by rintro _ _ ⟨q, _⟩; cases q)
    rintro _ h2 ⟨q, x2⟩
    cases q
    replace f1 := f1.ext x2
    refine ⟨_, rfl, ?_⟩
    refine GoR.op rfl rfl rfl rfl ?_
    refine GoR.op rfl rfl rfl rfl ?_
    refine GoR.skip rfl rfl rfl ?_
    refine GoR.skip rfl rfl rfl ?_
    refine GoR.skip rfl rfl rfl ?_
    refine GoR.skip rfl rfl rfl ?_
    refine GoR.skip rfl rfl rfl ?_
    refine GoR.skip rfl rfl rfl ?_
    refine GoR.skip rfl rfl rfl ?_
    refine GoR.skip rfl rfl rfl ?_
    refine GoR.skip rfl rfl rfl ?_
    refine GoR.skip rfl rfl rfl ?_
    refine GoR.skip rfl rfl rfl ?_
    refine GoR.skip rfl rfl rfl ?_
    refine GoR.skip rfl rfl rfl ?_
    refine GoR.op rfl rfl rfl rfl ?_
    refine GoR.op rfl rfl rfl rfl ?_
    refine GoR.end (Go.ret noJ_ok (ret_end (aResult_of Try.func223 rfl rfl) ⟨?_, (x1).trans x2⟩))
    rw [← hr]
    simp only [claimV, e1]
    rfl
  | false =>
    cases e2 : decide (hh = o) with
    | true =>
      refine GoR.op rfl rfl (fa206_0 rfl) rfl ?_
      refine GoR.op rfl rfl (ld90 rfl f1 rfl) rfl ?_
      refine GoR.op rfl rfl rfl rfl ?_
      refine GoR.op rfl rfl rfl rfl ?_
      refine GoR.call rfl rfl (aOp_callFunc aFunc217 rfl) (e1 ▸ denies_ok marks Ms p hh _ hL (hs.ext x1) hmc) ?_ (by rintro _ _ ⟨q, _⟩; cases q)
      rintro _ h2 ⟨q, x2⟩
      cases q
      replace f1 := f1.ext x2
      refine ⟨_, rfl, ?_⟩
      refine GoR.op rfl rfl rfl rfl ?_
      refine GoR.op rfl rfl rfl rfl ?_
      refine GoR.op rfl rfl rfl rfl ?_
      refine GoR.op rfl rfl (fa206_3 rfl) rfl ?_
      refine GoR.op rfl rfl (ld3 rfl f1 rfl) rfl ?_
      refine GoR.op rfl rfl (aOp_eql rfl rfl (r := true) e2) rfl ?_
      refine GoR.op rfl rfl rfl rfl ?_
      refine GoR.skip rfl rfl rfl ?_
      refine GoR.skip rfl rfl rfl ?_
      refine GoR.skip rfl rfl rfl ?_
      refine GoR.skip rfl rfl rfl ?_
      refine GoR.skip rfl rfl rfl ?_
      refine GoR.skip rfl rfl rfl ?_
      refine GoR.skip rfl rfl rfl ?_
      refine GoR.op rfl rfl rfl rfl ?_
      refine GoR.op rfl rfl rfl rfl ?_
      refine GoR.op rfl rfl rfl rfl ?_
      refine GoR.end (Go.ret noJ_ok (ret_end (aResult_of Try.func223 rfl rfl) ⟨?_, (x1).trans x2⟩))
      rw [← hr]
      simp only [claimV, e1, e2]
      rfl
    | false =>
      cases e3 : decide (a ≤ p ∧ p ≤ b) with
      | true =>
        refine GoR.op rfl rfl (fa206_0 rfl) rfl ?_
        refine GoR.op rfl rfl (ld90 rfl f1 rfl) rfl ?_
        refine GoR.op rfl rfl rfl rfl ?_
        refine GoR.op rfl rfl rfl rfl ?_
        refine GoR.call rfl rfl (aOp_callFunc aFunc217 rfl) (e1 ▸ denies_ok marks Ms p hh _ hL (hs.ext x1) hmc) ?_ (by rintro _ _ ⟨q, _⟩; cases q)
        rintro _ h2 ⟨q, x2⟩
        cases q
        replace f1 := f1.ext x2
        refine ⟨_, rfl, ?_⟩
        refine GoR.op rfl rfl rfl rfl ?_
        refine GoR.op rfl rfl rfl rfl ?_
        refine GoR.op rfl rfl rfl rfl ?_
        refine GoR.op rfl rfl (fa206_3 rfl) rfl ?_
        refine GoR.op rfl rfl (ld3 rfl f1 rfl) rfl ?_
        refine GoR.op rfl rfl (aOp_eql rfl rfl (r := false) e2) rfl ?_
        refine GoR.op rfl rfl rfl rfl ?_
        refine GoR.op rfl rfl rfl rfl ?_
        refine GoR.op rfl rfl (fa206_1 rfl) rfl ?_
        refine GoR.op rfl rfl (ld3 rfl f1 rfl) rfl ?_
        refine GoR.op rfl rfl (fa206_2 rfl) rfl ?_
        refine GoR.op rfl rfl (ld3 rfl f1 rfl) rfl ?_
        refine GoR.call rfl rfl (aOp_callFunc aFunc75 rfl) (inside_ok _ _ _ e3 _) ?_ (by rintro _ _ ⟨q, _⟩; cases q)
        rintro _ h3 ⟨q, x3⟩
        cases q
        replace f1 := f1.ext x3
        refine ⟨_, rfl, ?_⟩
        refine GoR.op rfl rfl rfl rfl ?_
        refine GoR.op rfl rfl rfl rfl ?_
        refine GoR.op rfl rfl rfl rfl ?_
        refine GoR.op rfl rfl rfl rfl ?_
        refine GoR.end (Go.ret noJ_ok (ret_end (aResult_of Try.func223 rfl rfl) ⟨?_, ((x1).trans x2).trans x3⟩))
        rw [← hr]
        simp only [claimV, e1, e2, e3]
        rfl
      | false =>
        refine GoR.op rfl rfl (fa206_0 rfl) rfl ?_
        refine GoR.op rfl rfl (ld90 rfl f1 rfl) rfl ?_
        refine GoR.op rfl rfl rfl rfl ?_
        refine GoR.op rfl rfl rfl rfl ?_
        refine GoR.call rfl rfl (aOp_callFunc aFunc217 rfl) (e1 ▸ denies_ok marks Ms p hh _ hL (hs.ext x1) hmc) ?_ (by rintro _ _ ⟨q, _⟩; cases q)
        rintro _ h2 ⟨q, x2⟩
        cases q
        replace f1 := f1.ext x2
        refine ⟨_, rfl, ?_⟩
        refine GoR.op rfl rfl rfl rfl ?_
        refine GoR.op rfl rfl rfl rfl ?_
        refine GoR.op rfl rfl rfl rfl ?_
        refine GoR.op rfl rfl (fa206_3 rfl) rfl ?_
        refine GoR.op rfl rfl (ld3 rfl f1 rfl) rfl ?_
        refine GoR.op rfl rfl (aOp_eql rfl rfl (r := false) e2) rfl ?_
        refine GoR.op rfl rfl rfl rfl ?_
        refine GoR.op rfl rfl rfl rfl ?_
        refine GoR.op rfl rfl (fa206_1 rfl) rfl ?_
        refine GoR.op rfl rfl (ld3 rfl f1 rfl) rfl ?_
        refine GoR.op rfl rfl (fa206_2 rfl) rfl ?_
        refine GoR.op rfl rfl (ld3 rfl f1 rfl) rfl ?_
        refine GoR.call rfl rfl (aOp_callFunc aFunc75 rfl) (inside_ok _ _ _ e3 _) ?_ (by rintro _ _ ⟨q, _⟩; cases q)
        rintro _ h3 ⟨q, x3⟩
        cases q
        replace f1 := f1.ext x3
        refine ⟨_, rfl, ?_⟩
        refine GoR.op rfl rfl rfl rfl ?_
        refine GoR.op rfl rfl rfl rfl ?_
        refine GoR.op rfl rfl rfl rfl ?_
        refine GoR.op rfl rfl rfl rfl ?_
        refine GoR.end (Go.ret noJ_ok (ret_end (aResult_of Try.func223 rfl rfl) ⟨?_, ((x1).trans x2).trans x3⟩))
        rw [← hr]
        simp only [claimV, e1, e2, e3]
        rfl
end Go.Proofs.Ytidfcmjlfadieaa

namespace Go.Proofs.Ytidfcmjlfadieaa
open Go Go.AbsE
set_option maxRecDepth 100000
set_option linter.unusedVariables false
theorem zt40 : zeroT Try.prog 40 = some (.agg [.int .i64 0, .int .i64 0]) := by kernel_rfl
theorem zt146 : zeroT Try.prog 146 = some (.int .i64 0) := by kernel_rfl
theorem by146 : bytesT Try.prog 146 = some 8 := by kernel_rfl

def turnsV (l : LeaseV) (s : Int) : Int × Int := if s = 1 then (l.tl, l.th) else (l.fl, if l.th - 1 < l.fh then l.th - 1 else l.fh)
theorem turns_ok (l : LeaseV) (s : Int) (hi : inI64 (l.th - 1)) (h : AH) : Runs Try.prog 199 [.agg l.cells, .int .i64 s] h (fun en h' => en = .ret (.agg [.int .i64 (turnsV l s).1, .int .i64 (turnsV l s).2]) ∧ Ext h h') := by
  refine Runs.intro aFunc199 rfl rfl rfl rfl fun rest => ?_
  refine Go.seq noJ_ok (Go.region noJ_ok rfl ?_)
  refine GoR.box rfl rfl rfl rfl rfl rfl fun h1 x1 f1 => ?_
  refine GoR.alloc rfl rfl rfl zt40 rfl rfl fun h2 x2 f2 => ?_
  replace f1 := f1.ext x2
  refine GoR.end (Go.seq noJ_ok (Go.seq noJ_ok (Go.region noJ_ok rfl ?_)))
  by_cases e : s = 1
  · refine GoR.op rfl rfl rfl rfl ?_
    refine GoR.op rfl rfl (aOp_eql rfl rfl (r := true) (by simp [e])) rfl ?_
    refine GoR.end (Go.cond noJ_ok (b := true) rfl (Go.seq noJ_ok (Go.region noJ_ok rfl ?_)))
    refine GoR.op rfl rfl (fa195_2 rfl) rfl ?_
    refine GoR.op rfl rfl (ld40 rfl f1 rfl) rfl ?_
    refine GoR.store rfl rfl rfl rfl rfl rfl f2 rfl sz40 rfl rfl rfl fun h3 u3 => ?_
    refine GoR.end (Go.ret noJ_ok (ret_end (aResult_of Try.func199 rfl (aResults_cell rfl (u3.has f2) (inCells_agg ag40 sz40 rfl))) ⟨?_, (x1.trans x2).upd u3 x1.1⟩))
    simp only [turnsV, if_pos e]
    rfl
  · refine GoR.op rfl rfl rfl rfl ?_
    refine GoR.op rfl rfl (aOp_eql rfl rfl (r := false) (by simp [e])) rfl ?_
    refine GoR.end (Go.cond noJ_ok (b := false) rfl (Go.code noJ_ok (Go.seq noJ_ok (Go.region noJ_ok rfl ?_))))
    refine GoR.op rfl rfl (fa195_1 rfl) rfl ?_
    refine GoR.op rfl rfl (fa40_0 rfl) rfl ?_
    refine GoR.op rfl rfl (ld3 rfl f1 rfl) rfl ?_
    refine GoR.op rfl rfl (fa195_1 rfl) rfl ?_
    refine GoR.op rfl rfl (fa40_1 rfl) rfl ?_
    refine GoR.op rfl rfl (ld3 rfl f1 rfl) rfl ?_
    refine GoR.op rfl rfl (fa195_2 rfl) rfl ?_
    refine GoR.op rfl rfl (fa40_1 rfl) rfl ?_
    refine GoR.op rfl rfl (ld3 rfl f1 rfl) rfl ?_
    refine GoR.op rfl rfl (aOp_sub rfl rfl hi rfl) rfl ?_
    refine GoR.op rfl rfl (aOp_min2 rfl rfl rfl) rfl ?_
    refine GoR.op rfl rfl (aOp_build zt40 Try.underlying40 rfl rfl rfl) rfl ?_
    refine GoR.store rfl rfl rfl rfl rfl rfl f2 rfl sz40 rfl rfl rfl fun h3 u3 => ?_
    refine GoR.end (Go.ret noJ_ok (ret_end (aResult_of Try.func199 rfl (aResults_cell rfl (u3.has f2) (inCells_agg ag40 sz40 rfl))) ⟨?_, (x1.trans x2).upd u3 x1.1⟩))
    simp only [turnsV, if_neg e]
    rfl

def pastV (l : LeaseV) (line s : Int) : List Int := if s = 2 then [2] else (if line < (turnsV l s).2 then [s] else []) ++ (if (turnsV l s).1 ≤ line ∧ line ≤ (turnsV l s).2 then [s + 1] else [])
def one1 (x : Int) : List AVal := [.int .i64 x]
theorem past_ok (l : LeaseV) (line s : Int) (hi : inI64 (l.th - 1)) (hs1 : inI64 (s + 1)) (h : AH) : Runs Try.prog 183 [.agg l.cells, .int .i64 line, .int .i64 s] h (fun en h' => ∃ v, en = .ret v ∧ Ext h h' ∧ FreshS h.next h' 1 v ((pastV l line s).map one1)) := by
  refine Runs.intro aFunc183 rfl rfl rfl rfl fun rest => ?_
  refine Go.seq noJ_ok (Go.region noJ_ok rfl ?_)
  refine GoR.box rfl rfl rfl rfl rfl rfl fun h1 x1 f1 => ?_
  refine GoR.op rfl rfl rfl rfl ?_
  refine GoR.end (Go.seq noJ_ok (Go.seq noJ_ok (Go.region noJ_ok rfl ?_)))
  by_cases e : s = 2
  · refine GoR.op rfl rfl rfl rfl ?_
    refine GoR.op rfl rfl (aOp_eql rfl rfl (r := true) (by simp [e])) rfl ?_
    refine GoR.end (Go.cond noJ_ok (b := true) rfl (Go.seq noJ_ok (Go.region noJ_ok rfl ?_)))
    refine GoR.build1 rfl rfl rfl Try.underlying234 sz146 zt146 rfl rfl rfl rfl rfl rfl fun h5 x5 f5 => ?_
    refine GoR.op rfl rfl rfl rfl ?_
    refine GoR.end (Go.ret noJ_ok (ret_end (aResult_of Try.func183 rfl rfl) ⟨_, rfl, x1.trans x5, ?_⟩))
    have hp : pastV l line s = [2] := by unfold pastV; rw [if_pos e]
    rw [hp]
    intro h6 n6 e6
    refine SliceOf.mk' rfl rfl (f5.fresh x1.1 n6 e6) rfl ?_
    intro i l q
    cases i with
    | zero => cases q; rfl
    | succ i => simp at q
  · refine GoR.op rfl rfl rfl rfl ?_
    refine GoR.op rfl rfl (aOp_eql rfl rfl (r := false) (by simp [e])) rfl ?_
    refine GoR.end (Go.cond noJ_ok (b := false) rfl (Go.code noJ_ok (Go.seq noJ_ok (Go.region noJ_ok rfl ?_))))
    refine GoR.op rfl rfl (ld195 rfl f1 rfl) rfl ?_
    refine GoR.op rfl rfl rfl rfl ?_
    refine GoR.call rfl rfl (aOp_callFunc aFunc199 rfl) (turns_ok l s hi _) ?_ (by rintro _ _ ⟨q, _⟩; cases q)
    rintro _ h2 ⟨q, x2⟩
    cases q
    refine ⟨_, rfl, ?_⟩
    refine GoR.alloc rfl rfl rfl zt40 rfl rfl fun h3 x3 f3 => ?_
    refine GoR.store rfl rfl rfl rfl rfl rfl f3 rfl sz40 rfl rfl rfl fun h4 u4 => ?_
    have x4 : Ext h h4 := (x1.trans x2).trans (x3.upd u4 (Nat.le_refl _))
    have f4 := u4.has f3
    generalize hlo : (turnsV l s).1 = lo at f4
    generalize hhi : (turnsV l s).2 = hi at f4
    refine GoR.end (Go.seq noJ_ok (Go.region noJ_ok rfl ?_))
    refine GoR.op rfl rfl rfl rfl ?_
    refine GoR.end (Go.seq noJ_ok (Go.seq noJ_ok (Go.region noJ_ok rfl ?_)))
    have hpast : pastV l line s = (if line < hi then [s] else []) ++ (if lo ≤ line ∧ line ≤ hi then [s + 1] else []) := by unfold pastV; rw [if_neg e, hlo, hhi]
    rw [hpast]
    cases c2 : decide (line < hi) with
    | true =>
      cases c3 : decide (lo ≤ line ∧ line ≤ hi) with
      | true =>
        refine GoR.op rfl rfl rfl rfl ?_
        refine GoR.op rfl rfl (fa40_1 rfl) rfl ?_
        refine GoR.op rfl rfl (ld3 rfl f4 rfl) rfl ?_
        refine GoR.op rfl rfl (aOp_lss rfl rfl (r := true) c2) rfl ?_
        refine GoR.end (Go.cond noJ_ok (b := true) rfl (Go.region noJ_ok rfl ?_))
        refine GoR.op rfl rfl rfl rfl ?_
        refine GoR.op rfl rfl rfl rfl ?_
        refine GoR.build1 rfl rfl rfl Try.underlying234 sz146 zt146 rfl rfl rfl rfl rfl rfl fun h6 x6 f6 => ?_
        have y6 : Ext h4 h6 := (Ext.refl h4).trans x6
        refine GoR.append1 (h0 := h4) (s := .nilslice) (n := 0) (cs := []) rfl rfl rfl Try.underlying234 Try.underlying234 sz146 by146 zt146 rfl rfl rfl rfl f6 rfl rfl (⟨rfl, .inl ⟨rfl, rfl⟩⟩) (by omega) y6 rfl rfl fun s6 h7 y7 g7 => ?_
        refine GoR.op rfl rfl rfl rfl ?_
        refine GoR.end ?_
        refine Go.seq noJ_ok (Go.seq noJ_ok (Go.region noJ_ok rfl ?_))
        refine GoR.op rfl rfl rfl rfl ?_
        refine GoR.op rfl rfl (fa40_0 rfl) rfl ?_
        refine GoR.op rfl rfl (ld3 rfl (f4.ext y7) rfl) rfl ?_
        refine GoR.op rfl rfl (fa40_1 rfl) rfl ?_
        refine GoR.op rfl rfl (ld3 rfl (f4.ext y7) rfl) rfl ?_
        refine GoR.call rfl rfl (aOp_callFunc aFunc75 rfl) (inside_ok _ _ _ c3 _) ?_ (by rintro _ _ ⟨q, _⟩; cases q)
        rintro _ h8 ⟨q, x8⟩
        cases q
        have y8 : Ext h4 h8 := y7.trans x8
        refine ⟨_, rfl, ?_⟩
        refine GoR.end (Go.cond noJ_ok (b := true) rfl (Go.region noJ_ok rfl ?_))
        refine GoR.op rfl rfl rfl rfl ?_
        refine GoR.op rfl rfl rfl rfl ?_
        refine GoR.op rfl rfl (aOp_add rfl rfl hs1 rfl) rfl ?_
        refine GoR.build1 rfl rfl rfl Try.underlying234 sz146 zt146 rfl rfl rfl rfl rfl rfl fun h10 x10 f10 => ?_
        have y10 : Ext h4 h10 := y8.trans x10
        refine GoR.append1 (h0 := h4) (s := s6) (n := 1) (cs := [.int .i64 s]) rfl rfl rfl Try.underlying234 Try.underlying234 sz146 by146 zt146 rfl rfl rfl rfl f10 rfl rfl ((g7.ext x8).ext x10) (by omega) y10 rfl rfl fun s10 h11 y11 g11 => ?_
        refine GoR.op rfl rfl rfl rfl ?_
        refine GoR.end ?_
        refine Go.seq noJ_ok (Go.region noJ_ok rfl ?_)
        refine GoR.op rfl rfl rfl rfl ?_
        refine GoR.op rfl rfl rfl rfl ?_
        refine GoR.end (Go.ret noJ_ok (ret_end (aResult_of Try.func183 rfl rfl) ⟨_, rfl, x4.trans y11, ?_⟩))
        rw [if_pos (by simpa using c2), if_pos (by simpa using c3)]
        intro h6 n6 e6
        have hg := ((g11).fresh x4.1 n6 e6).sliceOf (L := [s, s + 1].map one1) (slice_flatten (sz := 1) (L := [s, s + 1].map one1) (by intro l hl; obtain ⟨_, _, rfl⟩ := List.mem_map.1 hl; rfl))
        exact hg
      | false =>
        refine GoR.op rfl rfl rfl rfl ?_
        refine GoR.op rfl rfl (fa40_1 rfl) rfl ?_
        refine GoR.op rfl rfl (ld3 rfl f4 rfl) rfl ?_
        refine GoR.op rfl rfl (aOp_lss rfl rfl (r := true) c2) rfl ?_
        refine GoR.end (Go.cond noJ_ok (b := true) rfl (Go.region noJ_ok rfl ?_))
        refine GoR.op rfl rfl rfl rfl ?_
        refine GoR.op rfl rfl rfl rfl ?_
        refine GoR.build1 rfl rfl rfl Try.underlying234 sz146 zt146 rfl rfl rfl rfl rfl rfl fun h6 x6 f6 => ?_
        have y6 : Ext h4 h6 := (Ext.refl h4).trans x6
        refine GoR.append1 (h0 := h4) (s := .nilslice) (n := 0) (cs := []) rfl rfl rfl Try.underlying234 Try.underlying234 sz146 by146 zt146 rfl rfl rfl rfl f6 rfl rfl (⟨rfl, .inl ⟨rfl, rfl⟩⟩) (by omega) y6 rfl rfl fun s6 h7 y7 g7 => ?_
        refine GoR.op rfl rfl rfl rfl ?_
        refine GoR.end ?_
        refine Go.seq noJ_ok (Go.seq noJ_ok (Go.region noJ_ok rfl ?_))
        refine GoR.op rfl rfl rfl rfl ?_
        refine GoR.op rfl rfl (fa40_0 rfl) rfl ?_
        refine GoR.op rfl rfl (ld3 rfl (f4.ext y7) rfl) rfl ?_
        refine GoR.op rfl rfl (fa40_1 rfl) rfl ?_
        refine GoR.op rfl rfl (ld3 rfl (f4.ext y7) rfl) rfl ?_
        refine GoR.call rfl rfl (aOp_callFunc aFunc75 rfl) (inside_ok _ _ _ c3 _) ?_ (by rintro _ _ ⟨q, _⟩; cases q)
        rintro _ h8 ⟨q, x8⟩
        cases q
        have y8 : Ext h4 h8 := y7.trans x8
        refine ⟨_, rfl, ?_⟩
        refine GoR.end (Go.cond noJ_ok (b := false) rfl (Go.code noJ_ok ?_))
        refine Go.seq noJ_ok (Go.region noJ_ok rfl ?_)
        refine GoR.op rfl rfl rfl rfl ?_
        refine GoR.op rfl rfl rfl rfl ?_
        refine GoR.end (Go.ret noJ_ok (ret_end (aResult_of Try.func183 rfl rfl) ⟨_, rfl, x4.trans y8, ?_⟩))
        rw [if_pos (by simpa using c2), if_neg (by simpa using c3)]
        intro h6 n6 e6
        have hg := (((g7.ext x8)).fresh x4.1 n6 e6).sliceOf (L := [s].map one1) (slice_flatten (sz := 1) (L := [s].map one1) (by intro l hl; obtain ⟨_, _, rfl⟩ := List.mem_map.1 hl; rfl))
        exact hg
    | false =>
      cases c3 : decide (lo ≤ line ∧ line ≤ hi) with
      | true =>
        refine GoR.op rfl rfl rfl rfl ?_
        refine GoR.op rfl rfl (fa40_1 rfl) rfl ?_
        refine GoR.op rfl rfl (ld3 rfl f4 rfl) rfl ?_
        refine GoR.op rfl rfl (aOp_lss rfl rfl (r := false) c2) rfl ?_
        refine GoR.end (Go.cond noJ_ok (b := false) rfl (Go.code noJ_ok ?_))
        refine Go.seq noJ_ok (Go.seq noJ_ok (Go.region noJ_ok rfl ?_))
        refine GoR.op rfl rfl rfl rfl ?_
        refine GoR.op rfl rfl (fa40_0 rfl) rfl ?_
        refine GoR.op rfl rfl (ld3 rfl (f4.ext (Ext.refl h4)) rfl) rfl ?_
        refine GoR.op rfl rfl (fa40_1 rfl) rfl ?_
        refine GoR.op rfl rfl (ld3 rfl (f4.ext (Ext.refl h4)) rfl) rfl ?_
        refine GoR.call rfl rfl (aOp_callFunc aFunc75 rfl) (inside_ok _ _ _ c3 _) ?_ (by rintro _ _ ⟨q, _⟩; cases q)
        rintro _ h8 ⟨q, x8⟩
        cases q
        have y8 : Ext h4 h8 := (Ext.refl h4).trans x8
        refine ⟨_, rfl, ?_⟩
        refine GoR.end (Go.cond noJ_ok (b := true) rfl (Go.region noJ_ok rfl ?_))
        refine GoR.op rfl rfl rfl rfl ?_
        refine GoR.op rfl rfl rfl rfl ?_
        refine GoR.op rfl rfl (aOp_add rfl rfl hs1 rfl) rfl ?_
        refine GoR.build1 rfl rfl rfl Try.underlying234 sz146 zt146 rfl rfl rfl rfl rfl rfl fun h10 x10 f10 => ?_
        have y10 : Ext h4 h10 := y8.trans x10
        refine GoR.append1 (h0 := h4) (s := .nilslice) (n := 0) (cs := []) rfl rfl rfl Try.underlying234 Try.underlying234 sz146 by146 zt146 rfl rfl rfl rfl f10 rfl rfl (⟨rfl, .inl ⟨rfl, rfl⟩⟩) (by omega) y10 rfl rfl fun s10 h11 y11 g11 => ?_
        refine GoR.op rfl rfl rfl rfl ?_
        refine GoR.end ?_
        refine Go.seq noJ_ok (Go.region noJ_ok rfl ?_)
        refine GoR.op rfl rfl rfl rfl ?_
        refine GoR.op rfl rfl rfl rfl ?_
        refine GoR.end (Go.ret noJ_ok (ret_end (aResult_of Try.func183 rfl rfl) ⟨_, rfl, x4.trans y11, ?_⟩))
        rw [if_neg (by simpa using c2), if_pos (by simpa using c3)]
        intro h6 n6 e6
        have hg := ((g11).fresh x4.1 n6 e6).sliceOf (L := [s + 1].map one1) (slice_flatten (sz := 1) (L := [s + 1].map one1) (by intro l hl; obtain ⟨_, _, rfl⟩ := List.mem_map.1 hl; rfl))
        exact hg
      | false =>
        refine GoR.op rfl rfl rfl rfl ?_
        refine GoR.op rfl rfl (fa40_1 rfl) rfl ?_
        refine GoR.op rfl rfl (ld3 rfl f4 rfl) rfl ?_
        refine GoR.op rfl rfl (aOp_lss rfl rfl (r := false) c2) rfl ?_
        refine GoR.end (Go.cond noJ_ok (b := false) rfl (Go.code noJ_ok ?_))
        refine Go.seq noJ_ok (Go.seq noJ_ok (Go.region noJ_ok rfl ?_))
        refine GoR.op rfl rfl rfl rfl ?_
        refine GoR.op rfl rfl (fa40_0 rfl) rfl ?_
        refine GoR.op rfl rfl (ld3 rfl (f4.ext (Ext.refl h4)) rfl) rfl ?_
        refine GoR.op rfl rfl (fa40_1 rfl) rfl ?_
        refine GoR.op rfl rfl (ld3 rfl (f4.ext (Ext.refl h4)) rfl) rfl ?_
        refine GoR.call rfl rfl (aOp_callFunc aFunc75 rfl) (inside_ok _ _ _ c3 _) ?_ (by rintro _ _ ⟨q, _⟩; cases q)
        rintro _ h8 ⟨q, x8⟩
        cases q
        have y8 : Ext h4 h8 := (Ext.refl h4).trans x8
        refine ⟨_, rfl, ?_⟩
        refine GoR.end (Go.cond noJ_ok (b := false) rfl (Go.code noJ_ok ?_))
        refine Go.seq noJ_ok (Go.region noJ_ok rfl ?_)
        refine GoR.op rfl rfl rfl rfl ?_
        refine GoR.op rfl rfl rfl rfl ?_
        refine GoR.end (Go.ret noJ_ok (ret_end (aResult_of Try.func183 rfl rfl) ⟨_, rfl, x4.trans y8, ?_⟩))
        rw [if_neg (by simpa using c2), if_neg (by simpa using c3)]
        intro h6 n6 e6
        exact .nil
end Go.Proofs.Ytidfcmjlfadieaa

namespace Go.Proofs.Ytidfcmjlfadieaa
open Go Go.AbsE
set_option maxRecDepth 100000
set_option linter.unusedVariables false
def I64 (x : Int) : AVal := .int .i64 x
def ownerV (nb : Int) (Ls : List LeaseV) (st : List Int) : Int := (Ls.zip st).foldl (fun acc x => if x.2 = 1 then x.1.o else acc) nb
theorem zip_take_succ {α β : Type} : ∀ {l : List α} {m : List β} {i : Nat} {a : α} {b : β}, l[i]? = some a → m[i]? = some b → (l.take (i + 1)).zip m = (l.take i).zip m ++ [(a, b)] := by
  intro l
  induction l with
  | nil => intro m i a b h; simp at h
  | cons x l ih =>
    intro m i a b h1 h2
    cases m with
    | nil => simp at h2
    | cons y m =>
      cases i with
      | zero => simp at h1 h2; subst h1 h2; simp
      | succ i =>
        simp at h1 h2
        simp only [List.take_succ_cons, List.zip_cons_cons, ih h1 h2, List.cons_append]
theorem ownerV_succ {nb : Int} {Ls : List LeaseV} {st : List Int} {i : Nat} {l : LeaseV} {x : Int} (h1 : Ls[i]? = some l) (h2 : st[i]? = some x) : ownerV nb (Ls.take (i + 1)) st = if x = 1 then l.o else ownerV nb (Ls.take i) st := by
  unfold ownerV
  rw [zip_take_succ h1 h2, List.foldl_append]
  rfl

theorem slice_first {cs l : List AVal} {a : AVal} {off n : Nat} (h : slice? cs off n = some (a :: l)) : cs[off]? = some a := by
  unfold slice? at h
  dsimp only at h
  cases hq : Nat.beq ((cs.drop off).take n).length n with
  | false => rw [hq] at h; cases h
  | true =>
    rw [hq] at h
    have h := Option.some.inj h
    have : ((cs.drop off).take n)[0]? = some a := by rw [h]; rfl
    rw [List.getElem?_take] at this
    split at this
    · rw [List.getElem?_drop] at this; exact this
    · cases this

theorem owner_ok (np nb ln : Int) (s m : AVal) (Ls : List LeaseV) (st : List Int) (hst : st.length = 4) (hL : Ls.length ≤ 4) (h : AH) (hs : SliceOf h 5 s (Ls.map LeaseV.cells)) :
    Runs Try.prog 167 [.agg [.int .i64 np, .int .i64 nb, s, m], .agg (.int .i64 ln :: st.map I64)] h (fun en h' => en = .ret (.int .i64 (ownerV nb Ls st)) ∧ Ext h h') := by
  refine Runs.intro aFunc167 rfl rfl rfl rfl fun rest => ?_
  refine Go.seq noJ_ok (Go.region noJ_ok rfl ?_)
  refine GoR.box rfl rfl rfl rfl rfl rfl fun h1 x1 f1 => ?_
  refine GoR.box rfl rfl rfl rfl rfl rfl fun h2 x2 f2 => ?_
  replace f1 := f1.ext x2
  refine GoR.op rfl rfl rfl rfl ?_
  refine GoR.end (Go.seq noJ_ok (Go.seq noJ_ok (Go.region noJ_ok rfl ?_)))
  refine GoR.op rfl rfl (fa92_2 rfl) rfl ?_
  refine GoR.op rfl rfl (ld88 rfl f1 rfl) rfl ?_
  refine GoR.op rfl rfl (aOp_lenSlice Try.underlying88 rfl (hs.len)) rfl ?_
  rw [List.length_map]
  have h64 : inI64 ((Ls.length : Int) - 1) := by constructor <;> omega
  refine GoR.op rfl rfl (aOp_sub rfl rfl h64 rfl) rfl ?_
  refine GoR.op rfl rfl rfl rfl ?_
  refine GoR.end (Go.block noJ_ok ?_)
  refine Go.keep [(2, .ptr h.next 0), (3, .ptr h1.next 0), (5, .int .i64 ((Ls.length : Int) - 1))] ⟨rfl, rfl, rfl, trivial⟩ ?_
  refine Go.loopInv (fun n t h' => n ≤ Ls.length ∧ t = keepT [(2, .ptr h.next 0), (3, .ptr h1.next 0), (5, .int .i64 ((n : Int) - 1))] ∧ Ext h2 h' ∧ ownerV nb Ls st = ownerV nb (Ls.take n) st) (n := Ls.length) ⟨Nat.le_refl _, rfl, Ext.refl _, by rw [List.take_length]⟩ ?_
  rintro n t h3 ⟨hn, rfl, x3, ha⟩ again
  replace f1 := f1.ext x3
  replace f2 := f2.ext x3
  cases n with
  | zero =>
    refine Go.seq noJ_ok (Go.seq noJ_ok (Go.region noJ_ok rfl ?_))
    refine GoR.op rfl rfl rfl rfl ?_
    refine GoR.op rfl rfl (aOp_geq rfl rfl (r := false) (by simp)) rfl ?_
    refine GoR.end (Go.cond noJ_ok (b := false) rfl (Go.code noJ_ok ?_))
    refine Go.seq noJ_ok (Go.region noJ_ok rfl ?_)
    refine GoR.op rfl rfl (fa92_1 rfl) rfl ?_
    refine GoR.op rfl rfl (ld3 rfl f1 rfl) rfl ?_
    refine GoR.op rfl rfl rfl rfl ?_
    refine GoR.end (Go.ret noJ_ok (ret_end (aResult_of Try.func167 rfl rfl) ⟨?_, (x1.trans x2).trans x3⟩))
    rw [ha]
    rfl
  | succ n =>
    have hv : ((n + 1 : Nat) : Int) - 1 = ((n : Nat) : Int) := by omega
    rw [hv]
    obtain ⟨l, hl⟩ : ∃ l, Ls[n]? = some l := ⟨Ls[n], by simp⟩
    obtain ⟨x, hx⟩ : ∃ x, st[n]? = some x := ⟨st[n], by simp⟩
    have hl5 : (Ls.map LeaseV.cells)[n]? = some l.cells := by rw [List.getElem?_map, hl]; rfl
    have hx5 : (AVal.int .i64 ln :: st.map I64)[0 + 1 + n * 1]? = some (.int .i64 x) := by rw [Nat.zero_add, Nat.mul_one, Nat.add_comm, List.getElem?_cons_succ, List.getElem?_map, hx]; rfl
    obtain ⟨b, off, k1, k2⟩ := (hs.ext ((x1.trans x2).trans x3)).at hl5
    rw [List.length_map] at k1
    refine Go.seq noJ_ok (Go.seq noJ_ok (Go.region noJ_ok rfl ?_))
    refine GoR.op rfl rfl rfl rfl ?_
    refine GoR.op rfl rfl (aOp_geq rfl rfl (r := true) (by simp)) rfl ?_
    refine GoR.end (Go.cond noJ_ok (b := true) rfl (Go.code noJ_ok ?_))
    refine Go.seq noJ_ok (Go.block noJ_ok (Go.seq noJ_ok (Go.region noJ_ok rfl ?_)))
    refine GoR.op rfl rfl rfl rfl ?_
    refine GoR.op rfl rfl (fa149_1 rfl) rfl ?_
    refine GoR.op rfl rfl (aOp_indexAddrArr Try.underlying147 sz146 rfl rfl (Nat.ble_eq_true_of_le (by omega))) rfl ?_
    refine GoR.op rfl rfl (ld146 rfl f2 hx5) rfl ?_
    have hsucc := ownerV_succ (nb := nb) hl hx
    rw [← ha] at hsucc
    by_cases e : x = 1
    · refine GoR.op rfl rfl (aOp_eql rfl rfl (r := true) (by simp [e])) rfl ?_
      refine GoR.end (Go.cond noJ_ok (b := true) rfl (Go.seq noJ_ok (Go.region noJ_ok rfl ?_)))
      refine GoR.op rfl rfl (fa92_2 rfl) rfl ?_
      refine GoR.op rfl rfl (ld88 rfl f1 rfl) rfl ?_
      refine GoR.op rfl rfl rfl rfl ?_
      refine GoR.op rfl rfl (aOp_indexAddr Try.underlying88 sz195 rfl k1 rfl (Nat.ble_eq_true_of_le hn)) rfl ?_
      refine GoR.op rfl rfl (fa195_0 rfl) rfl ?_
      refine GoR.op rfl rfl (aOp_loadE1 (k := 0) ag3 rfl k2 rfl) rfl ?_
      refine GoR.op rfl rfl rfl rfl ?_
      refine GoR.end (Go.ret noJ_ok (ret_end (aResult_of Try.func167 rfl rfl) ⟨?_, (x1.trans x2).trans x3⟩))
      rw [hsucc, if_pos e]
      rfl
    · refine GoR.op rfl rfl (aOp_eql rfl rfl (r := false) (by simp [e])) rfl ?_
      refine GoR.end (Go.cond noJ_ok (b := false) rfl (Go.code noJ_ok ?_))
      refine Go.inBlock noJ_ok (Go.region noJ_ok rfl ?_)
      refine GoR.op rfl rfl rfl rfl ?_
      have h64 : inI64 ((n : Int) - 1) := by constructor <;> omega
      refine GoR.op rfl rfl (aOp_sub rfl rfl h64 rfl) rfl ?_
      refine GoR.op rfl rfl rfl rfl ?_
      refine GoR.end ?_
      refine Go.keep [(2, .ptr h.next 0), (3, .ptr h1.next 0), (5, .int .i64 ((n : Int) - 1))] ⟨rfl, rfl, rfl, trivial⟩ ?_
      exact again n _ _ (by omega) ⟨by omega, rfl, x3, by rw [hsucc, if_neg e]⟩
end Go.Proofs.Ytidfcmjlfadieaa

namespace Go.Proofs.Ytidfcmjlfadieaa
open Go Go.AbsE
set_option maxRecDepth 100000
set_option linter.unusedVariables false
theorem prog_cells {ln : Int} {st : List Int} (hst : st.length = 4) : slice? (AVal.int .i64 ln :: st.map I64) 0 5 = some (AVal.int .i64 ln :: st.map I64) := slice_all (by simp [hst])
def doneV (np ln : Int) : Bool := decide (np < ln)
theorem done_ok' (np nb ln : Int) (s m : AVal) (st : List Int) (hst : st.length = 4) (h : AH) : Runs Try.prog 123 [.agg [.int .i64 np, .int .i64 nb, s, m], .agg (.int .i64 ln :: st.map I64)] h (fun en h' => en = .ret (.bool (doneV np ln)) ∧ Ext h h') := by
  match st, hst with
  | [a, b, c, d], _ => exact done_ok np nb ln s m (I64 a) (I64 b) (I64 c) (I64 d) rfl h

theorem own_ok (np nb ln hd : Int) (s m : AVal) (Ls : List LeaseV) (st : List Int) (hst : st.length = 4) (hL : Ls.length ≤ 4) (h : AH) (hs : SliceOf h 5 s (Ls.map LeaseV.cells)) :
    Runs Try.prog 132 [.agg [.int .i64 np, .int .i64 nb, s, m], .agg (.int .i64 ln :: st.map I64), .int .i64 hd] h (fun en h' => en = .ret (.int .i64 (if doneV np ln = false ∧ ownerV nb Ls st = hd then 1 else 0)) ∧ Ext h h') := by
  refine Runs.intro aFunc132 rfl rfl rfl rfl fun rest => ?_
  refine Go.seq noJ_ok (Go.region noJ_ok rfl ?_)
  refine GoR.box rfl rfl rfl rfl rfl rfl fun h1 x1 f1 => ?_
  refine GoR.box rfl rfl rfl rfl rfl rfl fun h2 x2 f2 => ?_
  replace f1 := f1.ext x2
  refine GoR.op rfl rfl rfl rfl ?_
  refine GoR.end (Go.seq noJ_ok (Go.seq noJ_ok (Go.region noJ_ok rfl ?_)))
  cases e1 : doneV np ln with
  | true =>
    refine GoR.op rfl rfl (ld92 rfl f1 rfl) rfl ?_
    refine GoR.op rfl rfl (ld149 rfl f2 (prog_cells hst)) rfl ?_
    refine GoR.call rfl rfl (aOp_callFunc aFunc123 rfl) (e1 ▸ done_ok' np nb ln s m st hst _) ?_ (by rintro _ _ ⟨q, _⟩; cases q)
    rintro _ h3 ⟨q, x3⟩
    cases q
    replace f1 := f1.ext x3
    replace f2 := f2.ext x3
    refine ⟨_, rfl, ?_⟩
    refine GoR.op rfl rfl rfl rfl ?_
    refine GoR.op rfl rfl rfl rfl ?_
    refine GoR.skip rfl rfl rfl ?_
    refine GoR.skip rfl rfl rfl ?_
    refine GoR.skip rfl rfl rfl ?_
    refine GoR.skip rfl rfl rfl ?_
    refine GoR.skip rfl rfl rfl ?_
    refine GoR.op rfl rfl rfl rfl ?_
    refine GoR.end (Go.cond noJ_ok (b := false) rfl (Go.code noJ_ok (Go.seq noJ_ok (Go.region noJ_ok rfl ?_))))
    refine GoR.op rfl rfl rfl rfl ?_
    refine GoR.end (Go.ret noJ_ok (ret_end (aResult_of Try.func132 rfl rfl) ⟨?_, ((x1).trans x2).trans x3⟩))
    rw [if_neg (fun q => by cases q.1)]
    rfl
  | false =>
    cases e2 : decide (ownerV nb Ls st = hd) with
    | true =>
      refine GoR.op rfl rfl (ld92 rfl f1 rfl) rfl ?_
      refine GoR.op rfl rfl (ld149 rfl f2 (prog_cells hst)) rfl ?_
      refine GoR.call rfl rfl (aOp_callFunc aFunc123 rfl) (e1 ▸ done_ok' np nb ln s m st hst _) ?_ (by rintro _ _ ⟨q, _⟩; cases q)
      rintro _ h3 ⟨q, x3⟩
      cases q
      replace f1 := f1.ext x3
      replace f2 := f2.ext x3
      refine ⟨_, rfl, ?_⟩
      refine GoR.op rfl rfl rfl rfl ?_
      refine GoR.op rfl rfl rfl rfl ?_
      refine GoR.op rfl rfl (ld92 rfl f1 rfl) rfl ?_
      refine GoR.op rfl rfl (ld149 rfl f2 (prog_cells hst)) rfl ?_
      refine GoR.call rfl rfl (aOp_callFunc aFunc167 rfl) (owner_ok np nb ln s m Ls st hst hL _ (hs.ext (x1.trans (x2.trans x3)))) ?_ (by rintro _ _ ⟨q, _⟩; cases q)
      rintro _ h4 ⟨q, x4⟩
      cases q
      replace f1 := f1.ext x4
      replace f2 := f2.ext x4
      refine ⟨_, rfl, ?_⟩
      refine GoR.op rfl rfl rfl rfl ?_
      refine GoR.op rfl rfl (aOp_eql rfl rfl (r := true) e2) rfl ?_
      refine GoR.op rfl rfl rfl rfl ?_
      refine GoR.end (Go.cond noJ_ok (b := true) rfl (Go.seq noJ_ok (Go.region noJ_ok rfl ?_)))
      refine GoR.op rfl rfl rfl rfl ?_
      refine GoR.end (Go.ret noJ_ok (ret_end (aResult_of Try.func132 rfl rfl) ⟨?_, (((x1).trans x2).trans x3).trans x4⟩))
      rw [if_pos ⟨rfl, by simpa using e2⟩]
      rfl
    | false =>
      refine GoR.op rfl rfl (ld92 rfl f1 rfl) rfl ?_
      refine GoR.op rfl rfl (ld149 rfl f2 (prog_cells hst)) rfl ?_
      refine GoR.call rfl rfl (aOp_callFunc aFunc123 rfl) (e1 ▸ done_ok' np nb ln s m st hst _) ?_ (by rintro _ _ ⟨q, _⟩; cases q)
      rintro _ h3 ⟨q, x3⟩
      cases q
      replace f1 := f1.ext x3
      replace f2 := f2.ext x3
      refine ⟨_, rfl, ?_⟩
      refine GoR.op rfl rfl rfl rfl ?_
      refine GoR.op rfl rfl rfl rfl ?_
      refine GoR.op rfl rfl (ld92 rfl f1 rfl) rfl ?_
      refine GoR.op rfl rfl (ld149 rfl f2 (prog_cells hst)) rfl ?_
      refine GoR.call rfl rfl (aOp_callFunc aFunc167 rfl) (owner_ok np nb ln s m Ls st hst hL _ (hs.ext (x1.trans (x2.trans x3)))) ?_ (by rintro _ _ ⟨q, _⟩; cases q)
      rintro _ h4 ⟨q, x4⟩
      cases q
      replace f1 := f1.ext x4
      replace f2 := f2.ext x4
      refine ⟨_, rfl, ?_⟩
      refine GoR.op rfl rfl rfl rfl ?_
      refine GoR.op rfl rfl (aOp_eql rfl rfl (r := false) e2) rfl ?_
      refine GoR.op rfl rfl rfl rfl ?_
      refine GoR.end (Go.cond noJ_ok (b := false) rfl (Go.code noJ_ok (Go.seq noJ_ok (Go.region noJ_ok rfl ?_))))
      refine GoR.op rfl rfl rfl rfl ?_
      refine GoR.end (Go.ret noJ_ok (ret_end (aResult_of Try.func132 rfl rfl) ⟨?_, (((x1).trans x2).trans x3).trans x4⟩))
      rw [if_neg (fun q => by simp at e2; exact e2 q.2)]
      rfl

theorem sum_ok (s : AVal) (L : List Int) (h : AH) (hs : SliceOf h 1 s (L.map one1)) (hb : ∀ n, n ≤ L.length → inI64 ((L.take n).foldl (· + ·) 0)) (hL : L.length ≤ 1000) :
    Runs Try.prog 133 [s] h (fun en h' => en = .ret (.int .i64 (L.foldl (· + ·) 0)) ∧ Ext h h') := by
  refine Runs.intro aFunc133 rfl rfl rfl rfl fun rest => ?_
  refine Go.seq noJ_ok (Go.region noJ_ok rfl ?_)
  refine GoR.op rfl rfl rfl rfl ?_
  refine GoR.end (Go.seq noJ_ok (Go.region noJ_ok rfl ?_))
  refine GoR.op rfl rfl rfl rfl ?_
  refine GoR.end (Go.seq noJ_ok (Go.seq noJ_ok (Go.region noJ_ok rfl ?_)))
  refine GoR.op rfl rfl rfl rfl ?_
  refine GoR.op rfl rfl (aOp_lenSlice Try.underlying44 rfl hs.len) rfl ?_
  rw [List.length_map]
  refine GoR.op rfl rfl rfl rfl ?_
  refine GoR.end (Go.block noJ_ok ?_)
  refine Go.keep [(3, .int .i64 0), (6, s), (7, .int .i64 L.length), (8, .int .i64 0)] ⟨rfl, rfl, rfl, rfl, trivial⟩ ?_
  refine Go.loopInv (fun n t h' => ∃ i, n + i = L.length ∧ t = keepT [(3, .int .i64 ((L.take i).foldl (· + ·) 0)), (6, s), (7, .int .i64 L.length), (8, .int .i64 (Int.ofNat i))] ∧ Ext h h') (n := L.length) ⟨0, rfl, rfl, Ext.refl _⟩ ?_
  rintro n t h2 ⟨i, hn, rfl, x2⟩ again
  refine Go.seq noJ_ok (Go.region noJ_ok rfl ?_)
  by_cases hi : i < L.length
  · refine GoR.op rfl rfl (aOp_lss rfl rfl (r := true) (by simp; omega)) rfl ?_
    refine GoR.end (Go.seq noJ_ok (Go.cond noJ_ok rfl (Go.code noJ_ok ?_)))
    refine Go.seq noJ_ok (Go.block noJ_ok (Go.seq noJ_ok (Go.region noJ_ok rfl ?_)))
    obtain ⟨a, ha⟩ : ∃ a, L[i]? = some a := ⟨L[i], by simp [hi]⟩
    have hl : (L.map one1)[i]? = some (one1 a) := by rw [List.getElem?_map, ha]; rfl
    obtain ⟨b, off, k1, k2⟩ := (hs.ext x2).at hl
    rw [List.length_map] at k1
    refine GoR.op rfl rfl (aOp_indexAddr Try.underlying44 sz3 rfl k1 rfl (Nat.ble_eq_true_of_le hi)) rfl ?_
    refine GoR.op rfl rfl (aOp_loadE1 (k := 0) ag3 rfl k2 rfl) rfl ?_
    refine GoR.op rfl rfl rfl rfl ?_
    refine GoR.end (Go.region noJ_ok rfl ?_)
    have hsum : (L.take (i + 1)).foldl (· + ·) 0 = (L.take i).foldl (· + ·) 0 + a := by rw [List.take_add_one, ha]; simp [List.foldl_append]
    have h64 := hb (i + 1) hi
    rw [hsum] at h64
    refine GoR.op rfl rfl rfl rfl ?_
    refine GoR.op rfl rfl rfl rfl ?_
    refine GoR.op rfl rfl (aOp_add rfl rfl h64 rfl) rfl ?_
    refine GoR.op rfl rfl rfl rfl ?_
    refine GoR.end (Go.inBlock noJ_ok (Go.region noJ_ok rfl ?_))
    have hi64 : inI64 (Int.ofNat i + 1) := by constructor <;> simp <;> omega
    refine GoR.op rfl rfl (aOp_add rfl rfl hi64 rfl) rfl ?_
    refine GoR.op rfl rfl rfl rfl ?_
    refine GoR.end ?_
    refine Go.keep [(3, .int .i64 ((L.take i).foldl (· + ·) 0 + a)), (6, s), (7, .int .i64 L.length), (8, .int .i64 (Int.ofNat i + 1))] ⟨rfl, rfl, rfl, rfl, trivial⟩ ?_
    exact again (n - 1) _ _ (by omega) ⟨i + 1, by omega, by rw [hsum]; rfl, x2⟩
  · refine GoR.op rfl rfl (aOp_lss rfl rfl (r := false) (by simp; omega)) rfl ?_
    refine GoR.end (Go.seq noJ_ok (Go.cond noJ_ok rfl (Go.code noJ_ok ?_)))
    refine Go.seq noJ_ok (Go.region noJ_ok rfl ?_)
    refine GoR.op rfl rfl rfl rfl ?_
    refine GoR.op rfl rfl rfl rfl ?_
    refine GoR.end (Go.ret noJ_ok (ret_end (aResult_of Try.func133 rfl rfl) ⟨?_, x2⟩))
    have : i = L.length := by omega
    subst this
    rw [List.take_length]
    rfl
end Go.Proofs.Ytidfcmjlfadieaa

namespace Go.Proofs.Ytidfcmjlfadieaa
open Go Go.AbsE
set_option maxRecDepth 100000
set_option linter.unusedVariables false
theorem sameAs_I64 : ∀ st : List Int, sameAs (st.map I64) (st.map I64) = true := by
  intro st
  induction st with
  | nil => rfl
  | cons a l ih => simp [sameAs, I64, sameA, eqI_eq, ih]
theorem progSame (ln : Int) (st : List Int) : sameA (.agg (.int .i64 ln :: st.map I64)) (.agg (.int .i64 ln :: st.map I64)) = true := by simp [sameA, sameAs, eqI_eq, sameAs_I64]
noncomputable def ops124 : Array Oper := ((drawnOps Try.f124)[0]?).getD #[]
theorem plan124 : plan ops124 = some (mkPlan ops124.toList [(0, 0, true, false), (1, 0, true, false), (2, 3, false, false), (3, 7, true, false), (4, 15, true, false), (5, 15, true, false), (6, 47, true, false), (7, 111, true, false), (8, 15, true, false), (9, 15, true, false), (11, 31, true, false), (12, 2079, true, false), (13, 6175, true, false), (10, 783, false, false), (14, 16383, false, false), (15, 32767, true, false), (16, 65535, true, false)]) := by kernel_rfl

/-- The name of the method that is called in some operations. -/
noncomputable def nameOf : List Oper → String
  | [] => default
  | o :: l => match o.op with
    | .call ⟨.invoke _ n, _, _⟩ => n
    | _ => nameOf l
noncomputable def rightName : String := nameOf ops124.toList
/-- What is asked, as a value: its method answers so. -/
def AsksFrom (av : AVal) (A : Int → Int → Bool) (h : AH) : Prop := (sameA av av = true ∧ nilCheckOk Try.prog (.func (.method rightName) [av] []) = true) ∧ ∀ p hd h', Ext h h' → ∃ F fF args, aFunc Try.prog F = some fF ∧ aInvokeIface Try.prog av rightName [.int .i64 p, .int .i64 hd] h' = some (.enter F args h') ∧ Runs Try.prog F args h' (fun en h'' => en = .ret (.bool (A p hd)) ∧ Ext h' h'')
theorem AsksFrom.ext {av : AVal} {A : Int → Int → Bool} {h h' : AH} (k : AsksFrom av A h) (e : Ext h h') : AsksFrom av A h' := ⟨k.1, fun p hd h2 e2 => k.2 p hd h2 (e.trans e2)⟩
def suitsV (np nb : Int) (Ls : List LeaseV) (A : Int → Int → Bool) (ln : Int) (st : List Int) : Bool := doneV np ln || A (ln - 1) (ownerV nb Ls st)

theorem sameA_bool (b : Bool) : sameA (.bool b) (.bool b) = true := by cases b <;> rfl
theorem suits_ok (np nb ln : Int) (s m av : AVal) (A : Int → Int → Bool) (Ls : List LeaseV) (st : List Int) (hst : st.length = 4) (hL : Ls.length ≤ 4) (hln : inI64 (ln - 1)) (h : AH) (hs : SliceOf h 5 s (Ls.map LeaseV.cells)) (hss : sameA s s = true) (hsm : sameA m m = true) (hA : AsksFrom av A h) {r : Bool} (hr : suitsV np nb Ls A ln st = r) :
    Runs Try.prog 124 [.agg [.int .i64 np, .int .i64 nb, s, m], .agg (.int .i64 ln :: st.map I64), av] h (fun en h' => en = .ret (.bool r) ∧ Ext h h') := by
  refine Runs.intro aFunc124 rfl rfl rfl rfl fun rest => ?_
  refine Go.seq noJ_ok (Go.region noJ_ok rfl ?_)
  refine GoR.box rfl rfl rfl rfl rfl rfl fun h1 x1 f1 => ?_
  refine GoR.box rfl rfl rfl rfl rfl rfl fun h2 x2 f2 => ?_
  replace f1 := f1.ext x2
  refine GoR.op rfl rfl rfl rfl ?_
  refine GoR.end (Go.seq noJ_ok (Go.drawn plan124 ?_))
  refine GoD.quiet rfl rfl (fun h' x => ld92 rfl (f1.ext x) rfl) (bankSame _ _ hss hsm) rfl ?_
  refine GoD.quiet rfl rfl (fun h' x => ld149 rfl (f2.ext x) (prog_cells hst)) (progSame _ _) rfl ?_
  refine GoD.call rfl rfl (aOp_callFunc aFunc123 rfl) (done_ok' np nb ln s m st hst _) ?_ (by rintro _ _ ⟨q, _⟩; cases q)
  rintro _ h3 ⟨q, x3⟩
  cases q
  replace f1 := f1.ext x3
  replace f2 := f2.ext x3
  refine ⟨x3, _, rfl, ?_⟩
  cases e1 : doneV np ln with
  | true =>
    refine GoD.quiet rfl rfl (fun h' x => rfl) rfl rfl ?_
    refine GoD.skip rfl rfl rfl ?_
    refine GoD.skip rfl rfl rfl ?_
    refine GoD.skip rfl rfl rfl ?_
    refine GoD.skip rfl rfl rfl ?_
    refine GoD.skip rfl rfl rfl ?_
    refine GoD.skip rfl rfl rfl ?_
    refine GoD.skip rfl rfl rfl ?_
    refine GoD.skip rfl rfl rfl ?_
    refine GoD.skip rfl rfl rfl ?_
    refine GoD.skip rfl rfl rfl ?_
    refine GoD.skip rfl rfl rfl ?_
    refine GoD.quiet rfl rfl (fun h' x => rfl) rfl rfl ?_
    refine GoD.quiet rfl rfl (fun h' x => rfl) rfl rfl ?_
    refine GoD.end rfl (Go.ret noJ_ok (ret_end (aResult_of Try.func124 rfl rfl) ⟨?_, (x1.trans x2).trans x3⟩))
    rw [← hr]
    unfold suitsV
    rw [e1]
    rfl
  | false =>
    refine GoD.quiet rfl rfl (fun h' x => rfl) rfl rfl ?_
    refine GoD.quiet rfl rfl (fun h' x => rfl) hA.1.1 rfl ?_
    refine GoD.quiet rfl rfl (fun h' x => fa149_0 rfl) (sameA_ptr _ _) rfl ?_
    refine GoD.quiet rfl rfl (fun h' x => ld3 rfl (f2.ext x) rfl) (sameA_int _ _) rfl ?_
    refine GoD.quiet rfl rfl (fun h' x => aOp_sub rfl rfl hln rfl) (sameA_int _ _) rfl ?_
    refine GoD.quiet rfl rfl (fun h' x => ld92 rfl (f1.ext x) rfl) (bankSame _ _ hss hsm) rfl ?_
    refine GoD.quiet rfl rfl (fun h' x => ld149 rfl (f2.ext x) (prog_cells hst)) (progSame _ _) rfl ?_
    refine GoD.quiet rfl rfl (fun h' x => rfl) (by simp [sameA, sameAs, hA.1.1]) rfl ?_
    refine GoD.quiet rfl rfl (fun h' x => aOp_nilCheck rfl hA.1.2) (by simp [sameA, sameAs, hA.1.1]) rfl ?_
    refine GoD.quiet rfl rfl (fun h' x => rfl) hA.1.1 rfl ?_
    refine GoD.call rfl rfl (aOp_callFunc aFunc167 rfl) (owner_ok np nb ln s m Ls st hst hL _ (hs.ext ((x1.trans x2).trans x3))) ?_ (by rintro _ _ ⟨q, _⟩; cases q)
    rintro _ h4 ⟨q, x4⟩
    cases q
    refine ⟨x4, _, rfl, ?_⟩
    have x14 := ((x1.trans x2).trans x3).trans x4
    obtain ⟨F, fF, args, k0, k1, k2⟩ := hA.2 (ln - 1) (ownerV nb Ls st) h4 x14
    refine GoD.call rfl rfl (aOp_invoke rfl rfl k1) k2 ?_ (by rintro _ _ ⟨q, _⟩; cases q)
    rintro _ h5 ⟨q, x5⟩
    cases q
    refine ⟨x5, _, rfl, ?_⟩
    refine GoD.quiet rfl rfl (fun h' x => rfl) (sameA_bool _) rfl ?_
    refine GoD.quiet rfl rfl (fun h' x => rfl) (sameA_bool _) rfl ?_
    refine GoD.end rfl (Go.ret noJ_ok (ret_end (aResult_of Try.func124 rfl rfl) ⟨?_, x14.trans x5⟩))
    rw [← hr]
    unfold suitsV
    rw [e1]
    rfl
end Go.Proofs.Ytidfcmjlfadieaa

namespace Go.Proofs.Ytidfcmjlfadieaa
open Go Go.AbsE
set_option maxRecDepth 100000
set_option linter.unusedVariables false
theorem meth90 (v : AVal) : aMethod Try.prog 8 90 v rightName = some (218, v) := by kernel_rfl
theorem meth206 (v : AVal) : aMethod Try.prog 8 206 v rightName = some (223, v) := by kernel_rfl
theorem asks_marked (marks : AVal) (Ms : List MarkV) (h : AH) (hL : Ms.length ≤ 100) (hs : SliceOf h 2 marks (Ms.map MarkV.cells)) (hmc : marks.cells = [marks]) (hsm : sameA marks marks = true) :
    AsksFrom (.iface 90 (.agg [marks])) (fun p hd => !Ms.any (denyV p hd)) h := by
  refine ⟨⟨?_, ?_⟩, fun p hd h' e => ⟨218, _, [.agg [marks], .int .i64 p, .int .i64 hd], aFunc218, ?_, right218_ok marks Ms p hd h' hL (hs.ext e) hmc rfl⟩⟩
  · simp [sameA, sameAs, hsm]
  · show (match aMethod Try.prog 8 90 (.agg [marks]) rightName with | some _ => true | none => false) = true
    rw [meth90]
  · show (match aMethod Try.prog 8 90 (.agg [marks]) rightName with | some (f, r) => aEnter Try.prog f (r :: [.int .i64 p, .int .i64 hd]) h' | none => none) = _
    rw [meth90]
    simp only [aEnter, aFunc218]
theorem asks_claimed (marks : AVal) (Ms : List MarkV) (a b o : Int) (h : AH) (hL : Ms.length ≤ 100) (hs : SliceOf h 2 marks (Ms.map MarkV.cells)) (hmc : marks.cells = [marks]) (hsm : sameA marks marks = true) :
    AsksFrom (.iface 206 (.agg [marks, .int .i64 a, .int .i64 b, .int .i64 o])) (fun p hd => !Ms.any (denyV p hd) && claimV a b o p hd) h := by
  refine ⟨⟨?_, ?_⟩, fun p hd h' e => ⟨223, _, [.agg [marks, .int .i64 a, .int .i64 b, .int .i64 o], .int .i64 p, .int .i64 hd], aFunc223, ?_, right223_ok marks Ms a b o p hd h' hL (hs.ext e) hmc rfl⟩⟩
  · simp [sameA, sameAs, hsm, eqI_eq]
  · show (match aMethod Try.prog 8 206 (.agg [marks, .int .i64 a, .int .i64 b, .int .i64 o]) rightName with | some _ => true | none => false) = true
    rw [meth206]
  · show (match aMethod Try.prog 8 206 (.agg [marks, .int .i64 a, .int .i64 b, .int .i64 o]) rightName with | some (f, r) => aEnter Try.prog f (r :: [.int .i64 p, .int .i64 hd]) h' | none => none) = _
    rw [meth206]
    simp only [aEnter, aFunc223]
end Go.Proofs.Ytidfcmjlfadieaa

namespace Go.Proofs.Ytidfcmjlfadieaa
open Go Go.AbsE
set_option maxRecDepth 100000
set_option linter.unusedVariables false
theorem splice_one {α : Type} : ∀ {l : List α} {k : Nat} {v : α}, k < l.length → splice l k [v] = some (l.set k v) := by
  intro l
  induction l with
  | nil => intro k v h; simp at h
  | cons a l ih =>
    intro k v h
    cases k with
    | zero => simp [splice]
    | succ k => simp only [splice, ih (k := k) (by simpa using h), List.set_cons_succ]
theorem zt111 : zeroT Try.prog 111 = some (.agg [.int .i64 0, .int .i64 0, .int .i64 0, .int .i64 0, .int .i64 0, .int .i64 0, .int .i64 0, .int .i64 0, .int .i64 0, .int .i64 0, .int .i64 0]) := by kernel_rfl
def stepV (own : Nat) (os w : List Int) (i : Nat) : List Int := match os[i]?, w[i + own]? with
  | some x, some y => if 0 < x then w.set (i + own) (y + x) else w
  | _, _ => w
def plusV (own : Nat) (os w : List Int) (n : Nat) : List Int := (List.range n).foldl (stepV own os) w
theorem plusV_succ {own : Nat} {os w : List Int} {n : Nat} : plusV own os w (n + 1) = stepV own os (plusV own os w n) n := by
  unfold plusV
  rw [List.range_succ, List.foldl_append]
  rfl
theorem stepV_len {own : Nat} {os w : List Int} {i : Nat} : (stepV own os w i).length = w.length := by
  unfold stepV
  split
  · split
    · simp
    · rfl
  · rfl
theorem plusV_len {own : Nat} {os w : List Int} : ∀ n, (plusV own os w n).length = w.length := by
  intro n
  induction n with
  | zero => rfl
  | succ n ih => rw [plusV_succ, stepV_len, ih]

theorem scal_I64 : ∀ l : List Int, scalars (l.map I64) = true := by
  intro l
  induction l with
  | nil => rfl
  | cons a l ih => exact ih

theorem plus_ok (w os : List Int) (own : Nat) (hw : w.length = 11) (ho : os.length = 11) (hown : own ≤ 1) (h : AH)
    (hb : ∀ i x, os[i]? = some x → 0 < x → i + own < 11 ∧ ∀ y, (plusV own os w i)[i + own]? = some y → inI64 (y + x)) :
    Runs Try.prog 131 [.agg (w.map I64), .agg (os.map I64), .int .i64 own] h (fun en h' => en = .ret (.agg ((plusV own os w 11).map I64)) ∧ Ext h h') := by
  refine Runs.intro aFunc131 rfl rfl rfl rfl fun rest => ?_
  refine Go.seq noJ_ok (Go.region noJ_ok rfl ?_)
  refine GoR.box rfl rfl rfl rfl rfl rfl fun h1 x1 f1 => ?_
  have hlt1 := f1.1
  refine GoR.box rfl rfl rfl rfl rfl rfl fun h2 x2 f2 => ?_
  refine GoR.alloc rfl rfl rfl zt111 rfl rfl fun h3 x3 f3 => ?_
  replace f1 := (f1.ext x2).ext x3
  replace f2 := f2.ext x3
  refine GoR.end (Go.seq noJ_ok (Go.seq noJ_ok (Go.region noJ_ok rfl ?_)))
  refine GoR.op rfl rfl (ld111 rfl f2 (slice_all (by simp [cells_agg, ho]))) rfl ?_
  refine GoR.op rfl rfl rfl rfl ?_
  refine GoR.end (Go.block noJ_ok ?_)
  refine Go.keep [(2, .int .i64 own), (3, .ptr h.next 0), (6, .ptr h2.next 0), (9, .agg (os.map I64)), (10, .int .i64 0)] ⟨rfl, rfl, rfl, rfl, rfl, trivial⟩ ?_
  refine Go.loopInv (fun n t h' => ∃ i, n + i = 11 ∧ t = keepT [(2, .int .i64 own), (3, .ptr h.next 0), (6, .ptr h2.next 0), (9, .agg (os.map I64)), (10, .int .i64 (Int.ofNat i))] ∧ Ext h h' ∧ h2.next < h'.next ∧ Has h' h.next (.cells .plain ((plusV own os w i).map I64) 111) ∧ Has h' h2.next (.cells .plain [.int .i64 0, .int .i64 0, .int .i64 0, .int .i64 0, .int .i64 0, .int .i64 0, .int .i64 0, .int .i64 0, .int .i64 0, .int .i64 0, .int .i64 0] 111)) (n := 11) ⟨0, rfl, rfl, (x1.trans x2).trans x3, f3.1, f1, f3⟩ ?_
  rintro n t h4 ⟨i, hn, rfl, x4, hlt, g1, g3⟩ again
  have hne : h.next ≠ h2.next := by have := x2.1; omega
  have hln := plusV_len (own := own) (os := os) (w := w) i
  refine Go.seq noJ_ok (Go.region noJ_ok rfl ?_)
  by_cases hi : i < 11
  · refine GoR.op rfl rfl (aOp_lss rfl rfl (r := true) (by simp; omega)) rfl ?_
    refine GoR.end (Go.seq noJ_ok (Go.cond noJ_ok rfl (Go.code noJ_ok ?_)))
    refine Go.seq noJ_ok (Go.block noJ_ok (Go.seq noJ_ok (Go.region noJ_ok rfl ?_)))
    obtain ⟨x, hx⟩ : ∃ x, os[i]? = some x := ⟨os[i], by simp⟩
    have hx5 : (os.map I64)[i * 1]? = some (.int .i64 x) := by rw [Nat.mul_one, List.getElem?_map, hx]; rfl
    refine GoR.op rfl rfl rfl rfl ?_
    refine GoR.op rfl rfl (aOp_indexArr Try.underlying111 sz3 rfl rfl (Nat.ble_eq_true_of_le hi) (partT_one ag3 hx5)) rfl ?_
    refine GoR.op rfl rfl rfl rfl ?_
    refine GoR.op rfl rfl rfl rfl ?_
    refine GoR.end (Go.seq noJ_ok (Go.region noJ_ok rfl ?_))
    refine GoR.op rfl rfl rfl rfl ?_
    have hi64 : inI64 (Int.ofNat i + 1) := by constructor <;> simp <;> omega
    by_cases e : 0 < x
    · refine GoR.op rfl rfl (aOp_gtr rfl rfl (r := true) (by simp [e])) rfl ?_
      refine GoR.end (Go.cond noJ_ok (b := true) rfl (Go.region noJ_ok rfl ?_))
      obtain ⟨q1, q2⟩ := hb i x hx e
      obtain ⟨y, hy⟩ : ∃ y, (plusV own os w i)[i + own]? = some y := ⟨(plusV own os w i)[i + own]'(by omega), by simp⟩
      have hy5 : ((plusV own os w i).map I64)[0 + (i + own) * 1]? = some (.int .i64 y) := by rw [Nat.zero_add, Nat.mul_one, List.getElem?_map, hy]; rfl
      have h64 : inI64 (Int.ofNat i + (own : Int)) := by constructor <;> simp <;> omega
      have hio : Int.ofNat i + (own : Int) = ((i + own : Nat) : Int) := by simp
      refine GoR.op rfl rfl rfl rfl ?_
      refine GoR.op rfl rfl rfl rfl ?_
      refine GoR.op rfl rfl (aOp_add rfl rfl h64 hio) rfl ?_
      refine GoR.op rfl rfl (aOp_indexAddrArr Try.underlying111 sz3 rfl rfl (Nat.ble_eq_true_of_le q1)) rfl ?_
      refine GoR.op rfl rfl (ld3 rfl g1 hy5) rfl ?_
      refine GoR.op rfl rfl rfl rfl ?_
      refine GoR.op rfl rfl (aOp_add rfl rfl (q2 y hy) rfl) rfl ?_
      refine GoR.op rfl rfl (aOp_indexAddrArr Try.underlying111 sz3 rfl rfl (Nat.ble_eq_true_of_le q1)) rfl ?_
      have hsp : splice ((plusV own os w i).map I64) (0 + (i + own) * 1) (AVal.int .i64 (y + x)).cells = some ((plusV own os w (i + 1)).map I64) := by
        rw [plusV_succ]
        unfold stepV
        rw [hx, hy]
        simp only [if_pos e, Nat.zero_add, Nat.mul_one]
        rw [List.map_set]
        exact splice_one (by rw [List.length_map, hln]; omega)
      refine GoR.store rfl rfl rfl rfl rfl rfl g1 rfl sz3 rfl rfl hsp fun h5 u5 => ?_
      refine GoR.end (Go.inBlock noJ_ok (Go.region noJ_ok rfl ?_))
      refine GoR.op rfl rfl (aOp_add rfl rfl hi64 rfl) rfl ?_
      refine GoR.op rfl rfl rfl rfl ?_
      refine GoR.end ?_
      refine Go.keep [(2, .int .i64 own), (3, .ptr h.next 0), (6, .ptr h2.next 0), (9, .agg (os.map I64)), (10, .int .i64 (Int.ofNat i + 1))] ⟨rfl, rfl, rfl, rfl, rfl, trivial⟩ ?_
      exact again (n - 1) _ _ (by omega) ⟨i + 1, by omega, rfl, x4.upd u5 (Nat.le_refl _), by rw [u5.1]; exact hlt, u5.has g1, g3.upd u5 (fun q => hne q.symm)⟩
    · refine GoR.op rfl rfl (aOp_gtr rfl rfl (r := false) (by simp; omega)) rfl ?_
      refine GoR.end (Go.cond noJ_ok (b := false) rfl (Go.code noJ_ok ?_))
      refine Go.inBlock noJ_ok (Go.region noJ_ok rfl ?_)
      have hst : plusV own os w (i + 1) = plusV own os w i := by
        rw [plusV_succ]
        unfold stepV
        rw [hx]
        split
        · rename_i q _
          cases q
          rw [if_neg e]
        · rfl
      refine GoR.op rfl rfl (aOp_add rfl rfl hi64 rfl) rfl ?_
      refine GoR.op rfl rfl rfl rfl ?_
      refine GoR.end ?_
      refine Go.keep [(2, .int .i64 own), (3, .ptr h.next 0), (6, .ptr h2.next 0), (9, .agg (os.map I64)), (10, .int .i64 (Int.ofNat i + 1))] ⟨rfl, rfl, rfl, rfl, rfl, trivial⟩ ?_
      exact again (n - 1) _ _ (by omega) ⟨i + 1, by omega, rfl, x4, hlt, by rw [hst]; exact g1, g3⟩
  · refine GoR.op rfl rfl (aOp_lss rfl rfl (r := false) (by simp; omega)) rfl ?_
    refine GoR.end (Go.seq noJ_ok (Go.cond noJ_ok rfl (Go.code noJ_ok ?_)))
    refine Go.seq noJ_ok (Go.region noJ_ok rfl ?_)
    have : i = 11 := by omega
    subst this
    refine GoR.op rfl rfl (ld111 rfl g1 (slice_all (by rw [List.length_map, hln, hw]))) rfl ?_
    refine GoR.store rfl rfl rfl rfl rfl rfl g3 rfl sz111 (by simp [cells_agg, hln, hw]) (scal_I64 _) (splice_all (by simp [cells_agg, hln, hw])) fun h5 u5 => ?_
    refine GoR.end (Go.ret noJ_ok (ret_end (aResult_of Try.func131 rfl (aResults_cell rfl (u5.has g3) (inCells_agg ag111 sz111 (slice_all (by simp [cells_agg, hln, hw]))))) ⟨rfl, x4.upd u5 (by have := x1.1; have := x2.1; omega)⟩))
end Go.Proofs.Ytidfcmjlfadieaa

namespace Go.Proofs.Ytidfcmjlfadieaa
open Go Go.AbsE
set_option maxRecDepth 100000
set_option linter.unusedVariables false

/-- moved hands out an iterator over a progress, by what a lease does. -/
theorem moved_ok (pc : List AVal) (i : Int) (past : AVal) (h : AH) : Runs Try.prog 182 [.agg pc, .int .i64 i, past] h (fun en h' => ∃ b3 b4 b5, h.next ≤ b3 ∧ h.next ≤ b4 ∧ h.next ≤ b5 ∧ en = .ret (.func (.func 198) [] [.ptr b5 0, .ptr b3 0, .ptr b4 0]) ∧ Ext h h' ∧ Has h' b3 (.cells .plain pc 149) ∧ Has h' b4 (.cells .plain [.int .i64 i] 3) ∧ Has h' b5 (.cells .plain past.cells 221)) := by
  refine Runs.intro aFunc182 rfl rfl rfl rfl fun rest => ?_
  refine Go.seq noJ_ok (Go.region noJ_ok rfl ?_)
  refine GoR.box rfl rfl rfl rfl rfl rfl fun h1 x1 f1 => ?_
  refine GoR.box rfl rfl rfl rfl rfl rfl fun h2 x2 f2 => ?_
  replace f1 := f1.ext x2
  refine GoR.box rfl rfl rfl rfl rfl rfl fun h3 x3 f3 => ?_
  replace f1 := f1.ext x3
  replace f2 := f2.ext x3
  refine GoR.op rfl rfl rfl rfl ?_
  refine GoR.end (Go.seq noJ_ok (Go.region noJ_ok rfl ?_))
  refine GoR.op rfl rfl rfl rfl ?_
  refine GoR.op rfl rfl rfl rfl ?_
  exact GoR.end (Go.ret noJ_ok (ret_end (aResult_of Try.func182 rfl rfl) ⟨_, _, _, Nat.le_refl _, x1.1, (x1.trans x2).1, rfl, (x1.trans x2).trans x3, f1, f2, f3⟩))

/-- next hands out an iterator over a progress. -/
theorem next_ok (gc pc : List AVal) (h : AH) : Runs Try.prog 122 [.agg gc, .agg pc] h (fun en h' => ∃ b2 b3, h.next ≤ b2 ∧ h.next ≤ b3 ∧ en = .ret (.func (.func 165) [] [.ptr b2 0, .ptr b3 0]) ∧ Ext h h' ∧ Has h' b2 (.cells .plain gc 92) ∧ Has h' b3 (.cells .plain pc 149)) := by
  refine Runs.intro aFunc122 rfl rfl rfl rfl fun rest => ?_
  refine Go.seq noJ_ok (Go.region noJ_ok rfl ?_)
  refine GoR.box rfl rfl rfl rfl rfl rfl fun h1 x1 f1 => ?_
  refine GoR.box rfl rfl rfl rfl rfl rfl fun h2 x2 f2 => ?_
  replace f1 := f1.ext x2
  refine GoR.op rfl rfl rfl rfl ?_
  refine GoR.end (Go.seq noJ_ok (Go.region noJ_ok rfl ?_))
  refine GoR.op rfl rfl rfl rfl ?_
  refine GoR.op rfl rfl rfl rfl ?_
  exact GoR.end (Go.ret noJ_ok (ret_end (aResult_of Try.func122 rfl rfl) ⟨_, _, Nat.le_refl _, x1.1, rfl, x1.trans x2, f1, f2⟩))
end Go.Proofs.Ytidfcmjlfadieaa
