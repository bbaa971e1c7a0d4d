import Derived.Test.YtidfcmjlfadieaaGD
import Derived.Test.YtidfcmjlfadieaaRC
import Derived.Test.YtidfcmjlfadieaaGB
namespace Go.Proofs.Ytidfcmjlfadieaa
open Go Go.AbsE
set_option maxRecDepth 100000
set_option linter.unusedVariables false

theorem aResults_cellC {t : Tr AVal} {h : AH} {x : Tmp} {ty : TypeId} {b off : Nat} {g : Kd} {cs l : List AVal} {el : TypeId} {v : AVal} {r : List ResultVar} (hx : t.get (pth x) = some (.ptr b off)) (hb : Has h b (.cells g cs el)) (hv : inCells Try.prog ty cs off = some v) (hr : aResults Try.prog h t r = some l) : aResults Try.prog h t (.cell x ty :: r) = some (v :: l) := by
  simp only [aResults, hx, loadVar_cells hb hv, hr]
def markA (Ms : List MarkV) : Int → Int → Bool := fun p hd => !Ms.any (denyV p hd)
/-- In how many truths marks are right. -/
def truV (np nb : Int) (Ls : List LeaseV) (Ms : List MarkV) : Int := cntV np nb Ls (markA Ms)
structure Gnd (np nb : Int) (Ls : List LeaseV) (Ms : List MarkV) (s m : AVal) (h : AH) : Prop where
  np : 1 ≤ np ∧ np ≤ 10
  nb : 1 ≤ nb ∧ nb ≤ 4
  L : Ls.length ≤ 4
  M : Ms.length ≤ 100
  l : ∀ l, l ∈ Ls → inI64 (l.th - 1)
  ss : sameA s s = true
  sm : sameA m m = true
  mc : m.cells = [m]
  s : SliceOf h 5 s (Ls.map LeaseV.cells)
  m : SliceOf h 2 m (Ms.map MarkV.cells)
variable {np nb : Int} {Ls : List LeaseV} {Ms : List MarkV} {s m : AVal} {h h' : AH}
theorem Gnd.ext (G : Gnd np nb Ls Ms s m h) (x : Ext h h') : Gnd np nb Ls Ms s m h' := ⟨G.np, G.nb, G.L, G.M, G.l, G.ss, G.sm, G.mc, G.s.ext x, G.m.ext x⟩
theorem Gnd.can (G : Gnd np nb Ls Ms s m h) : canV (cntS np nb Ls (markA Ms)) ((cntS np nb Ls (markA Ms)).rem p0) p0 = decide (0 < truV np nb Ls Ms) := by
  have hS : (cntS np nb Ls (markA Ms)).Ok := ⟨G.np, G.L⟩
  have := ((cntS np nb Ls (markA Ms)).wd hS _ p0 (Sv.at0 hS) rfl).2.2
  have e : truV np nb Ls Ms = ((cntS np nb Ls (markA Ms)).W p0).sum := rfl
  rw [e]
  cases hc : canV (cntS np nb Ls (markA Ms)) ((cntS np nb Ls (markA Ms)).rem p0) p0 with
  | true => rw [decide_eq_true (this.2 hc)]
  | false =>
    rw [decide_eq_false]
    intro q
    rw [this.1 q] at hc
    cases hc

theorem needTruth_ok (G : Gnd np nb Ls Ms s m h) : Runs Try.prog 76 [.agg [.int .i64 np, .int .i64 nb, s, m]] h (fun en h' => Ext h h' ∧ ((0 < truV np nb Ls Ms ∧ en = .ret (.tuple [])) ∨ (¬ 0 < truV np nb Ls Ms ∧ en = .pan (refusal 10)))) := by
  refine Runs.intro aFunc76 rfl rfl rfl rfl fun rest => ?_
  refine Go.seq noJ_ok (Go.region noJ_ok rfl ?_)
  refine GoR.box rfl rfl rfl rfl rfl rfl fun h1 x1 f1 => ?_
  refine GoR.end (Go.region noJ_ok rfl ?_)
  refine GoR.op rfl rfl (ld92 rfl f1 rfl) rfl ?_
  refine GoR.op rfl rfl (fa92_3 rfl) rfl ?_
  refine GoR.op rfl rfl (ld90 rfl f1 rfl) rfl ?_
  refine GoR.op rfl rfl rfl rfl ?_
  have G1 := G.ext x1
  refine GoR.call rfl rfl (aOp_callFunc aFunc63 rfl) (possible_ok (S := cntS np nb Ls (markA Ms)) (s := s) (m := m) ⟨G.np, G.L⟩ G.l G.ss G.sm rfl h1 G1.s (asks_marked m Ms h1 G.M G1.m G.mc G.sm)) ?_ (by rintro _ _ ⟨q, _⟩; cases q)
  rintro _ h2 ⟨q, x2⟩
  cases q
  rw [G.can]
  refine ⟨_, rfl, ?_⟩
  refine GoR.op rfl rfl rfl rfl ?_
  by_cases hc : 0 < truV np nb Ls Ms
  · rw [decide_eq_true hc]
    refine GoR.call rfl rfl (aOp_callFunc aFunc74 rfl) (refuse_ok false 10 h2) ?_ (by rintro _ _ ⟨_, ⟨_, q⟩ | ⟨q, _⟩⟩ <;> cases q)
    rintro v h3 ⟨rfl, ⟨_, q⟩ | ⟨q, _⟩⟩
    case inr => cases q
    cases q
    refine ⟨_, rfl, GoR.end (Go.endL (FLeft.ret (v := .tuple []) (aResult_of Try.func76 rfl rfl) ⟨x1.trans x2, .inl ⟨hc, rfl⟩⟩))⟩
  · rw [decide_eq_false hc]
    refine GoR.callP rfl rfl (aOp_callFunc aFunc74 rfl) (refuse_ok true 10 h2) (by rintro _ _ ⟨_, ⟨q, _⟩ | ⟨_, q⟩⟩ <;> cases q) ?_
    rintro chain h3 ⟨rfl, ⟨q, _⟩ | ⟨_, q⟩⟩
    · cases q
    exact FLeft.pan ⟨x1.trans x2, .inr ⟨hc, q⟩⟩

theorem count1_ok (G : Gnd np nb Ls Ms s m h) {bt : Nat} {x : AVal} (hb : Has h bt (.cells .plain [x] 3)) : Runs Try.prog 85 [.agg [.int .i64 np, .int .i64 nb, s, m], .ptr bt 0] h (fun en h' => en = .ret (.tuple []) ∧ ExtS [bt] h h' ∧ Has h' bt (.cells .plain [.int .i64 (truV np nb Ls Ms)] 3)) := by
  refine Runs.intro aFunc85 rfl rfl rfl rfl fun rest => ?_
  refine Go.seq noJ_ok (Go.region noJ_ok rfl ?_)
  refine GoR.box rfl rfl rfl rfl rfl rfl fun h1 x1 f1 => ?_
  refine GoR.end (Go.region noJ_ok rfl ?_)
  refine GoR.op rfl rfl (ld92 rfl f1 rfl) rfl ?_
  refine GoR.op rfl rfl (fa92_3 rfl) rfl ?_
  refine GoR.op rfl rfl (ld90 rfl f1 rfl) rfl ?_
  refine GoR.op rfl rfl rfl rfl ?_
  have G1 := G.ext x1
  refine GoR.call rfl rfl (aOp_callFunc aFunc86 rfl) (count_ok (A := markA Ms) G.np G.L G.l G.ss G.sm rfl h1 G1.s (asks_marked m Ms h1 G.M G1.m G.mc G.sm)) ?_ (by rintro _ _ ⟨q, _⟩; cases q)
  rintro _ h2 ⟨q, x2⟩
  cases q
  refine ⟨_, rfl, ?_⟩
  have hb2 := (hb.ext x1).ext x2
  refine GoR.store rfl rfl rfl rfl rfl rfl hb2 rfl sz3 rfl rfl rfl fun h3 u3 => ?_
  have l := hb.1
  have x12 := x1.trans x2
  refine GoR.end (Go.endL (FLeft.ret (v := .tuple []) (aResult_of Try.func85 rfl rfl) ⟨rfl, ⟨by rw [u3.1]; exact x12.1, fun b hbl hn => by rw [u3.2.2 b (fun e => hn (by simp [e])), x12.2 b hbl]⟩, u3.has hb2⟩))

theorem valid_gnd (B : BankIn h np nb s m Ls Ms) (hv : bankValid np nb Ls Ms = true) : 1 ≤ np ∧ np ≤ 10 ∧ 1 ≤ nb ∧ nb ≤ 4 ∧ Ls.length ≤ 4 ∧ Ms.length ≤ 6 ∧ (∀ l, l ∈ Ls → inI64 (l.th - 1)) := by
  unfold bankValid at hv
  simp only [Bool.and_eq_true, decide_eq_true_eq] at hv
  obtain ⟨⟨⟨⟨⟨h1, h2⟩, h3⟩, h4⟩, h5⟩, h6⟩ := hv
  refine ⟨h1.1, h1.2, h2.1, h2.2, by omega, by omega, fun l hl => ?_⟩
  have := List.all_eq_true.1 h4 l.cells (List.mem_map_of_mem hl)
  unfold LeaseV.cells fitsF at this
  simp only [decide_eq_true_eq] at this
  constructor <;> omega
theorem BankIn.gnd (B : BankIn h np nb s m Ls Ms) (hv : bankValid np nb Ls Ms = true) {h' : AH} (x : Ext h h') {s' : AVal} (hs : SliceOf h' 5 s' (Ls.map LeaseV.cells)) (hss : sameA s' s' = true) : Gnd np nb Ls Ms s' m h' := by
  obtain ⟨a1, a2, a3, a4, a5, a6, a7⟩ := valid_gnd B hv
  exact ⟨⟨a1, a2⟩, ⟨a3, a4⟩, a5, by omega, a7, hss, B.hsm, B.hmc, hs, B.hm.ext x⟩
theorem BankIn.ext (B : BankIn h np nb s m Ls Ms) (x : Ext h h') : BankIn h' np nb s m Ls Ms := ⟨B.hp, B.hh, B.hs.ext x, B.hm.ext x, B.hss, B.hsm, B.hmc, B.hms⟩

/-- Count. -/
theorem Count_ok (B : BankIn h np nb s m Ls Ms) : Runs Try.prog 27 [.agg [.int .i64 np, .int .i64 nb, s, m]] h
    (fun en h' => en = .ret (.tuple [.int .i64 (if bankValid np nb Ls Ms then truV np nb Ls Ms else 0), .int .i64 (if bankValid np nb Ls Ms then 0 else 1)]) ∧ Ext h h') := by
  refine Runs.intro aFunc27 rfl rfl rfl rfl fun rest => ?_
  refine Go.seq noJ_ok (Go.region noJ_ok rfl ?_)
  refine GoR.box rfl rfl rfl rfl rfl rfl fun h1 x1 f1 => ?_
  refine GoR.alloc rfl rfl rfl zt3 rfl rfl fun h2 x2 f2 => ?_
  refine GoR.op rfl rfl rfl rfl ?_
  refine GoR.end (Go.seq noJ_ok (Go.region noJ_ok rfl ?_))
  replace f1 := f1.ext x2
  have x12 := x1.trans x2
  refine GoR.op rfl rfl (ld25 rfl f1 rfl) rfl ?_
  refine GoR.op rfl rfl rfl rfl ?_
  have a1 := x1.1
  have l2 := f2.1
  cases hv : bankValid np nb Ls Ms with
  | false =>
    refine GoR.call rfl rfl (aOp_callFunc aFunc58 rfl) (attempt_invalid np nb s m Ls Ms 85 [] [.ptr h1.next 0] h2 (B.ext x12) hv) ?_ (by rintro _ _ ⟨q, _⟩; cases q)
    rintro _ h3 ⟨q, x3⟩
    cases q
    refine ⟨_, rfl, ?_⟩
    refine GoR.op rfl rfl rfl rfl ?_
    refine GoR.end (Go.seq noJ_ok (Go.region noJ_ok rfl ?_))
    have f3 := f2.ext x3
    refine GoR.op rfl rfl (ld3 rfl f3 rfl) rfl ?_
    refine GoR.op rfl rfl rfl rfl ?_
    refine GoR.store rfl rfl rfl rfl rfl rfl f3 rfl sz3 rfl rfl rfl fun h4 u4 => ?_
    refine GoR.op rfl rfl rfl rfl ?_
    refine GoR.end (Go.retL fun _ => ?_)
    exact (FLeft.ret (v := .tuple [.int .i64 0, .int .i64 1]) (aResult_of Try.func27 rfl (aResults_cellC rfl (u4.has f3) (inCells_one ag3 rfl) (aResults_tmp rfl))) ⟨rfl, (x12.trans x3).upd u4 (by omega)⟩) _
  | true =>
    refine GoR.call rfl rfl (aOp_callFunc aFunc58 rfl) (attempt_valid np nb s m Ls Ms 85 _ aFunc85 [] [.ptr h1.next 0] h2 (B.ext x12) hv [h1.next] (by simp; omega) (fun code h'' => code = 0 ∧ Has h'' h1.next (.cells .plain [.int .i64 (truV np nb Ls Ms)] 3)) ?_) ?_ (by rintro _ _ ⟨_, _, q, _⟩; cases q)
    · intro s' h' x' hs' hss' _ _
      refine (count1_ok ((B.ext x12).gnd hv x' hs' hss') (f2.ext x')).mono ?_
      rintro en h'' ⟨q, e, g⟩
      exact ⟨e, .inl ⟨q, rfl, g⟩⟩
    · rintro _ h3 ⟨code, h2', q, ⟨rfl, g⟩, e3, e4⟩
      cases q
      refine ⟨_, rfl, ?_⟩
      refine GoR.op rfl rfl rfl rfl ?_
      refine GoR.end (Go.seq noJ_ok (Go.region noJ_ok rfl ?_))
      have n3 := e3.1
      have f3 : Has h3 h1.next (.cells .plain [.int .i64 (truV np nb Ls Ms)] 3) := ⟨by omega, by rw [e4 _ l2]; exact g.2⟩
      have x3 : Ext h h3 := ⟨by have := x12.1; omega, fun b hb => by rw [e3.2 b (by have := x12.1; omega) (by simp; omega), x12.2 b hb]⟩
      refine GoR.op rfl rfl (ld3 rfl f3 rfl) rfl ?_
      refine GoR.op rfl rfl rfl rfl ?_
      refine GoR.store rfl rfl rfl rfl rfl rfl f3 rfl sz3 rfl rfl rfl fun h4 u4 => ?_
      refine GoR.op rfl rfl rfl rfl ?_
      refine GoR.end (Go.retL fun _ => ?_)
      exact (FLeft.ret (v := .tuple [.int .i64 (truV np nb Ls Ms), .int .i64 0]) (aResult_of Try.func27 rfl (aResults_cellC rfl (u4.has f3) (inCells_one ag3 rfl) (aResults_tmp rfl))) ⟨rfl, x3.upd u4 (by omega)⟩) _
end Go.Proofs.Ytidfcmjlfadieaa

namespace Go.Proofs.Ytidfcmjlfadieaa
open Go Go.AbsE
set_option maxRecDepth 100000
set_option linter.unusedVariables false

variable {np nb : Int} {Ls : List LeaseV} {Ms : List MarkV} {s m : AVal} {h h' : AH}
theorem ask1_ok (G : Gnd np nb Ls Ms s m h) {bp bl : Nat} {x y : AVal} (hbp : Has h bp (.cells .plain [x] 3)) (hbl : Has h bl (.cells .plain [y] 3)) (hne : bp ≠ bl) :
    Runs Try.prog 87 [.agg [.int .i64 np, .int .i64 nb, s, m], .ptr bp 0, .ptr bl 0] h (fun en h' => ExtS [bp, bl] h h' ∧ ((en = .ret (.tuple []) ∧ 0 < truV np nb Ls Ms ∧ Has h' bp (.cells .plain [.int .i64 (askF np nb Ls Ms np.toNat).1] 3) ∧ Has h' bl (.cells .plain [.int .i64 (askF np nb Ls Ms np.toNat).2] 3)) ∨
      (en = .pan (refusal 10) ∧ ¬ 0 < truV np nb Ls Ms ∧ Has h' bp (.cells .plain [x] 3) ∧ Has h' bl (.cells .plain [y] 3)))) := by
  refine Runs.intro aFunc87 rfl rfl rfl rfl fun rest => ?_
  refine Go.seq noJ_ok (Go.region noJ_ok rfl ?_)
  refine GoR.box rfl rfl rfl rfl rfl rfl fun h1 x1 f1 => ?_
  refine GoR.end (Go.seq noJ_ok (Go.region noJ_ok rfl ?_))
  refine GoR.op rfl rfl (ld92 rfl f1 rfl) rfl ?_
  have G1 := G.ext x1
  have lp := hbp.1
  have ll := hbl.1
  refine GoR.callP rfl rfl (aOp_callFunc aFunc76 rfl) (needTruth_ok G1) ?_ ?_
  · rintro v h2 ⟨x2, ⟨ht, q⟩ | ⟨_, q⟩⟩
    case inr => cases q
    cases q
    refine ⟨_, rfl, GoR.end (Go.region noJ_ok rfl ?_)⟩
    have f2 := f1.ext x2
    refine GoR.op rfl rfl (ld92 rfl f2 rfl) rfl ?_
    have G2 := G1.ext x2
    refine GoR.call rfl rfl (aOp_callFunc aFunc88 rfl) (ask_ok (Ms := Ms) G.np G.nb G.L G.M G.l G.ss G.sm G.mc h2 G2.s G2.m) ?_ (by rintro _ _ ⟨q, _⟩; cases q)
    rintro _ h3 ⟨q, x3⟩
    cases q
    refine ⟨_, rfl, ?_⟩
    refine GoR.op rfl rfl rfl rfl ?_
    refine GoR.op rfl rfl rfl rfl ?_
    refine GoR.op rfl rfl rfl rfl ?_
    have x03 := (x1.trans x2).trans x3
    have p3 := hbp.ext x03
    have l3 := hbl.ext x03
    refine GoR.store rfl rfl rfl rfl rfl rfl p3 rfl sz3 rfl rfl rfl fun h4 u4 => ?_
    refine GoR.store rfl rfl rfl rfl rfl rfl (l3.upd u4 (fun e => hne e.symm)) rfl sz3 rfl rfl rfl fun h5 u5 => ?_
    refine GoR.end (Go.endL (FLeft.ret (v := .tuple []) (aResult_of Try.func87 rfl rfl) ⟨⟨by rw [u5.1, u4.1]; exact x03.1, fun b hbl hn => ?_⟩, .inl ⟨rfl, ht, (u4.has p3).upd u5 hne, u5.has (l3.upd u4 (fun e => hne e.symm))⟩⟩))
    simp at hn
    rw [u5.2.2 b hn.2, u4.2.2 b hn.1, x03.2 b hbl]
  · rintro chain h2 ⟨x2, ⟨_, q⟩ | ⟨ht, q⟩⟩
    · cases q
    have x02 := x1.trans x2
    exact FLeft.pan ⟨⟨x02.1, fun b hb _ => x02.2 b hb⟩, .inr ⟨q, ht, hbp.ext x02, hbl.ext x02⟩⟩

noncomputable def ops29 : Array Oper := ((drawnOps Try.f29)[0]?).getD #[]
theorem plan29 : plan ops29 = some (mkPlan ops29.toList [(0, 0, true, false), (1, 0, true, false), (2, 0, true, false), (3, 1, false, false), (4, 11, false, false), (5, 31, true, false)]) := by kernel_rfl

/-- What Ask answers. -/
def askR (np nb : Int) (Ls : List LeaseV) (Ms : List MarkV) : Int × Int × Int :=
  if bankValid np nb Ls Ms then (if 0 < truV np nb Ls Ms then ((askF np nb Ls Ms np.toNat).1, (askF np nb Ls Ms np.toNat).2, 0) else (0, 0, 10)) else (0, 0, 1)

/-- Ask. -/
theorem Ask_ok (B : BankIn h np nb s m Ls Ms) : Runs Try.prog 29 [.agg [.int .i64 np, .int .i64 nb, s, m]] h
    (fun en h' => en = .ret (.tuple [.int .i64 (askR np nb Ls Ms).1, .int .i64 (askR np nb Ls Ms).2.1, .int .i64 (askR np nb Ls Ms).2.2]) ∧ Ext h h') := by
  refine Runs.intro aFunc29 rfl rfl rfl rfl fun rest => ?_
  refine Go.seq noJ_ok (Go.region noJ_ok rfl ?_)
  refine GoR.box rfl rfl rfl rfl rfl rfl fun h1 x1 f1 => ?_
  refine GoR.alloc rfl rfl rfl zt3 rfl rfl fun h2 x2 f2 => ?_
  refine GoR.alloc rfl rfl rfl zt3 rfl rfl fun h2' x2' f2' => ?_
  refine GoR.op rfl rfl rfl rfl ?_
  refine GoR.end (Go.seq noJ_ok (Go.region noJ_ok rfl ?_))
  have x12 := (x1.trans x2).trans x2'
  have a1 := x1.1
  have a2 := x2.1
  have a2' := x2'.1
  have l2a := f2.1
  replace f1 := f1.ext (x2.trans x2')
  replace f2 := f2.ext x2'
  have l2' := f2'.1
  refine GoR.op rfl rfl (ld25 rfl f1 rfl) rfl ?_
  refine GoR.op rfl rfl rfl rfl ?_
  have hne : h1.next ≠ h2.next := by omega
  have hatt : Runs Try.prog 58 [.agg [.int .i64 np, .int .i64 nb, s, m], .func (.func 87) [] [.ptr h1.next 0, .ptr h2.next 0]] h2' (fun en h' => en = .ret (.int .i64 (askR np nb Ls Ms).2.2) ∧ ExtS [h1.next, h2.next] h2' h' ∧ Has h' h1.next (.cells .plain [.int .i64 (askR np nb Ls Ms).1] 3) ∧ Has h' h2.next (.cells .plain [.int .i64 (askR np nb Ls Ms).2.1] 3)) := by
    unfold askR
    cases hv : bankValid np nb Ls Ms with
    | false =>
      refine (attempt_invalid np nb s m Ls Ms 87 [] [.ptr h1.next 0, .ptr h2.next 0] h2' (B.ext x12) hv).mono ?_
      rintro en h' ⟨q, x⟩
      exact ⟨q, ⟨x.1, fun b hb _ => x.2 b hb⟩, f2.ext x, f2'.ext x⟩
    | true =>
      refine (attempt_valid np nb s m Ls Ms 87 _ aFunc87 [] [.ptr h1.next 0, .ptr h2.next 0] h2' (B.ext x12) hv [h1.next, h2.next] (by simp; omega) (fun code h'' => (0 < truV np nb Ls Ms ∧ code = 0 ∧ Has h'' h1.next (.cells .plain [.int .i64 (askF np nb Ls Ms np.toNat).1] 3) ∧ Has h'' h2.next (.cells .plain [.int .i64 (askF np nb Ls Ms np.toNat).2] 3)) ∨ (¬ 0 < truV np nb Ls Ms ∧ code = 10 ∧ Has h'' h1.next (.cells .plain [.int .i64 0] 3) ∧ Has h'' h2.next (.cells .plain [.int .i64 0] 3))) ?_).mono ?_
      · intro s' h' x' hs' hss' _ _
        refine (ask1_ok ((B.ext x12).gnd hv x' hs' hss') (f2.ext x') (f2'.ext x') hne).mono ?_
        rintro en h'' ⟨e, ⟨q, ht, g1, g2⟩ | ⟨q, ht, g1, g2⟩⟩
        · exact ⟨e, .inl ⟨q, .inl ⟨ht, rfl, g1, g2⟩⟩⟩
        · exact ⟨e, .inr ⟨10, q, .inr ⟨ht, rfl, g1, g2⟩⟩⟩
      · have mv : ∀ {h3 h2'' : AH} {b : Nat} {o : ABlk}, ExtS [h1.next, h2.next] h2' h3 → (∀ b, b < h2'.next → h3.get b = h2''.get b) → b < h2'.next → Has h2'' b o → Has h3 b o := fun e1 e2 hb k => ⟨by have := e1.1; omega, by rw [e2 _ hb]; exact k.2⟩
        rintro en h3 ⟨code, h2'', q, ⟨ht, rfl, g1, g2⟩ | ⟨ht, rfl, g1, g2⟩, e3, e4⟩
        · rw [if_pos rfl, if_pos ht]
          exact ⟨q, e3, mv e3 e4 (by omega) g1, mv e3 e4 (by omega) g2⟩
        · rw [if_pos rfl, if_neg ht]
          exact ⟨q, e3, mv e3 e4 (by omega) g1, mv e3 e4 (by omega) g2⟩
  refine GoR.call rfl rfl (aOp_callFunc aFunc58 rfl) hatt ?_ (by rintro _ _ ⟨q, _⟩; cases q)
  rintro _ h3 ⟨q, e3, p3, l3⟩
  cases q
  refine ⟨_, rfl, ?_⟩
  refine GoR.op rfl rfl rfl rfl ?_
  refine GoR.end (Go.seq noJ_ok (Go.drawnE plan29 ?_))
  refine GoE.quiet rfl rfl (ld3 rfl p3 rfl) rfl ?_
  refine GoE.quiet rfl rfl (ld3 rfl l3 rfl) rfl ?_
  refine GoE.quiet rfl rfl rfl rfl ?_
  refine GoE.store rfl rfl rfl rfl (dropF_keep (show bit? 1 2 = false from rfl) (dropF_keep (show bit? 1 1 = false from rfl) (dropF_drop (show bit? 1 0 = true from rfl) rfl))) rfl rfl p3 rfl sz3 rfl rfl rfl fun h4 u4 => ?_
  have l4 := l3.upd u4 (fun e => hne e.symm)
  refine ⟨?_, ?_⟩
  · exact recheck_cons (h2 := h4) rfl rfl (sameA_int _ _) (recheck_cons (h2 := h4) rfl (ld3 rfl l4 rfl) (sameA_int _ _) recheck_nil)
  refine GoE.store rfl rfl rfl rfl (dropF_keep (show bit? 11 2 = false from rfl) (dropF_drop (show bit? 11 1 = true from rfl) rfl)) rfl rfl l4 rfl sz3 rfl rfl rfl fun h5 u5 => ?_
  refine ⟨?_, ?_⟩
  · exact recheck_cons (h2 := h5) rfl rfl (sameA_int _ _) recheck_nil
  refine GoE.quiet rfl rfl rfl rfl ?_
  have n3 := e3.1
  have n4 : h4.next = h3.next := u4.1
  have n5 : h5.next = h4.next := u5.1
  refine GoE.end rfl (Go.ret noJ_ok (ret_end (aResult_of Try.func29 rfl (aResults_cellC rfl ((u4.has p3).upd u5 hne) (inCells_one ag3 rfl) (aResults_cellC rfl (u5.has l4) (inCells_one ag3 rfl) (aResults_tmp rfl)))) ⟨rfl, by have := x12.1; omega, fun b hb => ?_⟩))
  have := x12.1
  rw [u5.2.2 b (by omega), u4.2.2 b (by omega), e3.2 b (by omega) (by simp; omega), x12.2 b hb]
end Go.Proofs.Ytidfcmjlfadieaa

namespace Go.Proofs.Ytidfcmjlfadieaa
open Go Go.AbsE
set_option maxRecDepth 100000
set_option linter.unusedVariables false
variable {np nb : Int} {Ls : List LeaseV} {Ms : List MarkV} {s m : AVal} {h h' : AH}

theorem in_ok (n a b : Int) {r : Bool} (hr : decide (a ≤ n ∧ n ≤ b) = r) (h : AH) : Runs Try.prog 54 [.int .i64 n, .int .i64 a, .int .i64 b] h (fun en h' => en = .ret (.bool r) ∧ Ext h h') := by
  refine Runs.intro aFunc54 rfl rfl rfl rfl fun rest => ?_
  refine Go.seq noJ_ok (Go.region noJ_ok rfl ?_)
  refine GoR.op rfl rfl rfl rfl ?_
  refine GoR.end (Go.seq noJ_ok (Go.region noJ_ok rfl ?_))
  cases e1 : decide (a ≤ n) with
  | false =>
    refine GoR.op rfl rfl rfl rfl ?_
    refine GoR.op rfl rfl rfl rfl ?_
    refine GoR.op rfl rfl (aOp_leq rfl rfl e1) rfl ?_
    refine GoR.op rfl rfl rfl rfl ?_
    refine GoR.skip rfl rfl rfl ?_
    refine GoR.skip rfl rfl rfl ?_
    refine GoR.skip rfl rfl rfl ?_
    refine GoR.op rfl rfl rfl rfl ?_
    refine GoR.op rfl rfl rfl rfl ?_
    refine GoR.end (Go.ret noJ_ok (ret_end (aResult_of Try.func54 rfl rfl) ⟨?_, Ext.refl _⟩))
    rw [← hr]
    simp only [decide_eq_true_eq, decide_eq_false_iff_not] at e1
    simp [oneOrTuple]
    try omega
  | true =>
    cases e2 : decide (n ≤ b) with
    | false =>
      refine GoR.op rfl rfl rfl rfl ?_
      refine GoR.op rfl rfl rfl rfl ?_
      refine GoR.op rfl rfl (aOp_leq rfl rfl e1) rfl ?_
      refine GoR.op rfl rfl rfl rfl ?_
      refine GoR.op rfl rfl rfl rfl ?_
      refine GoR.op rfl rfl rfl rfl ?_
      refine GoR.op rfl rfl (aOp_leq rfl rfl e2) rfl ?_
      refine GoR.op rfl rfl rfl rfl ?_
      refine GoR.op rfl rfl rfl rfl ?_
      refine GoR.end (Go.ret noJ_ok (ret_end (aResult_of Try.func54 rfl rfl) ⟨?_, Ext.refl _⟩))
      rw [← hr]
      simp only [decide_eq_true_eq, decide_eq_false_iff_not] at e1 e2
      simp [oneOrTuple]
      try omega
    | true =>
      refine GoR.op rfl rfl rfl rfl ?_
      refine GoR.op rfl rfl rfl rfl ?_
      refine GoR.op rfl rfl (aOp_leq rfl rfl e1) rfl ?_
      refine GoR.op rfl rfl rfl rfl ?_
      refine GoR.op rfl rfl rfl rfl ?_
      refine GoR.op rfl rfl rfl rfl ?_
      refine GoR.op rfl rfl (aOp_leq rfl rfl e2) rfl ?_
      refine GoR.op rfl rfl rfl rfl ?_
      refine GoR.op rfl rfl rfl rfl ?_
      refine GoR.end (Go.ret noJ_ok (ret_end (aResult_of Try.func54 rfl rfl) ⟨?_, Ext.refl _⟩))
      rw [← hr]
      simp only [decide_eq_true_eq, decide_eq_false_iff_not] at e1 e2
      simp [oneOrTuple]
      try omega


theorem span_ok (lo hi a b : Int) (hi64 : lo ≤ hi → a ≤ lo → hi ≤ b → inI64 (hi - lo)) {r : Bool} (hr : decide (a ≤ lo ∧ lo ≤ hi ∧ hi ≤ b ∧ hi - lo ≤ 2) = r) (h : AH) : Runs Try.prog 55 [.agg [.int .i64 lo, .int .i64 hi], .int .i64 a, .int .i64 b] h (fun en h' => en = .ret (.bool r) ∧ Ext h h') := by
  refine Runs.intro aFunc55 rfl rfl rfl rfl fun rest => ?_
  refine Go.seq noJ_ok (Go.region noJ_ok rfl ?_)
  refine GoR.box rfl rfl rfl rfl rfl rfl fun h1 x1 f1 => ?_
  refine GoR.op rfl rfl rfl rfl ?_
  refine GoR.end (Go.seq noJ_ok (Go.region noJ_ok rfl ?_))
  cases e1 : decide (a ≤ lo) with
  | false =>
    refine GoR.op rfl rfl rfl rfl ?_
    refine GoR.op rfl rfl (fa40_0 rfl) rfl ?_
    refine GoR.op rfl rfl (ld3 rfl f1 rfl) rfl ?_
    refine GoR.op rfl rfl (aOp_leq rfl rfl e1) rfl ?_
    refine GoR.op rfl rfl rfl rfl ?_
    refine GoR.skip rfl rfl rfl ?_
    refine GoR.skip rfl rfl rfl ?_
    refine GoR.skip rfl rfl rfl ?_
    refine GoR.skip rfl rfl rfl ?_
    refine GoR.skip rfl rfl rfl ?_
    refine GoR.op rfl rfl rfl rfl ?_
    refine GoR.op rfl rfl rfl rfl ?_
    refine GoR.skip rfl rfl rfl ?_
    refine GoR.skip rfl rfl rfl ?_
    refine GoR.skip rfl rfl rfl ?_
    refine GoR.skip rfl rfl rfl ?_
    refine GoR.op rfl rfl rfl rfl ?_
    refine GoR.op rfl rfl rfl rfl ?_
    refine GoR.skip rfl rfl rfl ?_
    refine GoR.skip rfl rfl rfl ?_
    refine GoR.skip rfl rfl rfl ?_
    refine GoR.skip rfl rfl rfl ?_
    refine GoR.skip rfl rfl rfl ?_
    refine GoR.skip rfl rfl rfl ?_
    refine GoR.op rfl rfl rfl rfl ?_
    refine GoR.op rfl rfl rfl rfl ?_
    refine GoR.end (Go.ret noJ_ok (ret_end (aResult_of Try.func55 rfl rfl) ⟨?_, x1⟩))
    rw [← hr]
    simp only [decide_eq_true_eq, decide_eq_false_iff_not] at e1
    simp [oneOrTuple]
    try omega
  | true =>
    cases e2 : decide (lo ≤ hi) with
    | false =>
      refine GoR.op rfl rfl rfl rfl ?_
      refine GoR.op rfl rfl (fa40_0 rfl) rfl ?_
      refine GoR.op rfl rfl (ld3 rfl f1 rfl) rfl ?_
      refine GoR.op rfl rfl (aOp_leq rfl rfl e1) rfl ?_
      refine GoR.op rfl rfl rfl rfl ?_
      refine GoR.op rfl rfl (fa40_0 rfl) rfl ?_
      refine GoR.op rfl rfl (ld3 rfl f1 rfl) rfl ?_
      refine GoR.op rfl rfl (fa40_1 rfl) rfl ?_
      refine GoR.op rfl rfl (ld3 rfl f1 rfl) rfl ?_
      refine GoR.op rfl rfl (aOp_leq rfl rfl e2) rfl ?_
      refine GoR.op rfl rfl rfl rfl ?_
      refine GoR.op rfl rfl rfl rfl ?_
      refine GoR.skip rfl rfl rfl ?_
      refine GoR.skip rfl rfl rfl ?_
      refine GoR.skip rfl rfl rfl ?_
      refine GoR.skip rfl rfl rfl ?_
      refine GoR.op rfl rfl rfl rfl ?_
      refine GoR.op rfl rfl rfl rfl ?_
      refine GoR.skip rfl rfl rfl ?_
      refine GoR.skip rfl rfl rfl ?_
      refine GoR.skip rfl rfl rfl ?_
      refine GoR.skip rfl rfl rfl ?_
      refine GoR.skip rfl rfl rfl ?_
      refine GoR.skip rfl rfl rfl ?_
      refine GoR.op rfl rfl rfl rfl ?_
      refine GoR.op rfl rfl rfl rfl ?_
      refine GoR.end (Go.ret noJ_ok (ret_end (aResult_of Try.func55 rfl rfl) ⟨?_, x1⟩))
      rw [← hr]
      simp only [decide_eq_true_eq, decide_eq_false_iff_not] at e1 e2
      simp [oneOrTuple]
      try omega
    | true =>
      cases e3 : decide (hi ≤ b) with
      | false =>
        refine GoR.op rfl rfl rfl rfl ?_
        refine GoR.op rfl rfl (fa40_0 rfl) rfl ?_
        refine GoR.op rfl rfl (ld3 rfl f1 rfl) rfl ?_
        refine GoR.op rfl rfl (aOp_leq rfl rfl e1) rfl ?_
        refine GoR.op rfl rfl rfl rfl ?_
        refine GoR.op rfl rfl (fa40_0 rfl) rfl ?_
        refine GoR.op rfl rfl (ld3 rfl f1 rfl) rfl ?_
        refine GoR.op rfl rfl (fa40_1 rfl) rfl ?_
        refine GoR.op rfl rfl (ld3 rfl f1 rfl) rfl ?_
        refine GoR.op rfl rfl (aOp_leq rfl rfl e2) rfl ?_
        refine GoR.op rfl rfl rfl rfl ?_
        refine GoR.op rfl rfl rfl rfl ?_
        refine GoR.op rfl rfl (fa40_1 rfl) rfl ?_
        refine GoR.op rfl rfl (ld3 rfl f1 rfl) rfl ?_
        refine GoR.op rfl rfl rfl rfl ?_
        refine GoR.op rfl rfl (aOp_leq rfl rfl e3) rfl ?_
        refine GoR.op rfl rfl rfl rfl ?_
        refine GoR.op rfl rfl rfl rfl ?_
        refine GoR.skip rfl rfl rfl ?_
        refine GoR.skip rfl rfl rfl ?_
        refine GoR.skip rfl rfl rfl ?_
        refine GoR.skip rfl rfl rfl ?_
        refine GoR.skip rfl rfl rfl ?_
        refine GoR.skip rfl rfl rfl ?_
        refine GoR.op rfl rfl rfl rfl ?_
        refine GoR.op rfl rfl rfl rfl ?_
        refine GoR.end (Go.ret noJ_ok (ret_end (aResult_of Try.func55 rfl rfl) ⟨?_, x1⟩))
        rw [← hr]
        simp only [decide_eq_true_eq, decide_eq_false_iff_not] at e1 e2 e3
        simp [oneOrTuple]
        try omega
      | true =>
        cases e4 : decide (hi - lo ≤ 2) with
        | false =>
          have h64 : inI64 (hi - lo) := hi64 (by simpa using e2) (by simpa using e1) (by simpa using e3)
          refine GoR.op rfl rfl rfl rfl ?_
          refine GoR.op rfl rfl (fa40_0 rfl) rfl ?_
          refine GoR.op rfl rfl (ld3 rfl f1 rfl) rfl ?_
          refine GoR.op rfl rfl (aOp_leq rfl rfl e1) rfl ?_
          refine GoR.op rfl rfl rfl rfl ?_
          refine GoR.op rfl rfl (fa40_0 rfl) rfl ?_
          refine GoR.op rfl rfl (ld3 rfl f1 rfl) rfl ?_
          refine GoR.op rfl rfl (fa40_1 rfl) rfl ?_
          refine GoR.op rfl rfl (ld3 rfl f1 rfl) rfl ?_
          refine GoR.op rfl rfl (aOp_leq rfl rfl e2) rfl ?_
          refine GoR.op rfl rfl rfl rfl ?_
          refine GoR.op rfl rfl rfl rfl ?_
          refine GoR.op rfl rfl (fa40_1 rfl) rfl ?_
          refine GoR.op rfl rfl (ld3 rfl f1 rfl) rfl ?_
          refine GoR.op rfl rfl rfl rfl ?_
          refine GoR.op rfl rfl (aOp_leq rfl rfl e3) rfl ?_
          refine GoR.op rfl rfl rfl rfl ?_
          refine GoR.op rfl rfl rfl rfl ?_
          refine GoR.op rfl rfl (fa40_1 rfl) rfl ?_
          refine GoR.op rfl rfl (ld3 rfl f1 rfl) rfl ?_
          refine GoR.op rfl rfl (fa40_0 rfl) rfl ?_
          refine GoR.op rfl rfl (ld3 rfl f1 rfl) rfl ?_
          refine GoR.op rfl rfl (aOp_sub rfl rfl h64 rfl) rfl ?_
          refine GoR.op rfl rfl (aOp_leq rfl rfl e4) rfl ?_
          refine GoR.op rfl rfl rfl rfl ?_
          refine GoR.op rfl rfl rfl rfl ?_
          refine GoR.end (Go.ret noJ_ok (ret_end (aResult_of Try.func55 rfl rfl) ⟨?_, x1⟩))
          rw [← hr]
          simp only [decide_eq_true_eq, decide_eq_false_iff_not] at e1 e2 e3 e4
          simp [oneOrTuple]
          try omega
        | true =>
          have h64 : inI64 (hi - lo) := hi64 (by simpa using e2) (by simpa using e1) (by simpa using e3)
          refine GoR.op rfl rfl rfl rfl ?_
          refine GoR.op rfl rfl (fa40_0 rfl) rfl ?_
          refine GoR.op rfl rfl (ld3 rfl f1 rfl) rfl ?_
          refine GoR.op rfl rfl (aOp_leq rfl rfl e1) rfl ?_
          refine GoR.op rfl rfl rfl rfl ?_
          refine GoR.op rfl rfl (fa40_0 rfl) rfl ?_
          refine GoR.op rfl rfl (ld3 rfl f1 rfl) rfl ?_
          refine GoR.op rfl rfl (fa40_1 rfl) rfl ?_
          refine GoR.op rfl rfl (ld3 rfl f1 rfl) rfl ?_
          refine GoR.op rfl rfl (aOp_leq rfl rfl e2) rfl ?_
          refine GoR.op rfl rfl rfl rfl ?_
          refine GoR.op rfl rfl rfl rfl ?_
          refine GoR.op rfl rfl (fa40_1 rfl) rfl ?_
          refine GoR.op rfl rfl (ld3 rfl f1 rfl) rfl ?_
          refine GoR.op rfl rfl rfl rfl ?_
          refine GoR.op rfl rfl (aOp_leq rfl rfl e3) rfl ?_
          refine GoR.op rfl rfl rfl rfl ?_
          refine GoR.op rfl rfl rfl rfl ?_
          refine GoR.op rfl rfl (fa40_1 rfl) rfl ?_
          refine GoR.op rfl rfl (ld3 rfl f1 rfl) rfl ?_
          refine GoR.op rfl rfl (fa40_0 rfl) rfl ?_
          refine GoR.op rfl rfl (ld3 rfl f1 rfl) rfl ?_
          refine GoR.op rfl rfl (aOp_sub rfl rfl h64 rfl) rfl ?_
          refine GoR.op rfl rfl (aOp_leq rfl rfl e4) rfl ?_
          refine GoR.op rfl rfl rfl rfl ?_
          refine GoR.op rfl rfl rfl rfl ?_
          refine GoR.end (Go.ret noJ_ok (ret_end (aResult_of Try.func55 rfl rfl) ⟨?_, x1⟩))
          rw [← hr]
          simp only [decide_eq_true_eq, decide_eq_false_iff_not] at e1 e2 e3 e4
          simp [oneOrTuple]
          try omega

theorem Perch_ok (bank : List AVal) (s1 m1 : AVal) (p : Int) (hbk : bank = [.int .i64 np, .int .i64 nb, s1, m1]) (hi : inI64 (np - 1)) {r : Bool} (hr : decide (0 ≤ p ∧ p ≤ np - 1) = r) (h : AH) : Runs Try.prog 56 [.agg bank, .int .i64 p] h (fun en h' => en = .ret (.bool r) ∧ Ext h h') := by
  subst hbk
  refine Runs.intro aFunc56 rfl rfl rfl rfl fun rest => ?_
  refine Go.seq noJ_ok (Go.region noJ_ok rfl ?_)
  refine GoR.box rfl rfl rfl rfl rfl rfl fun h1 x1 f1 => ?_
  refine GoR.op rfl rfl rfl rfl ?_
  refine GoR.end (Go.seq noJ_ok (Go.region noJ_ok rfl ?_))
  refine GoR.op rfl rfl rfl rfl ?_
  refine GoR.op rfl rfl (fa25_0 rfl) rfl ?_
  refine GoR.op rfl rfl (ld3 rfl f1 rfl) rfl ?_
  refine GoR.op rfl rfl (aOp_sub rfl rfl hi rfl) rfl ?_
  refine GoR.call rfl rfl (aOp_callFunc aFunc54 rfl) (in_ok p 0 (np - 1) hr h1) ?_ (by rintro _ _ ⟨q, _⟩; cases q)
  rintro _ h2 ⟨q, x2⟩
  cases q
  refine ⟨_, rfl, ?_⟩
  refine GoR.op rfl rfl rfl rfl ?_
  exact GoR.end (Go.ret noJ_ok (ret_end (aResult_of Try.func56 rfl rfl) ⟨rfl, x1.trans x2⟩))
theorem Holder_ok (bank : List AVal) (s1 m1 : AVal) (p : Int) (hbk : bank = [.int .i64 np, .int .i64 nb, s1, m1]) {r : Bool} (hr : decide (0 ≤ p ∧ p ≤ nb) = r) (h : AH) : Runs Try.prog 57 [.agg bank, .int .i64 p] h (fun en h' => en = .ret (.bool r) ∧ Ext h h') := by
  subst hbk
  refine Runs.intro aFunc57 rfl rfl rfl rfl fun rest => ?_
  refine Go.seq noJ_ok (Go.region noJ_ok rfl ?_)
  refine GoR.box rfl rfl rfl rfl rfl rfl fun h1 x1 f1 => ?_
  refine GoR.op rfl rfl rfl rfl ?_
  refine GoR.end (Go.seq noJ_ok (Go.region noJ_ok rfl ?_))
  refine GoR.op rfl rfl rfl rfl ?_
  refine GoR.op rfl rfl (fa25_1 rfl) rfl ?_
  refine GoR.op rfl rfl (ld3 rfl f1 rfl) rfl ?_
  refine GoR.call rfl rfl (aOp_callFunc aFunc54 rfl) (in_ok p 0 nb hr h1) ?_ (by rintro _ _ ⟨q, _⟩; cases q)
  rintro _ h2 ⟨q, x2⟩
  cases q
  refine ⟨_, rfl, ?_⟩
  refine GoR.op rfl rfl rfl rfl ?_
  exact GoR.end (Go.ret noJ_ok (ret_end (aResult_of Try.func57 rfl rfl) ⟨rfl, x1.trans x2⟩))

/-- long: only lengths are looked at. -/
theorem long_ok {a b : Nat} (hs : lenA s = some a) (hm : lenA m = some b) {r : Bool} (hr : decide (40 < (if (a : Int) < b then (b : Int) else a)) = r) (h : AH) : Runs Try.prog 12 [.agg [.int .i64 np, .int .i64 nb, s, m]] h (fun en h' => en = .ret (.bool r) ∧ Ext h h') := by
  refine Runs.intro aFunc12 rfl rfl rfl rfl fun rest => ?_
  refine Go.seq noJ_ok (Go.region noJ_ok rfl ?_)
  refine GoR.box rfl rfl rfl rfl rfl rfl fun h1 x1 f1 => ?_
  refine GoR.op rfl rfl rfl rfl ?_
  refine GoR.end (Go.seq noJ_ok (Go.region noJ_ok rfl ?_))
  refine GoR.op rfl rfl (fa25_2 rfl) rfl ?_
  refine GoR.op rfl rfl (ld22 rfl f1 rfl) rfl ?_
  refine GoR.op rfl rfl (aOp_lenSlice Try.underlying22 rfl hs) rfl ?_
  refine GoR.op rfl rfl (fa25_3 rfl) rfl ?_
  refine GoR.op rfl rfl (ld23 rfl f1 rfl) rfl ?_
  refine GoR.op rfl rfl (aOp_lenSlice Try.underlying23 rfl hm) rfl ?_
  refine GoR.op rfl rfl (aOp_max2 rfl rfl rfl) rfl ?_
  refine GoR.op rfl rfl (aOp_gtr rfl rfl hr) rfl ?_
  refine GoR.op rfl rfl rfl rfl ?_
  exact GoR.end (Go.ret noJ_ok (ret_end (aResult_of Try.func12 rfl rfl) ⟨rfl, x1⟩))
end Go.Proofs.Ytidfcmjlfadieaa

namespace Go.Proofs.Ytidfcmjlfadieaa
open Go Go.AbsE
set_option maxRecDepth 100000
set_option linter.unusedVariables false
variable {np nb : Int} {Ls : List LeaseV} {Ms : List MarkV} {s m : AVal} {h h' : AH}
theorem valid_no_lease {i : Nat} {l : LeaseV} (hl : Ls[i]? = some l) (hf : fitsF np nb l.cells = false) : bankValid np nb Ls Ms = false := by
  have : (Ls.map LeaseV.cells).all (fitsF np nb) = false := List.all_eq_false.2 ⟨l.cells, List.mem_map_of_mem (List.mem_of_getElem? hl), by rw [hf]; exact Bool.false_ne_true⟩
  unfold bankValid
  rw [this]
  simp
theorem valid_no_mark {i : Nat} {l : MarkV} (hl : Ms[i]? = some l) (hf : markF np nb l.cells = false) : bankValid np nb Ls Ms = false := by
  have : (Ms.map MarkV.cells).all (markF np nb) = false := List.all_eq_false.2 ⟨l.cells, List.mem_map_of_mem (List.mem_of_getElem? hl), by rw [hf]; exact Bool.false_ne_true⟩
  unfold bankValid
  rw [this]
  simp
theorem valid_no_head (h : ¬ ((1 ≤ np ∧ np ≤ 10) ∧ (1 ≤ nb ∧ nb ≤ 4) ∧ (Ls.length : Int) ≤ 4 ∧ (Ms.length : Int) ≤ 6)) : bankValid np nb Ls Ms = false := by
  cases hq : bankValid np nb Ls Ms with
  | false => rfl
  | true =>
    unfold bankValid at hq
    simp only [Bool.and_eq_true, decide_eq_true_eq] at hq
    omega
theorem valid_yes (h1 : 1 ≤ np ∧ np ≤ 10) (h2 : 1 ≤ nb ∧ nb ≤ 4) (h3 : (Ls.length : Int) ≤ 4) (h4 : (Ms.length : Int) ≤ 6) (h5 : ∀ (j : Nat) l, Ls[j]? = some l → fitsF np nb l.cells = true) (h6 : ∀ (j : Nat) l, Ms[j]? = some l → markF np nb l.cells = true) : bankValid np nb Ls Ms = true := by
  unfold bankValid
  simp only [Bool.and_eq_true, decide_eq_true_eq, List.all_eq_true, List.mem_map]
  refine ⟨⟨⟨⟨⟨h1, h2⟩, h3⟩, ?_⟩, h4⟩, ?_⟩
  · rintro _ ⟨l, hl, rfl⟩
    obtain ⟨j, hj⟩ := List.mem_iff_getElem?.1 hl
    exact h5 j l hj
  · rintro _ ⟨l, hl, rfl⟩
    obtain ⟨j, hj⟩ := List.mem_iff_getElem?.1 hl
    exact h6 j l hj
noncomputable def ops13 : Array Oper := ((drawnOps Try.f13)[0]?).getD #[]
theorem plan13 : plan ops13 = some (mkPlan ops13.toList [(0, 0, true, false), (1, 0, true, false), (2, 2, true, false), (3, 0, true, false), (4, 14, true, false), (5, 30, true, false), (6, 62, true, false), (7, 127, false, false), (8, 255, true, false),
        (9, 511, true, false), (10, 1023, true, false), (11, 1023, true, false), (12, 3071, true, false),
        (13, 1023, true, false), (14, 15359, true, false), (15, 31743, true, false), (16, 64511, true, false),
        (17, 131071, false, false), (18, 262143, true, false), (19, 524287, true, false)]) := by kernel_rfl

/-- The document's own Bank: a bank is valid. -/
theorem refBank_ok (B : BankIn h np nb s m Ls Ms) (hlL : Ls.length ≤ 1000) (hlM : Ms.length ≤ 1000) : Runs Try.prog 13 [.agg [.int .i64 np, .int .i64 nb, s, m]] h (fun en h' => en = .ret (.bool (bankValid np nb Ls Ms)) ∧ Ext h h') := by
  refine Runs.intro aFunc13 rfl rfl rfl rfl fun rest => ?_
  refine Go.seq noJ_ok (Go.region noJ_ok rfl ?_)
  refine GoR.box rfl rfl rfl rfl rfl rfl fun h1 x1 f1 => ?_
  refine GoR.op rfl rfl rfl rfl ?_
  refine GoR.end (Go.seq noJ_ok (Go.seq noJ_ok (Go.region noJ_ok rfl ?_)))
  have hsl := (B.hs.ext x1).len
  have hml := (B.hm.ext x1).len
  rw [List.length_map] at hsl hml
  cases e1 : decide (1 ≤ np ∧ np ≤ 10) with
  | false =>
    refine GoR.op rfl rfl (fa25_0 rfl) rfl ?_
    refine GoR.op rfl rfl (ld3 rfl f1 rfl) rfl ?_
    refine GoR.call rfl rfl (aOp_callFunc aFunc54 rfl) (in_ok np 1 10 e1 _) ?_ (by rintro _ _ ⟨q, _⟩; cases q)
    rintro _ k1 ⟨q, y1⟩
    cases q
    refine ⟨_, rfl, ?_⟩
    replace f1 := f1.ext y1
    refine GoR.op rfl rfl rfl rfl ?_
    refine GoR.op rfl rfl rfl rfl ?_
    refine GoR.skip rfl rfl rfl ?_
    refine GoR.skip rfl rfl rfl ?_
    refine GoR.skip rfl rfl rfl ?_
    refine GoR.skip rfl rfl rfl ?_
    refine GoR.op rfl rfl rfl rfl ?_
    refine GoR.op rfl rfl rfl rfl ?_
    refine GoR.skip rfl rfl rfl ?_
    refine GoR.skip rfl rfl rfl ?_
    refine GoR.skip rfl rfl rfl ?_
    refine GoR.skip rfl rfl rfl ?_
    refine GoR.op rfl rfl rfl rfl ?_
    refine GoR.op rfl rfl rfl rfl ?_
    refine GoR.skip rfl rfl rfl ?_
    refine GoR.skip rfl rfl rfl ?_
    refine GoR.skip rfl rfl rfl ?_
    refine GoR.skip rfl rfl rfl ?_
    refine GoR.op rfl rfl rfl rfl ?_
    refine GoR.end (Go.cond noJ_ok (b := true) rfl (Go.seq noJ_ok (Go.region noJ_ok rfl ?_)))
    refine GoR.op rfl rfl rfl rfl ?_
    refine GoR.end (Go.ret noJ_ok (ret_end (aResult_of Try.func13 rfl rfl) ⟨?_, (x1).trans y1⟩))
    simp only [decide_eq_true_eq, decide_eq_false_iff_not] at e1
    rw [valid_no_head (by omega)]
    rfl
  | true =>
    cases e2 : decide (1 ≤ nb ∧ nb ≤ 4) with
    | false =>
      refine GoR.op rfl rfl (fa25_0 rfl) rfl ?_
      refine GoR.op rfl rfl (ld3 rfl f1 rfl) rfl ?_
      refine GoR.call rfl rfl (aOp_callFunc aFunc54 rfl) (in_ok np 1 10 e1 _) ?_ (by rintro _ _ ⟨q, _⟩; cases q)
      rintro _ k2 ⟨q, y2⟩
      cases q
      refine ⟨_, rfl, ?_⟩
      replace f1 := f1.ext y2
      refine GoR.op rfl rfl rfl rfl ?_
      refine GoR.op rfl rfl rfl rfl ?_
      refine GoR.op rfl rfl (fa25_1 rfl) rfl ?_
      refine GoR.op rfl rfl (ld3 rfl f1 rfl) rfl ?_
      refine GoR.call rfl rfl (aOp_callFunc aFunc54 rfl) (in_ok nb 1 4 e2 _) ?_ (by rintro _ _ ⟨q, _⟩; cases q)
      rintro _ k3 ⟨q, y3⟩
      cases q
      refine ⟨_, rfl, ?_⟩
      replace f1 := f1.ext y3
      refine GoR.op rfl rfl rfl rfl ?_
      refine GoR.op rfl rfl rfl rfl ?_
      refine GoR.op rfl rfl rfl rfl ?_
      refine GoR.skip rfl rfl rfl ?_
      refine GoR.skip rfl rfl rfl ?_
      refine GoR.skip rfl rfl rfl ?_
      refine GoR.skip rfl rfl rfl ?_
      refine GoR.op rfl rfl rfl rfl ?_
      refine GoR.op rfl rfl rfl rfl ?_
      refine GoR.skip rfl rfl rfl ?_
      refine GoR.skip rfl rfl rfl ?_
      refine GoR.skip rfl rfl rfl ?_
      refine GoR.skip rfl rfl rfl ?_
      refine GoR.op rfl rfl rfl rfl ?_
      refine GoR.end (Go.cond noJ_ok (b := true) rfl (Go.seq noJ_ok (Go.region noJ_ok rfl ?_)))
      refine GoR.op rfl rfl rfl rfl ?_
      refine GoR.end (Go.ret noJ_ok (ret_end (aResult_of Try.func13 rfl rfl) ⟨?_, ((x1).trans y2).trans y3⟩))
      simp only [decide_eq_true_eq, decide_eq_false_iff_not] at e1 e2
      rw [valid_no_head (by omega)]
      rfl
    | true =>
      cases e3 : decide ((4 : Int) < Ls.length) with
      | true =>
        refine GoR.op rfl rfl (fa25_0 rfl) rfl ?_
        refine GoR.op rfl rfl (ld3 rfl f1 rfl) rfl ?_
        refine GoR.call rfl rfl (aOp_callFunc aFunc54 rfl) (in_ok np 1 10 e1 _) ?_ (by rintro _ _ ⟨q, _⟩; cases q)
        rintro _ k4 ⟨q, y4⟩
        cases q
        refine ⟨_, rfl, ?_⟩
        replace f1 := f1.ext y4
        refine GoR.op rfl rfl rfl rfl ?_
        refine GoR.op rfl rfl rfl rfl ?_
        refine GoR.op rfl rfl (fa25_1 rfl) rfl ?_
        refine GoR.op rfl rfl (ld3 rfl f1 rfl) rfl ?_
        refine GoR.call rfl rfl (aOp_callFunc aFunc54 rfl) (in_ok nb 1 4 e2 _) ?_ (by rintro _ _ ⟨q, _⟩; cases q)
        rintro _ k5 ⟨q, y5⟩
        cases q
        refine ⟨_, rfl, ?_⟩
        replace f1 := f1.ext y5
        refine GoR.op rfl rfl rfl rfl ?_
        refine GoR.op rfl rfl rfl rfl ?_
        refine GoR.op rfl rfl rfl rfl ?_
        refine GoR.op rfl rfl (fa25_2 rfl) rfl ?_
        refine GoR.op rfl rfl (ld22 rfl f1 rfl) rfl ?_
        refine GoR.op rfl rfl (aOp_lenSlice Try.underlying22 rfl hsl) rfl ?_
        refine GoR.op rfl rfl (aOp_gtr rfl rfl e3) rfl ?_
        refine GoR.op rfl rfl rfl rfl ?_
        refine GoR.op rfl rfl rfl rfl ?_
        refine GoR.skip rfl rfl rfl ?_
        refine GoR.skip rfl rfl rfl ?_
        refine GoR.skip rfl rfl rfl ?_
        refine GoR.skip rfl rfl rfl ?_
        refine GoR.op rfl rfl rfl rfl ?_
        refine GoR.end (Go.cond noJ_ok (b := true) rfl (Go.seq noJ_ok (Go.region noJ_ok rfl ?_)))
        refine GoR.op rfl rfl rfl rfl ?_
        refine GoR.end (Go.ret noJ_ok (ret_end (aResult_of Try.func13 rfl rfl) ⟨?_, ((x1).trans y4).trans y5⟩))
        simp only [decide_eq_true_eq, decide_eq_false_iff_not] at e1 e2 e3
        rw [valid_no_head (by omega)]
        rfl
      | false =>
        cases e4 : decide ((6 : Int) < Ms.length) with
        | true =>
          refine GoR.op rfl rfl (fa25_0 rfl) rfl ?_
          refine GoR.op rfl rfl (ld3 rfl f1 rfl) rfl ?_
          refine GoR.call rfl rfl (aOp_callFunc aFunc54 rfl) (in_ok np 1 10 e1 _) ?_ (by rintro _ _ ⟨q, _⟩; cases q)
          rintro _ k6 ⟨q, y6⟩
          cases q
          refine ⟨_, rfl, ?_⟩
          replace f1 := f1.ext y6
          refine GoR.op rfl rfl rfl rfl ?_
          refine GoR.op rfl rfl rfl rfl ?_
          refine GoR.op rfl rfl (fa25_1 rfl) rfl ?_
          refine GoR.op rfl rfl (ld3 rfl f1 rfl) rfl ?_
          refine GoR.call rfl rfl (aOp_callFunc aFunc54 rfl) (in_ok nb 1 4 e2 _) ?_ (by rintro _ _ ⟨q, _⟩; cases q)
          rintro _ k7 ⟨q, y7⟩
          cases q
          refine ⟨_, rfl, ?_⟩
          replace f1 := f1.ext y7
          refine GoR.op rfl rfl rfl rfl ?_
          refine GoR.op rfl rfl rfl rfl ?_
          refine GoR.op rfl rfl rfl rfl ?_
          refine GoR.op rfl rfl (fa25_2 rfl) rfl ?_
          refine GoR.op rfl rfl (ld22 rfl f1 rfl) rfl ?_
          refine GoR.op rfl rfl (aOp_lenSlice Try.underlying22 rfl hsl) rfl ?_
          refine GoR.op rfl rfl (aOp_gtr rfl rfl e3) rfl ?_
          refine GoR.op rfl rfl rfl rfl ?_
          refine GoR.op rfl rfl rfl rfl ?_
          refine GoR.op rfl rfl (fa25_3 rfl) rfl ?_
          refine GoR.op rfl rfl (ld23 rfl f1 rfl) rfl ?_
          refine GoR.op rfl rfl (aOp_lenSlice Try.underlying23 rfl hml) rfl ?_
          refine GoR.op rfl rfl (aOp_gtr rfl rfl e4) rfl ?_
          refine GoR.op rfl rfl rfl rfl ?_
          refine GoR.end (Go.cond noJ_ok (b := true) rfl (Go.seq noJ_ok (Go.region noJ_ok rfl ?_)))
          refine GoR.op rfl rfl rfl rfl ?_
          refine GoR.end (Go.ret noJ_ok (ret_end (aResult_of Try.func13 rfl rfl) ⟨?_, ((x1).trans y6).trans y7⟩))
          simp only [decide_eq_true_eq, decide_eq_false_iff_not] at e1 e2 e3 e4
          rw [valid_no_head (by omega)]
          rfl
        | false =>
          refine GoR.op rfl rfl (fa25_0 rfl) rfl ?_
          refine GoR.op rfl rfl (ld3 rfl f1 rfl) rfl ?_
          refine GoR.call rfl rfl (aOp_callFunc aFunc54 rfl) (in_ok np 1 10 e1 _) ?_ (by rintro _ _ ⟨q, _⟩; cases q)
          rintro _ k8 ⟨q, y8⟩
          cases q
          refine ⟨_, rfl, ?_⟩
          replace f1 := f1.ext y8
          refine GoR.op rfl rfl rfl rfl ?_
          refine GoR.op rfl rfl rfl rfl ?_
          refine GoR.op rfl rfl (fa25_1 rfl) rfl ?_
          refine GoR.op rfl rfl (ld3 rfl f1 rfl) rfl ?_
          refine GoR.call rfl rfl (aOp_callFunc aFunc54 rfl) (in_ok nb 1 4 e2 _) ?_ (by rintro _ _ ⟨q, _⟩; cases q)
          rintro _ k9 ⟨q, y9⟩
          cases q
          refine ⟨_, rfl, ?_⟩
          replace f1 := f1.ext y9
          refine GoR.op rfl rfl rfl rfl ?_
          refine GoR.op rfl rfl rfl rfl ?_
          refine GoR.op rfl rfl rfl rfl ?_
          refine GoR.op rfl rfl (fa25_2 rfl) rfl ?_
          refine GoR.op rfl rfl (ld22 rfl f1 rfl) rfl ?_
          refine GoR.op rfl rfl (aOp_lenSlice Try.underlying22 rfl hsl) rfl ?_
          refine GoR.op rfl rfl (aOp_gtr rfl rfl e3) rfl ?_
          refine GoR.op rfl rfl rfl rfl ?_
          refine GoR.op rfl rfl rfl rfl ?_
          refine GoR.op rfl rfl (fa25_3 rfl) rfl ?_
          refine GoR.op rfl rfl (ld23 rfl f1 rfl) rfl ?_
          refine GoR.op rfl rfl (aOp_lenSlice Try.underlying23 rfl hml) rfl ?_
          refine GoR.op rfl rfl (aOp_gtr rfl rfl e4) rfl ?_
          refine GoR.op rfl rfl rfl rfl ?_
          refine GoR.end (Go.cond noJ_ok (b := false) rfl (Go.code noJ_ok (Go.seq noJ_ok (Go.seq noJ_ok (Go.region noJ_ok rfl ?_)))))
          simp only [decide_eq_true_eq, decide_eq_false_iff_not] at e1 e2 e3 e4
          have x2 := ((x1).trans y8).trans y9
          have hnp1 : inI64 (np - 1) := by constructor <;> omega
          have hnb1 : inI64 (nb - 1) := by constructor <;> omega
          generalize hk0 : k9 = k0 at *
          refine GoR.op rfl rfl rfl rfl ?_
          refine GoR.end (Go.block noJ_ok ?_)
          refine Go.keep [(1, .ptr h.next 0), (3, .int .i64 0)] ⟨rfl, rfl, trivial⟩ ?_
          refine Go.loopInv (fun n t h' => ∃ i, n + i = Ls.length ∧ t = keepT [(1, .ptr h.next 0), (3, .int .i64 (Int.ofNat i))] ∧ Ext k0 h' ∧ ∀ (j : Nat) l, j < i → Ls[j]? = some l → fitsF np nb l.cells = true) (n := Ls.length) ⟨0, rfl, rfl, Ext.refl _, fun j l hj => absurd hj (Nat.not_lt_zero _)⟩ ?_
          rintro n t h2 ⟨i, hn, rfl, z2, hfit⟩ again
          replace f1 := f1.ext z2
          have hs2 := B.hs.ext (x2.trans z2)
          have hm2 := B.hm.ext (x2.trans z2)
          refine Go.seq noJ_ok (Go.seq noJ_ok (Go.region noJ_ok rfl ?_))
          refine GoR.op rfl rfl rfl rfl ?_
          refine GoR.op rfl rfl (fa25_2 rfl) rfl ?_
          refine GoR.op rfl rfl (ld22 rfl f1 rfl) rfl ?_
          refine GoR.op rfl rfl (aOp_lenSlice Try.underlying22 rfl hs2.len) rfl ?_
          rw [List.length_map]
          by_cases hi : i < Ls.length
          · refine GoR.op rfl rfl (aOp_lss rfl rfl (r := true) (by simp; omega)) rfl ?_
            refine GoR.end (Go.cond noJ_ok (b := true) rfl (Go.code noJ_ok (Go.seq noJ_ok (Go.block noJ_ok (Go.seq noJ_ok (Go.region noJ_ok rfl ?_))))))
            obtain ⟨l, hl⟩ : ∃ l, Ls[i]? = some l := ⟨Ls[i], by simp [hi]⟩
            have hl2 : (Ls.map LeaseV.cells)[i]? = some l.cells := by rw [List.getElem?_map, hl]; rfl
            obtain ⟨b, off, q1, q2⟩ := hs2.at hl2
            rw [List.length_map] at q1
            refine GoR.op rfl rfl (fa25_2 rfl) rfl ?_
            refine GoR.op rfl rfl (ld22 rfl f1 rfl) rfl ?_
            refine GoR.op rfl rfl rfl rfl ?_
            refine GoR.op rfl rfl (aOp_indexAddr Try.underlying22 sz57 rfl q1 rfl (Nat.ble_eq_true_of_le hi)) rfl ?_
            refine GoR.op rfl rfl (aOp_loadE ag57 sz57 rfl q2) rfl ?_
            refine GoR.alloc rfl rfl rfl zt57 rfl rfl fun h3 x3 f3 => ?_
            refine GoR.store rfl rfl rfl rfl rfl rfl f3 rfl sz57 rfl rfl rfl fun h4 u4 => ?_
            have x24 : Ext h2 h4 := x3.upd u4 (Nat.le_refl _)
            replace f3 := u4.has f3
            replace f1 := f1.ext x24
            refine GoR.end (Go.seq noJ_ok (Go.region noJ_ok rfl ?_))
            cases d1 : decide (0 ≤ l.o ∧ l.o ≤ nb - 1) with
            | false =>
              refine GoR.op rfl rfl (fa57_0 rfl) rfl ?_
              refine GoR.op rfl rfl (ld3 rfl f3 rfl) rfl ?_
              refine GoR.op rfl rfl (fa25_1 rfl) rfl ?_
              refine GoR.op rfl rfl (ld3 rfl f1 rfl) rfl ?_
              refine GoR.op rfl rfl (aOp_sub rfl rfl hnb1 rfl) rfl ?_
              refine GoR.call rfl rfl (aOp_callFunc aFunc54 rfl) (in_ok l.o 0 (nb - 1) d1 _) ?_ (by rintro _ _ ⟨q, _⟩; cases q)
              rintro _ k10 ⟨q, y10⟩
              cases q
              refine ⟨_, rfl, ?_⟩
              replace f1 := f1.ext y10
              replace f3 := f3.ext y10
              refine GoR.op rfl rfl rfl rfl ?_
              refine GoR.op rfl rfl rfl rfl ?_
              refine GoR.skip rfl rfl rfl ?_
              refine GoR.skip rfl rfl rfl ?_
              refine GoR.skip rfl rfl rfl ?_
              refine GoR.skip rfl rfl rfl ?_
              refine GoR.skip rfl rfl rfl ?_
              refine GoR.skip rfl rfl rfl ?_
              refine GoR.skip rfl rfl rfl ?_
              refine GoR.op rfl rfl rfl rfl ?_
              refine GoR.op rfl rfl rfl rfl ?_
              refine GoR.skip rfl rfl rfl ?_
              refine GoR.skip rfl rfl rfl ?_
              refine GoR.skip rfl rfl rfl ?_
              refine GoR.skip rfl rfl rfl ?_
              refine GoR.skip rfl rfl rfl ?_
              refine GoR.skip rfl rfl rfl ?_
              refine GoR.op rfl rfl rfl rfl ?_
              refine GoR.op rfl rfl rfl rfl ?_
              refine GoR.skip rfl rfl rfl ?_
              refine GoR.skip rfl rfl rfl ?_
              refine GoR.skip rfl rfl rfl ?_
              refine GoR.skip rfl rfl rfl ?_
              refine GoR.skip rfl rfl rfl ?_
              refine GoR.skip rfl rfl rfl ?_
              refine GoR.skip rfl rfl rfl ?_
              refine GoR.op rfl rfl rfl rfl ?_
              refine GoR.end (Go.cond noJ_ok (b := true) rfl (Go.seq noJ_ok (Go.region noJ_ok rfl ?_)))
              refine GoR.op rfl rfl rfl rfl ?_
              refine GoR.end (Go.ret noJ_ok (ret_end (aResult_of Try.func13 rfl rfl) ⟨?_, (x2.trans z2).trans ((x24).trans y10)⟩))
              simp only [decide_eq_true_eq, decide_eq_false_iff_not] at d1
              rw [valid_no_lease hl (by unfold LeaseV.cells fitsF; simp only [decide_eq_false_iff_not]; omega)]
              rfl
            | true =>
              cases d2 : decide (0 ≤ l.fl ∧ l.fl ≤ l.fh ∧ l.fh ≤ np - 1 ∧ l.fh - l.fl ≤ 2) with
              | false =>
                refine GoR.op rfl rfl (fa57_0 rfl) rfl ?_
                refine GoR.op rfl rfl (ld3 rfl f3 rfl) rfl ?_
                refine GoR.op rfl rfl (fa25_1 rfl) rfl ?_
                refine GoR.op rfl rfl (ld3 rfl f1 rfl) rfl ?_
                refine GoR.op rfl rfl (aOp_sub rfl rfl hnb1 rfl) rfl ?_
                refine GoR.call rfl rfl (aOp_callFunc aFunc54 rfl) (in_ok l.o 0 (nb - 1) d1 _) ?_ (by rintro _ _ ⟨q, _⟩; cases q)
                rintro _ k11 ⟨q, y11⟩
                cases q
                refine ⟨_, rfl, ?_⟩
                replace f1 := f1.ext y11
                replace f3 := f3.ext y11
                refine GoR.op rfl rfl rfl rfl ?_
                refine GoR.op rfl rfl rfl rfl ?_
                refine GoR.op rfl rfl (fa57_1 rfl) rfl ?_
                refine GoR.op rfl rfl (ld40 rfl f3 rfl) rfl ?_
                refine GoR.op rfl rfl (fa25_0 rfl) rfl ?_
                refine GoR.op rfl rfl (ld3 rfl f1 rfl) rfl ?_
                refine GoR.op rfl rfl (aOp_sub rfl rfl hnp1 rfl) rfl ?_
                refine GoR.call rfl rfl (aOp_callFunc aFunc55 rfl) (span_ok l.fl l.fh 0 (np - 1) (by intro _ _ _; constructor <;> omega) d2 _) ?_ (by rintro _ _ ⟨q, _⟩; cases q)
                rintro _ k12 ⟨q, y12⟩
                cases q
                refine ⟨_, rfl, ?_⟩
                replace f1 := f1.ext y12
                replace f3 := f3.ext y12
                refine GoR.op rfl rfl rfl rfl ?_
                refine GoR.op rfl rfl rfl rfl ?_
                refine GoR.op rfl rfl rfl rfl ?_
                refine GoR.skip rfl rfl rfl ?_
                refine GoR.skip rfl rfl rfl ?_
                refine GoR.skip rfl rfl rfl ?_
                refine GoR.skip rfl rfl rfl ?_
                refine GoR.skip rfl rfl rfl ?_
                refine GoR.skip rfl rfl rfl ?_
                refine GoR.op rfl rfl rfl rfl ?_
                refine GoR.op rfl rfl rfl rfl ?_
                refine GoR.skip rfl rfl rfl ?_
                refine GoR.skip rfl rfl rfl ?_
                refine GoR.skip rfl rfl rfl ?_
                refine GoR.skip rfl rfl rfl ?_
                refine GoR.skip rfl rfl rfl ?_
                refine GoR.skip rfl rfl rfl ?_
                refine GoR.skip rfl rfl rfl ?_
                refine GoR.op rfl rfl rfl rfl ?_
                refine GoR.end (Go.cond noJ_ok (b := true) rfl (Go.seq noJ_ok (Go.region noJ_ok rfl ?_)))
                refine GoR.op rfl rfl rfl rfl ?_
                refine GoR.end (Go.ret noJ_ok (ret_end (aResult_of Try.func13 rfl rfl) ⟨?_, (x2.trans z2).trans (((x24).trans y11).trans y12)⟩))
                simp only [decide_eq_true_eq, decide_eq_false_iff_not] at d1 d2
                rw [valid_no_lease hl (by unfold LeaseV.cells fitsF; simp only [decide_eq_false_iff_not]; omega)]
                rfl
              | true =>
                cases d3 : decide (1 ≤ l.tl ∧ l.tl ≤ l.th ∧ l.th ≤ np ∧ l.th - l.tl ≤ 2) with
                | false =>
                  refine GoR.op rfl rfl (fa57_0 rfl) rfl ?_
                  refine GoR.op rfl rfl (ld3 rfl f3 rfl) rfl ?_
                  refine GoR.op rfl rfl (fa25_1 rfl) rfl ?_
                  refine GoR.op rfl rfl (ld3 rfl f1 rfl) rfl ?_
                  refine GoR.op rfl rfl (aOp_sub rfl rfl hnb1 rfl) rfl ?_
                  refine GoR.call rfl rfl (aOp_callFunc aFunc54 rfl) (in_ok l.o 0 (nb - 1) d1 _) ?_ (by rintro _ _ ⟨q, _⟩; cases q)
                  rintro _ k13 ⟨q, y13⟩
                  cases q
                  refine ⟨_, rfl, ?_⟩
                  replace f1 := f1.ext y13
                  replace f3 := f3.ext y13
                  refine GoR.op rfl rfl rfl rfl ?_
                  refine GoR.op rfl rfl rfl rfl ?_
                  refine GoR.op rfl rfl (fa57_1 rfl) rfl ?_
                  refine GoR.op rfl rfl (ld40 rfl f3 rfl) rfl ?_
                  refine GoR.op rfl rfl (fa25_0 rfl) rfl ?_
                  refine GoR.op rfl rfl (ld3 rfl f1 rfl) rfl ?_
                  refine GoR.op rfl rfl (aOp_sub rfl rfl hnp1 rfl) rfl ?_
                  refine GoR.call rfl rfl (aOp_callFunc aFunc55 rfl) (span_ok l.fl l.fh 0 (np - 1) (by intro _ _ _; constructor <;> omega) d2 _) ?_ (by rintro _ _ ⟨q, _⟩; cases q)
                  rintro _ k14 ⟨q, y14⟩
                  cases q
                  refine ⟨_, rfl, ?_⟩
                  replace f1 := f1.ext y14
                  replace f3 := f3.ext y14
                  refine GoR.op rfl rfl rfl rfl ?_
                  refine GoR.op rfl rfl rfl rfl ?_
                  refine GoR.op rfl rfl rfl rfl ?_
                  refine GoR.op rfl rfl (fa57_2 rfl) rfl ?_
                  refine GoR.op rfl rfl (ld40 rfl f3 rfl) rfl ?_
                  refine GoR.op rfl rfl (fa25_0 rfl) rfl ?_
                  refine GoR.op rfl rfl (ld3 rfl f1 rfl) rfl ?_
                  refine GoR.call rfl rfl (aOp_callFunc aFunc55 rfl) (span_ok l.tl l.th 1 np (by intro _ _ _; constructor <;> omega) d3 _) ?_ (by rintro _ _ ⟨q, _⟩; cases q)
                  rintro _ k15 ⟨q, y15⟩
                  cases q
                  refine ⟨_, rfl, ?_⟩
                  replace f1 := f1.ext y15
                  replace f3 := f3.ext y15
                  refine GoR.op rfl rfl rfl rfl ?_
                  refine GoR.op rfl rfl rfl rfl ?_
                  refine GoR.op rfl rfl rfl rfl ?_
                  refine GoR.skip rfl rfl rfl ?_
                  refine GoR.skip rfl rfl rfl ?_
                  refine GoR.skip rfl rfl rfl ?_
                  refine GoR.skip rfl rfl rfl ?_
                  refine GoR.skip rfl rfl rfl ?_
                  refine GoR.skip rfl rfl rfl ?_
                  refine GoR.skip rfl rfl rfl ?_
                  refine GoR.op rfl rfl rfl rfl ?_
                  refine GoR.end (Go.cond noJ_ok (b := true) rfl (Go.seq noJ_ok (Go.region noJ_ok rfl ?_)))
                  refine GoR.op rfl rfl rfl rfl ?_
                  refine GoR.end (Go.ret noJ_ok (ret_end (aResult_of Try.func13 rfl rfl) ⟨?_, (x2.trans z2).trans ((((x24).trans y13).trans y14).trans y15)⟩))
                  simp only [decide_eq_true_eq, decide_eq_false_iff_not] at d1 d2 d3
                  rw [valid_no_lease hl (by unfold LeaseV.cells fitsF; simp only [decide_eq_false_iff_not]; omega)]
                  rfl
                | true =>
                  cases d4 : decide (l.th ≤ l.fl) with
                  | true =>
                    refine GoR.op rfl rfl (fa57_0 rfl) rfl ?_
                    refine GoR.op rfl rfl (ld3 rfl f3 rfl) rfl ?_
                    refine GoR.op rfl rfl (fa25_1 rfl) rfl ?_
                    refine GoR.op rfl rfl (ld3 rfl f1 rfl) rfl ?_
                    refine GoR.op rfl rfl (aOp_sub rfl rfl hnb1 rfl) rfl ?_
                    refine GoR.call rfl rfl (aOp_callFunc aFunc54 rfl) (in_ok l.o 0 (nb - 1) d1 _) ?_ (by rintro _ _ ⟨q, _⟩; cases q)
                    rintro _ k16 ⟨q, y16⟩
                    cases q
                    refine ⟨_, rfl, ?_⟩
                    replace f1 := f1.ext y16
                    replace f3 := f3.ext y16
                    refine GoR.op rfl rfl rfl rfl ?_
                    refine GoR.op rfl rfl rfl rfl ?_
                    refine GoR.op rfl rfl (fa57_1 rfl) rfl ?_
                    refine GoR.op rfl rfl (ld40 rfl f3 rfl) rfl ?_
                    refine GoR.op rfl rfl (fa25_0 rfl) rfl ?_
                    refine GoR.op rfl rfl (ld3 rfl f1 rfl) rfl ?_
                    refine GoR.op rfl rfl (aOp_sub rfl rfl hnp1 rfl) rfl ?_
                    refine GoR.call rfl rfl (aOp_callFunc aFunc55 rfl) (span_ok l.fl l.fh 0 (np - 1) (by intro _ _ _; constructor <;> omega) d2 _) ?_ (by rintro _ _ ⟨q, _⟩; cases q)
                    rintro _ k17 ⟨q, y17⟩
                    cases q
                    refine ⟨_, rfl, ?_⟩
                    replace f1 := f1.ext y17
                    replace f3 := f3.ext y17
                    refine GoR.op rfl rfl rfl rfl ?_
                    refine GoR.op rfl rfl rfl rfl ?_
                    refine GoR.op rfl rfl rfl rfl ?_
                    refine GoR.op rfl rfl (fa57_2 rfl) rfl ?_
                    refine GoR.op rfl rfl (ld40 rfl f3 rfl) rfl ?_
                    refine GoR.op rfl rfl (fa25_0 rfl) rfl ?_
                    refine GoR.op rfl rfl (ld3 rfl f1 rfl) rfl ?_
                    refine GoR.call rfl rfl (aOp_callFunc aFunc55 rfl) (span_ok l.tl l.th 1 np (by intro _ _ _; constructor <;> omega) d3 _) ?_ (by rintro _ _ ⟨q, _⟩; cases q)
                    rintro _ k18 ⟨q, y18⟩
                    cases q
                    refine ⟨_, rfl, ?_⟩
                    replace f1 := f1.ext y18
                    replace f3 := f3.ext y18
                    refine GoR.op rfl rfl rfl rfl ?_
                    refine GoR.op rfl rfl rfl rfl ?_
                    refine GoR.op rfl rfl rfl rfl ?_
                    refine GoR.op rfl rfl (fa57_1 rfl) rfl ?_
                    refine GoR.op rfl rfl (fa40_0 rfl) rfl ?_
                    refine GoR.op rfl rfl (ld3 rfl f3 rfl) rfl ?_
                    refine GoR.op rfl rfl (fa57_2 rfl) rfl ?_
                    refine GoR.op rfl rfl (fa40_1 rfl) rfl ?_
                    refine GoR.op rfl rfl (ld3 rfl f3 rfl) rfl ?_
                    refine GoR.op rfl rfl (aOp_geq rfl rfl d4) rfl ?_
                    refine GoR.op rfl rfl rfl rfl ?_
                    refine GoR.end (Go.cond noJ_ok (b := true) rfl (Go.seq noJ_ok (Go.region noJ_ok rfl ?_)))
                    refine GoR.op rfl rfl rfl rfl ?_
                    refine GoR.end (Go.ret noJ_ok (ret_end (aResult_of Try.func13 rfl rfl) ⟨?_, (x2.trans z2).trans ((((x24).trans y16).trans y17).trans y18)⟩))
                    simp only [decide_eq_true_eq, decide_eq_false_iff_not] at d1 d2 d3 d4
                    rw [valid_no_lease hl (by unfold LeaseV.cells fitsF; simp only [decide_eq_false_iff_not]; omega)]
                    rfl
                  | false =>
                    refine GoR.op rfl rfl (fa57_0 rfl) rfl ?_
                    refine GoR.op rfl rfl (ld3 rfl f3 rfl) rfl ?_
                    refine GoR.op rfl rfl (fa25_1 rfl) rfl ?_
                    refine GoR.op rfl rfl (ld3 rfl f1 rfl) rfl ?_
                    refine GoR.op rfl rfl (aOp_sub rfl rfl hnb1 rfl) rfl ?_
                    refine GoR.call rfl rfl (aOp_callFunc aFunc54 rfl) (in_ok l.o 0 (nb - 1) d1 _) ?_ (by rintro _ _ ⟨q, _⟩; cases q)
                    rintro _ k19 ⟨q, y19⟩
                    cases q
                    refine ⟨_, rfl, ?_⟩
                    replace f1 := f1.ext y19
                    replace f3 := f3.ext y19
                    refine GoR.op rfl rfl rfl rfl ?_
                    refine GoR.op rfl rfl rfl rfl ?_
                    refine GoR.op rfl rfl (fa57_1 rfl) rfl ?_
                    refine GoR.op rfl rfl (ld40 rfl f3 rfl) rfl ?_
                    refine GoR.op rfl rfl (fa25_0 rfl) rfl ?_
                    refine GoR.op rfl rfl (ld3 rfl f1 rfl) rfl ?_
                    refine GoR.op rfl rfl (aOp_sub rfl rfl hnp1 rfl) rfl ?_
                    refine GoR.call rfl rfl (aOp_callFunc aFunc55 rfl) (span_ok l.fl l.fh 0 (np - 1) (by intro _ _ _; constructor <;> omega) d2 _) ?_ (by rintro _ _ ⟨q, _⟩; cases q)
                    rintro _ k20 ⟨q, y20⟩
                    cases q
                    refine ⟨_, rfl, ?_⟩
                    replace f1 := f1.ext y20
                    replace f3 := f3.ext y20
                    refine GoR.op rfl rfl rfl rfl ?_
                    refine GoR.op rfl rfl rfl rfl ?_
                    refine GoR.op rfl rfl rfl rfl ?_
                    refine GoR.op rfl rfl (fa57_2 rfl) rfl ?_
                    refine GoR.op rfl rfl (ld40 rfl f3 rfl) rfl ?_
                    refine GoR.op rfl rfl (fa25_0 rfl) rfl ?_
                    refine GoR.op rfl rfl (ld3 rfl f1 rfl) rfl ?_
                    refine GoR.call rfl rfl (aOp_callFunc aFunc55 rfl) (span_ok l.tl l.th 1 np (by intro _ _ _; constructor <;> omega) d3 _) ?_ (by rintro _ _ ⟨q, _⟩; cases q)
                    rintro _ k21 ⟨q, y21⟩
                    cases q
                    refine ⟨_, rfl, ?_⟩
                    replace f1 := f1.ext y21
                    replace f3 := f3.ext y21
                    refine GoR.op rfl rfl rfl rfl ?_
                    refine GoR.op rfl rfl rfl rfl ?_
                    refine GoR.op rfl rfl rfl rfl ?_
                    refine GoR.op rfl rfl (fa57_1 rfl) rfl ?_
                    refine GoR.op rfl rfl (fa40_0 rfl) rfl ?_
                    refine GoR.op rfl rfl (ld3 rfl f3 rfl) rfl ?_
                    refine GoR.op rfl rfl (fa57_2 rfl) rfl ?_
                    refine GoR.op rfl rfl (fa40_1 rfl) rfl ?_
                    refine GoR.op rfl rfl (ld3 rfl f3 rfl) rfl ?_
                    refine GoR.op rfl rfl (aOp_geq rfl rfl d4) rfl ?_
                    refine GoR.op rfl rfl rfl rfl ?_
                    refine GoR.end (Go.cond noJ_ok (b := false) rfl (Go.code noJ_ok (Go.inBlock noJ_ok (Go.region noJ_ok rfl ?_))))
                    have hi64 : inI64 (Int.ofNat i + 1) := by constructor <;> simp <;> omega
                    refine GoR.op rfl rfl rfl rfl ?_
                    refine GoR.op rfl rfl (aOp_add rfl rfl hi64 rfl) rfl ?_
                    refine GoR.op rfl rfl rfl rfl ?_
                    refine GoR.end ?_
                    refine Go.keep [(1, .ptr h.next 0), (3, .int .i64 (Int.ofNat i + 1))] ⟨rfl, rfl, trivial⟩ ?_
                    refine again (n - 1) _ _ (by omega) ⟨i + 1, by omega, rfl, z2.trans ((((x24).trans y19).trans y20).trans y21), fun j l' hj hl' => ?_⟩
                    by_cases hji : j = i
                    · subst hji
                      rw [hl] at hl'
                      cases hl'
                      simp only [decide_eq_true_eq, decide_eq_false_iff_not] at d1 d2 d3 d4
                      unfold LeaseV.cells fitsF
                      simp only [decide_eq_true_eq]
                      omega
                    · exact hfit j l' (by omega) hl'
          · refine GoR.op rfl rfl (aOp_lss rfl rfl (r := false) (by simp; omega)) rfl ?_
            refine GoR.end (Go.cond noJ_ok (b := false) rfl (Go.code noJ_ok ?_))
            have hfits : ∀ (j : Nat) l, Ls[j]? = some l → fitsF np nb l.cells = true := fun j l hl => hfit j l (by have := (List.getElem?_eq_some_iff.1 hl).1; omega) hl
            clear again hfit
            have z3 := x2.trans z2
            refine Go.seq noJ_ok (Go.seq noJ_ok (Go.region noJ_ok rfl ?_))
            refine GoR.op rfl rfl rfl rfl ?_
            refine GoR.end (Go.block noJ_ok ?_)
            refine Go.keep [(1, .ptr h.next 0), (5, .int .i64 0)] ⟨rfl, rfl, trivial⟩ ?_
            refine Go.loopInv (fun n t h' => ∃ i, n + i = Ms.length ∧ t = keepT [(1, .ptr h.next 0), (5, .int .i64 (Int.ofNat i))] ∧ Ext h2 h' ∧ ∀ (j : Nat) l, j < i → Ms[j]? = some l → markF np nb l.cells = true) (n := Ms.length) ⟨0, rfl, rfl, Ext.refl _, fun j l hj => absurd hj (Nat.not_lt_zero _)⟩ ?_
            rintro n' t h3 ⟨i', hn', rfl, z4, hfit⟩ again
            replace f1 := f1.ext z4
            have hm3 := B.hm.ext (z3.trans z4)
            refine Go.seq noJ_ok (Go.seq noJ_ok (Go.region noJ_ok rfl ?_))
            refine GoR.op rfl rfl rfl rfl ?_
            refine GoR.op rfl rfl (fa25_3 rfl) rfl ?_
            refine GoR.op rfl rfl (ld23 rfl f1 rfl) rfl ?_
            refine GoR.op rfl rfl (aOp_lenSlice Try.underlying23 rfl hm3.len) rfl ?_
            rw [List.length_map]
            by_cases hi' : i' < Ms.length
            · refine GoR.op rfl rfl (aOp_lss rfl rfl (r := true) (by simp; omega)) rfl ?_
              refine GoR.end (Go.cond noJ_ok (b := true) rfl (Go.code noJ_ok (Go.seq noJ_ok (Go.block noJ_ok (Go.seq noJ_ok (Go.drawn plan13 ?_))))))
              obtain ⟨l, hl⟩ : ∃ l, Ms[i']? = some l := ⟨Ms[i'], by simp [hi']⟩
              have hl2 : (Ms.map MarkV.cells)[i']? = some l.cells := by rw [List.getElem?_map, hl]; rfl
              obtain ⟨b, off, q1, q2⟩ := hm3.at hl2
              rw [List.length_map] at q1
              refine GoD.quiet rfl rfl (fun h' x => ld25 rfl (f1.ext x) rfl) (bankSame _ _ B.hss B.hsm) rfl ?_
              refine GoD.quiet rfl rfl (fun h' x => fa25_3 rfl) (sameA_ptr _ _) rfl ?_
              refine GoD.quiet rfl rfl (fun h' x => ld23 rfl (f1.ext x) rfl) B.hsm rfl ?_
              refine GoD.quiet rfl rfl (fun h' x => rfl) (sameA_int _ _) rfl ?_
              refine GoD.quiet rfl rfl (fun h' x => aOp_indexAddr Try.underlying23 sz52 rfl q1 rfl (Nat.ble_eq_true_of_le hi')) (sameA_ptr _ _) rfl ?_
              refine GoD.quiet rfl rfl (fun h' x => fa52_0 rfl) (sameA_ptr _ _) rfl ?_
              refine GoD.quiet rfl rfl (fun h' x => aOp_loadE1 (k := 0) ag3 rfl (q2.ext x) rfl) (sameA_int _ _) rfl ?_
              have hret : ∀ {h5 : AH}, Ext h3 h5 → markF np nb l.cells = false → bankValid np nb Ls Ms = false ∧ Ext h h5 := fun x e => ⟨valid_no_mark hl e, (z3.trans z4).trans x⟩
              cases d1 : decide (0 ≤ l.p ∧ l.p ≤ np - 1) with
              | false =>
                refine GoD.call rfl rfl (aOp_callFunc aFunc56 rfl) (Perch_ok _ s m l.p rfl hnp1 d1 _) ?_ (by rintro _ _ ⟨q, _⟩; cases q)
                rintro _ h4 ⟨q, z5⟩
                cases q
                refine ⟨z5, _, rfl, ?_⟩
                refine GoD.quiet rfl rfl (fun h' x => rfl) rfl rfl ?_
                refine GoD.quiet rfl rfl (fun h' x => rfl) rfl rfl ?_
                refine GoD.skip rfl rfl rfl ?_
                refine GoD.skip rfl rfl rfl ?_
                refine GoD.skip rfl rfl rfl ?_
                refine GoD.skip rfl rfl rfl ?_
                refine GoD.skip rfl rfl rfl ?_
                refine GoD.skip rfl rfl rfl ?_
                refine GoD.skip rfl rfl rfl ?_
                refine GoD.skip rfl rfl rfl ?_
                refine GoD.skip rfl rfl rfl ?_
                refine GoD.quiet rfl rfl (fun h' x => rfl) rfl rfl ?_
                refine GoD.end rfl (Go.cond noJ_ok (b := true) rfl (Go.seq noJ_ok (Go.region noJ_ok rfl ?_)))
                refine GoR.op rfl rfl rfl rfl ?_
                simp only [decide_eq_false_iff_not] at d1
                obtain ⟨v1, v2⟩ := hret z5 (by unfold MarkV.cells markF; simp only [decide_eq_false_iff_not]; omega)
                refine GoR.end (Go.ret noJ_ok (ret_end (aResult_of Try.func13 rfl rfl) ⟨by rw [v1]; rfl, v2⟩))
              | true =>
                refine GoD.call rfl rfl (aOp_callFunc aFunc56 rfl) (Perch_ok _ s m l.p rfl hnp1 d1 _) ?_ (by rintro _ _ ⟨q, _⟩; cases q)
                rintro _ h4 ⟨q, z5⟩
                cases q
                refine ⟨z5, _, rfl, ?_⟩
                have g1 := f1.ext z5
                have q2' := q2.ext z5
                refine GoD.quiet rfl rfl (fun h' x => rfl) rfl rfl ?_
                refine GoD.quiet rfl rfl (fun h' x => rfl) rfl rfl ?_
                refine GoD.quiet rfl rfl (fun h' x => ld25 rfl (g1.ext x) rfl) (bankSame _ _ B.hss B.hsm) rfl ?_
                refine GoD.quiet rfl rfl (fun h' x => fa25_3 rfl) (sameA_ptr _ _) rfl ?_
                refine GoD.quiet rfl rfl (fun h' x => ld23 rfl (g1.ext x) rfl) B.hsm rfl ?_
                refine GoD.quiet rfl rfl (fun h' x => rfl) (sameA_int _ _) rfl ?_
                refine GoD.quiet rfl rfl (fun h' x => aOp_indexAddr Try.underlying23 sz52 rfl q1 rfl (Nat.ble_eq_true_of_le hi')) (sameA_ptr _ _) rfl ?_
                refine GoD.quiet rfl rfl (fun h' x => fa52_1 rfl) (sameA_ptr _ _) rfl ?_
                refine GoD.quiet rfl rfl (fun h' x => aOp_loadE1 (k := 1) ag3 rfl (q2'.ext x) rfl) (sameA_int _ _) rfl ?_
                cases d2 : decide (0 ≤ l.h ∧ l.h ≤ nb) with
                | false =>
                  refine GoD.call rfl rfl (aOp_callFunc aFunc57 rfl) (Holder_ok _ s m l.h rfl d2 _) ?_ (by rintro _ _ ⟨q, _⟩; cases q)
                  rintro _ h5 ⟨q, z6⟩
                  cases q
                  refine ⟨z6, _, rfl, ?_⟩
                  refine GoD.quiet rfl rfl (fun h' x => rfl) rfl rfl ?_
                  refine GoD.quiet rfl rfl (fun h' x => rfl) rfl rfl ?_
                  refine GoD.end rfl (Go.cond noJ_ok (b := true) rfl (Go.seq noJ_ok (Go.region noJ_ok rfl ?_)))
                  refine GoR.op rfl rfl rfl rfl ?_
                  simp only [decide_eq_false_iff_not] at d2
                  obtain ⟨v1, v2⟩ := hret (z5.trans z6) (by unfold MarkV.cells markF; simp only [decide_eq_false_iff_not]; omega)
                  refine GoR.end (Go.ret noJ_ok (ret_end (aResult_of Try.func13 rfl rfl) ⟨by rw [v1]; rfl, v2⟩))
                | true =>
                  refine GoD.call rfl rfl (aOp_callFunc aFunc57 rfl) (Holder_ok _ s m l.h rfl d2 _) ?_ (by rintro _ _ ⟨q, _⟩; cases q)
                  rintro _ h5 ⟨q, z6⟩
                  cases q
                  refine ⟨z6, _, rfl, ?_⟩
                  refine GoD.quiet rfl rfl (fun h' x => rfl) rfl rfl ?_
                  refine GoD.quiet rfl rfl (fun h' x => rfl) rfl rfl ?_
                  refine GoD.end rfl (Go.cond noJ_ok (b := false) rfl (Go.code noJ_ok (Go.inBlock noJ_ok (Go.region noJ_ok rfl ?_))))
                  have hi64 : inI64 (Int.ofNat i' + 1) := by constructor <;> simp <;> omega
                  refine GoR.op rfl rfl rfl rfl ?_
                  refine GoR.op rfl rfl (aOp_add rfl rfl hi64 rfl) rfl ?_
                  refine GoR.op rfl rfl rfl rfl ?_
                  refine GoR.end ?_
                  refine Go.keep [(1, .ptr h.next 0), (5, .int .i64 (Int.ofNat i' + 1))] ⟨rfl, rfl, trivial⟩ ?_
                  refine again (n' - 1) _ _ (by omega) ⟨i' + 1, by omega, rfl, (z4.trans z5).trans z6, fun j l' hj hl' => ?_⟩
                  by_cases hji : j = i'
                  · subst hji
                    rw [hl] at hl'
                    cases hl'
                    simp only [decide_eq_true_eq] at d1 d2
                    unfold MarkV.cells markF
                    simp only [decide_eq_true_eq]
                    omega
                  · exact hfit j l' (by omega) hl'
            · refine GoR.op rfl rfl (aOp_lss rfl rfl (r := false) (by simp; omega)) rfl ?_
              refine GoR.end (Go.cond noJ_ok (b := false) rfl (Go.code noJ_ok ?_))
              refine Go.seq noJ_ok (Go.region noJ_ok rfl ?_)
              refine GoR.op rfl rfl rfl rfl ?_
              refine GoR.end (Go.ret noJ_ok (ret_end (aResult_of Try.func13 rfl rfl) ⟨?_, z3.trans z4⟩))
              rw [valid_yes e1 e2 (by omega) (by omega) hfits fun j l hl => hfit j l (by have := (List.getElem?_eq_some_iff.1 hl).1; omega) hl]
              rfl
end Go.Proofs.Ytidfcmjlfadieaa

namespace Go.Proofs.Ytidfcmjlfadieaa
open Go Go.AbsE
set_option maxRecDepth 100000
set_option linter.unusedVariables false
variable {np nb : Int} {Ls : List LeaseV} {Ms : List MarkV} {s m : AVal} {h h' : AH}

theorem zt25 : zeroT Try.prog 25 = some (.agg [.int .i64 0, .int .i64 0, .nilslice, .nilslice]) := by kernel_rfl
theorem by52 : bytesT Try.prog 52 = some 16 := by kernel_rfl
noncomputable def ops32 : Array Oper := ((drawnOps Try.f32)[0]?).getD #[]
theorem plan32 : plan ops32 = some (mkPlan ops32.toList [(0, 0, true, true), (1, 0, true, false), (2, 2, true, false), (4, 0, true, false), (5, 16, true, true),
        (3, 7, false, false), (6, 63, false, false), (7, 127, true, false), (8, 255, false, false)]) := by kernel_rfl
theorem two_len {Ms : List MarkV} : ∀ l, l ∈ Ms.map MarkV.cells → l.length = 2 := fun l hl => (mark_len l hl).1

/-- with: a mark more. -/
theorem with_ok (B : BankIn h np nb s m Ls Ms) (hM : Ms.length ≤ 1000) (p o : Int) : Runs Try.prog 32 [.agg [.int .i64 np, .int .i64 nb, s, m], .agg [.int .i64 p, .int .i64 o]] h
    (fun en h' => ∃ m', en = .ret (.agg [.int .i64 np, .int .i64 nb, s, m']) ∧ Ext h h' ∧ BankIn h' np nb s m' Ls (Ms ++ [⟨p, o⟩])) := by
  obtain ⟨ss1, ss2⟩ := B.hs.scal
  refine Runs.intro aFunc32 rfl rfl rfl rfl fun rest => ?_
  refine Go.seq noJ_ok (Go.region noJ_ok rfl ?_)
  refine GoR.box rfl rfl rfl rfl rfl rfl fun h1 x1 f1 => ?_
  refine GoR.box rfl rfl rfl rfl rfl rfl fun h2 x2 f2 => ?_
  refine GoR.alloc rfl rfl rfl zt25 rfl rfl fun h3 x3 f3 => ?_
  have a1 := x1.1
  have a2 := x2.1
  have a3 := x3.1
  have l1 := f1.1
  have l2 := f2.1
  have l3 := f3.1
  replace f1 := (f1.ext x2).ext x3
  replace f2 := f2.ext x3
  have x03 := (x1.trans x2).trans x3
  refine GoR.end (Go.seq noJ_ok (Go.drawnE plan32 ?_))
  refine GoE.quietX rfl rfl (aOpX_lit (ps := []) Try.underlying23 rfl sz52 zt52 rfl rfl rfl) rfl ?_
  refine GoE.quiet rfl rfl (fa25_3 rfl) rfl ?_
  refine GoE.quiet rfl rfl (ld23 rfl f1 rfl) rfl ?_
  refine GoE.quiet rfl rfl (ld52 rfl f2 rfl) rfl ?_
  refine GoE.quietX rfl rfl (aOpX_lit (ps := [(0, .agg [.int .i64 p, .int .i64 o])]) (cs := [.int .i64 p, .int .i64 o]) Try.underlying23 rfl sz52 zt52 rfl rfl rfl) rfl ?_
  have hm3 := B.hm.ext x03
  refine GoE.copy (L := Ms.map MarkV.cells) rfl rfl Try.underlying23 Try.underlying23 sz52 by52 zt52 rfl rfl rfl rfl hm3 two_len (by rw [List.length_map]; omega)
    (dropF_keep (show bit? 7 5 = false from rfl) (dropF_keep (show bit? 7 4 = false from rfl) (dropF_drop (show bit? 7 2 = true from rfl) (dropF_drop (show bit? 7 1 = true from rfl) (dropF_drop (show bit? 7 0 = true from rfl) rfl))))) rfl rfl fun v4 h4 x4 c4 => ?_
  have f24 := f2.ext x4
  refine ⟨recheck_consX (h2 := h4) rfl (aOpX_lit (ps := [(0, .agg [.int .i64 p, .int .i64 o])]) (cs := [.int .i64 p, .int .i64 o]) Try.underlying23 rfl sz52 zt52 rfl rfl rfl) (by simp [sameA, sameAs, eqI_eq]) (recheck_cons (h2 := h4) rfl (ld52 rfl f24 rfl) (show sameA (.agg [AVal.int .i64 p, .int .i64 o]) (.agg [.int .i64 p, .int .i64 o]) = true by simp [sameA, sameAs, eqI_eq]) recheck_nil), ?_⟩
  refine GoE.copy1 (L := Ms.map MarkV.cells) rfl rfl Try.underlying23 Try.underlying23 sz52 by52 zt52 rfl rfl rfl rfl c4 two_len rfl rfl (by rw [List.length_map]; omega) x4.1 (dropF_drop (show bit? 63 5 = true from rfl) (dropF_drop (show bit? 63 4 = true from rfl) rfl)) rfl rfl fun b5 h5 n5 m5 o5 g5 => ?_
  refine ⟨recheck_nil, ?_⟩
  have a4 := x4.1
  have low : ∀ b, b < h3.next → h5.get b = h3.get b := fun b hb => by rw [o5 b hb, x4.2 b hb]
  have keep : ∀ {b o}, Has h3 b o → Has h5 b o := fun k => ⟨by have := k.1; omega, by rw [low _ k.1]; exact k.2⟩
  refine GoE.quiet rfl rfl (fa25_3 rfl) rfl ?_
  refine GoE.store rfl rfl rfl rfl (dropF_drop (show bit? 255 7 = true from rfl) rfl) rfl rfl (keep f1) rfl sz23 rfl rfl rfl fun h6 u6 => ?_
  refine ⟨recheck_nil, ?_⟩
  have n6 : h6.next = h5.next := u6.1
  refine GoE.end rfl (Go.seq noJ_ok (Go.region noJ_ok rfl ?_))
  refine GoR.op rfl rfl (ld25 rfl (u6.has (keep f1)) rfl) rfl ?_
  refine GoR.store rfl rfl rfl rfl rfl rfl ((keep f3).upd u6 (by omega)) rfl sz25 rfl (scal4 ss1 rfl) rfl fun h7 u7 => ?_
  have n7 : h7.next = h6.next := u7.1
  refine GoR.end (Go.ret noJ_ok (ret_end (aResult_of Try.func32 rfl (aResults_cell rfl (u7.has ((keep f3).upd u6 (by omega))) (inCells_agg ag25 sz25 rfl))) ?_))
  have x07 : Ext h h7 := ⟨by have := x03.1; omega, fun b hb => by rw [u7.2.2 b (by omega), u6.2.2 b (by omega), low b (by omega), x03.2 b hb]⟩
  refine ⟨.gsl b5 0 0 ((Ms.map MarkV.cells).length + 1), rfl, x07, B.hp, B.hh, B.hs.ext x07, ?_, B.hss, by simp [sameA], rfl, rfl⟩
  have g7 := (g5.upd u6 (by have := f1.1; omega)).upd u7 (by omega)
  have hll : ∀ l, l ∈ Ms.map MarkV.cells ++ [[AVal.int .i64 p, .int .i64 o]] → l.length = 2 := fun l hl => by
    rw [List.mem_append] at hl
    rcases hl with hl | hl
    · exact two_len l hl
    · simp at hl; subst hl; rfl
  refine SliceOf.mk' rfl rfl g7 (by simp) fun i l hl => ?_
  rw [List.map_append] at hl
  rw [Nat.zero_add]
  exact slice_flatten hll i l hl
end Go.Proofs.Ytidfcmjlfadieaa

namespace Go.Proofs.Ytidfcmjlfadieaa
open Go Go.AbsE
set_option maxRecDepth 100000
set_option linter.unusedVariables false
variable {np nb : Int} {Ls : List LeaseV} {Ms : List MarkV} {s m : AVal} {h h' : AH}
section
variable {P : Program} {t : Tr AVal} {dst : Option Tmp} {ty tt ty2 : TypeId} {pos : String} {after : Array Edge} {guard : Option (Nat × Bool)} {x y : Operand} {a b : Int}
theorem aOp_rem {r : Int} (hx : ev t x = some (.int .i64 a)) (hy : ev t y = some (.int .i64 b)) (hb : b ≠ 0) (hr : a.tmod b = r) : aOp P t h ⟨dst, .binOp .rem ty x y ty2, tt, pos, after, guard⟩ = some (.val (.int .i64 r) h) := by
  refine aOp_bin hx hy ?_
  have : pureRun P (binOp .rem ty (.int .i64 a) (.int .i64 b)) = some (.int .i64 (a.tmod b)) := by
    show pureRun P (if IntKind.i64 ≠ IntKind.i64 then stuck "BinOp: operands of different kinds" else Op.intDiv .rem .i64 a b) = _
    rw [if_neg (fun h => h rfl)]
    unfold Op.intDiv
    rw [if_neg hb]
    rfl
  show (match pureRun P (binOp .rem ty (.int .i64 a) (.int .i64 b)) with | some v => absV v | none => none) = _
  rw [this, ← hr]
  rfl
theorem aOp_convU8 {src dt : TypeId} {sd : TypeDesc} {w : Int} (hx : ev t x = some (.int .u8 w)) (hs : P.underlying src = some sd) (hu : P.underlying dt = some (.int .i64)) (hw : 0 ≤ w ∧ w < 256) : aOp P t h ⟨dst, .convert src dt x, tt, pos, after, guard⟩ = some (.val (.int .i64 w) h) := by
  show opConvert P t h src dt x = _
  unfold opConvert
  rw [hx]
  have : pureRun P (convert src dt (.int .u8 w)) = some (.int .i64 w) := by
    unfold convert
    rw [pureRun_bind, pr_underlying hs]
    simp only [Option.bind_some, pureRun_bind, pr_underlying hu]
    have : IntKind.i64.wrap w = w := by
      rw [← wrap64_eq]
      exact wrap64_in (by constructor <;> omega)
    cases sd <;> (show pureRun P (Conv.intToInt .i64 w) = _; unfold Conv.intToInt; rw [this]; rfl)
  simp only [this]
  rfl
end

theorem flds52 : ∃ fs, Try.prog.underlying 52 = some (.struct fs) ∧ placesT Try.prog fs.toList = some [(0, 1), (1, 1)] := ⟨_, Try.underlying52, by kernel_rfl⟩
theorem deny_more (p o : Int) : markA (Ms ++ [⟨p, o⟩]) = claimA Ms p p o := by
  funext p' hd
  unfold markA claimA denyV claimV
  rw [List.any_append]
  simp only [List.any_cons, List.any_nil, Bool.or_false, Bool.not_or]
  congr 1
  by_cases h1 : p = p'
  · subst h1
    by_cases h2 : o = hd
    · subst h2; simp
    · have : hd ≠ o := fun e => h2 e.symm
      simp [h2, this]
  · have : ¬ (p ≤ p' ∧ p' ≤ p) := by omega
    simp [h1, this]
theorem tru_more (p o : Int) : truV np nb Ls (Ms ++ [⟨p, o⟩]) = cntV np nb Ls (claimA Ms p p o) := by
  unfold truV
  rw [deny_more]
theorem valid_more (hv : bankValid np nb Ls Ms = true) {p o : Int} (hM : Ms.length ≤ 5) (hp : 0 ≤ p ∧ p ≤ np - 1) (ho : 0 ≤ o ∧ o ≤ nb) : bankValid np nb Ls (Ms ++ [⟨p, o⟩]) = true := by
  unfold bankValid at hv ⊢
  simp only [Bool.and_eq_true, decide_eq_true_eq] at hv ⊢
  obtain ⟨⟨⟨⟨⟨h1, h2⟩, h3⟩, h4⟩, h5⟩, h6⟩ := hv
  refine ⟨⟨⟨⟨⟨h1, h2⟩, h3⟩, h4⟩, by simp; omega⟩, ?_⟩
  rw [List.map_append, List.all_append, h6]
  simp only [List.map_cons, List.map_nil, List.all_cons, List.all_nil, Bool.and_true, Bool.true_and, MarkV.cells, markF, decide_eq_true_eq]
  omega

theorem Count_more (B : BankIn h np nb s m Ls Ms) (hv : bankValid np nb Ls Ms = true) {p o : Int} (hM : Ms.length ≤ 5) (hp : 0 ≤ p ∧ p ≤ np - 1) (ho : 0 ≤ o ∧ o ≤ nb) {m' : AVal} (B' : BankIn h' np nb s m' Ls (Ms ++ [⟨p, o⟩])) :
    Runs Try.prog 27 [.agg [.int .i64 np, .int .i64 nb, s, m']] h' (fun en h'' => en = .ret (.tuple [.int .i64 (cntV np nb Ls (claimA Ms p p o)), .int .i64 0]) ∧ Ext h' h'') := by
  have := Count_ok B'
  rw [valid_more hv hM hp ho, if_pos rfl, if_pos rfl, tru_more] at this
  exact this

/-- most, of the law BankAsk. -/
theorem most_ok {bb : Nat} (B : BankIn h np nb s m Ls Ms) (hv : bankValid np nb Ls Ms = true) (hM : Ms.length ≤ 5) (fb : Has h bb (.cells .plain [.int .i64 np, .int .i64 nb, s, m] 25)) {p : Nat} (hp : (p : Int) < np) :
    Runs Try.prog 35 [.int .i64 (Int.ofNat p), .ptr bb 0] h (fun en h' => en = .ret (.int .i64 (mostV np nb Ls Ms p)) ∧ Ext h h') := by
  obtain ⟨v1, v2, v3, v4, v5, v6, v7⟩ := valid_gnd B hv
  obtain ⟨fs52, hu52, pl52⟩ := flds52
  refine Runs.intro aFunc35 rfl rfl rfl rfl fun rest => ?_
  refine Go.seq noJ_ok (Go.region noJ_ok rfl ?_)
  refine GoR.op rfl rfl rfl rfl ?_
  refine GoR.end (Go.seq noJ_ok (Go.seq noJ_ok (Go.region noJ_ok rfl ?_)))
  refine GoR.op rfl rfl (fa25_1 rfl) rfl ?_
  refine GoR.op rfl rfl (ld3 rfl fb rfl) rfl ?_
  have hn64 : inI64 (nb + 1) := by constructor <;> omega
  have hnn : nb + 1 = ((nb.toNat + 1 : Nat) : Int) := by omega
  refine GoR.op rfl rfl (aOp_add rfl rfl hn64 hnn) rfl ?_
  refine GoR.op rfl rfl rfl rfl ?_
  refine GoR.end (Go.block noJ_ok ?_)
  let L := claimsL np nb Ls Ms (Int.ofNat p) (Int.ofNat p)
  have hL : L.length = nb.toNat + 1 := claimsL_len
  refine Go.keep [(0, .int .i64 (Int.ofNat p)), (1, .ptr bb 0), (3, .int .i64 0), (9, .int .i64 ((nb.toNat + 1 : Nat) : Int)), (10, .int .i64 0)] ⟨rfl, rfl, rfl, rfl, rfl, trivial⟩ ?_
  refine Go.loopInv (fun n t h' => ∃ i, n + i = nb.toNat + 1 ∧ t = keepT [(0, .int .i64 (Int.ofNat p)), (1, .ptr bb 0), (3, .int .i64 (mostL (L.take i))), (9, .int .i64 ((nb.toNat + 1 : Nat) : Int)), (10, .int .i64 (Int.ofNat i))] ∧ Ext h h') (n := nb.toNat + 1) ⟨0, rfl, rfl, Ext.refl _⟩ ?_
  rintro n t h2 ⟨i, hn, rfl, x2⟩ again
  have g1 := fb.ext x2
  refine Go.seq noJ_ok (Go.region noJ_ok rfl ?_)
  by_cases hi : i < nb.toNat + 1
  · refine GoR.op rfl rfl (aOp_lss rfl rfl (r := true) (by simp; omega)) rfl ?_
    refine GoR.end (Go.seq noJ_ok (Go.cond noJ_ok rfl (Go.code noJ_ok ?_)))
    refine Go.seq noJ_ok (Go.block noJ_ok (Go.seq noJ_ok (Go.region noJ_ok rfl ?_)))
    refine GoR.op rfl rfl rfl rfl ?_
    refine GoR.op rfl rfl rfl rfl ?_
    refine GoR.end (Go.seq noJ_ok (Go.region noJ_ok rfl ?_))
    refine GoR.op rfl rfl (ld25 rfl g1 rfl) rfl ?_
    refine GoR.op rfl rfl rfl rfl ?_
    refine GoR.op rfl rfl rfl rfl ?_
    refine GoR.op rfl rfl (aOp_build (ps := [(0, .int .i64 (Int.ofNat p)), (1, .int .i64 (Int.ofNat i))]) (cs := [.int .i64 (Int.ofNat p), .int .i64 (Int.ofNat i)]) zt52 hu52 pl52 rfl rfl) rfl ?_
    refine GoR.call rfl rfl (aOp_callFunc aFunc32 rfl) (with_ok (B.ext x2) (by omega) (Int.ofNat p) (Int.ofNat i)) ?_ (by rintro _ _ ⟨_, q, _⟩; cases q)
    rintro _ h3 ⟨m', q, x3, B3⟩
    have q := (AEnd.ret.inj q).symm
    subst q
    refine ⟨_, rfl, ?_⟩
    refine GoR.call rfl rfl (aOp_callFunc aFunc27 rfl) (Count_more B hv hM (p := Int.ofNat p) (o := Int.ofNat i) (by simp; omega) (by simp; omega) B3) ?_ (by rintro _ _ ⟨q, _⟩; cases q)
    rintro _ h4 ⟨q, x4⟩
    cases q
    refine ⟨_, rfl, ?_⟩
    refine GoR.op rfl rfl rfl rfl ?_
    refine GoR.op rfl rfl rfl rfl ?_
    refine GoR.op rfl rfl rfl rfl ?_
    refine GoR.op rfl rfl rfl rfl ?_
    refine GoR.op rfl rfl rfl rfl ?_
    refine GoR.end (Go.seq noJ_ok (Go.seq noJ_ok (Go.region noJ_ok rfl ?_)))
    refine GoR.op rfl rfl rfl rfl ?_
    refine GoR.op rfl rfl (aOp_neq rfl rfl (r := false) (by simp)) rfl ?_
    refine GoR.end (Go.cond noJ_ok (b := false) rfl (Go.code noJ_ok (Go.region noJ_ok rfl ?_)))
    refine GoR.op rfl rfl rfl rfl ?_
    refine GoR.op rfl rfl rfl rfl ?_
    refine GoR.op rfl rfl (aOp_max2 rfl rfl rfl) rfl ?_
    refine GoR.op rfl rfl rfl rfl ?_
    refine GoR.end (Go.inBlock noJ_ok (Go.region noJ_ok rfl ?_))
    have hi64 : inI64 (Int.ofNat i + 1) := by constructor <;> simp <;> omega
    refine GoR.op rfl rfl (aOp_add rfl rfl hi64 rfl) rfl ?_
    refine GoR.op rfl rfl rfl rfl ?_
    refine GoR.end ?_
    have hmost : mostL (L.take (i + 1)) = if mostL (L.take i) < cntV np nb Ls (claimA Ms (Int.ofNat p) (Int.ofNat p) (Int.ofNat i)) then cntV np nb Ls (claimA Ms (Int.ofNat p) (Int.ofNat p) (Int.ofNat i)) else mostL (L.take i) := by
      unfold mostL
      rw [foldl_take_succ (claimsL_get hi)]
      rfl
    refine Go.keep [(0, .int .i64 (Int.ofNat p)), (1, .ptr bb 0), (3, .int .i64 (if mostL (L.take i) < cntV np nb Ls (claimA Ms (Int.ofNat p) (Int.ofNat p) (Int.ofNat i)) then cntV np nb Ls (claimA Ms (Int.ofNat p) (Int.ofNat p) (Int.ofNat i)) else mostL (L.take i))), (9, .int .i64 ((nb.toNat + 1 : Nat) : Int)), (10, .int .i64 (Int.ofNat i + 1))] ⟨rfl, rfl, rfl, rfl, rfl, trivial⟩ ?_
    exact again (n - 1) _ _ (by omega) ⟨i + 1, by omega, by rw [hmost]; rfl, (x2.trans x3).trans x4⟩
  · refine GoR.op rfl rfl (aOp_lss rfl rfl (r := false) (by simp; omega)) rfl ?_
    refine GoR.end (Go.seq noJ_ok (Go.cond noJ_ok rfl (Go.code noJ_ok ?_)))
    refine Go.seq noJ_ok (Go.region noJ_ok rfl ?_)
    refine GoR.op rfl rfl rfl rfl ?_
    refine GoR.op rfl rfl rfl rfl ?_
    refine GoR.end (Go.ret noJ_ok (ret_end (aResult_of Try.func35 rfl rfl) ⟨?_, x2⟩))
    have : i = L.length := by omega
    subst this
    rw [List.take_length]
    rfl

/-- What Ask returns is best. -/
theorem askF_best : ∀ (k : Nat), ∃ p : Nat, p < k + 1 ∧ askF np nb Ls Ms (k + 1) = (Int.ofNat p, mostV np nb Ls Ms p) ∧ ∀ j, j < k + 1 → mostV np nb Ls Ms p < mostV np nb Ls Ms j ∨ (mostV np nb Ls Ms j = mostV np nb Ls Ms p ∧ p ≤ j) := by
  intro k
  induction k with
  | zero =>
    refine ⟨0, by omega, by unfold askF; rw [if_pos (.inl rfl)], fun j hj => ?_⟩
    have : j = 0 := by omega
    subst this
    exact .inr ⟨rfl, Nat.le_refl _⟩
  | succ k ih =>
    obtain ⟨p, h1, h2, h3⟩ := ih
    have hs : askF np nb Ls Ms (k + 1 + 1) = if k + 1 = 0 ∨ mostV np nb Ls Ms (k + 1) < (askF np nb Ls Ms (k + 1)).2 then (Int.ofNat (k + 1), mostV np nb Ls Ms (k + 1)) else askF np nb Ls Ms (k + 1) := rfl
    rw [hs, h2]
    by_cases e : mostV np nb Ls Ms (k + 1) < mostV np nb Ls Ms p
    · rw [if_pos (.inr e)]
      refine ⟨k + 1, by omega, rfl, fun j hj => ?_⟩
      by_cases hjk : j = k + 1
      · subst hjk; exact .inr ⟨rfl, Nat.le_refl _⟩
      · rcases h3 j (by omega) with q | q
        · exact .inl (by omega)
        · exact .inl (by omega)
    · rw [if_neg (fun q => q.elim (by omega) e)]
      refine ⟨p, by omega, rfl, fun j hj => ?_⟩
      by_cases hjk : j = k + 1
      · subst hjk
        by_cases e2 : mostV np nb Ls Ms p < mostV np nb Ls Ms (k + 1)
        · exact .inl e2
        · exact .inr ⟨by omega, by omega⟩
      · exact h3 j (by omega)
end Go.Proofs.Ytidfcmjlfadieaa
