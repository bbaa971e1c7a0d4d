import Derived.Test.YtkcimfopboelaaaGreatMAN
import Derived.Test.YtkcimfopboelaaaGreatMAH
namespace Go.Proofs.YtkcimfopboelaaaGreat
open Go Go.AbsE
set_option linter.unusedSimpArgs false
set_option maxRecDepth 100000
set_option maxHeartbeats 0
set_option linter.unusedVariables false
def zSp : Int × Int := (0, 0)
def RoadV.heightR (R : RoadV) (part event : Int) : (Int × Int) × Int :=
 if R.Ok then (if 0 ≤ part ∧ part ≤ (R.ps.length : Int) - 1 then (if 0 ≤ event ∧ event ≤ (R.es.length : Int) - 1 then (if R.possible = true then (spreadV R.known part.toNat (fun f => (f.hs[event.toNat]?).getD 0), 0) else (zSp, 10)) else (zSp, 2)) else (zSp, 2)) else (zSp, 1)
def RoadV.sinksR (R : RoadV) (part load : Int) : (Int × Int) × Int :=
 if R.Ok then (if 0 ≤ part ∧ part ≤ (R.ps.length : Int) - 1 then (if 0 ≤ load ∧ load ≤ 60 then (if R.possible = true then (spreadV R.known part.toNat (fun f => f.x.sinks load), 0) else (zSp, 10)) else (zSp, 2)) else (zSp, 2)) else (zSp, 1)
def RoadV.bearsR (R : RoadV) (load : Int) : Int × Int :=
 if R.Ok then (if 0 ≤ load ∧ load ≤ 60 then (if R.possible = true then (bearsV R.known load, 0) else (0, 10)) else (0, 2)) else (0, 1)
def RoadV.mostR (R : RoadV) : Int × Int :=
 if R.Ok then (if R.possible = true then (match mostV R.known with | some l => (l, 0) | none => (0, 4)) else (0, 10)) else (0, 1)
def RoadV.restR (R : RoadV) (load : Int) : Int × Int :=
 if R.Ok then (if 0 ≤ load ∧ load ≤ 60 then (if R.possible = true then (match restV R.known load with | some l => (l, 0) | none => (0, 4)) else (0, 10)) else (0, 2)) else (0, 1)
def RoadV.belowR (R : RoadV) : (Nat × Nat) × Int :=
 if R.Ok then (if R.possible = true then ((R.surely, R.perhaps), 0) else ((0, 0), 10)) else ((0, 0), 1)
def RoadV.weakR (R : RoadV) : Int × Int :=
 if R.Ok then (if R.possible = true then (R.weak, 0) else (0, 10)) else (0, 1)
theorem attempt_sets {R : RoadV} (O : R.Ok) (psl esl : AVal) (h : AH) (A : RoadAt h R psl esl) (W : FuncId) (fW : Func) (hfid : aFunc Tryz.prog W = some fW) (caps : List AVal) (hsm : sameA (.func (.func W) [] caps) (.func (.func W) [] caps) = true) (br : Nat) (hbr : br < h.next) (V : List AVal) (el : TypeId) (C : Int)
  (hbody : ∀ h' gp ge, Ext h h' → GroundAt h' R h.next gp ge → Runs Tryz.prog W ([.agg [gp, ge]] ++ caps) h' (fun en h'' => ExtF (fun b => b = br) h' h'' ∧ Has h'' br (.cells .plain V el) ∧ ((C = 0 ∧ en = .ret (.tuple [])) ∨ en = .pan (refusal C)))) :
  Runs Tryz.prog 48 [.agg [psl, esl], .func (.func W) [] caps] h (fun en h' => en = .ret (.int .i64 C) ∧ ExtF (fun b => b = br) h h' ∧ Has h' br (.cells .plain V el)) :=
 (attempt_ok O psl esl h A W fW hfid caps hsm (fun b => b = br) (fun b q => by subst q; exact hbr) (fun c h' => c = C ∧ Has h' br (.cells .plain V el)) fun h' gp ge e g => (hbody h' gp ge e g).mono fun en h'' ⟨x, f, q⟩ => ⟨x, q.elim (fun q => .inl ⟨q.2, q.1.symm, f⟩) fun q => .inr ⟨C, q, rfl, f⟩⟩).mono
  fun en h' ⟨c, h2, q, ⟨hc, f⟩, x, le, same⟩ => ⟨by rw [q, hc], x, f.keep le (same _ hbr)⟩
theorem needPart_yes {R : RoadV} {lo : Nat} {gp ge : AVal} {n : Int} {h : AH} (A : GroundAt h R lo gp ge) (hl : R.ps.length ≤ 40) (hq : 0 ≤ n ∧ n ≤ (R.ps.length : Int) - 1) : Runs Tryz.prog 50 [.agg [gp, ge], .int .i64 n] h (fun en h' => en = .ret (.tuple []) ∧ Ext h h') := by
 have := needPart_ok (n := n) A hl
 rw [if_pos hq] at this;exact this
theorem needPart_no {R : RoadV} {lo : Nat} {gp ge : AVal} {n : Int} {h : AH} (A : GroundAt h R lo gp ge) (hl : R.ps.length ≤ 40) (hq : ¬ (0 ≤ n ∧ n ≤ (R.ps.length : Int) - 1)) : Runs Tryz.prog 50 [.agg [gp, ge], .int .i64 n] h (fun en h' => en = .pan (refusal 2) ∧ Ext h h') := by
 have := needPart_ok (n := n) A hl
 rw [if_neg hq] at this;exact this
theorem needEvent_yes {R : RoadV} {lo : Nat} {gp ge : AVal} {n : Int} {h : AH} (A : GroundAt h R lo gp ge) (hl : R.es.length ≤ 40) (hq : 0 ≤ n ∧ n ≤ (R.es.length : Int) - 1) : Runs Tryz.prog 51 [.agg [gp, ge], .int .i64 n] h (fun en h' => en = .ret (.tuple []) ∧ Ext h h') := by
 have := needEvent_ok (n := n) A hl
 rw [if_pos hq] at this;exact this
theorem needEvent_no {R : RoadV} {lo : Nat} {gp ge : AVal} {n : Int} {h : AH} (A : GroundAt h R lo gp ge) (hl : R.es.length ≤ 40) (hq : ¬ (0 ≤ n ∧ n ≤ (R.es.length : Int) - 1)) : Runs Tryz.prog 51 [.agg [gp, ge], .int .i64 n] h (fun en h' => en = .pan (refusal 2) ∧ Ext h h') := by
 have := needEvent_ok (n := n) A hl
 rw [if_neg hq] at this;exact this
theorem needLoad_yes {n : Int} {h : AH} (hq : 0 ≤ n ∧ n ≤ 60) : Runs Tryz.prog 60 [.int .i64 n] h (fun en h' => en = .ret (.tuple []) ∧ Ext h h') := by
 have := needLoad_ok (n := n) (h := h)
 rw [if_pos hq] at this;exact this
theorem needLoad_no {n : Int} {h : AH} (hq : ¬ (0 ≤ n ∧ n ≤ 60)) : Runs Tryz.prog 60 [.int .i64 n] h (fun en h' => en = .pan (refusal 2) ∧ Ext h h') := by
 have := needLoad_ok (n := n) (h := h)
 rw [if_neg hq] at this;exact this
theorem heightB_ok {R : RoadV} (O : R.Ok) {lo : Nat} {gp ge : AVal} {part event : Int} {b1 b2 br : Nat} {h : AH} (A : GroundAt h R lo gp ge) (f0 : Has h b1 (.cells .plain [.int .i64 part] 3)) (f1 : Has h b2 (.cells .plain [.int .i64 event] 3)) (f2 : Has h br (.cells .plain [.int .i64 0, .int .i64 0] 29)) (hb1 : b1 ≠ br) (hb2 : b2 ≠ br) :
  Runs Tryz.prog 49 [.agg [gp, ge], .ptr b1 0, .ptr b2 0, .ptr br 0] h (fun en h'' => ExtF (fun b => b = br) h h'' ∧ Has h'' br (.cells .plain (spC (R.heightR part event).1) 29) ∧ (((R.heightR part event).2 = 0 ∧ en = .ret (.tuple [])) ∨ en = .pan (refusal (R.heightR part event).2))) := by
 have hne := O.ne
 have hnp := O.np
 have y0 : ExtF (fun b => b = br) h h := ExtF.of (Ext.refl _)
 have l0 := f0.1
 have l1 := f1.1
 have l2 := f2.1
 unfold RoadV.heightR
 rw [if_pos O]
 by_cases c1 : 0 ≤ part ∧ part ≤ (R.ps.length : Int) - 1
 ·rw [if_pos c1]
  by_cases c2 : 0 ≤ event ∧ event ≤ (R.es.length : Int) - 1
  ·rw [if_pos c2]
   cases c3 : R.possible with
   | true =>
    rw [if_pos rfl]
    obtain ⟨i, rfl⟩ := Int.eq_ofNat_of_zero_le c1.1
    obtain ⟨v, rfl⟩ := Int.eq_ofNat_of_zero_le c2.1
    rw [Int.toNat_natCast, Int.toNat_natCast]
    have hsp : ∀ {h9 : AH} {lo bm : Nat} {L : List (List Int × AVal)}, KnownAt R h9 lo bm L → Has h9 b2 (.cells .plain [.int .i64 (v : Nat)] 3) → Runs Tryz.prog 53 [.map bm, .int .i64 (i : Nat), .func (.func 54) [] [.ptr b2 0]] h9 (fun en h' => en = .ret (.agg (spC (spreadV R.known i fun f => (f.hs[v]?).getD 0))) ∧ Ext h9 h') := fun K f => spread_ok O K (by omega) (caps := [.ptr b2 0]) aFunc54 (by simp [sameA, sameAs, eqI_eq]) _ (fun f hf => by
     have := (known_small O hf).2.2
     unfold I64
     cases q : f.hs[v]? with
     | none => exact ⟨by simp, by simp⟩
     | some z => have := this z (List.mem_of_getElem? q); simp; omega) fun f' h' hf e' => height54_ok (known_in O hf).2 (by omega) (f.ext e')
    obtain ⟨sp, hspd⟩ : ∃ sp, spreadV R.known i (fun f => (f.hs[v]?).getD 0) = sp := ⟨_, rfl⟩
    rw [hspd] at hsp ⊢
    unfold spC at hsp ⊢
    have e0 : Ext h h := Ext.refl _
    refine Runs.intro aFunc49 rfl rfl rfl rfl fun rest => ?_;apply gS;refine gR rfl ?_;refine GoR.box rfl rfl rfl rfl rfl rfl fun h3 x3 f3 => ?_;have := e0.1;have := f2.1;have := f0.1;have := f1.1;replace f2 := f2.ext x3;replace f0 := f0.ext x3;replace f1 := f1.ext x3;replace e0 := e0.trans x3;replace y0 := y0.ext x3;have := f3.1;apply gE;apply gS;refine gR rfl ?_;refine gO rfl rfl (ld77 rfl f3 rfl) rfl ?_;refine gO rfl rfl (ld3 rfl f0 rfl) rfl ?_;refine GoR.call rfl rfl (aCF aFunc50 rfl) (needPart_yes (A.ext e0) (by omega) c1) ?_ np;rintro v4 h4 ⟨q, x4⟩;cases q;refine ⟨_, rfl, ?_⟩;replace f3 := f3.ext x4;replace f2 := f2.ext x4;replace f0 := f0.ext x4;replace f1 := f1.ext x4;replace e0 := e0.trans x4;replace y0 := y0.ext x4;apply gE;apply gS;refine gR rfl ?_;refine gO rfl rfl (ld77 rfl f3 rfl) rfl ?_;refine gO rfl rfl (ld3 rfl f1 rfl) rfl ?_;refine GoR.call rfl rfl (aCF aFunc51 rfl) (needEvent_yes (A.ext e0) (by omega) c2) ?_ np;rintro v5 h5 ⟨q, x5⟩;cases q;refine ⟨_, rfl, ?_⟩;replace f3 := f3.ext x5;replace f2 := f2.ext x5;replace f0 := f0.ext x5;replace f1 := f1.ext x5;replace e0 := e0.trans x5;replace y0 := y0.ext x5;apply gE;refine Go.drawnE plan49_0 ?_;refine gQ rfl rfl (ld77 rfl f3 rfl) rfl ?_;refine gQ rfl rfl (ld3 rfl f0 rfl) rfl ?_;refine gQ rfl rfl rfl rfl ?_;refine GoE.call rfl rfl (aCF aFunc52 rfl) (truths_yes O c3 (A.ext e0)) (dK 1 3 (dK 1 2 (dD 1 0 rfl))) ?_ (by rintro _ _ ⟨bm, L, q, _, KK, e9⟩; cases q);rintro v6 h6 ⟨bm, L, q, x6, KK, e9⟩;cases q;have := e0.1;have := f3.1;have := f2.1;have := f0.1;have := f1.1;replace f3 := f3.ext x6;replace f2 := f2.ext x6;replace f0 := f0.ext x6;replace f1 := f1.ext x6;replace e0 := e0.trans x6;replace y0 := y0.ext x6;refine ⟨(rck (h2 := h6) rfl (rfl) (rck (h2 := h6) rfl (ld3 rfl f0 rfl) recheck_nil)), _, rfl, ?_⟩;refine GoE.call rfl rfl (aCF aFunc53 rfl) (hsp KK f1) (dD 15 3 (dD 15 2 rfl)) ?_ np;rintro v7 h7 ⟨q, x7⟩;cases q;replace f3 := f3.ext x7;replace f2 := f2.ext x7;replace f0 := f0.ext x7;replace f1 := f1.ext x7;replace e0 := e0.trans x7;replace y0 := y0.ext x7;refine ⟨recheck_nil, _, rfl, ?_⟩;refine GoE.store rfl rfl rfl rfl rfl rfl rfl f2 rfl sz29 rfl rfl rfl fun h8 u8 => ?_;replace f3 := f3.upd u8 (by omega);replace f2 := u8.has f2;replace f0 := f0.upd u8 (by omega);replace f1 := f1.upd u8 (by omega);clear e9;clear e0;replace y0 := y0.upd u8 (.inl rfl);refine ⟨recheck_nil, ?_⟩;refine GoE.end rfl ?_;exact Go.endL (FLeft.ret (v := .tuple []) (aResult_of Tryz.func49 rfl rfl) ⟨y0, f2, .inl ⟨rfl, rfl⟩⟩)
   | false =>
    rw [if_neg (by simp)]
    have e0 : Ext h h := Ext.refl _
    refine Runs.intro aFunc49 rfl rfl rfl rfl fun rest => ?_;apply gS;refine gR rfl ?_;refine GoR.box rfl rfl rfl rfl rfl rfl fun h3 x3 f3 => ?_;replace f0 := f0.ext x3;replace f1 := f1.ext x3;replace f2 := f2.ext x3;replace e0 := e0.trans x3;replace y0 := y0.ext x3;apply gE;apply gS;refine gR rfl ?_;refine gO rfl rfl (ld77 rfl f3 rfl) rfl ?_;refine gO rfl rfl (ld3 rfl f0 rfl) rfl ?_;refine GoR.call rfl rfl (aCF aFunc50 rfl) (needPart_yes (A.ext e0) (by omega) c1) ?_ np;rintro v4 h4 ⟨q, x4⟩;cases q;refine ⟨_, rfl, ?_⟩;replace f3 := f3.ext x4;replace f0 := f0.ext x4;replace f1 := f1.ext x4;replace f2 := f2.ext x4;replace e0 := e0.trans x4;replace y0 := y0.ext x4;apply gE;apply gS;refine gR rfl ?_;refine gO rfl rfl (ld77 rfl f3 rfl) rfl ?_;refine gO rfl rfl (ld3 rfl f1 rfl) rfl ?_;refine GoR.call rfl rfl (aCF aFunc51 rfl) (needEvent_yes (A.ext e0) (by omega) c2) ?_ np;rintro v5 h5 ⟨q, x5⟩;cases q;refine ⟨_, rfl, ?_⟩;replace f3 := f3.ext x5;replace f0 := f0.ext x5;replace f2 := f2.ext x5;replace e0 := e0.trans x5;replace y0 := y0.ext x5;apply gE;refine Go.drawnE plan49_0 ?_;refine gQ rfl rfl (ld77 rfl f3 rfl) rfl ?_;refine gQ rfl rfl (ld3 rfl f0 rfl) rfl ?_;refine gQ rfl rfl rfl rfl ?_;refine GoE.callP rfl rfl (aCF aFunc52 rfl) (truths_no O c3 (A.ext e0)) rfl (by rintro _ _ ⟨q, _⟩; cases q) ?_;rintro chain h6 ⟨q, x6⟩
    have q := AEnd.pan.inj q
    subst q;replace f2 := f2.ext x6;replace y0 := y0.ext x6;exact FLeft.pan (⟨y0, f2, .inr rfl⟩)
  ·rw [if_neg c2]
   have e0 : Ext h h := Ext.refl _
   refine Runs.intro aFunc49 rfl rfl rfl rfl fun rest => ?_;apply gS;refine gR rfl ?_;refine GoR.box rfl rfl rfl rfl rfl rfl fun h3 x3 f3 => ?_;replace f0 := f0.ext x3;replace f1 := f1.ext x3;replace f2 := f2.ext x3;replace e0 := e0.trans x3;replace y0 := y0.ext x3;apply gE;apply gS;refine gR rfl ?_;refine gO rfl rfl (ld77 rfl f3 rfl) rfl ?_;refine gO rfl rfl (ld3 rfl f0 rfl) rfl ?_;refine GoR.call rfl rfl (aCF aFunc50 rfl) (needPart_yes (A.ext e0) (by omega) c1) ?_ np;rintro v4 h4 ⟨q, x4⟩;cases q;refine ⟨_, rfl, ?_⟩;replace f3 := f3.ext x4;replace f1 := f1.ext x4;replace f2 := f2.ext x4;replace e0 := e0.trans x4;replace y0 := y0.ext x4;apply gE;apply gS;refine gR rfl ?_;refine gO rfl rfl (ld77 rfl f3 rfl) rfl ?_;refine gO rfl rfl (ld3 rfl f1 rfl) rfl ?_;refine GoR.callP rfl rfl (aCF aFunc51 rfl) (needEvent_no (A.ext e0) (by omega) c2) (by rintro _ _ ⟨q, _⟩; cases q) ?_;rintro chain h5 ⟨q, x5⟩
   have q := AEnd.pan.inj q
   subst q;replace f2 := f2.ext x5;replace y0 := y0.ext x5;exact FLeft.pan (⟨y0, f2, .inr rfl⟩)
 ·rw [if_neg c1]
  have e0 : Ext h h := Ext.refl _
  refine Runs.intro aFunc49 rfl rfl rfl rfl fun rest => ?_;apply gS;refine gR rfl ?_;refine GoR.box rfl rfl rfl rfl rfl rfl fun h3 x3 f3 => ?_;replace f0 := f0.ext x3;replace f2 := f2.ext x3;replace e0 := e0.trans x3;replace y0 := y0.ext x3;apply gE;apply gS;refine gR rfl ?_;refine gO rfl rfl (ld77 rfl f3 rfl) rfl ?_;refine gO rfl rfl (ld3 rfl f0 rfl) rfl ?_;refine GoR.callP rfl rfl (aCF aFunc50 rfl) (needPart_no (A.ext e0) (by omega) c1) (by rintro _ _ ⟨q, _⟩; cases q) ?_;rintro chain h4 ⟨q, x4⟩
  have q := AEnd.pan.inj q
  subst q;replace f2 := f2.ext x4;replace y0 := y0.ext x4;exact FLeft.pan (⟨y0, f2, .inr rfl⟩)
theorem Height_ok {R : RoadV} {psl esl : AVal} {h : AH} (A : RoadAt h R psl esl) (hb1 : R.ps.length ≤ 40) (hb2 : R.es.length ≤ 40) (part event : Int) :
  Runs Tryz.prog 15 [.agg [psl, esl], .int .i64 part, .int .i64 event] h (fun en h' => en = .ret (.tuple [.agg (spC (R.heightR part event).1), .int .i64 (R.heightR part event).2]) ∧ Ext h h') := by
 by_cases O : R.Ok
 ·have hB := fun {lo gp ge b1 b2 br h} A => heightB_ok O (part := part) (event := event) (lo := lo) (gp := gp) (ge := ge) (b1 := b1) (b2 := b2) (br := br) (h := h) A
  obtain ⟨r, hr⟩ : ∃ r, R.heightR part event = r := ⟨_, rfl⟩
  rw [hr] at hB ⊢
  obtain ⟨⟨r1, r2⟩, c⟩ := r
  unfold spC at hB ⊢
  have e0 : Ext h h := Ext.refl _
  refine Runs.intro aFunc15 rfl rfl rfl rfl fun rest => ?_;apply gS;refine gR rfl ?_;refine GoR.box rfl rfl rfl rfl rfl rfl fun h0 x0 f0 => ?_;have := e0.1;replace e0 := e0.trans x0;have := f0.1;refine GoR.box rfl rfl rfl rfl rfl rfl fun h1 x1 f1 => ?_;have := e0.1;have := f0.1;replace f0 := f0.ext x1;replace e0 := e0.trans x1;have := f1.1;refine GoR.box rfl rfl rfl rfl rfl rfl fun h2 x2 f2 => ?_;have := e0.1;have := f1.1;have := f0.1;replace f1 := f1.ext x2;replace f0 := f0.ext x2;replace e0 := e0.trans x2;have := f2.1;refine GoR.alloc rfl rfl rfl zt29 rfl rfl fun h3 x3 f3 => ?_;have := e0.1;have := f2.1;have := f1.1;have := f0.1;replace f2 := f2.ext x3;replace f1 := f1.ext x3;replace f0 := f0.ext x3;replace e0 := e0.trans x3;have := f3.1;refine gP ?_;apply gE;apply gS;refine gR rfl ?_;refine gO rfl rfl (ld25 rfl f0 rfl) rfl ?_;refine gP ?_;refine GoR.call rfl rfl (aCF aFunc48 rfl) (attempt_sets O psl esl _ (A.ext e0) 49 _ aFunc49 _ (by simp [sameA, sameAs, eqI_eq]) h2.next (by omega) [.int .i64 r1, .int .i64 r2] 29 c fun h' gp ge e g => hB g (f1.ext e) (f2.ext e) (f3.ext e) (by omega) (by omega)) ?_ np;rintro v9 h9 ⟨q, y9, f9⟩;cases q;refine ⟨_, rfl, ?_⟩
  have z9 := y9.low e0 (fun b q => by omega)
  clear e0 y9 f3
  have e0 := z9
  refine gP ?_;apply gE;apply gS;refine gR rfl ?_;refine gO rfl rfl (ld29 rfl f9 rfl) rfl ?_;refine gP ?_;refine GoR.store rfl rfl rfl rfl rfl rfl f9 rfl sz29 rfl rfl rfl fun h10 u10 => ?_;replace f9 := u10.has f9;replace e0 := e0.upd u10 (by omega);refine gP ?_;apply gE;exact gV (ret_end (aResult_of Tryz.func15 rfl (aResults_c rfl f9 (inCells_agg ag29 sz29 rfl) rfl)) ⟨rfl, e0⟩)
 ·have hr : R.heightR part event = (zSp, 1) := by unfold RoadV.heightR; rw [if_neg O]
  rw [hr]
  have e0 : Ext h h := Ext.refl _
  refine Runs.intro aFunc15 rfl rfl rfl rfl fun rest => ?_;apply gS;refine gR rfl ?_;refine GoR.box rfl rfl rfl rfl rfl rfl fun h0 x0 f0 => ?_;have := e0.1;replace e0 := e0.trans x0;have := f0.1;refine GoR.box rfl rfl rfl rfl rfl rfl fun h1 x1 f1 => ?_;have := e0.1;have := f0.1;replace f0 := f0.ext x1;replace e0 := e0.trans x1;have := f1.1;refine GoR.box rfl rfl rfl rfl rfl rfl fun h2 x2 f2 => ?_;have := e0.1;have := f1.1;have := f0.1;replace f1 := f1.ext x2;replace f0 := f0.ext x2;replace e0 := e0.trans x2;have := f2.1;refine GoR.alloc rfl rfl rfl zt29 rfl rfl fun h3 x3 f3 => ?_;have := e0.1;have := f2.1;have := f1.1;have := f0.1;replace f0 := f0.ext x3;replace e0 := e0.trans x3;have := f3.1;refine gP ?_;apply gE;apply gS;refine gR rfl ?_;refine gO rfl rfl (ld25 rfl f0 rfl) rfl ?_;refine gP ?_;refine GoR.call rfl rfl (aCF aFunc48 rfl) (attempt_bad O hb1 hb2 psl esl _ (A.ext e0) 49 _) ?_ np;rintro v4 h4 ⟨q, x4⟩;cases q;refine ⟨_, rfl, ?_⟩;replace f3 := f3.ext x4;replace e0 := e0.trans x4;refine gP ?_;apply gE;apply gS;refine gR rfl ?_;refine gO rfl rfl (ld29 rfl f3 rfl) rfl ?_;refine gP ?_;refine GoR.store rfl rfl rfl rfl rfl rfl f3 rfl sz29 rfl rfl rfl fun h5 u5 => ?_;replace f3 := u5.has f3;replace e0 := e0.upd u5 (by omega);refine gP ?_;apply gE;exact gV (ret_end (aResult_of Tryz.func15 rfl (aResults_c rfl f3 (inCells_agg ag29 sz29 rfl) rfl)) ⟨rfl, e0⟩)
theorem sinksB_ok {R : RoadV} (O : R.Ok) {lo : Nat} {gp ge : AVal} {part load : Int} {b1 b2 br : Nat} {h : AH} (A : GroundAt h R lo gp ge) (f0 : Has h b1 (.cells .plain [.int .i64 part] 3)) (f1 : Has h b2 (.cells .plain [.int .i64 load] 3)) (f2 : Has h br (.cells .plain [.int .i64 0, .int .i64 0] 29)) (hb1 : b1 ≠ br) (hb2 : b2 ≠ br) :
  Runs Tryz.prog 59 [.agg [gp, ge], .ptr b1 0, .ptr b2 0, .ptr br 0] h (fun en h'' => ExtF (fun b => b = br) h h'' ∧ Has h'' br (.cells .plain (spC (R.sinksR part load).1) 29) ∧ (((R.sinksR part load).2 = 0 ∧ en = .ret (.tuple [])) ∨ en = .pan (refusal (R.sinksR part load).2))) := by
 have hne := O.ne
 have hnp := O.np
 have y0 : ExtF (fun b => b = br) h h := ExtF.of (Ext.refl _)
 have l0 := f0.1
 have l1 := f1.1
 have l2 := f2.1
 unfold RoadV.sinksR
 rw [if_pos O]
 by_cases c1 : 0 ≤ part ∧ part ≤ (R.ps.length : Int) - 1
 ·rw [if_pos c1]
  by_cases c2 : 0 ≤ load ∧ load ≤ 60
  ·rw [if_pos c2]
   cases c3 : R.possible with
   | true =>
    rw [if_pos rfl]
    obtain ⟨i, rfl⟩ := Int.eq_ofNat_of_zero_le c1.1
    rw [Int.toNat_natCast]
    have hsp : ∀ {h9 : AH} {lo bm : Nat} {L : List (List Int × AVal)}, KnownAt R h9 lo bm L → Has h9 b2 (.cells .plain [.int .i64 load] 3) → Runs Tryz.prog 53 [.map bm, .int .i64 (i : Nat), .func (.func 61) [] [.ptr b2 0]] h9 (fun en h' => en = .ret (.agg (spC (spreadV R.known i fun f => f.x.sinks load))) ∧ Ext h9 h') := fun K f => spread_ok O K (by omega) (caps := [.ptr b2 0]) aFunc61 (by simp [sameA, sameAs, eqI_eq]) _ (fun f hf => by
     have a := (known_in O hf).1.s
     have := sinks_nonneg c2.1 a.1
     have := sinks_le c2.1 a.1
     unfold I64 Pc.sinks
     omega) fun f' h' hf e' => sinks61_ok (known_in O hf).1 c2 (f.ext e')
    obtain ⟨sp, hspd⟩ : ∃ sp, spreadV R.known i (fun f => f.x.sinks load) = sp := ⟨_, rfl⟩
    rw [hspd] at hsp ⊢
    unfold spC at hsp ⊢
    have e0 : Ext h h := Ext.refl _
    refine Runs.intro aFunc59 rfl rfl rfl rfl fun rest => ?_;apply gS;refine gR rfl ?_;refine GoR.box rfl rfl rfl rfl rfl rfl fun h3 x3 f3 => ?_;have := e0.1;have := f1.1;have := f2.1;have := f0.1;replace f1 := f1.ext x3;replace f2 := f2.ext x3;replace f0 := f0.ext x3;replace e0 := e0.trans x3;replace y0 := y0.ext x3;have := f3.1;apply gE;apply gS;refine gR rfl ?_;refine gO rfl rfl (ld77 rfl f3 rfl) rfl ?_;refine gO rfl rfl (ld3 rfl f0 rfl) rfl ?_;refine GoR.call rfl rfl (aCF aFunc50 rfl) (needPart_yes (A.ext e0) (by omega) c1) ?_ np;rintro v4 h4 ⟨q, x4⟩;cases q;refine ⟨_, rfl, ?_⟩;replace f3 := f3.ext x4;replace f1 := f1.ext x4;replace f2 := f2.ext x4;replace f0 := f0.ext x4;replace e0 := e0.trans x4;replace y0 := y0.ext x4;apply gE;apply gS;refine gR rfl ?_;refine gO rfl rfl (ld3 rfl f1 rfl) rfl ?_;refine GoR.call rfl rfl (aCF aFunc60 rfl) (needLoad_yes c2) ?_ np;rintro v5 h5 ⟨q, x5⟩;cases q;refine ⟨_, rfl, ?_⟩;replace f3 := f3.ext x5;replace f1 := f1.ext x5;replace f2 := f2.ext x5;replace f0 := f0.ext x5;replace e0 := e0.trans x5;replace y0 := y0.ext x5;apply gE;refine Go.drawnE plan59_0 ?_;refine gQ rfl rfl (ld77 rfl f3 rfl) rfl ?_;refine gQ rfl rfl (ld3 rfl f0 rfl) rfl ?_;refine gQ rfl rfl rfl rfl ?_;refine GoE.call rfl rfl (aCF aFunc52 rfl) (truths_yes O c3 (A.ext e0)) (dK 1 3 (dK 1 2 (dD 1 0 rfl))) ?_ (by rintro _ _ ⟨bm, L, q, _, KK, e9⟩; cases q);rintro v6 h6 ⟨bm, L, q, x6, KK, e9⟩;cases q;have := e0.1;have := f3.1;have := f1.1;have := f2.1;have := f0.1;replace f3 := f3.ext x6;replace f1 := f1.ext x6;replace f2 := f2.ext x6;replace f0 := f0.ext x6;replace e0 := e0.trans x6;replace y0 := y0.ext x6;refine ⟨(rck (h2 := h6) rfl (rfl) (rck (h2 := h6) rfl (ld3 rfl f0 rfl) recheck_nil)), _, rfl, ?_⟩;refine GoE.call rfl rfl (aCF aFunc53 rfl) (hsp KK f1) (dD 15 3 (dD 15 2 rfl)) ?_ np;rintro v7 h7 ⟨q, x7⟩;cases q;replace f3 := f3.ext x7;replace f1 := f1.ext x7;replace f2 := f2.ext x7;replace f0 := f0.ext x7;replace e0 := e0.trans x7;replace y0 := y0.ext x7;refine ⟨recheck_nil, _, rfl, ?_⟩;refine GoE.store rfl rfl rfl rfl rfl rfl rfl f2 rfl sz29 rfl rfl rfl fun h8 u8 => ?_;replace f3 := f3.upd u8 (by omega);replace f1 := f1.upd u8 (by omega);replace f2 := u8.has f2;replace f0 := f0.upd u8 (by omega);clear e9;clear e0;replace y0 := y0.upd u8 (.inl rfl);refine ⟨recheck_nil, ?_⟩;refine GoE.end rfl ?_;exact Go.endL (FLeft.ret (v := .tuple []) (aResult_of Tryz.func59 rfl rfl) ⟨y0, f2, .inl ⟨rfl, rfl⟩⟩)
   | false =>
    rw [if_neg (by simp)]
    have e0 : Ext h h := Ext.refl _
    refine Runs.intro aFunc59 rfl rfl rfl rfl fun rest => ?_;apply gS;refine gR rfl ?_;refine GoR.box rfl rfl rfl rfl rfl rfl fun h3 x3 f3 => ?_;replace f0 := f0.ext x3;replace f1 := f1.ext x3;replace f2 := f2.ext x3;replace e0 := e0.trans x3;replace y0 := y0.ext x3;apply gE;apply gS;refine gR rfl ?_;refine gO rfl rfl (ld77 rfl f3 rfl) rfl ?_;refine gO rfl rfl (ld3 rfl f0 rfl) rfl ?_;refine GoR.call rfl rfl (aCF aFunc50 rfl) (needPart_yes (A.ext e0) (by omega) c1) ?_ np;rintro v4 h4 ⟨q, x4⟩;cases q;refine ⟨_, rfl, ?_⟩;replace f3 := f3.ext x4;replace f0 := f0.ext x4;replace f1 := f1.ext x4;replace f2 := f2.ext x4;replace e0 := e0.trans x4;replace y0 := y0.ext x4;apply gE;apply gS;refine gR rfl ?_;refine gO rfl rfl (ld3 rfl f1 rfl) rfl ?_;refine GoR.call rfl rfl (aCF aFunc60 rfl) (needLoad_yes c2) ?_ np;rintro v5 h5 ⟨q, x5⟩;cases q;refine ⟨_, rfl, ?_⟩;replace f3 := f3.ext x5;replace f0 := f0.ext x5;replace f2 := f2.ext x5;replace e0 := e0.trans x5;replace y0 := y0.ext x5;apply gE;refine Go.drawnE plan59_0 ?_;refine gQ rfl rfl (ld77 rfl f3 rfl) rfl ?_;refine gQ rfl rfl (ld3 rfl f0 rfl) rfl ?_;refine gQ rfl rfl rfl rfl ?_;refine GoE.callP rfl rfl (aCF aFunc52 rfl) (truths_no O c3 (A.ext e0)) rfl (by rintro _ _ ⟨q, _⟩; cases q) ?_;rintro chain h6 ⟨q, x6⟩
    have q := AEnd.pan.inj q
    subst q;replace f2 := f2.ext x6;replace y0 := y0.ext x6;exact FLeft.pan (⟨y0, f2, .inr rfl⟩)
  ·rw [if_neg c2]
   have e0 : Ext h h := Ext.refl _
   refine Runs.intro aFunc59 rfl rfl rfl rfl fun rest => ?_;apply gS;refine gR rfl ?_;refine GoR.box rfl rfl rfl rfl rfl rfl fun h3 x3 f3 => ?_;replace f0 := f0.ext x3;replace f1 := f1.ext x3;replace f2 := f2.ext x3;replace e0 := e0.trans x3;replace y0 := y0.ext x3;apply gE;apply gS;refine gR rfl ?_;refine gO rfl rfl (ld77 rfl f3 rfl) rfl ?_;refine gO rfl rfl (ld3 rfl f0 rfl) rfl ?_;refine GoR.call rfl rfl (aCF aFunc50 rfl) (needPart_yes (A.ext e0) (by omega) c1) ?_ np;rintro v4 h4 ⟨q, x4⟩;cases q;refine ⟨_, rfl, ?_⟩;replace f1 := f1.ext x4;replace f2 := f2.ext x4;replace y0 := y0.ext x4;apply gE;apply gS;refine gR rfl ?_;refine gO rfl rfl (ld3 rfl f1 rfl) rfl ?_;refine GoR.callP rfl rfl (aCF aFunc60 rfl) (needLoad_no c2) (by rintro _ _ ⟨q, _⟩; cases q) ?_;rintro chain h5 ⟨q, x5⟩
   have q := AEnd.pan.inj q
   subst q;replace f2 := f2.ext x5;replace y0 := y0.ext x5;exact FLeft.pan (⟨y0, f2, .inr rfl⟩)
 ·rw [if_neg c1]
  have e0 : Ext h h := Ext.refl _
  refine Runs.intro aFunc59 rfl rfl rfl rfl fun rest => ?_;apply gS;refine gR rfl ?_;refine GoR.box rfl rfl rfl rfl rfl rfl fun h3 x3 f3 => ?_;replace f0 := f0.ext x3;replace f2 := f2.ext x3;replace e0 := e0.trans x3;replace y0 := y0.ext x3;apply gE;apply gS;refine gR rfl ?_;refine gO rfl rfl (ld77 rfl f3 rfl) rfl ?_;refine gO rfl rfl (ld3 rfl f0 rfl) rfl ?_;refine GoR.callP rfl rfl (aCF aFunc50 rfl) (needPart_no (A.ext e0) (by omega) c1) (by rintro _ _ ⟨q, _⟩; cases q) ?_;rintro chain h4 ⟨q, x4⟩
  have q := AEnd.pan.inj q
  subst q;replace f2 := f2.ext x4;replace y0 := y0.ext x4;exact FLeft.pan (⟨y0, f2, .inr rfl⟩)
theorem Sinks_ok {R : RoadV} {psl esl : AVal} {h : AH} (A : RoadAt h R psl esl) (hb1 : R.ps.length ≤ 40) (hb2 : R.es.length ≤ 40) (part load : Int) :
  Runs Tryz.prog 17 [.agg [psl, esl], .int .i64 part, .int .i64 load] h (fun en h' => en = .ret (.tuple [.agg (spC (R.sinksR part load).1), .int .i64 (R.sinksR part load).2]) ∧ Ext h h') := by
 by_cases O : R.Ok
 ·have hB := fun {lo gp ge b1 b2 br h} A => sinksB_ok O (part := part) (load := load) (lo := lo) (gp := gp) (ge := ge) (b1 := b1) (b2 := b2) (br := br) (h := h) A
  obtain ⟨r, hr⟩ : ∃ r, R.sinksR part load = r := ⟨_, rfl⟩
  rw [hr] at hB ⊢
  obtain ⟨⟨r1, r2⟩, c⟩ := r
  unfold spC at hB ⊢
  have e0 : Ext h h := Ext.refl _
  refine Runs.intro aFunc17 rfl rfl rfl rfl fun rest => ?_;apply gS;refine gR rfl ?_;refine GoR.box rfl rfl rfl rfl rfl rfl fun h0 x0 f0 => ?_;have := e0.1;replace e0 := e0.trans x0;have := f0.1;refine GoR.box rfl rfl rfl rfl rfl rfl fun h1 x1 f1 => ?_;have := e0.1;have := f0.1;replace f0 := f0.ext x1;replace e0 := e0.trans x1;have := f1.1;refine GoR.box rfl rfl rfl rfl rfl rfl fun h2 x2 f2 => ?_;have := e0.1;have := f1.1;have := f0.1;replace f1 := f1.ext x2;replace f0 := f0.ext x2;replace e0 := e0.trans x2;have := f2.1;refine GoR.alloc rfl rfl rfl zt29 rfl rfl fun h3 x3 f3 => ?_;have := e0.1;have := f2.1;have := f1.1;have := f0.1;replace f2 := f2.ext x3;replace f1 := f1.ext x3;replace f0 := f0.ext x3;replace e0 := e0.trans x3;have := f3.1;refine gP ?_;apply gE;apply gS;refine gR rfl ?_;refine gO rfl rfl (ld25 rfl f0 rfl) rfl ?_;refine gP ?_;refine GoR.call rfl rfl (aCF aFunc48 rfl) (attempt_sets O psl esl _ (A.ext e0) 59 _ aFunc59 _ (by simp [sameA, sameAs, eqI_eq]) h2.next (by omega) [.int .i64 r1, .int .i64 r2] 29 c fun h' gp ge e g => hB g (f1.ext e) (f2.ext e) (f3.ext e) (by omega) (by omega)) ?_ np;rintro v9 h9 ⟨q, y9, f9⟩;cases q;refine ⟨_, rfl, ?_⟩
  have z9 := y9.low e0 (fun b q => by omega)
  clear e0 y9 f3
  have e0 := z9
  refine gP ?_;apply gE;apply gS;refine gR rfl ?_;refine gO rfl rfl (ld29 rfl f9 rfl) rfl ?_;refine gP ?_;refine GoR.store rfl rfl rfl rfl rfl rfl f9 rfl sz29 rfl rfl rfl fun h10 u10 => ?_;replace f9 := u10.has f9;replace e0 := e0.upd u10 (by omega);refine gP ?_;apply gE;exact gV (ret_end (aResult_of Tryz.func17 rfl (aResults_c rfl f9 (inCells_agg ag29 sz29 rfl) rfl)) ⟨rfl, e0⟩)
 ·have hr : R.sinksR part load = (zSp, 1) := by unfold RoadV.sinksR; rw [if_neg O]
  rw [hr]
  have e0 : Ext h h := Ext.refl _
  refine Runs.intro aFunc17 rfl rfl rfl rfl fun rest => ?_;apply gS;refine gR rfl ?_;refine GoR.box rfl rfl rfl rfl rfl rfl fun h0 x0 f0 => ?_;have := e0.1;replace e0 := e0.trans x0;have := f0.1;refine GoR.box rfl rfl rfl rfl rfl rfl fun h1 x1 f1 => ?_;have := e0.1;have := f0.1;replace f0 := f0.ext x1;replace e0 := e0.trans x1;have := f1.1;refine GoR.box rfl rfl rfl rfl rfl rfl fun h2 x2 f2 => ?_;have := e0.1;have := f1.1;have := f0.1;replace f1 := f1.ext x2;replace f0 := f0.ext x2;replace e0 := e0.trans x2;have := f2.1;refine GoR.alloc rfl rfl rfl zt29 rfl rfl fun h3 x3 f3 => ?_;have := e0.1;have := f2.1;have := f1.1;have := f0.1;replace f0 := f0.ext x3;replace e0 := e0.trans x3;have := f3.1;refine gP ?_;apply gE;apply gS;refine gR rfl ?_;refine gO rfl rfl (ld25 rfl f0 rfl) rfl ?_;refine gP ?_;refine GoR.call rfl rfl (aCF aFunc48 rfl) (attempt_bad O hb1 hb2 psl esl _ (A.ext e0) 59 _) ?_ np;rintro v4 h4 ⟨q, x4⟩;cases q;refine ⟨_, rfl, ?_⟩;replace f3 := f3.ext x4;replace e0 := e0.trans x4;refine gP ?_;apply gE;apply gS;refine gR rfl ?_;refine gO rfl rfl (ld29 rfl f3 rfl) rfl ?_;refine gP ?_;refine GoR.store rfl rfl rfl rfl rfl rfl f3 rfl sz29 rfl rfl rfl fun h5 u5 => ?_;replace f3 := u5.has f3;replace e0 := e0.upd u5 (by omega);refine gP ?_;apply gE;exact gV (ret_end (aResult_of Tryz.func17 rfl (aResults_c rfl f3 (inCells_agg ag29 sz29 rfl) rfl)) ⟨rfl, e0⟩)
end Go.Proofs.YtkcimfopboelaaaGreat

namespace Go.Proofs.YtkcimfopboelaaaGreat
open Go Go.AbsE
set_option linter.unusedSimpArgs false
set_option maxRecDepth 100000
set_option maxHeartbeats 0
set_option linter.unusedVariables false
theorem bearsB_ok {R : RoadV} (O : R.Ok) {lo : Nat} {gp ge : AVal} {load : Int} {b1 : Nat} {br : Nat} {h : AH} (A : GroundAt h R lo gp ge) (f0 : Has h b1 (.cells .plain [.int .i64 load] 3)) (f2 : Has h br (.cells .plain [.int .i64 0] 3)) (hb1 : b1 ≠ br) :
  Runs Tryz.prog 66 [.agg [gp, ge], .ptr b1 0, .ptr br 0] h (fun en h'' => ExtF (fun b => b = br) h h'' ∧ Has h'' br (.cells .plain [.int .i64 (R.bearsR load).1] 3) ∧ (((R.bearsR load).2 = 0 ∧ en = .ret (.tuple [])) ∨ en = .pan (refusal (R.bearsR load).2))) := by
 have hne := O.ne
 have hnp := O.np
 have y0 : ExtF (fun b => b = br) h h := ExtF.of (Ext.refl _)
 have l0 := f0.1
 have l2 := f2.1
 unfold RoadV.bearsR
 rw [if_pos O]
 by_cases c2 : 0 ≤ load ∧ load ≤ 60
 ·rw [if_pos c2]
  cases c3 : R.possible with
  | true =>
   rw [if_pos rfl]
   have e0 : Ext h h := Ext.refl _
   refine Runs.intro aFunc66 rfl rfl rfl rfl fun rest => ?_;apply gS;refine gR rfl ?_;refine GoR.box rfl rfl rfl rfl rfl rfl fun h3 x3 f3 => ?_;have := e0.1;have := f0.1;have := f2.1;replace f0 := f0.ext x3;replace f2 := f2.ext x3;replace e0 := e0.trans x3;replace y0 := y0.ext x3;have := f3.1;apply gE;apply gS;refine gR rfl ?_;refine gO rfl rfl (ld3 rfl f0 rfl) rfl ?_;refine GoR.call rfl rfl (aCF aFunc60 rfl) (needLoad_yes c2) ?_ np;rintro v4 h4 ⟨q, x4⟩;cases q;refine ⟨_, rfl, ?_⟩;replace f3 := f3.ext x4;replace f0 := f0.ext x4;replace f2 := f2.ext x4;replace e0 := e0.trans x4;replace y0 := y0.ext x4;apply gE;refine Go.drawnE plan66_0 ?_;refine gQ rfl rfl (ld77 rfl f3 rfl) rfl ?_;refine gQ rfl rfl (ld3 rfl f0 rfl) rfl ?_;refine GoE.call rfl rfl (aCF aFunc52 rfl) (truths_yes O c3 (A.ext e0)) (dK 1 2 (dD 1 0 rfl)) ?_ (by rintro _ _ ⟨bm, L, q, _, KK, e9⟩; cases q);rintro v5 h5 ⟨bm, L, q, x5, KK, e9⟩;cases q;have := e0.1;have := f3.1;have := f0.1;have := f2.1;replace f3 := f3.ext x5;replace f0 := f0.ext x5;replace f2 := f2.ext x5;replace e0 := e0.trans x5;replace y0 := y0.ext x5;refine ⟨(rck (h2 := h5) rfl (ld3 rfl f0 rfl) recheck_nil), _, rfl, ?_⟩;refine GoE.call rfl rfl (aCF aFunc67 rfl) (bears67_ok O KK c2) (dD 7 2 rfl) ?_ np;rintro v6 h6 ⟨q, x6⟩;cases q;replace f3 := f3.ext x6;replace f0 := f0.ext x6;replace f2 := f2.ext x6;replace e0 := e0.trans x6;replace y0 := y0.ext x6;refine ⟨recheck_nil, _, rfl, ?_⟩;refine GoE.store rfl rfl rfl rfl rfl rfl rfl f2 rfl sz3 rfl rfl rfl fun h7 u7 => ?_;replace f3 := f3.upd u7 (by omega);replace f0 := f0.upd u7 (by omega);replace f2 := u7.has f2;clear e9;clear e0;replace y0 := y0.upd u7 (.inl rfl);refine ⟨recheck_nil, ?_⟩;refine GoE.end rfl ?_;exact Go.endL (FLeft.ret (v := .tuple []) (aResult_of Tryz.func66 rfl rfl) ⟨y0, f2, .inl ⟨rfl, rfl⟩⟩)
  | false =>
   rw [if_neg (by simp)]
   have e0 : Ext h h := Ext.refl _
   refine Runs.intro aFunc66 rfl rfl rfl rfl fun rest => ?_;apply gS;refine gR rfl ?_;refine GoR.box rfl rfl rfl rfl rfl rfl fun h3 x3 f3 => ?_;replace f0 := f0.ext x3;replace f2 := f2.ext x3;replace e0 := e0.trans x3;replace y0 := y0.ext x3;apply gE;apply gS;refine gR rfl ?_;refine gO rfl rfl (ld3 rfl f0 rfl) rfl ?_;refine GoR.call rfl rfl (aCF aFunc60 rfl) (needLoad_yes c2) ?_ np;rintro v4 h4 ⟨q, x4⟩;cases q;refine ⟨_, rfl, ?_⟩;replace f3 := f3.ext x4;replace f0 := f0.ext x4;replace f2 := f2.ext x4;replace e0 := e0.trans x4;replace y0 := y0.ext x4;apply gE;refine Go.drawnE plan66_0 ?_;refine gQ rfl rfl (ld77 rfl f3 rfl) rfl ?_;refine gQ rfl rfl (ld3 rfl f0 rfl) rfl ?_;refine GoE.callP rfl rfl (aCF aFunc52 rfl) (truths_no O c3 (A.ext e0)) rfl (by rintro _ _ ⟨q, _⟩; cases q) ?_;rintro chain h5 ⟨q, x5⟩
   have q := AEnd.pan.inj q
   subst q;replace f2 := f2.ext x5;replace y0 := y0.ext x5;exact FLeft.pan (⟨y0, f2, .inr rfl⟩)
 ·rw [if_neg c2]
  have e0 : Ext h h := Ext.refl _
  refine Runs.intro aFunc66 rfl rfl rfl rfl fun rest => ?_;apply gS;refine gR rfl ?_;refine GoR.box rfl rfl rfl rfl rfl rfl fun h3 x3 f3 => ?_;replace f0 := f0.ext x3;replace f2 := f2.ext x3;replace y0 := y0.ext x3;apply gE;apply gS;refine gR rfl ?_;refine gO rfl rfl (ld3 rfl f0 rfl) rfl ?_;refine GoR.callP rfl rfl (aCF aFunc60 rfl) (needLoad_no c2) (by rintro _ _ ⟨q, _⟩; cases q) ?_;rintro chain h4 ⟨q, x4⟩
  have q := AEnd.pan.inj q
  subst q;replace f2 := f2.ext x4;replace y0 := y0.ext x4;exact FLeft.pan (⟨y0, f2, .inr rfl⟩)
theorem Bears_ok {R : RoadV} {psl esl : AVal} {h : AH} (A : RoadAt h R psl esl) (hb1 : R.ps.length ≤ 40) (hb2 : R.es.length ≤ 40) (load : Int) :
  Runs Tryz.prog 19 [.agg [psl, esl], .int .i64 load] h (fun en h' => en = .ret (.tuple [.int .i64 (R.bearsR load).1, .int .i64 (R.bearsR load).2]) ∧ Ext h h') := by
 by_cases O : R.Ok
 ·have hB := fun {lo gp ge b1 br h} A => bearsB_ok O (load := load) (lo := lo) (gp := gp) (ge := ge) (b1 := b1) (br := br) (h := h) A
  obtain ⟨r, hr⟩ : ∃ r, R.bearsR load = r := ⟨_, rfl⟩
  rw [hr] at hB ⊢
  obtain ⟨r1, c⟩ := r
  have e0 : Ext h h := Ext.refl _
  refine Runs.intro aFunc19 rfl rfl rfl rfl fun rest => ?_;apply gS;refine gR rfl ?_;refine GoR.box rfl rfl rfl rfl rfl rfl fun h0 x0 f0 => ?_;have := e0.1;replace e0 := e0.trans x0;have := f0.1;refine GoR.box rfl rfl rfl rfl rfl rfl fun h1 x1 f1 => ?_;have := e0.1;have := f0.1;replace f0 := f0.ext x1;replace e0 := e0.trans x1;have := f1.1;refine GoR.alloc rfl rfl rfl zt3 rfl rfl fun h2 x2 f2 => ?_;have := e0.1;have := f1.1;have := f0.1;replace f1 := f1.ext x2;replace f0 := f0.ext x2;replace e0 := e0.trans x2;have := f2.1;refine gP ?_;apply gE;apply gS;refine gR rfl ?_;refine gO rfl rfl (ld25 rfl f0 rfl) rfl ?_;refine gP ?_;refine GoR.call rfl rfl (aCF aFunc48 rfl) (attempt_sets O psl esl _ (A.ext e0) 66 _ aFunc66 _ (by simp [sameA, sameAs, eqI_eq]) h1.next (by omega) [.int .i64 r1] 3 c fun h' gp ge e g => hB g (f1.ext e) (f2.ext e) (by omega)) ?_ np;rintro v9 h9 ⟨q, y9, f9⟩;cases q;refine ⟨_, rfl, ?_⟩
  have z9 := y9.low e0 (fun b q => by omega)
  clear e0 y9 f2
  have e0 := z9
  refine gP ?_;apply gE;apply gS;refine gR rfl ?_;refine gO rfl rfl (ld3 rfl f9 rfl) rfl ?_;refine gP ?_;refine GoR.store rfl rfl rfl rfl rfl rfl f9 rfl sz3 rfl rfl rfl fun h10 u10 => ?_;replace f9 := u10.has f9;replace e0 := e0.upd u10 (by omega);refine gP ?_;apply gE;exact gV (ret_end (aResult_of Tryz.func19 rfl (aResults_c rfl f9 (inCells_one ag3 rfl) rfl)) ⟨rfl, e0⟩)
 ·have hr : R.bearsR load = (0, 1) := by unfold RoadV.bearsR; rw [if_neg O]
  rw [hr]
  have e0 : Ext h h := Ext.refl _
  refine Runs.intro aFunc19 rfl rfl rfl rfl fun rest => ?_;apply gS;refine gR rfl ?_;refine GoR.box rfl rfl rfl rfl rfl rfl fun h0 x0 f0 => ?_;have := e0.1;replace e0 := e0.trans x0;have := f0.1;refine GoR.box rfl rfl rfl rfl rfl rfl fun h1 x1 f1 => ?_;have := e0.1;have := f0.1;replace f0 := f0.ext x1;replace e0 := e0.trans x1;have := f1.1;refine GoR.alloc rfl rfl rfl zt3 rfl rfl fun h2 x2 f2 => ?_;have := e0.1;have := f1.1;have := f0.1;replace f0 := f0.ext x2;replace e0 := e0.trans x2;have := f2.1;refine gP ?_;apply gE;apply gS;refine gR rfl ?_;refine gO rfl rfl (ld25 rfl f0 rfl) rfl ?_;refine gP ?_;refine GoR.call rfl rfl (aCF aFunc48 rfl) (attempt_bad O hb1 hb2 psl esl _ (A.ext e0) 66 _) ?_ np;rintro v3 h3 ⟨q, x3⟩;cases q;refine ⟨_, rfl, ?_⟩;replace f2 := f2.ext x3;replace e0 := e0.trans x3;refine gP ?_;apply gE;apply gS;refine gR rfl ?_;refine gO rfl rfl (ld3 rfl f2 rfl) rfl ?_;refine gP ?_;refine GoR.store rfl rfl rfl rfl rfl rfl f2 rfl sz3 rfl rfl rfl fun h4 u4 => ?_;replace f2 := u4.has f2;replace e0 := e0.upd u4 (by omega);refine gP ?_;apply gE;exact gV (ret_end (aResult_of Tryz.func19 rfl (aResults_c rfl f2 (inCells_one ag3 rfl) rfl)) ⟨rfl, e0⟩)
theorem restB_ok {R : RoadV} (O : R.Ok) {lo : Nat} {gp ge : AVal} {load : Int} {b1 : Nat} {br : Nat} {h : AH} (A : GroundAt h R lo gp ge) (f0 : Has h b1 (.cells .plain [.int .i64 load] 3)) (f2 : Has h br (.cells .plain [.int .i64 0] 3)) (hb1 : b1 ≠ br) :
  Runs Tryz.prog 75 [.agg [gp, ge], .ptr b1 0, .ptr br 0] h (fun en h'' => ExtF (fun b => b = br) h h'' ∧ Has h'' br (.cells .plain [.int .i64 (R.restR load).1] 3) ∧ (((R.restR load).2 = 0 ∧ en = .ret (.tuple [])) ∨ en = .pan (refusal (R.restR load).2))) := by
 have hne := O.ne
 have hnp := O.np
 have y0 : ExtF (fun b => b = br) h h := ExtF.of (Ext.refl _)
 have l0 := f0.1
 have l2 := f2.1
 unfold RoadV.restR
 rw [if_pos O]
 by_cases c2 : 0 ≤ load ∧ load ≤ 60
 ·rw [if_pos c2]
  cases c3 : R.possible with
  | true =>
   rw [if_pos rfl]
   have hr := fun {h9 lo bm L} K => rest_ok O (h := h9) (lo := lo) (bm := bm) (L := L) K c2
   cases c4 : restV R.known load with
   | none =>
    rw [c4] at hr
    have e0 : Ext h h := Ext.refl _
    refine Runs.intro aFunc75 rfl rfl rfl rfl fun rest => ?_;apply gS;refine gR rfl ?_;refine GoR.box rfl rfl rfl rfl rfl rfl fun h3 x3 f3 => ?_;have := e0.1;have := f0.1;have := f2.1;replace f0 := f0.ext x3;replace f2 := f2.ext x3;replace e0 := e0.trans x3;replace y0 := y0.ext x3;have := f3.1;apply gE;apply gS;refine gR rfl ?_;refine gO rfl rfl (ld3 rfl f0 rfl) rfl ?_;refine GoR.call rfl rfl (aCF aFunc60 rfl) (needLoad_yes c2) ?_ np;rintro v4 h4 ⟨q, x4⟩;cases q;refine ⟨_, rfl, ?_⟩;replace f3 := f3.ext x4;replace f0 := f0.ext x4;replace f2 := f2.ext x4;replace e0 := e0.trans x4;replace y0 := y0.ext x4;apply gE;refine Go.drawnE plan75_0 ?_;refine gQ rfl rfl (ld77 rfl f3 rfl) rfl ?_;refine gQ rfl rfl (ld3 rfl f0 rfl) rfl ?_;refine GoE.call rfl rfl (aCF aFunc52 rfl) (truths_yes O c3 (A.ext e0)) (dK 1 2 (dD 1 0 rfl)) ?_ (by rintro _ _ ⟨bm, L, q, _, KK, e9⟩; cases q);rintro v5 h5 ⟨bm, L, q, x5, KK, e9⟩;cases q;have := e0.1;have := f3.1;have := f0.1;have := f2.1;replace f3 := f3.ext x5;replace f0 := f0.ext x5;replace f2 := f2.ext x5;replace e0 := e0.trans x5;replace y0 := y0.ext x5;refine ⟨(rck (h2 := h5) rfl (ld3 rfl f0 rfl) recheck_nil), _, rfl, ?_⟩;refine GoE.callP rfl rfl (aCF aFunc76 rfl) (hr KK) rfl (by rintro _ _ ⟨q, _⟩; cases q) ?_;rintro chain h6 ⟨q, x6⟩
    have q := AEnd.pan.inj q
    subst q;replace f3 := f3.ext x6;replace f0 := f0.ext x6;replace f2 := f2.ext x6;replace e9 := e9.trans x6;replace e0 := e0.trans x6;replace y0 := y0.ext x6;exact FLeft.pan (⟨y0, f2, .inr rfl⟩)
   | some l =>
    rw [c4] at hr
    have e0 : Ext h h := Ext.refl _
    refine Runs.intro aFunc75 rfl rfl rfl rfl fun rest => ?_;apply gS;refine gR rfl ?_;refine GoR.box rfl rfl rfl rfl rfl rfl fun h3 x3 f3 => ?_;have := e0.1;have := f0.1;have := f2.1;replace f0 := f0.ext x3;replace f2 := f2.ext x3;replace e0 := e0.trans x3;replace y0 := y0.ext x3;have := f3.1;apply gE;apply gS;refine gR rfl ?_;refine gO rfl rfl (ld3 rfl f0 rfl) rfl ?_;refine GoR.call rfl rfl (aCF aFunc60 rfl) (needLoad_yes c2) ?_ np;rintro v4 h4 ⟨q, x4⟩;cases q;refine ⟨_, rfl, ?_⟩;replace f3 := f3.ext x4;replace f0 := f0.ext x4;replace f2 := f2.ext x4;replace e0 := e0.trans x4;replace y0 := y0.ext x4;apply gE;refine Go.drawnE plan75_0 ?_;refine gQ rfl rfl (ld77 rfl f3 rfl) rfl ?_;refine gQ rfl rfl (ld3 rfl f0 rfl) rfl ?_;refine GoE.call rfl rfl (aCF aFunc52 rfl) (truths_yes O c3 (A.ext e0)) (dK 1 2 (dD 1 0 rfl)) ?_ (by rintro _ _ ⟨bm, L, q, _, KK, e9⟩; cases q);rintro v5 h5 ⟨bm, L, q, x5, KK, e9⟩;cases q;have := e0.1;have := f3.1;have := f0.1;have := f2.1;replace f3 := f3.ext x5;replace f0 := f0.ext x5;replace f2 := f2.ext x5;replace e0 := e0.trans x5;replace y0 := y0.ext x5;refine ⟨(rck (h2 := h5) rfl (ld3 rfl f0 rfl) recheck_nil), _, rfl, ?_⟩;refine GoE.call rfl rfl (aCF aFunc76 rfl) (hr KK) (dD 7 2 rfl) ?_ np;rintro v6 h6 ⟨q, x6⟩;cases q;replace f3 := f3.ext x6;replace f0 := f0.ext x6;replace f2 := f2.ext x6;replace e0 := e0.trans x6;replace y0 := y0.ext x6;refine ⟨recheck_nil, _, rfl, ?_⟩;refine GoE.store rfl rfl rfl rfl rfl rfl rfl f2 rfl sz3 rfl rfl rfl fun h7 u7 => ?_;replace f3 := f3.upd u7 (by omega);replace f0 := f0.upd u7 (by omega);replace f2 := u7.has f2;clear e9;clear e0;replace y0 := y0.upd u7 (.inl rfl);refine ⟨recheck_nil, ?_⟩;refine GoE.end rfl ?_;exact Go.endL (FLeft.ret (v := .tuple []) (aResult_of Tryz.func75 rfl rfl) ⟨y0, f2, .inl ⟨rfl, rfl⟩⟩)
  | false =>
   rw [if_neg (by simp)]
   have e0 : Ext h h := Ext.refl _
   refine Runs.intro aFunc75 rfl rfl rfl rfl fun rest => ?_;apply gS;refine gR rfl ?_;refine GoR.box rfl rfl rfl rfl rfl rfl fun h3 x3 f3 => ?_;replace f0 := f0.ext x3;replace f2 := f2.ext x3;replace e0 := e0.trans x3;replace y0 := y0.ext x3;apply gE;apply gS;refine gR rfl ?_;refine gO rfl rfl (ld3 rfl f0 rfl) rfl ?_;refine GoR.call rfl rfl (aCF aFunc60 rfl) (needLoad_yes c2) ?_ np;rintro v4 h4 ⟨q, x4⟩;cases q;refine ⟨_, rfl, ?_⟩;replace f3 := f3.ext x4;replace f0 := f0.ext x4;replace f2 := f2.ext x4;replace e0 := e0.trans x4;replace y0 := y0.ext x4;apply gE;refine Go.drawnE plan75_0 ?_;refine gQ rfl rfl (ld77 rfl f3 rfl) rfl ?_;refine gQ rfl rfl (ld3 rfl f0 rfl) rfl ?_;refine GoE.callP rfl rfl (aCF aFunc52 rfl) (truths_no O c3 (A.ext e0)) rfl (by rintro _ _ ⟨q, _⟩; cases q) ?_;rintro chain h5 ⟨q, x5⟩
   have q := AEnd.pan.inj q
   subst q;replace f2 := f2.ext x5;replace y0 := y0.ext x5;exact FLeft.pan (⟨y0, f2, .inr rfl⟩)
 ·rw [if_neg c2]
  have e0 : Ext h h := Ext.refl _
  refine Runs.intro aFunc75 rfl rfl rfl rfl fun rest => ?_;apply gS;refine gR rfl ?_;refine GoR.box rfl rfl rfl rfl rfl rfl fun h3 x3 f3 => ?_;replace f0 := f0.ext x3;replace f2 := f2.ext x3;replace y0 := y0.ext x3;apply gE;apply gS;refine gR rfl ?_;refine gO rfl rfl (ld3 rfl f0 rfl) rfl ?_;refine GoR.callP rfl rfl (aCF aFunc60 rfl) (needLoad_no c2) (by rintro _ _ ⟨q, _⟩; cases q) ?_;rintro chain h4 ⟨q, x4⟩
  have q := AEnd.pan.inj q
  subst q;replace f2 := f2.ext x4;replace y0 := y0.ext x4;exact FLeft.pan (⟨y0, f2, .inr rfl⟩)
theorem Rest_ok {R : RoadV} {psl esl : AVal} {h : AH} (A : RoadAt h R psl esl) (hb1 : R.ps.length ≤ 40) (hb2 : R.es.length ≤ 40) (load : Int) :
  Runs Tryz.prog 26 [.agg [psl, esl], .int .i64 load] h (fun en h' => en = .ret (.tuple [.int .i64 (R.restR load).1, .int .i64 (R.restR load).2]) ∧ Ext h h') := by
 by_cases O : R.Ok
 ·have hB := fun {lo gp ge b1 br h} A => restB_ok O (load := load) (lo := lo) (gp := gp) (ge := ge) (b1 := b1) (br := br) (h := h) A
  obtain ⟨r, hr⟩ : ∃ r, R.restR load = r := ⟨_, rfl⟩
  rw [hr] at hB ⊢
  obtain ⟨r1, c⟩ := r
  have e0 : Ext h h := Ext.refl _
  refine Runs.intro aFunc26 rfl rfl rfl rfl fun rest => ?_;apply gS;refine gR rfl ?_;refine GoR.box rfl rfl rfl rfl rfl rfl fun h0 x0 f0 => ?_;have := e0.1;replace e0 := e0.trans x0;have := f0.1;refine GoR.box rfl rfl rfl rfl rfl rfl fun h1 x1 f1 => ?_;have := e0.1;have := f0.1;replace f0 := f0.ext x1;replace e0 := e0.trans x1;have := f1.1;refine GoR.alloc rfl rfl rfl zt3 rfl rfl fun h2 x2 f2 => ?_;have := e0.1;have := f1.1;have := f0.1;replace f1 := f1.ext x2;replace f0 := f0.ext x2;replace e0 := e0.trans x2;have := f2.1;refine gP ?_;apply gE;apply gS;refine gR rfl ?_;refine gO rfl rfl (ld25 rfl f0 rfl) rfl ?_;refine gP ?_;refine GoR.call rfl rfl (aCF aFunc48 rfl) (attempt_sets O psl esl _ (A.ext e0) 75 _ aFunc75 _ (by simp [sameA, sameAs, eqI_eq]) h1.next (by omega) [.int .i64 r1] 3 c fun h' gp ge e g => hB g (f1.ext e) (f2.ext e) (by omega)) ?_ np;rintro v9 h9 ⟨q, y9, f9⟩;cases q;refine ⟨_, rfl, ?_⟩
  have z9 := y9.low e0 (fun b q => by omega)
  clear e0 y9 f2
  have e0 := z9
  refine gP ?_;apply gE;apply gS;refine gR rfl ?_;refine gO rfl rfl (ld3 rfl f9 rfl) rfl ?_;refine gP ?_;refine GoR.store rfl rfl rfl rfl rfl rfl f9 rfl sz3 rfl rfl rfl fun h10 u10 => ?_;replace f9 := u10.has f9;replace e0 := e0.upd u10 (by omega);refine gP ?_;apply gE;exact gV (ret_end (aResult_of Tryz.func26 rfl (aResults_c rfl f9 (inCells_one ag3 rfl) rfl)) ⟨rfl, e0⟩)
 ·have hr : R.restR load = (0, 1) := by unfold RoadV.restR; rw [if_neg O]
  rw [hr]
  have e0 : Ext h h := Ext.refl _
  refine Runs.intro aFunc26 rfl rfl rfl rfl fun rest => ?_;apply gS;refine gR rfl ?_;refine GoR.box rfl rfl rfl rfl rfl rfl fun h0 x0 f0 => ?_;have := e0.1;replace e0 := e0.trans x0;have := f0.1;refine GoR.box rfl rfl rfl rfl rfl rfl fun h1 x1 f1 => ?_;have := e0.1;have := f0.1;replace f0 := f0.ext x1;replace e0 := e0.trans x1;have := f1.1;refine GoR.alloc rfl rfl rfl zt3 rfl rfl fun h2 x2 f2 => ?_;have := e0.1;have := f1.1;have := f0.1;replace f0 := f0.ext x2;replace e0 := e0.trans x2;have := f2.1;refine gP ?_;apply gE;apply gS;refine gR rfl ?_;refine gO rfl rfl (ld25 rfl f0 rfl) rfl ?_;refine gP ?_;refine GoR.call rfl rfl (aCF aFunc48 rfl) (attempt_bad O hb1 hb2 psl esl _ (A.ext e0) 75 _) ?_ np;rintro v3 h3 ⟨q, x3⟩;cases q;refine ⟨_, rfl, ?_⟩;replace f2 := f2.ext x3;replace e0 := e0.trans x3;refine gP ?_;apply gE;apply gS;refine gR rfl ?_;refine gO rfl rfl (ld3 rfl f2 rfl) rfl ?_;refine gP ?_;refine GoR.store rfl rfl rfl rfl rfl rfl f2 rfl sz3 rfl rfl rfl fun h4 u4 => ?_;replace f2 := u4.has f2;replace e0 := e0.upd u4 (by omega);refine gP ?_;apply gE;exact gV (ret_end (aResult_of Tryz.func26 rfl (aResults_c rfl f2 (inCells_one ag3 rfl) rfl)) ⟨rfl, e0⟩)
theorem mostB_ok {R : RoadV} (O : R.Ok) {lo : Nat} {gp ge : AVal} {br : Nat} {h : AH} (A : GroundAt h R lo gp ge) (f2 : Has h br (.cells .plain [.int .i64 0] 3)) :
  Runs Tryz.prog 73 [.agg [gp, ge], .ptr br 0] h (fun en h'' => ExtF (fun b => b = br) h h'' ∧ Has h'' br (.cells .plain [.int .i64 (R.mostR).1] 3) ∧ (((R.mostR).2 = 0 ∧ en = .ret (.tuple [])) ∨ en = .pan (refusal (R.mostR).2))) := by
 have hne := O.ne
 have hnp := O.np
 have y0 : ExtF (fun b => b = br) h h := ExtF.of (Ext.refl _)
 skip
 have l2 := f2.1
 unfold RoadV.mostR
 rw [if_pos O]
 cases c3 : R.possible with
 | true =>
  rw [if_pos rfl]
  have hr := fun {h9 lo bm L} K => most_ok O (h := h9) (lo := lo) (bm := bm) (L := L) K
  cases c4 : mostV R.known with
  | none =>
   rw [c4] at hr
   have e0 : Ext h h := Ext.refl _
   refine Runs.intro aFunc73 rfl rfl rfl rfl fun rest => ?_;apply gS;refine gR rfl ?_;refine GoR.box rfl rfl rfl rfl rfl rfl fun h3 x3 f3 => ?_;have := e0.1;have := f2.1;replace f2 := f2.ext x3;replace e0 := e0.trans x3;replace y0 := y0.ext x3;have := f3.1;apply gE;refine gR rfl ?_;refine gO rfl rfl (ld77 rfl f3 rfl) rfl ?_;refine GoR.call rfl rfl (aCF aFunc52 rfl) (truths_yes O c3 (A.ext e0)) ?_ (by rintro _ _ ⟨bm, L, q, _, KK, e9⟩; cases q);rintro v4 h4 ⟨bm, L, q, x4, KK, e9⟩;cases q;refine ⟨_, rfl, ?_⟩;have := e0.1;replace f3 := f3.ext x4;replace f2 := f2.ext x4;replace e0 := e0.trans x4;replace y0 := y0.ext x4;refine GoR.callP rfl rfl (aCF aFunc74 rfl) (hr KK) (by rintro _ _ ⟨q, _⟩; cases q) ?_;rintro chain h5 ⟨q, x5⟩
   have q := AEnd.pan.inj q
   subst q;replace f3 := f3.ext x5;replace f2 := f2.ext x5;replace e9 := e9.trans x5;replace e0 := e0.trans x5;replace y0 := y0.ext x5;exact FLeft.pan (⟨y0, f2, .inr rfl⟩)
  | some l =>
   rw [c4] at hr
   have e0 : Ext h h := Ext.refl _
   refine Runs.intro aFunc73 rfl rfl rfl rfl fun rest => ?_;apply gS;refine gR rfl ?_;refine GoR.box rfl rfl rfl rfl rfl rfl fun h3 x3 f3 => ?_;have := e0.1;have := f2.1;replace f2 := f2.ext x3;replace e0 := e0.trans x3;replace y0 := y0.ext x3;have := f3.1;apply gE;refine gR rfl ?_;refine gO rfl rfl (ld77 rfl f3 rfl) rfl ?_;refine GoR.call rfl rfl (aCF aFunc52 rfl) (truths_yes O c3 (A.ext e0)) ?_ (by rintro _ _ ⟨bm, L, q, _, KK, e9⟩; cases q);rintro v4 h4 ⟨bm, L, q, x4, KK, e9⟩;cases q;refine ⟨_, rfl, ?_⟩;have := e0.1;replace f3 := f3.ext x4;replace f2 := f2.ext x4;replace e0 := e0.trans x4;replace y0 := y0.ext x4;refine GoR.call rfl rfl (aCF aFunc74 rfl) (hr KK) ?_ np;rintro v5 h5 ⟨q, x5⟩;cases q;refine ⟨_, rfl, ?_⟩;replace f3 := f3.ext x5;replace f2 := f2.ext x5;replace e0 := e0.trans x5;replace y0 := y0.ext x5;refine GoR.store rfl rfl rfl rfl rfl rfl f2 rfl sz3 rfl rfl rfl fun h6 u6 => ?_;replace f3 := f3.upd u6 (by omega);replace f2 := u6.has f2;clear e9;clear e0;replace y0 := y0.upd u6 (.inl rfl);apply gE;exact Go.endL (FLeft.ret (v := .tuple []) (aResult_of Tryz.func73 rfl rfl) ⟨y0, f2, .inl ⟨rfl, rfl⟩⟩)
 | false =>
  rw [if_neg (by simp)]
  have e0 : Ext h h := Ext.refl _
  refine Runs.intro aFunc73 rfl rfl rfl rfl fun rest => ?_;apply gS;refine gR rfl ?_;refine GoR.box rfl rfl rfl rfl rfl rfl fun h3 x3 f3 => ?_;replace f2 := f2.ext x3;replace e0 := e0.trans x3;replace y0 := y0.ext x3;apply gE;refine gR rfl ?_;refine gO rfl rfl (ld77 rfl f3 rfl) rfl ?_;refine GoR.callP rfl rfl (aCF aFunc52 rfl) (truths_no O c3 (A.ext e0)) (by rintro _ _ ⟨q, _⟩; cases q) ?_;rintro chain h4 ⟨q, x4⟩
  have q := AEnd.pan.inj q
  subst q;replace f2 := f2.ext x4;replace y0 := y0.ext x4;exact FLeft.pan (⟨y0, f2, .inr rfl⟩)
theorem Most_ok {R : RoadV} {psl esl : AVal} {h : AH} (A : RoadAt h R psl esl) (hb1 : R.ps.length ≤ 40) (hb2 : R.es.length ≤ 40) :
  Runs Tryz.prog 24 [.agg [psl, esl]] h (fun en h' => en = .ret (.tuple [.int .i64 (R.mostR).1, .int .i64 (R.mostR).2]) ∧ Ext h h') := by
 by_cases O : R.Ok
 ·have hB := fun {lo gp ge br h} A => mostB_ok O (lo := lo) (gp := gp) (ge := ge) (br := br) (h := h) A
  obtain ⟨r, hr⟩ : ∃ r, R.mostR = r := ⟨_, rfl⟩
  rw [hr] at hB ⊢
  obtain ⟨r1, c⟩ := r
  have e0 : Ext h h := Ext.refl _
  refine Runs.intro aFunc24 rfl rfl rfl rfl fun rest => ?_;apply gS;refine gR rfl ?_;refine GoR.box rfl rfl rfl rfl rfl rfl fun h0 x0 f0 => ?_;have := e0.1;replace e0 := e0.trans x0;have := f0.1;refine GoR.alloc rfl rfl rfl zt3 rfl rfl fun h1 x1 f1 => ?_;have := e0.1;have := f0.1;replace f0 := f0.ext x1;replace e0 := e0.trans x1;have := f1.1;refine gP ?_;apply gE;apply gS;refine gR rfl ?_;refine gO rfl rfl (ld25 rfl f0 rfl) rfl ?_;refine gP ?_;refine GoR.call rfl rfl (aCF aFunc48 rfl) (attempt_sets O psl esl _ (A.ext e0) 73 _ aFunc73 _ (by simp [sameA, sameAs, eqI_eq]) h0.next (by omega) [.int .i64 r1] 3 c fun h' gp ge e g => hB g (f1.ext e)) ?_ np;rintro v9 h9 ⟨q, y9, f9⟩;cases q;refine ⟨_, rfl, ?_⟩
  have z9 := y9.low e0 (fun b q => by omega)
  clear e0 y9 f1
  have e0 := z9
  refine gP ?_;apply gE;apply gS;refine gR rfl ?_;refine gO rfl rfl (ld3 rfl f9 rfl) rfl ?_;refine gP ?_;refine GoR.store rfl rfl rfl rfl rfl rfl f9 rfl sz3 rfl rfl rfl fun h10 u10 => ?_;replace f9 := u10.has f9;replace e0 := e0.upd u10 (by omega);refine gP ?_;apply gE;exact gV (ret_end (aResult_of Tryz.func24 rfl (aResults_c rfl f9 (inCells_one ag3 rfl) rfl)) ⟨rfl, e0⟩)
 ·have hr : R.mostR = (0, 1) := by unfold RoadV.mostR; rw [if_neg O]
  rw [hr]
  have e0 : Ext h h := Ext.refl _
  refine Runs.intro aFunc24 rfl rfl rfl rfl fun rest => ?_;apply gS;refine gR rfl ?_;refine GoR.box rfl rfl rfl rfl rfl rfl fun h0 x0 f0 => ?_;have := e0.1;replace e0 := e0.trans x0;have := f0.1;refine GoR.alloc rfl rfl rfl zt3 rfl rfl fun h1 x1 f1 => ?_;have := e0.1;have := f0.1;replace f0 := f0.ext x1;replace e0 := e0.trans x1;have := f1.1;refine gP ?_;apply gE;apply gS;refine gR rfl ?_;refine gO rfl rfl (ld25 rfl f0 rfl) rfl ?_;refine gP ?_;refine GoR.call rfl rfl (aCF aFunc48 rfl) (attempt_bad O hb1 hb2 psl esl _ (A.ext e0) 73 _) ?_ np;rintro v2 h2 ⟨q, x2⟩;cases q;refine ⟨_, rfl, ?_⟩;replace f1 := f1.ext x2;replace e0 := e0.trans x2;refine gP ?_;apply gE;apply gS;refine gR rfl ?_;refine gO rfl rfl (ld3 rfl f1 rfl) rfl ?_;refine gP ?_;refine GoR.store rfl rfl rfl rfl rfl rfl f1 rfl sz3 rfl rfl rfl fun h3 u3 => ?_;replace f1 := u3.has f1;replace e0 := e0.upd u3 (by omega);refine gP ?_;apply gE;exact gV (ret_end (aResult_of Tryz.func24 rfl (aResults_c rfl f1 (inCells_one ag3 rfl) rfl)) ⟨rfl, e0⟩)
theorem weak_no {R : RoadV} (O : R.Ok) (hp : R.possible = false) {lo : Nat} {gp ge : AVal} {h : AH} (A : GroundAt h R lo gp ge) : Runs Tryz.prog 78 [.agg [gp, ge]] h (fun en h' => en = .pan (refusal 10) ∧ Ext h h') := by
 have e0 : Ext h h := Ext.refl _
 refine Runs.intro aFunc78 rfl rfl rfl rfl fun rest => ?_;apply gS;refine gR rfl ?_;refine GoR.box rfl rfl rfl rfl rfl rfl fun h0 x0 f0 => ?_;replace e0 := e0.trans x0;refine gP ?_;apply gE;apply gS;refine gR rfl ?_;refine gO rfl rfl (ld77 rfl f0 rfl) rfl ?_;refine GoR.callP rfl rfl (aCF aFunc52 rfl) (truths_no O hp (A.ext e0)) (by rintro _ _ ⟨q, _⟩; cases q) ?_;rintro chain h1 ⟨q, x1⟩
 have q := AEnd.pan.inj q
 subst q;replace e0 := e0.trans x1;exact FLeft.pan (⟨rfl, e0⟩)
theorem below_no {R : RoadV} (O : R.Ok) (hp : R.possible = false) {lo : Nat} {gp ge : AVal} {h : AH} (A : GroundAt h R lo gp ge) : Runs Tryz.prog 70 [.agg [gp, ge]] h (fun en h' => en = .pan (refusal 10) ∧ Ext h h') := by
 have e0 : Ext h h := Ext.refl _
 refine Runs.intro aFunc70 rfl rfl rfl rfl fun rest => ?_;apply gS;refine gR rfl ?_;refine GoR.box rfl rfl rfl rfl rfl rfl fun h0 x0 f0 => ?_;replace e0 := e0.trans x0;iterate 2 refine gP ?_
 apply gE;apply gS;refine gR rfl ?_;refine gO rfl rfl (ld77 rfl f0 rfl) rfl ?_;refine GoR.callP rfl rfl (aCF aFunc52 rfl) (truths_no O hp (A.ext e0)) (by rintro _ _ ⟨q, _⟩; cases q) ?_;rintro chain h1 ⟨q, x1⟩
 have q := AEnd.pan.inj q
 subst q;replace e0 := e0.trans x1;exact FLeft.pan (⟨rfl, e0⟩)
theorem weakB_ok {R : RoadV} (O : R.Ok) {lo : Nat} {gp ge : AVal} {br : Nat} {h : AH} (A : GroundAt h R lo gp ge) (f2 : Has h br (.cells .plain [.int .i64 0] 3)) :
  Runs Tryz.prog 77 [.agg [gp, ge], .ptr br 0] h (fun en h'' => ExtF (fun b => b = br) h h'' ∧ Has h'' br (.cells .plain [.int .i64 (R.weakR).1] 3) ∧ (((R.weakR).2 = 0 ∧ en = .ret (.tuple [])) ∨ en = .pan (refusal (R.weakR).2))) := by
 have hne := O.ne
 have hnp := O.np
 have y0 : ExtF (fun b => b = br) h h := ExtF.of (Ext.refl _)
 skip
 have l2 := f2.1
 unfold RoadV.weakR
 rw [if_pos O]
 cases c3 : R.possible with
 | true =>
  rw [if_pos rfl]
  have e0 : Ext h h := Ext.refl _
  refine Runs.intro aFunc77 rfl rfl rfl rfl fun rest => ?_;apply gS;refine gR rfl ?_;refine GoR.box rfl rfl rfl rfl rfl rfl fun h3 x3 f3 => ?_;have := e0.1;have := f2.1;replace f2 := f2.ext x3;replace e0 := e0.trans x3;replace y0 := y0.ext x3;have := f3.1;apply gE;refine gR rfl ?_;refine gO rfl rfl (ld77 rfl f3 rfl) rfl ?_;refine GoR.call rfl rfl (aCF aFunc78 rfl) (weak_ok O c3 (A.ext e0)) ?_ np;rintro v4 h4 ⟨q, x4⟩;cases q;refine ⟨_, rfl, ?_⟩;replace f3 := f3.ext x4;replace f2 := f2.ext x4;replace e0 := e0.trans x4;replace y0 := y0.ext x4;refine GoR.store rfl rfl rfl rfl rfl rfl f2 rfl sz3 rfl rfl rfl fun h5 u5 => ?_;replace f3 := f3.upd u5 (by omega);replace f2 := u5.has f2;clear e0;replace y0 := y0.upd u5 (.inl rfl);apply gE;exact Go.endL (FLeft.ret (v := .tuple []) (aResult_of Tryz.func77 rfl rfl) ⟨y0, f2, .inl ⟨rfl, rfl⟩⟩)
 | false =>
  rw [if_neg (by simp)]
  have e0 : Ext h h := Ext.refl _
  refine Runs.intro aFunc77 rfl rfl rfl rfl fun rest => ?_;apply gS;refine gR rfl ?_;refine GoR.box rfl rfl rfl rfl rfl rfl fun h3 x3 f3 => ?_;replace f2 := f2.ext x3;replace e0 := e0.trans x3;replace y0 := y0.ext x3;apply gE;refine gR rfl ?_;refine gO rfl rfl (ld77 rfl f3 rfl) rfl ?_;refine GoR.callP rfl rfl (aCF aFunc78 rfl) (weak_no O c3 (A.ext e0)) (by rintro _ _ ⟨q, _⟩; cases q) ?_;rintro chain h4 ⟨q, x4⟩
  have q := AEnd.pan.inj q
  subst q;replace f2 := f2.ext x4;replace y0 := y0.ext x4;exact FLeft.pan (⟨y0, f2, .inr rfl⟩)
theorem Weak_ok {R : RoadV} {psl esl : AVal} {h : AH} (A : RoadAt h R psl esl) (hb1 : R.ps.length ≤ 40) (hb2 : R.es.length ≤ 40) :
  Runs Tryz.prog 28 [.agg [psl, esl]] h (fun en h' => en = .ret (.tuple [.int .i64 (R.weakR).1, .int .i64 (R.weakR).2]) ∧ Ext h h') := by
 by_cases O : R.Ok
 ·have hB := fun {lo gp ge br h} A => weakB_ok O (lo := lo) (gp := gp) (ge := ge) (br := br) (h := h) A
  obtain ⟨r, hr⟩ : ∃ r, R.weakR = r := ⟨_, rfl⟩
  rw [hr] at hB ⊢
  obtain ⟨r1, c⟩ := r
  have e0 : Ext h h := Ext.refl _
  refine Runs.intro aFunc28 rfl rfl rfl rfl fun rest => ?_;apply gS;refine gR rfl ?_;refine GoR.box rfl rfl rfl rfl rfl rfl fun h0 x0 f0 => ?_;have := e0.1;replace e0 := e0.trans x0;have := f0.1;refine GoR.alloc rfl rfl rfl zt3 rfl rfl fun h1 x1 f1 => ?_;have := e0.1;have := f0.1;replace f0 := f0.ext x1;replace e0 := e0.trans x1;have := f1.1;refine gP ?_;apply gE;apply gS;refine gR rfl ?_;refine gO rfl rfl (ld25 rfl f0 rfl) rfl ?_;refine gP ?_;refine GoR.call rfl rfl (aCF aFunc48 rfl) (attempt_sets O psl esl _ (A.ext e0) 77 _ aFunc77 _ (by simp [sameA, sameAs, eqI_eq]) h0.next (by omega) [.int .i64 r1] 3 c fun h' gp ge e g => hB g (f1.ext e)) ?_ np;rintro v9 h9 ⟨q, y9, f9⟩;cases q;refine ⟨_, rfl, ?_⟩
  have z9 := y9.low e0 (fun b q => by omega)
  clear e0 y9 f1
  have e0 := z9
  refine gP ?_;apply gE;apply gS;refine gR rfl ?_;refine gO rfl rfl (ld3 rfl f9 rfl) rfl ?_;refine gP ?_;refine GoR.store rfl rfl rfl rfl rfl rfl f9 rfl sz3 rfl rfl rfl fun h10 u10 => ?_;replace f9 := u10.has f9;replace e0 := e0.upd u10 (by omega);refine gP ?_;apply gE;exact gV (ret_end (aResult_of Tryz.func28 rfl (aResults_c rfl f9 (inCells_one ag3 rfl) rfl)) ⟨rfl, e0⟩)
 ·have hr : R.weakR = (0, 1) := by unfold RoadV.weakR; rw [if_neg O]
  rw [hr]
  have e0 : Ext h h := Ext.refl _
  refine Runs.intro aFunc28 rfl rfl rfl rfl fun rest => ?_;apply gS;refine gR rfl ?_;refine GoR.box rfl rfl rfl rfl rfl rfl fun h0 x0 f0 => ?_;have := e0.1;replace e0 := e0.trans x0;have := f0.1;refine GoR.alloc rfl rfl rfl zt3 rfl rfl fun h1 x1 f1 => ?_;have := e0.1;have := f0.1;replace f0 := f0.ext x1;replace e0 := e0.trans x1;have := f1.1;refine gP ?_;apply gE;apply gS;refine gR rfl ?_;refine gO rfl rfl (ld25 rfl f0 rfl) rfl ?_;refine gP ?_;refine GoR.call rfl rfl (aCF aFunc48 rfl) (attempt_bad O hb1 hb2 psl esl _ (A.ext e0) 77 _) ?_ np;rintro v2 h2 ⟨q, x2⟩;cases q;refine ⟨_, rfl, ?_⟩;replace f1 := f1.ext x2;replace e0 := e0.trans x2;refine gP ?_;apply gE;apply gS;refine gR rfl ?_;refine gO rfl rfl (ld3 rfl f1 rfl) rfl ?_;refine gP ?_;refine GoR.store rfl rfl rfl rfl rfl rfl f1 rfl sz3 rfl rfl rfl fun h3 u3 => ?_;replace f1 := u3.has f1;replace e0 := e0.upd u3 (by omega);refine gP ?_;apply gE;exact gV (ret_end (aResult_of Tryz.func28 rfl (aResults_c rfl f1 (inCells_one ag3 rfl) rfl)) ⟨rfl, e0⟩)
end Go.Proofs.YtkcimfopboelaaaGreat

namespace Go.Proofs.YtkcimfopboelaaaGreat
open Go Go.AbsE
set_option linter.unusedSimpArgs false
set_option maxRecDepth 100000
set_option maxHeartbeats 0
set_option linter.unusedVariables false
theorem belowB_ok {R : RoadV} (O : R.Ok) {lo : Nat} {gp ge : AVal} {b1 b2 : Nat} {h : AH} (A : GroundAt h R lo gp ge) (f0 : Has h b1 (.cells .plain [.int .i64 0] 3)) (f1 : Has h b2 (.cells .plain [.int .i64 0] 3)) (hb1 : b1 ≠ b2) :
  Runs Tryz.prog 69 [.agg [gp, ge], .ptr b1 0, .ptr b2 0] h (fun en h'' => ExtF (fun b => b = b1 ∨ b = b2) h h'' ∧ Has h'' b1 (.cells .plain [.int .i64 (R.belowR.1.1 : Nat)] 3) ∧ Has h'' b2 (.cells .plain [.int .i64 (R.belowR.1.2 : Nat)] 3) ∧ ((R.belowR.2 = 0 ∧ en = .ret (.tuple [])) ∨ en = .pan (refusal R.belowR.2))) := by
 have y0 : ExtF (fun b => b = b1 ∨ b = b2) h h := ExtF.of (Ext.refl _)
 have l0 := f0.1
 have l2 := f1.1
 unfold RoadV.belowR
 rw [if_pos O]
 cases c3 : R.possible with
 | true =>
  rw [if_pos rfl]
  have e0 : Ext h h := Ext.refl _
  refine Runs.intro aFunc69 rfl rfl rfl rfl fun rest => ?_;apply gS;refine gR rfl ?_;refine GoR.box rfl rfl rfl rfl rfl rfl fun h2 x2 f2 => ?_;have := e0.1;have := f0.1;have := f1.1;replace f0 := f0.ext x2;replace f1 := f1.ext x2;replace e0 := e0.trans x2;replace y0 := y0.ext x2;have := f2.1;apply gE;refine gR rfl ?_;refine gO rfl rfl (ld77 rfl f2 rfl) rfl ?_;refine GoR.call rfl rfl (aCF aFunc70 rfl) (below_ok O c3 (A.ext e0)) ?_ np;rintro v3 h3 ⟨q, x3⟩;cases q;refine ⟨_, rfl, ?_⟩;replace f2 := f2.ext x3;replace f0 := f0.ext x3;replace f1 := f1.ext x3;replace e0 := e0.trans x3;replace y0 := y0.ext x3;iterate 3 refine gP ?_
  refine GoR.store rfl rfl rfl rfl rfl rfl f0 rfl sz3 rfl rfl rfl fun h4 u4 => ?_;replace f2 := f2.upd u4 (by omega);replace f0 := u4.has f0;replace f1 := f1.upd u4 (by omega);clear e0;replace y0 := y0.upd u4 (by omega);refine GoR.store rfl rfl rfl rfl rfl rfl f1 rfl sz3 rfl rfl rfl fun h5 u5 => ?_;replace f2 := f2.upd u5 (by omega);replace f0 := f0.upd u5 (by omega);replace f1 := u5.has f1;replace y0 := y0.upd u5 (by omega);apply gE;exact Go.endL (FLeft.ret (v := .tuple []) (aResult_of Tryz.func69 rfl rfl) ⟨y0, f0, f1, .inl ⟨rfl, rfl⟩⟩)
 | false =>
  rw [if_neg (by simp)]
  have e0 : Ext h h := Ext.refl _
  refine Runs.intro aFunc69 rfl rfl rfl rfl fun rest => ?_;apply gS;refine gR rfl ?_;refine GoR.box rfl rfl rfl rfl rfl rfl fun h2 x2 f2 => ?_;replace f0 := f0.ext x2;replace f1 := f1.ext x2;replace e0 := e0.trans x2;replace y0 := y0.ext x2;apply gE;refine gR rfl ?_;refine gO rfl rfl (ld77 rfl f2 rfl) rfl ?_;refine GoR.callP rfl rfl (aCF aFunc70 rfl) (below_no O c3 (A.ext e0)) (by rintro _ _ ⟨q, _⟩; cases q) ?_;rintro chain h3 ⟨q, x3⟩
  have q := AEnd.pan.inj q
  subst q;replace f0 := f0.ext x3;replace f1 := f1.ext x3;replace y0 := y0.ext x3;exact FLeft.pan (⟨y0, f0, f1, .inr rfl⟩)
theorem Below_ok {R : RoadV} {psl esl : AVal} {h : AH} (A : RoadAt h R psl esl) (hb1 : R.ps.length ≤ 40) (hb2 : R.es.length ≤ 40) :
  Runs Tryz.prog 21 [.agg [psl, esl]] h (fun en h' => en = .ret (.tuple [.int .i64 (R.belowR.1.1 : Nat), .int .i64 (R.belowR.1.2 : Nat), .int .i64 R.belowR.2]) ∧ Ext h h') := by
 by_cases O : R.Ok
 ·have hB := fun {lo gp ge b1 b2 h} A => belowB_ok O (lo := lo) (gp := gp) (ge := ge) (b1 := b1) (b2 := b2) (h := h) A
  obtain ⟨r, hr⟩ : ∃ r, R.belowR = r := ⟨_, rfl⟩
  rw [hr] at hB ⊢
  obtain ⟨⟨r1, r2⟩, c⟩ := r
  dsimp only at hB ⊢
  have e0 : Ext h h := Ext.refl _
  refine Runs.intro aFunc21 rfl rfl rfl rfl fun rest => ?_;apply gS;refine gR rfl ?_;refine GoR.box rfl rfl rfl rfl rfl rfl fun h0 x0 f0 => ?_;have := e0.1;replace e0 := e0.trans x0;have := f0.1;refine GoR.alloc rfl rfl rfl zt3 rfl rfl fun h1 x1 f1 => ?_;have := e0.1;have := f0.1;replace f0 := f0.ext x1;replace e0 := e0.trans x1;have := f1.1;refine GoR.alloc rfl rfl rfl zt3 rfl rfl fun h2 x2 f2 => ?_;have := e0.1;have := f1.1;have := f0.1;replace f1 := f1.ext x2;replace f0 := f0.ext x2;replace e0 := e0.trans x2;have := f2.1;refine gP ?_;apply gE;apply gS;refine gR rfl ?_;refine gO rfl rfl (ld25 rfl f0 rfl) rfl ?_;refine gP ?_;refine GoR.call rfl rfl (aCF aFunc48 rfl) (attempt_ok O psl esl _ (A.ext e0) 69 _ aFunc69 _ (by simp [sameA, sameAs, eqI_eq]) (fun b => b = h0.next ∨ b = h1.next) (fun b q => by rcases q with rfl | rfl <;> omega) (fun c' h' => c' = c ∧ Has h' h0.next (.cells .plain [.int .i64 (r1 : Nat)] 3) ∧ Has h' h1.next (.cells .plain [.int .i64 (r2 : Nat)] 3)) fun h' gp ge e g => (hB g (f1.ext e) (f2.ext e) (by omega)).mono fun en h'' ⟨x, g1, g2, q⟩ => ⟨x, q.elim (fun q => .inl ⟨q.2, q.1.symm, g1, g2⟩) fun q => .inr ⟨c, q, rfl, g1, g2⟩⟩) ?_ (by rintro _ _ ⟨_, _, q, _⟩; cases q);rintro v9 h9 ⟨c', h2', q, ⟨hc, g1, g2⟩, y9, le, same⟩;cases q;subst hc;refine ⟨_, rfl, ?_⟩
  have z9 := y9.low e0 (fun b q => by omega)
  have f9 := g1.keep le (same _ f1.1)
  have f10 := g2.keep le (same _ f2.1)
  clear e0 y9 f1 f2 g1 g2
  have e0 := z9
  refine gP ?_;apply gE;apply gS;refine Go.drawnE plan21_0 ?_;refine gQ rfl rfl (ld3 rfl f9 rfl) rfl ?_;refine gQ rfl rfl (ld3 rfl f10 rfl) rfl ?_;refine gQ rfl rfl rfl rfl ?_;refine GoE.store rfl rfl rfl rfl (dK 1 2 (dK 1 1 (dD 1 0 rfl))) rfl rfl f9 rfl sz3 rfl rfl rfl fun h11 u11 => ?_;replace f9 := u11.has f9;replace f10 := f10.upd u11 (by omega);replace e0 := e0.upd u11 (by omega);refine ⟨(rck (h2 := h11) rfl (rfl) (rck (h2 := h11) rfl (ld3 rfl f10 rfl) recheck_nil)), ?_⟩;refine GoE.store rfl rfl rfl rfl (dK 11 2 (dD 11 1 rfl)) rfl rfl f10 rfl sz3 rfl rfl rfl fun h12 u12 => ?_;replace f9 := f9.upd u12 (by omega);replace f10 := u12.has f10;replace e0 := e0.upd u12 (by omega);refine ⟨(rck (h2 := h12) rfl (rfl) recheck_nil), ?_⟩;refine gQ rfl rfl rfl rfl ?_;refine GoE.end rfl ?_;exact gV (ret_end (aResult_of Tryz.func21 rfl (aResults_c rfl f9 (inCells_one ag3 rfl) (aResults_c rfl f10 (inCells_one ag3 rfl) rfl))) ⟨rfl, e0⟩)
 ·have hr : R.belowR = ((0, 0), 1) := by unfold RoadV.belowR; rw [if_neg O]
  rw [hr]
  have e0 : Ext h h := Ext.refl _
  refine Runs.intro aFunc21 rfl rfl rfl rfl fun rest => ?_;apply gS;refine gR rfl ?_;refine GoR.box rfl rfl rfl rfl rfl rfl fun h0 x0 f0 => ?_;have := e0.1;replace e0 := e0.trans x0;have := f0.1;refine GoR.alloc rfl rfl rfl zt3 rfl rfl fun h1 x1 f1 => ?_;have := e0.1;have := f0.1;replace f0 := f0.ext x1;replace e0 := e0.trans x1;have := f1.1;refine GoR.alloc rfl rfl rfl zt3 rfl rfl fun h2 x2 f2 => ?_;have := e0.1;have := f1.1;have := f0.1;replace f1 := f1.ext x2;replace f0 := f0.ext x2;replace e0 := e0.trans x2;have := f2.1;refine gP ?_;apply gE;apply gS;refine gR rfl ?_;refine gO rfl rfl (ld25 rfl f0 rfl) rfl ?_;refine gP ?_;refine GoR.call rfl rfl (aCF aFunc48 rfl) (attempt_bad O hb1 hb2 psl esl _ (A.ext e0) 69 _) ?_ np;rintro v3 h3 ⟨q, x3⟩;cases q;refine ⟨_, rfl, ?_⟩;replace f2 := f2.ext x3;replace f1 := f1.ext x3;replace e0 := e0.trans x3;refine gP ?_;apply gE;apply gS;refine Go.drawnE plan21_0 ?_;refine gQ rfl rfl (ld3 rfl f1 rfl) rfl ?_;refine gQ rfl rfl (ld3 rfl f2 rfl) rfl ?_;refine gQ rfl rfl rfl rfl ?_;refine GoE.store rfl rfl rfl rfl (dK 1 2 (dK 1 1 (dD 1 0 rfl))) rfl rfl f1 rfl sz3 rfl rfl rfl fun h4 u4 => ?_;replace f2 := f2.upd u4 (by omega);replace f1 := u4.has f1;replace e0 := e0.upd u4 (by omega);refine ⟨(rck (h2 := h4) rfl (rfl) (rck (h2 := h4) rfl (ld3 rfl f2 rfl) recheck_nil)), ?_⟩;refine GoE.store rfl rfl rfl rfl (dK 11 2 (dD 11 1 rfl)) rfl rfl f2 rfl sz3 rfl rfl rfl fun h5 u5 => ?_;replace f2 := u5.has f2;replace f1 := f1.upd u5 (by omega);replace e0 := e0.upd u5 (by omega);refine ⟨(rck (h2 := h5) rfl (rfl) recheck_nil), ?_⟩;refine gQ rfl rfl rfl rfl ?_;refine GoE.end rfl ?_;exact gV (ret_end (aResult_of Tryz.func21 rfl (aResults_c rfl f1 (inCells_one ag3 rfl) (aResults_c rfl f2 (inCells_one ag3 rfl) rfl))) ⟨rfl, e0⟩)
end Go.Proofs.YtkcimfopboelaaaGreat

namespace Go.Proofs.YtkcimfopboelaaaGreat
open Go Go.AbsE
set_option linter.unusedSimpArgs false
set_option maxRecDepth 100000
set_option maxHeartbeats 0
set_option linter.unusedVariables false
theorem evC_scal (e : EV) : scalars [evC e] = true := by
 unfold evC
 split
 ·rfl
 ·split <;> rfl
theorem evs_scal : ∀ L : List EV, scalars (L.map evC) = true
 | [] => rfl
 | x :: L => by
  have h1 := evC_scal x
  have h2 := evs_scal L
  show cond (scalar (evC x)) (scalars (L.map evC)) false = true
  have : scalar (evC x) = true := by
   unfold evC
   split
   ·rfl
   ·split <;> rfl
  rw [this, h2]
  rfl
theorem looks_ok {R : RoadV} (O : R.Ok) {lo : Nat} {gp ge : AVal} {h : AH} (A : GroundAt h R lo gp ge) : Runs Tryz.prog 121 [.agg [gp, ge]] h (fun en h' => en = .ret (.int .i64 (looksV R.es : Nat)) ∧ Ext h h') := by
 have hne := O.ne
 have hE := A.esl
 have hlenE := hE.len
 rw [List.length_map] at hlenE
 obtain ⟨P1, hP0, hP1⟩ : ∃ P : Nat → Bool, looksV R.es = bitsV R.es.length P ∧ ∀ i e, R.es[i]? = some e → P i = lookB e := ⟨_, rfl, fun i e h => by simp only [h]⟩
 rw [hP0]
 have e0 : Ext h h := Ext.refl _
 refine Runs.intro aFunc121 rfl rfl rfl rfl fun rest => ?_;apply gS;refine gR rfl ?_;refine GoR.box rfl rfl rfl rfl rfl rfl fun h0 x0 f0 => ?_;have := e0.1;replace e0 := e0.trans x0;have := f0.1;refine gP ?_;apply gE;apply gS;refine gR rfl ?_;refine gP ?_;apply gE;iterate 2 apply gS
 refine gR rfl ?_;refine gO rfl rfl (fa77_1 rfl) rfl ?_;refine gO rfl rfl (ld75 rfl f0 rfl) rfl ?_;refine gO rfl rfl (aOp_lenSlice Tryz.underlying75 rfl (by assumption)) rfl ?_;refine gP ?_;apply gE;refine Go.block noJ_ok ?_
 have hb0 := f0.1
 refine Go.loopKeep (fun i : Nat => [(1, .ptr h.next 0), (3, .int .i64 (bitsV i P1 : Nat)), (9, ge), (10, .int .i64 R.es.length), (11, .int .i64 (i : Nat))])
  (fun m i h' => m + i = R.es.length ∧ Ext h h') (n := R.es.length) 0 ⟨rfl, rfl, rfl, rfl, rfl, trivial⟩ ⟨rfl, e0⟩ ?_
 clear e0 f0;rintro m i hc ⟨hm, e0⟩ again
 have n0 := e0.1
 by_cases hi : i < R.es.length
 ·obtain ⟨e, he⟩ : ∃ e, R.es[i]? = some e := ⟨R.es[i], by simp [hi]⟩
  have heO := O.e e (List.mem_of_getElem? he)
  obtain ⟨bq, off, q1, q2⟩ := hE.at (i := i) (l := [evC e]) (by rw [List.getElem?_map, he]; rfl)
  rw [List.length_map] at q1
  have hi10 : i < 10 := by omega
  have hps := pow_small hi10
  have b1 := bitsV_lt P1 i
  have s1 := bitsV_succ i P1
  have c1 : P1 i = lookB e := hP1 i e he
  obtain ⟨B1, hB1⟩ : ∃ B, bitsV i P1 = B := ⟨_, rfl⟩
  obtain ⟨w, hw⟩ : ∃ w, 2 ^ i = w := ⟨_, rfl⟩
  have hsh : (1 : Int) * 2 ^ i = ((w : Nat) : Int) := by rw [← hw]; simp
  rw [hB1] at b1 s1;rw [hw] at b1 s1 hps;rw [hB1]
  by_cases k2 : e.kind = 2
  ·have hv : evC e = .iface 166 (.agg [.int .i64 0, .int .i64 e.part, .int .i64 e.wl, .int .i64 e.wh]) := by unfold evC; rw [if_neg (by omega), if_neg (by omega)]
   rw [hv] at q2;rw [show lookB e = true from decide_eq_true k2] at c1;rw [c1, if_pos rfl] at s1;apply gS;refine gR rfl ?_;refine gO rfl rfl (kLT rfl rfl) rfl ?_;apply gE;apply gS;refine gC (b := true) rfl ?_;refine gD ?_;apply gS;refine Go.block noJ_ok ?_;apply gS;refine gR rfl ?_;refine gP ?_;refine gO rfl rfl (aOp_indexAddr (i := i) Tryz.underlying75 sz169 rfl (by assumption) rfl (Nat.ble_eq_true_of_le (by omega))) rfl ?_;refine gO rfl rfl ((aOp_loadE1 (k := 0) ag169 rfl (q2.ext (by assumption)) rfl)) rfl ?_;iterate 2 refine gP ?_
   apply gE;apply gS;refine gR rfl ?_;iterate 5 refine gP ?_
   refine GoR.alloc rfl rfl rfl zt166 rfl rfl fun h1 x1 f1 => ?_;have := e0.1;replace e0 := e0.trans x1;have := f1.1;refine GoR.store rfl rfl rfl rfl rfl rfl f1 rfl sz166 rfl rfl rfl fun h2 u2 => ?_;replace e0 := e0.upd u2 (by omega);refine gP ?_;apply gE;apply gS;refine gR rfl ?_;refine gP ?_;apply gE;refine gC (b := true) rfl ?_;refine gR rfl ?_;iterate 2 refine gP ?_
   refine gO rfl rfl (aOp_shl rfl rfl (i := i) (by omega) hsh (by omega)) rfl ?_;refine gO rfl rfl (aOp_orNat rfl rfl (by omega) (by omega) rfl) rfl ?_;refine gP ?_;apply gE;refine Go.inBlock noJ_ok ?_;refine gR rfl ?_;refine gO rfl rfl (aA rfl rfl) rfl ?_;refine gP ?_;apply gE;exact again (m - 1) (i + 1) _ _ (by omega) ⟨rfl, by rw [s1]; rfl, rfl, rfl, rfl, trivial⟩ ⟨by omega, e0⟩
  ·rw [show lookB e = false from decide_eq_false k2] at c1;rw [c1, if_neg (by simp)] at s1
   by_cases k0 : e.kind = 0
   ·have hv : evC e = .iface 162 (.agg [.int .i64 e.ll, .int .i64 e.lh]) := if_pos k0
    rw [hv] at q2;apply gS;refine gR rfl ?_;refine gO rfl rfl (kLT rfl rfl) rfl ?_;apply gE;apply gS;refine gC (b := true) rfl ?_;refine gD ?_;apply gS;refine Go.block noJ_ok ?_;apply gS;refine gR rfl ?_;refine gP ?_;refine gO rfl rfl (aOp_indexAddr (i := i) Tryz.underlying75 sz169 rfl (by assumption) rfl (Nat.ble_eq_true_of_le (by omega))) rfl ?_;refine gO rfl rfl ((aOp_loadE1 (k := 0) ag169 rfl (q2.ext (by assumption)) rfl)) rfl ?_;iterate 2 refine gP ?_
    apply gE;apply gS;refine gR rfl ?_;iterate 5 refine gP ?_
    refine GoR.alloc rfl rfl rfl zt166 rfl rfl fun h1 x1 f1 => ?_;have := e0.1;replace e0 := e0.trans x1;have := f1.1;refine GoR.store rfl rfl rfl rfl rfl rfl f1 rfl sz166 rfl rfl rfl fun h2 u2 => ?_;replace e0 := e0.upd u2 (by omega);refine gP ?_;apply gE;apply gS;refine gR rfl ?_;refine gP ?_;apply gE;refine gC (b := false) rfl ?_;refine gD ?_;refine Go.inBlock noJ_ok ?_;refine gR rfl ?_;refine gO rfl rfl (aA rfl rfl) rfl ?_;refine gP ?_;apply gE;exact again (m - 1) (i + 1) _ _ (by omega) ⟨rfl, by rw [s1]; rfl, rfl, rfl, rfl, trivial⟩ ⟨by omega, e0⟩
   ·have k1 : e.kind = 1 := by rcases heO with q | q | q <;> omega
    have hv : evC e = .iface 164 (.agg [.int .i64 e.days]) := by unfold evC; rw [if_neg k0, if_pos k1]
    rw [hv] at q2;apply gS;refine gR rfl ?_;refine gO rfl rfl (kLT rfl rfl) rfl ?_;apply gE;apply gS;refine gC (b := true) rfl ?_;refine gD ?_;apply gS;refine Go.block noJ_ok ?_;apply gS;refine gR rfl ?_;refine gP ?_;refine gO rfl rfl (aOp_indexAddr (i := i) Tryz.underlying75 sz169 rfl (by assumption) rfl (Nat.ble_eq_true_of_le (by omega))) rfl ?_;refine gO rfl rfl ((aOp_loadE1 (k := 0) ag169 rfl (q2.ext (by assumption)) rfl)) rfl ?_;iterate 2 refine gP ?_
    apply gE;apply gS;refine gR rfl ?_;iterate 5 refine gP ?_
    refine GoR.alloc rfl rfl rfl zt166 rfl rfl fun h1 x1 f1 => ?_;have := e0.1;replace e0 := e0.trans x1;have := f1.1;refine GoR.store rfl rfl rfl rfl rfl rfl f1 rfl sz166 rfl rfl rfl fun h2 u2 => ?_;replace e0 := e0.upd u2 (by omega);refine gP ?_;apply gE;apply gS;refine gR rfl ?_;refine gP ?_;apply gE;refine gC (b := false) rfl ?_;refine gD ?_;refine Go.inBlock noJ_ok ?_;refine gR rfl ?_;refine gO rfl rfl (aA rfl rfl) rfl ?_;refine gP ?_;apply gE;exact again (m - 1) (i + 1) _ _ (by omega) ⟨rfl, by rw [s1]; rfl, rfl, rfl, rfl, trivial⟩ ⟨by omega, e0⟩
 ·have hin : i = R.es.length := by omega
  rw [hin];apply gS;refine gR rfl ?_;refine gO rfl rfl (kLF rfl rfl) rfl ?_;apply gE;apply gS;refine gC (b := false) rfl ?_;refine gD ?_;apply gS;refine gR rfl ?_;iterate 2 refine gP ?_
  apply gE;exact gW Tryz.func121 rfl rfl ⟨rfl, e0⟩
theorem ap_take {α : Type} (L Z : List α) {i : Nat} (hi : i ≤ L.length) : (L ++ Z).take i = L.take i := List.take_append_of_le_length hi
theorem ap_drop {α : Type} (L Z : List α) {i : Nat} (hi : i ≤ L.length) : (L ++ Z).drop i = L.drop i ++ Z := List.drop_append_of_le_length hi
theorem vl_src {h : AH} {b n off len cap : Nat} {g : Kd} {el : TypeId} (L Z : List AVal) (f : Has h b (.cells g (L ++ Z) el)) {i : Nat} (hi : i + n ≤ L.length) (ho : off = i * 1) : srcCells h 1 n (.slice b off len cap) = some ((L.drop i).take n) := by
 subst ho
 show AbsE.loadCells h b (i * 1) (n * 1) = _
 unfold AbsE.loadCells
 rw [f.2]
 show slice? (L ++ Z) (i * 1) (n * 1) = _
 rw [Nat.mul_one, Nat.mul_one]
 unfold slice?
 rw [ap_drop L Z (by omega), ap_take _ _ (by rw [List.length_drop]; omega)]
 have : ((L.drop i).take n).length = n := by rw [List.length_take, List.length_drop]; omega
 dsimp only
 rw [this]
 simp
theorem vl_move (L Z : List AVal) {i : Nat} (hi : i < L.length) : ∃ Z', splice (L ++ Z) (i * 1) (L.drop (i + 1)) = some (L.eraseIdx i ++ Z') ∧ Z'.length = Z.length + 1 := by
 refine ⟨(L ++ Z).drop (i * 1 + (L.drop (i + 1)).length), ?_, ?_⟩
 ·rw [splice_eq (by rw [List.length_append, List.length_drop]; omega), Nat.mul_one, ap_take L Z (by omega), List.eraseIdx_eq_take_drop_succ]
 ·rw [List.length_drop, List.length_append, List.length_drop]
  omega
theorem vl_put (L Z : List AVal) {m : Nat} (hL : L.length = m) {new : List AVal} (hn : new.length ≤ Z.length) : splice (L ++ Z) (m * 1) new = some (L ++ (new ++ Z.drop new.length)) := by
 subst hL;rw [splice_eq (by rw [List.length_append]; omega), Nat.mul_one, ap_take L Z (Nat.le_refl _), List.take_length, List.append_assoc, List.drop_append, List.drop_eq_nil_of_le (by omega), List.nil_append]
 congr 4
 omega
theorem delete149_ok {b n N i : Nat} (L Z : List AVal) (hsc : scalars L = true) (hscd : ∀ k, scalars (L.drop k) = true) (hL : L.length = n) (hi : i < n) (hN : n ≤ N) (hN5 : N ≤ 100) (hZ : Z.length = (N - n) * 1) (h : AH) (f : Has h b (.cells .plain (L ++ Z) 169)) :
  Runs Tryz.prog 149 [.slice b 0 n N, .int .i64 (i : Nat), .int .i64 ((i : Nat) + 1)] h (fun en h' => en = .ret (.slice b 0 (n - 1) N) ∧ ExtF (fun c => c = b) h h' ∧ ∃ Z', Z'.length = (N - (n - 1)) * 1 ∧ Has h' b (.cells .plain (L.eraseIdx i ++ Z') 169)) := by
 have y0 : ExtF (fun c => c = b) h h := ExtF.of (Ext.refl _)
 have hfb := f.1
 obtain ⟨Z1, m1, m2⟩ := vl_move L Z (i := i) (by omega)
 by_cases hlast : i + 1 ≠ N
 ·have e0 : Ext h h := Ext.refl _
  refine Runs.intro aFunc149 rfl rfl rfl rfl fun rest => ?_;apply gS;refine gR rfl ?_;refine gP ?_;apply gE;apply gS;refine gR rfl ?_;iterate 4 refine gP ?_
  refine gO rfl rfl (aOp_lenSlice Tryz.underlying75 rfl (n := n) rfl) rfl ?_;refine gO rfl rfl (aOp_slice3 (l := i) (hh := i + 1) (m := n) Tryz.underlying75 sz169 rfl rfl rfl rfl (by omega) (by omega) (by omega) (by omega)) rfl ?_;apply gE;iterate 2 apply gS
  refine gR rfl ?_;iterate 2 refine gP ?_
  refine gO rfl rfl (kEF rfl rfl) rfl ?_;apply gE;refine gC (b := false) rfl ?_;refine gD ?_;apply gS;refine gR rfl ?_;refine gP ?_;refine gO rfl rfl (aOp_lenSlice Tryz.underlying75 rfl (n := n) rfl) rfl ?_;refine gP ?_;apply gE;apply gS;refine Go.drawnE plan149_0 ?_;iterate 2 refine gQ rfl rfl rfl rfl ?_
  refine gQ rfl rfl (aOp_slice Tryz.underlying75 sz169 rfl rfl rfl (cut_hi (i := i) (by omega)) hN (by omega)) rfl ?_;iterate 2 refine gQ rfl rfl rfl rfl ?_
  refine gQ rfl rfl (aOp_slice Tryz.underlying75 sz169 rfl rfl rfl (cut_lo (i := i + 1) (by omega)) hN hlast) rfl ?_;refine GoE.appendIn rfl rfl Tryz.underlying75 Tryz.underlying75 sz169 by169 zt169 rfl rfl rfl rfl (n := n - (i + 1)) (m := n - 1) (new := L.drop (i + 1)) rfl (by rw [vl_src L Z f (i := i + 1) (n := n - (i + 1)) (by omega) (by omega), List.take_of_length_le (by rw [List.length_drop]; omega)]) (by omega) (by omega) (by omega) f rfl (hscd _) (by rw [Nat.zero_add, Nat.sub_zero]; exact m1) (dD 63 5 (dD 63 4 (dD 63 3 (dD 63 2 (dD 63 1 (dD 63 0 rfl)))))) rfl rfl fun h1 u1 => ?_;refine ⟨recheck_nil, ?_⟩;replace f := u1.has f;replace y0 := y0.upd u1 (.inl rfl);refine gQ rfl rfl rfl rfl ?_;refine GoE.end rfl ?_;apply gS;refine gR rfl ?_;iterate 2 refine gP ?_
  refine gO rfl rfl (aOp_lenSlice Tryz.underlying75 rfl (n := n - 1) rfl) rfl ?_;refine gP ?_;refine gO rfl rfl (aOp_slice Tryz.underlying75 sz169 rfl rfl rfl (cut_both (l := n - 1) (hh := n) (by omega) (by omega)) (by omega) (by omega)) rfl ?_;refine GoR.clear rfl rfl Tryz.underlying75 zt169 rfl (by omega) f rfl (by rw [show n - (n - 1) = 1 by omega]; rfl) (by rw [Nat.zero_add, show n - (n - 1) = 1 by omega]; exact vl_put _ _ (by rw [List.length_eraseIdx_of_lt (by omega)]; omega) (new := [AVal.nilIface]) (by rw [m2]; show 1 ≤ _; omega)) fun h2 u2 => ?_;replace f := u2.has f;replace y0 := y0.upd u2 (.inl rfl);apply gE;apply gS;refine gR rfl ?_;iterate 2 refine gP ?_
  apply gE;exact gV (ret_end (aResult_of Tryz.func149 rfl rfl) ⟨rfl, y0, _, (by rw [List.length_append, List.length_drop, m2, hZ]; show 1 + (_ - 1) = _; omega), f⟩)
 ·have hlast : i + 1 = N := by omega
  subst hlast
  have e0 : Ext h h := Ext.refl _
  refine Runs.intro aFunc149 rfl rfl rfl rfl fun rest => ?_;apply gS;refine gR rfl ?_;refine gP ?_;apply gE;apply gS;refine gR rfl ?_;iterate 4 refine gP ?_
  refine gO rfl rfl (aOp_lenSlice Tryz.underlying75 rfl (n := n) rfl) rfl ?_;refine gO rfl rfl (aOp_slice3 (l := i) (hh := i + 1) (m := n) Tryz.underlying75 sz169 rfl rfl rfl rfl (by omega) (by omega) (by omega) (by omega)) rfl ?_;apply gE;iterate 2 apply gS
  refine gR rfl ?_;iterate 2 refine gP ?_
  refine gO rfl rfl (kEF rfl rfl) rfl ?_;apply gE;refine gC (b := false) rfl ?_;refine gD ?_;apply gS;refine gR rfl ?_;refine gP ?_;refine gO rfl rfl (aOp_lenSlice Tryz.underlying75 rfl (n := n) rfl) rfl ?_;refine gP ?_;apply gE;apply gS;refine Go.drawnE plan149_0 ?_;iterate 2 refine gQ rfl rfl rfl rfl ?_
  refine gQ rfl rfl (aOp_slice Tryz.underlying75 sz169 rfl rfl rfl (cut_hi (i := i) (by omega)) hN (by omega)) rfl ?_;iterate 2 refine gQ rfl rfl rfl rfl ?_
  refine gQ rfl rfl (aOp_sliceAll Tryz.underlying75 sz169 rfl rfl rfl (cut_lo (i := i + 1) (by omega)) hN) rfl ?_;refine GoE.appendIn rfl rfl Tryz.underlying75 Tryz.underlying75 sz169 by169 zt169 rfl rfl rfl rfl (n := n - (i + 1)) (m := n - 1) (new := L.drop (i + 1)) rfl (by rw [vl_src L Z f (i := 0) (n := n - (i + 1)) (by omega) (by omega), show n - (i + 1) = 0 by omega, List.take_zero, List.drop_eq_nil_of_le (by omega)]) (by omega) (by omega) (by omega) f rfl (hscd _) (by rw [Nat.zero_add, Nat.sub_zero]; exact m1) (dD 63 5 (dD 63 4 (dD 63 3 (dD 63 2 (dD 63 1 (dD 63 0 rfl)))))) rfl rfl fun h1 u1 => ?_;refine ⟨recheck_nil, ?_⟩;replace f := u1.has f;replace y0 := y0.upd u1 (.inl rfl);refine gQ rfl rfl rfl rfl ?_;refine GoE.end rfl ?_;apply gS;refine gR rfl ?_;iterate 2 refine gP ?_
  refine gO rfl rfl (aOp_lenSlice Tryz.underlying75 rfl (n := n - 1) rfl) rfl ?_;refine gP ?_;refine gO rfl rfl (aOp_slice Tryz.underlying75 sz169 rfl rfl rfl (cut_both (l := n - 1) (hh := n) (by omega) (by omega)) (by omega) (by omega)) rfl ?_;refine GoR.clear rfl rfl Tryz.underlying75 zt169 rfl (by omega) f rfl (by rw [show n - (n - 1) = 1 by omega]; rfl) (by rw [Nat.zero_add, show n - (n - 1) = 1 by omega]; exact vl_put _ _ (by rw [List.length_eraseIdx_of_lt (by omega)]; omega) (new := [AVal.nilIface]) (by rw [m2]; show 1 ≤ _; omega)) fun h2 u2 => ?_;replace f := u2.has f;replace y0 := y0.upd u2 (.inl rfl);apply gE;apply gS;refine gR rfl ?_;iterate 2 refine gP ?_
  apply gE;exact gV (ret_end (aResult_of Tryz.func149 rfl rfl) ⟨rfl, y0, _, (by rw [List.length_append, List.length_drop, m2, hZ]; show 1 + (_ - 1) = _; omega), f⟩)
def wo (out : Nat) : Nat → List EV → List EV
 | _, [] => []
 | k, x :: L => if out.testBit k then wo out (k + 1) L else x :: wo out (k + 1) L
theorem wo_mem {out : Nat} : ∀ {k : Nat} {L : List EV} {x : EV}, x ∈ wo out k L → x ∈ L
 | _, [], _, h => h
 | k, y :: L, x, h => by
  unfold wo at h
  split at h
  ·exact List.mem_cons_of_mem _ (wo_mem h)
  ·rcases List.mem_cons.1 h with rfl | h
   ·exact List.mem_cons_self
   ·exact List.mem_cons_of_mem _ (wo_mem h)
theorem wo_sub {out : Nat} : ∀ {k : Nat} {L : List EV}, (wo out k L).Sublist L
 | _, [] => List.Sublist.refl _
 | k, y :: L => by
  unfold wo
  split
  ·exact (wo_sub).cons _
  ·exact (wo_sub).cons_cons _
theorem wo_len {out : Nat} {k : Nat} {L : List EV} : (wo out k L).length ≤ L.length := wo_sub.length_le
theorem wo_is {out : Nat} : ∀ {k : Nat} {L : List EV}, (L.zipIdx k).filterMap (fun x => if out.testBit x.2 then none else some x.1) = wo out k L
 | _, [] => rfl
 | k, y :: L => by
  rw [List.zipIdx_cons, List.filterMap_cons, wo_is]
  conv => rhs; unfold wo
  cases out.testBit k <;> rfl
theorem without_is (L : List EV) (out : Nat) : withoutV L out = wo out 0 L := wo_is
def woAt (out : Nat) (L : List EV) (r : Nat) : List EV := L.take r ++ wo out r (L.drop r)
theorem woAt_len (out : Nat) (L : List EV) {r : Nat} (hr : r ≤ L.length) : r ≤ (woAt out L r).length ∧ (woAt out L r).length ≤ L.length := by
 have := wo_len (out := out) (k := r) (L := L.drop r)
 rw [List.length_drop] at this
 unfold woAt
 rw [List.length_append, List.length_take, Nat.min_eq_left hr]
 omega
theorem woAt_succ (out : Nat) (L : List EV) {i : Nat} (hi : i < L.length) : woAt out L i = if out.testBit i then (woAt out L (i + 1)).eraseIdx i else woAt out L (i + 1) := by
 have hd : L.drop i = L[i] :: L.drop (i + 1) := List.drop_eq_getElem_cons hi
 have ht : L.take (i + 1) = L.take i ++ [L[i]] := by rw [List.take_add_one]; simp [hi]
 have hl : (L.take i).length = i := by rw [List.length_take]; omega
 unfold woAt
 rw [hd, ht]
 cases h : out.testBit i with
 | true =>
  rw [if_pos rfl]
  conv => lhs; unfold wo
  rw [h, if_pos rfl, List.append_assoc, List.eraseIdx_append_of_length_le (by omega), hl, Nat.sub_self]
  rfl
 | false =>
  rw [if_neg (by decide)]
  conv => lhs; unfold wo
  rw [h, if_neg (by decide), List.append_assoc]
  rfl
theorem bit_div (out i : Nat) : decide (((out : Int).fdiv (2 ^ i)) % 2 = 1) = out.testBit i := by
 rw [show (out : Int).fdiv (2 ^ i) = ((out / 2 ^ i : Nat) : Int) by rw [Int.fdiv_eq_ediv_of_nonneg _ (Int.le_of_lt (Int.pow_pos (by omega)))]; simp];rw [Nat.testBit_eq_decide_div_mod_eq];exact decide_eq_decide.2 (by omega)
end Go.Proofs.YtkcimfopboelaaaGreat

set_option linter.unusedSimpArgs false
namespace Go.AbsE
open Go
section
variable {P : Program} {t : Tr AVal} {h : AH} {dst : Option Tmp} {ty tt : TypeId} {pos : String} {after : Array Edge} {guard : Option (Nat × Bool)} {x y : Operand}
theorem u64_small {n : Nat} (hn : n < 18446744073709551616) : IntKind.u64.wrap (n : Nat) = n := by
 have h1 : IntKind.u64.wrap (n : Nat) = (n : Int) % 18446744073709551616 := by rfl
 rw [h1]
 omega
theorem aOp_binU {op : BinOp} {ty2 : TypeId} {a b : Int} {k : IntKind} {r : AVal} (hx : ev t x = some (.int .u64 a)) (hy : ev t y = some (.int k b)) (hv : (match pureRun P (binOp op ty (.int .u64 a) (.int k b)) with | some v => absV v | none => none) = some r) :
  aOp P t h ⟨dst, .binOp op ty x y ty2, tt, pos, after, guard⟩ = some (.val r h) := by
 show opBin P t h op ty x y = _
 unfold opBin
 rw [hx, hy]
 dsimp only
 rw [show aBinOp P op ty (isConstO x || isConstO y) (.int .u64 a) (.int k b) = some r from hv]
 rfl
theorem aOp_andU {ty2 : TypeId} {a b r : Nat} (hx : ev t x = some (.int .u64 (a : Nat))) (hy : ev t y = some (.int .u64 (b : Nat))) (ha : a < 18446744073709551616) (hb : b < 18446744073709551616) (hr : a &&& b = r) :
  aOp P t h ⟨dst, .binOp .and ty x y ty2, tt, pos, after, guard⟩ = some (.val (.int .u64 (r : Nat)) h) := by
 refine aOp_binU hx hy ?_
 have : pureRun P (binOp .and ty (.int .u64 (a : Nat)) (.int .u64 (b : Nat))) = some (.int .u64 (r : Nat)) := by
  show pureRun P (if IntKind.u64 ≠ IntKind.u64 then stuck "BinOp: operands of different kinds" else Op.intBits .and .u64 (a : Nat) (b : Nat)) = _
  rw [if_neg (fun h => h rfl)]
  show some (Value.int .u64 (IntKind.u64.wrap ((BitVec.ofInt 64 (a : Nat) &&& BitVec.ofInt 64 (b : Nat)).toNat : Int))) = _
  have h1 : (BitVec.ofInt 64 (a : Nat) &&& BitVec.ofInt 64 (b : Nat)).toNat = r := by
   rw [BitVec.ofInt_natCast, BitVec.ofInt_natCast, BitVec.toNat_and, BitVec.toNat_ofNat, BitVec.toNat_ofNat, Nat.mod_eq_of_lt (by omega), Nat.mod_eq_of_lt (by omega)]
   exact hr
  have h2 : r ≤ a := by rw [← hr]; exact Nat.and_le_left
  rw [h1, u64_small (by omega)]
 rw [this]
 rfl
theorem aOp_addU {ty2 : TypeId} {a b r : Nat} (hx : ev t x = some (.int .u64 (a : Nat))) (hy : ev t y = some (.int .u64 (b : Nat))) (hb : a + b < 18446744073709551616) (hr : a + b = r) :
  aOp P t h ⟨dst, .binOp .add ty x y ty2, tt, pos, after, guard⟩ = some (.val (.int .u64 (r : Nat)) h) := by
 refine aOp_binU hx hy ?_
 have : pureRun P (binOp .add ty (.int .u64 (a : Nat)) (.int .u64 (b : Nat))) = some (.int .u64 (r : Nat)) := by
  show some (Value.int .u64 (IntKind.u64.wrap ((a : Int) + (b : Int)))) = _
  have : (a : Int) + (b : Int) = ((a + b : Nat) : Int) := by omega
  rw [this, u64_small hb, hr]
 rw [this]
 rfl
theorem aOp_shrU {ty2 : TypeId} {a r i : Nat} (hx : ev t x = some (.int .u64 (a : Nat))) (hy : ev t y = some (.int .u64 (i : Nat))) (hi : i ≤ 64) (hr : a / 2 ^ i = r) : aOp P t h ⟨dst, .binOp .shr ty x y ty2, tt, pos, after, guard⟩ = some (.val (.int .u64 (r : Nat)) h) := by
 refine aOp_binU hx hy ?_
 have : pureRun P (binOp .shr ty (.int .u64 (a : Nat)) (.int .u64 (i : Nat))) = some (.int .u64 (r : Nat)) := by
  show pureRun P (Op.shift .shr .u64 (a : Nat) .u64 (i : Nat)) = _
  unfold Op.shift
  rw [if_neg (by omega)]
  have : min ((i : Int)).toNat IntKind.u64.bits = i := by
   show min ((i : Int)).toNat 64 = i
   omega
  rw [this]
  show some (Value.int .u64 ((a : Int).fdiv (2 ^ i))) = _
  rw [show (a : Int).fdiv (2 ^ i) = ((a / 2 ^ i : Nat) : Int) by rw [Int.fdiv_eq_ediv_of_nonneg _ (Int.le_of_lt (Int.pow_pos (by omega)))]; simp, hr]
 rw [this]
 rfl
theorem aOp_convUI {src dt : TypeId} {sd : TypeDesc} {w : Nat} (hx : ev t x = some (.int .u64 (w : Nat))) (hs : P.underlying src = some sd) (hu : P.underlying dt = some (.int .i64)) (hw : w < 9223372036854775808) : aOp P t h ⟨dst, .convert src dt x, tt, pos, after, guard⟩ = some (.val (.int .i64 (w : Nat)) h) := by
 show opConvert P t h src dt x = _
 unfold opConvert
 rw [hx]
 have : pureRun P (convert src dt (.int .u64 (w : Nat))) = some (.int .i64 (w : Nat)) := by
  unfold convert
  rw [pureRun_bind, pr_underlying hs]
  simp only [Option.bind_some, pureRun_bind, pr_underlying hu]
  have := i64_small hw
  cases sd <;> (show pureRun P (Conv.intToInt .i64 (w : Nat)) = _; unfold Conv.intToInt; rw [this]; rfl)
 simp only [this]
 rfl
end
end Go.AbsE
