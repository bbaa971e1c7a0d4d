import Derived.Test.YtkhiagdmbajimaaMAR
import Derived.Test.YtkhiagdmbajimaaMAG
import Derived.Deep.Slices
import Derived.Lib.SmallJoins
import Derived.Carry
import Derived.Test.YtkhiagdmbajimaaMAK
import Derived.Test.YtkhiagdmbajimaaMAP
import Derived.Laws.IdiomArrays
import Derived.Test.YtkhiagdmbajimaaRows
import Derived.WalkKit
import Derived.ProofKit
import Derived.OpenShut
namespace Go.Proofs.Ytkhiagdmbajimaa
open Go Go.AbsE
set_option linter.unusedSimpArgs false
set_option maxRecDepth 100000
set_option maxHeartbeats 0
set_option linter.unusedVariables false
theorem law5_far {D : DrainV} {b d r s : AVal} {h : AH} (A : DrainAt h D b d r s) (L : DrainL D) (B : ¬ DrainB D) {w1 w2 : Int} : Runs Try.prog 5 [.agg (dC b d r s), .int .u8 w1, .int .u8 w2] h (fun en h' => en = .ret (.bool true) ∧ Ext h h') := by
 have hF := fun {h'} (e : Ext h h') => far_ok (A.ext e) L
 rw [decide_eq_true B] at hF
 have hsm := A.same
 unfold dC at *
 have e0 : Ext h h := Ext.refl _
 refine Runs.intro aFunc5 rfl rfl rfl rfl fun rest => ?_;apply gS;refine gR rfl ?_;refine GoR.box rfl rfl rfl rfl rfl rfl fun h0 x0 f0 => ?_;replace e0 := e0.trans x0;refine gP ?_;apply gE;iterate 2 apply gS
 refine gR rfl ?_;refine gO rfl rfl (ld29 rfl f0 rfl) rfl ?_;refine GoR.call rfl rfl (aCF aFunc22 rfl) (hF e0) ?_ np;rintro v1 h1 ⟨q, x1⟩;cases q;refine ⟨_, rfl, ?_⟩;replace e0 := e0.trans x1;apply gE;refine gC (b := true) rfl ?_;apply gS;refine gR rfl ?_;refine GoR.call rfl rfl (aCF aFunc20 rfl) (awake_ok) ?_ np;rintro v2 h2 ⟨q, x2⟩;cases q;refine ⟨_, rfl, ?_⟩;replace e0 := e0.trans x2;refine gP ?_;apply gE;exact gW Try.func5 rfl rfl ⟨rfl, e0⟩
theorem law5_bad {D : DrainV} {b d r s : AVal} {h : AH} (A : DrainAt h D b d r s) (B : DrainB D) (O : ¬ D.Ok) {w1 w2 : Int} : Runs Try.prog 5 [.agg (dC b d r s), .int .u8 w1, .int .u8 w2] h (fun en h' => en = .ret (.bool true) ∧ Ext h h') := by
 have hF := fun {h'} (e : Ext h h') => far_ok (A.ext e) B.L
 rw [decide_eq_false (fun w => w B)] at hF
 have hR := fun {h'} (e : Ext h h') => Drain23_ok (A.ext e) B
 rw [decide_eq_false O] at hR
 have hN := fun {h'} (e : Ext h h') => Next_ok (A.ext e) B 0
 rw [show D.nextR 0 = (0, 1) from DrainV.ok_no O] at hN
 have hS := fun {h'} (e : Ext h h') => Stop_ok (A.ext e) B
 rw [show D.stopR = (zSp, 1) from DrainV.ok_no O] at hS
 unfold zSp at hS
 dsimp only at hN hS
 have hsm := A.same
 unfold dC at *
 have e0 : Ext h h := Ext.refl _
 refine Runs.intro aFunc5 rfl rfl rfl rfl fun rest => ?_;apply gS;refine gR rfl ?_;refine GoR.box rfl rfl rfl rfl rfl rfl fun h0 x0 f0 => ?_;replace e0 := e0.trans x0;refine gP ?_;apply gE;iterate 2 apply gS
 refine gR rfl ?_;refine gO rfl rfl (ld29 rfl f0 rfl) rfl ?_;refine GoR.call rfl rfl (aCF aFunc22 rfl) (hF e0) ?_ np;rintro v1 h1 ⟨q, x1⟩;cases q;refine ⟨_, rfl, ?_⟩;replace f0 := f0.ext x1;replace e0 := e0.trans x1;apply gE;refine gC (b := false) rfl ?_;refine gD ?_;iterate 2 apply gS
 refine gR rfl ?_;refine gO rfl rfl (ld29 rfl f0 rfl) rfl ?_;refine GoR.call rfl rfl (aCF aFunc23 rfl) (hR e0) ?_ np;rintro v2 h2 ⟨q, x2⟩;cases q;refine ⟨_, rfl, ?_⟩;replace f0 := f0.ext x2;replace e0 := e0.trans x2;refine gP ?_;apply gE;refine gC (b := true) rfl ?_;apply gS;refine gR rfl ?_;refine gO rfl rfl (ld29 rfl f0 rfl) rfl ?_;refine GoR.call rfl rfl (aCF aFunc10 rfl) (hN e0) ?_ np;rintro v3 h3 ⟨q, x3⟩;cases q;refine ⟨_, rfl, ?_⟩;replace f0 := f0.ext x3;replace e0 := e0.trans x3;iterate 5 refine gP ?_
 apply gE;apply gS;refine gR rfl ?_;refine gO rfl rfl (ld29 rfl f0 rfl) rfl ?_;refine GoR.call rfl rfl (aCF aFunc18 rfl) (hS e0) ?_ np;rintro v4 h4 ⟨q, x4⟩;cases q;refine ⟨_, rfl, ?_⟩;replace e0 := e0.trans x4;iterate 7 refine gP ?_
 apply gE;apply gS;refine gR rfl ?_;refine gP ?_;refine gO rfl rfl (kET rfl rfl) rfl ?_;iterate 3 refine gP ?_
 refine gO rfl rfl (kET rfl rfl) rfl ?_;iterate 3 refine gP ?_
 refine gO rfl rfl (kET rfl rfl) rfl ?_;iterate 2 refine gP ?_
 refine GoR.call rfl rfl (aCF aFunc20 rfl) (awake_ok) ?_ np;rintro v5 h5 ⟨q, x5⟩;cases q;refine ⟨_, rfl, ?_⟩;replace e0 := e0.trans x5;iterate 2 refine gP ?_
 apply gE;exact gW Try.func5 rfl rfl ⟨rfl, e0⟩
theorem law5_ok {D : DrainV} {b d r s : AVal} {h : AH} (A : DrainAt h D b d r s) (O : D.Ok) {w1 w2 : Nat} (hw : w1 < 256) (hw2 : w2 < 256) : Runs Try.prog 5 [.agg (dC b d r s), .int .u8 (w1 : Nat), .int .u8 (w2 : Nat)] h (fun en h' => en = .ret (.bool true) ∧ Ext h h') := by
 have hnb := O.nb
 have hnd := O.nd
 have B := O.B
 have hF := fun {h'} (e : Ext h h') => far_ok (A.ext e) O.B.L
 rw [decide_eq_false (fun w => w O.B)] at hF
 have hR := fun {h'} (e : Ext h h') => Drain23_ok (A.ext e) O.B
 rw [decide_eq_true O] at hR
 have hl1 := A.bs.len
 rw [List.length_map] at hl1
 obtain ⟨x1, hx1⟩ : ∃ x1, w1 % D.bs.length = x1 := ⟨_, rfl⟩
 obtain ⟨x2, hx2⟩ : ∃ x2, w2 % D.bs.length = x2 := ⟨_, rfl⟩
 have hx1l := Nat.mod_lt w1 (show 0 < D.bs.length by omega)
 have hx2l := Nat.mod_lt w2 (show 0 < D.bs.length by omega)
 rw [hx1] at hx1l;rw [hx2] at hx2l
 have hr1 : ((w1 : Nat) : Int).tmod (D.bs.length : Nat) = (x1 : Nat) := by rw [← hx1]; rfl
 have hr2 : ((w2 : Nat) : Int).tmod (D.bs.length : Nat) = (x2 : Nat) := by rw [← hx2]; rfl
 have hsm := A.same
 have hN1 := fun {h'} (e : Ext h h') => Next_ok (A.ext e) B (x1 : Nat)
 have hN2 := fun {h'} (e : Ext h h') => Next_ok (A.ext e) B D.bs.length
 have hE1 := fun {h'} (e : Ext h h') => Ends_ok (A.ext e) B (x1 : Nat)
 have hW1 := fun {h'} (e : Ext h h') => Water_ok (A.ext e) B (x1 : Nat)
 have hW2 := fun {h'} (e : Ext h h') => Water_ok (A.ext e) B (-1)
 have hG1 := fun {h'} (e : Ext h h') => Flow_ok (A.ext e) B (x1 : Nat) (x2 : Nat)
 have hG2 := fun {h'} (e : Ext h h') => Flow_ok (A.ext e) B (x1 : Nat) (x1 : Nat)
 have hD2 := fun {h'} (e : Ext h h') => Dig_ok (A.ext e) B (x1 : Nat) D.bs.length
 rw [show D.nextR (D.bs.length : Nat) = (0, 2) from by unfold DrainV.nextR DrainV.bankQ; rw [DrainV.ok_yes O, if_neg (by omega)]] at hN2;rw [show D.waterR (-1) = (zSp, 2) from by unfold DrainV.waterR DrainV.bankQ; rw [DrainV.ok_yes O, if_neg (by omega)]] at hW2;rw [show D.flowR (x1 : Nat) (x1 : Nat) = (zSp, 2) from by unfold DrainV.flowR DrainV.pairQ; rw [DrainV.ok_yes O, if_neg (by unfold PairOk; dsimp only; omega)]] at hG2;rw [show D.digR (x1 : Nat) (D.bs.length : Nat) = (0, 2) from by unfold DrainV.digR DrainV.pairQ; rw [DrainV.ok_yes O, if_neg (by unfold PairOk; dsimp only; omega)]] at hD2
 obtain ⟨ev, hev⟩ : ∃ ev : Int, (if D.truths = [] then 10 else 0) = ev := ⟨_, rfl⟩
 have htr : ∀ {α : Type} (a z : α), D.tr a z = (if D.truths = [] then z else a, ev) := fun a z => by
  unfold DrainV.tr
  rw [← hev]
  split <;> rfl
 obtain ⟨nv, hnv⟩ : ∃ nv : Int, (if D.truths = [] then 0 else ((D.nexts x1 : Nat) : Int)) = nv := ⟨_, rfl⟩
 obtain ⟨dv, hdv⟩ : ∃ nv : Int, (if D.truths = [] then 0 else ((D.endsS x1 : Nat) : Int)) = nv := ⟨_, rfl⟩
 obtain ⟨⟨wl, wh⟩, hwv⟩ : ∃ nv : Int × Int, (if D.truths = [] then zSp else D.waters x1) = nv := ⟨_, rfl⟩
 obtain ⟨⟨⟨fl, fh⟩, fe⟩, hfv⟩ : ∃ nv : (Int × Int) × Int, (if x1 = x2 then (zSp, 2) else (if D.truths = [] then zSp else D.flow x1 x2, ev)) = nv := ⟨_, rfl⟩
 rw [show D.nextR (x1 : Nat) = (nv, ev) from by unfold DrainV.nextR; rw [DrainV.ok_yes O, DrainV.bank_yes (by omega), htr, ← hnv]; rfl] at hN1;rw [show D.endsR (x1 : Nat) = (dv, ev) from by unfold DrainV.endsR; rw [DrainV.ok_yes O, DrainV.bank_yes (by omega), htr, ← hdv]; rfl] at hE1;rw [show D.waterR (x1 : Nat) = ((wl, wh), ev) from by unfold DrainV.waterR; rw [DrainV.ok_yes O, DrainV.bank_yes (by omega), htr, ← hwv]; rfl] at hW1
 rw [show D.flowR (x1 : Nat) (x2 : Nat) = ((fl, fh), fe) from by
  rw [← hfv]
  unfold DrainV.flowR DrainV.pairQ
  rw [DrainV.ok_yes O]
  by_cases q : x1 = x2
  ·rw [if_pos q, if_neg (by unfold PairOk; dsimp only; omega)]
  ·rw [if_neg q, if_pos (by unfold PairOk; dsimp only; omega), htr]
   rfl] at hG1
 have hfe : (x1 = x2 → fe = 2) ∧ (x1 ≠ x2 → fe = ev) := ⟨fun q => by rw [if_pos q] at hfv; exact (congrArg Prod.snd hfv).symm, fun q => by rw [if_neg q] at hfv; exact (congrArg Prod.snd hfv).symm⟩
 unfold zSp at hW2 hG2
 unfold spC at hW1 hW2 hG1 hG2
 dsimp only at hN2 hW2 hG2 hD2 hN1 hE1 hW1 hG1
 unfold dC at *
 have e0 : Ext h h := Ext.refl _
 refine Runs.intro aFunc5 rfl rfl rfl rfl fun rest => ?_;apply gS;refine gR rfl ?_;refine GoR.box rfl rfl rfl rfl rfl rfl fun h3 x3 f3 => ?_;have := e0.1;replace e0 := e0.trans x3;have := f3.1;refine gP ?_;apply gE;iterate 2 apply gS
 refine gR rfl ?_;refine gO rfl rfl (ld29 rfl f3 rfl) rfl ?_;refine GoR.call rfl rfl (aCF aFunc22 rfl) (hF e0) ?_ np;rintro v4 h4 ⟨q, x4⟩;cases q;refine ⟨_, rfl, ?_⟩;replace f3 := f3.ext x4;replace e0 := e0.trans x4;apply gE;refine gC (b := false) rfl ?_;refine gD ?_;iterate 2 apply gS
 refine gR rfl ?_;refine gO rfl rfl (ld29 rfl f3 rfl) rfl ?_;refine GoR.call rfl rfl (aCF aFunc23 rfl) (hR e0) ?_ np;rintro v5 h5 ⟨q, x5⟩;cases q;refine ⟨_, rfl, ?_⟩;replace f3 := f3.ext x5;replace e0 := e0.trans x5;refine gP ?_;apply gE;refine gC (b := false) rfl ?_;refine gD ?_;apply gS;refine gR rfl ?_;refine gO rfl rfl (fa29_0 rfl) rfl ?_;refine gO rfl rfl (ld25 rfl f3 rfl) rfl ?_;refine gO rfl rfl (aOp_lenSlice Try.underlying25 rfl hl1) rfl ?_;refine GoR.alloc rfl rfl rfl zt3 rfl rfl fun h6 x6 f6 => ?_;have := e0.1;have := f3.1;replace f3 := f3.ext x6;replace e0 := e0.trans x6;have := f6.1;refine GoR.store rfl rfl rfl rfl rfl rfl f6 rfl sz3 rfl rfl rfl fun h7 u7 => ?_;replace f6 := u7.has f6;replace f3 := f3.upd u7 (by omega);replace e0 := e0.upd u7 (by omega);apply gE
 have hlt5 : h.next < h5.next := by assumption
 have hl7 := f6.1
 refine Go.seq noJ_ok (Go.join (fun bb : Nat × Nat => [(3, .ptr h.next 0), (12, .ptr h5.next 0), (13, .ptr bb.1 0), (14, .ptr bb.2 0)]) (fun bb h' => Ext h h' ∧ h7.next ≤ bb.1 ∧ h7.next ≤ bb.2 ∧ bb.1 ≠ bb.2 ∧ Has h' h.next (.cells .plain [b, d, r, s] 29) ∧ Has h' h5.next (.cells .plain [.int .i64 D.bs.length] 3) ∧ Has h' bb.1 (.cells .plain [.int .i64 (x1 : Nat)] 3) ∧ Has h' bb.2 (.cells .plain [.int .i64 (x2 : Nat)] 3)) ?_ ?_)
 ·intro k' done
  refine alts5a ?_ ?_
  ·intro pl hpl
   rw [pl5a_8_9] at hpl;cases hpl;refine gQ rfl rfl rfl rfl ?_;refine gQ rfl rfl (aOp_convU8 rfl Try.underlying5 Try.underlying3 (by omega)) rfl ?_;refine gQ rfl rfl (ld3 rfl f6 rfl) rfl ?_;refine gQ rfl rfl (aOp_rem rfl rfl (by omega) hr1) rfl ?_;refine gQ rfl rfl rfl rfl ?_;refine gQ rfl rfl (aOp_convU8 rfl Try.underlying5 Try.underlying3 (by omega)) rfl ?_;refine gQ rfl rfl (ld3 rfl f6 rfl) rfl ?_;refine gQ rfl rfl (aOp_rem rfl rfl (by omega) hr2) rfl ?_;refine GoE.alloc rfl rfl zt3 (dK 0 7 (dK 0 6 (dK 0 5 (dK 0 4 (dK 0 3 (dK 0 2 (dK 0 1 (dK 0 0 rfl)))))))) rfl rfl fun h8 x8 f8 => ?_;have := e0.1;have := f6.1;have := f3.1;replace f6 := f6.ext x8;replace f3 := f3.ext x8;replace e0 := e0.trans x8;have := f8.1;refine ⟨(rck (h2 := h8) rfl (aOp_rem rfl rfl (by omega) hr2) (rck (h2 := h8) rfl (ld3 rfl f6 rfl) (rck (h2 := h8) rfl (aOp_convU8 rfl Try.underlying5 Try.underlying3 (by omega)) (rck (h2 := h8) rfl (rfl) (rck (h2 := h8) rfl (aOp_rem rfl rfl (by omega) hr1) (rck (h2 := h8) rfl (ld3 rfl f6 rfl) (rck (h2 := h8) rfl (aOp_convU8 rfl Try.underlying5 Try.underlying3 (by omega)) (rck (h2 := h8) rfl (rfl) recheck_nil)))))))), ?_⟩;refine GoE.alloc rfl rfl zt3 (dK 256 7 (dK 256 6 (dK 256 5 (dK 256 4 (dK 256 3 (dK 256 2 (dK 256 1 (dK 256 0 rfl)))))))) rfl rfl fun h9 x9 f9 => ?_;have := e0.1;have := f8.1;have := f6.1;have := f3.1;replace f8 := f8.ext x9;replace f6 := f6.ext x9;replace f3 := f3.ext x9;replace e0 := e0.trans x9;have := f9.1;refine ⟨(rck (h2 := h9) rfl (aOp_rem rfl rfl (by omega) hr2) (rck (h2 := h9) rfl (ld3 rfl f6 rfl) (rck (h2 := h9) rfl (aOp_convU8 rfl Try.underlying5 Try.underlying3 (by omega)) (rck (h2 := h9) rfl (rfl) (rck (h2 := h9) rfl (aOp_rem rfl rfl (by omega) hr1) (rck (h2 := h9) rfl (ld3 rfl f6 rfl) (rck (h2 := h9) rfl (aOp_convU8 rfl Try.underlying5 Try.underlying3 (by omega)) (rck (h2 := h9) rfl (rfl) recheck_nil)))))))), ?_⟩;refine GoE.store rfl rfl rfl rfl (dK 783 7 (dK 783 6 (dK 783 5 (dK 783 4 (dD 783 3 (dD 783 2 (dD 783 1 (dD 783 0 rfl)))))))) rfl rfl f8 rfl sz3 rfl rfl rfl fun h10 u10 => ?_;replace f9 := f9.upd u10 (by omega);replace f8 := u10.has f8;replace f6 := f6.upd u10 (by omega);replace f3 := f3.upd u10 (by omega);replace e0 := e0.upd u10 (by omega);refine ⟨(rck (h2 := h10) rfl (aOp_rem rfl rfl (by omega) hr2) (rck (h2 := h10) rfl (ld3 rfl f6 rfl) (rck (h2 := h10) rfl (aOp_convU8 rfl Try.underlying5 Try.underlying3 (by omega)) (rck (h2 := h10) rfl (rfl) recheck_nil)))), ?_⟩;refine GoE.store rfl rfl rfl rfl (dD 2047 7 (dD 2047 6 (dD 2047 5 (dD 2047 4 rfl)))) rfl rfl f9 rfl sz3 rfl rfl rfl fun h11 u11 => ?_;replace f9 := u11.has f9;replace f8 := f8.upd u11 (by omega);replace f6 := f6.upd u11 (by omega);replace f3 := f3.upd u11 (by omega);replace e0 := e0.upd u11 (by omega);refine ⟨recheck_nil, ?_⟩;refine GoE.end rfl ?_;exact done (h7.next, h8.next) _ _ ⟨rfl, rfl, rfl, rfl, trivial⟩ ⟨e0, Nat.le_refl _, by dsimp only; omega, by dsimp only; omega, f3, f6, f8, f9⟩
  ·intro pl hpl
   rw [pl5a_9_8] at hpl;cases hpl;refine gQ rfl rfl rfl rfl ?_;refine gQ rfl rfl (aOp_convU8 rfl Try.underlying5 Try.underlying3 (by omega)) rfl ?_;refine gQ rfl rfl (ld3 rfl f6 rfl) rfl ?_;refine gQ rfl rfl (aOp_rem rfl rfl (by omega) hr1) rfl ?_;refine gQ rfl rfl rfl rfl ?_;refine gQ rfl rfl (aOp_convU8 rfl Try.underlying5 Try.underlying3 (by omega)) rfl ?_;refine gQ rfl rfl (ld3 rfl f6 rfl) rfl ?_;refine gQ rfl rfl (aOp_rem rfl rfl (by omega) hr2) rfl ?_;refine GoE.alloc rfl rfl zt3 (dK 0 7 (dK 0 6 (dK 0 5 (dK 0 4 (dK 0 3 (dK 0 2 (dK 0 1 (dK 0 0 rfl)))))))) rfl rfl fun h8 x8 f8 => ?_;have := e0.1;have := f6.1;have := f3.1;replace f6 := f6.ext x8;replace f3 := f3.ext x8;replace e0 := e0.trans x8;have := f8.1;refine ⟨(rck (h2 := h8) rfl (aOp_rem rfl rfl (by omega) hr2) (rck (h2 := h8) rfl (ld3 rfl f6 rfl) (rck (h2 := h8) rfl (aOp_convU8 rfl Try.underlying5 Try.underlying3 (by omega)) (rck (h2 := h8) rfl (rfl) (rck (h2 := h8) rfl (aOp_rem rfl rfl (by omega) hr1) (rck (h2 := h8) rfl (ld3 rfl f6 rfl) (rck (h2 := h8) rfl (aOp_convU8 rfl Try.underlying5 Try.underlying3 (by omega)) (rck (h2 := h8) rfl (rfl) recheck_nil)))))))), ?_⟩;refine GoE.alloc rfl rfl zt3 (dK 512 7 (dK 512 6 (dK 512 5 (dK 512 4 (dK 512 3 (dK 512 2 (dK 512 1 (dK 512 0 rfl)))))))) rfl rfl fun h9 x9 f9 => ?_;have := e0.1;have := f8.1;have := f6.1;have := f3.1;replace f8 := f8.ext x9;replace f6 := f6.ext x9;replace f3 := f3.ext x9;replace e0 := e0.trans x9;have := f9.1;refine ⟨(rck (h2 := h9) rfl (aOp_rem rfl rfl (by omega) hr2) (rck (h2 := h9) rfl (ld3 rfl f6 rfl) (rck (h2 := h9) rfl (aOp_convU8 rfl Try.underlying5 Try.underlying3 (by omega)) (rck (h2 := h9) rfl (rfl) (rck (h2 := h9) rfl (aOp_rem rfl rfl (by omega) hr1) (rck (h2 := h9) rfl (ld3 rfl f6 rfl) (rck (h2 := h9) rfl (aOp_convU8 rfl Try.underlying5 Try.underlying3 (by omega)) (rck (h2 := h9) rfl (rfl) recheck_nil)))))))), ?_⟩;refine GoE.store rfl rfl rfl rfl (dK 783 7 (dK 783 6 (dK 783 5 (dK 783 4 (dD 783 3 (dD 783 2 (dD 783 1 (dD 783 0 rfl)))))))) rfl rfl f9 rfl sz3 rfl rfl rfl fun h10 u10 => ?_;replace f9 := u10.has f9;replace f8 := f8.upd u10 (by omega);replace f6 := f6.upd u10 (by omega);replace f3 := f3.upd u10 (by omega);replace e0 := e0.upd u10 (by omega);refine ⟨(rck (h2 := h10) rfl (aOp_rem rfl rfl (by omega) hr2) (rck (h2 := h10) rfl (ld3 rfl f6 rfl) (rck (h2 := h10) rfl (aOp_convU8 rfl Try.underlying5 Try.underlying3 (by omega)) (rck (h2 := h10) rfl (rfl) recheck_nil)))), ?_⟩;refine GoE.store rfl rfl rfl rfl (dD 2047 7 (dD 2047 6 (dD 2047 5 (dD 2047 4 rfl)))) rfl rfl f8 rfl sz3 rfl rfl rfl fun h11 u11 => ?_;replace f9 := f9.upd u11 (by omega);replace f8 := u11.has f8;replace f6 := f6.upd u11 (by omega);replace f3 := f3.upd u11 (by omega);replace e0 := e0.upd u11 (by omega);refine ⟨recheck_nil, ?_⟩;refine GoE.end rfl ?_;exact done (h8.next, h7.next) _ _ ⟨rfl, rfl, rfl, rfl, trivial⟩ ⟨e0, by dsimp only; omega, Nat.le_refl _, by dsimp only; omega, f3, f6, f9, f8⟩
 ·clear e0 f3 f6;rintro ⟨ba, bb⟩ h10 ⟨e0, hba, hbb, hab, f3, f6, fa, fb⟩
  dsimp only at hba hbb hab fa fb
  apply gS;refine gR rfl ?_;refine gO rfl rfl (ld29 rfl f3 rfl) rfl ?_;refine gO rfl rfl (ld3 rfl fa rfl) rfl ?_;refine GoR.call rfl rfl (aCF aFunc10 rfl) (hN1 e0) ?_ np;rintro v11 h11 ⟨q, x11⟩;cases q;refine ⟨_, rfl, ?_⟩;replace f3 := f3.ext x11;replace f6 := f6.ext x11;replace fa := fa.ext x11;replace fb := fb.ext x11;replace e0 := e0.trans x11;iterate 5 refine gP ?_
  apply gE;apply gS;refine gR rfl ?_;refine gO rfl rfl (ld29 rfl f3 rfl) rfl ?_;refine gO rfl rfl (ld3 rfl fa rfl) rfl ?_;refine GoR.call rfl rfl (aCF aFunc13 rfl) (hE1 e0) ?_ np;rintro v12 h12 ⟨q, x12⟩;cases q;refine ⟨_, rfl, ?_⟩;replace f3 := f3.ext x12;replace f6 := f6.ext x12;replace fa := fa.ext x12;replace fb := fb.ext x12;replace e0 := e0.trans x12;iterate 5 refine gP ?_
  apply gE;apply gS;refine gR rfl ?_;refine gO rfl rfl (ld29 rfl f3 rfl) rfl ?_;refine gO rfl rfl (ld3 rfl fa rfl) rfl ?_;refine GoR.call rfl rfl (aCF aFunc14 rfl) (hW1 e0) ?_ np;rintro v13 h13 ⟨q, x13⟩;cases q;refine ⟨_, rfl, ?_⟩;replace f3 := f3.ext x13;replace f6 := f6.ext x13;replace fa := fa.ext x13;replace fb := fb.ext x13;replace e0 := e0.trans x13;iterate 3 refine gP ?_
  refine GoR.alloc rfl rfl rfl zt35 rfl rfl fun h14 x14 f14 => ?_;have := e0.1;have := f3.1;have := f6.1;have := fa.1;have := fb.1;replace f3 := f3.ext x14;replace f6 := f6.ext x14;replace fa := fa.ext x14;replace fb := fb.ext x14;replace e0 := e0.trans x14;have := f14.1;refine GoR.store rfl rfl rfl rfl rfl rfl f14 rfl sz35 rfl rfl rfl fun h15 u15 => ?_;replace f14 := u15.has f14;replace f3 := f3.upd u15 (by omega);replace f6 := f6.upd u15 (by omega);replace fa := fa.upd u15 (by omega);replace fb := fb.upd u15 (by omega);replace e0 := e0.upd u15 (by omega);refine gP ?_;apply gE;apply gS;refine gR rfl ?_;refine gO rfl rfl (ld29 rfl f3 rfl) rfl ?_;refine gO rfl rfl (ld3 rfl fa rfl) rfl ?_;refine gO rfl rfl (ld3 rfl fb rfl) rfl ?_;refine GoR.call rfl rfl (aCF aFunc15 rfl) (hG1 e0) ?_ np;rintro v16 h16 ⟨q, x16⟩;cases q;refine ⟨_, rfl, ?_⟩;replace f14 := f14.ext x16;replace f3 := f3.ext x16;replace f6 := f6.ext x16;replace fa := fa.ext x16;replace fb := fb.ext x16;replace e0 := e0.trans x16;iterate 3 refine gP ?_
  refine GoR.alloc rfl rfl rfl zt35 rfl rfl fun h17 x17 f17 => ?_;have := e0.1;have := f14.1;have := f3.1;have := f6.1;have := fa.1;have := fb.1;replace f14 := f14.ext x17;replace f3 := f3.ext x17;replace f6 := f6.ext x17;replace fa := fa.ext x17;replace fb := fb.ext x17;replace e0 := e0.trans x17;have := f17.1;refine GoR.store rfl rfl rfl rfl rfl rfl f17 rfl sz35 rfl rfl rfl fun h18 u18 => ?_;replace f17 := u18.has f17;replace f14 := f14.upd u18 (by omega);replace f3 := f3.upd u18 (by omega);replace f6 := f6.upd u18 (by omega);replace fa := fa.upd u18 (by omega);replace fb := fb.upd u18 (by omega);replace e0 := e0.upd u18 (by omega);refine gP ?_;apply gE;apply gS;refine gR rfl ?_;refine gO rfl rfl (ld29 rfl f3 rfl) rfl ?_;refine gO rfl rfl (ld3 rfl f6 rfl) rfl ?_;refine GoR.call rfl rfl (aCF aFunc10 rfl) (hN2 e0) ?_ np;rintro v19 h19 ⟨q, x19⟩;cases q;refine ⟨_, rfl, ?_⟩;replace f17 := f17.ext x19;replace f14 := f14.ext x19;replace f3 := f3.ext x19;replace f6 := f6.ext x19;replace fa := fa.ext x19;replace fb := fb.ext x19;replace e0 := e0.trans x19;iterate 5 refine gP ?_
  apply gE;apply gS;refine gR rfl ?_;refine gO rfl rfl (ld29 rfl f3 rfl) rfl ?_;refine GoR.call rfl rfl (aCF aFunc14 rfl) (hW2 e0) ?_ np;rintro v20 h20 ⟨q, x20⟩;cases q;refine ⟨_, rfl, ?_⟩;replace f17 := f17.ext x20;replace f14 := f14.ext x20;replace f3 := f3.ext x20;replace f6 := f6.ext x20;replace fa := fa.ext x20;replace fb := fb.ext x20;replace e0 := e0.trans x20;iterate 3 refine gP ?_
  refine GoR.alloc rfl rfl rfl zt35 rfl rfl fun h21 x21 f21 => ?_;have := e0.1;have := f17.1;have := f14.1;have := f3.1;have := f6.1;have := fa.1;have := fb.1;replace f17 := f17.ext x21;replace f14 := f14.ext x21;replace f3 := f3.ext x21;replace f6 := f6.ext x21;replace fa := fa.ext x21;replace fb := fb.ext x21;replace e0 := e0.trans x21;have := f21.1;refine GoR.store rfl rfl rfl rfl rfl rfl f21 rfl sz35 rfl rfl rfl fun h22 u22 => ?_;replace f21 := u22.has f21;replace f17 := f17.upd u22 (by omega);replace f14 := f14.upd u22 (by omega);replace f3 := f3.upd u22 (by omega);replace f6 := f6.upd u22 (by omega);replace fa := fa.upd u22 (by omega);replace fb := fb.upd u22 (by omega);replace e0 := e0.upd u22 (by omega);refine gP ?_;apply gE;apply gS;refine gR rfl ?_;refine gO rfl rfl (ld29 rfl f3 rfl) rfl ?_;iterate 2 refine gO rfl rfl (ld3 rfl fa rfl) rfl ?_
  refine GoR.call rfl rfl (aCF aFunc15 rfl) (hG2 e0) ?_ np;rintro v23 h23 ⟨q, x23⟩;cases q;refine ⟨_, rfl, ?_⟩;replace f21 := f21.ext x23;replace f17 := f17.ext x23;replace f14 := f14.ext x23;replace f3 := f3.ext x23;replace f6 := f6.ext x23;replace fa := fa.ext x23;replace fb := fb.ext x23;replace e0 := e0.trans x23;iterate 3 refine gP ?_
  refine GoR.alloc rfl rfl rfl zt35 rfl rfl fun h24 x24 f24 => ?_;have := e0.1;have := f21.1;have := f17.1;have := f14.1;have := f3.1;have := f6.1;have := fa.1;have := fb.1;replace f21 := f21.ext x24;replace f17 := f17.ext x24;replace f14 := f14.ext x24;replace f3 := f3.ext x24;replace f6 := f6.ext x24;replace fa := fa.ext x24;replace fb := fb.ext x24;replace e0 := e0.trans x24;have := f24.1;refine GoR.store rfl rfl rfl rfl rfl rfl f24 rfl sz35 rfl rfl rfl fun h25 u25 => ?_;replace f24 := u25.has f24;replace f21 := f21.upd u25 (by omega);replace f17 := f17.upd u25 (by omega);replace f14 := f14.upd u25 (by omega);replace f3 := f3.upd u25 (by omega);replace f6 := f6.upd u25 (by omega);replace fa := fa.upd u25 (by omega);replace fb := fb.upd u25 (by omega);replace e0 := e0.upd u25 (by omega);refine gP ?_;apply gE;apply gS;refine gR rfl ?_;refine gO rfl rfl (ld29 rfl f3 rfl) rfl ?_;refine gO rfl rfl (ld3 rfl fa rfl) rfl ?_;refine gO rfl rfl (ld3 rfl f6 rfl) rfl ?_;refine GoR.call rfl rfl (aCF aFunc17 rfl) (hD2 e0) ?_ np;rintro v26 h26 ⟨q, x26⟩;cases q;refine ⟨_, rfl, ?_⟩;replace f24 := f24.ext x26;replace f21 := f21.ext x26;replace f17 := f17.ext x26;replace f14 := f14.ext x26;replace f3 := f3.ext x26;replace f6 := f6.ext x26;replace fa := fa.ext x26;replace fb := fb.ext x26;replace e0 := e0.trans x26;iterate 5 refine gP ?_
  apply gE
  have hb1 := fa.1
  have hb2 := fb.1
  have hl14 := f14.1
  have hl17 := f17.1
  have hh14 : bb < h13.next ∧ ba < h13.next ∧ h5.next < h13.next := ⟨by assumption, by assumption, by assumption⟩
  have hh17 : h13.next < h16.next := by assumption
  refine Go.seq noJ_ok (Go.join (fun _ : Unit => [(3, .ptr h.next 0), (12, .ptr h5.next 0), (13, .ptr ba 0), (14, .ptr bb 0), (15, .int .i64 nv), (16, .int .i64 ev), (17, .int .i64 dv), (19, .ptr h13.next 0), (21, .ptr h16.next 0)]) (fun _ h' => Ext h h' ∧ h26.next ≤ h'.next ∧ Has h' h.next (.cells .plain [b, d, r, s] 29) ∧ Has h' h5.next (.cells .plain [.int .i64 D.bs.length] 3) ∧ Has h' ba (.cells .plain [.int .i64 (x1 : Nat)] 3) ∧ Has h' bb (.cells .plain [.int .i64 (x2 : Nat)] 3) ∧ Has h' h13.next (.cells .plain [.int .i64 wl, .int .i64 wh] 35) ∧ Has h' h16.next (.cells .plain [.int .i64 fl, .int .i64 fh] 35)) ?_ ?_)
  ·intro k' done
   by_cases hxx : x1 = x2
   ·have := hfe.1 hxx
    apply gS;refine gR rfl ?_;refine gP ?_;refine gO rfl rfl (kXF rfl rfl) rfl ?_;iterate 3 refine gP ?_
    refine gO rfl rfl (kXF rfl rfl) rfl ?_;iterate 4 refine gP ?_
    refine gO rfl rfl (kXF rfl rfl) rfl ?_;iterate 4 refine gP ?_
    refine gO rfl rfl (kXF rfl rfl) rfl ?_;iterate 4 refine gP ?_
    refine gO rfl rfl (kXF rfl rfl) rfl ?_;iterate 4 refine gP ?_
    refine gO rfl rfl (kXF rfl rfl) rfl ?_;iterate 2 refine gP ?_
    refine gO rfl rfl (ld3 rfl fa rfl) rfl ?_;refine gO rfl rfl (ld3 rfl fb rfl) rfl ?_;refine gO rfl rfl (kET rfl rfl) rfl ?_;iterate 3 refine gP ?_
    refine gO rfl rfl (kXF rfl rfl) rfl ?_;iterate 3 refine gP ?_
    refine gO rfl rfl (ld3 rfl fa rfl) rfl ?_;refine gO rfl rfl (ld3 rfl fb rfl) rfl ?_;refine gO rfl rfl (kXF rfl rfl) rfl ?_;refine gP ?_;iterate 3 refine GoR.skip rfl rfl rfl ?_
    iterate 2 refine gP ?_
    apply gE;refine gC (b := false) rfl ?_;refine gD ?_;exact done () _ _ ⟨rfl, rfl, rfl, rfl, rfl, rfl, rfl, rfl, rfl, trivial⟩ ⟨e0, Nat.le_refl _, f3, f6, fa, fb, f14, f17⟩
   ·have := hfe.2 hxx
    apply gS;refine gR rfl ?_;refine gP ?_;refine gO rfl rfl (kXF rfl rfl) rfl ?_;iterate 3 refine gP ?_
    refine gO rfl rfl (kXF rfl rfl) rfl ?_;iterate 4 refine gP ?_
    refine gO rfl rfl (kXF rfl rfl) rfl ?_;iterate 4 refine gP ?_
    refine gO rfl rfl (kXF rfl rfl) rfl ?_;iterate 4 refine gP ?_
    refine gO rfl rfl (kXF rfl rfl) rfl ?_;iterate 4 refine gP ?_
    refine gO rfl rfl (kXF rfl rfl) rfl ?_;iterate 2 refine gP ?_
    refine gO rfl rfl (ld3 rfl fa rfl) rfl ?_;refine gO rfl rfl (ld3 rfl fb rfl) rfl ?_;refine gO rfl rfl (kEF rfl rfl) rfl ?_;refine gP ?_;iterate 3 refine GoR.skip rfl rfl rfl ?_
    iterate 3 refine gP ?_
    refine gO rfl rfl (ld3 rfl fa rfl) rfl ?_;refine gO rfl rfl (ld3 rfl fb rfl) rfl ?_;refine gO rfl rfl (kXT rfl rfl) rfl ?_;iterate 3 refine gP ?_
    refine gO rfl rfl (kXF rfl rfl) rfl ?_;iterate 2 refine gP ?_
    apply gE;refine gC (b := false) rfl ?_;refine gD ?_;exact done () _ _ ⟨rfl, rfl, rfl, rfl, rfl, rfl, rfl, rfl, rfl, trivial⟩ ⟨e0, Nat.le_refl _, f3, f6, fa, fb, f14, f17⟩
  ·clear e0 f3 f6 fa fb f14 f17;rintro _ h30 ⟨e0, hn30, f3, f6, fa, fb, f14, f17⟩;apply gS;refine gR rfl ?_;refine GoR.alloc rfl rfl rfl zt47 rfl rfl fun h31 x31 f31 => ?_;have := e0.1;have := f3.1;have := f6.1;have := fa.1;have := fb.1;have := f14.1;have := f17.1;replace f3 := f3.ext x31;replace f6 := f6.ext x31;replace fa := fa.ext x31;replace fb := fb.ext x31;replace f14 := f14.ext x31;replace f17 := f17.ext x31;replace e0 := e0.trans x31;have := f31.1;refine GoR.alloc rfl rfl rfl zt47 rfl rfl fun h32 x32 f32 => ?_;have := e0.1;have := f31.1;have := f3.1;have := f6.1;have := fa.1;have := fb.1;have := f14.1;have := f17.1;replace f31 := f31.ext x32;replace f3 := f3.ext x32;replace f6 := f6.ext x32;replace fa := fa.ext x32;replace fb := fb.ext x32;replace f14 := f14.ext x32;replace f17 := f17.ext x32;replace e0 := e0.trans x32;have := f32.1;apply gE;iterate 2 apply gS
   refine gR rfl ?_;refine gO rfl rfl (fa29_0 rfl) rfl ?_;refine gO rfl rfl (ld25 rfl f3 rfl) rfl ?_;refine gO rfl rfl (aOp_lenSlice Try.underlying25 rfl hl1) rfl ?_;refine gP ?_;apply gE;refine Go.block noJ_ok ?_
   have hb31 := f31.1
   have hb32 := f32.1
   have hlo1 : h16.next < h30.next ∧ h13.next < h30.next ∧ h5.next < h30.next ∧ h.next < h30.next ∧ ba < h30.next ∧ bb < h30.next := by omega
   have hlo2 : h30.next < h31.next := by assumption
   refine Go.loopKeep (fun a : Nat × AVal × AVal => [(3, .ptr h.next 0), (12, .ptr h5.next 0), (13, .ptr ba 0), (14, .ptr bb 0), (15, .int .i64 nv), (16, .int .i64 ev), (17, .int .i64 dv), (19, .ptr h13.next 0), (21, .ptr h16.next 0), (31, .ptr h30.next 0), (32, .ptr h31.next 0), (180, b), (181, .int .i64 D.bs.length), (182, .int .i64 (a.1 : Nat))])
    (fun m a h' => m + a.1 = D.bs.length ∧ Ext h h' ∧ h32.next ≤ h'.next ∧ (Has h' h.next (.cells .plain [b, d, r, s] 29) ∧ Has h' h5.next (.cells .plain [.int .i64 D.bs.length] 3) ∧ Has h' ba (.cells .plain [.int .i64 (x1 : Nat)] 3) ∧ Has h' bb (.cells .plain [.int .i64 (x2 : Nat)] 3) ∧ Has h' h13.next (.cells .plain [.int .i64 wl, .int .i64 wh] 35) ∧ Has h' h16.next (.cells .plain [.int .i64 fl, .int .i64 fh] 35)) ∧ Has h' h30.next (.cells .plain [a.2.1] 47) ∧ Has h' h31.next (.cells .plain [a.2.2] 47) ∧ Grow h' 3 1 h32.next a.2.1 a.1 (i64s ((lows D).take a.1)) ∧ Grow h' 3 1 h32.next a.2.2 a.1 (i64s ((highs D).take a.1)) ∧ (∀ c1 c2, a.2.1 = .gsl c1 0 0 a.1 → a.2.2 = .gsl c2 0 0 a.1 → c1 ≠ c2)) (n := D.bs.length) (0, .nilslice, .nilslice) ⟨rfl, rfl, rfl, rfl, rfl, rfl, rfl, rfl, rfl, rfl, rfl, rfl, rfl, rfl, trivial⟩ ⟨rfl, e0, Nat.le_refl _, ⟨f3, f6, fa, fb, f14, f17⟩, f31, f32, Grow.nil _ _ _ _, Grow.nil _ _ _ _, fun _ _ q => by cases q⟩ ?_
   clear e0 f3 f6 fa fb f14 f17 f31 f32;rintro m ⟨i, sl, sh⟩ h40 ⟨hm, e0, hn40, ⟨f3, f6, fa, fb, f14, f17⟩, f31, f32, G1, G2, hne⟩ again
   dsimp only at hm f31 f32 G1 G2 hne ⊢
   by_cases hi : i < D.bs.length
   ·obtain ⟨x, hx⟩ : ∃ x, D.bs[i]? = some x := ⟨D.bs[i], by simp [hi]⟩
    obtain ⟨bq, off, q1, q2⟩ := A.bs.at (i := i) (l := BkV.cells x) (by rw [List.getElem?_map, hx]; rfl)
    rw [List.length_map] at q1
    unfold BkV.cells at q2
    have hi6 : i64s ((highs D).take (i + 1)) = i64s ((highs D).take i) ++ [.int .i64 x.yh] := by
     have : (highs D)[i]? = some x.yh := by unfold highs; rw [List.getElem?_map, hx]; rfl
     rw [List.take_add_one, this]
     unfold i64s
     rw [List.map_append]
     rfl
    have hi5 : i64s ((lows D).take (i + 1)) = i64s ((lows D).take i) ++ [.int .i64 x.yl] := by
     have : (lows D)[i]? = some x.yl := by unfold lows; rw [List.getElem?_map, hx]; rfl
     rw [List.take_add_one, this]
     unfold i64s
     rw [List.map_append]
     rfl
    have e1 : Ext h40 h40 := Ext.refl _
    have hsG := grow_same G1
    have hsG2 := grow_same G2
    apply gS;refine gR rfl ?_;refine gO rfl rfl (kLT rfl rfl) rfl ?_;apply gE;apply gS;refine gC (b := true) rfl ?_;refine gD ?_;apply gS;refine Go.block noJ_ok ?_;apply gS;refine gR rfl ?_;refine gO rfl rfl (aOp_indexAddr (i := i) Try.underlying25 sz60 rfl q1 rfl (Nat.ble_eq_true_of_le hi)) rfl ?_;refine gO rfl rfl (aOp_loadE ag60 sz60 rfl (q2.ext e0)) rfl ?_;refine GoR.alloc rfl rfl rfl zt60 rfl rfl fun h41 x41 f41 => ?_;have := e0.1;have := e1.1;have := f3.1;have := f6.1;have := fa.1;have := fb.1;have := f14.1;have := f17.1;have := f31.1;have := f32.1;replace f3 := f3.ext x41;replace f6 := f6.ext x41;replace fa := fa.ext x41;replace fb := fb.ext x41;replace f14 := f14.ext x41;replace f17 := f17.ext x41;replace f31 := f31.ext x41;replace f32 := f32.ext x41;replace e0 := e0.trans x41;replace e1 := e1.trans x41;have := f41.1;refine GoR.store rfl rfl rfl rfl rfl rfl f41 rfl sz60 rfl rfl rfl fun h42 u42 => ?_;replace f41 := u42.has f41;replace f3 := f3.upd u42 (by omega);replace f6 := f6.upd u42 (by omega);replace fa := fa.upd u42 (by omega);replace fb := fb.upd u42 (by omega);replace f14 := f14.upd u42 (by omega);replace f17 := f17.upd u42 (by omega);replace f31 := f31.upd u42 (by omega);replace f32 := f32.upd u42 (by omega);replace e0 := e0.upd u42 (by omega);replace e1 := e1.upd u42 (by omega);apply gE;refine Go.drawnE plan5_1 ?_;refine gQ rfl rfl (ld47 rfl f31 rfl) rfl ?_;refine gQ rfl rfl (fa60_1 rfl) rfl ?_;refine gQ rfl rfl (fa35_0 rfl) rfl ?_;refine gQ rfl rfl (ld3 rfl f41 rfl) rfl ?_;refine GoE.quietX rfl rfl (aOpX_lit (ps := [(0, .int .i64 x.yl)]) (cs := [.int .i64 x.yl]) Try.underlying47 rfl sz3 zt3 rfl rfl rfl) rfl ?_;refine gQ rfl rfl (ld47 rfl f32 rfl) rfl ?_;refine gQ rfl rfl (fa60_1 rfl) rfl ?_;refine gQ rfl rfl (fa35_1 rfl) rfl ?_;refine gQ rfl rfl (ld3 rfl f41 rfl) rfl ?_;refine GoE.quietX rfl rfl (aOpX_lit (ps := [(0, .int .i64 x.yh)]) (cs := [.int .i64 x.yh]) Try.underlying47 rfl sz3 zt3 rfl rfl rfl) rfl ?_;refine GoE.append1L rfl rfl Try.underlying47 Try.underlying47 sz3 by3 zt3 rfl rfl rfl rfl rfl rfl (G1.ext e1) (by omega) (dK 31 10 (dK 31 9 (dK 31 8 (dK 31 7 (dK 31 6 (dD 31 4 (dD 31 3 (dD 31 2 (dD 31 1 (dD 31 0 rfl)))))))))) rfl rfl fun s43 h43 y43 g43 => ?_;replace f41 := f41.extF y43 (fun q => by have := grow_own G1 q; omega);replace f3 := f3.extF y43 (fun q => by have := grow_own G1 q; omega);replace f6 := f6.extF y43 (fun q => by have := grow_own G1 q; omega);replace fa := fa.extF y43 (fun q => by have := grow_own G1 q; omega);replace fb := fb.extF y43 (fun q => by have := grow_own G1 q; omega);replace f14 := f14.extF y43 (fun q => by have := grow_own G1 q; omega);replace f17 := f17.extF y43 (fun q => by have := grow_own G1 q; omega);replace f31 := f31.extF y43 (fun q => by have := grow_own G1 q; omega);replace f32 := f32.extF y43 (fun q => by have := grow_own G1 q; omega);replace e0 := y43.low e0 (fun b q => by have := grow_own G1 q; omega);have := y43.1;refine ⟨(recheck_consX (h2 := h43) rfl (aOpX_lit (ps := [(0, .int .i64 x.yh)]) (cs := [.int .i64 x.yh]) Try.underlying47 rfl sz3 zt3 rfl rfl rfl) (by simp [sameA, sameAs, eqI_eq]) (rck (h2 := h43) rfl (ld3 rfl f41 rfl) (rck (h2 := h43) rfl (fa35_1 rfl) (rck (h2 := h43) rfl (fa60_1 rfl) (rck (h2 := h43) rfl (ld47 rfl f32 rfl) recheck_nil))))), ?_⟩;refine GoE.append1L rfl rfl Try.underlying47 Try.underlying47 sz3 by3 zt3 rfl rfl rfl rfl rfl rfl ((G2.ext e1).keep y43.1 fun b h1 h2 h3 => y43.2 b h2 fun q => hne _ _ q h3 rfl) (by omega) (dD 2047 10 (dD 2047 9 (dD 2047 8 (dD 2047 7 (dD 2047 6 rfl))))) rfl rfl fun s44 h44 y44 g44 => ?_;replace f3 := f3.extF y44 (fun q => by have := grow_own G2 q; omega);replace f6 := f6.extF y44 (fun q => by have := grow_own G2 q; omega);replace fa := fa.extF y44 (fun q => by have := grow_own G2 q; omega);replace fb := fb.extF y44 (fun q => by have := grow_own G2 q; omega);replace f14 := f14.extF y44 (fun q => by have := grow_own G2 q; omega);replace f17 := f17.extF y44 (fun q => by have := grow_own G2 q; omega);replace f31 := f31.extF y44 (fun q => by have := grow_own G2 q; omega);replace f32 := f32.extF y44 (fun q => by have := grow_own G2 q; omega);replace e0 := y44.low e0 (fun b q => by have := grow_own G2 q; omega);clear y43;have := y44.1;refine ⟨recheck_nil, ?_⟩;refine GoE.store rfl rfl rfl rfl rfl rfl rfl f31 rfl sz47 (cs' := [s43]) (by rw [(grow_scal g43).2]; rfl) (by rw [(grow_scal g43).2]; exact (grow_scal g43).1) (by rw [(grow_scal g43).2]; rfl) fun h45 u45 => ?_;replace f3 := f3.upd u45 (by omega);replace f6 := f6.upd u45 (by omega);replace fa := fa.upd u45 (by omega);replace fb := fb.upd u45 (by omega);replace f14 := f14.upd u45 (by omega);replace f17 := f17.upd u45 (by omega);replace f31 := u45.has f31;replace f32 := f32.upd u45 (by omega);replace e0 := e0.upd u45 (by omega);refine ⟨recheck_nil, ?_⟩;refine GoE.store rfl rfl rfl rfl rfl rfl rfl f32 rfl sz47 (cs' := [s44]) (by rw [(grow_scal g44).2]; rfl) (by rw [(grow_scal g44).2]; exact (grow_scal g44).1) (by rw [(grow_scal g44).2]; rfl) fun h46 u46 => ?_;replace f3 := f3.upd u46 (by omega);replace f6 := f6.upd u46 (by omega);replace fa := fa.upd u46 (by omega);replace fb := fb.upd u46 (by omega);replace f14 := f14.upd u46 (by omega);replace f17 := f17.upd u46 (by omega);replace f31 := f31.upd u46 (by omega);replace f32 := u46.has f32;replace e0 := e0.upd u46 (by omega);refine ⟨recheck_nil, ?_⟩;refine GoE.end rfl ?_;refine Go.inBlock noJ_ok ?_;refine gR rfl ?_;refine gO rfl rfl (aA rfl rfl) rfl ?_;refine gP ?_;apply gE
    have hy1 := e1.1
    have hy3 := y44.1
    have hy4 := u45.1
    have hy5 := u46.1
    refine again (m - 1) (i + 1, s43, s44) _ _ (by omega) ⟨rfl, rfl, rfl, rfl, rfl, rfl, rfl, rfl, rfl, rfl, rfl, rfl, rfl, rfl, trivial⟩ ⟨by dsimp only; omega, e0, by omega, ⟨f3, f6, fa, fb, f14, f17⟩, f31, f32, ?_, ?_, fun c1 c2 z1 z2 => by have := (grow_own g43 z1).2; have := (grow_own g44 z2).1; omega⟩
    ·dsimp only
     rw [hi5];exact (((g43.keep y44.1 fun b h1 h2 h3 => y44.2 b h2 fun q => by have := (grow_own G2 q).2; omega).upd u45 (by omega)).upd u46 (by omega)).low (by omega)
    ·dsimp only
     rw [hi6];exact ((g44.upd u45 (by omega)).upd u46 (by omega)).low (by omega)
   ·have hin : i = D.bs.length := by omega
    subst hin;rw [show (highs D).take D.bs.length = highs D from List.take_of_length_le (by unfold highs; rw [List.length_map]; exact Nat.le_refl _)] at G2;rw [show (lows D).take D.bs.length = lows D from List.take_of_length_le (by unfold lows; rw [List.length_map]; exact Nat.le_refl _)] at G1
    have Y := ints_slice (by unfold highs; rw [List.length_map]) G2
    have Z := ints_slice (by unfold lows; rw [List.length_map]) G1
    clear again
    have ek : Ext h h40 ∧ True := ⟨e0, trivial⟩
    apply gS;refine gR rfl ?_;refine gO rfl rfl (kLF rfl rfl) rfl ?_;apply gE;apply gS;refine gC (b := false) rfl ?_;refine gD ?_;apply gS;refine gR rfl ?_;refine GoR.alloc rfl rfl rfl zt3 rfl rfl fun h41 x41 f41 => ?_;have := e0.1;have := f3.1;have := f6.1;have := fa.1;have := fb.1;have := f14.1;have := f17.1;have := f31.1;have := f32.1;replace f3 := f3.ext x41;replace f6 := f6.ext x41;replace fa := fa.ext x41;replace fb := fb.ext x41;replace f14 := f14.ext x41;replace f17 := f17.ext x41;replace f31 := f31.ext x41;replace f32 := f32.ext x41;replace e0 := e0.trans x41;have := f41.1;refine GoR.alloc rfl rfl rfl zt3 rfl rfl fun h42 x42 f42 => ?_;have := e0.1;have := f41.1;have := f3.1;have := f6.1;have := fa.1;have := fb.1;have := f14.1;have := f17.1;have := f31.1;have := f32.1;replace f41 := f41.ext x42;replace f3 := f3.ext x42;replace f6 := f6.ext x42;replace fa := fa.ext x42;replace fb := fb.ext x42;replace f14 := f14.ext x42;replace f17 := f17.ext x42;replace f31 := f31.ext x42;replace f32 := f32.ext x42;replace e0 := e0.trans x42;have := f42.1;refine GoR.alloc rfl rfl rfl zt4 rfl rfl fun h43 x43 f43 => ?_;have := e0.1;have := f42.1;have := f41.1;have := f3.1;have := f6.1;have := fa.1;have := fb.1;have := f14.1;have := f17.1;have := f31.1;have := f32.1;replace f42 := f42.ext x43;replace f41 := f41.ext x43;replace f3 := f3.ext x43;replace f6 := f6.ext x43;replace fa := fa.ext x43;replace fb := fb.ext x43;replace f14 := f14.ext x43;replace f17 := f17.ext x43;replace f31 := f31.ext x43;replace f32 := f32.ext x43;replace e0 := e0.trans x43;have := f43.1;refine GoR.store rfl rfl rfl rfl rfl rfl f41 rfl sz3 rfl rfl rfl fun h44 u44 => ?_;replace f43 := f43.upd u44 (by omega);replace f42 := f42.upd u44 (by omega);replace f41 := u44.has f41;replace f3 := f3.upd u44 (by omega);replace f6 := f6.upd u44 (by omega);replace fa := fa.upd u44 (by omega);replace fb := fb.upd u44 (by omega);replace f14 := f14.upd u44 (by omega);replace f17 := f17.upd u44 (by omega);replace f31 := f31.upd u44 (by omega);replace f32 := f32.upd u44 (by omega);replace e0 := e0.upd u44 (by omega);refine GoR.store rfl rfl rfl rfl rfl rfl f42 rfl sz3 rfl rfl rfl fun h45 u45 => ?_;replace f43 := f43.upd u45 (by omega);replace f42 := u45.has f42;replace f41 := f41.upd u45 (by omega);replace f3 := f3.upd u45 (by omega);replace f6 := f6.upd u45 (by omega);replace fa := fa.upd u45 (by omega);replace fb := fb.upd u45 (by omega);replace f14 := f14.upd u45 (by omega);replace f17 := f17.upd u45 (by omega);replace f31 := f31.upd u45 (by omega);replace f32 := f32.upd u45 (by omega);replace e0 := e0.upd u45 (by omega);refine GoR.store rfl rfl rfl rfl rfl rfl f43 rfl sz4 rfl rfl rfl fun h46 u46 => ?_;replace f43 := u46.has f43;replace f42 := f42.upd u46 (by omega);replace f41 := f41.upd u46 (by omega);replace f3 := f3.upd u46 (by omega);replace f6 := f6.upd u46 (by omega);replace fa := fa.upd u46 (by omega);replace fb := fb.upd u46 (by omega);replace f14 := f14.upd u46 (by omega);replace f17 := f17.upd u46 (by omega);replace f31 := f31.upd u46 (by omega);replace f32 := f32.upd u46 (by omega);replace e0 := e0.upd u46 (by omega);apply gE;apply gS;refine gR rfl ?_;refine GoR.call rfl rfl (aCF aFunc21 rfl) (span21_ok) ?_ np;rintro v47 h47 ⟨q, x47⟩;cases q;refine ⟨_, rfl, ?_⟩;replace f43 := f43.ext x47;replace f42 := f42.ext x47;replace f41 := f41.ext x47;replace f3 := f3.ext x47;replace f6 := f6.ext x47;replace fa := fa.ext x47;replace fb := fb.ext x47;replace f14 := f14.ext x47;replace f17 := f17.ext x47;replace f31 := f31.ext x47;replace f32 := f32.ext x47;replace e0 := e0.trans x47;refine GoR.call rfl rfl (aCF aFunc21 rfl) (span21_ok) ?_ np;rintro v48 h48 ⟨q, x48⟩;cases q;refine ⟨_, rfl, ?_⟩;replace f43 := f43.ext x48;replace f42 := f42.ext x48;replace f41 := f41.ext x48;replace f3 := f3.ext x48;replace f6 := f6.ext x48;replace fa := fa.ext x48;replace fb := fb.ext x48;replace f14 := f14.ext x48;replace f17 := f17.ext x48;replace f31 := f31.ext x48;replace f32 := f32.ext x48;replace e0 := e0.trans x48;refine GoR.alloc rfl rfl rfl zt35 rfl rfl fun h49 x49 f49 => ?_;have := e0.1;have := f43.1;have := f42.1;have := f41.1;have := f3.1;have := f6.1;have := fa.1;have := fb.1;have := f14.1;have := f17.1;have := f31.1;have := f32.1;replace f43 := f43.ext x49;replace f42 := f42.ext x49;replace f41 := f41.ext x49;replace f3 := f3.ext x49;replace f6 := f6.ext x49;replace fa := fa.ext x49;replace fb := fb.ext x49;replace f14 := f14.ext x49;replace f17 := f17.ext x49;replace f31 := f31.ext x49;replace f32 := f32.ext x49;replace e0 := e0.trans x49;have := f49.1;refine GoR.alloc rfl rfl rfl zt35 rfl rfl fun h50 x50 f50 => ?_;have := e0.1;have := f49.1;have := f43.1;have := f42.1;have := f41.1;have := f3.1;have := f6.1;have := fa.1;have := fb.1;have := f14.1;have := f17.1;have := f31.1;have := f32.1;replace f49 := f49.ext x50;replace f43 := f43.ext x50;replace f42 := f42.ext x50;replace f41 := f41.ext x50;replace f3 := f3.ext x50;replace f6 := f6.ext x50;replace fa := fa.ext x50;replace fb := fb.ext x50;replace f14 := f14.ext x50;replace f17 := f17.ext x50;replace f31 := f31.ext x50;replace f32 := f32.ext x50;replace e0 := e0.trans x50;have := f50.1;refine GoR.store rfl rfl rfl rfl rfl rfl f49 rfl sz35 rfl rfl rfl fun h51 u51 => ?_;replace f50 := f50.upd u51 (by omega);replace f49 := u51.has f49;replace f43 := f43.upd u51 (by omega);replace f42 := f42.upd u51 (by omega);replace f41 := f41.upd u51 (by omega);replace f3 := f3.upd u51 (by omega);replace f6 := f6.upd u51 (by omega);replace fa := fa.upd u51 (by omega);replace fb := fb.upd u51 (by omega);replace f14 := f14.upd u51 (by omega);replace f17 := f17.upd u51 (by omega);replace f31 := f31.upd u51 (by omega);replace f32 := f32.upd u51 (by omega);replace e0 := e0.upd u51 (by omega);refine GoR.store rfl rfl rfl rfl rfl rfl f50 rfl sz35 rfl rfl rfl fun h52 u52 => ?_;replace f50 := u52.has f50;replace f49 := f49.upd u52 (by omega);replace f43 := f43.upd u52 (by omega);replace f42 := f42.upd u52 (by omega);replace f41 := f41.upd u52 (by omega);replace f3 := f3.upd u52 (by omega);replace f6 := f6.upd u52 (by omega);replace fa := fa.upd u52 (by omega);replace fb := fb.upd u52 (by omega);replace f14 := f14.upd u52 (by omega);replace f17 := f17.upd u52 (by omega);replace f31 := f31.upd u52 (by omega);replace f32 := f32.upd u52 (by omega);replace e0 := e0.upd u52 (by omega);apply gE;apply gS;refine gR rfl ?_;refine gO rfl rfl (ld29 rfl f3 rfl) rfl ?_;refine gP ?_
    have e40 : Ext h h40 := ek.1
    have A40 := A.ext e40
    have hb41 := f41.1
    have hn49 := f49.1
    have hn50 := f50.1
    have hz1 : h40.next < h41.next := by assumption
    have hz2 : h41.next < h42.next := by assumption
    have hz3 : h42.next < h48.next := by assumption
    have hz4 : h48.next < h49.next := by assumption
    have hz5 : h31.next < h40.next := by omega
    have e49 : Ext h40 h52 := ⟨by omega, fun c hc => by
     have z1 := x41.2 c hc
     have z2 := x42.2 c (by omega)
     have z3 := x43.2 c (by have := x42.1; omega)
     have z4 := u44.2.2 c (by omega)
     have z5 := u45.2.2 c (by omega)
     have z6 := u46.2.2 c (by omega)
     have y41 := x41.1
     have y42 := x42.1
     have y43 := x43.1
     have y44 := u44.1
     have y45 := u45.1
     have y46 := u46.1
     have y47 := x47.1
     have y48 := x48.1
     have y49 := x49.1
     have y50 := x50.1
     have z7 := x47.2 c (by omega)
     have z8 := x48.2 c (by omega)
     have z9 := x49.2 c (by omega)
     have z10 := x50.2 c (by omega)
     have z11 := u51.2.2 c (by omega)
     have z12 := u52.2.2 c (by omega)
     rw [z12, z11, z10, z9, z8, z7, z6, z5, z4, z3, z2, z1]⟩
    refine GoR.call rfl rfl (aCF aFunc30 rfl) (each30_ok (F := 31) (caps := [.ptr h.next 0, .ptr ba 0, .ptr h5.next 0, .ptr h30.next 0, .ptr h31.next 0, .ptr h40.next 0, .ptr h41.next 0, .ptr h42.next 0, .ptr h48.next 0, .ptr bb 0, .ptr h49.next 0]) (S := fun x => x = h40.next ∨ x = h41.next ∨ x = h42.next ∨ x = h48.next ∨ x = h49.next) (Inv := fun V h' => Ext h40 h' ∧ (Has h' h.next (.cells .plain [b, d, r, s] 29) ∧ Has h' ba (.cells .plain [.int .i64 (x1 : Nat)] 3) ∧ Has h' h5.next (.cells .plain [.int .i64 D.bs.length] 3) ∧ Has h' h30.next (.cells .plain [sl] 47) ∧ Has h' h31.next (.cells .plain [sh] 47) ∧ Has h' bb (.cells .plain [.int .i64 (x2 : Nat)] 3) ∧ Has h' h13.next (.cells .plain [.int .i64 wl, .int .i64 wh] 35) ∧ Has h' h16.next (.cells .plain [.int .i64 fl, .int .i64 fh] 35)) ∧ (setV (V.map fun l => nx (D.course 0 l) x1) < 2 ^ 6 ∧ setV (V.map fun l => endV (D.course 0 l) 21 x1) < 2 ^ 5) ∧ Has h' h40.next (.cells .plain [.int .i64 ((setV (V.map fun l => nx (D.course 0 l) x1) : Nat) : Int)] 3) ∧ Has h' h41.next (.cells .plain [.int .i64 ((setV (V.map fun l => endV (D.course 0 l) 21 x1) : Nat) : Int)] 3) ∧ Has h' h42.next (.cells .plain [.bool (!V.isEmpty)] 4) ∧ Has h' h48.next (.cells .plain [.int .i64 ((V.map fun l => D.water (D.course 0 l) x1).foldl joinP (1048576, -1)).1, .int .i64 ((V.map fun l => D.water (D.course 0 l) x1).foldl joinP (1048576, -1)).2] 35) ∧ Has h' h49.next (.cells .plain [.int .i64 ((V.map fun l => D.straight (D.course 0 l) x1 x2).foldl joinP (1048576, -1)).1, .int .i64 ((V.map fun l => D.straight (D.course 0 l) x1 x2).foldl joinP (1048576, -1)).2] 35)) O A40 aFunc31 (fun x q => by rcases q with q | q | q | q | q <;> omega) rfl
     (fun V g1 g2 ⟨k0, ⟨k1, k2, k3, k4, k5, k6, k7, k8⟩, kb, c1, c2, c3, c4, c5⟩ e => ⟨k0.trans e, ⟨k1.ext e, k2.ext e, k3.ext e, k4.ext e, k5.ext e, k6.ext e, k7.ext e, k8.ext e⟩, kb, c1.ext e, c2.ext e, c3.ext e, c4.ext e, c5.ext e⟩)
     (fun V l ll h' e hl ⟨k0, ⟨k1, k2, k3, k4, k5, k6, k7, k8⟩, kb, c1, c2, c3, c4, c5⟩ Sl => (each31_ok O A40 Y Z (List.mem_filter.1 hl).1 hx1l hx2l kb.1 kb.2 e Sl k1 k2 k3 k4 k5 c1 c2 c3 c4 k6 c5 ⟨⟨by omega, by omega, by omega, by omega, by omega, by omega⟩, Nat.le_refl _, hz1, hz2, hz3, hz4⟩).mono fun en h'' ⟨q, y, d1, d2, d3, d4, d5⟩ => by
      have hno : ∀ c, c < h40.next → ¬ (c = h40.next ∨ c = h41.next ∨ c = h42.next ∨ c = h48.next ∨ c = h49.next) := fun c hc q => by rcases q with q | q | q | q | q <;> omega
      have hmm := (List.mem_filter.1 hl).1
      have hdn := course_down O hmm 0
      have hcl := course_len D 0 l
      have hle := hdn.le x1 (by omega)
      have hel := end_lt hdn (f := 21) (a := x1) (by omega)
      refine ⟨q, y, y.low k0 (fun c q => by rcases q with q | q | q | q | q <;> omega), ⟨k1.extF y (hno _ (by omega)), k2.extF y (hno _ (by omega)), k3.extF y (hno _ (by omega)), k4.extF y (hno _ (by omega)), k5.extF y (hno _ (by omega)), k6.extF y (hno _ (by omega)), k7.extF y (hno _ (by omega)), k8.extF y (hno _ (by omega))⟩, ?_, ?_, ?_, ?_, ?_, ?_⟩
      ·rw [List.map_append, List.map_append, List.map_cons, List.map_nil, List.map_cons, List.map_nil, set_app, set_app];exact ⟨Nat.or_lt_two_pow kb.1 (Nat.pow_lt_pow_right (by omega) (by omega)), Nat.or_lt_two_pow kb.2 (Nat.pow_lt_pow_right (by omega) (by omega))⟩
      ·rw [List.map_append, List.map_cons, List.map_nil, set_app];exact d1
      ·rw [List.map_append, List.map_cons, List.map_nil, set_app];exact d2
      ·rw [show (!(V ++ [l]).isEmpty) = true from by cases V <;> rfl];exact d3
      ·rw [List.map_append, List.map_cons, List.map_nil, List.foldl_append, water_pair];exact d4
      ·rw [List.map_append, List.map_cons, List.map_nil, List.foldl_append, ← way_straight]
       exact d5)
     e49 (fun x q => by rcases q with q | q | q | q | q <;> omega) ⟨e49, ⟨f3, fa, f6, f31, f32, fb, f14, f17⟩, ⟨Nat.two_pow_pos 6, Nat.two_pow_pos 5⟩, f41, f42, f43, f49, f50⟩) ?_ np
    rintro v60 h60 ⟨q, y60, V, ⟨k0, ⟨k1, k2, k3, k4, k5, k6, k7, k8⟩, kb, c1, c2, c3, c4, c5⟩, hV⟩;cases q;refine ⟨_, rfl, ?_⟩
    have e60 : Ext h h60 := y60.low e0 (fun c q => by rcases q with q | q | q | q | q <;> omega)
    clear e0 e49 f3 f6 fa fb f14 f17 f31 f32 f41 f42 f43 f49 f50 y60 x41 x42 x43 x47 x48 x49 x50 u44 u45 u46 u51 u52
    have e0 := e60
    clear e60 k0
    by_cases hT : D.truths = []
    ·have hVn : V = [] := List.eq_nil_iff_forall_not_mem.2 fun l q => by
      have := (hV l).1 q
      rw [hT] at this;cases this
     subst hVn;rw [if_pos hT] at hev hnv hdv hwv hfv
     have hfv2 : (zSp : Int × Int) = (fl, fh) := by
      split at hfv
      ·exact congrArg Prod.fst hfv
      ·exact congrArg Prod.fst hfv
     have g1 : wl = 0 := (congrArg Prod.fst hwv).symm
     have g2 : wh = 0 := (congrArg Prod.snd hwv).symm
     have g3 : fl = 0 := (congrArg Prod.fst hfv2).symm
     have g4 : fh = 0 := (congrArg Prod.snd hfv2).symm
     rw [g1, g2] at k7;rw [g3, g4] at k8;clear hfv hwv hfv2;subst hev;subst hnv;subst hdv
     have c3' : Has h60 h42.next (.cells .plain [.bool false] 4) := c3
     clear c3;apply gE;iterate 2 apply gS
     refine gR rfl ?_;refine gO rfl rfl (ld4 rfl c3' rfl) rfl ?_;refine gP ?_;apply gE;refine gC (b := true) rfl ?_;apply gS;refine gR rfl ?_;refine gP ?_;refine gO rfl rfl (kET rfl rfl) rfl ?_;iterate 2 refine gP ?_
     refine gO rfl rfl (kET rfl rfl) rfl ?_;iterate 3 refine gP ?_
     refine gO rfl rfl (kET rfl rfl) rfl ?_;iterate 2 refine gP ?_
     refine gO rfl rfl (ld35 rfl k7 rfl) rfl ?_;refine gO rfl rfl (aOp_build zt35 hu35 pl35 rfl rfl) rfl ?_;refine gO rfl rfl (aOp_eqlSpan spanT35 rfl rfl (r := true) (by simp)) rfl ?_;iterate 2 refine gP ?_
     refine gO rfl rfl (ld35 rfl k8 rfl) rfl ?_;refine gO rfl rfl (aOp_build zt35 hu35 pl35 rfl rfl) rfl ?_;refine gO rfl rfl (aOp_eqlSpan spanT35 rfl rfl (r := true) (by simp)) rfl ?_;iterate 2 refine gP ?_
     refine GoR.call rfl rfl (aCF aFunc20 rfl) (awake_ok) ?_ np;rintro v61 h61 ⟨q, x61⟩;cases q;refine ⟨_, rfl, ?_⟩;replace k1 := k1.ext x61;replace k2 := k2.ext x61;replace k3 := k3.ext x61;replace k4 := k4.ext x61;replace k5 := k5.ext x61;replace k6 := k6.ext x61;replace k7 := k7.ext x61;replace k8 := k8.ext x61;replace c1 := c1.ext x61;replace c2 := c2.ext x61;replace c4 := c4.ext x61;replace c5 := c5.ext x61;replace c3' := c3'.ext x61;replace e0 := e0.trans x61;iterate 2 refine gP ?_
     apply gE;exact gW Try.func5 rfl rfl ⟨rfl, e0⟩
    ·have hVn : V ≠ [] := fun q => by
      obtain ⟨l, hl⟩ := List.exists_mem_of_ne_nil _ hT
      have := (hV l).2 hl
      rw [q] at this;cases this
     rw [if_neg hT] at hev hnv hdv hwv hfv
     have c3' : Has h60 h42.next (.cells .plain [.bool true] 4) := by
      have : (!V.isEmpty) = true := by cases V with | nil => exact absurd rfl hVn | cons a b => rfl
      rw [this] at c3;exact c3
     clear c3
     have hbw : ∀ l, l ∈ D.truths → (0 ≤ (D.water (D.course 0 l) x1).1 ∧ (D.water (D.course 0 l) x1).1 ≤ 100) ∧ (0 ≤ (D.water (D.course 0 l) x1).2 ∧ (D.water (D.course 0 l) x1).2 ≤ 100) := fun l hl => by
      have hmm := (List.mem_filter.1 hl).1
      have hdn := course_down O hmm 0
      have hcl := course_len D 0 l
      rw [water_pair]
      dsimp only
      rw [← acc_all (c := D.course 0 l) (lows D) (a := x1) (by omega), ← acc_all (c := D.course 0 l) (highs D) (a := x1) (by omega)]
      exact ⟨acc_in hdn (lows_in O) (by omega) (by omega), acc_in hdn (highs_in O) (by omega) (by omega)⟩
     have hM : ∀ {α : Type} (f : List Int → α), D.truths.map f ≠ [] := fun f q => hT (List.map_eq_nil_iff.1 q)
     have g1 : setV (V.map fun l => nx (D.course 0 l) x1) = D.nexts x1 := set_same (map_same _ hV)
     have g2 : setV (V.map fun l => endV (D.course 0 l) 21 x1) = D.endsS x1 := set_same (map_same _ hV)
     have g3 : (V.map fun l => D.water (D.course 0 l) x1).foldl joinP (1048576, -1) = D.waters x1 := join_same (map_same _ hV) (hM _) fun p hp => by
      obtain ⟨l, hl, rfl⟩ := List.mem_map.1 hp
      have := hbw l hl
      dsimp only
      omega
     have g4 : (V.map fun l => D.straight (D.course 0 l) x1 x2).foldl joinP (1048576, -1) = D.flow x1 x2 := join_same (map_same _ hV) (hM _) fun p hp => by
      obtain ⟨l, hl, rfl⟩ := List.mem_map.1 hp
      have := hbw l hl
      unfold DrainV.straight
      split
      ·dsimp only
       omega
      ·dsimp only
       omega
     rw [g1, hnv] at c1;rw [g2, hdv] at c2;rw [g3, hwv] at c4;rw [g4] at c5;clear g1 g2 g3 g4 hbw;subst hev
     by_cases hxx : x1 = x2
     ·obtain ⟨⟨gl, gh⟩, hgg⟩ : ∃ z, D.flow x1 x2 = z := ⟨_, rfl⟩
      rw [hgg] at c5
      dsimp only at c4 c5
      apply gE;iterate 2 apply gS
      refine gR rfl ?_;refine gO rfl rfl (ld4 rfl c3' rfl) rfl ?_;refine gP ?_;apply gE;refine gC (b := false) rfl ?_;refine gD ?_;apply gS;refine gR rfl ?_;refine gP ?_;refine gO rfl rfl (kET rfl rfl) rfl ?_;iterate 2 refine gP ?_
      refine gO rfl rfl (ld3 rfl c1 rfl) rfl ?_;refine gO rfl rfl (kET rfl rfl) rfl ?_;iterate 3 refine gP ?_
      refine gO rfl rfl (ld3 rfl c2 rfl) rfl ?_;refine gO rfl rfl (kET rfl rfl) rfl ?_;iterate 2 refine gP ?_
      refine gO rfl rfl (ld35 rfl k7 rfl) rfl ?_;refine gO rfl rfl (ld35 rfl c4 rfl) rfl ?_;refine gO rfl rfl (aOp_eqlSpan spanT35 rfl rfl (r := true) (by simp)) rfl ?_;iterate 2 refine gP ?_
      refine gO rfl rfl (ld3 rfl k2 rfl) rfl ?_;refine gO rfl rfl (ld3 rfl k6 rfl) rfl ?_;refine gO rfl rfl (kET rfl rfl) rfl ?_;refine gP ?_;iterate 3 refine GoR.skip rfl rfl rfl ?_
      iterate 3 refine gP ?_
      refine GoR.call rfl rfl (aCF aFunc20 rfl) (awake_ok) ?_ np;rintro v61 h61 ⟨q, x61⟩;cases q;refine ⟨_, rfl, ?_⟩;replace k1 := k1.ext x61;replace k2 := k2.ext x61;replace k3 := k3.ext x61;replace k4 := k4.ext x61;replace k5 := k5.ext x61;replace k6 := k6.ext x61;replace k7 := k7.ext x61;replace k8 := k8.ext x61;replace c1 := c1.ext x61;replace c2 := c2.ext x61;replace c4 := c4.ext x61;replace c3' := c3'.ext x61;replace c5 := c5.ext x61;replace e0 := e0.trans x61;iterate 2 refine gP ?_
      apply gE;exact gW Try.func5 rfl rfl ⟨rfl, e0⟩
     ·rw [if_neg hxx] at hfv;rw [show D.flow x1 x2 = (fl, fh) from congrArg Prod.fst hfv] at c5
      dsimp only at c4 c5
      apply gE;iterate 2 apply gS
      refine gR rfl ?_;refine gO rfl rfl (ld4 rfl c3' rfl) rfl ?_;refine gP ?_;apply gE;refine gC (b := false) rfl ?_;refine gD ?_;apply gS;refine gR rfl ?_;refine gP ?_;refine gO rfl rfl (kET rfl rfl) rfl ?_;iterate 2 refine gP ?_
      refine gO rfl rfl (ld3 rfl c1 rfl) rfl ?_;refine gO rfl rfl (kET rfl rfl) rfl ?_;iterate 3 refine gP ?_
      refine gO rfl rfl (ld3 rfl c2 rfl) rfl ?_;refine gO rfl rfl (kET rfl rfl) rfl ?_;iterate 2 refine gP ?_
      refine gO rfl rfl (ld35 rfl k7 rfl) rfl ?_;refine gO rfl rfl (ld35 rfl c4 rfl) rfl ?_;refine gO rfl rfl (aOp_eqlSpan spanT35 rfl rfl (r := true) (by simp)) rfl ?_;iterate 2 refine gP ?_
      refine gO rfl rfl (ld3 rfl k2 rfl) rfl ?_;refine gO rfl rfl (ld3 rfl k6 rfl) rfl ?_;refine gO rfl rfl (kEF rfl rfl) rfl ?_;refine gP ?_;refine gO rfl rfl (ld35 rfl k8 rfl) rfl ?_;refine gO rfl rfl (ld35 rfl c5 rfl) rfl ?_;refine gO rfl rfl (aOp_eqlSpan spanT35 rfl rfl (r := true) (by simp)) rfl ?_;iterate 3 refine gP ?_
      refine GoR.call rfl rfl (aCF aFunc20 rfl) (awake_ok) ?_ np;rintro v61 h61 ⟨q, x61⟩;cases q;refine ⟨_, rfl, ?_⟩;replace k1 := k1.ext x61;replace k2 := k2.ext x61;replace k3 := k3.ext x61;replace k4 := k4.ext x61;replace k5 := k5.ext x61;replace k6 := k6.ext x61;replace k7 := k7.ext x61;replace k8 := k8.ext x61;replace c1 := c1.ext x61;replace c2 := c2.ext x61;replace c4 := c4.ext x61;replace c5 := c5.ext x61;replace c3' := c3'.ext x61;replace e0 := e0.trans x61;iterate 2 refine gP ?_
      apply gE;exact gW Try.func5 rfl rfl ⟨rfl, e0⟩
theorem law5 {D : DrainV} {b d r s : AVal} {h : AH} (A : DrainAt h D b d r s) (L : DrainL D) {w1 w2 : Int} (h1 : 0 ≤ w1 ∧ w1 < 256) (h2 : 0 ≤ w2 ∧ w2 < 256) : Runs Try.prog 5 [.agg (dC b d r s), .int .u8 w1, .int .u8 w2] h (fun en h' => en = .ret (.bool true) ∧ Ext h h') := by
 by_cases B : DrainB D
 ·by_cases O : D.Ok
  ·obtain ⟨w1, rfl⟩ := Int.eq_ofNat_of_zero_le h1.1
   obtain ⟨w2, rfl⟩ := Int.eq_ofNat_of_zero_le h2.1
   exact law5_ok A O (by omega) (by omega)
  ·exact law5_bad A B O
 ·exact law5_far A L B
end Go.Proofs.Ytkhiagdmbajimaa

namespace Go.AbsE
open Go Go.RowKit
section
variable {P : Program}
theorem VRs.ints {e : Env} : ∀ l : List Int, VRs e (l.map fun x => AVal.int .i64 x) (l.map fun x => Value.int .i64 x) := by
 intro l
 induction l with
 | nil => exact .nil
 | cons a l ih => exact .cons (.int _ _) ih
theorem HR.openWin {e : Env} {h : AH} {W : World} (r : HR P (Base.all W) e h W) {B lo : Nat} {PRE CS junk : List Value} {el : TypeId} {fr : Nat × Nat} {cs : List AVal} (hB : W.heap[B]? = some (.cells (PRE ++ (CS ++ junk)).toArray el fr)) (hp : PRE.length = lo) (hv : ∀ e, VRs e cs CS) :
  ∃ e' h', Env.le e e' ∧ HR P (Base.all W) e' h' W ∧ Ext h h' ∧ e' h.next = some (B, 0) ∧ Has h' h.next (.win lo cs) := by
 obtain ⟨h', k⟩ := new_some h (.win lo cs)
 obtain ⟨_, x1, x2⟩ := new_ext k
 obtain ⟨n1, n2, n3⟩ := AH.get_new k
 have hle := Env.le_ext (x := (B, 0)) r.fresh
 have hlt := (Array.getElem?_eq_some_iff.1 hB).1
 refine ⟨e.ext h.next (B, 0), h', hle, ?_, x1, Env.ext_same _ _ _, x2⟩
 refine { dom := ?_, blk := ?_, inj := ?_, imm := ?_, os := r.os, tape := r.tape, output := r.output, size := r.size, old := r.old, young := r.young }
 ·intro b' x kx
  rw [Env.ext_at] at kx
  by_cases hb' : b' = h.next
  ·omega
  ·rw [if_neg hb'] at kx; have := r.dom _ _ kx; omega
 ·intro b' o' kx
  rw [n3] at kx
  by_cases hb' : b' = h.next
  ·rw [if_pos hb'] at kx
   cases kx
   subst hb'
   exact ⟨B, 0, _, Env.ext_same _ _ _, (fun q => by cases q), hB, .win (hv _) hp⟩
  ·rw [if_neg hb'] at kx
   obtain ⟨B', c', O', k1, k2, k3, k4⟩ := r.blk _ _ kx
   exact ⟨B', c', O', hle.1 _ _ k1, k2, k3, k4.mono hle⟩
 ·intro b1 b2 B1 c1 c2 o1 o2 k1 k2 hro e1 e2
  rw [n3] at k1 k2
  rw [Env.ext_at] at e1 e2
  by_cases q1 : b1 = h.next
  ·rw [if_pos q1] at k1; cases k1; cases hro
  ·rw [if_neg q1] at k1 e1
   by_cases q2 : b2 = h.next
   ·rw [if_pos q2] at e2
    cases e2
    obtain ⟨B', c', O', j1, j2, _, _⟩ := r.blk _ _ k1
    rw [e1] at j1
    cases j1
    exact absurd hlt (j2 hro)
   ·rw [if_neg q2] at k2 e2
    exact r.inj _ _ _ _ _ _ _ k1 k2 hro e1 e2
 ·intro B1 CS' hi
  obtain ⟨i1, i2⟩ := r.imm B1 CS' hi
  refine ⟨i1, fun b' o' c' kx hro ke => ?_⟩
  rw [n3] at kx
  rw [Env.ext_at] at ke
  by_cases q : b' = h.next
  ·rw [if_pos q] at kx; cases kx; cases hro
  ·rw [if_neg q] at kx ke; exact i2 b' o' c' kx hro ke
end
end Go.AbsE

namespace Go.AbsE
open Go Go.RowKit
section
variable {P : Program}
theorem VRs.kinds {K : Type} {va : K → AVal} {vv : K → Value} (hvr : ∀ e x, VR e (va x) (vv x)) {e : Env} : ∀ l : List K, VRs e (l.map fun x => va x) (l.map fun x => vv x) := by
 intro l
 induction l with
 | nil => exact .nil
 | cons a l ih => exact .cons (hvr _ _) ih
theorem rowsG_eq {K : Type} {vv : K → Value} {C : List Value} {off sz : Nat} : ∀ (len : Nat) (f : Nat → List K), (∀ i, i < len → (f i).length = sz ∧ ∀ k n, (f i)[k]? = some n → C[off + i * sz + k]? = some (vv n)) →
  (C.drop off).take (len * sz) = (((List.range len).map f).flatten).map fun x => vv x := by
 intro len
 induction len with
 | zero => intro f _; simp
 | succ len ih =>
  intro f hf
  have h1 := ih f fun i hi => hf i (by omega)
  obtain ⟨l1, l2⟩ := hf len (by omega)
  rw [Nat.add_mul, Nat.one_mul, List.take_add, h1, List.range_succ, List.map_append, List.flatten_append, List.map_append]
  congr 1
  simp only [List.map_cons, List.map_nil, List.flatten_cons, List.flatten_nil, List.append_nil]
  rw [List.drop_drop]
  refine List.ext_getElem? fun k => ?_
  rw [List.getElem?_take, List.getElem?_drop, List.getElem?_map]
  by_cases hk : k < sz
  ·rw [if_pos hk]
   obtain ⟨n, hn⟩ : ∃ n, (f len)[k]? = some n := ⟨(f len)[k]'(by omega), by simp⟩
   rw [hn]
   exact l2 k n hn
  ·rw [if_neg hk]
   have : (f len)[k]? = none := by simp; omega
   rw [this]
   rfl
end
end Go.AbsE

namespace Go.AbsE
open Go Go.RowKit
section
variable {P : Program}
theorem HR.openRowsC {K : Type} (va : K → AVal) (vv : K → Value) (hvr : ∀ e x, VR e (va x) (vv x)) {e : Env} {h : AH} {W : World} (r : HR P (Base.all W) e h W) {a : Addr} {len cap sz : Nat} {C : Array Value} {el : TypeId} {fr : Nat × Nat} (hB : W.heap[a.block]? = some (.cells C el fr)) (hspot : a.spot = none) (f : Nat → List K)
  (hf : ∀ i, i < len → (f i).length = sz ∧ ∀ k n, (f i)[k]? = some n → W.cell? (a.add (i * sz + k)) = some (vv n)) :
  ∃ e' h' s, Env.le e e' ∧ HR P (Base.all W) e' h' W ∧ Ext h h' ∧ VR e' s (.slice (some a) len cap) ∧ SliceOf h' sz s (((List.range len).map f).map fun l => l.map fun x => va x) ∧ sameA s s = true ∧ ∃ b o, s = .slice b o len cap := by
 obtain ⟨B, off, spot⟩ := a
 dsimp only at hB hspot
 subst hspot
 have hcell : ∀ i, i < len → (f i).length = sz ∧ ∀ k n, (f i)[k]? = some n → C.toList[off + i * sz + k]? = some (vv n) := fun i hi => by
  obtain ⟨h1, h2⟩ := hf i hi
  refine ⟨h1, fun k n hn => ?_⟩
  have := h2 k n hn
  have e1 := addr_add B off (i * sz + k)
  rw [e1] at this
  unfold World.cell? at this
  rw [hB] at this
  simp only [Option.isSome_none, Bool.false_eq_true, if_false] at this
  rw [Array.getElem?_toList, Nat.add_assoc]
  exact this
 have hrows := rowsG_eq len f hcell
 let R := (List.range len).map f
 have hRl : ∀ l, l ∈ R → l.length = sz := fun l hl => by
  obtain ⟨i, hi, rfl⟩ := List.mem_map.1 hl
  exact (hf i (List.mem_range.1 hi)).1
 have hRlen : R.length = len := by simp [R]
 have hlen : (C.toList.drop off).take (len * sz) = (R.flatten).map fun x => vv x := hrows
 have hfl : R.flatten.length = len * sz := by
  have : ∀ {L : List (List K)}, (∀ l, l ∈ L → l.length = sz) → L.flatten.length = L.length * sz := by
   intro L
   induction L with
   | nil => intro _; simp
   | cons a L ih => intro h; simp only [List.flatten_cons, List.length_append, h a (by simp), ih fun l q => h l (by simp [q]), List.length_cons, Nat.add_mul]; omega
  rw [this hRl, hRlen]
 by_cases h0 : len * sz = 0
 ·-- nothing of it is read
  obtain ⟨e', h', k1, k2, k3, k4, k5⟩ := r.openWin (B := B) (lo := 0) (PRE := []) (CS := []) (junk := C.toList) (el := el) (fr := fr) (cs := []) (by simpa using hB) rfl (fun _ => .nil)
  refine ⟨e', h', .slice h.next off len cap, k1, k2, k3, .slice k4, .mk rfl rfl k5.1 (by simp) (fun l hl => ?_) ?_, by simp [sameA], _, _, rfl⟩
  ·obtain ⟨x, hx, rfl⟩ := List.mem_map.1 hl
   rw [List.length_map]
   exact hRl x hx
  ·have hnil : R.flatten = [] := List.eq_nil_of_length_eq_zero (by omega)
   unfold loadCells
   rw [k5.2]
   have e1 : ((R.map fun l => l.map fun x => va x).length * sz) = 0 := by rw [List.length_map, hRlen]; exact h0
   have e2 : (R.map fun l => l.map fun x => va x).flatten = [] := by rw [← List.map_flatten, hnil]; rfl
   show cond (Nat.ble 0 off) (slice? [] (off - 0) ((R.map fun l => l.map fun x => va x).length * sz)) none = some _
   rw [e1, e2, show Nat.ble 0 off = true from Nat.ble_eq_true_of_le (Nat.zero_le _)]
   simp [slice?]
 ·have hle : off + len * sz ≤ C.toList.length := by
   have : ((C.toList.drop off).take (len * sz)).length = len * sz := by rw [hlen, List.length_map, hfl]
   rw [List.length_take, List.length_drop] at this
   omega
  have hC : C = (C.toList.take off ++ ((R.flatten.map fun x => vv x) ++ C.toList.drop (off + len * sz))).toArray := by
   rw [← hlen]
   have : C.toList.take off ++ ((C.toList.drop off).take (len * sz) ++ C.toList.drop (off + len * sz)) = C.toList := by
    rw [← List.drop_drop, List.take_append_drop, List.take_append_drop]
   rw [this]
  obtain ⟨e', h', k1, k2, k3, k4, k5⟩ := r.openWin (B := B) (lo := off) (PRE := C.toList.take off) (CS := R.flatten.map fun x => vv x) (junk := C.toList.drop (off + len * sz)) (el := el) (fr := fr) (cs := R.flatten.map fun x => va x) (by rw [← hC]; exact hB) (by rw [List.length_take]; omega) (fun _ => VRs.kinds hvr _)
  refine ⟨e', h', .slice h.next off len cap, k1, k2, k3, .slice k4, .mk rfl rfl k5.1 (by simp) (fun l hl => ?_) ?_, by simp [sameA], _, _, rfl⟩
  ·obtain ⟨x, hx, rfl⟩ := List.mem_map.1 hl
   rw [List.length_map]
   exact hRl x hx
  ·unfold loadCells
   rw [k5.2]
   have e1 : ((R.map fun l => l.map fun x => va x).length * sz) = len * sz := by rw [List.length_map, hRlen]
   have e2 : (R.map fun l => l.map fun x => va x).flatten = R.flatten.map fun x => va x := by rw [← List.map_flatten]
   show cond (Nat.ble off off) (slice? (R.flatten.map fun x => va x) (off - off) ((R.map fun l => l.map fun x => va x).length * sz)) none = some _
   rw [e1, e2, show Nat.ble off off = true from Nat.ble_eq_true_of_le (Nat.le_refl _), Nat.sub_self]
   exact slice_all (by rw [List.length_map, hfl])
end
end Go.AbsE

namespace Go.AbsE
open Go
set_option linter.unusedSimpArgs false
set_option linter.unusedVariables false
section
variable {P : Program} {h : AH} {dst : Option Tmp} {ty tt el : TypeId} {pos : String} {after : Array Edge} {guard : Option (Nat × Bool)} {x y : Operand}
def CutS (s : AVal) (n : Nat) : Prop := n ≠ 0 → ∃ b off cap, s = .slice b off n cap ∧ n ≤ cap
theorem SliceOf.take {sz b off n cap cap' i : Nat} {L : List (List AVal)} (k : SliceOf h sz (.slice b off n cap) L) (hL : L.length = n) (hi : i ≤ n) : SliceOf h sz (.slice b off i cap') (L.take i) := by
 cases k with
 | mk hs hn hb hl hz hc =>
  rw [show aSlElems (.slice b off n cap) = some (b, off, n) from rfl] at hs
  cases hs
  have hlen : (L.take i).length = i := by rw [List.length_take]; omega
  refine .mk (b := b) (off := off) (len := i) rfl rfl hb hlen (fun l hl => hz l (List.mem_of_mem_take hl)) ?_
  have hp := loadCells_part (k := 0) (m := i * sz) hc (by rw [Nat.zero_add]; exact Nat.mul_le_mul_right _ (by omega))
  rw [Nat.add_zero] at hp
  rw [hlen, hp]
  congr 1
  have e1 : (L.take i).flatten.length = i * sz := by
   rw [flatten_len (sz := sz) (fun l hl => hz l (List.mem_of_mem_take hl)), hlen]
  have e3 : L.flatten = (L.take i).flatten ++ (L.drop i).flatten := by rw [← List.flatten_append, List.take_append_drop]
  rw [List.drop_zero, e3, ← e1, List.take_left]
end
end Go.AbsE

namespace Go.Proofs.Ytkhiagdmbajimaa
open Go Go.AbsE Go.ChangeShapes Go.WideShapes Go.ChangeAt Go.RowKit
set_option linter.unusedSimpArgs false
set_option maxRecDepth 100000
set_option linter.unusedVariables false
theorem cells29 : Try.prog.cellsOf 29 = 4 := by kernel_rfl
theorem cells3 : Try.prog.cellsOf 3 = 1 := by kernel_rfl
theorem cells35 : Try.prog.cellsOf 35 = 2 := by kernel_rfl
theorem cells32 : Try.prog.cellsOf 32 = 2 := by kernel_rfl
theorem cells57 : Try.prog.cellsOf 57 = 3 := by kernel_rfl
theorem cells60 : Try.prog.cellsOf 60 = 4 := by kernel_rfl
theorem cells25 : Try.prog.cellsOf 25 = 1 := by kernel_rfl
theorem cells26 : Try.prog.cellsOf 26 = 1 := by kernel_rfl
theorem cells27 : Try.prog.cellsOf 27 = 1 := by kernel_rfl
theorem ctypes29 : Try.prog.cellTypes Try.prog.depth 29 = some [25, 26, 27, 26] := by kernel_rfl
theorem laidOut : laidOutB Try.prog = true := by kernel_rfl
def inI64 (n : Int) : Prop := -9223372036854775808 ≤ n ∧ n ≤ 9223372036854775807
theorem wf_in {n : Int} (h : (Lit.int .i64 n).wf = true) : inI64 n := by
 simp only [Lit.wf, Bool.and_eq_true, decide_eq_true_eq] at h
 have h1 : IntKind.i64.min = -9223372036854775808 := by decide
 have h2 : IntKind.i64.max = 9223372036854775807 := by decide
 rw [h1, h2] at h
 constructor <;> omega
variable {H : Type} {enc : TypeId × Value → H} {W : World} {base : Nat} {spare : Nat → Bool} {held : Bool}
theorem int_row {n : Nat} {cs : List Value} {x : DataW H × List MemPlace} (h : DataW.trod enc Try.prog W base spare held n 3 cs = some x) : ∃ a : Int, cs = [.int .i64 a] ∧ inI64 a := by
 obtain ⟨a, h1, _, h3⟩ := DataW.trod_int Try.underlying3 h
 exact ⟨a, h1, wf_in h3⟩
theorem span_row {n : Nat} {cs : List Value} {x : DataW H × List MemPlace} (h : DataW.trod enc Try.prog W base spare held n 35 cs = some x) : ∃ a b : Int, cs = [.int .i64 a, .int .i64 b] := by
 obtain ⟨y0, y1, k, _, hl, h0, h1⟩ := ChangeShapes.trod_struct2 Try.underlying35 h
 rw [cells35] at hl
 dsimp only at h0 h1
 rw [cells3] at h0 h1
 obtain ⟨a, ha, _⟩ := int_row h0
 obtain ⟨b, hb, _⟩ := int_row h1
 match cs, hl with
 | [c0, c1], _ =>
  simp at ha hb
  exact ⟨a, b, by rw [ha, hb]⟩
theorem list2 {α : Type} {l : List α} (h : l.length = 2) : ∃ c0 c1, l = [c0, c1] := by
 match l, h with
 | [c0, c1], _ => exact ⟨c0, c1, rfl⟩
theorem list3 {α : Type} {l : List α} (h : l.length = 3) : ∃ c0 c1 c2, l = [c0, c1, c2] := by
 match l, h with
 | [c0, c1, c2], _ => exact ⟨c0, c1, c2, rfl⟩
theorem list4 {α : Type} {l : List α} (h : l.length = 4) : ∃ c0 c1 c2 c3, l = [c0, c1, c2, c3] := by
 match l, h with
 | [c0, c1, c2, c3], _ => exact ⟨c0, c1, c2, c3, rfl⟩
theorem way_row {n : Nat} {cs : List Value} {x : DataW H × List MemPlace} (h : DataW.trod enc Try.prog W base spare held n 32 cs = some x) : ∃ r : List Int, r.length = 2 ∧ cs = r.map fun x => Value.int .i64 x := by
 obtain ⟨y0, y1, k, _, hl, h0, h1⟩ := ChangeShapes.trod_struct2 Try.underlying32 h
 rw [cells32] at hl
 dsimp only at h0 h1
 rw [cells3] at h0 h1
 obtain ⟨a, ha, _⟩ := int_row h0
 obtain ⟨b, hb, _⟩ := int_row h1
 match cs, hl with
 | [c0, c1], _ =>
  simp at ha hb
  exact ⟨[a, b], rfl, by rw [ha, hb]; rfl⟩
theorem bank_row {n : Nat} {cs : List Value} {x : DataW H × List MemPlace} (h : DataW.trod enc Try.prog W base spare held n 60 cs = some x) : ∃ r : List Int, r.length = 4 ∧ cs = r.map fun x => Value.int .i64 x := by
 obtain ⟨xs, m, _, _, hl, hlen, hfl⟩ := DataW.trod_struct Try.underlying60 h
 rw [cells60] at hl
 obtain ⟨c0, c1, c2, c3, rfl⟩ := list4 hl
 obtain ⟨y0, y1, rfl⟩ := list2 hlen
 have t0 : DataW.trod enc Try.prog W base spare held m 35 [c0, c1] = some y0 := by
  have this : DataW.trod enc Try.prog W base spare held m 35 (([c0, c1, c2, c3].drop 0).take (Try.prog.cellsOf 35)) = [y0, y1][0]? := hfl 0 _ rfl
  rw [cells35] at this;exact this
 have t1 : DataW.trod enc Try.prog W base spare held m 35 [c2, c3] = some y1 := by
  have this : DataW.trod enc Try.prog W base spare held m 35 (([c0, c1, c2, c3].drop 2).take (Try.prog.cellsOf 35)) = [y0, y1][1]? := hfl 1 _ rfl
  rw [cells35] at this;exact this
 obtain ⟨a0, a1, e0⟩ := span_row t0
 obtain ⟨a2, a3, e1⟩ := span_row t1
 simp at e0 e1
 exact ⟨[a0, a1, a2, a3], rfl, by rw [e0.1, e0.2, e1.1, e1.2]; rfl⟩
theorem right_row {n : Nat} {cs : List Value} {x : DataW H × List MemPlace} (h : DataW.trod enc Try.prog W base spare held n 57 cs = some x) : ∃ r : List Int, r.length = 3 ∧ cs = r.map fun x => Value.int .i64 x := by
 obtain ⟨xs, m, _, _, hl, hlen, hfl⟩ := DataW.trod_struct Try.underlying57 h
 rw [cells57] at hl
 obtain ⟨c0, c1, c2, rfl⟩ := list3 hl
 obtain ⟨y0, y1, y2, rfl⟩ := list3 hlen
 have t0 : DataW.trod enc Try.prog W base spare held m 3 [c0] = some y0 := by
  have this : DataW.trod enc Try.prog W base spare held m 3 (([c0, c1, c2].drop 0).take (Try.prog.cellsOf 3)) = [y0, y1, y2][0]? := hfl 0 _ rfl
  rw [cells3] at this;exact this
 have t1 : DataW.trod enc Try.prog W base spare held m 3 [c1] = some y1 := by
  have this : DataW.trod enc Try.prog W base spare held m 3 (([c0, c1, c2].drop 1).take (Try.prog.cellsOf 3)) = [y0, y1, y2][1]? := hfl 1 _ rfl
  rw [cells3] at this;exact this
 have t2 : DataW.trod enc Try.prog W base spare held m 3 [c2] = some y2 := by
  have this : DataW.trod enc Try.prog W base spare held m 3 (([c0, c1, c2].drop 2).take (Try.prog.cellsOf 3)) = [y0, y1, y2][2]? := hfl 2 _ rfl
  rw [cells3] at this;exact this
 obtain ⟨a0, e0, _⟩ := int_row t0
 obtain ⟨a1, e1, _⟩ := int_row t1
 obtain ⟨a2, e2, _⟩ := int_row t2
 simp at e0 e1 e2
 exact ⟨[a0, a1, a2], rfl, by rw [e0, e1, e2]; rfl⟩
theorem slice_okw {t el : TypeId} {a : Addr} {len cap : Nat} {bs : Nat} (ht : Try.prog.underlying t = some (.slice el)) (h : Cell.okWide Try.prog W .any bs t (.slice (some a) len cap)) : a.spot = none ∧ ∃ C e fr, W.heap[a.block]? = some (.cells C e fr) := by
 unfold Cell.okWide at h
 rw [ht] at h
 dsimp only at h
 unfold Cell.ok at h
 rw [ht] at h
 dsimp only at h
 obtain ⟨_, _, _, h2, row, n, h3, _⟩ := h
 refine ⟨h2, ?_⟩
 unfold World.shape? at h3
 split at h3
 ·rename_i c e fr hq
  exact ⟨c, e, fr, hq⟩
 ·cases h3
theorem slice_cap {t el : TypeId} {a : Addr} {len cap : Nat} {bs : Nat} (ht : Try.prog.underlying t = some (.slice el)) (h : Cell.okWide Try.prog W .any bs t (.slice (some a) len cap)) : len < 9223372036854775808 := by
 unfold Cell.okWide at h
 rw [ht] at h
 dsimp only at h
 unfold Cell.ok at h
 rw [ht] at h
 dsimp only at h
 obtain ⟨h1, h2, _⟩ := h
 have : IntKind.i64.max = 9223372036854775807 := by decide
 rw [this] at h2
 omega
theorem slice_le {t el : TypeId} {a : Addr} {len cap : Nat} {bs : Nat} (ht : Try.prog.underlying t = some (.slice el)) (h : Cell.okWide Try.prog W .any bs t (.slice (some a) len cap)) : len ≤ cap := by
 unfold Cell.okWide at h
 rw [ht] at h
 dsimp only at h
 unfold Cell.ok at h
 rw [ht] at h
 dsimp only at h
 exact h.1
theorem rows_of {t el : TypeId} {sz fuel : Nat} {c : Value} {y : DataW H × List MemPlace} {bs : Nat} (ht : Try.prog.underlying t = some (.slice el)) (hsz : Try.prog.cellsOf el = sz)
  (hrow : ∀ {n : Nat} {cs : List Value} {x : DataW H × List MemPlace}, DataW.trod enc Try.prog W 0 (fun _ => true) true n el cs = some x → ∃ r : List Int, r.length = sz ∧ cs = r.map fun x => Value.int .i64 x)
  (h : DataW.trod enc Try.prog W 0 (fun _ => true) true fuel t [c] = some y) (hok : Cell.okWide Try.prog W .any bs t c) {e : Env} {hh : AH} (r : HR Try.prog (Base.all W) e hh W) :
  ∃ e' h' s, ∃ R : List (List Int), Env.le e e' ∧ HR Try.prog (Base.all W) e' h' W ∧ Ext hh h' ∧ VR e' s c ∧ (∀ l, l ∈ R → l.length = sz) ∧ SliceOf h' sz s (R.map fun l => l.map fun x => AVal.int .i64 x) ∧ R.length < 9223372036854775808 ∧ CutS s R.length := by
 rcases Deep.open_slice ht h with ⟨hcs, _⟩ | ⟨a, len, cap, m, n, D, Pl, hcs, _, hl, _, hmm, _, hx⟩
 ·simp at hcs
  subst hcs;exact ⟨e, hh, .nilslice, [], Env.le_refl e, r, Ext.refl _, .nilslice, (fun _ q => by cases q), .nil, by decide, fun q => absurd rfl q⟩
 ·simp at hcs
  subst hcs
  obtain ⟨hs, C, el', fr, hB⟩ := slice_okw ht hok
  have hcap := slice_cap ht hok
  have hle := slice_le ht hok
  have hm : m = cap := by simpa using hmm
  have each : ∀ i, ∃ rr : List Int, i < len → rr.length = sz ∧ ∀ k n, rr[k]? = some n → W.cell? (a.add (i * sz + k)) = some (.int .i64 n) := by
   intro i
   by_cases hi : i < len
   ·obtain ⟨cs', h1, h2⟩ := hx i (by omega)
    obtain ⟨rr, hr1, hr2⟩ := hrow h2
    rw [hsz] at h1
    obtain ⟨_, hlen, hc⟩ := World.cells?_some h1
    refine ⟨rr, fun _ => ⟨hr1, fun k n hk => ?_⟩⟩
    have hkl := (List.getElem?_eq_some_iff.1 hk).1
    have := hc k (by omega)
    obtain ⟨B, off, spot⟩ := a
    dsimp only at hs
    subst hs;rw [addr_add, addr_add] at this;rw [addr_add, ← Nat.add_assoc, this, hr2, List.getElem?_map, hk]
    rfl
   ·exact ⟨[], fun q => absurd q hi⟩
  obtain ⟨f, hf⟩ := Classical.axiomOfChoice each
  obtain ⟨e', h', s, k1, k2, k3, k4, k5, _, b, o, rfl⟩ := r.openRowsC (fun x => AVal.int .i64 x) (fun x => Value.int .i64 x) (fun _ _ => .int _ _) (cap := cap) (len := len) (sz := sz) hB hs f hf
  exact ⟨e', h', _, (List.range len).map f, k1, k2, k3, k4, fun l hl => by
   obtain ⟨i, hi, rfl⟩ := List.mem_map.1 hl
   exact (hf i (List.mem_range.1 hi)).1, k5, by rw [List.length_map, List.length_range]; exact hcap, fun _ => ⟨b, o, cap, by rw [List.length_map, List.length_range], by rw [List.length_map, List.length_range]; exact hle⟩⟩
def toS : List Int → Int × Int
 | [a, b] => (a, b)
 | _ => (0, 0)
def toB : List Int → BkV
 | [a, b, c, d] => ⟨a, b, c, d⟩
 | _ => ⟨0, 0, 0, 0⟩
def toR : List Int → RtV
 | [a, b, c] => ⟨a, b, c⟩
 | _ => ⟨0, 0, 0⟩
theorem ss_eq {R : List (List Int)} (h : ∀ l, l ∈ R → l.length = 2) : (R.map fun l => l.map fun x => AVal.int .i64 x) = (R.map toS).map spC := by
 rw [List.map_map];refine List.map_congr_left fun l hl => ?_
 match l, h l hl with
 | [a, b], _ => rfl
theorem bs_eq {R : List (List Int)} (h : ∀ l, l ∈ R → l.length = 4) : (R.map fun l => l.map fun x => AVal.int .i64 x) = (R.map toB).map BkV.cells := by
 rw [List.map_map];refine List.map_congr_left fun l hl => ?_
 match l, h l hl with
 | [a, b, c, d], _ => rfl
theorem rs_eq {R : List (List Int)} (h : ∀ l, l ∈ R → l.length = 3) : (R.map fun l => l.map fun x => AVal.int .i64 x) = (R.map toR).map RtV.cells := by
 rw [List.map_map];refine List.map_congr_left fun l hl => ?_
 match l, h l hl with
 | [a, b, c], _ => rfl
theorem array4 {α : Type} {cs : Array α} (h : cs.size = 4) : ∃ c0 c1 c2 c3, cs = #[c0, c1, c2, c3] := by
 obtain ⟨l⟩ := cs
 match l, h with
 | [c0, c1, c2, c3], _ => exact ⟨c0, c1, c2, c3, rfl⟩
theorem drain_of {bs : Nat} {v : Value} {d : DataW H} {p : List MemPlace} (hv : Value.okWide Try.prog W .any bs 29 v) (h : DataW.Trod enc Try.prog W 0 (fun _ => true) true 29 v d p) {e : Env} {hh : AH} (r : HR Try.prog (Base.all W) e hh W) :
  ∃ e' h' D sb sd sr ss, Env.le e e' ∧ HR Try.prog (Base.all W) e' h' W ∧ Ext hh h' ∧ VR e' (.agg (dC sb sd sr ss)) v ∧ DrainAt h' D sb sd sr ss ∧ DrainL D ∧ CutS sb D.bs.length ∧ CutS sd D.ds.length ∧ CutS sr D.rs.length ∧ CutS ss D.ss.length := by
 have hv2 := hv
 obtain ⟨cs, rfl, hsz⟩ := okWide_struct Try.underlying29 hv
 obtain ⟨c0, c1, c2, c3, rfl⟩ := array4 (hsz.trans cells29)
 obtain ⟨fuel, hf⟩ := h
 obtain ⟨xs, n, _, _, hl, hlen, hfl⟩ := DataW.trod_struct Try.underlying29 hf
 obtain ⟨y0, y1, y2, y3, rfl⟩ := list4 hlen
 have t0 : DataW.trod enc Try.prog W 0 (fun _ => true) true n 25 [c0] = some y0 := by
  have this : DataW.trod enc Try.prog W 0 (fun _ => true) true n 25 (([c0, c1, c2, c3].drop 0).take (Try.prog.cellsOf 25)) = [y0, y1, y2, y3][0]? := hfl 0 _ rfl
  rw [cells25] at this;exact this
 have t1 : DataW.trod enc Try.prog W 0 (fun _ => true) true n 26 [c1] = some y1 := by
  have this : DataW.trod enc Try.prog W 0 (fun _ => true) true n 26 (([c0, c1, c2, c3].drop 1).take (Try.prog.cellsOf 26)) = [y0, y1, y2, y3][1]? := hfl 1 _ rfl
  rw [cells26] at this;exact this
 have t2 : DataW.trod enc Try.prog W 0 (fun _ => true) true n 27 [c2] = some y2 := by
  have this : DataW.trod enc Try.prog W 0 (fun _ => true) true n 27 (([c0, c1, c2, c3].drop 2).take (Try.prog.cellsOf 27)) = [y0, y1, y2, y3][2]? := hfl 2 _ rfl
  rw [cells27] at this;exact this
 have t3 : DataW.trod enc Try.prog W 0 (fun _ => true) true n 26 [c3] = some y3 := by
  have this : DataW.trod enc Try.prog W 0 (fun _ => true) true n 26 (([c0, c1, c2, c3].drop 3).take (Try.prog.cellsOf 26)) = [y0, y1, y2, y3][3]? := hfl 3 _ rfl
  rw [cells26] at this;exact this
 unfold Value.okWide at hv2
 rw [Try.underlying29] at hv2
 obtain ⟨cs, hcs, _, ts, hts, _, hrow⟩ := hv2
 injection hcs with hcs
 subst hcs;rw [ctypes29] at hts;cases hts
 obtain ⟨u0, hu0, ok0⟩ := hrow 0 c0 rfl
 obtain ⟨u1, hu1, ok1⟩ := hrow 1 c1 rfl
 obtain ⟨u2, hu2, ok2⟩ := hrow 2 c2 rfl
 obtain ⟨u3, hu3, ok3⟩ := hrow 3 c3 rfl
 cases hu0;cases hu1;cases hu2;cases hu3
 obtain ⟨ea, ha, s0, R0, a1, a2, a3, a4, a5, a6, a7, a8⟩ := rows_of Try.underlying25 cells60 bank_row t0 ok0 r
 obtain ⟨eb, hb, s1, R1, b1, b2, b3, b4, b5, b6, b7, b8⟩ := rows_of Try.underlying26 cells32 way_row t1 ok1 a2
 obtain ⟨ec, hc, s2, R2, g1, g2, g3, g4, g5, g6, g7, g8⟩ := rows_of Try.underlying27 cells57 right_row t2 ok2 b2
 obtain ⟨ed, hd, s3, R3, i1, i2, i3, i4, i5, i6, i7, i8⟩ := rows_of Try.underlying26 cells32 way_row t3 ok3 g2
 rw [bs_eq a5] at a6;rw [ss_eq b5] at b6;rw [rs_eq g5] at g6;rw [ss_eq i5] at i6;refine ⟨ed, hd, ⟨R0.map toB, R1.map toS, R2.map toR, R3.map toS⟩, s0, s1, s2, s3, Env.le_trans a1 (Env.le_trans b1 (Env.le_trans g1 i1)), i2, a3.trans (b3.trans (g3.trans i3)), ?_, ⟨((a6.ext b3).ext g3).ext i3, (b6.ext g3).ext i3, g6.ext i3, i6⟩, ⟨by simpa using a7, by simpa using b7, by simpa using g7, by simpa using i7⟩, by show CutS s0 (R0.map toB).length; rw [List.length_map]; exact a8, by show CutS s1 (R1.map toS).length; rw [List.length_map]; exact b8, by show CutS s2 (R2.map toR).length; rw [List.length_map]; exact g8, by show CutS s3 (R3.map toS).length; rw [List.length_map]; exact i8⟩;exact .agg (CS := [_, _, _, _]) (.cons (((a4.mono b1).mono g1).mono i1) (.cons ((b4.mono g1).mono i1) (.cons (g4.mono i1) (.cons i4 .nil))))
end Go.Proofs.Ytkhiagdmbajimaa
