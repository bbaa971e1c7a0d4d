import Derived.Test.YteibheeleeengaaMAN
import Derived.Test.YteibheeleeengaaMAK
import Derived.Test.YteibheeleeengaaMAH
import Derived.KernelRfl
namespace Go.Proofs.Yteibheeleeengaa
open Go Go.AbsE
set_option linter.unusedSimpArgs false
set_option maxRecDepth 100000
set_option maxHeartbeats 0
set_option linter.unusedVariables false
def CutV.at (C : CutV) (d : Nat) : Int × Int := joinL (C.truths.map (atK d))
def CutV.untilV (C : CutV) (need : Int × Int) (day : Int) : Option Int := (upto day C.rs.length).find? fun d => surelyV (C.at d.toNat) need
theorem until_ok {C : CutV} (O : C.Ok) (hT : C.truths ≠ []) {r b l : AVal} {need : Int × Int} {day : Nat} (hd : day ≤ C.rs.length) {h : AH} (A : CutAt h C r b l) :
  Runs Try.prog 49 [.agg (C.cells r b l), .agg (spC need), .int .i64 (day : Nat)] h (fun en h' => Ext h h' ∧ ((∃ d, C.untilV need day = some d ∧ en = .ret (.int .i64 d)) ∨ (C.untilV need day = none ∧ en = .pan (refusal 4)))) := by
 have hnr := O.nr
 have htr := fun h A => truths_yes O hT (r := r) (b := b) (l := l) (h := h) A
 have hda := fun h A => days_ok (C := C) (r := r) (b := b) (l := l) (d := (day : Nat)) (h := h) A
 have hsm := A.same
 obtain ⟨n, hn⟩ : ∃ n, C.rs.length = n := ⟨_, rfl⟩
 rw [hn] at htr hda hnr hd
 unfold CutV.untilV
 rw [hn]
 unfold CutV.cells spC at *
 have e0 : Ext h h := Ext.refl _
 refine Runs.intro aFunc49 rfl rfl rfl rfl fun rest => ?_;apply gS;refine gR rfl ?_;refine GoR.box rfl rfl rfl rfl rfl rfl fun h0 x0 f0 => ?_;have := e0.1;replace e0 := e0.trans x0;have := f0.1;refine GoR.box rfl rfl rfl rfl rfl rfl fun h1 x1 f1 => ?_;have := e0.1;have := f0.1;replace f0 := f0.ext x1;replace e0 := e0.trans x1;have := f1.1;refine GoR.alloc rfl rfl rfl zt3 rfl rfl fun h2 x2 f2 => ?_;have := e0.1;have := f1.1;have := f0.1;replace f1 := f1.ext x2;replace f0 := f0.ext x2;replace e0 := e0.trans x2;have := f2.1;apply gE;apply gS;refine gR rfl ?_;refine gO rfl rfl (ld68 rfl f0 rfl) rfl ?_;refine GoR.call rfl rfl (aCF aFunc36 rfl) (htr _ (A.ext e0)) ?_ (by rintro _ _ ⟨bm, q, _, hbm, KK⟩; cases q);rintro v3 h3 ⟨bm, q, x3, hbm, KK⟩;cases q;refine ⟨_, rfl, ?_⟩;have := e0.1;replace f2 := f2.ext x3;replace f1 := f1.ext x3;replace f0 := f0.ext x3;replace e0 := e0.trans x3;refine GoR.alloc rfl rfl rfl zt72 rfl rfl fun h4 x4 f4 => ?_;have := e0.1;have := f2.1;have := f1.1;have := f0.1;replace f2 := f2.ext x4;replace f1 := f1.ext x4;replace f0 := f0.ext x4;replace e0 := e0.trans x4;have := f4.1;refine GoR.store rfl rfl rfl rfl rfl rfl f4 rfl sz72 rfl rfl rfl fun h5 u5 => ?_;replace f4 := u5.has f4;replace f2 := f2.upd u5 (by omega);replace f1 := f1.upd u5 (by omega);replace f0 := f0.upd u5 (by omega);replace e0 := e0.upd u5 (by omega);apply gE;iterate 2 apply gS
 refine gR rfl ?_;refine gO rfl rfl (ld68 rfl f0 rfl) rfl ?_;refine gP ?_;refine GoR.call rfl rfl (aCF aFunc45 rfl) (hda _ (A.ext e0)) ?_ (by rintro _ _ ⟨bf, bt, q, _, hbf, hbt, NA⟩; cases q);rintro v6 h6 ⟨bf, bt, q, x6, hbf, hbt, NA⟩;cases q;refine ⟨_, rfl, ?_⟩;have := e0.1;replace f4 := f4.ext x6;replace f2 := f2.ext x6;replace f1 := f1.ext x6;replace f0 := f0.ext x6;replace e0 := e0.trans x6;apply gE;refine Go.block noJ_ok ?_
 have hb0 := f0.1
 have hb1 := f1.1
 have hb2 := f2.1
 have hb4 := f4.1
 have hKm := KK.m.1
 have hu5 := u5.1
 have hx4 := x4.1
 have hx6 := x6.1
 have hn1 : h1.next < bm := by omega
 have Km6 := ((KK.m.ext x4).upd u5 (by omega)).ext x6
 have eF : ∀ {hh}, ExtF (fun b => b = h1.next) h6 hh → Ext h hh := fun x => x.low e0 fun b q => by omega
 have Kx : ∀ {hh}, ExtF (fun b => b = h1.next) h6 hh → KnownAt C.truths (n + 1) hh bm := fun x => ⟨Km6.extF x (by omega), KK.len, KK.fit⟩
 obtain ⟨L, hL⟩ : ∃ L, upto (day : Nat) (n : Nat) = L := ⟨_, rfl⟩
 obtain ⟨p, hp⟩ : ∃ p : Int → Bool, p = fun d => surelyV (C.at d.toNat) need := ⟨_, rfl⟩
 rw [hL, ← hp]
 refine Go.rangeN (items := L.map fun n => [AVal.int .i64 n]) (A := NumsA (day : Nat) (n : Nat) bf bt) (fun b => b = h1.next)
  (fun j hh G => (∀ x, x ∈ L.take j → p x = false) ∧ Has hh h1.next (.cells .plain [.int .i64 0] 3) ∧ ∀ b, G b ↔ b = h1.next)
  (fun c hh G => c = .ret ∧ ∃ x, L.find? p = some x ∧ Has hh h1.next (.cells .plain [.int .i64 x] 3) ∧ ∀ b, G b ↔ b = h1.next) rfl aFunc80 Try.func49 (by rw [← hL]; exact nums80_it (by omega) (by omega) bf bt) (fun h' x => ⟨NA.f.extF x (by omega), NA.t.extF x (by omega)⟩) ⟨fun x q => by simp at q, f2, fun b => Iff.rfl⟩ ?_ ?_ ?_ ?_ ?_ ?_ ?_
 ·rintro k hh G b ⟨_, g1, hG⟩ q
  rw [(hG b).1 q]
  exact g1.1
 ·rintro c hh G b ⟨_, x, _, g1, hG⟩ q
  rw [(hG b).1 q]
  exact g1.1
 ·rintro k h4' h5' G ⟨q, g1, hG⟩ hn hk;exact ⟨q, g1.keep hn (hk _ g1.1 (.inr ((hG _).2 rfl))), hG⟩
 ·rintro c h4' h5' G ⟨q, x, hx, g1, hG⟩ hn hk;exact ⟨q, x, hx, g1.keep hn (hk _ g1.1 (.inr ((hG _).2 rfl))), hG⟩
 ·rintro j item hj
  obtain ⟨d, hd, rfl⟩ : ∃ d, L[j]? = some d ∧ [AVal.int .i64 d] = item := by
   rw [List.getElem?_map] at hj
   cases q : L[j]? with
   | none => rw [q] at hj; cases hj
   | some x => rw [q] at hj; exact ⟨x, rfl, Option.some.inj hj⟩
  obtain ⟨hd1, hd2⟩ := upto_at (hL ▸ hd)
  obtain ⟨dn, hdn⟩ : ∃ dn : Nat, d = (dn : Int) := ⟨d.toNat, by omega⟩
  subst hdn;refine ⟨_, rfl, ?_⟩;rintro hh G lb r0 fr rest' Q' ⟨hno, g1, hG⟩ x1 hsub hnl hlb fl hready contT contF
  have hx1 := x1.1
  have hfl := fl.1
  replace f0 := f0.extF x1 (by omega);replace f1 := f1.extF x1 (by omega);replace f4 := f4.extF x1 (by omega)
  have KX := Kx x1
  have hl0 : h1.next ≠ lb := by omega
  have y9 : ExtF (fun b => G b ∨ b = lb) hh hh := ExtF.of (Ext.refl _)
  clear e0 f2;refine gR rfl ?_;refine gP ?_;apply gE;refine Go.beginRound fl hready fun h41 u41 => ?_;replace f0 := f0.upd u41 (by omega);replace f1 := f1.upd u41 (by omega);replace f4 := f4.upd u41 (by omega)
  have hKm2 := KX.m.1
  have KX2 : KnownAt C.truths (n + 1) h41 bm := ⟨KX.m.upd u41 (by omega), KX.len, KX.fit⟩
  replace g1 := g1.upd u41 hl0;replace fl := u41.has fl;replace y9 := y9.upd u41 (.inl (.inr rfl))
  have hu41 := u41.1
  have e0 : Ext h41 h41 := Ext.refl _
  obtain ⟨f2, hf2⟩ : ∃ f2, f2 = g1 := ⟨_, rfl⟩
  obtain ⟨f6, hf6⟩ : ∃ f6, f6 = fl := ⟨_, rfl⟩
  clear hf2 hf6 g1 fl
  have hk0 := f0.1
  have hk1 := f1.1
  have hk2 := f2.1
  have hk4 := f4.1
  have hk6 := f6.1
  have hG0 : G h1.next := (hG _).2 rfl
  have hat := fun h' e => at_ok (KX2.ext (h' := h') e) (d := dn) (by omega) (by omega)
  have hpd : p (dn : Int) = surelyV (joinL (C.truths.map (atK dn))) need := by rw [hp]; rfl
  obtain ⟨W, hW⟩ : ∃ W, joinL (C.truths.map (atK dn)) = W := ⟨_, rfl⟩
  rw [hW] at hat hpd
  have hsu := fun h => surely_ok (d := W) (n := need) (h := h)
  rw [← hpd] at hsu
  unfold spC at hat hsu
  cases hq : p (dn : Int) with
  | false =>
   rw [hq] at hsu;refine Go.block noJ_ok ?_;apply gS;refine Go.drawnE plan49_0 ?_;refine gQ rfl rfl (ld72 rfl f4 rfl) rfl ?_;refine gQ rfl rfl rfl rfl ?_;refine gQ rfl rfl (ld23 rfl f1 rfl) rfl ?_;refine GoE.call rfl rfl (aCF aFunc40 rfl) (hat _ e0) (dK 3 3 (dD 3 1 (dD 3 0 rfl))) ?_ np;rintro v42 h42 ⟨q, x42⟩;cases q;replace f1 := f1.ext x42;replace f4 := f4.ext x42;replace f2 := f2.ext x42;replace f6 := f6.ext x42;replace e0 := e0.trans x42;replace y9 := y9.ext x42;refine ⟨(rck (h2 := h42) rfl (ld23 rfl f1 rfl) recheck_nil), _, rfl, ?_⟩;refine GoE.call rfl rfl (aCF aFunc46 rfl) (hsu _) (dD 15 3 rfl) ?_ np;rintro v43 h43 ⟨q, x43⟩;cases q;replace f1 := f1.ext x43;replace f4 := f4.ext x43;replace f2 := f2.ext x43;replace f6 := f6.ext x43;replace e0 := e0.trans x43;replace y9 := y9.ext x43;refine ⟨recheck_nil, _, rfl, ?_⟩;refine GoE.end rfl ?_;refine gC (b := false) rfl ?_;refine gD ?_;refine Go.inBlock noJ_ok ?_;exact contT _ _ G ⟨take_no hd hq hno, f2, hG⟩ (fun b q => .inl q) y9 f6
  | true =>
   rw [hq] at hsu
   have hfind : L.find? p = some (dn : Int) := by
    rw [List.find?_eq_some_iff_getElem]
    have hlt := (List.getElem?_eq_some_iff.1 hd).1
    have hv := (List.getElem?_eq_some_iff.1 hd).2
    exact ⟨hq, j, hlt, hv, fun k hk => by rw [hno _ (List.mem_take_iff_getElem.2 ⟨k, by omega, rfl⟩)]; rfl⟩
   refine Go.block noJ_ok ?_;apply gS;refine Go.drawnE plan49_0 ?_;refine gQ rfl rfl (ld72 rfl f4 rfl) rfl ?_;refine gQ rfl rfl rfl rfl ?_;refine gQ rfl rfl (ld23 rfl f1 rfl) rfl ?_;refine GoE.call rfl rfl (aCF aFunc40 rfl) (hat _ e0) (dK 3 3 (dD 3 1 (dD 3 0 rfl))) ?_ np;rintro v42 h42 ⟨q, x42⟩;cases q;replace f1 := f1.ext x42;replace f2 := f2.ext x42;replace f6 := f6.ext x42;replace y9 := y9.ext x42;refine ⟨(rck (h2 := h42) rfl (ld23 rfl f1 rfl) recheck_nil), _, rfl, ?_⟩;refine GoE.call rfl rfl (aCF aFunc46 rfl) (hsu _) (dD 15 3 rfl) ?_ np;rintro v43 h43 ⟨q, x43⟩;cases q;replace f2 := f2.ext x43;replace f6 := f6.ext x43;replace y9 := y9.ext x43;refine ⟨recheck_nil, _, rfl, ?_⟩;refine GoE.end rfl ?_;refine gC (b := true) rfl ?_;apply gS;refine gR rfl ?_;refine gP ?_;refine GoR.store rfl rfl rfl rfl rfl rfl f2 rfl sz3 rfl rfl rfl fun h44 u44 => ?_;replace f2 := u44.has f2;replace f6 := f6.upd u44 (by omega);clear e0;apply gE;exact contF _ _ _ _ G (.inl rfl) ⟨rfl, (dn : Int), hfind, f2, hG⟩ (fun b q => .inl q) (y9.upd u44 (.inl (.inl hG0))) f6
 ·rintro d h30 G x30 hGs hnd hd hdd ⟨hno, g1, hG⟩;rw [List.length_map, List.take_length] at hno
  have hnone : L.find? p = none := List.find?_eq_none.2 fun x hx => by rw [hno x hx]; simp
  rw [hnone]
  have e9 := eF x30
  have hx30 := x30.1
  clear e0 f0 f1 f2 f4;refine Go.inBlock noJ_ok ?_;refine gR rfl ?_;refine gP ?_;exact GoR.panic rfl rfl rfl (FLeft.collected (fun q => by cases q) hdd fun h9 u9 => FLeft.pan ⟨e9.upd u9 (by omega), .inr ⟨rfl, rfl⟩⟩)
 ·rintro c d h30 G x30 hGs hnd hd hdd ⟨rfl, x, hfind, g1, hG⟩;rw [hfind]
  have e9 := eF x30
  have hx30 := x30.1
  have d0 : h1.next ≠ d := fun z => hnd ((hG _).2 z.symm)
  exact Go.retC hdd fun h9 u9 => ⟨aResult_of Try.func49 rfl (aResults_c rfl (g1.upd u9 d0) (inCells_one ag3 rfl) rfl), e9.upd u9 (by omega), .inl ⟨x, rfl, rfl⟩⟩
theorem until_no {C : CutV} (O : C.Ok) (hT : C.truths = []) {r b l : AVal} {need : Int × Int} {day : Int} {h : AH} (A : CutAt h C r b l) :
  Runs Try.prog 49 [.agg (C.cells r b l), .agg (spC need), .int .i64 day] h (fun en h' => en = .pan (refusal 10) ∧ Ext h h') := by
 have htr := fun h A => truths_no O hT (r := r) (b := b) (l := l) (h := h) A
 have hsm := A.same
 unfold CutV.cells spC at *
 have e0 : Ext h h := Ext.refl _
 refine Runs.intro aFunc49 rfl rfl rfl rfl fun rest => ?_;apply gS;refine gR rfl ?_;refine GoR.box rfl rfl rfl rfl rfl rfl fun h0 x0 f0 => ?_;replace e0 := e0.trans x0;refine GoR.box rfl rfl rfl rfl rfl rfl fun h1 x1 f1 => ?_;replace f0 := f0.ext x1;replace e0 := e0.trans x1;refine GoR.alloc rfl rfl rfl zt3 rfl rfl fun h2 x2 f2 => ?_;replace f0 := f0.ext x2;replace e0 := e0.trans x2;apply gE;apply gS;refine gR rfl ?_;refine gO rfl rfl (ld68 rfl f0 rfl) rfl ?_;refine GoR.callP rfl rfl (aCF aFunc36 rfl) (htr _ (A.ext e0)) (by rintro _ _ ⟨q, _⟩; cases q) ?_;rintro chain h3 ⟨q, x3⟩
 have q := AEnd.pan.inj q
 subst q;replace e0 := e0.trans x3;exact FLeft.pan (⟨rfl, e0⟩)
def CutV.togetherV (C : CutV) (d : Nat) : Int := C.bs.foldl (fun s x => s + max 0 (mostV x (surelyV (C.at d)))) 0
theorem great_in {p : Int → Bool} {L : List Int} {x : Int} (h : greatV p L = some x) : x ∈ L ∧ p x = true := by
 have key : ∀ (L : List Int) (a : Option Int), ∀ x, L.foldl (pickV p) a = some x → (x ∈ L ∧ p x = true) ∨ a = some x := by
  intro L
  induction L with
  | nil => intro a x h; exact .inr h
  | cons y L ih =>
   intro a x h
   rcases ih (pickV p a y) x h with ⟨h1, h2⟩ | h1
   ·exact .inl ⟨List.mem_cons_of_mem _ h1, h2⟩
   ·have hpk : (pickV p a y = some y ∧ p y = true) ∨ pickV p a y = a := by
     unfold pickV
     cases hp : p y with
     | false => right; simp
     | true =>
      cases a with
      | none => left; simp
      | some z =>
       by_cases hz : z < y
       ·left; simp [hz]
       ·right; simp [hz]
    rcases hpk with ⟨q1, q2⟩ | q1
    ·rw [q1] at h1;cases h1;exact .inl ⟨List.mem_cons_self, q2⟩
    ·rw [q1] at h1;exact .inr h1
 rcases key L none x h with q | q
 ·exact q
 ·cases q
theorem most_in {x : BV} {su : Int × Int → Bool} : mostV x su = -1 ∨ (0 ≤ mostV x su ∧ mostV x su ≤ x.room) := by
 unfold mostV
 cases q : greatV (fun n => su (x.needs n)) (upto 0 x.room) with
 | none => exact .inl rfl
 | some n => exact .inr (mem_upto.1 (great_in q).1)
theorem together_ok {C : CutV} (O : C.Ok) (hT : C.truths ≠ []) {r b l : AVal} {day : Nat} (hd : day ≤ C.rs.length) {h : AH} (A : CutAt h C r b l) :
  Runs Try.prog 56 [.agg (C.cells r b l), .int .i64 (day : Nat)] h (fun en h' => en = .ret (.int .i64 (C.togetherV day)) ∧ Ext h h') := by
 have hnr := O.nr
 have hnb := O.nb
 have hl2 := A.bs.len
 rw [List.length_map] at hl2
 have htr := fun h A => truths_yes O hT (r := r) (b := b) (l := l) (h := h) A
 have hsm := A.same
 obtain ⟨W, hW⟩ : ∃ W, C.at day = W := ⟨_, rfl⟩
 have hat := fun h' bm (K : KnownAt C.truths (C.rs.length + 1) h' bm) => at_ok K (d := day) (by omega) (by omega)
 rw [show joinL (C.truths.map (atK day)) = W from hW] at hat
 have hmo := fun x (h1 : x ∈ C.bs) h => most_ok (O.b x h1) (first := [.agg (spC W)]) aFunc46 (by unfold spC; simp [sameA, sameAs, eqI_eq]) (surelyV W) (fun need h => surely_ok (d := W) (n := need) (h := h)) (h := h)
 unfold CutV.togetherV
 rw [hW]
 unfold CutV.cells spC at *
 have e0 : Ext h h := Ext.refl _
 refine Runs.intro aFunc56 rfl rfl rfl rfl fun rest => ?_;apply gS;refine gR rfl ?_;refine GoR.box rfl rfl rfl rfl rfl rfl fun h0 x0 f0 => ?_;have := e0.1;replace e0 := e0.trans x0;have := f0.1;refine gP ?_;apply gE;apply gS;refine gR rfl ?_;refine gO rfl rfl (ld68 rfl f0 rfl) rfl ?_;refine GoR.call rfl rfl (aCF aFunc36 rfl) (htr _ (A.ext e0)) ?_ (by rintro _ _ ⟨bm, q, _, hbm, KK⟩; cases q);rintro v1 h1 ⟨bm, q, x1, hbm, KK⟩;cases q;refine ⟨_, rfl, ?_⟩;have := e0.1;replace f0 := f0.ext x1;replace e0 := e0.trans x1;refine gP ?_;refine GoR.call rfl rfl (aCF aFunc40 rfl) (hat _ _ (by assumption)) ?_ np;rintro v2 h2 ⟨q, x2⟩;cases q;refine ⟨_, rfl, ?_⟩;replace f0 := f0.ext x2;replace e0 := e0.trans x2;refine GoR.alloc rfl rfl rfl zt77 rfl rfl fun h3 x3 f3 => ?_;have := e0.1;have := f0.1;replace f0 := f0.ext x3;replace e0 := e0.trans x3;have := f3.1;refine GoR.store rfl rfl rfl rfl rfl rfl f3 rfl sz77 rfl rfl rfl fun h4 u4 => ?_;replace f3 := u4.has f3;replace f0 := f0.upd u4 (by omega);replace e0 := e0.upd u4 (by omega);apply gE;apply gS;refine gR rfl ?_;refine gP ?_;apply gE;iterate 2 apply gS
 refine gR rfl ?_;refine gO rfl rfl (fa68_4 rfl) rfl ?_;refine gO rfl rfl (ld25 rfl f0 rfl) rfl ?_;refine gO rfl rfl (aOp_lenSlice Try.underlying25 rfl hl2) rfl ?_;refine gP ?_;apply gE;refine Go.block noJ_ok ?_
 obtain ⟨F, hF⟩ : ∃ F : Int → BV → Int, F = fun s x => s + max 0 (mostV x (surelyV W)) := ⟨_, rfl⟩
 rw [← hF]
 have hb0 := f0.1
 have hb3 := f3.1
 refine Go.loopKeep (fun a : Nat × Int => [(2, .ptr h.next 0), (5, .ptr h2.next 0), (6, .int .i64 a.2), (14, b), (15, .int .i64 C.bs.length), (16, .int .i64 (a.1 : Nat))])
  (fun m a h' => m + a.1 = C.bs.length ∧ Ext h h' ∧ Has h' h2.next (.cells .plain [.int .i64 W.1, .int .i64 W.2] 77) ∧ a.2 = (C.bs.take a.1).foldl F 0 ∧ 0 ≤ a.2 ∧ a.2 ≤ 10 * a.1) (n := C.bs.length) (0, 0) ⟨rfl, rfl, rfl, rfl, rfl, rfl, trivial⟩ ⟨rfl, e0, f3, rfl, by decide, by decide⟩ ?_
 clear e0 f0 f3;rintro m ⟨i, S⟩ h20 ⟨hm, e0, f3, hS, hS1, hS2⟩ again
 dsimp only at hm hS hS1 hS2 ⊢
 have hb3 := f3.1
 by_cases hi : i < C.bs.length
 ·obtain ⟨x, hx⟩ : ∃ x, C.bs[i]? = some x := ⟨C.bs[i], by simp [hi]⟩
  have hxm := List.mem_of_getElem? hx
  have hxO := O.b x hxm
  obtain ⟨bq, off, q1, q2⟩ := (A.bs.ext e0).at (i := i) (l := BV.cells x) (by rw [List.getElem?_map, hx]; rfl)
  rw [List.length_map] at q1
  have hmx := fun h => hmo x hxm h
  have hin := most_in (x := x) (su := surelyV W)
  have hnx : (C.bs.take (i + 1)).foldl F 0 = S + max 0 (mostV x (surelyV W)) := by
   rw [List.take_add_one, hx, Option.toList_some, List.foldl_append, ← hS, hF]
   rfl
  obtain ⟨M, hM⟩ : ∃ M, mostV x (surelyV W) = M := ⟨_, rfl⟩
  rw [hM] at hmx hin hnx
  have hro := hxO.2.2
  have e9 : Ext h20 h20 := Ext.refl _
  unfold BV.cells at q2 hmx
  apply gS;refine gR rfl ?_;refine gO rfl rfl (kLT rfl rfl) rfl ?_;apply gE;apply gS;refine gC (b := true) rfl ?_;refine gD ?_;apply gS;refine Go.block noJ_ok ?_;apply gS;refine gR rfl ?_;refine gO rfl rfl (aOp_indexAddr (i := i) Try.underlying25 sz45 rfl q1 rfl (Nat.ble_eq_true_of_le hi)) rfl ?_;refine gO rfl rfl (aOp_loadE ag45 sz45 rfl (q2.ext e9)) rfl ?_;refine GoR.alloc rfl rfl rfl zt45 rfl rfl fun h21 x21 f21 => ?_;have := e0.1;have := e9.1;have := f3.1;replace f3 := f3.ext x21;replace e0 := e0.trans x21;have := f21.1;refine GoR.store rfl rfl rfl rfl rfl rfl f21 rfl sz45 rfl rfl rfl fun h22 u22 => ?_;replace f21 := u22.has f21;replace f3 := f3.upd u22 (by omega);replace e0 := e0.upd u22 (by omega);apply gE;refine gR rfl ?_;refine gP ?_;refine gO rfl rfl (ld45 rfl f21 rfl) rfl ?_;refine gO rfl rfl (ld77 rfl f3 rfl) rfl ?_;refine gP ?_;refine GoR.call rfl rfl (aCF aFunc58 rfl) (hmx _) ?_ np;rintro v23 h23 ⟨q, x23⟩;cases q;refine ⟨_, rfl, ?_⟩;replace f3 := f3.ext x23;replace e0 := e0.trans x23;refine gO rfl rfl (aOp_max2 rfl rfl (r := max 0 M) (by split <;> omega)) rfl ?_;refine gO rfl rfl (aA rfl rfl) rfl ?_;refine gP ?_;apply gE;refine Go.inBlock noJ_ok ?_;refine gR rfl ?_;refine gO rfl rfl (aA rfl rfl) rfl ?_;refine gP ?_;apply gE;exact again (m - 1) (i + 1, S + max 0 M) _ _ (by omega) ⟨rfl, rfl, rfl, rfl, rfl, rfl, trivial⟩ ⟨by dsimp only; omega, e0, f3, hnx.symm, by dsimp only; omega, by dsimp only; omega⟩
 ·have hii : i = C.bs.length := by omega
  subst hii;rw [List.take_length] at hS
  rw [← hS]
  apply gS;refine gR rfl ?_;refine gO rfl rfl (kLF rfl rfl) rfl ?_;apply gE;apply gS;refine gC (b := false) rfl ?_;refine gD ?_;apply gS;refine gR rfl ?_;iterate 2 refine gP ?_
  apply gE;exact gW Try.func56 rfl rfl ⟨rfl, e0⟩
theorem together_no {C : CutV} (O : C.Ok) (hT : C.truths = []) {r b l : AVal} {day : Int} {h : AH} (A : CutAt h C r b l) :
  Runs Try.prog 56 [.agg (C.cells r b l), .int .i64 day] h (fun en h' => en = .pan (refusal 10) ∧ Ext h h') := by
 have htr := fun h A => truths_no O hT (r := r) (b := b) (l := l) (h := h) A
 have hsm := A.same
 unfold CutV.cells at *
 have e0 : Ext h h := Ext.refl _
 refine Runs.intro aFunc56 rfl rfl rfl rfl fun rest => ?_;apply gS;refine gR rfl ?_;refine GoR.box rfl rfl rfl rfl rfl rfl fun h0 x0 f0 => ?_;replace e0 := e0.trans x0;refine gP ?_;apply gE;apply gS;refine gR rfl ?_;refine gO rfl rfl (ld68 rfl f0 rfl) rfl ?_;refine GoR.callP rfl rfl (aCF aFunc36 rfl) (htr _ (A.ext e0)) (by rintro _ _ ⟨q, _⟩; cases q) ?_;rintro chain h1 ⟨q, x1⟩
 have q := AEnd.pan.inj q
 subst q;replace e0 := e0.trans x1;exact FLeft.pan (⟨rfl, e0⟩)
end Go.Proofs.Yteibheeleeengaa

namespace Go.Proofs.Yteibheeleeengaa
open Go Go.AbsE
set_option linter.unusedSimpArgs false
set_option maxRecDepth 100000
set_option maxHeartbeats 0
set_option linter.unusedVariables false
def popc (n : Nat) : Nat := ((List.range 10).filter fun i => n.testBit i).length
def pop1 (n : Nat) : Nat := (n / 2 ^ 1 &&& 6148914691236517205) + (n &&& 6148914691236517205)
def pop2 (a : Nat) : Nat := (a / 2 ^ 2 &&& 3689348814741910323) + (a &&& 3689348814741910323)
def pop3 (b : Nat) : Nat := (b / 2 ^ 4 + b) &&& 1085102592571150095
def pop4 (k c : Nat) : Nat := c + c / 2 ^ k
theorem pop_all : ((List.range 1024).all fun n => (pop4 32 (pop4 16 (pop4 8 (pop3 (pop2 (pop1 n))))) &&& 127) == popc n) = true := by decide +kernel
theorem ones85_ok {n : Nat} (hn : n < 1024) {h : AH} : Runs Try.prog 85 [.int .u64 (n : Nat)] h (fun en h' => en = .ret (.int .i64 (popc n : Nat)) ∧ Ext h h') := by
 have hp := List.all_eq_true.1 pop_all n (List.mem_range.2 hn)
 simp only [beq_iff_eq] at hp
 have k1 : n / 2 ^ 1 &&& 6148914691236517205 ≤ n / 2 ^ 1 := Nat.and_le_left
 have k2 : n &&& 6148914691236517205 ≤ n := Nat.and_le_left
 obtain ⟨a, ha⟩ : ∃ a, pop1 n = a := ⟨_, rfl⟩
 have ka : a ≤ 2048 := by rw [← ha]; unfold pop1; omega
 have k3 : a / 2 ^ 2 &&& 3689348814741910323 ≤ a / 2 ^ 2 := Nat.and_le_left
 have k4 : a &&& 3689348814741910323 ≤ a := Nat.and_le_left
 obtain ⟨b, hb⟩ : ∃ b, pop2 a = b := ⟨_, rfl⟩
 have kb : b ≤ 4096 := by rw [← hb]; unfold pop2; omega
 have k5 : (b / 2 ^ 4 + b) &&& 1085102592571150095 ≤ b / 2 ^ 4 + b := Nat.and_le_left
 obtain ⟨c, hc⟩ : ∃ c, pop3 b = c := ⟨_, rfl⟩
 have kc : c ≤ 8192 := by rw [← hc]; unfold pop3; omega
 obtain ⟨d, hd⟩ : ∃ d, pop4 8 c = d := ⟨_, rfl⟩
 have kd : d ≤ 16384 := by rw [← hd]; unfold pop4; omega
 obtain ⟨e, he⟩ : ∃ e, pop4 16 d = e := ⟨_, rfl⟩
 have ke : e ≤ 32768 := by rw [← he]; unfold pop4; omega
 obtain ⟨f, hf⟩ : ∃ f, pop4 32 e = f := ⟨_, rfl⟩
 have kf : f ≤ 65536 := by rw [← hf]; unfold pop4; omega
 rw [ha, hb, hc, hd, he, hf] at hp
 have e0 : Ext h h := Ext.refl _
 refine Runs.intro aFunc85 rfl rfl rfl rfl fun rest => ?_;apply gS;refine gR rfl ?_;refine gP ?_;apply gE;apply gS;refine gR rfl ?_;refine gP ?_;refine gO rfl rfl (aOp_shrU rfl rfl (by decide) rfl) rfl ?_;refine gO rfl rfl (aOp_andU (a := n / 2 ^ 1) rfl rfl (by omega) (by decide) rfl) rfl ?_;refine gP ?_;refine gO rfl rfl (aOp_andU (a := n) rfl rfl (by omega) (by decide) rfl) rfl ?_;refine gO rfl rfl (aOp_addU (a := n / 2 ^ 1 &&& 6148914691236517205) (b := n &&& 6148914691236517205) rfl rfl (by omega) ha) rfl ?_;refine gP ?_;apply gE;apply gS;refine gR rfl ?_;refine gP ?_;refine gO rfl rfl (aOp_shrU rfl rfl (by decide) rfl) rfl ?_;refine gO rfl rfl (aOp_andU (a := a / 2 ^ 2) rfl rfl (by omega) (by decide) rfl) rfl ?_;refine gP ?_;refine gO rfl rfl (aOp_andU (a := a) rfl rfl (by omega) (by decide) rfl) rfl ?_;refine gO rfl rfl (aOp_addU (a := a / 2 ^ 2 &&& 3689348814741910323) (b := a &&& 3689348814741910323) rfl rfl (by omega) hb) rfl ?_;refine gP ?_;apply gE;apply gS;refine gR rfl ?_;refine gP ?_;refine gO rfl rfl (aOp_shrU rfl rfl (by decide) rfl) rfl ?_;refine gP ?_;refine gO rfl rfl (aOp_addU (a := b / 2 ^ 4) (b := b) rfl rfl (by omega) rfl) rfl ?_;refine gO rfl rfl (aOp_andU (a := b / 2 ^ 4 + b) rfl rfl (by omega) (by decide) hc) rfl ?_;refine gP ?_;apply gE;apply gS;refine gR rfl ?_;iterate 2 refine gP ?_
 refine gO rfl rfl (aOp_shrU rfl rfl (by decide) rfl) rfl ?_;refine gO rfl rfl (aOp_addU (a := c) (b := c / 2 ^ 8) rfl rfl (by omega) hd) rfl ?_;refine gP ?_;apply gE;apply gS;refine gR rfl ?_;iterate 2 refine gP ?_
 refine gO rfl rfl (aOp_shrU rfl rfl (by decide) rfl) rfl ?_;refine gO rfl rfl (aOp_addU (a := d) (b := d / 2 ^ 16) rfl rfl (by omega) he) rfl ?_;refine gP ?_;apply gE;apply gS;refine gR rfl ?_;iterate 2 refine gP ?_
 refine gO rfl rfl (aOp_shrU rfl rfl (by decide) rfl) rfl ?_;refine gO rfl rfl (aOp_addU (a := e) (b := e / 2 ^ 32) rfl rfl (by omega) hf) rfl ?_;refine gP ?_;apply gE;apply gS;refine gR rfl ?_;refine gP ?_;refine gO rfl rfl (aOp_convUI (w := f) rfl Try.underlying123 Try.underlying3 (by omega)) rfl ?_;refine gO rfl rfl (aOp_andNat (a := f) rfl rfl (by omega) (by decide) hp) rfl ?_;refine gP ?_;apply gE;exact gW Try.func85 rfl rfl ⟨rfl, e0⟩
theorem ones78_ok {n : Nat} (hn : n < 1024) {h : AH} : Runs Try.prog 78 [.int .u64 (n : Nat)] h (fun en h' => en = .ret (.int .i64 (popc n : Nat)) ∧ Ext h h') := by
 have e0 : Ext h h := Ext.refl _
 refine Runs.intro aFunc78 rfl rfl rfl rfl fun rest => ?_;apply gS;refine gR rfl ?_;refine gP ?_;apply gE;apply gS;refine gC (b := false) rfl ?_;refine gD ?_;apply gS;refine gR rfl ?_;refine gP ?_;refine GoR.call rfl rfl (aCF aFunc85 rfl) (ones85_ok hn) ?_ np;rintro v0 h0 ⟨q, x0⟩;cases q;refine ⟨_, rfl, ?_⟩;replace e0 := e0.trans x0;refine gP ?_;apply gE;exact gW Try.func78 rfl rfl ⟨rfl, e0⟩
def subB (m k : Nat) : List Nat := (List.range k).filter fun s => decide (popc s = m)
def subA (n m : Nat) : List Nat := (List.range m).flatMap fun j => subB j (2 ^ n)
def subs (n : Nat) : List Nat := subA n (n + 1)
theorem subB_succ (m k : Nat) : subB m (k + 1) = subB m k ++ (if popc k = m then [k] else []) := by
 unfold subB
 rw [List.range_succ, List.filter_append]
 congr 1
 by_cases q : popc k = m
 ·rw [if_pos q, List.filter_cons_of_pos (by simpa using q)]; rfl
 ·rw [if_neg q, List.filter_cons_of_neg (by simpa using q)]; rfl
theorem subA_succ (n m : Nat) : subA n (m + 1) = subA n m ++ subB m (2 ^ n) := by
 unfold subA
 rw [List.range_succ, List.flatMap_append, List.flatMap_cons, List.flatMap_nil, List.append_nil]
theorem popc_le (n : Nat) : popc n ≤ 10 := by
 unfold popc
 have := List.length_filter_le (fun i => n.testBit i) (List.range 10)
 rw [List.length_range] at this;exact this
def natsV (l : List Nat) : List AVal := l.map fun s => .int .i64 (s : Nat)
theorem subB_len (m k : Nat) : (subB m k).length ≤ k := by
 unfold subB
 have := List.length_filter_le (fun s => decide (popc s = m)) (List.range k)
 rw [List.length_range] at this;exact this
theorem subA_len (n m : Nat) : (subA n m).length ≤ m * 2 ^ n := by
 induction m with
 | zero => simp [subA]
 | succ m ih =>
  rw [subA_succ, List.length_append, Nat.add_mul, Nat.one_mul]
  have := subB_len m (2 ^ n)
  omega
theorem subsets_ok {n : Nat} (hn : n ≤ 5) {h : AH} : Runs Try.prog 62 [.int .i64 (n : Nat)] h (fun en h' => ∃ s, en = .ret s ∧ Ext h h' ∧ Grow h' 3 1 h.next s (subs n).length (natsV (subs n))) := by
 have hw : 2 ^ n ≤ 32 := Nat.pow_le_pow_right (n := 2) (by omega) (show n ≤ 5 by omega)
 obtain ⟨w, hww⟩ : ∃ w, 2 ^ n = w := ⟨_, rfl⟩
 have hsh : (1 : Int) * 2 ^ n = ((w : Nat) : Int) := by rw [← hww]; simp
 rw [hww] at hw
 have hAl : ∀ m, m ≤ n + 1 → (subA n m).length ≤ 200 := fun m hm => by
  have := subA_len n m
  rw [hww] at this
  have h2 : m * w ≤ 6 * 32 := Nat.mul_le_mul (by omega) hw
  omega
 have e0 : Ext h h := Ext.refl _
 refine Runs.intro aFunc62 rfl rfl rfl rfl fun rest => ?_;apply gS;refine gR rfl ?_;refine gP ?_;apply gE;apply gS;refine gR rfl ?_;refine gP ?_;apply gE;iterate 2 apply gS
 refine gR rfl ?_;refine gP ?_;refine gO rfl rfl (aA rfl rfl) rfl ?_;refine gP ?_;apply gE;refine Go.block noJ_ok ?_
 refine Go.loopKeep (fun a : Nat × AVal => [(0, .int .i64 (n : Nat)), (3, a.2), (7, .int .i64 ((n : Int) + 1)), (8, .int .i64 (a.1 : Nat))])
  (fun m a h' => m + a.1 = n + 1 ∧ Ext h h' ∧ Grow h' 3 1 h.next a.2 (subA n a.1).length (natsV (subA n a.1))) (n := n + 1) (0, .nilslice) ⟨rfl, rfl, rfl, rfl, trivial⟩ ⟨rfl, e0, Grow.nil _ _ _ _⟩ ?_
 clear e0;rintro m ⟨i, sl⟩ h20 ⟨hm, e0, G⟩ again
 dsimp only at hm G ⊢
 by_cases hi : i < n + 1
 ·have hA0 := hAl i (by omega)
  have hs0 := subA_succ n i
  rw [hww] at hs0;apply gS;refine gR rfl ?_;refine gO rfl rfl (kLT rfl rfl) rfl ?_;apply gE;apply gS;refine gC (b := true) rfl ?_;refine gD ?_;apply gS;refine Go.block noJ_ok ?_;apply gS;refine gR rfl ?_;iterate 2 refine gP ?_
  apply gE;apply gS;refine gR rfl ?_;refine gP ?_;refine gO rfl rfl (aOp_shl rfl rfl (i := n) (by omega) hsh (by omega)) rfl ?_;refine gP ?_;apply gE;refine Go.block noJ_ok ?_
  refine Go.loopKeep (fun a : Nat × AVal => [(0, .int .i64 (n : Nat)), (3, a.2), (4, .int .i64 (i : Nat)), (7, .int .i64 ((n : Int) + 1)), (8, .int .i64 (i : Nat)), (12, .int .i64 (w : Nat)), (13, .int .i64 (a.1 : Nat))])
   (fun q a h' => q + a.1 = w ∧ Ext h h' ∧ Grow h' 3 1 h.next a.2 (subA n i ++ subB i a.1).length (natsV (subA n i ++ subB i a.1))) (n := w) (0, sl) ⟨rfl, rfl, rfl, rfl, rfl, rfl, rfl, trivial⟩ ⟨by simp, e0, by simpa [subB] using G⟩ ?_
  clear e0 G;rintro q ⟨k, s2⟩ h30 ⟨hq, e0, G⟩ again2
  dsimp only at hq G ⊢
  by_cases hk : k < w
  ·have hsb := subB_succ i k
   have hbl := subB_len i k
   have hpk := popc_le k
   have hk10 : k < 1024 := by omega
   have hlen : (subA n i ++ subB i k).length ≤ 300 := by rw [List.length_append]; omega
   have e9 : Ext h30 h30 := Ext.refl _
   by_cases c2 : popc k = i
   ·rw [if_pos c2] at hsb
    have hnx : subA n i ++ subB i (k + 1) = (subA n i ++ subB i k) ++ [k] := by rw [hsb, List.append_assoc]
    have d2 : decide (((popc k : Nat) : Int) = (i : Nat)) = true := decide_eq_true (by omega)
    apply gS;refine gR rfl ?_;refine gO rfl rfl (kLT rfl rfl) rfl ?_;apply gE;apply gS;refine gC (b := true) rfl ?_;refine gD ?_;apply gS;refine Go.block noJ_ok ?_;apply gS;refine gR rfl ?_;iterate 2 refine gP ?_
    apply gE;apply gS;refine gR rfl ?_;refine gP ?_;refine gO rfl rfl (aOp_convU64 rfl Try.underlying3 Try.underlying115 (by omega)) rfl ?_;refine GoR.call rfl rfl (aCF aFunc78 rfl) (ones78_ok hk10) ?_ np;rintro v31 h31 ⟨q, x31⟩;cases q;refine ⟨_, rfl, ?_⟩;replace e0 := e0.trans x31;replace e9 := e9.trans x31;refine gP ?_;refine gO rfl rfl (aOp_eql rfl rfl d2) rfl ?_;apply gE;refine gC (b := true) rfl ?_;refine gR rfl ?_;iterate 2 refine gP ?_
    refine GoR.buildSl rfl rfl (ps := [(0, .int .i64 (k : Nat))]) (cs := [.int .i64 (k : Nat)]) Try.underlying34 rfl sz3 zt3 rfl rfl rfl rfl fun h32 x32 f32 => ?_;have := e0.1;have := e9.1;replace e0 := e0.trans x32;replace e9 := e9.trans x32;have := f32.1;refine GoR.append1F rfl rfl rfl Try.underlying34 Try.underlying34 sz3 by3 zt3 rfl rfl rfl rfl f32 rfl rfl (G.ext e9) (by omega) rfl rfl fun s33 h33 y33 g33 => ?_;have := f32.1;have := e0.1;have := e9.1;clear f32;replace e0 := y33.low e0 (fun b q => by have := (grow_own (G.ext e9) q).1; omega);clear e9;have := y33.1;refine gP ?_;apply gE;refine Go.inBlock noJ_ok ?_;refine gR rfl ?_;refine gO rfl rfl (aA rfl rfl) rfl ?_;refine gP ?_;apply gE
    have hh0 := e0.1
    refine again2 (q - 1) (k + 1, s33) _ _ (by omega) ⟨rfl, rfl, rfl, rfl, rfl, rfl, rfl, trivial⟩ ⟨by dsimp only; omega, e0, ?_⟩
    dsimp only
    rw [hnx, List.length_append (bs := [k])]
    have hnv : natsV ((subA n i ++ subB i k) ++ [k]) = natsV (subA n i ++ subB i k) ++ [.int .i64 (k : Nat)] := by unfold natsV; rw [List.map_append]; rfl
    rw [hnv];exact g33.low (by omega)
   ·rw [if_neg c2, List.append_nil] at hsb
    have d2 : decide (((popc k : Nat) : Int) = (i : Nat)) = false := decide_eq_false (by omega)
    apply gS;refine gR rfl ?_;refine gO rfl rfl (kLT rfl rfl) rfl ?_;apply gE;apply gS;refine gC (b := true) rfl ?_;refine gD ?_;apply gS;refine Go.block noJ_ok ?_;apply gS;refine gR rfl ?_;iterate 2 refine gP ?_
    apply gE;apply gS;refine gR rfl ?_;refine gP ?_;refine gO rfl rfl (aOp_convU64 rfl Try.underlying3 Try.underlying115 (by omega)) rfl ?_;refine GoR.call rfl rfl (aCF aFunc78 rfl) (ones78_ok hk10) ?_ np;rintro v31 h31 ⟨q, x31⟩;cases q;refine ⟨_, rfl, ?_⟩;replace e0 := e0.trans x31;replace e9 := e9.trans x31;refine gP ?_;refine gO rfl rfl (aOp_eql rfl rfl d2) rfl ?_;apply gE;refine gC (b := false) rfl ?_;refine gD ?_;refine Go.inBlock noJ_ok ?_;refine gR rfl ?_;refine gO rfl rfl (aA rfl rfl) rfl ?_;refine gP ?_;apply gE;exact again2 (q - 1) (k + 1, s2) _ _ (by omega) ⟨rfl, rfl, rfl, rfl, rfl, rfl, rfl, trivial⟩ ⟨by dsimp only; omega, e0, by dsimp only; rw [hsb]; exact G.ext e9⟩
  ·have hkw : k = w := by omega
   subst hkw
   rw [← hs0] at G
   apply gS;refine gR rfl ?_;refine gO rfl rfl (kLF rfl rfl) rfl ?_;apply gE;apply gS;refine gC (b := false) rfl ?_;refine gD ?_;refine Go.inBlock noJ_ok ?_;refine gR rfl ?_;refine gO rfl rfl (aA rfl rfl) rfl ?_;refine gP ?_;apply gE;exact again (m - 1) (i + 1, s2) _ _ (by omega) ⟨rfl, rfl, rfl, rfl, trivial⟩ ⟨by dsimp only; omega, e0, G⟩
 ·have hin : i = n + 1 := by omega
  subst hin;apply gS;refine gR rfl ?_;refine gO rfl rfl (kLF rfl rfl) rfl ?_;apply gE;apply gS;refine gC (b := false) rfl ?_;refine gD ?_;apply gS;refine gR rfl ?_;iterate 2 refine gP ?_
  apply gE;exact gV (ret_end (aResult_of Try.func62 rfl rfl) ⟨sl, rfl, e0, G⟩)
theorem subs_nodup {n : Nat} (hn : n ≤ 5) : (subs n).Nodup ∧ (subs n).length ≤ 100 := by
 have h : ∀ n, n < 6 → (subs n).Nodup ∧ (subs n).length ≤ 100 := by decide +kernel
 exact h n (by omega)
theorem nats_slice {h : AH} {lo : Nat} {s : AVal} {l : List Nat} (g : Grow h 3 1 lo s l.length (natsV l)) : SliceOf h 1 s (l.map fun n => [.int .i64 (n : Nat)]) := by
 refine Grow.sliceOf (L := l.map fun n : Nat => [AVal.int .i64 (n : Nat)]) (by rw [List.length_map]; exact g) fun i v q => ?_
 have := slice_flatten (sz := 1) (L := l.map fun n : Nat => [AVal.int .i64 (n : Nat)]) (fun x hx => by obtain ⟨_, _, rfl⟩ := List.mem_map.1 hx; rfl) i v q
 have hf : (l.map fun n : Nat => [AVal.int .i64 (n : Nat)]).flatten = natsV l := by
  clear g q this
  induction l with
  | nil => rfl
  | cons e l ih => rw [List.map_cons, List.flatten_cons, ih]; rfl
 rwa [hf] at this
def CutV.clashV (C : CutV) : Option Nat := (subs C.ls.length).find? fun s => (C.learnL (upto C.kl C.kh) s).isEmpty
theorem esN_mapN (L : List (List Int × AVal)) : MapN (esN L) L := by
 unfold MapN esN
 apply List.ext_getElem
 ·simp
 ·intro i h1 h2
  simp
theorem learnL_empty (C : CutV) (s : Nat) : ∀ ks : List Int, (C.learnL ks s).isEmpty = ks.all fun k => !(C.course k s).isSome
 | [] => rfl
 | k :: ks => by
  have ih := learnL_empty C s ks
  unfold CutV.learnL at ih ⊢
  rw [List.filterMap_cons, List.all_cons, ← ih]
  cases C.course k s with
  | none => rfl
  | some c => rfl
theorem clash34_ok {C : CutV} (O : C.Ok) {r b l : AVal} {h : AH} (A : CutAt h C r b l) :
  Runs Try.prog 34 [.agg (C.cells r b l)] h (fun en h' => Ext h h' ∧ ((∃ s, C.clashV = some s ∧ en = .ret (.int .i64 (s : Nat))) ∨ (C.clashV = none ∧ en = .pan (refusal 4)))) := by
 have hnl := O.nl
 have hl3 := A.ls.len
 rw [List.length_map] at hl3
 obtain ⟨n, hn⟩ : ∃ n, C.ls.length = n := ⟨_, rfl⟩
 rw [hn] at hl3 hnl
 obtain ⟨hnd, hnl2⟩ := subs_nodup hnl
 unfold CutV.clashV
 rw [hn]
 obtain ⟨sets, hsets⟩ : ∃ sets, subs n = sets := ⟨_, rfl⟩
 have hsub := fun h => subsets_ok hnl (h := h)
 rw [hsets] at hnd hnl2 hsub ⊢
 have hln := fun sl h A S => learn_ok O (r := r) (b := b) (l := l) (sl := sl) hnd hnl2 h A S
 have hle := fun h => leaks_ok (C := C) (r := r) (b := b) (l := l) (h := h)
 have hsm := A.same
 unfold CutV.cells at hln hle hsm ⊢
 have hsub2 : ∀ h, Runs Try.prog 62 [.int .i64 (n : Nat)] h (fun en h' => ∃ s, en = .ret s ∧ Ext h h' ∧ Grow h' 3 1 h.next s sets.length (natsV sets) ∧ Ext h' h') := fun h => (hsub h).mono fun en h' ⟨s, q, e, g⟩ => ⟨s, q, e, g, Ext.refl _⟩
 have hlv : ∀ {h' lo v}, Grow h' 3 1 lo v sets.length (natsV sets) → lenA v = some sets.length := fun g => by have := (nats_slice g).len; rwa [List.length_map] at this
 have e0 : Ext h h := Ext.refl _
 refine Runs.intro aFunc34 rfl rfl rfl rfl fun rest => ?_;apply gS;refine gR rfl ?_;refine GoR.box rfl rfl rfl rfl rfl rfl fun h0 x0 f0 => ?_;have := e0.1;replace e0 := e0.trans x0;have := f0.1;refine gP ?_;apply gE;refine Go.scope noJ_ok ?_;apply gS;refine gR rfl ?_;refine gO rfl rfl (fa68_5 rfl) rfl ?_;refine gO rfl rfl (ld26 rfl f0 rfl) rfl ?_;refine gO rfl rfl (aOp_lenSlice Try.underlying26 rfl hl3) rfl ?_;refine GoR.call rfl rfl (aCF aFunc62 rfl) (hsub2 _) ?_ (by rintro _ _ ⟨sl, q, _, _, e70⟩; cases q);rintro v1 h1 ⟨sl, q, x1, f1, e70⟩;cases q;refine ⟨_, rfl, ?_⟩;have := e0.1;replace f0 := f0.ext x1;replace e0 := e0.trans x1;refine gP ?_;apply gE;apply gS;refine gR rfl ?_;refine gO rfl rfl (ld68 rfl f0 rfl) rfl ?_;refine gP ?_;refine GoR.call rfl rfl (aCF aFunc63 rfl) (hln _ _ (A.ext e0) (nats_slice (by assumption))) ?_ (by rintro _ _ ⟨bm, q, _, hbm, MM⟩; cases q);rintro v2 h2 ⟨bm, q, x2, hbm, MM⟩;cases q;refine ⟨_, rfl, ?_⟩;have := e70.1;have := e0.1;replace f0 := f0.ext x2;replace e70 := e70.trans x2;replace e0 := e0.trans x2;refine GoR.alloc rfl rfl rfl zt72 rfl rfl fun h3 x3 f3 => ?_;have := e70.1;have := e0.1
 have := MM.1
 have := f0.1;replace MM := MM.ext x3;replace f0 := f0.ext x3;replace e70 := e70.trans x3;replace e0 := e0.trans x3;have := f3.1;refine GoR.store rfl rfl rfl rfl rfl rfl f3 rfl sz72 rfl rfl rfl fun h4 u4 => ?_;replace f3 := u4.has f3;replace MM := MM.upd u4 (by omega);replace f0 := f0.upd u4 (by omega);replace e70 := e70.upd u4 (by omega);replace e0 := e0.upd u4 (by omega);apply gE;apply gS;refine Go.label noJ_ok ?_;iterate 2 apply gS
 refine gR rfl ?_;refine gP ?_;refine gO rfl rfl (aOp_lenSlice Try.underlying34 rfl (hlv (by assumption))) rfl ?_;refine gP ?_;apply gE;refine Go.block noJ_ok ?_
 have S4 := nats_slice (f1.ext e70)
 have hb0 := f0.1
 have hb3 := f3.1
 have hbM := MM.1
 obtain ⟨KS, hKS⟩ : ∃ KS, upto C.kl C.kh = KS := ⟨_, rfl⟩
 have hok := O.k
 obtain ⟨K, hK⟩ : ∃ K, C.learn sets = K := ⟨_, rfl⟩
 rw [hK] at MM
 have hmap := esN_mapN (K.map entL)
 have hLen : LenN 2 (K.map entL) := fun x hx => by
  obtain ⟨y, _, rfl⟩ := List.mem_map.1 hx
  rfl
 have hlook : ∀ {k : Int} {s : Nat}, k ∈ KS → s ∈ sets → (findN [k, (s : Int)] (K.map entL)).isSome = (C.course k s).isSome := by
  intro k s hk hs
  cases hc : C.course k s with
  | some c =>
   cases hf : findN [k, (s : Int)] (K.map entL) with
   | some v => rfl
   | none =>
    refine absurd rfl (findN_none.1 hf ([k, (s : Int)], .agg (crsC c)) (List.mem_map.2 ⟨((k, (s : Int)), c), ?_, rfl⟩))
    rw [← hK]
    refine List.mem_flatMap.2 ⟨s, hs, List.mem_filterMap.2 ⟨k, by rw [hKS]; exact hk, by rw [hc]; rfl⟩⟩
  | none =>
   cases hf : findN [k, (s : Int)] (K.map entL) with
   | none => rfl
   | some v =>
    obtain ⟨y, hy, he⟩ := List.mem_map.1 (findN_mem hf)
    rw [← hK] at hy
    obtain ⟨s', hs', hy'⟩ := learn_mem hy
    obtain ⟨h1, h2, h3⟩ := learnL_mem hy'
    have e1 : [y.1.1, y.1.2] = [k, (s : Int)] := congrArg Prod.fst he
    injection e1 with e2 e3
    injection e3 with e4
    rw [h2] at e4
    have : s' = s := by omega
    subst this;rw [e2, hc] at h3;cases h3
 refine Go.loopKeepD (fun i : Nat => [(1, .ptr h.next 0), (4, .ptr h2.next 0), (17, v1), (18, .int .i64 sets.length), (19, .int .i64 (i : Nat))])
  (fun m i ds h' => m + i = sets.length ∧ Ext h4 h' ∧ (∀ x, x ∈ sets.take i → (C.learnL KS x).isEmpty = false) ∧ ∃ bs : List Nat, ds = bs.map .collected ∧ Coll h' h4.next bs) (n := sets.length) 0 ⟨rfl, rfl, rfl, rfl, rfl, trivial⟩ ⟨rfl, Ext.refl _, (by intro x hx; simp at hx), [], rfl, .nil⟩ ?_
 rintro m i ds h20 ⟨hm, e4, hno, bs, rfl, CL⟩ again
 have E0 := e0.trans e4
 have F0 := f0.ext e4
 have F3 := f3.ext e4
 have M0 := MM.ext e4
 have S0 := S4.ext e4
 have hle4 := e4.1
 clear e0 f0 f3 MM S4 f1 e70
 obtain ⟨e0, he0⟩ : ∃ e0, e0 = E0 := ⟨_, rfl⟩
 obtain ⟨f0, hf0⟩ : ∃ f0, f0 = F0 := ⟨_, rfl⟩
 obtain ⟨f3, hf3⟩ : ∃ f3, f3 = F3 := ⟨_, rfl⟩
 clear he0 hf0 hf3 E0 F0 F3
 have hn0 := f0.1
 have hn3 := f3.1
 have hnM := M0.1
 by_cases hi : i < sets.length
 ·obtain ⟨s, hs⟩ : ∃ s, sets[i]? = some s := ⟨sets[i], by simp [hi]⟩
  have hsm2 := List.mem_of_getElem? hs
  obtain ⟨bq, off, q1, q2⟩ := S0.at (i := i) (l := [.int .i64 (s : Nat)]) (by rw [List.getElem?_map, hs]; rfl)
  rw [List.length_map] at q1
  have e9 : Ext h20 h20 := Ext.refl _
  apply gS;refine gR rfl ?_;refine gO rfl rfl (kLT rfl rfl) rfl ?_;apply gE;apply gS;refine gC (b := true) rfl ?_;refine gD ?_;apply gS;refine Go.block noJ_ok ?_;apply gS;refine gR rfl ?_;refine gO rfl rfl (aOp_indexAddr (i := i) Try.underlying34 sz3 rfl q1 rfl (Nat.ble_eq_true_of_le hi)) rfl ?_;refine gO rfl rfl ((aOp_loadE1 (k := 0) ag3 rfl (q2.ext e9) rfl)) rfl ?_;refine GoR.alloc rfl rfl rfl zt3 rfl rfl fun h21 x21 f21 => ?_;have := e4.1;have := e0.1;have := e9.1
  have := M0.1
  have := f0.1;have := f3.1;replace M0 := M0.ext x21;replace f0 := f0.ext x21;replace f3 := f3.ext x21;replace e4 := e4.trans x21;replace e0 := e0.trans x21;replace e9 := e9.trans x21;have := f21.1;refine GoR.store rfl rfl rfl rfl rfl rfl f21 rfl sz3 rfl rfl rfl fun h22 u22 => ?_;replace f21 := u22.has f21;replace M0 := M0.upd u22 (by omega);replace f0 := f0.upd u22 (by omega);replace f3 := f3.upd u22 (by omega);replace e4 := e4.upd u22 (by omega);replace e0 := e0.upd u22 (by omega);replace e9 := e9.upd u22 (by omega);apply gE;iterate 2 apply gS
  refine gR rfl ?_;refine gO rfl rfl (ld68 rfl f0 rfl) rfl ?_;refine GoR.call rfl rfl (aCF aFunc64 rfl) (hle _) ?_ (by rintro _ _ ⟨bf, bt, q, _, hbf, hbt, NA⟩; cases q);rintro v23 h23 ⟨bf, bt, q, x23, hbf, hbt, NA⟩;cases q;refine ⟨_, rfl, ?_⟩;have := e4.1;have := e0.1;have := e9.1;replace f21 := f21.ext x23;replace M0 := M0.ext x23;replace f0 := f0.ext x23;replace f3 := f3.ext x23;replace e4 := e4.trans x23;replace e0 := e0.trans x23;replace e9 := e9.trans x23;apply gE;refine Go.block noJ_ok ?_
  have hb0 := f0.1
  have hb3 := f3.1
  have hb21 := f21.1
  have hbM := M0.1
  have hle9 := e9.1
  have CL2 := CL.ext e9
  have hsome : ∀ x, ExtF (fun _ => False) h23 x → Ext h23 x := fun x y => ⟨y.1, fun b hb => y.2 b hb id⟩
  refine Go.rangeN (items := KS.map fun n => [AVal.int .i64 n]) (A := NumsA C.kl C.kh bf bt) (fun _ => False)
   (fun j hh G => (∀ x, x ∈ KS.take j → (C.course x s).isSome = false) ∧ ∀ b, ¬ G b)
   (fun c hh G => (c = .exit 1 ∧ (C.learnL KS s).isEmpty = false) ∧ ∀ b, ¬ G b) rfl aFunc80 Try.func34 (by rw [← hKS]; exact nums80_it (by omega) (by omega) bf bt) (fun h' x => ⟨NA.f.ext (hsome _ x), NA.t.ext (hsome _ x)⟩) ⟨(by intro x hx; simp at hx), fun b q => q⟩ ?_ ?_ ?_ ?_ ?_ ?_ ?_
  ·rintro k hh G b ⟨_, hG⟩ q;exact absurd q (hG b)
  ·rintro c hh G b ⟨_, hG⟩ q;exact absurd q (hG b)
  ·rintro k h4' h5' G ⟨g, hG⟩ hn hk;exact ⟨g, hG⟩
  ·rintro c h4' h5' G ⟨g, hG⟩ hn hk;exact ⟨g, hG⟩
  ·rintro j item hj
   obtain ⟨k, hk, rfl⟩ : ∃ k, KS[j]? = some k ∧ [AVal.int .i64 k] = item := by
    rw [List.getElem?_map] at hj
    cases q : KS[j]? with
    | none => rw [q] at hj; cases hj
    | some x => rw [q] at hj; exact ⟨x, rfl, Option.some.inj hj⟩
   refine ⟨_, rfl, ?_⟩;rintro hh G lb r0 fr rest' Q' ⟨hcn, hG⟩ x1 hsub3 hnl3 hlb fl hready contT contF
   have hkm := List.mem_of_getElem? hk
   have hx1 := x1.1
   have hfl := fl.1
   have ex := hsome _ x1
   replace f3 := f3.ext ex;replace f21 := f21.ext ex;replace M0 := M0.ext ex
   have y9 : ExtF (fun b => G b ∨ b = lb) hh hh := ExtF.of (Ext.refl _)
   clear e0 e9 e4 f0;refine gR rfl ?_;refine gP ?_;apply gE;refine Go.beginRound fl hready fun h41 u41 => ?_;replace f3 := f3.upd u41 (by omega);replace f21 := f21.upd u41 (by omega);replace M0 := M0.upd u41 (by omega);replace fl := u41.has fl;replace y9 := y9.upd u41 (.inl (.inr rfl))
   have hu41 := u41.1
   obtain ⟨f6, hf6⟩ : ∃ f6, f6 = fl := ⟨_, rfl⟩
   clear hf6 fl
   have hk3 := f3.1
   have hk6 := f6.1
   have hk21 := f21.1
   have hkM := M0.1
   have e0 : Ext h41 h41 := Ext.refl _
   have hlk := hlook hkm hsm2
   cases hf : findN [k, (s : Int)] (K.map entL) with
   | none =>
    rw [hf] at hlk
    have hcs : (C.course k s).isSome = false := hlk.symm
    have hlu := fun (h : AH) (M : Has h bm (.map (esN (K.map entL)) K.length)) {t : Tr AVal} {dst : Option Tmp} {tt : TypeId} {pos : String} {after : Array Edge} {guard : Option (Nat × Bool)} {x y : Operand} (hx : ev t x = some (.map bm)) (hy : ev t y = some (.agg (i64s [k, (s : Int)]))) => aOp_lookupN (dst := dst) (tt := tt) (pos := pos) (after := after) (guard := guard) (commaOk := true) key102 Try.underlying72 zt99 hx hy rfl M hmap hLen
    rw [hf] at hlu;refine Go.block noJ_ok ?_;apply gS;refine gR rfl ?_;refine gO rfl rfl (ld72 rfl f3 rfl) rfl ?_;refine gP ?_;refine gO rfl rfl (ld3 rfl f21 rfl) rfl ?_;refine gO rfl rfl (aOp_build zt102 hu102 pl102 rfl rfl) rfl ?_;refine gO rfl rfl (hlu _ M0 rfl rfl) rfl ?_;iterate 3 refine gP ?_
    refine GoR.alloc rfl rfl rfl zt99 rfl rfl fun h42 x42 f42 => ?_;have := e0.1;have := f3.1;have := f21.1
    have := M0.1
    have := f6.1;replace f3 := f3.ext x42;replace f21 := f21.ext x42;replace M0 := M0.ext x42;replace f6 := f6.ext x42;replace e0 := e0.trans x42;replace y9 := y9.ext x42;have := f42.1;refine GoR.store rfl rfl rfl rfl rfl rfl f42 rfl sz99 rfl rfl rfl fun h43 u43 => ?_;replace f42 := u43.has f42;replace f3 := f3.upd u43 (by omega);replace f21 := f21.upd u43 (by omega);replace M0 := M0.upd u43 (by omega);replace f6 := f6.upd u43 (by omega);replace e0 := e0.upd u43 (by omega);replace y9 := y9.upd u43 (.inr (by omega));refine gP ?_;apply gE;apply gS;refine gR rfl ?_;refine gP ?_;apply gE;refine gC (b := false) rfl ?_;refine gD ?_;refine Go.inBlock noJ_ok ?_;exact contT _ _ G ⟨take_no hk hcs hcn, hG⟩ (fun b q => .inl q) y9 f6
   | some v =>
    rw [hf] at hlk
    have hcs : (C.course k s).isSome = true := hlk.symm
    obtain ⟨yy, hyy, hey⟩ := List.mem_map.1 (findN_mem hf)
    have hv : v = .agg (crsC yy.2) := (congrArg Prod.snd hey).symm
    subst hv
    have hcl := crsC_len (c := yy.2) (by
     rw [(learn_fit O (sets := sets) (hK ▸ hyy)).1]
     have := O.nr
     omega)
    have hcsc := crsC_scal yy.2
    obtain ⟨cc, hcc⟩ : ∃ cc, crsC yy.2 = cc := ⟨_, rfl⟩
    rw [hcc] at hf hcl hcsc
    have hs1 : Nat.beq (AVal.agg cc).cells.length 18 = true := by show Nat.beq cc.length 18 = true; rw [hcl]; rfl
    have hs3 : ∀ l : List AVal, l.length = 18 → splice l 0 (AVal.agg cc).cells = some cc := fun l hl => splice_all (by rw [hl]; exact hcl)
    have hne : (C.learnL KS s).isEmpty = false := by
     rw [learnL_empty, List.all_eq_false];exact ⟨k, hkm, by rw [hcs]; simp⟩
    have hlu := fun (h : AH) (M : Has h bm (.map (esN (K.map entL)) K.length)) {t : Tr AVal} {dst : Option Tmp} {tt : TypeId} {pos : String} {after : Array Edge} {guard : Option (Nat × Bool)} {x y : Operand} (hx : ev t x = some (.map bm)) (hy : ev t y = some (.agg (i64s [k, (s : Int)]))) => aOp_lookupN (dst := dst) (tt := tt) (pos := pos) (after := after) (guard := guard) (commaOk := true) key102 Try.underlying72 zt99 hx hy rfl M hmap hLen
    rw [hf] at hlu;refine Go.block noJ_ok ?_;apply gS;refine gR rfl ?_;refine gO rfl rfl (ld72 rfl f3 rfl) rfl ?_;refine gP ?_;refine gO rfl rfl (ld3 rfl f21 rfl) rfl ?_;refine gO rfl rfl (aOp_build zt102 hu102 pl102 rfl rfl) rfl ?_;refine gO rfl rfl (hlu _ M0 rfl rfl) rfl ?_;iterate 3 refine gP ?_
    refine GoR.alloc rfl rfl rfl zt99 rfl rfl fun h42 x42 f42 => ?_;have := e0.1;have := f3.1;have := f21.1
    have := M0.1
    have := f6.1;replace M0 := M0.ext x42;replace f6 := f6.ext x42;replace y9 := y9.ext x42;have := f42.1;refine GoR.store rfl rfl rfl rfl rfl rfl f42 rfl sz99 hs1 hcsc (hs3 _ rfl) fun h43 u43 => ?_;replace M0 := M0.upd u43 (by omega);replace f6 := f6.upd u43 (by omega);replace y9 := y9.upd u43 (.inr (by omega));refine gP ?_;apply gE;apply gS;refine gR rfl ?_;refine gP ?_;apply gE;refine gC (b := true) rfl ?_;exact contF _ _ _ _ G (.inr ⟨1, rfl, rfl⟩) ⟨⟨rfl, hne⟩, hG⟩ (fun b q => .inl q) y9 f6
  ·rintro d h30 G x30 hGs hnd2 hd hdd ⟨hcn, hG⟩;rw [List.length_map, List.take_length] at hcn
   have hem : (C.learnL KS s).isEmpty = true := by
    rw [learnL_empty, List.all_eq_true]
    exact fun x hx => by rw [hcn x hx]; rfl
   have hfind : sets.find? (fun s => (C.learnL KS s).isEmpty) = some s := by
    rw [List.find?_eq_some_iff_getElem]
    have hlt := (List.getElem?_eq_some_iff.1 hs).1
    have hv := (List.getElem?_eq_some_iff.1 hs).2
    exact ⟨hem, i, hlt, hv, fun k hk => by rw [hno _ (List.mem_take_iff_getElem.2 ⟨k, by omega, rfl⟩)]; rfl⟩
   rw [← hKS] at hfind
   have ex := hsome _ x30
   have hx30 := x30.1
   have CL3 := CL2.ext ex
   have CL4 := CL3.cons (d := d) (by omega) hdd (fun q => by have := (CL2.hs d q).2.1; omega)
   have E9 := e0.trans ex
   replace f21 := f21.ext ex;clear e0 e4 e9 f0 f3 M0;refine Go.inBlock noJ_ok ?_;apply gS;refine gR rfl ?_;refine gO rfl rfl (ld3 rfl f21 rfl) rfl ?_;refine gP ?_;apply gE;exact Go.retCs (bs := d :: bs) CL4.nd (fun b q => (CL4.hs b q).2) fun h' n1 n2 => ⟨aResult_of Try.func34 rfl rfl, ⟨by have := E9.1; omega, fun b hb => by rw [n2 b (fun q => by have := (CL4.hs b q).1; omega), E9.2 b hb]⟩, .inl ⟨s, hfind, rfl⟩⟩
  ·rintro c d h30 G x30 hGs hnd2 hd hdd ⟨⟨rfl, hne⟩, hG⟩
   have ex := hsome _ x30
   have hx30 := x30.1
   have CL3 := CL2.ext ex
   have CL4 := CL3.cons (d := d) (by omega) hdd (fun q => by have := (CL2.hs d q).2.1; omega)
   have E4 := e4.trans ex
   clear e0 e4 e9 f0 f3 f21 M0;refine gD ?_;refine gR rfl ?_;refine gO rfl rfl (aA rfl rfl) rfl ?_;refine gP ?_;apply gE;exact again (m - 1) (i + 1) ((d :: bs).map .collected) _ _ (by omega) ⟨rfl, rfl, rfl, rfl, rfl, trivial⟩ ⟨by omega, E4, take_no hs hne hno, d :: bs, rfl, CL4⟩
 ·clear again
  have hii : i = sets.length := by omega
  subst hii;rw [List.take_length] at hno
  have hnone : sets.find? (fun s => (C.learnL KS s).isEmpty) = none := List.find?_eq_none.2 fun x hx => by rw [hno x hx]; simp
  apply gS;refine gR rfl ?_;refine gO rfl rfl (kLF rfl rfl) rfl ?_;apply gE;apply gS;refine gC (b := false) rfl ?_;refine gD ?_;refine gR rfl ?_;refine gP ?_;exact GoR.panic rfl rfl rfl (FLeft.panCs CL.nd (fun b q => (CL.hs b q).2) fun h' n1 n2 => ⟨⟨by have := e0.1; omega, fun b hb => by rw [n2 b (fun q => by have := (CL.hs b q).1; omega), e0.2 b hb]⟩, .inr ⟨by rw [hKS]; exact hnone, rfl⟩⟩)
end Go.Proofs.Yteibheeleeengaa

namespace Go.Proofs.Yteibheeleeengaa
open Go Go.AbsE
set_option linter.unusedSimpArgs false
set_option maxRecDepth 100000
set_option maxHeartbeats 0
set_option linter.unusedVariables false
noncomputable def ops53a : Array Oper := ((drawnOps Try.f53)[0]?).getD #[]
theorem befs53a : befs0 ops53a = [0, 0, 3, 0, 15, 0, 63] := by kernel_rfl
theorem size53a : ops53a.size = 7 := by kernel_rfl
theorem pl53a_2_4_5 : planX ops53a [0, 0, 3, 0, 15, 31, 63] [0, 1, 3, 2, 4, 5, 6] = some (mkPlan ops53a.toList [(0, 0, true, false), (1, 0, true, false), (3, 0, true, false), (2, 3, false, false), (4, 15, false, false), (5, 31, false, false), (6, 63, false, false)]) := by kernel_rfl
theorem pl53a_2_5_4 : planX ops53a [0, 0, 3, 0, 47, 7, 63] [0, 1, 3, 2, 5, 4, 6] = some (mkPlan ops53a.toList [(0, 0, true, false), (1, 0, true, false), (3, 0, true, false), (2, 3, false, false), (5, 7, false, false), (4, 47, false, false), (6, 63, false, false)]) := by kernel_rfl
theorem pl53a_5_2_4 : planX ops53a [0, 0, 35, 0, 47, 0, 63] [0, 1, 3, 5, 2, 4, 6] = some (mkPlan ops53a.toList [(0, 0, true, false), (1, 0, true, false), (3, 0, true, false), (5, 0, false, false), (2, 35, false, false), (4, 47, false, false), (6, 63, false, false)]) := by kernel_rfl
theorem alts53a {P : Program} {c : FC} {k : List AItem} {id : Nat} {t : Tr AVal} {h : AH} {Q : AM → Prop}
  (g2_4_5 : ∀ pl, planX ops53a [0, 0, 3, 0, 15, 31, 63] [0, 1, 3, 2, 4, 5, 6] = some pl → GoE P c k Q ops53a pl (eraseT ops53a.toList t) [] t h)
  (g2_5_4 : ∀ pl, planX ops53a [0, 0, 3, 0, 47, 7, 63] [0, 1, 3, 2, 5, 4, 6] = some pl → GoE P c k Q ops53a pl (eraseT ops53a.toList t) [] t h)
  (g5_2_4 : ∀ pl, planX ops53a [0, 0, 35, 0, 47, 0, 63] [0, 1, 3, 5, 2, 4, 6] = some pl → GoE P c k Q ops53a pl (eraseT ops53a.toList t) [] t h) :
  Go P c (.code (.region id ops53a true) :: k) t h Q := by
 refine Go.drawnX pl53a_5_2_4 fun s hv => ?_
 have hb := fun i k hi hk => VB.before hv befs53a i k (by rw [size53a]; exact hi) hk
 have h2_0 := hb 2 0 (by decide) (by decide)
 have h2_1 := hb 2 1 (by decide) (by decide)
 have h4_0 := hb 4 0 (by decide) (by decide)
 have h4_1 := hb 4 1 (by decide) (by decide)
 have h4_2 := hb 4 2 (by decide) (by decide)
 have h4_3 := hb 4 3 (by decide) (by decide)
 have d5_2 := VB.apart hv befs53a 5 2 (by rw [size53a]; decide) (by decide)
 have d5_4 := VB.apart hv befs53a 5 4 (by rw [size53a]; decide) (by decide)
 by_cases q5_2 : s.idxOf 5 < s.idxOf 2
 ·refine ⟨_, _, _, pl53a_5_2_4, VB.alt hv befs53a size53a [(5, 2), (5, 4)] (by kernel_rfl) ?_, g5_2_4 _ pl53a_5_2_4⟩
  intro e he
  simp only [List.mem_cons, List.not_mem_nil, or_false] at he
  rcases he with rfl | rfl <;> dsimp only <;> omega
 ·by_cases q5_4 : s.idxOf 5 < s.idxOf 4
  ·refine ⟨_, _, _, pl53a_2_5_4, VB.alt hv befs53a size53a [(5, 4), (0, 5), (1, 5), (2, 5)] (by kernel_rfl) ?_, g2_5_4 _ pl53a_2_5_4⟩
   intro e he
   simp only [List.mem_cons, List.not_mem_nil, or_false] at he
   rcases he with rfl | rfl | rfl | rfl <;> dsimp only <;> omega
  ·refine ⟨_, _, _, pl53a_2_4_5, VB.alt hv befs53a size53a [(0, 5), (1, 5), (2, 5), (3, 5), (4, 5)] (by kernel_rfl) ?_, g2_4_5 _ pl53a_2_4_5⟩
   intro e he
   simp only [List.mem_cons, List.not_mem_nil, or_false] at he
   rcases he with rfl | rfl | rfl | rfl | rfl <;> dsimp only <;> omega
noncomputable def ops48a : Array Oper := ((drawnOps Try.f48)[0]?).getD #[]
theorem befs48a : befs0 ops48a = [0, 0, 3, 0, 15, 0, 63] := by kernel_rfl
theorem size48a : ops48a.size = 7 := by kernel_rfl
theorem pl48a_2_4_5 : planX ops48a [0, 0, 3, 0, 15, 31, 63] [0, 1, 3, 2, 4, 5, 6] = some (mkPlan ops48a.toList [(0, 0, true, false), (1, 0, true, false), (3, 0, true, false), (2, 3, false, false), (4, 15, false, false), (5, 31, false, false), (6, 63, false, false)]) := by kernel_rfl
theorem pl48a_2_5_4 : planX ops48a [0, 0, 3, 0, 47, 7, 63] [0, 1, 3, 2, 5, 4, 6] = some (mkPlan ops48a.toList [(0, 0, true, false), (1, 0, true, false), (3, 0, true, false), (2, 3, false, false), (5, 7, false, false), (4, 47, false, false), (6, 63, false, false)]) := by kernel_rfl
theorem pl48a_5_2_4 : planX ops48a [0, 0, 35, 0, 47, 0, 63] [0, 1, 3, 5, 2, 4, 6] = some (mkPlan ops48a.toList [(0, 0, true, false), (1, 0, true, false), (3, 0, true, false), (5, 0, false, false), (2, 35, false, false), (4, 47, false, false), (6, 63, false, false)]) := by kernel_rfl
theorem alts48a {P : Program} {c : FC} {k : List AItem} {id : Nat} {t : Tr AVal} {h : AH} {Q : AM → Prop}
  (g2_4_5 : ∀ pl, planX ops48a [0, 0, 3, 0, 15, 31, 63] [0, 1, 3, 2, 4, 5, 6] = some pl → GoE P c k Q ops48a pl (eraseT ops48a.toList t) [] t h)
  (g2_5_4 : ∀ pl, planX ops48a [0, 0, 3, 0, 47, 7, 63] [0, 1, 3, 2, 5, 4, 6] = some pl → GoE P c k Q ops48a pl (eraseT ops48a.toList t) [] t h)
  (g5_2_4 : ∀ pl, planX ops48a [0, 0, 35, 0, 47, 0, 63] [0, 1, 3, 5, 2, 4, 6] = some pl → GoE P c k Q ops48a pl (eraseT ops48a.toList t) [] t h) :
  Go P c (.code (.region id ops48a true) :: k) t h Q := by
 refine Go.drawnX pl48a_5_2_4 fun s hv => ?_
 have hb := fun i k hi hk => VB.before hv befs48a i k (by rw [size48a]; exact hi) hk
 have h2_0 := hb 2 0 (by decide) (by decide)
 have h2_1 := hb 2 1 (by decide) (by decide)
 have h4_0 := hb 4 0 (by decide) (by decide)
 have h4_1 := hb 4 1 (by decide) (by decide)
 have h4_2 := hb 4 2 (by decide) (by decide)
 have h4_3 := hb 4 3 (by decide) (by decide)
 have d5_2 := VB.apart hv befs48a 5 2 (by rw [size48a]; decide) (by decide)
 have d5_4 := VB.apart hv befs48a 5 4 (by rw [size48a]; decide) (by decide)
 by_cases q5_2 : s.idxOf 5 < s.idxOf 2
 ·refine ⟨_, _, _, pl48a_5_2_4, VB.alt hv befs48a size48a [(5, 2), (5, 4)] (by kernel_rfl) ?_, g5_2_4 _ pl48a_5_2_4⟩
  intro e he
  simp only [List.mem_cons, List.not_mem_nil, or_false] at he
  rcases he with rfl | rfl <;> dsimp only <;> omega
 ·by_cases q5_4 : s.idxOf 5 < s.idxOf 4
  ·refine ⟨_, _, _, pl48a_2_5_4, VB.alt hv befs48a size48a [(5, 4), (0, 5), (1, 5), (2, 5)] (by kernel_rfl) ?_, g2_5_4 _ pl48a_2_5_4⟩
   intro e he
   simp only [List.mem_cons, List.not_mem_nil, or_false] at he
   rcases he with rfl | rfl | rfl | rfl <;> dsimp only <;> omega
  ·refine ⟨_, _, _, pl48a_2_4_5, VB.alt hv befs48a size48a [(0, 5), (1, 5), (2, 5), (3, 5), (4, 5)] (by kernel_rfl) ?_, g2_4_5 _ pl48a_2_4_5⟩
   intro e he
   simp only [List.mem_cons, List.not_mem_nil, or_false] at he
   rcases he with rfl | rfl | rfl | rfl | rfl <;> dsimp only <;> omega
noncomputable def ops41a : Array Oper := ((drawnOps Try.f41)[0]?).getD #[]
theorem befs41a : befs0 ops41a = [0, 0, 3, 0, 15, 0, 63] := by kernel_rfl
theorem size41a : ops41a.size = 7 := by kernel_rfl
theorem pl41a_2_4_5 : planX ops41a [0, 0, 3, 0, 15, 31, 63] [0, 1, 3, 2, 4, 5, 6] = some (mkPlan ops41a.toList [(0, 0, true, false), (1, 0, true, false), (3, 0, true, false), (2, 3, false, false), (4, 15, false, false), (5, 31, false, false), (6, 63, false, false)]) := by kernel_rfl
theorem pl41a_2_5_4 : planX ops41a [0, 0, 3, 0, 47, 7, 63] [0, 1, 3, 2, 5, 4, 6] = some (mkPlan ops41a.toList [(0, 0, true, false), (1, 0, true, false), (3, 0, true, false), (2, 3, false, false), (5, 7, false, false), (4, 47, false, false), (6, 63, false, false)]) := by kernel_rfl
theorem pl41a_5_2_4 : planX ops41a [0, 0, 35, 0, 47, 0, 63] [0, 1, 3, 5, 2, 4, 6] = some (mkPlan ops41a.toList [(0, 0, true, false), (1, 0, true, false), (3, 0, true, false), (5, 0, false, false), (2, 35, false, false), (4, 47, false, false), (6, 63, false, false)]) := by kernel_rfl
theorem alts41a {P : Program} {c : FC} {k : List AItem} {id : Nat} {t : Tr AVal} {h : AH} {Q : AM → Prop}
  (g2_4_5 : ∀ pl, planX ops41a [0, 0, 3, 0, 15, 31, 63] [0, 1, 3, 2, 4, 5, 6] = some pl → GoE P c k Q ops41a pl (eraseT ops41a.toList t) [] t h)
  (g2_5_4 : ∀ pl, planX ops41a [0, 0, 3, 0, 47, 7, 63] [0, 1, 3, 2, 5, 4, 6] = some pl → GoE P c k Q ops41a pl (eraseT ops41a.toList t) [] t h)
  (g5_2_4 : ∀ pl, planX ops41a [0, 0, 35, 0, 47, 0, 63] [0, 1, 3, 5, 2, 4, 6] = some pl → GoE P c k Q ops41a pl (eraseT ops41a.toList t) [] t h) :
  Go P c (.code (.region id ops41a true) :: k) t h Q := by
 refine Go.drawnX pl41a_5_2_4 fun s hv => ?_
 have hb := fun i k hi hk => VB.before hv befs41a i k (by rw [size41a]; exact hi) hk
 have h2_0 := hb 2 0 (by decide) (by decide)
 have h2_1 := hb 2 1 (by decide) (by decide)
 have h4_0 := hb 4 0 (by decide) (by decide)
 have h4_1 := hb 4 1 (by decide) (by decide)
 have h4_2 := hb 4 2 (by decide) (by decide)
 have h4_3 := hb 4 3 (by decide) (by decide)
 have d5_2 := VB.apart hv befs41a 5 2 (by rw [size41a]; decide) (by decide)
 have d5_4 := VB.apart hv befs41a 5 4 (by rw [size41a]; decide) (by decide)
 by_cases q5_2 : s.idxOf 5 < s.idxOf 2
 ·refine ⟨_, _, _, pl41a_5_2_4, VB.alt hv befs41a size41a [(5, 2), (5, 4)] (by kernel_rfl) ?_, g5_2_4 _ pl41a_5_2_4⟩
  intro e he
  simp only [List.mem_cons, List.not_mem_nil, or_false] at he
  rcases he with rfl | rfl <;> dsimp only <;> omega
 ·by_cases q5_4 : s.idxOf 5 < s.idxOf 4
  ·refine ⟨_, _, _, pl41a_2_5_4, VB.alt hv befs41a size41a [(5, 4), (0, 5), (1, 5), (2, 5)] (by kernel_rfl) ?_, g2_5_4 _ pl41a_2_5_4⟩
   intro e he
   simp only [List.mem_cons, List.not_mem_nil, or_false] at he
   rcases he with rfl | rfl | rfl | rfl <;> dsimp only <;> omega
  ·refine ⟨_, _, _, pl41a_2_4_5, VB.alt hv befs41a size41a [(0, 5), (1, 5), (2, 5), (3, 5), (4, 5)] (by kernel_rfl) ?_, g2_4_5 _ pl41a_2_4_5⟩
   intro e he
   simp only [List.mem_cons, List.not_mem_nil, or_false] at he
   rcases he with rfl | rfl | rfl | rfl | rfl <;> dsimp only <;> omega
noncomputable def ops57a : Array Oper := ((drawnOps Try.f57)[0]?).getD #[]
theorem befs57a : befs0 ops57a = [0, 1, 0, 7, 0, 31] := by kernel_rfl
theorem size57a : ops57a.size = 6 := by kernel_rfl
theorem pl57a_1_3_4 : planX ops57a [0, 1, 0, 7, 15, 31] [0, 2, 1, 3, 4, 5] = some (mkPlan ops57a.toList [(0, 0, true, false), (2, 0, true, false), (1, 1, false, false), (3, 7, false, false), (4, 15, false, false), (5, 31, false, false)]) := by kernel_rfl
theorem pl57a_1_4_3 : planX ops57a [0, 1, 0, 23, 3, 31] [0, 2, 1, 4, 3, 5] = some (mkPlan ops57a.toList [(0, 0, true, false), (2, 0, true, false), (1, 1, false, false), (4, 3, false, false), (3, 23, false, false), (5, 31, false, false)]) := by kernel_rfl
theorem pl57a_4_1_3 : planX ops57a [0, 17, 0, 23, 0, 31] [0, 2, 4, 1, 3, 5] = some (mkPlan ops57a.toList [(0, 0, true, false), (2, 0, true, false), (4, 0, false, false), (1, 17, false, false), (3, 23, false, false), (5, 31, false, false)]) := by kernel_rfl
theorem alts57a {P : Program} {c : FC} {k : List AItem} {id : Nat} {t : Tr AVal} {h : AH} {Q : AM → Prop}
  (g1_3_4 : ∀ pl, planX ops57a [0, 1, 0, 7, 15, 31] [0, 2, 1, 3, 4, 5] = some pl → GoE P c k Q ops57a pl (eraseT ops57a.toList t) [] t h)
  (g1_4_3 : ∀ pl, planX ops57a [0, 1, 0, 23, 3, 31] [0, 2, 1, 4, 3, 5] = some pl → GoE P c k Q ops57a pl (eraseT ops57a.toList t) [] t h)
  (g4_1_3 : ∀ pl, planX ops57a [0, 17, 0, 23, 0, 31] [0, 2, 4, 1, 3, 5] = some pl → GoE P c k Q ops57a pl (eraseT ops57a.toList t) [] t h) :
  Go P c (.code (.region id ops57a true) :: k) t h Q := by
 refine Go.drawnX pl57a_4_1_3 fun s hv => ?_
 have hb := fun i k hi hk => VB.before hv befs57a i k (by rw [size57a]; exact hi) hk
 have h1_0 := hb 1 0 (by decide) (by decide)
 have h3_0 := hb 3 0 (by decide) (by decide)
 have h3_1 := hb 3 1 (by decide) (by decide)
 have h3_2 := hb 3 2 (by decide) (by decide)
 have d4_1 := VB.apart hv befs57a 4 1 (by rw [size57a]; decide) (by decide)
 have d4_3 := VB.apart hv befs57a 4 3 (by rw [size57a]; decide) (by decide)
 by_cases q4_1 : s.idxOf 4 < s.idxOf 1
 ·refine ⟨_, _, _, pl57a_4_1_3, VB.alt hv befs57a size57a [(4, 1), (4, 3)] (by kernel_rfl) ?_, g4_1_3 _ pl57a_4_1_3⟩
  intro e he
  simp only [List.mem_cons, List.not_mem_nil, or_false] at he
  rcases he with rfl | rfl <;> dsimp only <;> omega
 ·by_cases q4_3 : s.idxOf 4 < s.idxOf 3
  ·refine ⟨_, _, _, pl57a_1_4_3, VB.alt hv befs57a size57a [(4, 3), (0, 4), (1, 4)] (by kernel_rfl) ?_, g1_4_3 _ pl57a_1_4_3⟩
   intro e he
   simp only [List.mem_cons, List.not_mem_nil, or_false] at he
   rcases he with rfl | rfl | rfl <;> dsimp only <;> omega
  ·refine ⟨_, _, _, pl57a_1_3_4, VB.alt hv befs57a size57a [(0, 4), (1, 4), (2, 4), (3, 4)] (by kernel_rfl) ?_, g1_3_4 _ pl57a_1_3_4⟩
   intro e he
   simp only [List.mem_cons, List.not_mem_nil, or_false] at he
   rcases he with rfl | rfl | rfl | rfl <;> dsimp only <;> omega
end Go.Proofs.Yteibheeleeengaa
