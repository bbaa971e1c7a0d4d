import Derived.Test.YteibheeleeengaaMAO
import Derived.Test.YteibheeleeengaaMAG
namespace Go.Proofs.Yteibheeleeengaa
open Go Go.AbsE
set_option linter.unusedSimpArgs false
set_option maxRecDepth 100000
set_option maxHeartbeats 0
set_option linter.unusedVariables false
theorem attempt_is {C : CutV} (O : C.Ok) (r b l : AVal) (h : AH) (A : CutAt h C r b l) (W : FuncId) (fW : Func) (hfid : aFunc Try.prog W = some fW) (caps : List AVal) (hsm : sameA (.func (.func W) [] caps) (.func (.func W) [] caps) = true) (S : Nat → Prop) (hS : ∀ b, S b → b < h.next) (T : AH → Prop) (hT : ∀ h2 h', h2.next ≤ h'.next → (∀ b, b < h.next → h'.get b = h2.get b) → T h2 → T h') (code : Int)
  (hbody : ∀ h', Ext h h' → Runs Try.prog W ([.agg (C.cells r b l)] ++ caps) h' (fun en h'' => ExtF S h' h'' ∧ T h'' ∧ ((code = 0 ∧ en = .ret (.tuple [])) ∨ en = .pan (refusal code)))) :
  Runs Try.prog 32 [.agg (C.cells r b l), .func (.func W) [] caps] h (fun en h' => en = .ret (.int .i64 code) ∧ ExtF S h h' ∧ T h') :=
 (attempt_ok O r b l h A W fW hfid caps hsm S hS (fun c h' => c = code ∧ T h') fun h' e => (hbody h' e).mono fun en h'' ⟨x, f, q⟩ => ⟨x, q.elim (fun q => .inl ⟨q.2, q.1.symm, f⟩) fun q => .inr ⟨code, q, rfl, f⟩⟩).mono
  fun en h' ⟨c, h2, q, ⟨hc, f⟩, x, le, same⟩ => ⟨by rw [q, hc], x, hT h2 h' le same f⟩
theorem needDay_yes {C : CutV} {r b l : AVal} {n : Int} {h : AH} (A : CutAt h C r b l) (hl : C.rs.length ≤ 40) (hq : 0 ≤ n ∧ n ≤ C.rs.length) : Runs Try.prog 39 [.agg (C.cells r b l), .int .i64 n] h (fun en h' => en = .ret (.tuple []) ∧ Ext h h') := by
 have := needDay_ok (n := n) A hl
 rw [if_pos hq] at this;exact this
theorem needDay_no {C : CutV} {r b l : AVal} {n : Int} {h : AH} (A : CutAt h C r b l) (hl : C.rs.length ≤ 40) (hq : ¬ (0 ≤ n ∧ n ≤ C.rs.length)) : Runs Try.prog 39 [.agg (C.cells r b l), .int .i64 n] h (fun en h' => en = .pan (refusal 2) ∧ Ext h h') := by
 have := needDay_ok (n := n) A hl
 rw [if_neg hq] at this;exact this
theorem needs_yes {x : BV} (O : x.Ok) {n : Int} {h : AH} (hq : 0 ≤ n ∧ n ≤ x.room) : Runs Try.prog 43 [.agg x.cells, .int .i64 n] h (fun en h' => en = .ret (.agg (spC (x.needs n))) ∧ Ext h h') := by
 have := needs_ok O (n := n) (h := h)
 rw [if_pos hq] at this;exact this
theorem needs_no {x : BV} (O : x.Ok) {n : Int} {h : AH} (hq : ¬ (0 ≤ n ∧ n ≤ x.room)) : Runs Try.prog 43 [.agg x.cells, .int .i64 n] h (fun en h' => en = .pan (refusal 2) ∧ Ext h h') := by
 have := needs_ok O (n := n) (h := h)
 rw [if_neg hq] at this;exact this
def zSp : Int × Int := (0, 0)
open Classical in
noncomputable def CutV.tr {α : Type} (C : CutV) (a z : α) : α × Int := if C.truths ≠ [] then (a, 0) else (z, 10)
noncomputable def CutV.dayQ {α : Type} (C : CutV) (day : Int) (k : α × Int) (z : α) : α × Int := if 0 ≤ day ∧ day ≤ C.rs.length then k else (z, 2)
noncomputable def CutV.boatQ {α : Type} (C : CutV) (boat : Int) (k : BV → α × Int) (z : α) : α × Int := if 0 ≤ boat ∧ boat < C.bs.length then (match C.bs[boat.toNat]? with | some x => k x | none => (z, 2)) else (z, 2)
noncomputable def loadQ {α : Type} (x : BV) (n : Int) (k : α × Int) (z : α) : α × Int := if 0 ≤ n ∧ n ≤ x.room then k else (z, 2)
noncomputable def CutV.ok {α : Type} (C : CutV) (k : α × Int) (z : α) : α × Int := if C.Ok then k else (z, 1)
noncomputable def CutV.depthR (C : CutV) (day : Int) : (Int × Int) × Int := C.ok (C.dayQ day (C.tr (C.at day.toNat) zSp) zSp) zSp
noncomputable def CutV.leakR (C : CutV) : (Int × Int) × Int := C.ok (C.tr (joinL (C.truths.map leakK)) zSp) zSp
noncomputable def CutV.floatsR (C : CutV) (boat loads day : Int) : Int × Int := C.ok (C.boatQ boat (fun x => loadQ x loads (C.dayQ day (C.tr (floatsV (C.at day.toNat) (x.needs loads)) 0) 0) 0) 0) 0
noncomputable def CutV.loadsR (C : CutV) (boat day : Int) : (Int × Int) × Int := C.ok (C.boatQ boat (fun x => C.dayQ day (C.tr (mostV x (surelyV (C.at day.toNat)), mostV x (perhapsV (C.at day.toNat))) zSp) zSp) zSp) zSp
noncomputable def CutV.bits (C : CutV) (p : Int × Int → Int × Int → Bool) (need : Int × Int) : Nat := bitsV (C.rs.length + 1) fun d => p (C.at d) need
noncomputable def CutV.daysR (C : CutV) (boat loads : Int) : (Int × Int) × Int := C.ok (C.boatQ boat (fun x => loadQ x loads (C.tr (((C.bits surelyV (x.needs loads) : Nat) : Int), ((C.bits perhapsV (x.needs loads) : Nat) : Int)) zSp) zSp) zSp) zSp
open Classical in
noncomputable def CutV.untilQ (C : CutV) (need : Int × Int) (day : Int) : Int × Int := if C.truths ≠ [] then (match C.untilV need day with | some d => (d, 0) | none => (0, 4)) else (0, 10)
noncomputable def CutV.untilR (C : CutV) (boat loads day : Int) : Int × Int := C.ok (C.boatQ boat (fun x => loadQ x loads (C.dayQ day (C.untilQ (x.needs loads) day) 0) 0) 0) 0
noncomputable def CutV.togetherR (C : CutV) (day : Int) : Int × Int := C.ok (C.dayQ day (C.tr (C.togetherV day.toNat) 0) 0) 0
noncomputable def CutV.clashQ (C : CutV) : Int × Int := match C.clashV with | some s => (((s : Nat) : Int), (0 : Int)) | none => (0, 4)
noncomputable def CutV.clashR (C : CutV) : Int × Int := C.ok C.clashQ 0
theorem CutV.ok_yes {α : Type} {C : CutV} {k : α × Int} {z : α} (O : C.Ok) : C.ok k z = k := if_pos O
theorem CutV.ok_no {α : Type} {C : CutV} {k : α × Int} {z : α} (O : ¬ C.Ok) : C.ok k z = (z, 1) := if_neg O
theorem CutV.tr_yes {α : Type} {C : CutV} {a z : α} (h : C.truths ≠ []) : C.tr a z = (a, 0) := if_pos h
theorem CutV.tr_no {α : Type} {C : CutV} {a z : α} (h : C.truths = []) : C.tr a z = (z, 10) := if_neg (fun q => q h)
theorem CutV.day_yes {α : Type} {C : CutV} {day : Int} {k : α × Int} {z : α} (h : 0 ≤ day ∧ day ≤ C.rs.length) : C.dayQ day k z = k := if_pos h
theorem CutV.day_no {α : Type} {C : CutV} {day : Int} {k : α × Int} {z : α} (h : ¬ (0 ≤ day ∧ day ≤ C.rs.length)) : C.dayQ day k z = (z, 2) := if_neg h
theorem load_yes {α : Type} {x : BV} {n : Int} {k : α × Int} {z : α} (h : 0 ≤ n ∧ n ≤ x.room) : loadQ x n k z = k := if_pos h
theorem load_no {α : Type} {x : BV} {n : Int} {k : α × Int} {z : α} (h : ¬ (0 ≤ n ∧ n ≤ x.room)) : loadQ x n k z = (z, 2) := if_neg h
theorem CutV.boat_yes {α : Type} {C : CutV} {i : Nat} {x : BV} {k : BV → α × Int} {z : α} (h : C.bs[i]? = some x) : C.boatQ (i : Nat) k z = k x := by
 have := (List.getElem?_eq_some_iff.1 h).1
 unfold CutV.boatQ
 rw [if_pos (by omega), Int.toNat_natCast, h]
theorem CutV.boat_no {α : Type} {C : CutV} {boat : Int} {k : BV → α × Int} {z : α} (h : ¬ (0 ≤ boat ∧ boat < C.bs.length)) : C.boatQ boat k z = (z, 2) := if_neg h
theorem depthB_ok {C : CutV} (O : C.Ok) {r b l : AVal} {day : Int} {b0 br : Nat} {h : AH} (A : CutAt h C r b l) (f0 : Has h b0 (.cells .plain [.int .i64 day] 3)) (f1 : Has h br (.cells .plain [.int .i64 0, .int .i64 0] 23)) (hb0br : b0 ≠ br) :
  Runs Try.prog 38 [.agg (C.cells r b l), .ptr b0 0, .ptr br 0] h (fun en h'' => ExtF (fun b => b = br) h h'' ∧ (Has h'' br (.cells .plain (spC (C.dayQ day (C.tr (C.at day.toNat) zSp) zSp).1) 23)) ∧ (((C.dayQ day (C.tr (C.at day.toNat) zSp) zSp).2 = 0 ∧ en = .ret (.tuple [])) ∨ en = .pan (refusal (C.dayQ day (C.tr (C.at day.toNat) zSp) zSp).2))) := by
 have hnr := O.nr
 have hnb := O.nb
 have y0 : ExtF (fun b => b = br) h h := ExtF.of (Ext.refl _)
 have hsm := A.same
 have l0 := f0.1
 have l1 := f1.1
 have ht1 := fun h A c => truths_yes O (r := r) (b := b) (l := l) (h := h) c A
 have ht2 := fun h A c => truths_no O (r := r) (b := b) (l := l) (h := h) c A
 have hd1 := fun h A c => needDay_yes (C := C) (r := r) (b := b) (l := l) (n := day) (h := h) A (by omega) c
 have hd2 := fun h A c => needDay_no (C := C) (r := r) (b := b) (l := l) (n := day) (h := h) A (by omega) c
 by_cases c1 : 0 ≤ day ∧ day ≤ C.rs.length
 ·rw [CutV.day_yes c1]
  by_cases c2 : C.truths = []
  ·rw [CutV.tr_no c2]
   unfold zSp
   unfold CutV.cells at *
   try unfold BV.cells at *
   try unfold spC at *
   have e0 : Ext h h := Ext.refl _
   refine Runs.intro aFunc38 rfl rfl rfl rfl fun rest => ?_;apply gS;refine gR rfl ?_;refine GoR.box rfl rfl rfl rfl rfl rfl fun h2 x2 f2 => ?_;replace f0 := f0.ext x2;replace f1 := f1.ext x2;replace e0 := e0.trans x2;replace y0 := y0.ext x2;apply gE;apply gS;refine gR rfl ?_;refine gO rfl rfl (ld68 rfl f2 rfl) rfl ?_;refine gO rfl rfl (ld3 rfl f0 rfl) rfl ?_;refine GoR.call rfl rfl (aCF aFunc39 rfl) (hd1 _ (A.ext e0) c1) ?_ np;rintro v3 h3 ⟨q, x3⟩;cases q;refine ⟨_, rfl, ?_⟩;replace f2 := f2.ext x3;replace f0 := f0.ext x3;replace f1 := f1.ext x3;replace e0 := e0.trans x3;replace y0 := y0.ext x3;apply gE;refine Go.drawnE plan38_0 ?_;refine gQ rfl rfl (ld68 rfl f2 rfl) rfl ?_;refine gQ rfl rfl (ld3 rfl f0 rfl) rfl ?_;refine GoE.callP rfl rfl (aCF aFunc36 rfl) (ht2 _ (A.ext e0) c2) rfl (by rintro _ _ ⟨q, _⟩; cases q) ?_;rintro chain h4 ⟨q, x4⟩
   have q := AEnd.pan.inj q
   subst q;replace f1 := f1.ext x4;replace y0 := y0.ext x4;exact FLeft.pan (⟨y0, f1, .inr rfl⟩)
  ·rw [CutV.tr_yes c2]
   obtain ⟨d, rfl⟩ := Int.eq_ofNat_of_zero_le c1.1
   rw [Int.toNat_natCast]
   have hat := fun h' bm (K : KnownAt C.truths (C.rs.length + 1) h' bm) => at_ok K (d := d) (by omega) (by omega)
   obtain ⟨W, hW⟩ : ∃ W, C.at d = W := ⟨_, rfl⟩
   rw [show joinL (C.truths.map (atK d)) = W from hW] at hat;rw [hW]
   unfold CutV.cells at *
   try unfold BV.cells at *
   try unfold spC at *
   have e0 : Ext h h := Ext.refl _
   refine Runs.intro aFunc38 rfl rfl rfl rfl fun rest => ?_;apply gS;refine gR rfl ?_;refine GoR.box rfl rfl rfl rfl rfl rfl fun h2 x2 f2 => ?_;have := e0.1;have := f1.1;have := f0.1;replace f1 := f1.ext x2;replace f0 := f0.ext x2;replace e0 := e0.trans x2;replace y0 := y0.ext x2;have := f2.1;apply gE;apply gS;refine gR rfl ?_;refine gO rfl rfl (ld68 rfl f2 rfl) rfl ?_;refine gO rfl rfl (ld3 rfl f0 rfl) rfl ?_;refine GoR.call rfl rfl (aCF aFunc39 rfl) (hd1 _ (A.ext e0) c1) ?_ np;rintro v3 h3 ⟨q, x3⟩;cases q;refine ⟨_, rfl, ?_⟩;replace f2 := f2.ext x3;replace f1 := f1.ext x3;replace f0 := f0.ext x3;replace e0 := e0.trans x3;replace y0 := y0.ext x3;apply gE;refine Go.drawnE plan38_0 ?_;refine gQ rfl rfl (ld68 rfl f2 rfl) rfl ?_;refine gQ rfl rfl (ld3 rfl f0 rfl) rfl ?_;refine GoE.call rfl rfl (aCF aFunc36 rfl) (ht1 _ (A.ext e0) c2) (dK 1 2 (dD 1 0 rfl)) ?_ (by rintro _ _ ⟨bm, q, _, hbm, KK⟩; cases q);rintro v4 h4 ⟨bm, q, x4, hbm, KK⟩;cases q;replace f2 := f2.ext x4;replace f1 := f1.ext x4;replace f0 := f0.ext x4;replace e0 := e0.trans x4;replace y0 := y0.ext x4;refine ⟨(rck (h2 := h4) rfl (ld3 rfl f0 rfl) recheck_nil), _, rfl, ?_⟩;refine GoE.call rfl rfl (aCF aFunc40 rfl) (hat _ _ (by assumption)) (dD 7 2 rfl) ?_ np;rintro v5 h5 ⟨q, x5⟩;cases q;replace f1 := f1.ext x5;replace y0 := y0.ext x5;refine ⟨recheck_nil, _, rfl, ?_⟩;refine gQ rfl rfl (fd77_0 rfl rfl) rfl ?_;refine GoE.store rfl rfl rfl rfl (dD 31 4 rfl) rfl rfl f1 rfl sz23 rfl rfl rfl fun h6 u6 => ?_;replace f1 := u6.has f1;clear e0;replace y0 := y0.upd u6 (.inl rfl);refine ⟨recheck_nil, ?_⟩;refine GoE.end rfl ?_;exact Go.endL (FLeft.ret (v := .tuple []) (aResult_of Try.func38 rfl rfl) ⟨y0, f1, .inl ⟨rfl, rfl⟩⟩)
 ·rw [CutV.day_no c1]
  unfold zSp
  unfold CutV.cells at *
  try unfold BV.cells at *
  try unfold spC at *
  have e0 : Ext h h := Ext.refl _
  refine Runs.intro aFunc38 rfl rfl rfl rfl fun rest => ?_;apply gS;refine gR rfl ?_;refine GoR.box rfl rfl rfl rfl rfl rfl fun h2 x2 f2 => ?_;replace f0 := f0.ext x2;replace f1 := f1.ext x2;replace e0 := e0.trans x2;replace y0 := y0.ext x2;apply gE;apply gS;refine gR rfl ?_;refine gO rfl rfl (ld68 rfl f2 rfl) rfl ?_;refine gO rfl rfl (ld3 rfl f0 rfl) rfl ?_;refine GoR.callP rfl rfl (aCF aFunc39 rfl) (hd2 _ (A.ext e0) c1) (by rintro _ _ ⟨q, _⟩; cases q) ?_;rintro chain h3 ⟨q, x3⟩
  have q := AEnd.pan.inj q
  subst q;replace f1 := f1.ext x3;replace y0 := y0.ext x3;exact FLeft.pan (⟨y0, f1, .inr rfl⟩)
theorem leakB_ok {C : CutV} (O : C.Ok) {r b l : AVal} {br : Nat} {h : AH} (A : CutAt h C r b l) (f0 : Has h br (.cells .plain [.int .i64 0, .int .i64 0] 23)) :
  Runs Try.prog 35 [.agg (C.cells r b l), .ptr br 0] h (fun en h'' => ExtF (fun b => b = br) h h'' ∧ (Has h'' br (.cells .plain (spC (C.tr (joinL (C.truths.map leakK)) zSp).1) 23)) ∧ (((C.tr (joinL (C.truths.map leakK)) zSp).2 = 0 ∧ en = .ret (.tuple [])) ∨ en = .pan (refusal (C.tr (joinL (C.truths.map leakK)) zSp).2))) := by
 have hnr := O.nr
 have hnb := O.nb
 have y0 : ExtF (fun b => b = br) h h := ExtF.of (Ext.refl _)
 have hsm := A.same
 have l0 := f0.1
 have ht1 := fun h A c => truths_yes O (r := r) (b := b) (l := l) (h := h) c A
 have ht2 := fun h A c => truths_no O (r := r) (b := b) (l := l) (h := h) c A
 by_cases c2 : C.truths = []
 ·rw [CutV.tr_no c2]
  unfold zSp
  unfold CutV.cells at *
  try unfold BV.cells at *
  try unfold spC at *
  have e0 : Ext h h := Ext.refl _
  refine Runs.intro aFunc35 rfl rfl rfl rfl fun rest => ?_;apply gS;refine gR rfl ?_;refine GoR.box rfl rfl rfl rfl rfl rfl fun h1 x1 f1 => ?_;replace f0 := f0.ext x1;replace e0 := e0.trans x1;replace y0 := y0.ext x1;apply gE;refine gR rfl ?_;refine gO rfl rfl (ld68 rfl f1 rfl) rfl ?_;refine GoR.callP rfl rfl (aCF aFunc36 rfl) (ht2 _ (A.ext e0) c2) (by rintro _ _ ⟨q, _⟩; cases q) ?_;rintro chain h2 ⟨q, x2⟩
  have q := AEnd.pan.inj q
  subst q;replace f0 := f0.ext x2;replace y0 := y0.ext x2;exact FLeft.pan (⟨y0, f0, .inr rfl⟩)
 ·rw [CutV.tr_yes c2]
  have hlk := fun h' bm (K : KnownAt C.truths (C.rs.length + 1) h' bm) => leak_ok K
  obtain ⟨W, hW⟩ : ∃ W, joinL (C.truths.map leakK) = W := ⟨_, rfl⟩
  rw [hW] at hlk ⊢
  unfold CutV.cells at *
  try unfold BV.cells at *
  try unfold spC at *
  have e0 : Ext h h := Ext.refl _
  refine Runs.intro aFunc35 rfl rfl rfl rfl fun rest => ?_;apply gS;refine gR rfl ?_;refine GoR.box rfl rfl rfl rfl rfl rfl fun h1 x1 f1 => ?_;replace f0 := f0.ext x1;replace e0 := e0.trans x1;replace y0 := y0.ext x1;apply gE;refine gR rfl ?_;refine gO rfl rfl (ld68 rfl f1 rfl) rfl ?_;refine GoR.call rfl rfl (aCF aFunc36 rfl) (ht1 _ (A.ext e0) c2) ?_ (by rintro _ _ ⟨bm, q, _, hbm, KK⟩; cases q);rintro v2 h2 ⟨bm, q, x2, hbm, KK⟩;cases q;refine ⟨_, rfl, ?_⟩;replace f1 := f1.ext x2;replace f0 := f0.ext x2;replace e0 := e0.trans x2;replace y0 := y0.ext x2;refine GoR.call rfl rfl (aCF aFunc37 rfl) (hlk _ _ (by assumption)) ?_ np;rintro v3 h3 ⟨q, x3⟩;cases q;refine ⟨_, rfl, ?_⟩;replace f0 := f0.ext x3;replace y0 := y0.ext x3;refine GoR.store rfl rfl rfl rfl rfl rfl f0 rfl sz23 rfl rfl rfl fun h4 u4 => ?_;replace f0 := u4.has f0;clear e0;replace y0 := y0.upd u4 (.inl rfl);apply gE;exact Go.endL (FLeft.ret (v := .tuple []) (aResult_of Try.func35 rfl rfl) ⟨y0, f0, .inl ⟨rfl, rfl⟩⟩)
theorem togetherB_ok {C : CutV} (O : C.Ok) {r b l : AVal} {day : Int} {b0 br : Nat} {h : AH} (A : CutAt h C r b l) (f0 : Has h b0 (.cells .plain [.int .i64 day] 3)) (f1 : Has h br (.cells .plain [.int .i64 0] 3)) (hb0br : b0 ≠ br) :
  Runs Try.prog 55 [.agg (C.cells r b l), .ptr b0 0, .ptr br 0] h (fun en h'' => ExtF (fun b => b = br) h h'' ∧ (Has h'' br (.cells .plain [.int .i64 (C.dayQ day (C.tr (C.togetherV day.toNat) 0) 0).1] 3)) ∧ (((C.dayQ day (C.tr (C.togetherV day.toNat) 0) 0).2 = 0 ∧ en = .ret (.tuple [])) ∨ en = .pan (refusal (C.dayQ day (C.tr (C.togetherV day.toNat) 0) 0).2))) := by
 have hnr := O.nr
 have hnb := O.nb
 have y0 : ExtF (fun b => b = br) h h := ExtF.of (Ext.refl _)
 have hsm := A.same
 have l0 := f0.1
 have l1 := f1.1
 have ht1 := fun h A c => truths_yes O (r := r) (b := b) (l := l) (h := h) c A
 have ht2 := fun h A c => truths_no O (r := r) (b := b) (l := l) (h := h) c A
 have hd1 := fun h A c => needDay_yes (C := C) (r := r) (b := b) (l := l) (n := day) (h := h) A (by omega) c
 have hd2 := fun h A c => needDay_no (C := C) (r := r) (b := b) (l := l) (n := day) (h := h) A (by omega) c
 by_cases c1 : 0 ≤ day ∧ day ≤ C.rs.length
 ·rw [CutV.day_yes c1]
  by_cases c2 : C.truths = []
  ·rw [CutV.tr_no c2]
   have htn := fun h A => together_no O c2 (r := r) (b := b) (l := l) (day := day) (h := h) A
   unfold CutV.cells at *
   try unfold BV.cells at *
   try unfold spC at *
   have e0 : Ext h h := Ext.refl _
   refine Runs.intro aFunc55 rfl rfl rfl rfl fun rest => ?_;apply gS;refine gR rfl ?_;refine GoR.box rfl rfl rfl rfl rfl rfl fun h2 x2 f2 => ?_;replace f0 := f0.ext x2;replace f1 := f1.ext x2;replace e0 := e0.trans x2;replace y0 := y0.ext x2;apply gE;apply gS;refine gR rfl ?_;refine gO rfl rfl (ld68 rfl f2 rfl) rfl ?_;refine gO rfl rfl (ld3 rfl f0 rfl) rfl ?_;refine GoR.call rfl rfl (aCF aFunc39 rfl) (hd1 _ (A.ext e0) c1) ?_ np;rintro v3 h3 ⟨q, x3⟩;cases q;refine ⟨_, rfl, ?_⟩;replace f2 := f2.ext x3;replace f0 := f0.ext x3;replace f1 := f1.ext x3;replace e0 := e0.trans x3;replace y0 := y0.ext x3;apply gE;refine gR rfl ?_;refine gO rfl rfl (ld68 rfl f2 rfl) rfl ?_;refine gO rfl rfl (ld3 rfl f0 rfl) rfl ?_;refine GoR.callP rfl rfl (aCF aFunc56 rfl) (htn _ (A.ext e0)) (by rintro _ _ ⟨q, _⟩; cases q) ?_;rintro chain h4 ⟨q, x4⟩
   have q := AEnd.pan.inj q
   subst q;replace f1 := f1.ext x4;replace y0 := y0.ext x4;exact FLeft.pan (⟨y0, f1, .inr rfl⟩)
  ·rw [CutV.tr_yes c2]
   obtain ⟨d, rfl⟩ := Int.eq_ofNat_of_zero_le c1.1
   rw [Int.toNat_natCast]
   have hto := fun h A => together_ok O c2 (r := r) (b := b) (l := l) (day := d) (by omega) (h := h) A
   obtain ⟨W, hW⟩ : ∃ W, C.togetherV d = W := ⟨_, rfl⟩
   rw [hW] at hto ⊢
   unfold CutV.cells at *
   try unfold BV.cells at *
   try unfold spC at *
   have e0 : Ext h h := Ext.refl _
   refine Runs.intro aFunc55 rfl rfl rfl rfl fun rest => ?_;apply gS;refine gR rfl ?_;refine GoR.box rfl rfl rfl rfl rfl rfl fun h2 x2 f2 => ?_;replace f1 := f1.ext x2;replace f0 := f0.ext x2;replace e0 := e0.trans x2;replace y0 := y0.ext x2;apply gE;apply gS;refine gR rfl ?_;refine gO rfl rfl (ld68 rfl f2 rfl) rfl ?_;refine gO rfl rfl (ld3 rfl f0 rfl) rfl ?_;refine GoR.call rfl rfl (aCF aFunc39 rfl) (hd1 _ (A.ext e0) c1) ?_ np;rintro v3 h3 ⟨q, x3⟩;cases q;refine ⟨_, rfl, ?_⟩;replace f2 := f2.ext x3;replace f1 := f1.ext x3;replace f0 := f0.ext x3;replace e0 := e0.trans x3;replace y0 := y0.ext x3;apply gE;refine gR rfl ?_;refine gO rfl rfl (ld68 rfl f2 rfl) rfl ?_;refine gO rfl rfl (ld3 rfl f0 rfl) rfl ?_;refine GoR.call rfl rfl (aCF aFunc56 rfl) (hto _ (A.ext e0)) ?_ np;rintro v4 h4 ⟨q, x4⟩;cases q;refine ⟨_, rfl, ?_⟩;replace f1 := f1.ext x4;replace y0 := y0.ext x4;refine GoR.store rfl rfl rfl rfl rfl rfl f1 rfl sz3 rfl rfl rfl fun h5 u5 => ?_;replace f1 := u5.has f1;clear e0;replace y0 := y0.upd u5 (.inl rfl);apply gE;exact Go.endL (FLeft.ret (v := .tuple []) (aResult_of Try.func55 rfl rfl) ⟨y0, f1, .inl ⟨rfl, rfl⟩⟩)
 ·rw [CutV.day_no c1]
  unfold CutV.cells at *
  try unfold BV.cells at *
  try unfold spC at *
  have e0 : Ext h h := Ext.refl _
  refine Runs.intro aFunc55 rfl rfl rfl rfl fun rest => ?_;apply gS;refine gR rfl ?_;refine GoR.box rfl rfl rfl rfl rfl rfl fun h2 x2 f2 => ?_;replace f0 := f0.ext x2;replace f1 := f1.ext x2;replace e0 := e0.trans x2;replace y0 := y0.ext x2;apply gE;apply gS;refine gR rfl ?_;refine gO rfl rfl (ld68 rfl f2 rfl) rfl ?_;refine gO rfl rfl (ld3 rfl f0 rfl) rfl ?_;refine GoR.callP rfl rfl (aCF aFunc39 rfl) (hd2 _ (A.ext e0) c1) (by rintro _ _ ⟨q, _⟩; cases q) ?_;rintro chain h3 ⟨q, x3⟩
  have q := AEnd.pan.inj q
  subst q;replace f1 := f1.ext x3;replace y0 := y0.ext x3;exact FLeft.pan (⟨y0, f1, .inr rfl⟩)
theorem clashB_ok {C : CutV} (O : C.Ok) {r b l : AVal} {br : Nat} {h : AH} (A : CutAt h C r b l) (f0 : Has h br (.cells .plain [.int .i64 0] 3)) :
  Runs Try.prog 33 [.agg (C.cells r b l), .ptr br 0] h (fun en h'' => ExtF (fun b => b = br) h h'' ∧ (Has h'' br (.cells .plain [.int .i64 C.clashQ.1] 3)) ∧ (((C.clashQ).2 = 0 ∧ en = .ret (.tuple [])) ∨ en = .pan (refusal (C.clashQ).2))) := by
 have hnr := O.nr
 have hnb := O.nb
 have y0 : ExtF (fun b => b = br) h h := ExtF.of (Ext.refl _)
 have hsm := A.same
 have l0 := f0.1
 have hcl := fun h A => clash34_ok O (r := r) (b := b) (l := l) (h := h) A
 unfold CutV.clashQ
 cases hv : C.clashV with
 | none =>
  have hc2 : ∀ h, CutAt h C r b l → Runs Try.prog 34 [.agg (C.cells r b l)] h (fun en h' => en = .pan (refusal 4) ∧ Ext h h') := fun h A => (hcl h A).mono fun en h' ⟨e, k⟩ => by
   rcases k with ⟨s, q, _⟩ | ⟨_, q⟩
   ·rw [hv] at q; cases q
   ·exact ⟨q, e⟩
  unfold CutV.cells at *
  try unfold BV.cells at *
  try unfold spC at *
  have e0 : Ext h h := Ext.refl _
  refine Runs.intro aFunc33 rfl rfl rfl rfl fun rest => ?_;apply gS;refine gR rfl ?_;refine GoR.box rfl rfl rfl rfl rfl rfl fun h1 x1 f1 => ?_;replace f0 := f0.ext x1;replace e0 := e0.trans x1;replace y0 := y0.ext x1;apply gE;refine gR rfl ?_;refine gO rfl rfl (ld68 rfl f1 rfl) rfl ?_;refine GoR.callP rfl rfl (aCF aFunc34 rfl) (hc2 _ (A.ext e0)) (by rintro _ _ ⟨q, _⟩; cases q) ?_;rintro chain h2 ⟨q, x2⟩
  have q := AEnd.pan.inj q
  subst q;replace f1 := f1.ext x2;replace f0 := f0.ext x2;replace e0 := e0.trans x2;replace y0 := y0.ext x2;exact FLeft.pan (⟨y0, f0, .inr rfl⟩)
 | some s =>
  have hc2 : ∀ h, CutAt h C r b l → Runs Try.prog 34 [.agg (C.cells r b l)] h (fun en h' => en = .ret (.int .i64 (s : Nat)) ∧ Ext h h') := fun h A => (hcl h A).mono fun en h' ⟨e, k⟩ => by
   rcases k with ⟨s', q, q2⟩ | ⟨q, _⟩
   ·rw [hv] at q; cases q; exact ⟨q2, e⟩
   ·rw [hv] at q; cases q
  unfold CutV.cells at *
  try unfold BV.cells at *
  try unfold spC at *
  have e0 : Ext h h := Ext.refl _
  refine Runs.intro aFunc33 rfl rfl rfl rfl fun rest => ?_;apply gS;refine gR rfl ?_;refine GoR.box rfl rfl rfl rfl rfl rfl fun h1 x1 f1 => ?_;replace f0 := f0.ext x1;replace e0 := e0.trans x1;replace y0 := y0.ext x1;apply gE;refine gR rfl ?_;refine gO rfl rfl (ld68 rfl f1 rfl) rfl ?_;refine GoR.call rfl rfl (aCF aFunc34 rfl) (hc2 _ (A.ext e0)) ?_ np;rintro v2 h2 ⟨q, x2⟩;cases q;refine ⟨_, rfl, ?_⟩;replace f0 := f0.ext x2;replace y0 := y0.ext x2;refine GoR.store rfl rfl rfl rfl rfl rfl f0 rfl sz3 rfl rfl rfl fun h3 u3 => ?_;replace f0 := u3.has f0;clear e0;replace y0 := y0.upd u3 (.inl rfl);apply gE;exact Go.endL (FLeft.ret (v := .tuple []) (aResult_of Try.func33 rfl rfl) ⟨y0, f0, .inl ⟨rfl, rfl⟩⟩)
theorem floatsB_ok {C : CutV} (O : C.Ok) {r b l : AVal} {boat loads day : Int} {b0 b1 b2 br : Nat} {h : AH} (A : CutAt h C r b l) (f0 : Has h b0 (.cells .plain [.int .i64 boat] 3)) (f1 : Has h b1 (.cells .plain [.int .i64 loads] 3)) (f2 : Has h b2 (.cells .plain [.int .i64 day] 3)) (f3 : Has h br (.cells .plain [.int .i64 0] 3)) (hb0br : b0 ≠ br) (hb1br : b1 ≠ br) (hb2br : b2 ≠ br) :
  Runs Try.prog 53 [.agg (C.cells r b l), .ptr b0 0, .ptr b1 0, .ptr b2 0, .ptr br 0] h (fun en h'' => ExtF (fun b => b = br) h h'' ∧ (Has h'' br (.cells .plain [.int .i64 (C.boatQ boat (fun x => loadQ x loads (C.dayQ day (C.tr (floatsV (C.at day.toNat) (x.needs loads)) 0) 0) 0) 0).1] 3)) ∧ (((C.boatQ boat (fun x => loadQ x loads (C.dayQ day (C.tr (floatsV (C.at day.toNat) (x.needs loads)) 0) 0) 0) 0).2 = 0 ∧ en = .ret (.tuple [])) ∨ en = .pan (refusal (C.boatQ boat (fun x => loadQ x loads (C.dayQ day (C.tr (floatsV (C.at day.toNat) (x.needs loads)) 0) 0) 0) 0).2))) := by
 have hnr := O.nr
 have hnb := O.nb
 have y0 : ExtF (fun b => b = br) h h := ExtF.of (Ext.refl _)
 have hsm := A.same
 have l0 := f0.1
 have l1 := f1.1
 have l2 := f2.1
 have l3 := f3.1
 have ht1 := fun h A c => truths_yes O (r := r) (b := b) (l := l) (h := h) c A
 have ht2 := fun h A c => truths_no O (r := r) (b := b) (l := l) (h := h) c A
 have hd1 := fun h A c => needDay_yes (C := C) (r := r) (b := b) (l := l) (n := day) (h := h) A (by omega) c
 have hd2 := fun h A c => needDay_no (C := C) (r := r) (b := b) (l := l) (n := day) (h := h) A (by omega) c
 have hv1 := fun h A i x c => vessel_ok (C := C) (r := r) (b := b) (l := l) (n := i) (h := h) A (by omega) (x := x) c
 have hv2 := fun h A c => vessel_no (C := C) (r := r) (b := b) (l := l) (n := boat) (h := h) A (by omega) c
 by_cases c0 : 0 ≤ boat ∧ boat < C.bs.length
 ·obtain ⟨i, rfl⟩ := Int.eq_ofNat_of_zero_le c0.1
  obtain ⟨x, hx⟩ : ∃ x, C.bs[i]? = some x := ⟨C.bs[i]'(by omega), by simp⟩
  have hxO := O.b x (List.mem_of_getElem? hx)
  have hxs : sameA (.agg x.cells) (.agg x.cells) = true := by unfold BV.cells; simp [sameA, sameAs, eqI_eq]
  rw [CutV.boat_yes hx]
  have hn1 := fun h c => needs_yes hxO (n := loads) (h := h) c
  have hn2 := fun h c => needs_no hxO (n := loads) (h := h) c
  by_cases c3 : 0 ≤ loads ∧ loads ≤ x.room
  ·rw [load_yes c3]
   obtain ⟨N, hN⟩ : ∃ N, x.needs loads = N := ⟨_, rfl⟩
   rw [hN] at hn1 ⊢
   unfold CutV.cells at *
   try unfold BV.cells at *
   try unfold spC at *
   have e0 : Ext h h := Ext.refl _
   refine Runs.intro aFunc53 rfl rfl rfl rfl fun rest => ?_;apply gS;refine gR rfl ?_;refine GoR.box rfl rfl rfl rfl rfl rfl fun h4 x4 f4 => ?_;have := e0.1;have := f1.1;have := f2.1;have := f3.1;have := f0.1;replace f1 := f1.ext x4;replace f2 := f2.ext x4;replace f3 := f3.ext x4;replace f0 := f0.ext x4;replace e0 := e0.trans x4;replace y0 := y0.ext x4;have := f4.1;apply gE;refine Go.seq noJ_ok (Go.join (fun bb : Nat => [(1, .ptr b0 0), (2, .ptr b1 0), (3, .ptr b2 0), (4, .ptr br 0), (5, .ptr h.next 0), (6, .ptr bb 0)]) (fun bb h' => Ext h h' ∧ ExtF (fun b => b = br) h h' ∧ h.next ≤ bb ∧ Has h' h.next (.cells .plain [.int .i64 C.dl, .int .i64 C.dh, .int .i64 C.kl, .int .i64 C.kh, r, .int .i64 C.most, b, l] 68) ∧ Has h' bb (.cells .plain [.int .i64 N.1, .int .i64 N.2] 23) ∧ Has h' b0 (.cells .plain [.int .i64 (i : Nat)] 3) ∧ Has h' b1 (.cells .plain [.int .i64 loads] 3) ∧ Has h' b2 (.cells .plain [.int .i64 day] 3) ∧ Has h' br (.cells .plain [.int .i64 0] 3)) ?_ ?_)
   ·intro k' done
    refine alts53a ?_ ?_ ?_
    ·intro pl hpl
     rw [pl53a_2_4_5] at hpl;cases hpl;refine gQ rfl rfl (ld68 rfl f4 rfl) rfl ?_;refine gQ rfl rfl (ld3 rfl f0 rfl) rfl ?_;refine gQ rfl rfl (ld3 rfl f1 rfl) rfl ?_;refine GoE.call rfl rfl (aCF aFunc42 rfl) (hv1 _ (A.ext e0) i x hx) (dK 3 3 (dD 3 1 (dD 3 0 rfl))) ?_ np;rintro v5 h5 ⟨q, x5⟩;cases q;replace f4 := f4.ext x5;replace f1 := f1.ext x5;replace f2 := f2.ext x5;replace f3 := f3.ext x5;replace f0 := f0.ext x5;replace e0 := e0.trans x5;replace y0 := y0.ext x5;refine ⟨(rck (h2 := h5) rfl (ld3 rfl f1 rfl) recheck_nil), _, rfl, ?_⟩;refine GoE.call rfl rfl (aCF aFunc43 rfl) (hn1 _ c3) (dD 15 3 rfl) ?_ np;rintro v6 h6 ⟨q, x6⟩;cases q;replace f4 := f4.ext x6;replace f1 := f1.ext x6;replace f2 := f2.ext x6;replace f3 := f3.ext x6;replace f0 := f0.ext x6;replace e0 := e0.trans x6;replace y0 := y0.ext x6;refine ⟨recheck_nil, _, rfl, ?_⟩;refine GoE.alloc rfl rfl zt23 rfl rfl rfl fun h7 x7 f7 => ?_;have := e0.1;have := f4.1;have := f1.1;have := f2.1;have := f3.1;have := f0.1;replace f4 := f4.ext x7;replace f1 := f1.ext x7;replace f2 := f2.ext x7;replace f3 := f3.ext x7;replace f0 := f0.ext x7;replace e0 := e0.trans x7;replace y0 := y0.ext x7;have := f7.1;refine ⟨recheck_nil, ?_⟩;refine GoE.store rfl rfl rfl rfl rfl rfl rfl f7 rfl sz23 rfl rfl rfl fun h8 u8 => ?_;replace f7 := u8.has f7;replace f4 := f4.upd u8 (by omega);replace f1 := f1.upd u8 (by omega);replace f2 := f2.upd u8 (by omega);replace f3 := f3.upd u8 (by omega);replace f0 := f0.upd u8 (by omega);replace e0 := e0.upd u8 (by omega);replace y0 := y0.upd u8 (.inr (by omega));refine ⟨recheck_nil, ?_⟩;refine GoE.end rfl ?_;exact done _ _ _ ⟨rfl, rfl, rfl, rfl, rfl, rfl, trivial⟩ ⟨e0, y0, by omega, f4, by assumption, f0, f1, f2, f3⟩
    ·intro pl hpl
     rw [pl53a_2_5_4] at hpl;cases hpl;refine gQ rfl rfl (ld68 rfl f4 rfl) rfl ?_;refine gQ rfl rfl (ld3 rfl f0 rfl) rfl ?_;refine gQ rfl rfl (ld3 rfl f1 rfl) rfl ?_;refine GoE.call rfl rfl (aCF aFunc42 rfl) (hv1 _ (A.ext e0) i x hx) (dK 3 3 (dD 3 1 (dD 3 0 rfl))) ?_ np;rintro v5 h5 ⟨q, x5⟩;cases q;replace f4 := f4.ext x5;replace f1 := f1.ext x5;replace f2 := f2.ext x5;replace f3 := f3.ext x5;replace f0 := f0.ext x5;replace e0 := e0.trans x5;replace y0 := y0.ext x5;refine ⟨(rck (h2 := h5) rfl (ld3 rfl f1 rfl) recheck_nil), _, rfl, ?_⟩;refine GoE.alloc rfl rfl zt23 (dK 7 3 rfl) rfl rfl fun h6 x6 f6 => ?_;have := e0.1;have := f4.1;have := f1.1;have := f2.1;have := f3.1;have := f0.1;replace f4 := f4.ext x6;replace f1 := f1.ext x6;replace f2 := f2.ext x6;replace f3 := f3.ext x6;replace f0 := f0.ext x6;replace e0 := e0.trans x6;replace y0 := y0.ext x6;have := f6.1;refine ⟨(rck (h2 := h6) rfl (ld3 rfl f1 rfl) recheck_nil), ?_⟩;refine GoE.call rfl rfl (aCF aFunc43 rfl) (hn1 _ c3) (dD 47 3 rfl) ?_ np;rintro v7 h7 ⟨q, x7⟩;cases q;replace f6 := f6.ext x7;replace f4 := f4.ext x7;replace f1 := f1.ext x7;replace f2 := f2.ext x7;replace f3 := f3.ext x7;replace f0 := f0.ext x7;replace e0 := e0.trans x7;replace y0 := y0.ext x7;refine ⟨recheck_nil, _, rfl, ?_⟩;refine GoE.store rfl rfl rfl rfl rfl rfl rfl f6 rfl sz23 rfl rfl rfl fun h8 u8 => ?_;replace f6 := u8.has f6;replace f4 := f4.upd u8 (by omega);replace f1 := f1.upd u8 (by omega);replace f2 := f2.upd u8 (by omega);replace f3 := f3.upd u8 (by omega);replace f0 := f0.upd u8 (by omega);replace e0 := e0.upd u8 (by omega);replace y0 := y0.upd u8 (.inr (by omega));refine ⟨recheck_nil, ?_⟩;refine GoE.end rfl ?_;exact done _ _ _ ⟨rfl, rfl, rfl, rfl, rfl, rfl, trivial⟩ ⟨e0, y0, by omega, f4, by assumption, f0, f1, f2, f3⟩
    ·intro pl hpl
     rw [pl53a_5_2_4] at hpl;cases hpl;refine gQ rfl rfl (ld68 rfl f4 rfl) rfl ?_;refine gQ rfl rfl (ld3 rfl f0 rfl) rfl ?_;refine gQ rfl rfl (ld3 rfl f1 rfl) rfl ?_;refine GoE.alloc rfl rfl zt23 (dK 0 3 (dK 0 1 (dK 0 0 rfl))) rfl rfl fun h5 x5 f5 => ?_;have := e0.1;have := f4.1;have := f1.1;have := f2.1;have := f3.1;have := f0.1;replace f4 := f4.ext x5;replace f1 := f1.ext x5;replace f2 := f2.ext x5;replace f3 := f3.ext x5;replace f0 := f0.ext x5;replace e0 := e0.trans x5;replace y0 := y0.ext x5;have := f5.1;refine ⟨(rck (h2 := h5) rfl (ld3 rfl f1 rfl) (rck (h2 := h5) rfl (ld3 rfl f0 rfl) (rck (h2 := h5) rfl (ld68 rfl f4 rfl) recheck_nil))), ?_⟩;refine GoE.call rfl rfl (aCF aFunc42 rfl) (hv1 _ (A.ext e0) i x hx) (dK 35 3 (dD 35 1 (dD 35 0 rfl))) ?_ np;rintro v6 h6 ⟨q, x6⟩;cases q;replace f5 := f5.ext x6;replace f4 := f4.ext x6;replace f1 := f1.ext x6;replace f2 := f2.ext x6;replace f3 := f3.ext x6;replace f0 := f0.ext x6;replace e0 := e0.trans x6;replace y0 := y0.ext x6;refine ⟨(rck (h2 := h6) rfl (ld3 rfl f1 rfl) recheck_nil), _, rfl, ?_⟩;refine GoE.call rfl rfl (aCF aFunc43 rfl) (hn1 _ c3) (dD 47 3 rfl) ?_ np;rintro v7 h7 ⟨q, x7⟩;cases q;replace f5 := f5.ext x7;replace f4 := f4.ext x7;replace f1 := f1.ext x7;replace f2 := f2.ext x7;replace f3 := f3.ext x7;replace f0 := f0.ext x7;replace e0 := e0.trans x7;replace y0 := y0.ext x7;refine ⟨recheck_nil, _, rfl, ?_⟩;refine GoE.store rfl rfl rfl rfl rfl rfl rfl f5 rfl sz23 rfl rfl rfl fun h8 u8 => ?_;replace f5 := u8.has f5;replace f4 := f4.upd u8 (by omega);replace f1 := f1.upd u8 (by omega);replace f2 := f2.upd u8 (by omega);replace f3 := f3.upd u8 (by omega);replace f0 := f0.upd u8 (by omega);replace e0 := e0.upd u8 (by omega);replace y0 := y0.upd u8 (.inr (by omega));refine ⟨recheck_nil, ?_⟩;refine GoE.end rfl ?_;exact done _ _ _ ⟨rfl, rfl, rfl, rfl, rfl, rfl, trivial⟩ ⟨e0, y0, by omega, f4, by assumption, f0, f1, f2, f3⟩
   ·clear y0 e0 f0 f1 f2 f3 f4;rintro b9 h9 ⟨e0, y0, hb9, f4, f9, f0, f1, f2, f3⟩
    have l09 := f0.1
    have l19 := f1.1
    have l29 := f2.1
    have l39 := f3.1
    have l49 := f4.1
    have l99 := f9.1
    clear hn1 hn2 hv1 hv2
    by_cases c1 : 0 ≤ day ∧ day ≤ C.rs.length
    ·rw [CutV.day_yes c1]
     by_cases c2 : C.truths = []
     ·rw [CutV.tr_no c2]
      try unfold zSp
      try unfold CutV.cells at *
      try unfold BV.cells at *
      try unfold spC at *
      apply gS;refine gR rfl ?_;refine gO rfl rfl (ld68 rfl f4 rfl) rfl ?_;refine gO rfl rfl (ld3 rfl f2 rfl) rfl ?_;refine GoR.call rfl rfl (aCF aFunc39 rfl) (hd1 _ (A.ext e0) c1) ?_ np;rintro v10 h10 ⟨q, x10⟩;cases q;refine ⟨_, rfl, ?_⟩;replace f4 := f4.ext x10;replace f9 := f9.ext x10;replace f2 := f2.ext x10;replace f3 := f3.ext x10;replace e0 := e0.trans x10;replace y0 := y0.ext x10;apply gE;refine Go.drawnE plan53_1 ?_;refine gQ rfl rfl (ld68 rfl f4 rfl) rfl ?_;refine gQ rfl rfl (ld3 rfl f2 rfl) rfl ?_;refine gQ rfl rfl (ld23 rfl f9 rfl) rfl ?_;refine GoE.callP rfl rfl (aCF aFunc36 rfl) (ht2 _ (A.ext e0) c2) rfl (by rintro _ _ ⟨q, _⟩; cases q) ?_;rintro chain h11 ⟨q, x11⟩
      have q := AEnd.pan.inj q
      subst q;replace f3 := f3.ext x11;replace y0 := y0.ext x11;exact FLeft.pan (⟨y0, f3, .inr rfl⟩)
     ·rw [CutV.tr_yes c2]
      obtain ⟨d, rfl⟩ := Int.eq_ofNat_of_zero_le c1.1
      rw [Int.toNat_natCast]
      have hat := fun h' bm (K : KnownAt C.truths (C.rs.length + 1) h' bm) => at_ok K (d := d) (by omega) (by omega)
      obtain ⟨W, hW⟩ : ∃ W, C.at d = W := ⟨_, rfl⟩
      rw [show joinL (C.truths.map (atK d)) = W from hW] at hat;rw [hW]
      have hfl := fun h => floats_ok (d := W) (n := N) (h := h)
      try unfold CutV.cells at *
      try unfold BV.cells at *
      try unfold spC at *
      apply gS;refine gR rfl ?_;refine gO rfl rfl (ld68 rfl f4 rfl) rfl ?_;refine gO rfl rfl (ld3 rfl f2 rfl) rfl ?_;refine GoR.call rfl rfl (aCF aFunc39 rfl) (hd1 _ (A.ext e0) c1) ?_ np;rintro v10 h10 ⟨q, x10⟩;cases q;refine ⟨_, rfl, ?_⟩;replace f4 := f4.ext x10;replace f9 := f9.ext x10;replace f0 := f0.ext x10;replace f1 := f1.ext x10;replace f3 := f3.ext x10;replace f2 := f2.ext x10;replace e0 := e0.trans x10;replace y0 := y0.ext x10;apply gE;refine Go.drawnE plan53_1 ?_;refine gQ rfl rfl (ld68 rfl f4 rfl) rfl ?_;refine gQ rfl rfl (ld3 rfl f2 rfl) rfl ?_;refine gQ rfl rfl (ld23 rfl f9 rfl) rfl ?_;refine GoE.call rfl rfl (aCF aFunc36 rfl) (ht1 _ (A.ext e0) c2) (dK 1 4 (dK 1 2 (dD 1 0 rfl))) ?_ (by rintro _ _ ⟨bm, q, _, hbm, KK⟩; cases q);rintro v11 h11 ⟨bm, q, x11, hbm, KK⟩;cases q;have := e0.1;have := f4.1;have := f9.1;have := f0.1;have := f1.1;have := f3.1;have := f2.1;replace f4 := f4.ext x11;replace f9 := f9.ext x11;replace f0 := f0.ext x11;replace f1 := f1.ext x11;replace f3 := f3.ext x11;replace f2 := f2.ext x11;replace e0 := e0.trans x11;replace y0 := y0.ext x11;refine ⟨(rck (h2 := h11) rfl (ld23 rfl f9 rfl) (rck (h2 := h11) rfl (ld3 rfl f2 rfl) recheck_nil)), _, rfl, ?_⟩;refine GoE.call rfl rfl (aCF aFunc40 rfl) (hat _ _ (by first | assumption | exact KK.ext (by assumption))) (dK 7 4 (dD 7 2 rfl)) ?_ np;rintro v12 h12 ⟨q, x12⟩;cases q;replace f9 := f9.ext x12;replace f3 := f3.ext x12;replace y0 := y0.ext x12;refine ⟨(rck (h2 := h12) rfl (ld23 rfl f9 rfl) recheck_nil), _, rfl, ?_⟩;refine GoE.call rfl rfl (aCF aFunc54 rfl) (hfl _) (dD 31 4 rfl) ?_ np;rintro v13 h13 ⟨q, x13⟩;cases q;replace f3 := f3.ext x13;replace y0 := y0.ext x13;refine ⟨recheck_nil, _, rfl, ?_⟩;refine GoE.store rfl rfl rfl rfl rfl rfl rfl f3 rfl sz3 rfl rfl rfl fun h14 u14 => ?_;replace f3 := u14.has f3;clear e0;replace y0 := y0.upd u14 (.inl rfl);refine ⟨recheck_nil, ?_⟩;refine GoE.end rfl ?_;exact Go.endL (FLeft.ret (v := .tuple []) (aResult_of Try.func53 rfl rfl) ⟨y0, f3, .inl ⟨rfl, rfl⟩⟩)
    ·rw [CutV.day_no c1]
     try unfold zSp
     try unfold CutV.cells at *
     try unfold BV.cells at *
     try unfold spC at *
     apply gS;refine gR rfl ?_;refine gO rfl rfl (ld68 rfl f4 rfl) rfl ?_;refine gO rfl rfl (ld3 rfl f2 rfl) rfl ?_;refine GoR.callP rfl rfl (aCF aFunc39 rfl) (hd2 _ (A.ext e0) c1) (by rintro _ _ ⟨q, _⟩; cases q) ?_;rintro chain h10 ⟨q, x10⟩
     have q := AEnd.pan.inj q
     subst q;replace f3 := f3.ext x10;replace y0 := y0.ext x10;exact FLeft.pan (⟨y0, f3, .inr rfl⟩)
  ·rw [load_no c3]
   try unfold zSp
   unfold CutV.cells at *
   try unfold BV.cells at *
   try unfold spC at *
   have e0 : Ext h h := Ext.refl _
   refine Runs.intro aFunc53 rfl rfl rfl rfl fun rest => ?_;apply gS;refine gR rfl ?_;refine GoR.box rfl rfl rfl rfl rfl rfl fun h4 x4 f4 => ?_;have := e0.1;have := f1.1;have := f2.1;have := f3.1;have := f0.1;replace f1 := f1.ext x4;replace f2 := f2.ext x4;replace f3 := f3.ext x4;replace f0 := f0.ext x4;replace e0 := e0.trans x4;replace y0 := y0.ext x4;have := f4.1;apply gE;refine Go.seq noJ_ok (alts53a ?_ ?_ ?_)
   ·intro pl hpl
    rw [pl53a_2_4_5] at hpl;cases hpl;refine gQ rfl rfl (ld68 rfl f4 rfl) rfl ?_;refine gQ rfl rfl (ld3 rfl f0 rfl) rfl ?_;refine gQ rfl rfl (ld3 rfl f1 rfl) rfl ?_;refine GoE.call rfl rfl (aCF aFunc42 rfl) (hv1 _ (A.ext e0) i x hx) (dK 3 3 (dD 3 1 (dD 3 0 rfl))) ?_ np;rintro v5 h5 ⟨q, x5⟩;cases q;replace f1 := f1.ext x5;replace f3 := f3.ext x5;replace y0 := y0.ext x5;refine ⟨(rck (h2 := h5) rfl (ld3 rfl f1 rfl) recheck_nil), _, rfl, ?_⟩;refine GoE.callP rfl rfl (aCF aFunc43 rfl) (hn2 _ c3) rfl (by rintro _ _ ⟨q, _⟩; cases q) ?_;rintro chain h6 ⟨q, x6⟩
    have q := AEnd.pan.inj q
    subst q;replace f3 := f3.ext x6;replace y0 := y0.ext x6;exact FLeft.pan (⟨y0, f3, .inr rfl⟩)
   ·intro pl hpl
    rw [pl53a_2_5_4] at hpl;cases hpl;refine gQ rfl rfl (ld68 rfl f4 rfl) rfl ?_;refine gQ rfl rfl (ld3 rfl f0 rfl) rfl ?_;refine gQ rfl rfl (ld3 rfl f1 rfl) rfl ?_;refine GoE.call rfl rfl (aCF aFunc42 rfl) (hv1 _ (A.ext e0) i x hx) (dK 3 3 (dD 3 1 (dD 3 0 rfl))) ?_ np;rintro v5 h5 ⟨q, x5⟩;cases q;replace f1 := f1.ext x5;replace f3 := f3.ext x5;replace y0 := y0.ext x5;refine ⟨(rck (h2 := h5) rfl (ld3 rfl f1 rfl) recheck_nil), _, rfl, ?_⟩;refine GoE.alloc rfl rfl zt23 (dK 7 3 rfl) rfl rfl fun h6 x6 f6 => ?_;replace f1 := f1.ext x6;replace f3 := f3.ext x6;replace y0 := y0.ext x6;refine ⟨(rck (h2 := h6) rfl (ld3 rfl f1 rfl) recheck_nil), ?_⟩;refine GoE.callP rfl rfl (aCF aFunc43 rfl) (hn2 _ c3) rfl (by rintro _ _ ⟨q, _⟩; cases q) ?_;rintro chain h7 ⟨q, x7⟩
    have q := AEnd.pan.inj q
    subst q;replace f3 := f3.ext x7;replace y0 := y0.ext x7;exact FLeft.pan (⟨y0, f3, .inr rfl⟩)
   ·intro pl hpl
    rw [pl53a_5_2_4] at hpl;cases hpl;refine gQ rfl rfl (ld68 rfl f4 rfl) rfl ?_;refine gQ rfl rfl (ld3 rfl f0 rfl) rfl ?_;refine gQ rfl rfl (ld3 rfl f1 rfl) rfl ?_;refine GoE.alloc rfl rfl zt23 (dK 0 3 (dK 0 1 (dK 0 0 rfl))) rfl rfl fun h5 x5 f5 => ?_;have := e0.1;have := f4.1;have := f1.1;have := f2.1;have := f3.1;have := f0.1;replace f4 := f4.ext x5;replace f1 := f1.ext x5;replace f3 := f3.ext x5;replace f0 := f0.ext x5;replace e0 := e0.trans x5;replace y0 := y0.ext x5;have := f5.1;refine ⟨(rck (h2 := h5) rfl (ld3 rfl f1 rfl) (rck (h2 := h5) rfl (ld3 rfl f0 rfl) (rck (h2 := h5) rfl (ld68 rfl f4 rfl) recheck_nil))), ?_⟩;refine GoE.call rfl rfl (aCF aFunc42 rfl) (hv1 _ (A.ext e0) i x hx) (dK 35 3 (dD 35 1 (dD 35 0 rfl))) ?_ np;rintro v6 h6 ⟨q, x6⟩;cases q;replace f1 := f1.ext x6;replace f3 := f3.ext x6;replace y0 := y0.ext x6;refine ⟨(rck (h2 := h6) rfl (ld3 rfl f1 rfl) recheck_nil), _, rfl, ?_⟩;refine GoE.callP rfl rfl (aCF aFunc43 rfl) (hn2 _ c3) rfl (by rintro _ _ ⟨q, _⟩; cases q) ?_;rintro chain h7 ⟨q, x7⟩
    have q := AEnd.pan.inj q
    subst q;replace f3 := f3.ext x7;replace y0 := y0.ext x7;exact FLeft.pan (⟨y0, f3, .inr rfl⟩)
 ·rw [CutV.boat_no c0]
  try unfold zSp
  unfold CutV.cells at *
  try unfold BV.cells at *
  try unfold spC at *
  have e0 : Ext h h := Ext.refl _
  refine Runs.intro aFunc53 rfl rfl rfl rfl fun rest => ?_;apply gS;refine gR rfl ?_;refine GoR.box rfl rfl rfl rfl rfl rfl fun h4 x4 f4 => ?_;have := e0.1;have := f0.1;have := f1.1;have := f2.1;have := f3.1;replace f0 := f0.ext x4;replace f1 := f1.ext x4;replace f3 := f3.ext x4;replace e0 := e0.trans x4;replace y0 := y0.ext x4;have := f4.1;apply gE;refine Go.seq noJ_ok (alts53a ?_ ?_ ?_)
  ·intro pl hpl
   rw [pl53a_2_4_5] at hpl;cases hpl;refine gQ rfl rfl (ld68 rfl f4 rfl) rfl ?_;refine gQ rfl rfl (ld3 rfl f0 rfl) rfl ?_;refine gQ rfl rfl (ld3 rfl f1 rfl) rfl ?_;refine GoE.callP rfl rfl (aCF aFunc42 rfl) (hv2 _ (A.ext e0) c0) rfl (by rintro _ _ ⟨q, _⟩; cases q) ?_;rintro chain h5 ⟨q, x5⟩
   have q := AEnd.pan.inj q
   subst q;replace f3 := f3.ext x5;replace y0 := y0.ext x5;exact FLeft.pan (⟨y0, f3, .inr rfl⟩)
  ·intro pl hpl
   rw [pl53a_2_5_4] at hpl;cases hpl;refine gQ rfl rfl (ld68 rfl f4 rfl) rfl ?_;refine gQ rfl rfl (ld3 rfl f0 rfl) rfl ?_;refine gQ rfl rfl (ld3 rfl f1 rfl) rfl ?_;refine GoE.callP rfl rfl (aCF aFunc42 rfl) (hv2 _ (A.ext e0) c0) rfl (by rintro _ _ ⟨q, _⟩; cases q) ?_;rintro chain h5 ⟨q, x5⟩
   have q := AEnd.pan.inj q
   subst q;replace f3 := f3.ext x5;replace y0 := y0.ext x5;exact FLeft.pan (⟨y0, f3, .inr rfl⟩)
  ·intro pl hpl
   rw [pl53a_5_2_4] at hpl;cases hpl;refine gQ rfl rfl (ld68 rfl f4 rfl) rfl ?_;refine gQ rfl rfl (ld3 rfl f0 rfl) rfl ?_;refine gQ rfl rfl (ld3 rfl f1 rfl) rfl ?_;refine GoE.alloc rfl rfl zt23 (dK 0 3 (dK 0 1 (dK 0 0 rfl))) rfl rfl fun h5 x5 f5 => ?_;replace f4 := f4.ext x5;replace f0 := f0.ext x5;replace f1 := f1.ext x5;replace f3 := f3.ext x5;replace e0 := e0.trans x5;replace y0 := y0.ext x5;refine ⟨(rck (h2 := h5) rfl (ld3 rfl f1 rfl) (rck (h2 := h5) rfl (ld3 rfl f0 rfl) (rck (h2 := h5) rfl (ld68 rfl f4 rfl) recheck_nil))), ?_⟩;refine GoE.callP rfl rfl (aCF aFunc42 rfl) (hv2 _ (A.ext e0) c0) rfl (by rintro _ _ ⟨q, _⟩; cases q) ?_;rintro chain h6 ⟨q, x6⟩
   have q := AEnd.pan.inj q
   subst q;replace f3 := f3.ext x6;replace y0 := y0.ext x6;exact FLeft.pan (⟨y0, f3, .inr rfl⟩)
theorem untilB_ok {C : CutV} (O : C.Ok) {r b l : AVal} {boat loads day : Int} {b0 b1 b2 br : Nat} {h : AH} (A : CutAt h C r b l) (f0 : Has h b0 (.cells .plain [.int .i64 boat] 3)) (f1 : Has h b1 (.cells .plain [.int .i64 loads] 3)) (f2 : Has h b2 (.cells .plain [.int .i64 day] 3)) (f3 : Has h br (.cells .plain [.int .i64 0] 3)) (hb0br : b0 ≠ br) (hb1br : b1 ≠ br) (hb2br : b2 ≠ br) :
  Runs Try.prog 48 [.agg (C.cells r b l), .ptr b0 0, .ptr b1 0, .ptr b2 0, .ptr br 0] h (fun en h'' => ExtF (fun b => b = br) h h'' ∧ (Has h'' br (.cells .plain [.int .i64 (C.boatQ boat (fun x => loadQ x loads (C.dayQ day (C.untilQ (x.needs loads) day) 0) 0) 0).1] 3)) ∧ (((C.boatQ boat (fun x => loadQ x loads (C.dayQ day (C.untilQ (x.needs loads) day) 0) 0) 0).2 = 0 ∧ en = .ret (.tuple [])) ∨ en = .pan (refusal (C.boatQ boat (fun x => loadQ x loads (C.dayQ day (C.untilQ (x.needs loads) day) 0) 0) 0).2))) := by
 have hnr := O.nr
 have hnb := O.nb
 have y0 : ExtF (fun b => b = br) h h := ExtF.of (Ext.refl _)
 have hsm := A.same
 have l0 := f0.1
 have l1 := f1.1
 have l2 := f2.1
 have l3 := f3.1
 have ht1 := fun h A c => truths_yes O (r := r) (b := b) (l := l) (h := h) c A
 have ht2 := fun h A c => truths_no O (r := r) (b := b) (l := l) (h := h) c A
 have hd1 := fun h A c => needDay_yes (C := C) (r := r) (b := b) (l := l) (n := day) (h := h) A (by omega) c
 have hd2 := fun h A c => needDay_no (C := C) (r := r) (b := b) (l := l) (n := day) (h := h) A (by omega) c
 have hv1 := fun h A i x c => vessel_ok (C := C) (r := r) (b := b) (l := l) (n := i) (h := h) A (by omega) (x := x) c
 have hv2 := fun h A c => vessel_no (C := C) (r := r) (b := b) (l := l) (n := boat) (h := h) A (by omega) c
 by_cases c0 : 0 ≤ boat ∧ boat < C.bs.length
 ·obtain ⟨i, rfl⟩ := Int.eq_ofNat_of_zero_le c0.1
  obtain ⟨x, hx⟩ : ∃ x, C.bs[i]? = some x := ⟨C.bs[i]'(by omega), by simp⟩
  have hxO := O.b x (List.mem_of_getElem? hx)
  have hxs : sameA (.agg x.cells) (.agg x.cells) = true := by unfold BV.cells; simp [sameA, sameAs, eqI_eq]
  rw [CutV.boat_yes hx]
  have hn1 := fun h c => needs_yes hxO (n := loads) (h := h) c
  have hn2 := fun h c => needs_no hxO (n := loads) (h := h) c
  by_cases c3 : 0 ≤ loads ∧ loads ≤ x.room
  ·rw [load_yes c3]
   obtain ⟨N, hN⟩ : ∃ N, x.needs loads = N := ⟨_, rfl⟩
   rw [hN] at hn1 ⊢
   unfold CutV.cells at *
   try unfold BV.cells at *
   try unfold spC at *
   have e0 : Ext h h := Ext.refl _
   refine Runs.intro aFunc48 rfl rfl rfl rfl fun rest => ?_;apply gS;refine gR rfl ?_;refine GoR.box rfl rfl rfl rfl rfl rfl fun h4 x4 f4 => ?_;have := e0.1;have := f1.1;have := f2.1;have := f3.1;have := f0.1;replace f1 := f1.ext x4;replace f2 := f2.ext x4;replace f3 := f3.ext x4;replace f0 := f0.ext x4;replace e0 := e0.trans x4;replace y0 := y0.ext x4;have := f4.1;apply gE;refine Go.seq noJ_ok (Go.join (fun bb : Nat => [(1, .ptr b0 0), (2, .ptr b1 0), (3, .ptr b2 0), (4, .ptr br 0), (5, .ptr h.next 0), (6, .ptr bb 0)]) (fun bb h' => Ext h h' ∧ ExtF (fun b => b = br) h h' ∧ h.next ≤ bb ∧ Has h' h.next (.cells .plain [.int .i64 C.dl, .int .i64 C.dh, .int .i64 C.kl, .int .i64 C.kh, r, .int .i64 C.most, b, l] 68) ∧ Has h' bb (.cells .plain [.int .i64 N.1, .int .i64 N.2] 23) ∧ Has h' b0 (.cells .plain [.int .i64 (i : Nat)] 3) ∧ Has h' b1 (.cells .plain [.int .i64 loads] 3) ∧ Has h' b2 (.cells .plain [.int .i64 day] 3) ∧ Has h' br (.cells .plain [.int .i64 0] 3)) ?_ ?_)
   ·intro k' done
    refine alts48a ?_ ?_ ?_
    ·intro pl hpl
     rw [pl48a_2_4_5] at hpl;cases hpl;refine gQ rfl rfl (ld68 rfl f4 rfl) rfl ?_;refine gQ rfl rfl (ld3 rfl f0 rfl) rfl ?_;refine gQ rfl rfl (ld3 rfl f1 rfl) rfl ?_;refine GoE.call rfl rfl (aCF aFunc42 rfl) (hv1 _ (A.ext e0) i x hx) (dK 3 3 (dD 3 1 (dD 3 0 rfl))) ?_ np;rintro v5 h5 ⟨q, x5⟩;cases q;replace f4 := f4.ext x5;replace f1 := f1.ext x5;replace f2 := f2.ext x5;replace f3 := f3.ext x5;replace f0 := f0.ext x5;replace e0 := e0.trans x5;replace y0 := y0.ext x5;refine ⟨(rck (h2 := h5) rfl (ld3 rfl f1 rfl) recheck_nil), _, rfl, ?_⟩;refine GoE.call rfl rfl (aCF aFunc43 rfl) (hn1 _ c3) (dD 15 3 rfl) ?_ np;rintro v6 h6 ⟨q, x6⟩;cases q;replace f4 := f4.ext x6;replace f1 := f1.ext x6;replace f2 := f2.ext x6;replace f3 := f3.ext x6;replace f0 := f0.ext x6;replace e0 := e0.trans x6;replace y0 := y0.ext x6;refine ⟨recheck_nil, _, rfl, ?_⟩;refine GoE.alloc rfl rfl zt23 rfl rfl rfl fun h7 x7 f7 => ?_;have := e0.1;have := f4.1;have := f1.1;have := f2.1;have := f3.1;have := f0.1;replace f4 := f4.ext x7;replace f1 := f1.ext x7;replace f2 := f2.ext x7;replace f3 := f3.ext x7;replace f0 := f0.ext x7;replace e0 := e0.trans x7;replace y0 := y0.ext x7;have := f7.1;refine ⟨recheck_nil, ?_⟩;refine GoE.store rfl rfl rfl rfl rfl rfl rfl f7 rfl sz23 rfl rfl rfl fun h8 u8 => ?_;replace f7 := u8.has f7;replace f4 := f4.upd u8 (by omega);replace f1 := f1.upd u8 (by omega);replace f2 := f2.upd u8 (by omega);replace f3 := f3.upd u8 (by omega);replace f0 := f0.upd u8 (by omega);replace e0 := e0.upd u8 (by omega);replace y0 := y0.upd u8 (.inr (by omega));refine ⟨recheck_nil, ?_⟩;refine GoE.end rfl ?_;exact done _ _ _ ⟨rfl, rfl, rfl, rfl, rfl, rfl, trivial⟩ ⟨e0, y0, by omega, f4, by assumption, f0, f1, f2, f3⟩
    ·intro pl hpl
     rw [pl48a_2_5_4] at hpl;cases hpl;refine gQ rfl rfl (ld68 rfl f4 rfl) rfl ?_;refine gQ rfl rfl (ld3 rfl f0 rfl) rfl ?_;refine gQ rfl rfl (ld3 rfl f1 rfl) rfl ?_;refine GoE.call rfl rfl (aCF aFunc42 rfl) (hv1 _ (A.ext e0) i x hx) (dK 3 3 (dD 3 1 (dD 3 0 rfl))) ?_ np;rintro v5 h5 ⟨q, x5⟩;cases q;replace f4 := f4.ext x5;replace f1 := f1.ext x5;replace f2 := f2.ext x5;replace f3 := f3.ext x5;replace f0 := f0.ext x5;replace e0 := e0.trans x5;replace y0 := y0.ext x5;refine ⟨(rck (h2 := h5) rfl (ld3 rfl f1 rfl) recheck_nil), _, rfl, ?_⟩;refine GoE.alloc rfl rfl zt23 (dK 7 3 rfl) rfl rfl fun h6 x6 f6 => ?_;have := e0.1;have := f4.1;have := f1.1;have := f2.1;have := f3.1;have := f0.1;replace f4 := f4.ext x6;replace f1 := f1.ext x6;replace f2 := f2.ext x6;replace f3 := f3.ext x6;replace f0 := f0.ext x6;replace e0 := e0.trans x6;replace y0 := y0.ext x6;have := f6.1;refine ⟨(rck (h2 := h6) rfl (ld3 rfl f1 rfl) recheck_nil), ?_⟩;refine GoE.call rfl rfl (aCF aFunc43 rfl) (hn1 _ c3) (dD 47 3 rfl) ?_ np;rintro v7 h7 ⟨q, x7⟩;cases q;replace f6 := f6.ext x7;replace f4 := f4.ext x7;replace f1 := f1.ext x7;replace f2 := f2.ext x7;replace f3 := f3.ext x7;replace f0 := f0.ext x7;replace e0 := e0.trans x7;replace y0 := y0.ext x7;refine ⟨recheck_nil, _, rfl, ?_⟩;refine GoE.store rfl rfl rfl rfl rfl rfl rfl f6 rfl sz23 rfl rfl rfl fun h8 u8 => ?_;replace f6 := u8.has f6;replace f4 := f4.upd u8 (by omega);replace f1 := f1.upd u8 (by omega);replace f2 := f2.upd u8 (by omega);replace f3 := f3.upd u8 (by omega);replace f0 := f0.upd u8 (by omega);replace e0 := e0.upd u8 (by omega);replace y0 := y0.upd u8 (.inr (by omega));refine ⟨recheck_nil, ?_⟩;refine GoE.end rfl ?_;exact done _ _ _ ⟨rfl, rfl, rfl, rfl, rfl, rfl, trivial⟩ ⟨e0, y0, by omega, f4, by assumption, f0, f1, f2, f3⟩
    ·intro pl hpl
     rw [pl48a_5_2_4] at hpl;cases hpl;refine gQ rfl rfl (ld68 rfl f4 rfl) rfl ?_;refine gQ rfl rfl (ld3 rfl f0 rfl) rfl ?_;refine gQ rfl rfl (ld3 rfl f1 rfl) rfl ?_;refine GoE.alloc rfl rfl zt23 (dK 0 3 (dK 0 1 (dK 0 0 rfl))) rfl rfl fun h5 x5 f5 => ?_;have := e0.1;have := f4.1;have := f1.1;have := f2.1;have := f3.1;have := f0.1;replace f4 := f4.ext x5;replace f1 := f1.ext x5;replace f2 := f2.ext x5;replace f3 := f3.ext x5;replace f0 := f0.ext x5;replace e0 := e0.trans x5;replace y0 := y0.ext x5;have := f5.1;refine ⟨(rck (h2 := h5) rfl (ld3 rfl f1 rfl) (rck (h2 := h5) rfl (ld3 rfl f0 rfl) (rck (h2 := h5) rfl (ld68 rfl f4 rfl) recheck_nil))), ?_⟩;refine GoE.call rfl rfl (aCF aFunc42 rfl) (hv1 _ (A.ext e0) i x hx) (dK 35 3 (dD 35 1 (dD 35 0 rfl))) ?_ np;rintro v6 h6 ⟨q, x6⟩;cases q;replace f5 := f5.ext x6;replace f4 := f4.ext x6;replace f1 := f1.ext x6;replace f2 := f2.ext x6;replace f3 := f3.ext x6;replace f0 := f0.ext x6;replace e0 := e0.trans x6;replace y0 := y0.ext x6;refine ⟨(rck (h2 := h6) rfl (ld3 rfl f1 rfl) recheck_nil), _, rfl, ?_⟩;refine GoE.call rfl rfl (aCF aFunc43 rfl) (hn1 _ c3) (dD 47 3 rfl) ?_ np;rintro v7 h7 ⟨q, x7⟩;cases q;replace f5 := f5.ext x7;replace f4 := f4.ext x7;replace f1 := f1.ext x7;replace f2 := f2.ext x7;replace f3 := f3.ext x7;replace f0 := f0.ext x7;replace e0 := e0.trans x7;replace y0 := y0.ext x7;refine ⟨recheck_nil, _, rfl, ?_⟩;refine GoE.store rfl rfl rfl rfl rfl rfl rfl f5 rfl sz23 rfl rfl rfl fun h8 u8 => ?_;replace f5 := u8.has f5;replace f4 := f4.upd u8 (by omega);replace f1 := f1.upd u8 (by omega);replace f2 := f2.upd u8 (by omega);replace f3 := f3.upd u8 (by omega);replace f0 := f0.upd u8 (by omega);replace e0 := e0.upd u8 (by omega);replace y0 := y0.upd u8 (.inr (by omega));refine ⟨recheck_nil, ?_⟩;refine GoE.end rfl ?_;exact done _ _ _ ⟨rfl, rfl, rfl, rfl, rfl, rfl, trivial⟩ ⟨e0, y0, by omega, f4, by assumption, f0, f1, f2, f3⟩
   ·clear y0 e0 f0 f1 f2 f3 f4;rintro b9 h9 ⟨e0, y0, hb9, f4, f9, f0, f1, f2, f3⟩
    have l09 := f0.1
    have l19 := f1.1
    have l29 := f2.1
    have l39 := f3.1
    have l49 := f4.1
    have l99 := f9.1
    clear hn1 hn2 hv1 hv2
    by_cases c1 : 0 ≤ day ∧ day ≤ C.rs.length
    ·rw [CutV.day_yes c1]
     unfold CutV.untilQ
     by_cases c2 : C.truths = []
     ·rw [if_neg (fun q => q c2)]
      have hu := fun h A => until_no O c2 (r := r) (b := b) (l := l) (need := N) (day := day) (h := h) A
      try unfold CutV.cells at *
      try unfold BV.cells at *
      try unfold spC at *
      apply gS;refine gR rfl ?_;refine gO rfl rfl (ld68 rfl f4 rfl) rfl ?_;refine gO rfl rfl (ld3 rfl f2 rfl) rfl ?_;refine GoR.call rfl rfl (aCF aFunc39 rfl) (hd1 _ (A.ext e0) c1) ?_ np;rintro v10 h10 ⟨q, x10⟩;cases q;refine ⟨_, rfl, ?_⟩;replace f4 := f4.ext x10;replace f9 := f9.ext x10;replace f2 := f2.ext x10;replace f3 := f3.ext x10;replace e0 := e0.trans x10;replace y0 := y0.ext x10;apply gE;refine gR rfl ?_;refine gO rfl rfl (ld68 rfl f4 rfl) rfl ?_;refine gO rfl rfl (ld23 rfl f9 rfl) rfl ?_;refine gO rfl rfl (ld3 rfl f2 rfl) rfl ?_;refine GoR.callP rfl rfl (aCF aFunc49 rfl) (hu _ (A.ext e0)) (by rintro _ _ ⟨q, _⟩; cases q) ?_;rintro chain h11 ⟨q, x11⟩
      have q := AEnd.pan.inj q
      subst q;replace f3 := f3.ext x11;replace y0 := y0.ext x11;exact FLeft.pan (⟨y0, f3, .inr rfl⟩)
     ·rw [if_pos c2]
      obtain ⟨d, rfl⟩ := Int.eq_ofNat_of_zero_le c1.1
      have hu := fun h A => until_ok O c2 (r := r) (b := b) (l := l) (need := N) (day := d) (by omega) (h := h) A
      cases hv : C.untilV N d with
      | none =>
       have hu2 : ∀ h, CutAt h C r b l → Runs Try.prog 49 [.agg (C.cells r b l), .agg (spC N), .int .i64 (d : Nat)] h (fun en h' => en = .pan (refusal 4) ∧ Ext h h') := fun h A => (hu h A).mono fun en h' ⟨e, k⟩ => by
        rcases k with ⟨s, q, _⟩ | ⟨_, q⟩
        ·rw [hv] at q; cases q
        ·exact ⟨q, e⟩
       clear hu
       try unfold CutV.cells at *
       try unfold BV.cells at *
       try unfold spC at *
       apply gS;refine gR rfl ?_;refine gO rfl rfl (ld68 rfl f4 rfl) rfl ?_;refine gO rfl rfl (ld3 rfl f2 rfl) rfl ?_;refine GoR.call rfl rfl (aCF aFunc39 rfl) (hd1 _ (A.ext e0) c1) ?_ np;rintro v10 h10 ⟨q, x10⟩;cases q;refine ⟨_, rfl, ?_⟩;replace f4 := f4.ext x10;replace f9 := f9.ext x10;replace f3 := f3.ext x10;replace f2 := f2.ext x10;replace e0 := e0.trans x10;replace y0 := y0.ext x10;apply gE;refine gR rfl ?_;refine gO rfl rfl (ld68 rfl f4 rfl) rfl ?_;refine gO rfl rfl (ld23 rfl f9 rfl) rfl ?_;refine gO rfl rfl (ld3 rfl f2 rfl) rfl ?_;refine GoR.callP rfl rfl (aCF aFunc49 rfl) (hu2 _ (A.ext e0)) (by rintro _ _ ⟨q, _⟩; cases q) ?_;rintro chain h11 ⟨q, x11⟩
       have q := AEnd.pan.inj q
       subst q;replace f4 := f4.ext x11;replace f9 := f9.ext x11;replace f3 := f3.ext x11;replace f2 := f2.ext x11;replace e0 := e0.trans x11;replace y0 := y0.ext x11;exact FLeft.pan (⟨y0, f3, .inr rfl⟩)
      | some s =>
       have hu2 : ∀ h, CutAt h C r b l → Runs Try.prog 49 [.agg (C.cells r b l), .agg (spC N), .int .i64 (d : Nat)] h (fun en h' => en = .ret (.int .i64 s) ∧ Ext h h') := fun h A => (hu h A).mono fun en h' ⟨e, k⟩ => by
        rcases k with ⟨s', q, q2⟩ | ⟨q, _⟩
        ·rw [hv] at q; cases q; exact ⟨q2, e⟩
        ·rw [hv] at q; cases q
       clear hu
       try unfold CutV.cells at *
       try unfold BV.cells at *
       try unfold spC at *
       apply gS;refine gR rfl ?_;refine gO rfl rfl (ld68 rfl f4 rfl) rfl ?_;refine gO rfl rfl (ld3 rfl f2 rfl) rfl ?_;refine GoR.call rfl rfl (aCF aFunc39 rfl) (hd1 _ (A.ext e0) c1) ?_ np;rintro v10 h10 ⟨q, x10⟩;cases q;refine ⟨_, rfl, ?_⟩;replace f4 := f4.ext x10;replace f9 := f9.ext x10;replace f3 := f3.ext x10;replace f2 := f2.ext x10;replace e0 := e0.trans x10;replace y0 := y0.ext x10;apply gE;refine gR rfl ?_;refine gO rfl rfl (ld68 rfl f4 rfl) rfl ?_;refine gO rfl rfl (ld23 rfl f9 rfl) rfl ?_;refine gO rfl rfl (ld3 rfl f2 rfl) rfl ?_;refine GoR.call rfl rfl (aCF aFunc49 rfl) (hu2 _ (A.ext e0)) ?_ np;rintro v11 h11 ⟨q, x11⟩;cases q;refine ⟨_, rfl, ?_⟩;replace f3 := f3.ext x11;replace y0 := y0.ext x11;refine GoR.store rfl rfl rfl rfl rfl rfl f3 rfl sz3 rfl rfl rfl fun h12 u12 => ?_;replace f3 := u12.has f3;clear e0;replace y0 := y0.upd u12 (.inl rfl);apply gE;exact Go.endL (FLeft.ret (v := .tuple []) (aResult_of Try.func48 rfl rfl) ⟨y0, f3, .inl ⟨rfl, rfl⟩⟩)
    ·rw [CutV.day_no c1]
     try unfold zSp
     try unfold CutV.cells at *
     try unfold BV.cells at *
     try unfold spC at *
     apply gS;refine gR rfl ?_;refine gO rfl rfl (ld68 rfl f4 rfl) rfl ?_;refine gO rfl rfl (ld3 rfl f2 rfl) rfl ?_;refine GoR.callP rfl rfl (aCF aFunc39 rfl) (hd2 _ (A.ext e0) c1) (by rintro _ _ ⟨q, _⟩; cases q) ?_;rintro chain h10 ⟨q, x10⟩
     have q := AEnd.pan.inj q
     subst q;replace f3 := f3.ext x10;replace y0 := y0.ext x10;exact FLeft.pan (⟨y0, f3, .inr rfl⟩)
  ·rw [load_no c3]
   try unfold zSp
   unfold CutV.cells at *
   try unfold BV.cells at *
   try unfold spC at *
   have e0 : Ext h h := Ext.refl _
   refine Runs.intro aFunc48 rfl rfl rfl rfl fun rest => ?_;apply gS;refine gR rfl ?_;refine GoR.box rfl rfl rfl rfl rfl rfl fun h4 x4 f4 => ?_;have := e0.1;have := f1.1;have := f2.1;have := f3.1;have := f0.1;replace f1 := f1.ext x4;replace f2 := f2.ext x4;replace f3 := f3.ext x4;replace f0 := f0.ext x4;replace e0 := e0.trans x4;replace y0 := y0.ext x4;have := f4.1;apply gE;refine Go.seq noJ_ok (alts48a ?_ ?_ ?_)
   ·intro pl hpl
    rw [pl48a_2_4_5] at hpl;cases hpl;refine gQ rfl rfl (ld68 rfl f4 rfl) rfl ?_;refine gQ rfl rfl (ld3 rfl f0 rfl) rfl ?_;refine gQ rfl rfl (ld3 rfl f1 rfl) rfl ?_;refine GoE.call rfl rfl (aCF aFunc42 rfl) (hv1 _ (A.ext e0) i x hx) (dK 3 3 (dD 3 1 (dD 3 0 rfl))) ?_ np;rintro v5 h5 ⟨q, x5⟩;cases q;replace f1 := f1.ext x5;replace f3 := f3.ext x5;replace y0 := y0.ext x5;refine ⟨(rck (h2 := h5) rfl (ld3 rfl f1 rfl) recheck_nil), _, rfl, ?_⟩;refine GoE.callP rfl rfl (aCF aFunc43 rfl) (hn2 _ c3) rfl (by rintro _ _ ⟨q, _⟩; cases q) ?_;rintro chain h6 ⟨q, x6⟩
    have q := AEnd.pan.inj q
    subst q;replace f3 := f3.ext x6;replace y0 := y0.ext x6;exact FLeft.pan (⟨y0, f3, .inr rfl⟩)
   ·intro pl hpl
    rw [pl48a_2_5_4] at hpl;cases hpl;refine gQ rfl rfl (ld68 rfl f4 rfl) rfl ?_;refine gQ rfl rfl (ld3 rfl f0 rfl) rfl ?_;refine gQ rfl rfl (ld3 rfl f1 rfl) rfl ?_;refine GoE.call rfl rfl (aCF aFunc42 rfl) (hv1 _ (A.ext e0) i x hx) (dK 3 3 (dD 3 1 (dD 3 0 rfl))) ?_ np;rintro v5 h5 ⟨q, x5⟩;cases q;replace f1 := f1.ext x5;replace f3 := f3.ext x5;replace y0 := y0.ext x5;refine ⟨(rck (h2 := h5) rfl (ld3 rfl f1 rfl) recheck_nil), _, rfl, ?_⟩;refine GoE.alloc rfl rfl zt23 (dK 7 3 rfl) rfl rfl fun h6 x6 f6 => ?_;replace f1 := f1.ext x6;replace f3 := f3.ext x6;replace y0 := y0.ext x6;refine ⟨(rck (h2 := h6) rfl (ld3 rfl f1 rfl) recheck_nil), ?_⟩;refine GoE.callP rfl rfl (aCF aFunc43 rfl) (hn2 _ c3) rfl (by rintro _ _ ⟨q, _⟩; cases q) ?_;rintro chain h7 ⟨q, x7⟩
    have q := AEnd.pan.inj q
    subst q;replace f3 := f3.ext x7;replace y0 := y0.ext x7;exact FLeft.pan (⟨y0, f3, .inr rfl⟩)
   ·intro pl hpl
    rw [pl48a_5_2_4] at hpl;cases hpl;refine gQ rfl rfl (ld68 rfl f4 rfl) rfl ?_;refine gQ rfl rfl (ld3 rfl f0 rfl) rfl ?_;refine gQ rfl rfl (ld3 rfl f1 rfl) rfl ?_;refine GoE.alloc rfl rfl zt23 (dK 0 3 (dK 0 1 (dK 0 0 rfl))) rfl rfl fun h5 x5 f5 => ?_;have := e0.1;have := f4.1;have := f1.1;have := f2.1;have := f3.1;have := f0.1;replace f4 := f4.ext x5;replace f1 := f1.ext x5;replace f3 := f3.ext x5;replace f0 := f0.ext x5;replace e0 := e0.trans x5;replace y0 := y0.ext x5;have := f5.1;refine ⟨(rck (h2 := h5) rfl (ld3 rfl f1 rfl) (rck (h2 := h5) rfl (ld3 rfl f0 rfl) (rck (h2 := h5) rfl (ld68 rfl f4 rfl) recheck_nil))), ?_⟩;refine GoE.call rfl rfl (aCF aFunc42 rfl) (hv1 _ (A.ext e0) i x hx) (dK 35 3 (dD 35 1 (dD 35 0 rfl))) ?_ np;rintro v6 h6 ⟨q, x6⟩;cases q;replace f1 := f1.ext x6;replace f3 := f3.ext x6;replace y0 := y0.ext x6;refine ⟨(rck (h2 := h6) rfl (ld3 rfl f1 rfl) recheck_nil), _, rfl, ?_⟩;refine GoE.callP rfl rfl (aCF aFunc43 rfl) (hn2 _ c3) rfl (by rintro _ _ ⟨q, _⟩; cases q) ?_;rintro chain h7 ⟨q, x7⟩
    have q := AEnd.pan.inj q
    subst q;replace f3 := f3.ext x7;replace y0 := y0.ext x7;exact FLeft.pan (⟨y0, f3, .inr rfl⟩)
 ·rw [CutV.boat_no c0]
  try unfold zSp
  unfold CutV.cells at *
  try unfold BV.cells at *
  try unfold spC at *
  have e0 : Ext h h := Ext.refl _
  refine Runs.intro aFunc48 rfl rfl rfl rfl fun rest => ?_;apply gS;refine gR rfl ?_;refine GoR.box rfl rfl rfl rfl rfl rfl fun h4 x4 f4 => ?_;have := e0.1;have := f0.1;have := f1.1;have := f2.1;have := f3.1;replace f0 := f0.ext x4;replace f1 := f1.ext x4;replace f3 := f3.ext x4;replace e0 := e0.trans x4;replace y0 := y0.ext x4;have := f4.1;apply gE;refine Go.seq noJ_ok (alts48a ?_ ?_ ?_)
  ·intro pl hpl
   rw [pl48a_2_4_5] at hpl;cases hpl;refine gQ rfl rfl (ld68 rfl f4 rfl) rfl ?_;refine gQ rfl rfl (ld3 rfl f0 rfl) rfl ?_;refine gQ rfl rfl (ld3 rfl f1 rfl) rfl ?_;refine GoE.callP rfl rfl (aCF aFunc42 rfl) (hv2 _ (A.ext e0) c0) rfl (by rintro _ _ ⟨q, _⟩; cases q) ?_;rintro chain h5 ⟨q, x5⟩
   have q := AEnd.pan.inj q
   subst q;replace f3 := f3.ext x5;replace y0 := y0.ext x5;exact FLeft.pan (⟨y0, f3, .inr rfl⟩)
  ·intro pl hpl
   rw [pl48a_2_5_4] at hpl;cases hpl;refine gQ rfl rfl (ld68 rfl f4 rfl) rfl ?_;refine gQ rfl rfl (ld3 rfl f0 rfl) rfl ?_;refine gQ rfl rfl (ld3 rfl f1 rfl) rfl ?_;refine GoE.callP rfl rfl (aCF aFunc42 rfl) (hv2 _ (A.ext e0) c0) rfl (by rintro _ _ ⟨q, _⟩; cases q) ?_;rintro chain h5 ⟨q, x5⟩
   have q := AEnd.pan.inj q
   subst q;replace f3 := f3.ext x5;replace y0 := y0.ext x5;exact FLeft.pan (⟨y0, f3, .inr rfl⟩)
  ·intro pl hpl
   rw [pl48a_5_2_4] at hpl;cases hpl;refine gQ rfl rfl (ld68 rfl f4 rfl) rfl ?_;refine gQ rfl rfl (ld3 rfl f0 rfl) rfl ?_;refine gQ rfl rfl (ld3 rfl f1 rfl) rfl ?_;refine GoE.alloc rfl rfl zt23 (dK 0 3 (dK 0 1 (dK 0 0 rfl))) rfl rfl fun h5 x5 f5 => ?_;replace f4 := f4.ext x5;replace f0 := f0.ext x5;replace f1 := f1.ext x5;replace f3 := f3.ext x5;replace e0 := e0.trans x5;replace y0 := y0.ext x5;refine ⟨(rck (h2 := h5) rfl (ld3 rfl f1 rfl) (rck (h2 := h5) rfl (ld3 rfl f0 rfl) (rck (h2 := h5) rfl (ld68 rfl f4 rfl) recheck_nil))), ?_⟩;refine GoE.callP rfl rfl (aCF aFunc42 rfl) (hv2 _ (A.ext e0) c0) rfl (by rintro _ _ ⟨q, _⟩; cases q) ?_;rintro chain h6 ⟨q, x6⟩
   have q := AEnd.pan.inj q
   subst q;replace f3 := f3.ext x6;replace y0 := y0.ext x6;exact FLeft.pan (⟨y0, f3, .inr rfl⟩)
theorem daysB_ok {C : CutV} (O : C.Ok) {r b l : AVal} {boat loads : Int} {b0 b1 br bs : Nat} {h : AH} (A : CutAt h C r b l) (f0 : Has h b0 (.cells .plain [.int .i64 boat] 3)) (f1 : Has h b1 (.cells .plain [.int .i64 loads] 3)) (f2 : Has h br (.cells .plain [.int .i64 0] 3)) (f3 : Has h bs (.cells .plain [.int .i64 0] 3)) (hb0br : b0 ≠ br) (hb0bs : b0 ≠ bs) (hb1br : b1 ≠ br) (hb1bs : b1 ≠ bs) (hbrs : br ≠ bs) :
  Runs Try.prog 41 [.agg (C.cells r b l), .ptr b0 0, .ptr b1 0, .ptr br 0, .ptr bs 0] h (fun en h'' => ExtF (fun b => b = br ∨ b = bs) h h'' ∧ (Has h'' br (.cells .plain [.int .i64 (C.boatQ boat (fun x => loadQ x loads (C.tr (((C.bits surelyV (x.needs loads) : Nat) : Int), ((C.bits perhapsV (x.needs loads) : Nat) : Int)) zSp) zSp) zSp).1.1] 3) ∧ Has h'' bs (.cells .plain [.int .i64 (C.boatQ boat (fun x => loadQ x loads (C.tr (((C.bits surelyV (x.needs loads) : Nat) : Int), ((C.bits perhapsV (x.needs loads) : Nat) : Int)) zSp) zSp) zSp).1.2] 3)) ∧ (((C.boatQ boat (fun x => loadQ x loads (C.tr (((C.bits surelyV (x.needs loads) : Nat) : Int), ((C.bits perhapsV (x.needs loads) : Nat) : Int)) zSp) zSp) zSp).2 = 0 ∧ en = .ret (.tuple [])) ∨ en = .pan (refusal (C.boatQ boat (fun x => loadQ x loads (C.tr (((C.bits surelyV (x.needs loads) : Nat) : Int), ((C.bits perhapsV (x.needs loads) : Nat) : Int)) zSp) zSp) zSp).2))) := by
 have hnr := O.nr
 have hnb := O.nb
 have y0 : ExtF (fun b => b = br ∨ b = bs) h h := ExtF.of (Ext.refl _)
 have hsm := A.same
 have l0 := f0.1
 have l1 := f1.1
 have l2 := f2.1
 have l3 := f3.1
 have ht1 := fun h A c => truths_yes O (r := r) (b := b) (l := l) (h := h) c A
 have ht2 := fun h A c => truths_no O (r := r) (b := b) (l := l) (h := h) c A
 have hv1 := fun h A i x c => vessel_ok (C := C) (r := r) (b := b) (l := l) (n := i) (h := h) A (by omega) (x := x) c
 have hv2 := fun h A c => vessel_no (C := C) (r := r) (b := b) (l := l) (n := boat) (h := h) A (by omega) c
 by_cases c0 : 0 ≤ boat ∧ boat < C.bs.length
 ·obtain ⟨i, rfl⟩ := Int.eq_ofNat_of_zero_le c0.1
  obtain ⟨x, hx⟩ : ∃ x, C.bs[i]? = some x := ⟨C.bs[i]'(by omega), by simp⟩
  have hxO := O.b x (List.mem_of_getElem? hx)
  have hxs : sameA (.agg x.cells) (.agg x.cells) = true := by unfold BV.cells; simp [sameA, sameAs, eqI_eq]
  rw [CutV.boat_yes hx]
  have hn1 := fun h c => needs_yes hxO (n := loads) (h := h) c
  have hn2 := fun h c => needs_no hxO (n := loads) (h := h) c
  by_cases c3 : 0 ≤ loads ∧ loads ≤ x.room
  ·rw [load_yes c3]
   obtain ⟨N, hN⟩ : ∃ N, x.needs loads = N := ⟨_, rfl⟩
   rw [hN] at hn1 ⊢
   unfold CutV.cells at *
   try unfold BV.cells at *
   try unfold spC at *
   have e0 : Ext h h := Ext.refl _
   refine Runs.intro aFunc41 rfl rfl rfl rfl fun rest => ?_;apply gS;refine gR rfl ?_;refine GoR.box rfl rfl rfl rfl rfl rfl fun h4 x4 f4 => ?_;have := e0.1;have := f1.1;have := f2.1;have := f3.1;have := f0.1;replace f1 := f1.ext x4;replace f2 := f2.ext x4;replace f3 := f3.ext x4;replace f0 := f0.ext x4;replace e0 := e0.trans x4;replace y0 := y0.ext x4;have := f4.1;apply gE;refine Go.seq noJ_ok (Go.join (fun bb : Nat => [(1, .ptr b0 0), (2, .ptr b1 0), (3, .ptr br 0), (4, .ptr bs 0), (5, .ptr h.next 0), (6, .ptr bb 0)]) (fun bb h' => Ext h h' ∧ ExtF (fun b => b = br ∨ b = bs) h h' ∧ h.next ≤ bb ∧ Has h' h.next (.cells .plain [.int .i64 C.dl, .int .i64 C.dh, .int .i64 C.kl, .int .i64 C.kh, r, .int .i64 C.most, b, l] 68) ∧ Has h' bb (.cells .plain [.int .i64 N.1, .int .i64 N.2] 23) ∧ Has h' b0 (.cells .plain [.int .i64 (i : Nat)] 3) ∧ Has h' b1 (.cells .plain [.int .i64 loads] 3) ∧ Has h' br (.cells .plain [.int .i64 0] 3) ∧ Has h' bs (.cells .plain [.int .i64 0] 3)) ?_ ?_)
   ·intro k' done
    refine alts41a ?_ ?_ ?_
    ·intro pl hpl
     rw [pl41a_2_4_5] at hpl;cases hpl;refine gQ rfl rfl (ld68 rfl f4 rfl) rfl ?_;refine gQ rfl rfl (ld3 rfl f0 rfl) rfl ?_;refine gQ rfl rfl (ld3 rfl f1 rfl) rfl ?_;refine GoE.call rfl rfl (aCF aFunc42 rfl) (hv1 _ (A.ext e0) i x hx) (dK 3 3 (dD 3 1 (dD 3 0 rfl))) ?_ np;rintro v5 h5 ⟨q, x5⟩;cases q;replace f4 := f4.ext x5;replace f1 := f1.ext x5;replace f2 := f2.ext x5;replace f3 := f3.ext x5;replace f0 := f0.ext x5;replace e0 := e0.trans x5;replace y0 := y0.ext x5;refine ⟨(rck (h2 := h5) rfl (ld3 rfl f1 rfl) recheck_nil), _, rfl, ?_⟩;refine GoE.call rfl rfl (aCF aFunc43 rfl) (hn1 _ c3) (dD 15 3 rfl) ?_ np;rintro v6 h6 ⟨q, x6⟩;cases q;replace f4 := f4.ext x6;replace f1 := f1.ext x6;replace f2 := f2.ext x6;replace f3 := f3.ext x6;replace f0 := f0.ext x6;replace e0 := e0.trans x6;replace y0 := y0.ext x6;refine ⟨recheck_nil, _, rfl, ?_⟩;refine GoE.alloc rfl rfl zt23 rfl rfl rfl fun h7 x7 f7 => ?_;have := e0.1;have := f4.1;have := f1.1;have := f2.1;have := f3.1;have := f0.1;replace f4 := f4.ext x7;replace f1 := f1.ext x7;replace f2 := f2.ext x7;replace f3 := f3.ext x7;replace f0 := f0.ext x7;replace e0 := e0.trans x7;replace y0 := y0.ext x7;have := f7.1;refine ⟨recheck_nil, ?_⟩;refine GoE.store rfl rfl rfl rfl rfl rfl rfl f7 rfl sz23 rfl rfl rfl fun h8 u8 => ?_;replace f7 := u8.has f7;replace f4 := f4.upd u8 (by omega);replace f1 := f1.upd u8 (by omega);replace f2 := f2.upd u8 (by omega);replace f3 := f3.upd u8 (by omega);replace f0 := f0.upd u8 (by omega);replace e0 := e0.upd u8 (by omega);replace y0 := y0.upd u8 (.inr (by omega));refine ⟨recheck_nil, ?_⟩;refine GoE.end rfl ?_;exact done _ _ _ ⟨rfl, rfl, rfl, rfl, rfl, rfl, trivial⟩ ⟨e0, y0, by omega, f4, by assumption, f0, f1, f2, f3⟩
    ·intro pl hpl
     rw [pl41a_2_5_4] at hpl;cases hpl;refine gQ rfl rfl (ld68 rfl f4 rfl) rfl ?_;refine gQ rfl rfl (ld3 rfl f0 rfl) rfl ?_;refine gQ rfl rfl (ld3 rfl f1 rfl) rfl ?_;refine GoE.call rfl rfl (aCF aFunc42 rfl) (hv1 _ (A.ext e0) i x hx) (dK 3 3 (dD 3 1 (dD 3 0 rfl))) ?_ np;rintro v5 h5 ⟨q, x5⟩;cases q;replace f4 := f4.ext x5;replace f1 := f1.ext x5;replace f2 := f2.ext x5;replace f3 := f3.ext x5;replace f0 := f0.ext x5;replace e0 := e0.trans x5;replace y0 := y0.ext x5;refine ⟨(rck (h2 := h5) rfl (ld3 rfl f1 rfl) recheck_nil), _, rfl, ?_⟩;refine GoE.alloc rfl rfl zt23 (dK 7 3 rfl) rfl rfl fun h6 x6 f6 => ?_;have := e0.1;have := f4.1;have := f1.1;have := f2.1;have := f3.1;have := f0.1;replace f4 := f4.ext x6;replace f1 := f1.ext x6;replace f2 := f2.ext x6;replace f3 := f3.ext x6;replace f0 := f0.ext x6;replace e0 := e0.trans x6;replace y0 := y0.ext x6;have := f6.1;refine ⟨(rck (h2 := h6) rfl (ld3 rfl f1 rfl) recheck_nil), ?_⟩;refine GoE.call rfl rfl (aCF aFunc43 rfl) (hn1 _ c3) (dD 47 3 rfl) ?_ np;rintro v7 h7 ⟨q, x7⟩;cases q;replace f6 := f6.ext x7;replace f4 := f4.ext x7;replace f1 := f1.ext x7;replace f2 := f2.ext x7;replace f3 := f3.ext x7;replace f0 := f0.ext x7;replace e0 := e0.trans x7;replace y0 := y0.ext x7;refine ⟨recheck_nil, _, rfl, ?_⟩;refine GoE.store rfl rfl rfl rfl rfl rfl rfl f6 rfl sz23 rfl rfl rfl fun h8 u8 => ?_;replace f6 := u8.has f6;replace f4 := f4.upd u8 (by omega);replace f1 := f1.upd u8 (by omega);replace f2 := f2.upd u8 (by omega);replace f3 := f3.upd u8 (by omega);replace f0 := f0.upd u8 (by omega);replace e0 := e0.upd u8 (by omega);replace y0 := y0.upd u8 (.inr (by omega));refine ⟨recheck_nil, ?_⟩;refine GoE.end rfl ?_;exact done _ _ _ ⟨rfl, rfl, rfl, rfl, rfl, rfl, trivial⟩ ⟨e0, y0, by omega, f4, by assumption, f0, f1, f2, f3⟩
    ·intro pl hpl
     rw [pl41a_5_2_4] at hpl;cases hpl;refine gQ rfl rfl (ld68 rfl f4 rfl) rfl ?_;refine gQ rfl rfl (ld3 rfl f0 rfl) rfl ?_;refine gQ rfl rfl (ld3 rfl f1 rfl) rfl ?_;refine GoE.alloc rfl rfl zt23 (dK 0 3 (dK 0 1 (dK 0 0 rfl))) rfl rfl fun h5 x5 f5 => ?_;have := e0.1;have := f4.1;have := f1.1;have := f2.1;have := f3.1;have := f0.1;replace f4 := f4.ext x5;replace f1 := f1.ext x5;replace f2 := f2.ext x5;replace f3 := f3.ext x5;replace f0 := f0.ext x5;replace e0 := e0.trans x5;replace y0 := y0.ext x5;have := f5.1;refine ⟨(rck (h2 := h5) rfl (ld3 rfl f1 rfl) (rck (h2 := h5) rfl (ld3 rfl f0 rfl) (rck (h2 := h5) rfl (ld68 rfl f4 rfl) recheck_nil))), ?_⟩;refine GoE.call rfl rfl (aCF aFunc42 rfl) (hv1 _ (A.ext e0) i x hx) (dK 35 3 (dD 35 1 (dD 35 0 rfl))) ?_ np;rintro v6 h6 ⟨q, x6⟩;cases q;replace f5 := f5.ext x6;replace f4 := f4.ext x6;replace f1 := f1.ext x6;replace f2 := f2.ext x6;replace f3 := f3.ext x6;replace f0 := f0.ext x6;replace e0 := e0.trans x6;replace y0 := y0.ext x6;refine ⟨(rck (h2 := h6) rfl (ld3 rfl f1 rfl) recheck_nil), _, rfl, ?_⟩;refine GoE.call rfl rfl (aCF aFunc43 rfl) (hn1 _ c3) (dD 47 3 rfl) ?_ np;rintro v7 h7 ⟨q, x7⟩;cases q;replace f5 := f5.ext x7;replace f4 := f4.ext x7;replace f1 := f1.ext x7;replace f2 := f2.ext x7;replace f3 := f3.ext x7;replace f0 := f0.ext x7;replace e0 := e0.trans x7;replace y0 := y0.ext x7;refine ⟨recheck_nil, _, rfl, ?_⟩;refine GoE.store rfl rfl rfl rfl rfl rfl rfl f5 rfl sz23 rfl rfl rfl fun h8 u8 => ?_;replace f5 := u8.has f5;replace f4 := f4.upd u8 (by omega);replace f1 := f1.upd u8 (by omega);replace f2 := f2.upd u8 (by omega);replace f3 := f3.upd u8 (by omega);replace f0 := f0.upd u8 (by omega);replace e0 := e0.upd u8 (by omega);replace y0 := y0.upd u8 (.inr (by omega));refine ⟨recheck_nil, ?_⟩;refine GoE.end rfl ?_;exact done _ _ _ ⟨rfl, rfl, rfl, rfl, rfl, rfl, trivial⟩ ⟨e0, y0, by omega, f4, by assumption, f0, f1, f2, f3⟩
   ·clear y0 e0 f0 f1 f2 f3 f4;rintro b9 h9 ⟨e0, y0, hb9, f4, f9, f0, f1, f2, f3⟩
    have l09 := f0.1
    have l19 := f1.1
    have l29 := f2.1
    have l39 := f3.1
    have l49 := f4.1
    have l99 := f9.1
    clear hn1 hn2 hv1 hv2
    by_cases c2 : C.truths = []
    ·rw [CutV.tr_no c2]
     try unfold zSp
     try unfold CutV.cells at *
     try unfold BV.cells at *
     try unfold spC at *
     apply gS;refine gR rfl ?_;refine gO rfl rfl (ld68 rfl f4 rfl) rfl ?_;refine GoR.callP rfl rfl (aCF aFunc36 rfl) (ht2 _ (A.ext e0) c2) (by rintro _ _ ⟨q, _⟩; cases q) ?_;rintro chain h10 ⟨q, x10⟩
     have q := AEnd.pan.inj q
     subst q;replace f2 := f2.ext x10;replace f3 := f3.ext x10;replace y0 := y0.ext x10;exact FLeft.pan (⟨y0, ⟨f2, f3⟩, .inr rfl⟩)
    ·rw [CutV.tr_yes c2]
     have hon1 := fun h' bm bf bt (K : KnownAt C.truths (C.rs.length + 1) h' bm) NA => on_ok K (by omega) (bf := bf) (bt := bt) NA aFunc46 surelyV (fun d need h => surely_ok (d := d) (n := need) (h := h)) N
     have hon2 := fun h' bm bf bt (K : KnownAt C.truths (C.rs.length + 1) h' bm) NA => on_ok K (by omega) (bf := bf) (bt := bt) NA aFunc47 perhapsV (fun d need h => perhaps_ok (d := d) (n := need) (h := h)) N
     have hda := fun h A => days_ok (C := C) (r := r) (b := b) (l := l) (d := 0) (h := h) A
     obtain ⟨M1, hM1⟩ : ∃ M1, C.bits surelyV N = M1 := ⟨_, rfl⟩
     obtain ⟨M2, hM2⟩ : ∃ M2, C.bits perhapsV N = M2 := ⟨_, rfl⟩
     rw [show (bitsV (C.rs.length + 1) fun d => surelyV (joinL (C.truths.map (atK d))) N) = M1 from hM1] at hon1;rw [show (bitsV (C.rs.length + 1) fun d => perhapsV (joinL (C.truths.map (atK d))) N) = M2 from hM2] at hon2;rw [hM1, hM2]
     try unfold CutV.cells at *
     try unfold BV.cells at *
     try unfold spC at *
     apply gS;refine gR rfl ?_;refine gO rfl rfl (ld68 rfl f4 rfl) rfl ?_;refine GoR.call rfl rfl (aCF aFunc36 rfl) (ht1 _ (A.ext e0) c2) ?_ (by rintro _ _ ⟨bm, q, _, hbm, KK⟩; cases q);rintro v10 h10 ⟨bm, q, x10, hbm, KK⟩;cases q;refine ⟨_, rfl, ?_⟩;have := e0.1;replace f4 := f4.ext x10;replace f9 := f9.ext x10;replace f0 := f0.ext x10;replace f1 := f1.ext x10;replace f2 := f2.ext x10;replace f3 := f3.ext x10;replace e0 := e0.trans x10;replace y0 := y0.ext x10;refine gP ?_;apply gE;refine Go.drawnE plan41_1 ?_;refine gQ rfl rfl rfl rfl ?_;refine gQ rfl rfl (ld68 rfl f4 rfl) rfl ?_;refine gQ rfl rfl (ld23 rfl f9 rfl) rfl ?_;refine gQ rfl rfl rfl rfl ?_;refine gQ rfl rfl (ld68 rfl f4 rfl) rfl ?_;refine gQ rfl rfl (ld23 rfl f9 rfl) rfl ?_;refine GoE.call rfl rfl (aCF aFunc45 rfl) (hda _ (A.ext e0)) (dK 2 8 (dK 2 6 (dK 2 5 (dK 2 3 (dD 2 1 (dK 2 0 rfl)))))) ?_ (by rintro _ _ ⟨bf, bt, q, _, hbf, hbt, NA⟩; cases q);rintro v11 h11 ⟨bf, bt, q, x11, hbf, hbt, NA⟩;cases q;have := e0.1;have := f4.1;have := f9.1;have := f0.1;have := f1.1;have := f2.1;have := f3.1;replace f4 := f4.ext x11;replace f9 := f9.ext x11;replace f0 := f0.ext x11;replace f1 := f1.ext x11;replace f2 := f2.ext x11;replace f3 := f3.ext x11;replace e0 := e0.trans x11;replace y0 := y0.ext x11;refine ⟨(rck (h2 := h11) rfl (ld23 rfl f9 rfl) (rck (h2 := h11) rfl (ld68 rfl f4 rfl) (rck (h2 := h11) rfl (rfl) (rck (h2 := h11) rfl (ld23 rfl f9 rfl) (rck (h2 := h11) rfl (rfl) recheck_nil))))), _, rfl, ?_⟩;refine GoE.call rfl rfl (aCF aFunc44 rfl) (hon1 _ _ _ _ (KK.ext x11) NA) (dK 15 8 (dK 15 6 (dK 15 5 (dD 15 3 (dD 15 0 rfl))))) ?_ np;rintro v12 h12 ⟨q, x12⟩;cases q;replace f4 := f4.ext x12;replace f9 := f9.ext x12;replace f0 := f0.ext x12;replace f1 := f1.ext x12;replace f2 := f2.ext x12;replace f3 := f3.ext x12;replace e0 := e0.trans x12;replace y0 := y0.ext x12;refine ⟨(rck (h2 := h12) rfl (ld23 rfl f9 rfl) (rck (h2 := h12) rfl (ld68 rfl f4 rfl) (rck (h2 := h12) rfl (rfl) recheck_nil))), _, rfl, ?_⟩;refine GoE.call rfl rfl (aCF aFunc45 rfl) (hda _ (A.ext e0)) (dK 95 8 (dD 95 6 (dK 95 5 rfl))) ?_ (by rintro _ _ ⟨bf, bt, q, _, hbf, hbt, NA⟩; cases q);rintro v13 h13 ⟨bf, bt, q, x13, hbf, hbt, NA⟩;cases q;have := e0.1;have := f4.1;have := f9.1;have := f0.1;have := f1.1;have := f2.1;have := f3.1;replace f9 := f9.ext x13;replace f2 := f2.ext x13;replace f3 := f3.ext x13;replace y0 := y0.ext x13;refine ⟨(rck (h2 := h13) rfl (ld23 rfl f9 rfl) (rck (h2 := h13) rfl (rfl) recheck_nil)), _, rfl, ?_⟩;refine GoE.call rfl rfl (aCF aFunc44 rfl) (hon2 _ _ _ _ (KK.ext ((x11.trans x12).trans x13)) NA) (dD 511 8 (dD 511 5 rfl)) ?_ np;rintro v14 h14 ⟨q, x14⟩;cases q;replace f2 := f2.ext x14;replace f3 := f3.ext x14;replace y0 := y0.ext x14;refine ⟨recheck_nil, _, rfl, ?_⟩;refine GoE.store rfl rfl rfl rfl rfl rfl rfl f2 rfl sz3 rfl rfl rfl fun h15 u15 => ?_;replace f2 := u15.has f2;replace f3 := f3.upd u15 (by omega);clear e0;replace y0 := y0.upd u15 (by omega);refine ⟨recheck_nil, ?_⟩;refine GoE.store rfl rfl rfl rfl rfl rfl rfl f3 rfl sz3 rfl rfl rfl fun h16 u16 => ?_;replace f2 := f2.upd u16 (by omega);replace f3 := u16.has f3;replace y0 := y0.upd u16 (by omega);refine ⟨recheck_nil, ?_⟩;refine GoE.end rfl ?_;exact Go.endL (FLeft.ret (v := .tuple []) (aResult_of Try.func41 rfl rfl) ⟨y0, ⟨f2, f3⟩, .inl ⟨rfl, rfl⟩⟩)
  ·rw [load_no c3]
   try unfold zSp
   unfold CutV.cells at *
   try unfold BV.cells at *
   try unfold spC at *
   have e0 : Ext h h := Ext.refl _
   refine Runs.intro aFunc41 rfl rfl rfl rfl fun rest => ?_;apply gS;refine gR rfl ?_;refine GoR.box rfl rfl rfl rfl rfl rfl fun h4 x4 f4 => ?_;have := e0.1;have := f1.1;have := f2.1;have := f3.1;have := f0.1;replace f1 := f1.ext x4;replace f2 := f2.ext x4;replace f3 := f3.ext x4;replace f0 := f0.ext x4;replace e0 := e0.trans x4;replace y0 := y0.ext x4;have := f4.1;apply gE;refine Go.seq noJ_ok (alts41a ?_ ?_ ?_)
   ·intro pl hpl
    rw [pl41a_2_4_5] at hpl;cases hpl;refine gQ rfl rfl (ld68 rfl f4 rfl) rfl ?_;refine gQ rfl rfl (ld3 rfl f0 rfl) rfl ?_;refine gQ rfl rfl (ld3 rfl f1 rfl) rfl ?_;refine GoE.call rfl rfl (aCF aFunc42 rfl) (hv1 _ (A.ext e0) i x hx) (dK 3 3 (dD 3 1 (dD 3 0 rfl))) ?_ np;rintro v5 h5 ⟨q, x5⟩;cases q;replace f1 := f1.ext x5;replace f2 := f2.ext x5;replace f3 := f3.ext x5;replace y0 := y0.ext x5;refine ⟨(rck (h2 := h5) rfl (ld3 rfl f1 rfl) recheck_nil), _, rfl, ?_⟩;refine GoE.callP rfl rfl (aCF aFunc43 rfl) (hn2 _ c3) rfl (by rintro _ _ ⟨q, _⟩; cases q) ?_;rintro chain h6 ⟨q, x6⟩
    have q := AEnd.pan.inj q
    subst q;replace f2 := f2.ext x6;replace f3 := f3.ext x6;replace y0 := y0.ext x6;exact FLeft.pan (⟨y0, ⟨f2, f3⟩, .inr rfl⟩)
   ·intro pl hpl
    rw [pl41a_2_5_4] at hpl;cases hpl;refine gQ rfl rfl (ld68 rfl f4 rfl) rfl ?_;refine gQ rfl rfl (ld3 rfl f0 rfl) rfl ?_;refine gQ rfl rfl (ld3 rfl f1 rfl) rfl ?_;refine GoE.call rfl rfl (aCF aFunc42 rfl) (hv1 _ (A.ext e0) i x hx) (dK 3 3 (dD 3 1 (dD 3 0 rfl))) ?_ np;rintro v5 h5 ⟨q, x5⟩;cases q;replace f1 := f1.ext x5;replace f2 := f2.ext x5;replace f3 := f3.ext x5;replace y0 := y0.ext x5;refine ⟨(rck (h2 := h5) rfl (ld3 rfl f1 rfl) recheck_nil), _, rfl, ?_⟩;refine GoE.alloc rfl rfl zt23 (dK 7 3 rfl) rfl rfl fun h6 x6 f6 => ?_;replace f1 := f1.ext x6;replace f2 := f2.ext x6;replace f3 := f3.ext x6;replace y0 := y0.ext x6;refine ⟨(rck (h2 := h6) rfl (ld3 rfl f1 rfl) recheck_nil), ?_⟩;refine GoE.callP rfl rfl (aCF aFunc43 rfl) (hn2 _ c3) rfl (by rintro _ _ ⟨q, _⟩; cases q) ?_;rintro chain h7 ⟨q, x7⟩
    have q := AEnd.pan.inj q
    subst q;replace f2 := f2.ext x7;replace f3 := f3.ext x7;replace y0 := y0.ext x7;exact FLeft.pan (⟨y0, ⟨f2, f3⟩, .inr rfl⟩)
   ·intro pl hpl
    rw [pl41a_5_2_4] at hpl;cases hpl;refine gQ rfl rfl (ld68 rfl f4 rfl) rfl ?_;refine gQ rfl rfl (ld3 rfl f0 rfl) rfl ?_;refine gQ rfl rfl (ld3 rfl f1 rfl) rfl ?_;refine GoE.alloc rfl rfl zt23 (dK 0 3 (dK 0 1 (dK 0 0 rfl))) rfl rfl fun h5 x5 f5 => ?_;have := e0.1;have := f4.1;have := f1.1;have := f2.1;have := f3.1;have := f0.1;replace f4 := f4.ext x5;replace f1 := f1.ext x5;replace f2 := f2.ext x5;replace f3 := f3.ext x5;replace f0 := f0.ext x5;replace e0 := e0.trans x5;replace y0 := y0.ext x5;have := f5.1;refine ⟨(rck (h2 := h5) rfl (ld3 rfl f1 rfl) (rck (h2 := h5) rfl (ld3 rfl f0 rfl) (rck (h2 := h5) rfl (ld68 rfl f4 rfl) recheck_nil))), ?_⟩;refine GoE.call rfl rfl (aCF aFunc42 rfl) (hv1 _ (A.ext e0) i x hx) (dK 35 3 (dD 35 1 (dD 35 0 rfl))) ?_ np;rintro v6 h6 ⟨q, x6⟩;cases q;replace f1 := f1.ext x6;replace f2 := f2.ext x6;replace f3 := f3.ext x6;replace y0 := y0.ext x6;refine ⟨(rck (h2 := h6) rfl (ld3 rfl f1 rfl) recheck_nil), _, rfl, ?_⟩;refine GoE.callP rfl rfl (aCF aFunc43 rfl) (hn2 _ c3) rfl (by rintro _ _ ⟨q, _⟩; cases q) ?_;rintro chain h7 ⟨q, x7⟩
    have q := AEnd.pan.inj q
    subst q;replace f2 := f2.ext x7;replace f3 := f3.ext x7;replace y0 := y0.ext x7;exact FLeft.pan (⟨y0, ⟨f2, f3⟩, .inr rfl⟩)
 ·rw [CutV.boat_no c0]
  try unfold zSp
  unfold CutV.cells at *
  try unfold BV.cells at *
  try unfold spC at *
  have e0 : Ext h h := Ext.refl _
  refine Runs.intro aFunc41 rfl rfl rfl rfl fun rest => ?_;apply gS;refine gR rfl ?_;refine GoR.box rfl rfl rfl rfl rfl rfl fun h4 x4 f4 => ?_;have := e0.1;have := f0.1;have := f1.1;have := f2.1;have := f3.1;replace f0 := f0.ext x4;replace f1 := f1.ext x4;replace f2 := f2.ext x4;replace f3 := f3.ext x4;replace e0 := e0.trans x4;replace y0 := y0.ext x4;have := f4.1;apply gE;refine Go.seq noJ_ok (alts41a ?_ ?_ ?_)
  ·intro pl hpl
   rw [pl41a_2_4_5] at hpl;cases hpl;refine gQ rfl rfl (ld68 rfl f4 rfl) rfl ?_;refine gQ rfl rfl (ld3 rfl f0 rfl) rfl ?_;refine gQ rfl rfl (ld3 rfl f1 rfl) rfl ?_;refine GoE.callP rfl rfl (aCF aFunc42 rfl) (hv2 _ (A.ext e0) c0) rfl (by rintro _ _ ⟨q, _⟩; cases q) ?_;rintro chain h5 ⟨q, x5⟩
   have q := AEnd.pan.inj q
   subst q;replace f2 := f2.ext x5;replace f3 := f3.ext x5;replace y0 := y0.ext x5;exact FLeft.pan (⟨y0, ⟨f2, f3⟩, .inr rfl⟩)
  ·intro pl hpl
   rw [pl41a_2_5_4] at hpl;cases hpl;refine gQ rfl rfl (ld68 rfl f4 rfl) rfl ?_;refine gQ rfl rfl (ld3 rfl f0 rfl) rfl ?_;refine gQ rfl rfl (ld3 rfl f1 rfl) rfl ?_;refine GoE.callP rfl rfl (aCF aFunc42 rfl) (hv2 _ (A.ext e0) c0) rfl (by rintro _ _ ⟨q, _⟩; cases q) ?_;rintro chain h5 ⟨q, x5⟩
   have q := AEnd.pan.inj q
   subst q;replace f2 := f2.ext x5;replace f3 := f3.ext x5;replace y0 := y0.ext x5;exact FLeft.pan (⟨y0, ⟨f2, f3⟩, .inr rfl⟩)
  ·intro pl hpl
   rw [pl41a_5_2_4] at hpl;cases hpl;refine gQ rfl rfl (ld68 rfl f4 rfl) rfl ?_;refine gQ rfl rfl (ld3 rfl f0 rfl) rfl ?_;refine gQ rfl rfl (ld3 rfl f1 rfl) rfl ?_;refine GoE.alloc rfl rfl zt23 (dK 0 3 (dK 0 1 (dK 0 0 rfl))) rfl rfl fun h5 x5 f5 => ?_;replace f4 := f4.ext x5;replace f0 := f0.ext x5;replace f1 := f1.ext x5;replace f2 := f2.ext x5;replace f3 := f3.ext x5;replace e0 := e0.trans x5;replace y0 := y0.ext x5;refine ⟨(rck (h2 := h5) rfl (ld3 rfl f1 rfl) (rck (h2 := h5) rfl (ld3 rfl f0 rfl) (rck (h2 := h5) rfl (ld68 rfl f4 rfl) recheck_nil))), ?_⟩;refine GoE.callP rfl rfl (aCF aFunc42 rfl) (hv2 _ (A.ext e0) c0) rfl (by rintro _ _ ⟨q, _⟩; cases q) ?_;rintro chain h6 ⟨q, x6⟩
   have q := AEnd.pan.inj q
   subst q;replace f2 := f2.ext x6;replace f3 := f3.ext x6;replace y0 := y0.ext x6;exact FLeft.pan (⟨y0, ⟨f2, f3⟩, .inr rfl⟩)
theorem loadsB_ok {C : CutV} (O : C.Ok) {r b l : AVal} {boat day : Int} {b0 b1 br bs : Nat} {h : AH} (A : CutAt h C r b l) (f0 : Has h b0 (.cells .plain [.int .i64 boat] 3)) (f1 : Has h b1 (.cells .plain [.int .i64 day] 3)) (f2 : Has h br (.cells .plain [.int .i64 0] 3)) (f3 : Has h bs (.cells .plain [.int .i64 0] 3)) (hb0br : b0 ≠ br) (hb0bs : b0 ≠ bs) (hb1br : b1 ≠ br) (hb1bs : b1 ≠ bs) (hbrs : br ≠ bs) :
  Runs Try.prog 57 [.agg (C.cells r b l), .ptr b0 0, .ptr b1 0, .ptr br 0, .ptr bs 0] h (fun en h'' => ExtF (fun b => b = br ∨ b = bs) h h'' ∧ (Has h'' br (.cells .plain [.int .i64 (C.boatQ boat (fun x => C.dayQ day (C.tr (mostV x (surelyV (C.at day.toNat)), mostV x (perhapsV (C.at day.toNat))) zSp) zSp) zSp).1.1] 3) ∧ Has h'' bs (.cells .plain [.int .i64 (C.boatQ boat (fun x => C.dayQ day (C.tr (mostV x (surelyV (C.at day.toNat)), mostV x (perhapsV (C.at day.toNat))) zSp) zSp) zSp).1.2] 3)) ∧ (((C.boatQ boat (fun x => C.dayQ day (C.tr (mostV x (surelyV (C.at day.toNat)), mostV x (perhapsV (C.at day.toNat))) zSp) zSp) zSp).2 = 0 ∧ en = .ret (.tuple [])) ∨ en = .pan (refusal (C.boatQ boat (fun x => C.dayQ day (C.tr (mostV x (surelyV (C.at day.toNat)), mostV x (perhapsV (C.at day.toNat))) zSp) zSp) zSp).2))) := by
 have hnr := O.nr
 have hnb := O.nb
 have y0 : ExtF (fun b => b = br ∨ b = bs) h h := ExtF.of (Ext.refl _)
 have hsm := A.same
 have l0 := f0.1
 have l1 := f1.1
 have l2 := f2.1
 have l3 := f3.1
 have ht1 := fun h A c => truths_yes O (r := r) (b := b) (l := l) (h := h) c A
 have ht2 := fun h A c => truths_no O (r := r) (b := b) (l := l) (h := h) c A
 have hd1 := fun h A c => needDay_yes (C := C) (r := r) (b := b) (l := l) (n := day) (h := h) A (by omega) c
 have hd2 := fun h A c => needDay_no (C := C) (r := r) (b := b) (l := l) (n := day) (h := h) A (by omega) c
 have hv1 := fun h A i x c => vessel_ok (C := C) (r := r) (b := b) (l := l) (n := i) (h := h) A (by omega) (x := x) c
 have hv2 := fun h A c => vessel_no (C := C) (r := r) (b := b) (l := l) (n := boat) (h := h) A (by omega) c
 by_cases c0 : 0 ≤ boat ∧ boat < C.bs.length
 ·obtain ⟨i, rfl⟩ := Int.eq_ofNat_of_zero_le c0.1
  obtain ⟨x, hx⟩ : ∃ x, C.bs[i]? = some x := ⟨C.bs[i]'(by omega), by simp⟩
  have hxO := O.b x (List.mem_of_getElem? hx)
  have hxs : sameA (.agg x.cells) (.agg x.cells) = true := by unfold BV.cells; simp [sameA, sameAs, eqI_eq]
  rw [CutV.boat_yes hx]
  by_cases c1 : 0 ≤ day ∧ day ≤ C.rs.length
  ·rw [CutV.day_yes c1]
   by_cases c2 : C.truths = []
   ·rw [CutV.tr_no c2]
    try unfold zSp
    unfold CutV.cells at *
    try unfold BV.cells at *
    try unfold spC at *
    have e0 : Ext h h := Ext.refl _
    refine Runs.intro aFunc57 rfl rfl rfl rfl fun rest => ?_;apply gS;refine gR rfl ?_;refine GoR.box rfl rfl rfl rfl rfl rfl fun h4 x4 f4 => ?_;have := e0.1;have := f1.1;have := f2.1;have := f3.1;have := f0.1;replace f1 := f1.ext x4;replace f2 := f2.ext x4;replace f3 := f3.ext x4;replace f0 := f0.ext x4;replace e0 := e0.trans x4;replace y0 := y0.ext x4;have := f4.1;apply gE;apply gS;refine gR rfl ?_;refine gO rfl rfl (ld68 rfl f4 rfl) rfl ?_;refine gO rfl rfl (ld3 rfl f0 rfl) rfl ?_;refine GoR.call rfl rfl (aCF aFunc42 rfl) (hv1 _ (A.ext e0) i x hx) ?_ np;rintro v5 h5 ⟨q, x5⟩;cases q;refine ⟨_, rfl, ?_⟩;replace f4 := f4.ext x5;replace f1 := f1.ext x5;replace f2 := f2.ext x5;replace f3 := f3.ext x5;replace f0 := f0.ext x5;replace e0 := e0.trans x5;replace y0 := y0.ext x5;refine GoR.alloc rfl rfl rfl zt79 rfl rfl fun h6 x6 f6 => ?_;have := e0.1;have := f4.1;have := f1.1;have := f2.1;have := f3.1;have := f0.1;replace f4 := f4.ext x6;replace f1 := f1.ext x6;replace f2 := f2.ext x6;replace f3 := f3.ext x6;replace e0 := e0.trans x6;replace y0 := y0.ext x6;have := f6.1;refine GoR.store rfl rfl rfl rfl rfl rfl f6 rfl sz79 rfl rfl rfl fun h7 u7 => ?_;replace f4 := f4.upd u7 (by omega);replace f1 := f1.upd u7 (by omega);replace f2 := f2.upd u7 (by omega);replace f3 := f3.upd u7 (by omega);replace e0 := e0.upd u7 (by omega);replace y0 := y0.upd u7 (.inr (by omega));apply gE;apply gS;refine gR rfl ?_;refine gO rfl rfl (ld68 rfl f4 rfl) rfl ?_;refine gO rfl rfl (ld3 rfl f1 rfl) rfl ?_;refine GoR.call rfl rfl (aCF aFunc39 rfl) (hd1 _ (A.ext e0) c1) ?_ np;rintro v8 h8 ⟨q, x8⟩;cases q;refine ⟨_, rfl, ?_⟩;replace f4 := f4.ext x8;replace f1 := f1.ext x8;replace f2 := f2.ext x8;replace f3 := f3.ext x8;replace e0 := e0.trans x8;replace y0 := y0.ext x8;apply gE;refine Go.seq noJ_ok (alts57a ?_ ?_ ?_)
    ·intro pl hpl
     rw [pl57a_1_3_4] at hpl;cases hpl;refine gQ rfl rfl (ld68 rfl f4 rfl) rfl ?_;refine gQ rfl rfl (ld3 rfl f1 rfl) rfl ?_;refine GoE.callP rfl rfl (aCF aFunc36 rfl) (ht2 _ (A.ext e0) c2) rfl (by rintro _ _ ⟨q, _⟩; cases q) ?_;rintro chain h9 ⟨q, x9⟩
     have q := AEnd.pan.inj q
     subst q;replace f2 := f2.ext x9;replace f3 := f3.ext x9;replace y0 := y0.ext x9;exact FLeft.pan (⟨y0, ⟨f2, f3⟩, .inr rfl⟩)
    ·intro pl hpl
     rw [pl57a_1_4_3] at hpl;cases hpl;refine gQ rfl rfl (ld68 rfl f4 rfl) rfl ?_;refine gQ rfl rfl (ld3 rfl f1 rfl) rfl ?_;refine GoE.callP rfl rfl (aCF aFunc36 rfl) (ht2 _ (A.ext e0) c2) rfl (by rintro _ _ ⟨q, _⟩; cases q) ?_;rintro chain h9 ⟨q, x9⟩
     have q := AEnd.pan.inj q
     subst q;replace f2 := f2.ext x9;replace f3 := f3.ext x9;replace y0 := y0.ext x9;exact FLeft.pan (⟨y0, ⟨f2, f3⟩, .inr rfl⟩)
    ·intro pl hpl
     rw [pl57a_4_1_3] at hpl;cases hpl;refine gQ rfl rfl (ld68 rfl f4 rfl) rfl ?_;refine gQ rfl rfl (ld3 rfl f1 rfl) rfl ?_;refine GoE.alloc rfl rfl zt77 (dK 0 2 (dK 0 0 rfl)) rfl rfl fun h9 x9 f9 => ?_;replace f4 := f4.ext x9;replace f1 := f1.ext x9;replace f2 := f2.ext x9;replace f3 := f3.ext x9;replace e0 := e0.trans x9;replace y0 := y0.ext x9;refine ⟨(rck (h2 := h9) rfl (ld3 rfl f1 rfl) (rck (h2 := h9) rfl (ld68 rfl f4 rfl) recheck_nil)), ?_⟩;refine GoE.callP rfl rfl (aCF aFunc36 rfl) (ht2 _ (A.ext e0) c2) rfl (by rintro _ _ ⟨q, _⟩; cases q) ?_;rintro chain h10 ⟨q, x10⟩
     have q := AEnd.pan.inj q
     subst q;replace f2 := f2.ext x10;replace f3 := f3.ext x10;replace y0 := y0.ext x10;exact FLeft.pan (⟨y0, ⟨f2, f3⟩, .inr rfl⟩)
   ·rw [CutV.tr_yes c2]
    obtain ⟨d, rfl⟩ := Int.eq_ofNat_of_zero_le c1.1
    rw [Int.toNat_natCast]
    have hat := fun h' bm (K : KnownAt C.truths (C.rs.length + 1) h' bm) => at_ok K (d := d) (by omega) (by omega)
    obtain ⟨W, hW⟩ : ∃ W, C.at d = W := ⟨_, rfl⟩
    rw [show joinL (C.truths.map (atK d)) = W from hW] at hat;rw [hW]
    have hm1 := fun h => most_ok hxO (first := [.agg (spC W)]) aFunc46 (by unfold spC; simp [sameA, sameAs, eqI_eq]) (surelyV W) (fun need h => surely_ok (d := W) (n := need) (h := h)) (h := h)
    have hm2 := fun h => most_ok hxO (first := [.agg (spC W)]) aFunc47 (by unfold spC; simp [sameA, sameAs, eqI_eq]) (perhapsV W) (fun need h => perhaps_ok (d := W) (n := need) (h := h)) (h := h)
    obtain ⟨M1, hM1⟩ : ∃ M1, mostV x (surelyV W) = M1 := ⟨_, rfl⟩
    obtain ⟨M2, hM2⟩ : ∃ M2, mostV x (perhapsV W) = M2 := ⟨_, rfl⟩
    rw [hM1] at hm1 ⊢;rw [hM2] at hm2 ⊢
    unfold CutV.cells at *
    try unfold BV.cells at *
    try unfold spC at *
    have e0 : Ext h h := Ext.refl _
    refine Runs.intro aFunc57 rfl rfl rfl rfl fun rest => ?_;apply gS;refine gR rfl ?_;refine GoR.box rfl rfl rfl rfl rfl rfl fun h4 x4 f4 => ?_;have := e0.1;have := f2.1;have := f3.1;have := f0.1;have := f1.1;replace f2 := f2.ext x4;replace f3 := f3.ext x4;replace f0 := f0.ext x4;replace f1 := f1.ext x4;replace e0 := e0.trans x4;replace y0 := y0.ext x4;have := f4.1;apply gE;apply gS;refine gR rfl ?_;refine gO rfl rfl (ld68 rfl f4 rfl) rfl ?_;refine gO rfl rfl (ld3 rfl f0 rfl) rfl ?_;refine GoR.call rfl rfl (aCF aFunc42 rfl) (hv1 _ (A.ext e0) i x hx) ?_ np;rintro v5 h5 ⟨q, x5⟩;cases q;refine ⟨_, rfl, ?_⟩;replace f4 := f4.ext x5;replace f2 := f2.ext x5;replace f3 := f3.ext x5;replace f0 := f0.ext x5;replace f1 := f1.ext x5;replace e0 := e0.trans x5;replace y0 := y0.ext x5;refine GoR.alloc rfl rfl rfl zt79 rfl rfl fun h6 x6 f6 => ?_;have := e0.1;have := f4.1;have := f2.1;have := f3.1;have := f0.1;have := f1.1;replace f4 := f4.ext x6;replace f2 := f2.ext x6;replace f3 := f3.ext x6;replace f0 := f0.ext x6;replace f1 := f1.ext x6;replace e0 := e0.trans x6;replace y0 := y0.ext x6;have := f6.1;refine GoR.store rfl rfl rfl rfl rfl rfl f6 rfl sz79 rfl rfl rfl fun h7 u7 => ?_;replace f6 := u7.has f6;replace f4 := f4.upd u7 (by omega);replace f2 := f2.upd u7 (by omega);replace f3 := f3.upd u7 (by omega);replace f0 := f0.upd u7 (by omega);replace f1 := f1.upd u7 (by omega);replace e0 := e0.upd u7 (by omega);replace y0 := y0.upd u7 (.inr (by omega));apply gE;apply gS;refine gR rfl ?_;refine gO rfl rfl (ld68 rfl f4 rfl) rfl ?_;refine gO rfl rfl (ld3 rfl f1 rfl) rfl ?_;refine GoR.call rfl rfl (aCF aFunc39 rfl) (hd1 _ (A.ext e0) c1) ?_ np;rintro v8 h8 ⟨q, x8⟩;cases q;refine ⟨_, rfl, ?_⟩;replace f6 := f6.ext x8;replace f4 := f4.ext x8;replace f2 := f2.ext x8;replace f3 := f3.ext x8;replace f0 := f0.ext x8;replace f1 := f1.ext x8;replace e0 := e0.trans x8;replace y0 := y0.ext x8;apply gE;refine Go.seq noJ_ok (Go.join (fun bb : Nat => [(1, .ptr b0 0), (2, .ptr b1 0), (3, .ptr br 0), (4, .ptr bs 0), (5, .ptr h.next 0), (6, .ptr h5.next 0), (7, .ptr bb 0)]) (fun bb h' => Ext h h' ∧ ExtF (fun b => b = br ∨ b = bs) h h' ∧ h.next ≤ bb ∧ Has h' h5.next (.cells .plain [.int .i64 x.lo, .int .i64 x.hi, .int .i64 x.per, .int .i64 x.room] 79) ∧ Has h' bb (.cells .plain [.int .i64 W.1, .int .i64 W.2] 77) ∧ Has h' br (.cells .plain [.int .i64 0] 3) ∧ Has h' bs (.cells .plain [.int .i64 0] 3)) ?_ ?_)
    ·intro k' done
     refine alts57a ?_ ?_ ?_
     ·intro pl hpl
      rw [pl57a_1_3_4] at hpl;cases hpl;refine gQ rfl rfl (ld68 rfl f4 rfl) rfl ?_;refine gQ rfl rfl (ld3 rfl f1 rfl) rfl ?_;refine GoE.call rfl rfl (aCF aFunc36 rfl) (ht1 _ (A.ext e0) c2) (dK 1 2 (dD 1 0 rfl)) ?_ (by rintro _ _ ⟨bm, q, _, hbm, KK⟩; cases q);rintro v9 h9 ⟨bm, q, x9, hbm, KK⟩;cases q;have := e0.1;have := f6.1;have := f4.1;have := f2.1;have := f3.1;have := f0.1;have := f1.1;replace f6 := f6.ext x9;replace f4 := f4.ext x9;replace f2 := f2.ext x9;replace f3 := f3.ext x9;replace f0 := f0.ext x9;replace f1 := f1.ext x9;replace e0 := e0.trans x9;replace y0 := y0.ext x9;refine ⟨(rck (h2 := h9) rfl (ld3 rfl f1 rfl) recheck_nil), _, rfl, ?_⟩;refine GoE.call rfl rfl (aCF aFunc40 rfl) (hat _ _ (by first | assumption | exact KK.ext (by assumption))) (dD 7 2 rfl) ?_ np;rintro v10 h10 ⟨q, x10⟩;cases q;replace f6 := f6.ext x10;replace f4 := f4.ext x10;replace f2 := f2.ext x10;replace f3 := f3.ext x10;replace f0 := f0.ext x10;replace f1 := f1.ext x10;replace e0 := e0.trans x10;replace y0 := y0.ext x10;refine ⟨recheck_nil, _, rfl, ?_⟩;refine GoE.alloc rfl rfl zt77 rfl rfl rfl fun h11 x11 f11 => ?_;have := e0.1;have := f6.1;have := f4.1;have := f2.1;have := f3.1;have := f0.1;have := f1.1;replace f6 := f6.ext x11;replace f4 := f4.ext x11;replace f2 := f2.ext x11;replace f3 := f3.ext x11;replace f0 := f0.ext x11;replace f1 := f1.ext x11;replace e0 := e0.trans x11;replace y0 := y0.ext x11;have := f11.1;refine ⟨recheck_nil, ?_⟩;refine GoE.store rfl rfl rfl rfl rfl rfl rfl f11 rfl sz77 rfl rfl rfl fun h12 u12 => ?_;replace f11 := u12.has f11;replace f6 := f6.upd u12 (by omega);replace f4 := f4.upd u12 (by omega);replace f2 := f2.upd u12 (by omega);replace f3 := f3.upd u12 (by omega);replace f0 := f0.upd u12 (by omega);replace f1 := f1.upd u12 (by omega);replace e0 := e0.upd u12 (by omega);replace y0 := y0.upd u12 (.inr (by omega));refine ⟨recheck_nil, ?_⟩;refine GoE.end rfl ?_;exact done _ _ _ ⟨rfl, rfl, rfl, rfl, rfl, rfl, rfl, trivial⟩ ⟨e0, y0, by omega, by assumption, by assumption, f2, f3⟩
     ·intro pl hpl
      rw [pl57a_1_4_3] at hpl;cases hpl;refine gQ rfl rfl (ld68 rfl f4 rfl) rfl ?_;refine gQ rfl rfl (ld3 rfl f1 rfl) rfl ?_;refine GoE.call rfl rfl (aCF aFunc36 rfl) (ht1 _ (A.ext e0) c2) (dK 1 2 (dD 1 0 rfl)) ?_ (by rintro _ _ ⟨bm, q, _, hbm, KK⟩; cases q);rintro v9 h9 ⟨bm, q, x9, hbm, KK⟩;cases q;have := e0.1;have := f6.1;have := f4.1;have := f2.1;have := f3.1;have := f0.1;have := f1.1;replace f6 := f6.ext x9;replace f4 := f4.ext x9;replace f2 := f2.ext x9;replace f3 := f3.ext x9;replace f0 := f0.ext x9;replace f1 := f1.ext x9;replace e0 := e0.trans x9;replace y0 := y0.ext x9;refine ⟨(rck (h2 := h9) rfl (ld3 rfl f1 rfl) recheck_nil), _, rfl, ?_⟩;refine GoE.alloc rfl rfl zt77 (dK 3 2 rfl) rfl rfl fun h10 x10 f10 => ?_;have := e0.1;have := f6.1;have := f4.1;have := f2.1;have := f3.1;have := f0.1;have := f1.1;replace f6 := f6.ext x10;replace f4 := f4.ext x10;replace f2 := f2.ext x10;replace f3 := f3.ext x10;replace f0 := f0.ext x10;replace f1 := f1.ext x10;replace e0 := e0.trans x10;replace y0 := y0.ext x10;have := f10.1;refine ⟨(rck (h2 := h10) rfl (ld3 rfl f1 rfl) recheck_nil), ?_⟩;refine GoE.call rfl rfl (aCF aFunc40 rfl) (hat _ _ (by first | assumption | exact KK.ext (by assumption))) (dD 23 2 rfl) ?_ np;rintro v11 h11 ⟨q, x11⟩;cases q;replace f10 := f10.ext x11;replace f6 := f6.ext x11;replace f4 := f4.ext x11;replace f2 := f2.ext x11;replace f3 := f3.ext x11;replace f0 := f0.ext x11;replace f1 := f1.ext x11;replace e0 := e0.trans x11;replace y0 := y0.ext x11;refine ⟨recheck_nil, _, rfl, ?_⟩;refine GoE.store rfl rfl rfl rfl rfl rfl rfl f10 rfl sz77 rfl rfl rfl fun h12 u12 => ?_;replace f10 := u12.has f10;replace f6 := f6.upd u12 (by omega);replace f4 := f4.upd u12 (by omega);replace f2 := f2.upd u12 (by omega);replace f3 := f3.upd u12 (by omega);replace f0 := f0.upd u12 (by omega);replace f1 := f1.upd u12 (by omega);replace e0 := e0.upd u12 (by omega);replace y0 := y0.upd u12 (.inr (by omega));refine ⟨recheck_nil, ?_⟩;refine GoE.end rfl ?_;exact done _ _ _ ⟨rfl, rfl, rfl, rfl, rfl, rfl, rfl, trivial⟩ ⟨e0, y0, by omega, by assumption, by assumption, f2, f3⟩
     ·intro pl hpl
      rw [pl57a_4_1_3] at hpl;cases hpl;refine gQ rfl rfl (ld68 rfl f4 rfl) rfl ?_;refine gQ rfl rfl (ld3 rfl f1 rfl) rfl ?_;refine GoE.alloc rfl rfl zt77 (dK 0 2 (dK 0 0 rfl)) rfl rfl fun h9 x9 f9 => ?_;have := e0.1;have := f6.1;have := f4.1;have := f2.1;have := f3.1;have := f0.1;have := f1.1;replace f6 := f6.ext x9;replace f4 := f4.ext x9;replace f2 := f2.ext x9;replace f3 := f3.ext x9;replace f0 := f0.ext x9;replace f1 := f1.ext x9;replace e0 := e0.trans x9;replace y0 := y0.ext x9;have := f9.1;refine ⟨(rck (h2 := h9) rfl (ld3 rfl f1 rfl) (rck (h2 := h9) rfl (ld68 rfl f4 rfl) recheck_nil)), ?_⟩;refine GoE.call rfl rfl (aCF aFunc36 rfl) (ht1 _ (A.ext e0) c2) (dK 17 2 (dD 17 0 rfl)) ?_ (by rintro _ _ ⟨bm, q, _, hbm, KK⟩; cases q);rintro v10 h10 ⟨bm, q, x10, hbm, KK⟩;cases q;have := e0.1;have := f9.1;have := f6.1;have := f4.1;have := f2.1;have := f3.1;have := f0.1;have := f1.1;replace f9 := f9.ext x10;replace f6 := f6.ext x10;replace f4 := f4.ext x10;replace f2 := f2.ext x10;replace f3 := f3.ext x10;replace f0 := f0.ext x10;replace f1 := f1.ext x10;replace e0 := e0.trans x10;replace y0 := y0.ext x10;refine ⟨(rck (h2 := h10) rfl (ld3 rfl f1 rfl) recheck_nil), _, rfl, ?_⟩;refine GoE.call rfl rfl (aCF aFunc40 rfl) (hat _ _ (by first | assumption | exact KK.ext (by assumption))) (dD 23 2 rfl) ?_ np;rintro v11 h11 ⟨q, x11⟩;cases q;replace f9 := f9.ext x11;replace f6 := f6.ext x11;replace f4 := f4.ext x11;replace f2 := f2.ext x11;replace f3 := f3.ext x11;replace f0 := f0.ext x11;replace f1 := f1.ext x11;replace e0 := e0.trans x11;replace y0 := y0.ext x11;refine ⟨recheck_nil, _, rfl, ?_⟩;refine GoE.store rfl rfl rfl rfl rfl rfl rfl f9 rfl sz77 rfl rfl rfl fun h12 u12 => ?_;replace f9 := u12.has f9;replace f6 := f6.upd u12 (by omega);replace f4 := f4.upd u12 (by omega);replace f2 := f2.upd u12 (by omega);replace f3 := f3.upd u12 (by omega);replace f0 := f0.upd u12 (by omega);replace f1 := f1.upd u12 (by omega);replace e0 := e0.upd u12 (by omega);replace y0 := y0.upd u12 (.inr (by omega));refine ⟨recheck_nil, ?_⟩;refine GoE.end rfl ?_;exact done _ _ _ ⟨rfl, rfl, rfl, rfl, rfl, rfl, rfl, trivial⟩ ⟨e0, y0, by omega, by assumption, by assumption, f2, f3⟩
    ·clear y0 e0 f0 f1 f2 f3 f4;rintro b9 h9 ⟨e0, y0, hb9, f5, f9, f2, f3⟩
     have l29 := f2.1
     have l39 := f3.1
     have l59 := f5.1
     have l99 := f9.1
     refine Go.drawnE plan57_1 ?_;refine gQ rfl rfl (ld79 rfl f5 rfl) rfl ?_;refine gQ rfl rfl (ld77 rfl f9 rfl) rfl ?_;refine gQ rfl rfl rfl rfl ?_;refine gQ rfl rfl (ld79 rfl f5 rfl) rfl ?_;refine gQ rfl rfl (ld77 rfl f9 rfl) rfl ?_;refine gQ rfl rfl rfl rfl ?_;refine GoE.call rfl rfl (aCF aFunc58 rfl) (hm1 _) (dK 7 6 (dK 7 5 (dK 7 4 (dD 7 2 (dD 7 1 (dD 7 0 rfl)))))) ?_ np;rintro v10 h10 ⟨q, x10⟩;cases q;replace f5 := f5.ext x10;replace f9 := f9.ext x10;replace f2 := f2.ext x10;replace f3 := f3.ext x10;replace y0 := y0.ext x10;refine ⟨(rck (h2 := h10) rfl (rfl) (rck (h2 := h10) rfl (ld77 rfl f9 rfl) (rck (h2 := h10) rfl (ld79 rfl f5 rfl) recheck_nil))), _, rfl, ?_⟩;refine GoE.call rfl rfl (aCF aFunc58 rfl) (hm2 _) (dD 127 6 (dD 127 5 (dD 127 4 rfl))) ?_ np;rintro v11 h11 ⟨q, x11⟩;cases q;replace f2 := f2.ext x11;replace f3 := f3.ext x11;replace y0 := y0.ext x11;refine ⟨recheck_nil, _, rfl, ?_⟩;refine GoE.store rfl rfl rfl rfl rfl rfl rfl f2 rfl sz3 rfl rfl rfl fun h12 u12 => ?_;replace f2 := u12.has f2;replace f3 := f3.upd u12 (by omega);clear e0;replace y0 := y0.upd u12 (by omega);refine ⟨recheck_nil, ?_⟩;refine GoE.store rfl rfl rfl rfl rfl rfl rfl f3 rfl sz3 rfl rfl rfl fun h13 u13 => ?_;replace f2 := f2.upd u13 (by omega);replace f3 := u13.has f3;replace y0 := y0.upd u13 (by omega);refine ⟨recheck_nil, ?_⟩;refine GoE.end rfl ?_;exact Go.endL (FLeft.ret (v := .tuple []) (aResult_of Try.func57 rfl rfl) ⟨y0, ⟨f2, f3⟩, .inl ⟨rfl, rfl⟩⟩)
  ·rw [CutV.day_no c1]
   unfold zSp
   unfold CutV.cells at *
   try unfold BV.cells at *
   try unfold spC at *
   have e0 : Ext h h := Ext.refl _
   refine Runs.intro aFunc57 rfl rfl rfl rfl fun rest => ?_;apply gS;refine gR rfl ?_;refine GoR.box rfl rfl rfl rfl rfl rfl fun h4 x4 f4 => ?_;have := e0.1;have := f1.1;have := f2.1;have := f3.1;have := f0.1;replace f1 := f1.ext x4;replace f2 := f2.ext x4;replace f3 := f3.ext x4;replace f0 := f0.ext x4;replace e0 := e0.trans x4;replace y0 := y0.ext x4;have := f4.1;apply gE;apply gS;refine gR rfl ?_;refine gO rfl rfl (ld68 rfl f4 rfl) rfl ?_;refine gO rfl rfl (ld3 rfl f0 rfl) rfl ?_;refine GoR.call rfl rfl (aCF aFunc42 rfl) (hv1 _ (A.ext e0) i x hx) ?_ np;rintro v5 h5 ⟨q, x5⟩;cases q;refine ⟨_, rfl, ?_⟩;replace f4 := f4.ext x5;replace f1 := f1.ext x5;replace f2 := f2.ext x5;replace f3 := f3.ext x5;replace f0 := f0.ext x5;replace e0 := e0.trans x5;replace y0 := y0.ext x5;refine GoR.alloc rfl rfl rfl zt79 rfl rfl fun h6 x6 f6 => ?_;have := e0.1;have := f4.1;have := f1.1;have := f2.1;have := f3.1;have := f0.1;replace f4 := f4.ext x6;replace f1 := f1.ext x6;replace f2 := f2.ext x6;replace f3 := f3.ext x6;replace e0 := e0.trans x6;replace y0 := y0.ext x6;have := f6.1;refine GoR.store rfl rfl rfl rfl rfl rfl f6 rfl sz79 rfl rfl rfl fun h7 u7 => ?_;replace f4 := f4.upd u7 (by omega);replace f1 := f1.upd u7 (by omega);replace f2 := f2.upd u7 (by omega);replace f3 := f3.upd u7 (by omega);replace e0 := e0.upd u7 (by omega);replace y0 := y0.upd u7 (.inr (by omega));apply gE;apply gS;refine gR rfl ?_;refine gO rfl rfl (ld68 rfl f4 rfl) rfl ?_;refine gO rfl rfl (ld3 rfl f1 rfl) rfl ?_;refine GoR.callP rfl rfl (aCF aFunc39 rfl) (hd2 _ (A.ext e0) c1) (by rintro _ _ ⟨q, _⟩; cases q) ?_;rintro chain h8 ⟨q, x8⟩
   have q := AEnd.pan.inj q
   subst q;replace f2 := f2.ext x8;replace f3 := f3.ext x8;replace y0 := y0.ext x8;exact FLeft.pan (⟨y0, ⟨f2, f3⟩, .inr rfl⟩)
 ·rw [CutV.boat_no c0]
  unfold zSp
  unfold CutV.cells at *
  try unfold BV.cells at *
  try unfold spC at *
  have e0 : Ext h h := Ext.refl _
  refine Runs.intro aFunc57 rfl rfl rfl rfl fun rest => ?_;apply gS;refine gR rfl ?_;refine GoR.box rfl rfl rfl rfl rfl rfl fun h4 x4 f4 => ?_;replace f0 := f0.ext x4;replace f2 := f2.ext x4;replace f3 := f3.ext x4;replace e0 := e0.trans x4;replace y0 := y0.ext x4;apply gE;apply gS;refine gR rfl ?_;refine gO rfl rfl (ld68 rfl f4 rfl) rfl ?_;refine gO rfl rfl (ld3 rfl f0 rfl) rfl ?_;refine GoR.callP rfl rfl (aCF aFunc42 rfl) (hv2 _ (A.ext e0) c0) (by rintro _ _ ⟨q, _⟩; cases q) ?_;rintro chain h5 ⟨q, x5⟩
  have q := AEnd.pan.inj q
  subst q;replace f2 := f2.ext x5;replace f3 := f3.ext x5;replace y0 := y0.ext x5;exact FLeft.pan (⟨y0, ⟨f2, f3⟩, .inr rfl⟩)
end Go.Proofs.Yteibheeleeengaa
