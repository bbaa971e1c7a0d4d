import Derived.Test.YtkhiagdmbajimaaMAN
import Derived.Test.YtkhiagdmbajimaaMAG
namespace Go.Proofs.Ytkhiagdmbajimaa
open Go Go.AbsE
set_option linter.unusedSimpArgs false
set_option maxRecDepth 100000
set_option maxHeartbeats 0
set_option linter.unusedVariables false
theorem attempt_is {D : DrainV} (O : D.Ok) (b d r s : AVal) (h : AH) (A : DrainAt h D b d r s) (W : FuncId) (fW : Func) (hfid : aFunc Try.prog W = some fW) (caps : List AVal) (hsm : sameA (.func (.func W) [] caps) (.func (.func W) [] caps) = true) (S : Nat → Prop) (hS : ∀ b, S b → b < h.next) (T : AH → Prop) (hT : ∀ h2 h', h2.next ≤ h'.next → (∀ b, b < h.next → h'.get b = h2.get b) → T h2 → T h') (code : Int)
  (hbody : ∀ h', Ext h h' → Runs Try.prog W ([.agg (dC b d r s)] ++ caps) h' (fun en h'' => ExtF S h' h'' ∧ T h'' ∧ ((code = 0 ∧ en = .ret (.tuple [])) ∨ en = .pan (refusal code)))) :
  Runs Try.prog 37 [.agg (dC b d r s), .func (.func W) [] caps] h (fun en h' => en = .ret (.int .i64 code) ∧ ExtF S h h' ∧ T h') :=
 (attempt_ok O b d r s h A W fW hfid caps hsm S hS (fun c h' => c = code ∧ T h') fun h' e => (hbody h' e).mono fun en h'' ⟨x, f, q⟩ => ⟨x, q.elim (fun q => .inl ⟨q.2, q.1.symm, f⟩) fun q => .inr ⟨code, q, rfl, f⟩⟩).mono
  fun en h' ⟨c, h2, q, ⟨hc, f⟩, x, le, same⟩ => ⟨by rw [q, hc], x, hT h2 h' le same f⟩
theorem nexts_ok {D : DrainV} (O : D.Ok) {KT : KV} {bm : Nat} {b : AVal} {h : AH} (hK : KT.map (fun x => x.1) = D.truths) (K : KnownAt D h bm b KT) (B : SliceOf h 4 b (D.bs.map BkV.cells)) {a : Nat} (ha : a < D.bs.length) :
  Runs Try.prog 41 [.map bm, .int .i64 a, .func (.func 42) [] []] h (fun en h' => en = .ret (.int .i64 ((D.nexts a : Nat) : Int)) ∧ Ext h h') := by
 have hnb := O.nb
 have hv : D.nexts a = setV (KT.map fun x => nx (D.course 0 x.1) a) := by
  unfold DrainV.nexts
  rw [← hK, List.map_map]
  rfl
 rw [hv];refine places_ok ⟨B.scal.1, B.same⟩ K aFunc42 _ (fun x hx => ?_) fun x h' hx e => ?_
 ·have := (known_course O hK K B hx).dn.le a (by rw [course_len]; omega)
  rw [course_len] at this
  omega
 ·exact next_ok B.scal (by rw [course_len]; omega) (by rw [course_len]; omega) ((known_course O hK K B hx).t.ext e)
theorem endsS_ok {D : DrainV} (O : D.Ok) {KT : KV} {bm : Nat} {b : AVal} {h : AH} (hK : KT.map (fun x => x.1) = D.truths) (K : KnownAt D h bm b KT) (B : SliceOf h 4 b (D.bs.map BkV.cells)) {a : Nat} (ha : a < D.bs.length) :
  Runs Try.prog 41 [.map bm, .int .i64 a, .func (.func 45) [] []] h (fun en h' => en = .ret (.int .i64 ((D.endsS a : Nat) : Int)) ∧ Ext h h') := by
 have hnb := O.nb
 have hv : D.endsS a = setV (KT.map fun x => endV (D.course 0 x.1) 21 a) := by
  unfold DrainV.endsS
  rw [← hK, List.map_map]
  rfl
 rw [hv];refine places_ok ⟨B.scal.1, B.same⟩ K aFunc45 _ (fun x hx => ?_) fun x h' hx e => ?_
 ·have := end_lt (known_course O hK K B hx).dn (f := 21) (a := a) (by rw [course_len]; omega)
  rw [course_len] at this
  omega
 ·have C := (known_course O hK K B hx).ext e
  exact end_ok C.dn C.len (by rw [C.len]; omega) (by rw [course_len]; omega) C.t C.b
theorem waters_ok {D : DrainV} (O : D.Ok) {KT : KV} {bm b0 : Nat} {b : AVal} {h : AH} (hK : KT.map (fun x => x.1) = D.truths) (K : KnownAt D h bm b KT) (B : SliceOf h 4 b (D.bs.map BkV.cells)) {a : Nat} (ha : a < D.bs.length) (f : Has h b0 (.cells .plain [.int .i64 a] 3)) :
  Runs Try.prog 47 [.map bm, .func (.func 48) [] [.ptr b0 0]] h (fun en h' => en = .ret (.agg (spC (D.waters a))) ∧ Ext h h') := by
 have hv : D.waters a = joinL (KT.map fun x => D.water (D.course 0 x.1) a) := by
  unfold DrainV.waters
  rw [← hK, List.map_map]
  rfl
 rw [hv];exact amount_ok ⟨B.scal.1, B.same⟩ K aFunc48 [.ptr b0 0] _ fun x h' hx e => waterC_ok O ((known_course O hK K B hx).ext e) (by rw [course_len]; omega) (f.ext e)
theorem needBank_yes {D : DrainV} {b d r s : AVal} {n : Int} {h : AH} (A : DrainAt h D b d r s) (B : DrainB D) (hq : 0 ≤ n ∧ n ≤ (D.bs.length : Int) - 1) : Runs Try.prog 39 [.agg (dC b d r s), .int .i64 n] h (fun en h' => en = .ret (.tuple []) ∧ Ext h h') := by
 have := needBank_ok (n := n) A B
 rw [if_pos hq] at this;exact this
theorem needBank_no {D : DrainV} {b d r s : AVal} {n : Int} {h : AH} (A : DrainAt h D b d r s) (B : DrainB D) (hq : ¬ (0 ≤ n ∧ n ≤ (D.bs.length : Int) - 1)) : Runs Try.prog 39 [.agg (dC b d r s), .int .i64 n] h (fun en h' => en = .pan (refusal 2) ∧ Ext h h') := by
 have := needBank_ok (n := n) A B
 rw [if_neg hq] at this;exact this
theorem needPair_yes {D : DrainV} {b d r s : AVal} {x y : Int} {h : AH} (A : DrainAt h D b d r s) (B : DrainB D) (hq : PairOk D.bs.length (x, y)) : Runs Try.prog 51 [.agg (dC b d r s), .int .i64 x, .int .i64 y] h (fun en h' => en = .ret (.tuple []) ∧ Ext h h') := by
 have := needPair_ok (x := x) (y := y) A B
 rw [if_pos hq] at this;exact this
theorem needPair_no {D : DrainV} {b d r s : AVal} {x y : Int} {h : AH} (A : DrainAt h D b d r s) (B : DrainB D) (hq : ¬ PairOk D.bs.length (x, y)) : Runs Try.prog 51 [.agg (dC b d r s), .int .i64 x, .int .i64 y] h (fun en h' => en = .pan (refusal 2) ∧ Ext h h') := by
 have := needPair_ok (x := x) (y := y) A B
 rw [if_neg hq] at this;exact this
def zSp : Int × Int := (0, 0)
def DrainV.tr {α : Type} (D : DrainV) (a z : α) : α × Int := if D.truths = [] then (z, 10) else (a, 0)
def DrainV.bankQ {α : Type} (D : DrainV) (n : Int) (k : α × Int) (z : α) : α × Int := if 0 ≤ n ∧ n ≤ (D.bs.length : Int) - 1 then k else (z, 2)
def DrainV.pairQ {α : Type} (D : DrainV) (x y : Int) (k : α × Int) (z : α) : α × Int := if PairOk D.bs.length (x, y) then k else (z, 2)
def DrainV.ok {α : Type} (D : DrainV) (k : α × Int) (z : α) : α × Int := if D.Ok then k else (z, 1)
def DrainV.digQ (D : DrainV) (x y : Nat) : Int × Int := if D.truths = [] then (0, 10) else if D.ds.length = 7 then (0, 9) else (D.keeps D.truths ((D.dug x y).course 0), 0)
def DrainV.clashQ (D : DrainV) : Int × Int := match clashV D with | some st => (((st : Nat) : Int), (0 : Int)) | none => (0, 4)
def DrainV.nextR (D : DrainV) (a : Int) : Int × Int := D.ok (D.bankQ a (D.tr ((D.nexts a.toNat : Nat) : Int) 0) 0) 0
def DrainV.endsR (D : DrainV) (a : Int) : Int × Int := D.ok (D.bankQ a (D.tr ((D.endsS a.toNat : Nat) : Int) 0) 0) 0
def DrainV.waterR (D : DrainV) (a : Int) : (Int × Int) × Int := D.ok (D.bankQ a (D.tr (D.waters a.toNat) zSp) zSp) zSp
def DrainV.flowR (D : DrainV) (x y : Int) : (Int × Int) × Int := D.ok (D.pairQ x y (D.tr (D.flow x.toNat y.toNat) zSp) zSp) zSp
def DrainV.breaksR (D : DrainV) : (Int × Int) × Int := D.ok (D.tr (((D.surely : Nat) : Int), ((D.perhaps : Nat) : Int)) zSp) zSp
def DrainV.digR (D : DrainV) (x y : Int) : Int × Int := D.ok (D.pairQ x y (D.digQ x.toNat y.toNat) 0) 0
def DrainV.stopR (D : DrainV) : (Int × Int) × Int := D.ok (D.tr (((popc (stopV D) : Nat) : Int), ((stopV D : Nat) : Int)) zSp) zSp
def DrainV.clashR (D : DrainV) : Int × Int := D.ok D.clashQ 0
theorem DrainV.ok_yes {α : Type} {D : DrainV} {k : α × Int} {z : α} (O : D.Ok) : D.ok k z = k := if_pos O
theorem DrainV.ok_no {α : Type} {D : DrainV} {k : α × Int} {z : α} (O : ¬ D.Ok) : D.ok k z = (z, 1) := if_neg O
theorem DrainV.tr_yes {α : Type} {D : DrainV} {a z : α} (h : D.truths ≠ []) : D.tr a z = (a, 0) := if_neg h
theorem DrainV.tr_no {α : Type} {D : DrainV} {a z : α} (h : D.truths = []) : D.tr a z = (z, 10) := if_pos h
theorem DrainV.bank_yes {α : Type} {D : DrainV} {n : Int} {k : α × Int} {z : α} (h : 0 ≤ n ∧ n ≤ (D.bs.length : Int) - 1) : D.bankQ n k z = k := if_pos h
theorem DrainV.bank_no {α : Type} {D : DrainV} {n : Int} {k : α × Int} {z : α} (h : ¬ (0 ≤ n ∧ n ≤ (D.bs.length : Int) - 1)) : D.bankQ n k z = (z, 2) := if_neg h
theorem DrainV.pair_yes {α : Type} {D : DrainV} {x y : Int} {k : α × Int} {z : α} (h : PairOk D.bs.length (x, y)) : D.pairQ x y k z = k := if_pos h
theorem DrainV.pair_no {α : Type} {D : DrainV} {x y : Int} {k : α × Int} {z : α} (h : ¬ PairOk D.bs.length (x, y)) : D.pairQ x y k z = (z, 2) := if_neg h
theorem stop_no {D : DrainV} (O : D.Ok) (hT : D.truths = []) {b d r s : AVal} {h : AH} (A : DrainAt h D b d r s) : Runs Try.prog 58 [.agg (dC b d r s)] h (fun en h' => en = .pan (refusal 10) ∧ Ext h h') := by
 have hsm := A.same
 have hsm1 := A.ds.same
 have hl2 := A.ds.len
 rw [List.length_map] at hl2
 have htn := fun h A => truths_no O hT (b := b) (d := d) (r := r) (s := s) (h := h) A
 unfold dC at *
 try unfold spC at *
 have e0 : Ext h h := Ext.refl _
 refine Runs.intro aFunc58 rfl rfl rfl rfl fun rest => ?_;apply gS;refine gR rfl ?_;refine GoR.box rfl rfl rfl rfl rfl rfl fun h0 x0 f0 => ?_;replace e0 := e0.trans x0;iterate 2 refine gP ?_
 apply gE;apply gS;refine gR rfl ?_;refine gO rfl rfl (ld71 rfl f0 rfl) rfl ?_;refine GoR.callP rfl rfl (aCF aFunc40 rfl) (htn _ (A.ext e0)) (by rintro _ _ ⟨q, _⟩; cases q) ?_;rintro chain h1 ⟨q, x1⟩
 have q := AEnd.pan.inj q
 subst q;replace e0 := e0.trans x1;exact FLeft.pan (⟨rfl, e0⟩)
theorem breaks_no {D : DrainV} (O : D.Ok) (hT : D.truths = []) {b d r s : AVal} {h : AH} (A : DrainAt h D b d r s) : Runs Try.prog 54 [.agg (dC b d r s)] h (fun en h' => en = .pan (refusal 10) ∧ Ext h h') := by
 have hsm := A.same
 have hsm1 := A.ds.same
 have hl2 := A.ds.len
 rw [List.length_map] at hl2
 have htn := fun h A => truths_no O hT (b := b) (d := d) (r := r) (s := s) (h := h) A
 unfold dC at *
 try unfold spC at *
 have e0 : Ext h h := Ext.refl _
 refine Runs.intro aFunc54 rfl rfl rfl rfl fun rest => ?_;apply gS;refine gR rfl ?_;refine GoR.box rfl rfl rfl rfl rfl rfl fun h0 x0 f0 => ?_;replace e0 := e0.trans x0;iterate 2 refine gP ?_
 apply gE;apply gS;refine gR rfl ?_;refine gO rfl rfl (ld71 rfl f0 rfl) rfl ?_;refine GoR.callP rfl rfl (aCF aFunc40 rfl) (htn _ (A.ext e0)) (by rintro _ _ ⟨q, _⟩; cases q) ?_;rintro chain h1 ⟨q, x1⟩
 have q := AEnd.pan.inj q
 subst q;replace e0 := e0.trans x1;exact FLeft.pan (⟨rfl, e0⟩)
theorem dig_no {D : DrainV} (O : D.Ok) (hT : D.truths = []) {b d r s : AVal} {x y : Nat} {h : AH} (A : DrainAt h D b d r s) : Runs Try.prog 56 [.agg (dC b d r s), .agg (spC ((x : Int), (y : Int)))] h (fun en h' => en = .pan (refusal 10) ∧ Ext h h') := by
 have hsm := A.same
 have hsm1 := A.ds.same
 have hl2 := A.ds.len
 rw [List.length_map] at hl2
 have htn := fun h A => truths_no O hT (b := b) (d := d) (r := r) (s := s) (h := h) A
 unfold dC at *
 try unfold spC at *
 have e0 : Ext h h := Ext.refl _
 refine Runs.intro aFunc56 rfl rfl rfl rfl fun rest => ?_;apply gS;refine gR rfl ?_;refine GoR.box rfl rfl rfl rfl rfl rfl fun h0 x0 f0 => ?_;replace e0 := e0.trans x0;refine GoR.box rfl rfl rfl rfl rfl rfl fun h1 x1 f1 => ?_;replace f0 := f0.ext x1;replace e0 := e0.trans x1;refine gP ?_;apply gE;apply gS;refine Go.drawnE plan56_0 ?_;refine gQ rfl rfl (ld71 rfl f0 rfl) rfl ?_;refine gQ rfl rfl (fa71_1 rfl) rfl ?_;refine gQ rfl rfl (ld26 rfl f0 rfl) rfl ?_;refine gQ rfl rfl (aOp_lenSlice Try.underlying26 rfl hl2) rfl ?_;refine GoE.callP rfl rfl (aCF aFunc40 rfl) (htn _ (A.ext e0)) rfl (by rintro _ _ ⟨q, _⟩; cases q) ?_;rintro chain h2 ⟨q, x2⟩
 have q := AEnd.pan.inj q
 subst q;replace e0 := e0.trans x2;exact FLeft.pan (⟨rfl, e0⟩)
theorem nextB0_ok {D : DrainV} (O : D.Ok) {b d r s : AVal} {a : Int} {b0 br : Nat} {h : AH} (A : DrainAt h D b d r s) (f0 : Has h b0 (.cells .plain [.int .i64 a] 3)) (f1 : Has h br (.cells .plain [.int .i64 0] 3)) (h0r : b0 ≠ br) :
  Runs Try.prog 38 [.agg (dC b d r s), .ptr b0 0, .ptr br 0] h (fun en h'' => ExtF (fun x => x = br) h h'' ∧ Has h'' br (.cells .plain [.int .i64 (D.bankQ a (D.tr ((D.nexts a.toNat : Nat) : Int) 0) 0).1] 3) ∧ (((D.bankQ a (D.tr ((D.nexts a.toNat : Nat) : Int) 0) 0).2 = 0 ∧ en = .ret (.tuple [])) ∨ en = .pan (refusal (D.bankQ a (D.tr ((D.nexts a.toNat : Nat) : Int) 0) 0).2))) := by
 have hnb := O.nb
 have y0 : ExtF (fun x => x = br) h h := ExtF.of (Ext.refl _)
 have hsm := A.same
 have l0 := f0.1
 have l1 := f1.1
 have htr := fun h A c => truths_yes O c (b := b) (d := d) (r := r) (s := s) (h := h) A
 have htn := fun h A c => truths_no O c (b := b) (d := d) (r := r) (s := s) (h := h) A
 by_cases c1 : 0 ≤ a ∧ a ≤ (D.bs.length : Int) - 1
 ·rw [DrainV.bank_yes c1]
  have hnd := fun h A => needBank_yes (D := D) (b := b) (d := d) (r := r) (s := s) (h := h) A O.B c1
  obtain ⟨a, rfl⟩ := Int.eq_ofNat_of_zero_le c1.1
  rw [Int.toNat_natCast]
  have hpl := fun {h' : AH} {bm : Nat} {KT : KV} (e : Ext h h') (hK : KT.map (fun x => x.1) = D.truths) (K : KnownAt D h' bm b KT) => nexts_ok O hK K (A.bs.ext e) (a := a) (by omega)
  obtain ⟨w, hw⟩ : ∃ w, D.nexts a = w := ⟨_, rfl⟩
  rw [hw] at hpl ⊢
  by_cases c2 : D.truths = []
  ·rw [DrainV.tr_no c2]
   try unfold zSp at *
   unfold dC at *
   try unfold spC at *
   have e0 : Ext h h := Ext.refl _
   refine Runs.intro aFunc38 rfl rfl rfl rfl fun rest => ?_;apply gS;refine gR rfl ?_;refine GoR.box rfl rfl rfl rfl rfl rfl fun h2 x2 f2 => ?_;replace f1 := f1.ext x2;replace f0 := f0.ext x2;replace e0 := e0.trans x2;replace y0 := y0.ext x2;apply gE;apply gS;refine gR rfl ?_;refine gO rfl rfl (ld71 rfl f2 rfl) rfl ?_;refine gO rfl rfl (ld3 rfl f0 rfl) rfl ?_;refine GoR.call rfl rfl (aCF aFunc39 rfl) (hnd _ (A.ext e0)) ?_ np;rintro v3 h3 ⟨q, x3⟩;cases q;refine ⟨_, rfl, ?_⟩;replace f2 := f2.ext x3;replace f1 := f1.ext x3;replace f0 := f0.ext x3;replace e0 := e0.trans x3;replace y0 := y0.ext x3;apply gE;refine Go.drawnE plan38_0 ?_;refine gQ rfl rfl (ld71 rfl f2 rfl) rfl ?_;refine gQ rfl rfl (ld3 rfl f0 rfl) rfl ?_;refine GoE.callP rfl rfl (aCF aFunc40 rfl) (htn _ (A.ext e0) c2) rfl (by rintro _ _ ⟨q, _⟩; cases q) ?_;rintro chain h4 ⟨q, x4⟩
   have q := AEnd.pan.inj q
   subst q;replace f1 := f1.ext x4;replace y0 := y0.ext x4;exact FLeft.pan (⟨y0, f1, .inr rfl⟩)
  ·rw [DrainV.tr_yes c2]
   unfold dC at *
   try unfold spC at *
   have e0 : Ext h h := Ext.refl _
   refine Runs.intro aFunc38 rfl rfl rfl rfl fun rest => ?_;apply gS;refine gR rfl ?_;refine GoR.box rfl rfl rfl rfl rfl rfl fun h2 x2 f2 => ?_;have := e0.1;have := f1.1;have := f0.1;replace f1 := f1.ext x2;replace f0 := f0.ext x2;replace e0 := e0.trans x2;replace y0 := y0.ext x2;have := f2.1;apply gE;apply gS;refine gR rfl ?_;refine gO rfl rfl (ld71 rfl f2 rfl) rfl ?_;refine gO rfl rfl (ld3 rfl f0 rfl) rfl ?_;refine GoR.call rfl rfl (aCF aFunc39 rfl) (hnd _ (A.ext e0)) ?_ np;rintro v3 h3 ⟨q, x3⟩;cases q;refine ⟨_, rfl, ?_⟩;replace f2 := f2.ext x3;replace f1 := f1.ext x3;replace f0 := f0.ext x3;replace e0 := e0.trans x3;replace y0 := y0.ext x3;apply gE;refine Go.drawnE plan38_0 ?_;refine gQ rfl rfl (ld71 rfl f2 rfl) rfl ?_;refine gQ rfl rfl (ld3 rfl f0 rfl) rfl ?_;refine GoE.call rfl rfl (aCF aFunc40 rfl) (htr _ (A.ext e0) c2) (dK 1 2 (dD 1 0 rfl)) ?_ (by rintro _ _ ⟨bm, KT, q, hKT, _, hbm, KK, e7⟩; cases q);rintro v4 h4 ⟨bm, KT, q, hKT, x4, hbm, KK, e7⟩;cases q;replace f1 := f1.ext x4;replace f0 := f0.ext x4;replace e0 := e0.trans x4;replace y0 := y0.ext x4;refine ⟨(rck (h2 := h4) rfl (ld3 rfl f0 rfl) recheck_nil), _, rfl, ?_⟩;refine GoE.call rfl rfl (aCF aFunc41 rfl) (hpl e0 hKT (KK.ext e7)) (dD 7 2 rfl) ?_ np;rintro v5 h5 ⟨q, x5⟩;cases q;replace f1 := f1.ext x5;replace y0 := y0.ext x5;refine ⟨recheck_nil, _, rfl, ?_⟩;refine GoE.store rfl rfl rfl rfl rfl rfl rfl f1 rfl sz3 rfl rfl rfl fun h6 u6 => ?_;replace f1 := u6.has f1;clear e7;clear e0;replace y0 := y0.upd u6 (.inl rfl);refine ⟨recheck_nil, ?_⟩;refine GoE.end rfl ?_;exact Go.endL (FLeft.ret (v := .tuple []) (aResult_of Try.func38 rfl rfl) ⟨y0, f1, .inl ⟨rfl, rfl⟩⟩)
 ·rw [DrainV.bank_no c1]
  have hnd := fun h A => needBank_no (D := D) (b := b) (d := d) (r := r) (s := s) (h := h) A O.B c1
  try unfold zSp at *
  unfold dC at *
  try unfold spC at *
  have e0 : Ext h h := Ext.refl _
  refine Runs.intro aFunc38 rfl rfl rfl rfl fun rest => ?_;apply gS;refine gR rfl ?_;refine GoR.box rfl rfl rfl rfl rfl rfl fun h2 x2 f2 => ?_;replace f0 := f0.ext x2;replace f1 := f1.ext x2;replace e0 := e0.trans x2;replace y0 := y0.ext x2;apply gE;apply gS;refine gR rfl ?_;refine gO rfl rfl (ld71 rfl f2 rfl) rfl ?_;refine gO rfl rfl (ld3 rfl f0 rfl) rfl ?_;refine GoR.callP rfl rfl (aCF aFunc39 rfl) (hnd _ (A.ext e0)) (by rintro _ _ ⟨q, _⟩; cases q) ?_;rintro chain h3 ⟨q, x3⟩
  have q := AEnd.pan.inj q
  subst q;replace f1 := f1.ext x3;replace y0 := y0.ext x3;exact FLeft.pan (⟨y0, f1, .inr rfl⟩)
theorem endsB0_ok {D : DrainV} (O : D.Ok) {b d r s : AVal} {a : Int} {b0 br : Nat} {h : AH} (A : DrainAt h D b d r s) (f0 : Has h b0 (.cells .plain [.int .i64 a] 3)) (f1 : Has h br (.cells .plain [.int .i64 0] 3)) (h0r : b0 ≠ br) :
  Runs Try.prog 44 [.agg (dC b d r s), .ptr b0 0, .ptr br 0] h (fun en h'' => ExtF (fun x => x = br) h h'' ∧ Has h'' br (.cells .plain [.int .i64 (D.bankQ a (D.tr ((D.endsS a.toNat : Nat) : Int) 0) 0).1] 3) ∧ (((D.bankQ a (D.tr ((D.endsS a.toNat : Nat) : Int) 0) 0).2 = 0 ∧ en = .ret (.tuple [])) ∨ en = .pan (refusal (D.bankQ a (D.tr ((D.endsS a.toNat : Nat) : Int) 0) 0).2))) := by
 have hnb := O.nb
 have y0 : ExtF (fun x => x = br) h h := ExtF.of (Ext.refl _)
 have hsm := A.same
 have l0 := f0.1
 have l1 := f1.1
 have htr := fun h A c => truths_yes O c (b := b) (d := d) (r := r) (s := s) (h := h) A
 have htn := fun h A c => truths_no O c (b := b) (d := d) (r := r) (s := s) (h := h) A
 by_cases c1 : 0 ≤ a ∧ a ≤ (D.bs.length : Int) - 1
 ·rw [DrainV.bank_yes c1]
  have hnd := fun h A => needBank_yes (D := D) (b := b) (d := d) (r := r) (s := s) (h := h) A O.B c1
  obtain ⟨a, rfl⟩ := Int.eq_ofNat_of_zero_le c1.1
  rw [Int.toNat_natCast]
  have hpl := fun {h' : AH} {bm : Nat} {KT : KV} (e : Ext h h') (hK : KT.map (fun x => x.1) = D.truths) (K : KnownAt D h' bm b KT) => endsS_ok O hK K (A.bs.ext e) (a := a) (by omega)
  obtain ⟨w, hw⟩ : ∃ w, D.endsS a = w := ⟨_, rfl⟩
  rw [hw] at hpl ⊢
  by_cases c2 : D.truths = []
  ·rw [DrainV.tr_no c2]
   try unfold zSp at *
   unfold dC at *
   try unfold spC at *
   have e0 : Ext h h := Ext.refl _
   refine Runs.intro aFunc44 rfl rfl rfl rfl fun rest => ?_;apply gS;refine gR rfl ?_;refine GoR.box rfl rfl rfl rfl rfl rfl fun h2 x2 f2 => ?_;replace f1 := f1.ext x2;replace f0 := f0.ext x2;replace e0 := e0.trans x2;replace y0 := y0.ext x2;apply gE;apply gS;refine gR rfl ?_;refine gO rfl rfl (ld71 rfl f2 rfl) rfl ?_;refine gO rfl rfl (ld3 rfl f0 rfl) rfl ?_;refine GoR.call rfl rfl (aCF aFunc39 rfl) (hnd _ (A.ext e0)) ?_ np;rintro v3 h3 ⟨q, x3⟩;cases q;refine ⟨_, rfl, ?_⟩;replace f2 := f2.ext x3;replace f1 := f1.ext x3;replace f0 := f0.ext x3;replace e0 := e0.trans x3;replace y0 := y0.ext x3;apply gE;refine Go.drawnE plan44_0 ?_;refine gQ rfl rfl (ld71 rfl f2 rfl) rfl ?_;refine gQ rfl rfl (ld3 rfl f0 rfl) rfl ?_;refine GoE.callP rfl rfl (aCF aFunc40 rfl) (htn _ (A.ext e0) c2) rfl (by rintro _ _ ⟨q, _⟩; cases q) ?_;rintro chain h4 ⟨q, x4⟩
   have q := AEnd.pan.inj q
   subst q;replace f1 := f1.ext x4;replace y0 := y0.ext x4;exact FLeft.pan (⟨y0, f1, .inr rfl⟩)
  ·rw [DrainV.tr_yes c2]
   unfold dC at *
   try unfold spC at *
   have e0 : Ext h h := Ext.refl _
   refine Runs.intro aFunc44 rfl rfl rfl rfl fun rest => ?_;apply gS;refine gR rfl ?_;refine GoR.box rfl rfl rfl rfl rfl rfl fun h2 x2 f2 => ?_;have := e0.1;have := f1.1;have := f0.1;replace f1 := f1.ext x2;replace f0 := f0.ext x2;replace e0 := e0.trans x2;replace y0 := y0.ext x2;have := f2.1;apply gE;apply gS;refine gR rfl ?_;refine gO rfl rfl (ld71 rfl f2 rfl) rfl ?_;refine gO rfl rfl (ld3 rfl f0 rfl) rfl ?_;refine GoR.call rfl rfl (aCF aFunc39 rfl) (hnd _ (A.ext e0)) ?_ np;rintro v3 h3 ⟨q, x3⟩;cases q;refine ⟨_, rfl, ?_⟩;replace f2 := f2.ext x3;replace f1 := f1.ext x3;replace f0 := f0.ext x3;replace e0 := e0.trans x3;replace y0 := y0.ext x3;apply gE;refine Go.drawnE plan44_0 ?_;refine gQ rfl rfl (ld71 rfl f2 rfl) rfl ?_;refine gQ rfl rfl (ld3 rfl f0 rfl) rfl ?_;refine GoE.call rfl rfl (aCF aFunc40 rfl) (htr _ (A.ext e0) c2) (dK 1 2 (dD 1 0 rfl)) ?_ (by rintro _ _ ⟨bm, KT, q, hKT, _, hbm, KK, e7⟩; cases q);rintro v4 h4 ⟨bm, KT, q, hKT, x4, hbm, KK, e7⟩;cases q;replace f1 := f1.ext x4;replace f0 := f0.ext x4;replace e0 := e0.trans x4;replace y0 := y0.ext x4;refine ⟨(rck (h2 := h4) rfl (ld3 rfl f0 rfl) recheck_nil), _, rfl, ?_⟩;refine GoE.call rfl rfl (aCF aFunc41 rfl) (hpl e0 hKT (KK.ext e7)) (dD 7 2 rfl) ?_ np;rintro v5 h5 ⟨q, x5⟩;cases q;replace f1 := f1.ext x5;replace y0 := y0.ext x5;refine ⟨recheck_nil, _, rfl, ?_⟩;refine GoE.store rfl rfl rfl rfl rfl rfl rfl f1 rfl sz3 rfl rfl rfl fun h6 u6 => ?_;replace f1 := u6.has f1;clear e7;clear e0;replace y0 := y0.upd u6 (.inl rfl);refine ⟨recheck_nil, ?_⟩;refine GoE.end rfl ?_;exact Go.endL (FLeft.ret (v := .tuple []) (aResult_of Try.func44 rfl rfl) ⟨y0, f1, .inl ⟨rfl, rfl⟩⟩)
 ·rw [DrainV.bank_no c1]
  have hnd := fun h A => needBank_no (D := D) (b := b) (d := d) (r := r) (s := s) (h := h) A O.B c1
  try unfold zSp at *
  unfold dC at *
  try unfold spC at *
  have e0 : Ext h h := Ext.refl _
  refine Runs.intro aFunc44 rfl rfl rfl rfl fun rest => ?_;apply gS;refine gR rfl ?_;refine GoR.box rfl rfl rfl rfl rfl rfl fun h2 x2 f2 => ?_;replace f0 := f0.ext x2;replace f1 := f1.ext x2;replace e0 := e0.trans x2;replace y0 := y0.ext x2;apply gE;apply gS;refine gR rfl ?_;refine gO rfl rfl (ld71 rfl f2 rfl) rfl ?_;refine gO rfl rfl (ld3 rfl f0 rfl) rfl ?_;refine GoR.callP rfl rfl (aCF aFunc39 rfl) (hnd _ (A.ext e0)) (by rintro _ _ ⟨q, _⟩; cases q) ?_;rintro chain h3 ⟨q, x3⟩
  have q := AEnd.pan.inj q
  subst q;replace f1 := f1.ext x3;replace y0 := y0.ext x3;exact FLeft.pan (⟨y0, f1, .inr rfl⟩)
theorem waterB0_ok {D : DrainV} (O : D.Ok) {b d r s : AVal} {a : Int} {b0 br : Nat} {h : AH} (A : DrainAt h D b d r s) (f0 : Has h b0 (.cells .plain [.int .i64 a] 3)) (f1 : Has h br (.cells .plain [.int .i64 0, .int .i64 0] 35)) (h0r : b0 ≠ br) :
  Runs Try.prog 46 [.agg (dC b d r s), .ptr b0 0, .ptr br 0] h (fun en h'' => ExtF (fun x => x = br) h h'' ∧ Has h'' br (.cells .plain (spC (D.bankQ a (D.tr (D.waters a.toNat) zSp) zSp).1) 35) ∧ (((D.bankQ a (D.tr (D.waters a.toNat) zSp) zSp).2 = 0 ∧ en = .ret (.tuple [])) ∨ en = .pan (refusal (D.bankQ a (D.tr (D.waters a.toNat) zSp) zSp).2))) := by
 have hnb := O.nb
 have y0 : ExtF (fun x => x = br) h h := ExtF.of (Ext.refl _)
 have hsm := A.same
 have l0 := f0.1
 have l1 := f1.1
 have htr := fun h A c => truths_yes O c (b := b) (d := d) (r := r) (s := s) (h := h) A
 have htn := fun h A c => truths_no O c (b := b) (d := d) (r := r) (s := s) (h := h) A
 by_cases c1 : 0 ≤ a ∧ a ≤ (D.bs.length : Int) - 1
 ·rw [DrainV.bank_yes c1]
  have hnd := fun h A => needBank_yes (D := D) (b := b) (d := d) (r := r) (s := s) (h := h) A O.B c1
  obtain ⟨a, rfl⟩ := Int.eq_ofNat_of_zero_le c1.1
  rw [Int.toNat_natCast]
  have hpl := fun {h' : AH} {bm : Nat} {KT : KV} (e : Ext h h') (hK : KT.map (fun x => x.1) = D.truths) (K : KnownAt D h' bm b KT) (f : Has h' b0 (.cells .plain [.int .i64 (a : Int)] 3)) => waters_ok O hK K (A.bs.ext e) (a := a) (by omega) f
  obtain ⟨w, hw⟩ : ∃ w, D.waters a = w := ⟨_, rfl⟩
  rw [hw] at hpl ⊢
  by_cases c2 : D.truths = []
  ·rw [DrainV.tr_no c2]
   try unfold zSp at *
   unfold dC at *
   try unfold spC at *
   have e0 : Ext h h := Ext.refl _
   refine Runs.intro aFunc46 rfl rfl rfl rfl fun rest => ?_;apply gS;refine gR rfl ?_;refine GoR.box rfl rfl rfl rfl rfl rfl fun h2 x2 f2 => ?_;replace f1 := f1.ext x2;replace f0 := f0.ext x2;replace e0 := e0.trans x2;replace y0 := y0.ext x2;apply gE;apply gS;refine gR rfl ?_;refine gO rfl rfl (ld71 rfl f2 rfl) rfl ?_;refine gO rfl rfl (ld3 rfl f0 rfl) rfl ?_;refine GoR.call rfl rfl (aCF aFunc39 rfl) (hnd _ (A.ext e0)) ?_ np;rintro v3 h3 ⟨q, x3⟩;cases q;refine ⟨_, rfl, ?_⟩;replace f2 := f2.ext x3;replace f1 := f1.ext x3;replace e0 := e0.trans x3;replace y0 := y0.ext x3;apply gE;refine gR rfl ?_;refine gO rfl rfl (ld71 rfl f2 rfl) rfl ?_;refine GoR.callP rfl rfl (aCF aFunc40 rfl) (htn _ (A.ext e0) c2) (by rintro _ _ ⟨q, _⟩; cases q) ?_;rintro chain h4 ⟨q, x4⟩
   have q := AEnd.pan.inj q
   subst q;replace f1 := f1.ext x4;replace y0 := y0.ext x4;exact FLeft.pan (⟨y0, f1, .inr rfl⟩)
  ·rw [DrainV.tr_yes c2]
   unfold dC at *
   try unfold spC at *
   have e0 : Ext h h := Ext.refl _
   refine Runs.intro aFunc46 rfl rfl rfl rfl fun rest => ?_;apply gS;refine gR rfl ?_;refine GoR.box rfl rfl rfl rfl rfl rfl fun h2 x2 f2 => ?_;replace f1 := f1.ext x2;replace f0 := f0.ext x2;replace e0 := e0.trans x2;replace y0 := y0.ext x2;apply gE;apply gS;refine gR rfl ?_;refine gO rfl rfl (ld71 rfl f2 rfl) rfl ?_;refine gO rfl rfl (ld3 rfl f0 rfl) rfl ?_;refine GoR.call rfl rfl (aCF aFunc39 rfl) (hnd _ (A.ext e0)) ?_ np;rintro v3 h3 ⟨q, x3⟩;cases q;refine ⟨_, rfl, ?_⟩;replace f2 := f2.ext x3;replace f1 := f1.ext x3;replace f0 := f0.ext x3;replace e0 := e0.trans x3;replace y0 := y0.ext x3;apply gE;refine gR rfl ?_;refine gO rfl rfl (ld71 rfl f2 rfl) rfl ?_;refine GoR.call rfl rfl (aCF aFunc40 rfl) (htr _ (A.ext e0) c2) ?_ (by rintro _ _ ⟨bm, KT, q, hKT, _, hbm, KK, e7⟩; cases q);rintro v4 h4 ⟨bm, KT, q, hKT, x4, hbm, KK, e7⟩;cases q;refine ⟨_, rfl, ?_⟩;replace f1 := f1.ext x4;replace f0 := f0.ext x4;replace e0 := e0.trans x4;replace y0 := y0.ext x4;refine gP ?_;refine GoR.call rfl rfl (aCF aFunc47 rfl) (hpl e0 hKT (KK.ext e7) f0) ?_ np;rintro v5 h5 ⟨q, x5⟩;cases q;refine ⟨_, rfl, ?_⟩;replace f1 := f1.ext x5;replace y0 := y0.ext x5;refine GoR.store rfl rfl rfl rfl rfl rfl f1 rfl sz35 rfl rfl rfl fun h6 u6 => ?_;replace f1 := u6.has f1;clear e7;clear e0;replace y0 := y0.upd u6 (.inl rfl);apply gE;exact Go.endL (FLeft.ret (v := .tuple []) (aResult_of Try.func46 rfl rfl) ⟨y0, f1, .inl ⟨rfl, rfl⟩⟩)
 ·rw [DrainV.bank_no c1]
  have hnd := fun h A => needBank_no (D := D) (b := b) (d := d) (r := r) (s := s) (h := h) A O.B c1
  try unfold zSp at *
  unfold dC at *
  try unfold spC at *
  have e0 : Ext h h := Ext.refl _
  refine Runs.intro aFunc46 rfl rfl rfl rfl fun rest => ?_;apply gS;refine gR rfl ?_;refine GoR.box rfl rfl rfl rfl rfl rfl fun h2 x2 f2 => ?_;replace f0 := f0.ext x2;replace f1 := f1.ext x2;replace e0 := e0.trans x2;replace y0 := y0.ext x2;apply gE;apply gS;refine gR rfl ?_;refine gO rfl rfl (ld71 rfl f2 rfl) rfl ?_;refine gO rfl rfl (ld3 rfl f0 rfl) rfl ?_;refine GoR.callP rfl rfl (aCF aFunc39 rfl) (hnd _ (A.ext e0)) (by rintro _ _ ⟨q, _⟩; cases q) ?_;rintro chain h3 ⟨q, x3⟩
  have q := AEnd.pan.inj q
  subst q;replace f1 := f1.ext x3;replace y0 := y0.ext x3;exact FLeft.pan (⟨y0, f1, .inr rfl⟩)
theorem flowB0_ok {D : DrainV} (O : D.Ok) {b d r s : AVal} {x y : Int} {b0 b1 br : Nat} {h : AH} (A : DrainAt h D b d r s) (f0 : Has h b0 (.cells .plain [.int .i64 x] 3)) (f1 : Has h b1 (.cells .plain [.int .i64 y] 3)) (f2 : Has h br (.cells .plain [.int .i64 0, .int .i64 0] 35)) (h0r : b0 ≠ br) (h1r : b1 ≠ br) :
  Runs Try.prog 50 [.agg (dC b d r s), .ptr b0 0, .ptr b1 0, .ptr br 0] h (fun en h'' => ExtF (fun x => x = br) h h'' ∧ Has h'' br (.cells .plain (spC (D.pairQ x y (D.tr (D.flow x.toNat y.toNat) zSp) zSp).1) 35) ∧ (((D.pairQ x y (D.tr (D.flow x.toNat y.toNat) zSp) zSp).2 = 0 ∧ en = .ret (.tuple [])) ∨ en = .pan (refusal (D.pairQ x y (D.tr (D.flow x.toNat y.toNat) zSp) zSp).2))) := by
 have hnb := O.nb
 have y0 : ExtF (fun x => x = br) h h := ExtF.of (Ext.refl _)
 have hsm := A.same
 have l0 := f0.1
 have l1 := f1.1
 have l2 := f2.1
 have htr := fun h A c => truths_yes O c (b := b) (d := d) (r := r) (s := s) (h := h) A
 have htn := fun h A c => truths_no O c (b := b) (d := d) (r := r) (s := s) (h := h) A
 by_cases c1 : PairOk D.bs.length (x, y)
 ·rw [DrainV.pair_yes c1]
  have hnd := fun h A => needPair_yes (D := D) (b := b) (d := d) (r := r) (s := s) (h := h) A O.B c1
  have c1' := c1
  unfold PairOk at c1'
  dsimp only at c1'
  obtain ⟨x, rfl⟩ := Int.eq_ofNat_of_zero_le c1'.1.1
  obtain ⟨y, rfl⟩ := Int.eq_ofNat_of_zero_le c1'.2.1.1
  rw [Int.toNat_natCast, Int.toNat_natCast]
  have hpl := fun {h' : AH} {bm : Nat} {KT : KV} (e : Ext h h') (hK : KT.map (fun x => x.1) = D.truths) (K : KnownAt D h' bm b KT) => flow_ok O hK K (A.bs.ext e) (a := x) (to := y) (by omega) (by omega)
  obtain ⟨w, hw⟩ : ∃ w, D.flow x y = w := ⟨_, rfl⟩
  rw [hw] at hpl ⊢
  by_cases c2 : D.truths = []
  ·rw [DrainV.tr_no c2]
   unfold zSp at *
   unfold dC at *
   unfold spC at *
   have e0 : Ext h h := Ext.refl _
   refine Runs.intro aFunc50 rfl rfl rfl rfl fun rest => ?_;apply gS;refine gR rfl ?_;refine GoR.box rfl rfl rfl rfl rfl rfl fun h3 x3 f3 => ?_;replace f2 := f2.ext x3;replace f0 := f0.ext x3;replace f1 := f1.ext x3;replace e0 := e0.trans x3;replace y0 := y0.ext x3;apply gE;apply gS;refine gR rfl ?_;refine gO rfl rfl (ld71 rfl f3 rfl) rfl ?_;refine gO rfl rfl (ld3 rfl f0 rfl) rfl ?_;refine gO rfl rfl (ld3 rfl f1 rfl) rfl ?_;refine GoR.call rfl rfl (aCF aFunc51 rfl) (hnd _ (A.ext e0)) ?_ np;rintro v4 h4 ⟨q, x4⟩;cases q;refine ⟨_, rfl, ?_⟩;replace f3 := f3.ext x4;replace f2 := f2.ext x4;replace f0 := f0.ext x4;replace f1 := f1.ext x4;replace e0 := e0.trans x4;replace y0 := y0.ext x4;apply gE;refine Go.drawnE plan50_0 ?_;refine gQ rfl rfl (ld71 rfl f3 rfl) rfl ?_;refine gQ rfl rfl (ld3 rfl f0 rfl) rfl ?_;refine gQ rfl rfl (ld3 rfl f1 rfl) rfl ?_;refine GoE.callP rfl rfl (aCF aFunc40 rfl) (htn _ (A.ext e0) c2) rfl (by rintro _ _ ⟨q, _⟩; cases q) ?_;rintro chain h5 ⟨q, x5⟩
   have q := AEnd.pan.inj q
   subst q;replace f2 := f2.ext x5;replace y0 := y0.ext x5;exact FLeft.pan (⟨y0, f2, .inr rfl⟩)
  ·rw [DrainV.tr_yes c2]
   unfold dC at *
   unfold spC at *
   have e0 : Ext h h := Ext.refl _
   refine Runs.intro aFunc50 rfl rfl rfl rfl fun rest => ?_;apply gS;refine gR rfl ?_;refine GoR.box rfl rfl rfl rfl rfl rfl fun h3 x3 f3 => ?_;have := e0.1;have := f2.1;have := f0.1;have := f1.1;replace f2 := f2.ext x3;replace f0 := f0.ext x3;replace f1 := f1.ext x3;replace e0 := e0.trans x3;replace y0 := y0.ext x3;have := f3.1;apply gE;apply gS;refine gR rfl ?_;refine gO rfl rfl (ld71 rfl f3 rfl) rfl ?_;refine gO rfl rfl (ld3 rfl f0 rfl) rfl ?_;refine gO rfl rfl (ld3 rfl f1 rfl) rfl ?_;refine GoR.call rfl rfl (aCF aFunc51 rfl) (hnd _ (A.ext e0)) ?_ np;rintro v4 h4 ⟨q, x4⟩;cases q;refine ⟨_, rfl, ?_⟩;replace f3 := f3.ext x4;replace f2 := f2.ext x4;replace f0 := f0.ext x4;replace f1 := f1.ext x4;replace e0 := e0.trans x4;replace y0 := y0.ext x4;apply gE;refine Go.drawnE plan50_0 ?_;refine gQ rfl rfl (ld71 rfl f3 rfl) rfl ?_;refine gQ rfl rfl (ld3 rfl f0 rfl) rfl ?_;refine gQ rfl rfl (ld3 rfl f1 rfl) rfl ?_;refine GoE.call rfl rfl (aCF aFunc40 rfl) (htr _ (A.ext e0) c2) (dK 1 3 (dK 1 2 (dD 1 0 rfl))) ?_ (by rintro _ _ ⟨bm, KT, q, hKT, _, hbm, KK, e7⟩; cases q);rintro v5 h5 ⟨bm, KT, q, hKT, x5, hbm, KK, e7⟩;cases q;replace f2 := f2.ext x5;replace f0 := f0.ext x5;replace f1 := f1.ext x5;replace e0 := e0.trans x5;replace y0 := y0.ext x5;refine ⟨(rck (h2 := h5) rfl (ld3 rfl f1 rfl) (rck (h2 := h5) rfl (ld3 rfl f0 rfl) recheck_nil)), _, rfl, ?_⟩;refine GoE.call rfl rfl (aCF aFunc52 rfl) (hpl e0 hKT (KK.ext e7)) (dD 15 3 (dD 15 2 rfl)) ?_ np;rintro v6 h6 ⟨q, x6⟩;cases q;replace f2 := f2.ext x6;replace y0 := y0.ext x6;refine ⟨recheck_nil, _, rfl, ?_⟩;refine GoE.store rfl rfl rfl rfl rfl rfl rfl f2 rfl sz35 rfl rfl rfl fun h7 u7 => ?_;replace f2 := u7.has f2;clear e7;clear e0;replace y0 := y0.upd u7 (.inl rfl);refine ⟨recheck_nil, ?_⟩;refine GoE.end rfl ?_;exact Go.endL (FLeft.ret (v := .tuple []) (aResult_of Try.func50 rfl rfl) ⟨y0, f2, .inl ⟨rfl, rfl⟩⟩)
 ·rw [DrainV.pair_no c1]
  have hnd := fun h A => needPair_no (D := D) (b := b) (d := d) (r := r) (s := s) (h := h) A O.B c1
  try unfold zSp at *
  unfold dC at *
  try unfold spC at *
  have e0 : Ext h h := Ext.refl _
  refine Runs.intro aFunc50 rfl rfl rfl rfl fun rest => ?_;apply gS;refine gR rfl ?_;refine GoR.box rfl rfl rfl rfl rfl rfl fun h3 x3 f3 => ?_;replace f0 := f0.ext x3;replace f1 := f1.ext x3;replace f2 := f2.ext x3;replace e0 := e0.trans x3;replace y0 := y0.ext x3;apply gE;apply gS;refine gR rfl ?_;refine gO rfl rfl (ld71 rfl f3 rfl) rfl ?_;refine gO rfl rfl (ld3 rfl f0 rfl) rfl ?_;refine gO rfl rfl (ld3 rfl f1 rfl) rfl ?_;refine GoR.callP rfl rfl (aCF aFunc51 rfl) (hnd _ (A.ext e0)) (by rintro _ _ ⟨q, _⟩; cases q) ?_;rintro chain h4 ⟨q, x4⟩
  have q := AEnd.pan.inj q
  subst q;replace f2 := f2.ext x4;replace y0 := y0.ext x4;exact FLeft.pan (⟨y0, f2, .inr rfl⟩)
theorem digB0_ok {D : DrainV} (O : D.Ok) {b d r s : AVal} {x y : Int} {b0 b1 br : Nat} {h : AH} (A : DrainAt h D b d r s) (f0 : Has h b0 (.cells .plain [.int .i64 x] 3)) (f1 : Has h b1 (.cells .plain [.int .i64 y] 3)) (f2 : Has h br (.cells .plain [.int .i64 0] 3)) (h0r : b0 ≠ br) (h1r : b1 ≠ br) :
  Runs Try.prog 55 [.agg (dC b d r s), .ptr b0 0, .ptr b1 0, .ptr br 0] h (fun en h'' => ExtF (fun x => x = br) h h'' ∧ Has h'' br (.cells .plain [.int .i64 (D.pairQ x y (D.digQ x.toNat y.toNat) 0).1] 3) ∧ (((D.pairQ x y (D.digQ x.toNat y.toNat) 0).2 = 0 ∧ en = .ret (.tuple [])) ∨ en = .pan (refusal (D.pairQ x y (D.digQ x.toNat y.toNat) 0).2))) := by
 have hnb := O.nb
 have y0 : ExtF (fun x => x = br) h h := ExtF.of (Ext.refl _)
 have hsm := A.same
 have l0 := f0.1
 have l1 := f1.1
 have l2 := f2.1
 have htr := fun h A c => truths_yes O c (b := b) (d := d) (r := r) (s := s) (h := h) A
 have htn := fun h A c => truths_no O c (b := b) (d := d) (r := r) (s := s) (h := h) A
 by_cases c1 : PairOk D.bs.length (x, y)
 ·rw [DrainV.pair_yes c1]
  have hnd := fun h A => needPair_yes (D := D) (b := b) (d := d) (r := r) (s := s) (h := h) A O.B c1
  have c1' := c1
  unfold PairOk at c1'
  dsimp only at c1'
  obtain ⟨x, rfl⟩ := Int.eq_ofNat_of_zero_le c1'.1.1
  obtain ⟨y, rfl⟩ := Int.eq_ofNat_of_zero_le c1'.2.1.1
  rw [Int.toNat_natCast, Int.toNat_natCast]
  unfold DrainV.digQ
  by_cases c2 : D.truths = []
  ·rw [if_pos c2]
   have hdn := fun h A => dig_no O c2 (b := b) (d := d) (r := r) (s := s) (x := x) (y := y) (h := h) A
   unfold dC at *
   unfold spC at *
   have e0 : Ext h h := Ext.refl _
   refine Runs.intro aFunc55 rfl rfl rfl rfl fun rest => ?_;apply gS;refine gR rfl ?_;refine GoR.box rfl rfl rfl rfl rfl rfl fun h3 x3 f3 => ?_;replace f2 := f2.ext x3;replace f0 := f0.ext x3;replace f1 := f1.ext x3;replace e0 := e0.trans x3;replace y0 := y0.ext x3;apply gE;apply gS;refine gR rfl ?_;refine gO rfl rfl (ld71 rfl f3 rfl) rfl ?_;refine gO rfl rfl (ld3 rfl f0 rfl) rfl ?_;refine gO rfl rfl (ld3 rfl f1 rfl) rfl ?_;refine GoR.call rfl rfl (aCF aFunc51 rfl) (hnd _ (A.ext e0)) ?_ np;rintro v4 h4 ⟨q, x4⟩;cases q;refine ⟨_, rfl, ?_⟩;replace f3 := f3.ext x4;replace f2 := f2.ext x4;replace f0 := f0.ext x4;replace f1 := f1.ext x4;replace e0 := e0.trans x4;replace y0 := y0.ext x4;apply gE;refine gR rfl ?_;refine gO rfl rfl (ld71 rfl f3 rfl) rfl ?_;refine gO rfl rfl (ld3 rfl f0 rfl) rfl ?_;refine gO rfl rfl (ld3 rfl f1 rfl) rfl ?_;refine gO rfl rfl (aOp_build zt32 hu32 pl32 rfl rfl) rfl ?_;refine GoR.callP rfl rfl (aCF aFunc56 rfl) (hdn _ (A.ext e0)) (by rintro _ _ ⟨q, _⟩; cases q) ?_;rintro chain h5 ⟨q, x5⟩
   have q := AEnd.pan.inj q
   subst q;replace f2 := f2.ext x5;replace y0 := y0.ext x5;exact FLeft.pan (⟨y0, f2, .inr rfl⟩)
  ·rw [if_neg c2]
   have hdg := fun h A => digB_ok O c2 (b := b) (d := d) (r := r) (s := s) (x := x) (y := y) (h := h) A
   by_cases c3 : D.ds.length = 7
   ·rw [if_pos c3];rw [if_pos c3] at hdg
    unfold dC at *
    unfold spC at *
    have e0 : Ext h h := Ext.refl _
    refine Runs.intro aFunc55 rfl rfl rfl rfl fun rest => ?_;apply gS;refine gR rfl ?_;refine GoR.box rfl rfl rfl rfl rfl rfl fun h3 x3 f3 => ?_;replace f2 := f2.ext x3;replace f0 := f0.ext x3;replace f1 := f1.ext x3;replace e0 := e0.trans x3;replace y0 := y0.ext x3;apply gE;apply gS;refine gR rfl ?_;refine gO rfl rfl (ld71 rfl f3 rfl) rfl ?_;refine gO rfl rfl (ld3 rfl f0 rfl) rfl ?_;refine gO rfl rfl (ld3 rfl f1 rfl) rfl ?_;refine GoR.call rfl rfl (aCF aFunc51 rfl) (hnd _ (A.ext e0)) ?_ np;rintro v4 h4 ⟨q, x4⟩;cases q;refine ⟨_, rfl, ?_⟩;replace f3 := f3.ext x4;replace f2 := f2.ext x4;replace f0 := f0.ext x4;replace f1 := f1.ext x4;replace e0 := e0.trans x4;replace y0 := y0.ext x4;apply gE;refine gR rfl ?_;refine gO rfl rfl (ld71 rfl f3 rfl) rfl ?_;refine gO rfl rfl (ld3 rfl f0 rfl) rfl ?_;refine gO rfl rfl (ld3 rfl f1 rfl) rfl ?_;refine gO rfl rfl (aOp_build zt32 hu32 pl32 rfl rfl) rfl ?_;refine GoR.callP rfl rfl (aCF aFunc56 rfl) (hdg _ (A.ext e0)) (by rintro _ _ ⟨q, _⟩; cases q) ?_;rintro chain h5 ⟨q, x5⟩
    have q := AEnd.pan.inj q
    subst q;replace f2 := f2.ext x5;replace y0 := y0.ext x5;exact FLeft.pan (⟨y0, f2, .inr rfl⟩)
   ·rw [if_neg c3];rw [if_neg c3] at hdg
    generalize D.keeps D.truths ((D.dug x y).course 0) = w at hdg ⊢
    unfold dC at *
    unfold spC at *
    have e0 : Ext h h := Ext.refl _
    refine Runs.intro aFunc55 rfl rfl rfl rfl fun rest => ?_;apply gS;refine gR rfl ?_;refine GoR.box rfl rfl rfl rfl rfl rfl fun h3 x3 f3 => ?_;replace f2 := f2.ext x3;replace f0 := f0.ext x3;replace f1 := f1.ext x3;replace e0 := e0.trans x3;replace y0 := y0.ext x3;apply gE;apply gS;refine gR rfl ?_;refine gO rfl rfl (ld71 rfl f3 rfl) rfl ?_;refine gO rfl rfl (ld3 rfl f0 rfl) rfl ?_;refine gO rfl rfl (ld3 rfl f1 rfl) rfl ?_;refine GoR.call rfl rfl (aCF aFunc51 rfl) (hnd _ (A.ext e0)) ?_ np;rintro v4 h4 ⟨q, x4⟩;cases q;refine ⟨_, rfl, ?_⟩;replace f3 := f3.ext x4;replace f2 := f2.ext x4;replace f0 := f0.ext x4;replace f1 := f1.ext x4;replace e0 := e0.trans x4;replace y0 := y0.ext x4;apply gE;refine gR rfl ?_;refine gO rfl rfl (ld71 rfl f3 rfl) rfl ?_;refine gO rfl rfl (ld3 rfl f0 rfl) rfl ?_;refine gO rfl rfl (ld3 rfl f1 rfl) rfl ?_;refine gO rfl rfl (aOp_build zt32 hu32 pl32 rfl rfl) rfl ?_;refine GoR.call rfl rfl (aCF aFunc56 rfl) (hdg _ (A.ext e0)) ?_ np;rintro v5 h5 ⟨q, x5⟩;cases q;refine ⟨_, rfl, ?_⟩;replace f2 := f2.ext x5;replace y0 := y0.ext x5;refine GoR.store rfl rfl rfl rfl rfl rfl f2 rfl sz3 rfl rfl rfl fun h6 u6 => ?_;replace f2 := u6.has f2;clear e0;replace y0 := y0.upd u6 (.inl rfl);apply gE;exact Go.endL (FLeft.ret (v := .tuple []) (aResult_of Try.func55 rfl rfl) ⟨y0, f2, .inl ⟨rfl, rfl⟩⟩)
 ·rw [DrainV.pair_no c1]
  have hnd := fun h A => needPair_no (D := D) (b := b) (d := d) (r := r) (s := s) (h := h) A O.B c1
  try unfold zSp at *
  unfold dC at *
  try unfold spC at *
  have e0 : Ext h h := Ext.refl _
  refine Runs.intro aFunc55 rfl rfl rfl rfl fun rest => ?_;apply gS;refine gR rfl ?_;refine GoR.box rfl rfl rfl rfl rfl rfl fun h3 x3 f3 => ?_;replace f0 := f0.ext x3;replace f1 := f1.ext x3;replace f2 := f2.ext x3;replace e0 := e0.trans x3;replace y0 := y0.ext x3;apply gE;apply gS;refine gR rfl ?_;refine gO rfl rfl (ld71 rfl f3 rfl) rfl ?_;refine gO rfl rfl (ld3 rfl f0 rfl) rfl ?_;refine gO rfl rfl (ld3 rfl f1 rfl) rfl ?_;refine GoR.callP rfl rfl (aCF aFunc51 rfl) (hnd _ (A.ext e0)) (by rintro _ _ ⟨q, _⟩; cases q) ?_;rintro chain h4 ⟨q, x4⟩
  have q := AEnd.pan.inj q
  subst q;replace f2 := f2.ext x4;replace y0 := y0.ext x4;exact FLeft.pan (⟨y0, f2, .inr rfl⟩)
theorem breaksB0_ok {D : DrainV} (O : D.Ok) {b d r s : AVal} {br bs : Nat} {h : AH} (A : DrainAt h D b d r s) (f0 : Has h br (.cells .plain [.int .i64 0] 3)) (f1 : Has h bs (.cells .plain [.int .i64 0] 3)) (hrs : br ≠ bs) :
  Runs Try.prog 53 [.agg (dC b d r s), .ptr br 0, .ptr bs 0] h (fun en h'' => ExtF (fun x => x = br ∨ x = bs) h h'' ∧ (Has h'' br (.cells .plain [.int .i64 (D.tr (((D.surely : Nat) : Int), ((D.perhaps : Nat) : Int)) zSp).1.1] 3) ∧ Has h'' bs (.cells .plain [.int .i64 (D.tr (((D.surely : Nat) : Int), ((D.perhaps : Nat) : Int)) zSp).1.2] 3)) ∧ (((D.tr (((D.surely : Nat) : Int), ((D.perhaps : Nat) : Int)) zSp).2 = 0 ∧ en = .ret (.tuple [])) ∨ en = .pan (refusal (D.tr (((D.surely : Nat) : Int), ((D.perhaps : Nat) : Int)) zSp).2))) := by
 have hnb := O.nb
 have y0 : ExtF (fun x => x = br ∨ x = bs) h h := ExtF.of (Ext.refl _)
 have hsm := A.same
 have l0 := f0.1
 have l1 := f1.1
 have htr := fun h A c => truths_yes O c (b := b) (d := d) (r := r) (s := s) (h := h) A
 have htn := fun h A c => truths_no O c (b := b) (d := d) (r := r) (s := s) (h := h) A
 by_cases c2 : D.truths = []
 ·rw [DrainV.tr_no c2]
  have hdn := fun h A => breaks_no O c2 (b := b) (d := d) (r := r) (s := s) (h := h) A
  unfold zSp at *
  unfold dC at *
  have e0 : Ext h h := Ext.refl _
  refine Runs.intro aFunc53 rfl rfl rfl rfl fun rest => ?_;apply gS;refine gR rfl ?_;refine GoR.box rfl rfl rfl rfl rfl rfl fun h2 x2 f2 => ?_;replace f0 := f0.ext x2;replace f1 := f1.ext x2;replace e0 := e0.trans x2;replace y0 := y0.ext x2;apply gE;refine gR rfl ?_;refine gO rfl rfl (ld71 rfl f2 rfl) rfl ?_;refine GoR.callP rfl rfl (aCF aFunc54 rfl) (hdn _ (A.ext e0)) (by rintro _ _ ⟨q, _⟩; cases q) ?_;rintro chain h3 ⟨q, x3⟩
  have q := AEnd.pan.inj q
  subst q;replace f0 := f0.ext x3;replace f1 := f1.ext x3;replace y0 := y0.ext x3;exact FLeft.pan (⟨y0, ⟨f0, f1⟩, .inr rfl⟩)
 ·rw [DrainV.tr_yes c2]
  have hdg := fun h A => breaksB_ok O c2 (b := b) (d := d) (r := r) (s := s) (h := h) A
  obtain ⟨w1, hw1⟩ : ∃ w, D.surely = w := ⟨_, rfl⟩
  rw [hw1] at hdg ⊢
  obtain ⟨w2, hw2⟩ : ∃ w, D.perhaps = w := ⟨_, rfl⟩
  rw [hw2] at hdg ⊢
  unfold dC at *
  have e0 : Ext h h := Ext.refl _
  refine Runs.intro aFunc53 rfl rfl rfl rfl fun rest => ?_;apply gS;refine gR rfl ?_;refine GoR.box rfl rfl rfl rfl rfl rfl fun h2 x2 f2 => ?_;have := e0.1;have := f0.1;have := f1.1;replace f0 := f0.ext x2;replace f1 := f1.ext x2;replace e0 := e0.trans x2;replace y0 := y0.ext x2;have := f2.1;apply gE;refine gR rfl ?_;refine gO rfl rfl (ld71 rfl f2 rfl) rfl ?_;refine GoR.call rfl rfl (aCF aFunc54 rfl) (hdg _ (A.ext e0)) ?_ np;rintro v3 h3 ⟨q, x3⟩;cases q;refine ⟨_, rfl, ?_⟩;replace f0 := f0.ext x3;replace f1 := f1.ext x3;replace y0 := y0.ext x3;iterate 3 refine gP ?_
  refine GoR.store rfl rfl rfl rfl rfl rfl f0 rfl sz3 rfl rfl rfl fun h4 u4 => ?_;replace f0 := u4.has f0;replace f1 := f1.upd u4 (by omega);clear e0;replace y0 := y0.upd u4 (by omega);refine GoR.store rfl rfl rfl rfl rfl rfl f1 rfl sz3 rfl rfl rfl fun h5 u5 => ?_;replace f0 := f0.upd u5 (by omega);replace f1 := u5.has f1;replace y0 := y0.upd u5 (by omega);apply gE;exact Go.endL (FLeft.ret (v := .tuple []) (aResult_of Try.func53 rfl rfl) ⟨y0, ⟨f0, f1⟩, .inl ⟨rfl, rfl⟩⟩)
theorem stopB0_ok {D : DrainV} (O : D.Ok) {b d r s : AVal} {br bs : Nat} {h : AH} (A : DrainAt h D b d r s) (f0 : Has h br (.cells .plain [.int .i64 0] 3)) (f1 : Has h bs (.cells .plain [.int .i64 0] 3)) (hrs : br ≠ bs) :
  Runs Try.prog 57 [.agg (dC b d r s), .ptr br 0, .ptr bs 0] h (fun en h'' => ExtF (fun x => x = br ∨ x = bs) h h'' ∧ (Has h'' br (.cells .plain [.int .i64 (D.tr (((popc (stopV D) : Nat) : Int), ((stopV D : Nat) : Int)) zSp).1.1] 3) ∧ Has h'' bs (.cells .plain [.int .i64 (D.tr (((popc (stopV D) : Nat) : Int), ((stopV D : Nat) : Int)) zSp).1.2] 3)) ∧ (((D.tr (((popc (stopV D) : Nat) : Int), ((stopV D : Nat) : Int)) zSp).2 = 0 ∧ en = .ret (.tuple [])) ∨ en = .pan (refusal (D.tr (((popc (stopV D) : Nat) : Int), ((stopV D : Nat) : Int)) zSp).2))) := by
 have hnb := O.nb
 have y0 : ExtF (fun x => x = br ∨ x = bs) h h := ExtF.of (Ext.refl _)
 have hsm := A.same
 have l0 := f0.1
 have l1 := f1.1
 have htr := fun h A c => truths_yes O c (b := b) (d := d) (r := r) (s := s) (h := h) A
 have htn := fun h A c => truths_no O c (b := b) (d := d) (r := r) (s := s) (h := h) A
 by_cases c2 : D.truths = []
 ·rw [DrainV.tr_no c2]
  have hdn := fun h A => stop_no O c2 (b := b) (d := d) (r := r) (s := s) (h := h) A
  unfold zSp at *
  unfold dC at *
  have e0 : Ext h h := Ext.refl _
  refine Runs.intro aFunc57 rfl rfl rfl rfl fun rest => ?_;apply gS;refine gR rfl ?_;refine GoR.box rfl rfl rfl rfl rfl rfl fun h2 x2 f2 => ?_;replace f0 := f0.ext x2;replace f1 := f1.ext x2;replace e0 := e0.trans x2;replace y0 := y0.ext x2;apply gE;refine gR rfl ?_;refine gO rfl rfl (ld71 rfl f2 rfl) rfl ?_;refine GoR.callP rfl rfl (aCF aFunc58 rfl) (hdn _ (A.ext e0)) (by rintro _ _ ⟨q, _⟩; cases q) ?_;rintro chain h3 ⟨q, x3⟩
  have q := AEnd.pan.inj q
  subst q;replace f0 := f0.ext x3;replace f1 := f1.ext x3;replace y0 := y0.ext x3;exact FLeft.pan (⟨y0, ⟨f0, f1⟩, .inr rfl⟩)
 ·rw [DrainV.tr_yes c2]
  have hdg := fun h A => stopB_ok O c2 (b := b) (d := d) (r := r) (s := s) (h := h) A
  obtain ⟨w1, hw1⟩ : ∃ w, popc (stopV D) = w := ⟨_, rfl⟩
  rw [hw1] at hdg ⊢
  obtain ⟨w2, hw2⟩ : ∃ w, stopV D = w := ⟨_, rfl⟩
  rw [hw2] at hdg ⊢
  unfold dC at *
  have e0 : Ext h h := Ext.refl _
  refine Runs.intro aFunc57 rfl rfl rfl rfl fun rest => ?_;apply gS;refine gR rfl ?_;refine GoR.box rfl rfl rfl rfl rfl rfl fun h2 x2 f2 => ?_;have := e0.1;have := f0.1;have := f1.1;replace f0 := f0.ext x2;replace f1 := f1.ext x2;replace e0 := e0.trans x2;replace y0 := y0.ext x2;have := f2.1;apply gE;refine gR rfl ?_;refine gO rfl rfl (ld71 rfl f2 rfl) rfl ?_;refine GoR.call rfl rfl (aCF aFunc58 rfl) (hdg _ (A.ext e0)) ?_ np;rintro v3 h3 ⟨q, x3⟩;cases q;refine ⟨_, rfl, ?_⟩;replace f0 := f0.ext x3;replace f1 := f1.ext x3;replace y0 := y0.ext x3;iterate 3 refine gP ?_
  refine GoR.store rfl rfl rfl rfl rfl rfl f0 rfl sz3 rfl rfl rfl fun h4 u4 => ?_;replace f0 := u4.has f0;replace f1 := f1.upd u4 (by omega);clear e0;replace y0 := y0.upd u4 (by omega);refine GoR.store rfl rfl rfl rfl rfl rfl f1 rfl sz3 rfl rfl rfl fun h5 u5 => ?_;replace f0 := f0.upd u5 (by omega);replace f1 := u5.has f1;replace y0 := y0.upd u5 (by omega);apply gE;exact Go.endL (FLeft.ret (v := .tuple []) (aResult_of Try.func57 rfl rfl) ⟨y0, ⟨f0, f1⟩, .inl ⟨rfl, rfl⟩⟩)
theorem clashB0_ok {D : DrainV} (O : D.Ok) {b d r s : AVal} {br : Nat} {h : AH} (A : DrainAt h D b d r s) (f0 : Has h br (.cells .plain [.int .i64 0] 3)) :
  Runs Try.prog 59 [.agg (dC b d r s), .ptr br 0] h (fun en h'' => ExtF (fun x => x = br) h h'' ∧ Has h'' br (.cells .plain [.int .i64 (D.clashQ).1] 3) ∧ (((D.clashQ).2 = 0 ∧ en = .ret (.tuple [])) ∨ en = .pan (refusal (D.clashQ).2))) := by
 have hnb := O.nb
 have y0 : ExtF (fun x => x = br) h h := ExtF.of (Ext.refl _)
 have hsm := A.same
 have l0 := f0.1
 have htr := fun h A c => truths_yes O c (b := b) (d := d) (r := r) (s := s) (h := h) A
 have htn := fun h A c => truths_no O c (b := b) (d := d) (r := r) (s := s) (h := h) A
 have hcl := fun h A => clashB_ok O (b := b) (d := d) (r := r) (s := s) (h := h) A
 unfold DrainV.clashQ
 cases q : clashV D with
 | none =>
  rw [q] at hcl
  dsimp only at hcl ⊢
  unfold dC at *
  have e0 : Ext h h := Ext.refl _
  refine Runs.intro aFunc59 rfl rfl rfl rfl fun rest => ?_;apply gS;refine gR rfl ?_;refine GoR.box rfl rfl rfl rfl rfl rfl fun h1 x1 f1 => ?_;replace f0 := f0.ext x1;replace e0 := e0.trans x1;replace y0 := y0.ext x1;apply gE;refine gR rfl ?_;refine gO rfl rfl (ld71 rfl f1 rfl) rfl ?_;refine GoR.callP rfl rfl (aCF aFunc60 rfl) (hcl _ (A.ext e0)) (by rintro _ _ ⟨q, _⟩; cases q) ?_;rintro chain h2 ⟨q, x2⟩
  have q := AEnd.pan.inj q
  subst q;replace f1 := f1.ext x2;replace f0 := f0.ext x2;replace e0 := e0.trans x2;replace y0 := y0.ext x2;exact FLeft.pan (⟨y0, f0, .inr rfl⟩)
 | some st =>
  rw [q] at hcl
  dsimp only at hcl ⊢
  unfold dC at *
  have e0 : Ext h h := Ext.refl _
  refine Runs.intro aFunc59 rfl rfl rfl rfl fun rest => ?_;apply gS;refine gR rfl ?_;refine GoR.box rfl rfl rfl rfl rfl rfl fun h1 x1 f1 => ?_;replace f0 := f0.ext x1;replace e0 := e0.trans x1;replace y0 := y0.ext x1;apply gE;refine gR rfl ?_;refine gO rfl rfl (ld71 rfl f1 rfl) rfl ?_;refine GoR.call rfl rfl (aCF aFunc60 rfl) (hcl _ (A.ext e0)) ?_ np;rintro v2 h2 ⟨q, x2⟩;cases q;refine ⟨_, rfl, ?_⟩;replace f0 := f0.ext x2;replace y0 := y0.ext x2;refine GoR.store rfl rfl rfl rfl rfl rfl f0 rfl sz3 rfl rfl rfl fun h3 u3 => ?_;replace f0 := u3.has f0;clear e0;replace y0 := y0.upd u3 (.inl rfl);apply gE;exact Go.endL (FLeft.ret (v := .tuple []) (aResult_of Try.func59 rfl rfl) ⟨y0, f0, .inl ⟨rfl, rfl⟩⟩)
end Go.Proofs.Ytkhiagdmbajimaa

namespace Go.Proofs.Ytkhiagdmbajimaa
open Go Go.AbsE
set_option linter.unusedSimpArgs false
set_option maxRecDepth 100000
set_option maxHeartbeats 0
set_option linter.unusedVariables false
theorem attempt_one {D : DrainV} (O : D.Ok) (b d r s : AVal) (h : AH) (A : DrainAt h D b d r s) (W : FuncId) (fW : Func) (hfid : aFunc Try.prog W = some fW) (caps : List AVal) (hsm : sameA (.func (.func W) [] caps) (.func (.func W) [] caps) = true) (br : Nat) (hb : br < h.next) (cs : List AVal) (el : TypeId) (code : Int)
  (hbody : ∀ h', Ext h h' → DrainAt h' D b d r s → Runs Try.prog W ([.agg (dC b d r s)] ++ caps) h' (fun en h'' => ExtF (fun b => b = br) h' h'' ∧ Has h'' br (.cells .plain cs el) ∧ ((code = 0 ∧ en = .ret (.tuple [])) ∨ en = .pan (refusal code)))) :
  Runs Try.prog 37 [.agg (dC b d r s), .func (.func W) [] caps] h (fun en h' => en = .ret (.int .i64 code) ∧ ExtF (fun b => b = br) h h' ∧ Has h' br (.cells .plain cs el)) :=
 attempt_is O b d r s h A W fW hfid caps hsm (fun b => b = br) (fun _ q => q ▸ hb) (fun h' => Has h' br (.cells .plain cs el)) (fun h2 h' le same f => f.keep le (same br hb)) code fun h' e => hbody h' e (A.ext e)
theorem attempt_two {D : DrainV} (O : D.Ok) (b d r s : AVal) (h : AH) (A : DrainAt h D b d r s) (W : FuncId) (fW : Func) (hfid : aFunc Try.prog W = some fW) (caps : List AVal) (hsm : sameA (.func (.func W) [] caps) (.func (.func W) [] caps) = true) (br bs : Nat) (hb : br < h.next) (hs : bs < h.next) (cs cs' : List AVal) (el el' : TypeId) (code : Int)
  (hbody : ∀ h', Ext h h' → DrainAt h' D b d r s → Runs Try.prog W ([.agg (dC b d r s)] ++ caps) h' (fun en h'' => ExtF (fun b => b = br ∨ b = bs) h' h'' ∧ (Has h'' br (.cells .plain cs el) ∧ Has h'' bs (.cells .plain cs' el')) ∧ ((code = 0 ∧ en = .ret (.tuple [])) ∨ en = .pan (refusal code)))) :
  Runs Try.prog 37 [.agg (dC b d r s), .func (.func W) [] caps] h (fun en h' => en = .ret (.int .i64 code) ∧ ExtF (fun b => b = br ∨ b = bs) h h' ∧ (Has h' br (.cells .plain cs el) ∧ Has h' bs (.cells .plain cs' el'))) :=
 attempt_is O b d r s h A W fW hfid caps hsm (fun b => b = br ∨ b = bs) (fun _ q => by rcases q with rfl | rfl <;> assumption) (fun h' => Has h' br (.cells .plain cs el) ∧ Has h' bs (.cells .plain cs' el')) (fun h2 h' le same f => ⟨f.1.keep le (same br hb), f.2.keep le (same bs hs)⟩) code fun h' e => hbody h' e (A.ext e)
theorem Next_ok {D : DrainV} {b d r s : AVal} {h : AH} (A : DrainAt h D b d r s) (B : DrainB D) (a : Int) :
  Runs Try.prog 10 [.agg (dC b d r s), .int .i64 a] h (fun en h' => en = .ret (.tuple [.int .i64 (D.nextR a).1, .int .i64 (D.nextR a).2]) ∧ Ext h h') := by
 by_cases O : D.Ok
 ·have hB := fun {h' : AH} {b0 br : Nat} (A' : DrainAt h' D b d r s) => nextB0_ok O (b := b) (d := d) (r := r) (s := s) (a := a) (h := h') (b0 := b0) (br := br) A'
  unfold DrainV.nextR
  rw [DrainV.ok_yes O]
  obtain ⟨RES, hR⟩ : ∃ RES, D.bankQ a (D.tr ((D.nexts a.toNat : Nat) : Int) 0) 0 = RES := ⟨_, rfl⟩
  rw [hR] at hB ⊢
  obtain ⟨r1, c⟩ := RES
  dsimp only at hB ⊢
  have hsm := A.same
  unfold dC at *
  try unfold spC at *
  have e0 : Ext h h := Ext.refl _
  refine Runs.intro aFunc10 rfl rfl rfl rfl fun rest => ?_;apply gS;refine gR rfl ?_;refine GoR.box rfl rfl rfl rfl rfl rfl fun h0 x0 f0 => ?_;have := e0.1;replace e0 := e0.trans x0;have := f0.1;refine GoR.box rfl rfl rfl rfl rfl rfl fun h1 x1 f1 => ?_;have := e0.1;have := f0.1;replace f0 := f0.ext x1;replace e0 := e0.trans x1;have := f1.1;refine GoR.alloc rfl rfl rfl zt3 rfl rfl fun h2 x2 f2 => ?_;have := e0.1;have := f1.1;have := f0.1;replace f1 := f1.ext x2;replace f0 := f0.ext x2;replace e0 := e0.trans x2;have := f2.1;refine gP ?_;apply gE;apply gS;refine gR rfl ?_;refine gO rfl rfl (ld29 rfl f0 rfl) rfl ?_;refine gP ?_;refine GoR.call rfl rfl (aCF aFunc37 rfl) (attempt_one O b d r s _ (A.ext e0) 38 _ aFunc38 _ (by simp [sameA, sameAs, eqI_eq]) h1.next (by omega) [.int .i64 r1] 3 c fun h' e A' => hB A' (f1.ext e) (f2.ext e) (by omega)) ?_ np;rintro v9 h9 ⟨q, y9, f9⟩;cases q;refine ⟨_, rfl, ?_⟩
  have z9 := y9.low e0 (fun b q => by omega)
  clear e0 y9 f2
  have e0 := z9
  refine gP ?_;apply gE;apply gS;refine gR rfl ?_;refine gO rfl rfl (ld3 rfl f9 rfl) rfl ?_;refine gP ?_;refine GoR.store rfl rfl rfl rfl rfl rfl f9 rfl sz3 rfl rfl rfl fun h10 u10 => ?_;replace f9 := u10.has f9;replace e0 := e0.upd u10 (by omega);refine gP ?_;apply gE;exact gV (ret_end (aResult_of Try.func10 rfl (aResults_c rfl f9 (inCells_one ag3 rfl) rfl)) ⟨rfl, e0⟩)
 ·have hr : D.nextR a = (0, 1) := DrainV.ok_no O
  rw [hr]
  have hbd := fun h A => attempt_bad O B b d r s h A 38
  try unfold zSp at *
  unfold dC at *
  try unfold spC at *
  have e0 : Ext h h := Ext.refl _
  refine Runs.intro aFunc10 rfl rfl rfl rfl fun rest => ?_;apply gS;refine gR rfl ?_;refine GoR.box rfl rfl rfl rfl rfl rfl fun h0 x0 f0 => ?_;have := e0.1;replace e0 := e0.trans x0;have := f0.1;refine GoR.box rfl rfl rfl rfl rfl rfl fun h1 x1 f1 => ?_;have := e0.1;have := f0.1;replace f0 := f0.ext x1;replace e0 := e0.trans x1;have := f1.1;refine GoR.alloc rfl rfl rfl zt3 rfl rfl fun h2 x2 f2 => ?_;have := e0.1;have := f1.1;have := f0.1;replace f0 := f0.ext x2;replace e0 := e0.trans x2;have := f2.1;refine gP ?_;apply gE;apply gS;refine gR rfl ?_;refine gO rfl rfl (ld29 rfl f0 rfl) rfl ?_;refine gP ?_;refine GoR.call rfl rfl (aCF aFunc37 rfl) (hbd _ (A.ext e0) _) ?_ np;rintro v3 h3 ⟨q, x3⟩;cases q;refine ⟨_, rfl, ?_⟩;replace f2 := f2.ext x3;replace e0 := e0.trans x3;refine gP ?_;apply gE;apply gS;refine gR rfl ?_;refine gO rfl rfl (ld3 rfl f2 rfl) rfl ?_;refine gP ?_;refine GoR.store rfl rfl rfl rfl rfl rfl f2 rfl sz3 rfl rfl rfl fun h4 u4 => ?_;replace f2 := u4.has f2;replace e0 := e0.upd u4 (by omega);refine gP ?_;apply gE;exact gV (ret_end (aResult_of Try.func10 rfl (aResults_c rfl f2 (inCells_one ag3 rfl) rfl)) ⟨rfl, e0⟩)
theorem Ends_ok {D : DrainV} {b d r s : AVal} {h : AH} (A : DrainAt h D b d r s) (B : DrainB D) (a : Int) :
  Runs Try.prog 13 [.agg (dC b d r s), .int .i64 a] h (fun en h' => en = .ret (.tuple [.int .i64 (D.endsR a).1, .int .i64 (D.endsR a).2]) ∧ Ext h h') := by
 by_cases O : D.Ok
 ·have hB := fun {h' : AH} {b0 br : Nat} (A' : DrainAt h' D b d r s) => endsB0_ok O (b := b) (d := d) (r := r) (s := s) (a := a) (h := h') (b0 := b0) (br := br) A'
  unfold DrainV.endsR
  rw [DrainV.ok_yes O]
  obtain ⟨RES, hR⟩ : ∃ RES, D.bankQ a (D.tr ((D.endsS a.toNat : Nat) : Int) 0) 0 = RES := ⟨_, rfl⟩
  rw [hR] at hB ⊢
  obtain ⟨r1, c⟩ := RES
  dsimp only at hB ⊢
  have hsm := A.same
  unfold dC at *
  try unfold spC at *
  have e0 : Ext h h := Ext.refl _
  refine Runs.intro aFunc13 rfl rfl rfl rfl fun rest => ?_;apply gS;refine gR rfl ?_;refine GoR.box rfl rfl rfl rfl rfl rfl fun h0 x0 f0 => ?_;have := e0.1;replace e0 := e0.trans x0;have := f0.1;refine GoR.box rfl rfl rfl rfl rfl rfl fun h1 x1 f1 => ?_;have := e0.1;have := f0.1;replace f0 := f0.ext x1;replace e0 := e0.trans x1;have := f1.1;refine GoR.alloc rfl rfl rfl zt3 rfl rfl fun h2 x2 f2 => ?_;have := e0.1;have := f1.1;have := f0.1;replace f1 := f1.ext x2;replace f0 := f0.ext x2;replace e0 := e0.trans x2;have := f2.1;refine gP ?_;apply gE;apply gS;refine gR rfl ?_;refine gO rfl rfl (ld29 rfl f0 rfl) rfl ?_;refine gP ?_;refine GoR.call rfl rfl (aCF aFunc37 rfl) (attempt_one O b d r s _ (A.ext e0) 44 _ aFunc44 _ (by simp [sameA, sameAs, eqI_eq]) h1.next (by omega) [.int .i64 r1] 3 c fun h' e A' => hB A' (f1.ext e) (f2.ext e) (by omega)) ?_ np;rintro v9 h9 ⟨q, y9, f9⟩;cases q;refine ⟨_, rfl, ?_⟩
  have z9 := y9.low e0 (fun b q => by omega)
  clear e0 y9 f2
  have e0 := z9
  refine gP ?_;apply gE;apply gS;refine gR rfl ?_;refine gO rfl rfl (ld3 rfl f9 rfl) rfl ?_;refine gP ?_;refine GoR.store rfl rfl rfl rfl rfl rfl f9 rfl sz3 rfl rfl rfl fun h10 u10 => ?_;replace f9 := u10.has f9;replace e0 := e0.upd u10 (by omega);refine gP ?_;apply gE;exact gV (ret_end (aResult_of Try.func13 rfl (aResults_c rfl f9 (inCells_one ag3 rfl) rfl)) ⟨rfl, e0⟩)
 ·have hr : D.endsR a = (0, 1) := DrainV.ok_no O
  rw [hr]
  have hbd := fun h A => attempt_bad O B b d r s h A 44
  try unfold zSp at *
  unfold dC at *
  try unfold spC at *
  have e0 : Ext h h := Ext.refl _
  refine Runs.intro aFunc13 rfl rfl rfl rfl fun rest => ?_;apply gS;refine gR rfl ?_;refine GoR.box rfl rfl rfl rfl rfl rfl fun h0 x0 f0 => ?_;have := e0.1;replace e0 := e0.trans x0;have := f0.1;refine GoR.box rfl rfl rfl rfl rfl rfl fun h1 x1 f1 => ?_;have := e0.1;have := f0.1;replace f0 := f0.ext x1;replace e0 := e0.trans x1;have := f1.1;refine GoR.alloc rfl rfl rfl zt3 rfl rfl fun h2 x2 f2 => ?_;have := e0.1;have := f1.1;have := f0.1;replace f0 := f0.ext x2;replace e0 := e0.trans x2;have := f2.1;refine gP ?_;apply gE;apply gS;refine gR rfl ?_;refine gO rfl rfl (ld29 rfl f0 rfl) rfl ?_;refine gP ?_;refine GoR.call rfl rfl (aCF aFunc37 rfl) (hbd _ (A.ext e0) _) ?_ np;rintro v3 h3 ⟨q, x3⟩;cases q;refine ⟨_, rfl, ?_⟩;replace f2 := f2.ext x3;replace e0 := e0.trans x3;refine gP ?_;apply gE;apply gS;refine gR rfl ?_;refine gO rfl rfl (ld3 rfl f2 rfl) rfl ?_;refine gP ?_;refine GoR.store rfl rfl rfl rfl rfl rfl f2 rfl sz3 rfl rfl rfl fun h4 u4 => ?_;replace f2 := u4.has f2;replace e0 := e0.upd u4 (by omega);refine gP ?_;apply gE;exact gV (ret_end (aResult_of Try.func13 rfl (aResults_c rfl f2 (inCells_one ag3 rfl) rfl)) ⟨rfl, e0⟩)
theorem Water_ok {D : DrainV} {b d r s : AVal} {h : AH} (A : DrainAt h D b d r s) (B : DrainB D) (a : Int) :
  Runs Try.prog 14 [.agg (dC b d r s), .int .i64 a] h (fun en h' => en = .ret (.tuple [.agg (spC (D.waterR a).1), .int .i64 (D.waterR a).2]) ∧ Ext h h') := by
 by_cases O : D.Ok
 ·have hB := fun {h' : AH} {b0 br : Nat} (A' : DrainAt h' D b d r s) => waterB0_ok O (b := b) (d := d) (r := r) (s := s) (a := a) (h := h') (b0 := b0) (br := br) A'
  unfold DrainV.waterR
  rw [DrainV.ok_yes O]
  obtain ⟨RES, hR⟩ : ∃ RES, D.bankQ a (D.tr (D.waters a.toNat) zSp) zSp = RES := ⟨_, rfl⟩
  rw [hR] at hB ⊢
  obtain ⟨⟨r1, r2⟩, c⟩ := RES
  dsimp only at hB ⊢
  have hsm := A.same
  unfold dC at *
  try unfold spC at *
  have e0 : Ext h h := Ext.refl _
  refine Runs.intro aFunc14 rfl rfl rfl rfl fun rest => ?_;apply gS;refine gR rfl ?_;refine GoR.box rfl rfl rfl rfl rfl rfl fun h0 x0 f0 => ?_;have := e0.1;replace e0 := e0.trans x0;have := f0.1;refine GoR.box rfl rfl rfl rfl rfl rfl fun h1 x1 f1 => ?_;have := e0.1;have := f0.1;replace f0 := f0.ext x1;replace e0 := e0.trans x1;have := f1.1;refine GoR.alloc rfl rfl rfl zt35 rfl rfl fun h2 x2 f2 => ?_;have := e0.1;have := f1.1;have := f0.1;replace f1 := f1.ext x2;replace f0 := f0.ext x2;replace e0 := e0.trans x2;have := f2.1;refine gP ?_;apply gE;apply gS;refine gR rfl ?_;refine gO rfl rfl (ld29 rfl f0 rfl) rfl ?_;refine gP ?_;refine GoR.call rfl rfl (aCF aFunc37 rfl) (attempt_one O b d r s _ (A.ext e0) 46 _ aFunc46 _ (by simp [sameA, sameAs, eqI_eq]) h1.next (by omega) [.int .i64 r1, .int .i64 r2] 35 c fun h' e A' => hB A' (f1.ext e) (f2.ext e) (by omega)) ?_ np;rintro v9 h9 ⟨q, y9, f9⟩;cases q;refine ⟨_, rfl, ?_⟩
  have z9 := y9.low e0 (fun b q => by omega)
  clear e0 y9 f2
  have e0 := z9
  refine gP ?_;apply gE;apply gS;refine gR rfl ?_;refine gO rfl rfl (ld35 rfl f9 rfl) rfl ?_;refine gP ?_;refine GoR.store rfl rfl rfl rfl rfl rfl f9 rfl sz35 rfl rfl rfl fun h10 u10 => ?_;replace f9 := u10.has f9;replace e0 := e0.upd u10 (by omega);refine gP ?_;apply gE;exact gV (ret_end (aResult_of Try.func14 rfl (aResults_c rfl f9 (inCells_agg ag35 sz35 rfl) rfl)) ⟨rfl, e0⟩)
 ·have hr : D.waterR a = (zSp, 1) := DrainV.ok_no O
  rw [hr]
  have hbd := fun h A => attempt_bad O B b d r s h A 46
  try unfold zSp at *
  unfold dC at *
  try unfold spC at *
  have e0 : Ext h h := Ext.refl _
  refine Runs.intro aFunc14 rfl rfl rfl rfl fun rest => ?_;apply gS;refine gR rfl ?_;refine GoR.box rfl rfl rfl rfl rfl rfl fun h0 x0 f0 => ?_;have := e0.1;replace e0 := e0.trans x0;have := f0.1;refine GoR.box rfl rfl rfl rfl rfl rfl fun h1 x1 f1 => ?_;have := e0.1;have := f0.1;replace f0 := f0.ext x1;replace e0 := e0.trans x1;have := f1.1;refine GoR.alloc rfl rfl rfl zt35 rfl rfl fun h2 x2 f2 => ?_;have := e0.1;have := f1.1;have := f0.1;replace f0 := f0.ext x2;replace e0 := e0.trans x2;have := f2.1;refine gP ?_;apply gE;apply gS;refine gR rfl ?_;refine gO rfl rfl (ld29 rfl f0 rfl) rfl ?_;refine gP ?_;refine GoR.call rfl rfl (aCF aFunc37 rfl) (hbd _ (A.ext e0) _) ?_ np;rintro v3 h3 ⟨q, x3⟩;cases q;refine ⟨_, rfl, ?_⟩;replace f2 := f2.ext x3;replace e0 := e0.trans x3;refine gP ?_;apply gE;apply gS;refine gR rfl ?_;refine gO rfl rfl (ld35 rfl f2 rfl) rfl ?_;refine gP ?_;refine GoR.store rfl rfl rfl rfl rfl rfl f2 rfl sz35 rfl rfl rfl fun h4 u4 => ?_;replace f2 := u4.has f2;replace e0 := e0.upd u4 (by omega);refine gP ?_;apply gE;exact gV (ret_end (aResult_of Try.func14 rfl (aResults_c rfl f2 (inCells_agg ag35 sz35 rfl) rfl)) ⟨rfl, e0⟩)
theorem Flow_ok {D : DrainV} {b d r s : AVal} {h : AH} (A : DrainAt h D b d r s) (B : DrainB D) (x y : Int) :
  Runs Try.prog 15 [.agg (dC b d r s), .int .i64 x, .int .i64 y] h (fun en h' => en = .ret (.tuple [.agg (spC (D.flowR x y).1), .int .i64 (D.flowR x y).2]) ∧ Ext h h') := by
 by_cases O : D.Ok
 ·have hB := fun {h' : AH} {b0 b1 br : Nat} (A' : DrainAt h' D b d r s) => flowB0_ok O (b := b) (d := d) (r := r) (s := s) (x := x) (y := y) (h := h') (b0 := b0) (b1 := b1) (br := br) A'
  unfold DrainV.flowR
  rw [DrainV.ok_yes O]
  obtain ⟨RES, hR⟩ : ∃ RES, D.pairQ x y (D.tr (D.flow x.toNat y.toNat) zSp) zSp = RES := ⟨_, rfl⟩
  rw [hR] at hB ⊢
  obtain ⟨⟨r1, r2⟩, c⟩ := RES
  dsimp only at hB ⊢
  have hsm := A.same
  unfold dC at *
  try unfold spC at *
  have e0 : Ext h h := Ext.refl _
  refine Runs.intro aFunc15 rfl rfl rfl rfl fun rest => ?_;apply gS;refine gR rfl ?_;refine GoR.box rfl rfl rfl rfl rfl rfl fun h0 x0 f0 => ?_;have := e0.1;replace e0 := e0.trans x0;have := f0.1;refine GoR.box rfl rfl rfl rfl rfl rfl fun h1 x1 f1 => ?_;have := e0.1;have := f0.1;replace f0 := f0.ext x1;replace e0 := e0.trans x1;have := f1.1;refine GoR.box rfl rfl rfl rfl rfl rfl fun h2 x2 f2 => ?_;have := e0.1;have := f1.1;have := f0.1;replace f1 := f1.ext x2;replace f0 := f0.ext x2;replace e0 := e0.trans x2;have := f2.1;refine GoR.alloc rfl rfl rfl zt35 rfl rfl fun h3 x3 f3 => ?_;have := e0.1;have := f2.1;have := f1.1;have := f0.1;replace f2 := f2.ext x3;replace f1 := f1.ext x3;replace f0 := f0.ext x3;replace e0 := e0.trans x3;have := f3.1;refine gP ?_;apply gE;apply gS;refine gR rfl ?_;refine gO rfl rfl (ld29 rfl f0 rfl) rfl ?_;refine gP ?_;refine GoR.call rfl rfl (aCF aFunc37 rfl) (attempt_one O b d r s _ (A.ext e0) 50 _ aFunc50 _ (by simp [sameA, sameAs, eqI_eq]) h2.next (by omega) [.int .i64 r1, .int .i64 r2] 35 c fun h' e A' => hB A' (f1.ext e) (f2.ext e) (f3.ext e) (by omega) (by omega)) ?_ np;rintro v9 h9 ⟨q, y9, f9⟩;cases q;refine ⟨_, rfl, ?_⟩
  have z9 := y9.low e0 (fun b q => by omega)
  clear e0 y9 f3
  have e0 := z9
  refine gP ?_;apply gE;apply gS;refine gR rfl ?_;refine gO rfl rfl (ld35 rfl f9 rfl) rfl ?_;refine gP ?_;refine GoR.store rfl rfl rfl rfl rfl rfl f9 rfl sz35 rfl rfl rfl fun h10 u10 => ?_;replace f9 := u10.has f9;replace e0 := e0.upd u10 (by omega);refine gP ?_;apply gE;exact gV (ret_end (aResult_of Try.func15 rfl (aResults_c rfl f9 (inCells_agg ag35 sz35 rfl) rfl)) ⟨rfl, e0⟩)
 ·have hr : D.flowR x y = (zSp, 1) := DrainV.ok_no O
  rw [hr]
  have hbd := fun h A => attempt_bad O B b d r s h A 50
  try unfold zSp at *
  unfold dC at *
  try unfold spC at *
  have e0 : Ext h h := Ext.refl _
  refine Runs.intro aFunc15 rfl rfl rfl rfl fun rest => ?_;apply gS;refine gR rfl ?_;refine GoR.box rfl rfl rfl rfl rfl rfl fun h0 x0 f0 => ?_;have := e0.1;replace e0 := e0.trans x0;have := f0.1;refine GoR.box rfl rfl rfl rfl rfl rfl fun h1 x1 f1 => ?_;have := e0.1;have := f0.1;replace f0 := f0.ext x1;replace e0 := e0.trans x1;have := f1.1;refine GoR.box rfl rfl rfl rfl rfl rfl fun h2 x2 f2 => ?_;have := e0.1;have := f1.1;have := f0.1;replace f1 := f1.ext x2;replace f0 := f0.ext x2;replace e0 := e0.trans x2;have := f2.1;refine GoR.alloc rfl rfl rfl zt35 rfl rfl fun h3 x3 f3 => ?_;have := e0.1;have := f2.1;have := f1.1;have := f0.1;replace f0 := f0.ext x3;replace e0 := e0.trans x3;have := f3.1;refine gP ?_;apply gE;apply gS;refine gR rfl ?_;refine gO rfl rfl (ld29 rfl f0 rfl) rfl ?_;refine gP ?_;refine GoR.call rfl rfl (aCF aFunc37 rfl) (hbd _ (A.ext e0) _) ?_ np;rintro v4 h4 ⟨q, x4⟩;cases q;refine ⟨_, rfl, ?_⟩;replace f3 := f3.ext x4;replace e0 := e0.trans x4;refine gP ?_;apply gE;apply gS;refine gR rfl ?_;refine gO rfl rfl (ld35 rfl f3 rfl) rfl ?_;refine gP ?_;refine GoR.store rfl rfl rfl rfl rfl rfl f3 rfl sz35 rfl rfl rfl fun h5 u5 => ?_;replace f3 := u5.has f3;replace e0 := e0.upd u5 (by omega);refine gP ?_;apply gE;exact gV (ret_end (aResult_of Try.func15 rfl (aResults_c rfl f3 (inCells_agg ag35 sz35 rfl) rfl)) ⟨rfl, e0⟩)
theorem Breaks_ok {D : DrainV} {b d r s : AVal} {h : AH} (A : DrainAt h D b d r s) (B : DrainB D) :
  Runs Try.prog 16 [.agg (dC b d r s)] h (fun en h' => en = .ret (.tuple [.int .i64 (D.breaksR).1.1, .int .i64 (D.breaksR).1.2, .int .i64 (D.breaksR).2]) ∧ Ext h h') := by
 by_cases O : D.Ok
 ·have hB := fun {h' : AH} {br bs : Nat} (A' : DrainAt h' D b d r s) => breaksB0_ok O (b := b) (d := d) (r := r) (s := s) (h := h') (br := br) (bs := bs) A'
  unfold DrainV.breaksR
  rw [DrainV.ok_yes O]
  obtain ⟨RES, hR⟩ : ∃ RES, D.tr (((D.surely : Nat) : Int), ((D.perhaps : Nat) : Int)) zSp = RES := ⟨_, rfl⟩
  rw [hR] at hB ⊢
  obtain ⟨⟨r1, r2⟩, c⟩ := RES
  dsimp only at hB ⊢
  have hsm := A.same
  unfold dC at *
  try unfold spC at *
  have e0 : Ext h h := Ext.refl _
  refine Runs.intro aFunc16 rfl rfl rfl rfl fun rest => ?_;apply gS;refine gR rfl ?_;refine GoR.box rfl rfl rfl rfl rfl rfl fun h0 x0 f0 => ?_;have := e0.1;replace e0 := e0.trans x0;have := f0.1;refine GoR.alloc rfl rfl rfl zt3 rfl rfl fun h1 x1 f1 => ?_;have := e0.1;have := f0.1;replace f0 := f0.ext x1;replace e0 := e0.trans x1;have := f1.1;refine GoR.alloc rfl rfl rfl zt3 rfl rfl fun h2 x2 f2 => ?_;have := e0.1;have := f1.1;have := f0.1;replace f1 := f1.ext x2;replace f0 := f0.ext x2;replace e0 := e0.trans x2;have := f2.1;refine gP ?_;apply gE;apply gS;refine gR rfl ?_;refine gO rfl rfl (ld29 rfl f0 rfl) rfl ?_;refine gP ?_;refine GoR.call rfl rfl (aCF aFunc37 rfl) (attempt_two O b d r s _ (A.ext e0) 53 _ aFunc53 _ (by simp [sameA, sameAs, eqI_eq]) h0.next h1.next (by omega) (by omega) [.int .i64 r1] [.int .i64 r2] 3 3 c fun h' e A' => hB A' (f1.ext e) (f2.ext e) (by omega)) ?_ np;rintro v9 h9 ⟨q, y9, f9, f10⟩;cases q;refine ⟨_, rfl, ?_⟩
  have z9 := y9.low e0 (fun b q => by rcases q with q | q <;> omega)
  clear e0 y9 f1 f2
  have e0 := z9
  refine gP ?_;apply gE;apply gS;refine Go.drawnE plan16_0 ?_;refine gQ rfl rfl (ld3 rfl f9 rfl) rfl ?_;refine gQ rfl rfl (ld3 rfl f10 rfl) rfl ?_;refine gQ rfl rfl rfl rfl ?_;refine GoE.store rfl rfl rfl rfl (dK 1 2 (dK 1 1 (dD 1 0 rfl))) rfl rfl f9 rfl sz3 rfl rfl rfl fun h11 u11 => ?_;replace f9 := u11.has f9;replace f10 := f10.upd u11 (by omega);replace e0 := e0.upd u11 (by omega);refine ⟨(rck (h2 := h11) rfl (rfl) (rck (h2 := h11) rfl (ld3 rfl f10 rfl) recheck_nil)), ?_⟩;refine GoE.store rfl rfl rfl rfl (dK 11 2 (dD 11 1 rfl)) rfl rfl f10 rfl sz3 rfl rfl rfl fun h12 u12 => ?_;replace f9 := f9.upd u12 (by omega);replace f10 := u12.has f10;replace e0 := e0.upd u12 (by omega);refine ⟨(rck (h2 := h12) rfl (rfl) recheck_nil), ?_⟩;refine gQ rfl rfl rfl rfl ?_;refine GoE.end rfl ?_;exact gV (ret_end (aResult_of Try.func16 rfl (aResults_c rfl f9 (inCells_one ag3 rfl) (aResults_c rfl f10 (inCells_one ag3 rfl) rfl))) ⟨rfl, e0⟩)
 ·have hr : D.breaksR = (zSp, 1) := DrainV.ok_no O
  rw [hr]
  have hbd := fun h A => attempt_bad O B b d r s h A 53
  try unfold zSp at *
  unfold dC at *
  try unfold spC at *
  have e0 : Ext h h := Ext.refl _
  refine Runs.intro aFunc16 rfl rfl rfl rfl fun rest => ?_;apply gS;refine gR rfl ?_;refine GoR.box rfl rfl rfl rfl rfl rfl fun h0 x0 f0 => ?_;have := e0.1;replace e0 := e0.trans x0;have := f0.1;refine GoR.alloc rfl rfl rfl zt3 rfl rfl fun h1 x1 f1 => ?_;have := e0.1;have := f0.1;replace f0 := f0.ext x1;replace e0 := e0.trans x1;have := f1.1;refine GoR.alloc rfl rfl rfl zt3 rfl rfl fun h2 x2 f2 => ?_;have := e0.1;have := f1.1;have := f0.1;replace f1 := f1.ext x2;replace f0 := f0.ext x2;replace e0 := e0.trans x2;have := f2.1;refine gP ?_;apply gE;apply gS;refine gR rfl ?_;refine gO rfl rfl (ld29 rfl f0 rfl) rfl ?_;refine gP ?_;refine GoR.call rfl rfl (aCF aFunc37 rfl) (hbd _ (A.ext e0) _) ?_ np;rintro v3 h3 ⟨q, x3⟩;cases q;refine ⟨_, rfl, ?_⟩;replace f2 := f2.ext x3;replace f1 := f1.ext x3;replace e0 := e0.trans x3;refine gP ?_;apply gE;apply gS;refine Go.drawnE plan16_0 ?_;refine gQ rfl rfl (ld3 rfl f1 rfl) rfl ?_;refine gQ rfl rfl (ld3 rfl f2 rfl) rfl ?_;refine gQ rfl rfl rfl rfl ?_;refine GoE.store rfl rfl rfl rfl (dK 1 2 (dK 1 1 (dD 1 0 rfl))) rfl rfl f1 rfl sz3 rfl rfl rfl fun h4 u4 => ?_;replace f2 := f2.upd u4 (by omega);replace f1 := u4.has f1;replace e0 := e0.upd u4 (by omega);refine ⟨(rck (h2 := h4) rfl (rfl) (rck (h2 := h4) rfl (ld3 rfl f2 rfl) recheck_nil)), ?_⟩;refine GoE.store rfl rfl rfl rfl (dK 11 2 (dD 11 1 rfl)) rfl rfl f2 rfl sz3 rfl rfl rfl fun h5 u5 => ?_;replace f2 := u5.has f2;replace f1 := f1.upd u5 (by omega);replace e0 := e0.upd u5 (by omega);refine ⟨(rck (h2 := h5) rfl (rfl) recheck_nil), ?_⟩;refine gQ rfl rfl rfl rfl ?_;refine GoE.end rfl ?_;exact gV (ret_end (aResult_of Try.func16 rfl (aResults_c rfl f1 (inCells_one ag3 rfl) (aResults_c rfl f2 (inCells_one ag3 rfl) rfl))) ⟨rfl, e0⟩)
theorem Dig_ok {D : DrainV} {b d r s : AVal} {h : AH} (A : DrainAt h D b d r s) (B : DrainB D) (x y : Int) :
  Runs Try.prog 17 [.agg (dC b d r s), .int .i64 x, .int .i64 y] h (fun en h' => en = .ret (.tuple [.int .i64 (D.digR x y).1, .int .i64 (D.digR x y).2]) ∧ Ext h h') := by
 by_cases O : D.Ok
 ·have hB := fun {h' : AH} {b0 b1 br : Nat} (A' : DrainAt h' D b d r s) => digB0_ok O (b := b) (d := d) (r := r) (s := s) (x := x) (y := y) (h := h') (b0 := b0) (b1 := b1) (br := br) A'
  unfold DrainV.digR
  rw [DrainV.ok_yes O]
  obtain ⟨RES, hR⟩ : ∃ RES, D.pairQ x y (D.digQ x.toNat y.toNat) 0 = RES := ⟨_, rfl⟩
  rw [hR] at hB ⊢
  obtain ⟨r1, c⟩ := RES
  dsimp only at hB ⊢
  have hsm := A.same
  unfold dC at *
  try unfold spC at *
  have e0 : Ext h h := Ext.refl _
  refine Runs.intro aFunc17 rfl rfl rfl rfl fun rest => ?_;apply gS;refine gR rfl ?_;refine GoR.box rfl rfl rfl rfl rfl rfl fun h0 x0 f0 => ?_;have := e0.1;replace e0 := e0.trans x0;have := f0.1;refine GoR.box rfl rfl rfl rfl rfl rfl fun h1 x1 f1 => ?_;have := e0.1;have := f0.1;replace f0 := f0.ext x1;replace e0 := e0.trans x1;have := f1.1;refine GoR.box rfl rfl rfl rfl rfl rfl fun h2 x2 f2 => ?_;have := e0.1;have := f1.1;have := f0.1;replace f1 := f1.ext x2;replace f0 := f0.ext x2;replace e0 := e0.trans x2;have := f2.1;refine GoR.alloc rfl rfl rfl zt3 rfl rfl fun h3 x3 f3 => ?_;have := e0.1;have := f2.1;have := f1.1;have := f0.1;replace f2 := f2.ext x3;replace f1 := f1.ext x3;replace f0 := f0.ext x3;replace e0 := e0.trans x3;have := f3.1;refine gP ?_;apply gE;apply gS;refine gR rfl ?_;refine gO rfl rfl (ld29 rfl f0 rfl) rfl ?_;refine gP ?_;refine GoR.call rfl rfl (aCF aFunc37 rfl) (attempt_one O b d r s _ (A.ext e0) 55 _ aFunc55 _ (by simp [sameA, sameAs, eqI_eq]) h2.next (by omega) [.int .i64 r1] 3 c fun h' e A' => hB A' (f1.ext e) (f2.ext e) (f3.ext e) (by omega) (by omega)) ?_ np;rintro v9 h9 ⟨q, y9, f9⟩;cases q;refine ⟨_, rfl, ?_⟩
  have z9 := y9.low e0 (fun b q => by omega)
  clear e0 y9 f3
  have e0 := z9
  refine gP ?_;apply gE;apply gS;refine gR rfl ?_;refine gO rfl rfl (ld3 rfl f9 rfl) rfl ?_;refine gP ?_;refine GoR.store rfl rfl rfl rfl rfl rfl f9 rfl sz3 rfl rfl rfl fun h10 u10 => ?_;replace f9 := u10.has f9;replace e0 := e0.upd u10 (by omega);refine gP ?_;apply gE;exact gV (ret_end (aResult_of Try.func17 rfl (aResults_c rfl f9 (inCells_one ag3 rfl) rfl)) ⟨rfl, e0⟩)
 ·have hr : D.digR x y = (0, 1) := DrainV.ok_no O
  rw [hr]
  have hbd := fun h A => attempt_bad O B b d r s h A 55
  try unfold zSp at *
  unfold dC at *
  try unfold spC at *
  have e0 : Ext h h := Ext.refl _
  refine Runs.intro aFunc17 rfl rfl rfl rfl fun rest => ?_;apply gS;refine gR rfl ?_;refine GoR.box rfl rfl rfl rfl rfl rfl fun h0 x0 f0 => ?_;have := e0.1;replace e0 := e0.trans x0;have := f0.1;refine GoR.box rfl rfl rfl rfl rfl rfl fun h1 x1 f1 => ?_;have := e0.1;have := f0.1;replace f0 := f0.ext x1;replace e0 := e0.trans x1;have := f1.1;refine GoR.box rfl rfl rfl rfl rfl rfl fun h2 x2 f2 => ?_;have := e0.1;have := f1.1;have := f0.1;replace f1 := f1.ext x2;replace f0 := f0.ext x2;replace e0 := e0.trans x2;have := f2.1;refine GoR.alloc rfl rfl rfl zt3 rfl rfl fun h3 x3 f3 => ?_;have := e0.1;have := f2.1;have := f1.1;have := f0.1;replace f0 := f0.ext x3;replace e0 := e0.trans x3;have := f3.1;refine gP ?_;apply gE;apply gS;refine gR rfl ?_;refine gO rfl rfl (ld29 rfl f0 rfl) rfl ?_;refine gP ?_;refine GoR.call rfl rfl (aCF aFunc37 rfl) (hbd _ (A.ext e0) _) ?_ np;rintro v4 h4 ⟨q, x4⟩;cases q;refine ⟨_, rfl, ?_⟩;replace f3 := f3.ext x4;replace e0 := e0.trans x4;refine gP ?_;apply gE;apply gS;refine gR rfl ?_;refine gO rfl rfl (ld3 rfl f3 rfl) rfl ?_;refine gP ?_;refine GoR.store rfl rfl rfl rfl rfl rfl f3 rfl sz3 rfl rfl rfl fun h5 u5 => ?_;replace f3 := u5.has f3;replace e0 := e0.upd u5 (by omega);refine gP ?_;apply gE;exact gV (ret_end (aResult_of Try.func17 rfl (aResults_c rfl f3 (inCells_one ag3 rfl) rfl)) ⟨rfl, e0⟩)
theorem Stop_ok {D : DrainV} {b d r s : AVal} {h : AH} (A : DrainAt h D b d r s) (B : DrainB D) :
  Runs Try.prog 18 [.agg (dC b d r s)] h (fun en h' => en = .ret (.tuple [.int .i64 (D.stopR).1.1, .int .i64 (D.stopR).1.2, .int .i64 (D.stopR).2]) ∧ Ext h h') := by
 by_cases O : D.Ok
 ·have hB := fun {h' : AH} {br bs : Nat} (A' : DrainAt h' D b d r s) => stopB0_ok O (b := b) (d := d) (r := r) (s := s) (h := h') (br := br) (bs := bs) A'
  unfold DrainV.stopR
  rw [DrainV.ok_yes O]
  obtain ⟨RES, hR⟩ : ∃ RES, D.tr (((popc (stopV D) : Nat) : Int), ((stopV D : Nat) : Int)) zSp = RES := ⟨_, rfl⟩
  rw [hR] at hB ⊢
  obtain ⟨⟨r1, r2⟩, c⟩ := RES
  dsimp only at hB ⊢
  have hsm := A.same
  unfold dC at *
  try unfold spC at *
  have e0 : Ext h h := Ext.refl _
  refine Runs.intro aFunc18 rfl rfl rfl rfl fun rest => ?_;apply gS;refine gR rfl ?_;refine GoR.box rfl rfl rfl rfl rfl rfl fun h0 x0 f0 => ?_;have := e0.1;replace e0 := e0.trans x0;have := f0.1;refine GoR.alloc rfl rfl rfl zt3 rfl rfl fun h1 x1 f1 => ?_;have := e0.1;have := f0.1;replace f0 := f0.ext x1;replace e0 := e0.trans x1;have := f1.1;refine GoR.alloc rfl rfl rfl zt3 rfl rfl fun h2 x2 f2 => ?_;have := e0.1;have := f1.1;have := f0.1;replace f1 := f1.ext x2;replace f0 := f0.ext x2;replace e0 := e0.trans x2;have := f2.1;refine gP ?_;apply gE;apply gS;refine gR rfl ?_;refine gO rfl rfl (ld29 rfl f0 rfl) rfl ?_;refine gP ?_;refine GoR.call rfl rfl (aCF aFunc37 rfl) (attempt_two O b d r s _ (A.ext e0) 57 _ aFunc57 _ (by simp [sameA, sameAs, eqI_eq]) h0.next h1.next (by omega) (by omega) [.int .i64 r1] [.int .i64 r2] 3 3 c fun h' e A' => hB A' (f1.ext e) (f2.ext e) (by omega)) ?_ np;rintro v9 h9 ⟨q, y9, f9, f10⟩;cases q;refine ⟨_, rfl, ?_⟩
  have z9 := y9.low e0 (fun b q => by rcases q with q | q <;> omega)
  clear e0 y9 f1 f2
  have e0 := z9
  refine gP ?_;apply gE;apply gS;refine Go.drawnE plan18_0 ?_;refine gQ rfl rfl (ld3 rfl f9 rfl) rfl ?_;refine gQ rfl rfl (ld3 rfl f10 rfl) rfl ?_;refine gQ rfl rfl rfl rfl ?_;refine GoE.store rfl rfl rfl rfl (dK 1 2 (dK 1 1 (dD 1 0 rfl))) rfl rfl f9 rfl sz3 rfl rfl rfl fun h11 u11 => ?_;replace f9 := u11.has f9;replace f10 := f10.upd u11 (by omega);replace e0 := e0.upd u11 (by omega);refine ⟨(rck (h2 := h11) rfl (rfl) (rck (h2 := h11) rfl (ld3 rfl f10 rfl) recheck_nil)), ?_⟩;refine GoE.store rfl rfl rfl rfl (dK 11 2 (dD 11 1 rfl)) rfl rfl f10 rfl sz3 rfl rfl rfl fun h12 u12 => ?_;replace f9 := f9.upd u12 (by omega);replace f10 := u12.has f10;replace e0 := e0.upd u12 (by omega);refine ⟨(rck (h2 := h12) rfl (rfl) recheck_nil), ?_⟩;refine gQ rfl rfl rfl rfl ?_;refine GoE.end rfl ?_;exact gV (ret_end (aResult_of Try.func18 rfl (aResults_c rfl f9 (inCells_one ag3 rfl) (aResults_c rfl f10 (inCells_one ag3 rfl) rfl))) ⟨rfl, e0⟩)
 ·have hr : D.stopR = (zSp, 1) := DrainV.ok_no O
  rw [hr]
  have hbd := fun h A => attempt_bad O B b d r s h A 57
  try unfold zSp at *
  unfold dC at *
  try unfold spC at *
  have e0 : Ext h h := Ext.refl _
  refine Runs.intro aFunc18 rfl rfl rfl rfl fun rest => ?_;apply gS;refine gR rfl ?_;refine GoR.box rfl rfl rfl rfl rfl rfl fun h0 x0 f0 => ?_;have := e0.1;replace e0 := e0.trans x0;have := f0.1;refine GoR.alloc rfl rfl rfl zt3 rfl rfl fun h1 x1 f1 => ?_;have := e0.1;have := f0.1;replace f0 := f0.ext x1;replace e0 := e0.trans x1;have := f1.1;refine GoR.alloc rfl rfl rfl zt3 rfl rfl fun h2 x2 f2 => ?_;have := e0.1;have := f1.1;have := f0.1;replace f1 := f1.ext x2;replace f0 := f0.ext x2;replace e0 := e0.trans x2;have := f2.1;refine gP ?_;apply gE;apply gS;refine gR rfl ?_;refine gO rfl rfl (ld29 rfl f0 rfl) rfl ?_;refine gP ?_;refine GoR.call rfl rfl (aCF aFunc37 rfl) (hbd _ (A.ext e0) _) ?_ np;rintro v3 h3 ⟨q, x3⟩;cases q;refine ⟨_, rfl, ?_⟩;replace f2 := f2.ext x3;replace f1 := f1.ext x3;replace e0 := e0.trans x3;refine gP ?_;apply gE;apply gS;refine Go.drawnE plan18_0 ?_;refine gQ rfl rfl (ld3 rfl f1 rfl) rfl ?_;refine gQ rfl rfl (ld3 rfl f2 rfl) rfl ?_;refine gQ rfl rfl rfl rfl ?_;refine GoE.store rfl rfl rfl rfl (dK 1 2 (dK 1 1 (dD 1 0 rfl))) rfl rfl f1 rfl sz3 rfl rfl rfl fun h4 u4 => ?_;replace f2 := f2.upd u4 (by omega);replace f1 := u4.has f1;replace e0 := e0.upd u4 (by omega);refine ⟨(rck (h2 := h4) rfl (rfl) (rck (h2 := h4) rfl (ld3 rfl f2 rfl) recheck_nil)), ?_⟩;refine GoE.store rfl rfl rfl rfl (dK 11 2 (dD 11 1 rfl)) rfl rfl f2 rfl sz3 rfl rfl rfl fun h5 u5 => ?_;replace f2 := u5.has f2;replace f1 := f1.upd u5 (by omega);replace e0 := e0.upd u5 (by omega);refine ⟨(rck (h2 := h5) rfl (rfl) recheck_nil), ?_⟩;refine gQ rfl rfl rfl rfl ?_;refine GoE.end rfl ?_;exact gV (ret_end (aResult_of Try.func18 rfl (aResults_c rfl f1 (inCells_one ag3 rfl) (aResults_c rfl f2 (inCells_one ag3 rfl) rfl))) ⟨rfl, e0⟩)
theorem Clash_ok {D : DrainV} {b d r s : AVal} {h : AH} (A : DrainAt h D b d r s) (B : DrainB D) :
  Runs Try.prog 19 [.agg (dC b d r s)] h (fun en h' => en = .ret (.tuple [.int .i64 (D.clashR).1, .int .i64 (D.clashR).2]) ∧ Ext h h') := by
 by_cases O : D.Ok
 ·have hB := fun {h' : AH} {br : Nat} (A' : DrainAt h' D b d r s) => clashB0_ok O (b := b) (d := d) (r := r) (s := s) (h := h') (br := br) A'
  unfold DrainV.clashR
  rw [DrainV.ok_yes O]
  obtain ⟨RES, hR⟩ : ∃ RES, D.clashQ = RES := ⟨_, rfl⟩
  rw [hR] at hB ⊢
  obtain ⟨r1, c⟩ := RES
  dsimp only at hB ⊢
  have hsm := A.same
  unfold dC at *
  try unfold spC at *
  have e0 : Ext h h := Ext.refl _
  refine Runs.intro aFunc19 rfl rfl rfl rfl fun rest => ?_;apply gS;refine gR rfl ?_;refine GoR.box rfl rfl rfl rfl rfl rfl fun h0 x0 f0 => ?_;have := e0.1;replace e0 := e0.trans x0;have := f0.1;refine GoR.alloc rfl rfl rfl zt3 rfl rfl fun h1 x1 f1 => ?_;have := e0.1;have := f0.1;replace f0 := f0.ext x1;replace e0 := e0.trans x1;have := f1.1;refine gP ?_;apply gE;apply gS;refine gR rfl ?_;refine gO rfl rfl (ld29 rfl f0 rfl) rfl ?_;refine gP ?_;refine GoR.call rfl rfl (aCF aFunc37 rfl) (attempt_one O b d r s _ (A.ext e0) 59 _ aFunc59 _ (by simp [sameA, sameAs, eqI_eq]) h0.next (by omega) [.int .i64 r1] 3 c fun h' e A' => hB A' (f1.ext e)) ?_ np;rintro v9 h9 ⟨q, y9, f9⟩;cases q;refine ⟨_, rfl, ?_⟩
  have z9 := y9.low e0 (fun b q => by omega)
  clear e0 y9 f1
  have e0 := z9
  refine gP ?_;apply gE;apply gS;refine gR rfl ?_;refine gO rfl rfl (ld3 rfl f9 rfl) rfl ?_;refine gP ?_;refine GoR.store rfl rfl rfl rfl rfl rfl f9 rfl sz3 rfl rfl rfl fun h10 u10 => ?_;replace f9 := u10.has f9;replace e0 := e0.upd u10 (by omega);refine gP ?_;apply gE;exact gV (ret_end (aResult_of Try.func19 rfl (aResults_c rfl f9 (inCells_one ag3 rfl) rfl)) ⟨rfl, e0⟩)
 ·have hr : D.clashR = (0, 1) := DrainV.ok_no O
  rw [hr]
  have hbd := fun h A => attempt_bad O B b d r s h A 59
  try unfold zSp at *
  unfold dC at *
  try unfold spC at *
  have e0 : Ext h h := Ext.refl _
  refine Runs.intro aFunc19 rfl rfl rfl rfl fun rest => ?_;apply gS;refine gR rfl ?_;refine GoR.box rfl rfl rfl rfl rfl rfl fun h0 x0 f0 => ?_;have := e0.1;replace e0 := e0.trans x0;have := f0.1;refine GoR.alloc rfl rfl rfl zt3 rfl rfl fun h1 x1 f1 => ?_;have := e0.1;have := f0.1;replace f0 := f0.ext x1;replace e0 := e0.trans x1;have := f1.1;refine gP ?_;apply gE;apply gS;refine gR rfl ?_;refine gO rfl rfl (ld29 rfl f0 rfl) rfl ?_;refine gP ?_;refine GoR.call rfl rfl (aCF aFunc37 rfl) (hbd _ (A.ext e0) _) ?_ np;rintro v2 h2 ⟨q, x2⟩;cases q;refine ⟨_, rfl, ?_⟩;replace f1 := f1.ext x2;replace e0 := e0.trans x2;refine gP ?_;apply gE;apply gS;refine gR rfl ?_;refine gO rfl rfl (ld3 rfl f1 rfl) rfl ?_;refine gP ?_;refine GoR.store rfl rfl rfl rfl rfl rfl f1 rfl sz3 rfl rfl rfl fun h3 u3 => ?_;replace f1 := u3.has f1;replace e0 := e0.upd u3 (by omega);refine gP ?_;apply gE;exact gV (ret_end (aResult_of Try.func19 rfl (aResults_c rfl f1 (inCells_one ag3 rfl) rfl)) ⟨rfl, e0⟩)
end Go.Proofs.Ytkhiagdmbajimaa
