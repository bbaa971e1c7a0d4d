import Derived.Test.YtkhiagdmbajimaaMAN
import Derived.Test.YtkhiagdmbajimaaMAG
namespace Go.Proofs.Ytkhiagdmbajimaa
open Go Go.AbsE
set_option linter.unusedSimpArgs false
set_option maxRecDepth 100000
set_option maxHeartbeats 0
set_option linter.unusedVariables false
theorem mem_subs {n s : Nat} (h : s ∈ subs n) : s < 2 ^ n := by
 unfold subs subA at h
 obtain ⟨j, _, h⟩ := List.mem_flatMap.1 h
 unfold subB at h
 exact List.mem_range.1 (List.mem_filter.1 h).1
def stopV (D : DrainV) : Nat := ((subs D.ds.length).find? fun st => decide (D.keeps D.truths (D.course st) = 2)).getD 0
theorem stop_lt {D : DrainV} (O : D.Ok) : stopV D < 1024 := by
 unfold stopV
 cases q : (subs D.ds.length).find? fun st => decide (D.keeps D.truths (D.course st) = 2) with
 | none => rw [Option.getD_none]; omega
 | some st =>
  have h1 := mem_subs (List.mem_of_find?_eq_some q)
  have h2 : 2 ^ D.ds.length ≤ 2 ^ 7 := Nat.pow_le_pow_right (by omega) O.nd
  rw [Option.getD_some]
  omega
theorem stopB_ok {D : DrainV} (O : D.Ok) (hT : D.truths ≠ []) {b d r s : AVal} {h : AH} (A : DrainAt h D b d r s) : Runs Try.prog 58 [.agg (dC b d r s)] h (fun en h' => en = .ret (.tuple [.int .i64 ((popc (stopV D) : Nat) : Int), .int .i64 ((stopV D : Nat) : Int)]) ∧ Ext h h') := by
 have hsm := A.same
 have hnd := O.nd
 have hl2 := A.ds.len
 rw [List.length_map] at hl2
 have htr := fun h A => truths_yes O hT (b := b) (d := d) (r := r) (s := s) (h := h) A
 have hsu := fun h => subsets_ok (n := D.ds.length) (by omega) (h := h)
 have hsl := (subs_nodup (n := D.ds.length) (by omega)).2
 have hst := stop_lt O
 have hfi := fun {h' : AH} {sl : AVal} {lo bb bk bm : Nat} {KT : KV} (e : Ext h h') (hK : KT.map (fun x => x.1) = D.truths) (K : KnownAt D h' bm b KT) (f : Has h' bb (.cells .plain [b, d, r, s] 71)) (f2 : Has h' bk (.cells .plain [.map bm] 74)) (G : Grow h' 3 1 lo sl (subs D.ds.length).length (natsV (subs D.ds.length))) => first_ok (L := subs D.ds.length) (sl := sl) (h := h') (by omega) aFunc79 [.ptr bb 0, .ptr bk 0] (fun st => decide (D.keeps D.truths (D.course st) = 2)) (nats_slice G) rfl fun x h'' hx e' => keepsR_ok O ((A.ext e).ext e') hK (K.ext e') (f.ext e') (f2.ext e')
 have hsv : ((subs D.ds.length).find? fun st => decide (D.keeps D.truths (D.course st) = 2)).getD 0 = stopV D := rfl
 rw [hsv] at hfi
 obtain ⟨w, hw⟩ : ∃ w, stopV D = w := ⟨_, rfl⟩
 rw [hw] at hfi hst ⊢
 have hon := fun h => ones81_ok hst (h := h)
 unfold dC at *
 have e0 : Ext h h := Ext.refl _
 refine Runs.intro aFunc58 rfl rfl rfl rfl fun rest => ?_;apply gS;refine gR rfl ?_;refine GoR.box rfl rfl rfl rfl rfl rfl fun h0 x0 f0 => ?_;have := e0.1;replace e0 := e0.trans x0;have := f0.1;iterate 2 refine gP ?_
 apply gE;apply gS;refine gR rfl ?_;refine gO rfl rfl (ld71 rfl f0 rfl) rfl ?_;refine GoR.call rfl rfl (aCF aFunc40 rfl) (htr _ (A.ext e0)) ?_ (by rintro _ _ ⟨bm, KT, q, hKT, _, hbm, KK, e7⟩; cases q);rintro v1 h1 ⟨bm, KT, q, hKT, x1, hbm, KK, e7⟩;cases q;refine ⟨_, rfl, ?_⟩;have := e0.1;replace f0 := f0.ext x1;replace e0 := e0.trans x1;refine GoR.alloc rfl rfl rfl zt74 rfl rfl fun h2 x2 f2 => ?_;have := e7.1;have := e0.1;have := f0.1;replace f0 := f0.ext x2;replace e7 := e7.trans x2;replace e0 := e0.trans x2;have := f2.1;refine GoR.store rfl rfl rfl rfl rfl rfl f2 rfl sz74 rfl rfl rfl fun h3 u3 => ?_;replace f2 := u3.has f2;replace f0 := f0.upd u3 (by omega);replace e7 := e7.upd u3 (by omega);replace e0 := e0.upd u3 (by omega);apply gE;apply gS;refine gR rfl ?_;refine gO rfl rfl (fa71_1 rfl) rfl ?_;refine gO rfl rfl (ld26 rfl f0 rfl) rfl ?_;refine gO rfl rfl (aOp_lenSlice Try.underlying26 rfl hl2) rfl ?_;refine GoR.call rfl rfl (aCF aFunc78 rfl) (hsu _) ?_ (by rintro _ _ ⟨sl, q, _, G⟩; cases q);rintro v4 h4 ⟨sl, q, x4, G⟩;cases q;refine ⟨_, rfl, ?_⟩;replace f2 := f2.ext x4;replace f0 := f0.ext x4;replace e7 := e7.trans x4;replace e0 := e0.trans x4;refine gP ?_;refine gO rfl rfl (aOp_build zt112 hu112 pl112 rfl rfl) rfl ?_;refine GoR.call rfl rfl (aCF aFunc77 rfl) (hfi e0 hKT (KK.ext e7) (by assumption) (by assumption) G) ?_ np;rintro v5 h5 ⟨q, x5⟩;cases q;refine ⟨_, rfl, ?_⟩;replace e0 := e0.trans x5;iterate 4 refine gP ?_
 apply gE;apply gS;refine gR rfl ?_;refine gP ?_;refine gO rfl rfl (aOp_convU64 rfl Try.underlying3 Try.underlying114 (by omega)) rfl ?_;refine GoR.call rfl rfl (aCF aFunc81 rfl) (hon _) ?_ np;rintro v6 h6 ⟨q, x6⟩;cases q;refine ⟨_, rfl, ?_⟩;replace e0 := e0.trans x6;iterate 3 refine gP ?_
 apply gE;exact gW Try.func58 rfl rfl ⟨rfl, e0⟩
theorem bits_app (p : RtV → Bool) : ∀ (A B : List RtV) (k : Nat), bitsFrom p k (A ++ B) = bitsFrom p k A ||| bitsFrom p (k + A.length) B
 | [], B, k => by
  show bitsFrom p k B = 0 ||| _
  rw [Nat.zero_or]
  rfl
 | x :: A, B, k => by
  have ih := bits_app p A B (k + 1)
  rw [show k + 1 + A.length = k + (x :: A).length by rw [List.length_cons]; omega] at ih
  show _ ||| bitsFrom p (k + 1) (A ++ B) = (_ ||| bitsFrom p (k + 1) A) ||| _
  rw [ih, Nat.or_assoc]
theorem bits_take {p : RtV → Bool} {L : List RtV} {i : Nat} {x : RtV} (hx : L[i]? = some x) : bitsFrom p 0 (L.take (i + 1)) = bitsFrom p 0 (L.take i) ||| (if p x = true then 2 ^ i else 0) := by
 have hl := (List.getElem?_eq_some_iff.1 hx).1
 rw [List.take_add_one, hx, Option.toList_some, bits_app, Nat.zero_add, List.length_take, Nat.min_eq_left (by omega)]
 congr 1
 show _ ||| 0 = _
 rw [Nat.or_zero]
theorem bits_lt {p : RtV → Bool} : ∀ {L : List RtV} {k : Nat}, bitsFrom p k L < 2 ^ (k + L.length)
 | [], k => Nat.two_pow_pos _
 | x :: L, k => by
  have ih := bits_lt (p := p) (L := L) (k := k + 1)
  rw [show k + 1 + L.length = k + (x :: L).length by rw [List.length_cons]; omega] at ih
  show _ ||| bitsFrom p (k + 1) L < _
  refine Nat.or_lt_two_pow ?_ ih
  have h2 : 2 ^ k < 2 ^ (k + (x :: L).length) := Nat.pow_lt_pow_right (by omega) (by rw [List.length_cons]; omega)
  split
  ·exact h2
  ·omega
theorem breaksB_ok {D : DrainV} (O : D.Ok) (hT : D.truths ≠ []) {b d r s : AVal} {h : AH} (A : DrainAt h D b d r s) : Runs Try.prog 54 [.agg (dC b d r s)] h (fun en h' => en = .ret (.tuple [.int .i64 ((D.surely : Nat) : Int), .int .i64 ((D.perhaps : Nat) : Int)]) ∧ Ext h h') := by
 have hsm := A.same
 have hnr := O.nr
 have hl3 := A.rs.len
 rw [List.length_map] at hl3
 have htr := fun h A => truths_yes O hT (b := b) (d := d) (r := r) (s := s) (h := h) A
 obtain ⟨p1, hp1⟩ : ∃ p : RtV → Bool, p = fun r => decide (r.m < (D.flow r.o.toNat r.t.toNat).1) := ⟨_, rfl⟩
 obtain ⟨p2, hp2⟩ : ∃ p : RtV → Bool, p = fun r => decide (r.m < (D.flow r.o.toNat r.t.toNat).2) := ⟨_, rfl⟩
 have h1 : D.surely = bitsFrom p1 0 D.rs := by rw [hp1]; rfl
 have h2 : D.perhaps = bitsFrom p2 0 D.rs := by rw [hp2]; rfl
 rw [h1, h2]
 unfold dC at *
 have e0 : Ext h h := Ext.refl _
 refine Runs.intro aFunc54 rfl rfl rfl rfl fun rest => ?_;apply gS;refine gR rfl ?_;refine GoR.box rfl rfl rfl rfl rfl rfl fun h3 x3 f3 => ?_;have := e0.1;replace e0 := e0.trans x3;have := f3.1;iterate 2 refine gP ?_
 apply gE;apply gS;refine gR rfl ?_;refine gO rfl rfl (ld71 rfl f3 rfl) rfl ?_;refine GoR.call rfl rfl (aCF aFunc40 rfl) (htr _ (A.ext e0)) ?_ (by rintro _ _ ⟨bm, KT, q, hKT, _, hbm, KK, e7⟩; cases q);rintro v4 h4 ⟨bm, KT, q, hKT, x4, hbm, KK, e7⟩;cases q;refine ⟨_, rfl, ?_⟩;have := e0.1;replace f3 := f3.ext x4;replace e0 := e0.trans x4;refine gP ?_;apply gE;iterate 2 apply gS
 refine gR rfl ?_;refine gO rfl rfl (fa71_2 rfl) rfl ?_;refine gO rfl rfl (ld27 rfl f3 rfl) rfl ?_;refine gO rfl rfl (aOp_lenSlice Try.underlying27 rfl hl3) rfl ?_;refine gP ?_;apply gE;refine Go.block noJ_ok ?_
 refine Go.loopKeep (fun i : Nat => [(2, .int .i64 ((bitsFrom p1 0 (D.rs.take i) : Nat) : Int)), (3, .int .i64 ((bitsFrom p2 0 (D.rs.take i) : Nat) : Int)), (4, .map bm), (11, r), (12, .int .i64 D.rs.length), (13, .int .i64 (i : Nat))])
  (fun m i h' => m + i = D.rs.length ∧ Ext h h' ∧ Ext h4 h') (n := D.rs.length) 0 ⟨rfl, rfl, rfl, rfl, rfl, rfl, trivial⟩ ⟨rfl, e0, e7⟩ ?_
 clear e0 e7 f3;rintro m i h9 ⟨hm, e0, e7⟩ again
 by_cases hi : i < D.rs.length
 ·obtain ⟨⟨ro, rt, rm⟩, hx⟩ : ∃ x, D.rs[i]? = some x := ⟨D.rs[i], by simp [hi]⟩
  obtain ⟨bq, off, q1, q2⟩ := A.rs.at (i := i) (l := RtV.cells ⟨ro, rt, rm⟩) (by rw [List.getElem?_map, hx]; rfl)
  rw [List.length_map] at q1
  have hro := O.r _ (List.mem_of_getElem? hx)
  unfold RtV.Ok PairOk at hro
  dsimp only at hro
  obtain ⟨o, rfl⟩ := Int.eq_ofNat_of_zero_le hro.1.1.1
  obtain ⟨p, rfl⟩ := Int.eq_ofNat_of_zero_le hro.1.2.1.1
  unfold RtV.cells at q2
  dsimp only at q2
  have hfl := fun {h' : AH} (e : Ext h h') (e' : Ext h4 h') => flow_ok O hKT (KK.ext e') (A.bs.ext e) (a := o) (to := p) (by omega) (by omega)
  have t1 := bits_take (p := p1) hx
  have t2 := bits_take (p := p2) hx
  have hq1 : p1 ⟨(o : Int), (p : Int), rm⟩ = decide (rm < (D.flow o p).1) := by rw [hp1]; dsimp only; rw [Int.toNat_natCast, Int.toNat_natCast]
  have hq2 : p2 ⟨(o : Int), (p : Int), rm⟩ = decide (rm < (D.flow o p).2) := by rw [hp2]; dsimp only; rw [Int.toNat_natCast, Int.toNat_natCast]
  rw [hq1] at t1;rw [hq2] at t2
  obtain ⟨⟨w1, w2⟩, hw⟩ : ∃ w, D.flow o p = w := ⟨_, rfl⟩
  rw [hw] at t1 t2 hfl
  unfold spC at hfl
  dsimp only at t1 t2 hfl
  have b1 := bits_lt (p := p1) (L := D.rs.take i) (k := 0)
  have b2 := bits_lt (p := p2) (L := D.rs.take i) (k := 0)
  have hln : (D.rs.take i).length ≤ 4 := by rw [List.length_take]; omega
  have hp2' : 2 ^ (0 + (D.rs.take i).length) ≤ 16 := Nat.pow_le_pow_right (n := 2) (j := 4) (by omega) (by omega)
  have hpw : (1 : Int) * 2 ^ i = ((2 ^ i : Nat) : Int) := by simp
  have hpl : 2 ^ i ≤ 16 := Nat.pow_le_pow_right (n := 2) (j := 4) (by omega) (by omega)
  obtain ⟨a1, ha1⟩ : ∃ a, bitsFrom p1 0 (D.rs.take i) = a := ⟨_, rfl⟩
  obtain ⟨a2, ha2⟩ : ∃ a, bitsFrom p2 0 (D.rs.take i) = a := ⟨_, rfl⟩
  obtain ⟨pw, hpw0⟩ : ∃ a, 2 ^ i = a := ⟨_, rfl⟩
  rw [ha1] at t1 b1 ⊢;rw [ha2] at t2 b2 ⊢;rw [hpw0] at t1 t2 hpl hpw
  obtain ⟨r1, hr1⟩ : ∃ a, a1 ||| pw = a := ⟨_, rfl⟩
  obtain ⟨r2, hr2⟩ : ∃ a, a2 ||| pw = a := ⟨_, rfl⟩
  by_cases d1 : decide (rm < w1) = true
  ·have c1 := of_decide_eq_true d1
   by_cases d2 : decide (rm < w2) = true
   ·have c2 := of_decide_eq_true d2
    rw [if_pos d1, hr1] at t1;rw [if_pos d2, hr2] at t2;apply gS;refine gR rfl ?_;refine gO rfl rfl (kLT rfl rfl) rfl ?_;apply gE;apply gS;refine gC (b := true) rfl ?_;refine gD ?_;apply gS;refine Go.block noJ_ok ?_;apply gS;refine gR rfl ?_;refine gP ?_;refine gO rfl rfl (aOp_indexAddr (i := i) Try.underlying27 sz57 rfl q1 rfl (Nat.ble_eq_true_of_le hi)) rfl ?_;refine gO rfl rfl (aOp_loadE ag57 sz57 rfl (q2.ext e0)) rfl ?_;refine GoR.alloc rfl rfl rfl zt57 rfl rfl fun h10 x10 f10 => ?_;have := e0.1;have := e7.1;replace e0 := e0.trans x10;replace e7 := e7.trans x10;have := f10.1;refine gP ?_;refine GoR.store rfl rfl rfl rfl rfl rfl f10 rfl sz57 rfl rfl rfl fun h11 u11 => ?_;replace f10 := u11.has f10;replace e0 := e0.upd u11 (by omega);replace e7 := e7.upd u11 (by omega);apply gE;apply gS;refine gR rfl ?_;refine gP ?_;refine gO rfl rfl (fa57_0 rfl) rfl ?_;refine gO rfl rfl (ld3 rfl f10 rfl) rfl ?_;refine gO rfl rfl (fa57_1 rfl) rfl ?_;refine gO rfl rfl (ld3 rfl f10 rfl) rfl ?_;refine GoR.call rfl rfl (aCF aFunc52 rfl) (hfl e0 e7) ?_ np;rintro v12 h12 ⟨q, x12⟩;cases q;refine ⟨_, rfl, ?_⟩;replace f10 := f10.ext x12;replace e0 := e0.trans x12;replace e7 := e7.trans x12;refine GoR.alloc rfl rfl rfl zt35 rfl rfl fun h13 x13 f13 => ?_;have := e0.1;have := e7.1;have := f10.1;replace f10 := f10.ext x13;replace e0 := e0.trans x13;replace e7 := e7.trans x13;have := f13.1;refine GoR.store rfl rfl rfl rfl rfl rfl f13 rfl sz35 rfl rfl rfl fun h14 u14 => ?_;replace f13 := u14.has f13;replace f10 := f10.upd u14 (by omega);replace e0 := e0.upd u14 (by omega);replace e7 := e7.upd u14 (by omega);apply gE;iterate 2 apply gS
    refine gR rfl ?_;refine gO rfl rfl (fa35_0 rfl) rfl ?_;refine gO rfl rfl (ld3 rfl f13 rfl) rfl ?_;refine gO rfl rfl (fa57_2 rfl) rfl ?_;refine gO rfl rfl (ld3 rfl f10 rfl) rfl ?_;refine gO rfl rfl (kGT rfl rfl) rfl ?_;apply gE;refine gC (b := true) rfl ?_;refine gR rfl ?_;iterate 2 refine gP ?_
    refine gO rfl rfl (aOp_shl rfl rfl (i := i) (by omega) hpw (by omega)) rfl ?_;refine gO rfl rfl (aOp_orNat (a := a1) (b := pw) rfl rfl (by omega) (by omega) hr1) rfl ?_;refine gP ?_;apply gE;apply gS;refine gR rfl ?_;refine gO rfl rfl (fa35_1 rfl) rfl ?_;refine gO rfl rfl (ld3 rfl f13 rfl) rfl ?_;refine gO rfl rfl (fa57_2 rfl) rfl ?_;refine gO rfl rfl (ld3 rfl f10 rfl) rfl ?_;refine gO rfl rfl (kGT rfl rfl) rfl ?_;apply gE;refine gC (b := true) rfl ?_;refine gR rfl ?_;iterate 2 refine gP ?_
    refine gO rfl rfl (aOp_shl rfl rfl (i := i) (by omega) hpw (by omega)) rfl ?_;refine gO rfl rfl (aOp_orNat (a := a2) (b := pw) rfl rfl (by omega) (by omega) hr2) rfl ?_;refine gP ?_;apply gE;refine Go.inBlock noJ_ok ?_;refine gR rfl ?_;refine gO rfl rfl (aA rfl rfl) rfl ?_;refine gP ?_;apply gE;exact again (m - 1) (i + 1) _ _ (by omega) ⟨by show _ = some (AVal.int .i64 ((bitsFrom p1 0 (D.rs.take (i + 1)) : Nat) : Int)); rw [t1]; rfl, by show _ = some (AVal.int .i64 ((bitsFrom p2 0 (D.rs.take (i + 1)) : Nat) : Int)); rw [t2]; rfl, rfl, rfl, rfl, rfl, trivial⟩ ⟨by omega, e0, e7⟩
   ·have c2 : ¬ rm < w2 := fun q => d2 (decide_eq_true q)
    rw [if_pos d1, hr1] at t1;rw [if_neg d2, Nat.or_zero] at t2;apply gS;refine gR rfl ?_;refine gO rfl rfl (kLT rfl rfl) rfl ?_;apply gE;apply gS;refine gC (b := true) rfl ?_;refine gD ?_;apply gS;refine Go.block noJ_ok ?_;apply gS;refine gR rfl ?_;refine gP ?_;refine gO rfl rfl (aOp_indexAddr (i := i) Try.underlying27 sz57 rfl q1 rfl (Nat.ble_eq_true_of_le hi)) rfl ?_;refine gO rfl rfl (aOp_loadE ag57 sz57 rfl (q2.ext e0)) rfl ?_;refine GoR.alloc rfl rfl rfl zt57 rfl rfl fun h10 x10 f10 => ?_;have := e0.1;have := e7.1;replace e0 := e0.trans x10;replace e7 := e7.trans x10;have := f10.1;refine gP ?_;refine GoR.store rfl rfl rfl rfl rfl rfl f10 rfl sz57 rfl rfl rfl fun h11 u11 => ?_;replace f10 := u11.has f10;replace e0 := e0.upd u11 (by omega);replace e7 := e7.upd u11 (by omega);apply gE;apply gS;refine gR rfl ?_;refine gP ?_;refine gO rfl rfl (fa57_0 rfl) rfl ?_;refine gO rfl rfl (ld3 rfl f10 rfl) rfl ?_;refine gO rfl rfl (fa57_1 rfl) rfl ?_;refine gO rfl rfl (ld3 rfl f10 rfl) rfl ?_;refine GoR.call rfl rfl (aCF aFunc52 rfl) (hfl e0 e7) ?_ np;rintro v12 h12 ⟨q, x12⟩;cases q;refine ⟨_, rfl, ?_⟩;replace f10 := f10.ext x12;replace e0 := e0.trans x12;replace e7 := e7.trans x12;refine GoR.alloc rfl rfl rfl zt35 rfl rfl fun h13 x13 f13 => ?_;have := e0.1;have := e7.1;have := f10.1;replace f10 := f10.ext x13;replace e0 := e0.trans x13;replace e7 := e7.trans x13;have := f13.1;refine GoR.store rfl rfl rfl rfl rfl rfl f13 rfl sz35 rfl rfl rfl fun h14 u14 => ?_;replace f13 := u14.has f13;replace f10 := f10.upd u14 (by omega);replace e0 := e0.upd u14 (by omega);replace e7 := e7.upd u14 (by omega);apply gE;iterate 2 apply gS
    refine gR rfl ?_;refine gO rfl rfl (fa35_0 rfl) rfl ?_;refine gO rfl rfl (ld3 rfl f13 rfl) rfl ?_;refine gO rfl rfl (fa57_2 rfl) rfl ?_;refine gO rfl rfl (ld3 rfl f10 rfl) rfl ?_;refine gO rfl rfl (kGT rfl rfl) rfl ?_;apply gE;refine gC (b := true) rfl ?_;refine gR rfl ?_;iterate 2 refine gP ?_
    refine gO rfl rfl (aOp_shl rfl rfl (i := i) (by omega) hpw (by omega)) rfl ?_;refine gO rfl rfl (aOp_orNat (a := a1) (b := pw) rfl rfl (by omega) (by omega) hr1) rfl ?_;refine gP ?_;apply gE;apply gS;refine gR rfl ?_;refine gO rfl rfl (fa35_1 rfl) rfl ?_;refine gO rfl rfl (ld3 rfl f13 rfl) rfl ?_;refine gO rfl rfl (fa57_2 rfl) rfl ?_;refine gO rfl rfl (ld3 rfl f10 rfl) rfl ?_;refine gO rfl rfl (kGF rfl rfl) rfl ?_;apply gE;refine gC (b := false) rfl ?_;refine gD ?_;refine Go.inBlock noJ_ok ?_;refine gR rfl ?_;refine gO rfl rfl (aA rfl rfl) rfl ?_;refine gP ?_;apply gE;exact again (m - 1) (i + 1) _ _ (by omega) ⟨by show _ = some (AVal.int .i64 ((bitsFrom p1 0 (D.rs.take (i + 1)) : Nat) : Int)); rw [t1]; rfl, by show _ = some (AVal.int .i64 ((bitsFrom p2 0 (D.rs.take (i + 1)) : Nat) : Int)); rw [t2]; rfl, rfl, rfl, rfl, rfl, trivial⟩ ⟨by omega, e0, e7⟩
  ·have c1 : ¬ rm < w1 := fun q => d1 (decide_eq_true q)
   by_cases d2 : decide (rm < w2) = true
   ·have c2 := of_decide_eq_true d2
    rw [if_neg d1, Nat.or_zero] at t1;rw [if_pos d2, hr2] at t2;apply gS;refine gR rfl ?_;refine gO rfl rfl (kLT rfl rfl) rfl ?_;apply gE;apply gS;refine gC (b := true) rfl ?_;refine gD ?_;apply gS;refine Go.block noJ_ok ?_;apply gS;refine gR rfl ?_;refine gP ?_;refine gO rfl rfl (aOp_indexAddr (i := i) Try.underlying27 sz57 rfl q1 rfl (Nat.ble_eq_true_of_le hi)) rfl ?_;refine gO rfl rfl (aOp_loadE ag57 sz57 rfl (q2.ext e0)) rfl ?_;refine GoR.alloc rfl rfl rfl zt57 rfl rfl fun h10 x10 f10 => ?_;have := e0.1;have := e7.1;replace e0 := e0.trans x10;replace e7 := e7.trans x10;have := f10.1;refine gP ?_;refine GoR.store rfl rfl rfl rfl rfl rfl f10 rfl sz57 rfl rfl rfl fun h11 u11 => ?_;replace f10 := u11.has f10;replace e0 := e0.upd u11 (by omega);replace e7 := e7.upd u11 (by omega);apply gE;apply gS;refine gR rfl ?_;refine gP ?_;refine gO rfl rfl (fa57_0 rfl) rfl ?_;refine gO rfl rfl (ld3 rfl f10 rfl) rfl ?_;refine gO rfl rfl (fa57_1 rfl) rfl ?_;refine gO rfl rfl (ld3 rfl f10 rfl) rfl ?_;refine GoR.call rfl rfl (aCF aFunc52 rfl) (hfl e0 e7) ?_ np;rintro v12 h12 ⟨q, x12⟩;cases q;refine ⟨_, rfl, ?_⟩;replace f10 := f10.ext x12;replace e0 := e0.trans x12;replace e7 := e7.trans x12;refine GoR.alloc rfl rfl rfl zt35 rfl rfl fun h13 x13 f13 => ?_;have := e0.1;have := e7.1;have := f10.1;replace f10 := f10.ext x13;replace e0 := e0.trans x13;replace e7 := e7.trans x13;have := f13.1;refine GoR.store rfl rfl rfl rfl rfl rfl f13 rfl sz35 rfl rfl rfl fun h14 u14 => ?_;replace f13 := u14.has f13;replace f10 := f10.upd u14 (by omega);replace e0 := e0.upd u14 (by omega);replace e7 := e7.upd u14 (by omega);apply gE;iterate 2 apply gS
    refine gR rfl ?_;refine gO rfl rfl (fa35_0 rfl) rfl ?_;refine gO rfl rfl (ld3 rfl f13 rfl) rfl ?_;refine gO rfl rfl (fa57_2 rfl) rfl ?_;refine gO rfl rfl (ld3 rfl f10 rfl) rfl ?_;refine gO rfl rfl (kGF rfl rfl) rfl ?_;apply gE;refine gC (b := false) rfl ?_;refine gD ?_;apply gS;refine gR rfl ?_;refine gO rfl rfl (fa35_1 rfl) rfl ?_;refine gO rfl rfl (ld3 rfl f13 rfl) rfl ?_;refine gO rfl rfl (fa57_2 rfl) rfl ?_;refine gO rfl rfl (ld3 rfl f10 rfl) rfl ?_;refine gO rfl rfl (kGT rfl rfl) rfl ?_;apply gE;refine gC (b := true) rfl ?_;refine gR rfl ?_;iterate 2 refine gP ?_
    refine gO rfl rfl (aOp_shl rfl rfl (i := i) (by omega) hpw (by omega)) rfl ?_;refine gO rfl rfl (aOp_orNat (a := a2) (b := pw) rfl rfl (by omega) (by omega) hr2) rfl ?_;refine gP ?_;apply gE;refine Go.inBlock noJ_ok ?_;refine gR rfl ?_;refine gO rfl rfl (aA rfl rfl) rfl ?_;refine gP ?_;apply gE;exact again (m - 1) (i + 1) _ _ (by omega) ⟨by show _ = some (AVal.int .i64 ((bitsFrom p1 0 (D.rs.take (i + 1)) : Nat) : Int)); rw [t1]; rfl, by show _ = some (AVal.int .i64 ((bitsFrom p2 0 (D.rs.take (i + 1)) : Nat) : Int)); rw [t2]; rfl, rfl, rfl, rfl, rfl, trivial⟩ ⟨by omega, e0, e7⟩
   ·have c2 : ¬ rm < w2 := fun q => d2 (decide_eq_true q)
    rw [if_neg d1, Nat.or_zero] at t1;rw [if_neg d2, Nat.or_zero] at t2;apply gS;refine gR rfl ?_;refine gO rfl rfl (kLT rfl rfl) rfl ?_;apply gE;apply gS;refine gC (b := true) rfl ?_;refine gD ?_;apply gS;refine Go.block noJ_ok ?_;apply gS;refine gR rfl ?_;refine gP ?_;refine gO rfl rfl (aOp_indexAddr (i := i) Try.underlying27 sz57 rfl q1 rfl (Nat.ble_eq_true_of_le hi)) rfl ?_;refine gO rfl rfl (aOp_loadE ag57 sz57 rfl (q2.ext e0)) rfl ?_;refine GoR.alloc rfl rfl rfl zt57 rfl rfl fun h10 x10 f10 => ?_;have := e0.1;have := e7.1;replace e0 := e0.trans x10;replace e7 := e7.trans x10;have := f10.1;refine gP ?_;refine GoR.store rfl rfl rfl rfl rfl rfl f10 rfl sz57 rfl rfl rfl fun h11 u11 => ?_;replace f10 := u11.has f10;replace e0 := e0.upd u11 (by omega);replace e7 := e7.upd u11 (by omega);apply gE;apply gS;refine gR rfl ?_;refine gP ?_;refine gO rfl rfl (fa57_0 rfl) rfl ?_;refine gO rfl rfl (ld3 rfl f10 rfl) rfl ?_;refine gO rfl rfl (fa57_1 rfl) rfl ?_;refine gO rfl rfl (ld3 rfl f10 rfl) rfl ?_;refine GoR.call rfl rfl (aCF aFunc52 rfl) (hfl e0 e7) ?_ np;rintro v12 h12 ⟨q, x12⟩;cases q;refine ⟨_, rfl, ?_⟩;replace f10 := f10.ext x12;replace e0 := e0.trans x12;replace e7 := e7.trans x12;refine GoR.alloc rfl rfl rfl zt35 rfl rfl fun h13 x13 f13 => ?_;have := e0.1;have := e7.1;have := f10.1;replace f10 := f10.ext x13;replace e0 := e0.trans x13;replace e7 := e7.trans x13;have := f13.1;refine GoR.store rfl rfl rfl rfl rfl rfl f13 rfl sz35 rfl rfl rfl fun h14 u14 => ?_;replace f13 := u14.has f13;replace f10 := f10.upd u14 (by omega);replace e0 := e0.upd u14 (by omega);replace e7 := e7.upd u14 (by omega);apply gE;iterate 2 apply gS
    refine gR rfl ?_;refine gO rfl rfl (fa35_0 rfl) rfl ?_;refine gO rfl rfl (ld3 rfl f13 rfl) rfl ?_;refine gO rfl rfl (fa57_2 rfl) rfl ?_;refine gO rfl rfl (ld3 rfl f10 rfl) rfl ?_;refine gO rfl rfl (kGF rfl rfl) rfl ?_;apply gE;refine gC (b := false) rfl ?_;refine gD ?_;apply gS;refine gR rfl ?_;refine gO rfl rfl (fa35_1 rfl) rfl ?_;refine gO rfl rfl (ld3 rfl f13 rfl) rfl ?_;refine gO rfl rfl (fa57_2 rfl) rfl ?_;refine gO rfl rfl (ld3 rfl f10 rfl) rfl ?_;refine gO rfl rfl (kGF rfl rfl) rfl ?_;apply gE;refine gC (b := false) rfl ?_;refine gD ?_;refine Go.inBlock noJ_ok ?_;refine gR rfl ?_;refine gO rfl rfl (aA rfl rfl) rfl ?_;refine gP ?_;apply gE;exact again (m - 1) (i + 1) _ _ (by omega) ⟨by show _ = some (AVal.int .i64 ((bitsFrom p1 0 (D.rs.take (i + 1)) : Nat) : Int)); rw [t1]; rfl, by show _ = some (AVal.int .i64 ((bitsFrom p2 0 (D.rs.take (i + 1)) : Nat) : Int)); rw [t2]; rfl, rfl, rfl, rfl, rfl, trivial⟩ ⟨by omega, e0, e7⟩
 ·rw [List.take_of_length_le (by omega)];apply gS;refine gR rfl ?_;refine gO rfl rfl (kLF rfl rfl) rfl ?_;apply gE;apply gS;refine gC (b := false) rfl ?_;refine gD ?_;apply gS;refine gR rfl ?_;iterate 4 refine gP ?_
  apply gE;exact gW Try.func54 rfl rfl ⟨rfl, e0⟩
theorem way_len : ∀ L : List (Int × Int), (L.flatMap spC).length = L.length * 2
 | [] => rfl
 | x :: L => by rw [List.flatMap_cons, List.length_append, way_len L, List.length_cons, Nat.add_mul]; show 2 + _ = _; omega
theorem way_scal : ∀ L : List (Int × Int), scalars (L.flatMap spC) = true
 | [] => rfl
 | x :: L => by
  have := way_scal L
  show cond true (cond true (scalars (L.flatMap spC)) false) false = true
  rw [this]
  rfl
theorem digB_ok {D : DrainV} (O : D.Ok) (hT : D.truths ≠ []) {b d r s : AVal} {x y : Nat} {h : AH} (A : DrainAt h D b d r s) : Runs Try.prog 56 [.agg (dC b d r s), .agg (spC ((x : Int), (y : Int)))] h (fun en h' => en = (if D.ds.length = 7 then .pan (refusal 9) else .ret (.int .i64 (D.keeps D.truths ((D.dug x y).course 0)))) ∧ Ext h h') := by
 have hsm := A.same
 have hsm1 := A.ds.same
 have hnd := O.nd
 have hl2 := A.ds.len
 rw [List.length_map] at hl2
 have htr := fun h A => truths_yes O hT (b := b) (d := d) (r := r) (s := s) (h := h) A
 unfold dC at *
 unfold spC
 by_cases c1 : D.ds.length = 7
 ·rw [if_pos c1]
  have e0 : Ext h h := Ext.refl _
  refine Runs.intro aFunc56 rfl rfl rfl rfl fun rest => ?_;apply gS;refine gR rfl ?_;refine GoR.box rfl rfl rfl rfl rfl rfl fun h0 x0 f0 => ?_;have := e0.1;replace e0 := e0.trans x0;have := f0.1;refine GoR.box rfl rfl rfl rfl rfl rfl fun h1 x1 f1 => ?_;have := e0.1;have := f0.1;replace f0 := f0.ext x1;replace e0 := e0.trans x1;have := f1.1;refine gP ?_;apply gE;apply gS;refine Go.drawnE plan56_0 ?_;refine gQ rfl rfl (ld71 rfl f0 rfl) rfl ?_;refine gQ rfl rfl (fa71_1 rfl) rfl ?_;refine gQ rfl rfl (ld26 rfl f0 rfl) rfl ?_;refine gQ rfl rfl (aOp_lenSlice Try.underlying26 rfl hl2) rfl ?_;refine GoE.call rfl rfl (aCF aFunc40 rfl) (htr _ (A.ext e0)) (dK 1 4 (dK 1 3 (dK 1 2 (dD 1 0 rfl)))) ?_ (by rintro _ _ ⟨bm, KT, q, hKT, _, hbm, KK, e7⟩; cases q);rintro v2 h2 ⟨bm, KT, q, hKT, x2, hbm, KK, e7⟩;cases q;replace f0 := f0.ext x2;replace e0 := e0.trans x2;refine ⟨(rck (h2 := h2) rfl (aOp_lenSlice Try.underlying26 rfl hl2) (rck (h2 := h2) rfl (ld26 rfl f0 rfl) (rck (h2 := h2) rfl (fa71_1 rfl) recheck_nil))), _, rfl, ?_⟩;iterate 2 refine gQ rfl rfl rfl rfl ?_
  refine GoE.end rfl ?_;apply gS;refine gR rfl ?_;refine gP ?_;refine gO rfl rfl (kET rfl rfl) rfl ?_;refine GoR.callP rfl rfl (aCF aFunc67 rfl) (refuse_yes _ _) (by rintro _ _ ⟨q, _⟩; cases q) ?_;rintro chain h3 ⟨q, x3⟩
  have q := AEnd.pan.inj q
  subst q;replace e0 := e0.trans x3;exact FLeft.pan (⟨rfl, e0⟩)
 ·rw [if_neg c1]
  have e0 : Ext h h := Ext.refl _
  refine Runs.intro aFunc56 rfl rfl rfl rfl fun rest => ?_;apply gS;refine gR rfl ?_;refine GoR.box rfl rfl rfl rfl rfl rfl fun h0 x0 f0 => ?_;have := e0.1;replace e0 := e0.trans x0;have := f0.1;refine GoR.box rfl rfl rfl rfl rfl rfl fun h1 x1 f1 => ?_;have := e0.1;have := f0.1;replace f0 := f0.ext x1;replace e0 := e0.trans x1;have := f1.1;refine gP ?_;apply gE;apply gS;refine Go.drawnE plan56_0 ?_;refine gQ rfl rfl (ld71 rfl f0 rfl) rfl ?_;refine gQ rfl rfl (fa71_1 rfl) rfl ?_;refine gQ rfl rfl (ld26 rfl f0 rfl) rfl ?_;refine gQ rfl rfl (aOp_lenSlice Try.underlying26 rfl hl2) rfl ?_;refine GoE.call rfl rfl (aCF aFunc40 rfl) (htr _ (A.ext e0)) (dK 1 4 (dK 1 3 (dK 1 2 (dD 1 0 rfl)))) ?_ (by rintro _ _ ⟨bm, KT, q, hKT, _, hbm, KK, e7⟩; cases q);rintro v2 h2 ⟨bm, KT, q, hKT, x2, hbm, KK, e7⟩;cases q;have := e0.1;have := f1.1;have := f0.1;replace f1 := f1.ext x2;replace f0 := f0.ext x2;replace e0 := e0.trans x2;refine ⟨(rck (h2 := h2) rfl (aOp_lenSlice Try.underlying26 rfl hl2) (rck (h2 := h2) rfl (ld26 rfl f0 rfl) (rck (h2 := h2) rfl (fa71_1 rfl) recheck_nil))), _, rfl, ?_⟩;iterate 2 refine gQ rfl rfl rfl rfl ?_
  refine GoE.end rfl ?_;apply gS;refine gR rfl ?_;refine gP ?_;refine gO rfl rfl (kEF rfl rfl) rfl ?_;refine GoR.call rfl rfl (aCF aFunc67 rfl) (refuse_no _ _) ?_ np;rintro v3 h3 ⟨q, x3⟩;cases q;refine ⟨_, rfl, ?_⟩;replace f1 := f1.ext x3;replace f0 := f0.ext x3;replace e7 := e7.trans x3;replace e0 := e0.trans x3;apply gE;apply gS;refine gR rfl ?_;refine gP ?_;refine gO rfl rfl (aOp_add (r := ((D.ds.length + 1 : Nat) : Int)) rfl rfl (by constructor <;> omega) (by omega)) rfl ?_;refine GoR.makeSl rfl rfl rfl Try.underlying26 rfl rfl sz32 by32 zt32 rfl (Nat.ble_eq_true_of_le (by omega)) rfl rfl fun h4 x4 f4 => ?_;have := e7.1;have := e0.1;have := f1.1;have := f0.1;replace f1 := f1.ext x4;replace f0 := f0.ext x4;replace e7 := e7.trans x4;replace e0 := e0.trans x4;have := f4.1;refine gP ?_;apply gE;apply gS;refine gR rfl ?_;refine gP ?_;refine gO rfl rfl (fa71_1 rfl) rfl ?_;refine gO rfl rfl (ld26 rfl f0 rfl) rfl ?_
  have hsrc := (A.ds.ext e0).src
  rw [List.length_map, ← List.flatMap_def] at hsrc
  obtain ⟨n, hn⟩ : ∃ n, D.ds.length = n := ⟨_, rfl⟩
  have hrl : (repl (AVal.agg [.int .i64 0, .int .i64 0]).cells (D.ds.length + 1)).length = (D.ds.length + 1) * 2 := by rw [repl_eq]; simp; rfl
  have hwl := way_len D.ds
  have hsp := splice_eq (cs := repl (AVal.agg [.int .i64 0, .int .i64 0]).cells (D.ds.length + 1)) (off := 0) (new := D.ds.flatMap spC) (by rw [hrl, hwl]; omega)
  rw [List.take_zero, List.nil_append, Nat.zero_add, hwl] at hsp
  obtain ⟨Z, hZ⟩ : ∃ Z, (repl (AVal.agg [.int .i64 0, .int .i64 0]).cells (D.ds.length + 1)).drop (D.ds.length * 2) = Z := ⟨_, rfl⟩
  have hZl : Z.length = 2 := by rw [← hZ, List.length_drop, hrl]; omega
  rw [hZ] at hsp
  have hb7 := f4.1
  refine GoR.copyIn rfl rfl Try.underlying26 sz32 rfl rfl hl2 (Nat.min_eq_left (by omega)) hsrc f4 rfl (way_scal _) hsp rfl fun h9 u9 => ?_;replace f4 := u9.has f4;replace f0 := f0.upd u9 (by omega);replace f1 := f1.upd u9 (by omega);replace e7 := e7.upd u9 (by omega);replace e0 := e0.upd u9 (by omega)
  have hq7 : aSlElems (.slice h3.next 0 (D.ds.length + 1) (D.ds.length + 1)) = some (h3.next, 0, D.ds.length + 1) := rfl
  have hput : splice (D.ds.flatMap spC ++ Z) (0 + D.ds.length * 2) [AVal.int .i64 x, .int .i64 y] = some ((D.ds ++ [((x : Int), (y : Int))]).flatMap spC) := by
   rw [Nat.zero_add, splice_eq (by rw [List.length_append, hwl, hZl]; exact Nat.le_refl _), ← hwl, List.take_left', List.flatMap_append]
   ·rw [show (D.ds.flatMap spC).length + [AVal.int .i64 (x : Int), .int .i64 (y : Int)].length = (D.ds.flatMap spC ++ Z).length by rw [List.length_append, hZl]; rfl, List.drop_length, List.append_nil]
    rfl
   ·rfl
  apply gE;apply gS;refine gR rfl ?_;iterate 2 refine gP ?_
  refine gO rfl rfl (ld32 rfl f1 rfl) rfl ?_;refine gO rfl rfl (aOp_indexAddr (i := D.ds.length) Try.underlying26 sz32 rfl hq7 rfl (Nat.ble_eq_true_of_le (by omega))) rfl ?_;refine GoR.store rfl rfl rfl rfl rfl rfl f4 rfl sz32 rfl rfl hput fun h10 u10 => ?_;replace f4 := u10.has f4;replace f0 := f0.upd u10 (by omega);replace e7 := e7.upd u10 (by omega);replace e0 := e0.upd u10 (by omega);apply gE;apply gS;refine gR rfl ?_;refine gO rfl rfl (ld71 rfl f0 rfl) rfl ?_;iterate 2 refine gP ?_
  refine gO rfl rfl (aOp_build zt104 hu104 pl104 rfl rfl) rfl ?_;refine gP ?_
  have S7 : SliceOf h10 2 (.slice h3.next 0 (D.ds.length + 1) (D.ds.length + 1)) ((D.ds ++ [((x : Int), (y : Int))]).map spC) := SliceOf.mk' rfl rfl f4 (by simp) fun i l hl => by
   rw [Nat.zero_add, List.flatMap_def];exact slice_flatten (fun l hl => by obtain ⟨_, _, rfl⟩ := List.mem_map.1 hl; rfl) i l hl
  have hkp := keeps_ok O (iv := dugI (.slice h3.next 0 (D.ds.length + 1) (D.ds.length + 1))) (st := D.all) (h := h10) (A.ext e0) (dug_join S7 (by simp; omega)) hKT (KK.ext e7)
  have hv : D.keeps (D.learn D.all) (crsJ (fun a c => (openV 0 0 (D.ds ++ [((x : Int), (y : Int))])).any fun w => joinsV w a c) D.bs.length) = D.keeps D.truths ((D.dug x y).course 0) := rfl
  rw [hv] at hkp
  generalize D.keeps D.truths ((D.dug x y).course 0) = v at hkp ⊢
  refine GoR.call rfl rfl (aCF aFunc76 rfl) hkp ?_ np;rintro v11 h11 ⟨q, x11⟩;cases q;refine ⟨_, rfl, ?_⟩;replace e0 := e0.trans x11;clear f0 f1 f4 e7;refine gP ?_;apply gE;exact gW Try.func56 rfl rfl ⟨rfl, e0⟩
end Go.Proofs.Ytkhiagdmbajimaa

namespace Go.Proofs.Ytkhiagdmbajimaa
open Go Go.AbsE
set_option linter.unusedSimpArgs false
set_option maxRecDepth 100000
set_option maxHeartbeats 0
set_option linter.unusedVariables false
theorem attempt_is {D : DrainV} (O : D.Ok) (b d r s : AVal) (h : AH) (A : DrainAt h D b d r s) (W : FuncId) (fW : Func) (hfid : aFunc Try.prog W = some fW) (caps : List AVal) (hsm : sameA (.func (.func W) [] caps) (.func (.func W) [] caps) = true) (S : Nat → Prop) (hS : ∀ b, S b → b < h.next) (T : AH → Prop) (hT : ∀ h2 h', h2.next ≤ h'.next → (∀ b, b < h.next → h'.get b = h2.get b) → T h2 → T h') (code : Int)
  (hbody : ∀ h', Ext h h' → Runs Try.prog W ([.agg (dC b d r s)] ++ caps) h' (fun en h'' => ExtF S h' h'' ∧ T h'' ∧ ((code = 0 ∧ en = .ret (.tuple [])) ∨ en = .pan (refusal code)))) :
  Runs Try.prog 37 [.agg (dC b d r s), .func (.func W) [] caps] h (fun en h' => en = .ret (.int .i64 code) ∧ ExtF S h h' ∧ T h') :=
 (attempt_ok O b d r s h A W fW hfid caps hsm S hS (fun c h' => c = code ∧ T h') fun h' e => (hbody h' e).mono fun en h'' ⟨x, f, q⟩ => ⟨x, q.elim (fun q => .inl ⟨q.2, q.1.symm, f⟩) fun q => .inr ⟨code, q, rfl, f⟩⟩).mono
  fun en h' ⟨c, h2, q, ⟨hc, f⟩, x, le, same⟩ => ⟨by rw [q, hc], x, hT h2 h' le same f⟩
theorem nexts_ok {D : DrainV} (O : D.Ok) {KT : KV} {bm : Nat} {b : AVal} {h : AH} (hK : KT.map (fun x => x.1) = D.truths) (K : KnownAt D h bm b KT) (B : SliceOf h 4 b (D.bs.map BkV.cells)) {a : Nat} (ha : a < D.bs.length) :
  Runs Try.prog 41 [.map bm, .int .i64 a, .func (.func 42) [] []] h (fun en h' => en = .ret (.int .i64 ((D.nexts a : Nat) : Int)) ∧ Ext h h') := by
 have hnb := O.nb
 have hv : D.nexts a = setV (KT.map fun x => nx (D.course 0 x.1) a) := by
  unfold DrainV.nexts
  rw [← hK, List.map_map]
  rfl
 rw [hv];refine places_ok ⟨B.scal.1, B.same⟩ K aFunc42 _ (fun x hx => ?_) fun x h' hx e => ?_
 ·have := (known_course O hK K B hx).dn.le a (by rw [course_len]; omega)
  rw [course_len] at this
  omega
 ·exact next_ok B.scal (by rw [course_len]; omega) (by rw [course_len]; omega) ((known_course O hK K B hx).t.ext e)
theorem endsS_ok {D : DrainV} (O : D.Ok) {KT : KV} {bm : Nat} {b : AVal} {h : AH} (hK : KT.map (fun x => x.1) = D.truths) (K : KnownAt D h bm b KT) (B : SliceOf h 4 b (D.bs.map BkV.cells)) {a : Nat} (ha : a < D.bs.length) :
  Runs Try.prog 41 [.map bm, .int .i64 a, .func (.func 45) [] []] h (fun en h' => en = .ret (.int .i64 ((D.endsS a : Nat) : Int)) ∧ Ext h h') := by
 have hnb := O.nb
 have hv : D.endsS a = setV (KT.map fun x => endV (D.course 0 x.1) 21 a) := by
  unfold DrainV.endsS
  rw [← hK, List.map_map]
  rfl
 rw [hv];refine places_ok ⟨B.scal.1, B.same⟩ K aFunc45 _ (fun x hx => ?_) fun x h' hx e => ?_
 ·have := end_lt (known_course O hK K B hx).dn (f := 21) (a := a) (by rw [course_len]; omega)
  rw [course_len] at this
  omega
 ·have C := (known_course O hK K B hx).ext e
  exact end_ok C.dn C.len (by rw [C.len]; omega) (by rw [course_len]; omega) C.t C.b
theorem waters_ok {D : DrainV} (O : D.Ok) {KT : KV} {bm b0 : Nat} {b : AVal} {h : AH} (hK : KT.map (fun x => x.1) = D.truths) (K : KnownAt D h bm b KT) (B : SliceOf h 4 b (D.bs.map BkV.cells)) {a : Nat} (ha : a < D.bs.length) (f : Has h b0 (.cells .plain [.int .i64 a] 3)) :
  Runs Try.prog 47 [.map bm, .func (.func 48) [] [.ptr b0 0]] h (fun en h' => en = .ret (.agg (spC (D.waters a))) ∧ Ext h h') := by
 have hv : D.waters a = joinL (KT.map fun x => D.water (D.course 0 x.1) a) := by
  unfold DrainV.waters
  rw [← hK, List.map_map]
  rfl
 rw [hv];exact amount_ok ⟨B.scal.1, B.same⟩ K aFunc48 [.ptr b0 0] _ fun x h' hx e => waterC_ok O ((known_course O hK K B hx).ext e) (by rw [course_len]; omega) (f.ext e)
theorem needBank_yes {D : DrainV} {b d r s : AVal} {n : Int} {h : AH} (A : DrainAt h D b d r s) (B : DrainB D) (hq : 0 ≤ n ∧ n ≤ (D.bs.length : Int) - 1) : Runs Try.prog 39 [.agg (dC b d r s), .int .i64 n] h (fun en h' => en = .ret (.tuple []) ∧ Ext h h') := by
 have := needBank_ok (n := n) A B
 rw [if_pos hq] at this;exact this
theorem needBank_no {D : DrainV} {b d r s : AVal} {n : Int} {h : AH} (A : DrainAt h D b d r s) (B : DrainB D) (hq : ¬ (0 ≤ n ∧ n ≤ (D.bs.length : Int) - 1)) : Runs Try.prog 39 [.agg (dC b d r s), .int .i64 n] h (fun en h' => en = .pan (refusal 2) ∧ Ext h h') := by
 have := needBank_ok (n := n) A B
 rw [if_neg hq] at this;exact this
theorem needPair_yes {D : DrainV} {b d r s : AVal} {x y : Int} {h : AH} (A : DrainAt h D b d r s) (B : DrainB D) (hq : PairOk D.bs.length (x, y)) : Runs Try.prog 51 [.agg (dC b d r s), .int .i64 x, .int .i64 y] h (fun en h' => en = .ret (.tuple []) ∧ Ext h h') := by
 have := needPair_ok (x := x) (y := y) A B
 rw [if_pos hq] at this;exact this
theorem needPair_no {D : DrainV} {b d r s : AVal} {x y : Int} {h : AH} (A : DrainAt h D b d r s) (B : DrainB D) (hq : ¬ PairOk D.bs.length (x, y)) : Runs Try.prog 51 [.agg (dC b d r s), .int .i64 x, .int .i64 y] h (fun en h' => en = .pan (refusal 2) ∧ Ext h h') := by
 have := needPair_ok (x := x) (y := y) A B
 rw [if_neg hq] at this;exact this
def zSp : Int × Int := (0, 0)
def DrainV.tr {α : Type} (D : DrainV) (a z : α) : α × Int := if D.truths = [] then (z, 10) else (a, 0)
def DrainV.bankQ {α : Type} (D : DrainV) (n : Int) (k : α × Int) (z : α) : α × Int := if 0 ≤ n ∧ n ≤ (D.bs.length : Int) - 1 then k else (z, 2)
def DrainV.pairQ {α : Type} (D : DrainV) (x y : Int) (k : α × Int) (z : α) : α × Int := if PairOk D.bs.length (x, y) then k else (z, 2)
def DrainV.ok {α : Type} (D : DrainV) (k : α × Int) (z : α) : α × Int := if D.Ok then k else (z, 1)
def DrainV.digQ (D : DrainV) (x y : Nat) : Int × Int := if D.truths = [] then (0, 10) else if D.ds.length = 7 then (0, 9) else (D.keeps D.truths ((D.dug x y).course 0), 0)
def DrainV.clashQ (D : DrainV) : Int × Int := match clashV D with | some st => (((st : Nat) : Int), (0 : Int)) | none => (0, 4)
def DrainV.nextR (D : DrainV) (a : Int) : Int × Int := D.ok (D.bankQ a (D.tr ((D.nexts a.toNat : Nat) : Int) 0) 0) 0
def DrainV.endsR (D : DrainV) (a : Int) : Int × Int := D.ok (D.bankQ a (D.tr ((D.endsS a.toNat : Nat) : Int) 0) 0) 0
def DrainV.waterR (D : DrainV) (a : Int) : (Int × Int) × Int := D.ok (D.bankQ a (D.tr (D.waters a.toNat) zSp) zSp) zSp
def DrainV.flowR (D : DrainV) (x y : Int) : (Int × Int) × Int := D.ok (D.pairQ x y (D.tr (D.flow x.toNat y.toNat) zSp) zSp) zSp
def DrainV.breaksR (D : DrainV) : (Int × Int) × Int := D.ok (D.tr (((D.surely : Nat) : Int), ((D.perhaps : Nat) : Int)) zSp) zSp
def DrainV.digR (D : DrainV) (x y : Int) : Int × Int := D.ok (D.pairQ x y (D.digQ x.toNat y.toNat) 0) 0
def DrainV.stopR (D : DrainV) : (Int × Int) × Int := D.ok (D.tr (((popc (stopV D) : Nat) : Int), ((stopV D : Nat) : Int)) zSp) zSp
def DrainV.clashR (D : DrainV) : Int × Int := D.ok D.clashQ 0
theorem DrainV.ok_yes {α : Type} {D : DrainV} {k : α × Int} {z : α} (O : D.Ok) : D.ok k z = k := if_pos O
theorem DrainV.ok_no {α : Type} {D : DrainV} {k : α × Int} {z : α} (O : ¬ D.Ok) : D.ok k z = (z, 1) := if_neg O
theorem DrainV.tr_yes {α : Type} {D : DrainV} {a z : α} (h : D.truths ≠ []) : D.tr a z = (a, 0) := if_neg h
theorem DrainV.tr_no {α : Type} {D : DrainV} {a z : α} (h : D.truths = []) : D.tr a z = (z, 10) := if_pos h
theorem DrainV.bank_yes {α : Type} {D : DrainV} {n : Int} {k : α × Int} {z : α} (h : 0 ≤ n ∧ n ≤ (D.bs.length : Int) - 1) : D.bankQ n k z = k := if_pos h
theorem DrainV.bank_no {α : Type} {D : DrainV} {n : Int} {k : α × Int} {z : α} (h : ¬ (0 ≤ n ∧ n ≤ (D.bs.length : Int) - 1)) : D.bankQ n k z = (z, 2) := if_neg h
theorem DrainV.pair_yes {α : Type} {D : DrainV} {x y : Int} {k : α × Int} {z : α} (h : PairOk D.bs.length (x, y)) : D.pairQ x y k z = k := if_pos h
theorem DrainV.pair_no {α : Type} {D : DrainV} {x y : Int} {k : α × Int} {z : α} (h : ¬ PairOk D.bs.length (x, y)) : D.pairQ x y k z = (z, 2) := if_neg h
theorem stop_no {D : DrainV} (O : D.Ok) (hT : D.truths = []) {b d r s : AVal} {h : AH} (A : DrainAt h D b d r s) : Runs Try.prog 58 [.agg (dC b d r s)] h (fun en h' => en = .pan (refusal 10) ∧ Ext h h') := by
 have hsm := A.same
 have hsm1 := A.ds.same
 have hl2 := A.ds.len
 rw [List.length_map] at hl2
 have htn := fun h A => truths_no O hT (b := b) (d := d) (r := r) (s := s) (h := h) A
 unfold dC at *
 try unfold spC at *
 have e0 : Ext h h := Ext.refl _
 refine Runs.intro aFunc58 rfl rfl rfl rfl fun rest => ?_;apply gS;refine gR rfl ?_;refine GoR.box rfl rfl rfl rfl rfl rfl fun h0 x0 f0 => ?_;replace e0 := e0.trans x0;iterate 2 refine gP ?_
 apply gE;apply gS;refine gR rfl ?_;refine gO rfl rfl (ld71 rfl f0 rfl) rfl ?_;refine GoR.callP rfl rfl (aCF aFunc40 rfl) (htn _ (A.ext e0)) (by rintro _ _ ⟨q, _⟩; cases q) ?_;rintro chain h1 ⟨q, x1⟩
 have q := AEnd.pan.inj q
 subst q;replace e0 := e0.trans x1;exact FLeft.pan (⟨rfl, e0⟩)
theorem breaks_no {D : DrainV} (O : D.Ok) (hT : D.truths = []) {b d r s : AVal} {h : AH} (A : DrainAt h D b d r s) : Runs Try.prog 54 [.agg (dC b d r s)] h (fun en h' => en = .pan (refusal 10) ∧ Ext h h') := by
 have hsm := A.same
 have hsm1 := A.ds.same
 have hl2 := A.ds.len
 rw [List.length_map] at hl2
 have htn := fun h A => truths_no O hT (b := b) (d := d) (r := r) (s := s) (h := h) A
 unfold dC at *
 try unfold spC at *
 have e0 : Ext h h := Ext.refl _
 refine Runs.intro aFunc54 rfl rfl rfl rfl fun rest => ?_;apply gS;refine gR rfl ?_;refine GoR.box rfl rfl rfl rfl rfl rfl fun h0 x0 f0 => ?_;replace e0 := e0.trans x0;iterate 2 refine gP ?_
 apply gE;apply gS;refine gR rfl ?_;refine gO rfl rfl (ld71 rfl f0 rfl) rfl ?_;refine GoR.callP rfl rfl (aCF aFunc40 rfl) (htn _ (A.ext e0)) (by rintro _ _ ⟨q, _⟩; cases q) ?_;rintro chain h1 ⟨q, x1⟩
 have q := AEnd.pan.inj q
 subst q;replace e0 := e0.trans x1;exact FLeft.pan (⟨rfl, e0⟩)
theorem dig_no {D : DrainV} (O : D.Ok) (hT : D.truths = []) {b d r s : AVal} {x y : Nat} {h : AH} (A : DrainAt h D b d r s) : Runs Try.prog 56 [.agg (dC b d r s), .agg (spC ((x : Int), (y : Int)))] h (fun en h' => en = .pan (refusal 10) ∧ Ext h h') := by
 have hsm := A.same
 have hsm1 := A.ds.same
 have hl2 := A.ds.len
 rw [List.length_map] at hl2
 have htn := fun h A => truths_no O hT (b := b) (d := d) (r := r) (s := s) (h := h) A
 unfold dC at *
 try unfold spC at *
 have e0 : Ext h h := Ext.refl _
 refine Runs.intro aFunc56 rfl rfl rfl rfl fun rest => ?_;apply gS;refine gR rfl ?_;refine GoR.box rfl rfl rfl rfl rfl rfl fun h0 x0 f0 => ?_;replace e0 := e0.trans x0;refine GoR.box rfl rfl rfl rfl rfl rfl fun h1 x1 f1 => ?_;replace f0 := f0.ext x1;replace e0 := e0.trans x1;refine gP ?_;apply gE;apply gS;refine Go.drawnE plan56_0 ?_;refine gQ rfl rfl (ld71 rfl f0 rfl) rfl ?_;refine gQ rfl rfl (fa71_1 rfl) rfl ?_;refine gQ rfl rfl (ld26 rfl f0 rfl) rfl ?_;refine gQ rfl rfl (aOp_lenSlice Try.underlying26 rfl hl2) rfl ?_;refine GoE.callP rfl rfl (aCF aFunc40 rfl) (htn _ (A.ext e0)) rfl (by rintro _ _ ⟨q, _⟩; cases q) ?_;rintro chain h2 ⟨q, x2⟩
 have q := AEnd.pan.inj q
 subst q;replace e0 := e0.trans x2;exact FLeft.pan (⟨rfl, e0⟩)
theorem nextB0_ok {D : DrainV} (O : D.Ok) {b d r s : AVal} {a : Int} {b0 br : Nat} {h : AH} (A : DrainAt h D b d r s) (f0 : Has h b0 (.cells .plain [.int .i64 a] 3)) (f1 : Has h br (.cells .plain [.int .i64 0] 3)) (h0r : b0 ≠ br) :
  Runs Try.prog 38 [.agg (dC b d r s), .ptr b0 0, .ptr br 0] h (fun en h'' => ExtF (fun x => x = br) h h'' ∧ Has h'' br (.cells .plain [.int .i64 (D.bankQ a (D.tr ((D.nexts a.toNat : Nat) : Int) 0) 0).1] 3) ∧ (((D.bankQ a (D.tr ((D.nexts a.toNat : Nat) : Int) 0) 0).2 = 0 ∧ en = .ret (.tuple [])) ∨ en = .pan (refusal (D.bankQ a (D.tr ((D.nexts a.toNat : Nat) : Int) 0) 0).2))) := by
 have hnb := O.nb
 have y0 : ExtF (fun x => x = br) h h := ExtF.of (Ext.refl _)
 have hsm := A.same
 have l0 := f0.1
 have l1 := f1.1
 have htr := fun h A c => truths_yes O c (b := b) (d := d) (r := r) (s := s) (h := h) A
 have htn := fun h A c => truths_no O c (b := b) (d := d) (r := r) (s := s) (h := h) A
 by_cases c1 : 0 ≤ a ∧ a ≤ (D.bs.length : Int) - 1
 ·rw [DrainV.bank_yes c1]
  have hnd := fun h A => needBank_yes (D := D) (b := b) (d := d) (r := r) (s := s) (h := h) A O.B c1
  obtain ⟨a, rfl⟩ := Int.eq_ofNat_of_zero_le c1.1
  rw [Int.toNat_natCast]
  have hpl := fun {h' : AH} {bm : Nat} {KT : KV} (e : Ext h h') (hK : KT.map (fun x => x.1) = D.truths) (K : KnownAt D h' bm b KT) => nexts_ok O hK K (A.bs.ext e) (a := a) (by omega)
  obtain ⟨w, hw⟩ : ∃ w, D.nexts a = w := ⟨_, rfl⟩
  rw [hw] at hpl ⊢
  by_cases c2 : D.truths = []
  ·rw [DrainV.tr_no c2]
   try unfold zSp at *
   unfold dC at *
   try unfold spC at *
   have e0 : Ext h h := Ext.refl _
   refine Runs.intro aFunc38 rfl rfl rfl rfl fun rest => ?_;apply gS;refine gR rfl ?_;refine GoR.box rfl rfl rfl rfl rfl rfl fun h2 x2 f2 => ?_;replace f1 := f1.ext x2;replace f0 := f0.ext x2;replace e0 := e0.trans x2;replace y0 := y0.ext x2;apply gE;apply gS;refine gR rfl ?_;refine gO rfl rfl (ld71 rfl f2 rfl) rfl ?_;refine gO rfl rfl (ld3 rfl f0 rfl) rfl ?_;refine GoR.call rfl rfl (aCF aFunc39 rfl) (hnd _ (A.ext e0)) ?_ np;rintro v3 h3 ⟨q, x3⟩;cases q;refine ⟨_, rfl, ?_⟩;replace f2 := f2.ext x3;replace f1 := f1.ext x3;replace f0 := f0.ext x3;replace e0 := e0.trans x3;replace y0 := y0.ext x3;apply gE;refine Go.drawnE plan38_0 ?_;refine gQ rfl rfl (ld71 rfl f2 rfl) rfl ?_;refine gQ rfl rfl (ld3 rfl f0 rfl) rfl ?_;refine GoE.callP rfl rfl (aCF aFunc40 rfl) (htn _ (A.ext e0) c2) rfl (by rintro _ _ ⟨q, _⟩; cases q) ?_;rintro chain h4 ⟨q, x4⟩
   have q := AEnd.pan.inj q
   subst q;replace f1 := f1.ext x4;replace y0 := y0.ext x4;exact FLeft.pan (⟨y0, f1, .inr rfl⟩)
  ·rw [DrainV.tr_yes c2]
   unfold dC at *
   try unfold spC at *
   have e0 : Ext h h := Ext.refl _
   refine Runs.intro aFunc38 rfl rfl rfl rfl fun rest => ?_;apply gS;refine gR rfl ?_;refine GoR.box rfl rfl rfl rfl rfl rfl fun h2 x2 f2 => ?_;have := e0.1;have := f1.1;have := f0.1;replace f1 := f1.ext x2;replace f0 := f0.ext x2;replace e0 := e0.trans x2;replace y0 := y0.ext x2;have := f2.1;apply gE;apply gS;refine gR rfl ?_;refine gO rfl rfl (ld71 rfl f2 rfl) rfl ?_;refine gO rfl rfl (ld3 rfl f0 rfl) rfl ?_;refine GoR.call rfl rfl (aCF aFunc39 rfl) (hnd _ (A.ext e0)) ?_ np;rintro v3 h3 ⟨q, x3⟩;cases q;refine ⟨_, rfl, ?_⟩;replace f2 := f2.ext x3;replace f1 := f1.ext x3;replace f0 := f0.ext x3;replace e0 := e0.trans x3;replace y0 := y0.ext x3;apply gE;refine Go.drawnE plan38_0 ?_;refine gQ rfl rfl (ld71 rfl f2 rfl) rfl ?_;refine gQ rfl rfl (ld3 rfl f0 rfl) rfl ?_;refine GoE.call rfl rfl (aCF aFunc40 rfl) (htr _ (A.ext e0) c2) (dK 1 2 (dD 1 0 rfl)) ?_ (by rintro _ _ ⟨bm, KT, q, hKT, _, hbm, KK, e7⟩; cases q);rintro v4 h4 ⟨bm, KT, q, hKT, x4, hbm, KK, e7⟩;cases q;replace f1 := f1.ext x4;replace f0 := f0.ext x4;replace e0 := e0.trans x4;replace y0 := y0.ext x4;refine ⟨(rck (h2 := h4) rfl (ld3 rfl f0 rfl) recheck_nil), _, rfl, ?_⟩;refine GoE.call rfl rfl (aCF aFunc41 rfl) (hpl e0 hKT (KK.ext e7)) (dD 7 2 rfl) ?_ np;rintro v5 h5 ⟨q, x5⟩;cases q;replace f1 := f1.ext x5;replace y0 := y0.ext x5;refine ⟨recheck_nil, _, rfl, ?_⟩;refine GoE.store rfl rfl rfl rfl rfl rfl rfl f1 rfl sz3 rfl rfl rfl fun h6 u6 => ?_;replace f1 := u6.has f1;clear e7;clear e0;replace y0 := y0.upd u6 (.inl rfl);refine ⟨recheck_nil, ?_⟩;refine GoE.end rfl ?_;exact Go.endL (FLeft.ret (v := .tuple []) (aResult_of Try.func38 rfl rfl) ⟨y0, f1, .inl ⟨rfl, rfl⟩⟩)
 ·rw [DrainV.bank_no c1]
  have hnd := fun h A => needBank_no (D := D) (b := b) (d := d) (r := r) (s := s) (h := h) A O.B c1
  try unfold zSp at *
  unfold dC at *
  try unfold spC at *
  have e0 : Ext h h := Ext.refl _
  refine Runs.intro aFunc38 rfl rfl rfl rfl fun rest => ?_;apply gS;refine gR rfl ?_;refine GoR.box rfl rfl rfl rfl rfl rfl fun h2 x2 f2 => ?_;replace f0 := f0.ext x2;replace f1 := f1.ext x2;replace e0 := e0.trans x2;replace y0 := y0.ext x2;apply gE;apply gS;refine gR rfl ?_;refine gO rfl rfl (ld71 rfl f2 rfl) rfl ?_;refine gO rfl rfl (ld3 rfl f0 rfl) rfl ?_;refine GoR.callP rfl rfl (aCF aFunc39 rfl) (hnd _ (A.ext e0)) (by rintro _ _ ⟨q, _⟩; cases q) ?_;rintro chain h3 ⟨q, x3⟩
  have q := AEnd.pan.inj q
  subst q;replace f1 := f1.ext x3;replace y0 := y0.ext x3;exact FLeft.pan (⟨y0, f1, .inr rfl⟩)
theorem endsB0_ok {D : DrainV} (O : D.Ok) {b d r s : AVal} {a : Int} {b0 br : Nat} {h : AH} (A : DrainAt h D b d r s) (f0 : Has h b0 (.cells .plain [.int .i64 a] 3)) (f1 : Has h br (.cells .plain [.int .i64 0] 3)) (h0r : b0 ≠ br) :
  Runs Try.prog 44 [.agg (dC b d r s), .ptr b0 0, .ptr br 0] h (fun en h'' => ExtF (fun x => x = br) h h'' ∧ Has h'' br (.cells .plain [.int .i64 (D.bankQ a (D.tr ((D.endsS a.toNat : Nat) : Int) 0) 0).1] 3) ∧ (((D.bankQ a (D.tr ((D.endsS a.toNat : Nat) : Int) 0) 0).2 = 0 ∧ en = .ret (.tuple [])) ∨ en = .pan (refusal (D.bankQ a (D.tr ((D.endsS a.toNat : Nat) : Int) 0) 0).2))) := by
 have hnb := O.nb
 have y0 : ExtF (fun x => x = br) h h := ExtF.of (Ext.refl _)
 have hsm := A.same
 have l0 := f0.1
 have l1 := f1.1
 have htr := fun h A c => truths_yes O c (b := b) (d := d) (r := r) (s := s) (h := h) A
 have htn := fun h A c => truths_no O c (b := b) (d := d) (r := r) (s := s) (h := h) A
 by_cases c1 : 0 ≤ a ∧ a ≤ (D.bs.length : Int) - 1
 ·rw [DrainV.bank_yes c1]
  have hnd := fun h A => needBank_yes (D := D) (b := b) (d := d) (r := r) (s := s) (h := h) A O.B c1
  obtain ⟨a, rfl⟩ := Int.eq_ofNat_of_zero_le c1.1
  rw [Int.toNat_natCast]
  have hpl := fun {h' : AH} {bm : Nat} {KT : KV} (e : Ext h h') (hK : KT.map (fun x => x.1) = D.truths) (K : KnownAt D h' bm b KT) => endsS_ok O hK K (A.bs.ext e) (a := a) (by omega)
  obtain ⟨w, hw⟩ : ∃ w, D.endsS a = w := ⟨_, rfl⟩
  rw [hw] at hpl ⊢
  by_cases c2 : D.truths = []
  ·rw [DrainV.tr_no c2]
   try unfold zSp at *
   unfold dC at *
   try unfold spC at *
   have e0 : Ext h h := Ext.refl _
   refine Runs.intro aFunc44 rfl rfl rfl rfl fun rest => ?_;apply gS;refine gR rfl ?_;refine GoR.box rfl rfl rfl rfl rfl rfl fun h2 x2 f2 => ?_;replace f1 := f1.ext x2;replace f0 := f0.ext x2;replace e0 := e0.trans x2;replace y0 := y0.ext x2;apply gE;apply gS;refine gR rfl ?_;refine gO rfl rfl (ld71 rfl f2 rfl) rfl ?_;refine gO rfl rfl (ld3 rfl f0 rfl) rfl ?_;refine GoR.call rfl rfl (aCF aFunc39 rfl) (hnd _ (A.ext e0)) ?_ np;rintro v3 h3 ⟨q, x3⟩;cases q;refine ⟨_, rfl, ?_⟩;replace f2 := f2.ext x3;replace f1 := f1.ext x3;replace f0 := f0.ext x3;replace e0 := e0.trans x3;replace y0 := y0.ext x3;apply gE;refine Go.drawnE plan44_0 ?_;refine gQ rfl rfl (ld71 rfl f2 rfl) rfl ?_;refine gQ rfl rfl (ld3 rfl f0 rfl) rfl ?_;refine GoE.callP rfl rfl (aCF aFunc40 rfl) (htn _ (A.ext e0) c2) rfl (by rintro _ _ ⟨q, _⟩; cases q) ?_;rintro chain h4 ⟨q, x4⟩
   have q := AEnd.pan.inj q
   subst q;replace f1 := f1.ext x4;replace y0 := y0.ext x4;exact FLeft.pan (⟨y0, f1, .inr rfl⟩)
  ·rw [DrainV.tr_yes c2]
   unfold dC at *
   try unfold spC at *
   have e0 : Ext h h := Ext.refl _
   refine Runs.intro aFunc44 rfl rfl rfl rfl fun rest => ?_;apply gS;refine gR rfl ?_;refine GoR.box rfl rfl rfl rfl rfl rfl fun h2 x2 f2 => ?_;have := e0.1;have := f1.1;have := f0.1;replace f1 := f1.ext x2;replace f0 := f0.ext x2;replace e0 := e0.trans x2;replace y0 := y0.ext x2;have := f2.1;apply gE;apply gS;refine gR rfl ?_;refine gO rfl rfl (ld71 rfl f2 rfl) rfl ?_;refine gO rfl rfl (ld3 rfl f0 rfl) rfl ?_;refine GoR.call rfl rfl (aCF aFunc39 rfl) (hnd _ (A.ext e0)) ?_ np;rintro v3 h3 ⟨q, x3⟩;cases q;refine ⟨_, rfl, ?_⟩;replace f2 := f2.ext x3;replace f1 := f1.ext x3;replace f0 := f0.ext x3;replace e0 := e0.trans x3;replace y0 := y0.ext x3;apply gE;refine Go.drawnE plan44_0 ?_;refine gQ rfl rfl (ld71 rfl f2 rfl) rfl ?_;refine gQ rfl rfl (ld3 rfl f0 rfl) rfl ?_;refine GoE.call rfl rfl (aCF aFunc40 rfl) (htr _ (A.ext e0) c2) (dK 1 2 (dD 1 0 rfl)) ?_ (by rintro _ _ ⟨bm, KT, q, hKT, _, hbm, KK, e7⟩; cases q);rintro v4 h4 ⟨bm, KT, q, hKT, x4, hbm, KK, e7⟩;cases q;replace f1 := f1.ext x4;replace f0 := f0.ext x4;replace e0 := e0.trans x4;replace y0 := y0.ext x4;refine ⟨(rck (h2 := h4) rfl (ld3 rfl f0 rfl) recheck_nil), _, rfl, ?_⟩;refine GoE.call rfl rfl (aCF aFunc41 rfl) (hpl e0 hKT (KK.ext e7)) (dD 7 2 rfl) ?_ np;rintro v5 h5 ⟨q, x5⟩;cases q;replace f1 := f1.ext x5;replace y0 := y0.ext x5;refine ⟨recheck_nil, _, rfl, ?_⟩;refine GoE.store rfl rfl rfl rfl rfl rfl rfl f1 rfl sz3 rfl rfl rfl fun h6 u6 => ?_;replace f1 := u6.has f1;clear e7;clear e0;replace y0 := y0.upd u6 (.inl rfl);refine ⟨recheck_nil, ?_⟩;refine GoE.end rfl ?_;exact Go.endL (FLeft.ret (v := .tuple []) (aResult_of Try.func44 rfl rfl) ⟨y0, f1, .inl ⟨rfl, rfl⟩⟩)
 ·rw [DrainV.bank_no c1]
  have hnd := fun h A => needBank_no (D := D) (b := b) (d := d) (r := r) (s := s) (h := h) A O.B c1
  try unfold zSp at *
  unfold dC at *
  try unfold spC at *
  have e0 : Ext h h := Ext.refl _
  refine Runs.intro aFunc44 rfl rfl rfl rfl fun rest => ?_;apply gS;refine gR rfl ?_;refine GoR.box rfl rfl rfl rfl rfl rfl fun h2 x2 f2 => ?_;replace f0 := f0.ext x2;replace f1 := f1.ext x2;replace e0 := e0.trans x2;replace y0 := y0.ext x2;apply gE;apply gS;refine gR rfl ?_;refine gO rfl rfl (ld71 rfl f2 rfl) rfl ?_;refine gO rfl rfl (ld3 rfl f0 rfl) rfl ?_;refine GoR.callP rfl rfl (aCF aFunc39 rfl) (hnd _ (A.ext e0)) (by rintro _ _ ⟨q, _⟩; cases q) ?_;rintro chain h3 ⟨q, x3⟩
  have q := AEnd.pan.inj q
  subst q;replace f1 := f1.ext x3;replace y0 := y0.ext x3;exact FLeft.pan (⟨y0, f1, .inr rfl⟩)
theorem waterB0_ok {D : DrainV} (O : D.Ok) {b d r s : AVal} {a : Int} {b0 br : Nat} {h : AH} (A : DrainAt h D b d r s) (f0 : Has h b0 (.cells .plain [.int .i64 a] 3)) (f1 : Has h br (.cells .plain [.int .i64 0, .int .i64 0] 35)) (h0r : b0 ≠ br) :
  Runs Try.prog 46 [.agg (dC b d r s), .ptr b0 0, .ptr br 0] h (fun en h'' => ExtF (fun x => x = br) h h'' ∧ Has h'' br (.cells .plain (spC (D.bankQ a (D.tr (D.waters a.toNat) zSp) zSp).1) 35) ∧ (((D.bankQ a (D.tr (D.waters a.toNat) zSp) zSp).2 = 0 ∧ en = .ret (.tuple [])) ∨ en = .pan (refusal (D.bankQ a (D.tr (D.waters a.toNat) zSp) zSp).2))) := by
 have hnb := O.nb
 have y0 : ExtF (fun x => x = br) h h := ExtF.of (Ext.refl _)
 have hsm := A.same
 have l0 := f0.1
 have l1 := f1.1
 have htr := fun h A c => truths_yes O c (b := b) (d := d) (r := r) (s := s) (h := h) A
 have htn := fun h A c => truths_no O c (b := b) (d := d) (r := r) (s := s) (h := h) A
 by_cases c1 : 0 ≤ a ∧ a ≤ (D.bs.length : Int) - 1
 ·rw [DrainV.bank_yes c1]
  have hnd := fun h A => needBank_yes (D := D) (b := b) (d := d) (r := r) (s := s) (h := h) A O.B c1
  obtain ⟨a, rfl⟩ := Int.eq_ofNat_of_zero_le c1.1
  rw [Int.toNat_natCast]
  have hpl := fun {h' : AH} {bm : Nat} {KT : KV} (e : Ext h h') (hK : KT.map (fun x => x.1) = D.truths) (K : KnownAt D h' bm b KT) (f : Has h' b0 (.cells .plain [.int .i64 (a : Int)] 3)) => waters_ok O hK K (A.bs.ext e) (a := a) (by omega) f
  obtain ⟨w, hw⟩ : ∃ w, D.waters a = w := ⟨_, rfl⟩
  rw [hw] at hpl ⊢
  by_cases c2 : D.truths = []
  ·rw [DrainV.tr_no c2]
   try unfold zSp at *
   unfold dC at *
   try unfold spC at *
   have e0 : Ext h h := Ext.refl _
   refine Runs.intro aFunc46 rfl rfl rfl rfl fun rest => ?_;apply gS;refine gR rfl ?_;refine GoR.box rfl rfl rfl rfl rfl rfl fun h2 x2 f2 => ?_;replace f1 := f1.ext x2;replace f0 := f0.ext x2;replace e0 := e0.trans x2;replace y0 := y0.ext x2;apply gE;apply gS;refine gR rfl ?_;refine gO rfl rfl (ld71 rfl f2 rfl) rfl ?_;refine gO rfl rfl (ld3 rfl f0 rfl) rfl ?_;refine GoR.call rfl rfl (aCF aFunc39 rfl) (hnd _ (A.ext e0)) ?_ np;rintro v3 h3 ⟨q, x3⟩;cases q;refine ⟨_, rfl, ?_⟩;replace f2 := f2.ext x3;replace f1 := f1.ext x3;replace e0 := e0.trans x3;replace y0 := y0.ext x3;apply gE;refine gR rfl ?_;refine gO rfl rfl (ld71 rfl f2 rfl) rfl ?_;refine GoR.callP rfl rfl (aCF aFunc40 rfl) (htn _ (A.ext e0) c2) (by rintro _ _ ⟨q, _⟩; cases q) ?_;rintro chain h4 ⟨q, x4⟩
   have q := AEnd.pan.inj q
   subst q;replace f1 := f1.ext x4;replace y0 := y0.ext x4;exact FLeft.pan (⟨y0, f1, .inr rfl⟩)
  ·rw [DrainV.tr_yes c2]
   unfold dC at *
   try unfold spC at *
   have e0 : Ext h h := Ext.refl _
   refine Runs.intro aFunc46 rfl rfl rfl rfl fun rest => ?_;apply gS;refine gR rfl ?_;refine GoR.box rfl rfl rfl rfl rfl rfl fun h2 x2 f2 => ?_;replace f1 := f1.ext x2;replace f0 := f0.ext x2;replace e0 := e0.trans x2;replace y0 := y0.ext x2;apply gE;apply gS;refine gR rfl ?_;refine gO rfl rfl (ld71 rfl f2 rfl) rfl ?_;refine gO rfl rfl (ld3 rfl f0 rfl) rfl ?_;refine GoR.call rfl rfl (aCF aFunc39 rfl) (hnd _ (A.ext e0)) ?_ np;rintro v3 h3 ⟨q, x3⟩;cases q;refine ⟨_, rfl, ?_⟩;replace f2 := f2.ext x3;replace f1 := f1.ext x3;replace f0 := f0.ext x3;replace e0 := e0.trans x3;replace y0 := y0.ext x3;apply gE;refine gR rfl ?_;refine gO rfl rfl (ld71 rfl f2 rfl) rfl ?_;refine GoR.call rfl rfl (aCF aFunc40 rfl) (htr _ (A.ext e0) c2) ?_ (by rintro _ _ ⟨bm, KT, q, hKT, _, hbm, KK, e7⟩; cases q);rintro v4 h4 ⟨bm, KT, q, hKT, x4, hbm, KK, e7⟩;cases q;refine ⟨_, rfl, ?_⟩;replace f1 := f1.ext x4;replace f0 := f0.ext x4;replace e0 := e0.trans x4;replace y0 := y0.ext x4;refine gP ?_;refine GoR.call rfl rfl (aCF aFunc47 rfl) (hpl e0 hKT (KK.ext e7) f0) ?_ np;rintro v5 h5 ⟨q, x5⟩;cases q;refine ⟨_, rfl, ?_⟩;replace f1 := f1.ext x5;replace y0 := y0.ext x5;refine GoR.store rfl rfl rfl rfl rfl rfl f1 rfl sz35 rfl rfl rfl fun h6 u6 => ?_;replace f1 := u6.has f1;clear e7;clear e0;replace y0 := y0.upd u6 (.inl rfl);apply gE;exact Go.endL (FLeft.ret (v := .tuple []) (aResult_of Try.func46 rfl rfl) ⟨y0, f1, .inl ⟨rfl, rfl⟩⟩)
 ·rw [DrainV.bank_no c1]
  have hnd := fun h A => needBank_no (D := D) (b := b) (d := d) (r := r) (s := s) (h := h) A O.B c1
  try unfold zSp at *
  unfold dC at *
  try unfold spC at *
  have e0 : Ext h h := Ext.refl _
  refine Runs.intro aFunc46 rfl rfl rfl rfl fun rest => ?_;apply gS;refine gR rfl ?_;refine GoR.box rfl rfl rfl rfl rfl rfl fun h2 x2 f2 => ?_;replace f0 := f0.ext x2;replace f1 := f1.ext x2;replace e0 := e0.trans x2;replace y0 := y0.ext x2;apply gE;apply gS;refine gR rfl ?_;refine gO rfl rfl (ld71 rfl f2 rfl) rfl ?_;refine gO rfl rfl (ld3 rfl f0 rfl) rfl ?_;refine GoR.callP rfl rfl (aCF aFunc39 rfl) (hnd _ (A.ext e0)) (by rintro _ _ ⟨q, _⟩; cases q) ?_;rintro chain h3 ⟨q, x3⟩
  have q := AEnd.pan.inj q
  subst q;replace f1 := f1.ext x3;replace y0 := y0.ext x3;exact FLeft.pan (⟨y0, f1, .inr rfl⟩)
theorem flowB0_ok {D : DrainV} (O : D.Ok) {b d r s : AVal} {x y : Int} {b0 b1 br : Nat} {h : AH} (A : DrainAt h D b d r s) (f0 : Has h b0 (.cells .plain [.int .i64 x] 3)) (f1 : Has h b1 (.cells .plain [.int .i64 y] 3)) (f2 : Has h br (.cells .plain [.int .i64 0, .int .i64 0] 35)) (h0r : b0 ≠ br) (h1r : b1 ≠ br) :
  Runs Try.prog 50 [.agg (dC b d r s), .ptr b0 0, .ptr b1 0, .ptr br 0] h (fun en h'' => ExtF (fun x => x = br) h h'' ∧ Has h'' br (.cells .plain (spC (D.pairQ x y (D.tr (D.flow x.toNat y.toNat) zSp) zSp).1) 35) ∧ (((D.pairQ x y (D.tr (D.flow x.toNat y.toNat) zSp) zSp).2 = 0 ∧ en = .ret (.tuple [])) ∨ en = .pan (refusal (D.pairQ x y (D.tr (D.flow x.toNat y.toNat) zSp) zSp).2))) := by
 have hnb := O.nb
 have y0 : ExtF (fun x => x = br) h h := ExtF.of (Ext.refl _)
 have hsm := A.same
 have l0 := f0.1
 have l1 := f1.1
 have l2 := f2.1
 have htr := fun h A c => truths_yes O c (b := b) (d := d) (r := r) (s := s) (h := h) A
 have htn := fun h A c => truths_no O c (b := b) (d := d) (r := r) (s := s) (h := h) A
 by_cases c1 : PairOk D.bs.length (x, y)
 ·rw [DrainV.pair_yes c1]
  have hnd := fun h A => needPair_yes (D := D) (b := b) (d := d) (r := r) (s := s) (h := h) A O.B c1
  have c1' := c1
  unfold PairOk at c1'
  dsimp only at c1'
  obtain ⟨x, rfl⟩ := Int.eq_ofNat_of_zero_le c1'.1.1
  obtain ⟨y, rfl⟩ := Int.eq_ofNat_of_zero_le c1'.2.1.1
  rw [Int.toNat_natCast, Int.toNat_natCast]
  have hpl := fun {h' : AH} {bm : Nat} {KT : KV} (e : Ext h h') (hK : KT.map (fun x => x.1) = D.truths) (K : KnownAt D h' bm b KT) => flow_ok O hK K (A.bs.ext e) (a := x) (to := y) (by omega) (by omega)
  obtain ⟨w, hw⟩ : ∃ w, D.flow x y = w := ⟨_, rfl⟩
  rw [hw] at hpl ⊢
  by_cases c2 : D.truths = []
  ·rw [DrainV.tr_no c2]
   unfold zSp at *
   unfold dC at *
   unfold spC at *
   have e0 : Ext h h := Ext.refl _
   refine Runs.intro aFunc50 rfl rfl rfl rfl fun rest => ?_;apply gS;refine gR rfl ?_;refine GoR.box rfl rfl rfl rfl rfl rfl fun h3 x3 f3 => ?_;replace f2 := f2.ext x3;replace f0 := f0.ext x3;replace f1 := f1.ext x3;replace e0 := e0.trans x3;replace y0 := y0.ext x3;apply gE;apply gS;refine gR rfl ?_;refine gO rfl rfl (ld71 rfl f3 rfl) rfl ?_;refine gO rfl rfl (ld3 rfl f0 rfl) rfl ?_;refine gO rfl rfl (ld3 rfl f1 rfl) rfl ?_;refine GoR.call rfl rfl (aCF aFunc51 rfl) (hnd _ (A.ext e0)) ?_ np;rintro v4 h4 ⟨q, x4⟩;cases q;refine ⟨_, rfl, ?_⟩;replace f3 := f3.ext x4;replace f2 := f2.ext x4;replace f0 := f0.ext x4;replace f1 := f1.ext x4;replace e0 := e0.trans x4;replace y0 := y0.ext x4;apply gE;refine Go.drawnE plan50_0 ?_;refine gQ rfl rfl (ld71 rfl f3 rfl) rfl ?_;refine gQ rfl rfl (ld3 rfl f0 rfl) rfl ?_;refine gQ rfl rfl (ld3 rfl f1 rfl) rfl ?_;refine GoE.callP rfl rfl (aCF aFunc40 rfl) (htn _ (A.ext e0) c2) rfl (by rintro _ _ ⟨q, _⟩; cases q) ?_;rintro chain h5 ⟨q, x5⟩
   have q := AEnd.pan.inj q
   subst q;replace f2 := f2.ext x5;replace y0 := y0.ext x5;exact FLeft.pan (⟨y0, f2, .inr rfl⟩)
  ·rw [DrainV.tr_yes c2]
   unfold dC at *
   unfold spC at *
   have e0 : Ext h h := Ext.refl _
   refine Runs.intro aFunc50 rfl rfl rfl rfl fun rest => ?_;apply gS;refine gR rfl ?_;refine GoR.box rfl rfl rfl rfl rfl rfl fun h3 x3 f3 => ?_;have := e0.1;have := f2.1;have := f0.1;have := f1.1;replace f2 := f2.ext x3;replace f0 := f0.ext x3;replace f1 := f1.ext x3;replace e0 := e0.trans x3;replace y0 := y0.ext x3;have := f3.1;apply gE;apply gS;refine gR rfl ?_;refine gO rfl rfl (ld71 rfl f3 rfl) rfl ?_;refine gO rfl rfl (ld3 rfl f0 rfl) rfl ?_;refine gO rfl rfl (ld3 rfl f1 rfl) rfl ?_;refine GoR.call rfl rfl (aCF aFunc51 rfl) (hnd _ (A.ext e0)) ?_ np;rintro v4 h4 ⟨q, x4⟩;cases q;refine ⟨_, rfl, ?_⟩;replace f3 := f3.ext x4;replace f2 := f2.ext x4;replace f0 := f0.ext x4;replace f1 := f1.ext x4;replace e0 := e0.trans x4;replace y0 := y0.ext x4;apply gE;refine Go.drawnE plan50_0 ?_;refine gQ rfl rfl (ld71 rfl f3 rfl) rfl ?_;refine gQ rfl rfl (ld3 rfl f0 rfl) rfl ?_;refine gQ rfl rfl (ld3 rfl f1 rfl) rfl ?_;refine GoE.call rfl rfl (aCF aFunc40 rfl) (htr _ (A.ext e0) c2) (dK 1 3 (dK 1 2 (dD 1 0 rfl))) ?_ (by rintro _ _ ⟨bm, KT, q, hKT, _, hbm, KK, e7⟩; cases q);rintro v5 h5 ⟨bm, KT, q, hKT, x5, hbm, KK, e7⟩;cases q;replace f2 := f2.ext x5;replace f0 := f0.ext x5;replace f1 := f1.ext x5;replace e0 := e0.trans x5;replace y0 := y0.ext x5;refine ⟨(rck (h2 := h5) rfl (ld3 rfl f1 rfl) (rck (h2 := h5) rfl (ld3 rfl f0 rfl) recheck_nil)), _, rfl, ?_⟩;refine GoE.call rfl rfl (aCF aFunc52 rfl) (hpl e0 hKT (KK.ext e7)) (dD 15 3 (dD 15 2 rfl)) ?_ np;rintro v6 h6 ⟨q, x6⟩;cases q;replace f2 := f2.ext x6;replace y0 := y0.ext x6;refine ⟨recheck_nil, _, rfl, ?_⟩;refine GoE.store rfl rfl rfl rfl rfl rfl rfl f2 rfl sz35 rfl rfl rfl fun h7 u7 => ?_;replace f2 := u7.has f2;clear e7;clear e0;replace y0 := y0.upd u7 (.inl rfl);refine ⟨recheck_nil, ?_⟩;refine GoE.end rfl ?_;exact Go.endL (FLeft.ret (v := .tuple []) (aResult_of Try.func50 rfl rfl) ⟨y0, f2, .inl ⟨rfl, rfl⟩⟩)
 ·rw [DrainV.pair_no c1]
  have hnd := fun h A => needPair_no (D := D) (b := b) (d := d) (r := r) (s := s) (h := h) A O.B c1
  try unfold zSp at *
  unfold dC at *
  try unfold spC at *
  have e0 : Ext h h := Ext.refl _
  refine Runs.intro aFunc50 rfl rfl rfl rfl fun rest => ?_;apply gS;refine gR rfl ?_;refine GoR.box rfl rfl rfl rfl rfl rfl fun h3 x3 f3 => ?_;replace f0 := f0.ext x3;replace f1 := f1.ext x3;replace f2 := f2.ext x3;replace e0 := e0.trans x3;replace y0 := y0.ext x3;apply gE;apply gS;refine gR rfl ?_;refine gO rfl rfl (ld71 rfl f3 rfl) rfl ?_;refine gO rfl rfl (ld3 rfl f0 rfl) rfl ?_;refine gO rfl rfl (ld3 rfl f1 rfl) rfl ?_;refine GoR.callP rfl rfl (aCF aFunc51 rfl) (hnd _ (A.ext e0)) (by rintro _ _ ⟨q, _⟩; cases q) ?_;rintro chain h4 ⟨q, x4⟩
  have q := AEnd.pan.inj q
  subst q;replace f2 := f2.ext x4;replace y0 := y0.ext x4;exact FLeft.pan (⟨y0, f2, .inr rfl⟩)
theorem digB0_ok {D : DrainV} (O : D.Ok) {b d r s : AVal} {x y : Int} {b0 b1 br : Nat} {h : AH} (A : DrainAt h D b d r s) (f0 : Has h b0 (.cells .plain [.int .i64 x] 3)) (f1 : Has h b1 (.cells .plain [.int .i64 y] 3)) (f2 : Has h br (.cells .plain [.int .i64 0] 3)) (h0r : b0 ≠ br) (h1r : b1 ≠ br) :
  Runs Try.prog 55 [.agg (dC b d r s), .ptr b0 0, .ptr b1 0, .ptr br 0] h (fun en h'' => ExtF (fun x => x = br) h h'' ∧ Has h'' br (.cells .plain [.int .i64 (D.pairQ x y (D.digQ x.toNat y.toNat) 0).1] 3) ∧ (((D.pairQ x y (D.digQ x.toNat y.toNat) 0).2 = 0 ∧ en = .ret (.tuple [])) ∨ en = .pan (refusal (D.pairQ x y (D.digQ x.toNat y.toNat) 0).2))) := by
 have hnb := O.nb
 have y0 : ExtF (fun x => x = br) h h := ExtF.of (Ext.refl _)
 have hsm := A.same
 have l0 := f0.1
 have l1 := f1.1
 have l2 := f2.1
 have htr := fun h A c => truths_yes O c (b := b) (d := d) (r := r) (s := s) (h := h) A
 have htn := fun h A c => truths_no O c (b := b) (d := d) (r := r) (s := s) (h := h) A
 by_cases c1 : PairOk D.bs.length (x, y)
 ·rw [DrainV.pair_yes c1]
  have hnd := fun h A => needPair_yes (D := D) (b := b) (d := d) (r := r) (s := s) (h := h) A O.B c1
  have c1' := c1
  unfold PairOk at c1'
  dsimp only at c1'
  obtain ⟨x, rfl⟩ := Int.eq_ofNat_of_zero_le c1'.1.1
  obtain ⟨y, rfl⟩ := Int.eq_ofNat_of_zero_le c1'.2.1.1
  rw [Int.toNat_natCast, Int.toNat_natCast]
  unfold DrainV.digQ
  by_cases c2 : D.truths = []
  ·rw [if_pos c2]
   have hdn := fun h A => dig_no O c2 (b := b) (d := d) (r := r) (s := s) (x := x) (y := y) (h := h) A
   unfold dC at *
   unfold spC at *
   have e0 : Ext h h := Ext.refl _
   refine Runs.intro aFunc55 rfl rfl rfl rfl fun rest => ?_;apply gS;refine gR rfl ?_;refine GoR.box rfl rfl rfl rfl rfl rfl fun h3 x3 f3 => ?_;replace f2 := f2.ext x3;replace f0 := f0.ext x3;replace f1 := f1.ext x3;replace e0 := e0.trans x3;replace y0 := y0.ext x3;apply gE;apply gS;refine gR rfl ?_;refine gO rfl rfl (ld71 rfl f3 rfl) rfl ?_;refine gO rfl rfl (ld3 rfl f0 rfl) rfl ?_;refine gO rfl rfl (ld3 rfl f1 rfl) rfl ?_;refine GoR.call rfl rfl (aCF aFunc51 rfl) (hnd _ (A.ext e0)) ?_ np;rintro v4 h4 ⟨q, x4⟩;cases q;refine ⟨_, rfl, ?_⟩;replace f3 := f3.ext x4;replace f2 := f2.ext x4;replace f0 := f0.ext x4;replace f1 := f1.ext x4;replace e0 := e0.trans x4;replace y0 := y0.ext x4;apply gE;refine gR rfl ?_;refine gO rfl rfl (ld71 rfl f3 rfl) rfl ?_;refine gO rfl rfl (ld3 rfl f0 rfl) rfl ?_;refine gO rfl rfl (ld3 rfl f1 rfl) rfl ?_;refine gO rfl rfl (aOp_build zt32 hu32 pl32 rfl rfl) rfl ?_;refine GoR.callP rfl rfl (aCF aFunc56 rfl) (hdn _ (A.ext e0)) (by rintro _ _ ⟨q, _⟩; cases q) ?_;rintro chain h5 ⟨q, x5⟩
   have q := AEnd.pan.inj q
   subst q;replace f2 := f2.ext x5;replace y0 := y0.ext x5;exact FLeft.pan (⟨y0, f2, .inr rfl⟩)
  ·rw [if_neg c2]
   have hdg := fun h A => digB_ok O c2 (b := b) (d := d) (r := r) (s := s) (x := x) (y := y) (h := h) A
   by_cases c3 : D.ds.length = 7
   ·rw [if_pos c3];rw [if_pos c3] at hdg
    unfold dC at *
    unfold spC at *
    have e0 : Ext h h := Ext.refl _
    refine Runs.intro aFunc55 rfl rfl rfl rfl fun rest => ?_;apply gS;refine gR rfl ?_;refine GoR.box rfl rfl rfl rfl rfl rfl fun h3 x3 f3 => ?_;replace f2 := f2.ext x3;replace f0 := f0.ext x3;replace f1 := f1.ext x3;replace e0 := e0.trans x3;replace y0 := y0.ext x3;apply gE;apply gS;refine gR rfl ?_;refine gO rfl rfl (ld71 rfl f3 rfl) rfl ?_;refine gO rfl rfl (ld3 rfl f0 rfl) rfl ?_;refine gO rfl rfl (ld3 rfl f1 rfl) rfl ?_;refine GoR.call rfl rfl (aCF aFunc51 rfl) (hnd _ (A.ext e0)) ?_ np;rintro v4 h4 ⟨q, x4⟩;cases q;refine ⟨_, rfl, ?_⟩;replace f3 := f3.ext x4;replace f2 := f2.ext x4;replace f0 := f0.ext x4;replace f1 := f1.ext x4;replace e0 := e0.trans x4;replace y0 := y0.ext x4;apply gE;refine gR rfl ?_;refine gO rfl rfl (ld71 rfl f3 rfl) rfl ?_;refine gO rfl rfl (ld3 rfl f0 rfl) rfl ?_;refine gO rfl rfl (ld3 rfl f1 rfl) rfl ?_;refine gO rfl rfl (aOp_build zt32 hu32 pl32 rfl rfl) rfl ?_;refine GoR.callP rfl rfl (aCF aFunc56 rfl) (hdg _ (A.ext e0)) (by rintro _ _ ⟨q, _⟩; cases q) ?_;rintro chain h5 ⟨q, x5⟩
    have q := AEnd.pan.inj q
    subst q;replace f2 := f2.ext x5;replace y0 := y0.ext x5;exact FLeft.pan (⟨y0, f2, .inr rfl⟩)
   ·rw [if_neg c3];rw [if_neg c3] at hdg
    generalize D.keeps D.truths ((D.dug x y).course 0) = w at hdg ⊢
    unfold dC at *
    unfold spC at *
    have e0 : Ext h h := Ext.refl _
    refine Runs.intro aFunc55 rfl rfl rfl rfl fun rest => ?_;apply gS;refine gR rfl ?_;refine GoR.box rfl rfl rfl rfl rfl rfl fun h3 x3 f3 => ?_;replace f2 := f2.ext x3;replace f0 := f0.ext x3;replace f1 := f1.ext x3;replace e0 := e0.trans x3;replace y0 := y0.ext x3;apply gE;apply gS;refine gR rfl ?_;refine gO rfl rfl (ld71 rfl f3 rfl) rfl ?_;refine gO rfl rfl (ld3 rfl f0 rfl) rfl ?_;refine gO rfl rfl (ld3 rfl f1 rfl) rfl ?_;refine GoR.call rfl rfl (aCF aFunc51 rfl) (hnd _ (A.ext e0)) ?_ np;rintro v4 h4 ⟨q, x4⟩;cases q;refine ⟨_, rfl, ?_⟩;replace f3 := f3.ext x4;replace f2 := f2.ext x4;replace f0 := f0.ext x4;replace f1 := f1.ext x4;replace e0 := e0.trans x4;replace y0 := y0.ext x4;apply gE;refine gR rfl ?_;refine gO rfl rfl (ld71 rfl f3 rfl) rfl ?_;refine gO rfl rfl (ld3 rfl f0 rfl) rfl ?_;refine gO rfl rfl (ld3 rfl f1 rfl) rfl ?_;refine gO rfl rfl (aOp_build zt32 hu32 pl32 rfl rfl) rfl ?_;refine GoR.call rfl rfl (aCF aFunc56 rfl) (hdg _ (A.ext e0)) ?_ np;rintro v5 h5 ⟨q, x5⟩;cases q;refine ⟨_, rfl, ?_⟩;replace f2 := f2.ext x5;replace y0 := y0.ext x5;refine GoR.store rfl rfl rfl rfl rfl rfl f2 rfl sz3 rfl rfl rfl fun h6 u6 => ?_;replace f2 := u6.has f2;clear e0;replace y0 := y0.upd u6 (.inl rfl);apply gE;exact Go.endL (FLeft.ret (v := .tuple []) (aResult_of Try.func55 rfl rfl) ⟨y0, f2, .inl ⟨rfl, rfl⟩⟩)
 ·rw [DrainV.pair_no c1]
  have hnd := fun h A => needPair_no (D := D) (b := b) (d := d) (r := r) (s := s) (h := h) A O.B c1
  try unfold zSp at *
  unfold dC at *
  try unfold spC at *
  have e0 : Ext h h := Ext.refl _
  refine Runs.intro aFunc55 rfl rfl rfl rfl fun rest => ?_;apply gS;refine gR rfl ?_;refine GoR.box rfl rfl rfl rfl rfl rfl fun h3 x3 f3 => ?_;replace f0 := f0.ext x3;replace f1 := f1.ext x3;replace f2 := f2.ext x3;replace e0 := e0.trans x3;replace y0 := y0.ext x3;apply gE;apply gS;refine gR rfl ?_;refine gO rfl rfl (ld71 rfl f3 rfl) rfl ?_;refine gO rfl rfl (ld3 rfl f0 rfl) rfl ?_;refine gO rfl rfl (ld3 rfl f1 rfl) rfl ?_;refine GoR.callP rfl rfl (aCF aFunc51 rfl) (hnd _ (A.ext e0)) (by rintro _ _ ⟨q, _⟩; cases q) ?_;rintro chain h4 ⟨q, x4⟩
  have q := AEnd.pan.inj q
  subst q;replace f2 := f2.ext x4;replace y0 := y0.ext x4;exact FLeft.pan (⟨y0, f2, .inr rfl⟩)
theorem breaksB0_ok {D : DrainV} (O : D.Ok) {b d r s : AVal} {br bs : Nat} {h : AH} (A : DrainAt h D b d r s) (f0 : Has h br (.cells .plain [.int .i64 0] 3)) (f1 : Has h bs (.cells .plain [.int .i64 0] 3)) (hrs : br ≠ bs) :
  Runs Try.prog 53 [.agg (dC b d r s), .ptr br 0, .ptr bs 0] h (fun en h'' => ExtF (fun x => x = br ∨ x = bs) h h'' ∧ (Has h'' br (.cells .plain [.int .i64 (D.tr (((D.surely : Nat) : Int), ((D.perhaps : Nat) : Int)) zSp).1.1] 3) ∧ Has h'' bs (.cells .plain [.int .i64 (D.tr (((D.surely : Nat) : Int), ((D.perhaps : Nat) : Int)) zSp).1.2] 3)) ∧ (((D.tr (((D.surely : Nat) : Int), ((D.perhaps : Nat) : Int)) zSp).2 = 0 ∧ en = .ret (.tuple [])) ∨ en = .pan (refusal (D.tr (((D.surely : Nat) : Int), ((D.perhaps : Nat) : Int)) zSp).2))) := by
 have hnb := O.nb
 have y0 : ExtF (fun x => x = br ∨ x = bs) h h := ExtF.of (Ext.refl _)
 have hsm := A.same
 have l0 := f0.1
 have l1 := f1.1
 have htr := fun h A c => truths_yes O c (b := b) (d := d) (r := r) (s := s) (h := h) A
 have htn := fun h A c => truths_no O c (b := b) (d := d) (r := r) (s := s) (h := h) A
 by_cases c2 : D.truths = []
 ·rw [DrainV.tr_no c2]
  have hdn := fun h A => breaks_no O c2 (b := b) (d := d) (r := r) (s := s) (h := h) A
  unfold zSp at *
  unfold dC at *
  have e0 : Ext h h := Ext.refl _
  refine Runs.intro aFunc53 rfl rfl rfl rfl fun rest => ?_;apply gS;refine gR rfl ?_;refine GoR.box rfl rfl rfl rfl rfl rfl fun h2 x2 f2 => ?_;replace f0 := f0.ext x2;replace f1 := f1.ext x2;replace e0 := e0.trans x2;replace y0 := y0.ext x2;apply gE;refine gR rfl ?_;refine gO rfl rfl (ld71 rfl f2 rfl) rfl ?_;refine GoR.callP rfl rfl (aCF aFunc54 rfl) (hdn _ (A.ext e0)) (by rintro _ _ ⟨q, _⟩; cases q) ?_;rintro chain h3 ⟨q, x3⟩
  have q := AEnd.pan.inj q
  subst q;replace f0 := f0.ext x3;replace f1 := f1.ext x3;replace y0 := y0.ext x3;exact FLeft.pan (⟨y0, ⟨f0, f1⟩, .inr rfl⟩)
 ·rw [DrainV.tr_yes c2]
  have hdg := fun h A => breaksB_ok O c2 (b := b) (d := d) (r := r) (s := s) (h := h) A
  obtain ⟨w1, hw1⟩ : ∃ w, D.surely = w := ⟨_, rfl⟩
  rw [hw1] at hdg ⊢
  obtain ⟨w2, hw2⟩ : ∃ w, D.perhaps = w := ⟨_, rfl⟩
  rw [hw2] at hdg ⊢
  unfold dC at *
  have e0 : Ext h h := Ext.refl _
  refine Runs.intro aFunc53 rfl rfl rfl rfl fun rest => ?_;apply gS;refine gR rfl ?_;refine GoR.box rfl rfl rfl rfl rfl rfl fun h2 x2 f2 => ?_;have := e0.1;have := f0.1;have := f1.1;replace f0 := f0.ext x2;replace f1 := f1.ext x2;replace e0 := e0.trans x2;replace y0 := y0.ext x2;have := f2.1;apply gE;refine gR rfl ?_;refine gO rfl rfl (ld71 rfl f2 rfl) rfl ?_;refine GoR.call rfl rfl (aCF aFunc54 rfl) (hdg _ (A.ext e0)) ?_ np;rintro v3 h3 ⟨q, x3⟩;cases q;refine ⟨_, rfl, ?_⟩;replace f0 := f0.ext x3;replace f1 := f1.ext x3;replace y0 := y0.ext x3;iterate 3 refine gP ?_
  refine GoR.store rfl rfl rfl rfl rfl rfl f0 rfl sz3 rfl rfl rfl fun h4 u4 => ?_;replace f0 := u4.has f0;replace f1 := f1.upd u4 (by omega);clear e0;replace y0 := y0.upd u4 (by omega);refine GoR.store rfl rfl rfl rfl rfl rfl f1 rfl sz3 rfl rfl rfl fun h5 u5 => ?_;replace f0 := f0.upd u5 (by omega);replace f1 := u5.has f1;replace y0 := y0.upd u5 (by omega);apply gE;exact Go.endL (FLeft.ret (v := .tuple []) (aResult_of Try.func53 rfl rfl) ⟨y0, ⟨f0, f1⟩, .inl ⟨rfl, rfl⟩⟩)
theorem stopB0_ok {D : DrainV} (O : D.Ok) {b d r s : AVal} {br bs : Nat} {h : AH} (A : DrainAt h D b d r s) (f0 : Has h br (.cells .plain [.int .i64 0] 3)) (f1 : Has h bs (.cells .plain [.int .i64 0] 3)) (hrs : br ≠ bs) :
  Runs Try.prog 57 [.agg (dC b d r s), .ptr br 0, .ptr bs 0] h (fun en h'' => ExtF (fun x => x = br ∨ x = bs) h h'' ∧ (Has h'' br (.cells .plain [.int .i64 (D.tr (((popc (stopV D) : Nat) : Int), ((stopV D : Nat) : Int)) zSp).1.1] 3) ∧ Has h'' bs (.cells .plain [.int .i64 (D.tr (((popc (stopV D) : Nat) : Int), ((stopV D : Nat) : Int)) zSp).1.2] 3)) ∧ (((D.tr (((popc (stopV D) : Nat) : Int), ((stopV D : Nat) : Int)) zSp).2 = 0 ∧ en = .ret (.tuple [])) ∨ en = .pan (refusal (D.tr (((popc (stopV D) : Nat) : Int), ((stopV D : Nat) : Int)) zSp).2))) := by
 have hnb := O.nb
 have y0 : ExtF (fun x => x = br ∨ x = bs) h h := ExtF.of (Ext.refl _)
 have hsm := A.same
 have l0 := f0.1
 have l1 := f1.1
 have htr := fun h A c => truths_yes O c (b := b) (d := d) (r := r) (s := s) (h := h) A
 have htn := fun h A c => truths_no O c (b := b) (d := d) (r := r) (s := s) (h := h) A
 by_cases c2 : D.truths = []
 ·rw [DrainV.tr_no c2]
  have hdn := fun h A => stop_no O c2 (b := b) (d := d) (r := r) (s := s) (h := h) A
  unfold zSp at *
  unfold dC at *
  have e0 : Ext h h := Ext.refl _
  refine Runs.intro aFunc57 rfl rfl rfl rfl fun rest => ?_;apply gS;refine gR rfl ?_;refine GoR.box rfl rfl rfl rfl rfl rfl fun h2 x2 f2 => ?_;replace f0 := f0.ext x2;replace f1 := f1.ext x2;replace e0 := e0.trans x2;replace y0 := y0.ext x2;apply gE;refine gR rfl ?_;refine gO rfl rfl (ld71 rfl f2 rfl) rfl ?_;refine GoR.callP rfl rfl (aCF aFunc58 rfl) (hdn _ (A.ext e0)) (by rintro _ _ ⟨q, _⟩; cases q) ?_;rintro chain h3 ⟨q, x3⟩
  have q := AEnd.pan.inj q
  subst q;replace f0 := f0.ext x3;replace f1 := f1.ext x3;replace y0 := y0.ext x3;exact FLeft.pan (⟨y0, ⟨f0, f1⟩, .inr rfl⟩)
 ·rw [DrainV.tr_yes c2]
  have hdg := fun h A => stopB_ok O c2 (b := b) (d := d) (r := r) (s := s) (h := h) A
  obtain ⟨w1, hw1⟩ : ∃ w, popc (stopV D) = w := ⟨_, rfl⟩
  rw [hw1] at hdg ⊢
  obtain ⟨w2, hw2⟩ : ∃ w, stopV D = w := ⟨_, rfl⟩
  rw [hw2] at hdg ⊢
  unfold dC at *
  have e0 : Ext h h := Ext.refl _
  refine Runs.intro aFunc57 rfl rfl rfl rfl fun rest => ?_;apply gS;refine gR rfl ?_;refine GoR.box rfl rfl rfl rfl rfl rfl fun h2 x2 f2 => ?_;have := e0.1;have := f0.1;have := f1.1;replace f0 := f0.ext x2;replace f1 := f1.ext x2;replace e0 := e0.trans x2;replace y0 := y0.ext x2;have := f2.1;apply gE;refine gR rfl ?_;refine gO rfl rfl (ld71 rfl f2 rfl) rfl ?_;refine GoR.call rfl rfl (aCF aFunc58 rfl) (hdg _ (A.ext e0)) ?_ np;rintro v3 h3 ⟨q, x3⟩;cases q;refine ⟨_, rfl, ?_⟩;replace f0 := f0.ext x3;replace f1 := f1.ext x3;replace y0 := y0.ext x3;iterate 3 refine gP ?_
  refine GoR.store rfl rfl rfl rfl rfl rfl f0 rfl sz3 rfl rfl rfl fun h4 u4 => ?_;replace f0 := u4.has f0;replace f1 := f1.upd u4 (by omega);clear e0;replace y0 := y0.upd u4 (by omega);refine GoR.store rfl rfl rfl rfl rfl rfl f1 rfl sz3 rfl rfl rfl fun h5 u5 => ?_;replace f0 := f0.upd u5 (by omega);replace f1 := u5.has f1;replace y0 := y0.upd u5 (by omega);apply gE;exact Go.endL (FLeft.ret (v := .tuple []) (aResult_of Try.func57 rfl rfl) ⟨y0, ⟨f0, f1⟩, .inl ⟨rfl, rfl⟩⟩)
theorem clashB0_ok {D : DrainV} (O : D.Ok) {b d r s : AVal} {br : Nat} {h : AH} (A : DrainAt h D b d r s) (f0 : Has h br (.cells .plain [.int .i64 0] 3)) :
  Runs Try.prog 59 [.agg (dC b d r s), .ptr br 0] h (fun en h'' => ExtF (fun x => x = br) h h'' ∧ Has h'' br (.cells .plain [.int .i64 (D.clashQ).1] 3) ∧ (((D.clashQ).2 = 0 ∧ en = .ret (.tuple [])) ∨ en = .pan (refusal (D.clashQ).2))) := by
 have hnb := O.nb
 have y0 : ExtF (fun x => x = br) h h := ExtF.of (Ext.refl _)
 have hsm := A.same
 have l0 := f0.1
 have htr := fun h A c => truths_yes O c (b := b) (d := d) (r := r) (s := s) (h := h) A
 have htn := fun h A c => truths_no O c (b := b) (d := d) (r := r) (s := s) (h := h) A
 have hcl := fun h A => clashB_ok O (b := b) (d := d) (r := r) (s := s) (h := h) A
 unfold DrainV.clashQ
 cases q : clashV D with
 | none =>
  rw [q] at hcl
  dsimp only at hcl ⊢
  unfold dC at *
  have e0 : Ext h h := Ext.refl _
  refine Runs.intro aFunc59 rfl rfl rfl rfl fun rest => ?_;apply gS;refine gR rfl ?_;refine GoR.box rfl rfl rfl rfl rfl rfl fun h1 x1 f1 => ?_;replace f0 := f0.ext x1;replace e0 := e0.trans x1;replace y0 := y0.ext x1;apply gE;refine gR rfl ?_;refine gO rfl rfl (ld71 rfl f1 rfl) rfl ?_;refine GoR.callP rfl rfl (aCF aFunc60 rfl) (hcl _ (A.ext e0)) (by rintro _ _ ⟨q, _⟩; cases q) ?_;rintro chain h2 ⟨q, x2⟩
  have q := AEnd.pan.inj q
  subst q;replace f1 := f1.ext x2;replace f0 := f0.ext x2;replace e0 := e0.trans x2;replace y0 := y0.ext x2;exact FLeft.pan (⟨y0, f0, .inr rfl⟩)
 | some st =>
  rw [q] at hcl
  dsimp only at hcl ⊢
  unfold dC at *
  have e0 : Ext h h := Ext.refl _
  refine Runs.intro aFunc59 rfl rfl rfl rfl fun rest => ?_;apply gS;refine gR rfl ?_;refine GoR.box rfl rfl rfl rfl rfl rfl fun h1 x1 f1 => ?_;replace f0 := f0.ext x1;replace e0 := e0.trans x1;replace y0 := y0.ext x1;apply gE;refine gR rfl ?_;refine gO rfl rfl (ld71 rfl f1 rfl) rfl ?_;refine GoR.call rfl rfl (aCF aFunc60 rfl) (hcl _ (A.ext e0)) ?_ np;rintro v2 h2 ⟨q, x2⟩;cases q;refine ⟨_, rfl, ?_⟩;replace f0 := f0.ext x2;replace y0 := y0.ext x2;refine GoR.store rfl rfl rfl rfl rfl rfl f0 rfl sz3 rfl rfl rfl fun h3 u3 => ?_;replace f0 := u3.has f0;clear e0;replace y0 := y0.upd u3 (.inl rfl);apply gE;exact Go.endL (FLeft.ret (v := .tuple []) (aResult_of Try.func59 rfl rfl) ⟨y0, f0, .inl ⟨rfl, rfl⟩⟩)
end Go.Proofs.Ytkhiagdmbajimaa
