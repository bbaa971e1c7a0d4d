import Derived.Test.YtkhiagdmbajimaaMAS
import Derived.Test.YtkhiagdmbajimaaMAG
import Derived.Deep.Slices
import Derived.Lib.SmallJoins
import Derived.Carry
import Derived.Test.YtkhiagdmbajimaaMAK
import Derived.Test.YtkhiagdmbajimaaMAQ
import Derived.Laws.IdiomArrays
import Derived.Test.YtkhiagdmbajimaaRows
import Derived.WalkKit
import Derived.ProofKit
import Derived.OpenShut
namespace Go.Proofs.Ytkhiagdmbajimaa
open Go Go.AbsE
set_option linter.unusedSimpArgs false
set_option maxRecDepth 100000
set_option maxHeartbeats 0
set_option linter.unusedVariables false
theorem bits_low {p : RtV → Bool} : ∀ {L : List RtV} {k i : Nat}, i < k → (bitsFrom p k L).testBit i = false
 | [], k, i, _ => by simp [bitsFrom]
 | x :: L, k, i, h => by
  show ((if p x = true then 2 ^ k else 0) ||| bitsFrom p (k + 1) L).testBit i = _
  rw [Nat.testBit_or, bits_low (by omega), Bool.or_false]
  split
  ·rw [Nat.testBit_two_pow_of_ne (by omega)]
  ·exact Nat.zero_testBit _
theorem bits_get {p : RtV → Bool} : ∀ {L : List RtV} {k i : Nat}, (bitsFrom p k L).testBit (k + i) = match L[i]? with | some r => p r | none => false
 | [], k, i => by simp [bitsFrom]
 | x :: L, k, i => by
  show ((if p x = true then 2 ^ k else 0) ||| bitsFrom p (k + 1) L).testBit (k + i) = _
  rw [Nat.testBit_or]
  match i with
  | 0 =>
   rw [Nat.add_zero, bits_low (by omega), Bool.or_false]
   show _ = p x
   cases p x with
   | false => simp
   | true => simp
  | i + 1 =>
   rw [show k + (i + 1) = k + 1 + i by omega, bits_get]
   have : (if p x = true then 2 ^ k else 0).testBit (k + 1 + i) = false := by
    split
    ·rw [Nat.testBit_two_pow_of_ne (by omega)]
    ·exact Nat.zero_testBit _
   rw [this, Bool.false_or]
   rfl
theorem bits_at {p : RtV → Bool} {L : List RtV} {i : Nat} {r : RtV} (h : L[i]? = some r) : (bitsFrom p 0 L).testBit i = p r := by
 have := bits_get (p := p) (L := L) (k := 0) (i := i)
 rw [Nat.zero_add, h] at this;exact this
theorem wat_le {D : DrainV} (O : D.Ok) (c : List Nat) (a : Nat) : wat c (lows D) a ≤ wat c (highs D) a := by
 unfold wat
 generalize treeV c 21 a = L
 induction L with
 | nil => exact Int.le_refl _
 | cons x L ih =>
  rw [List.map_cons, List.map_cons]
  show lv (lows D) x + sumI _ ≤ lv (highs D) x + sumI _
  have : lv (lows D) x ≤ lv (highs D) x := by
   unfold lv lows highs
   rw [List.getElem?_map, List.getElem?_map]
   cases q : D.bs[x]? with
   | none => exact Int.le_refl _
   | some y =>
    have := (O.b y (List.mem_of_getElem? q)).2
    show y.yl ≤ y.yh
    omega
  omega
theorem must_can {D : DrainV} (O : D.Ok) {c : List Nat} {x : RtV} (hx : x ∈ D.rs) (h : D.must c x = true) : D.can c x = true := by
 have hro := O.r x hx
 obtain ⟨ro, rt, rm⟩ := x
 unfold RtV.Ok PairOk at hro
 dsimp only at hro
 obtain ⟨o, rfl⟩ := Int.eq_ofNat_of_zero_le hro.1.1.1
 obtain ⟨t, rfl⟩ := Int.eq_ofNat_of_zero_le hro.1.2.1.1
 rw [must_is hro.2.1] at h;rw [can_is hro.2.1]
 have h := of_decide_eq_true h
 have := wat_le O c o
 exact decide_eq_true ⟨h.1, by omega⟩
theorem keeps_cases {D : DrainV} (O : D.Ok) {T : List (List Int)} (hT : T ≠ []) {crs : List Int → List Nat} {kp : Int} (hk : D.keeps T crs = kp) :
  (kp = 2 ∧ (T.all fun l => !(D.rs.any (D.can (crs l)))) = true ∧ (T.all fun l => D.rs.any (D.must (crs l))) = false) ∨ (kp = 0 ∧ (T.all fun l => !(D.rs.any (D.can (crs l)))) = false ∧ (T.all fun l => D.rs.any (D.must (crs l))) = true) ∨ (kp = 1 ∧ (T.all fun l => !(D.rs.any (D.can (crs l)))) = false ∧ (T.all fun l => D.rs.any (D.must (crs l))) = false) := by
 unfold DrainV.keeps at hk
 have h2 : (T.all fun l => D.rs.any (D.must (crs l))) = !(T.any fun l => !(D.rs.any (D.must (crs l)))) := by
  rw [List.not_any_eq_all_not]
  simp
 rw [h2]
 split at hk
 ·rename_i q
  refine .inl ⟨hk.symm, q, ?_⟩
  obtain ⟨l, hl⟩ := List.exists_mem_of_ne_nil T hT
  rw [Bool.not_eq_false', List.any_eq_true];refine ⟨l, hl, ?_⟩;rw [List.all_eq_true] at q
  have h3 := q l hl
  rw [Bool.not_eq_true', List.any_eq_false] at h3 ⊢;exact fun x hx h4 => h3 x hx (must_can O hx h4)
 ·rename_i q
  rw [Bool.not_eq_true] at q
  split at hk
  ·rename_i q2
   exact .inr (.inr ⟨hk.symm, q, by rw [q2]; rfl⟩)
  ·rename_i q2
   rw [Bool.not_eq_true] at q2;exact .inr (.inl ⟨hk.symm, q, by rw [q2]; rfl⟩)
theorem dug_ok {D : DrainV} (O : D.Ok) {x y : Nat} (h : PairOk D.bs.length ((x : Int), (y : Int))) (hd : D.ds.length ≤ 6) : (D.dug x y).Ok :=
 ⟨O.nb, O.b, by show (D.ds ++ [_]).length ≤ 7; rw [List.length_append]; show D.ds.length + 1 ≤ 7; omega, fun w hw => by
  rcases List.mem_append.1 hw with hw | hw
  ·exact O.d w hw
  ·rw [List.mem_singleton.1 hw]; exact h, O.nr, O.r, O.ns, O.s⟩
theorem law6_ok {D : DrainV} {b d r s : AVal} {h : AH} (A : DrainAt h D b d r s) (O : D.Ok) {w1 w2 : Nat} (hw : w1 < 256) (hw2 : w2 < 256) : Runs Try.prog 6 [.agg (dC b d r s), .int .u8 (w1 : Nat), .int .u8 (w2 : Nat)] h (fun en h' => en = .ret (.bool true) ∧ Ext h h') := by
 have hnb := O.nb
 have hnd := O.nd
 have hF := fun {h'} (e : Ext h h') => far_ok (A.ext e) O.B.L
 rw [decide_eq_false (fun w => w O.B)] at hF
 have hR := fun {h'} (e : Ext h h') => Drain23_ok (A.ext e) O.B
 rw [decide_eq_true O] at hR
 have hl1 := A.bs.len
 have hl2 := A.ds.len
 have hl3 := A.rs.len
 rw [List.length_map] at hl1 hl2 hl3
 have hBr := fun {h'} (e : Ext h h') => Breaks_ok (A.ext e) O.B
 rw [breaksR_is O] at hBr
 have hsm := A.same
 have hscD := A.scal
 have hFl := fun {h'} (e : Ext h h') (x y : Int) => Flow_ok (A.ext e) O.B x y
 have hDg := fun {h'} (e : Ext h h') (x y : Int) => Dig_ok (A.ext e) O.B x y
 by_cases hT : D.truths = []
 ·rw [DrainV.tr_no hT] at hBr
  unfold zSp at hBr
  dsimp only at hBr
  unfold dC at *
  have e0 : Ext h h := Ext.refl _
  refine Runs.intro aFunc6 rfl rfl rfl rfl fun rest => ?_;apply gS;refine gR rfl ?_;refine GoR.box rfl rfl rfl rfl rfl rfl fun h0 x0 f0 => ?_;replace e0 := e0.trans x0;refine gP ?_;apply gE;iterate 2 apply gS
  refine gR rfl ?_;refine gO rfl rfl (ld29 rfl f0 rfl) rfl ?_;refine GoR.call rfl rfl (aCF aFunc22 rfl) (hF e0) ?_ np;rintro v1 h1 ⟨q, x1⟩;cases q;refine ⟨_, rfl, ?_⟩;replace f0 := f0.ext x1;replace e0 := e0.trans x1;refine gP ?_;refine gO rfl rfl (ld29 rfl f0 rfl) rfl ?_;refine GoR.call rfl rfl (aCF aFunc23 rfl) (hR e0) ?_ np;rintro v2 h2 ⟨q, x2⟩;cases q;refine ⟨_, rfl, ?_⟩;replace f0 := f0.ext x2;replace e0 := e0.trans x2;iterate 2 refine gP ?_
  apply gE;refine gC (b := false) rfl ?_;refine gD ?_;apply gS;refine gR rfl ?_;refine gO rfl rfl (fa29_0 rfl) rfl ?_;refine gO rfl rfl (ld25 rfl f0 rfl) rfl ?_;refine gO rfl rfl (aOp_lenSlice Try.underlying25 rfl hl1) rfl ?_;refine gP ?_;apply gE;apply gS;refine gR rfl ?_;refine gO rfl rfl (ld29 rfl f0 rfl) rfl ?_;refine GoR.call rfl rfl (aCF aFunc16 rfl) (hBr e0) ?_ np;rintro v3 h3 ⟨q, x3⟩;cases q;refine ⟨_, rfl, ?_⟩;replace e0 := e0.trans x3;iterate 7 refine gP ?_
  apply gE;iterate 2 apply gS
  refine gR rfl ?_;refine gP ?_;refine gO rfl rfl (kXT rfl rfl) rfl ?_;apply gE;refine gC (b := true) rfl ?_;apply gS;refine gR rfl ?_;refine gP ?_;refine gO rfl rfl (kET rfl rfl) rfl ?_;iterate 2 refine gP ?_
  refine gO rfl rfl (kET rfl rfl) rfl ?_;iterate 3 refine gP ?_
  refine gO rfl rfl (kET rfl rfl) rfl ?_;iterate 2 refine gP ?_
  refine GoR.call rfl rfl (aCF aFunc20 rfl) (awake_ok) ?_ np;rintro v4 h4 ⟨q, x4⟩;cases q;refine ⟨_, rfl, ?_⟩;replace e0 := e0.trans x4;iterate 2 refine gP ?_
  apply gE;exact gW Try.func6 rfl rfl ⟨rfl, e0⟩
 ·rw [DrainV.tr_yes hT] at hBr
  dsimp only at hBr
  have hpb : bitsFrom (fun r => decide (r.m < (D.flow r.o.toNat r.t.toNat).2)) 0 D.rs < 2 ^ (0 + D.rs.length) := bits_lt
  obtain ⟨pe, hpe⟩ : ∃ q, D.perhaps = q := ⟨_, rfl⟩
  obtain ⟨su, hsu⟩ : ∃ q, D.surely = q := ⟨_, rfl⟩
  have hps : ((pe : Nat) : Int).fdiv (2 ^ D.rs.length) = 0 := by
   have : D.perhaps < 2 ^ (0 + D.rs.length) := hpb
   rw [hpe, Nat.zero_add] at this;rw [Int.fdiv_eq_ediv_of_nonneg _ (Int.pow_nonneg (by omega)), show ((2 : Int) ^ D.rs.length) = ((2 ^ D.rs.length : Nat) : Int) by simp, ← Int.natCast_ediv, Nat.div_eq_of_lt this]
   rfl
  have hnr := O.nr
  have hb1 : ∀ i r, D.rs[i]? = some r → su.testBit i = decide (r.m < (D.flow r.o.toNat r.t.toNat).1) := fun i r k => by rw [← hsu]; exact bits_at k
  have hb2 : ∀ i r, D.rs[i]? = some r → pe.testBit i = decide (r.m < (D.flow r.o.toNat r.t.toNat).2) := fun i r k => by rw [← hpe]; exact bits_at k
  rw [hpe, hsu] at hBr
  unfold dC at *
  have e0 : Ext h h := Ext.refl _
  refine Runs.intro aFunc6 rfl rfl rfl rfl fun rest => ?_;apply gS;refine gR rfl ?_;refine GoR.box rfl rfl rfl rfl rfl rfl fun h0 x0 f0 => ?_;have := e0.1;replace e0 := e0.trans x0;have := f0.1;refine gP ?_;apply gE;iterate 2 apply gS
  refine gR rfl ?_;refine gO rfl rfl (ld29 rfl f0 rfl) rfl ?_;refine GoR.call rfl rfl (aCF aFunc22 rfl) (hF e0) ?_ np;rintro v1 h1 ⟨q, x1⟩;cases q;refine ⟨_, rfl, ?_⟩;replace f0 := f0.ext x1;replace e0 := e0.trans x1;refine gP ?_;refine gO rfl rfl (ld29 rfl f0 rfl) rfl ?_;refine GoR.call rfl rfl (aCF aFunc23 rfl) (hR e0) ?_ np;rintro v2 h2 ⟨q, x2⟩;cases q;refine ⟨_, rfl, ?_⟩;replace f0 := f0.ext x2;replace e0 := e0.trans x2;iterate 2 refine gP ?_
  apply gE;refine gC (b := false) rfl ?_;refine gD ?_;apply gS;refine gR rfl ?_;refine gO rfl rfl (fa29_0 rfl) rfl ?_;refine gO rfl rfl (ld25 rfl f0 rfl) rfl ?_;refine gO rfl rfl (aOp_lenSlice Try.underlying25 rfl hl1) rfl ?_;refine gP ?_;apply gE;apply gS;refine gR rfl ?_;refine gO rfl rfl (ld29 rfl f0 rfl) rfl ?_;refine GoR.call rfl rfl (aCF aFunc16 rfl) (hBr e0) ?_ np;rintro v3 h3 ⟨q, x3⟩;cases q;refine ⟨_, rfl, ?_⟩;replace f0 := f0.ext x3;replace e0 := e0.trans x3;iterate 7 refine gP ?_
  apply gE;iterate 2 apply gS
  refine gR rfl ?_;refine gP ?_;refine gO rfl rfl (kXF rfl rfl) rfl ?_;apply gE;refine gC (b := false) rfl ?_;refine gD ?_;iterate 2 apply gS
  refine gR rfl ?_;refine gP ?_;refine gO rfl rfl (kLF rfl rfl) rfl ?_;iterate 2 refine gP ?_
  refine gO rfl rfl (fa29_2 rfl) rfl ?_;refine gO rfl rfl (ld27 rfl f0 rfl) rfl ?_;refine gO rfl rfl (aOp_lenSlice Try.underlying27 rfl hl3) rfl ?_;refine gO rfl rfl (aOp_shr rfl rfl (by omega) hps) rfl ?_;refine gO rfl rfl (kXF rfl rfl) rfl ?_;refine gP ?_;apply gE;refine gC (b := false) rfl ?_;refine gD ?_;iterate 2 apply gS
  refine gR rfl ?_;refine gO rfl rfl (fa29_2 rfl) rfl ?_;refine gO rfl rfl (ld27 rfl f0 rfl) rfl ?_;refine gO rfl rfl (aOp_lenSlice Try.underlying27 rfl hl3) rfl ?_;refine gP ?_;apply gE;refine Go.block noJ_ok ?_;refine Go.loopKeep (fun i : Nat => [(1, .int .u8 (w1 : Nat)), (2, .int .u8 (w2 : Nat)), (3, .ptr h.next 0), (7, .int .i64 D.bs.length), (8, .int .i64 (su : Nat)), (9, .int .i64 (pe : Nat)), (69, r), (70, .int .i64 D.rs.length), (71, .int .i64 (i : Nat))]) (fun m i h' => m + i = D.rs.length ∧ Ext h h' ∧ Has h' h.next (.cells .plain [b, d, r, s] 29)) (n := D.rs.length) 0 ⟨rfl, rfl, rfl, rfl, rfl, rfl, rfl, rfl, rfl, trivial⟩ ⟨rfl, e0, f0⟩ ?_;clear e0 f0;rintro m i h10 ⟨hm, e0, f0⟩ again
  have hce := e0.1
  have hb0 := f0.1
  by_cases hi : i < D.rs.length
  ·obtain ⟨x, hx⟩ : ∃ x, D.rs[i]? = some x := ⟨D.rs[i], by simp [hi]⟩
   obtain ⟨bq, off, q1, q2⟩ := A.rs.at (i := i) (l := RtV.cells x) (by rw [List.getElem?_map, hx]; rfl)
   rw [List.length_map] at q1
   have hxo := O.r x (List.mem_of_getElem? hx)
   have hc1 := hb1 i x hx
   have hc2 := hb2 i x hx
   have hFx := fun {h'} (e : Ext h h') => hFl e x.o x.t
   have hfv : D.flowR x.o x.t = (D.flow x.o.toNat x.t.toNat, 0) := by
    unfold DrainV.flowR DrainV.pairQ
    rw [DrainV.ok_yes O, if_pos hxo.1, DrainV.tr_yes hT]
   rw [hfv] at hFx
   unfold RtV.cells at q2
   obtain ⟨ro, rt, rm⟩ := x
   dsimp only at q2 hFx hc1 hc2
   obtain ⟨⟨fl, fh⟩, hfl⟩ : ∃ z, D.flow ro.toNat rt.toNat = z := ⟨_, rfl⟩
   rw [hfl] at hFx hc1 hc2
   unfold spC at hFx
   dsimp only at hFx hc1 hc2
   have hbi1 := bit_int su i
   have hbi2 := bit_int pe i
   rw [hc1] at hbi1;rw [hc2] at hbi2
   by_cases g1 : rm < fl
   ·by_cases g2 : rm < fh
    ·rw [decide_eq_true g1] at hbi1;rw [decide_eq_true g2] at hbi2;apply gS;refine gR rfl ?_;refine gO rfl rfl (kLT rfl rfl) rfl ?_;apply gE;apply gS;refine gC (b := true) rfl ?_;refine gD ?_;apply gS;refine Go.block noJ_ok ?_;apply gS;refine gR rfl ?_;refine gP ?_;refine gO rfl rfl (aOp_indexAddr (i := i) Try.underlying27 sz57 rfl q1 rfl (Nat.ble_eq_true_of_le hi)) rfl ?_;refine gO rfl rfl (aOp_loadE ag57 sz57 rfl (q2.ext e0)) rfl ?_;refine GoR.alloc rfl rfl rfl zt57 rfl rfl fun h11 x11 f11 => ?_;have := e0.1;have := f0.1;replace f0 := f0.ext x11;replace e0 := e0.trans x11;have := f11.1;refine gP ?_;refine GoR.store rfl rfl rfl rfl rfl rfl f11 rfl sz57 rfl rfl rfl fun h12 u12 => ?_;replace f11 := u12.has f11;replace f0 := f0.upd u12 (by omega);replace e0 := e0.upd u12 (by omega);apply gE;apply gS;refine gR rfl ?_;refine gO rfl rfl (ld29 rfl f0 rfl) rfl ?_;refine gO rfl rfl (fa57_0 rfl) rfl ?_;refine gO rfl rfl (ld3 rfl f11 rfl) rfl ?_;refine gO rfl rfl (fa57_1 rfl) rfl ?_;refine gO rfl rfl (ld3 rfl f11 rfl) rfl ?_;refine GoR.call rfl rfl (aCF aFunc15 rfl) (hFx e0) ?_ np;rintro v13 h13 ⟨q, x13⟩;cases q;refine ⟨_, rfl, ?_⟩;replace f11 := f11.ext x13;replace f0 := f0.ext x13;replace e0 := e0.trans x13;iterate 3 refine gP ?_
     refine GoR.alloc rfl rfl rfl zt35 rfl rfl fun h14 x14 f14 => ?_;have := e0.1;have := f11.1;have := f0.1;replace f11 := f11.ext x14;replace f0 := f0.ext x14;replace e0 := e0.trans x14;have := f14.1;refine GoR.store rfl rfl rfl rfl rfl rfl f14 rfl sz35 rfl rfl rfl fun h15 u15 => ?_;replace f14 := u15.has f14;replace f11 := f11.upd u15 (by omega);replace f0 := f0.upd u15 (by omega);replace e0 := e0.upd u15 (by omega);refine gP ?_;apply gE;apply gS;refine Go.drawnE plan6_0 ?_;refine gQ rfl rfl rfl rfl ?_;refine gQ rfl rfl (kXF rfl rfl) rfl ?_;iterate 3 refine gQ rfl rfl rfl rfl ?_
     refine gQ rfl rfl (aOp_shr rfl rfl (by omega) rfl) rfl ?_;refine gQ rfl rfl (aOp_and1 rfl rfl rfl) rfl ?_;refine gQ rfl rfl (aOp_eql rfl rfl hbi1) rfl ?_;refine gQ rfl rfl (fa35_0 rfl) rfl ?_;refine gQ rfl rfl (ld3 rfl f14 rfl) rfl ?_;refine gQ rfl rfl (fa57_2 rfl) rfl ?_;refine gQ rfl rfl (ld3 rfl f11 rfl) rfl ?_;refine gQ rfl rfl (kGT rfl rfl) rfl ?_;refine gQ rfl rfl (aOp_neqBool (r := false) rfl rfl Try.underlying4 rfl) rfl ?_;iterate 4 refine gQ rfl rfl rfl rfl ?_
     refine gQ rfl rfl (aOp_shr rfl rfl (by omega) rfl) rfl ?_;refine gQ rfl rfl (aOp_and1 rfl rfl rfl) rfl ?_;refine gQ rfl rfl (aOp_eql rfl rfl hbi2) rfl ?_;refine gQ rfl rfl (fa35_1 rfl) rfl ?_;refine gQ rfl rfl (ld3 rfl f14 rfl) rfl ?_;refine gQ rfl rfl (fa57_2 rfl) rfl ?_;refine gQ rfl rfl (ld3 rfl f11 rfl) rfl ?_;refine gQ rfl rfl (kGT rfl rfl) rfl ?_;refine gQ rfl rfl (aOp_neqBool (r := false) rfl rfl Try.underlying4 rfl) rfl ?_;refine gQ rfl rfl rfl rfl ?_;refine GoE.end rfl ?_;refine gC (b := false) rfl ?_;refine gD ?_;refine Go.inBlock noJ_ok ?_;refine gR rfl ?_;refine gO rfl rfl (aA rfl rfl) rfl ?_;refine gP ?_;apply gE;exact again (m - 1) (i + 1) _ _ (by omega) ⟨rfl, rfl, rfl, rfl, rfl, rfl, rfl, rfl, rfl, trivial⟩ ⟨by omega, e0, f0⟩
    ·rw [decide_eq_true g1] at hbi1;rw [decide_eq_false g2] at hbi2;apply gS;refine gR rfl ?_;refine gO rfl rfl (kLT rfl rfl) rfl ?_;apply gE;apply gS;refine gC (b := true) rfl ?_;refine gD ?_;apply gS;refine Go.block noJ_ok ?_;apply gS;refine gR rfl ?_;refine gP ?_;refine gO rfl rfl (aOp_indexAddr (i := i) Try.underlying27 sz57 rfl q1 rfl (Nat.ble_eq_true_of_le hi)) rfl ?_;refine gO rfl rfl (aOp_loadE ag57 sz57 rfl (q2.ext e0)) rfl ?_;refine GoR.alloc rfl rfl rfl zt57 rfl rfl fun h11 x11 f11 => ?_;have := e0.1;have := f0.1;replace f0 := f0.ext x11;replace e0 := e0.trans x11;have := f11.1;refine gP ?_;refine GoR.store rfl rfl rfl rfl rfl rfl f11 rfl sz57 rfl rfl rfl fun h12 u12 => ?_;replace f11 := u12.has f11;replace f0 := f0.upd u12 (by omega);replace e0 := e0.upd u12 (by omega);apply gE;apply gS;refine gR rfl ?_;refine gO rfl rfl (ld29 rfl f0 rfl) rfl ?_;refine gO rfl rfl (fa57_0 rfl) rfl ?_;refine gO rfl rfl (ld3 rfl f11 rfl) rfl ?_;refine gO rfl rfl (fa57_1 rfl) rfl ?_;refine gO rfl rfl (ld3 rfl f11 rfl) rfl ?_;refine GoR.call rfl rfl (aCF aFunc15 rfl) (hFx e0) ?_ np;rintro v13 h13 ⟨q, x13⟩;cases q;refine ⟨_, rfl, ?_⟩;replace f11 := f11.ext x13;replace f0 := f0.ext x13;replace e0 := e0.trans x13;iterate 3 refine gP ?_
     refine GoR.alloc rfl rfl rfl zt35 rfl rfl fun h14 x14 f14 => ?_;have := e0.1;have := f11.1;have := f0.1;replace f11 := f11.ext x14;replace f0 := f0.ext x14;replace e0 := e0.trans x14;have := f14.1;refine GoR.store rfl rfl rfl rfl rfl rfl f14 rfl sz35 rfl rfl rfl fun h15 u15 => ?_;replace f14 := u15.has f14;replace f11 := f11.upd u15 (by omega);replace f0 := f0.upd u15 (by omega);replace e0 := e0.upd u15 (by omega);refine gP ?_;apply gE;apply gS;refine Go.drawnE plan6_0 ?_;refine gQ rfl rfl rfl rfl ?_;refine gQ rfl rfl (kXF rfl rfl) rfl ?_;iterate 3 refine gQ rfl rfl rfl rfl ?_
     refine gQ rfl rfl (aOp_shr rfl rfl (by omega) rfl) rfl ?_;refine gQ rfl rfl (aOp_and1 rfl rfl rfl) rfl ?_;refine gQ rfl rfl (aOp_eql rfl rfl hbi1) rfl ?_;refine gQ rfl rfl (fa35_0 rfl) rfl ?_;refine gQ rfl rfl (ld3 rfl f14 rfl) rfl ?_;refine gQ rfl rfl (fa57_2 rfl) rfl ?_;refine gQ rfl rfl (ld3 rfl f11 rfl) rfl ?_;refine gQ rfl rfl (kGT rfl rfl) rfl ?_;refine gQ rfl rfl (aOp_neqBool (r := false) rfl rfl Try.underlying4 rfl) rfl ?_;iterate 4 refine gQ rfl rfl rfl rfl ?_
     refine gQ rfl rfl (aOp_shr rfl rfl (by omega) rfl) rfl ?_;refine gQ rfl rfl (aOp_and1 rfl rfl rfl) rfl ?_;refine gQ rfl rfl (aOp_eql rfl rfl hbi2) rfl ?_;refine gQ rfl rfl (fa35_1 rfl) rfl ?_;refine gQ rfl rfl (ld3 rfl f14 rfl) rfl ?_;refine gQ rfl rfl (fa57_2 rfl) rfl ?_;refine gQ rfl rfl (ld3 rfl f11 rfl) rfl ?_;refine gQ rfl rfl (kGF rfl rfl) rfl ?_;refine gQ rfl rfl (aOp_neqBool (r := false) rfl rfl Try.underlying4 rfl) rfl ?_;refine gQ rfl rfl rfl rfl ?_;refine GoE.end rfl ?_;refine gC (b := false) rfl ?_;refine gD ?_;refine Go.inBlock noJ_ok ?_;refine gR rfl ?_;refine gO rfl rfl (aA rfl rfl) rfl ?_;refine gP ?_;apply gE;exact again (m - 1) (i + 1) _ _ (by omega) ⟨rfl, rfl, rfl, rfl, rfl, rfl, rfl, rfl, rfl, trivial⟩ ⟨by omega, e0, f0⟩
   ·by_cases g2 : rm < fh
    ·rw [decide_eq_false g1] at hbi1;rw [decide_eq_true g2] at hbi2;apply gS;refine gR rfl ?_;refine gO rfl rfl (kLT rfl rfl) rfl ?_;apply gE;apply gS;refine gC (b := true) rfl ?_;refine gD ?_;apply gS;refine Go.block noJ_ok ?_;apply gS;refine gR rfl ?_;refine gP ?_;refine gO rfl rfl (aOp_indexAddr (i := i) Try.underlying27 sz57 rfl q1 rfl (Nat.ble_eq_true_of_le hi)) rfl ?_;refine gO rfl rfl (aOp_loadE ag57 sz57 rfl (q2.ext e0)) rfl ?_;refine GoR.alloc rfl rfl rfl zt57 rfl rfl fun h11 x11 f11 => ?_;have := e0.1;have := f0.1;replace f0 := f0.ext x11;replace e0 := e0.trans x11;have := f11.1;refine gP ?_;refine GoR.store rfl rfl rfl rfl rfl rfl f11 rfl sz57 rfl rfl rfl fun h12 u12 => ?_;replace f11 := u12.has f11;replace f0 := f0.upd u12 (by omega);replace e0 := e0.upd u12 (by omega);apply gE;apply gS;refine gR rfl ?_;refine gO rfl rfl (ld29 rfl f0 rfl) rfl ?_;refine gO rfl rfl (fa57_0 rfl) rfl ?_;refine gO rfl rfl (ld3 rfl f11 rfl) rfl ?_;refine gO rfl rfl (fa57_1 rfl) rfl ?_;refine gO rfl rfl (ld3 rfl f11 rfl) rfl ?_;refine GoR.call rfl rfl (aCF aFunc15 rfl) (hFx e0) ?_ np;rintro v13 h13 ⟨q, x13⟩;cases q;refine ⟨_, rfl, ?_⟩;replace f11 := f11.ext x13;replace f0 := f0.ext x13;replace e0 := e0.trans x13;iterate 3 refine gP ?_
     refine GoR.alloc rfl rfl rfl zt35 rfl rfl fun h14 x14 f14 => ?_;have := e0.1;have := f11.1;have := f0.1;replace f11 := f11.ext x14;replace f0 := f0.ext x14;replace e0 := e0.trans x14;have := f14.1;refine GoR.store rfl rfl rfl rfl rfl rfl f14 rfl sz35 rfl rfl rfl fun h15 u15 => ?_;replace f14 := u15.has f14;replace f11 := f11.upd u15 (by omega);replace f0 := f0.upd u15 (by omega);replace e0 := e0.upd u15 (by omega);refine gP ?_;apply gE;apply gS;refine Go.drawnE plan6_0 ?_;refine gQ rfl rfl rfl rfl ?_;refine gQ rfl rfl (kXF rfl rfl) rfl ?_;iterate 3 refine gQ rfl rfl rfl rfl ?_
     refine gQ rfl rfl (aOp_shr rfl rfl (by omega) rfl) rfl ?_;refine gQ rfl rfl (aOp_and1 rfl rfl rfl) rfl ?_;refine gQ rfl rfl (aOp_eql rfl rfl hbi1) rfl ?_;refine gQ rfl rfl (fa35_0 rfl) rfl ?_;refine gQ rfl rfl (ld3 rfl f14 rfl) rfl ?_;refine gQ rfl rfl (fa57_2 rfl) rfl ?_;refine gQ rfl rfl (ld3 rfl f11 rfl) rfl ?_;refine gQ rfl rfl (kGF rfl rfl) rfl ?_;refine gQ rfl rfl (aOp_neqBool (r := false) rfl rfl Try.underlying4 rfl) rfl ?_;iterate 4 refine gQ rfl rfl rfl rfl ?_
     refine gQ rfl rfl (aOp_shr rfl rfl (by omega) rfl) rfl ?_;refine gQ rfl rfl (aOp_and1 rfl rfl rfl) rfl ?_;refine gQ rfl rfl (aOp_eql rfl rfl hbi2) rfl ?_;refine gQ rfl rfl (fa35_1 rfl) rfl ?_;refine gQ rfl rfl (ld3 rfl f14 rfl) rfl ?_;refine gQ rfl rfl (fa57_2 rfl) rfl ?_;refine gQ rfl rfl (ld3 rfl f11 rfl) rfl ?_;refine gQ rfl rfl (kGT rfl rfl) rfl ?_;refine gQ rfl rfl (aOp_neqBool (r := false) rfl rfl Try.underlying4 rfl) rfl ?_;refine gQ rfl rfl rfl rfl ?_;refine GoE.end rfl ?_;refine gC (b := false) rfl ?_;refine gD ?_;refine Go.inBlock noJ_ok ?_;refine gR rfl ?_;refine gO rfl rfl (aA rfl rfl) rfl ?_;refine gP ?_;apply gE;exact again (m - 1) (i + 1) _ _ (by omega) ⟨rfl, rfl, rfl, rfl, rfl, rfl, rfl, rfl, rfl, trivial⟩ ⟨by omega, e0, f0⟩
    ·rw [decide_eq_false g1] at hbi1;rw [decide_eq_false g2] at hbi2;apply gS;refine gR rfl ?_;refine gO rfl rfl (kLT rfl rfl) rfl ?_;apply gE;apply gS;refine gC (b := true) rfl ?_;refine gD ?_;apply gS;refine Go.block noJ_ok ?_;apply gS;refine gR rfl ?_;refine gP ?_;refine gO rfl rfl (aOp_indexAddr (i := i) Try.underlying27 sz57 rfl q1 rfl (Nat.ble_eq_true_of_le hi)) rfl ?_;refine gO rfl rfl (aOp_loadE ag57 sz57 rfl (q2.ext e0)) rfl ?_;refine GoR.alloc rfl rfl rfl zt57 rfl rfl fun h11 x11 f11 => ?_;have := e0.1;have := f0.1;replace f0 := f0.ext x11;replace e0 := e0.trans x11;have := f11.1;refine gP ?_;refine GoR.store rfl rfl rfl rfl rfl rfl f11 rfl sz57 rfl rfl rfl fun h12 u12 => ?_;replace f11 := u12.has f11;replace f0 := f0.upd u12 (by omega);replace e0 := e0.upd u12 (by omega);apply gE;apply gS;refine gR rfl ?_;refine gO rfl rfl (ld29 rfl f0 rfl) rfl ?_;refine gO rfl rfl (fa57_0 rfl) rfl ?_;refine gO rfl rfl (ld3 rfl f11 rfl) rfl ?_;refine gO rfl rfl (fa57_1 rfl) rfl ?_;refine gO rfl rfl (ld3 rfl f11 rfl) rfl ?_;refine GoR.call rfl rfl (aCF aFunc15 rfl) (hFx e0) ?_ np;rintro v13 h13 ⟨q, x13⟩;cases q;refine ⟨_, rfl, ?_⟩;replace f11 := f11.ext x13;replace f0 := f0.ext x13;replace e0 := e0.trans x13;iterate 3 refine gP ?_
     refine GoR.alloc rfl rfl rfl zt35 rfl rfl fun h14 x14 f14 => ?_;have := e0.1;have := f11.1;have := f0.1;replace f11 := f11.ext x14;replace f0 := f0.ext x14;replace e0 := e0.trans x14;have := f14.1;refine GoR.store rfl rfl rfl rfl rfl rfl f14 rfl sz35 rfl rfl rfl fun h15 u15 => ?_;replace f14 := u15.has f14;replace f11 := f11.upd u15 (by omega);replace f0 := f0.upd u15 (by omega);replace e0 := e0.upd u15 (by omega);refine gP ?_;apply gE;apply gS;refine Go.drawnE plan6_0 ?_;refine gQ rfl rfl rfl rfl ?_;refine gQ rfl rfl (kXF rfl rfl) rfl ?_;iterate 3 refine gQ rfl rfl rfl rfl ?_
     refine gQ rfl rfl (aOp_shr rfl rfl (by omega) rfl) rfl ?_;refine gQ rfl rfl (aOp_and1 rfl rfl rfl) rfl ?_;refine gQ rfl rfl (aOp_eql rfl rfl hbi1) rfl ?_;refine gQ rfl rfl (fa35_0 rfl) rfl ?_;refine gQ rfl rfl (ld3 rfl f14 rfl) rfl ?_;refine gQ rfl rfl (fa57_2 rfl) rfl ?_;refine gQ rfl rfl (ld3 rfl f11 rfl) rfl ?_;refine gQ rfl rfl (kGF rfl rfl) rfl ?_;refine gQ rfl rfl (aOp_neqBool (r := false) rfl rfl Try.underlying4 rfl) rfl ?_;iterate 4 refine gQ rfl rfl rfl rfl ?_
     refine gQ rfl rfl (aOp_shr rfl rfl (by omega) rfl) rfl ?_;refine gQ rfl rfl (aOp_and1 rfl rfl rfl) rfl ?_;refine gQ rfl rfl (aOp_eql rfl rfl hbi2) rfl ?_;refine gQ rfl rfl (fa35_1 rfl) rfl ?_;refine gQ rfl rfl (ld3 rfl f14 rfl) rfl ?_;refine gQ rfl rfl (fa57_2 rfl) rfl ?_;refine gQ rfl rfl (ld3 rfl f11 rfl) rfl ?_;refine gQ rfl rfl (kGF rfl rfl) rfl ?_;refine gQ rfl rfl (aOp_neqBool (r := false) rfl rfl Try.underlying4 rfl) rfl ?_;refine gQ rfl rfl rfl rfl ?_;refine GoE.end rfl ?_;refine gC (b := false) rfl ?_;refine gD ?_;refine Go.inBlock noJ_ok ?_;refine gR rfl ?_;refine gO rfl rfl (aA rfl rfl) rfl ?_;refine gP ?_;apply gE;exact again (m - 1) (i + 1) _ _ (by omega) ⟨rfl, rfl, rfl, rfl, rfl, rfl, rfl, rfl, rfl, trivial⟩ ⟨by omega, e0, f0⟩
  ·clear again
   obtain ⟨x1, hx1⟩ : ∃ x1, w1 % D.bs.length = x1 := ⟨_, rfl⟩
   obtain ⟨x2, hx2⟩ : ∃ x2, w2 % D.bs.length = x2 := ⟨_, rfl⟩
   have hx1l := Nat.mod_lt w1 (show 0 < D.bs.length by omega)
   have hx2l := Nat.mod_lt w2 (show 0 < D.bs.length by omega)
   rw [hx1] at hx1l;rw [hx2] at hx2l
   have hr1 : ((w1 : Nat) : Int).tmod (D.bs.length : Nat) = (x1 : Nat) := by rw [← hx1]; rfl
   have hr2 : ((w2 : Nat) : Int).tmod (D.bs.length : Nat) = (x2 : Nat) := by rw [← hx2]; rfl
   by_cases hxx : x1 = x2
   ·apply gS;refine gR rfl ?_;refine gO rfl rfl (kLF rfl rfl) rfl ?_;apply gE;apply gS;refine gC (b := false) rfl ?_;refine gD ?_;apply gS;refine Go.drawnE plan6_1 ?_;refine gQ rfl rfl rfl rfl ?_;refine gQ rfl rfl (aOp_convU8 rfl Try.underlying5 Try.underlying3 (by omega)) rfl ?_;refine gQ rfl rfl rfl rfl ?_;refine gQ rfl rfl (aOp_rem rfl rfl (by omega) hr1) rfl ?_;refine gQ rfl rfl rfl rfl ?_;refine gQ rfl rfl (aOp_convU8 rfl Try.underlying5 Try.underlying3 (by omega)) rfl ?_;refine gQ rfl rfl rfl rfl ?_;refine gQ rfl rfl (aOp_rem rfl rfl (by omega) hr2) rfl ?_;iterate 2 refine gQ rfl rfl rfl rfl ?_
    refine GoE.end rfl ?_;iterate 2 apply gS
    refine gR rfl ?_;iterate 2 refine gP ?_
    refine gO rfl rfl (kET rfl rfl) rfl ?_;apply gE;refine gC (b := true) rfl ?_;apply gS;refine gR rfl ?_;refine GoR.call rfl rfl (aCF aFunc20 rfl) (awake_ok) ?_ np;rintro v11 h11 ⟨q, x11⟩;cases q;refine ⟨_, rfl, ?_⟩;replace e0 := e0.trans x11;refine gP ?_;apply gE;exact gW Try.func6 rfl rfl ⟨rfl, e0⟩
   ·have hDx := fun {h'} (e : Ext h h') => hDg e (x1 : Nat) (x2 : Nat)
    have hdv : D.digR (x1 : Nat) (x2 : Nat) = D.digQ x1 x2 := by
     unfold DrainV.digR DrainV.pairQ
     rw [DrainV.ok_yes O, if_pos (by unfold PairOk; dsimp only; omega), Int.toNat_natCast, Int.toNat_natCast]
    rw [hdv] at hDx
    by_cases h7 : D.ds.length = 7
    ·rw [show D.digQ x1 x2 = (0, 9) from by unfold DrainV.digQ; rw [if_neg hT, if_pos h7]] at hDx
     dsimp only at hDx
     apply gS;refine gR rfl ?_;refine gO rfl rfl (kLF rfl rfl) rfl ?_;apply gE;apply gS;refine gC (b := false) rfl ?_;refine gD ?_;apply gS;refine Go.drawnE plan6_1 ?_;refine gQ rfl rfl rfl rfl ?_;refine gQ rfl rfl (aOp_convU8 rfl Try.underlying5 Try.underlying3 (by omega)) rfl ?_;refine gQ rfl rfl rfl rfl ?_;refine gQ rfl rfl (aOp_rem rfl rfl (by omega) hr1) rfl ?_;refine gQ rfl rfl rfl rfl ?_;refine gQ rfl rfl (aOp_convU8 rfl Try.underlying5 Try.underlying3 (by omega)) rfl ?_;refine gQ rfl rfl rfl rfl ?_;refine gQ rfl rfl (aOp_rem rfl rfl (by omega) hr2) rfl ?_;iterate 2 refine gQ rfl rfl rfl rfl ?_
     refine GoE.end rfl ?_;iterate 2 apply gS
     refine gR rfl ?_;iterate 2 refine gP ?_
     refine gO rfl rfl (kEF rfl rfl) rfl ?_;apply gE;refine gC (b := false) rfl ?_;refine gD ?_;apply gS;refine gR rfl ?_;refine gO rfl rfl (ld29 rfl f0 rfl) rfl ?_;iterate 2 refine gP ?_
     refine GoR.call rfl rfl (aCF aFunc17 rfl) (hDx e0) ?_ np;rintro v11 h11 ⟨q, x11⟩;cases q;refine ⟨_, rfl, ?_⟩;replace f0 := f0.ext x11;replace e0 := e0.trans x11;iterate 5 refine gP ?_
     apply gE;iterate 2 apply gS
     refine gR rfl ?_;refine gO rfl rfl (fa29_1 rfl) rfl ?_;refine gO rfl rfl (ld26 rfl f0 rfl) rfl ?_;refine gO rfl rfl (aOp_lenSlice Try.underlying26 rfl hl2) rfl ?_;refine gO rfl rfl (kET rfl rfl) rfl ?_;apply gE;refine gC (b := true) rfl ?_;apply gS;refine gR rfl ?_;refine gP ?_;refine gO rfl rfl (kET rfl rfl) rfl ?_;iterate 2 refine gP ?_
     refine gO rfl rfl (kET rfl rfl) rfl ?_;iterate 2 refine gP ?_
     refine GoR.call rfl rfl (aCF aFunc20 rfl) (awake_ok) ?_ np;rintro v12 h12 ⟨q, x12⟩;cases q;refine ⟨_, rfl, ?_⟩;replace e0 := e0.trans x12;iterate 2 refine gP ?_
     apply gE;exact gW Try.func6 rfl rfl ⟨rfl, e0⟩
    ·obtain ⟨kp, hkp⟩ : ∃ kp, D.keeps D.truths ((D.dug x1 x2).course 0) = kp := ⟨_, rfl⟩
     rw [show D.digQ x1 x2 = (kp, 0) from by unfold DrainV.digQ; rw [if_neg hT, if_neg h7, hkp]] at hDx
     dsimp only at hDx
     apply gS;refine gR rfl ?_;refine gO rfl rfl (kLF rfl rfl) rfl ?_;apply gE;apply gS;refine gC (b := false) rfl ?_;refine gD ?_;apply gS;refine Go.drawnE plan6_1 ?_;refine gQ rfl rfl rfl rfl ?_;refine gQ rfl rfl (aOp_convU8 rfl Try.underlying5 Try.underlying3 (by omega)) rfl ?_;refine gQ rfl rfl rfl rfl ?_;refine gQ rfl rfl (aOp_rem rfl rfl (by omega) hr1) rfl ?_;refine gQ rfl rfl rfl rfl ?_;refine gQ rfl rfl (aOp_convU8 rfl Try.underlying5 Try.underlying3 (by omega)) rfl ?_;refine gQ rfl rfl rfl rfl ?_;refine gQ rfl rfl (aOp_rem rfl rfl (by omega) hr2) rfl ?_;iterate 2 refine gQ rfl rfl rfl rfl ?_
     refine GoE.end rfl ?_;iterate 2 apply gS
     refine gR rfl ?_;iterate 2 refine gP ?_
     refine gO rfl rfl (kEF rfl rfl) rfl ?_;apply gE;refine gC (b := false) rfl ?_;refine gD ?_;apply gS;refine gR rfl ?_;refine gO rfl rfl (ld29 rfl f0 rfl) rfl ?_;iterate 2 refine gP ?_
     refine GoR.call rfl rfl (aCF aFunc17 rfl) (hDx e0) ?_ np;rintro v11 h11 ⟨q, x11⟩;cases q;refine ⟨_, rfl, ?_⟩;replace f0 := f0.ext x11;replace e0 := e0.trans x11;iterate 5 refine gP ?_
     apply gE;iterate 2 apply gS
     refine gR rfl ?_;refine gO rfl rfl (fa29_1 rfl) rfl ?_;refine gO rfl rfl (ld26 rfl f0 rfl) rfl ?_;refine gO rfl rfl (aOp_lenSlice Try.underlying26 rfl hl2) rfl ?_;refine gO rfl rfl (kEF rfl rfl) rfl ?_;apply gE;refine gC (b := false) rfl ?_;refine gD ?_;apply gS;refine gR rfl ?_;refine GoR.alloc rfl rfl rfl zt47 rfl rfl fun h12 x12 f12 => ?_;have := e0.1;have := f0.1;replace f0 := f0.ext x12;replace e0 := e0.trans x12;have := f12.1;refine GoR.alloc rfl rfl rfl zt47 rfl rfl fun h13 x13 f13 => ?_;have := e0.1;have := f12.1;have := f0.1;replace f12 := f12.ext x13;replace f0 := f0.ext x13;replace e0 := e0.trans x13;have := f13.1;apply gE;iterate 2 apply gS
     refine gR rfl ?_;refine gO rfl rfl (fa29_0 rfl) rfl ?_;refine gO rfl rfl (ld25 rfl f0 rfl) rfl ?_;refine gO rfl rfl (aOp_lenSlice Try.underlying25 rfl (by assumption)) rfl ?_;refine gP ?_;apply gE;refine Go.block noJ_ok ?_
     have hb0 := f0.1
     have hb12 := f12.1
     have hb13 := f13.1
     have hlo1 : h.next < h11.next := by have := x11.1; have := hce; omega
     have hlo2 : h11.next < h12.next := by assumption
     refine Go.loopKeep (fun a : Nat × AVal × AVal => [(3, .ptr h.next 0), (15, .int .i64 (x1 : Nat)), (16, .int .i64 (x2 : Nat)), (17, .int .i64 kp), (18, .int .i64 0), (19, .ptr h11.next 0), (20, .ptr h12.next 0), (147, b), (148, .int .i64 D.bs.length), (149, .int .i64 (a.1 : Nat))])
      (fun m a h' => m + a.1 = D.bs.length ∧ Ext h h' ∧ h13.next ≤ h'.next ∧ Has h' h.next (.cells .plain [b, d, r, s] 29) ∧ Has h' h11.next (.cells .plain [a.2.1] 47) ∧ Has h' h12.next (.cells .plain [a.2.2] 47) ∧ Grow h' 3 1 h13.next a.2.1 a.1 (i64s ((lows D).take a.1)) ∧ Grow h' 3 1 h13.next a.2.2 a.1 (i64s ((highs D).take a.1)) ∧ (∀ c1 c2, a.2.1 = .gsl c1 0 0 a.1 → a.2.2 = .gsl c2 0 0 a.1 → c1 ≠ c2)) (n := D.bs.length) (0, .nilslice, .nilslice) ⟨rfl, rfl, rfl, rfl, rfl, rfl, rfl, rfl, rfl, rfl, trivial⟩ ⟨rfl, e0, Nat.le_refl _, f0, f12, f13, Grow.nil _ _ _ _, Grow.nil _ _ _ _, fun _ _ q => by cases q⟩ ?_
     clear e0 f0 f12 f13;rintro m ⟨i, sl, sh⟩ h20 ⟨hm, e0, hn20, f0, f12, f13, G1, G2, hne⟩ again
     dsimp only at hm f12 f13 G1 G2 hne ⊢
     by_cases hi : i < D.bs.length
     ·obtain ⟨x, hx⟩ : ∃ x, D.bs[i]? = some x := ⟨D.bs[i], by simp [hi]⟩
      obtain ⟨bq, off, q1, q2⟩ := A.bs.at (i := i) (l := BkV.cells x) (by rw [List.getElem?_map, hx]; rfl)
      rw [List.length_map] at q1
      unfold BkV.cells at q2
      have hi6 : i64s ((highs D).take (i + 1)) = i64s ((highs D).take i) ++ [.int .i64 x.yh] := by
       have : (highs D)[i]? = some x.yh := by unfold highs; rw [List.getElem?_map, hx]; rfl
       rw [List.take_add_one, this]
       unfold i64s
       rw [List.map_append]
       rfl
      have hi5 : i64s ((lows D).take (i + 1)) = i64s ((lows D).take i) ++ [.int .i64 x.yl] := by
       have : (lows D)[i]? = some x.yl := by unfold lows; rw [List.getElem?_map, hx]; rfl
       rw [List.take_add_one, this]
       unfold i64s
       rw [List.map_append]
       rfl
      have e1 : Ext h20 h20 := Ext.refl _
      have hsG := grow_same G1
      have hsG2 := grow_same G2
      apply gS;refine gR rfl ?_;refine gO rfl rfl (kLT rfl rfl) rfl ?_;apply gE;apply gS;refine gC (b := true) rfl ?_;refine gD ?_;apply gS;refine Go.block noJ_ok ?_;apply gS;refine gR rfl ?_;refine gO rfl rfl (aOp_indexAddr (i := i) Try.underlying25 sz60 rfl q1 rfl (Nat.ble_eq_true_of_le hi)) rfl ?_;refine gO rfl rfl (aOp_loadE ag60 sz60 rfl (q2.ext e0)) rfl ?_;refine GoR.alloc rfl rfl rfl zt60 rfl rfl fun h21 x21 f21 => ?_;have := e0.1;have := e1.1;have := f0.1;have := f12.1;have := f13.1;replace f0 := f0.ext x21;replace f12 := f12.ext x21;replace f13 := f13.ext x21;replace e0 := e0.trans x21;replace e1 := e1.trans x21;have := f21.1;refine GoR.store rfl rfl rfl rfl rfl rfl f21 rfl sz60 rfl rfl rfl fun h22 u22 => ?_;replace f21 := u22.has f21;replace f0 := f0.upd u22 (by omega);replace f12 := f12.upd u22 (by omega);replace f13 := f13.upd u22 (by omega);replace e0 := e0.upd u22 (by omega);replace e1 := e1.upd u22 (by omega);apply gE;refine Go.drawnE plan6_2 ?_;refine gQ rfl rfl (ld47 rfl f12 rfl) rfl ?_;refine gQ rfl rfl (fa60_1 rfl) rfl ?_;refine gQ rfl rfl (fa35_0 rfl) rfl ?_;refine gQ rfl rfl (ld3 rfl f21 rfl) rfl ?_;refine GoE.quietX rfl rfl (aOpX_lit (ps := [(0, .int .i64 x.yl)]) (cs := [.int .i64 x.yl]) Try.underlying47 rfl sz3 zt3 rfl rfl rfl) rfl ?_;refine gQ rfl rfl (ld47 rfl f13 rfl) rfl ?_;refine gQ rfl rfl (fa60_1 rfl) rfl ?_;refine gQ rfl rfl (fa35_1 rfl) rfl ?_;refine gQ rfl rfl (ld3 rfl f21 rfl) rfl ?_;refine GoE.quietX rfl rfl (aOpX_lit (ps := [(0, .int .i64 x.yh)]) (cs := [.int .i64 x.yh]) Try.underlying47 rfl sz3 zt3 rfl rfl rfl) rfl ?_;refine GoE.append1L rfl rfl Try.underlying47 Try.underlying47 sz3 by3 zt3 rfl rfl rfl rfl rfl rfl (G1.ext e1) (by omega) (dK 31 10 (dK 31 9 (dK 31 8 (dK 31 7 (dK 31 6 (dD 31 4 (dD 31 3 (dD 31 2 (dD 31 1 (dD 31 0 rfl)))))))))) rfl rfl fun s23 h23 y23 g23 => ?_;replace f21 := f21.extF y23 (fun q => by have := grow_own G1 q; omega);replace f0 := f0.extF y23 (fun q => by have := grow_own G1 q; omega);replace f12 := f12.extF y23 (fun q => by have := grow_own G1 q; omega);replace f13 := f13.extF y23 (fun q => by have := grow_own G1 q; omega);replace e0 := y23.low e0 (fun b q => by have := grow_own G1 q; omega);have := y23.1;refine ⟨(recheck_consX (h2 := h23) rfl (aOpX_lit (ps := [(0, .int .i64 x.yh)]) (cs := [.int .i64 x.yh]) Try.underlying47 rfl sz3 zt3 rfl rfl rfl) (by simp [sameA, sameAs, eqI_eq]) (rck (h2 := h23) rfl (ld3 rfl f21 rfl) (rck (h2 := h23) rfl (fa35_1 rfl) (rck (h2 := h23) rfl (fa60_1 rfl) (rck (h2 := h23) rfl (ld47 rfl f13 rfl) recheck_nil))))), ?_⟩;refine GoE.append1L rfl rfl Try.underlying47 Try.underlying47 sz3 by3 zt3 rfl rfl rfl rfl rfl rfl ((G2.ext e1).keep y23.1 fun b h1 h2 h3 => y23.2 b h2 fun q => hne _ _ q h3 rfl) (by omega) (dD 2047 10 (dD 2047 9 (dD 2047 8 (dD 2047 7 (dD 2047 6 rfl))))) rfl rfl fun s24 h24 y24 g24 => ?_;replace f0 := f0.extF y24 (fun q => by have := grow_own G2 q; omega);replace f12 := f12.extF y24 (fun q => by have := grow_own G2 q; omega);replace f13 := f13.extF y24 (fun q => by have := grow_own G2 q; omega);replace e0 := y24.low e0 (fun b q => by have := grow_own G2 q; omega);clear y23;have := y24.1;refine ⟨recheck_nil, ?_⟩;refine GoE.store rfl rfl rfl rfl rfl rfl rfl f12 rfl sz47 (cs' := [s23]) (by rw [(grow_scal g23).2]; rfl) (by rw [(grow_scal g23).2]; exact (grow_scal g23).1) (by rw [(grow_scal g23).2]; rfl) fun h25 u25 => ?_;replace f0 := f0.upd u25 (by omega);replace f12 := u25.has f12;replace f13 := f13.upd u25 (by omega);replace e0 := e0.upd u25 (by omega);refine ⟨recheck_nil, ?_⟩;refine GoE.store rfl rfl rfl rfl rfl rfl rfl f13 rfl sz47 (cs' := [s24]) (by rw [(grow_scal g24).2]; rfl) (by rw [(grow_scal g24).2]; exact (grow_scal g24).1) (by rw [(grow_scal g24).2]; rfl) fun h26 u26 => ?_;replace f0 := f0.upd u26 (by omega);replace f12 := f12.upd u26 (by omega);replace f13 := u26.has f13;replace e0 := e0.upd u26 (by omega);refine ⟨recheck_nil, ?_⟩;refine GoE.end rfl ?_;refine Go.inBlock noJ_ok ?_;refine gR rfl ?_;refine gO rfl rfl (aA rfl rfl) rfl ?_;refine gP ?_;apply gE
      have hy1 := e1.1
      have hy3 := y24.1
      have hy4 := u25.1
      have hy5 := u26.1
      refine again (m - 1) (i + 1, s23, s24) _ _ (by omega) ⟨rfl, rfl, rfl, rfl, rfl, rfl, rfl, rfl, rfl, rfl, trivial⟩ ⟨by dsimp only; omega, e0, by omega, f0, f12, f13, ?_, ?_, fun c1 c2 z1 z2 => by have := (grow_own g23 z1).2; have := (grow_own g24 z2).1; omega⟩
      ·dsimp only
       rw [hi5];exact (((g23.keep y24.1 fun b h1 h2 h3 => y24.2 b h2 fun q => by have := (grow_own G2 q).2; omega).upd u25 (by omega)).upd u26 (by omega)).low (by omega)
      ·dsimp only
       rw [hi6];exact ((g24.upd u25 (by omega)).upd u26 (by omega)).low (by omega)
     ·have hin : i = D.bs.length := by omega
      subst hin;rw [show (highs D).take D.bs.length = highs D from List.take_of_length_le (by unfold highs; rw [List.length_map]; exact Nat.le_refl _)] at G2;rw [show (lows D).take D.bs.length = lows D from List.take_of_length_le (by unfold lows; rw [List.length_map]; exact Nat.le_refl _)] at G1
      have Y := ints_slice (by unfold highs; rw [List.length_map]) G2
      have Z := ints_slice (by unfold lows; rw [List.length_map]) G1
      have Sd := (A.ds.ext e0)
      clear again;apply gS;refine gR rfl ?_;refine gO rfl rfl (kLF rfl rfl) rfl ?_;apply gE;apply gS;refine gC (b := false) rfl ?_;refine gD ?_;apply gS;refine gR rfl ?_;refine gO rfl rfl (ld29 rfl f0 rfl) rfl ?_;refine GoR.alloc rfl rfl rfl zt29 rfl rfl fun h21 x21 f21 => ?_;have := e0.1;have := f0.1;have := f12.1;have := f13.1;replace f0 := f0.ext x21;replace f12 := f12.ext x21;replace f13 := f13.ext x21;replace e0 := e0.trans x21;have := f21.1;refine GoR.store rfl rfl rfl rfl rfl rfl f21 rfl sz29 rfl hscD rfl fun h22 u22 => ?_;replace f21 := u22.has f21;replace f0 := f0.upd u22 (by omega);replace f12 := f12.upd u22 (by omega);replace f13 := f13.upd u22 (by omega);replace e0 := e0.upd u22 (by omega);apply gE;apply gS;refine gR rfl ?_;refine GoR.buildSl rfl rfl (ps := []) (cs := []) Try.underlying26 rfl sz32 zt32 rfl rfl rfl rfl fun h23 x23 f23 => ?_;have := e0.1;have := f21.1;have := f0.1;have := f12.1;have := f13.1;replace f21 := f21.ext x23;replace f0 := f0.ext x23;replace f12 := f12.ext x23;replace f13 := f13.ext x23;replace e0 := e0.trans x23;have := f23.1;refine gO rfl rfl (fa29_1 rfl) rfl ?_;refine gO rfl rfl (ld26 rfl f0 rfl) rfl ?_
      have hq1 : h20.next < h23.next := f21.1
      have hq2 := f12.1
      have hq3 : h12.next < h20.next := by omega
      refine GoR.copyR rfl rfl Try.underlying26 Try.underlying26 sz32 by32 zt32 rfl rfl rfl f23 rfl (A.ds.ext e0) (by rw [List.length_map]; omega) rfl rfl fun v30 h30 x30 C30 => ?_
      have f0' := f0.ext x30
      have f12' := f12.ext x30
      have f13' := f13.ext x30
      have f21' := f21.ext x30
      have e0' := e0.trans x30
      have hv30 : sameA v30 v30 = true := by
       rcases C30 with ⟨_, q, _⟩ | ⟨_, _, _, q, _⟩ <;> subst q <;> simp [sameA]
      clear f0 f12 f13 f21 e0 f23
      have f0 := f0'
      have f12 := f12'
      have f13 := f13'
      have f21 := f21'
      have e0 := e0'
      clear f0' f12' f13' f21' e0';iterate 2 refine gP ?_
      refine GoR.call rfl rfl (aCF aFunc12 rfl) (way12_ok) ?_ np;rintro v31 h31 ⟨q, x31⟩;cases q;refine ⟨_, rfl, ?_⟩;replace f0 := f0.ext x31;replace f12 := f12.ext x31;replace f13 := f13.ext x31;replace f21 := f21.ext x31;replace e0 := e0.trans x31;refine GoR.buildSl rfl rfl (ps := [(0, .agg [.int .i64 (x1 : Nat), .int .i64 (x2 : Nat)])]) (cs := [.int .i64 (x1 : Nat), .int .i64 (x2 : Nat)]) Try.underlying26 rfl sz32 zt32 rfl rfl rfl rfl fun h32 x32 f32 => ?_;have := e0.1;have := f0.1;have := f12.1;have := f13.1;have := f21.1;replace f0 := f0.ext x32;replace f12 := f12.ext x32;replace f13 := f13.ext x32;replace f21 := f21.ext x32;replace e0 := e0.trans x32;have := f32.1
      have hq4 := x30.1
      have hq5 := x31.1
      have hq6 := x32.1
      refine GoR.copy1R rfl rfl Try.underlying26 Try.underlying26 sz32 by32 zt32 rfl rfl rfl rfl f32 ((C30.ext x31).ext x32) (fun l hl => by obtain ⟨_, _, rfl⟩ := List.mem_map.1 hl; rfl) rfl rfl (by rw [List.length_map]; omega) (by omega) rfl rfl fun b33 h33 hb33 x33 f33 => ?_
      have f0' := f0.extF x33 (fun q => by have : h23.next ≤ h.next := q; omega)
      have f12' := f12.extF x33 (fun q => by have : h23.next ≤ h11.next := q; omega)
      have f13' := f13.extF x33 (fun q => by have : h23.next ≤ h12.next := q; omega)
      have f21' := f21.extF x33 (fun q => by have : h23.next ≤ h20.next := q; omega)
      have e33 : Ext h20 h33 := x33.low ((((x21.upd u22 (Nat.le_refl _)).trans x23).trans x30).trans (x31.trans x32)) (fun b q => by have : h23.next ≤ b := q; omega)
      have e0' := x33.low e0 (fun b q => by have : h23.next ≤ b := q; have := f0.1; omega)
      rw [List.length_map] at *
      have f33' := f33
      clear f0 f12 f13 f21 e0 C30 f32 f33
      have f0 := f0'
      have f12 := f12'
      have f13 := f13'
      have f21 := f21'
      have e0 := e0'
      clear f0' f12' f13' f21' e0'
      have hx33 := x33.1
      have ek : Ext h h33 ∧ True := ⟨e0, trivial⟩
      have ek2 : Ext h20 h33 ∧ True := ⟨e33, trivial⟩
      have fk : Has h33 b33 _ ∧ True := ⟨f33', trivial⟩
      clear f33' e33;refine gO rfl rfl (fa29_1 rfl) rfl ?_;refine GoR.store rfl rfl rfl rfl rfl rfl f21 rfl sz26 rfl rfl rfl fun h34 u34 => ?_;replace f0 := f0.upd u34 (by omega);replace f12 := f12.upd u34 (by omega);replace f13 := f13.upd u34 (by omega);replace f21 := u34.has f21;replace e0 := e0.upd u34 (by omega);apply gE;apply gS;refine gR rfl ?_;refine GoR.alloc rfl rfl rfl zt4 rfl rfl fun h35 x35 f35 => ?_;have := e0.1;have := f0.1;have := f12.1;have := f13.1;have := f21.1;replace f0 := f0.ext x35;replace f12 := f12.ext x35;replace f13 := f13.ext x35;replace f21 := f21.ext x35;replace e0 := e0.trans x35;have := f35.1;refine GoR.alloc rfl rfl rfl zt4 rfl rfl fun h36 x36 f36 => ?_;have := e0.1;have := f35.1;have := f0.1;have := f12.1;have := f13.1;have := f21.1;replace f35 := f35.ext x36;replace f0 := f0.ext x36;replace f12 := f12.ext x36;replace f13 := f13.ext x36;replace f21 := f21.ext x36;replace e0 := e0.trans x36;have := f36.1;refine GoR.store rfl rfl rfl rfl rfl rfl f35 rfl sz4 rfl rfl rfl fun h37 u37 => ?_;replace f36 := f36.upd u37 (by omega);replace f35 := u37.has f35;replace f0 := f0.upd u37 (by omega);replace f12 := f12.upd u37 (by omega);replace f13 := f13.upd u37 (by omega);replace f21 := f21.upd u37 (by omega);replace e0 := e0.upd u37 (by omega);refine GoR.store rfl rfl rfl rfl rfl rfl f36 rfl sz4 rfl rfl rfl fun h38 u38 => ?_;replace f36 := u38.has f36;replace f35 := f35.upd u38 (by omega);replace f0 := f0.upd u38 (by omega);replace f12 := f12.upd u38 (by omega);replace f13 := f13.upd u38 (by omega);replace f21 := f21.upd u38 (by omega);replace e0 := e0.upd u38 (by omega);apply gE;apply gS;refine gR rfl ?_;refine gO rfl rfl (ld29 rfl f0 rfl) rfl ?_;refine gP ?_
      have e34 : Ext h h34 := ek.1.upd u34 (by omega)
      have e24 : Ext h20 h34 := ek2.1.upd u34 (Nat.le_refl _)
      have f34 := fk.1.upd u34 (by omega)
      have e39 : Ext h34 h38 := ((x35.trans x36).upd u37 (Nat.le_refl _)).upd u38 (by have := x35.1; omega)
      have O2 := dug_ok O (x := x1) (y := x2) (by unfold PairOk; dsimp only; omega) (by omega)
      have A2 : DrainAt h34 (D.dug x1 x2) b (.gsl b33 0 0 (D.ds.length + 1)) r s := ⟨A.bs.ext e34, by
       have k : (D.dug x1 x2).ds.map spC = D.ds.map spC ++ [[.int .i64 (x1 : Nat), .int .i64 (x2 : Nat)]] := by unfold DrainV.dug; rw [List.map_append]; rfl
       rw [k];refine .mk (b := b33) (off := 0) (len := D.ds.length + 1) rfl rfl f34.1 (by simp) (fun l hl => ?_) ?_
       ·rcases List.mem_append.1 hl with hl | hl
        ·obtain ⟨_, _, rfl⟩ := List.mem_map.1 hl; rfl
        ·rw [List.mem_singleton.1 hl]; rfl
       ·unfold AbsE.loadCells
        rw [f34.2];refine slice_all (flatten_len fun l hl => ?_)
        rcases List.mem_append.1 hl with hl | hl
        ·obtain ⟨_, _, rfl⟩ := List.mem_map.1 hl; rfl
        ·rw [List.mem_singleton.1 hl]; rfl, A.rs.ext e34, A.ss.ext e34⟩
      have hn34 := e34.1
      have hn24 := e24.1
      have hx35 := x35.1
      have hx36 := x36.1
      have hb35 := f35.1
      have hb36 := f36.1
      have hlt34 : h20.next < h34.next := by have := u34.1; omega
      have hlt35 : h34.next < h35.next := by assumption
      refine GoR.call rfl rfl (aCF aFunc30 rfl) (each30_ok (F := 32) (caps := [.ptr h20.next 0, .ptr h12.next 0, .ptr h11.next 0, .ptr h.next 0, .ptr h34.next 0, .ptr h35.next 0]) (S := fun x => x = h34.next ∨ x = h35.next) (Inv := fun V h' => Ext h34 h' ∧ Has h' h20.next (.cells .plain [b, .gsl b33 0 0 (D.ds.length + 1), r, s] 29) ∧ Has h' h12.next (.cells .plain [sh] 47) ∧ Has h' h11.next (.cells .plain [sl] 47) ∧ Has h' h.next (.cells .plain [b, d, r, s] 29) ∧ Has h' h34.next (.cells .plain [.bool (V.all (okR (D.dug x1 x2) 0))] 4) ∧ Has h' h35.next (.cells .plain [.bool (V.all fun l => D.rs.any (D.must ((D.dug x1 x2).course 0 l)))] 4)) O (A.ext e34) aFunc32 (fun x q => by rcases q with q | q <;> omega) rfl
       (fun V g1 g2 ⟨k0, k1, k2, k3, k4, k5, k6⟩ e => ⟨k0.trans e, k1.ext e, k2.ext e, k3.ext e, k4.ext e, k5.ext e, k6.ext e⟩)
       (fun V l ll h' e hl ⟨k0, k1, k2, k3, k4, k5, k6⟩ Sl => (right32_ok O2 A2 (Y.ext e24) (Z.ext e24) (List.mem_filter.1 hl).1 e Sl k1 k2 k3 k4 k5 k6 ⟨by omega, by omega⟩ ⟨⟨by omega, by omega, by omega, by omega⟩, ⟨by omega, by omega, by omega, by omega⟩, by omega⟩).mono fun en h'' ⟨q, y, fa, fn⟩ => ⟨q, y, y.low k0 (fun b q => by rcases q with q | q <;> omega), k1.extF y (fun q => by rcases q with q | q <;> omega), k2.extF y (fun q => by rcases q with q | q <;> omega), k3.extF y (fun q => by rcases q with q | q <;> omega), k4.extF y (fun q => by rcases q with q | q <;> omega), by rw [List.all_append, List.all_cons, List.all_nil, Bool.and_true]; exact fa, by rw [List.all_append, List.all_cons, List.all_nil, Bool.and_true]; exact fn⟩)
       e39 (fun x q => by rcases q with q | q <;> omega) ⟨e39, f21, f13, f12, f0, f35, f36⟩) ?_ np
      rintro v40 h40 ⟨q, y40, V, ⟨k0, k1, k2, k3, k4, k5, k6⟩, hV⟩;cases q;refine ⟨_, rfl, ?_⟩;rw [all_mem hV] at k5 k6
      have e40 : Ext h h40 := y40.low e0 (fun b q => by rcases q with q | q <;> omega)
      have hkc := keeps_cases O hT hkp
      have k5' : Has h40 h34.next (.cells .plain [.bool (D.truths.all fun l => !(D.rs.any (D.can ((D.dug x1 x2).course 0 l))))] 4) := k5
      clear e0 e39 f21 f13 f12 f0 f35 f36 k5 y40
      have f35 := k5'
      have f36 := k6
      have e0 := e40
      clear k5' k6 e40 k1 k2 k3 k4
      rcases hkc with ⟨z1, z2, z3⟩ | ⟨z1, z2, z3⟩ | ⟨z1, z2, z3⟩
      ·rw [z2] at f35;rw [z3] at f36;apply gE;apply gS;refine gR rfl ?_;refine gP ?_;refine gO rfl rfl (kET rfl rfl) rfl ?_;iterate 2 refine gP ?_
       refine gO rfl rfl (kET rfl rfl) rfl ?_;refine gO rfl rfl (ld4 rfl f35 rfl) rfl ?_;refine gO rfl rfl (aOp_eqlBool rfl rfl Try.underlying4 (r := true) rfl) rfl ?_;iterate 3 refine gP ?_
       refine gO rfl rfl (kEF rfl rfl) rfl ?_;refine gO rfl rfl (ld4 rfl f36 rfl) rfl ?_;refine gO rfl rfl (aOp_eqlBool rfl rfl Try.underlying4 (r := true) rfl) rfl ?_;iterate 3 refine gP ?_
       refine gO rfl rfl (kEF rfl rfl) rfl ?_;refine gO rfl rfl (ld4 rfl f35 rfl) rfl ?_;iterate 2 refine gP ?_
       iterate 2 refine GoR.skip rfl rfl rfl ?_
       refine gP ?_;refine gO rfl rfl (aOp_eqlBool rfl rfl Try.underlying4 (r := true) rfl) rfl ?_;iterate 2 refine gP ?_
       refine GoR.call rfl rfl (aCF aFunc20 rfl) (awake_ok) ?_ np;rintro v41 h41 ⟨q, x41⟩;cases q;refine ⟨_, rfl, ?_⟩;replace e0 := e0.trans x41;iterate 2 refine gP ?_
       apply gE;exact gW Try.func6 rfl rfl ⟨rfl, e0⟩
      ·rw [z2] at f35;rw [z3] at f36;apply gE;apply gS;refine gR rfl ?_;refine gP ?_;refine gO rfl rfl (kET rfl rfl) rfl ?_;iterate 2 refine gP ?_
       refine gO rfl rfl (kEF rfl rfl) rfl ?_;refine gO rfl rfl (ld4 rfl f35 rfl) rfl ?_;refine gO rfl rfl (aOp_eqlBool rfl rfl Try.underlying4 (r := true) rfl) rfl ?_;iterate 3 refine gP ?_
       refine gO rfl rfl (kET rfl rfl) rfl ?_;refine gO rfl rfl (ld4 rfl f36 rfl) rfl ?_;refine gO rfl rfl (aOp_eqlBool rfl rfl Try.underlying4 (r := true) rfl) rfl ?_;iterate 3 refine gP ?_
       refine gO rfl rfl (kEF rfl rfl) rfl ?_;refine gO rfl rfl (ld4 rfl f35 rfl) rfl ?_;iterate 2 refine gP ?_
       refine gO rfl rfl (ld4 rfl f36 rfl) rfl ?_;iterate 2 refine gP ?_
       refine gO rfl rfl (aOp_eqlBool rfl rfl Try.underlying4 (r := true) rfl) rfl ?_;iterate 2 refine gP ?_
       refine GoR.call rfl rfl (aCF aFunc20 rfl) (awake_ok) ?_ np;rintro v41 h41 ⟨q, x41⟩;cases q;refine ⟨_, rfl, ?_⟩;replace e0 := e0.trans x41;iterate 2 refine gP ?_
       apply gE;exact gW Try.func6 rfl rfl ⟨rfl, e0⟩
      ·rw [z2] at f35;rw [z3] at f36;apply gE;apply gS;refine gR rfl ?_;refine gP ?_;refine gO rfl rfl (kET rfl rfl) rfl ?_;iterate 2 refine gP ?_
       refine gO rfl rfl (kEF rfl rfl) rfl ?_;refine gO rfl rfl (ld4 rfl f35 rfl) rfl ?_;refine gO rfl rfl (aOp_eqlBool rfl rfl Try.underlying4 (r := true) rfl) rfl ?_;iterate 3 refine gP ?_
       refine gO rfl rfl (kEF rfl rfl) rfl ?_;refine gO rfl rfl (ld4 rfl f36 rfl) rfl ?_;refine gO rfl rfl (aOp_eqlBool rfl rfl Try.underlying4 (r := true) rfl) rfl ?_;iterate 3 refine gP ?_
       refine gO rfl rfl (kET rfl rfl) rfl ?_;refine gO rfl rfl (ld4 rfl f35 rfl) rfl ?_;iterate 2 refine gP ?_
       refine gO rfl rfl (ld4 rfl f36 rfl) rfl ?_;iterate 2 refine gP ?_
       refine gO rfl rfl (aOp_eqlBool rfl rfl Try.underlying4 (r := true) rfl) rfl ?_;iterate 2 refine gP ?_
       refine GoR.call rfl rfl (aCF aFunc20 rfl) (awake_ok) ?_ np;rintro v41 h41 ⟨q, x41⟩;cases q;refine ⟨_, rfl, ?_⟩;replace e0 := e0.trans x41;iterate 2 refine gP ?_
       apply gE;exact gW Try.func6 rfl rfl ⟨rfl, e0⟩
theorem law6_far {D : DrainV} {b d r s : AVal} {h : AH} (A : DrainAt h D b d r s) (L : DrainL D) (B : ¬ DrainB D) {w1 w2 : Int} : Runs Try.prog 6 [.agg (dC b d r s), .int .u8 w1, .int .u8 w2] h (fun en h' => en = .ret (.bool true) ∧ Ext h h') := by
 have hF := fun {h'} (e : Ext h h') => far_ok (A.ext e) L
 rw [decide_eq_true B] at hF
 have hsm := A.same
 unfold dC at *
 have e0 : Ext h h := Ext.refl _
 refine Runs.intro aFunc6 rfl rfl rfl rfl fun rest => ?_;apply gS;refine gR rfl ?_;refine GoR.box rfl rfl rfl rfl rfl rfl fun h0 x0 f0 => ?_;replace e0 := e0.trans x0;refine gP ?_;apply gE;iterate 2 apply gS
 refine gR rfl ?_;refine gO rfl rfl (ld29 rfl f0 rfl) rfl ?_;refine GoR.call rfl rfl (aCF aFunc22 rfl) (hF e0) ?_ np;rintro v1 h1 ⟨q, x1⟩;cases q;refine ⟨_, rfl, ?_⟩;replace e0 := e0.trans x1;refine gP ?_;iterate 3 refine GoR.skip rfl rfl rfl ?_
 refine gP ?_;apply gE;refine gC (b := true) rfl ?_;apply gS;refine gR rfl ?_;refine GoR.call rfl rfl (aCF aFunc20 rfl) (awake_ok) ?_ np;rintro v2 h2 ⟨q, x2⟩;cases q;refine ⟨_, rfl, ?_⟩;replace e0 := e0.trans x2;refine gP ?_;apply gE;exact gW Try.func6 rfl rfl ⟨rfl, e0⟩
theorem law6_bad {D : DrainV} {b d r s : AVal} {h : AH} (A : DrainAt h D b d r s) (B : DrainB D) (O : ¬ D.Ok) {w1 w2 : Int} : Runs Try.prog 6 [.agg (dC b d r s), .int .u8 w1, .int .u8 w2] h (fun en h' => en = .ret (.bool true) ∧ Ext h h') := by
 have hF := fun {h'} (e : Ext h h') => far_ok (A.ext e) B.L
 rw [decide_eq_false (fun w => w B)] at hF
 have hR := fun {h'} (e : Ext h h') => Drain23_ok (A.ext e) B
 rw [decide_eq_false O] at hR
 have hsm := A.same
 unfold dC at *
 have e0 : Ext h h := Ext.refl _
 refine Runs.intro aFunc6 rfl rfl rfl rfl fun rest => ?_;apply gS;refine gR rfl ?_;refine GoR.box rfl rfl rfl rfl rfl rfl fun h0 x0 f0 => ?_;replace e0 := e0.trans x0;refine gP ?_;apply gE;iterate 2 apply gS
 refine gR rfl ?_;refine gO rfl rfl (ld29 rfl f0 rfl) rfl ?_;refine GoR.call rfl rfl (aCF aFunc22 rfl) (hF e0) ?_ np;rintro v1 h1 ⟨q, x1⟩;cases q;refine ⟨_, rfl, ?_⟩;replace f0 := f0.ext x1;replace e0 := e0.trans x1;refine gP ?_;refine gO rfl rfl (ld29 rfl f0 rfl) rfl ?_;refine GoR.call rfl rfl (aCF aFunc23 rfl) (hR e0) ?_ np;rintro v2 h2 ⟨q, x2⟩;cases q;refine ⟨_, rfl, ?_⟩;replace e0 := e0.trans x2;iterate 2 refine gP ?_
 apply gE;refine gC (b := true) rfl ?_;apply gS;refine gR rfl ?_;refine GoR.call rfl rfl (aCF aFunc20 rfl) (awake_ok) ?_ np;rintro v3 h3 ⟨q, x3⟩;cases q;refine ⟨_, rfl, ?_⟩;replace e0 := e0.trans x3;refine gP ?_;apply gE;exact gW Try.func6 rfl rfl ⟨rfl, e0⟩
theorem law6 {D : DrainV} {b d r s : AVal} {h : AH} (A : DrainAt h D b d r s) (L : DrainL D) {w1 w2 : Int} (h1 : 0 ≤ w1 ∧ w1 < 256) (h2 : 0 ≤ w2 ∧ w2 < 256) : Runs Try.prog 6 [.agg (dC b d r s), .int .u8 w1, .int .u8 w2] h (fun en h' => en = .ret (.bool true) ∧ Ext h h') := by
 by_cases B : DrainB D
 ·by_cases O : D.Ok
  ·obtain ⟨w1, rfl⟩ := Int.eq_ofNat_of_zero_le h1.1
   obtain ⟨w2, rfl⟩ := Int.eq_ofNat_of_zero_le h2.1
   exact law6_ok A O (by omega) (by omega)
  ·exact law6_bad A B O
 ·exact law6_far A L B
end Go.Proofs.Ytkhiagdmbajimaa

namespace Go.AbsE
open Go Go.RowKit
section
variable {P : Program}
theorem VRs.ints {e : Env} : ∀ l : List Int, VRs e (l.map fun x => AVal.int .i64 x) (l.map fun x => Value.int .i64 x) := by
 intro l
 induction l with
 | nil => exact .nil
 | cons a l ih => exact .cons (.int _ _) ih
theorem HR.openWin {e : Env} {h : AH} {W : World} (r : HR P (Base.all W) e h W) {B lo : Nat} {PRE CS junk : List Value} {el : TypeId} {fr : Nat × Nat} {cs : List AVal} (hB : W.heap[B]? = some (.cells (PRE ++ (CS ++ junk)).toArray el fr)) (hp : PRE.length = lo) (hv : ∀ e, VRs e cs CS) :
  ∃ e' h', Env.le e e' ∧ HR P (Base.all W) e' h' W ∧ Ext h h' ∧ e' h.next = some (B, 0) ∧ Has h' h.next (.win lo cs) := by
 obtain ⟨h', k⟩ := new_some h (.win lo cs)
 obtain ⟨_, x1, x2⟩ := new_ext k
 obtain ⟨n1, n2, n3⟩ := AH.get_new k
 have hle := Env.le_ext (x := (B, 0)) r.fresh
 have hlt := (Array.getElem?_eq_some_iff.1 hB).1
 refine ⟨e.ext h.next (B, 0), h', hle, ?_, x1, Env.ext_same _ _ _, x2⟩
 refine { dom := ?_, blk := ?_, inj := ?_, imm := ?_, os := r.os, tape := r.tape, output := r.output, size := r.size, old := r.old, young := r.young }
 ·intro b' x kx
  rw [Env.ext_at] at kx
  by_cases hb' : b' = h.next
  ·omega
  ·rw [if_neg hb'] at kx; have := r.dom _ _ kx; omega
 ·intro b' o' kx
  rw [n3] at kx
  by_cases hb' : b' = h.next
  ·rw [if_pos hb'] at kx
   cases kx
   subst hb'
   exact ⟨B, 0, _, Env.ext_same _ _ _, (fun q => by cases q), hB, .win (hv _) hp⟩
  ·rw [if_neg hb'] at kx
   obtain ⟨B', c', O', k1, k2, k3, k4⟩ := r.blk _ _ kx
   exact ⟨B', c', O', hle.1 _ _ k1, k2, k3, k4.mono hle⟩
 ·intro b1 b2 B1 c1 c2 o1 o2 k1 k2 hro e1 e2
  rw [n3] at k1 k2
  rw [Env.ext_at] at e1 e2
  by_cases q1 : b1 = h.next
  ·rw [if_pos q1] at k1; cases k1; cases hro
  ·rw [if_neg q1] at k1 e1
   by_cases q2 : b2 = h.next
   ·rw [if_pos q2] at e2
    cases e2
    obtain ⟨B', c', O', j1, j2, _, _⟩ := r.blk _ _ k1
    rw [e1] at j1
    cases j1
    exact absurd hlt (j2 hro)
   ·rw [if_neg q2] at k2 e2
    exact r.inj _ _ _ _ _ _ _ k1 k2 hro e1 e2
 ·intro B1 CS' hi
  obtain ⟨i1, i2⟩ := r.imm B1 CS' hi
  refine ⟨i1, fun b' o' c' kx hro ke => ?_⟩
  rw [n3] at kx
  rw [Env.ext_at] at ke
  by_cases q : b' = h.next
  ·rw [if_pos q] at kx; cases kx; cases hro
  ·rw [if_neg q] at kx ke; exact i2 b' o' c' kx hro ke
end
end Go.AbsE

namespace Go.AbsE
open Go Go.RowKit
section
variable {P : Program}
theorem VRs.kinds {K : Type} {va : K → AVal} {vv : K → Value} (hvr : ∀ e x, VR e (va x) (vv x)) {e : Env} : ∀ l : List K, VRs e (l.map fun x => va x) (l.map fun x => vv x) := by
 intro l
 induction l with
 | nil => exact .nil
 | cons a l ih => exact .cons (hvr _ _) ih
theorem rowsG_eq {K : Type} {vv : K → Value} {C : List Value} {off sz : Nat} : ∀ (len : Nat) (f : Nat → List K), (∀ i, i < len → (f i).length = sz ∧ ∀ k n, (f i)[k]? = some n → C[off + i * sz + k]? = some (vv n)) →
  (C.drop off).take (len * sz) = (((List.range len).map f).flatten).map fun x => vv x := by
 intro len
 induction len with
 | zero => intro f _; simp
 | succ len ih =>
  intro f hf
  have h1 := ih f fun i hi => hf i (by omega)
  obtain ⟨l1, l2⟩ := hf len (by omega)
  rw [Nat.add_mul, Nat.one_mul, List.take_add, h1, List.range_succ, List.map_append, List.flatten_append, List.map_append]
  congr 1
  simp only [List.map_cons, List.map_nil, List.flatten_cons, List.flatten_nil, List.append_nil]
  rw [List.drop_drop]
  refine List.ext_getElem? fun k => ?_
  rw [List.getElem?_take, List.getElem?_drop, List.getElem?_map]
  by_cases hk : k < sz
  ·rw [if_pos hk]
   obtain ⟨n, hn⟩ : ∃ n, (f len)[k]? = some n := ⟨(f len)[k]'(by omega), by simp⟩
   rw [hn]
   exact l2 k n hn
  ·rw [if_neg hk]
   have : (f len)[k]? = none := by simp; omega
   rw [this]
   rfl
end
end Go.AbsE

namespace Go.AbsE
open Go Go.RowKit
section
variable {P : Program}
theorem HR.openRowsC {K : Type} (va : K → AVal) (vv : K → Value) (hvr : ∀ e x, VR e (va x) (vv x)) {e : Env} {h : AH} {W : World} (r : HR P (Base.all W) e h W) {a : Addr} {len cap sz : Nat} {C : Array Value} {el : TypeId} {fr : Nat × Nat} (hB : W.heap[a.block]? = some (.cells C el fr)) (hspot : a.spot = none) (f : Nat → List K)
  (hf : ∀ i, i < len → (f i).length = sz ∧ ∀ k n, (f i)[k]? = some n → W.cell? (a.add (i * sz + k)) = some (vv n)) :
  ∃ e' h' s, Env.le e e' ∧ HR P (Base.all W) e' h' W ∧ Ext h h' ∧ VR e' s (.slice (some a) len cap) ∧ SliceOf h' sz s (((List.range len).map f).map fun l => l.map fun x => va x) ∧ sameA s s = true ∧ ∃ b o, s = .slice b o len cap := by
 obtain ⟨B, off, spot⟩ := a
 dsimp only at hB hspot
 subst hspot
 have hcell : ∀ i, i < len → (f i).length = sz ∧ ∀ k n, (f i)[k]? = some n → C.toList[off + i * sz + k]? = some (vv n) := fun i hi => by
  obtain ⟨h1, h2⟩ := hf i hi
  refine ⟨h1, fun k n hn => ?_⟩
  have := h2 k n hn
  have e1 := addr_add B off (i * sz + k)
  rw [e1] at this
  unfold World.cell? at this
  rw [hB] at this
  simp only [Option.isSome_none, Bool.false_eq_true, if_false] at this
  rw [Array.getElem?_toList, Nat.add_assoc]
  exact this
 have hrows := rowsG_eq len f hcell
 let R := (List.range len).map f
 have hRl : ∀ l, l ∈ R → l.length = sz := fun l hl => by
  obtain ⟨i, hi, rfl⟩ := List.mem_map.1 hl
  exact (hf i (List.mem_range.1 hi)).1
 have hRlen : R.length = len := by simp [R]
 have hlen : (C.toList.drop off).take (len * sz) = (R.flatten).map fun x => vv x := hrows
 have hfl : R.flatten.length = len * sz := by
  have : ∀ {L : List (List K)}, (∀ l, l ∈ L → l.length = sz) → L.flatten.length = L.length * sz := by
   intro L
   induction L with
   | nil => intro _; simp
   | cons a L ih => intro h; simp only [List.flatten_cons, List.length_append, h a (by simp), ih fun l q => h l (by simp [q]), List.length_cons, Nat.add_mul]; omega
  rw [this hRl, hRlen]
 by_cases h0 : len * sz = 0
 ·-- nothing of it is read
  obtain ⟨e', h', k1, k2, k3, k4, k5⟩ := r.openWin (B := B) (lo := 0) (PRE := []) (CS := []) (junk := C.toList) (el := el) (fr := fr) (cs := []) (by simpa using hB) rfl (fun _ => .nil)
  refine ⟨e', h', .slice h.next off len cap, k1, k2, k3, .slice k4, .mk rfl rfl k5.1 (by simp) (fun l hl => ?_) ?_, by simp [sameA], _, _, rfl⟩
  ·obtain ⟨x, hx, rfl⟩ := List.mem_map.1 hl
   rw [List.length_map]
   exact hRl x hx
  ·have hnil : R.flatten = [] := List.eq_nil_of_length_eq_zero (by omega)
   unfold loadCells
   rw [k5.2]
   have e1 : ((R.map fun l => l.map fun x => va x).length * sz) = 0 := by rw [List.length_map, hRlen]; exact h0
   have e2 : (R.map fun l => l.map fun x => va x).flatten = [] := by rw [← List.map_flatten, hnil]; rfl
   show cond (Nat.ble 0 off) (slice? [] (off - 0) ((R.map fun l => l.map fun x => va x).length * sz)) none = some _
   rw [e1, e2, show Nat.ble 0 off = true from Nat.ble_eq_true_of_le (Nat.zero_le _)]
   simp [slice?]
 ·have hle : off + len * sz ≤ C.toList.length := by
   have : ((C.toList.drop off).take (len * sz)).length = len * sz := by rw [hlen, List.length_map, hfl]
   rw [List.length_take, List.length_drop] at this
   omega
  have hC : C = (C.toList.take off ++ ((R.flatten.map fun x => vv x) ++ C.toList.drop (off + len * sz))).toArray := by
   rw [← hlen]
   have : C.toList.take off ++ ((C.toList.drop off).take (len * sz) ++ C.toList.drop (off + len * sz)) = C.toList := by
    rw [← List.drop_drop, List.take_append_drop, List.take_append_drop]
   rw [this]
  obtain ⟨e', h', k1, k2, k3, k4, k5⟩ := r.openWin (B := B) (lo := off) (PRE := C.toList.take off) (CS := R.flatten.map fun x => vv x) (junk := C.toList.drop (off + len * sz)) (el := el) (fr := fr) (cs := R.flatten.map fun x => va x) (by rw [← hC]; exact hB) (by rw [List.length_take]; omega) (fun _ => VRs.kinds hvr _)
  refine ⟨e', h', .slice h.next off len cap, k1, k2, k3, .slice k4, .mk rfl rfl k5.1 (by simp) (fun l hl => ?_) ?_, by simp [sameA], _, _, rfl⟩
  ·obtain ⟨x, hx, rfl⟩ := List.mem_map.1 hl
   rw [List.length_map]
   exact hRl x hx
  ·unfold loadCells
   rw [k5.2]
   have e1 : ((R.map fun l => l.map fun x => va x).length * sz) = len * sz := by rw [List.length_map, hRlen]
   have e2 : (R.map fun l => l.map fun x => va x).flatten = R.flatten.map fun x => va x := by rw [← List.map_flatten]
   show cond (Nat.ble off off) (slice? (R.flatten.map fun x => va x) (off - off) ((R.map fun l => l.map fun x => va x).length * sz)) none = some _
   rw [e1, e2, show Nat.ble off off = true from Nat.ble_eq_true_of_le (Nat.le_refl _), Nat.sub_self]
   exact slice_all (by rw [List.length_map, hfl])
end
end Go.AbsE

namespace Go.AbsE
open Go
set_option linter.unusedSimpArgs false
set_option linter.unusedVariables false
section
variable {P : Program} {h : AH} {dst : Option Tmp} {ty tt el : TypeId} {pos : String} {after : Array Edge} {guard : Option (Nat × Bool)} {x y : Operand}
def CutS (s : AVal) (n : Nat) : Prop := n ≠ 0 → ∃ b off cap, s = .slice b off n cap ∧ n ≤ cap
theorem SliceOf.take {sz b off n cap cap' i : Nat} {L : List (List AVal)} (k : SliceOf h sz (.slice b off n cap) L) (hL : L.length = n) (hi : i ≤ n) : SliceOf h sz (.slice b off i cap') (L.take i) := by
 cases k with
 | mk hs hn hb hl hz hc =>
  rw [show aSlElems (.slice b off n cap) = some (b, off, n) from rfl] at hs
  cases hs
  have hlen : (L.take i).length = i := by rw [List.length_take]; omega
  refine .mk (b := b) (off := off) (len := i) rfl rfl hb hlen (fun l hl => hz l (List.mem_of_mem_take hl)) ?_
  have hp := loadCells_part (k := 0) (m := i * sz) hc (by rw [Nat.zero_add]; exact Nat.mul_le_mul_right _ (by omega))
  rw [Nat.add_zero] at hp
  rw [hlen, hp]
  congr 1
  have e1 : (L.take i).flatten.length = i * sz := by
   rw [flatten_len (sz := sz) (fun l hl => hz l (List.mem_of_mem_take hl)), hlen]
  have e3 : L.flatten = (L.take i).flatten ++ (L.drop i).flatten := by rw [← List.flatten_append, List.take_append_drop]
  rw [List.drop_zero, e3, ← e1, List.take_left]
end
end Go.AbsE

namespace Go.Proofs.Ytkhiagdmbajimaa
open Go Go.AbsE Go.ChangeShapes Go.WideShapes Go.ChangeAt Go.RowKit
set_option linter.unusedSimpArgs false
set_option maxRecDepth 100000
set_option linter.unusedVariables false
theorem cells29 : Try.prog.cellsOf 29 = 4 := by kernel_rfl
theorem cells3 : Try.prog.cellsOf 3 = 1 := by kernel_rfl
theorem cells35 : Try.prog.cellsOf 35 = 2 := by kernel_rfl
theorem cells32 : Try.prog.cellsOf 32 = 2 := by kernel_rfl
theorem cells57 : Try.prog.cellsOf 57 = 3 := by kernel_rfl
theorem cells60 : Try.prog.cellsOf 60 = 4 := by kernel_rfl
theorem cells25 : Try.prog.cellsOf 25 = 1 := by kernel_rfl
theorem cells26 : Try.prog.cellsOf 26 = 1 := by kernel_rfl
theorem cells27 : Try.prog.cellsOf 27 = 1 := by kernel_rfl
theorem ctypes29 : Try.prog.cellTypes Try.prog.depth 29 = some [25, 26, 27, 26] := by kernel_rfl
theorem laidOut : laidOutB Try.prog = true := by kernel_rfl
def inI64 (n : Int) : Prop := -9223372036854775808 ≤ n ∧ n ≤ 9223372036854775807
theorem wf_in {n : Int} (h : (Lit.int .i64 n).wf = true) : inI64 n := by
 simp only [Lit.wf, Bool.and_eq_true, decide_eq_true_eq] at h
 have h1 : IntKind.i64.min = -9223372036854775808 := by decide
 have h2 : IntKind.i64.max = 9223372036854775807 := by decide
 rw [h1, h2] at h
 constructor <;> omega
variable {H : Type} {enc : TypeId × Value → H} {W : World} {base : Nat} {spare : Nat → Bool} {held : Bool}
theorem int_row {n : Nat} {cs : List Value} {x : DataW H × List MemPlace} (h : DataW.trod enc Try.prog W base spare held n 3 cs = some x) : ∃ a : Int, cs = [.int .i64 a] ∧ inI64 a := by
 obtain ⟨a, h1, _, h3⟩ := DataW.trod_int Try.underlying3 h
 exact ⟨a, h1, wf_in h3⟩
theorem span_row {n : Nat} {cs : List Value} {x : DataW H × List MemPlace} (h : DataW.trod enc Try.prog W base spare held n 35 cs = some x) : ∃ a b : Int, cs = [.int .i64 a, .int .i64 b] := by
 obtain ⟨y0, y1, k, _, hl, h0, h1⟩ := ChangeShapes.trod_struct2 Try.underlying35 h
 rw [cells35] at hl
 dsimp only at h0 h1
 rw [cells3] at h0 h1
 obtain ⟨a, ha, _⟩ := int_row h0
 obtain ⟨b, hb, _⟩ := int_row h1
 match cs, hl with
 | [c0, c1], _ =>
  simp at ha hb
  exact ⟨a, b, by rw [ha, hb]⟩
theorem list2 {α : Type} {l : List α} (h : l.length = 2) : ∃ c0 c1, l = [c0, c1] := by
 match l, h with
 | [c0, c1], _ => exact ⟨c0, c1, rfl⟩
theorem list3 {α : Type} {l : List α} (h : l.length = 3) : ∃ c0 c1 c2, l = [c0, c1, c2] := by
 match l, h with
 | [c0, c1, c2], _ => exact ⟨c0, c1, c2, rfl⟩
theorem list4 {α : Type} {l : List α} (h : l.length = 4) : ∃ c0 c1 c2 c3, l = [c0, c1, c2, c3] := by
 match l, h with
 | [c0, c1, c2, c3], _ => exact ⟨c0, c1, c2, c3, rfl⟩
theorem way_row {n : Nat} {cs : List Value} {x : DataW H × List MemPlace} (h : DataW.trod enc Try.prog W base spare held n 32 cs = some x) : ∃ r : List Int, r.length = 2 ∧ cs = r.map fun x => Value.int .i64 x := by
 obtain ⟨y0, y1, k, _, hl, h0, h1⟩ := ChangeShapes.trod_struct2 Try.underlying32 h
 rw [cells32] at hl
 dsimp only at h0 h1
 rw [cells3] at h0 h1
 obtain ⟨a, ha, _⟩ := int_row h0
 obtain ⟨b, hb, _⟩ := int_row h1
 match cs, hl with
 | [c0, c1], _ =>
  simp at ha hb
  exact ⟨[a, b], rfl, by rw [ha, hb]; rfl⟩
theorem bank_row {n : Nat} {cs : List Value} {x : DataW H × List MemPlace} (h : DataW.trod enc Try.prog W base spare held n 60 cs = some x) : ∃ r : List Int, r.length = 4 ∧ cs = r.map fun x => Value.int .i64 x := by
 obtain ⟨xs, m, _, _, hl, hlen, hfl⟩ := DataW.trod_struct Try.underlying60 h
 rw [cells60] at hl
 obtain ⟨c0, c1, c2, c3, rfl⟩ := list4 hl
 obtain ⟨y0, y1, rfl⟩ := list2 hlen
 have t0 : DataW.trod enc Try.prog W base spare held m 35 [c0, c1] = some y0 := by
  have this : DataW.trod enc Try.prog W base spare held m 35 (([c0, c1, c2, c3].drop 0).take (Try.prog.cellsOf 35)) = [y0, y1][0]? := hfl 0 _ rfl
  rw [cells35] at this;exact this
 have t1 : DataW.trod enc Try.prog W base spare held m 35 [c2, c3] = some y1 := by
  have this : DataW.trod enc Try.prog W base spare held m 35 (([c0, c1, c2, c3].drop 2).take (Try.prog.cellsOf 35)) = [y0, y1][1]? := hfl 1 _ rfl
  rw [cells35] at this;exact this
 obtain ⟨a0, a1, e0⟩ := span_row t0
 obtain ⟨a2, a3, e1⟩ := span_row t1
 simp at e0 e1
 exact ⟨[a0, a1, a2, a3], rfl, by rw [e0.1, e0.2, e1.1, e1.2]; rfl⟩
theorem right_row {n : Nat} {cs : List Value} {x : DataW H × List MemPlace} (h : DataW.trod enc Try.prog W base spare held n 57 cs = some x) : ∃ r : List Int, r.length = 3 ∧ cs = r.map fun x => Value.int .i64 x := by
 obtain ⟨xs, m, _, _, hl, hlen, hfl⟩ := DataW.trod_struct Try.underlying57 h
 rw [cells57] at hl
 obtain ⟨c0, c1, c2, rfl⟩ := list3 hl
 obtain ⟨y0, y1, y2, rfl⟩ := list3 hlen
 have t0 : DataW.trod enc Try.prog W base spare held m 3 [c0] = some y0 := by
  have this : DataW.trod enc Try.prog W base spare held m 3 (([c0, c1, c2].drop 0).take (Try.prog.cellsOf 3)) = [y0, y1, y2][0]? := hfl 0 _ rfl
  rw [cells3] at this;exact this
 have t1 : DataW.trod enc Try.prog W base spare held m 3 [c1] = some y1 := by
  have this : DataW.trod enc Try.prog W base spare held m 3 (([c0, c1, c2].drop 1).take (Try.prog.cellsOf 3)) = [y0, y1, y2][1]? := hfl 1 _ rfl
  rw [cells3] at this;exact this
 have t2 : DataW.trod enc Try.prog W base spare held m 3 [c2] = some y2 := by
  have this : DataW.trod enc Try.prog W base spare held m 3 (([c0, c1, c2].drop 2).take (Try.prog.cellsOf 3)) = [y0, y1, y2][2]? := hfl 2 _ rfl
  rw [cells3] at this;exact this
 obtain ⟨a0, e0, _⟩ := int_row t0
 obtain ⟨a1, e1, _⟩ := int_row t1
 obtain ⟨a2, e2, _⟩ := int_row t2
 simp at e0 e1 e2
 exact ⟨[a0, a1, a2], rfl, by rw [e0, e1, e2]; rfl⟩
theorem slice_okw {t el : TypeId} {a : Addr} {len cap : Nat} {bs : Nat} (ht : Try.prog.underlying t = some (.slice el)) (h : Cell.okWide Try.prog W .any bs t (.slice (some a) len cap)) : a.spot = none ∧ ∃ C e fr, W.heap[a.block]? = some (.cells C e fr) := by
 unfold Cell.okWide at h
 rw [ht] at h
 dsimp only at h
 unfold Cell.ok at h
 rw [ht] at h
 dsimp only at h
 obtain ⟨_, _, _, h2, row, n, h3, _⟩ := h
 refine ⟨h2, ?_⟩
 unfold World.shape? at h3
 split at h3
 ·rename_i c e fr hq
  exact ⟨c, e, fr, hq⟩
 ·cases h3
theorem slice_cap {t el : TypeId} {a : Addr} {len cap : Nat} {bs : Nat} (ht : Try.prog.underlying t = some (.slice el)) (h : Cell.okWide Try.prog W .any bs t (.slice (some a) len cap)) : len < 9223372036854775808 := by
 unfold Cell.okWide at h
 rw [ht] at h
 dsimp only at h
 unfold Cell.ok at h
 rw [ht] at h
 dsimp only at h
 obtain ⟨h1, h2, _⟩ := h
 have : IntKind.i64.max = 9223372036854775807 := by decide
 rw [this] at h2
 omega
theorem slice_le {t el : TypeId} {a : Addr} {len cap : Nat} {bs : Nat} (ht : Try.prog.underlying t = some (.slice el)) (h : Cell.okWide Try.prog W .any bs t (.slice (some a) len cap)) : len ≤ cap := by
 unfold Cell.okWide at h
 rw [ht] at h
 dsimp only at h
 unfold Cell.ok at h
 rw [ht] at h
 dsimp only at h
 exact h.1
theorem rows_of {t el : TypeId} {sz fuel : Nat} {c : Value} {y : DataW H × List MemPlace} {bs : Nat} (ht : Try.prog.underlying t = some (.slice el)) (hsz : Try.prog.cellsOf el = sz)
  (hrow : ∀ {n : Nat} {cs : List Value} {x : DataW H × List MemPlace}, DataW.trod enc Try.prog W 0 (fun _ => true) true n el cs = some x → ∃ r : List Int, r.length = sz ∧ cs = r.map fun x => Value.int .i64 x)
  (h : DataW.trod enc Try.prog W 0 (fun _ => true) true fuel t [c] = some y) (hok : Cell.okWide Try.prog W .any bs t c) {e : Env} {hh : AH} (r : HR Try.prog (Base.all W) e hh W) :
  ∃ e' h' s, ∃ R : List (List Int), Env.le e e' ∧ HR Try.prog (Base.all W) e' h' W ∧ Ext hh h' ∧ VR e' s c ∧ (∀ l, l ∈ R → l.length = sz) ∧ SliceOf h' sz s (R.map fun l => l.map fun x => AVal.int .i64 x) ∧ R.length < 9223372036854775808 ∧ CutS s R.length := by
 rcases Deep.open_slice ht h with ⟨hcs, _⟩ | ⟨a, len, cap, m, n, D, Pl, hcs, _, hl, _, hmm, _, hx⟩
 ·simp at hcs
  subst hcs;exact ⟨e, hh, .nilslice, [], Env.le_refl e, r, Ext.refl _, .nilslice, (fun _ q => by cases q), .nil, by decide, fun q => absurd rfl q⟩
 ·simp at hcs
  subst hcs
  obtain ⟨hs, C, el', fr, hB⟩ := slice_okw ht hok
  have hcap := slice_cap ht hok
  have hle := slice_le ht hok
  have hm : m = cap := by simpa using hmm
  have each : ∀ i, ∃ rr : List Int, i < len → rr.length = sz ∧ ∀ k n, rr[k]? = some n → W.cell? (a.add (i * sz + k)) = some (.int .i64 n) := by
   intro i
   by_cases hi : i < len
   ·obtain ⟨cs', h1, h2⟩ := hx i (by omega)
    obtain ⟨rr, hr1, hr2⟩ := hrow h2
    rw [hsz] at h1
    obtain ⟨_, hlen, hc⟩ := World.cells?_some h1
    refine ⟨rr, fun _ => ⟨hr1, fun k n hk => ?_⟩⟩
    have hkl := (List.getElem?_eq_some_iff.1 hk).1
    have := hc k (by omega)
    obtain ⟨B, off, spot⟩ := a
    dsimp only at hs
    subst hs;rw [addr_add, addr_add] at this;rw [addr_add, ← Nat.add_assoc, this, hr2, List.getElem?_map, hk]
    rfl
   ·exact ⟨[], fun q => absurd q hi⟩
  obtain ⟨f, hf⟩ := Classical.axiomOfChoice each
  obtain ⟨e', h', s, k1, k2, k3, k4, k5, _, b, o, rfl⟩ := r.openRowsC (fun x => AVal.int .i64 x) (fun x => Value.int .i64 x) (fun _ _ => .int _ _) (cap := cap) (len := len) (sz := sz) hB hs f hf
  exact ⟨e', h', _, (List.range len).map f, k1, k2, k3, k4, fun l hl => by
   obtain ⟨i, hi, rfl⟩ := List.mem_map.1 hl
   exact (hf i (List.mem_range.1 hi)).1, k5, by rw [List.length_map, List.length_range]; exact hcap, fun _ => ⟨b, o, cap, by rw [List.length_map, List.length_range], by rw [List.length_map, List.length_range]; exact hle⟩⟩
def toS : List Int → Int × Int
 | [a, b] => (a, b)
 | _ => (0, 0)
def toB : List Int → BkV
 | [a, b, c, d] => ⟨a, b, c, d⟩
 | _ => ⟨0, 0, 0, 0⟩
def toR : List Int → RtV
 | [a, b, c] => ⟨a, b, c⟩
 | _ => ⟨0, 0, 0⟩
theorem ss_eq {R : List (List Int)} (h : ∀ l, l ∈ R → l.length = 2) : (R.map fun l => l.map fun x => AVal.int .i64 x) = (R.map toS).map spC := by
 rw [List.map_map];refine List.map_congr_left fun l hl => ?_
 match l, h l hl with
 | [a, b], _ => rfl
theorem bs_eq {R : List (List Int)} (h : ∀ l, l ∈ R → l.length = 4) : (R.map fun l => l.map fun x => AVal.int .i64 x) = (R.map toB).map BkV.cells := by
 rw [List.map_map];refine List.map_congr_left fun l hl => ?_
 match l, h l hl with
 | [a, b, c, d], _ => rfl
theorem rs_eq {R : List (List Int)} (h : ∀ l, l ∈ R → l.length = 3) : (R.map fun l => l.map fun x => AVal.int .i64 x) = (R.map toR).map RtV.cells := by
 rw [List.map_map];refine List.map_congr_left fun l hl => ?_
 match l, h l hl with
 | [a, b, c], _ => rfl
theorem array4 {α : Type} {cs : Array α} (h : cs.size = 4) : ∃ c0 c1 c2 c3, cs = #[c0, c1, c2, c3] := by
 obtain ⟨l⟩ := cs
 match l, h with
 | [c0, c1, c2, c3], _ => exact ⟨c0, c1, c2, c3, rfl⟩
theorem drain_of {bs : Nat} {v : Value} {d : DataW H} {p : List MemPlace} (hv : Value.okWide Try.prog W .any bs 29 v) (h : DataW.Trod enc Try.prog W 0 (fun _ => true) true 29 v d p) {e : Env} {hh : AH} (r : HR Try.prog (Base.all W) e hh W) :
  ∃ e' h' D sb sd sr ss, Env.le e e' ∧ HR Try.prog (Base.all W) e' h' W ∧ Ext hh h' ∧ VR e' (.agg (dC sb sd sr ss)) v ∧ DrainAt h' D sb sd sr ss ∧ DrainL D ∧ CutS sb D.bs.length ∧ CutS sd D.ds.length ∧ CutS sr D.rs.length ∧ CutS ss D.ss.length := by
 have hv2 := hv
 obtain ⟨cs, rfl, hsz⟩ := okWide_struct Try.underlying29 hv
 obtain ⟨c0, c1, c2, c3, rfl⟩ := array4 (hsz.trans cells29)
 obtain ⟨fuel, hf⟩ := h
 obtain ⟨xs, n, _, _, hl, hlen, hfl⟩ := DataW.trod_struct Try.underlying29 hf
 obtain ⟨y0, y1, y2, y3, rfl⟩ := list4 hlen
 have t0 : DataW.trod enc Try.prog W 0 (fun _ => true) true n 25 [c0] = some y0 := by
  have this : DataW.trod enc Try.prog W 0 (fun _ => true) true n 25 (([c0, c1, c2, c3].drop 0).take (Try.prog.cellsOf 25)) = [y0, y1, y2, y3][0]? := hfl 0 _ rfl
  rw [cells25] at this;exact this
 have t1 : DataW.trod enc Try.prog W 0 (fun _ => true) true n 26 [c1] = some y1 := by
  have this : DataW.trod enc Try.prog W 0 (fun _ => true) true n 26 (([c0, c1, c2, c3].drop 1).take (Try.prog.cellsOf 26)) = [y0, y1, y2, y3][1]? := hfl 1 _ rfl
  rw [cells26] at this;exact this
 have t2 : DataW.trod enc Try.prog W 0 (fun _ => true) true n 27 [c2] = some y2 := by
  have this : DataW.trod enc Try.prog W 0 (fun _ => true) true n 27 (([c0, c1, c2, c3].drop 2).take (Try.prog.cellsOf 27)) = [y0, y1, y2, y3][2]? := hfl 2 _ rfl
  rw [cells27] at this;exact this
 have t3 : DataW.trod enc Try.prog W 0 (fun _ => true) true n 26 [c3] = some y3 := by
  have this : DataW.trod enc Try.prog W 0 (fun _ => true) true n 26 (([c0, c1, c2, c3].drop 3).take (Try.prog.cellsOf 26)) = [y0, y1, y2, y3][3]? := hfl 3 _ rfl
  rw [cells26] at this;exact this
 unfold Value.okWide at hv2
 rw [Try.underlying29] at hv2
 obtain ⟨cs, hcs, _, ts, hts, _, hrow⟩ := hv2
 injection hcs with hcs
 subst hcs;rw [ctypes29] at hts;cases hts
 obtain ⟨u0, hu0, ok0⟩ := hrow 0 c0 rfl
 obtain ⟨u1, hu1, ok1⟩ := hrow 1 c1 rfl
 obtain ⟨u2, hu2, ok2⟩ := hrow 2 c2 rfl
 obtain ⟨u3, hu3, ok3⟩ := hrow 3 c3 rfl
 cases hu0;cases hu1;cases hu2;cases hu3
 obtain ⟨ea, ha, s0, R0, a1, a2, a3, a4, a5, a6, a7, a8⟩ := rows_of Try.underlying25 cells60 bank_row t0 ok0 r
 obtain ⟨eb, hb, s1, R1, b1, b2, b3, b4, b5, b6, b7, b8⟩ := rows_of Try.underlying26 cells32 way_row t1 ok1 a2
 obtain ⟨ec, hc, s2, R2, g1, g2, g3, g4, g5, g6, g7, g8⟩ := rows_of Try.underlying27 cells57 right_row t2 ok2 b2
 obtain ⟨ed, hd, s3, R3, i1, i2, i3, i4, i5, i6, i7, i8⟩ := rows_of Try.underlying26 cells32 way_row t3 ok3 g2
 rw [bs_eq a5] at a6;rw [ss_eq b5] at b6;rw [rs_eq g5] at g6;rw [ss_eq i5] at i6;refine ⟨ed, hd, ⟨R0.map toB, R1.map toS, R2.map toR, R3.map toS⟩, s0, s1, s2, s3, Env.le_trans a1 (Env.le_trans b1 (Env.le_trans g1 i1)), i2, a3.trans (b3.trans (g3.trans i3)), ?_, ⟨((a6.ext b3).ext g3).ext i3, (b6.ext g3).ext i3, g6.ext i3, i6⟩, ⟨by simpa using a7, by simpa using b7, by simpa using g7, by simpa using i7⟩, by show CutS s0 (R0.map toB).length; rw [List.length_map]; exact a8, by show CutS s1 (R1.map toS).length; rw [List.length_map]; exact b8, by show CutS s2 (R2.map toR).length; rw [List.length_map]; exact g8, by show CutS s3 (R3.map toS).length; rw [List.length_map]; exact i8⟩;exact .agg (CS := [_, _, _, _]) (.cons (((a4.mono b1).mono g1).mono i1) (.cons ((b4.mono g1).mono i1) (.cons (g4.mono i1) (.cons i4 .nil))))
end Go.Proofs.Ytkhiagdmbajimaa
