import Derived.Test.YtobhkdgcciolmaaGreatMAO
import Derived.Test.YtobhkdgcciolmaaGreatMAG
namespace Go.Proofs.YtobhkdgcciolmaaGreat
open Go Go.AbsE
set_option linter.unusedSimpArgs false
set_option maxRecDepth 100000
set_option maxHeartbeats 0
set_option linter.unusedVariables false
def bitsV (n : Nat) (p : Nat → Bool) : Nat := (List.range n).foldl (fun s i => if p i then s ||| 2 ^ i else s) 0
theorem bitsV_succ (n : Nat) (p : Nat → Bool) : bitsV (n + 1) p = if p n then bitsV n p ||| 2 ^ n else bitsV n p := by
 unfold bitsV
 rw [List.range_succ, List.foldl_append]
 rfl
theorem bitsV_lt (p : Nat → Bool) : ∀ n, bitsV n p < 2 ^ n
 | 0 => by simp [bitsV]
 | n + 1 => by
  have ih := bitsV_lt p n
  rw [bitsV_succ]
  have h2 : 2 ^ (n + 1) = 2 ^ n * 2 := Nat.pow_succ ..
  split
  ·exact Nat.or_lt_two_pow (by omega) (by omega)
  ·omega
theorem bitsV_test (p : Nat → Bool) : ∀ n i, (bitsV n p).testBit i = (decide (i < n) && p i)
 | 0, i => by simp [bitsV]
 | n + 1, i => by
  have ih := bitsV_test p n i
  rw [bitsV_succ]
  split
  ·rename_i hp
   rw [Nat.testBit_or, ih, Nat.testBit_two_pow]
   by_cases q : n = i
   ·subst q; simp [hp]
   ·by_cases z : i < n
    ·simp [z, q]; omega
    ·simp [z, q]; omega
  ·rename_i hp
   rw [ih]
   by_cases q : n = i
   ·subst q; simp [hp]
   ·by_cases z : i < n
    ·simp [z]; omega
    ·simp [z]; omega
theorem pow_small {i : Nat} (h : i < 10) : 2 ^ i ≤ 512 := by
 have : 2 ^ i ≤ 2 ^ 9 := Nat.pow_le_pow_right (by omega) (by omega)
 omega
def cntAt (L : List EV) (i : Nat) : Bool := match L[i]? with | some e => decide (e.kind ≠ 0) | none => false
def ClampV.cnt (C : ClampV) : Nat := bitsV C.es.length (cntAt C.es)
theorem counts_ok {C : ClampV} (O : C.Ok) {gp ge : AVal} {h : AH} (A : YardAt h C gp ge) : Runs Tryz.prog 108 [.agg (C.cells gp ge)] h (fun en h' => en = .ret (.int .i64 (C.cnt : Nat)) ∧ Ext h h') := by
 have hne := O.ne
 have hE := A.esl
 have hlenE := hE.len
 rw [List.length_map] at hlenE
 unfold ClampV.cells ClampV.cnt
 have e0 : Ext h h := Ext.refl _
 refine Runs.intro aFunc108 rfl rfl rfl rfl fun rest => ?_;apply gS;refine gR rfl ?_;refine GoR.box rfl rfl rfl rfl rfl rfl fun h0 x0 f0 => ?_;have := e0.1;replace e0 := e0.trans x0;have := f0.1;refine gP ?_;apply gE;iterate 2 apply gS
 refine gR rfl ?_;refine gO rfl rfl (fa74_2 rfl) rfl ?_;refine gO rfl rfl (ld72 rfl f0 rfl) rfl ?_;refine gO rfl rfl (aOp_lenSlice Tryz.underlying72 rfl hlenE) rfl ?_;refine gP ?_;apply gE;refine Go.block noJ_ok ?_
 have hb0 := f0.1
 refine Go.loopKeep (fun i : Nat => [(1, .ptr h.next 0), (2, .int .i64 (bitsV i (cntAt C.es) : Nat)), (8, ge), (9, .int .i64 C.es.length), (10, .int .i64 (i : Nat))])
  (fun m i h' => m + i = C.es.length ∧ Ext h h') (n := C.es.length) 0 ⟨rfl, rfl, rfl, rfl, rfl, trivial⟩ ⟨rfl, e0⟩ ?_
 clear e0 f0;rintro m i hc ⟨hm, e0⟩ again
 have n0 := e0.1
 by_cases hi : i < C.es.length
 ·obtain ⟨e, he⟩ : ∃ e, C.es[i]? = some e := ⟨C.es[i], by simp [hi]⟩
  have heO := O.e e (List.mem_of_getElem? he)
  obtain ⟨bq, off, q1, q2⟩ := hE.at (i := i) (l := [evC e]) (by rw [List.getElem?_map, he]; rfl)
  rw [List.length_map] at q1
  have hi10 : i < 10 := by omega
  have hps := pow_small hi10
  have b1 := bitsV_lt (cntAt C.es) i
  have s1 := bitsV_succ i (cntAt C.es)
  have c1 : cntAt C.es i = decide (e.kind ≠ 0) := by unfold cntAt; rw [he]
  obtain ⟨B1, hB1⟩ : ∃ B, bitsV i (cntAt C.es) = B := ⟨_, rfl⟩
  obtain ⟨w, hw⟩ : ∃ w, 2 ^ i = w := ⟨_, rfl⟩
  have hsh : (1 : Int) * 2 ^ i = ((w : Nat) : Int) := by rw [← hw]; simp
  rw [hB1] at b1 s1;rw [hw] at b1 s1 hps;rw [hB1]
  by_cases k0 : e.kind = 0
  ·have hv : evC e = .iface 160 (.agg [.int .i64 e.lo, .int .i64 e.hi, .int .i64 e.cl]) := if_pos k0
   rw [hv] at q2;rw [decide_eq_false (p := e.kind ≠ 0) (fun q => q k0)] at c1;rw [c1, if_neg (by simp)] at s1;apply gS;refine gR rfl ?_;refine gO rfl rfl (kLT rfl rfl) rfl ?_;apply gE;apply gS;refine gC (b := true) rfl ?_;refine gD ?_;apply gS;refine Go.block noJ_ok ?_;apply gS;refine gR rfl ?_;refine gP ?_;refine gO rfl rfl (aOp_indexAddr (i := i) Tryz.underlying72 sz138 rfl q1 rfl (Nat.ble_eq_true_of_le hi)) rfl ?_;refine gO rfl rfl ((aOp_loadE1 (k := 0) ag138 rfl (q2.ext (by assumption)) rfl)) rfl ?_;iterate 2 refine gP ?_
   apply gE;apply gS;refine gR rfl ?_;iterate 5 refine gP ?_
   refine GoR.alloc rfl rfl rfl zt152 rfl rfl fun h1 x1 f1 => ?_;have := e0.1;replace e0 := e0.trans x1;have := f1.1;refine GoR.store rfl rfl rfl rfl rfl rfl f1 rfl sz152 rfl rfl rfl fun h2 u2 => ?_;replace e0 := e0.upd u2 (by omega);refine gP ?_;apply gE;apply gS;refine gR rfl ?_;refine gP ?_;apply gE;refine gC (b := false) rfl ?_;refine gD ?_;refine Go.inBlock noJ_ok ?_;refine gR rfl ?_;refine gO rfl rfl (aA rfl rfl) rfl ?_;refine gP ?_;apply gE;exact again (m - 1) (i + 1) _ _ (by omega) ⟨rfl, by rw [s1]; rfl, rfl, rfl, rfl, trivial⟩ ⟨by omega, e0⟩
  ·have hv : evC e = .iface 152 (.agg [.int .i64 e.lo, .int .i64 e.hi, .int .i64 e.cl]) := if_neg k0
   rw [hv] at q2;rw [decide_eq_true (p := e.kind ≠ 0) k0] at c1;rw [c1, if_pos rfl] at s1;apply gS;refine gR rfl ?_;refine gO rfl rfl (kLT rfl rfl) rfl ?_;apply gE;apply gS;refine gC (b := true) rfl ?_;refine gD ?_;apply gS;refine Go.block noJ_ok ?_;apply gS;refine gR rfl ?_;refine gP ?_;refine gO rfl rfl (aOp_indexAddr (i := i) Tryz.underlying72 sz138 rfl q1 rfl (Nat.ble_eq_true_of_le hi)) rfl ?_;refine gO rfl rfl ((aOp_loadE1 (k := 0) ag138 rfl (q2.ext (by assumption)) rfl)) rfl ?_;iterate 2 refine gP ?_
   apply gE;apply gS;refine gR rfl ?_;iterate 5 refine gP ?_
   refine GoR.alloc rfl rfl rfl zt152 rfl rfl fun h1 x1 f1 => ?_;have := e0.1;replace e0 := e0.trans x1;have := f1.1;refine GoR.store rfl rfl rfl rfl rfl rfl f1 rfl sz152 rfl rfl rfl fun h2 u2 => ?_;replace e0 := e0.upd u2 (by omega);refine gP ?_;apply gE;apply gS;refine gR rfl ?_;refine gP ?_;apply gE;refine gC (b := true) rfl ?_;refine gR rfl ?_;iterate 2 refine gP ?_
   refine gO rfl rfl (aOp_shl rfl rfl (i := i) (by omega) hsh (by omega)) rfl ?_;refine gO rfl rfl (aOp_orNat rfl rfl (by omega) (by omega) rfl) rfl ?_;refine gP ?_;apply gE;refine Go.inBlock noJ_ok ?_;refine gR rfl ?_;refine gO rfl rfl (aA rfl rfl) rfl ?_;refine gP ?_;apply gE;exact again (m - 1) (i + 1) _ _ (by omega) ⟨rfl, by rw [s1]; rfl, rfl, rfl, rfl, trivial⟩ ⟨by omega, e0⟩
 ·have hin : i = C.es.length := by omega
  rw [hin];apply gS;refine gR rfl ?_;refine gO rfl rfl (kLF rfl rfl) rfl ?_;apply gE;apply gS;refine gC (b := false) rfl ?_;refine gD ?_;apply gS;refine gR rfl ?_;iterate 2 refine gP ?_
  apply gE;exact gW Tryz.func108 rfl rfl ⟨rfl, e0⟩
theorem clamps_ok {C : ClampV} (O : C.Ok) {gp ge : AVal} {h : AH} (A : YardAt h C gp ge) : Runs Tryz.prog 60 [.agg (C.cells gp ge)] h (fun en h' => en = .ret (.int .i64 (C.all : Nat)) ∧ Ext h h') := by
 have hnp := O.np
 have hl1 := A.psl.len
 rw [List.length_map] at hl1
 have hps := pow_small (i := C.ps.length) (by omega)
 unfold ClampV.cells ClampV.all
 obtain ⟨w, hw⟩ : ∃ w, 2 ^ C.ps.length = w := ⟨_, rfl⟩
 have hsh : (1 : Int) * 2 ^ C.ps.length = ((w : Nat) : Int) := by rw [← hw]; simp
 have hw1 : 1 ≤ w := by rw [← hw]; exact Nat.one_le_two_pow
 rw [hw] at hps ⊢
 have hsub : ((w - 1 : Nat) : Int) = (w : Int) - 1 := by omega
 rw [hsub]
 have e0 : Ext h h := Ext.refl _
 refine Runs.intro aFunc60 rfl rfl rfl rfl fun rest => ?_;apply gS;refine gR rfl ?_;refine GoR.box rfl rfl rfl rfl rfl rfl fun h0 x0 f0 => ?_;replace e0 := e0.trans x0;refine gP ?_;apply gE;apply gS;refine gR rfl ?_;refine gO rfl rfl (fa74_0 rfl) rfl ?_;refine gO rfl rfl (ld22 rfl f0 rfl) rfl ?_;refine gO rfl rfl (aOp_lenSlice Tryz.underlying22 rfl hl1) rfl ?_;refine gO rfl rfl (aOp_shl rfl rfl (i := C.ps.length) (by omega) hsh (by omega)) rfl ?_;refine gO rfl rfl (aS rfl rfl) rfl ?_;refine gP ?_;apply gE;exact gW Tryz.func60 rfl rfl ⟨rfl, e0⟩
theorem drop_ok {C : ClampV} (O : C.Ok) (out : Nat) : (C.drop out).Ok where
 np := O.np
 ne := by have := O.ne; show (dropV out 0 C.es).length ≤ 6; have := dropV_len (out := out) (k := 0) (L := C.es); omega
 p := O.p
 k := O.k
 e := fun e he => O.e e (dropV_mem he)
theorem cnt_lt {C : ClampV} (O : C.Ok) : C.cnt < 64 := by
 have h1 : C.cnt < 2 ^ C.es.length := bitsV_lt _ _
 have h2 : 2 ^ C.es.length ≤ 2 ^ 6 := Nat.pow_le_pow_right (by omega) O.ne
 omega
theorem all_lt {C : ClampV} (O : C.Ok) : C.all < 16 := by
 unfold ClampV.all
 have h2 : 2 ^ C.ps.length ≤ 2 ^ 4 := Nat.pow_le_pow_right (by omega) O.np.2
 have : 1 ≤ 2 ^ C.ps.length := Nat.one_le_two_pow
 omega
def ClampV.clashes (C : ClampV) (only : Nat) : Bool := !(C.drop (andNot C.cnt only)).possible
def ClampV.clashI (C : ClampV) : Option Int := ((subs C.cnt).map fun s => ((s : Nat) : Int)).find? fun x => C.clashes x.toNat
def ClampV.shareI (C : ClampV) (n : Int) : Option Int := ((subs C.all).map fun s => ((s : Nat) : Int)).find? fun x => decide (n ≤ (C.total x.toNat).1)
theorem andNot_le (a b : Nat) (ha : a < 2 ^ 64) : andNot a b ≤ a := by
 unfold andNot
 rw [BitVec.toNat_and, BitVec.toNat_ofNat, Nat.mod_eq_of_lt ha];exact Nat.and_le_left
theorem clash109_ok {C : ClampV} (O : C.Ok) {gp ge : AVal} {bg bl : Nat} {only : Nat} {h : AH} (A : YardAt h C gp ge) (f0 : Has h bg (.cells .plain (C.cells gp ge) 74)) (f1 : Has h bl (.cells .plain [.int .i64 (C.cnt : Nat)] 3)) :
  Runs Tryz.prog 109 [.int .i64 (only : Nat), .ptr bg 0, .ptr bl 0] h (fun en h' => en = .ret (.bool (C.clashes only)) ∧ Ext h h') := by
 have hb0 := f0.1
 have hb1 := f1.1
 have hl := cnt_lt O
 have hle := andNot_le C.cnt only (by omega)
 have hw := fun {h9} A => without_ok O (gp := gp) (ge := ge) (out := andNot C.cnt only) (by omega) (h := h9) A
 have hpo := fun {h9 s} (A : YardAt h9 (C.drop (andNot C.cnt only)) gp s) => possible_ok (drop_ok O (andNot C.cnt only)) A
 unfold ClampV.clashes
 unfold ClampV.cells at *
 have e0 : Ext h h := Ext.refl _
 refine Runs.intro aFunc109 rfl rfl rfl rfl fun rest => ?_;apply gS;refine gR rfl ?_;refine gP ?_;apply gE;apply gS;refine gR rfl ?_;refine gO rfl rfl (ld74 rfl f0 rfl) rfl ?_;refine gO rfl rfl (ld3 rfl f1 rfl) rfl ?_;refine gP ?_;refine gO rfl rfl (aOp_andNot rfl rfl (by omega) rfl) rfl ?_;refine GoR.call rfl rfl (aCF aFunc110 rfl) (hw (A.ext e0)) ?_ (by rintro _ _ ⟨s, q, _, _⟩; cases q);rintro v2 h2 ⟨s, q, x2, f2⟩;cases q;refine ⟨_, rfl, ?_⟩;replace f0 := f0.ext x2;replace f1 := f1.ext x2;replace e0 := e0.trans x2;refine GoR.call rfl rfl (aCF aFunc107 rfl) (hpo (by assumption)) ?_ np;rintro v3 h3 ⟨q, x3⟩;cases q;refine ⟨_, rfl, ?_⟩;replace e0 := e0.trans x3;iterate 2 refine gP ?_
 apply gE;exact gW Tryz.func109 rfl rfl ⟨rfl, e0⟩
theorem clash73_ok {C : ClampV} (O : C.Ok) {gp ge : AVal} {h : AH} (A : YardAt h C gp ge) :
  Runs Tryz.prog 73 [.agg (C.cells gp ge)] h (fun en h' => en = (if C.possible = true then .pan (refusal 4) else .ret (.int .i64 (C.clashI.getD 0))) ∧ Ext h h') := by
 have hl := cnt_lt O
 have hpo := fun {h9} A => possible_ok O (gp := gp) (ge := ge) (h := h9) A
 have hco := fun {h9} A => counts_ok O (gp := gp) (ge := ge) (h := h9) A
 cases hp : C.possible with
 | true =>
  rw [if_pos rfl];rw [hp] at hpo
  unfold ClampV.cells at *
  have e0 : Ext h h := Ext.refl _
  refine Runs.intro aFunc73 rfl rfl rfl rfl fun rest => ?_;apply gS;refine gR rfl ?_;refine GoR.box rfl rfl rfl rfl rfl rfl fun h0 x0 f0 => ?_;have := e0.1;replace e0 := e0.trans x0;have := f0.1;refine gP ?_;apply gE;apply gS;refine gR rfl ?_;refine gO rfl rfl (ld74 rfl f0 rfl) rfl ?_;refine GoR.call rfl rfl (aCF aFunc107 rfl) (hpo (A.ext e0)) ?_ np;rintro v1 h1 ⟨q, x1⟩;cases q;refine ⟨_, rfl, ?_⟩;replace f0 := f0.ext x1;replace e0 := e0.trans x1;refine GoR.callP rfl rfl (aCF aFunc85 rfl) (refuse_yes _ _) (by rintro _ _ ⟨q, _⟩; cases q) ?_;rintro chain h2 ⟨q, x2⟩
  have q := AEnd.pan.inj q
  subst q;replace f0 := f0.ext x2;replace e0 := e0.trans x2;exact FLeft.pan (⟨rfl, e0⟩)
 | false =>
  rw [if_neg (by decide)];rw [hp] at hpo
  have hfi : ∀ {h9 : AH} {bo b b2 : Nat}, Ext h h9 → Has h9 bo (.cells .plain [.int .i64 (C.cnt : Nat)] 3) → Has h9 b (.cells .plain (C.cells gp ge) 74) → Has h9 b2 (.cells .plain [.int .i64 (C.cnt : Nat)] 3) → Runs Tryz.prog 104 [.func (.func 129) [] [.ptr bo 0], .agg [.func (.func 109) [] [.ptr b 0, .ptr b2 0]]] h9 (fun en h' => en = .ret (.tuple [.int .i64 (C.clashI.getD 0), .bool C.clashI.isSome]) ∧ Ext h9 h') := fun {h9 bo b b2} e fo f f2 => by
   have it := subs1_it (of := C.cnt) (by omega) bo
   have hm : (subs C.cnt).map (fun s => AVal.int .i64 (s : Nat)) = ((subs C.cnt).map fun s => ((s : Nat) : Int)).map (.int .i64) := by rw [List.map_map]; rfl
   rw [hm] at it
   exact first_ok aFunc129 it aFunc109 (fun x => C.clashes x.toNat) (fun h' x => fo.ext x) fun x h' hx e' => by
    obtain ⟨s, hs, rfl⟩ := List.mem_map.1 hx
    rw [Int.toNat_natCast];exact clash109_ok O (A.ext (e.trans e')) (f.ext e') (f2.ext e')
  unfold ClampV.cells at *
  have e0 : Ext h h := Ext.refl _
  refine Runs.intro aFunc73 rfl rfl rfl rfl fun rest => ?_;apply gS;refine gR rfl ?_;refine GoR.box rfl rfl rfl rfl rfl rfl fun h0 x0 f0 => ?_;have := e0.1;replace e0 := e0.trans x0;have := f0.1;refine gP ?_;apply gE;apply gS;refine gR rfl ?_;refine gO rfl rfl (ld74 rfl f0 rfl) rfl ?_;refine GoR.call rfl rfl (aCF aFunc107 rfl) (hpo (A.ext e0)) ?_ np;rintro v1 h1 ⟨q, x1⟩;cases q;refine ⟨_, rfl, ?_⟩;replace f0 := f0.ext x1;replace e0 := e0.trans x1;refine GoR.call rfl rfl (aCF aFunc85 rfl) (refuse_no _ _) ?_ np;rintro v2 h2 ⟨q, x2⟩;cases q;refine ⟨_, rfl, ?_⟩;replace f0 := f0.ext x2;replace e0 := e0.trans x2;apply gE;apply gS;refine gR rfl ?_;refine gO rfl rfl (ld74 rfl f0 rfl) rfl ?_;refine GoR.call rfl rfl (aCF aFunc108 rfl) (hco (A.ext e0)) ?_ np;rintro v3 h3 ⟨q, x3⟩;cases q;refine ⟨_, rfl, ?_⟩;replace f0 := f0.ext x3;replace e0 := e0.trans x3;refine GoR.alloc rfl rfl rfl zt3 rfl rfl fun h4 x4 f4 => ?_;have := e0.1;have := f0.1;replace f0 := f0.ext x4;replace e0 := e0.trans x4;have := f4.1;refine GoR.store rfl rfl rfl rfl rfl rfl f4 rfl sz3 rfl rfl rfl fun h5 u5 => ?_;replace f4 := u5.has f4;replace f0 := f0.upd u5 (by omega);replace e0 := e0.upd u5 (by omega);apply gE;apply gS;refine gR rfl ?_;refine gO rfl rfl (ld3 rfl f4 rfl) rfl ?_;refine GoR.call rfl rfl (aCF aFunc105 rfl) (subsets_ok) ?_ (by rintro _ _ ⟨bo, q, _, _, e9⟩; cases q);rintro v6 h6 ⟨bo, q, x6, f6, e9⟩;cases q;refine ⟨_, rfl, ?_⟩;replace f4 := f4.ext x6;replace f0 := f0.ext x6;replace e0 := e0.trans x6;refine gP ?_;refine gO rfl rfl (aOp_build zt129 hu129 pl129 rfl rfl) rfl ?_;refine GoR.call rfl rfl (aCF aFunc104 rfl) (hfi e0 (by assumption) f0 (by assumption)) ?_ np;rintro v7 h7 ⟨q, x7⟩;cases q;refine ⟨_, rfl, ?_⟩;replace e0 := e0.trans x7;iterate 5 refine gP ?_
  apply gE;apply gS;refine gR rfl ?_;iterate 2 refine gP ?_
  apply gE;exact gW Tryz.func73 rfl rfl ⟨rfl, e0⟩
theorem share106_ok {C : ClampV} (O : C.Ok) {n : Int} {bk bn bm : Nat} {set : Nat} {h : AH} (k : KnownAt C h bm) (f0 : Has h bk (.cells .plain [.map bm] 77)) (f1 : Has h bn (.cells .plain [.int .i64 n] 3)) :
  Runs Tryz.prog 106 [.int .i64 (set : Nat), .ptr bk 0, .ptr bn 0] h (fun en h' => en = .ret (.bool (decide (n ≤ (C.total set).1))) ∧ Ext h h') := by
 have hto := fun {h9} k => Ktotal_ok O (h := h9) (bm := bm) k (s := set)
 have hb0 := f0.1
 have hb1 := f1.1
 have hkm := k.m
 unfold spC at hto
 have e0 : Ext h h := Ext.refl _
 refine Runs.intro aFunc106 rfl rfl rfl rfl fun rest => ?_;apply gS;refine gR rfl ?_;refine gP ?_;apply gE;apply gS;refine Go.drawnE plan106_0 ?_;refine gQ rfl rfl (ld77 rfl f0 rfl) rfl ?_;refine gQ rfl rfl rfl rfl ?_;refine gQ rfl rfl (ld3 rfl f1 rfl) rfl ?_;refine GoE.call rfl rfl (aCF aFunc59 rfl) (hto (k.ext e0)) (dK 3 5 (dD 3 1 (dD 3 0 rfl))) ?_ np;rintro v2 h2 ⟨q, x2⟩;cases q;replace f1 := f1.ext x2;replace hkm := hkm.ext x2;replace e0 := e0.trans x2;refine ⟨(rck (h2 := h2) rfl (ld3 rfl f1 rfl) recheck_nil), _, rfl, ?_⟩;refine gQ rfl rfl (fd71_0 rfl rfl) rfl ?_;refine gQ rfl rfl (fd24_0 rfl rfl) rfl ?_;refine gQ rfl rfl (aOp_geq rfl rfl rfl) rfl ?_;refine gQ rfl rfl rfl rfl ?_;refine GoE.end rfl ?_;exact gW Tryz.func106 rfl rfl ⟨rfl, e0⟩
theorem share71_ok {C : ClampV} (O : C.Ok) {gp ge : AVal} {n : Int} {h : AH} (A : YardAt h C gp ge) :
  Runs Tryz.prog 71 [.agg (C.cells gp ge), .int .i64 n] h (fun en h' => en = (if C.possible = true then (match C.shareI n with | some s => .ret (.int .i64 s) | none => .pan (refusal 4)) else .pan (refusal 10)) ∧ Ext h h') := by
 have hl := all_lt O
 have htr := fun {h9} A => truths_ok O (gp := gp) (ge := ge) (h := h9) A
 have hcl := fun {h9} A => clamps_ok O (gp := gp) (ge := ge) (h := h9) A
 have hsm := A.same
 cases hp : C.possible with
 | false =>
  rw [if_neg (by decide)]
  have htp : ∀ {h9}, YardAt h9 C gp ge → Runs Tryz.prog 48 [.agg (C.cells gp ge)] h9 (fun en h' => en = .pan (refusal 10) ∧ Ext h9 h') := fun A => (htr A).mono fun en h' ⟨x, k⟩ => by
   rcases k with ⟨q, _⟩ | ⟨_, q⟩
   ·rw [hp] at q; cases q
   ·exact ⟨q, x⟩
  unfold ClampV.cells at *
  have e0 : Ext h h := Ext.refl _
  refine Runs.intro aFunc71 rfl rfl rfl rfl fun rest => ?_;apply gS;refine gR rfl ?_;refine GoR.box rfl rfl rfl rfl rfl rfl fun h0 x0 f0 => ?_;have := e0.1;replace e0 := e0.trans x0;have := f0.1;refine GoR.box rfl rfl rfl rfl rfl rfl fun h1 x1 f1 => ?_;have := e0.1;have := f0.1;replace f0 := f0.ext x1;replace e0 := e0.trans x1;have := f1.1;refine gP ?_;apply gE;apply gS;refine gR rfl ?_;refine gO rfl rfl (ld74 rfl f0 rfl) rfl ?_;refine GoR.callP rfl rfl (aCF aFunc48 rfl) (htp (A.ext e0)) (by rintro _ _ ⟨q, _⟩; cases q) ?_;rintro chain h2 ⟨q, x2⟩
  have q := AEnd.pan.inj q
  subst q;replace f1 := f1.ext x2;replace f0 := f0.ext x2;replace e0 := e0.trans x2;exact FLeft.pan (⟨rfl, e0⟩)
 | true =>
  rw [if_pos rfl]
  have htp : ∀ {h9}, YardAt h9 C gp ge → Runs Tryz.prog 48 [.agg (C.cells gp ge)] h9 (fun en h' => ∃ bm, en = .ret (.map bm) ∧ Ext h9 h' ∧ KnownAt C h' bm ∧ Ext h' h') := fun A => (htr A).mono fun en h' ⟨x, k⟩ => by
   rcases k with ⟨_, bm, q, _, K⟩ | ⟨q, _⟩
   ·exact ⟨bm, q, x, K, Ext.refl _⟩
   ·rw [hp] at q; cases q
  have hfi : ∀ {h9 : AH} {bo b b2 bm : Nat}, KnownAt C h9 bm → Has h9 bo (.cells .plain [.int .i64 (C.all : Nat)] 3) → Has h9 b (.cells .plain [.map bm] 77) → Has h9 b2 (.cells .plain [.int .i64 n] 3) → Runs Tryz.prog 104 [.func (.func 129) [] [.ptr bo 0], .agg [.func (.func 106) [] [.ptr b 0, .ptr b2 0]]] h9 (fun en h' => en = .ret (.tuple [.int .i64 ((C.shareI n).getD 0), .bool (C.shareI n).isSome]) ∧ Ext h9 h') := fun {h9 bo b b2 bm} K fo f f2 => by
   have it := subs1_it (of := C.all) (by omega) bo
   have hm : (subs C.all).map (fun s => AVal.int .i64 (s : Nat)) = ((subs C.all).map fun s => ((s : Nat) : Int)).map (.int .i64) := by rw [List.map_map]; rfl
   rw [hm] at it
   exact first_ok aFunc129 it aFunc106 (fun x => decide (n ≤ (C.total x.toNat).1)) (fun h' x => fo.ext x) fun x h' hx e' => by
    obtain ⟨s, hs, rfl⟩ := List.mem_map.1 hx
    rw [Int.toNat_natCast];exact share106_ok O (K.ext e') (f.ext e') (f2.ext e')
  cases hsI : C.shareI n with
  | some r =>
   rw [hsI] at hfi
   unfold ClampV.cells at *
   have e0 : Ext h h := Ext.refl _
   refine Runs.intro aFunc71 rfl rfl rfl rfl fun rest => ?_;apply gS;refine gR rfl ?_;refine GoR.box rfl rfl rfl rfl rfl rfl fun h0 x0 f0 => ?_;have := e0.1;replace e0 := e0.trans x0;have := f0.1;refine GoR.box rfl rfl rfl rfl rfl rfl fun h1 x1 f1 => ?_;have := e0.1;have := f0.1;replace f0 := f0.ext x1;replace e0 := e0.trans x1;have := f1.1;refine gP ?_;apply gE;apply gS;refine gR rfl ?_;refine gO rfl rfl (ld74 rfl f0 rfl) rfl ?_;refine GoR.call rfl rfl (aCF aFunc48 rfl) (htp (A.ext e0)) ?_ (by rintro _ _ ⟨bm, q, _, KK, e8⟩; cases q);rintro v2 h2 ⟨bm, q, x2, KK, e8⟩;cases q;refine ⟨_, rfl, ?_⟩;have := e0.1;replace f1 := f1.ext x2;replace f0 := f0.ext x2;replace e0 := e0.trans x2;refine GoR.alloc rfl rfl rfl zt77 rfl rfl fun h3 x3 f3 => ?_;have := e8.1;have := e0.1;have := f1.1;have := f0.1;replace f1 := f1.ext x3;replace f0 := f0.ext x3;replace e8 := e8.trans x3;replace e0 := e0.trans x3;have := f3.1;refine GoR.store rfl rfl rfl rfl rfl rfl f3 rfl sz77 rfl rfl rfl fun h4 u4 => ?_;replace f3 := u4.has f3;replace f1 := f1.upd u4 (by omega);replace f0 := f0.upd u4 (by omega);replace e8 := e8.upd u4 (by omega);replace e0 := e0.upd u4 (by omega);apply gE;apply gS;refine gR rfl ?_;refine gO rfl rfl (ld74 rfl f0 rfl) rfl ?_;refine GoR.call rfl rfl (aCF aFunc60 rfl) (hcl (A.ext e0)) ?_ np;rintro v5 h5 ⟨q, x5⟩;cases q;refine ⟨_, rfl, ?_⟩;replace f3 := f3.ext x5;replace f1 := f1.ext x5;replace f0 := f0.ext x5;replace e8 := e8.trans x5;replace e0 := e0.trans x5;refine GoR.call rfl rfl (aCF aFunc105 rfl) (subsets_ok) ?_ (by rintro _ _ ⟨bo, q, _, _, e9⟩; cases q);rintro v6 h6 ⟨bo, q, x6, f6, e9⟩;cases q;refine ⟨_, rfl, ?_⟩;have := e8.1;have := e0.1;replace f3 := f3.ext x6;replace f1 := f1.ext x6;replace f0 := f0.ext x6;replace e8 := e8.trans x6;replace e0 := e0.trans x6;refine gP ?_;refine gO rfl rfl (aOp_build zt129 hu129 pl129 rfl rfl) rfl ?_;refine GoR.call rfl rfl (aCF aFunc104 rfl) (hfi (KK.ext e8) (by assumption) (by assumption) (by assumption)) ?_ np;rintro v7 h7 ⟨q, x7⟩;cases q;refine ⟨_, rfl, ?_⟩;replace f6 := f6.ext x7;replace f3 := f3.ext x7;replace f1 := f1.ext x7;replace f0 := f0.ext x7;replace e9 := e9.trans x7;replace e8 := e8.trans x7;replace e0 := e0.trans x7;iterate 5 refine gP ?_
   apply gE;apply gS;refine gR rfl ?_;iterate 2 refine gP ?_
   refine GoR.call rfl rfl (aCF aFunc85 rfl) (refuse_no _ _) ?_ np;rintro v8 h8 ⟨q, x8⟩;cases q;refine ⟨_, rfl, ?_⟩;replace f6 := f6.ext x8;replace f3 := f3.ext x8;replace f1 := f1.ext x8;replace f0 := f0.ext x8;replace e9 := e9.trans x8;replace e8 := e8.trans x8;replace e0 := e0.trans x8;apply gE;apply gS;refine gR rfl ?_;iterate 2 refine gP ?_
   apply gE;exact gW Tryz.func71 rfl rfl ⟨rfl, e0⟩
  | none =>
   rw [hsI] at hfi
   unfold ClampV.cells at *
   have e0 : Ext h h := Ext.refl _
   refine Runs.intro aFunc71 rfl rfl rfl rfl fun rest => ?_;apply gS;refine gR rfl ?_;refine GoR.box rfl rfl rfl rfl rfl rfl fun h0 x0 f0 => ?_;have := e0.1;replace e0 := e0.trans x0;have := f0.1;refine GoR.box rfl rfl rfl rfl rfl rfl fun h1 x1 f1 => ?_;have := e0.1;have := f0.1;replace f0 := f0.ext x1;replace e0 := e0.trans x1;have := f1.1;refine gP ?_;apply gE;apply gS;refine gR rfl ?_;refine gO rfl rfl (ld74 rfl f0 rfl) rfl ?_;refine GoR.call rfl rfl (aCF aFunc48 rfl) (htp (A.ext e0)) ?_ (by rintro _ _ ⟨bm, q, _, KK, e8⟩; cases q);rintro v2 h2 ⟨bm, q, x2, KK, e8⟩;cases q;refine ⟨_, rfl, ?_⟩;have := e0.1;replace f1 := f1.ext x2;replace f0 := f0.ext x2;replace e0 := e0.trans x2;refine GoR.alloc rfl rfl rfl zt77 rfl rfl fun h3 x3 f3 => ?_;have := e8.1;have := e0.1;have := f1.1;have := f0.1;replace f1 := f1.ext x3;replace f0 := f0.ext x3;replace e8 := e8.trans x3;replace e0 := e0.trans x3;have := f3.1;refine GoR.store rfl rfl rfl rfl rfl rfl f3 rfl sz77 rfl rfl rfl fun h4 u4 => ?_;replace f3 := u4.has f3;replace f1 := f1.upd u4 (by omega);replace f0 := f0.upd u4 (by omega);replace e8 := e8.upd u4 (by omega);replace e0 := e0.upd u4 (by omega);apply gE;apply gS;refine gR rfl ?_;refine gO rfl rfl (ld74 rfl f0 rfl) rfl ?_;refine GoR.call rfl rfl (aCF aFunc60 rfl) (hcl (A.ext e0)) ?_ np;rintro v5 h5 ⟨q, x5⟩;cases q;refine ⟨_, rfl, ?_⟩;replace f3 := f3.ext x5;replace f1 := f1.ext x5;replace f0 := f0.ext x5;replace e8 := e8.trans x5;replace e0 := e0.trans x5;refine GoR.call rfl rfl (aCF aFunc105 rfl) (subsets_ok) ?_ (by rintro _ _ ⟨bo, q, _, _, e9⟩; cases q);rintro v6 h6 ⟨bo, q, x6, f6, e9⟩;cases q;refine ⟨_, rfl, ?_⟩;replace f3 := f3.ext x6;replace f1 := f1.ext x6;replace f0 := f0.ext x6;replace e8 := e8.trans x6;replace e0 := e0.trans x6;refine gP ?_;refine gO rfl rfl (aOp_build zt129 hu129 pl129 rfl rfl) rfl ?_;refine GoR.call rfl rfl (aCF aFunc104 rfl) (hfi (KK.ext e8) (by assumption) (by assumption) (by assumption)) ?_ np;rintro v7 h7 ⟨q, x7⟩;cases q;refine ⟨_, rfl, ?_⟩;replace e0 := e0.trans x7;iterate 5 refine gP ?_
   apply gE;apply gS;refine gR rfl ?_;iterate 2 refine gP ?_
   refine GoR.callP rfl rfl (aCF aFunc85 rfl) (refuse_yes _ _) (by rintro _ _ ⟨q, _⟩; cases q) ?_;rintro chain h8 ⟨q, x8⟩
   have q := AEnd.pan.inj q
   subst q;replace e0 := e0.trans x8;exact FLeft.pan (⟨rfl, e0⟩)
theorem which_ok {C : ClampV} (O : C.Ok) {gp ge : AVal} {by' bk bm : Nat} {h : AH} (A : YardAt h C gp ge) (k : KnownAt C h bm) (f0 : Has h by' (.cells .plain (C.cells gp ge) 74)) (f1 : Has h bk (.cells .plain [.map bm] 77)) {fid : FuncId} {fn : Func} (hfid : aFunc Tryz.prog fid = some fn) (q : Int × Int → Bool)
  (hc : ∀ s h', Runs Tryz.prog fid [.agg (spC s)] h' (fun en h'' => en = .ret (.bool (q s)) ∧ Ext h' h'')) :
  Runs Tryz.prog 101 [.func (.func fid) [] [], .ptr by' 0, .ptr bk 0] h (fun en h' => en = .ret (.int .i64 (bitsV C.ps.length (fun i => q (C.left i)) : Nat)) ∧ Ext h h') := by
 have hnp := O.np
 have hlen := A.psl.len
 rw [List.length_map] at hlen
 have hb0 := f0.1
 have hb1 := f1.1
 obtain ⟨P, hP⟩ : ∃ P : Nat → Bool, P = fun i => q (C.left i) := ⟨_, rfl⟩
 rw [← hP]
 have e0 : Ext h h := Ext.refl _
 refine Runs.intro aFunc101 rfl rfl rfl rfl fun rest => ?_;apply gS;refine gR rfl ?_;refine gP ?_;apply gE;iterate 2 apply gS
 refine gR rfl ?_;refine gO rfl rfl (fa74_0 rfl) rfl ?_;refine gO rfl rfl (ld22 rfl f0 rfl) rfl ?_;refine gO rfl rfl (aOp_lenSlice Tryz.underlying22 rfl hlen) rfl ?_;refine gP ?_;apply gE;refine Go.block noJ_ok ?_
 refine Go.loopKeep (fun i : Nat => [(0, .func (.func fid) [] []), (1, .ptr by' 0), (2, .ptr bk 0), (4, .int .i64 (bitsV i P : Nat)), (8, .int .i64 C.ps.length), (9, .int .i64 (i : Nat))])
  (fun m i h' => m + i = C.ps.length ∧ Ext h h') (n := C.ps.length) 0 ⟨rfl, rfl, rfl, rfl, rfl, rfl, trivial⟩ ⟨rfl, e0⟩ ?_
 rintro m i hc' ⟨hm, e1⟩ again
 have n0 := e1.1
 replace f1 := f1.ext e1;clear e0 f0
 have e0 := e1
 clear e1
 by_cases hi : i < C.ps.length
 ·have hle := fun {h9} k => Kleft_ok O (h := h9) (bm := bm) k hi
  have hps := pow_small (i := i) (by omega)
  have b1 := bitsV_lt P i
  have s1 := bitsV_succ i P
  have c1 : P i = q (C.left i) := by rw [hP]
  have hcs := hc (C.left i)
  obtain ⟨B1, hB1⟩ : ∃ B, bitsV i P = B := ⟨_, rfl⟩
  obtain ⟨w, hw⟩ : ∃ w, 2 ^ i = w := ⟨_, rfl⟩
  have hsh : (1 : Int) * 2 ^ i = ((w : Nat) : Int) := by rw [← hw]; simp
  rw [hB1] at b1 s1;rw [hw] at b1 s1 hps;rw [hB1]
  unfold spC at hle hcs
  cases hq : q (C.left i) with
  | true =>
   rw [hq] at hcs c1;rw [c1, if_pos rfl] at s1;apply gS;refine gR rfl ?_;refine gO rfl rfl (kLT rfl rfl) rfl ?_;apply gE;apply gS;refine gC (b := true) rfl ?_;refine gD ?_;apply gS;refine Go.block noJ_ok ?_;apply gS;refine gR rfl ?_;iterate 2 refine gP ?_
   apply gE;apply gS;refine gR rfl ?_;refine gP ?_;refine gO rfl rfl (ld77 rfl f1 rfl) rfl ?_;refine gP ?_;refine GoR.call rfl rfl (aCF aFunc54 rfl) (hle (k.ext e0)) ?_ np;rintro v2 h2 ⟨q, x2⟩;cases q;refine ⟨_, rfl, ?_⟩;replace f1 := f1.ext x2;replace e0 := e0.trans x2;refine GoR.call rfl rfl (aOp_callVal rfl hfid rfl) (hcs _) ?_ np;rintro v3 h3 ⟨q, x3⟩;cases q;refine ⟨_, rfl, ?_⟩;replace f1 := f1.ext x3;replace e0 := e0.trans x3;apply gE;refine gC (b := true) rfl ?_;refine gR rfl ?_;iterate 2 refine gP ?_
   refine gO rfl rfl (aOp_shl rfl rfl (i := i) (by omega) hsh (by omega)) rfl ?_;refine gO rfl rfl (aOp_orNat rfl rfl (by omega) (by omega) rfl) rfl ?_;refine gP ?_;apply gE;refine Go.inBlock noJ_ok ?_;refine gR rfl ?_;refine gO rfl rfl (aA rfl rfl) rfl ?_;refine gP ?_;apply gE;exact again (m - 1) (i + 1) _ _ (by omega) ⟨rfl, rfl, rfl, by rw [s1]; rfl, rfl, rfl, trivial⟩ ⟨by omega, e0⟩
  | false =>
   rw [hq] at hcs c1;rw [c1, if_neg (by simp)] at s1;apply gS;refine gR rfl ?_;refine gO rfl rfl (kLT rfl rfl) rfl ?_;apply gE;apply gS;refine gC (b := true) rfl ?_;refine gD ?_;apply gS;refine Go.block noJ_ok ?_;apply gS;refine gR rfl ?_;iterate 2 refine gP ?_
   apply gE;apply gS;refine gR rfl ?_;refine gP ?_;refine gO rfl rfl (ld77 rfl f1 rfl) rfl ?_;refine gP ?_;refine GoR.call rfl rfl (aCF aFunc54 rfl) (hle (k.ext e0)) ?_ np;rintro v2 h2 ⟨q, x2⟩;cases q;refine ⟨_, rfl, ?_⟩;replace e0 := e0.trans x2;refine GoR.call rfl rfl (aOp_callVal rfl hfid rfl) (hcs _) ?_ np;rintro v3 h3 ⟨q, x3⟩;cases q;refine ⟨_, rfl, ?_⟩;replace e0 := e0.trans x3;apply gE;refine gC (b := false) rfl ?_;refine gD ?_;refine Go.inBlock noJ_ok ?_;refine gR rfl ?_;refine gO rfl rfl (aA rfl rfl) rfl ?_;refine gP ?_;apply gE;exact again (m - 1) (i + 1) _ _ (by omega) ⟨rfl, rfl, rfl, by rw [s1]; rfl, rfl, rfl, trivial⟩ ⟨by omega, e0⟩
 ·have hin : i = C.ps.length := by omega
  rw [hin];apply gS;refine gR rfl ?_;refine gO rfl rfl (kLF rfl rfl) rfl ?_;apply gE;apply gS;refine gC (b := false) rfl ?_;refine gD ?_;apply gS;refine gR rfl ?_;iterate 2 refine gP ?_
  apply gE;exact gW Tryz.func101 rfl rfl ⟨rfl, e0⟩
def ClampV.gone (C : ClampV) : Nat := bitsV C.ps.length fun i => decide ((C.left i).2 = 0)
def ClampV.low (C : ClampV) : Nat := bitsV C.ps.length fun i => decide ((C.left i).1 = 0)
theorem empty69_ok {C : ClampV} (O : C.Ok) {gp ge : AVal} {h : AH} (A : YardAt h C gp ge) :
  Runs Tryz.prog 69 [.agg (C.cells gp ge)] h (fun en h' => en = (if C.possible = true then .ret (.tuple [.int .i64 (C.gone : Nat), .int .i64 (C.low : Nat)]) else .pan (refusal 10)) ∧ Ext h h') := by
 have htr := fun {h9} A => truths_ok O (gp := gp) (ge := ge) (h := h9) A
 have hsm := A.same
 cases hp : C.possible with
 | false =>
  rw [if_neg (by decide)]
  have htp : ∀ {h9}, YardAt h9 C gp ge → Runs Tryz.prog 48 [.agg (C.cells gp ge)] h9 (fun en h' => en = .pan (refusal 10) ∧ Ext h9 h') := fun A => (htr A).mono fun en h' ⟨x, k⟩ => by
   rcases k with ⟨q, _⟩ | ⟨_, q⟩
   ·rw [hp] at q; cases q
   ·exact ⟨q, x⟩
  unfold ClampV.cells at *
  have e0 : Ext h h := Ext.refl _
  refine Runs.intro aFunc69 rfl rfl rfl rfl fun rest => ?_;apply gS;refine gR rfl ?_;refine GoR.box rfl rfl rfl rfl rfl rfl fun h0 x0 f0 => ?_;have := e0.1;replace e0 := e0.trans x0;have := f0.1;iterate 2 refine gP ?_
  apply gE;apply gS;refine gR rfl ?_;refine gO rfl rfl (ld74 rfl f0 rfl) rfl ?_;refine GoR.callP rfl rfl (aCF aFunc48 rfl) (htp (A.ext e0)) (by rintro _ _ ⟨q, _⟩; cases q) ?_;rintro chain h1 ⟨q, x1⟩
  have q := AEnd.pan.inj q
  subst q;replace f0 := f0.ext x1;replace e0 := e0.trans x1;exact FLeft.pan (⟨rfl, e0⟩)
 | true =>
  rw [if_pos rfl]
  have htp : ∀ {h9}, YardAt h9 C gp ge → Runs Tryz.prog 48 [.agg (C.cells gp ge)] h9 (fun en h' => ∃ bm, en = .ret (.map bm) ∧ Ext h9 h' ∧ KnownAt C h' bm ∧ Ext h' h') := fun A => (htr A).mono fun en h' ⟨x, k⟩ => by
   rcases k with ⟨_, bm, q, _, K⟩ | ⟨q, _⟩
   ·exact ⟨bm, q, x, K, Ext.refl _⟩
   ·rw [hp] at q; cases q
  have hw1 : ∀ {h9 by' bk bm}, YardAt h9 C gp ge → KnownAt C h9 bm → Has h9 by' (.cells .plain (C.cells gp ge) 74) → Has h9 bk (.cells .plain [.map bm] 77) → Runs Tryz.prog 101 [.func (.func 102) [] [], .ptr by' 0, .ptr bk 0] h9 (fun en h' => en = .ret (.int .i64 (C.gone : Nat)) ∧ Ext h9 h') := fun A K f g => which_ok O A K f g aFunc102 (fun s => decide (s.2 = 0)) fun s h' => gone_ok
  have hw2 : ∀ {h9 by' bk bm}, YardAt h9 C gp ge → KnownAt C h9 bm → Has h9 by' (.cells .plain (C.cells gp ge) 74) → Has h9 bk (.cells .plain [.map bm] 77) → Runs Tryz.prog 101 [.func (.func 103) [] [], .ptr by' 0, .ptr bk 0] h9 (fun en h' => en = .ret (.int .i64 (C.low : Nat)) ∧ Ext h9 h') := fun A K f g => which_ok O A K f g aFunc103 (fun s => decide (s.1 = 0)) fun s h' => low_ok
  unfold ClampV.cells at *
  have e0 : Ext h h := Ext.refl _
  refine Runs.intro aFunc69 rfl rfl rfl rfl fun rest => ?_;apply gS;refine gR rfl ?_;refine GoR.box rfl rfl rfl rfl rfl rfl fun h0 x0 f0 => ?_;have := e0.1;replace e0 := e0.trans x0;have := f0.1;iterate 2 refine gP ?_
  apply gE;apply gS;refine gR rfl ?_;refine gO rfl rfl (ld74 rfl f0 rfl) rfl ?_;refine GoR.call rfl rfl (aCF aFunc48 rfl) (htp (A.ext e0)) ?_ (by rintro _ _ ⟨bm, q, _, KK, e8⟩; cases q);rintro v1 h1 ⟨bm, q, x1, KK, e8⟩;cases q;refine ⟨_, rfl, ?_⟩;have := e0.1;replace f0 := f0.ext x1;replace e0 := e0.trans x1;refine GoR.alloc rfl rfl rfl zt77 rfl rfl fun h2 x2 f2 => ?_;have := e8.1;have := e0.1;have := f0.1;replace f0 := f0.ext x2;replace e8 := e8.trans x2;replace e0 := e0.trans x2;have := f2.1;refine GoR.store rfl rfl rfl rfl rfl rfl f2 rfl sz77 rfl rfl rfl fun h3 u3 => ?_;replace f2 := u3.has f2;replace f0 := f0.upd u3 (by omega);replace e8 := e8.upd u3 (by omega);replace e0 := e0.upd u3 (by omega);apply gE;apply gS;refine gR rfl ?_;iterate 2 refine gP ?_
  apply gE;apply gS;refine gR rfl ?_;refine gP ?_;refine GoR.call rfl rfl (aOp_callVal rfl aFunc101 rfl) (hw1 (A.ext e0) (KK.ext e8) (by assumption) (by assumption)) ?_ np;rintro v4 h4 ⟨q, x4⟩;cases q;refine ⟨_, rfl, ?_⟩;replace f2 := f2.ext x4;replace f0 := f0.ext x4;replace e8 := e8.trans x4;replace e0 := e0.trans x4;refine gP ?_;refine GoR.call rfl rfl (aOp_callVal rfl aFunc101 rfl) (hw2 (A.ext e0) (KK.ext e8) (by assumption) (by assumption)) ?_ np;rintro v5 h5 ⟨q, x5⟩;cases q;refine ⟨_, rfl, ?_⟩;replace e0 := e0.trans x5;iterate 2 refine gP ?_
  apply gE;exact gW Tryz.func69 rfl rfl ⟨rfl, e0⟩
end Go.Proofs.YtobhkdgcciolmaaGreat

namespace Go.Proofs.YtobhkdgcciolmaaGreat
open Go Go.AbsE
set_option linter.unusedSimpArgs false
set_option maxRecDepth 100000
set_option maxHeartbeats 0
set_option linter.unusedVariables false
def zSp : Int × Int := (0, 0)
def ClampV.tr {α : Type} (C : ClampV) (a z : α) : α × Int := if C.possible = true then (a, 0) else (z, 10)
def ClampV.clampQ {α : Type} (C : ClampV) (n : Int) (k : α × Int) (z : α) : α × Int := if 0 ≤ n ∧ n < (C.ps.length : Int) then k else (z, 2)
def sodsQ {α : Type} (n : Int) (k : α × Int) (z : α) : α × Int := if 0 ≤ n ∧ n ≤ 20000 then k else (z, 2)
def ClampV.ok {α : Type} (C : ClampV) (k : α × Int) (z : α) : α × Int := if C.Ok then k else (z, 1)
def ClampV.shareQ (C : ClampV) (n : Int) : Int × Int := if C.possible = true then (match C.shareI n with | some s => (s, 0) | none => (0, 4)) else (0, 10)
def ClampV.clashQ (C : ClampV) : Int × Int := if C.possible = true then (0, 4) else (C.clashI.getD 0, 0)
def ClampV.builtR (C : ClampV) (n : Int) : (Int × Int) × Int := C.ok (C.clampQ n (C.tr (C.first n.toNat) zSp) zSp) zSp
def ClampV.hasR (C : ClampV) (n : Int) : (Int × Int) × Int := C.ok (C.clampQ n (C.tr (C.left n.toNat) zSp) zSp) zSp
def ClampV.soldR (C : ClampV) (n : Int) : (Int × Int) × Int := C.ok (C.clampQ n (C.tr (C.sold n.toNat) zSp) zSp) zSp
def ClampV.allR (C : ClampV) : (Int × Int) × Int := C.ok (C.tr (C.total C.all) zSp) zSp
def ClampV.enoughR (C : ClampV) (n m : Int) : Int × Int := C.ok (C.clampQ n (sodsQ m (C.tr (reachV (C.left n.toNat) m) 0) 0) 0) 0
def ClampV.emptyR (C : ClampV) : (Int × Int) × Int := C.ok (C.tr (((C.gone : Nat) : Int), ((C.low : Nat) : Int)) zSp) zSp
def ClampV.shareR (C : ClampV) (n : Int) : Int × Int := C.ok (sodsQ n (C.shareQ n) 0) 0
def ClampV.clashR (C : ClampV) : Int × Int := C.ok C.clashQ 0
theorem ClampV.ok_yes {α : Type} {C : ClampV} {k : α × Int} {z : α} (O : C.Ok) : C.ok k z = k := if_pos O
theorem ClampV.ok_no {α : Type} {C : ClampV} {k : α × Int} {z : α} (O : ¬ C.Ok) : C.ok k z = (z, 1) := if_neg O
theorem ClampV.tr_yes {α : Type} {C : ClampV} {a z : α} (h : C.possible = true) : C.tr a z = (a, 0) := if_pos h
theorem ClampV.tr_no {α : Type} {C : ClampV} {a z : α} (h : C.possible = false) : C.tr a z = (z, 10) := if_neg (by rw [h]; decide)
theorem ClampV.clamp_yes {α : Type} {C : ClampV} {n : Int} {k : α × Int} {z : α} (h : 0 ≤ n ∧ n < (C.ps.length : Int)) : C.clampQ n k z = k := if_pos h
theorem ClampV.clamp_no {α : Type} {C : ClampV} {n : Int} {k : α × Int} {z : α} (h : ¬ (0 ≤ n ∧ n < (C.ps.length : Int))) : C.clampQ n k z = (z, 2) := if_neg h
theorem sods_yes {α : Type} {n : Int} {k : α × Int} {z : α} (h : 0 ≤ n ∧ n ≤ 20000) : sodsQ n k z = k := if_pos h
theorem sods_no {α : Type} {n : Int} {k : α × Int} {z : α} (h : ¬ (0 ≤ n ∧ n ≤ 20000)) : sodsQ n k z = (z, 2) := if_neg h
theorem needClamp_yes {C : ClampV} {gp ge : AVal} {n : Int} {h : AH} (A : YardAt h C gp ge) (O : C.Ok) (hq : 0 ≤ n ∧ n < (C.ps.length : Int)) : Runs Tryz.prog 47 [.agg (C.cells gp ge), .int .i64 n] h (fun en h' => en = .ret (.tuple []) ∧ Ext h h') := by
 have := needClamp_ok (n := n) A O.B.p
 rw [if_pos hq] at this;exact this
theorem needClamp_no {C : ClampV} {gp ge : AVal} {n : Int} {h : AH} (A : YardAt h C gp ge) (O : C.Ok) (hq : ¬ (0 ≤ n ∧ n < (C.ps.length : Int))) : Runs Tryz.prog 47 [.agg (C.cells gp ge), .int .i64 n] h (fun en h' => en = .pan (refusal 2) ∧ Ext h h') := by
 have := needClamp_ok (n := n) A O.B.p
 rw [if_neg hq] at this;exact this
theorem needSods_yes {n : Int} {h : AH} (hq : 0 ≤ n ∧ n ≤ 20000) : Runs Tryz.prog 64 [.int .i64 n] h (fun en h' => en = .ret (.tuple []) ∧ Ext h h') := by
 have := needSods_ok (n := n) (h := h)
 rw [if_pos hq] at this;exact this
theorem needSods_no {n : Int} {h : AH} (hq : ¬ (0 ≤ n ∧ n ≤ 20000)) : Runs Tryz.prog 64 [.int .i64 n] h (fun en h' => en = .pan (refusal 2) ∧ Ext h h') := by
 have := needSods_ok (n := n) (h := h)
 rw [if_neg hq] at this;exact this
theorem truths_yes {C : ClampV} (O : C.Ok) {gp ge : AVal} {h : AH} (A : YardAt h C gp ge) (c : C.possible = true) : Runs Tryz.prog 48 [.agg (C.cells gp ge)] h (fun en h' => ∃ bm, en = .ret (.map bm) ∧ Ext h h' ∧ KnownAt C h' bm ∧ Ext h' h') := (truths_ok O A).mono fun en h' ⟨x, k⟩ => by
 rcases k with ⟨_, bm, q, _, K⟩ | ⟨q, _⟩
 ·exact ⟨bm, q, x, K, Ext.refl _⟩
 ·rw [c] at q; cases q
theorem truths_no {C : ClampV} (O : C.Ok) {gp ge : AVal} {h : AH} (A : YardAt h C gp ge) (c : C.possible = false) : Runs Tryz.prog 48 [.agg (C.cells gp ge)] h (fun en h' => en = .pan (refusal 10) ∧ Ext h h') := (truths_ok O A).mono fun en h' ⟨x, k⟩ => by
 rcases k with ⟨q, _⟩ | ⟨_, q⟩
 ·rw [c] at q; cases q
 ·exact ⟨q, x⟩
theorem attempt_is {C : ClampV} (O : C.Ok) (p e : AVal) (h : AH) (A : ClampAt h C p e) (W : FuncId) (fW : Func) (hfid : aFunc Tryz.prog W = some fW) (caps : List AVal) (hsm : sameA (.func (.func W) [] caps) (.func (.func W) [] caps) = true) (S : Nat → Prop) (hS : ∀ b, S b → b < h.next) (T : AH → Prop) (hT : ∀ h2 h', h2.next ≤ h'.next → (∀ b, b < h.next → h'.get b = h2.get b) → T h2 → T h') (code : Int)
  (hbody : ∀ h' gp ge, Ext h h' → YardAt h' C gp ge → Runs Tryz.prog W ([.agg (C.cells gp ge)] ++ caps) h' (fun en h'' => ExtF S h' h'' ∧ T h'' ∧ ((code = 0 ∧ en = .ret (.tuple [])) ∨ en = .pan (refusal code)))) :
  Runs Tryz.prog 45 [.agg (C.cells p e), .func (.func W) [] caps] h (fun en h' => en = .ret (.int .i64 code) ∧ ExtF S h h' ∧ T h') :=
 (attempt_ok O p e h A W fW hfid caps hsm S hS (fun c h' => c = code ∧ T h') fun h' gp ge e g => (hbody h' gp ge e g).mono fun en h'' ⟨x, f, q⟩ => ⟨x, q.elim (fun q => .inl ⟨q.2, q.1.symm, f⟩) fun q => .inr ⟨code, q, rfl, f⟩⟩).mono
  fun en h' ⟨c, h2, q, ⟨hc, f⟩, x, le, same⟩ => ⟨by rw [q, hc], x, hT h2 h' le same f⟩
theorem attempt_one {C : ClampV} (O : C.Ok) (p e : AVal) (h : AH) (A : ClampAt h C p e) (W : FuncId) (fW : Func) (hfid : aFunc Tryz.prog W = some fW) (caps : List AVal) (hsm : sameA (.func (.func W) [] caps) (.func (.func W) [] caps) = true) (br : Nat) (hb : br < h.next) (cs : List AVal) (el : TypeId) (code : Int)
  (hbody : ∀ h' gp ge, Ext h h' → YardAt h' C gp ge → Runs Tryz.prog W ([.agg (C.cells gp ge)] ++ caps) h' (fun en h'' => ExtF (fun b => b = br) h' h'' ∧ Has h'' br (.cells .plain cs el) ∧ ((code = 0 ∧ en = .ret (.tuple [])) ∨ en = .pan (refusal code)))) :
  Runs Tryz.prog 45 [.agg (C.cells p e), .func (.func W) [] caps] h (fun en h' => en = .ret (.int .i64 code) ∧ ExtF (fun b => b = br) h h' ∧ Has h' br (.cells .plain cs el)) :=
 attempt_is O p e h A W fW hfid caps hsm (fun b => b = br) (fun _ q => q ▸ hb) (fun h' => Has h' br (.cells .plain cs el)) (fun h2 h' le same f => f.keep le (same br hb)) code hbody
theorem attempt_two {C : ClampV} (O : C.Ok) (p e : AVal) (h : AH) (A : ClampAt h C p e) (W : FuncId) (fW : Func) (hfid : aFunc Tryz.prog W = some fW) (caps : List AVal) (hsm : sameA (.func (.func W) [] caps) (.func (.func W) [] caps) = true) (br bs : Nat) (hb : br < h.next) (hs : bs < h.next) (cs cs' : List AVal) (el el' : TypeId) (code : Int)
  (hbody : ∀ h' gp ge, Ext h h' → YardAt h' C gp ge → Runs Tryz.prog W ([.agg (C.cells gp ge)] ++ caps) h' (fun en h'' => ExtF (fun b => b = br ∨ b = bs) h' h'' ∧ (Has h'' br (.cells .plain cs el) ∧ Has h'' bs (.cells .plain cs' el')) ∧ ((code = 0 ∧ en = .ret (.tuple [])) ∨ en = .pan (refusal code)))) :
  Runs Tryz.prog 45 [.agg (C.cells p e), .func (.func W) [] caps] h (fun en h' => en = .ret (.int .i64 code) ∧ ExtF (fun b => b = br ∨ b = bs) h h' ∧ (Has h' br (.cells .plain cs el) ∧ Has h' bs (.cells .plain cs' el'))) :=
 attempt_is O p e h A W fW hfid caps hsm (fun b => b = br ∨ b = bs) (fun _ q => by rcases q with rfl | rfl <;> assumption) (fun h' => Has h' br (.cells .plain cs el) ∧ Has h' bs (.cells .plain cs' el')) (fun h2 h' le same f => ⟨f.1.keep le (same br hb), f.2.keep le (same bs hs)⟩) code hbody
theorem builtB0_ok {C : ClampV} (O : C.Ok) {gp ge : AVal} {a : Int} {b0 br : Nat} {h : AH} (A : YardAt h C gp ge) (f0 : Has h b0 (.cells .plain [.int .i64 a] 3)) (f1 : Has h br (.cells .plain [.int .i64 0, .int .i64 0] 24)) (h0r : b0 ≠ br) :
  Runs Tryz.prog 46 [.agg (C.cells gp ge), .ptr b0 0, .ptr br 0] h (fun en h'' => ExtF (fun x => x = br) h h'' ∧ Has h'' br (.cells .plain (spC (C.clampQ a (C.tr (C.first a.toNat) zSp) zSp).1) 24) ∧ (((C.clampQ a (C.tr (C.first a.toNat) zSp) zSp).2 = 0 ∧ en = .ret (.tuple [])) ∨ en = .pan (refusal (C.clampQ a (C.tr (C.first a.toNat) zSp) zSp).2))) := by
 have hnp := O.np
 have y0 : ExtF (fun x => x = br) h h := ExtF.of (Ext.refl _)
 have hsm := A.same
 have l0 := f0.1
 have l1 := f1.1
 have htr := fun {h'} A c => truths_yes O (gp := gp) (ge := ge) (h := h') A c
 have htn := fun {h'} A c => truths_no O (gp := gp) (ge := ge) (h := h') A c
 by_cases c1 : 0 ≤ a ∧ a < (C.ps.length : Int)
 ·rw [ClampV.clamp_yes c1]
  have hnd := fun {h'} A => needClamp_yes (C := C) (gp := gp) (ge := ge) (h := h') A O c1
  obtain ⟨a, rfl⟩ := Int.eq_ofNat_of_zero_le c1.1
  rw [Int.toNat_natCast]
  have hpl := fun {h' bm} k => KfirstD_ok O (h := h') (bm := bm) k (i := a) (by omega)
  obtain ⟨w, hw⟩ : ∃ w, C.first a = w := ⟨_, rfl⟩
  rw [hw] at hpl ⊢
  cases c2 : C.possible with
  | false =>
   rw [ClampV.tr_no c2]
   try unfold zSp at *
   unfold ClampV.cells at *
   try unfold spC at *
   have e0 : Ext h h := Ext.refl _
   refine Runs.intro aFunc46 rfl rfl rfl rfl fun rest => ?_;apply gS;refine gR rfl ?_;refine GoR.box rfl rfl rfl rfl rfl rfl fun h2 x2 f2 => ?_;have := e0.1;have := f1.1;have := f0.1;replace f1 := f1.ext x2;replace f0 := f0.ext x2;replace e0 := e0.trans x2;replace y0 := y0.ext x2;have := f2.1;apply gE;apply gS;refine gR rfl ?_;refine gO rfl rfl (ld74 rfl f2 rfl) rfl ?_;refine gO rfl rfl (ld3 rfl f0 rfl) rfl ?_;refine GoR.call rfl rfl (aCF aFunc47 rfl) (hnd (A.ext e0)) ?_ np;rintro v3 h3 ⟨q, x3⟩;cases q;refine ⟨_, rfl, ?_⟩;replace f2 := f2.ext x3;replace f1 := f1.ext x3;replace f0 := f0.ext x3;replace e0 := e0.trans x3;replace y0 := y0.ext x3;apply gE;refine Go.drawnE plan46_0 ?_;refine gQ rfl rfl (ld74 rfl f2 rfl) rfl ?_;refine gQ rfl rfl (ld3 rfl f0 rfl) rfl ?_;refine GoE.callP rfl rfl (aCF aFunc48 rfl) (htn (A.ext e0) c2) rfl (by rintro _ _ ⟨q, _⟩; cases q) ?_;rintro chain h4 ⟨q, x4⟩
   have q := AEnd.pan.inj q
   subst q;replace f2 := f2.ext x4;replace f1 := f1.ext x4;replace f0 := f0.ext x4;replace e0 := e0.trans x4;replace y0 := y0.ext x4;exact FLeft.pan (⟨y0, f1, .inr rfl⟩)
  | true =>
   rw [ClampV.tr_yes c2]
   try unfold zSp at *
   unfold ClampV.cells at *
   try unfold spC at *
   have e0 : Ext h h := Ext.refl _
   refine Runs.intro aFunc46 rfl rfl rfl rfl fun rest => ?_;apply gS;refine gR rfl ?_;refine GoR.box rfl rfl rfl rfl rfl rfl fun h2 x2 f2 => ?_;have := e0.1;have := f1.1;have := f0.1;replace f1 := f1.ext x2;replace f0 := f0.ext x2;replace e0 := e0.trans x2;replace y0 := y0.ext x2;have := f2.1;apply gE;apply gS;refine gR rfl ?_;refine gO rfl rfl (ld74 rfl f2 rfl) rfl ?_;refine gO rfl rfl (ld3 rfl f0 rfl) rfl ?_;refine GoR.call rfl rfl (aCF aFunc47 rfl) (hnd (A.ext e0)) ?_ np;rintro v3 h3 ⟨q, x3⟩;cases q;refine ⟨_, rfl, ?_⟩;replace f2 := f2.ext x3;replace f1 := f1.ext x3;replace f0 := f0.ext x3;replace e0 := e0.trans x3;replace y0 := y0.ext x3;apply gE;refine Go.drawnE plan46_0 ?_;refine gQ rfl rfl (ld74 rfl f2 rfl) rfl ?_;refine gQ rfl rfl (ld3 rfl f0 rfl) rfl ?_;refine GoE.call rfl rfl (aCF aFunc48 rfl) (htr (A.ext e0) c2) (dK 1 2 (dD 1 0 rfl)) ?_ (by rintro _ _ ⟨bm, q, _, KK, e7⟩; cases q);rintro v4 h4 ⟨bm, q, x4, KK, e7⟩;cases q;replace f1 := f1.ext x4;replace f0 := f0.ext x4;replace y0 := y0.ext x4;refine ⟨(rck (h2 := h4) rfl (ld3 rfl f0 rfl) recheck_nil), _, rfl, ?_⟩;refine GoE.call rfl rfl (aCF aFunc49 rfl) (hpl (KK.ext e7)) (dD 7 2 rfl) ?_ np;rintro v5 h5 ⟨q, x5⟩;cases q;replace f1 := f1.ext x5;replace y0 := y0.ext x5;refine ⟨recheck_nil, _, rfl, ?_⟩;refine gQ rfl rfl (fd71_0 rfl rfl) rfl ?_;refine GoE.store rfl rfl rfl rfl (dD 31 4 rfl) rfl rfl f1 rfl sz24 rfl rfl rfl fun h6 u6 => ?_;replace f1 := u6.has f1;clear e7;clear e0;replace y0 := y0.upd u6 (.inl rfl);refine ⟨recheck_nil, ?_⟩;refine GoE.end rfl ?_;exact Go.endL (FLeft.ret (v := .tuple []) (aResult_of Tryz.func46 rfl rfl) ⟨y0, f1, .inl ⟨rfl, rfl⟩⟩)
 ·rw [ClampV.clamp_no c1]
  have hnd := fun {h'} A => needClamp_no (C := C) (gp := gp) (ge := ge) (h := h') A O c1
  try unfold zSp at *
  unfold ClampV.cells at *
  try unfold spC at *
  have e0 : Ext h h := Ext.refl _
  refine Runs.intro aFunc46 rfl rfl rfl rfl fun rest => ?_;apply gS;refine gR rfl ?_;refine GoR.box rfl rfl rfl rfl rfl rfl fun h2 x2 f2 => ?_;replace f0 := f0.ext x2;replace f1 := f1.ext x2;replace e0 := e0.trans x2;replace y0 := y0.ext x2;apply gE;apply gS;refine gR rfl ?_;refine gO rfl rfl (ld74 rfl f2 rfl) rfl ?_;refine gO rfl rfl (ld3 rfl f0 rfl) rfl ?_;refine GoR.callP rfl rfl (aCF aFunc47 rfl) (hnd (A.ext e0)) (by rintro _ _ ⟨q, _⟩; cases q) ?_;rintro chain h3 ⟨q, x3⟩
  have q := AEnd.pan.inj q
  subst q;replace f1 := f1.ext x3;replace y0 := y0.ext x3;exact FLeft.pan (⟨y0, f1, .inr rfl⟩)
theorem hasB0_ok {C : ClampV} (O : C.Ok) {gp ge : AVal} {a : Int} {b0 br : Nat} {h : AH} (A : YardAt h C gp ge) (f0 : Has h b0 (.cells .plain [.int .i64 a] 3)) (f1 : Has h br (.cells .plain [.int .i64 0, .int .i64 0] 24)) (h0r : b0 ≠ br) :
  Runs Tryz.prog 53 [.agg (C.cells gp ge), .ptr b0 0, .ptr br 0] h (fun en h'' => ExtF (fun x => x = br) h h'' ∧ Has h'' br (.cells .plain (spC (C.clampQ a (C.tr (C.left a.toNat) zSp) zSp).1) 24) ∧ (((C.clampQ a (C.tr (C.left a.toNat) zSp) zSp).2 = 0 ∧ en = .ret (.tuple [])) ∨ en = .pan (refusal (C.clampQ a (C.tr (C.left a.toNat) zSp) zSp).2))) := by
 have hnp := O.np
 have y0 : ExtF (fun x => x = br) h h := ExtF.of (Ext.refl _)
 have hsm := A.same
 have l0 := f0.1
 have l1 := f1.1
 have htr := fun {h'} A c => truths_yes O (gp := gp) (ge := ge) (h := h') A c
 have htn := fun {h'} A c => truths_no O (gp := gp) (ge := ge) (h := h') A c
 by_cases c1 : 0 ≤ a ∧ a < (C.ps.length : Int)
 ·rw [ClampV.clamp_yes c1]
  have hnd := fun {h'} A => needClamp_yes (C := C) (gp := gp) (ge := ge) (h := h') A O c1
  obtain ⟨a, rfl⟩ := Int.eq_ofNat_of_zero_le c1.1
  rw [Int.toNat_natCast]
  have hpl := fun {h' bm} k => Kleft_ok O (h := h') (bm := bm) k (i := a) (by omega)
  obtain ⟨w, hw⟩ : ∃ w, C.left a = w := ⟨_, rfl⟩
  rw [hw] at hpl ⊢
  cases c2 : C.possible with
  | false =>
   rw [ClampV.tr_no c2]
   try unfold zSp at *
   unfold ClampV.cells at *
   try unfold spC at *
   have e0 : Ext h h := Ext.refl _
   refine Runs.intro aFunc53 rfl rfl rfl rfl fun rest => ?_;apply gS;refine gR rfl ?_;refine GoR.box rfl rfl rfl rfl rfl rfl fun h2 x2 f2 => ?_;have := e0.1;have := f1.1;have := f0.1;replace f1 := f1.ext x2;replace f0 := f0.ext x2;replace e0 := e0.trans x2;replace y0 := y0.ext x2;have := f2.1;apply gE;apply gS;refine gR rfl ?_;refine gO rfl rfl (ld74 rfl f2 rfl) rfl ?_;refine gO rfl rfl (ld3 rfl f0 rfl) rfl ?_;refine GoR.call rfl rfl (aCF aFunc47 rfl) (hnd (A.ext e0)) ?_ np;rintro v3 h3 ⟨q, x3⟩;cases q;refine ⟨_, rfl, ?_⟩;replace f2 := f2.ext x3;replace f1 := f1.ext x3;replace f0 := f0.ext x3;replace e0 := e0.trans x3;replace y0 := y0.ext x3;apply gE;refine Go.drawnE plan53_0 ?_;refine gQ rfl rfl (ld74 rfl f2 rfl) rfl ?_;refine gQ rfl rfl (ld3 rfl f0 rfl) rfl ?_;refine GoE.callP rfl rfl (aCF aFunc48 rfl) (htn (A.ext e0) c2) rfl (by rintro _ _ ⟨q, _⟩; cases q) ?_;rintro chain h4 ⟨q, x4⟩
   have q := AEnd.pan.inj q
   subst q;replace f2 := f2.ext x4;replace f1 := f1.ext x4;replace f0 := f0.ext x4;replace e0 := e0.trans x4;replace y0 := y0.ext x4;exact FLeft.pan (⟨y0, f1, .inr rfl⟩)
  | true =>
   rw [ClampV.tr_yes c2]
   try unfold zSp at *
   unfold ClampV.cells at *
   try unfold spC at *
   have e0 : Ext h h := Ext.refl _
   refine Runs.intro aFunc53 rfl rfl rfl rfl fun rest => ?_;apply gS;refine gR rfl ?_;refine GoR.box rfl rfl rfl rfl rfl rfl fun h2 x2 f2 => ?_;have := e0.1;have := f1.1;have := f0.1;replace f1 := f1.ext x2;replace f0 := f0.ext x2;replace e0 := e0.trans x2;replace y0 := y0.ext x2;have := f2.1;apply gE;apply gS;refine gR rfl ?_;refine gO rfl rfl (ld74 rfl f2 rfl) rfl ?_;refine gO rfl rfl (ld3 rfl f0 rfl) rfl ?_;refine GoR.call rfl rfl (aCF aFunc47 rfl) (hnd (A.ext e0)) ?_ np;rintro v3 h3 ⟨q, x3⟩;cases q;refine ⟨_, rfl, ?_⟩;replace f2 := f2.ext x3;replace f1 := f1.ext x3;replace f0 := f0.ext x3;replace e0 := e0.trans x3;replace y0 := y0.ext x3;apply gE;refine Go.drawnE plan53_0 ?_;refine gQ rfl rfl (ld74 rfl f2 rfl) rfl ?_;refine gQ rfl rfl (ld3 rfl f0 rfl) rfl ?_;refine GoE.call rfl rfl (aCF aFunc48 rfl) (htr (A.ext e0) c2) (dK 1 2 (dD 1 0 rfl)) ?_ (by rintro _ _ ⟨bm, q, _, KK, e7⟩; cases q);rintro v4 h4 ⟨bm, q, x4, KK, e7⟩;cases q;replace f1 := f1.ext x4;replace f0 := f0.ext x4;replace y0 := y0.ext x4;refine ⟨(rck (h2 := h4) rfl (ld3 rfl f0 rfl) recheck_nil), _, rfl, ?_⟩;refine GoE.call rfl rfl (aCF aFunc54 rfl) (hpl (KK.ext e7)) (dD 7 2 rfl) ?_ np;rintro v5 h5 ⟨q, x5⟩;cases q;replace f1 := f1.ext x5;replace y0 := y0.ext x5;refine ⟨recheck_nil, _, rfl, ?_⟩;refine gQ rfl rfl (fd71_0 rfl rfl) rfl ?_;refine GoE.store rfl rfl rfl rfl (dD 31 4 rfl) rfl rfl f1 rfl sz24 rfl rfl rfl fun h6 u6 => ?_;replace f1 := u6.has f1;clear e7;clear e0;replace y0 := y0.upd u6 (.inl rfl);refine ⟨recheck_nil, ?_⟩;refine GoE.end rfl ?_;exact Go.endL (FLeft.ret (v := .tuple []) (aResult_of Tryz.func53 rfl rfl) ⟨y0, f1, .inl ⟨rfl, rfl⟩⟩)
 ·rw [ClampV.clamp_no c1]
  have hnd := fun {h'} A => needClamp_no (C := C) (gp := gp) (ge := ge) (h := h') A O c1
  try unfold zSp at *
  unfold ClampV.cells at *
  try unfold spC at *
  have e0 : Ext h h := Ext.refl _
  refine Runs.intro aFunc53 rfl rfl rfl rfl fun rest => ?_;apply gS;refine gR rfl ?_;refine GoR.box rfl rfl rfl rfl rfl rfl fun h2 x2 f2 => ?_;replace f0 := f0.ext x2;replace f1 := f1.ext x2;replace e0 := e0.trans x2;replace y0 := y0.ext x2;apply gE;apply gS;refine gR rfl ?_;refine gO rfl rfl (ld74 rfl f2 rfl) rfl ?_;refine gO rfl rfl (ld3 rfl f0 rfl) rfl ?_;refine GoR.callP rfl rfl (aCF aFunc47 rfl) (hnd (A.ext e0)) (by rintro _ _ ⟨q, _⟩; cases q) ?_;rintro chain h3 ⟨q, x3⟩
  have q := AEnd.pan.inj q
  subst q;replace f1 := f1.ext x3;replace y0 := y0.ext x3;exact FLeft.pan (⟨y0, f1, .inr rfl⟩)
theorem soldB0_ok {C : ClampV} (O : C.Ok) {gp ge : AVal} {a : Int} {b0 br : Nat} {h : AH} (A : YardAt h C gp ge) (f0 : Has h b0 (.cells .plain [.int .i64 a] 3)) (f1 : Has h br (.cells .plain [.int .i64 0, .int .i64 0] 24)) (h0r : b0 ≠ br) :
  Runs Tryz.prog 56 [.agg (C.cells gp ge), .ptr b0 0, .ptr br 0] h (fun en h'' => ExtF (fun x => x = br) h h'' ∧ Has h'' br (.cells .plain (spC (C.clampQ a (C.tr (C.sold a.toNat) zSp) zSp).1) 24) ∧ (((C.clampQ a (C.tr (C.sold a.toNat) zSp) zSp).2 = 0 ∧ en = .ret (.tuple [])) ∨ en = .pan (refusal (C.clampQ a (C.tr (C.sold a.toNat) zSp) zSp).2))) := by
 have hnp := O.np
 have y0 : ExtF (fun x => x = br) h h := ExtF.of (Ext.refl _)
 have hsm := A.same
 have l0 := f0.1
 have l1 := f1.1
 have htr := fun {h'} A c => truths_yes O (gp := gp) (ge := ge) (h := h') A c
 have htn := fun {h'} A c => truths_no O (gp := gp) (ge := ge) (h := h') A c
 by_cases c1 : 0 ≤ a ∧ a < (C.ps.length : Int)
 ·rw [ClampV.clamp_yes c1]
  have hnd := fun {h'} A => needClamp_yes (C := C) (gp := gp) (ge := ge) (h := h') A O c1
  obtain ⟨a, rfl⟩ := Int.eq_ofNat_of_zero_le c1.1
  rw [Int.toNat_natCast]
  have hpl := fun {h' bm} k => Ksold_ok O (h := h') (bm := bm) k (i := a) (by omega)
  obtain ⟨w, hw⟩ : ∃ w, C.sold a = w := ⟨_, rfl⟩
  rw [hw] at hpl ⊢
  cases c2 : C.possible with
  | false =>
   rw [ClampV.tr_no c2]
   try unfold zSp at *
   unfold ClampV.cells at *
   try unfold spC at *
   have e0 : Ext h h := Ext.refl _
   refine Runs.intro aFunc56 rfl rfl rfl rfl fun rest => ?_;apply gS;refine gR rfl ?_;refine GoR.box rfl rfl rfl rfl rfl rfl fun h2 x2 f2 => ?_;have := e0.1;have := f1.1;have := f0.1;replace f1 := f1.ext x2;replace f0 := f0.ext x2;replace e0 := e0.trans x2;replace y0 := y0.ext x2;have := f2.1;apply gE;apply gS;refine gR rfl ?_;refine gO rfl rfl (ld74 rfl f2 rfl) rfl ?_;refine gO rfl rfl (ld3 rfl f0 rfl) rfl ?_;refine GoR.call rfl rfl (aCF aFunc47 rfl) (hnd (A.ext e0)) ?_ np;rintro v3 h3 ⟨q, x3⟩;cases q;refine ⟨_, rfl, ?_⟩;replace f2 := f2.ext x3;replace f1 := f1.ext x3;replace f0 := f0.ext x3;replace e0 := e0.trans x3;replace y0 := y0.ext x3;apply gE;refine Go.drawnE plan56_0 ?_;refine gQ rfl rfl (ld74 rfl f2 rfl) rfl ?_;refine gQ rfl rfl (ld3 rfl f0 rfl) rfl ?_;refine GoE.callP rfl rfl (aCF aFunc48 rfl) (htn (A.ext e0) c2) rfl (by rintro _ _ ⟨q, _⟩; cases q) ?_;rintro chain h4 ⟨q, x4⟩
   have q := AEnd.pan.inj q
   subst q;replace f2 := f2.ext x4;replace f1 := f1.ext x4;replace f0 := f0.ext x4;replace e0 := e0.trans x4;replace y0 := y0.ext x4;exact FLeft.pan (⟨y0, f1, .inr rfl⟩)
  | true =>
   rw [ClampV.tr_yes c2]
   try unfold zSp at *
   unfold ClampV.cells at *
   try unfold spC at *
   have e0 : Ext h h := Ext.refl _
   refine Runs.intro aFunc56 rfl rfl rfl rfl fun rest => ?_;apply gS;refine gR rfl ?_;refine GoR.box rfl rfl rfl rfl rfl rfl fun h2 x2 f2 => ?_;have := e0.1;have := f1.1;have := f0.1;replace f1 := f1.ext x2;replace f0 := f0.ext x2;replace e0 := e0.trans x2;replace y0 := y0.ext x2;have := f2.1;apply gE;apply gS;refine gR rfl ?_;refine gO rfl rfl (ld74 rfl f2 rfl) rfl ?_;refine gO rfl rfl (ld3 rfl f0 rfl) rfl ?_;refine GoR.call rfl rfl (aCF aFunc47 rfl) (hnd (A.ext e0)) ?_ np;rintro v3 h3 ⟨q, x3⟩;cases q;refine ⟨_, rfl, ?_⟩;replace f2 := f2.ext x3;replace f1 := f1.ext x3;replace f0 := f0.ext x3;replace e0 := e0.trans x3;replace y0 := y0.ext x3;apply gE;refine Go.drawnE plan56_0 ?_;refine gQ rfl rfl (ld74 rfl f2 rfl) rfl ?_;refine gQ rfl rfl (ld3 rfl f0 rfl) rfl ?_;refine GoE.call rfl rfl (aCF aFunc48 rfl) (htr (A.ext e0) c2) (dK 1 2 (dD 1 0 rfl)) ?_ (by rintro _ _ ⟨bm, q, _, KK, e7⟩; cases q);rintro v4 h4 ⟨bm, q, x4, KK, e7⟩;cases q;replace f1 := f1.ext x4;replace f0 := f0.ext x4;replace y0 := y0.ext x4;refine ⟨(rck (h2 := h4) rfl (ld3 rfl f0 rfl) recheck_nil), _, rfl, ?_⟩;refine GoE.call rfl rfl (aCF aFunc57 rfl) (hpl (KK.ext e7)) (dD 7 2 rfl) ?_ np;rintro v5 h5 ⟨q, x5⟩;cases q;replace f1 := f1.ext x5;replace y0 := y0.ext x5;refine ⟨recheck_nil, _, rfl, ?_⟩;refine gQ rfl rfl (fd71_0 rfl rfl) rfl ?_;refine GoE.store rfl rfl rfl rfl (dD 31 4 rfl) rfl rfl f1 rfl sz24 rfl rfl rfl fun h6 u6 => ?_;replace f1 := u6.has f1;clear e7;clear e0;replace y0 := y0.upd u6 (.inl rfl);refine ⟨recheck_nil, ?_⟩;refine GoE.end rfl ?_;exact Go.endL (FLeft.ret (v := .tuple []) (aResult_of Tryz.func56 rfl rfl) ⟨y0, f1, .inl ⟨rfl, rfl⟩⟩)
 ·rw [ClampV.clamp_no c1]
  have hnd := fun {h'} A => needClamp_no (C := C) (gp := gp) (ge := ge) (h := h') A O c1
  try unfold zSp at *
  unfold ClampV.cells at *
  try unfold spC at *
  have e0 : Ext h h := Ext.refl _
  refine Runs.intro aFunc56 rfl rfl rfl rfl fun rest => ?_;apply gS;refine gR rfl ?_;refine GoR.box rfl rfl rfl rfl rfl rfl fun h2 x2 f2 => ?_;replace f0 := f0.ext x2;replace f1 := f1.ext x2;replace e0 := e0.trans x2;replace y0 := y0.ext x2;apply gE;apply gS;refine gR rfl ?_;refine gO rfl rfl (ld74 rfl f2 rfl) rfl ?_;refine gO rfl rfl (ld3 rfl f0 rfl) rfl ?_;refine GoR.callP rfl rfl (aCF aFunc47 rfl) (hnd (A.ext e0)) (by rintro _ _ ⟨q, _⟩; cases q) ?_;rintro chain h3 ⟨q, x3⟩
  have q := AEnd.pan.inj q
  subst q;replace f1 := f1.ext x3;replace y0 := y0.ext x3;exact FLeft.pan (⟨y0, f1, .inr rfl⟩)
theorem allB0_ok {C : ClampV} (O : C.Ok) {gp ge : AVal} {br : Nat} {h : AH} (A : YardAt h C gp ge) (f0 : Has h br (.cells .plain [.int .i64 0, .int .i64 0] 24)) :
  Runs Tryz.prog 58 [.agg (C.cells gp ge), .ptr br 0] h (fun en h'' => ExtF (fun x => x = br) h h'' ∧ Has h'' br (.cells .plain (spC (C.tr (C.total C.all) zSp).1) 24) ∧ (((C.tr (C.total C.all) zSp).2 = 0 ∧ en = .ret (.tuple [])) ∨ en = .pan (refusal (C.tr (C.total C.all) zSp).2))) := by
 have hnp := O.np
 have y0 : ExtF (fun x => x = br) h h := ExtF.of (Ext.refl _)
 have hsm := A.same
 have l0 := f0.1
 have htr := fun {h'} A c => truths_yes O (gp := gp) (ge := ge) (h := h') A c
 have htn := fun {h'} A c => truths_no O (gp := gp) (ge := ge) (h := h') A c
 have hcl := fun {h'} A => clamps_ok O (gp := gp) (ge := ge) (h := h') A
 have hto := fun {h' bm} k => Ktotal_ok O (h := h') (bm := bm) k (s := C.all)
 obtain ⟨w, hw⟩ : ∃ w, C.total C.all = w := ⟨_, rfl⟩
 rw [hw] at hto ⊢
 cases c2 : C.possible with
 | false =>
   rw [ClampV.tr_no c2]
   try unfold zSp at *
   unfold ClampV.cells at *
   try unfold spC at *
   have e0 : Ext h h := Ext.refl _
   refine Runs.intro aFunc58 rfl rfl rfl rfl fun rest => ?_;apply gS;refine gR rfl ?_;refine GoR.box rfl rfl rfl rfl rfl rfl fun h1 x1 f1 => ?_;have := e0.1;have := f0.1;replace f0 := f0.ext x1;replace e0 := e0.trans x1;replace y0 := y0.ext x1;have := f1.1;apply gE;refine Go.drawnE plan58_0 ?_;iterate 2 refine gQ rfl rfl (ld74 rfl f1 rfl) rfl ?_
   refine GoE.callP rfl rfl (aCF aFunc48 rfl) (htn (A.ext e0) c2) rfl (by rintro _ _ ⟨q, _⟩; cases q) ?_;rintro chain h2 ⟨q, x2⟩
   have q := AEnd.pan.inj q
   subst q;replace f1 := f1.ext x2;replace f0 := f0.ext x2;replace e0 := e0.trans x2;replace y0 := y0.ext x2;exact FLeft.pan (⟨y0, f0, .inr rfl⟩)
 | true =>
   rw [ClampV.tr_yes c2]
   try unfold zSp at *
   unfold ClampV.cells at *
   try unfold spC at *
   have e0 : Ext h h := Ext.refl _
   refine Runs.intro aFunc58 rfl rfl rfl rfl fun rest => ?_;apply gS;refine gR rfl ?_;refine GoR.box rfl rfl rfl rfl rfl rfl fun h1 x1 f1 => ?_;have := e0.1;have := f0.1;replace f0 := f0.ext x1;replace e0 := e0.trans x1;replace y0 := y0.ext x1;have := f1.1;apply gE;refine Go.drawnE plan58_0 ?_;iterate 2 refine gQ rfl rfl (ld74 rfl f1 rfl) rfl ?_
   refine GoE.call rfl rfl (aCF aFunc48 rfl) (htr (A.ext e0) c2) (dK 1 2 (dD 1 0 rfl)) ?_ (by rintro _ _ ⟨bm, q, _, KK, e7⟩; cases q);rintro v2 h2 ⟨bm, q, x2, KK, e7⟩;cases q;replace f1 := f1.ext x2;replace f0 := f0.ext x2;replace e0 := e0.trans x2;replace y0 := y0.ext x2;refine ⟨(rck (h2 := h2) rfl (ld74 rfl f1 rfl) recheck_nil), _, rfl, ?_⟩;refine GoE.call rfl rfl (aCF aFunc60 rfl) (hcl (A.ext e0)) (dD 7 2 rfl) ?_ np;rintro v3 h3 ⟨q, x3⟩;cases q;replace f0 := f0.ext x3;replace e7 := e7.trans x3;replace y0 := y0.ext x3;refine ⟨recheck_nil, _, rfl, ?_⟩;refine GoE.call rfl rfl (aCF aFunc59 rfl) (hto (KK.ext e7)) rfl ?_ np;rintro v4 h4 ⟨q, x4⟩;cases q;replace f0 := f0.ext x4;replace y0 := y0.ext x4;refine ⟨recheck_nil, _, rfl, ?_⟩;refine gQ rfl rfl (fd71_0 rfl rfl) rfl ?_;refine GoE.store rfl rfl rfl rfl (dD 63 5 rfl) rfl rfl f0 rfl sz24 rfl rfl rfl fun h5 u5 => ?_;replace f0 := u5.has f0;clear e7;clear e0;replace y0 := y0.upd u5 (.inl rfl);refine ⟨recheck_nil, ?_⟩;refine GoE.end rfl ?_;exact Go.endL (FLeft.ret (v := .tuple []) (aResult_of Tryz.func58 rfl rfl) ⟨y0, f0, .inl ⟨rfl, rfl⟩⟩)
theorem enoughB0_ok {C : ClampV} (O : C.Ok) {gp ge : AVal} {a m : Int} {b0 b1 br : Nat} {h : AH} (A : YardAt h C gp ge) (f0 : Has h b0 (.cells .plain [.int .i64 a] 3)) (f1 : Has h b1 (.cells .plain [.int .i64 m] 3)) (f2 : Has h br (.cells .plain [.int .i64 0] 3)) (h0r : b0 ≠ br) (h1r : b1 ≠ br) :
  Runs Tryz.prog 63 [.agg (C.cells gp ge), .ptr b0 0, .ptr b1 0, .ptr br 0] h (fun en h'' => ExtF (fun x => x = br) h h'' ∧ Has h'' br (.cells .plain [.int .i64 (C.clampQ a (sodsQ m (C.tr (reachV (C.left a.toNat) m) 0) 0) 0).1] 3) ∧ (((C.clampQ a (sodsQ m (C.tr (reachV (C.left a.toNat) m) 0) 0) 0).2 = 0 ∧ en = .ret (.tuple [])) ∨ en = .pan (refusal (C.clampQ a (sodsQ m (C.tr (reachV (C.left a.toNat) m) 0) 0) 0).2))) := by
 have hnp := O.np
 have y0 : ExtF (fun x => x = br) h h := ExtF.of (Ext.refl _)
 have hsm := A.same
 have l0 := f0.1
 have l1 := f1.1
 have l2 := f2.1
 have htr := fun {h'} A c => truths_yes O (gp := gp) (ge := ge) (h := h') A c
 have htn := fun {h'} A c => truths_no O (gp := gp) (ge := ge) (h := h') A c
 by_cases c1 : 0 ≤ a ∧ a < (C.ps.length : Int)
 ·rw [ClampV.clamp_yes c1]
  have hnd := fun {h'} A => needClamp_yes (C := C) (gp := gp) (ge := ge) (h := h') A O c1
  by_cases c3 : 0 ≤ m ∧ m ≤ 20000
  ·rw [sods_yes c3]
   obtain ⟨a, rfl⟩ := Int.eq_ofNat_of_zero_le c1.1
   rw [Int.toNat_natCast]
   have hpl := fun {h' bm} k => Kleft_ok O (h := h') (bm := bm) k (i := a) (by omega)
   have hre := fun h' => reaches_ok (s := C.left a) (n := m) (h := h')
   obtain ⟨w, hw⟩ : ∃ w, C.left a = w := ⟨_, rfl⟩
   rw [hw] at hpl hre ⊢
   cases c2 : C.possible with
   | false =>
    rw [ClampV.tr_no c2]
    try unfold zSp at *
    unfold ClampV.cells at *
    try unfold spC at *
    have e0 : Ext h h := Ext.refl _
    refine Runs.intro aFunc63 rfl rfl rfl rfl fun rest => ?_;apply gS;refine gR rfl ?_;refine GoR.box rfl rfl rfl rfl rfl rfl fun h3 x3 f3 => ?_;have := e0.1;have := f1.1;have := f2.1;have := f0.1;replace f1 := f1.ext x3;replace f2 := f2.ext x3;replace f0 := f0.ext x3;replace e0 := e0.trans x3;replace y0 := y0.ext x3;have := f3.1;apply gE;apply gS;refine gR rfl ?_;refine gO rfl rfl (ld74 rfl f3 rfl) rfl ?_;refine gO rfl rfl (ld3 rfl f0 rfl) rfl ?_;refine GoR.call rfl rfl (aCF aFunc47 rfl) (hnd (A.ext e0)) ?_ np;rintro v4 h4 ⟨q, x4⟩;cases q;refine ⟨_, rfl, ?_⟩;replace f3 := f3.ext x4;replace f1 := f1.ext x4;replace f2 := f2.ext x4;replace f0 := f0.ext x4;replace e0 := e0.trans x4;replace y0 := y0.ext x4;apply gE;apply gS;refine gR rfl ?_;refine gO rfl rfl (ld3 rfl f1 rfl) rfl ?_;refine GoR.call rfl rfl (aCF aFunc64 rfl) (needSods_yes c3) ?_ np;rintro v5 h5 ⟨q, x5⟩;cases q;refine ⟨_, rfl, ?_⟩;replace f3 := f3.ext x5;replace f1 := f1.ext x5;replace f2 := f2.ext x5;replace f0 := f0.ext x5;replace e0 := e0.trans x5;replace y0 := y0.ext x5;apply gE;refine Go.drawnE plan63_0 ?_;refine gQ rfl rfl (ld74 rfl f3 rfl) rfl ?_;refine gQ rfl rfl (ld3 rfl f0 rfl) rfl ?_;refine gQ rfl rfl (ld3 rfl f1 rfl) rfl ?_;refine GoE.callP rfl rfl (aCF aFunc48 rfl) (htn (A.ext e0) c2) rfl (by rintro _ _ ⟨q, _⟩; cases q) ?_;rintro chain h6 ⟨q, x6⟩
    have q := AEnd.pan.inj q
    subst q;replace f3 := f3.ext x6;replace f1 := f1.ext x6;replace f2 := f2.ext x6;replace f0 := f0.ext x6;replace e0 := e0.trans x6;replace y0 := y0.ext x6;exact FLeft.pan (⟨y0, f2, .inr rfl⟩)
   | true =>
    rw [ClampV.tr_yes c2]
    try unfold zSp at *
    unfold ClampV.cells at *
    try unfold spC at *
    have e0 : Ext h h := Ext.refl _
    refine Runs.intro aFunc63 rfl rfl rfl rfl fun rest => ?_;apply gS;refine gR rfl ?_;refine GoR.box rfl rfl rfl rfl rfl rfl fun h3 x3 f3 => ?_;have := e0.1;have := f1.1;have := f2.1;have := f0.1;replace f1 := f1.ext x3;replace f2 := f2.ext x3;replace f0 := f0.ext x3;replace e0 := e0.trans x3;replace y0 := y0.ext x3;have := f3.1;apply gE;apply gS;refine gR rfl ?_;refine gO rfl rfl (ld74 rfl f3 rfl) rfl ?_;refine gO rfl rfl (ld3 rfl f0 rfl) rfl ?_;refine GoR.call rfl rfl (aCF aFunc47 rfl) (hnd (A.ext e0)) ?_ np;rintro v4 h4 ⟨q, x4⟩;cases q;refine ⟨_, rfl, ?_⟩;replace f3 := f3.ext x4;replace f1 := f1.ext x4;replace f2 := f2.ext x4;replace f0 := f0.ext x4;replace e0 := e0.trans x4;replace y0 := y0.ext x4;apply gE;apply gS;refine gR rfl ?_;refine gO rfl rfl (ld3 rfl f1 rfl) rfl ?_;refine GoR.call rfl rfl (aCF aFunc64 rfl) (needSods_yes c3) ?_ np;rintro v5 h5 ⟨q, x5⟩;cases q;refine ⟨_, rfl, ?_⟩;replace f3 := f3.ext x5;replace f1 := f1.ext x5;replace f2 := f2.ext x5;replace f0 := f0.ext x5;replace e0 := e0.trans x5;replace y0 := y0.ext x5;apply gE;refine Go.drawnE plan63_0 ?_;refine gQ rfl rfl (ld74 rfl f3 rfl) rfl ?_;refine gQ rfl rfl (ld3 rfl f0 rfl) rfl ?_;refine gQ rfl rfl (ld3 rfl f1 rfl) rfl ?_;refine GoE.call rfl rfl (aCF aFunc48 rfl) (htr (A.ext e0) c2) (dK 1 4 (dK 1 2 (dD 1 0 rfl))) ?_ (by rintro _ _ ⟨bm, q, _, KK, e7⟩; cases q);rintro v6 h6 ⟨bm, q, x6, KK, e7⟩;cases q;have := e0.1;have := f3.1;have := f1.1;have := f2.1;have := f0.1;replace f1 := f1.ext x6;replace f2 := f2.ext x6;replace f0 := f0.ext x6;replace y0 := y0.ext x6;refine ⟨(rck (h2 := h6) rfl (ld3 rfl f1 rfl) (rck (h2 := h6) rfl (ld3 rfl f0 rfl) recheck_nil)), _, rfl, ?_⟩;refine GoE.call rfl rfl (aCF aFunc54 rfl) (hpl (KK.ext e7)) (dK 7 4 (dD 7 2 rfl)) ?_ np;rintro v7 h7 ⟨q, x7⟩;cases q;replace f1 := f1.ext x7;replace f2 := f2.ext x7;replace y0 := y0.ext x7;refine ⟨(rck (h2 := h7) rfl (ld3 rfl f1 rfl) recheck_nil), _, rfl, ?_⟩;refine GoE.call rfl rfl (aCF aFunc65 rfl) (hre _) (dD 31 4 rfl) ?_ np;rintro v8 h8 ⟨q, x8⟩;cases q;replace f2 := f2.ext x8;replace y0 := y0.ext x8;refine ⟨recheck_nil, _, rfl, ?_⟩;refine GoE.store rfl rfl rfl rfl rfl rfl rfl f2 rfl sz3 rfl rfl rfl fun h9 u9 => ?_;replace f2 := u9.has f2;clear e7;clear e0;replace y0 := y0.upd u9 (.inl rfl);refine ⟨recheck_nil, ?_⟩;refine GoE.end rfl ?_;exact Go.endL (FLeft.ret (v := .tuple []) (aResult_of Tryz.func63 rfl rfl) ⟨y0, f2, .inl ⟨rfl, rfl⟩⟩)
  ·rw [sods_no c3]
   try unfold zSp at *
   unfold ClampV.cells at *
   try unfold spC at *
   have e0 : Ext h h := Ext.refl _
   refine Runs.intro aFunc63 rfl rfl rfl rfl fun rest => ?_;apply gS;refine gR rfl ?_;refine GoR.box rfl rfl rfl rfl rfl rfl fun h3 x3 f3 => ?_;replace f0 := f0.ext x3;replace f1 := f1.ext x3;replace f2 := f2.ext x3;replace e0 := e0.trans x3;replace y0 := y0.ext x3;apply gE;apply gS;refine gR rfl ?_;refine gO rfl rfl (ld74 rfl f3 rfl) rfl ?_;refine gO rfl rfl (ld3 rfl f0 rfl) rfl ?_;refine GoR.call rfl rfl (aCF aFunc47 rfl) (hnd (A.ext e0)) ?_ np;rintro v4 h4 ⟨q, x4⟩;cases q;refine ⟨_, rfl, ?_⟩;replace f1 := f1.ext x4;replace f2 := f2.ext x4;replace y0 := y0.ext x4;apply gE;apply gS;refine gR rfl ?_;refine gO rfl rfl (ld3 rfl f1 rfl) rfl ?_;refine GoR.callP rfl rfl (aCF aFunc64 rfl) (needSods_no c3) (by rintro _ _ ⟨q, _⟩; cases q) ?_;rintro chain h5 ⟨q, x5⟩
   have q := AEnd.pan.inj q
   subst q;replace f2 := f2.ext x5;replace y0 := y0.ext x5;exact FLeft.pan (⟨y0, f2, .inr rfl⟩)
 ·rw [ClampV.clamp_no c1]
  have hnd := fun {h'} A => needClamp_no (C := C) (gp := gp) (ge := ge) (h := h') A O c1
  try unfold zSp at *
  unfold ClampV.cells at *
  try unfold spC at *
  have e0 : Ext h h := Ext.refl _
  refine Runs.intro aFunc63 rfl rfl rfl rfl fun rest => ?_;apply gS;refine gR rfl ?_;refine GoR.box rfl rfl rfl rfl rfl rfl fun h3 x3 f3 => ?_;replace f0 := f0.ext x3;replace f2 := f2.ext x3;replace e0 := e0.trans x3;replace y0 := y0.ext x3;apply gE;apply gS;refine gR rfl ?_;refine gO rfl rfl (ld74 rfl f3 rfl) rfl ?_;refine gO rfl rfl (ld3 rfl f0 rfl) rfl ?_;refine GoR.callP rfl rfl (aCF aFunc47 rfl) (hnd (A.ext e0)) (by rintro _ _ ⟨q, _⟩; cases q) ?_;rintro chain h4 ⟨q, x4⟩
  have q := AEnd.pan.inj q
  subst q;replace f2 := f2.ext x4;replace y0 := y0.ext x4;exact FLeft.pan (⟨y0, f2, .inr rfl⟩)
theorem emptyB0_ok {C : ClampV} (O : C.Ok) {gp ge : AVal} {br bs : Nat} {h : AH} (A : YardAt h C gp ge) (f0 : Has h br (.cells .plain [.int .i64 0] 3)) (f1 : Has h bs (.cells .plain [.int .i64 0] 3)) (hrs : br ≠ bs) :
  Runs Tryz.prog 68 [.agg (C.cells gp ge), .ptr br 0, .ptr bs 0] h (fun en h'' => ExtF (fun x => x = br ∨ x = bs) h h'' ∧ (Has h'' br (.cells .plain [.int .i64 (C.tr (((C.gone : Nat) : Int), ((C.low : Nat) : Int)) zSp).1.1] 3) ∧ Has h'' bs (.cells .plain [.int .i64 (C.tr (((C.gone : Nat) : Int), ((C.low : Nat) : Int)) zSp).1.2] 3)) ∧ (((C.tr (((C.gone : Nat) : Int), ((C.low : Nat) : Int)) zSp).2 = 0 ∧ en = .ret (.tuple [])) ∨ en = .pan (refusal (C.tr (((C.gone : Nat) : Int), ((C.low : Nat) : Int)) zSp).2))) := by
 have hnp := O.np
 have y0 : ExtF (fun x => x = br ∨ x = bs) h h := ExtF.of (Ext.refl _)
 have hsm := A.same
 have l0 := f0.1
 have l1 := f1.1
 have htr := fun {h'} A c => truths_yes O (gp := gp) (ge := ge) (h := h') A c
 have htn := fun {h'} A c => truths_no O (gp := gp) (ge := ge) (h := h') A c
 have hem := fun {h'} A => empty69_ok O (gp := gp) (ge := ge) (h := h') A
 cases c2 : C.possible with
 | false =>
   rw [c2, if_neg (by decide)] at hem;rw [ClampV.tr_no c2]
   try unfold zSp at *
   unfold ClampV.cells at *
   try unfold spC at *
   have e0 : Ext h h := Ext.refl _
   refine Runs.intro aFunc68 rfl rfl rfl rfl fun rest => ?_;apply gS;refine gR rfl ?_;refine GoR.box rfl rfl rfl rfl rfl rfl fun h2 x2 f2 => ?_;have := e0.1;have := f0.1;have := f1.1;replace f0 := f0.ext x2;replace f1 := f1.ext x2;replace e0 := e0.trans x2;replace y0 := y0.ext x2;have := f2.1;apply gE;refine gR rfl ?_;refine gO rfl rfl (ld74 rfl f2 rfl) rfl ?_;refine GoR.callP rfl rfl (aCF aFunc69 rfl) (hem (A.ext e0)) (by rintro _ _ ⟨q, _⟩; cases q) ?_;rintro chain h3 ⟨q, x3⟩
   have q := AEnd.pan.inj q
   subst q;replace f2 := f2.ext x3;replace f0 := f0.ext x3;replace f1 := f1.ext x3;replace e0 := e0.trans x3;replace y0 := y0.ext x3;exact FLeft.pan (⟨y0, ⟨f0, f1⟩, .inr rfl⟩)
 | true =>
   rw [c2, if_pos rfl] at hem;rw [ClampV.tr_yes c2]
   try unfold zSp at *
   unfold ClampV.cells at *
   try unfold spC at *
   have e0 : Ext h h := Ext.refl _
   refine Runs.intro aFunc68 rfl rfl rfl rfl fun rest => ?_;apply gS;refine gR rfl ?_;refine GoR.box rfl rfl rfl rfl rfl rfl fun h2 x2 f2 => ?_;have := e0.1;have := f0.1;have := f1.1;replace f0 := f0.ext x2;replace f1 := f1.ext x2;replace e0 := e0.trans x2;replace y0 := y0.ext x2;have := f2.1;apply gE;refine gR rfl ?_;refine gO rfl rfl (ld74 rfl f2 rfl) rfl ?_;refine GoR.call rfl rfl (aCF aFunc69 rfl) (hem (A.ext e0)) ?_ np;rintro v3 h3 ⟨q, x3⟩;cases q;refine ⟨_, rfl, ?_⟩;replace f0 := f0.ext x3;replace f1 := f1.ext x3;replace y0 := y0.ext x3;iterate 3 refine gP ?_
   refine GoR.store rfl rfl rfl rfl rfl rfl f0 rfl sz3 rfl rfl rfl fun h4 u4 => ?_;replace f0 := u4.has f0;replace f1 := f1.upd u4 (by omega);clear e0;replace y0 := y0.upd u4 (by omega);refine GoR.store rfl rfl rfl rfl rfl rfl f1 rfl sz3 rfl rfl rfl fun h5 u5 => ?_;replace f0 := f0.upd u5 (by omega);replace f1 := u5.has f1;replace y0 := y0.upd u5 (by omega);apply gE;exact Go.endL (FLeft.ret (v := .tuple []) (aResult_of Tryz.func68 rfl rfl) ⟨y0, ⟨f0, f1⟩, .inl ⟨rfl, rfl⟩⟩)
theorem shareB0_ok {C : ClampV} (O : C.Ok) {gp ge : AVal} {m : Int} {b0 br : Nat} {h : AH} (A : YardAt h C gp ge) (f0 : Has h b0 (.cells .plain [.int .i64 m] 3)) (f1 : Has h br (.cells .plain [.int .i64 0] 3)) (h0r : b0 ≠ br) :
  Runs Tryz.prog 70 [.agg (C.cells gp ge), .ptr b0 0, .ptr br 0] h (fun en h'' => ExtF (fun x => x = br) h h'' ∧ Has h'' br (.cells .plain [.int .i64 (sodsQ m (C.shareQ m) 0).1] 3) ∧ (((sodsQ m (C.shareQ m) 0).2 = 0 ∧ en = .ret (.tuple [])) ∨ en = .pan (refusal (sodsQ m (C.shareQ m) 0).2))) := by
 have hnp := O.np
 have y0 : ExtF (fun x => x = br) h h := ExtF.of (Ext.refl _)
 have hsm := A.same
 have l0 := f0.1
 have l1 := f1.1
 have htr := fun {h'} A c => truths_yes O (gp := gp) (ge := ge) (h := h') A c
 have htn := fun {h'} A c => truths_no O (gp := gp) (ge := ge) (h := h') A c
 have hsh := fun {h'} A => share71_ok O (gp := gp) (ge := ge) (n := m) (h := h') A
 by_cases c3 : 0 ≤ m ∧ m ≤ 20000
 ·rw [sods_yes c3]
  unfold ClampV.shareQ
  cases c2 : C.possible with
  | false =>
   rw [c2, if_neg (by decide)] at hsh;rw [if_neg (by decide)]
   try unfold zSp at *
   unfold ClampV.cells at *
   try unfold spC at *
   have e0 : Ext h h := Ext.refl _
   refine Runs.intro aFunc70 rfl rfl rfl rfl fun rest => ?_;apply gS;refine gR rfl ?_;refine GoR.box rfl rfl rfl rfl rfl rfl fun h2 x2 f2 => ?_;replace f0 := f0.ext x2;replace f1 := f1.ext x2;replace e0 := e0.trans x2;replace y0 := y0.ext x2;apply gE;apply gS;refine gR rfl ?_;refine gO rfl rfl (ld3 rfl f0 rfl) rfl ?_;refine GoR.call rfl rfl (aCF aFunc64 rfl) (needSods_yes c3) ?_ np;rintro v3 h3 ⟨q, x3⟩;cases q;refine ⟨_, rfl, ?_⟩;replace f2 := f2.ext x3;replace f0 := f0.ext x3;replace f1 := f1.ext x3;replace e0 := e0.trans x3;replace y0 := y0.ext x3;apply gE;refine gR rfl ?_;refine gO rfl rfl (ld74 rfl f2 rfl) rfl ?_;refine gO rfl rfl (ld3 rfl f0 rfl) rfl ?_;refine GoR.callP rfl rfl (aCF aFunc71 rfl) (hsh (A.ext e0)) (by rintro _ _ ⟨q, _⟩; cases q) ?_;rintro chain h4 ⟨q, x4⟩
   have q := AEnd.pan.inj q
   subst q;replace f2 := f2.ext x4;replace f0 := f0.ext x4;replace f1 := f1.ext x4;replace e0 := e0.trans x4;replace y0 := y0.ext x4;exact FLeft.pan (⟨y0, f1, .inr rfl⟩)
  | true =>
   rw [c2, if_pos rfl] at hsh;rw [if_pos rfl]
   cases c4 : C.shareI m with
   | none =>
    rw [c4] at hsh
    try unfold zSp at *
    unfold ClampV.cells at *
    try unfold spC at *
    have e0 : Ext h h := Ext.refl _
    refine Runs.intro aFunc70 rfl rfl rfl rfl fun rest => ?_;apply gS;refine gR rfl ?_;refine GoR.box rfl rfl rfl rfl rfl rfl fun h2 x2 f2 => ?_;replace f0 := f0.ext x2;replace f1 := f1.ext x2;replace e0 := e0.trans x2;replace y0 := y0.ext x2;apply gE;apply gS;refine gR rfl ?_;refine gO rfl rfl (ld3 rfl f0 rfl) rfl ?_;refine GoR.call rfl rfl (aCF aFunc64 rfl) (needSods_yes c3) ?_ np;rintro v3 h3 ⟨q, x3⟩;cases q;refine ⟨_, rfl, ?_⟩;replace f2 := f2.ext x3;replace f0 := f0.ext x3;replace f1 := f1.ext x3;replace e0 := e0.trans x3;replace y0 := y0.ext x3;apply gE;refine gR rfl ?_;refine gO rfl rfl (ld74 rfl f2 rfl) rfl ?_;refine gO rfl rfl (ld3 rfl f0 rfl) rfl ?_;refine GoR.callP rfl rfl (aCF aFunc71 rfl) (hsh (A.ext e0)) (by rintro _ _ ⟨q, _⟩; cases q) ?_;rintro chain h4 ⟨q, x4⟩
    have q := AEnd.pan.inj q
    subst q;replace f2 := f2.ext x4;replace f0 := f0.ext x4;replace f1 := f1.ext x4;replace e0 := e0.trans x4;replace y0 := y0.ext x4;exact FLeft.pan (⟨y0, f1, .inr rfl⟩)
   | some r =>
    rw [c4] at hsh
    try unfold zSp at *
    unfold ClampV.cells at *
    try unfold spC at *
    have e0 : Ext h h := Ext.refl _
    refine Runs.intro aFunc70 rfl rfl rfl rfl fun rest => ?_;apply gS;refine gR rfl ?_;refine GoR.box rfl rfl rfl rfl rfl rfl fun h2 x2 f2 => ?_;replace f0 := f0.ext x2;replace f1 := f1.ext x2;replace e0 := e0.trans x2;replace y0 := y0.ext x2;apply gE;apply gS;refine gR rfl ?_;refine gO rfl rfl (ld3 rfl f0 rfl) rfl ?_;refine GoR.call rfl rfl (aCF aFunc64 rfl) (needSods_yes c3) ?_ np;rintro v3 h3 ⟨q, x3⟩;cases q;refine ⟨_, rfl, ?_⟩;replace f2 := f2.ext x3;replace f0 := f0.ext x3;replace f1 := f1.ext x3;replace e0 := e0.trans x3;replace y0 := y0.ext x3;apply gE;refine gR rfl ?_;refine gO rfl rfl (ld74 rfl f2 rfl) rfl ?_;refine gO rfl rfl (ld3 rfl f0 rfl) rfl ?_;refine GoR.call rfl rfl (aCF aFunc71 rfl) (hsh (A.ext e0)) ?_ np;rintro v4 h4 ⟨q, x4⟩;cases q;refine ⟨_, rfl, ?_⟩;replace f1 := f1.ext x4;replace y0 := y0.ext x4;refine GoR.store rfl rfl rfl rfl rfl rfl f1 rfl sz3 rfl rfl rfl fun h5 u5 => ?_;replace f1 := u5.has f1;clear e0;replace y0 := y0.upd u5 (.inl rfl);apply gE;exact Go.endL (FLeft.ret (v := .tuple []) (aResult_of Tryz.func70 rfl rfl) ⟨y0, f1, .inl ⟨rfl, rfl⟩⟩)
 ·rw [sods_no c3]
  try unfold zSp at *
  unfold ClampV.cells at *
  try unfold spC at *
  have e0 : Ext h h := Ext.refl _
  refine Runs.intro aFunc70 rfl rfl rfl rfl fun rest => ?_;apply gS;refine gR rfl ?_;refine GoR.box rfl rfl rfl rfl rfl rfl fun h2 x2 f2 => ?_;replace f0 := f0.ext x2;replace f1 := f1.ext x2;replace y0 := y0.ext x2;apply gE;apply gS;refine gR rfl ?_;refine gO rfl rfl (ld3 rfl f0 rfl) rfl ?_;refine GoR.callP rfl rfl (aCF aFunc64 rfl) (needSods_no c3) (by rintro _ _ ⟨q, _⟩; cases q) ?_;rintro chain h3 ⟨q, x3⟩
  have q := AEnd.pan.inj q
  subst q;replace f1 := f1.ext x3;replace y0 := y0.ext x3;exact FLeft.pan (⟨y0, f1, .inr rfl⟩)
theorem clashB0_ok {C : ClampV} (O : C.Ok) {gp ge : AVal} {br : Nat} {h : AH} (A : YardAt h C gp ge) (f0 : Has h br (.cells .plain [.int .i64 0] 3)) :
  Runs Tryz.prog 72 [.agg (C.cells gp ge), .ptr br 0] h (fun en h'' => ExtF (fun x => x = br) h h'' ∧ Has h'' br (.cells .plain [.int .i64 (C.clashQ).1] 3) ∧ (((C.clashQ).2 = 0 ∧ en = .ret (.tuple [])) ∨ en = .pan (refusal (C.clashQ).2))) := by
 have hnp := O.np
 have y0 : ExtF (fun x => x = br) h h := ExtF.of (Ext.refl _)
 have hsm := A.same
 have l0 := f0.1
 have htr := fun {h'} A c => truths_yes O (gp := gp) (ge := ge) (h := h') A c
 have htn := fun {h'} A c => truths_no O (gp := gp) (ge := ge) (h := h') A c
 have hcs := fun {h'} A => clash73_ok O (gp := gp) (ge := ge) (h := h') A
 unfold ClampV.clashQ
 cases c2 : C.possible with
 | true =>
   rw [c2, if_pos rfl] at hcs;rw [if_pos rfl]
   try unfold zSp at *
   unfold ClampV.cells at *
   try unfold spC at *
   have e0 : Ext h h := Ext.refl _
   refine Runs.intro aFunc72 rfl rfl rfl rfl fun rest => ?_;apply gS;refine gR rfl ?_;refine GoR.box rfl rfl rfl rfl rfl rfl fun h1 x1 f1 => ?_;replace f0 := f0.ext x1;replace e0 := e0.trans x1;replace y0 := y0.ext x1;apply gE;refine gR rfl ?_;refine gO rfl rfl (ld74 rfl f1 rfl) rfl ?_;refine GoR.callP rfl rfl (aCF aFunc73 rfl) (hcs (A.ext e0)) (by rintro _ _ ⟨q, _⟩; cases q) ?_;rintro chain h2 ⟨q, x2⟩
   have q := AEnd.pan.inj q
   subst q;replace f1 := f1.ext x2;replace f0 := f0.ext x2;replace e0 := e0.trans x2;replace y0 := y0.ext x2;exact FLeft.pan (⟨y0, f0, .inr rfl⟩)
 | false =>
   rw [c2, if_neg (by decide)] at hcs;rw [if_neg (by decide)]
   try unfold zSp at *
   unfold ClampV.cells at *
   try unfold spC at *
   have e0 : Ext h h := Ext.refl _
   refine Runs.intro aFunc72 rfl rfl rfl rfl fun rest => ?_;apply gS;refine gR rfl ?_;refine GoR.box rfl rfl rfl rfl rfl rfl fun h1 x1 f1 => ?_;replace f0 := f0.ext x1;replace e0 := e0.trans x1;replace y0 := y0.ext x1;apply gE;refine gR rfl ?_;refine gO rfl rfl (ld74 rfl f1 rfl) rfl ?_;refine GoR.call rfl rfl (aCF aFunc73 rfl) (hcs (A.ext e0)) ?_ np;rintro v2 h2 ⟨q, x2⟩;cases q;refine ⟨_, rfl, ?_⟩;replace f0 := f0.ext x2;replace y0 := y0.ext x2;refine GoR.store rfl rfl rfl rfl rfl rfl f0 rfl sz3 rfl rfl rfl fun h3 u3 => ?_;replace f0 := u3.has f0;clear e0;replace y0 := y0.upd u3 (.inl rfl);apply gE;exact Go.endL (FLeft.ret (v := .tuple []) (aResult_of Tryz.func72 rfl rfl) ⟨y0, f0, .inl ⟨rfl, rfl⟩⟩)
end Go.Proofs.YtobhkdgcciolmaaGreat
