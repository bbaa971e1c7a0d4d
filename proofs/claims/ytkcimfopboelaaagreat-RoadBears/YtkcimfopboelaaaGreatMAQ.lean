import Derived.Test.YtkcimfopboelaaaGreatMAP
import Derived.Test.YtkcimfopboelaaaGreatMAG
namespace Go.Proofs.YtkcimfopboelaaaGreat
open Go Go.AbsE
set_option linter.unusedSimpArgs false
set_option maxRecDepth 100000
set_option maxHeartbeats 0
set_option linter.unusedVariables false
def goodS (of m s : Nat) : Bool := decide (andNot s of = 0) && decide (popc s = m)
def subB (of m k : Nat) : List Nat := (List.range k).filter (goodS of m)
def subA (of m : Nat) : List Nat := (List.range m).flatMap fun j => subB of j (of + 1)
def subs (of : Nat) : List Nat := subA of (popc of + 1)
theorem filter_at {p : Nat → Bool} {N k : Nat} (hk : k < N) (hp : p k = true) : ((List.range N).filter p)[((List.range k).filter p).length]? = some k := by
 have h1 : List.range N = List.range k ++ (k :: (List.range (N - (k + 1))).map (· + (k + 1))) := by
  have : N = k + (1 + (N - (k + 1))) := by omega
  conv => lhs; rw [this, List.range_add, List.range_add]
  simp only [List.map_append, List.map_map]
  congr 1
  simp only [List.range_one, List.map_cons, List.map_nil, List.cons_append, List.nil_append, Nat.add_zero]
  congr 1
  refine List.map_congr_left fun x _ => ?_
  simp only [Function.comp_apply]
  omega
 rw [h1, List.filter_append, List.getElem?_append_right (Nat.le_refl _), Nat.sub_self, List.filter_cons, if_pos hp]
 rfl
theorem filter_succ (p : Nat → Bool) (k : Nat) : ((List.range (k + 1)).filter p).length = ((List.range k).filter p).length + (if p k then 1 else 0) := by
 rw [List.range_succ, List.filter_append, List.length_append, List.filter_cons]
 cases p k <;> simp
theorem subA_succ (of m : Nat) : (subA of (m + 1)).length = (subA of m).length + (subB of m (of + 1)).length := fm_succ _ _
theorem subB_succ (of m k : Nat) : (subB of m (k + 1)).length = (subB of m k).length + (if goodS of m k then 1 else 0) := filter_succ _ _
theorem subs_at {of m k M : Nat} (hm : m < M) (hk : k < of + 1) (hg : goodS of m k = true) : (subA of M)[(subA of m).length + (subB of m k).length]? = some k := fm_at hm (filter_at hk hg)
theorem popc_le (n : Nat) : popc n ≤ 10 := by
 unfold popc
 have := List.length_filter_le (fun i => n.testBit i) (List.range 10)
 rw [List.length_range] at this
 exact this
theorem subs1_it {of : Nat} (hof : of < 1024) (bo : Nat) : IterV Tryz.prog 147 [] [.ptr bo 0] ((subs of).map fun s => AVal.int .i64 (s : Nat)) (fun h => Has h bo (.cells .plain [.int .i64 (of : Nat)] 3)) := by
 intro y base J E h F hyc hys hA hbase T j0
 show Runs Tryz.prog 147 [y, .ptr bo 0] h _
 rw [List.length_map]
 obtain ⟨M, hM⟩ : ∃ M, popc of + 1 = M := ⟨_, rfl⟩
 have hM11 : M ≤ 11 := by have := popc_le of; omega
 unfold subs at T ⊢
 rw [hM] at T ⊢
 have hat : ∀ {m k : Nat}, m < M → k < of + 1 → goodS of m k = true → _ := fun a b c => subs_at (of := of) a b c
 have e0 : Ext h h := Ext.refl _
 have f0 : Has h bo (.cells .plain [.int .i64 (of : Nat)] 3) := hA h (ExtF.of e0)
 have hbo := f0.1
 have hpof : popc of = M - 1 := by omega
 refine Runs.intro aFunc147 rfl rfl rfl rfl fun rest => ?_
 refine Go.seq noJ_ok ?_
 refine Go.region noJ_ok rfl ?_
 refine GoR.op rfl rfl (ld3 rfl f0 rfl) rfl ?_
 refine GoR.op rfl rfl (aOp_convU64 rfl Tryz.underlying3 Tryz.underlying181 (by omega)) rfl ?_
 refine GoR.call rfl rfl (aOp_callFunc aFunc148 rfl) (ones148_ok hof) ?_ (by rintro _ _ ⟨q, _⟩; cases q)
 rintro v1 h1 ⟨q, x1⟩
 cases q
 refine ⟨_, rfl, ?_⟩
 replace f0 := f0.ext x1
 replace e0 := e0.trans x1
 refine GoR.op rfl rfl (aOp_add rfl rfl (by constructor <;> omega) rfl) rfl ?_
 refine GoR.op rfl rfl rfl rfl ?_
 refine GoR.end ?_
 refine Go.block noJ_ok ?_
 refine Go.loopKeep (fun a : Nat × (Nat → Prop) => [(0, y), (1, .ptr bo 0), (8, .int .i64 (M : Nat)), (9, .int .i64 (a.1 : Nat))]) (fun q a h' => q + a.1 = M ∧ ExtF F h h' ∧ (∀ b, a.2 b → F b ∨ h.next ≤ b) ∧ J (subA of a.1).length h' a.2) (n := M) (0, F) ⟨rfl, rfl, (by show _ = some (AVal.int .i64 (M : Nat)); rw [← hM]; rfl), rfl, trivial⟩ ⟨by simp, ExtF.of e0, fun b q => .inl q, T.ext j0 e0⟩ ?_
 clear e0 f0
 rintro q ⟨m, G⟩ h1 ⟨hq, x1, hG, j1⟩ again
 dsimp only at hq hG j1 ⊢
 have f0 : Has h1 bo (.cells .plain [.int .i64 (of : Nat)] 3) := hA h1 x1
 have e0 : Ext h1 h1 := Ext.refl _
 have hx1 := x1.1
 by_cases hm : m < M
 ·refine Go.seq noJ_ok ?_
  refine Go.region noJ_ok rfl ?_
  refine GoR.op rfl rfl (aOp_lss rfl rfl (r := true) (decide_eq_true (by omega))) rfl ?_
  refine GoR.end ?_
  refine Go.seq noJ_ok ?_
  refine Go.cond noJ_ok (b := true) rfl ?_
  refine Go.code noJ_ok ?_
  refine Go.seq noJ_ok ?_
  refine Go.block noJ_ok ?_
  refine Go.seq noJ_ok ?_
  refine Go.region noJ_ok rfl ?_
  iterate 2 refine GoR.op rfl rfl rfl rfl ?_
  refine GoR.end ?_
  refine Go.seq noJ_ok ?_
  refine Go.region noJ_ok rfl ?_
  refine GoR.op rfl rfl (ld3 rfl f0 rfl) rfl ?_
  refine GoR.op rfl rfl (aOp_add rfl rfl (by constructor <;> omega) rfl) rfl ?_
  refine GoR.op rfl rfl rfl rfl ?_
  refine GoR.end ?_
  refine Go.block noJ_ok ?_
  refine Go.loopKeep (fun a : Nat × (Nat → Prop) => [(0, y), (1, .ptr bo 0), (3, .int .i64 (m : Nat)), (8, .int .i64 (M : Nat)), (9, .int .i64 (m : Nat)), (13, .int .i64 ((of : Int) + 1)), (14, .int .i64 (a.1 : Nat))]) (fun q a h' => q + a.1 = of + 1 ∧ ExtF F h h' ∧ (∀ b, a.2 b → F b ∨ h.next ≤ b) ∧ J ((subA of m).length + (subB of m a.1).length) h' a.2) (n := of + 1) (0, G) ⟨rfl, rfl, rfl, rfl, rfl, rfl, rfl, trivial⟩ ⟨by simp, x1, hG, by simpa [subB] using j1⟩ ?_
  clear e0 f0 j1 x1 hG hx1
  rintro q2 ⟨k, G⟩ h2 ⟨hq2, x1, hG, j1⟩ again2
  dsimp only at hq2 hG j1 ⊢
  have f0 : Has h2 bo (.cells .plain [.int .i64 (of : Nat)] 3) := hA h2 x1
  have e0 : Ext h2 h2 := Ext.refl _
  have hx1 := x1.1
  by_cases hk : k < of + 1
  ·have hsb := subB_succ of m k
   have hk10 : k < 1024 := by omega
   have hpk := popc_le k
   by_cases c1 : andNot k of = 0
   ·have d1 : decide (((andNot k of : Nat) : Int) = 0) = true := decide_eq_true (by omega)
    by_cases c2 : popc k = m
    ·have hg : goodS of m k = true := by unfold goodS; rw [decide_eq_true c1, decide_eq_true c2]; rfl
     rw [hg, if_pos rfl] at hsb
     have hit := hat hm hk hg
     have hlt := (List.getElem?_eq_some_iff.1 hit).1
     have d2 : decide (((popc k : Nat) : Int) = (m : Nat)) = true := decide_eq_true (by omega)
     refine Go.seq noJ_ok ?_
     refine Go.region noJ_ok rfl ?_
     refine GoR.op rfl rfl (aOp_lss rfl rfl (r := true) (decide_eq_true (by omega))) rfl ?_
     refine GoR.end ?_
     refine Go.seq noJ_ok ?_
     refine Go.cond noJ_ok (b := true) rfl ?_
     refine Go.code noJ_ok ?_
     refine Go.seq noJ_ok ?_
     refine Go.block noJ_ok ?_
     refine Go.seq noJ_ok ?_
     refine Go.region noJ_ok rfl ?_
     iterate 2 refine GoR.op rfl rfl rfl rfl ?_
     refine GoR.end ?_
     refine Go.seq noJ_ok ?_
     refine Go.region noJ_ok rfl ?_
     refine GoR.op rfl rfl rfl rfl ?_
     refine GoR.op rfl rfl (ld3 rfl f0 rfl) rfl ?_
     refine GoR.op rfl rfl (aOp_andNot rfl rfl (by omega) rfl) rfl ?_
     refine GoR.op rfl rfl (aOp_eql rfl rfl d1) rfl ?_
     iterate 2 refine GoR.op rfl rfl rfl rfl ?_
     refine GoR.op rfl rfl (aOp_convU64 rfl Tryz.underlying3 Tryz.underlying181 (by omega)) rfl ?_
     refine GoR.call rfl rfl (aOp_callFunc aFunc148 rfl) (ones148_ok hk10) ?_ (by rintro _ _ ⟨q, _⟩; cases q)
     rintro v3 h3 ⟨q, x3⟩
     cases q
     refine ⟨_, rfl, ?_⟩
     replace e0 := e0.trans x3
     refine GoR.op rfl rfl rfl rfl ?_
     refine GoR.op rfl rfl (aOp_eql rfl rfl d2) rfl ?_
     iterate 4 refine GoR.op rfl rfl rfl rfl ?_
     obtain ⟨ax, a1, a2, a3⟩ := T.take (by rw [List.getElem?_map, hit]; rfl) (T.ext j1 e0)
     have hx3 := e0.1
     refine GoR.does rfl rfl (aOp_callY rfl rfl a1) a2 a3 ?_ (by rintro _ _ ⟨_, _, _, ⟨q, _⟩ | ⟨q, _⟩⟩ <;> cases q)
     rintro v h6 ⟨x6, G', hG', ⟨q, j6⟩ | ⟨q, e6⟩⟩
     ·cases q
      refine ⟨_, rfl, ?_⟩
      have y6 := (x1.ext e0).trans hG x6
      clear f0 e0
      iterate 2 refine GoR.op rfl rfl rfl rfl ?_
      refine GoR.end ?_
      refine Go.cond noJ_ok (b := false) rfl ?_
      refine Go.code noJ_ok ?_
      refine Go.inBlock noJ_ok ?_
      refine Go.region noJ_ok rfl ?_
      refine GoR.op rfl rfl (aOp_add rfl rfl (by constructor <;> omega) rfl) rfl ?_
      refine GoR.op rfl rfl rfl rfl ?_
      refine GoR.end ?_
      exact again2 (q2 - 1) (k + 1, G') _ _ (by omega) ⟨rfl, rfl, rfl, rfl, rfl, rfl, rfl, trivial⟩ ⟨by dsimp only; omega, y6, own_next hG' hG (by omega), by dsimp only; rw [hsb]; exact j6⟩
     ·cases q
      refine ⟨_, rfl, ?_⟩
      have y6 := (x1.ext e0).trans hG x6
      clear f0 e0
      iterate 2 refine GoR.op rfl rfl rfl rfl ?_
      refine GoR.end ?_
      refine Go.cond noJ_ok (b := true) rfl ?_
      exact Go.ret noJ_ok (ret_end (aResult_of Tryz.func147 rfl rfl) ⟨rfl, y6, G', own_next hG' hG (by omega), .inr ⟨_, hlt, e6⟩⟩)
    ·have hg : goodS of m k = false := by unfold goodS; rw [decide_eq_true c1, decide_eq_false c2]; rfl
     rw [hg, if_neg (by decide), Nat.add_zero] at hsb
     have d2 : decide (((popc k : Nat) : Int) = (m : Nat)) = false := decide_eq_false (by omega)
     refine Go.seq noJ_ok ?_
     refine Go.region noJ_ok rfl ?_
     refine GoR.op rfl rfl (aOp_lss rfl rfl (r := true) (decide_eq_true (by omega))) rfl ?_
     refine GoR.end ?_
     refine Go.seq noJ_ok ?_
     refine Go.cond noJ_ok (b := true) rfl ?_
     refine Go.code noJ_ok ?_
     refine Go.seq noJ_ok ?_
     refine Go.block noJ_ok ?_
     refine Go.seq noJ_ok ?_
     refine Go.region noJ_ok rfl ?_
     iterate 2 refine GoR.op rfl rfl rfl rfl ?_
     refine GoR.end ?_
     refine Go.seq noJ_ok ?_
     refine Go.region noJ_ok rfl ?_
     refine GoR.op rfl rfl rfl rfl ?_
     refine GoR.op rfl rfl (ld3 rfl f0 rfl) rfl ?_
     refine GoR.op rfl rfl (aOp_andNot rfl rfl (by omega) rfl) rfl ?_
     refine GoR.op rfl rfl (aOp_eql rfl rfl d1) rfl ?_
     iterate 2 refine GoR.op rfl rfl rfl rfl ?_
     refine GoR.op rfl rfl (aOp_convU64 rfl Tryz.underlying3 Tryz.underlying181 (by omega)) rfl ?_
     refine GoR.call rfl rfl (aOp_callFunc aFunc148 rfl) (ones148_ok hk10) ?_ (by rintro _ _ ⟨q, _⟩; cases q)
     rintro v3 h3 ⟨q, x3⟩
     cases q
     refine ⟨_, rfl, ?_⟩
     replace e0 := e0.trans x3
     refine GoR.op rfl rfl rfl rfl ?_
     refine GoR.op rfl rfl (aOp_eql rfl rfl d2) rfl ?_
     iterate 2 refine GoR.op rfl rfl rfl rfl ?_
     iterate 4 refine GoR.skip rfl rfl rfl ?_
     refine GoR.op rfl rfl rfl rfl ?_
     refine GoR.end ?_
     refine Go.cond noJ_ok (b := false) rfl ?_
     refine Go.code noJ_ok ?_
     refine Go.inBlock noJ_ok ?_
     refine Go.region noJ_ok rfl ?_
     refine GoR.op rfl rfl (aOp_add rfl rfl (by constructor <;> omega) rfl) rfl ?_
     refine GoR.op rfl rfl rfl rfl ?_
     refine GoR.end ?_
     exact again2 (q2 - 1) (k + 1, G) _ _ (by omega) ⟨rfl, rfl, rfl, rfl, rfl, rfl, rfl, trivial⟩ ⟨by dsimp only; omega, x1.ext e0, hG, by dsimp only; rw [hsb]; exact T.ext j1 e0⟩
   ·have hg : goodS of m k = false := by unfold goodS; rw [decide_eq_false c1]; rfl
    rw [hg, if_neg (by decide), Nat.add_zero] at hsb
    have d1 : decide (((andNot k of : Nat) : Int) = 0) = false := decide_eq_false (by omega)
    refine Go.seq noJ_ok ?_
    refine Go.region noJ_ok rfl ?_
    refine GoR.op rfl rfl (aOp_lss rfl rfl (r := true) (decide_eq_true (by omega))) rfl ?_
    refine GoR.end ?_
    refine Go.seq noJ_ok ?_
    refine Go.cond noJ_ok (b := true) rfl ?_
    refine Go.code noJ_ok ?_
    refine Go.seq noJ_ok ?_
    refine Go.block noJ_ok ?_
    refine Go.seq noJ_ok ?_
    refine Go.region noJ_ok rfl ?_
    iterate 2 refine GoR.op rfl rfl rfl rfl ?_
    refine GoR.end ?_
    refine Go.seq noJ_ok ?_
    refine Go.region noJ_ok rfl ?_
    refine GoR.op rfl rfl rfl rfl ?_
    refine GoR.op rfl rfl (ld3 rfl f0 rfl) rfl ?_
    refine GoR.op rfl rfl (aOp_andNot rfl rfl (by omega) rfl) rfl ?_
    refine GoR.op rfl rfl (aOp_eql rfl rfl d1) rfl ?_
    refine GoR.op rfl rfl rfl rfl ?_
    iterate 5 refine GoR.skip rfl rfl rfl ?_
    iterate 2 refine GoR.op rfl rfl rfl rfl ?_
    iterate 4 refine GoR.skip rfl rfl rfl ?_
    refine GoR.op rfl rfl rfl rfl ?_
    refine GoR.end ?_
    refine Go.cond noJ_ok (b := false) rfl ?_
    refine Go.code noJ_ok ?_
    refine Go.inBlock noJ_ok ?_
    refine Go.region noJ_ok rfl ?_
    refine GoR.op rfl rfl (aOp_add rfl rfl (by constructor <;> omega) rfl) rfl ?_
    refine GoR.op rfl rfl rfl rfl ?_
    refine GoR.end ?_
    exact again2 (q2 - 1) (k + 1, G) _ _ (by omega) ⟨rfl, rfl, rfl, rfl, rfl, rfl, rfl, trivial⟩ ⟨by dsimp only; omega, x1.ext e0, hG, by dsimp only; rw [hsb]; exact T.ext j1 e0⟩
  ·have hkn : k = of + 1 := by omega
   subst hkn
   refine Go.seq noJ_ok ?_
   refine Go.region noJ_ok rfl ?_
   refine GoR.op rfl rfl (aOp_lss rfl rfl (r := false) (decide_eq_false (by omega))) rfl ?_
   refine GoR.end ?_
   refine Go.seq noJ_ok ?_
   refine Go.cond noJ_ok (b := false) rfl ?_
   refine Go.code noJ_ok ?_
   refine Go.inBlock noJ_ok ?_
   refine Go.region noJ_ok rfl ?_
   refine GoR.op rfl rfl (aOp_add rfl rfl (by constructor <;> omega) rfl) rfl ?_
   refine GoR.op rfl rfl rfl rfl ?_
   refine GoR.end ?_
   exact again (q - 1) (m + 1, G) _ _ (by omega) ⟨rfl, rfl, rfl, rfl, trivial⟩ ⟨by dsimp only; omega, x1, hG, by dsimp only; rw [subA_succ]; exact j1⟩
 ·have hmn : m = M := by omega
  subst hmn
  refine Go.seq noJ_ok ?_
  refine Go.region noJ_ok rfl ?_
  refine GoR.op rfl rfl (aOp_lss rfl rfl (r := false) (decide_eq_false (by omega))) rfl ?_
  refine GoR.end ?_
  refine Go.seq noJ_ok ?_
  refine Go.cond noJ_ok (b := false) rfl ?_
  refine Go.code noJ_ok ?_
  exact Go.endL (FLeft.ret (v := .tuple []) (aResult_of Tryz.func147 rfl rfl) ⟨rfl, x1, G, hG, .inl j1⟩)
theorem subsets_ok {of : Int} {h : AH} : Runs Tryz.prog 122 [.int .i64 of] h (fun en h' => ∃ bo, en = .ret (.func (.func 147) [] [.ptr bo 0]) ∧ Ext h h' ∧ Has h' bo (.cells .plain [.int .i64 of] 3) ∧ Ext h' h') := by
 have e0 : Ext h h := Ext.refl _
 refine Runs.intro aFunc122 rfl rfl rfl rfl fun rest => ?_
 refine Go.seq noJ_ok ?_
 refine Go.region noJ_ok rfl ?_
 refine GoR.box rfl rfl rfl rfl rfl rfl fun h0 x0 f0 => ?_
 replace e0 := e0.trans x0
 refine GoR.op rfl rfl rfl rfl ?_
 refine GoR.end ?_
 refine Go.seq noJ_ok ?_
 refine Go.region noJ_ok rfl ?_
 iterate 2 refine GoR.op rfl rfl rfl rfl ?_
 refine GoR.end ?_
 exact Go.ret noJ_ok (ret_end (aResult_of Tryz.func122 rfl rfl) ⟨_, rfl, e0, f0, Ext.refl _⟩)
def RoadV.less (R : RoadV) (out : Nat) : RoadV := ⟨R.ps, withoutV R.es out⟩
theorem less_ok {R : RoadV} (O : R.Ok) (out : Nat) : (R.less out).Ok where
 np := O.np
 ne := by have := O.ne; show (withoutV R.es out).length ≤ 10; rw [without_is]; have := wo_len (out := out) (k := 0) (L := R.es); omega
 p := O.p
 e := fun e he => O.e e (by
  have : e ∈ withoutV R.es out := he
  rw [without_is] at this
  exact wo_mem this)
 d := by
  have hs : (withoutV R.es out).Sublist R.es := by rw [without_is]; exact wo_sub
  have := (hs.filter EV.doubt).length_le
  have h2 := O.d
  unfold doubtsV at *
  show ((withoutV R.es out).filter EV.doubt).length ≤ 4
  omega
def RoadV.clashes (R : RoadV) (only : Nat) : Bool := !(R.less (andNot (looksV R.es) only)).possible
def RoadV.clashI (R : RoadV) : Option Int := ((subs (looksV R.es)).map fun s => ((s : Nat) : Int)).find? fun x => R.clashes x.toNat
def RoadV.clashR (R : RoadV) : Int × Int := if R.Ok then (if R.possible = true then (0, 4) else (R.clashI.getD 0, 0)) else (0, 1)
theorem andNot_le (a b : Nat) (ha : a < 2 ^ 64) : andNot a b ≤ a := by
 unfold andNot
 rw [BitVec.toNat_and, BitVec.toNat_ofNat, Nat.mod_eq_of_lt ha]
 exact Nat.and_le_left
theorem looks_lt {R : RoadV} (O : R.Ok) : looksV R.es < 1024 := by
 have h1 : looksV R.es < 2 ^ R.es.length := bitsV_lt _ _
 have h2 : 2 ^ R.es.length ≤ 2 ^ 10 := Nat.pow_le_pow_right (by omega) O.ne
 omega
theorem clash123_ok {R : RoadV} (O : R.Ok) {lo : Nat} {gp ge : AVal} {bg bl : Nat} {only : Nat} {h : AH} (A : GroundAt h R lo gp ge) (f0 : Has h bg (.cells .plain [gp, ge] 77)) (f1 : Has h bl (.cells .plain [.int .i64 (looksV R.es : Nat)] 3)) :
  Runs Tryz.prog 123 [.int .i64 (only : Nat), .ptr bg 0, .ptr bl 0] h (fun en h' => en = .ret (.bool (R.clashes only)) ∧ Ext h h') := by
 have hb0 := f0.1
 have hb1 := f1.1
 have hl := looks_lt O
 have hle := andNot_le (looksV R.es) only (by omega)
 have hw := fun {h9} A => without_ok O (lo := lo) (gp := gp) (ge := ge) (out := andNot (looksV R.es) only) (by omega) (h := h9) A
 unfold RoadV.clashes
 have e0 : Ext h h := Ext.refl _
 refine Runs.intro aFunc123 rfl rfl rfl rfl fun rest => ?_
 refine Go.seq noJ_ok ?_
 refine Go.region noJ_ok rfl ?_
 refine GoR.op rfl rfl rfl rfl ?_
 refine GoR.end ?_
 refine Go.seq noJ_ok ?_
 refine Go.region noJ_ok rfl ?_
 refine GoR.op rfl rfl (ld77 rfl f0 rfl) rfl ?_
 refine GoR.op rfl rfl (ld3 rfl f1 rfl) rfl ?_
 refine GoR.op rfl rfl rfl rfl ?_
 refine GoR.op rfl rfl (aOp_andNot rfl rfl (by omega) rfl) rfl ?_
 refine GoR.call rfl rfl (aOp_callFunc aFunc124 rfl) (hw (A.ext e0)) ?_ (by rintro _ _ ⟨s, q, _, _⟩; cases q)
 rintro v2 h2 ⟨s, q, x2, f2⟩
 cases q
 refine ⟨_, rfl, ?_⟩
 replace f0 := f0.ext x2
 replace f1 := f1.ext x2
 replace e0 := e0.trans x2
 refine GoR.call rfl rfl (aOp_callFunc aFunc120 rfl) (possible_ok (less_ok O (andNot (looksV R.es) only)) (by assumption)) ?_ (by rintro _ _ ⟨q, _⟩; cases q)
 rintro v3 h3 ⟨q, x3⟩
 cases q
 refine ⟨_, rfl, ?_⟩
 replace e0 := e0.trans x3
 iterate 2 refine GoR.op rfl rfl rfl rfl ?_
 refine GoR.end ?_
 exact Go.ret noJ_ok (ret_end (aResult_of Tryz.func123 rfl rfl) ⟨rfl, e0⟩)
end Go.Proofs.YtkcimfopboelaaaGreat

namespace Go.Proofs.YtkcimfopboelaaaGreat
open Go Go.AbsE
set_option linter.unusedSimpArgs false
set_option maxRecDepth 100000
set_option maxHeartbeats 0
set_option linter.unusedVariables false
theorem clash80_ok {R : RoadV} (O : R.Ok) {lo : Nat} {gp ge : AVal} {h : AH} (A : GroundAt h R lo gp ge) :
  Runs Tryz.prog 80 [.agg [gp, ge]] h (fun en h' => en = (if R.possible = true then .pan (refusal 4) else .ret (.int .i64 (R.clashI.getD 0))) ∧ Ext h h') := by
 have hl := looks_lt O
 cases hp : R.possible with
 | true =>
  rw [if_pos rfl]
  have hpo := fun {h9} A => possible_ok O (lo := lo) (gp := gp) (ge := ge) (h := h9) A
  rw [hp] at hpo
  have e0 : Ext h h := Ext.refl _
  refine Runs.intro aFunc80 rfl rfl rfl rfl fun rest => ?_
  refine Go.seq noJ_ok ?_
  refine Go.region noJ_ok rfl ?_
  refine GoR.box rfl rfl rfl rfl rfl rfl fun h0 x0 f0 => ?_
  have := e0.1
  replace e0 := e0.trans x0
  have := f0.1
  refine GoR.op rfl rfl rfl rfl ?_
  refine GoR.end ?_
  refine Go.seq noJ_ok ?_
  refine Go.region noJ_ok rfl ?_
  refine GoR.op rfl rfl (ld77 rfl f0 rfl) rfl ?_
  refine GoR.call rfl rfl (aOp_callFunc aFunc120 rfl) (hpo (A.ext e0)) ?_ (by rintro _ _ ⟨q, _⟩; cases q)
  rintro v1 h1 ⟨q, x1⟩
  cases q
  refine ⟨_, rfl, ?_⟩
  replace f0 := f0.ext x1
  replace e0 := e0.trans x1
  refine GoR.callP rfl rfl (aOp_callFunc aFunc91 rfl) (refuse_yes _ _) (by rintro _ _ ⟨q, _⟩; cases q) ?_
  rintro chain h2 ⟨q, x2⟩
  have q := AEnd.pan.inj q
  subst q
  replace f0 := f0.ext x2
  replace e0 := e0.trans x2
  exact FLeft.pan (⟨rfl, e0⟩)
 | false =>
  rw [if_neg (by decide)]
  have hpo := fun {h9} A => possible_ok O (lo := lo) (gp := gp) (ge := ge) (h := h9) A
  rw [hp] at hpo
  have hfi : ∀ {h9 : AH} {bo b b2 : Nat}, Ext h h9 → Has h9 bo (.cells .plain [.int .i64 (looksV R.es : Nat)] 3) → Has h9 b (.cells .plain [gp, ge] 77) → Has h9 b2 (.cells .plain [.int .i64 (looksV R.es : Nat)] 3) → Runs Tryz.prog 110 [.func (.func 147) [] [.ptr bo 0], .agg [.func (.func 123) [] [.ptr b 0, .ptr b2 0]]] h9 (fun en h' => en = .ret (.tuple [.int .i64 (R.clashI.getD 0), .bool R.clashI.isSome]) ∧ Ext h9 h') := fun {h9 bo b b2} e fo f f2 => by
   have it := subs1_it (of := looksV R.es) hl bo
   have hm : (subs (looksV R.es)).map (fun s => AVal.int .i64 (s : Nat)) = ((subs (looksV R.es)).map fun s => ((s : Nat) : Int)).map (.int .i64) := by rw [List.map_map]; rfl
   rw [hm] at it
   exact first_ok aFunc147 it aFunc123 (fun x => R.clashes x.toNat) (fun h' x => fo.ext x) fun x h' hx e' => by
    obtain ⟨s, hs, rfl⟩ := List.mem_map.1 hx
    rw [Int.toNat_natCast]
    exact clash123_ok O (A.ext (e.trans e')) (f.ext e') (f2.ext e')
  have e0 : Ext h h := Ext.refl _
  refine Runs.intro aFunc80 rfl rfl rfl rfl fun rest => ?_
  refine Go.seq noJ_ok ?_
  refine Go.region noJ_ok rfl ?_
  refine GoR.box rfl rfl rfl rfl rfl rfl fun h0 x0 f0 => ?_
  have := e0.1
  replace e0 := e0.trans x0
  have := f0.1
  refine GoR.op rfl rfl rfl rfl ?_
  refine GoR.end ?_
  refine Go.seq noJ_ok ?_
  refine Go.region noJ_ok rfl ?_
  refine GoR.op rfl rfl (ld77 rfl f0 rfl) rfl ?_
  refine GoR.call rfl rfl (aOp_callFunc aFunc120 rfl) (hpo (A.ext e0)) ?_ (by rintro _ _ ⟨q, _⟩; cases q)
  rintro v1 h1 ⟨q, x1⟩
  cases q
  refine ⟨_, rfl, ?_⟩
  replace f0 := f0.ext x1
  replace e0 := e0.trans x1
  refine GoR.call rfl rfl (aOp_callFunc aFunc91 rfl) (refuse_no _ _) ?_ (by rintro _ _ ⟨q, _⟩; cases q)
  rintro v2 h2 ⟨q, x2⟩
  cases q
  refine ⟨_, rfl, ?_⟩
  replace f0 := f0.ext x2
  replace e0 := e0.trans x2
  refine GoR.end ?_
  refine Go.seq noJ_ok ?_
  refine Go.region noJ_ok rfl ?_
  refine GoR.op rfl rfl (ld77 rfl f0 rfl) rfl ?_
  refine GoR.call rfl rfl (aOp_callFunc aFunc121 rfl) (looks_ok O (A.ext e0)) ?_ (by rintro _ _ ⟨q, _⟩; cases q)
  rintro v3 h3 ⟨q, x3⟩
  cases q
  refine ⟨_, rfl, ?_⟩
  replace f0 := f0.ext x3
  replace e0 := e0.trans x3
  refine GoR.alloc rfl rfl rfl zt3 rfl rfl fun h4 x4 f4 => ?_
  have := e0.1
  have := f0.1
  replace f0 := f0.ext x4
  replace e0 := e0.trans x4
  have := f4.1
  refine GoR.store rfl rfl rfl rfl rfl rfl f4 rfl sz3 rfl rfl rfl fun h5 u5 => ?_
  replace f4 := u5.has f4
  replace f0 := f0.upd u5 (by omega)
  replace e0 := e0.upd u5 (by omega)
  refine GoR.end ?_
  refine Go.seq noJ_ok ?_
  refine Go.region noJ_ok rfl ?_
  refine GoR.op rfl rfl (ld3 rfl f4 rfl) rfl ?_
  refine GoR.call rfl rfl (aOp_callFunc aFunc122 rfl) (subsets_ok) ?_ (by rintro _ _ ⟨bo, q, _, _, e9⟩; cases q)
  rintro v6 h6 ⟨bo, q, x6, f6, e9⟩
  cases q
  refine ⟨_, rfl, ?_⟩
  replace f4 := f4.ext x6
  replace f0 := f0.ext x6
  replace e0 := e0.trans x6
  refine GoR.op rfl rfl rfl rfl ?_
  refine GoR.op rfl rfl (aOp_build zt145 hu145 pl145 rfl rfl) rfl ?_
  refine GoR.call rfl rfl (aOp_callFunc aFunc110 rfl) (hfi e0 (by assumption) f0 (by assumption)) ?_ (by rintro _ _ ⟨q, _⟩; cases q)
  rintro v7 h7 ⟨q, x7⟩
  cases q
  refine ⟨_, rfl, ?_⟩
  replace e0 := e0.trans x7
  iterate 5 refine GoR.op rfl rfl rfl rfl ?_
  refine GoR.end ?_
  refine Go.seq noJ_ok ?_
  refine Go.region noJ_ok rfl ?_
  iterate 2 refine GoR.op rfl rfl rfl rfl ?_
  refine GoR.end ?_
  exact Go.ret noJ_ok (ret_end (aResult_of Tryz.func80 rfl rfl) ⟨rfl, e0⟩)
theorem clashB_ok {R : RoadV} (O : R.Ok) {lo : Nat} {gp ge : AVal} {br : Nat} {h : AH} (A : GroundAt h R lo gp ge) (f2 : Has h br (.cells .plain [.int .i64 0] 3)) :
  Runs Tryz.prog 79 [.agg [gp, ge], .ptr br 0] h (fun en h'' => ExtF (fun b => b = br) h h'' ∧ Has h'' br (.cells .plain [.int .i64 (R.clashR).1] 3) ∧ (((R.clashR).2 = 0 ∧ en = .ret (.tuple [])) ∨ en = .pan (refusal (R.clashR).2))) := by
 have y0 : ExtF (fun b => b = br) h h := ExtF.of (Ext.refl _)
 have l2 := f2.1
 have hc := fun {h9} A => clash80_ok O (lo := lo) (gp := gp) (ge := ge) (h := h9) A
 unfold RoadV.clashR
 rw [if_pos O]
 cases hp : R.possible with
 | true =>
  rw [hp, if_pos rfl] at hc
  rw [if_pos rfl]
  have e0 : Ext h h := Ext.refl _
  refine Runs.intro aFunc79 rfl rfl rfl rfl fun rest => ?_
  refine Go.seq noJ_ok ?_
  refine Go.region noJ_ok rfl ?_
  refine GoR.box rfl rfl rfl rfl rfl rfl fun h3 x3 f3 => ?_
  replace f2 := f2.ext x3
  replace e0 := e0.trans x3
  replace y0 := y0.ext x3
  refine GoR.end ?_
  refine Go.region noJ_ok rfl ?_
  refine GoR.op rfl rfl (ld77 rfl f3 rfl) rfl ?_
  refine GoR.callP rfl rfl (aOp_callFunc aFunc80 rfl) (hc (A.ext e0)) (by rintro _ _ ⟨q, _⟩; cases q) ?_
  rintro chain h4 ⟨q, x4⟩
  have q := AEnd.pan.inj q
  subst q
  replace f3 := f3.ext x4
  replace f2 := f2.ext x4
  replace e0 := e0.trans x4
  replace y0 := y0.ext x4
  exact FLeft.pan (⟨y0, f2, .inr rfl⟩)
 | false =>
  rw [hp, if_neg (by decide)] at hc
  rw [if_neg (by decide)]
  have e0 : Ext h h := Ext.refl _
  refine Runs.intro aFunc79 rfl rfl rfl rfl fun rest => ?_
  refine Go.seq noJ_ok ?_
  refine Go.region noJ_ok rfl ?_
  refine GoR.box rfl rfl rfl rfl rfl rfl fun h3 x3 f3 => ?_
  replace f2 := f2.ext x3
  replace e0 := e0.trans x3
  replace y0 := y0.ext x3
  refine GoR.end ?_
  refine Go.region noJ_ok rfl ?_
  refine GoR.op rfl rfl (ld77 rfl f3 rfl) rfl ?_
  refine GoR.call rfl rfl (aOp_callFunc aFunc80 rfl) (hc (A.ext e0)) ?_ (by rintro _ _ ⟨q, _⟩; cases q)
  rintro v4 h4 ⟨q, x4⟩
  cases q
  refine ⟨_, rfl, ?_⟩
  replace f2 := f2.ext x4
  replace y0 := y0.ext x4
  refine GoR.store rfl rfl rfl rfl rfl rfl f2 rfl sz3 rfl rfl rfl fun h5 u5 => ?_
  replace f2 := u5.has f2
  clear e0
  replace y0 := y0.upd u5 (.inl rfl)
  refine GoR.end ?_
  exact Go.endL (FLeft.ret (v := .tuple []) (aResult_of Tryz.func79 rfl rfl) ⟨y0, f2, .inl ⟨rfl, rfl⟩⟩)
theorem Clash_ok {R : RoadV} {psl esl : AVal} {h : AH} (A : RoadAt h R psl esl) (hb1 : R.ps.length ≤ 40) (hb2 : R.es.length ≤ 40) :
  Runs Tryz.prog 30 [.agg [psl, esl]] h (fun en h' => en = .ret (.tuple [.int .i64 (R.clashR).1, .int .i64 (R.clashR).2]) ∧ Ext h h') := by
 by_cases O : R.Ok
 ·have hB := fun {lo gp ge br h} A => clashB_ok O (lo := lo) (gp := gp) (ge := ge) (br := br) (h := h) A
  obtain ⟨r, hr⟩ : ∃ r, R.clashR = r := ⟨_, rfl⟩
  rw [hr] at hB ⊢
  obtain ⟨r1, c⟩ := r
  have e0 : Ext h h := Ext.refl _
  refine Runs.intro aFunc30 rfl rfl rfl rfl fun rest => ?_
  refine Go.seq noJ_ok ?_
  refine Go.region noJ_ok rfl ?_
  refine GoR.box rfl rfl rfl rfl rfl rfl fun h0 x0 f0 => ?_
  have := e0.1
  replace e0 := e0.trans x0
  have := f0.1
  refine GoR.alloc rfl rfl rfl zt3 rfl rfl fun h1 x1 f1 => ?_
  have := e0.1
  have := f0.1
  replace f0 := f0.ext x1
  replace e0 := e0.trans x1
  have := f1.1
  refine GoR.op rfl rfl rfl rfl ?_
  refine GoR.end ?_
  refine Go.seq noJ_ok ?_
  refine Go.region noJ_ok rfl ?_
  refine GoR.op rfl rfl (ld25 rfl f0 rfl) rfl ?_
  refine GoR.op rfl rfl rfl rfl ?_
  refine GoR.call rfl rfl (aOp_callFunc aFunc48 rfl) (attempt_sets O psl esl _ (A.ext e0) 79 _ aFunc79 _ (by simp [sameA, sameAs, eqI_eq]) h0.next (by omega) [.int .i64 r1] 3 c fun h' gp ge e g => hB g (f1.ext e)) ?_ (by rintro _ _ ⟨q, _⟩; cases q)
  rintro v9 h9 ⟨q, y9, f9⟩
  cases q
  refine ⟨_, rfl, ?_⟩
  have z9 := y9.low e0 (fun b q => by omega)
  clear e0 y9 f1
  have e0 := z9
  refine GoR.op rfl rfl rfl rfl ?_
  refine GoR.end ?_
  refine Go.seq noJ_ok ?_
  refine Go.region noJ_ok rfl ?_
  refine GoR.op rfl rfl (ld3 rfl f9 rfl) rfl ?_
  refine GoR.op rfl rfl rfl rfl ?_
  refine GoR.store rfl rfl rfl rfl rfl rfl f9 rfl sz3 rfl rfl rfl fun h10 u10 => ?_
  replace f9 := u10.has f9
  replace e0 := e0.upd u10 (by omega)
  refine GoR.op rfl rfl rfl rfl ?_
  refine GoR.end ?_
  exact Go.ret noJ_ok (ret_end (aResult_of Tryz.func30 rfl (aResults_c rfl f9 (inCells_one ag3 rfl) rfl)) ⟨rfl, e0⟩)
 ·have hr : R.clashR = (0, 1) := by unfold RoadV.clashR; rw [if_neg O]
  rw [hr]
  have e0 : Ext h h := Ext.refl _
  refine Runs.intro aFunc30 rfl rfl rfl rfl fun rest => ?_
  refine Go.seq noJ_ok ?_
  refine Go.region noJ_ok rfl ?_
  refine GoR.box rfl rfl rfl rfl rfl rfl fun h0 x0 f0 => ?_
  have := e0.1
  replace e0 := e0.trans x0
  have := f0.1
  refine GoR.alloc rfl rfl rfl zt3 rfl rfl fun h1 x1 f1 => ?_
  have := e0.1
  have := f0.1
  replace f0 := f0.ext x1
  replace e0 := e0.trans x1
  have := f1.1
  refine GoR.op rfl rfl rfl rfl ?_
  refine GoR.end ?_
  refine Go.seq noJ_ok ?_
  refine Go.region noJ_ok rfl ?_
  refine GoR.op rfl rfl (ld25 rfl f0 rfl) rfl ?_
  refine GoR.op rfl rfl rfl rfl ?_
  refine GoR.call rfl rfl (aOp_callFunc aFunc48 rfl) (attempt_bad O hb1 hb2 psl esl _ (A.ext e0) 79 _) ?_ (by rintro _ _ ⟨q, _⟩; cases q)
  rintro v2 h2 ⟨q, x2⟩
  cases q
  refine ⟨_, rfl, ?_⟩
  replace f1 := f1.ext x2
  replace e0 := e0.trans x2
  refine GoR.op rfl rfl rfl rfl ?_
  refine GoR.end ?_
  refine Go.seq noJ_ok ?_
  refine Go.region noJ_ok rfl ?_
  refine GoR.op rfl rfl (ld3 rfl f1 rfl) rfl ?_
  refine GoR.op rfl rfl rfl rfl ?_
  refine GoR.store rfl rfl rfl rfl rfl rfl f1 rfl sz3 rfl rfl rfl fun h3 u3 => ?_
  replace f1 := u3.has f1
  replace e0 := e0.upd u3 (by omega)
  refine GoR.op rfl rfl rfl rfl ?_
  refine GoR.end ?_
  exact Go.ret noJ_ok (ret_end (aResult_of Tryz.func30 rfl (aResults_c rfl f1 (inCells_one ag3 rfl) rfl)) ⟨rfl, e0⟩)
end Go.Proofs.YtkcimfopboelaaaGreat

namespace Go.Proofs.YtkcimfopboelaaaGreat
open Go Go.AbsE
set_option linter.unusedSimpArgs false
set_option maxRecDepth 100000
set_option maxHeartbeats 0
set_option linter.unusedVariables false
theorem in86_ok {n a b : Int} {h : AH} : Runs Tryz.prog 86 [.int .i64 n, .int .i64 a, .int .i64 b] h (fun en h' => en = .ret (.bool (decide (a ≤ n ∧ n ≤ b))) ∧ Ext h h') := by
 have e0 : Ext h h := Ext.refl _
 refine Runs.intro aFunc86 rfl rfl rfl rfl fun rest => ?_
 refine Go.seq noJ_ok ?_
 refine Go.region noJ_ok rfl ?_
 refine GoR.op rfl rfl rfl rfl ?_
 refine GoR.end ?_
 refine Go.seq noJ_ok ?_
 refine Go.region noJ_ok rfl ?_
 iterate 2 refine GoR.op rfl rfl rfl rfl ?_
 by_cases hs0 : (a : Int) ≤ n
 ·refine GoR.op rfl rfl (aOp_leq rfl rfl (r := true) (decide_eq_true (by omega))) rfl ?_
  iterate 3 refine GoR.op rfl rfl rfl rfl ?_
  by_cases hs1 : (n : Int) ≤ b
  ·refine GoR.op rfl rfl (aOp_leq rfl rfl (r := true) (decide_eq_true (by omega))) rfl ?_
   iterate 2 refine GoR.op rfl rfl rfl rfl ?_
   refine GoR.end ?_
   exact Go.ret noJ_ok (ret_end (aResult_of Tryz.func86 rfl rfl) ⟨ret_true (by omega), e0⟩)
  ·refine GoR.op rfl rfl (aOp_leq rfl rfl (r := false) (decide_eq_false (by omega))) rfl ?_
   iterate 2 refine GoR.op rfl rfl rfl rfl ?_
   refine GoR.end ?_
   exact Go.ret noJ_ok (ret_end (aResult_of Tryz.func86 rfl rfl) ⟨ret_false (by omega), e0⟩)
 ·refine GoR.op rfl rfl (aOp_leq rfl rfl (r := false) (decide_eq_false (by omega))) rfl ?_
  refine GoR.op rfl rfl rfl rfl ?_
  iterate 3 refine GoR.skip rfl rfl rfl ?_
  iterate 2 refine GoR.op rfl rfl rfl rfl ?_
  refine GoR.end ?_
  exact Go.ret noJ_ok (ret_end (aResult_of Tryz.func86 rfl rfl) ⟨ret_false (by omega), e0⟩)
theorem in86_is {n a b : Int} {r : Bool} (hr : decide (a ≤ n ∧ n ≤ b) = r) {h : AH} : Runs Tryz.prog 86 [.int .i64 n, .int .i64 a, .int .i64 b] h (fun en h' => en = .ret (.bool r) ∧ Ext h h') := by
 rw [← hr]
 exact in86_ok
theorem span87_ok {lo hi a b m : Int} (ha : -1000 ≤ a) (hb : b ≤ 1000) {h : AH} : Runs Tryz.prog 87 [.agg [.int .i64 lo, .int .i64 hi], .int .i64 a, .int .i64 b, .int .i64 m] h (fun en h' => en = .ret (.bool (decide (a ≤ lo ∧ lo ≤ hi ∧ hi ≤ b ∧ hi - lo ≤ m))) ∧ Ext h h') := by
 have e0 : Ext h h := Ext.refl _
 refine Runs.intro aFunc87 rfl rfl rfl rfl fun rest => ?_
 refine Go.seq noJ_ok ?_
 refine Go.region noJ_ok rfl ?_
 refine GoR.box rfl rfl rfl rfl rfl rfl fun h0 x0 f0 => ?_
 have := e0.1
 replace e0 := e0.trans x0
 have := f0.1
 refine GoR.op rfl rfl rfl rfl ?_
 refine GoR.end ?_
 refine Go.seq noJ_ok ?_
 refine Go.region noJ_ok rfl ?_
 refine GoR.op rfl rfl rfl rfl ?_
 refine GoR.op rfl rfl (fa29_0 rfl) rfl ?_
 refine GoR.op rfl rfl (ld3 rfl f0 rfl) rfl ?_
 by_cases hs0 : (a : Int) ≤ lo
 ·refine GoR.op rfl rfl (aOp_leq rfl rfl (r := true) (decide_eq_true (by omega))) rfl ?_
  refine GoR.op rfl rfl rfl rfl ?_
  refine GoR.op rfl rfl (fa29_0 rfl) rfl ?_
  refine GoR.op rfl rfl (ld3 rfl f0 rfl) rfl ?_
  refine GoR.op rfl rfl (fa29_1 rfl) rfl ?_
  refine GoR.op rfl rfl (ld3 rfl f0 rfl) rfl ?_
  by_cases hs1 : (lo : Int) ≤ hi
  ·refine GoR.op rfl rfl (aOp_leq rfl rfl (r := true) (decide_eq_true (by omega))) rfl ?_
   iterate 2 refine GoR.op rfl rfl rfl rfl ?_
   refine GoR.op rfl rfl (fa29_1 rfl) rfl ?_
   refine GoR.op rfl rfl (ld3 rfl f0 rfl) rfl ?_
   refine GoR.op rfl rfl rfl rfl ?_
   by_cases hs2 : (hi : Int) ≤ b
   ·refine GoR.op rfl rfl (aOp_leq rfl rfl (r := true) (decide_eq_true (by omega))) rfl ?_
    iterate 2 refine GoR.op rfl rfl rfl rfl ?_
    refine GoR.op rfl rfl (fa29_1 rfl) rfl ?_
    refine GoR.op rfl rfl (ld3 rfl f0 rfl) rfl ?_
    refine GoR.op rfl rfl (fa29_0 rfl) rfl ?_
    refine GoR.op rfl rfl (ld3 rfl f0 rfl) rfl ?_
    refine GoR.op rfl rfl (aOp_sub rfl rfl (by constructor <;> omega) rfl) rfl ?_
    refine GoR.op rfl rfl rfl rfl ?_
    by_cases hs3 : (hi - lo : Int) ≤ m
    ·refine GoR.op rfl rfl (aOp_leq rfl rfl (r := true) (decide_eq_true (by omega))) rfl ?_
     iterate 2 refine GoR.op rfl rfl rfl rfl ?_
     refine GoR.end ?_
     exact Go.ret noJ_ok (ret_end (aResult_of Tryz.func87 rfl rfl) ⟨ret_true (by omega), e0⟩)
    ·refine GoR.op rfl rfl (aOp_leq rfl rfl (r := false) (decide_eq_false (by omega))) rfl ?_
     iterate 2 refine GoR.op rfl rfl rfl rfl ?_
     refine GoR.end ?_
     exact Go.ret noJ_ok (ret_end (aResult_of Tryz.func87 rfl rfl) ⟨ret_false (by omega), e0⟩)
   ·refine GoR.op rfl rfl (aOp_leq rfl rfl (r := false) (decide_eq_false (by omega))) rfl ?_
    iterate 2 refine GoR.op rfl rfl rfl rfl ?_
    iterate 7 refine GoR.skip rfl rfl rfl ?_
    iterate 2 refine GoR.op rfl rfl rfl rfl ?_
    refine GoR.end ?_
    exact Go.ret noJ_ok (ret_end (aResult_of Tryz.func87 rfl rfl) ⟨ret_false (by omega), e0⟩)
  ·refine GoR.op rfl rfl (aOp_leq rfl rfl (r := false) (decide_eq_false (by omega))) rfl ?_
   iterate 2 refine GoR.op rfl rfl rfl rfl ?_
   iterate 4 refine GoR.skip rfl rfl rfl ?_
   iterate 2 refine GoR.op rfl rfl rfl rfl ?_
   iterate 7 refine GoR.skip rfl rfl rfl ?_
   iterate 2 refine GoR.op rfl rfl rfl rfl ?_
   refine GoR.end ?_
   exact Go.ret noJ_ok (ret_end (aResult_of Tryz.func87 rfl rfl) ⟨ret_false (by omega), e0⟩)
 ·refine GoR.op rfl rfl (aOp_leq rfl rfl (r := false) (decide_eq_false (by omega))) rfl ?_
  refine GoR.op rfl rfl rfl rfl ?_
  iterate 5 refine GoR.skip rfl rfl rfl ?_
  iterate 2 refine GoR.op rfl rfl rfl rfl ?_
  iterate 4 refine GoR.skip rfl rfl rfl ?_
  iterate 2 refine GoR.op rfl rfl rfl rfl ?_
  iterate 7 refine GoR.skip rfl rfl rfl ?_
  iterate 2 refine GoR.op rfl rfl rfl rfl ?_
  refine GoR.end ?_
  exact Go.ret noJ_ok (ret_end (aResult_of Tryz.func87 rfl rfl) ⟨ret_false (by omega), e0⟩)
theorem span87_is {lo hi a b m : Int} (ha : -1000 ≤ a) (hb : b ≤ 1000) {r : Bool} (hr : decide (a ≤ lo ∧ lo ≤ hi ∧ hi ≤ b ∧ hi - lo ≤ m) = r) {h : AH} : Runs Tryz.prog 87 [.agg [.int .i64 lo, .int .i64 hi], .int .i64 a, .int .i64 b, .int .i64 m] h (fun en h' => en = .ret (.bool r) ∧ Ext h h') := by
 rw [← hr]
 exact span87_ok ha hb
theorem Part56_ok {R : RoadV} {psl esl : AVal} {n : Int} {h : AH} (A : RoadAt h R psl esl) (hl : R.ps.length ≤ 40) : Runs Tryz.prog 56 [.agg [psl, esl], .int .i64 n] h (fun en h' => en = .ret (.bool (decide (0 ≤ n ∧ n ≤ (R.ps.length : Int) - 1))) ∧ Ext h h') := by
 have hl1 := A.ps.len
 rw [List.length_map] at hl1
 have e0 : Ext h h := Ext.refl _
 refine Runs.intro aFunc56 rfl rfl rfl rfl fun rest => ?_
 refine Go.seq noJ_ok ?_
 refine Go.region noJ_ok rfl ?_
 refine GoR.box rfl rfl rfl rfl rfl rfl fun h0 x0 f0 => ?_
 replace e0 := e0.trans x0
 refine GoR.op rfl rfl rfl rfl ?_
 refine GoR.end ?_
 refine Go.seq noJ_ok ?_
 refine Go.region noJ_ok rfl ?_
 refine GoR.op rfl rfl rfl rfl ?_
 refine GoR.op rfl rfl (fa25_0 rfl) rfl ?_
 refine GoR.op rfl rfl (ld22 rfl f0 rfl) rfl ?_
 refine GoR.op rfl rfl (aOp_lenSlice Tryz.underlying22 rfl (by assumption)) rfl ?_
 refine GoR.op rfl rfl (aOp_sub rfl rfl (by constructor <;> omega) rfl) rfl ?_
 refine GoR.call rfl rfl (aOp_callFunc aFunc86 rfl) (in86_ok) ?_ (by rintro _ _ ⟨q, _⟩; cases q)
 rintro v1 h1 ⟨q, x1⟩
 cases q
 refine ⟨_, rfl, ?_⟩
 replace e0 := e0.trans x1
 refine GoR.op rfl rfl rfl rfl ?_
 refine GoR.end ?_
 exact Go.ret noJ_ok (ret_end (aResult_of Tryz.func56 rfl rfl) ⟨rfl, e0⟩)
theorem Part56_is {R : RoadV} {psl esl : AVal} {n : Int} {h : AH} (A : RoadAt h R psl esl) (hl : R.ps.length ≤ 40) {r : Bool} (hr : decide (0 ≤ n ∧ n ≤ (R.ps.length : Int) - 1) = r) : Runs Tryz.prog 56 [.agg [psl, esl], .int .i64 n] h (fun en h' => en = .ret (.bool r) ∧ Ext h h') := by
 rw [← hr]
 exact Part56_ok A hl
theorem event88_ok {R : RoadV} {psl esl : AVal} {h : AH} (A : RoadAt h R psl esl) (hl : R.ps.length ≤ 40) (e : EV) : Runs Tryz.prog 88 [.agg [psl, esl], .agg (EV.cells e)] h (fun en h' => en = .ret (.bool (decide (e.Ok R.ps.length))) ∧ Ext h h') := by
 unfold EV.cells
 by_cases k0 : e.kind = 0
 ·have hq : decide (e.Ok R.ps.length) = decide (0 ≤ e.ll ∧ e.ll ≤ e.lh ∧ e.lh ≤ 60 ∧ e.lh - e.ll ≤ 2) := decide_eq_decide.2 (by unfold EV.Ok; omega)
  rw [hq]
  have e0 : Ext h h := Ext.refl _
  refine Runs.intro aFunc88 rfl rfl rfl rfl fun rest => ?_
  refine Go.seq noJ_ok ?_
  refine Go.region noJ_ok rfl ?_
  refine GoR.box rfl rfl rfl rfl rfl rfl fun h0 x0 f0 => ?_
  replace e0 := e0.trans x0
  refine GoR.box rfl rfl rfl rfl rfl rfl fun h1 x1 f1 => ?_
  replace e0 := e0.trans x1
  refine GoR.op rfl rfl rfl rfl ?_
  refine GoR.end ?_
  iterate 2 refine Go.seq noJ_ok ?_
  refine Go.region noJ_ok rfl ?_
  refine GoR.op rfl rfl (fa62_0 rfl) rfl ?_
  refine GoR.op rfl rfl (ld3 rfl f1 rfl) rfl ?_
  refine GoR.end ?_
  refine Go.block noJ_ok ?_
  refine Go.seq noJ_ok ?_
  refine Go.region noJ_ok rfl ?_
  refine GoR.op rfl rfl (aOp_eql rfl rfl (r := true) (decide_eq_true (by omega))) rfl ?_
  refine GoR.op rfl rfl rfl rfl ?_
  refine GoR.end ?_
  refine Go.cond noJ_ok (b := true) rfl ?_
  refine Go.seq noJ_ok ?_
  refine Go.region noJ_ok rfl ?_
  refine GoR.op rfl rfl (fa62_1 rfl) rfl ?_
  refine GoR.op rfl rfl (ld29 rfl f1 rfl) rfl ?_
  refine GoR.call rfl rfl (aOp_callFunc aFunc87 rfl) (span87_ok (by omega) (by omega)) ?_ (by rintro _ _ ⟨q, _⟩; cases q)
  rintro v2 h2 ⟨q, x2⟩
  cases q
  refine ⟨_, rfl, ?_⟩
  replace e0 := e0.trans x2
  refine GoR.op rfl rfl rfl rfl ?_
  refine GoR.end ?_
  exact Go.ret noJ_ok (ret_end (aResult_of Tryz.func88 rfl rfl) ⟨rfl, e0⟩)
 ·by_cases k1 : e.kind = 1
  ·have hq : decide (e.Ok R.ps.length) = decide (1 ≤ e.days ∧ e.days ≤ 10) := decide_eq_decide.2 (by unfold EV.Ok; omega)
   rw [hq]
   have e0 : Ext h h := Ext.refl _
   refine Runs.intro aFunc88 rfl rfl rfl rfl fun rest => ?_
   refine Go.seq noJ_ok ?_
   refine Go.region noJ_ok rfl ?_
   refine GoR.box rfl rfl rfl rfl rfl rfl fun h0 x0 f0 => ?_
   replace e0 := e0.trans x0
   refine GoR.box rfl rfl rfl rfl rfl rfl fun h1 x1 f1 => ?_
   replace e0 := e0.trans x1
   refine GoR.op rfl rfl rfl rfl ?_
   refine GoR.end ?_
   iterate 2 refine Go.seq noJ_ok ?_
   refine Go.region noJ_ok rfl ?_
   refine GoR.op rfl rfl (fa62_0 rfl) rfl ?_
   refine GoR.op rfl rfl (ld3 rfl f1 rfl) rfl ?_
   refine GoR.end ?_
   refine Go.block noJ_ok ?_
   refine Go.seq noJ_ok ?_
   refine Go.region noJ_ok rfl ?_
   refine GoR.op rfl rfl (aOp_eql rfl rfl (r := false) (decide_eq_false (by omega))) rfl ?_
   refine GoR.op rfl rfl rfl rfl ?_
   refine GoR.end ?_
   refine Go.cond noJ_ok (b := false) rfl ?_
   refine Go.seq noJ_ok ?_
   refine Go.region noJ_ok rfl ?_
   refine GoR.op rfl rfl (aOp_eql rfl rfl (r := true) (decide_eq_true (by omega))) rfl ?_
   refine GoR.op rfl rfl rfl rfl ?_
   refine GoR.end ?_
   refine Go.cond noJ_ok (b := true) rfl ?_
   refine Go.seq noJ_ok ?_
   refine Go.region noJ_ok rfl ?_
   refine GoR.op rfl rfl (fa62_2 rfl) rfl ?_
   refine GoR.op rfl rfl (ld3 rfl f1 rfl) rfl ?_
   refine GoR.call rfl rfl (aOp_callFunc aFunc86 rfl) (in86_ok) ?_ (by rintro _ _ ⟨q, _⟩; cases q)
   rintro v2 h2 ⟨q, x2⟩
   cases q
   refine ⟨_, rfl, ?_⟩
   replace e0 := e0.trans x2
   refine GoR.op rfl rfl rfl rfl ?_
   refine GoR.end ?_
   exact Go.ret noJ_ok (ret_end (aResult_of Tryz.func88 rfl rfl) ⟨rfl, e0⟩)
  ·by_cases k2 : e.kind = 2
   ·by_cases k3 : 0 ≤ e.part ∧ e.part ≤ (R.ps.length : Int) - 1
    ·have hq : decide (e.Ok R.ps.length) = decide (-1000 ≤ e.wl ∧ e.wl ≤ e.wh ∧ e.wh ≤ 1000 ∧ e.wh - e.wl ≤ 2000) := decide_eq_decide.2 (by unfold EV.Ok; omega)
     rw [hq]
     have e0 : Ext h h := Ext.refl _
     refine Runs.intro aFunc88 rfl rfl rfl rfl fun rest => ?_
     refine Go.seq noJ_ok ?_
     refine Go.region noJ_ok rfl ?_
     refine GoR.box rfl rfl rfl rfl rfl rfl fun h0 x0 f0 => ?_
     replace e0 := e0.trans x0
     refine GoR.box rfl rfl rfl rfl rfl rfl fun h1 x1 f1 => ?_
     replace f0 := f0.ext x1
     replace e0 := e0.trans x1
     refine GoR.op rfl rfl rfl rfl ?_
     refine GoR.end ?_
     iterate 2 refine Go.seq noJ_ok ?_
     refine Go.region noJ_ok rfl ?_
     refine GoR.op rfl rfl (fa62_0 rfl) rfl ?_
     refine GoR.op rfl rfl (ld3 rfl f1 rfl) rfl ?_
     refine GoR.end ?_
     refine Go.block noJ_ok ?_
     refine Go.seq noJ_ok ?_
     refine Go.region noJ_ok rfl ?_
     refine GoR.op rfl rfl (aOp_eql rfl rfl (r := false) (decide_eq_false (by omega))) rfl ?_
     refine GoR.op rfl rfl rfl rfl ?_
     refine GoR.end ?_
     refine Go.cond noJ_ok (b := false) rfl ?_
     refine Go.seq noJ_ok ?_
     refine Go.region noJ_ok rfl ?_
     refine GoR.op rfl rfl (aOp_eql rfl rfl (r := false) (decide_eq_false (by omega))) rfl ?_
     refine GoR.op rfl rfl rfl rfl ?_
     refine GoR.end ?_
     refine Go.cond noJ_ok (b := false) rfl ?_
     refine Go.seq noJ_ok ?_
     refine Go.region noJ_ok rfl ?_
     refine GoR.op rfl rfl (aOp_eql rfl rfl (r := true) (decide_eq_true (by omega))) rfl ?_
     refine GoR.op rfl rfl rfl rfl ?_
     refine GoR.end ?_
     refine Go.cond noJ_ok (b := true) rfl ?_
     refine Go.seq noJ_ok ?_
     refine Go.region noJ_ok rfl ?_
     refine GoR.op rfl rfl (ld25 rfl f0 rfl) rfl ?_
     refine GoR.op rfl rfl (fa62_3 rfl) rfl ?_
     refine GoR.op rfl rfl (ld3 rfl f1 rfl) rfl ?_
     refine GoR.call rfl rfl (aOp_callFunc aFunc56 rfl) (Part56_is (A.ext e0) hl (r := true) (decide_eq_true k3)) ?_ (by rintro _ _ ⟨q, _⟩; cases q)
     rintro v2 h2 ⟨q, x2⟩
     cases q
     refine ⟨_, rfl, ?_⟩
     replace f1 := f1.ext x2
     replace e0 := e0.trans x2
     refine GoR.op rfl rfl rfl rfl ?_
     refine GoR.op rfl rfl (fa62_4 rfl) rfl ?_
     refine GoR.op rfl rfl (ld29 rfl f1 rfl) rfl ?_
     refine GoR.call rfl rfl (aOp_callFunc aFunc87 rfl) (span87_ok (by omega) (by omega)) ?_ (by rintro _ _ ⟨q, _⟩; cases q)
     rintro v3 h3 ⟨q, x3⟩
     cases q
     refine ⟨_, rfl, ?_⟩
     replace e0 := e0.trans x3
     iterate 2 refine GoR.op rfl rfl rfl rfl ?_
     refine GoR.end ?_
     exact Go.ret noJ_ok (ret_end (aResult_of Tryz.func88 rfl rfl) ⟨rfl, e0⟩)
    ·rw [show decide (e.Ok R.ps.length) = false from decide_eq_false (by unfold EV.Ok; omega)]
     have e0 : Ext h h := Ext.refl _
     refine Runs.intro aFunc88 rfl rfl rfl rfl fun rest => ?_
     refine Go.seq noJ_ok ?_
     refine Go.region noJ_ok rfl ?_
     refine GoR.box rfl rfl rfl rfl rfl rfl fun h0 x0 f0 => ?_
     replace e0 := e0.trans x0
     refine GoR.box rfl rfl rfl rfl rfl rfl fun h1 x1 f1 => ?_
     replace f0 := f0.ext x1
     replace e0 := e0.trans x1
     refine GoR.op rfl rfl rfl rfl ?_
     refine GoR.end ?_
     iterate 2 refine Go.seq noJ_ok ?_
     refine Go.region noJ_ok rfl ?_
     refine GoR.op rfl rfl (fa62_0 rfl) rfl ?_
     refine GoR.op rfl rfl (ld3 rfl f1 rfl) rfl ?_
     refine GoR.end ?_
     refine Go.block noJ_ok ?_
     refine Go.seq noJ_ok ?_
     refine Go.region noJ_ok rfl ?_
     refine GoR.op rfl rfl (aOp_eql rfl rfl (r := false) (decide_eq_false (by omega))) rfl ?_
     refine GoR.op rfl rfl rfl rfl ?_
     refine GoR.end ?_
     refine Go.cond noJ_ok (b := false) rfl ?_
     refine Go.seq noJ_ok ?_
     refine Go.region noJ_ok rfl ?_
     refine GoR.op rfl rfl (aOp_eql rfl rfl (r := false) (decide_eq_false (by omega))) rfl ?_
     refine GoR.op rfl rfl rfl rfl ?_
     refine GoR.end ?_
     refine Go.cond noJ_ok (b := false) rfl ?_
     refine Go.seq noJ_ok ?_
     refine Go.region noJ_ok rfl ?_
     refine GoR.op rfl rfl (aOp_eql rfl rfl (r := true) (decide_eq_true (by omega))) rfl ?_
     refine GoR.op rfl rfl rfl rfl ?_
     refine GoR.end ?_
     refine Go.cond noJ_ok (b := true) rfl ?_
     refine Go.seq noJ_ok ?_
     refine Go.region noJ_ok rfl ?_
     refine GoR.op rfl rfl (ld25 rfl f0 rfl) rfl ?_
     refine GoR.op rfl rfl (fa62_3 rfl) rfl ?_
     refine GoR.op rfl rfl (ld3 rfl f1 rfl) rfl ?_
     refine GoR.call rfl rfl (aOp_callFunc aFunc56 rfl) (Part56_is (A.ext e0) hl (r := false) (decide_eq_false k3)) ?_ (by rintro _ _ ⟨q, _⟩; cases q)
     rintro v2 h2 ⟨q, x2⟩
     cases q
     refine ⟨_, rfl, ?_⟩
     replace e0 := e0.trans x2
     refine GoR.op rfl rfl rfl rfl ?_
     iterate 3 refine GoR.skip rfl rfl rfl ?_
     iterate 2 refine GoR.op rfl rfl rfl rfl ?_
     refine GoR.end ?_
     exact Go.ret noJ_ok (ret_end (aResult_of Tryz.func88 rfl rfl) ⟨rfl, e0⟩)
   ·rw [show decide (e.Ok R.ps.length) = false from decide_eq_false (by unfold EV.Ok; omega)]
    have e0 : Ext h h := Ext.refl _
    refine Runs.intro aFunc88 rfl rfl rfl rfl fun rest => ?_
    refine Go.seq noJ_ok ?_
    refine Go.region noJ_ok rfl ?_
    refine GoR.box rfl rfl rfl rfl rfl rfl fun h0 x0 f0 => ?_
    replace e0 := e0.trans x0
    refine GoR.box rfl rfl rfl rfl rfl rfl fun h1 x1 f1 => ?_
    replace e0 := e0.trans x1
    refine GoR.op rfl rfl rfl rfl ?_
    refine GoR.end ?_
    iterate 2 refine Go.seq noJ_ok ?_
    refine Go.region noJ_ok rfl ?_
    refine GoR.op rfl rfl (fa62_0 rfl) rfl ?_
    refine GoR.op rfl rfl (ld3 rfl f1 rfl) rfl ?_
    refine GoR.end ?_
    refine Go.block noJ_ok ?_
    refine Go.seq noJ_ok ?_
    refine Go.region noJ_ok rfl ?_
    refine GoR.op rfl rfl (aOp_eql rfl rfl (r := false) (decide_eq_false (by omega))) rfl ?_
    refine GoR.op rfl rfl rfl rfl ?_
    refine GoR.end ?_
    refine Go.cond noJ_ok (b := false) rfl ?_
    refine Go.seq noJ_ok ?_
    refine Go.region noJ_ok rfl ?_
    refine GoR.op rfl rfl (aOp_eql rfl rfl (r := false) (decide_eq_false (by omega))) rfl ?_
    refine GoR.op rfl rfl rfl rfl ?_
    refine GoR.end ?_
    refine Go.cond noJ_ok (b := false) rfl ?_
    refine Go.seq noJ_ok ?_
    refine Go.region noJ_ok rfl ?_
    refine GoR.op rfl rfl (aOp_eql rfl rfl (r := false) (decide_eq_false (by omega))) rfl ?_
    refine GoR.op rfl rfl rfl rfl ?_
    refine GoR.end ?_
    refine Go.cond noJ_ok (b := false) rfl ?_
    refine Go.code noJ_ok ?_
    refine Go.inBlock noJ_ok ?_
    refine Go.seq noJ_ok ?_
    refine Go.region noJ_ok rfl ?_
    refine GoR.op rfl rfl rfl rfl ?_
    refine GoR.end ?_
    exact Go.ret noJ_ok (ret_end (aResult_of Tryz.func88 rfl rfl) ⟨rfl, e0⟩)
theorem long13_ok {R : RoadV} {psl esl : AVal} {h : AH} (A : RoadAt h R psl esl) (hb : R.ps.length < 9223372036854775808 ∧ R.es.length < 9223372036854775808) : Runs Tryz.prog 13 [.agg [psl, esl]] h (fun en h' => en = .ret (.bool (decide (¬ (R.ps.length ≤ 40 ∧ R.es.length ≤ 40)))) ∧ Ext h h') := by
 have hl1 := A.ps.len
 have hl2 := A.es.len
 rw [List.length_map] at hl1 hl2
 have hm : (if (R.ps.length : Int) < (R.es.length : Int) then (R.es.length : Int) else (R.ps.length : Int)) = max (R.ps.length : Int) (R.es.length : Int) := by split <;> omega
 by_cases q : R.ps.length ≤ 40 ∧ R.es.length ≤ 40
 ·rw [decide_eq_false (by simpa using q)]
  have e0 : Ext h h := Ext.refl _
  refine Runs.intro aFunc13 rfl rfl rfl rfl fun rest => ?_
  refine Go.seq noJ_ok ?_
  refine Go.region noJ_ok rfl ?_
  refine GoR.box rfl rfl rfl rfl rfl rfl fun h0 x0 f0 => ?_
  replace e0 := e0.trans x0
  refine GoR.op rfl rfl rfl rfl ?_
  refine GoR.end ?_
  refine Go.seq noJ_ok ?_
  refine Go.region noJ_ok rfl ?_
  refine GoR.op rfl rfl (fa25_0 rfl) rfl ?_
  refine GoR.op rfl rfl (ld22 rfl f0 rfl) rfl ?_
  refine GoR.op rfl rfl (aOp_lenSlice Tryz.underlying22 rfl (by assumption)) rfl ?_
  refine GoR.op rfl rfl (fa25_1 rfl) rfl ?_
  refine GoR.op rfl rfl (ld23 rfl f0 rfl) rfl ?_
  refine GoR.op rfl rfl (aOp_lenSlice Tryz.underlying23 rfl (by assumption)) rfl ?_
  refine GoR.op rfl rfl (aOp_max2 rfl rfl hm) rfl ?_
  refine GoR.op rfl rfl (aOp_gtr rfl rfl (r := false) (decide_eq_false (by omega))) rfl ?_
  refine GoR.op rfl rfl rfl rfl ?_
  refine GoR.end ?_
  exact Go.ret noJ_ok (ret_end (aResult_of Tryz.func13 rfl rfl) ⟨rfl, e0⟩)
 ·rw [decide_eq_true q]
  have e0 : Ext h h := Ext.refl _
  refine Runs.intro aFunc13 rfl rfl rfl rfl fun rest => ?_
  refine Go.seq noJ_ok ?_
  refine Go.region noJ_ok rfl ?_
  refine GoR.box rfl rfl rfl rfl rfl rfl fun h0 x0 f0 => ?_
  replace e0 := e0.trans x0
  refine GoR.op rfl rfl rfl rfl ?_
  refine GoR.end ?_
  refine Go.seq noJ_ok ?_
  refine Go.region noJ_ok rfl ?_
  refine GoR.op rfl rfl (fa25_0 rfl) rfl ?_
  refine GoR.op rfl rfl (ld22 rfl f0 rfl) rfl ?_
  refine GoR.op rfl rfl (aOp_lenSlice Tryz.underlying22 rfl (by assumption)) rfl ?_
  refine GoR.op rfl rfl (fa25_1 rfl) rfl ?_
  refine GoR.op rfl rfl (ld23 rfl f0 rfl) rfl ?_
  refine GoR.op rfl rfl (aOp_lenSlice Tryz.underlying23 rfl (by assumption)) rfl ?_
  refine GoR.op rfl rfl (aOp_max2 rfl rfl hm) rfl ?_
  refine GoR.op rfl rfl (aOp_gtr rfl rfl (r := true) (decide_eq_true (by omega))) rfl ?_
  refine GoR.op rfl rfl rfl rfl ?_
  refine GoR.end ?_
  exact Go.ret noJ_ok (ret_end (aResult_of Tryz.func13 rfl rfl) ⟨rfl, e0⟩)
theorem Road36_ok {R : RoadV} {psl esl : AVal} {h : AH} (A : RoadAt h R psl esl) (hb1 : R.ps.length ≤ 40) (hb2 : R.es.length ≤ 40) : Runs Tryz.prog 36 [.agg [psl, esl]] h (fun en h' => en = .ret (.bool (decide R.Ok)) ∧ Ext h h') := by
 have hl1 := A.ps.len
 have hl2 := A.es.len
 rw [List.length_map] at hl1 hl2
 by_cases c1 : 1 ≤ R.ps.length ∧ R.ps.length ≤ 4 ∧ R.es.length ≤ 10
 ·have e0 : Ext h h := Ext.refl _
  refine Runs.intro aFunc36 rfl rfl rfl rfl fun rest => ?_
  refine Go.seq noJ_ok ?_
  refine Go.region noJ_ok rfl ?_
  refine GoR.box rfl rfl rfl rfl rfl rfl fun h0 x0 f0 => ?_
  have := e0.1
  replace e0 := e0.trans x0
  have := f0.1
  refine GoR.op rfl rfl rfl rfl ?_
  refine GoR.end ?_
  iterate 2 refine Go.seq noJ_ok ?_
  refine Go.region noJ_ok rfl ?_
  refine GoR.op rfl rfl (fa25_0 rfl) rfl ?_
  refine GoR.op rfl rfl (ld22 rfl f0 rfl) rfl ?_
  refine GoR.op rfl rfl (aOp_lenSlice Tryz.underlying22 rfl (by assumption)) rfl ?_
  refine GoR.call rfl rfl (aOp_callFunc aFunc86 rfl) (in86_is (r := true) (decide_eq_true (by omega))) ?_ (by rintro _ _ ⟨q, _⟩; cases q)
  rintro v1 h1 ⟨q, x1⟩
  cases q
  refine ⟨_, rfl, ?_⟩
  replace f0 := f0.ext x1
  replace e0 := e0.trans x1
  iterate 2 refine GoR.op rfl rfl rfl rfl ?_
  refine GoR.op rfl rfl (fa25_1 rfl) rfl ?_
  refine GoR.op rfl rfl (ld23 rfl f0 rfl) rfl ?_
  refine GoR.op rfl rfl (aOp_lenSlice Tryz.underlying23 rfl (by assumption)) rfl ?_
  refine GoR.op rfl rfl (aOp_gtr rfl rfl (r := false) (decide_eq_false (by omega))) rfl ?_
  refine GoR.op rfl rfl rfl rfl ?_
  refine GoR.end ?_
  refine Go.cond noJ_ok (b := false) rfl ?_
  refine Go.code noJ_ok ?_
  iterate 2 refine Go.seq noJ_ok ?_
  refine Go.region noJ_ok rfl ?_
  refine GoR.op rfl rfl rfl rfl ?_
  refine GoR.end ?_
  refine Go.block noJ_ok ?_
  have hb0 := f0.1
  refine Go.loopKeep (fun i : Nat => [(1, .ptr h.next 0), (3, .int .i64 (i : Nat))]) (fun m i h' => m + i = R.ps.length ∧ Ext h h' ∧ Has h' h.next (.cells .plain [psl, esl] 25) ∧ ∀ p, p ∈ R.ps.take i → p.Ok) (n := R.ps.length) 0 ⟨rfl, rfl, trivial⟩ ⟨rfl, e0, f0, fun p hp => by simp at hp⟩ ?_
  clear e0 f0
  rintro m i hc ⟨hm, e0, f0, hok⟩ again
  have hce := e0.1
  have hb0 := f0.1
  by_cases hi : i < R.ps.length
  ·obtain ⟨p, hp⟩ : ∃ p, R.ps[i]? = some p := ⟨R.ps[i], by simp [hi]⟩
   have hpm := List.mem_of_getElem? hp
   obtain ⟨bq, off, q1, q2⟩ := A.ps.at (i := i) (l := PV.cells p) (by rw [List.getElem?_map, hp]; rfl)
   rw [List.length_map] at q1
   have hno : ¬ p.Ok → decide R.Ok = false := fun q => decide_eq_false fun O => q (O.p p hpm)
   unfold PV.cells at q2
   by_cases h1 : 0 ≤ p.full ∧ p.full ≤ 60
   ·by_cases h2 : 0 ≤ p.hl ∧ p.hl ≤ p.hh ∧ p.hh ≤ p.full ∧ p.hh - p.hl ≤ 2
    ·by_cases h3 : 1 ≤ p.sl ∧ p.sl ≤ p.sh ∧ p.sh ≤ 10 ∧ p.sh - p.sl ≤ 2
     ·by_cases h4 : 0 ≤ p.rl ∧ p.rl ≤ p.rh ∧ p.rh ≤ 5 ∧ p.rh - p.rl ≤ 2
      ·iterate 2 refine Go.seq noJ_ok ?_
       refine Go.region noJ_ok rfl ?_
       refine GoR.op rfl rfl rfl rfl ?_
       refine GoR.op rfl rfl (fa25_0 rfl) rfl ?_
       refine GoR.op rfl rfl (ld22 rfl f0 rfl) rfl ?_
       refine GoR.op rfl rfl (aOp_lenSlice Tryz.underlying22 rfl (by assumption)) rfl ?_
       refine GoR.op rfl rfl (aOp_lss rfl rfl (r := true) (decide_eq_true (by omega))) rfl ?_
       refine GoR.end ?_
       refine Go.cond noJ_ok (b := true) rfl ?_
       refine Go.code noJ_ok ?_
       refine Go.seq noJ_ok ?_
       refine Go.block noJ_ok ?_
       refine Go.seq noJ_ok ?_
       refine Go.region noJ_ok rfl ?_
       refine GoR.op rfl rfl (fa25_0 rfl) rfl ?_
       refine GoR.op rfl rfl (ld22 rfl f0 rfl) rfl ?_
       refine GoR.op rfl rfl rfl rfl ?_
       refine GoR.op rfl rfl (aOp_indexAddr (i := i) Tryz.underlying22 sz58 rfl (by assumption) rfl (Nat.ble_eq_true_of_le (by omega))) rfl ?_
       refine GoR.op rfl rfl (aOp_loadE ag58 sz58 rfl (q2.ext (by assumption))) rfl ?_
       refine GoR.alloc rfl rfl rfl zt58 rfl rfl fun h5 x5 f5 => ?_
       have := e0.1
       have := f0.1
       replace f0 := f0.ext x5
       replace e0 := e0.trans x5
       have := f5.1
       refine GoR.store rfl rfl rfl rfl rfl rfl f5 rfl sz58 rfl rfl rfl fun h6 u6 => ?_
       replace f5 := u6.has f5
       replace f0 := f0.upd u6 (by omega)
       replace e0 := e0.upd u6 (by omega)
       refine GoR.end ?_
       refine Go.seq noJ_ok ?_
       refine Go.region noJ_ok rfl ?_
       refine GoR.op rfl rfl (fa58_3 rfl) rfl ?_
       refine GoR.op rfl rfl (ld3 rfl f5 rfl) rfl ?_
       refine GoR.call rfl rfl (aOp_callFunc aFunc86 rfl) (in86_is (r := true) (decide_eq_true h1)) ?_ (by rintro _ _ ⟨q, _⟩; cases q)
       rintro v7 h7 ⟨q, x7⟩
       cases q
       refine ⟨_, rfl, ?_⟩
       replace f5 := f5.ext x7
       replace f0 := f0.ext x7
       replace e0 := e0.trans x7
       iterate 2 refine GoR.op rfl rfl rfl rfl ?_
       refine GoR.op rfl rfl (fa58_0 rfl) rfl ?_
       refine GoR.op rfl rfl (ld29 rfl f5 rfl) rfl ?_
       refine GoR.op rfl rfl (fa58_3 rfl) rfl ?_
       refine GoR.op rfl rfl (ld3 rfl f5 rfl) rfl ?_
       refine GoR.call rfl rfl (aOp_callFunc aFunc87 rfl) (span87_is (by omega) (by omega) (r := true) (decide_eq_true h2)) ?_ (by rintro _ _ ⟨q, _⟩; cases q)
       rintro v8 h8 ⟨q, x8⟩
       cases q
       refine ⟨_, rfl, ?_⟩
       replace f5 := f5.ext x8
       replace f0 := f0.ext x8
       replace e0 := e0.trans x8
       iterate 3 refine GoR.op rfl rfl rfl rfl ?_
       refine GoR.op rfl rfl (fa58_1 rfl) rfl ?_
       refine GoR.op rfl rfl (ld29 rfl f5 rfl) rfl ?_
       refine GoR.call rfl rfl (aOp_callFunc aFunc87 rfl) (span87_is (by omega) (by omega) (r := true) (decide_eq_true h3)) ?_ (by rintro _ _ ⟨q, _⟩; cases q)
       rintro v9 h9 ⟨q, x9⟩
       cases q
       refine ⟨_, rfl, ?_⟩
       replace f5 := f5.ext x9
       replace f0 := f0.ext x9
       replace e0 := e0.trans x9
       iterate 3 refine GoR.op rfl rfl rfl rfl ?_
       refine GoR.op rfl rfl (fa58_2 rfl) rfl ?_
       refine GoR.op rfl rfl (ld29 rfl f5 rfl) rfl ?_
       refine GoR.call rfl rfl (aOp_callFunc aFunc87 rfl) (span87_is (by omega) (by omega) (r := true) (decide_eq_true h4)) ?_ (by rintro _ _ ⟨q, _⟩; cases q)
       rintro v10 h10 ⟨q, x10⟩
       cases q
       refine ⟨_, rfl, ?_⟩
       replace f0 := f0.ext x10
       replace e0 := e0.trans x10
       iterate 2 refine GoR.op rfl rfl rfl rfl ?_
       refine GoR.end ?_
       refine Go.cond noJ_ok (b := false) rfl ?_
       refine Go.code noJ_ok ?_
       refine Go.inBlock noJ_ok ?_
       refine Go.region noJ_ok rfl ?_
       refine GoR.op rfl rfl rfl rfl ?_
       refine GoR.op rfl rfl (aOp_add rfl rfl (by constructor <;> omega) rfl) rfl ?_
       refine GoR.op rfl rfl rfl rfl ?_
       refine GoR.end ?_
       refine again (m - 1) (i + 1) _ _ (by omega) ⟨rfl, rfl, trivial⟩ ⟨by omega, e0, f0, fun p' hp' => ?_⟩
       rw [List.take_add_one, hp, Option.toList_some, List.mem_append, List.mem_singleton] at hp'
       rcases hp' with hp' | rfl
       ·exact hok p' hp'
       ·exact ⟨h1, h2, h3, h4⟩
      ·rw [hno fun q => h4 q.2.2.2]
       iterate 2 refine Go.seq noJ_ok ?_
       refine Go.region noJ_ok rfl ?_
       refine GoR.op rfl rfl rfl rfl ?_
       refine GoR.op rfl rfl (fa25_0 rfl) rfl ?_
       refine GoR.op rfl rfl (ld22 rfl f0 rfl) rfl ?_
       refine GoR.op rfl rfl (aOp_lenSlice Tryz.underlying22 rfl (by assumption)) rfl ?_
       refine GoR.op rfl rfl (aOp_lss rfl rfl (r := true) (decide_eq_true (by omega))) rfl ?_
       refine GoR.end ?_
       refine Go.cond noJ_ok (b := true) rfl ?_
       refine Go.code noJ_ok ?_
       refine Go.seq noJ_ok ?_
       refine Go.block noJ_ok ?_
       refine Go.seq noJ_ok ?_
       refine Go.region noJ_ok rfl ?_
       refine GoR.op rfl rfl (fa25_0 rfl) rfl ?_
       refine GoR.op rfl rfl (ld22 rfl f0 rfl) rfl ?_
       refine GoR.op rfl rfl rfl rfl ?_
       refine GoR.op rfl rfl (aOp_indexAddr (i := i) Tryz.underlying22 sz58 rfl (by assumption) rfl (Nat.ble_eq_true_of_le (by omega))) rfl ?_
       refine GoR.op rfl rfl (aOp_loadE ag58 sz58 rfl (q2.ext (by assumption))) rfl ?_
       refine GoR.alloc rfl rfl rfl zt58 rfl rfl fun h5 x5 f5 => ?_
       have := e0.1
       have := f0.1
       replace e0 := e0.trans x5
       have := f5.1
       refine GoR.store rfl rfl rfl rfl rfl rfl f5 rfl sz58 rfl rfl rfl fun h6 u6 => ?_
       replace f5 := u6.has f5
       replace e0 := e0.upd u6 (by omega)
       refine GoR.end ?_
       refine Go.seq noJ_ok ?_
       refine Go.region noJ_ok rfl ?_
       refine GoR.op rfl rfl (fa58_3 rfl) rfl ?_
       refine GoR.op rfl rfl (ld3 rfl f5 rfl) rfl ?_
       refine GoR.call rfl rfl (aOp_callFunc aFunc86 rfl) (in86_is (r := true) (decide_eq_true h1)) ?_ (by rintro _ _ ⟨q, _⟩; cases q)
       rintro v7 h7 ⟨q, x7⟩
       cases q
       refine ⟨_, rfl, ?_⟩
       replace f5 := f5.ext x7
       replace e0 := e0.trans x7
       iterate 2 refine GoR.op rfl rfl rfl rfl ?_
       refine GoR.op rfl rfl (fa58_0 rfl) rfl ?_
       refine GoR.op rfl rfl (ld29 rfl f5 rfl) rfl ?_
       refine GoR.op rfl rfl (fa58_3 rfl) rfl ?_
       refine GoR.op rfl rfl (ld3 rfl f5 rfl) rfl ?_
       refine GoR.call rfl rfl (aOp_callFunc aFunc87 rfl) (span87_is (by omega) (by omega) (r := true) (decide_eq_true h2)) ?_ (by rintro _ _ ⟨q, _⟩; cases q)
       rintro v8 h8 ⟨q, x8⟩
       cases q
       refine ⟨_, rfl, ?_⟩
       replace f5 := f5.ext x8
       replace e0 := e0.trans x8
       iterate 3 refine GoR.op rfl rfl rfl rfl ?_
       refine GoR.op rfl rfl (fa58_1 rfl) rfl ?_
       refine GoR.op rfl rfl (ld29 rfl f5 rfl) rfl ?_
       refine GoR.call rfl rfl (aOp_callFunc aFunc87 rfl) (span87_is (by omega) (by omega) (r := true) (decide_eq_true h3)) ?_ (by rintro _ _ ⟨q, _⟩; cases q)
       rintro v9 h9 ⟨q, x9⟩
       cases q
       refine ⟨_, rfl, ?_⟩
       replace f5 := f5.ext x9
       replace e0 := e0.trans x9
       iterate 3 refine GoR.op rfl rfl rfl rfl ?_
       refine GoR.op rfl rfl (fa58_2 rfl) rfl ?_
       refine GoR.op rfl rfl (ld29 rfl f5 rfl) rfl ?_
       refine GoR.call rfl rfl (aOp_callFunc aFunc87 rfl) (span87_is (by omega) (by omega) (r := false) (decide_eq_false h4)) ?_ (by rintro _ _ ⟨q, _⟩; cases q)
       rintro v10 h10 ⟨q, x10⟩
       cases q
       refine ⟨_, rfl, ?_⟩
       replace e0 := e0.trans x10
       iterate 2 refine GoR.op rfl rfl rfl rfl ?_
       refine GoR.end ?_
       refine Go.cond noJ_ok (b := true) rfl ?_
       refine Go.seq noJ_ok ?_
       refine Go.region noJ_ok rfl ?_
       refine GoR.op rfl rfl rfl rfl ?_
       refine GoR.end ?_
       exact Go.ret noJ_ok (ret_end (aResult_of Tryz.func36 rfl rfl) ⟨rfl, e0⟩)
     ·rw [hno fun q => h3 q.2.2.1]
      iterate 2 refine Go.seq noJ_ok ?_
      refine Go.region noJ_ok rfl ?_
      refine GoR.op rfl rfl rfl rfl ?_
      refine GoR.op rfl rfl (fa25_0 rfl) rfl ?_
      refine GoR.op rfl rfl (ld22 rfl f0 rfl) rfl ?_
      refine GoR.op rfl rfl (aOp_lenSlice Tryz.underlying22 rfl (by assumption)) rfl ?_
      refine GoR.op rfl rfl (aOp_lss rfl rfl (r := true) (decide_eq_true (by omega))) rfl ?_
      refine GoR.end ?_
      refine Go.cond noJ_ok (b := true) rfl ?_
      refine Go.code noJ_ok ?_
      refine Go.seq noJ_ok ?_
      refine Go.block noJ_ok ?_
      refine Go.seq noJ_ok ?_
      refine Go.region noJ_ok rfl ?_
      refine GoR.op rfl rfl (fa25_0 rfl) rfl ?_
      refine GoR.op rfl rfl (ld22 rfl f0 rfl) rfl ?_
      refine GoR.op rfl rfl rfl rfl ?_
      refine GoR.op rfl rfl (aOp_indexAddr (i := i) Tryz.underlying22 sz58 rfl (by assumption) rfl (Nat.ble_eq_true_of_le (by omega))) rfl ?_
      refine GoR.op rfl rfl (aOp_loadE ag58 sz58 rfl (q2.ext (by assumption))) rfl ?_
      refine GoR.alloc rfl rfl rfl zt58 rfl rfl fun h4 x4 f4 => ?_
      have := e0.1
      have := f0.1
      replace e0 := e0.trans x4
      have := f4.1
      refine GoR.store rfl rfl rfl rfl rfl rfl f4 rfl sz58 rfl rfl rfl fun h5 u5 => ?_
      replace f4 := u5.has f4
      replace e0 := e0.upd u5 (by omega)
      refine GoR.end ?_
      refine Go.seq noJ_ok ?_
      refine Go.region noJ_ok rfl ?_
      refine GoR.op rfl rfl (fa58_3 rfl) rfl ?_
      refine GoR.op rfl rfl (ld3 rfl f4 rfl) rfl ?_
      refine GoR.call rfl rfl (aOp_callFunc aFunc86 rfl) (in86_is (r := true) (decide_eq_true h1)) ?_ (by rintro _ _ ⟨q, _⟩; cases q)
      rintro v6 h6 ⟨q, x6⟩
      cases q
      refine ⟨_, rfl, ?_⟩
      replace f4 := f4.ext x6
      replace e0 := e0.trans x6
      iterate 2 refine GoR.op rfl rfl rfl rfl ?_
      refine GoR.op rfl rfl (fa58_0 rfl) rfl ?_
      refine GoR.op rfl rfl (ld29 rfl f4 rfl) rfl ?_
      refine GoR.op rfl rfl (fa58_3 rfl) rfl ?_
      refine GoR.op rfl rfl (ld3 rfl f4 rfl) rfl ?_
      refine GoR.call rfl rfl (aOp_callFunc aFunc87 rfl) (span87_is (by omega) (by omega) (r := true) (decide_eq_true h2)) ?_ (by rintro _ _ ⟨q, _⟩; cases q)
      rintro v7 h7 ⟨q, x7⟩
      cases q
      refine ⟨_, rfl, ?_⟩
      replace f4 := f4.ext x7
      replace e0 := e0.trans x7
      iterate 3 refine GoR.op rfl rfl rfl rfl ?_
      refine GoR.op rfl rfl (fa58_1 rfl) rfl ?_
      refine GoR.op rfl rfl (ld29 rfl f4 rfl) rfl ?_
      refine GoR.call rfl rfl (aOp_callFunc aFunc87 rfl) (span87_is (by omega) (by omega) (r := false) (decide_eq_false h3)) ?_ (by rintro _ _ ⟨q, _⟩; cases q)
      rintro v8 h8 ⟨q, x8⟩
      cases q
      refine ⟨_, rfl, ?_⟩
      replace e0 := e0.trans x8
      iterate 3 refine GoR.op rfl rfl rfl rfl ?_
      iterate 4 refine GoR.skip rfl rfl rfl ?_
      refine GoR.op rfl rfl rfl rfl ?_
      refine GoR.end ?_
      refine Go.cond noJ_ok (b := true) rfl ?_
      refine Go.seq noJ_ok ?_
      refine Go.region noJ_ok rfl ?_
      refine GoR.op rfl rfl rfl rfl ?_
      refine GoR.end ?_
      exact Go.ret noJ_ok (ret_end (aResult_of Tryz.func36 rfl rfl) ⟨rfl, e0⟩)
    ·rw [hno fun q => h2 q.2.1]
     iterate 2 refine Go.seq noJ_ok ?_
     refine Go.region noJ_ok rfl ?_
     refine GoR.op rfl rfl rfl rfl ?_
     refine GoR.op rfl rfl (fa25_0 rfl) rfl ?_
     refine GoR.op rfl rfl (ld22 rfl f0 rfl) rfl ?_
     refine GoR.op rfl rfl (aOp_lenSlice Tryz.underlying22 rfl (by assumption)) rfl ?_
     refine GoR.op rfl rfl (aOp_lss rfl rfl (r := true) (decide_eq_true (by omega))) rfl ?_
     refine GoR.end ?_
     refine Go.cond noJ_ok (b := true) rfl ?_
     refine Go.code noJ_ok ?_
     refine Go.seq noJ_ok ?_
     refine Go.block noJ_ok ?_
     refine Go.seq noJ_ok ?_
     refine Go.region noJ_ok rfl ?_
     refine GoR.op rfl rfl (fa25_0 rfl) rfl ?_
     refine GoR.op rfl rfl (ld22 rfl f0 rfl) rfl ?_
     refine GoR.op rfl rfl rfl rfl ?_
     refine GoR.op rfl rfl (aOp_indexAddr (i := i) Tryz.underlying22 sz58 rfl (by assumption) rfl (Nat.ble_eq_true_of_le (by omega))) rfl ?_
     refine GoR.op rfl rfl (aOp_loadE ag58 sz58 rfl (q2.ext (by assumption))) rfl ?_
     refine GoR.alloc rfl rfl rfl zt58 rfl rfl fun h3 x3 f3 => ?_
     have := e0.1
     have := f0.1
     replace e0 := e0.trans x3
     have := f3.1
     refine GoR.store rfl rfl rfl rfl rfl rfl f3 rfl sz58 rfl rfl rfl fun h4 u4 => ?_
     replace f3 := u4.has f3
     replace e0 := e0.upd u4 (by omega)
     refine GoR.end ?_
     refine Go.seq noJ_ok ?_
     refine Go.region noJ_ok rfl ?_
     refine GoR.op rfl rfl (fa58_3 rfl) rfl ?_
     refine GoR.op rfl rfl (ld3 rfl f3 rfl) rfl ?_
     refine GoR.call rfl rfl (aOp_callFunc aFunc86 rfl) (in86_is (r := true) (decide_eq_true h1)) ?_ (by rintro _ _ ⟨q, _⟩; cases q)
     rintro v5 h5 ⟨q, x5⟩
     cases q
     refine ⟨_, rfl, ?_⟩
     replace f3 := f3.ext x5
     replace e0 := e0.trans x5
     iterate 2 refine GoR.op rfl rfl rfl rfl ?_
     refine GoR.op rfl rfl (fa58_0 rfl) rfl ?_
     refine GoR.op rfl rfl (ld29 rfl f3 rfl) rfl ?_
     refine GoR.op rfl rfl (fa58_3 rfl) rfl ?_
     refine GoR.op rfl rfl (ld3 rfl f3 rfl) rfl ?_
     refine GoR.call rfl rfl (aOp_callFunc aFunc87 rfl) (span87_is (by omega) (by omega) (r := false) (decide_eq_false h2)) ?_ (by rintro _ _ ⟨q, _⟩; cases q)
     rintro v6 h6 ⟨q, x6⟩
     cases q
     refine ⟨_, rfl, ?_⟩
     replace e0 := e0.trans x6
     iterate 3 refine GoR.op rfl rfl rfl rfl ?_
     iterate 4 refine GoR.skip rfl rfl rfl ?_
     iterate 2 refine GoR.op rfl rfl rfl rfl ?_
     iterate 4 refine GoR.skip rfl rfl rfl ?_
     refine GoR.op rfl rfl rfl rfl ?_
     refine GoR.end ?_
     refine Go.cond noJ_ok (b := true) rfl ?_
     refine Go.seq noJ_ok ?_
     refine Go.region noJ_ok rfl ?_
     refine GoR.op rfl rfl rfl rfl ?_
     refine GoR.end ?_
     exact Go.ret noJ_ok (ret_end (aResult_of Tryz.func36 rfl rfl) ⟨rfl, e0⟩)
   ·rw [hno fun q => h1 q.1]
    iterate 2 refine Go.seq noJ_ok ?_
    refine Go.region noJ_ok rfl ?_
    refine GoR.op rfl rfl rfl rfl ?_
    refine GoR.op rfl rfl (fa25_0 rfl) rfl ?_
    refine GoR.op rfl rfl (ld22 rfl f0 rfl) rfl ?_
    refine GoR.op rfl rfl (aOp_lenSlice Tryz.underlying22 rfl (by assumption)) rfl ?_
    refine GoR.op rfl rfl (aOp_lss rfl rfl (r := true) (decide_eq_true (by omega))) rfl ?_
    refine GoR.end ?_
    refine Go.cond noJ_ok (b := true) rfl ?_
    refine Go.code noJ_ok ?_
    refine Go.seq noJ_ok ?_
    refine Go.block noJ_ok ?_
    refine Go.seq noJ_ok ?_
    refine Go.region noJ_ok rfl ?_
    refine GoR.op rfl rfl (fa25_0 rfl) rfl ?_
    refine GoR.op rfl rfl (ld22 rfl f0 rfl) rfl ?_
    refine GoR.op rfl rfl rfl rfl ?_
    refine GoR.op rfl rfl (aOp_indexAddr (i := i) Tryz.underlying22 sz58 rfl (by assumption) rfl (Nat.ble_eq_true_of_le (by omega))) rfl ?_
    refine GoR.op rfl rfl (aOp_loadE ag58 sz58 rfl (q2.ext (by assumption))) rfl ?_
    refine GoR.alloc rfl rfl rfl zt58 rfl rfl fun h2 x2 f2 => ?_
    have := e0.1
    have := f0.1
    replace e0 := e0.trans x2
    have := f2.1
    refine GoR.store rfl rfl rfl rfl rfl rfl f2 rfl sz58 rfl rfl rfl fun h3 u3 => ?_
    replace f2 := u3.has f2
    replace e0 := e0.upd u3 (by omega)
    refine GoR.end ?_
    refine Go.seq noJ_ok ?_
    refine Go.region noJ_ok rfl ?_
    refine GoR.op rfl rfl (fa58_3 rfl) rfl ?_
    refine GoR.op rfl rfl (ld3 rfl f2 rfl) rfl ?_
    refine GoR.call rfl rfl (aOp_callFunc aFunc86 rfl) (in86_is (r := false) (decide_eq_false h1)) ?_ (by rintro _ _ ⟨q, _⟩; cases q)
    rintro v4 h4 ⟨q, x4⟩
    cases q
    refine ⟨_, rfl, ?_⟩
    replace e0 := e0.trans x4
    iterate 2 refine GoR.op rfl rfl rfl rfl ?_
    iterate 6 refine GoR.skip rfl rfl rfl ?_
    iterate 2 refine GoR.op rfl rfl rfl rfl ?_
    iterate 4 refine GoR.skip rfl rfl rfl ?_
    iterate 2 refine GoR.op rfl rfl rfl rfl ?_
    iterate 4 refine GoR.skip rfl rfl rfl ?_
    refine GoR.op rfl rfl rfl rfl ?_
    refine GoR.end ?_
    refine Go.cond noJ_ok (b := true) rfl ?_
    refine Go.seq noJ_ok ?_
    refine Go.region noJ_ok rfl ?_
    refine GoR.op rfl rfl rfl rfl ?_
    refine GoR.end ?_
    exact Go.ret noJ_ok (ret_end (aResult_of Tryz.func36 rfl rfl) ⟨rfl, e0⟩)
  ·rw [List.take_of_length_le (by omega)] at hok
   iterate 2 refine Go.seq noJ_ok ?_
   refine Go.region noJ_ok rfl ?_
   refine GoR.op rfl rfl rfl rfl ?_
   refine GoR.op rfl rfl (fa25_0 rfl) rfl ?_
   refine GoR.op rfl rfl (ld22 rfl f0 rfl) rfl ?_
   refine GoR.op rfl rfl (aOp_lenSlice Tryz.underlying22 rfl (by assumption)) rfl ?_
   refine GoR.op rfl rfl (aOp_lss rfl rfl (r := false) (decide_eq_false (by omega))) rfl ?_
   refine GoR.end ?_
   refine Go.cond noJ_ok (b := false) rfl ?_
   refine Go.code noJ_ok ?_
   refine Go.seq noJ_ok ?_
   refine Go.region noJ_ok rfl ?_
   refine GoR.op rfl rfl rfl rfl ?_
   refine GoR.end ?_
   iterate 2 refine Go.seq noJ_ok ?_
   refine Go.region noJ_ok rfl ?_
   refine GoR.op rfl rfl rfl rfl ?_
   refine GoR.end ?_
   refine Go.block noJ_ok ?_
   refine Go.loopKeep (fun i : Nat => [(1, .ptr h.next 0), (5, .int .i64 (doubtsV (R.es.take i) : Nat)), (6, .int .i64 (i : Nat))]) (fun m i h' => m + i = R.es.length ∧ Ext h h' ∧ Has h' h.next (.cells .plain [psl, esl] 25) ∧ ∀ e, e ∈ R.es.take i → e.Ok R.ps.length) (n := R.es.length) 0 ⟨rfl, rfl, rfl, trivial⟩ ⟨rfl, e0, f0, fun p hp => by simp at hp⟩ ?_
   clear e0 f0 again
   rintro m i hc ⟨hm, e0, f0, hok2⟩ again
   have hce := e0.1
   have hb0 := f0.1
   by_cases hi2 : i < R.es.length
   ·obtain ⟨e, he⟩ : ∃ e, R.es[i]? = some e := ⟨R.es[i], by simp [hi2]⟩
    have hem := List.mem_of_getElem? he
    obtain ⟨bq, off, q1, q2⟩ := A.es.at (i := i) (l := EV.cells e) (by rw [List.getElem?_map, he]; rfl)
    rw [List.length_map] at q1
    have hle : doubtsV (R.es.take i) ≤ i := by
     unfold doubtsV
     have := List.length_filter_le EV.doubt (R.es.take i)
     rw [List.length_take] at this
     omega
    have hnx : doubtsV (R.es.take (i + 1)) = doubtsV (R.es.take i) + (if e.kind = 0 ∧ e.ll ≠ e.lh then 1 else 0) := by
     unfold doubtsV
     rw [List.take_add_one, he, Option.toList_some, List.filter_append, List.length_append]
     congr 1
     by_cases q : e.kind = 0 ∧ e.ll ≠ e.lh
     ·rw [if_pos q, show List.filter EV.doubt [e] = [e] from by rw [List.filter_cons, show EV.doubt e = true from decide_eq_true q]; rfl]; rfl
     ·rw [if_neg q, show List.filter EV.doubt [e] = [] from by rw [List.filter_cons, show EV.doubt e = false from decide_eq_false q]; rfl]; rfl
    obtain ⟨d, hd⟩ : ∃ d, doubtsV (R.es.take i) = d := ⟨_, rfl⟩
    rw [hd] at hnx hle ⊢
    have hev := fun {h9} A => event88_ok (R := R) (psl := psl) (esl := esl) (h := h9) A (by omega) e
    unfold EV.cells at q2 hev
    by_cases O : e.Ok R.ps.length
    ·rw [decide_eq_true O] at hev
     have hok3 : ∀ e', e' ∈ R.es.take (i + 1) → e'.Ok R.ps.length := fun e' he' => by
      rw [List.take_add_one, he, Option.toList_some, List.mem_append, List.mem_singleton] at he'
      rcases he' with he' | rfl
      ·exact hok2 e' he'
      ·exact O
     by_cases k0 : e.kind = 0
     ·have hO := O
      unfold EV.Ok at hO
      by_cases k1 : e.ll = e.lh
      ·rw [if_neg (by simp [k1]), Nat.add_zero] at hnx
       iterate 2 refine Go.seq noJ_ok ?_
       refine Go.region noJ_ok rfl ?_
       refine GoR.op rfl rfl rfl rfl ?_
       refine GoR.op rfl rfl (fa25_1 rfl) rfl ?_
       refine GoR.op rfl rfl (ld23 rfl f0 rfl) rfl ?_
       refine GoR.op rfl rfl (aOp_lenSlice Tryz.underlying23 rfl (by assumption)) rfl ?_
       refine GoR.op rfl rfl (aOp_lss rfl rfl (r := true) (decide_eq_true (by omega))) rfl ?_
       refine GoR.end ?_
       refine Go.cond noJ_ok (b := true) rfl ?_
       refine Go.code noJ_ok ?_
       refine Go.seq noJ_ok ?_
       refine Go.block noJ_ok ?_
       refine Go.seq noJ_ok ?_
       refine Go.region noJ_ok rfl ?_
       refine GoR.op rfl rfl (fa25_1 rfl) rfl ?_
       refine GoR.op rfl rfl (ld23 rfl f0 rfl) rfl ?_
       refine GoR.op rfl rfl rfl rfl ?_
       refine GoR.op rfl rfl (aOp_indexAddr (i := i) Tryz.underlying23 sz62 rfl (by assumption) rfl (Nat.ble_eq_true_of_le (by omega))) rfl ?_
       refine GoR.op rfl rfl (aOp_loadE ag62 sz62 rfl (q2.ext (by assumption))) rfl ?_
       refine GoR.alloc rfl rfl rfl zt62 rfl rfl fun h2 x2 f2 => ?_
       have := e0.1
       have := f0.1
       replace f0 := f0.ext x2
       replace e0 := e0.trans x2
       have := f2.1
       refine GoR.store rfl rfl rfl rfl rfl rfl f2 rfl sz62 rfl rfl rfl fun h3 u3 => ?_
       replace f2 := u3.has f2
       replace f0 := f0.upd u3 (by omega)
       replace e0 := e0.upd u3 (by omega)
       refine GoR.end ?_
       iterate 2 refine Go.seq noJ_ok ?_
       refine Go.region noJ_ok rfl ?_
       refine GoR.op rfl rfl (ld25 rfl f0 rfl) rfl ?_
       refine GoR.op rfl rfl (ld62 rfl f2 rfl) rfl ?_
       refine GoR.call rfl rfl (aOp_callFunc aFunc88 rfl) (hev (A.ext e0)) ?_ (by rintro _ _ ⟨q, _⟩; cases q)
       rintro v4 h4 ⟨q, x4⟩
       cases q
       refine ⟨_, rfl, ?_⟩
       replace f2 := f2.ext x4
       replace f0 := f0.ext x4
       replace e0 := e0.trans x4
       refine GoR.op rfl rfl rfl rfl ?_
       refine GoR.end ?_
       refine Go.cond noJ_ok (b := false) rfl ?_
       refine Go.code noJ_ok ?_
       refine Go.seq noJ_ok ?_
       refine Go.region noJ_ok rfl ?_
       refine GoR.op rfl rfl (fa62_0 rfl) rfl ?_
       refine GoR.op rfl rfl (ld3 rfl f2 rfl) rfl ?_
       refine GoR.op rfl rfl (aOp_eql rfl rfl (r := true) (decide_eq_true (by omega))) rfl ?_
       refine GoR.op rfl rfl rfl rfl ?_
       refine GoR.op rfl rfl (fa62_1 rfl) rfl ?_
       refine GoR.op rfl rfl (fa29_0 rfl) rfl ?_
       refine GoR.op rfl rfl (ld3 rfl f2 rfl) rfl ?_
       refine GoR.op rfl rfl (fa62_1 rfl) rfl ?_
       refine GoR.op rfl rfl (fa29_1 rfl) rfl ?_
       refine GoR.op rfl rfl (ld3 rfl f2 rfl) rfl ?_
       refine GoR.op rfl rfl (aOp_lss rfl rfl (r := false) (decide_eq_false (by omega))) rfl ?_
       refine GoR.op rfl rfl rfl rfl ?_
       refine GoR.end ?_
       refine Go.cond noJ_ok (b := false) rfl ?_
       refine Go.code noJ_ok ?_
       refine Go.inBlock noJ_ok ?_
       refine Go.region noJ_ok rfl ?_
       refine GoR.op rfl rfl rfl rfl ?_
       refine GoR.op rfl rfl (aOp_add rfl rfl (by constructor <;> omega) rfl) rfl ?_
       refine GoR.op rfl rfl rfl rfl ?_
       refine GoR.end ?_
       exact again (m - 1) (i + 1) _ _ (by omega) ⟨rfl, by rw [hnx]; rfl, rfl, trivial⟩ ⟨by omega, e0, f0, hok3⟩
      ·rw [if_pos ⟨k0, k1⟩] at hnx
       iterate 2 refine Go.seq noJ_ok ?_
       refine Go.region noJ_ok rfl ?_
       refine GoR.op rfl rfl rfl rfl ?_
       refine GoR.op rfl rfl (fa25_1 rfl) rfl ?_
       refine GoR.op rfl rfl (ld23 rfl f0 rfl) rfl ?_
       refine GoR.op rfl rfl (aOp_lenSlice Tryz.underlying23 rfl (by assumption)) rfl ?_
       refine GoR.op rfl rfl (aOp_lss rfl rfl (r := true) (decide_eq_true (by omega))) rfl ?_
       refine GoR.end ?_
       refine Go.cond noJ_ok (b := true) rfl ?_
       refine Go.code noJ_ok ?_
       refine Go.seq noJ_ok ?_
       refine Go.block noJ_ok ?_
       refine Go.seq noJ_ok ?_
       refine Go.region noJ_ok rfl ?_
       refine GoR.op rfl rfl (fa25_1 rfl) rfl ?_
       refine GoR.op rfl rfl (ld23 rfl f0 rfl) rfl ?_
       refine GoR.op rfl rfl rfl rfl ?_
       refine GoR.op rfl rfl (aOp_indexAddr (i := i) Tryz.underlying23 sz62 rfl (by assumption) rfl (Nat.ble_eq_true_of_le (by omega))) rfl ?_
       refine GoR.op rfl rfl (aOp_loadE ag62 sz62 rfl (q2.ext (by assumption))) rfl ?_
       refine GoR.alloc rfl rfl rfl zt62 rfl rfl fun h2 x2 f2 => ?_
       have := e0.1
       have := f0.1
       replace f0 := f0.ext x2
       replace e0 := e0.trans x2
       have := f2.1
       refine GoR.store rfl rfl rfl rfl rfl rfl f2 rfl sz62 rfl rfl rfl fun h3 u3 => ?_
       replace f2 := u3.has f2
       replace f0 := f0.upd u3 (by omega)
       replace e0 := e0.upd u3 (by omega)
       refine GoR.end ?_
       iterate 2 refine Go.seq noJ_ok ?_
       refine Go.region noJ_ok rfl ?_
       refine GoR.op rfl rfl (ld25 rfl f0 rfl) rfl ?_
       refine GoR.op rfl rfl (ld62 rfl f2 rfl) rfl ?_
       refine GoR.call rfl rfl (aOp_callFunc aFunc88 rfl) (hev (A.ext e0)) ?_ (by rintro _ _ ⟨q, _⟩; cases q)
       rintro v4 h4 ⟨q, x4⟩
       cases q
       refine ⟨_, rfl, ?_⟩
       replace f2 := f2.ext x4
       replace f0 := f0.ext x4
       replace e0 := e0.trans x4
       refine GoR.op rfl rfl rfl rfl ?_
       refine GoR.end ?_
       refine Go.cond noJ_ok (b := false) rfl ?_
       refine Go.code noJ_ok ?_
       refine Go.seq noJ_ok ?_
       refine Go.region noJ_ok rfl ?_
       refine GoR.op rfl rfl (fa62_0 rfl) rfl ?_
       refine GoR.op rfl rfl (ld3 rfl f2 rfl) rfl ?_
       refine GoR.op rfl rfl (aOp_eql rfl rfl (r := true) (decide_eq_true (by omega))) rfl ?_
       refine GoR.op rfl rfl rfl rfl ?_
       refine GoR.op rfl rfl (fa62_1 rfl) rfl ?_
       refine GoR.op rfl rfl (fa29_0 rfl) rfl ?_
       refine GoR.op rfl rfl (ld3 rfl f2 rfl) rfl ?_
       refine GoR.op rfl rfl (fa62_1 rfl) rfl ?_
       refine GoR.op rfl rfl (fa29_1 rfl) rfl ?_
       refine GoR.op rfl rfl (ld3 rfl f2 rfl) rfl ?_
       refine GoR.op rfl rfl (aOp_lss rfl rfl (r := true) (decide_eq_true (by omega))) rfl ?_
       refine GoR.op rfl rfl rfl rfl ?_
       refine GoR.end ?_
       refine Go.cond noJ_ok (b := true) rfl ?_
       refine Go.region noJ_ok rfl ?_
       refine GoR.op rfl rfl rfl rfl ?_
       refine GoR.op rfl rfl (aOp_add rfl rfl (by constructor <;> omega) rfl) rfl ?_
       refine GoR.op rfl rfl rfl rfl ?_
       refine GoR.end ?_
       refine Go.inBlock noJ_ok ?_
       refine Go.region noJ_ok rfl ?_
       refine GoR.op rfl rfl rfl rfl ?_
       refine GoR.op rfl rfl (aOp_add rfl rfl (by constructor <;> omega) rfl) rfl ?_
       refine GoR.op rfl rfl rfl rfl ?_
       refine GoR.end ?_
       exact again (m - 1) (i + 1) _ _ (by omega) ⟨rfl, by rw [hnx]; rfl, rfl, trivial⟩ ⟨by omega, e0, f0, hok3⟩
     ·rw [if_neg (by simp [k0]), Nat.add_zero] at hnx
      iterate 2 refine Go.seq noJ_ok ?_
      refine Go.region noJ_ok rfl ?_
      refine GoR.op rfl rfl rfl rfl ?_
      refine GoR.op rfl rfl (fa25_1 rfl) rfl ?_
      refine GoR.op rfl rfl (ld23 rfl f0 rfl) rfl ?_
      refine GoR.op rfl rfl (aOp_lenSlice Tryz.underlying23 rfl (by assumption)) rfl ?_
      refine GoR.op rfl rfl (aOp_lss rfl rfl (r := true) (decide_eq_true (by omega))) rfl ?_
      refine GoR.end ?_
      refine Go.cond noJ_ok (b := true) rfl ?_
      refine Go.code noJ_ok ?_
      refine Go.seq noJ_ok ?_
      refine Go.block noJ_ok ?_
      refine Go.seq noJ_ok ?_
      refine Go.region noJ_ok rfl ?_
      refine GoR.op rfl rfl (fa25_1 rfl) rfl ?_
      refine GoR.op rfl rfl (ld23 rfl f0 rfl) rfl ?_
      refine GoR.op rfl rfl rfl rfl ?_
      refine GoR.op rfl rfl (aOp_indexAddr (i := i) Tryz.underlying23 sz62 rfl (by assumption) rfl (Nat.ble_eq_true_of_le (by omega))) rfl ?_
      refine GoR.op rfl rfl (aOp_loadE ag62 sz62 rfl (q2.ext (by assumption))) rfl ?_
      refine GoR.alloc rfl rfl rfl zt62 rfl rfl fun h2 x2 f2 => ?_
      have := e0.1
      have := f0.1
      replace f0 := f0.ext x2
      replace e0 := e0.trans x2
      have := f2.1
      refine GoR.store rfl rfl rfl rfl rfl rfl f2 rfl sz62 rfl rfl rfl fun h3 u3 => ?_
      replace f2 := u3.has f2
      replace f0 := f0.upd u3 (by omega)
      replace e0 := e0.upd u3 (by omega)
      refine GoR.end ?_
      iterate 2 refine Go.seq noJ_ok ?_
      refine Go.region noJ_ok rfl ?_
      refine GoR.op rfl rfl (ld25 rfl f0 rfl) rfl ?_
      refine GoR.op rfl rfl (ld62 rfl f2 rfl) rfl ?_
      refine GoR.call rfl rfl (aOp_callFunc aFunc88 rfl) (hev (A.ext e0)) ?_ (by rintro _ _ ⟨q, _⟩; cases q)
      rintro v4 h4 ⟨q, x4⟩
      cases q
      refine ⟨_, rfl, ?_⟩
      replace f2 := f2.ext x4
      replace f0 := f0.ext x4
      replace e0 := e0.trans x4
      refine GoR.op rfl rfl rfl rfl ?_
      refine GoR.end ?_
      refine Go.cond noJ_ok (b := false) rfl ?_
      refine Go.code noJ_ok ?_
      refine Go.seq noJ_ok ?_
      refine Go.region noJ_ok rfl ?_
      refine GoR.op rfl rfl (fa62_0 rfl) rfl ?_
      refine GoR.op rfl rfl (ld3 rfl f2 rfl) rfl ?_
      refine GoR.op rfl rfl (aOp_eql rfl rfl (r := false) (decide_eq_false (by omega))) rfl ?_
      refine GoR.op rfl rfl rfl rfl ?_
      iterate 7 refine GoR.skip rfl rfl rfl ?_
      refine GoR.op rfl rfl rfl rfl ?_
      refine GoR.end ?_
      refine Go.cond noJ_ok (b := false) rfl ?_
      refine Go.code noJ_ok ?_
      refine Go.inBlock noJ_ok ?_
      refine Go.region noJ_ok rfl ?_
      refine GoR.op rfl rfl rfl rfl ?_
      refine GoR.op rfl rfl (aOp_add rfl rfl (by constructor <;> omega) rfl) rfl ?_
      refine GoR.op rfl rfl rfl rfl ?_
      refine GoR.end ?_
      exact again (m - 1) (i + 1) _ _ (by omega) ⟨rfl, by rw [hnx]; rfl, rfl, trivial⟩ ⟨by omega, e0, f0, hok3⟩
    ·rw [decide_eq_false O] at hev
     rw [show decide R.Ok = false from decide_eq_false fun q => O (q.e e hem)]
     iterate 2 refine Go.seq noJ_ok ?_
     refine Go.region noJ_ok rfl ?_
     refine GoR.op rfl rfl rfl rfl ?_
     refine GoR.op rfl rfl (fa25_1 rfl) rfl ?_
     refine GoR.op rfl rfl (ld23 rfl f0 rfl) rfl ?_
     refine GoR.op rfl rfl (aOp_lenSlice Tryz.underlying23 rfl (by assumption)) rfl ?_
     refine GoR.op rfl rfl (aOp_lss rfl rfl (r := true) (decide_eq_true (by omega))) rfl ?_
     refine GoR.end ?_
     refine Go.cond noJ_ok (b := true) rfl ?_
     refine Go.code noJ_ok ?_
     refine Go.seq noJ_ok ?_
     refine Go.block noJ_ok ?_
     refine Go.seq noJ_ok ?_
     refine Go.region noJ_ok rfl ?_
     refine GoR.op rfl rfl (fa25_1 rfl) rfl ?_
     refine GoR.op rfl rfl (ld23 rfl f0 rfl) rfl ?_
     refine GoR.op rfl rfl rfl rfl ?_
     refine GoR.op rfl rfl (aOp_indexAddr (i := i) Tryz.underlying23 sz62 rfl (by assumption) rfl (Nat.ble_eq_true_of_le (by omega))) rfl ?_
     refine GoR.op rfl rfl (aOp_loadE ag62 sz62 rfl (q2.ext (by assumption))) rfl ?_
     refine GoR.alloc rfl rfl rfl zt62 rfl rfl fun h2 x2 f2 => ?_
     have := e0.1
     have := f0.1
     replace f0 := f0.ext x2
     replace e0 := e0.trans x2
     have := f2.1
     refine GoR.store rfl rfl rfl rfl rfl rfl f2 rfl sz62 rfl rfl rfl fun h3 u3 => ?_
     replace f2 := u3.has f2
     replace f0 := f0.upd u3 (by omega)
     replace e0 := e0.upd u3 (by omega)
     refine GoR.end ?_
     iterate 2 refine Go.seq noJ_ok ?_
     refine Go.region noJ_ok rfl ?_
     refine GoR.op rfl rfl (ld25 rfl f0 rfl) rfl ?_
     refine GoR.op rfl rfl (ld62 rfl f2 rfl) rfl ?_
     refine GoR.call rfl rfl (aOp_callFunc aFunc88 rfl) (hev (A.ext e0)) ?_ (by rintro _ _ ⟨q, _⟩; cases q)
     rintro v4 h4 ⟨q, x4⟩
     cases q
     refine ⟨_, rfl, ?_⟩
     replace e0 := e0.trans x4
     refine GoR.op rfl rfl rfl rfl ?_
     refine GoR.end ?_
     refine Go.cond noJ_ok (b := true) rfl ?_
     refine Go.seq noJ_ok ?_
     refine Go.region noJ_ok rfl ?_
     refine GoR.op rfl rfl rfl rfl ?_
     refine GoR.end ?_
     exact Go.ret noJ_ok (ret_end (aResult_of Tryz.func36 rfl rfl) ⟨rfl, e0⟩)
   ·have hin : i = R.es.length := by omega
    rw [hin, List.take_length] at hok2 ⊢
    by_cases hd : doubtsV R.es ≤ 4
    ·rw [show decide R.Ok = true from decide_eq_true ⟨⟨c1.1, c1.2.1⟩, c1.2.2, hok, hok2, hd⟩]
     iterate 2 refine Go.seq noJ_ok ?_
     refine Go.region noJ_ok rfl ?_
     refine GoR.op rfl rfl rfl rfl ?_
     refine GoR.op rfl rfl (fa25_1 rfl) rfl ?_
     refine GoR.op rfl rfl (ld23 rfl f0 rfl) rfl ?_
     refine GoR.op rfl rfl (aOp_lenSlice Tryz.underlying23 rfl (by assumption)) rfl ?_
     refine GoR.op rfl rfl (aOp_lss rfl rfl (r := false) (decide_eq_false (by omega))) rfl ?_
     refine GoR.end ?_
     refine Go.cond noJ_ok (b := false) rfl ?_
     refine Go.code noJ_ok ?_
     refine Go.seq noJ_ok ?_
     refine Go.region noJ_ok rfl ?_
     refine GoR.op rfl rfl rfl rfl ?_
     refine GoR.op rfl rfl (aOp_leq rfl rfl (r := true) (decide_eq_true (by omega))) rfl ?_
     refine GoR.op rfl rfl rfl rfl ?_
     refine GoR.end ?_
     exact Go.ret noJ_ok (ret_end (aResult_of Tryz.func36 rfl rfl) ⟨rfl, e0⟩)
    ·rw [show decide R.Ok = false from decide_eq_false fun q => hd q.d]
     have : doubtsV R.es ≤ R.es.length := List.length_filter_le _ _
     iterate 2 refine Go.seq noJ_ok ?_
     refine Go.region noJ_ok rfl ?_
     refine GoR.op rfl rfl rfl rfl ?_
     refine GoR.op rfl rfl (fa25_1 rfl) rfl ?_
     refine GoR.op rfl rfl (ld23 rfl f0 rfl) rfl ?_
     refine GoR.op rfl rfl (aOp_lenSlice Tryz.underlying23 rfl (by assumption)) rfl ?_
     refine GoR.op rfl rfl (aOp_lss rfl rfl (r := false) (decide_eq_false (by omega))) rfl ?_
     refine GoR.end ?_
     refine Go.cond noJ_ok (b := false) rfl ?_
     refine Go.code noJ_ok ?_
     refine Go.seq noJ_ok ?_
     refine Go.region noJ_ok rfl ?_
     refine GoR.op rfl rfl rfl rfl ?_
     refine GoR.op rfl rfl (aOp_leq rfl rfl (r := false) (decide_eq_false (by omega))) rfl ?_
     refine GoR.op rfl rfl rfl rfl ?_
     refine GoR.end ?_
     exact Go.ret noJ_ok (ret_end (aResult_of Tryz.func36 rfl rfl) ⟨rfl, e0⟩)
 ·rw [show decide R.Ok = false from decide_eq_false fun O => c1 ⟨O.np.1, O.np.2, O.ne⟩]
  by_cases c2 : 1 ≤ R.ps.length ∧ R.ps.length ≤ 4
  ·have e0 : Ext h h := Ext.refl _
   refine Runs.intro aFunc36 rfl rfl rfl rfl fun rest => ?_
   refine Go.seq noJ_ok ?_
   refine Go.region noJ_ok rfl ?_
   refine GoR.box rfl rfl rfl rfl rfl rfl fun h0 x0 f0 => ?_
   replace e0 := e0.trans x0
   refine GoR.op rfl rfl rfl rfl ?_
   refine GoR.end ?_
   iterate 2 refine Go.seq noJ_ok ?_
   refine Go.region noJ_ok rfl ?_
   refine GoR.op rfl rfl (fa25_0 rfl) rfl ?_
   refine GoR.op rfl rfl (ld22 rfl f0 rfl) rfl ?_
   refine GoR.op rfl rfl (aOp_lenSlice Tryz.underlying22 rfl (by assumption)) rfl ?_
   refine GoR.call rfl rfl (aOp_callFunc aFunc86 rfl) (in86_is (r := true) (decide_eq_true (by omega))) ?_ (by rintro _ _ ⟨q, _⟩; cases q)
   rintro v1 h1 ⟨q, x1⟩
   cases q
   refine ⟨_, rfl, ?_⟩
   replace f0 := f0.ext x1
   replace e0 := e0.trans x1
   iterate 2 refine GoR.op rfl rfl rfl rfl ?_
   refine GoR.op rfl rfl (fa25_1 rfl) rfl ?_
   refine GoR.op rfl rfl (ld23 rfl f0 rfl) rfl ?_
   refine GoR.op rfl rfl (aOp_lenSlice Tryz.underlying23 rfl (by assumption)) rfl ?_
   refine GoR.op rfl rfl (aOp_gtr rfl rfl (r := true) (decide_eq_true (by omega))) rfl ?_
   refine GoR.op rfl rfl rfl rfl ?_
   refine GoR.end ?_
   refine Go.cond noJ_ok (b := true) rfl ?_
   refine Go.seq noJ_ok ?_
   refine Go.region noJ_ok rfl ?_
   refine GoR.op rfl rfl rfl rfl ?_
   refine GoR.end ?_
   exact Go.ret noJ_ok (ret_end (aResult_of Tryz.func36 rfl rfl) ⟨rfl, e0⟩)
  ·have e0 : Ext h h := Ext.refl _
   refine Runs.intro aFunc36 rfl rfl rfl rfl fun rest => ?_
   refine Go.seq noJ_ok ?_
   refine Go.region noJ_ok rfl ?_
   refine GoR.box rfl rfl rfl rfl rfl rfl fun h0 x0 f0 => ?_
   replace e0 := e0.trans x0
   refine GoR.op rfl rfl rfl rfl ?_
   refine GoR.end ?_
   iterate 2 refine Go.seq noJ_ok ?_
   refine Go.region noJ_ok rfl ?_
   refine GoR.op rfl rfl (fa25_0 rfl) rfl ?_
   refine GoR.op rfl rfl (ld22 rfl f0 rfl) rfl ?_
   refine GoR.op rfl rfl (aOp_lenSlice Tryz.underlying22 rfl (by assumption)) rfl ?_
   refine GoR.call rfl rfl (aOp_callFunc aFunc86 rfl) (in86_is (r := false) (decide_eq_false (by omega))) ?_ (by rintro _ _ ⟨q, _⟩; cases q)
   rintro v1 h1 ⟨q, x1⟩
   cases q
   refine ⟨_, rfl, ?_⟩
   replace e0 := e0.trans x1
   iterate 2 refine GoR.op rfl rfl rfl rfl ?_
   iterate 4 refine GoR.skip rfl rfl rfl ?_
   refine GoR.op rfl rfl rfl rfl ?_
   refine GoR.end ?_
   refine Go.cond noJ_ok (b := true) rfl ?_
   refine Go.seq noJ_ok ?_
   refine Go.region noJ_ok rfl ?_
   refine GoR.op rfl rfl rfl rfl ?_
   refine GoR.end ?_
   exact Go.ret noJ_ok (ret_end (aResult_of Tryz.func36 rfl rfl) ⟨rfl, e0⟩)
end Go.Proofs.YtkcimfopboelaaaGreat
