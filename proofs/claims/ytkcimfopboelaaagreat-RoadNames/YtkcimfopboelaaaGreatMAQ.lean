import Derived.Test.YtkcimfopboelaaaGreatMAP
import Derived.Test.YtkcimfopboelaaaGreatMAG
import Derived.Test.YtkcimfopboelaaaGreatMAH
import Derived.Test.YtkcimfopboelaaaGreatMAF
import Derived.KernelRfl
namespace Go.Proofs.YtkcimfopboelaaaGreat
open Go Go.AbsE
set_option linter.unusedSimpArgs false
set_option maxRecDepth 100000
set_option maxHeartbeats 0
set_option linter.unusedVariables false
def goodS (of m s : Nat) : Bool := decide (andNot s of = 0) && decide (popc s = m)
def subB (of m k : Nat) : List Nat := (List.range k).filter (goodS of m)
def subA (of m : Nat) : List Nat := (List.range m).flatMap fun j => subB of j (of + 1)
def subs (of : Nat) : List Nat := subA of (popc of + 1)
theorem filter_at {p : Nat → Bool} {N k : Nat} (hk : k < N) (hp : p k = true) : ((List.range N).filter p)[((List.range k).filter p).length]? = some k := by
 have h1 : List.range N = List.range k ++ (k :: (List.range (N - (k + 1))).map (· + (k + 1))) := by
  have : N = k + (1 + (N - (k + 1))) := by omega
  conv => lhs; rw [this, List.range_add, List.range_add]
  simp only [List.map_append, List.map_map]
  congr 1
  simp only [List.range_one, List.map_cons, List.map_nil, List.cons_append, List.nil_append, Nat.add_zero]
  congr 1
  refine List.map_congr_left fun x _ => ?_
  simp only [Function.comp_apply]
  omega
 rw [h1, List.filter_append, List.getElem?_append_right (Nat.le_refl _), Nat.sub_self, List.filter_cons, if_pos hp]
 rfl
theorem filter_succ (p : Nat → Bool) (k : Nat) : ((List.range (k + 1)).filter p).length = ((List.range k).filter p).length + (if p k then 1 else 0) := by
 rw [List.range_succ, List.filter_append, List.length_append, List.filter_cons]
 cases p k <;> simp
theorem subA_succ (of m : Nat) : (subA of (m + 1)).length = (subA of m).length + (subB of m (of + 1)).length := fm_succ _ _
theorem subB_succ (of m k : Nat) : (subB of m (k + 1)).length = (subB of m k).length + (if goodS of m k then 1 else 0) := filter_succ _ _
theorem subs_at {of m k M : Nat} (hm : m < M) (hk : k < of + 1) (hg : goodS of m k = true) : (subA of M)[(subA of m).length + (subB of m k).length]? = some k := fm_at hm (filter_at hk hg)
theorem popc_le (n : Nat) : popc n ≤ 10 := by
 unfold popc
 have := List.length_filter_le (fun i => n.testBit i) (List.range 10)
 rw [List.length_range] at this
 exact this
theorem subs1_it {of : Nat} (hof : of < 1024) (bo : Nat) : IterV Tryz.prog 147 [] [.ptr bo 0] ((subs of).map fun s => AVal.int .i64 (s : Nat)) (fun h => Has h bo (.cells .plain [.int .i64 (of : Nat)] 3)) := by
 intro y base J E h F hyc hys hA hbase T j0
 show Runs Tryz.prog 147 [y, .ptr bo 0] h _
 rw [List.length_map]
 obtain ⟨M, hM⟩ : ∃ M, popc of + 1 = M := ⟨_, rfl⟩
 have hM11 : M ≤ 11 := by have := popc_le of; omega
 unfold subs at T ⊢
 rw [hM] at T ⊢
 have hat : ∀ {m k : Nat}, m < M → k < of + 1 → goodS of m k = true → _ := fun a b c => subs_at (of := of) a b c
 have e0 : Ext h h := Ext.refl _
 have f0 : Has h bo (.cells .plain [.int .i64 (of : Nat)] 3) := hA h (ExtF.of e0)
 have hbo := f0.1
 have hpof : popc of = M - 1 := by omega
 refine Runs.intro aFunc147 rfl rfl rfl rfl fun rest => ?_
 refine Go.seq noJ_ok ?_
 refine Go.region noJ_ok rfl ?_
 refine GoR.op rfl rfl (ld3 rfl f0 rfl) rfl ?_
 refine GoR.op rfl rfl (aOp_convU64 rfl Tryz.underlying3 Tryz.underlying181 (by omega)) rfl ?_
 refine GoR.call rfl rfl (aOp_callFunc aFunc148 rfl) (ones148_ok hof) ?_ (by rintro _ _ ⟨q, _⟩; cases q)
 rintro v1 h1 ⟨q, x1⟩
 cases q
 refine ⟨_, rfl, ?_⟩
 replace f0 := f0.ext x1
 replace e0 := e0.trans x1
 refine GoR.op rfl rfl (aOp_add rfl rfl (by constructor <;> omega) rfl) rfl ?_
 refine GoR.op rfl rfl rfl rfl ?_
 refine GoR.end ?_
 refine Go.block noJ_ok ?_
 refine Go.loopKeep (fun a : Nat × (Nat → Prop) => [(0, y), (1, .ptr bo 0), (8, .int .i64 (M : Nat)), (9, .int .i64 (a.1 : Nat))]) (fun q a h' => q + a.1 = M ∧ ExtF F h h' ∧ (∀ b, a.2 b → F b ∨ h.next ≤ b) ∧ J (subA of a.1).length h' a.2) (n := M) (0, F) ⟨rfl, rfl, (by show _ = some (AVal.int .i64 (M : Nat)); rw [← hM]; rfl), rfl, trivial⟩ ⟨by simp, ExtF.of e0, fun b q => .inl q, T.ext j0 e0⟩ ?_
 clear e0 f0
 rintro q ⟨m, G⟩ h1 ⟨hq, x1, hG, j1⟩ again
 dsimp only at hq hG j1 ⊢
 have f0 : Has h1 bo (.cells .plain [.int .i64 (of : Nat)] 3) := hA h1 x1
 have e0 : Ext h1 h1 := Ext.refl _
 have hx1 := x1.1
 by_cases hm : m < M
 ·refine Go.seq noJ_ok ?_
  refine Go.region noJ_ok rfl ?_
  refine GoR.op rfl rfl (aOp_lss rfl rfl (r := true) (decide_eq_true (by omega))) rfl ?_
  refine GoR.end ?_
  refine Go.seq noJ_ok ?_
  refine Go.cond noJ_ok (b := true) rfl ?_
  refine Go.code noJ_ok ?_
  refine Go.seq noJ_ok ?_
  refine Go.block noJ_ok ?_
  refine Go.seq noJ_ok ?_
  refine Go.region noJ_ok rfl ?_
  iterate 2 refine GoR.op rfl rfl rfl rfl ?_
  refine GoR.end ?_
  refine Go.seq noJ_ok ?_
  refine Go.region noJ_ok rfl ?_
  refine GoR.op rfl rfl (ld3 rfl f0 rfl) rfl ?_
  refine GoR.op rfl rfl (aOp_add rfl rfl (by constructor <;> omega) rfl) rfl ?_
  refine GoR.op rfl rfl rfl rfl ?_
  refine GoR.end ?_
  refine Go.block noJ_ok ?_
  refine Go.loopKeep (fun a : Nat × (Nat → Prop) => [(0, y), (1, .ptr bo 0), (3, .int .i64 (m : Nat)), (8, .int .i64 (M : Nat)), (9, .int .i64 (m : Nat)), (13, .int .i64 ((of : Int) + 1)), (14, .int .i64 (a.1 : Nat))]) (fun q a h' => q + a.1 = of + 1 ∧ ExtF F h h' ∧ (∀ b, a.2 b → F b ∨ h.next ≤ b) ∧ J ((subA of m).length + (subB of m a.1).length) h' a.2) (n := of + 1) (0, G) ⟨rfl, rfl, rfl, rfl, rfl, rfl, rfl, trivial⟩ ⟨by simp, x1, hG, by simpa [subB] using j1⟩ ?_
  clear e0 f0 j1 x1 hG hx1
  rintro q2 ⟨k, G⟩ h2 ⟨hq2, x1, hG, j1⟩ again2
  dsimp only at hq2 hG j1 ⊢
  have f0 : Has h2 bo (.cells .plain [.int .i64 (of : Nat)] 3) := hA h2 x1
  have e0 : Ext h2 h2 := Ext.refl _
  have hx1 := x1.1
  by_cases hk : k < of + 1
  ·have hsb := subB_succ of m k
   have hk10 : k < 1024 := by omega
   have hpk := popc_le k
   by_cases c1 : andNot k of = 0
   ·have d1 : decide (((andNot k of : Nat) : Int) = 0) = true := decide_eq_true (by omega)
    by_cases c2 : popc k = m
    ·have hg : goodS of m k = true := by unfold goodS; rw [decide_eq_true c1, decide_eq_true c2]; rfl
     rw [hg, if_pos rfl] at hsb
     have hit := hat hm hk hg
     have hlt := (List.getElem?_eq_some_iff.1 hit).1
     have d2 : decide (((popc k : Nat) : Int) = (m : Nat)) = true := decide_eq_true (by omega)
     refine Go.seq noJ_ok ?_
     refine Go.region noJ_ok rfl ?_
     refine GoR.op rfl rfl (aOp_lss rfl rfl (r := true) (decide_eq_true (by omega))) rfl ?_
     refine GoR.end ?_
     refine Go.seq noJ_ok ?_
     refine Go.cond noJ_ok (b := true) rfl ?_
     refine Go.code noJ_ok ?_
     refine Go.seq noJ_ok ?_
     refine Go.block noJ_ok ?_
     refine Go.seq noJ_ok ?_
     refine Go.region noJ_ok rfl ?_
     iterate 2 refine GoR.op rfl rfl rfl rfl ?_
     refine GoR.end ?_
     refine Go.seq noJ_ok ?_
     refine Go.region noJ_ok rfl ?_
     refine GoR.op rfl rfl rfl rfl ?_
     refine GoR.op rfl rfl (ld3 rfl f0 rfl) rfl ?_
     refine GoR.op rfl rfl (aOp_andNot rfl rfl (by omega) rfl) rfl ?_
     refine GoR.op rfl rfl (aOp_eql rfl rfl d1) rfl ?_
     iterate 2 refine GoR.op rfl rfl rfl rfl ?_
     refine GoR.op rfl rfl (aOp_convU64 rfl Tryz.underlying3 Tryz.underlying181 (by omega)) rfl ?_
     refine GoR.call rfl rfl (aOp_callFunc aFunc148 rfl) (ones148_ok hk10) ?_ (by rintro _ _ ⟨q, _⟩; cases q)
     rintro v3 h3 ⟨q, x3⟩
     cases q
     refine ⟨_, rfl, ?_⟩
     replace e0 := e0.trans x3
     refine GoR.op rfl rfl rfl rfl ?_
     refine GoR.op rfl rfl (aOp_eql rfl rfl d2) rfl ?_
     iterate 4 refine GoR.op rfl rfl rfl rfl ?_
     obtain ⟨ax, a1, a2, a3⟩ := T.take (by rw [List.getElem?_map, hit]; rfl) (T.ext j1 e0)
     have hx3 := e0.1
     refine GoR.does rfl rfl (aOp_callY rfl rfl a1) a2 a3 ?_ (by rintro _ _ ⟨_, _, _, ⟨q, _⟩ | ⟨q, _⟩⟩ <;> cases q)
     rintro v h6 ⟨x6, G', hG', ⟨q, j6⟩ | ⟨q, e6⟩⟩
     ·cases q
      refine ⟨_, rfl, ?_⟩
      have y6 := (x1.ext e0).trans hG x6
      clear f0 e0
      iterate 2 refine GoR.op rfl rfl rfl rfl ?_
      refine GoR.end ?_
      refine Go.cond noJ_ok (b := false) rfl ?_
      refine Go.code noJ_ok ?_
      refine Go.inBlock noJ_ok ?_
      refine Go.region noJ_ok rfl ?_
      refine GoR.op rfl rfl (aOp_add rfl rfl (by constructor <;> omega) rfl) rfl ?_
      refine GoR.op rfl rfl rfl rfl ?_
      refine GoR.end ?_
      exact again2 (q2 - 1) (k + 1, G') _ _ (by omega) ⟨rfl, rfl, rfl, rfl, rfl, rfl, rfl, trivial⟩ ⟨by dsimp only; omega, y6, own_next hG' hG (by omega), by dsimp only; rw [hsb]; exact j6⟩
     ·cases q
      refine ⟨_, rfl, ?_⟩
      have y6 := (x1.ext e0).trans hG x6
      clear f0 e0
      iterate 2 refine GoR.op rfl rfl rfl rfl ?_
      refine GoR.end ?_
      refine Go.cond noJ_ok (b := true) rfl ?_
      exact Go.ret noJ_ok (ret_end (aResult_of Tryz.func147 rfl rfl) ⟨rfl, y6, G', own_next hG' hG (by omega), .inr ⟨_, hlt, e6⟩⟩)
    ·have hg : goodS of m k = false := by unfold goodS; rw [decide_eq_true c1, decide_eq_false c2]; rfl
     rw [hg, if_neg (by decide), Nat.add_zero] at hsb
     have d2 : decide (((popc k : Nat) : Int) = (m : Nat)) = false := decide_eq_false (by omega)
     refine Go.seq noJ_ok ?_
     refine Go.region noJ_ok rfl ?_
     refine GoR.op rfl rfl (aOp_lss rfl rfl (r := true) (decide_eq_true (by omega))) rfl ?_
     refine GoR.end ?_
     refine Go.seq noJ_ok ?_
     refine Go.cond noJ_ok (b := true) rfl ?_
     refine Go.code noJ_ok ?_
     refine Go.seq noJ_ok ?_
     refine Go.block noJ_ok ?_
     refine Go.seq noJ_ok ?_
     refine Go.region noJ_ok rfl ?_
     iterate 2 refine GoR.op rfl rfl rfl rfl ?_
     refine GoR.end ?_
     refine Go.seq noJ_ok ?_
     refine Go.region noJ_ok rfl ?_
     refine GoR.op rfl rfl rfl rfl ?_
     refine GoR.op rfl rfl (ld3 rfl f0 rfl) rfl ?_
     refine GoR.op rfl rfl (aOp_andNot rfl rfl (by omega) rfl) rfl ?_
     refine GoR.op rfl rfl (aOp_eql rfl rfl d1) rfl ?_
     iterate 2 refine GoR.op rfl rfl rfl rfl ?_
     refine GoR.op rfl rfl (aOp_convU64 rfl Tryz.underlying3 Tryz.underlying181 (by omega)) rfl ?_
     refine GoR.call rfl rfl (aOp_callFunc aFunc148 rfl) (ones148_ok hk10) ?_ (by rintro _ _ ⟨q, _⟩; cases q)
     rintro v3 h3 ⟨q, x3⟩
     cases q
     refine ⟨_, rfl, ?_⟩
     replace e0 := e0.trans x3
     refine GoR.op rfl rfl rfl rfl ?_
     refine GoR.op rfl rfl (aOp_eql rfl rfl d2) rfl ?_
     iterate 2 refine GoR.op rfl rfl rfl rfl ?_
     iterate 4 refine GoR.skip rfl rfl rfl ?_
     refine GoR.op rfl rfl rfl rfl ?_
     refine GoR.end ?_
     refine Go.cond noJ_ok (b := false) rfl ?_
     refine Go.code noJ_ok ?_
     refine Go.inBlock noJ_ok ?_
     refine Go.region noJ_ok rfl ?_
     refine GoR.op rfl rfl (aOp_add rfl rfl (by constructor <;> omega) rfl) rfl ?_
     refine GoR.op rfl rfl rfl rfl ?_
     refine GoR.end ?_
     exact again2 (q2 - 1) (k + 1, G) _ _ (by omega) ⟨rfl, rfl, rfl, rfl, rfl, rfl, rfl, trivial⟩ ⟨by dsimp only; omega, x1.ext e0, hG, by dsimp only; rw [hsb]; exact T.ext j1 e0⟩
   ·have hg : goodS of m k = false := by unfold goodS; rw [decide_eq_false c1]; rfl
    rw [hg, if_neg (by decide), Nat.add_zero] at hsb
    have d1 : decide (((andNot k of : Nat) : Int) = 0) = false := decide_eq_false (by omega)
    refine Go.seq noJ_ok ?_
    refine Go.region noJ_ok rfl ?_
    refine GoR.op rfl rfl (aOp_lss rfl rfl (r := true) (decide_eq_true (by omega))) rfl ?_
    refine GoR.end ?_
    refine Go.seq noJ_ok ?_
    refine Go.cond noJ_ok (b := true) rfl ?_
    refine Go.code noJ_ok ?_
    refine Go.seq noJ_ok ?_
    refine Go.block noJ_ok ?_
    refine Go.seq noJ_ok ?_
    refine Go.region noJ_ok rfl ?_
    iterate 2 refine GoR.op rfl rfl rfl rfl ?_
    refine GoR.end ?_
    refine Go.seq noJ_ok ?_
    refine Go.region noJ_ok rfl ?_
    refine GoR.op rfl rfl rfl rfl ?_
    refine GoR.op rfl rfl (ld3 rfl f0 rfl) rfl ?_
    refine GoR.op rfl rfl (aOp_andNot rfl rfl (by omega) rfl) rfl ?_
    refine GoR.op rfl rfl (aOp_eql rfl rfl d1) rfl ?_
    refine GoR.op rfl rfl rfl rfl ?_
    iterate 5 refine GoR.skip rfl rfl rfl ?_
    iterate 2 refine GoR.op rfl rfl rfl rfl ?_
    iterate 4 refine GoR.skip rfl rfl rfl ?_
    refine GoR.op rfl rfl rfl rfl ?_
    refine GoR.end ?_
    refine Go.cond noJ_ok (b := false) rfl ?_
    refine Go.code noJ_ok ?_
    refine Go.inBlock noJ_ok ?_
    refine Go.region noJ_ok rfl ?_
    refine GoR.op rfl rfl (aOp_add rfl rfl (by constructor <;> omega) rfl) rfl ?_
    refine GoR.op rfl rfl rfl rfl ?_
    refine GoR.end ?_
    exact again2 (q2 - 1) (k + 1, G) _ _ (by omega) ⟨rfl, rfl, rfl, rfl, rfl, rfl, rfl, trivial⟩ ⟨by dsimp only; omega, x1.ext e0, hG, by dsimp only; rw [hsb]; exact T.ext j1 e0⟩
  ·have hkn : k = of + 1 := by omega
   subst hkn
   refine Go.seq noJ_ok ?_
   refine Go.region noJ_ok rfl ?_
   refine GoR.op rfl rfl (aOp_lss rfl rfl (r := false) (decide_eq_false (by omega))) rfl ?_
   refine GoR.end ?_
   refine Go.seq noJ_ok ?_
   refine Go.cond noJ_ok (b := false) rfl ?_
   refine Go.code noJ_ok ?_
   refine Go.inBlock noJ_ok ?_
   refine Go.region noJ_ok rfl ?_
   refine GoR.op rfl rfl (aOp_add rfl rfl (by constructor <;> omega) rfl) rfl ?_
   refine GoR.op rfl rfl rfl rfl ?_
   refine GoR.end ?_
   exact again (q - 1) (m + 1, G) _ _ (by omega) ⟨rfl, rfl, rfl, rfl, trivial⟩ ⟨by dsimp only; omega, x1, hG, by dsimp only; rw [subA_succ]; exact j1⟩
 ·have hmn : m = M := by omega
  subst hmn
  refine Go.seq noJ_ok ?_
  refine Go.region noJ_ok rfl ?_
  refine GoR.op rfl rfl (aOp_lss rfl rfl (r := false) (decide_eq_false (by omega))) rfl ?_
  refine GoR.end ?_
  refine Go.seq noJ_ok ?_
  refine Go.cond noJ_ok (b := false) rfl ?_
  refine Go.code noJ_ok ?_
  exact Go.endL (FLeft.ret (v := .tuple []) (aResult_of Tryz.func147 rfl rfl) ⟨rfl, x1, G, hG, .inl j1⟩)
theorem subsets_ok {of : Int} {h : AH} : Runs Tryz.prog 122 [.int .i64 of] h (fun en h' => ∃ bo, en = .ret (.func (.func 147) [] [.ptr bo 0]) ∧ Ext h h' ∧ Has h' bo (.cells .plain [.int .i64 of] 3) ∧ Ext h' h') := by
 have e0 : Ext h h := Ext.refl _
 refine Runs.intro aFunc122 rfl rfl rfl rfl fun rest => ?_
 refine Go.seq noJ_ok ?_
 refine Go.region noJ_ok rfl ?_
 refine GoR.box rfl rfl rfl rfl rfl rfl fun h0 x0 f0 => ?_
 replace e0 := e0.trans x0
 refine GoR.op rfl rfl rfl rfl ?_
 refine GoR.end ?_
 refine Go.seq noJ_ok ?_
 refine Go.region noJ_ok rfl ?_
 iterate 2 refine GoR.op rfl rfl rfl rfl ?_
 refine GoR.end ?_
 exact Go.ret noJ_ok (ret_end (aResult_of Tryz.func122 rfl rfl) ⟨_, rfl, e0, f0, Ext.refl _⟩)
def RoadV.less (R : RoadV) (out : Nat) : RoadV := ⟨R.ps, withoutV R.es out⟩
theorem less_ok {R : RoadV} (O : R.Ok) (out : Nat) : (R.less out).Ok where
 np := O.np
 ne := by have := O.ne; show (withoutV R.es out).length ≤ 10; rw [without_is]; have := wo_len (out := out) (k := 0) (L := R.es); omega
 p := O.p
 e := fun e he => O.e e (by
  have : e ∈ withoutV R.es out := he
  rw [without_is] at this
  exact wo_mem this)
 d := by
  have hs : (withoutV R.es out).Sublist R.es := by rw [without_is]; exact wo_sub
  have := (hs.filter EV.doubt).length_le
  have h2 := O.d
  unfold doubtsV at *
  show ((withoutV R.es out).filter EV.doubt).length ≤ 4
  omega
def RoadV.clashes (R : RoadV) (only : Nat) : Bool := !(R.less (andNot (looksV R.es) only)).possible
def RoadV.clashI (R : RoadV) : Option Int := ((subs (looksV R.es)).map fun s => ((s : Nat) : Int)).find? fun x => R.clashes x.toNat
def RoadV.clashR (R : RoadV) : Int × Int := if R.Ok then (if R.possible = true then (0, 4) else (R.clashI.getD 0, 0)) else (0, 1)
theorem andNot_le (a b : Nat) (ha : a < 2 ^ 64) : andNot a b ≤ a := by
 unfold andNot
 rw [BitVec.toNat_and, BitVec.toNat_ofNat, Nat.mod_eq_of_lt ha]
 exact Nat.and_le_left
theorem looks_lt {R : RoadV} (O : R.Ok) : looksV R.es < 1024 := by
 have h1 : looksV R.es < 2 ^ R.es.length := bitsV_lt _ _
 have h2 : 2 ^ R.es.length ≤ 2 ^ 10 := Nat.pow_le_pow_right (by omega) O.ne
 omega
theorem clash123_ok {R : RoadV} (O : R.Ok) {lo : Nat} {gp ge : AVal} {bg bl : Nat} {only : Nat} {h : AH} (A : GroundAt h R lo gp ge) (f0 : Has h bg (.cells .plain [gp, ge] 77)) (f1 : Has h bl (.cells .plain [.int .i64 (looksV R.es : Nat)] 3)) :
  Runs Tryz.prog 123 [.int .i64 (only : Nat), .ptr bg 0, .ptr bl 0] h (fun en h' => en = .ret (.bool (R.clashes only)) ∧ Ext h h') := by
 have hb0 := f0.1
 have hb1 := f1.1
 have hl := looks_lt O
 have hle := andNot_le (looksV R.es) only (by omega)
 have hw := fun {h9} A => without_ok O (lo := lo) (gp := gp) (ge := ge) (out := andNot (looksV R.es) only) (by omega) (h := h9) A
 unfold RoadV.clashes
 have e0 : Ext h h := Ext.refl _
 refine Runs.intro aFunc123 rfl rfl rfl rfl fun rest => ?_
 refine Go.seq noJ_ok ?_
 refine Go.region noJ_ok rfl ?_
 refine GoR.op rfl rfl rfl rfl ?_
 refine GoR.end ?_
 refine Go.seq noJ_ok ?_
 refine Go.region noJ_ok rfl ?_
 refine GoR.op rfl rfl (ld77 rfl f0 rfl) rfl ?_
 refine GoR.op rfl rfl (ld3 rfl f1 rfl) rfl ?_
 refine GoR.op rfl rfl rfl rfl ?_
 refine GoR.op rfl rfl (aOp_andNot rfl rfl (by omega) rfl) rfl ?_
 refine GoR.call rfl rfl (aOp_callFunc aFunc124 rfl) (hw (A.ext e0)) ?_ (by rintro _ _ ⟨s, q, _, _⟩; cases q)
 rintro v2 h2 ⟨s, q, x2, f2⟩
 cases q
 refine ⟨_, rfl, ?_⟩
 replace f0 := f0.ext x2
 replace f1 := f1.ext x2
 replace e0 := e0.trans x2
 refine GoR.call rfl rfl (aOp_callFunc aFunc120 rfl) (possible_ok (less_ok O (andNot (looksV R.es) only)) (by assumption)) ?_ (by rintro _ _ ⟨q, _⟩; cases q)
 rintro v3 h3 ⟨q, x3⟩
 cases q
 refine ⟨_, rfl, ?_⟩
 replace e0 := e0.trans x3
 iterate 2 refine GoR.op rfl rfl rfl rfl ?_
 refine GoR.end ?_
 exact Go.ret noJ_ok (ret_end (aResult_of Tryz.func123 rfl rfl) ⟨rfl, e0⟩)
end Go.Proofs.YtkcimfopboelaaaGreat

namespace Go.Proofs.YtkcimfopboelaaaGreat
open Go Go.AbsE
set_option linter.unusedSimpArgs false
set_option maxRecDepth 100000
set_option maxHeartbeats 0
set_option linter.unusedVariables false
theorem clash80_ok {R : RoadV} (O : R.Ok) {lo : Nat} {gp ge : AVal} {h : AH} (A : GroundAt h R lo gp ge) :
  Runs Tryz.prog 80 [.agg [gp, ge]] h (fun en h' => en = (if R.possible = true then .pan (refusal 4) else .ret (.int .i64 (R.clashI.getD 0))) ∧ Ext h h') := by
 have hl := looks_lt O
 cases hp : R.possible with
 | true =>
  rw [if_pos rfl]
  have hpo := fun {h9} A => possible_ok O (lo := lo) (gp := gp) (ge := ge) (h := h9) A
  rw [hp] at hpo
  have e0 : Ext h h := Ext.refl _
  refine Runs.intro aFunc80 rfl rfl rfl rfl fun rest => ?_
  refine Go.seq noJ_ok ?_
  refine Go.region noJ_ok rfl ?_
  refine GoR.box rfl rfl rfl rfl rfl rfl fun h0 x0 f0 => ?_
  have := e0.1
  replace e0 := e0.trans x0
  have := f0.1
  refine GoR.op rfl rfl rfl rfl ?_
  refine GoR.end ?_
  refine Go.seq noJ_ok ?_
  refine Go.region noJ_ok rfl ?_
  refine GoR.op rfl rfl (ld77 rfl f0 rfl) rfl ?_
  refine GoR.call rfl rfl (aOp_callFunc aFunc120 rfl) (hpo (A.ext e0)) ?_ (by rintro _ _ ⟨q, _⟩; cases q)
  rintro v1 h1 ⟨q, x1⟩
  cases q
  refine ⟨_, rfl, ?_⟩
  replace f0 := f0.ext x1
  replace e0 := e0.trans x1
  refine GoR.callP rfl rfl (aOp_callFunc aFunc91 rfl) (refuse_yes _ _) (by rintro _ _ ⟨q, _⟩; cases q) ?_
  rintro chain h2 ⟨q, x2⟩
  have q := AEnd.pan.inj q
  subst q
  replace f0 := f0.ext x2
  replace e0 := e0.trans x2
  exact FLeft.pan (⟨rfl, e0⟩)
 | false =>
  rw [if_neg (by decide)]
  have hpo := fun {h9} A => possible_ok O (lo := lo) (gp := gp) (ge := ge) (h := h9) A
  rw [hp] at hpo
  have hfi : ∀ {h9 : AH} {bo b b2 : Nat}, Ext h h9 → Has h9 bo (.cells .plain [.int .i64 (looksV R.es : Nat)] 3) → Has h9 b (.cells .plain [gp, ge] 77) → Has h9 b2 (.cells .plain [.int .i64 (looksV R.es : Nat)] 3) → Runs Tryz.prog 110 [.func (.func 147) [] [.ptr bo 0], .agg [.func (.func 123) [] [.ptr b 0, .ptr b2 0]]] h9 (fun en h' => en = .ret (.tuple [.int .i64 (R.clashI.getD 0), .bool R.clashI.isSome]) ∧ Ext h9 h') := fun {h9 bo b b2} e fo f f2 => by
   have it := subs1_it (of := looksV R.es) hl bo
   have hm : (subs (looksV R.es)).map (fun s => AVal.int .i64 (s : Nat)) = ((subs (looksV R.es)).map fun s => ((s : Nat) : Int)).map (.int .i64) := by rw [List.map_map]; rfl
   rw [hm] at it
   exact first_ok aFunc147 it aFunc123 (fun x => R.clashes x.toNat) (fun h' x => fo.ext x) fun x h' hx e' => by
    obtain ⟨s, hs, rfl⟩ := List.mem_map.1 hx
    rw [Int.toNat_natCast]
    exact clash123_ok O (A.ext (e.trans e')) (f.ext e') (f2.ext e')
  have e0 : Ext h h := Ext.refl _
  refine Runs.intro aFunc80 rfl rfl rfl rfl fun rest => ?_
  refine Go.seq noJ_ok ?_
  refine Go.region noJ_ok rfl ?_
  refine GoR.box rfl rfl rfl rfl rfl rfl fun h0 x0 f0 => ?_
  have := e0.1
  replace e0 := e0.trans x0
  have := f0.1
  refine GoR.op rfl rfl rfl rfl ?_
  refine GoR.end ?_
  refine Go.seq noJ_ok ?_
  refine Go.region noJ_ok rfl ?_
  refine GoR.op rfl rfl (ld77 rfl f0 rfl) rfl ?_
  refine GoR.call rfl rfl (aOp_callFunc aFunc120 rfl) (hpo (A.ext e0)) ?_ (by rintro _ _ ⟨q, _⟩; cases q)
  rintro v1 h1 ⟨q, x1⟩
  cases q
  refine ⟨_, rfl, ?_⟩
  replace f0 := f0.ext x1
  replace e0 := e0.trans x1
  refine GoR.call rfl rfl (aOp_callFunc aFunc91 rfl) (refuse_no _ _) ?_ (by rintro _ _ ⟨q, _⟩; cases q)
  rintro v2 h2 ⟨q, x2⟩
  cases q
  refine ⟨_, rfl, ?_⟩
  replace f0 := f0.ext x2
  replace e0 := e0.trans x2
  refine GoR.end ?_
  refine Go.seq noJ_ok ?_
  refine Go.region noJ_ok rfl ?_
  refine GoR.op rfl rfl (ld77 rfl f0 rfl) rfl ?_
  refine GoR.call rfl rfl (aOp_callFunc aFunc121 rfl) (looks_ok O (A.ext e0)) ?_ (by rintro _ _ ⟨q, _⟩; cases q)
  rintro v3 h3 ⟨q, x3⟩
  cases q
  refine ⟨_, rfl, ?_⟩
  replace f0 := f0.ext x3
  replace e0 := e0.trans x3
  refine GoR.alloc rfl rfl rfl zt3 rfl rfl fun h4 x4 f4 => ?_
  have := e0.1
  have := f0.1
  replace f0 := f0.ext x4
  replace e0 := e0.trans x4
  have := f4.1
  refine GoR.store rfl rfl rfl rfl rfl rfl f4 rfl sz3 rfl rfl rfl fun h5 u5 => ?_
  replace f4 := u5.has f4
  replace f0 := f0.upd u5 (by omega)
  replace e0 := e0.upd u5 (by omega)
  refine GoR.end ?_
  refine Go.seq noJ_ok ?_
  refine Go.region noJ_ok rfl ?_
  refine GoR.op rfl rfl (ld3 rfl f4 rfl) rfl ?_
  refine GoR.call rfl rfl (aOp_callFunc aFunc122 rfl) (subsets_ok) ?_ (by rintro _ _ ⟨bo, q, _, _, e9⟩; cases q)
  rintro v6 h6 ⟨bo, q, x6, f6, e9⟩
  cases q
  refine ⟨_, rfl, ?_⟩
  replace f4 := f4.ext x6
  replace f0 := f0.ext x6
  replace e0 := e0.trans x6
  refine GoR.op rfl rfl rfl rfl ?_
  refine GoR.op rfl rfl (aOp_build zt145 hu145 pl145 rfl rfl) rfl ?_
  refine GoR.call rfl rfl (aOp_callFunc aFunc110 rfl) (hfi e0 (by assumption) f0 (by assumption)) ?_ (by rintro _ _ ⟨q, _⟩; cases q)
  rintro v7 h7 ⟨q, x7⟩
  cases q
  refine ⟨_, rfl, ?_⟩
  replace e0 := e0.trans x7
  iterate 5 refine GoR.op rfl rfl rfl rfl ?_
  refine GoR.end ?_
  refine Go.seq noJ_ok ?_
  refine Go.region noJ_ok rfl ?_
  iterate 2 refine GoR.op rfl rfl rfl rfl ?_
  refine GoR.end ?_
  exact Go.ret noJ_ok (ret_end (aResult_of Tryz.func80 rfl rfl) ⟨rfl, e0⟩)
theorem clashB_ok {R : RoadV} (O : R.Ok) {lo : Nat} {gp ge : AVal} {br : Nat} {h : AH} (A : GroundAt h R lo gp ge) (f2 : Has h br (.cells .plain [.int .i64 0] 3)) :
  Runs Tryz.prog 79 [.agg [gp, ge], .ptr br 0] h (fun en h'' => ExtF (fun b => b = br) h h'' ∧ Has h'' br (.cells .plain [.int .i64 (R.clashR).1] 3) ∧ (((R.clashR).2 = 0 ∧ en = .ret (.tuple [])) ∨ en = .pan (refusal (R.clashR).2))) := by
 have y0 : ExtF (fun b => b = br) h h := ExtF.of (Ext.refl _)
 have l2 := f2.1
 have hc := fun {h9} A => clash80_ok O (lo := lo) (gp := gp) (ge := ge) (h := h9) A
 unfold RoadV.clashR
 rw [if_pos O]
 cases hp : R.possible with
 | true =>
  rw [hp, if_pos rfl] at hc
  rw [if_pos rfl]
  have e0 : Ext h h := Ext.refl _
  refine Runs.intro aFunc79 rfl rfl rfl rfl fun rest => ?_
  refine Go.seq noJ_ok ?_
  refine Go.region noJ_ok rfl ?_
  refine GoR.box rfl rfl rfl rfl rfl rfl fun h3 x3 f3 => ?_
  replace f2 := f2.ext x3
  replace e0 := e0.trans x3
  replace y0 := y0.ext x3
  refine GoR.end ?_
  refine Go.region noJ_ok rfl ?_
  refine GoR.op rfl rfl (ld77 rfl f3 rfl) rfl ?_
  refine GoR.callP rfl rfl (aOp_callFunc aFunc80 rfl) (hc (A.ext e0)) (by rintro _ _ ⟨q, _⟩; cases q) ?_
  rintro chain h4 ⟨q, x4⟩
  have q := AEnd.pan.inj q
  subst q
  replace f3 := f3.ext x4
  replace f2 := f2.ext x4
  replace e0 := e0.trans x4
  replace y0 := y0.ext x4
  exact FLeft.pan (⟨y0, f2, .inr rfl⟩)
 | false =>
  rw [hp, if_neg (by decide)] at hc
  rw [if_neg (by decide)]
  have e0 : Ext h h := Ext.refl _
  refine Runs.intro aFunc79 rfl rfl rfl rfl fun rest => ?_
  refine Go.seq noJ_ok ?_
  refine Go.region noJ_ok rfl ?_
  refine GoR.box rfl rfl rfl rfl rfl rfl fun h3 x3 f3 => ?_
  replace f2 := f2.ext x3
  replace e0 := e0.trans x3
  replace y0 := y0.ext x3
  refine GoR.end ?_
  refine Go.region noJ_ok rfl ?_
  refine GoR.op rfl rfl (ld77 rfl f3 rfl) rfl ?_
  refine GoR.call rfl rfl (aOp_callFunc aFunc80 rfl) (hc (A.ext e0)) ?_ (by rintro _ _ ⟨q, _⟩; cases q)
  rintro v4 h4 ⟨q, x4⟩
  cases q
  refine ⟨_, rfl, ?_⟩
  replace f2 := f2.ext x4
  replace y0 := y0.ext x4
  refine GoR.store rfl rfl rfl rfl rfl rfl f2 rfl sz3 rfl rfl rfl fun h5 u5 => ?_
  replace f2 := u5.has f2
  clear e0
  replace y0 := y0.upd u5 (.inl rfl)
  refine GoR.end ?_
  exact Go.endL (FLeft.ret (v := .tuple []) (aResult_of Tryz.func79 rfl rfl) ⟨y0, f2, .inl ⟨rfl, rfl⟩⟩)
theorem Clash_ok {R : RoadV} {psl esl : AVal} {h : AH} (A : RoadAt h R psl esl) (hb1 : R.ps.length ≤ 40) (hb2 : R.es.length ≤ 40) :
  Runs Tryz.prog 30 [.agg [psl, esl]] h (fun en h' => en = .ret (.tuple [.int .i64 (R.clashR).1, .int .i64 (R.clashR).2]) ∧ Ext h h') := by
 by_cases O : R.Ok
 ·have hB := fun {lo gp ge br h} A => clashB_ok O (lo := lo) (gp := gp) (ge := ge) (br := br) (h := h) A
  obtain ⟨r, hr⟩ : ∃ r, R.clashR = r := ⟨_, rfl⟩
  rw [hr] at hB ⊢
  obtain ⟨r1, c⟩ := r
  have e0 : Ext h h := Ext.refl _
  refine Runs.intro aFunc30 rfl rfl rfl rfl fun rest => ?_
  refine Go.seq noJ_ok ?_
  refine Go.region noJ_ok rfl ?_
  refine GoR.box rfl rfl rfl rfl rfl rfl fun h0 x0 f0 => ?_
  have := e0.1
  replace e0 := e0.trans x0
  have := f0.1
  refine GoR.alloc rfl rfl rfl zt3 rfl rfl fun h1 x1 f1 => ?_
  have := e0.1
  have := f0.1
  replace f0 := f0.ext x1
  replace e0 := e0.trans x1
  have := f1.1
  refine GoR.op rfl rfl rfl rfl ?_
  refine GoR.end ?_
  refine Go.seq noJ_ok ?_
  refine Go.region noJ_ok rfl ?_
  refine GoR.op rfl rfl (ld25 rfl f0 rfl) rfl ?_
  refine GoR.op rfl rfl rfl rfl ?_
  refine GoR.call rfl rfl (aOp_callFunc aFunc48 rfl) (attempt_sets O psl esl _ (A.ext e0) 79 _ aFunc79 _ (by simp [sameA, sameAs, eqI_eq]) h0.next (by omega) [.int .i64 r1] 3 c fun h' gp ge e g => hB g (f1.ext e)) ?_ (by rintro _ _ ⟨q, _⟩; cases q)
  rintro v9 h9 ⟨q, y9, f9⟩
  cases q
  refine ⟨_, rfl, ?_⟩
  have z9 := y9.low e0 (fun b q => by omega)
  clear e0 y9 f1
  have e0 := z9
  refine GoR.op rfl rfl rfl rfl ?_
  refine GoR.end ?_
  refine Go.seq noJ_ok ?_
  refine Go.region noJ_ok rfl ?_
  refine GoR.op rfl rfl (ld3 rfl f9 rfl) rfl ?_
  refine GoR.op rfl rfl rfl rfl ?_
  refine GoR.store rfl rfl rfl rfl rfl rfl f9 rfl sz3 rfl rfl rfl fun h10 u10 => ?_
  replace f9 := u10.has f9
  replace e0 := e0.upd u10 (by omega)
  refine GoR.op rfl rfl rfl rfl ?_
  refine GoR.end ?_
  exact Go.ret noJ_ok (ret_end (aResult_of Tryz.func30 rfl (aResults_c rfl f9 (inCells_one ag3 rfl) rfl)) ⟨rfl, e0⟩)
 ·have hr : R.clashR = (0, 1) := by unfold RoadV.clashR; rw [if_neg O]
  rw [hr]
  have e0 : Ext h h := Ext.refl _
  refine Runs.intro aFunc30 rfl rfl rfl rfl fun rest => ?_
  refine Go.seq noJ_ok ?_
  refine Go.region noJ_ok rfl ?_
  refine GoR.box rfl rfl rfl rfl rfl rfl fun h0 x0 f0 => ?_
  have := e0.1
  replace e0 := e0.trans x0
  have := f0.1
  refine GoR.alloc rfl rfl rfl zt3 rfl rfl fun h1 x1 f1 => ?_
  have := e0.1
  have := f0.1
  replace f0 := f0.ext x1
  replace e0 := e0.trans x1
  have := f1.1
  refine GoR.op rfl rfl rfl rfl ?_
  refine GoR.end ?_
  refine Go.seq noJ_ok ?_
  refine Go.region noJ_ok rfl ?_
  refine GoR.op rfl rfl (ld25 rfl f0 rfl) rfl ?_
  refine GoR.op rfl rfl rfl rfl ?_
  refine GoR.call rfl rfl (aOp_callFunc aFunc48 rfl) (attempt_bad O hb1 hb2 psl esl _ (A.ext e0) 79 _) ?_ (by rintro _ _ ⟨q, _⟩; cases q)
  rintro v2 h2 ⟨q, x2⟩
  cases q
  refine ⟨_, rfl, ?_⟩
  replace f1 := f1.ext x2
  replace e0 := e0.trans x2
  refine GoR.op rfl rfl rfl rfl ?_
  refine GoR.end ?_
  refine Go.seq noJ_ok ?_
  refine Go.region noJ_ok rfl ?_
  refine GoR.op rfl rfl (ld3 rfl f1 rfl) rfl ?_
  refine GoR.op rfl rfl rfl rfl ?_
  refine GoR.store rfl rfl rfl rfl rfl rfl f1 rfl sz3 rfl rfl rfl fun h3 u3 => ?_
  replace f1 := u3.has f1
  replace e0 := e0.upd u3 (by omega)
  refine GoR.op rfl rfl rfl rfl ?_
  refine GoR.end ?_
  exact Go.ret noJ_ok (ret_end (aResult_of Tryz.func30 rfl (aResults_c rfl f1 (inCells_one ag3 rfl) rfl)) ⟨rfl, e0⟩)
end Go.Proofs.YtkcimfopboelaaaGreat

namespace Go.Proofs.YtkcimfopboelaaaGreat
open Go Go.AbsE
set_option linter.unusedSimpArgs false
set_option maxRecDepth 100000
set_option maxHeartbeats 0
set_option linter.unusedVariables false
end Go.Proofs.YtkcimfopboelaaaGreat

set_option linter.unusedSimpArgs false
namespace Go.AbsE
open Go
section
variable {P : Program} {t : Tr AVal} {h : AH} {dst : Option Tmp} {ty tt : TypeId} {pos : String} {after : Array Edge} {guard : Option (Nat × Bool)} {x y : Operand}
theorem slice_all0 {α : Type} {l : List α} {n : Nat} (h : l.length = n) : slice? l 0 n = some l := slice_all h
theorem aOp_appendFull {el el2 eb t1 t2 : TypeId} {sz bytes b len : Nat} {z s : AVal} {g0 : Kd} {Lx L : List (List AVal)} (hu1 : P.underlying t1 = some (.slice el)) (hu2 : P.underlying t2 = some (.slice el2)) (hs : sizeT P el = some sz) (hby : bytesT P el = some bytes) (hz : zeroT P el = some z) (hzl : Nat.beq z.cells.length sz = true) (hsz : Nat.blt 0 sz = true)
  (hx : ev t x = some (.slice b 0 len len)) (hb : Has h b (.cells g0 Lx.flatten eb)) (hg : g0.isRo = false) (hlx : Lx.length = len) (hzx : ∀ l, l ∈ Lx → l.length = sz) (hy : ev t y = some s) (hsl : SliceOf h sz s L) (hzL : ∀ l, l ∈ L → l.length = sz) (hroom : (len + L.length + 300) * 2 * (bytes + 1) < 281474976710656) :
  ∃ s' h1, aOp P t h ⟨dst, .call ⟨.builtin .append, #[x, y], #[t1, t2]⟩, tt, pos, after, guard⟩ = some (.val s' h1) ∧ Ext h h1 ∧ FreshS b h1 sz s' (Lx ++ L) := by
 subst hlx
 have hfx := flatten_len hzx
 by_cases hL : L = []
 ·subst hL
  obtain ⟨h1, q1, q2⟩ := aOp_appendIn (P := P) (t := t) (h := h) (dst := dst) (tt := tt) (pos := pos) (after := after) (guard := guard) (x := x) (y := y) (cap := Lx.length) (m := Lx.length) (new := []) (cs' := Lx.flatten) (cs := Lx.flatten) hu1 hu2 hs hby hz hzl hsz hx hy hsl.len (by rw [hsl.src]; rfl) rfl (by simp) (by simpa using hroom) hb hg rfl (by
   rw [Nat.zero_add, ← hfx]
   have : splice Lx.flatten Lx.flatten.length [] = some (Lx.flatten.take Lx.flatten.length ++ [] ++ Lx.flatten.drop (Lx.flatten.length + ([] : List AVal).length)) := splice_eq (by simp)
   rw [this]
   simp)
  refine ⟨_, h1, q1, ⟨by rw [q2.1]; exact Nat.le_refl _, fun c hc => ?_⟩, ?_⟩
  ·by_cases z : c = b
   ·subst z; rw [q2.2.1, hb.2]
   ·exact q2.2.2 c z
  ·rw [List.append_nil]
   intro h' hn he
   have hb1 := q2.has hb
   refine SliceOf.mk' rfl rfl (hb1.fresh (Nat.le_refl b) hn he) rfl fun i l hl => ?_
   rw [Nat.zero_add]
   exact slice_flatten hzx i l hl
 ·have hL0 : 0 < L.length := List.length_pos_iff.2 hL
  obtain ⟨h1, q⟩ := new_some h (.cells .grow (Lx ++ L).flatten el)
  obtain ⟨_, q2, q3⟩ := new_ext q
  refine ⟨.gsl h.next 0 0 (Lx.length + L.length), h1, ?_, q2, ?_⟩
  ·show opCall P t h ⟨.builtin .append, #[x, y], #[t1, t2]⟩ tt = _
   have he : evs t [x, y] = some [.slice b 0 Lx.length Lx.length, s] := by simp only [evs, mapO, hx, hy]
   have hlt : Nat.blt ((Lx.length + L.length + 300) * 2 * (bytes + 1)) 281474976710656 = true := Nat.ble_eq_true_of_le hroom
   have hold : srcCells h sz Lx.length (.slice b 0 Lx.length Lx.length) = some Lx.flatten := by
    show AbsE.loadCells h b 0 (Lx.length * sz) = _
    unfold AbsE.loadCells
    rw [hb.2]
    exact slice_all0 hfx
   have hle : Nat.ble (Lx.length + L.length) Lx.length = false := by
    cases q : Nat.ble (Lx.length + L.length) Lx.length with
    | false => rfl
    | true => have := Nat.le_of_ble_eq_true q; omega
   have ha : aAppend P h t1 t2 (.slice b 0 Lx.length Lx.length) s = some (.val (.gsl h.next 0 0 (Lx.length + L.length)) h1) := by
    unfold aAppend
    rw [hu1, hu2]
    simp only [hs, hby, hz, show lenA (.slice b 0 Lx.length Lx.length) = some Lx.length from rfl, hsl.len, hsl.src, hlt, hsz, hzl, cond_true]
    unfold appSlice
    rw [hle, hold]
    simp only [cond_false]
    unfold growNew
    rw [← List.flatten_append, q]
   simp only [opCall, he, callWith, aBuiltin, ha]
  ·intro h' hn he
   refine SliceOf.mk' rfl rfl (q3.fresh (Nat.le_of_lt hb.1) hn he) (by rw [List.length_append]) fun i l hl => ?_
   rw [Nat.zero_add]
   refine slice_flatten (fun l hl => ?_) i l hl
   rcases List.mem_append.1 hl with hl | hl
   ·exact hzx l hl
   ·exact hzL l hl
variable {c : FC} {k : List AItem} {Q : AM → Prop} {J : Jump} {all : Array Oper} {l lrest : List Oper} {i d : Nat}
theorem GoR.appendFull {el el2 eb t1 t2 : TypeId} {sz bytes b len : Nat} {z s : AVal} {g0 : Kd} {Lx L : List (List AVal)} (hl : l = ⟨dst, .call ⟨.builtin .append, #[x, y], #[t1, t2]⟩, tt, pos, after, guard⟩ :: lrest) (hw : wantedA all t ⟨dst, .call ⟨.builtin .append, #[x, y], #[t1, t2]⟩, tt, pos, after, guard⟩ = some true)
  (hu1 : P.underlying t1 = some (.slice el)) (hu2 : P.underlying t2 = some (.slice el2)) (hs : sizeT P el = some sz) (hby : bytesT P el = some bytes) (hz : zeroT P el = some z) (hzl : Nat.beq z.cells.length sz = true) (hsz : Nat.blt 0 sz = true)
  (hx : ev t x = some (.slice b 0 len len)) (hb : Has h b (.cells g0 Lx.flatten eb)) (hg : g0.isRo = false) (hlx : Lx.length = len) (hzx : ∀ l, l ∈ Lx → l.length = sz) (hy : ev t y = some s) (hsl : SliceOf h sz s L) (hzL : ∀ l, l ∈ L → l.length = sz) (hroom : (len + L.length + 300) * 2 * (bytes + 1) < 281474976710656) (hd : dst = some d) (hdn : Nat.blt d c.n = true)
  (g : ∀ s' h1, Ext h h1 → FreshS b h1 sz s' (Lx ++ L) → GoR P J c k Q (runOps P c.n all lrest (i + 1) (t.put (pth d) (some s')) h1)) : GoR P J c k Q (runOps P c.n all l i t h) := by
 obtain ⟨s', h1, q1, q2, q3⟩ := aOp_appendFull (P := P) (dst := dst) (tt := tt) (pos := pos) (after := after) (guard := guard) hu1 hu2 hs hby hz hzl hsz hx hb hg hlx hzx hy hsl hzL hroom
 refine GoR.op hl hw q1 ?_ (g s' h1 q2 q3)
 unfold prepD
 rw [show (⟨dst, .call ⟨.builtin .append, #[x, y], #[t1, t2]⟩, tt, pos, after, guard⟩ : Oper).dst = some d from hd]
 simp only [hdn, cond_true]
 rw [Tr.mkPut_eq]
end
end Go.AbsE

namespace Go.Proofs.YtkcimfopboelaaaGreat
open Go Go.AbsE
set_option linter.unusedSimpArgs false
set_option maxRecDepth 100000
set_option maxHeartbeats 0
set_option linter.unusedVariables false
def mkPass (lo hi : Int) : EV := ⟨0, lo, hi, 0, 0, 0, 0⟩
def mkRest (d : Int) : EV := ⟨1, 0, 0, d, 0, 0, 0⟩
def mkLook (p lo hi : Int) : EV := ⟨2, 0, 0, 0, p, lo, hi⟩
def sampleV (E : List EV) : RoadV := ⟨[⟨10, 11, 2, 2, 1, 1, 12⟩, ⟨8, 8, 3, 4, 0, 1, 9⟩], [mkPass 6 6, mkRest 2] ++ E⟩
theorem span33_ok {a b : Int} {h : AH} : Runs Tryz.prog 33 [.int .i64 a, .int .i64 b] h (fun en h' => en = .ret (.agg [.int .i64 a, .int .i64 b]) ∧ Ext h h') := by
 have e0 : Ext h h := Ext.refl _
 refine Runs.intro aFunc33 rfl rfl rfl rfl fun rest => ?_
 refine Go.seq noJ_ok ?_
 refine Go.region noJ_ok rfl ?_
 refine GoR.alloc rfl rfl rfl zt29 rfl rfl fun h0 x0 f0 => ?_
 have := e0.1
 replace e0 := e0.trans x0
 have := f0.1
 refine GoR.end ?_
 refine Go.seq noJ_ok ?_
 refine Go.region noJ_ok rfl ?_
 iterate 2 refine GoR.op rfl rfl rfl rfl ?_
 refine GoR.op rfl rfl (aOp_build zt29 hu29 pl29 rfl rfl) rfl ?_
 refine GoR.store rfl rfl rfl rfl rfl rfl f0 rfl sz29 rfl rfl rfl fun h1 u1 => ?_
 replace f0 := u1.has f0
 replace e0 := e0.upd u1 (by omega)
 refine GoR.end ?_
 exact Go.ret noJ_ok (ret_end (aResult_of Tryz.func33 rfl (aResults_cell rfl f0 (inCells_agg ag29 sz29 rfl))) ⟨rfl, e0⟩)
theorem look42_ok {p a b : Int} {h : AH} : Runs Tryz.prog 42 [.int .i64 p, .int .i64 a, .int .i64 b] h (fun en h' => en = .ret (.agg (EV.cells (mkLook p a b))) ∧ Ext h h') := by
 unfold mkLook EV.cells
 have e0 : Ext h h := Ext.refl _
 refine Runs.intro aFunc42 rfl rfl rfl rfl fun rest => ?_
 refine Go.seq noJ_ok ?_
 refine Go.region noJ_ok rfl ?_
 refine GoR.alloc rfl rfl rfl zt62 rfl rfl fun h0 x0 f0 => ?_
 have := e0.1
 replace e0 := e0.trans x0
 have := f0.1
 refine GoR.end ?_
 refine Go.seq noJ_ok ?_
 refine Go.region noJ_ok rfl ?_
 iterate 3 refine GoR.op rfl rfl rfl rfl ?_
 refine GoR.call rfl rfl (aOp_callFunc aFunc33 rfl) (span33_ok) ?_ (by rintro _ _ ⟨q, _⟩; cases q)
 rintro v1 h1 ⟨q, x1⟩
 cases q
 refine ⟨_, rfl, ?_⟩
 replace f0 := f0.ext x1
 replace e0 := e0.trans x1
 refine GoR.op rfl rfl (aOp_build zt62 hu62 pl62 rfl rfl) rfl ?_
 refine GoR.store rfl rfl rfl rfl rfl rfl f0 rfl sz62 rfl rfl rfl fun h2 u2 => ?_
 replace f0 := u2.has f0
 replace e0 := e0.upd u2 (by omega)
 refine GoR.end ?_
 exact Go.ret noJ_ok (ret_end (aResult_of Tryz.func42 rfl (aResults_cell rfl f0 (inCells_agg ag62 sz62 rfl))) ⟨rfl, e0⟩)
theorem pass43_ok {a b : Int} {h : AH} : Runs Tryz.prog 43 [.int .i64 a, .int .i64 b] h (fun en h' => en = .ret (.agg (EV.cells (mkPass a b))) ∧ Ext h h') := by
 unfold mkPass EV.cells
 have e0 : Ext h h := Ext.refl _
 refine Runs.intro aFunc43 rfl rfl rfl rfl fun rest => ?_
 refine Go.seq noJ_ok ?_
 refine Go.region noJ_ok rfl ?_
 refine GoR.alloc rfl rfl rfl zt62 rfl rfl fun h0 x0 f0 => ?_
 have := e0.1
 replace e0 := e0.trans x0
 have := f0.1
 refine GoR.end ?_
 refine Go.seq noJ_ok ?_
 refine Go.region noJ_ok rfl ?_
 iterate 2 refine GoR.op rfl rfl rfl rfl ?_
 refine GoR.call rfl rfl (aOp_callFunc aFunc33 rfl) (span33_ok) ?_ (by rintro _ _ ⟨q, _⟩; cases q)
 rintro v1 h1 ⟨q, x1⟩
 cases q
 refine ⟨_, rfl, ?_⟩
 replace f0 := f0.ext x1
 replace e0 := e0.trans x1
 refine GoR.op rfl rfl (aOp_build zt62 hu62 pl62 rfl rfl) rfl ?_
 refine GoR.store rfl rfl rfl rfl rfl rfl f0 rfl sz62 rfl rfl rfl fun h2 u2 => ?_
 replace f0 := u2.has f0
 replace e0 := e0.upd u2 (by omega)
 refine GoR.end ?_
 exact Go.ret noJ_ok (ret_end (aResult_of Tryz.func43 rfl (aResults_cell rfl f0 (inCells_agg ag62 sz62 rfl))) ⟨rfl, e0⟩)
theorem rest45_ok {d : Int} {h : AH} : Runs Tryz.prog 45 [.int .i64 d] h (fun en h' => en = .ret (.agg (EV.cells (mkRest d))) ∧ Ext h h') := by
 unfold mkRest EV.cells
 have e0 : Ext h h := Ext.refl _
 refine Runs.intro aFunc45 rfl rfl rfl rfl fun rest => ?_
 refine Go.seq noJ_ok ?_
 refine Go.region noJ_ok rfl ?_
 refine GoR.alloc rfl rfl rfl zt62 rfl rfl fun h0 x0 f0 => ?_
 have := e0.1
 replace e0 := e0.trans x0
 have := f0.1
 refine GoR.end ?_
 refine Go.seq noJ_ok ?_
 refine Go.region noJ_ok rfl ?_
 refine GoR.op rfl rfl rfl rfl ?_
 refine GoR.op rfl rfl (aOp_build zt62 hu62 pl62 rfl rfl) rfl ?_
 refine GoR.store rfl rfl rfl rfl rfl rfl f0 rfl sz62 rfl rfl rfl fun h1 u1 => ?_
 replace f0 := u1.has f0
 replace e0 := e0.upd u1 (by omega)
 refine GoR.end ?_
 exact Go.ret noJ_ok (ret_end (aResult_of Tryz.func45 rfl (aResults_cell rfl f0 (inCells_agg ag62 sz62 rfl))) ⟨rfl, e0⟩)
theorem evs_seven {L : List EV} : ∀ l, l ∈ L.map EV.cells → l.length = 7 := fun l hl => by
 obtain ⟨e, _, rfl⟩ := List.mem_map.1 hl
 rfl
theorem pvs_slice {h : AH} {b n : Nat} {g : Kd} {el : TypeId} {L : List PV} (hn : L.length = n) (f : Has h b (.cells g (L.flatMap PV.cells) el)) : SliceOf h 7 (.slice b 0 n n) (L.map PV.cells) :=
 SliceOf.mk' rfl rfl f (by rw [List.length_map, hn]) fun i v q => by rw [Nat.zero_add]; exact flatten_at pv_len i v q
theorem evs_slice {h : AH} {b n : Nat} {g : Kd} {el : TypeId} {L : List EV} (hn : L.length = n) (f : Has h b (.cells g (L.flatMap EV.cells) el)) : SliceOf h 7 (.slice b 0 n n) (L.map EV.cells) :=
 SliceOf.mk' rfl rfl f (by rw [List.length_map, hn]) fun i v q => by rw [Nat.zero_add]; exact flatten_at ev_len i v q
theorem scal_two {a b : AVal} (ha : scalars [a] = true) (hb : scalars [b] = true) : scalars [a, b] = true := by
 have h1 : cond (scalar a) (scalars []) false = true := ha
 show cond (scalar a) (scalars [b]) false = true
 cases q : scalar a with
 | true => exact hb
 | false => rw [q] at h1; cases h1
theorem road_scal {h : AH} {R : RoadV} {sp se : AVal} (A : RoadAt h R sp se) : scalars [sp, se] = true := scal_two A.ps.scal.1 A.es.scal.1
def RoadNew (lo : Nat) (h : AH) (R : RoadV) (sp se : AVal) : Prop := FreshS lo h 7 sp (R.ps.map PV.cells) ∧ FreshS lo h 7 se (R.es.map EV.cells)
theorem RoadNew.road {lo : Nat} {h : AH} {R : RoadV} {sp se : AVal} (k : RoadNew lo h R sp se) : RoadAt h R sp se := ⟨k.1.self, k.2.self⟩
theorem RoadNew.upd {lo n : Nat} {B : ABlk} {h h' : AH} {R : RoadV} {sp se : AVal} (k : RoadNew lo h R sp se) (u : Upd h n B h') (hn : n < lo) : RoadNew lo h' R sp se :=
 ⟨k.1.on (Nat.le_of_eq u.1.symm) fun b b1 _ => u.2.2 b (by omega), k.2.on (Nat.le_of_eq u.1.symm) fun b b1 _ => u.2.2 b (by omega)⟩
theorem fresh_pvs {lo : Nat} {h : AH} {b n : Nat} {g : Kd} {el : TypeId} {L : List PV} (hn : L.length = n) (hb : lo ≤ b) (f : Has h b (.cells g (L.flatMap PV.cells) el)) : FreshS lo h 7 (.slice b 0 n n) (L.map PV.cells) := fun h' hl he => pvs_slice hn ⟨Nat.lt_of_lt_of_le f.1 hl, by rw [he b hb f.1]; exact f.2⟩
theorem sample_ok {E : List EV} {s : AVal} {h : AH} (hs : SliceOf h 7 s (E.map EV.cells)) (hn : E.length ≤ 100) : Runs Tryz.prog 32 [s] h (fun en h' => ∃ sp se, en = .ret (.agg [sp, se]) ∧ Ext h h' ∧ RoadNew h.next h' (sampleV E) sp se ∧ Ext h' h') := by
 have p1 : ([⟨10, 11, 2, 2, 1, 1, 12⟩, ⟨8, 8, 3, 4, 0, 1, 9⟩] : List PV).flatMap PV.cells = _ := rfl
 have hpc := fun {h9} => pass43_ok (a := 6) (b := 6) (h := h9)
 have hrc := fun {h9} => rest45_ok (d := 2) (h := h9)
 unfold mkPass EV.cells at hpc
 unfold mkRest EV.cells at hrc
 have e0 : Ext h h := Ext.refl _
 refine Runs.intro aFunc32 rfl rfl rfl rfl fun rest => ?_
 refine Go.seq noJ_ok ?_
 refine Go.region noJ_ok rfl ?_
 refine GoR.alloc rfl rfl rfl zt25 rfl rfl fun h0 x0 f0 => ?_
 have := e0.1
 replace e0 := e0.trans x0
 have := f0.1
 refine GoR.end ?_
 refine Go.seq noJ_ok ?_
 refine Go.region noJ_ok rfl ?_
 refine GoR.call rfl rfl (aOp_callFunc aFunc33 rfl) (span33_ok) ?_ (by rintro _ _ ⟨q, _⟩; cases q)
 rintro v1 h1 ⟨q, x1⟩
 cases q
 refine ⟨_, rfl, ?_⟩
 replace f0 := f0.ext x1
 replace e0 := e0.trans x1
 refine GoR.call rfl rfl (aOp_callFunc aFunc33 rfl) (span33_ok) ?_ (by rintro _ _ ⟨q, _⟩; cases q)
 rintro v2 h2 ⟨q, x2⟩
 cases q
 refine ⟨_, rfl, ?_⟩
 replace f0 := f0.ext x2
 replace e0 := e0.trans x2
 refine GoR.call rfl rfl (aOp_callFunc aFunc33 rfl) (span33_ok) ?_ (by rintro _ _ ⟨q, _⟩; cases q)
 rintro v3 h3 ⟨q, x3⟩
 cases q
 refine ⟨_, rfl, ?_⟩
 replace f0 := f0.ext x3
 replace e0 := e0.trans x3
 refine GoR.op rfl rfl (aOp_build zt58 hu58 pl58 rfl rfl) rfl ?_
 refine GoR.call rfl rfl (aOp_callFunc aFunc33 rfl) (span33_ok) ?_ (by rintro _ _ ⟨q, _⟩; cases q)
 rintro v4 h4 ⟨q, x4⟩
 cases q
 refine ⟨_, rfl, ?_⟩
 replace f0 := f0.ext x4
 replace e0 := e0.trans x4
 refine GoR.call rfl rfl (aOp_callFunc aFunc33 rfl) (span33_ok) ?_ (by rintro _ _ ⟨q, _⟩; cases q)
 rintro v5 h5 ⟨q, x5⟩
 cases q
 refine ⟨_, rfl, ?_⟩
 replace f0 := f0.ext x5
 replace e0 := e0.trans x5
 refine GoR.call rfl rfl (aOp_callFunc aFunc33 rfl) (span33_ok) ?_ (by rintro _ _ ⟨q, _⟩; cases q)
 rintro v6 h6 ⟨q, x6⟩
 cases q
 refine ⟨_, rfl, ?_⟩
 replace f0 := f0.ext x6
 replace e0 := e0.trans x6
 refine GoR.op rfl rfl (aOp_build zt58 hu58 pl58 rfl rfl) rfl ?_
 refine GoR.buildSl rfl rfl (ps := [(0, .agg [.int .i64 10, .int .i64 11, .int .i64 2, .int .i64 2, .int .i64 1, .int .i64 1, .int .i64 12]), (1, .agg [.int .i64 8, .int .i64 8, .int .i64 3, .int .i64 4, .int .i64 0, .int .i64 1, .int .i64 9])]) (cs := ([⟨10, 11, 2, 2, 1, 1, 12⟩, ⟨8, 8, 3, 4, 0, 1, 9⟩] : List PV).flatMap PV.cells) Tryz.underlying22 rfl sz58 zt58 rfl rfl rfl rfl fun h7 x7 f7 => ?_
 have := e0.1
 have := f0.1
 replace f0 := f0.ext x7
 replace e0 := e0.trans x7
 have := f7.1
 refine GoR.call rfl rfl (aOp_callFunc aFunc43 rfl) (hpc) ?_ (by rintro _ _ ⟨q, _⟩; cases q)
 rintro v8 h8 ⟨q, x8⟩
 cases q
 refine ⟨_, rfl, ?_⟩
 replace f7 := f7.ext x8
 replace f0 := f0.ext x8
 replace e0 := e0.trans x8
 refine GoR.call rfl rfl (aOp_callFunc aFunc45 rfl) (hrc) ?_ (by rintro _ _ ⟨q, _⟩; cases q)
 rintro v9 h9 ⟨q, x9⟩
 cases q
 refine ⟨_, rfl, ?_⟩
 replace f7 := f7.ext x9
 replace f0 := f0.ext x9
 replace e0 := e0.trans x9
 refine GoR.buildSl rfl rfl (ps := [(0, .agg [.int .i64 0, .int .i64 6, .int .i64 6, .int .i64 0, .int .i64 0, .int .i64 0, .int .i64 0]), (1, .agg [.int .i64 1, .int .i64 0, .int .i64 0, .int .i64 2, .int .i64 0, .int .i64 0, .int .i64 0])]) (cs := ([mkPass 6 6, mkRest 2].map EV.cells).flatten) Tryz.underlying23 rfl sz62 zt62 rfl rfl rfl rfl fun h10 x10 f10 => ?_
 have := e0.1
 have := f7.1
 have := f0.1
 replace f7 := f7.ext x10
 replace f0 := f0.ext x10
 replace e0 := e0.trans x10
 have := f10.1
 refine GoR.op rfl rfl rfl rfl ?_
 have hb0 := f0.1
 have hsl := hs.ext e0
 have hps := pvs_slice (L := [⟨10, 11, 2, 2, 1, 1, 12⟩, ⟨8, 8, 3, 4, 0, 1, 9⟩]) rfl f7
 refine GoR.appendFull (Lx := [mkPass 6 6, mkRest 2].map EV.cells) rfl rfl Tryz.underlying23 Tryz.underlying23 sz62 by62 zt62 rfl rfl rfl f10 rfl rfl evs_seven rfl hsl evs_seven (by rw [List.length_map]; omega) rfl rfl fun s11 h11 x11 S11 => ?_
 replace f0 := f0.ext x11
 replace f7 := f7.ext x11
 replace e0 := e0.trans x11
 rw [← List.map_append] at S11
 have hs11 := S11.self.scal
 have h1' : cond (scalar s11) (scalars []) false = true := hs11.1
 have hsc : scalar s11 = true := by
  cases q : scalar s11 with
  | true => rfl
  | false => rw [q] at h1'; cases h1'
 have hx11 := x11.1
 have RN : RoadNew (h.next + 1) h11 (sampleV E) (.slice h6.next 0 2 2) s11 := ⟨fresh_pvs (L := [⟨10, 11, 2, 2, 1, 1, 12⟩, ⟨8, 8, 3, 4, 0, 1, 9⟩]) rfl (by omega) f7, fun h' hl he => S11 h' hl fun b b1 b2 => he b (by omega) b2⟩
 refine GoR.op rfl rfl (aOp_build (ps := [(0, .slice h6.next 0 2 2), (1, s11)]) (cs := [.slice h6.next 0 2 2, s11]) zt25 hu25 pl25 rfl (by simp [aFillA, hs11.2, cells_agg, splice]; rfl)) rfl ?_
 refine GoR.store rfl rfl rfl rfl rfl rfl f0 rfl sz25 rfl (by show cond true (cond (scalar s11) true false) false = true; rw [hsc]; rfl) rfl fun h12 u12 => ?_
 replace f0 := u12.has f0
 replace e0 := e0.upd u12 (by omega)
 refine GoR.end ?_
 have hr := RN.upd u12 (Nat.lt_succ_self _)
 exact Go.ret noJ_ok (ret_end (aResult_of Tryz.func32 rfl (aResults_cell rfl f0 (inCells_agg ag25 sz25 rfl))) ⟨_, _, rfl, e0, ⟨fun h' hl he => hr.1 h' hl fun b b1 b2 => he b (by omega) b2, fun h' hl he => hr.2 h' hl fun b b1 b2 => he b (by omega) b2⟩, Ext.refl _⟩)
theorem seen_ok {h : AH} : Runs Tryz.prog 34 [] h (fun en h' => ∃ sp se, en = .ret (.agg [sp, se]) ∧ Ext h h' ∧ RoadAt h' (sampleV [mkLook 1 7 9]) sp se ∧ Ext h' h') := by
 have hlk := fun {h9} => look42_ok (p := 1) (a := 7) (b := 9) (h := h9)
 unfold mkLook EV.cells at hlk
 have e0 : Ext h h := Ext.refl _
 refine Runs.intro aFunc34 rfl rfl rfl rfl fun rest => ?_
 refine Go.seq noJ_ok ?_
 refine Go.region noJ_ok rfl ?_
 refine GoR.alloc rfl rfl rfl zt25 rfl rfl fun h0 x0 f0 => ?_
 have := e0.1
 replace e0 := e0.trans x0
 have := f0.1
 refine GoR.end ?_
 refine Go.seq noJ_ok ?_
 refine Go.region noJ_ok rfl ?_
 refine GoR.call rfl rfl (aOp_callFunc aFunc42 rfl) (hlk) ?_ (by rintro _ _ ⟨q, _⟩; cases q)
 rintro v1 h1 ⟨q, x1⟩
 cases q
 refine ⟨_, rfl, ?_⟩
 replace f0 := f0.ext x1
 replace e0 := e0.trans x1
 refine GoR.buildSl rfl rfl (ps := [(0, .agg [.int .i64 2, .int .i64 0, .int .i64 0, .int .i64 0, .int .i64 1, .int .i64 7, .int .i64 9])]) (cs := [mkLook 1 7 9].flatMap EV.cells) Tryz.underlying23 rfl sz62 zt62 rfl rfl rfl rfl fun h2 x2 f2 => ?_
 have := e0.1
 have := f0.1
 replace f0 := f0.ext x2
 replace e0 := e0.trans x2
 have := f2.1
 refine GoR.call rfl rfl (aOp_callFunc aFunc32 rfl) (sample_ok (evs_slice (L := [mkLook 1 7 9]) rfl (by assumption)) (by decide)) ?_ (by rintro _ _ ⟨sp, se, q, _, RA, e9⟩; cases q)
 rintro v3 h3 ⟨sp, se, q, x3, RA, e9⟩
 cases q
 refine ⟨_, rfl, ?_⟩
 have := e0.1
 replace f2 := f2.ext x3
 replace f0 := f0.ext x3
 replace e0 := e0.trans x3
 refine GoR.store rfl rfl rfl rfl rfl rfl f0 rfl sz25 rfl (road_scal RA.road) rfl fun h4 u4 => ?_
 replace f2 := f2.upd u4 (by omega)
 replace f0 := u4.has f0
 clear e9
 replace e0 := e0.upd u4 (by omega)
 refine GoR.end ?_
 exact Go.ret noJ_ok (ret_end (aResult_of Tryz.func34 rfl (aResults_cell rfl f0 (inCells_agg ag25 sz25 rfl))) ⟨_, _, rfl, e0, (RA.upd (by assumption) (by omega)).road, Ext.refl _⟩)
theorem clash_ok {h : AH} : Runs Tryz.prog 35 [] h (fun en h' => ∃ sp se, en = .ret (.agg [sp, se]) ∧ Ext h h' ∧ RoadAt h' (sampleV [mkLook 1 7 9, mkLook 1 6 6]) sp se ∧ Ext h' h') := by
 have hlk := fun {h9} => look42_ok (p := 1) (a := 7) (b := 9) (h := h9)
 have hlk2 := fun {h9} => look42_ok (p := 1) (a := 6) (b := 6) (h := h9)
 unfold mkLook EV.cells at hlk hlk2
 have e0 : Ext h h := Ext.refl _
 refine Runs.intro aFunc35 rfl rfl rfl rfl fun rest => ?_
 refine Go.seq noJ_ok ?_
 refine Go.region noJ_ok rfl ?_
 refine GoR.alloc rfl rfl rfl zt25 rfl rfl fun h0 x0 f0 => ?_
 have := e0.1
 replace e0 := e0.trans x0
 have := f0.1
 refine GoR.end ?_
 refine Go.seq noJ_ok ?_
 refine Go.region noJ_ok rfl ?_
 refine GoR.call rfl rfl (aOp_callFunc aFunc42 rfl) (hlk) ?_ (by rintro _ _ ⟨q, _⟩; cases q)
 rintro v1 h1 ⟨q, x1⟩
 cases q
 refine ⟨_, rfl, ?_⟩
 replace f0 := f0.ext x1
 replace e0 := e0.trans x1
 refine GoR.call rfl rfl (aOp_callFunc aFunc42 rfl) (hlk2) ?_ (by rintro _ _ ⟨q, _⟩; cases q)
 rintro v2 h2 ⟨q, x2⟩
 cases q
 refine ⟨_, rfl, ?_⟩
 replace f0 := f0.ext x2
 replace e0 := e0.trans x2
 refine GoR.buildSl rfl rfl (ps := [(0, .agg [.int .i64 2, .int .i64 0, .int .i64 0, .int .i64 0, .int .i64 1, .int .i64 7, .int .i64 9]), (1, .agg [.int .i64 2, .int .i64 0, .int .i64 0, .int .i64 0, .int .i64 1, .int .i64 6, .int .i64 6])]) (cs := [mkLook 1 7 9, mkLook 1 6 6].flatMap EV.cells) Tryz.underlying23 rfl sz62 zt62 rfl rfl rfl rfl fun h3 x3 f3 => ?_
 have := e0.1
 have := f0.1
 replace f0 := f0.ext x3
 replace e0 := e0.trans x3
 have := f3.1
 refine GoR.call rfl rfl (aOp_callFunc aFunc32 rfl) (sample_ok (evs_slice (L := [mkLook 1 7 9, mkLook 1 6 6]) rfl (by assumption)) (by decide)) ?_ (by rintro _ _ ⟨sp, se, q, _, RA, e9⟩; cases q)
 rintro v4 h4 ⟨sp, se, q, x4, RA, e9⟩
 cases q
 refine ⟨_, rfl, ?_⟩
 have := e0.1
 replace f3 := f3.ext x4
 replace f0 := f0.ext x4
 replace e0 := e0.trans x4
 refine GoR.store rfl rfl rfl rfl rfl rfl f0 rfl sz25 rfl (road_scal RA.road) rfl fun h5 u5 => ?_
 replace f3 := f3.upd u5 (by omega)
 replace f0 := u5.has f0
 clear e9
 replace e0 := e0.upd u5 (by omega)
 refine GoR.end ?_
 exact Go.ret noJ_ok (ret_end (aResult_of Tryz.func35 rfl (aResults_cell rfl f0 (inCells_agg ag25 sz25 rfl))) ⟨_, _, rfl, e0, (RA.upd (by assumption) (by omega)).road, Ext.refl _⟩)
theorem v_h1 : (sampleV []).heightR 1 1 = ((6, 8), 0) := by decide +kernel
theorem v_s1 : (sampleV []).sinksR 1 8 = ((2, 3), 0) := by decide +kernel
theorem v_b1 : (sampleV []).bearsR 20 = (1, 0) := by decide +kernel
theorem v_m1 : (sampleV []).mostR = (18, 0) := by decide +kernel
theorem v_r1 : (sampleV [mkLook 1 7 9]).restR 20 = (1, 0) := by decide +kernel
theorem v_w1 : (sampleV []).belowR = ((0, 0), 0) := by decide +kernel
theorem v_k1 : (sampleV []).weakR = (1, 0) := by decide +kernel
theorem v_c1 : (sampleV [mkLook 1 7 9, mkLook 1 6 6]).clashR = (12, 0) := by decide +kernel
end Go.Proofs.YtkcimfopboelaaaGreat

namespace Go.Proofs.YtkcimfopboelaaaGreat
open Go Go.AbsE
set_option linter.unusedSimpArgs false
set_option maxRecDepth 100000
set_option maxHeartbeats 0
set_option linter.unusedVariables false
theorem sample_of {h : AH} : Runs Tryz.prog 32 [.nilslice] h (fun en h' => ∃ sp se, en = .ret (.agg [sp, se]) ∧ Ext h h' ∧ RoadAt h' (sampleV []) sp se ∧ Ext h' h') := (sample_ok (E := []) .nil (by decide)).mono fun _ _ ⟨sp, se, a, b, c, d⟩ => ⟨sp, se, a, b, c.road, d⟩
theorem spanT29 : SpanT Tryz.prog 29 := ⟨⟨_, _, Tryz.underlying29, by decide, by decide, rfl, rfl, ⟨_, Tryz.underlying3⟩, ⟨_, Tryz.underlying3⟩⟩, by kernel_rfl, by kernel_rfl⟩
theorem cv_h1 {h : AH} {sp se : AVal} (A : RoadAt h (sampleV []) sp se) : Runs Tryz.prog 15 [.agg [sp, se], .int .i64 1, .int .i64 1] h (fun en h' => en = .ret (.tuple [.agg [.int .i64 6, .int .i64 8], .int .i64 0]) ∧ Ext h h') := by
 have q := Height_ok A (by decide) (by decide) 1 1
 rw [v_h1] at q
 exact q
theorem cv_s1 {h : AH} {sp se : AVal} (A : RoadAt h (sampleV []) sp se) : Runs Tryz.prog 17 [.agg [sp, se], .int .i64 1, .int .i64 8] h (fun en h' => en = .ret (.tuple [.agg [.int .i64 2, .int .i64 3], .int .i64 0]) ∧ Ext h h') := by
 have q := Sinks_ok A (by decide) (by decide) 1 8
 rw [v_s1] at q
 exact q
theorem cv_b1 {h : AH} {sp se : AVal} (A : RoadAt h (sampleV []) sp se) : Runs Tryz.prog 19 [.agg [sp, se], .int .i64 20] h (fun en h' => en = .ret (.tuple [.int .i64 1, .int .i64 0]) ∧ Ext h h') := by
 have q := Bears_ok A (by decide) (by decide) 20
 rw [v_b1] at q
 exact q
theorem cv_m1 {h : AH} {sp se : AVal} (A : RoadAt h (sampleV []) sp se) : Runs Tryz.prog 24 [.agg [sp, se]] h (fun en h' => en = .ret (.tuple [.int .i64 18, .int .i64 0]) ∧ Ext h h') := by
 have q := Most_ok A (by decide) (by decide)
 rw [v_m1] at q
 exact q
theorem cv_r1 {h : AH} {sp se : AVal} (A : RoadAt h (sampleV [mkLook 1 7 9]) sp se) : Runs Tryz.prog 26 [.agg [sp, se], .int .i64 20] h (fun en h' => en = .ret (.tuple [.int .i64 1, .int .i64 0]) ∧ Ext h h') := by
 have q := Rest_ok A (by decide) (by decide) 20
 rw [v_r1] at q
 exact q
theorem cv_w1 {h : AH} {sp se : AVal} (A : RoadAt h (sampleV []) sp se) : Runs Tryz.prog 21 [.agg [sp, se]] h (fun en h' => en = .ret (.tuple [.int .i64 0, .int .i64 0, .int .i64 0]) ∧ Ext h h') := by
 have q := Below_ok A (by decide) (by decide)
 rw [v_w1] at q
 exact q
theorem cv_k1 {h : AH} {sp se : AVal} (A : RoadAt h (sampleV []) sp se) : Runs Tryz.prog 28 [.agg [sp, se]] h (fun en h' => en = .ret (.tuple [.int .i64 1, .int .i64 0]) ∧ Ext h h') := by
 have q := Weak_ok A (by decide) (by decide)
 rw [v_k1] at q
 exact q
theorem cv_c1 {h : AH} {sp se : AVal} (A : RoadAt h (sampleV [mkLook 1 7 9, mkLook 1 6 6]) sp se) : Runs Tryz.prog 30 [.agg [sp, se]] h (fun en h' => en = .ret (.tuple [.int .i64 12, .int .i64 0]) ∧ Ext h h') := by
 have q := Clash_ok A (by decide) (by decide)
 rw [v_c1] at q
 exact q
theorem alive_ok {h : AH} : Runs Tryz.prog 14 [] h (fun en h' => en = .ret (.bool true) ∧ Ext h h') := by
 have e0 : Ext h h := Ext.refl _
 refine Runs.intro aFunc14 rfl rfl rfl rfl fun rest => ?_
 refine Go.seq noJ_ok ?_
 refine Go.region noJ_ok rfl ?_
 refine GoR.op rfl rfl rfl rfl ?_
 refine GoR.end ?_
 refine Go.seq noJ_ok ?_
 refine Go.region noJ_ok rfl ?_
 refine GoR.call rfl rfl (aOp_callFunc aFunc32 rfl) (sample_of) ?_ (by rintro _ _ ⟨sp0, se0, q, _, RA0, e900⟩; cases q)
 rintro v0 h0 ⟨sp0, se0, q, x0, RA0, e900⟩
 cases q
 refine ⟨_, rfl, ?_⟩
 have := e0.1
 replace e0 := e0.trans x0
 refine GoR.call rfl rfl (aOp_callFunc aFunc15 rfl) (cv_h1 (RA0.ext e900)) ?_ (by rintro _ _ ⟨q, _⟩; cases q)
 rintro v1 h1 ⟨q, x1⟩
 cases q
 refine ⟨_, rfl, ?_⟩
 replace e900 := e900.trans x1
 replace e0 := e0.trans x1
 iterate 3 refine GoR.op rfl rfl rfl rfl ?_
 refine GoR.alloc rfl rfl rfl zt29 rfl rfl fun h2 x2 f2 => ?_
 have := e900.1
 have := e0.1
 replace e900 := e900.trans x2
 replace e0 := e0.trans x2
 have := f2.1
 refine GoR.store rfl rfl rfl rfl rfl rfl f2 rfl sz29 rfl rfl rfl fun h3 u3 => ?_
 replace f2 := u3.has f2
 replace e900 := e900.upd u3 (by omega)
 replace e0 := e0.upd u3 (by omega)
 refine GoR.op rfl rfl rfl rfl ?_
 refine GoR.end ?_
 refine Go.seq noJ_ok ?_
 refine Go.region noJ_ok rfl ?_
 refine GoR.call rfl rfl (aOp_callFunc aFunc32 rfl) (sample_of) ?_ (by rintro _ _ ⟨sp1, se1, q, _, RA1, e901⟩; cases q)
 rintro v4 h4 ⟨sp1, se1, q, x4, RA1, e901⟩
 cases q
 refine ⟨_, rfl, ?_⟩
 have := e900.1
 have := e0.1
 replace f2 := f2.ext x4
 replace e900 := e900.trans x4
 replace e0 := e0.trans x4
 refine GoR.call rfl rfl (aOp_callFunc aFunc17 rfl) (cv_s1 (RA1.ext e901)) ?_ (by rintro _ _ ⟨q, _⟩; cases q)
 rintro v5 h5 ⟨q, x5⟩
 cases q
 refine ⟨_, rfl, ?_⟩
 replace f2 := f2.ext x5
 replace e901 := e901.trans x5
 replace e900 := e900.trans x5
 replace e0 := e0.trans x5
 iterate 3 refine GoR.op rfl rfl rfl rfl ?_
 refine GoR.alloc rfl rfl rfl zt29 rfl rfl fun h6 x6 f6 => ?_
 have := e901.1
 have := e900.1
 have := e0.1
 have := f2.1
 replace f2 := f2.ext x6
 replace e901 := e901.trans x6
 replace e900 := e900.trans x6
 replace e0 := e0.trans x6
 have := f6.1
 refine GoR.store rfl rfl rfl rfl rfl rfl f6 rfl sz29 rfl rfl rfl fun h7 u7 => ?_
 replace f6 := u7.has f6
 replace f2 := f2.upd u7 (by omega)
 replace e901 := e901.upd u7 (by omega)
 replace e900 := e900.upd u7 (by omega)
 replace e0 := e0.upd u7 (by omega)
 refine GoR.op rfl rfl rfl rfl ?_
 refine GoR.end ?_
 refine Go.seq noJ_ok ?_
 refine Go.region noJ_ok rfl ?_
 refine GoR.call rfl rfl (aOp_callFunc aFunc32 rfl) (sample_of) ?_ (by rintro _ _ ⟨sp2, se2, q, _, RA2, e902⟩; cases q)
 rintro v8 h8 ⟨sp2, se2, q, x8, RA2, e902⟩
 cases q
 refine ⟨_, rfl, ?_⟩
 have := e901.1
 have := e900.1
 have := e0.1
 replace f6 := f6.ext x8
 replace f2 := f2.ext x8
 replace e901 := e901.trans x8
 replace e900 := e900.trans x8
 replace e0 := e0.trans x8
 refine GoR.call rfl rfl (aOp_callFunc aFunc19 rfl) (cv_b1 (RA2.ext e902)) ?_ (by rintro _ _ ⟨q, _⟩; cases q)
 rintro v9 h9 ⟨q, x9⟩
 cases q
 refine ⟨_, rfl, ?_⟩
 replace f6 := f6.ext x9
 replace f2 := f2.ext x9
 replace e902 := e902.trans x9
 replace e901 := e901.trans x9
 replace e900 := e900.trans x9
 replace e0 := e0.trans x9
 iterate 5 refine GoR.op rfl rfl rfl rfl ?_
 refine GoR.end ?_
 refine Go.seq noJ_ok ?_
 refine Go.region noJ_ok rfl ?_
 refine GoR.call rfl rfl (aOp_callFunc aFunc32 rfl) (sample_of) ?_ (by rintro _ _ ⟨sp3, se3, q, _, RA3, e903⟩; cases q)
 rintro v10 h10 ⟨sp3, se3, q, x10, RA3, e903⟩
 cases q
 refine ⟨_, rfl, ?_⟩
 have := e902.1
 have := e901.1
 have := e900.1
 have := e0.1
 replace f6 := f6.ext x10
 replace f2 := f2.ext x10
 replace e902 := e902.trans x10
 replace e901 := e901.trans x10
 replace e900 := e900.trans x10
 replace e0 := e0.trans x10
 refine GoR.call rfl rfl (aOp_callFunc aFunc24 rfl) (cv_m1 (RA3.ext e903)) ?_ (by rintro _ _ ⟨q, _⟩; cases q)
 rintro v11 h11 ⟨q, x11⟩
 cases q
 refine ⟨_, rfl, ?_⟩
 replace f6 := f6.ext x11
 replace f2 := f2.ext x11
 replace e903 := e903.trans x11
 replace e902 := e902.trans x11
 replace e901 := e901.trans x11
 replace e900 := e900.trans x11
 replace e0 := e0.trans x11
 iterate 5 refine GoR.op rfl rfl rfl rfl ?_
 refine GoR.end ?_
 refine Go.seq noJ_ok ?_
 refine Go.region noJ_ok rfl ?_
 refine GoR.call rfl rfl (aOp_callFunc aFunc34 rfl) (seen_ok) ?_ (by rintro _ _ ⟨sp4, se4, q, _, RA4, e904⟩; cases q)
 rintro v12 h12 ⟨sp4, se4, q, x12, RA4, e904⟩
 cases q
 refine ⟨_, rfl, ?_⟩
 have := e903.1
 have := e902.1
 have := e901.1
 have := e900.1
 have := e0.1
 replace f6 := f6.ext x12
 replace f2 := f2.ext x12
 replace e903 := e903.trans x12
 replace e902 := e902.trans x12
 replace e901 := e901.trans x12
 replace e900 := e900.trans x12
 replace e0 := e0.trans x12
 refine GoR.call rfl rfl (aOp_callFunc aFunc26 rfl) (cv_r1 (RA4.ext e904)) ?_ (by rintro _ _ ⟨q, _⟩; cases q)
 rintro v13 h13 ⟨q, x13⟩
 cases q
 refine ⟨_, rfl, ?_⟩
 replace f6 := f6.ext x13
 replace f2 := f2.ext x13
 replace e904 := e904.trans x13
 replace e903 := e903.trans x13
 replace e902 := e902.trans x13
 replace e901 := e901.trans x13
 replace e900 := e900.trans x13
 replace e0 := e0.trans x13
 iterate 5 refine GoR.op rfl rfl rfl rfl ?_
 refine GoR.end ?_
 refine Go.seq noJ_ok ?_
 refine Go.region noJ_ok rfl ?_
 refine GoR.call rfl rfl (aOp_callFunc aFunc32 rfl) (sample_of) ?_ (by rintro _ _ ⟨sp5, se5, q, _, RA5, e905⟩; cases q)
 rintro v14 h14 ⟨sp5, se5, q, x14, RA5, e905⟩
 cases q
 refine ⟨_, rfl, ?_⟩
 have := e904.1
 have := e903.1
 have := e902.1
 have := e901.1
 have := e900.1
 have := e0.1
 replace f6 := f6.ext x14
 replace f2 := f2.ext x14
 replace e904 := e904.trans x14
 replace e903 := e903.trans x14
 replace e902 := e902.trans x14
 replace e901 := e901.trans x14
 replace e900 := e900.trans x14
 replace e0 := e0.trans x14
 refine GoR.call rfl rfl (aOp_callFunc aFunc21 rfl) (cv_w1 (RA5.ext e905)) ?_ (by rintro _ _ ⟨q, _⟩; cases q)
 rintro v15 h15 ⟨q, x15⟩
 cases q
 refine ⟨_, rfl, ?_⟩
 replace f6 := f6.ext x15
 replace f2 := f2.ext x15
 replace e905 := e905.trans x15
 replace e904 := e904.trans x15
 replace e903 := e903.trans x15
 replace e902 := e902.trans x15
 replace e901 := e901.trans x15
 replace e900 := e900.trans x15
 replace e0 := e0.trans x15
 iterate 7 refine GoR.op rfl rfl rfl rfl ?_
 refine GoR.end ?_
 refine Go.seq noJ_ok ?_
 refine Go.region noJ_ok rfl ?_
 refine GoR.call rfl rfl (aOp_callFunc aFunc32 rfl) (sample_of) ?_ (by rintro _ _ ⟨sp6, se6, q, _, RA6, e906⟩; cases q)
 rintro v16 h16 ⟨sp6, se6, q, x16, RA6, e906⟩
 cases q
 refine ⟨_, rfl, ?_⟩
 have := e905.1
 have := e904.1
 have := e903.1
 have := e902.1
 have := e901.1
 have := e900.1
 have := e0.1
 replace f6 := f6.ext x16
 replace f2 := f2.ext x16
 replace e905 := e905.trans x16
 replace e904 := e904.trans x16
 replace e903 := e903.trans x16
 replace e902 := e902.trans x16
 replace e901 := e901.trans x16
 replace e900 := e900.trans x16
 replace e0 := e0.trans x16
 refine GoR.call rfl rfl (aOp_callFunc aFunc28 rfl) (cv_k1 (RA6.ext e906)) ?_ (by rintro _ _ ⟨q, _⟩; cases q)
 rintro v17 h17 ⟨q, x17⟩
 cases q
 refine ⟨_, rfl, ?_⟩
 replace f6 := f6.ext x17
 replace f2 := f2.ext x17
 replace e906 := e906.trans x17
 replace e905 := e905.trans x17
 replace e904 := e904.trans x17
 replace e903 := e903.trans x17
 replace e902 := e902.trans x17
 replace e901 := e901.trans x17
 replace e900 := e900.trans x17
 replace e0 := e0.trans x17
 iterate 5 refine GoR.op rfl rfl rfl rfl ?_
 refine GoR.end ?_
 refine Go.seq noJ_ok ?_
 refine Go.region noJ_ok rfl ?_
 refine GoR.call rfl rfl (aOp_callFunc aFunc35 rfl) (clash_ok) ?_ (by rintro _ _ ⟨sp7, se7, q, _, RA7, e907⟩; cases q)
 rintro v18 h18 ⟨sp7, se7, q, x18, RA7, e907⟩
 cases q
 refine ⟨_, rfl, ?_⟩
 have := e906.1
 have := e905.1
 have := e904.1
 have := e903.1
 have := e902.1
 have := e901.1
 have := e900.1
 have := e0.1
 replace f6 := f6.ext x18
 replace f2 := f2.ext x18
 replace e0 := e0.trans x18
 refine GoR.call rfl rfl (aOp_callFunc aFunc30 rfl) (cv_c1 (RA7.ext e907)) ?_ (by rintro _ _ ⟨q, _⟩; cases q)
 rintro v19 h19 ⟨q, x19⟩
 cases q
 refine ⟨_, rfl, ?_⟩
 replace f6 := f6.ext x19
 replace f2 := f2.ext x19
 replace e0 := e0.trans x19
 iterate 5 refine GoR.op rfl rfl rfl rfl ?_
 refine GoR.end ?_
 refine Go.seq noJ_ok ?_
 refine Go.drawnE plan14_0 ?_
 refine GoE.quiet rfl rfl (ld29 rfl f2 rfl) rfl ?_
 refine GoE.call rfl rfl (aOp_callFunc aFunc33 rfl) (span33_ok) (dropF_keep (show bit? 0 0 = false from rfl) rfl) ?_ (by rintro _ _ ⟨q, _⟩; cases q)
 rintro v20 h20 ⟨q, x20⟩
 cases q
 replace f6 := f6.ext x20
 replace f2 := f2.ext x20
 replace e0 := e0.trans x20
 refine ⟨(rck (h2 := h20) rfl (ld29 rfl f2 rfl) recheck_nil), _, rfl, ?_⟩
 refine GoE.quiet rfl rfl (aOp_eqlSpan spanT29 rfl rfl (r := true) rfl) rfl ?_
 iterate 2 refine GoE.quiet rfl rfl rfl rfl ?_
 refine GoE.quiet rfl rfl (aOp_eql rfl rfl (r := true) (decide_eq_true (by omega))) rfl ?_
 iterate 2 refine GoE.quiet rfl rfl rfl rfl ?_
 refine GoE.quiet rfl rfl (ld29 rfl f6 rfl) rfl ?_
 refine GoE.call rfl rfl (aOp_callFunc aFunc33 rfl) (span33_ok) (dropF_keep (show bit? 255 8 = false from rfl) (dropF_drop (show bit? 255 7 = true from rfl) (dropF_drop (show bit? 255 6 = true from rfl) (dropF_drop (show bit? 255 5 = true from rfl) (dropF_drop (show bit? 255 4 = true from rfl) (dropF_drop (show bit? 255 3 = true from rfl) (dropF_drop (show bit? 255 2 = true from rfl) (dropF_drop (show bit? 255 0 = true from rfl) rfl)))))))) ?_ (by rintro _ _ ⟨q, _⟩; cases q)
 rintro v21 h21 ⟨q, x21⟩
 cases q
 replace f6 := f6.ext x21
 replace e0 := e0.trans x21
 refine ⟨(rck (h2 := h21) rfl (ld29 rfl f6 rfl) recheck_nil), _, rfl, ?_⟩
 refine GoE.quiet rfl rfl (aOp_eqlSpan spanT29 rfl rfl (r := true) rfl) rfl ?_
 iterate 3 refine GoE.quiet rfl rfl rfl rfl ?_
 refine GoE.quiet rfl rfl (aOp_eql rfl rfl (r := true) (decide_eq_true (by omega))) rfl ?_
 iterate 3 refine GoE.quiet rfl rfl rfl rfl ?_
 refine GoE.quiet rfl rfl (aOp_eql rfl rfl (r := true) (decide_eq_true (by omega))) rfl ?_
 iterate 3 refine GoE.quiet rfl rfl rfl rfl ?_
 refine GoE.quiet rfl rfl (aOp_eql rfl rfl (r := true) (decide_eq_true (by omega))) rfl ?_
 iterate 3 refine GoE.quiet rfl rfl rfl rfl ?_
 refine GoE.quiet rfl rfl (aOp_eql rfl rfl (r := true) (decide_eq_true (by omega))) rfl ?_
 iterate 3 refine GoE.quiet rfl rfl rfl rfl ?_
 refine GoE.quiet rfl rfl (aOp_eql rfl rfl (r := true) (decide_eq_true (by omega))) rfl ?_
 iterate 3 refine GoE.quiet rfl rfl rfl rfl ?_
 refine GoE.quiet rfl rfl (aOp_eql rfl rfl (r := true) (decide_eq_true (by omega))) rfl ?_
 iterate 3 refine GoE.quiet rfl rfl rfl rfl ?_
 refine GoE.quiet rfl rfl (aOp_eql rfl rfl (r := true) (decide_eq_true (by omega))) rfl ?_
 iterate 3 refine GoE.quiet rfl rfl rfl rfl ?_
 refine GoE.quiet rfl rfl (aOp_eql rfl rfl (r := true) (decide_eq_true (by omega))) rfl ?_
 iterate 3 refine GoE.quiet rfl rfl rfl rfl ?_
 refine GoE.quiet rfl rfl (aOp_eql rfl rfl (r := true) (decide_eq_true (by omega))) rfl ?_
 iterate 3 refine GoE.quiet rfl rfl rfl rfl ?_
 refine GoE.quiet rfl rfl (aOp_eql rfl rfl (r := true) (decide_eq_true (by omega))) rfl ?_
 iterate 3 refine GoE.quiet rfl rfl rfl rfl ?_
 refine GoE.quiet rfl rfl (aOp_eql rfl rfl (r := true) (decide_eq_true (by omega))) rfl ?_
 iterate 3 refine GoE.quiet rfl rfl rfl rfl ?_
 refine GoE.quiet rfl rfl (aOp_eql rfl rfl (r := true) (decide_eq_true (by omega))) rfl ?_
 iterate 3 refine GoE.quiet rfl rfl rfl rfl ?_
 refine GoE.quiet rfl rfl (aOp_eql rfl rfl (r := true) (decide_eq_true (by omega))) rfl ?_
 iterate 3 refine GoE.quiet rfl rfl rfl rfl ?_
 refine GoE.quiet rfl rfl (aOp_eql rfl rfl (r := true) (decide_eq_true (by omega))) rfl ?_
 iterate 2 refine GoE.quiet rfl rfl rfl rfl ?_
 refine GoE.end rfl ?_
 exact Go.ret noJ_ok (ret_end (aResult_of Tryz.func14 rfl rfl) ⟨rfl, e0⟩)
end Go.Proofs.YtkcimfopboelaaaGreat
