import Derived.Test.YtkcimfopboelaaaGreatMAO
import Derived.Test.YtkcimfopboelaaaGreatMAG
import Derived.Test.YtkcimfopboelaaaGreatMAH
import Derived.Test.YtkcimfopboelaaaGreatMAF
namespace Go.Proofs.YtkcimfopboelaaaGreat
open Go Go.AbsE
set_option linter.unusedSimpArgs false
set_option maxRecDepth 100000
set_option maxHeartbeats 0
set_option linter.unusedVariables false
theorem flat_map1 (L : List EV) : (L.map fun e => [evC e]).flatten = L.map evC := by
 rw [← List.flatMap_def, flat_one]
theorem map_erase (L : List EV) (i : Nat) : (L.map evC).eraseIdx i = (L.eraseIdx i).map evC := by
 rw [List.eraseIdx_eq_take_drop_succ, List.eraseIdx_eq_take_drop_succ, List.map_append, List.map_take, List.map_drop]
theorem slice_map {h : AH} {b n cap : Nat} {g : Kd} {el : TypeId} {L : List EV} {Z : List AVal} (hn : L.length = n) (f : Has h b (.cells g (L.map evC ++ Z) el)) : SliceOf h 1 (.slice b 0 n cap) (L.map fun e => [evC e]) := by
 subst hn;refine SliceOf.mk' (by rfl) (by rfl) f (by rw [List.length_map]) fun i l hl => ?_;rw [List.getElem?_map] at hl
 cases q : L[i]? with
 | none => rw [q] at hl; cases hl
 | some e =>
  rw [q] at hl;cases hl
  have hlt := (List.getElem?_eq_some_iff.1 q).1
  unfold slice?
  rw [ap_drop _ _ (by rw [List.length_map]; omega)]
  have hd : (L.map evC).drop (0 + i * 1) = evC e :: (L.map evC).drop (i + 1) := by
   rw [Nat.zero_add, Nat.mul_one];exact drop_at (by rw [List.getElem?_map, q]; rfl)
  rw [hd]
  rfl
theorem without_ok {R : RoadV} (O : R.Ok) {lo : Nat} {gp ge : AVal} {out : Nat} (hout : out < 2 ^ 62) {h : AH} (A : GroundAt h R lo gp ge) :
  Runs Tryz.prog 124 [.agg [gp, ge], .int .i64 (out : Nat)] h (fun en h' => ∃ s, en = .ret (.agg [gp, s]) ∧ Ext h h' ∧ GroundAt h' ⟨R.ps, withoutV R.es out⟩ lo gp s) := by
 have hne := O.ne
 have hE := A.esl
 have hlE := hE.len
 rw [List.length_map] at hlE
 obtain ⟨N, hN⟩ : ∃ N, R.es.length = N := ⟨_, rfl⟩
 rw [hN] at hlE hne
 have hgs := A.psl.scal
 have e0 : Ext h h := Ext.refl _
 refine Runs.intro aFunc124 rfl rfl rfl rfl fun rest => ?_;apply gS;refine gR rfl ?_;refine GoR.box rfl rfl rfl rfl rfl rfl fun h0 x0 f0 => ?_;have := e0.1;replace e0 := e0.trans x0;have := f0.1;refine GoR.alloc rfl rfl rfl zt77 rfl rfl fun h1 x1 f1 => ?_;have := e0.1;have := f0.1;replace f0 := f0.ext x1;replace e0 := e0.trans x1;have := f1.1;apply gE;apply gS;refine gR rfl ?_;refine gO rfl rfl (fa77_1 rfl) rfl ?_;refine gO rfl rfl (ld75 rfl f0 rfl) rfl ?_;refine gO rfl rfl (aOp_lenSlice Tryz.underlying75 rfl (by assumption)) rfl ?_;refine GoR.makeSl rfl rfl rfl Tryz.underlying75 rfl rfl sz169 by169 zt169 rfl (Nat.ble_eq_true_of_le (by omega)) rfl rfl fun h2 x2 f2 => ?_;have := e0.1;have := f1.1;have := f0.1;replace f1 := f1.ext x2;replace f0 := f0.ext x2;replace e0 := e0.trans x2;have := f2.1;refine gP ?_;apply gE;apply gS;refine gR rfl ?_;refine gP ?_;refine gO rfl rfl (fa77_1 rfl) rfl ?_;refine gO rfl rfl (ld75 rfl f0 rfl) rfl ?_
 have hsrc := (hE.ext e0).src
 rw [List.length_map, hN, flat_map1] at hsrc;refine GoR.copyIn rfl rfl Tryz.underlying75 sz169 rfl rfl hlE (Nat.min_self N) hsrc f2 rfl (evs_scal _) (splice_whole (by rw [List.length_map, hN]; show (repl _ N).length = _; rw [repl_eq]; simp; show N * 1 = N; omega)) rfl fun h9 u9 => ?_
 have hb2 := f2.1
 have hb1 := f1.1
 have hb0 := f0.1
 replace f2 := u9.has f2;replace f0 := f0.upd u9 (by omega);replace f1 := f1.upd u9 (by omega);replace e0 := e0.upd u9 (by omega);apply gE;iterate 2 apply gS
 refine gR rfl ?_;refine gP ?_;refine gO rfl rfl (aOp_lenSlice Tryz.underlying75 rfl (n := N) rfl) rfl ?_;refine gO rfl rfl (aS rfl rfl) rfl ?_;refine gP ?_;apply gE;refine Go.block noJ_ok ?_
 have hw0 : woAt out R.es N = R.es := by
  unfold woAt
  rw [← hN, List.take_length, List.drop_length]
  simp [wo]
 have hbn : h.next < h0.next := by omega
 have hbn2 : h0.next < h1.next := by omega
 refine Go.loopKeep (fun r : Nat => [(1, .int .i64 (out : Nat)), (2, .ptr h.next 0), (4, .ptr h0.next 0), (5, .slice h1.next 0 (woAt out R.es r).length N), (6, .int .i64 ((r : Nat) - 1))])
  (fun m r h' => m = r ∧ r ≤ N ∧ Ext h h' ∧ Has h' h.next (.cells .plain [gp, ge] 77) ∧ Has h' h0.next (.cells .plain [.nilslice, .nilslice] 77) ∧ ∃ Z : List AVal, Z.length = (N - (woAt out R.es r).length) * 1 ∧ Has h' h1.next (.cells .plain ((woAt out R.es r).map evC ++ Z) 169))
  (n := N) N ⟨rfl, rfl, rfl, by rw [hw0, hN]; rfl, rfl, trivial⟩ ⟨rfl, Nat.le_refl _, e0, f0, f1, [], by rw [hw0, hN]; simp, by rw [hw0, List.append_nil]; exact f2⟩ ?_
 clear e0 f0 f1 f2;rintro m r hh ⟨rfl, hr, e0, f0, f1, Z, hZ, f2⟩ again
 have hx0 := e0.1
 have hb2 := f2.1
 have hb1 := f1.1
 have hb0 := f0.1
 by_cases hr0 : m = 0
 ·subst hr0
  have hws : woAt out R.es 0 = withoutV R.es out := by rw [without_is]; unfold woAt; simp
  rw [hws] at f2 ⊢
  have hsc2 : scalars [gp, .slice h1.next 0 (withoutV R.es out).length N] = true := by
   have h1' : cond (scalar gp) (scalars []) false = true := hgs.1
   show cond (scalar gp) (scalars [.slice h1.next 0 (withoutV R.es out).length N]) false = true
   cases q : scalar gp with
   | true => rfl
   | false => rw [q] at h1'; cases h1'
  iterate 2 apply gS
  refine gR rfl ?_;refine gP ?_;refine gO rfl rfl (kNF rfl rfl) rfl ?_;apply gE;refine gC (b := false) rfl ?_;refine gD ?_;apply gS;refine gR rfl ?_;refine gP ?_;refine gO rfl rfl (fa77_1 rfl) rfl ?_;refine GoR.store rfl rfl rfl rfl rfl rfl f0 rfl sz75 rfl rfl rfl fun h10 u10 => ?_;replace f0 := u10.has f0;replace f1 := f1.upd u10 (by omega);replace f2 := f2.upd u10 (by omega);replace e0 := e0.upd u10 (by omega);apply gE;apply gS;refine gR rfl ?_;refine gO rfl rfl (ld77 rfl f0 rfl) rfl ?_;refine GoR.store rfl rfl rfl rfl rfl rfl f1 rfl sz77 rfl hsc2 rfl fun h11 u11 => ?_;replace f1 := u11.has f1;replace f2 := f2.upd u11 (by omega);replace e0 := e0.upd u11 (by omega);apply gE
  have hres : GroundAt h11 ⟨R.ps, withoutV R.es out⟩ lo gp (.slice h1.next 0 (withoutV R.es out).length N) := ⟨A.psl.ext e0, slice_map rfl f2⟩
  exact gV (ret_end (aResult_of Tryz.func124 rfl (aResults_cell rfl f1 (inCells_agg ag77 sz77 rfl))) ⟨_, rfl, e0, hres⟩)
 ·obtain ⟨i, rfl⟩ : ∃ i, m = i + 1 := ⟨m - 1, by omega⟩
  have hv : ((i + 1 : Nat) : Int) - 1 = (i : Nat) := by omega
  rw [hv]
  have hwl := woAt_len out R.es (r := i + 1) (by omega)
  have hsucc := woAt_succ out R.es (i := i) (by omega)
  rw [hN] at hwl
  have hfn := f2.1
  cases hb : out.testBit i with
  | false =>
   rw [hb, if_neg (by decide)] at hsucc
   have hne' : decide (((out : Nat) : Int).fdiv (2 ^ i) % 2 = 1) = false := by rw [bit_div, hb]
   iterate 2 apply gS
   refine gR rfl ?_;refine gP ?_;refine gO rfl rfl (kNT rfl rfl) rfl ?_;apply gE;refine gC (b := true) rfl ?_;refine gD ?_;apply gS;refine Go.block noJ_ok ?_;apply gS;refine gR rfl ?_;iterate 2 refine gP ?_
   refine gO rfl rfl (aOp_shr rfl rfl (by omega) rfl) rfl ?_;refine gO rfl rfl (aOp_and1 rfl rfl rfl) rfl ?_;refine gO rfl rfl (aOp_eql rfl rfl hne') rfl ?_;apply gE;refine gC (b := false) rfl ?_;refine gD ?_;refine Go.inBlock noJ_ok ?_;refine gR rfl ?_;refine gP ?_;refine gO rfl rfl (aS rfl rfl) rfl ?_;refine gP ?_;apply gE;exact again i i _ _ (by omega) ⟨rfl, rfl, rfl, by rw [hsucc]; rfl, rfl, trivial⟩ ⟨rfl, by omega, e0, f0, f1, Z, by rw [hsucc]; exact hZ, by rw [hsucc]; exact f2⟩
  | true =>
   rw [hb, if_pos rfl] at hsucc
   have hne' : decide (((out : Nat) : Int).fdiv (2 ^ i) % 2 = 1) = true := by rw [bit_div, hb]
   have hdel := fun (h9 : AH) f => delete149_ok (b := h1.next) (n := (woAt out R.es (i + 1)).length) (N := N) (i := i) ((woAt out R.es (i + 1)).map evC) Z (evs_scal _) (fun k => by rw [← List.map_drop]; exact evs_scal _) (by rw [List.length_map]) (by omega) (by omega) (by omega) hZ h9 f
   rw [map_erase, ← hsucc] at hdel
   have hwi : (woAt out R.es i).length = (woAt out R.es (i + 1)).length - 1 := by rw [hsucc, List.length_eraseIdx_of_lt (by omega)]
   rw [← hwi] at hdel
   iterate 2 apply gS
   refine gR rfl ?_;refine gP ?_;refine gO rfl rfl (kNT rfl rfl) rfl ?_;apply gE;refine gC (b := true) rfl ?_;refine gD ?_;apply gS;refine Go.block noJ_ok ?_;apply gS;refine gR rfl ?_;iterate 2 refine gP ?_
   refine gO rfl rfl (aOp_shr rfl rfl (by omega) rfl) rfl ?_;refine gO rfl rfl (aOp_and1 rfl rfl rfl) rfl ?_;refine gO rfl rfl (aOp_eql rfl rfl hne') rfl ?_;apply gE;refine gC (b := true) rfl ?_;refine gR rfl ?_;iterate 3 refine gP ?_
   refine gO rfl rfl (aA rfl rfl) rfl ?_;refine GoR.call rfl rfl (aCF aFunc149 rfl) (hdel _ f2) ?_ np;rintro v19 h19 ⟨q, y9, Z', hZ', f9⟩;cases q;refine ⟨_, rfl, ?_⟩
   have e9 := y9.low e0 (fun b q => by have : b = h1.next := q; omega)
   have hx := y9.1
   replace f0 := f0.extF y9 (by omega);replace f1 := f1.extF y9 (by omega);clear e0 f2;refine gP ?_;apply gE;refine Go.inBlock noJ_ok ?_;refine gR rfl ?_;refine gP ?_;refine gO rfl rfl (aS rfl rfl) rfl ?_;refine gP ?_;apply gE;exact again i i _ _ (by omega) ⟨rfl, rfl, rfl, rfl, rfl, trivial⟩ ⟨rfl, by omega, e9, f0, f1, Z', hZ', f9⟩
def popc (n : Nat) : Nat := ((List.range 10).filter fun i => n.testBit i).length
def pop1 (n : Nat) : Nat := (n / 2 ^ 1 &&& 6148914691236517205) + (n &&& 6148914691236517205)
def pop2 (a : Nat) : Nat := (a / 2 ^ 2 &&& 3689348814741910323) + (a &&& 3689348814741910323)
def pop3 (b : Nat) : Nat := (b / 2 ^ 4 + b) &&& 1085102592571150095
def pop4 (k c : Nat) : Nat := c + c / 2 ^ k
theorem pop_all : ((List.range 1024).all fun n => (pop4 32 (pop4 16 (pop4 8 (pop3 (pop2 (pop1 n))))) &&& 127) == popc n) = true := by decide +kernel
theorem ones157_ok {n : Nat} (hn : n < 1024) {h : AH} : Runs Tryz.prog 157 [.int .u64 (n : Nat)] h (fun en h' => en = .ret (.int .i64 (popc n : Nat)) ∧ Ext h h') := by
 have hp := List.all_eq_true.1 pop_all n (List.mem_range.2 hn)
 simp only [beq_iff_eq] at hp
 have k1 : n / 2 ^ 1 &&& 6148914691236517205 ≤ n / 2 ^ 1 := Nat.and_le_left
 have k2 : n &&& 6148914691236517205 ≤ n := Nat.and_le_left
 obtain ⟨a, ha⟩ : ∃ a, pop1 n = a := ⟨_, rfl⟩
 have ka : a ≤ 2048 := by rw [← ha]; unfold pop1; omega
 have k3 : a / 2 ^ 2 &&& 3689348814741910323 ≤ a / 2 ^ 2 := Nat.and_le_left
 have k4 : a &&& 3689348814741910323 ≤ a := Nat.and_le_left
 obtain ⟨b, hb⟩ : ∃ b, pop2 a = b := ⟨_, rfl⟩
 have kb : b ≤ 4096 := by rw [← hb]; unfold pop2; omega
 have k5 : (b / 2 ^ 4 + b) &&& 1085102592571150095 ≤ b / 2 ^ 4 + b := Nat.and_le_left
 obtain ⟨c, hc⟩ : ∃ c, pop3 b = c := ⟨_, rfl⟩
 have kc : c ≤ 8192 := by rw [← hc]; unfold pop3; omega
 obtain ⟨d, hd⟩ : ∃ d, pop4 8 c = d := ⟨_, rfl⟩
 have kd : d ≤ 16384 := by rw [← hd]; unfold pop4; omega
 obtain ⟨e, he⟩ : ∃ e, pop4 16 d = e := ⟨_, rfl⟩
 have ke : e ≤ 32768 := by rw [← he]; unfold pop4; omega
 obtain ⟨f, hf⟩ : ∃ f, pop4 32 e = f := ⟨_, rfl⟩
 have kf : f ≤ 65536 := by rw [← hf]; unfold pop4; omega
 rw [ha, hb, hc, hd, he, hf] at hp
 have e0 : Ext h h := Ext.refl _
 refine Runs.intro aFunc157 rfl rfl rfl rfl fun rest => ?_;apply gS;refine gR rfl ?_;refine gP ?_;apply gE;apply gS;refine gR rfl ?_;refine gP ?_;refine gO rfl rfl (aOp_shrU rfl rfl (by decide) rfl) rfl ?_;refine gO rfl rfl (aOp_andU (a := n / 2 ^ 1) rfl rfl (by omega) (by decide) rfl) rfl ?_;refine gP ?_;refine gO rfl rfl (aOp_andU (a := n) rfl rfl (by omega) (by decide) rfl) rfl ?_;refine gO rfl rfl (aOp_addU (a := n / 2 ^ 1 &&& 6148914691236517205) (b := n &&& 6148914691236517205) rfl rfl (by omega) ha) rfl ?_;refine gP ?_;apply gE;apply gS;refine gR rfl ?_;refine gP ?_;refine gO rfl rfl (aOp_shrU rfl rfl (by decide) rfl) rfl ?_;refine gO rfl rfl (aOp_andU (a := a / 2 ^ 2) rfl rfl (by omega) (by decide) rfl) rfl ?_;refine gP ?_;refine gO rfl rfl (aOp_andU (a := a) rfl rfl (by omega) (by decide) rfl) rfl ?_;refine gO rfl rfl (aOp_addU (a := a / 2 ^ 2 &&& 3689348814741910323) (b := a &&& 3689348814741910323) rfl rfl (by omega) hb) rfl ?_;refine gP ?_;apply gE;apply gS;refine gR rfl ?_;refine gP ?_;refine gO rfl rfl (aOp_shrU rfl rfl (by decide) rfl) rfl ?_;refine gP ?_;refine gO rfl rfl (aOp_addU (a := b / 2 ^ 4) (b := b) rfl rfl (by omega) rfl) rfl ?_;refine gO rfl rfl (aOp_andU (a := b / 2 ^ 4 + b) rfl rfl (by omega) (by decide) hc) rfl ?_;refine gP ?_;apply gE;apply gS;refine gR rfl ?_;iterate 2 refine gP ?_
 refine gO rfl rfl (aOp_shrU rfl rfl (by decide) rfl) rfl ?_;refine gO rfl rfl (aOp_addU (a := c) (b := c / 2 ^ 8) rfl rfl (by omega) hd) rfl ?_;refine gP ?_;apply gE;apply gS;refine gR rfl ?_;iterate 2 refine gP ?_
 refine gO rfl rfl (aOp_shrU rfl rfl (by decide) rfl) rfl ?_;refine gO rfl rfl (aOp_addU (a := d) (b := d / 2 ^ 16) rfl rfl (by omega) he) rfl ?_;refine gP ?_;apply gE;apply gS;refine gR rfl ?_;iterate 2 refine gP ?_
 refine gO rfl rfl (aOp_shrU rfl rfl (by decide) rfl) rfl ?_;refine gO rfl rfl (aOp_addU (a := e) (b := e / 2 ^ 32) rfl rfl (by omega) hf) rfl ?_;refine gP ?_;apply gE;apply gS;refine gR rfl ?_;refine gP ?_;refine gO rfl rfl (aOp_convUI (w := f) rfl Tryz.underlying194 Tryz.underlying3 (by omega)) rfl ?_;refine gO rfl rfl (aOp_andNat (a := f) rfl rfl (by omega) (by decide) hp) rfl ?_;refine gP ?_;apply gE;exact gW Tryz.func157 rfl rfl ⟨rfl, e0⟩
theorem ones148_ok {n : Nat} (hn : n < 1024) {h : AH} : Runs Tryz.prog 148 [.int .u64 (n : Nat)] h (fun en h' => en = .ret (.int .i64 (popc n : Nat)) ∧ Ext h h') := by
 have e0 : Ext h h := Ext.refl _
 refine Runs.intro aFunc148 rfl rfl rfl rfl fun rest => ?_;apply gS;refine gR rfl ?_;refine gP ?_;apply gE;apply gS;refine gC (b := false) rfl ?_;refine gD ?_;apply gS;refine gR rfl ?_;refine gP ?_;refine GoR.call rfl rfl (aCF aFunc157 rfl) (ones157_ok hn) ?_ np;rintro v0 h0 ⟨q, x0⟩;cases q;refine ⟨_, rfl, ?_⟩;replace e0 := e0.trans x0;refine gP ?_;apply gE;exact gW Tryz.func148 rfl rfl ⟨rfl, e0⟩
end Go.Proofs.YtkcimfopboelaaaGreat

namespace Go.Proofs.YtkcimfopboelaaaGreat
open Go Go.AbsE
set_option linter.unusedSimpArgs false
set_option maxRecDepth 100000
set_option maxHeartbeats 0
set_option linter.unusedVariables false
def goodS (of m s : Nat) : Bool := decide (andNot s of = 0) && decide (popc s = m)
def subB (of m k : Nat) : List Nat := (List.range k).filter (goodS of m)
def subA (of m : Nat) : List Nat := (List.range m).flatMap fun j => subB of j (of + 1)
def subs (of : Nat) : List Nat := subA of (popc of + 1)
theorem filter_at {p : Nat → Bool} {N k : Nat} (hk : k < N) (hp : p k = true) : ((List.range N).filter p)[((List.range k).filter p).length]? = some k := by
 have h1 : List.range N = List.range k ++ (k :: (List.range (N - (k + 1))).map (· + (k + 1))) := by
  have : N = k + (1 + (N - (k + 1))) := by omega
  conv => lhs; rw [this, List.range_add, List.range_add]
  simp only [List.map_append, List.map_map]
  congr 1
  simp only [List.range_one, List.map_cons, List.map_nil, List.cons_append, List.nil_append, Nat.add_zero]
  congr 1
  refine List.map_congr_left fun x _ => ?_
  simp only [Function.comp_apply]
  omega
 rw [h1, List.filter_append, List.getElem?_append_right (Nat.le_refl _), Nat.sub_self, List.filter_cons, if_pos hp]
 rfl
theorem filter_succ (p : Nat → Bool) (k : Nat) : ((List.range (k + 1)).filter p).length = ((List.range k).filter p).length + (if p k then 1 else 0) := by
 rw [List.range_succ, List.filter_append, List.length_append, List.filter_cons]
 cases p k <;> simp
theorem subA_succ (of m : Nat) : (subA of (m + 1)).length = (subA of m).length + (subB of m (of + 1)).length := fm_succ _ _
theorem subB_succ (of m k : Nat) : (subB of m (k + 1)).length = (subB of m k).length + (if goodS of m k then 1 else 0) := filter_succ _ _
theorem subs_at {of m k M : Nat} (hm : m < M) (hk : k < of + 1) (hg : goodS of m k = true) : (subA of M)[(subA of m).length + (subB of m k).length]? = some k := fm_at hm (filter_at hk hg)
theorem popc_le (n : Nat) : popc n ≤ 10 := by
 unfold popc
 have := List.length_filter_le (fun i => n.testBit i) (List.range 10)
 rw [List.length_range] at this;exact this
theorem subs1_it {of : Nat} (hof : of < 1024) (bo : Nat) : IterV Tryz.prog 147 [] [.ptr bo 0] ((subs of).map fun s => AVal.int .i64 (s : Nat)) (fun h => Has h bo (.cells .plain [.int .i64 (of : Nat)] 3)) := by
 intro y base J E h F hyc hys hA hbase T j0
 show Runs Tryz.prog 147 [y, .ptr bo 0] h _
 rw [List.length_map]
 obtain ⟨M, hM⟩ : ∃ M, popc of + 1 = M := ⟨_, rfl⟩
 have hM11 : M ≤ 11 := by have := popc_le of; omega
 unfold subs at T ⊢
 rw [hM] at T ⊢
 have hat : ∀ {m k : Nat}, m < M → k < of + 1 → goodS of m k = true → _ := fun a b c => subs_at (of := of) a b c
 have e0 : Ext h h := Ext.refl _
 have f0 : Has h bo (.cells .plain [.int .i64 (of : Nat)] 3) := hA h (ExtF.of e0)
 have hbo := f0.1
 have hpof : popc of = M - 1 := by omega
 refine Runs.intro aFunc147 rfl rfl rfl rfl fun rest => ?_;apply gS;refine gR rfl ?_;refine gO rfl rfl (ld3 rfl f0 rfl) rfl ?_;refine gO rfl rfl (aOp_convU64 rfl Tryz.underlying3 Tryz.underlying181 (by omega)) rfl ?_;refine GoR.call rfl rfl (aCF aFunc148 rfl) (ones148_ok hof) ?_ np;rintro v1 h1 ⟨q, x1⟩;cases q;refine ⟨_, rfl, ?_⟩;replace f0 := f0.ext x1;replace e0 := e0.trans x1;refine gO rfl rfl (aA rfl rfl) rfl ?_;refine gP ?_;apply gE;refine Go.block noJ_ok ?_;refine Go.loopKeep (fun a : Nat × (Nat → Prop) => [(0, y), (1, .ptr bo 0), (8, .int .i64 (M : Nat)), (9, .int .i64 (a.1 : Nat))]) (fun q a h' => q + a.1 = M ∧ ExtF F h h' ∧ (∀ b, a.2 b → F b ∨ h.next ≤ b) ∧ J (subA of a.1).length h' a.2) (n := M) (0, F) ⟨rfl, rfl, (by show _ = some (AVal.int .i64 (M : Nat)); rw [← hM]; rfl), rfl, trivial⟩ ⟨by simp, ExtF.of e0, fun b q => .inl q, T.ext j0 e0⟩ ?_;clear e0 f0;rintro q ⟨m, G⟩ h1 ⟨hq, x1, hG, j1⟩ again
 dsimp only at hq hG j1 ⊢
 have f0 : Has h1 bo (.cells .plain [.int .i64 (of : Nat)] 3) := hA h1 x1
 have e0 : Ext h1 h1 := Ext.refl _
 have hx1 := x1.1
 by_cases hm : m < M
 ·apply gS;refine gR rfl ?_;refine gO rfl rfl (kLT rfl rfl) rfl ?_;apply gE;apply gS;refine gC (b := true) rfl ?_;refine gD ?_;apply gS;refine Go.block noJ_ok ?_;apply gS;refine gR rfl ?_;iterate 2 refine gP ?_
  apply gE;apply gS;refine gR rfl ?_;refine gO rfl rfl (ld3 rfl f0 rfl) rfl ?_;refine gO rfl rfl (aA rfl rfl) rfl ?_;refine gP ?_;apply gE;refine Go.block noJ_ok ?_;refine Go.loopKeep (fun a : Nat × (Nat → Prop) => [(0, y), (1, .ptr bo 0), (3, .int .i64 (m : Nat)), (8, .int .i64 (M : Nat)), (9, .int .i64 (m : Nat)), (13, .int .i64 ((of : Int) + 1)), (14, .int .i64 (a.1 : Nat))]) (fun q a h' => q + a.1 = of + 1 ∧ ExtF F h h' ∧ (∀ b, a.2 b → F b ∨ h.next ≤ b) ∧ J ((subA of m).length + (subB of m a.1).length) h' a.2) (n := of + 1) (0, G) ⟨rfl, rfl, rfl, rfl, rfl, rfl, rfl, trivial⟩ ⟨by simp, x1, hG, by simpa [subB] using j1⟩ ?_;clear e0 f0 j1 x1 hG hx1;rintro q2 ⟨k, G⟩ h2 ⟨hq2, x1, hG, j1⟩ again2
  dsimp only at hq2 hG j1 ⊢
  have f0 : Has h2 bo (.cells .plain [.int .i64 (of : Nat)] 3) := hA h2 x1
  have e0 : Ext h2 h2 := Ext.refl _
  have hx1 := x1.1
  by_cases hk : k < of + 1
  ·have hsb := subB_succ of m k
   have hk10 : k < 1024 := by omega
   have hpk := popc_le k
   by_cases c1 : andNot k of = 0
   ·have d1 : decide (((andNot k of : Nat) : Int) = 0) = true := decide_eq_true (by omega)
    by_cases c2 : popc k = m
    ·have hg : goodS of m k = true := by unfold goodS; rw [decide_eq_true c1, decide_eq_true c2]; rfl
     rw [hg, if_pos rfl] at hsb
     have hit := hat hm hk hg
     have hlt := (List.getElem?_eq_some_iff.1 hit).1
     have d2 : decide (((popc k : Nat) : Int) = (m : Nat)) = true := decide_eq_true (by omega)
     apply gS;refine gR rfl ?_;refine gO rfl rfl (kLT rfl rfl) rfl ?_;apply gE;apply gS;refine gC (b := true) rfl ?_;refine gD ?_;apply gS;refine Go.block noJ_ok ?_;apply gS;refine gR rfl ?_;iterate 2 refine gP ?_
     apply gE;apply gS;refine gR rfl ?_;refine gP ?_;refine gO rfl rfl (ld3 rfl f0 rfl) rfl ?_;refine gO rfl rfl (aOp_andNot rfl rfl (by omega) rfl) rfl ?_;refine gO rfl rfl (aOp_eql rfl rfl d1) rfl ?_;iterate 2 refine gP ?_
     refine gO rfl rfl (aOp_convU64 rfl Tryz.underlying3 Tryz.underlying181 (by omega)) rfl ?_;refine GoR.call rfl rfl (aCF aFunc148 rfl) (ones148_ok hk10) ?_ np;rintro v3 h3 ⟨q, x3⟩;cases q;refine ⟨_, rfl, ?_⟩;replace e0 := e0.trans x3;refine gP ?_;refine gO rfl rfl (aOp_eql rfl rfl d2) rfl ?_;iterate 4 refine gP ?_
     obtain ⟨ax, a1, a2, a3⟩ := T.take (by rw [List.getElem?_map, hit]; rfl) (T.ext j1 e0)
     have hx3 := e0.1
     refine GoR.does rfl rfl (aOp_callY rfl rfl a1) a2 a3 ?_ (by rintro _ _ ⟨_, _, _, ⟨q, _⟩ | ⟨q, _⟩⟩ <;> cases q);rintro v h6 ⟨x6, G', hG', ⟨q, j6⟩ | ⟨q, e6⟩⟩
     ·cases q;refine ⟨_, rfl, ?_⟩
      have y6 := (x1.ext e0).trans hG x6
      clear f0 e0;iterate 2 refine gP ?_
      apply gE;refine gC (b := false) rfl ?_;refine gD ?_;refine Go.inBlock noJ_ok ?_;refine gR rfl ?_;refine gO rfl rfl (aA rfl rfl) rfl ?_;refine gP ?_;apply gE;exact again2 (q2 - 1) (k + 1, G') _ _ (by omega) ⟨rfl, rfl, rfl, rfl, rfl, rfl, rfl, trivial⟩ ⟨by dsimp only; omega, y6, own_next hG' hG (by omega), by dsimp only; rw [hsb]; exact j6⟩
     ·cases q;refine ⟨_, rfl, ?_⟩
      have y6 := (x1.ext e0).trans hG x6
      clear f0 e0;iterate 2 refine gP ?_
      apply gE;refine gC (b := true) rfl ?_;exact gV (ret_end (aResult_of Tryz.func147 rfl rfl) ⟨rfl, y6, G', own_next hG' hG (by omega), .inr ⟨_, hlt, e6⟩⟩)
    ·have hg : goodS of m k = false := by unfold goodS; rw [decide_eq_true c1, decide_eq_false c2]; rfl
     rw [hg, if_neg (by decide), Nat.add_zero] at hsb
     have d2 : decide (((popc k : Nat) : Int) = (m : Nat)) = false := decide_eq_false (by omega)
     apply gS;refine gR rfl ?_;refine gO rfl rfl (kLT rfl rfl) rfl ?_;apply gE;apply gS;refine gC (b := true) rfl ?_;refine gD ?_;apply gS;refine Go.block noJ_ok ?_;apply gS;refine gR rfl ?_;iterate 2 refine gP ?_
     apply gE;apply gS;refine gR rfl ?_;refine gP ?_;refine gO rfl rfl (ld3 rfl f0 rfl) rfl ?_;refine gO rfl rfl (aOp_andNot rfl rfl (by omega) rfl) rfl ?_;refine gO rfl rfl (aOp_eql rfl rfl d1) rfl ?_;iterate 2 refine gP ?_
     refine gO rfl rfl (aOp_convU64 rfl Tryz.underlying3 Tryz.underlying181 (by omega)) rfl ?_;refine GoR.call rfl rfl (aCF aFunc148 rfl) (ones148_ok hk10) ?_ np;rintro v3 h3 ⟨q, x3⟩;cases q;refine ⟨_, rfl, ?_⟩;replace e0 := e0.trans x3;refine gP ?_;refine gO rfl rfl (aOp_eql rfl rfl d2) rfl ?_;iterate 2 refine gP ?_
     iterate 4 refine GoR.skip rfl rfl rfl ?_
     refine gP ?_;apply gE;refine gC (b := false) rfl ?_;refine gD ?_;refine Go.inBlock noJ_ok ?_;refine gR rfl ?_;refine gO rfl rfl (aA rfl rfl) rfl ?_;refine gP ?_;apply gE;exact again2 (q2 - 1) (k + 1, G) _ _ (by omega) ⟨rfl, rfl, rfl, rfl, rfl, rfl, rfl, trivial⟩ ⟨by dsimp only; omega, x1.ext e0, hG, by dsimp only; rw [hsb]; exact T.ext j1 e0⟩
   ·have hg : goodS of m k = false := by unfold goodS; rw [decide_eq_false c1]; rfl
    rw [hg, if_neg (by decide), Nat.add_zero] at hsb
    have d1 : decide (((andNot k of : Nat) : Int) = 0) = false := decide_eq_false (by omega)
    apply gS;refine gR rfl ?_;refine gO rfl rfl (kLT rfl rfl) rfl ?_;apply gE;apply gS;refine gC (b := true) rfl ?_;refine gD ?_;apply gS;refine Go.block noJ_ok ?_;apply gS;refine gR rfl ?_;iterate 2 refine gP ?_
    apply gE;apply gS;refine gR rfl ?_;refine gP ?_;refine gO rfl rfl (ld3 rfl f0 rfl) rfl ?_;refine gO rfl rfl (aOp_andNot rfl rfl (by omega) rfl) rfl ?_;refine gO rfl rfl (aOp_eql rfl rfl d1) rfl ?_;refine gP ?_;iterate 5 refine GoR.skip rfl rfl rfl ?_
    iterate 2 refine gP ?_
    iterate 4 refine GoR.skip rfl rfl rfl ?_
    refine gP ?_;apply gE;refine gC (b := false) rfl ?_;refine gD ?_;refine Go.inBlock noJ_ok ?_;refine gR rfl ?_;refine gO rfl rfl (aA rfl rfl) rfl ?_;refine gP ?_;apply gE;exact again2 (q2 - 1) (k + 1, G) _ _ (by omega) ⟨rfl, rfl, rfl, rfl, rfl, rfl, rfl, trivial⟩ ⟨by dsimp only; omega, x1.ext e0, hG, by dsimp only; rw [hsb]; exact T.ext j1 e0⟩
  ·have hkn : k = of + 1 := by omega
   subst hkn;apply gS;refine gR rfl ?_;refine gO rfl rfl (kLF rfl rfl) rfl ?_;apply gE;apply gS;refine gC (b := false) rfl ?_;refine gD ?_;refine Go.inBlock noJ_ok ?_;refine gR rfl ?_;refine gO rfl rfl (aA rfl rfl) rfl ?_;refine gP ?_;apply gE;exact again (q - 1) (m + 1, G) _ _ (by omega) ⟨rfl, rfl, rfl, rfl, trivial⟩ ⟨by dsimp only; omega, x1, hG, by dsimp only; rw [subA_succ]; exact j1⟩
 ·have hmn : m = M := by omega
  subst hmn;apply gS;refine gR rfl ?_;refine gO rfl rfl (kLF rfl rfl) rfl ?_;apply gE;apply gS;refine gC (b := false) rfl ?_;refine gD ?_;exact Go.endL (FLeft.ret (v := .tuple []) (aResult_of Tryz.func147 rfl rfl) ⟨rfl, x1, G, hG, .inl j1⟩)
theorem subsets_ok {of : Int} {h : AH} : Runs Tryz.prog 122 [.int .i64 of] h (fun en h' => ∃ bo, en = .ret (.func (.func 147) [] [.ptr bo 0]) ∧ Ext h h' ∧ Has h' bo (.cells .plain [.int .i64 of] 3) ∧ Ext h' h') := by
 have e0 : Ext h h := Ext.refl _
 refine Runs.intro aFunc122 rfl rfl rfl rfl fun rest => ?_;apply gS;refine gR rfl ?_;refine GoR.box rfl rfl rfl rfl rfl rfl fun h0 x0 f0 => ?_;replace e0 := e0.trans x0;refine gP ?_;apply gE;apply gS;refine gR rfl ?_;iterate 2 refine gP ?_
 apply gE;exact gV (ret_end (aResult_of Tryz.func122 rfl rfl) ⟨_, rfl, e0, f0, Ext.refl _⟩)
def RoadV.less (R : RoadV) (out : Nat) : RoadV := ⟨R.ps, withoutV R.es out⟩
theorem less_ok {R : RoadV} (O : R.Ok) (out : Nat) : (R.less out).Ok where
 np := O.np
 ne := by have := O.ne; show (withoutV R.es out).length ≤ 10; rw [without_is]; have := wo_len (out := out) (k := 0) (L := R.es); omega
 p := O.p
 e := fun e he => O.e e (by
  have : e ∈ withoutV R.es out := he
  rw [without_is] at this
  exact wo_mem this)
 d := by
  have hs : (withoutV R.es out).Sublist R.es := by rw [without_is]; exact wo_sub
  have := (hs.filter EV.doubt).length_le
  have h2 := O.d
  unfold doubtsV at *
  show ((withoutV R.es out).filter EV.doubt).length ≤ 4
  omega
def RoadV.clashes (R : RoadV) (only : Nat) : Bool := !(R.less (andNot (looksV R.es) only)).possible
def RoadV.clashI (R : RoadV) : Option Int := ((subs (looksV R.es)).map fun s => ((s : Nat) : Int)).find? fun x => R.clashes x.toNat
def RoadV.clashR (R : RoadV) : Int × Int := if R.Ok then (if R.possible = true then (0, 4) else (R.clashI.getD 0, 0)) else (0, 1)
theorem andNot_le (a b : Nat) (ha : a < 2 ^ 64) : andNot a b ≤ a := by
 unfold andNot
 rw [BitVec.toNat_and, BitVec.toNat_ofNat, Nat.mod_eq_of_lt ha];exact Nat.and_le_left
theorem looks_lt {R : RoadV} (O : R.Ok) : looksV R.es < 1024 := by
 have h1 : looksV R.es < 2 ^ R.es.length := bitsV_lt _ _
 have h2 : 2 ^ R.es.length ≤ 2 ^ 10 := Nat.pow_le_pow_right (by omega) O.ne
 omega
theorem clash123_ok {R : RoadV} (O : R.Ok) {lo : Nat} {gp ge : AVal} {bg bl : Nat} {only : Nat} {h : AH} (A : GroundAt h R lo gp ge) (f0 : Has h bg (.cells .plain [gp, ge] 77)) (f1 : Has h bl (.cells .plain [.int .i64 (looksV R.es : Nat)] 3)) :
  Runs Tryz.prog 123 [.int .i64 (only : Nat), .ptr bg 0, .ptr bl 0] h (fun en h' => en = .ret (.bool (R.clashes only)) ∧ Ext h h') := by
 have hb0 := f0.1
 have hb1 := f1.1
 have hl := looks_lt O
 have hle := andNot_le (looksV R.es) only (by omega)
 have hw := fun {h9} A => without_ok O (lo := lo) (gp := gp) (ge := ge) (out := andNot (looksV R.es) only) (by omega) (h := h9) A
 unfold RoadV.clashes
 have e0 : Ext h h := Ext.refl _
 refine Runs.intro aFunc123 rfl rfl rfl rfl fun rest => ?_;apply gS;refine gR rfl ?_;refine gP ?_;apply gE;apply gS;refine gR rfl ?_;refine gO rfl rfl (ld77 rfl f0 rfl) rfl ?_;refine gO rfl rfl (ld3 rfl f1 rfl) rfl ?_;refine gP ?_;refine gO rfl rfl (aOp_andNot rfl rfl (by omega) rfl) rfl ?_;refine GoR.call rfl rfl (aCF aFunc124 rfl) (hw (A.ext e0)) ?_ (by rintro _ _ ⟨s, q, _, _⟩; cases q);rintro v2 h2 ⟨s, q, x2, f2⟩;cases q;refine ⟨_, rfl, ?_⟩;replace f0 := f0.ext x2;replace f1 := f1.ext x2;replace e0 := e0.trans x2;refine GoR.call rfl rfl (aCF aFunc120 rfl) (possible_ok (less_ok O (andNot (looksV R.es) only)) (by assumption)) ?_ np;rintro v3 h3 ⟨q, x3⟩;cases q;refine ⟨_, rfl, ?_⟩;replace e0 := e0.trans x3;iterate 2 refine gP ?_
 apply gE;exact gW Tryz.func123 rfl rfl ⟨rfl, e0⟩
end Go.Proofs.YtkcimfopboelaaaGreat

namespace Go.Proofs.YtkcimfopboelaaaGreat
open Go Go.AbsE
set_option linter.unusedSimpArgs false
set_option maxRecDepth 100000
set_option maxHeartbeats 0
set_option linter.unusedVariables false
theorem clash80_ok {R : RoadV} (O : R.Ok) {lo : Nat} {gp ge : AVal} {h : AH} (A : GroundAt h R lo gp ge) :
  Runs Tryz.prog 80 [.agg [gp, ge]] h (fun en h' => en = (if R.possible = true then .pan (refusal 4) else .ret (.int .i64 (R.clashI.getD 0))) ∧ Ext h h') := by
 have hl := looks_lt O
 cases hp : R.possible with
 | true =>
  rw [if_pos rfl]
  have hpo := fun {h9} A => possible_ok O (lo := lo) (gp := gp) (ge := ge) (h := h9) A
  rw [hp] at hpo
  have e0 : Ext h h := Ext.refl _
  refine Runs.intro aFunc80 rfl rfl rfl rfl fun rest => ?_;apply gS;refine gR rfl ?_;refine GoR.box rfl rfl rfl rfl rfl rfl fun h0 x0 f0 => ?_;have := e0.1;replace e0 := e0.trans x0;have := f0.1;refine gP ?_;apply gE;apply gS;refine gR rfl ?_;refine gO rfl rfl (ld77 rfl f0 rfl) rfl ?_;refine GoR.call rfl rfl (aCF aFunc120 rfl) (hpo (A.ext e0)) ?_ np;rintro v1 h1 ⟨q, x1⟩;cases q;refine ⟨_, rfl, ?_⟩;replace f0 := f0.ext x1;replace e0 := e0.trans x1;refine GoR.callP rfl rfl (aCF aFunc91 rfl) (refuse_yes _ _) (by rintro _ _ ⟨q, _⟩; cases q) ?_;rintro chain h2 ⟨q, x2⟩
  have q := AEnd.pan.inj q
  subst q;replace f0 := f0.ext x2;replace e0 := e0.trans x2;exact FLeft.pan (⟨rfl, e0⟩)
 | false =>
  rw [if_neg (by decide)]
  have hpo := fun {h9} A => possible_ok O (lo := lo) (gp := gp) (ge := ge) (h := h9) A
  rw [hp] at hpo
  have hfi : ∀ {h9 : AH} {bo b b2 : Nat}, Ext h h9 → Has h9 bo (.cells .plain [.int .i64 (looksV R.es : Nat)] 3) → Has h9 b (.cells .plain [gp, ge] 77) → Has h9 b2 (.cells .plain [.int .i64 (looksV R.es : Nat)] 3) → Runs Tryz.prog 110 [.func (.func 147) [] [.ptr bo 0], .agg [.func (.func 123) [] [.ptr b 0, .ptr b2 0]]] h9 (fun en h' => en = .ret (.tuple [.int .i64 (R.clashI.getD 0), .bool R.clashI.isSome]) ∧ Ext h9 h') := fun {h9 bo b b2} e fo f f2 => by
   have it := subs1_it (of := looksV R.es) hl bo
   have hm : (subs (looksV R.es)).map (fun s => AVal.int .i64 (s : Nat)) = ((subs (looksV R.es)).map fun s => ((s : Nat) : Int)).map (.int .i64) := by rw [List.map_map]; rfl
   rw [hm] at it
   exact first_ok aFunc147 it aFunc123 (fun x => R.clashes x.toNat) (fun h' x => fo.ext x) fun x h' hx e' => by
    obtain ⟨s, hs, rfl⟩ := List.mem_map.1 hx
    rw [Int.toNat_natCast];exact clash123_ok O (A.ext (e.trans e')) (f.ext e') (f2.ext e')
  have e0 : Ext h h := Ext.refl _
  refine Runs.intro aFunc80 rfl rfl rfl rfl fun rest => ?_;apply gS;refine gR rfl ?_;refine GoR.box rfl rfl rfl rfl rfl rfl fun h0 x0 f0 => ?_;have := e0.1;replace e0 := e0.trans x0;have := f0.1;refine gP ?_;apply gE;apply gS;refine gR rfl ?_;refine gO rfl rfl (ld77 rfl f0 rfl) rfl ?_;refine GoR.call rfl rfl (aCF aFunc120 rfl) (hpo (A.ext e0)) ?_ np;rintro v1 h1 ⟨q, x1⟩;cases q;refine ⟨_, rfl, ?_⟩;replace f0 := f0.ext x1;replace e0 := e0.trans x1;refine GoR.call rfl rfl (aCF aFunc91 rfl) (refuse_no _ _) ?_ np;rintro v2 h2 ⟨q, x2⟩;cases q;refine ⟨_, rfl, ?_⟩;replace f0 := f0.ext x2;replace e0 := e0.trans x2;apply gE;apply gS;refine gR rfl ?_;refine gO rfl rfl (ld77 rfl f0 rfl) rfl ?_;refine GoR.call rfl rfl (aCF aFunc121 rfl) (looks_ok O (A.ext e0)) ?_ np;rintro v3 h3 ⟨q, x3⟩;cases q;refine ⟨_, rfl, ?_⟩;replace f0 := f0.ext x3;replace e0 := e0.trans x3;refine GoR.alloc rfl rfl rfl zt3 rfl rfl fun h4 x4 f4 => ?_;have := e0.1;have := f0.1;replace f0 := f0.ext x4;replace e0 := e0.trans x4;have := f4.1;refine GoR.store rfl rfl rfl rfl rfl rfl f4 rfl sz3 rfl rfl rfl fun h5 u5 => ?_;replace f4 := u5.has f4;replace f0 := f0.upd u5 (by omega);replace e0 := e0.upd u5 (by omega);apply gE;apply gS;refine gR rfl ?_;refine gO rfl rfl (ld3 rfl f4 rfl) rfl ?_;refine GoR.call rfl rfl (aCF aFunc122 rfl) (subsets_ok) ?_ (by rintro _ _ ⟨bo, q, _, _, e9⟩; cases q);rintro v6 h6 ⟨bo, q, x6, f6, e9⟩;cases q;refine ⟨_, rfl, ?_⟩;replace f4 := f4.ext x6;replace f0 := f0.ext x6;replace e0 := e0.trans x6;refine gP ?_;refine gO rfl rfl (aOp_build zt145 hu145 pl145 rfl rfl) rfl ?_;refine GoR.call rfl rfl (aCF aFunc110 rfl) (hfi e0 (by assumption) f0 (by assumption)) ?_ np;rintro v7 h7 ⟨q, x7⟩;cases q;refine ⟨_, rfl, ?_⟩;replace e0 := e0.trans x7;iterate 5 refine gP ?_
  apply gE;apply gS;refine gR rfl ?_;iterate 2 refine gP ?_
  apply gE;exact gW Tryz.func80 rfl rfl ⟨rfl, e0⟩
theorem clashB_ok {R : RoadV} (O : R.Ok) {lo : Nat} {gp ge : AVal} {br : Nat} {h : AH} (A : GroundAt h R lo gp ge) (f2 : Has h br (.cells .plain [.int .i64 0] 3)) :
  Runs Tryz.prog 79 [.agg [gp, ge], .ptr br 0] h (fun en h'' => ExtF (fun b => b = br) h h'' ∧ Has h'' br (.cells .plain [.int .i64 (R.clashR).1] 3) ∧ (((R.clashR).2 = 0 ∧ en = .ret (.tuple [])) ∨ en = .pan (refusal (R.clashR).2))) := by
 have y0 : ExtF (fun b => b = br) h h := ExtF.of (Ext.refl _)
 have l2 := f2.1
 have hc := fun {h9} A => clash80_ok O (lo := lo) (gp := gp) (ge := ge) (h := h9) A
 unfold RoadV.clashR
 rw [if_pos O]
 cases hp : R.possible with
 | true =>
  rw [hp, if_pos rfl] at hc;rw [if_pos rfl]
  have e0 : Ext h h := Ext.refl _
  refine Runs.intro aFunc79 rfl rfl rfl rfl fun rest => ?_;apply gS;refine gR rfl ?_;refine GoR.box rfl rfl rfl rfl rfl rfl fun h3 x3 f3 => ?_;replace f2 := f2.ext x3;replace e0 := e0.trans x3;replace y0 := y0.ext x3;apply gE;refine gR rfl ?_;refine gO rfl rfl (ld77 rfl f3 rfl) rfl ?_;refine GoR.callP rfl rfl (aCF aFunc80 rfl) (hc (A.ext e0)) (by rintro _ _ ⟨q, _⟩; cases q) ?_;rintro chain h4 ⟨q, x4⟩
  have q := AEnd.pan.inj q
  subst q;replace f3 := f3.ext x4;replace f2 := f2.ext x4;replace e0 := e0.trans x4;replace y0 := y0.ext x4;exact FLeft.pan (⟨y0, f2, .inr rfl⟩)
 | false =>
  rw [hp, if_neg (by decide)] at hc;rw [if_neg (by decide)]
  have e0 : Ext h h := Ext.refl _
  refine Runs.intro aFunc79 rfl rfl rfl rfl fun rest => ?_;apply gS;refine gR rfl ?_;refine GoR.box rfl rfl rfl rfl rfl rfl fun h3 x3 f3 => ?_;replace f2 := f2.ext x3;replace e0 := e0.trans x3;replace y0 := y0.ext x3;apply gE;refine gR rfl ?_;refine gO rfl rfl (ld77 rfl f3 rfl) rfl ?_;refine GoR.call rfl rfl (aCF aFunc80 rfl) (hc (A.ext e0)) ?_ np;rintro v4 h4 ⟨q, x4⟩;cases q;refine ⟨_, rfl, ?_⟩;replace f2 := f2.ext x4;replace y0 := y0.ext x4;refine GoR.store rfl rfl rfl rfl rfl rfl f2 rfl sz3 rfl rfl rfl fun h5 u5 => ?_;replace f2 := u5.has f2;clear e0;replace y0 := y0.upd u5 (.inl rfl);apply gE;exact Go.endL (FLeft.ret (v := .tuple []) (aResult_of Tryz.func79 rfl rfl) ⟨y0, f2, .inl ⟨rfl, rfl⟩⟩)
theorem Clash_ok {R : RoadV} {psl esl : AVal} {h : AH} (A : RoadAt h R psl esl) (hb1 : R.ps.length ≤ 40) (hb2 : R.es.length ≤ 40) :
  Runs Tryz.prog 30 [.agg [psl, esl]] h (fun en h' => en = .ret (.tuple [.int .i64 (R.clashR).1, .int .i64 (R.clashR).2]) ∧ Ext h h') := by
 by_cases O : R.Ok
 ·have hB := fun {lo gp ge br h} A => clashB_ok O (lo := lo) (gp := gp) (ge := ge) (br := br) (h := h) A
  obtain ⟨r, hr⟩ : ∃ r, R.clashR = r := ⟨_, rfl⟩
  rw [hr] at hB ⊢
  obtain ⟨r1, c⟩ := r
  have e0 : Ext h h := Ext.refl _
  refine Runs.intro aFunc30 rfl rfl rfl rfl fun rest => ?_;apply gS;refine gR rfl ?_;refine GoR.box rfl rfl rfl rfl rfl rfl fun h0 x0 f0 => ?_;have := e0.1;replace e0 := e0.trans x0;have := f0.1;refine GoR.alloc rfl rfl rfl zt3 rfl rfl fun h1 x1 f1 => ?_;have := e0.1;have := f0.1;replace f0 := f0.ext x1;replace e0 := e0.trans x1;have := f1.1;refine gP ?_;apply gE;apply gS;refine gR rfl ?_;refine gO rfl rfl (ld25 rfl f0 rfl) rfl ?_;refine gP ?_;refine GoR.call rfl rfl (aCF aFunc48 rfl) (attempt_sets O psl esl _ (A.ext e0) 79 _ aFunc79 _ (by simp [sameA, sameAs, eqI_eq]) h0.next (by omega) [.int .i64 r1] 3 c fun h' gp ge e g => hB g (f1.ext e)) ?_ np;rintro v9 h9 ⟨q, y9, f9⟩;cases q;refine ⟨_, rfl, ?_⟩
  have z9 := y9.low e0 (fun b q => by omega)
  clear e0 y9 f1
  have e0 := z9
  refine gP ?_;apply gE;apply gS;refine gR rfl ?_;refine gO rfl rfl (ld3 rfl f9 rfl) rfl ?_;refine gP ?_;refine GoR.store rfl rfl rfl rfl rfl rfl f9 rfl sz3 rfl rfl rfl fun h10 u10 => ?_;replace f9 := u10.has f9;replace e0 := e0.upd u10 (by omega);refine gP ?_;apply gE;exact gV (ret_end (aResult_of Tryz.func30 rfl (aResults_c rfl f9 (inCells_one ag3 rfl) rfl)) ⟨rfl, e0⟩)
 ·have hr : R.clashR = (0, 1) := by unfold RoadV.clashR; rw [if_neg O]
  rw [hr]
  have e0 : Ext h h := Ext.refl _
  refine Runs.intro aFunc30 rfl rfl rfl rfl fun rest => ?_;apply gS;refine gR rfl ?_;refine GoR.box rfl rfl rfl rfl rfl rfl fun h0 x0 f0 => ?_;have := e0.1;replace e0 := e0.trans x0;have := f0.1;refine GoR.alloc rfl rfl rfl zt3 rfl rfl fun h1 x1 f1 => ?_;have := e0.1;have := f0.1;replace f0 := f0.ext x1;replace e0 := e0.trans x1;have := f1.1;refine gP ?_;apply gE;apply gS;refine gR rfl ?_;refine gO rfl rfl (ld25 rfl f0 rfl) rfl ?_;refine gP ?_;refine GoR.call rfl rfl (aCF aFunc48 rfl) (attempt_bad O hb1 hb2 psl esl _ (A.ext e0) 79 _) ?_ np;rintro v2 h2 ⟨q, x2⟩;cases q;refine ⟨_, rfl, ?_⟩;replace f1 := f1.ext x2;replace e0 := e0.trans x2;refine gP ?_;apply gE;apply gS;refine gR rfl ?_;refine gO rfl rfl (ld3 rfl f1 rfl) rfl ?_;refine gP ?_;refine GoR.store rfl rfl rfl rfl rfl rfl f1 rfl sz3 rfl rfl rfl fun h3 u3 => ?_;replace f1 := u3.has f1;replace e0 := e0.upd u3 (by omega);refine gP ?_;apply gE;exact gV (ret_end (aResult_of Tryz.func30 rfl (aResults_c rfl f1 (inCells_one ag3 rfl) rfl)) ⟨rfl, e0⟩)
end Go.Proofs.YtkcimfopboelaaaGreat

namespace Go.Proofs.YtkcimfopboelaaaGreat
open Go Go.AbsE
set_option linter.unusedSimpArgs false
set_option maxRecDepth 100000
set_option maxHeartbeats 0
set_option linter.unusedVariables false
theorem in86_ok {n a b : Int} {h : AH} : Runs Tryz.prog 86 [.int .i64 n, .int .i64 a, .int .i64 b] h (fun en h' => en = .ret (.bool (decide (a ≤ n ∧ n ≤ b))) ∧ Ext h h') := by
 have e0 : Ext h h := Ext.refl _
 refine Runs.intro aFunc86 rfl rfl rfl rfl fun rest => ?_;apply gS;refine gR rfl ?_;refine gP ?_;apply gE;apply gS;refine gR rfl ?_;iterate 2 refine gP ?_
 by_cases hs0 : (a : Int) ≤ n
 ·refine gO rfl rfl (kMT rfl rfl) rfl ?_;iterate 3 refine gP ?_
  by_cases hs1 : (n : Int) ≤ b
  ·refine gO rfl rfl (kMT rfl rfl) rfl ?_;iterate 2 refine gP ?_
   apply gE;exact gV (ret_end (aResult_of Tryz.func86 rfl rfl) ⟨ret_true (by omega), e0⟩)
  ·refine gO rfl rfl (kMF rfl rfl) rfl ?_;iterate 2 refine gP ?_
   apply gE;exact gV (ret_end (aResult_of Tryz.func86 rfl rfl) ⟨ret_false (by omega), e0⟩)
 ·refine gO rfl rfl (kMF rfl rfl) rfl ?_;refine gP ?_;iterate 3 refine GoR.skip rfl rfl rfl ?_
  iterate 2 refine gP ?_
  apply gE;exact gV (ret_end (aResult_of Tryz.func86 rfl rfl) ⟨ret_false (by omega), e0⟩)
theorem in86_is {n a b : Int} {r : Bool} (hr : decide (a ≤ n ∧ n ≤ b) = r) {h : AH} : Runs Tryz.prog 86 [.int .i64 n, .int .i64 a, .int .i64 b] h (fun en h' => en = .ret (.bool r) ∧ Ext h h') := by
 rw [← hr]
 exact in86_ok
theorem span87_ok {lo hi a b m : Int} (ha : -1000 ≤ a) (hb : b ≤ 1000) {h : AH} : Runs Tryz.prog 87 [.agg [.int .i64 lo, .int .i64 hi], .int .i64 a, .int .i64 b, .int .i64 m] h (fun en h' => en = .ret (.bool (decide (a ≤ lo ∧ lo ≤ hi ∧ hi ≤ b ∧ hi - lo ≤ m))) ∧ Ext h h') := by
 have e0 : Ext h h := Ext.refl _
 refine Runs.intro aFunc87 rfl rfl rfl rfl fun rest => ?_;apply gS;refine gR rfl ?_;refine GoR.box rfl rfl rfl rfl rfl rfl fun h0 x0 f0 => ?_;have := e0.1;replace e0 := e0.trans x0;have := f0.1;refine gP ?_;apply gE;apply gS;refine gR rfl ?_;refine gP ?_;refine gO rfl rfl (fa29_0 rfl) rfl ?_;refine gO rfl rfl (ld3 rfl f0 rfl) rfl ?_
 by_cases hs0 : (a : Int) ≤ lo
 ·refine gO rfl rfl (kMT rfl rfl) rfl ?_;refine gP ?_;refine gO rfl rfl (fa29_0 rfl) rfl ?_;refine gO rfl rfl (ld3 rfl f0 rfl) rfl ?_;refine gO rfl rfl (fa29_1 rfl) rfl ?_;refine gO rfl rfl (ld3 rfl f0 rfl) rfl ?_
  by_cases hs1 : (lo : Int) ≤ hi
  ·refine gO rfl rfl (kMT rfl rfl) rfl ?_;iterate 2 refine gP ?_
   refine gO rfl rfl (fa29_1 rfl) rfl ?_;refine gO rfl rfl (ld3 rfl f0 rfl) rfl ?_;refine gP ?_
   by_cases hs2 : (hi : Int) ≤ b
   ·refine gO rfl rfl (kMT rfl rfl) rfl ?_;iterate 2 refine gP ?_
    refine gO rfl rfl (fa29_1 rfl) rfl ?_;refine gO rfl rfl (ld3 rfl f0 rfl) rfl ?_;refine gO rfl rfl (fa29_0 rfl) rfl ?_;refine gO rfl rfl (ld3 rfl f0 rfl) rfl ?_;refine gO rfl rfl (aS rfl rfl) rfl ?_;refine gP ?_
    by_cases hs3 : (hi - lo : Int) ≤ m
    ·refine gO rfl rfl (kMT rfl rfl) rfl ?_;iterate 2 refine gP ?_
     apply gE;exact gV (ret_end (aResult_of Tryz.func87 rfl rfl) ⟨ret_true (by omega), e0⟩)
    ·refine gO rfl rfl (kMF rfl rfl) rfl ?_;iterate 2 refine gP ?_
     apply gE;exact gV (ret_end (aResult_of Tryz.func87 rfl rfl) ⟨ret_false (by omega), e0⟩)
   ·refine gO rfl rfl (kMF rfl rfl) rfl ?_;iterate 2 refine gP ?_
    iterate 7 refine GoR.skip rfl rfl rfl ?_
    iterate 2 refine gP ?_
    apply gE;exact gV (ret_end (aResult_of Tryz.func87 rfl rfl) ⟨ret_false (by omega), e0⟩)
  ·refine gO rfl rfl (kMF rfl rfl) rfl ?_;iterate 2 refine gP ?_
   iterate 4 refine GoR.skip rfl rfl rfl ?_
   iterate 2 refine gP ?_
   iterate 7 refine GoR.skip rfl rfl rfl ?_
   iterate 2 refine gP ?_
   apply gE;exact gV (ret_end (aResult_of Tryz.func87 rfl rfl) ⟨ret_false (by omega), e0⟩)
 ·refine gO rfl rfl (kMF rfl rfl) rfl ?_;refine gP ?_;iterate 5 refine GoR.skip rfl rfl rfl ?_
  iterate 2 refine gP ?_
  iterate 4 refine GoR.skip rfl rfl rfl ?_
  iterate 2 refine gP ?_
  iterate 7 refine GoR.skip rfl rfl rfl ?_
  iterate 2 refine gP ?_
  apply gE;exact gV (ret_end (aResult_of Tryz.func87 rfl rfl) ⟨ret_false (by omega), e0⟩)
theorem span87_is {lo hi a b m : Int} (ha : -1000 ≤ a) (hb : b ≤ 1000) {r : Bool} (hr : decide (a ≤ lo ∧ lo ≤ hi ∧ hi ≤ b ∧ hi - lo ≤ m) = r) {h : AH} : Runs Tryz.prog 87 [.agg [.int .i64 lo, .int .i64 hi], .int .i64 a, .int .i64 b, .int .i64 m] h (fun en h' => en = .ret (.bool r) ∧ Ext h h') := by
 rw [← hr]
 exact span87_ok ha hb
theorem Part56_ok {R : RoadV} {psl esl : AVal} {n : Int} {h : AH} (A : RoadAt h R psl esl) (hl : R.ps.length ≤ 40) : Runs Tryz.prog 56 [.agg [psl, esl], .int .i64 n] h (fun en h' => en = .ret (.bool (decide (0 ≤ n ∧ n ≤ (R.ps.length : Int) - 1))) ∧ Ext h h') := by
 have hl1 := A.ps.len
 rw [List.length_map] at hl1
 have e0 : Ext h h := Ext.refl _
 refine Runs.intro aFunc56 rfl rfl rfl rfl fun rest => ?_;apply gS;refine gR rfl ?_;refine GoR.box rfl rfl rfl rfl rfl rfl fun h0 x0 f0 => ?_;replace e0 := e0.trans x0;refine gP ?_;apply gE;apply gS;refine gR rfl ?_;refine gP ?_;refine gO rfl rfl (fa25_0 rfl) rfl ?_;refine gO rfl rfl (ld22 rfl f0 rfl) rfl ?_;refine gO rfl rfl (aOp_lenSlice Tryz.underlying22 rfl (by assumption)) rfl ?_;refine gO rfl rfl (aS rfl rfl) rfl ?_;refine GoR.call rfl rfl (aCF aFunc86 rfl) (in86_ok) ?_ np;rintro v1 h1 ⟨q, x1⟩;cases q;refine ⟨_, rfl, ?_⟩;replace e0 := e0.trans x1;refine gP ?_;apply gE;exact gW Tryz.func56 rfl rfl ⟨rfl, e0⟩
theorem Part56_is {R : RoadV} {psl esl : AVal} {n : Int} {h : AH} (A : RoadAt h R psl esl) (hl : R.ps.length ≤ 40) {r : Bool} (hr : decide (0 ≤ n ∧ n ≤ (R.ps.length : Int) - 1) = r) : Runs Tryz.prog 56 [.agg [psl, esl], .int .i64 n] h (fun en h' => en = .ret (.bool r) ∧ Ext h h') := by
 rw [← hr]
 exact Part56_ok A hl
theorem event88_ok {R : RoadV} {psl esl : AVal} {h : AH} (A : RoadAt h R psl esl) (hl : R.ps.length ≤ 40) (e : EV) : Runs Tryz.prog 88 [.agg [psl, esl], .agg (EV.cells e)] h (fun en h' => en = .ret (.bool (decide (e.Ok R.ps.length))) ∧ Ext h h') := by
 unfold EV.cells
 by_cases k0 : e.kind = 0
 ·have hq : decide (e.Ok R.ps.length) = decide (0 ≤ e.ll ∧ e.ll ≤ e.lh ∧ e.lh ≤ 60 ∧ e.lh - e.ll ≤ 2) := decide_eq_decide.2 (by unfold EV.Ok; omega)
  rw [hq]
  have e0 : Ext h h := Ext.refl _
  refine Runs.intro aFunc88 rfl rfl rfl rfl fun rest => ?_;apply gS;refine gR rfl ?_;refine GoR.box rfl rfl rfl rfl rfl rfl fun h0 x0 f0 => ?_;replace e0 := e0.trans x0;refine GoR.box rfl rfl rfl rfl rfl rfl fun h1 x1 f1 => ?_;replace e0 := e0.trans x1;refine gP ?_;apply gE;iterate 2 apply gS
  refine gR rfl ?_;refine gO rfl rfl (fa62_0 rfl) rfl ?_;refine gO rfl rfl (ld3 rfl f1 rfl) rfl ?_;apply gE;refine Go.block noJ_ok ?_;apply gS;refine gR rfl ?_;refine gO rfl rfl (kET rfl rfl) rfl ?_;refine gP ?_;apply gE;refine gC (b := true) rfl ?_;apply gS;refine gR rfl ?_;refine gO rfl rfl (fa62_1 rfl) rfl ?_;refine gO rfl rfl (ld29 rfl f1 rfl) rfl ?_;refine GoR.call rfl rfl (aCF aFunc87 rfl) (span87_ok (by omega) (by omega)) ?_ np;rintro v2 h2 ⟨q, x2⟩;cases q;refine ⟨_, rfl, ?_⟩;replace e0 := e0.trans x2;refine gP ?_;apply gE;exact gW Tryz.func88 rfl rfl ⟨rfl, e0⟩
 ·by_cases k1 : e.kind = 1
  ·have hq : decide (e.Ok R.ps.length) = decide (1 ≤ e.days ∧ e.days ≤ 10) := decide_eq_decide.2 (by unfold EV.Ok; omega)
   rw [hq]
   have e0 : Ext h h := Ext.refl _
   refine Runs.intro aFunc88 rfl rfl rfl rfl fun rest => ?_;apply gS;refine gR rfl ?_;refine GoR.box rfl rfl rfl rfl rfl rfl fun h0 x0 f0 => ?_;replace e0 := e0.trans x0;refine GoR.box rfl rfl rfl rfl rfl rfl fun h1 x1 f1 => ?_;replace e0 := e0.trans x1;refine gP ?_;apply gE;iterate 2 apply gS
   refine gR rfl ?_;refine gO rfl rfl (fa62_0 rfl) rfl ?_;refine gO rfl rfl (ld3 rfl f1 rfl) rfl ?_;apply gE;refine Go.block noJ_ok ?_;apply gS;refine gR rfl ?_;refine gO rfl rfl (kEF rfl rfl) rfl ?_;refine gP ?_;apply gE;refine gC (b := false) rfl ?_;apply gS;refine gR rfl ?_;refine gO rfl rfl (kET rfl rfl) rfl ?_;refine gP ?_;apply gE;refine gC (b := true) rfl ?_;apply gS;refine gR rfl ?_;refine gO rfl rfl (fa62_2 rfl) rfl ?_;refine gO rfl rfl (ld3 rfl f1 rfl) rfl ?_;refine GoR.call rfl rfl (aCF aFunc86 rfl) (in86_ok) ?_ np;rintro v2 h2 ⟨q, x2⟩;cases q;refine ⟨_, rfl, ?_⟩;replace e0 := e0.trans x2;refine gP ?_;apply gE;exact gW Tryz.func88 rfl rfl ⟨rfl, e0⟩
  ·by_cases k2 : e.kind = 2
   ·by_cases k3 : 0 ≤ e.part ∧ e.part ≤ (R.ps.length : Int) - 1
    ·have hq : decide (e.Ok R.ps.length) = decide (-1000 ≤ e.wl ∧ e.wl ≤ e.wh ∧ e.wh ≤ 1000 ∧ e.wh - e.wl ≤ 2000) := decide_eq_decide.2 (by unfold EV.Ok; omega)
     rw [hq]
     have e0 : Ext h h := Ext.refl _
     refine Runs.intro aFunc88 rfl rfl rfl rfl fun rest => ?_;apply gS;refine gR rfl ?_;refine GoR.box rfl rfl rfl rfl rfl rfl fun h0 x0 f0 => ?_;replace e0 := e0.trans x0;refine GoR.box rfl rfl rfl rfl rfl rfl fun h1 x1 f1 => ?_;replace f0 := f0.ext x1;replace e0 := e0.trans x1;refine gP ?_;apply gE;iterate 2 apply gS
     refine gR rfl ?_;refine gO rfl rfl (fa62_0 rfl) rfl ?_;refine gO rfl rfl (ld3 rfl f1 rfl) rfl ?_;apply gE;refine Go.block noJ_ok ?_;apply gS;refine gR rfl ?_;refine gO rfl rfl (kEF rfl rfl) rfl ?_;refine gP ?_;apply gE;refine gC (b := false) rfl ?_;apply gS;refine gR rfl ?_;refine gO rfl rfl (kEF rfl rfl) rfl ?_;refine gP ?_;apply gE;refine gC (b := false) rfl ?_;apply gS;refine gR rfl ?_;refine gO rfl rfl (kET rfl rfl) rfl ?_;refine gP ?_;apply gE;refine gC (b := true) rfl ?_;apply gS;refine gR rfl ?_;refine gO rfl rfl (ld25 rfl f0 rfl) rfl ?_;refine gO rfl rfl (fa62_3 rfl) rfl ?_;refine gO rfl rfl (ld3 rfl f1 rfl) rfl ?_;refine GoR.call rfl rfl (aCF aFunc56 rfl) (Part56_is (A.ext e0) hl (r := true) (decide_eq_true k3)) ?_ np;rintro v2 h2 ⟨q, x2⟩;cases q;refine ⟨_, rfl, ?_⟩;replace f1 := f1.ext x2;replace e0 := e0.trans x2;refine gP ?_;refine gO rfl rfl (fa62_4 rfl) rfl ?_;refine gO rfl rfl (ld29 rfl f1 rfl) rfl ?_;refine GoR.call rfl rfl (aCF aFunc87 rfl) (span87_ok (by omega) (by omega)) ?_ np;rintro v3 h3 ⟨q, x3⟩;cases q;refine ⟨_, rfl, ?_⟩;replace e0 := e0.trans x3;iterate 2 refine gP ?_
     apply gE;exact gW Tryz.func88 rfl rfl ⟨rfl, e0⟩
    ·rw [show decide (e.Ok R.ps.length) = false from decide_eq_false (by unfold EV.Ok; omega)]
     have e0 : Ext h h := Ext.refl _
     refine Runs.intro aFunc88 rfl rfl rfl rfl fun rest => ?_;apply gS;refine gR rfl ?_;refine GoR.box rfl rfl rfl rfl rfl rfl fun h0 x0 f0 => ?_;replace e0 := e0.trans x0;refine GoR.box rfl rfl rfl rfl rfl rfl fun h1 x1 f1 => ?_;replace f0 := f0.ext x1;replace e0 := e0.trans x1;refine gP ?_;apply gE;iterate 2 apply gS
     refine gR rfl ?_;refine gO rfl rfl (fa62_0 rfl) rfl ?_;refine gO rfl rfl (ld3 rfl f1 rfl) rfl ?_;apply gE;refine Go.block noJ_ok ?_;apply gS;refine gR rfl ?_;refine gO rfl rfl (kEF rfl rfl) rfl ?_;refine gP ?_;apply gE;refine gC (b := false) rfl ?_;apply gS;refine gR rfl ?_;refine gO rfl rfl (kEF rfl rfl) rfl ?_;refine gP ?_;apply gE;refine gC (b := false) rfl ?_;apply gS;refine gR rfl ?_;refine gO rfl rfl (kET rfl rfl) rfl ?_;refine gP ?_;apply gE;refine gC (b := true) rfl ?_;apply gS;refine gR rfl ?_;refine gO rfl rfl (ld25 rfl f0 rfl) rfl ?_;refine gO rfl rfl (fa62_3 rfl) rfl ?_;refine gO rfl rfl (ld3 rfl f1 rfl) rfl ?_;refine GoR.call rfl rfl (aCF aFunc56 rfl) (Part56_is (A.ext e0) hl (r := false) (decide_eq_false k3)) ?_ np;rintro v2 h2 ⟨q, x2⟩;cases q;refine ⟨_, rfl, ?_⟩;replace e0 := e0.trans x2;refine gP ?_;iterate 3 refine GoR.skip rfl rfl rfl ?_
     iterate 2 refine gP ?_
     apply gE;exact gW Tryz.func88 rfl rfl ⟨rfl, e0⟩
   ·rw [show decide (e.Ok R.ps.length) = false from decide_eq_false (by unfold EV.Ok; omega)]
    have e0 : Ext h h := Ext.refl _
    refine Runs.intro aFunc88 rfl rfl rfl rfl fun rest => ?_;apply gS;refine gR rfl ?_;refine GoR.box rfl rfl rfl rfl rfl rfl fun h0 x0 f0 => ?_;replace e0 := e0.trans x0;refine GoR.box rfl rfl rfl rfl rfl rfl fun h1 x1 f1 => ?_;replace e0 := e0.trans x1;refine gP ?_;apply gE;iterate 2 apply gS
    refine gR rfl ?_;refine gO rfl rfl (fa62_0 rfl) rfl ?_;refine gO rfl rfl (ld3 rfl f1 rfl) rfl ?_;apply gE;refine Go.block noJ_ok ?_;apply gS;refine gR rfl ?_;refine gO rfl rfl (kEF rfl rfl) rfl ?_;refine gP ?_;apply gE;refine gC (b := false) rfl ?_;apply gS;refine gR rfl ?_;refine gO rfl rfl (kEF rfl rfl) rfl ?_;refine gP ?_;apply gE;refine gC (b := false) rfl ?_;apply gS;refine gR rfl ?_;refine gO rfl rfl (kEF rfl rfl) rfl ?_;refine gP ?_;apply gE;refine gC (b := false) rfl ?_;refine gD ?_;refine Go.inBlock noJ_ok ?_;apply gS;refine gR rfl ?_;refine gP ?_;apply gE;exact gW Tryz.func88 rfl rfl ⟨rfl, e0⟩
theorem long13_ok {R : RoadV} {psl esl : AVal} {h : AH} (A : RoadAt h R psl esl) (hb : R.ps.length < 9223372036854775808 ∧ R.es.length < 9223372036854775808) : Runs Tryz.prog 13 [.agg [psl, esl]] h (fun en h' => en = .ret (.bool (decide (¬ (R.ps.length ≤ 40 ∧ R.es.length ≤ 40)))) ∧ Ext h h') := by
 have hl1 := A.ps.len
 have hl2 := A.es.len
 rw [List.length_map] at hl1 hl2
 have hm : (if (R.ps.length : Int) < (R.es.length : Int) then (R.es.length : Int) else (R.ps.length : Int)) = max (R.ps.length : Int) (R.es.length : Int) := by split <;> omega
 by_cases q : R.ps.length ≤ 40 ∧ R.es.length ≤ 40
 ·rw [decide_eq_false (by simpa using q)]
  have e0 : Ext h h := Ext.refl _
  refine Runs.intro aFunc13 rfl rfl rfl rfl fun rest => ?_;apply gS;refine gR rfl ?_;refine GoR.box rfl rfl rfl rfl rfl rfl fun h0 x0 f0 => ?_;replace e0 := e0.trans x0;refine gP ?_;apply gE;apply gS;refine gR rfl ?_;refine gO rfl rfl (fa25_0 rfl) rfl ?_;refine gO rfl rfl (ld22 rfl f0 rfl) rfl ?_;refine gO rfl rfl (aOp_lenSlice Tryz.underlying22 rfl (by assumption)) rfl ?_;refine gO rfl rfl (fa25_1 rfl) rfl ?_;refine gO rfl rfl (ld23 rfl f0 rfl) rfl ?_;refine gO rfl rfl (aOp_lenSlice Tryz.underlying23 rfl (by assumption)) rfl ?_;refine gO rfl rfl (aOp_max2 rfl rfl hm) rfl ?_;refine gO rfl rfl (kGF rfl rfl) rfl ?_;refine gP ?_;apply gE;exact gW Tryz.func13 rfl rfl ⟨rfl, e0⟩
 ·rw [decide_eq_true q]
  have e0 : Ext h h := Ext.refl _
  refine Runs.intro aFunc13 rfl rfl rfl rfl fun rest => ?_;apply gS;refine gR rfl ?_;refine GoR.box rfl rfl rfl rfl rfl rfl fun h0 x0 f0 => ?_;replace e0 := e0.trans x0;refine gP ?_;apply gE;apply gS;refine gR rfl ?_;refine gO rfl rfl (fa25_0 rfl) rfl ?_;refine gO rfl rfl (ld22 rfl f0 rfl) rfl ?_;refine gO rfl rfl (aOp_lenSlice Tryz.underlying22 rfl (by assumption)) rfl ?_;refine gO rfl rfl (fa25_1 rfl) rfl ?_;refine gO rfl rfl (ld23 rfl f0 rfl) rfl ?_;refine gO rfl rfl (aOp_lenSlice Tryz.underlying23 rfl (by assumption)) rfl ?_;refine gO rfl rfl (aOp_max2 rfl rfl hm) rfl ?_;refine gO rfl rfl (kGT rfl rfl) rfl ?_;refine gP ?_;apply gE;exact gW Tryz.func13 rfl rfl ⟨rfl, e0⟩
theorem Road36_ok {R : RoadV} {psl esl : AVal} {h : AH} (A : RoadAt h R psl esl) (hb1 : R.ps.length ≤ 40) (hb2 : R.es.length ≤ 40) : Runs Tryz.prog 36 [.agg [psl, esl]] h (fun en h' => en = .ret (.bool (decide R.Ok)) ∧ Ext h h') := by
 have hl1 := A.ps.len
 have hl2 := A.es.len
 rw [List.length_map] at hl1 hl2
 by_cases c1 : 1 ≤ R.ps.length ∧ R.ps.length ≤ 4 ∧ R.es.length ≤ 10
 ·have e0 : Ext h h := Ext.refl _
  refine Runs.intro aFunc36 rfl rfl rfl rfl fun rest => ?_;apply gS;refine gR rfl ?_;refine GoR.box rfl rfl rfl rfl rfl rfl fun h0 x0 f0 => ?_;have := e0.1;replace e0 := e0.trans x0;have := f0.1;refine gP ?_;apply gE;iterate 2 apply gS
  refine gR rfl ?_;refine gO rfl rfl (fa25_0 rfl) rfl ?_;refine gO rfl rfl (ld22 rfl f0 rfl) rfl ?_;refine gO rfl rfl (aOp_lenSlice Tryz.underlying22 rfl (by assumption)) rfl ?_;refine GoR.call rfl rfl (aCF aFunc86 rfl) (in86_is (r := true) (dt (by omega))) ?_ np;rintro v1 h1 ⟨q, x1⟩;cases q;refine ⟨_, rfl, ?_⟩;replace f0 := f0.ext x1;replace e0 := e0.trans x1;iterate 2 refine gP ?_
  refine gO rfl rfl (fa25_1 rfl) rfl ?_;refine gO rfl rfl (ld23 rfl f0 rfl) rfl ?_;refine gO rfl rfl (aOp_lenSlice Tryz.underlying23 rfl (by assumption)) rfl ?_;refine gO rfl rfl (kGF rfl rfl) rfl ?_;refine gP ?_;apply gE;refine gC (b := false) rfl ?_;refine gD ?_;iterate 2 apply gS
  refine gR rfl ?_;refine gP ?_;apply gE;refine Go.block noJ_ok ?_
  have hb0 := f0.1
  refine Go.loopKeep (fun i : Nat => [(1, .ptr h.next 0), (3, .int .i64 (i : Nat))]) (fun m i h' => m + i = R.ps.length ∧ Ext h h' ∧ Has h' h.next (.cells .plain [psl, esl] 25) ∧ ∀ p, p ∈ R.ps.take i → p.Ok) (n := R.ps.length) 0 ⟨rfl, rfl, trivial⟩ ⟨rfl, e0, f0, fun p hp => by simp at hp⟩ ?_;clear e0 f0;rintro m i hc ⟨hm, e0, f0, hok⟩ again
  have hce := e0.1
  have hb0 := f0.1
  by_cases hi : i < R.ps.length
  ·obtain ⟨p, hp⟩ : ∃ p, R.ps[i]? = some p := ⟨R.ps[i], by simp [hi]⟩
   have hpm := List.mem_of_getElem? hp
   obtain ⟨bq, off, q1, q2⟩ := A.ps.at (i := i) (l := PV.cells p) (by rw [List.getElem?_map, hp]; rfl)
   rw [List.length_map] at q1
   have hno : ¬ p.Ok → decide R.Ok = false := fun q => decide_eq_false fun O => q (O.p p hpm)
   unfold PV.cells at q2
   by_cases h1 : 0 ≤ p.full ∧ p.full ≤ 60
   ·by_cases h2 : 0 ≤ p.hl ∧ p.hl ≤ p.hh ∧ p.hh ≤ p.full ∧ p.hh - p.hl ≤ 2
    ·by_cases h3 : 1 ≤ p.sl ∧ p.sl ≤ p.sh ∧ p.sh ≤ 10 ∧ p.sh - p.sl ≤ 2
     ·by_cases h4 : 0 ≤ p.rl ∧ p.rl ≤ p.rh ∧ p.rh ≤ 5 ∧ p.rh - p.rl ≤ 2
      ·iterate 2 apply gS
       refine gR rfl ?_;refine gP ?_;refine gO rfl rfl (fa25_0 rfl) rfl ?_;refine gO rfl rfl (ld22 rfl f0 rfl) rfl ?_;refine gO rfl rfl (aOp_lenSlice Tryz.underlying22 rfl (by assumption)) rfl ?_;refine gO rfl rfl (kLT rfl rfl) rfl ?_;apply gE;refine gC (b := true) rfl ?_;refine gD ?_;apply gS;refine Go.block noJ_ok ?_;apply gS;refine gR rfl ?_;refine gO rfl rfl (fa25_0 rfl) rfl ?_;refine gO rfl rfl (ld22 rfl f0 rfl) rfl ?_;refine gP ?_;refine gO rfl rfl (aOp_indexAddr (i := i) Tryz.underlying22 sz58 rfl (by assumption) rfl (Nat.ble_eq_true_of_le (by omega))) rfl ?_;refine gO rfl rfl (aOp_loadE ag58 sz58 rfl (q2.ext (by assumption))) rfl ?_;refine GoR.alloc rfl rfl rfl zt58 rfl rfl fun h5 x5 f5 => ?_;have := e0.1;have := f0.1;replace f0 := f0.ext x5;replace e0 := e0.trans x5;have := f5.1;refine GoR.store rfl rfl rfl rfl rfl rfl f5 rfl sz58 rfl rfl rfl fun h6 u6 => ?_;replace f5 := u6.has f5;replace f0 := f0.upd u6 (by omega);replace e0 := e0.upd u6 (by omega);apply gE;apply gS;refine gR rfl ?_;refine gO rfl rfl (fa58_3 rfl) rfl ?_;refine gO rfl rfl (ld3 rfl f5 rfl) rfl ?_;refine GoR.call rfl rfl (aCF aFunc86 rfl) (in86_is (r := true) (decide_eq_true h1)) ?_ np;rintro v7 h7 ⟨q, x7⟩;cases q;refine ⟨_, rfl, ?_⟩;replace f5 := f5.ext x7;replace f0 := f0.ext x7;replace e0 := e0.trans x7;iterate 2 refine gP ?_
       refine gO rfl rfl (fa58_0 rfl) rfl ?_;refine gO rfl rfl (ld29 rfl f5 rfl) rfl ?_;refine gO rfl rfl (fa58_3 rfl) rfl ?_;refine gO rfl rfl (ld3 rfl f5 rfl) rfl ?_;refine GoR.call rfl rfl (aCF aFunc87 rfl) (span87_is (by omega) (by omega) (r := true) (decide_eq_true h2)) ?_ np;rintro v8 h8 ⟨q, x8⟩;cases q;refine ⟨_, rfl, ?_⟩;replace f5 := f5.ext x8;replace f0 := f0.ext x8;replace e0 := e0.trans x8;iterate 3 refine gP ?_
       refine gO rfl rfl (fa58_1 rfl) rfl ?_;refine gO rfl rfl (ld29 rfl f5 rfl) rfl ?_;refine GoR.call rfl rfl (aCF aFunc87 rfl) (span87_is (by omega) (by omega) (r := true) (decide_eq_true h3)) ?_ np;rintro v9 h9 ⟨q, x9⟩;cases q;refine ⟨_, rfl, ?_⟩;replace f5 := f5.ext x9;replace f0 := f0.ext x9;replace e0 := e0.trans x9;iterate 3 refine gP ?_
       refine gO rfl rfl (fa58_2 rfl) rfl ?_;refine gO rfl rfl (ld29 rfl f5 rfl) rfl ?_;refine GoR.call rfl rfl (aCF aFunc87 rfl) (span87_is (by omega) (by omega) (r := true) (decide_eq_true h4)) ?_ np;rintro v10 h10 ⟨q, x10⟩;cases q;refine ⟨_, rfl, ?_⟩;replace f0 := f0.ext x10;replace e0 := e0.trans x10;iterate 2 refine gP ?_
       apply gE;refine gC (b := false) rfl ?_;refine gD ?_;refine Go.inBlock noJ_ok ?_;refine gR rfl ?_;refine gP ?_;refine gO rfl rfl (aA rfl rfl) rfl ?_;refine gP ?_;apply gE;refine again (m - 1) (i + 1) _ _ (by omega) ⟨rfl, rfl, trivial⟩ ⟨by omega, e0, f0, fun p' hp' => ?_⟩;rw [List.take_add_one, hp, Option.toList_some, List.mem_append, List.mem_singleton] at hp'
       rcases hp' with hp' | rfl
       ·exact hok p' hp'
       ·exact ⟨h1, h2, h3, h4⟩
      ·rw [hno fun q => h4 q.2.2.2];iterate 2 apply gS
       refine gR rfl ?_;refine gP ?_;refine gO rfl rfl (fa25_0 rfl) rfl ?_;refine gO rfl rfl (ld22 rfl f0 rfl) rfl ?_;refine gO rfl rfl (aOp_lenSlice Tryz.underlying22 rfl (by assumption)) rfl ?_;refine gO rfl rfl (kLT rfl rfl) rfl ?_;apply gE;refine gC (b := true) rfl ?_;refine gD ?_;apply gS;refine Go.block noJ_ok ?_;apply gS;refine gR rfl ?_;refine gO rfl rfl (fa25_0 rfl) rfl ?_;refine gO rfl rfl (ld22 rfl f0 rfl) rfl ?_;refine gP ?_;refine gO rfl rfl (aOp_indexAddr (i := i) Tryz.underlying22 sz58 rfl (by assumption) rfl (Nat.ble_eq_true_of_le (by omega))) rfl ?_;refine gO rfl rfl (aOp_loadE ag58 sz58 rfl (q2.ext (by assumption))) rfl ?_;refine GoR.alloc rfl rfl rfl zt58 rfl rfl fun h5 x5 f5 => ?_;have := e0.1;have := f0.1;replace e0 := e0.trans x5;have := f5.1;refine GoR.store rfl rfl rfl rfl rfl rfl f5 rfl sz58 rfl rfl rfl fun h6 u6 => ?_;replace f5 := u6.has f5;replace e0 := e0.upd u6 (by omega);apply gE;apply gS;refine gR rfl ?_;refine gO rfl rfl (fa58_3 rfl) rfl ?_;refine gO rfl rfl (ld3 rfl f5 rfl) rfl ?_;refine GoR.call rfl rfl (aCF aFunc86 rfl) (in86_is (r := true) (decide_eq_true h1)) ?_ np;rintro v7 h7 ⟨q, x7⟩;cases q;refine ⟨_, rfl, ?_⟩;replace f5 := f5.ext x7;replace e0 := e0.trans x7;iterate 2 refine gP ?_
       refine gO rfl rfl (fa58_0 rfl) rfl ?_;refine gO rfl rfl (ld29 rfl f5 rfl) rfl ?_;refine gO rfl rfl (fa58_3 rfl) rfl ?_;refine gO rfl rfl (ld3 rfl f5 rfl) rfl ?_;refine GoR.call rfl rfl (aCF aFunc87 rfl) (span87_is (by omega) (by omega) (r := true) (decide_eq_true h2)) ?_ np;rintro v8 h8 ⟨q, x8⟩;cases q;refine ⟨_, rfl, ?_⟩;replace f5 := f5.ext x8;replace e0 := e0.trans x8;iterate 3 refine gP ?_
       refine gO rfl rfl (fa58_1 rfl) rfl ?_;refine gO rfl rfl (ld29 rfl f5 rfl) rfl ?_;refine GoR.call rfl rfl (aCF aFunc87 rfl) (span87_is (by omega) (by omega) (r := true) (decide_eq_true h3)) ?_ np;rintro v9 h9 ⟨q, x9⟩;cases q;refine ⟨_, rfl, ?_⟩;replace f5 := f5.ext x9;replace e0 := e0.trans x9;iterate 3 refine gP ?_
       refine gO rfl rfl (fa58_2 rfl) rfl ?_;refine gO rfl rfl (ld29 rfl f5 rfl) rfl ?_;refine GoR.call rfl rfl (aCF aFunc87 rfl) (span87_is (by omega) (by omega) (r := false) (decide_eq_false h4)) ?_ np;rintro v10 h10 ⟨q, x10⟩;cases q;refine ⟨_, rfl, ?_⟩;replace e0 := e0.trans x10;iterate 2 refine gP ?_
       apply gE;refine gC (b := true) rfl ?_;apply gS;refine gR rfl ?_;refine gP ?_;apply gE;exact gW Tryz.func36 rfl rfl ⟨rfl, e0⟩
     ·rw [hno fun q => h3 q.2.2.1];iterate 2 apply gS
      refine gR rfl ?_;refine gP ?_;refine gO rfl rfl (fa25_0 rfl) rfl ?_;refine gO rfl rfl (ld22 rfl f0 rfl) rfl ?_;refine gO rfl rfl (aOp_lenSlice Tryz.underlying22 rfl (by assumption)) rfl ?_;refine gO rfl rfl (kLT rfl rfl) rfl ?_;apply gE;refine gC (b := true) rfl ?_;refine gD ?_;apply gS;refine Go.block noJ_ok ?_;apply gS;refine gR rfl ?_;refine gO rfl rfl (fa25_0 rfl) rfl ?_;refine gO rfl rfl (ld22 rfl f0 rfl) rfl ?_;refine gP ?_;refine gO rfl rfl (aOp_indexAddr (i := i) Tryz.underlying22 sz58 rfl (by assumption) rfl (Nat.ble_eq_true_of_le (by omega))) rfl ?_;refine gO rfl rfl (aOp_loadE ag58 sz58 rfl (q2.ext (by assumption))) rfl ?_;refine GoR.alloc rfl rfl rfl zt58 rfl rfl fun h4 x4 f4 => ?_;have := e0.1;have := f0.1;replace e0 := e0.trans x4;have := f4.1;refine GoR.store rfl rfl rfl rfl rfl rfl f4 rfl sz58 rfl rfl rfl fun h5 u5 => ?_;replace f4 := u5.has f4;replace e0 := e0.upd u5 (by omega);apply gE;apply gS;refine gR rfl ?_;refine gO rfl rfl (fa58_3 rfl) rfl ?_;refine gO rfl rfl (ld3 rfl f4 rfl) rfl ?_;refine GoR.call rfl rfl (aCF aFunc86 rfl) (in86_is (r := true) (decide_eq_true h1)) ?_ np;rintro v6 h6 ⟨q, x6⟩;cases q;refine ⟨_, rfl, ?_⟩;replace f4 := f4.ext x6;replace e0 := e0.trans x6;iterate 2 refine gP ?_
      refine gO rfl rfl (fa58_0 rfl) rfl ?_;refine gO rfl rfl (ld29 rfl f4 rfl) rfl ?_;refine gO rfl rfl (fa58_3 rfl) rfl ?_;refine gO rfl rfl (ld3 rfl f4 rfl) rfl ?_;refine GoR.call rfl rfl (aCF aFunc87 rfl) (span87_is (by omega) (by omega) (r := true) (decide_eq_true h2)) ?_ np;rintro v7 h7 ⟨q, x7⟩;cases q;refine ⟨_, rfl, ?_⟩;replace f4 := f4.ext x7;replace e0 := e0.trans x7;iterate 3 refine gP ?_
      refine gO rfl rfl (fa58_1 rfl) rfl ?_;refine gO rfl rfl (ld29 rfl f4 rfl) rfl ?_;refine GoR.call rfl rfl (aCF aFunc87 rfl) (span87_is (by omega) (by omega) (r := false) (decide_eq_false h3)) ?_ np;rintro v8 h8 ⟨q, x8⟩;cases q;refine ⟨_, rfl, ?_⟩;replace e0 := e0.trans x8;iterate 3 refine gP ?_
      iterate 4 refine GoR.skip rfl rfl rfl ?_
      refine gP ?_;apply gE;refine gC (b := true) rfl ?_;apply gS;refine gR rfl ?_;refine gP ?_;apply gE;exact gW Tryz.func36 rfl rfl ⟨rfl, e0⟩
    ·rw [hno fun q => h2 q.2.1];iterate 2 apply gS
     refine gR rfl ?_;refine gP ?_;refine gO rfl rfl (fa25_0 rfl) rfl ?_;refine gO rfl rfl (ld22 rfl f0 rfl) rfl ?_;refine gO rfl rfl (aOp_lenSlice Tryz.underlying22 rfl (by assumption)) rfl ?_;refine gO rfl rfl (kLT rfl rfl) rfl ?_;apply gE;refine gC (b := true) rfl ?_;refine gD ?_;apply gS;refine Go.block noJ_ok ?_;apply gS;refine gR rfl ?_;refine gO rfl rfl (fa25_0 rfl) rfl ?_;refine gO rfl rfl (ld22 rfl f0 rfl) rfl ?_;refine gP ?_;refine gO rfl rfl (aOp_indexAddr (i := i) Tryz.underlying22 sz58 rfl (by assumption) rfl (Nat.ble_eq_true_of_le (by omega))) rfl ?_;refine gO rfl rfl (aOp_loadE ag58 sz58 rfl (q2.ext (by assumption))) rfl ?_;refine GoR.alloc rfl rfl rfl zt58 rfl rfl fun h3 x3 f3 => ?_;have := e0.1;have := f0.1;replace e0 := e0.trans x3;have := f3.1;refine GoR.store rfl rfl rfl rfl rfl rfl f3 rfl sz58 rfl rfl rfl fun h4 u4 => ?_;replace f3 := u4.has f3;replace e0 := e0.upd u4 (by omega);apply gE;apply gS;refine gR rfl ?_;refine gO rfl rfl (fa58_3 rfl) rfl ?_;refine gO rfl rfl (ld3 rfl f3 rfl) rfl ?_;refine GoR.call rfl rfl (aCF aFunc86 rfl) (in86_is (r := true) (decide_eq_true h1)) ?_ np;rintro v5 h5 ⟨q, x5⟩;cases q;refine ⟨_, rfl, ?_⟩;replace f3 := f3.ext x5;replace e0 := e0.trans x5;iterate 2 refine gP ?_
     refine gO rfl rfl (fa58_0 rfl) rfl ?_;refine gO rfl rfl (ld29 rfl f3 rfl) rfl ?_;refine gO rfl rfl (fa58_3 rfl) rfl ?_;refine gO rfl rfl (ld3 rfl f3 rfl) rfl ?_;refine GoR.call rfl rfl (aCF aFunc87 rfl) (span87_is (by omega) (by omega) (r := false) (decide_eq_false h2)) ?_ np;rintro v6 h6 ⟨q, x6⟩;cases q;refine ⟨_, rfl, ?_⟩;replace e0 := e0.trans x6;iterate 3 refine gP ?_
     iterate 4 refine GoR.skip rfl rfl rfl ?_
     iterate 2 refine gP ?_
     iterate 4 refine GoR.skip rfl rfl rfl ?_
     refine gP ?_;apply gE;refine gC (b := true) rfl ?_;apply gS;refine gR rfl ?_;refine gP ?_;apply gE;exact gW Tryz.func36 rfl rfl ⟨rfl, e0⟩
   ·rw [hno fun q => h1 q.1];iterate 2 apply gS
    refine gR rfl ?_;refine gP ?_;refine gO rfl rfl (fa25_0 rfl) rfl ?_;refine gO rfl rfl (ld22 rfl f0 rfl) rfl ?_;refine gO rfl rfl (aOp_lenSlice Tryz.underlying22 rfl (by assumption)) rfl ?_;refine gO rfl rfl (kLT rfl rfl) rfl ?_;apply gE;refine gC (b := true) rfl ?_;refine gD ?_;apply gS;refine Go.block noJ_ok ?_;apply gS;refine gR rfl ?_;refine gO rfl rfl (fa25_0 rfl) rfl ?_;refine gO rfl rfl (ld22 rfl f0 rfl) rfl ?_;refine gP ?_;refine gO rfl rfl (aOp_indexAddr (i := i) Tryz.underlying22 sz58 rfl (by assumption) rfl (Nat.ble_eq_true_of_le (by omega))) rfl ?_;refine gO rfl rfl (aOp_loadE ag58 sz58 rfl (q2.ext (by assumption))) rfl ?_;refine GoR.alloc rfl rfl rfl zt58 rfl rfl fun h2 x2 f2 => ?_;have := e0.1;have := f0.1;replace e0 := e0.trans x2;have := f2.1;refine GoR.store rfl rfl rfl rfl rfl rfl f2 rfl sz58 rfl rfl rfl fun h3 u3 => ?_;replace f2 := u3.has f2;replace e0 := e0.upd u3 (by omega);apply gE;apply gS;refine gR rfl ?_;refine gO rfl rfl (fa58_3 rfl) rfl ?_;refine gO rfl rfl (ld3 rfl f2 rfl) rfl ?_;refine GoR.call rfl rfl (aCF aFunc86 rfl) (in86_is (r := false) (decide_eq_false h1)) ?_ np;rintro v4 h4 ⟨q, x4⟩;cases q;refine ⟨_, rfl, ?_⟩;replace e0 := e0.trans x4;iterate 2 refine gP ?_
    iterate 6 refine GoR.skip rfl rfl rfl ?_
    iterate 2 refine gP ?_
    iterate 4 refine GoR.skip rfl rfl rfl ?_
    iterate 2 refine gP ?_
    iterate 4 refine GoR.skip rfl rfl rfl ?_
    refine gP ?_;apply gE;refine gC (b := true) rfl ?_;apply gS;refine gR rfl ?_;refine gP ?_;apply gE;exact gW Tryz.func36 rfl rfl ⟨rfl, e0⟩
  ·rw [List.take_of_length_le (by omega)] at hok;iterate 2 apply gS
   refine gR rfl ?_;refine gP ?_;refine gO rfl rfl (fa25_0 rfl) rfl ?_;refine gO rfl rfl (ld22 rfl f0 rfl) rfl ?_;refine gO rfl rfl (aOp_lenSlice Tryz.underlying22 rfl (by assumption)) rfl ?_;refine gO rfl rfl (kLF rfl rfl) rfl ?_;apply gE;refine gC (b := false) rfl ?_;refine gD ?_;apply gS;refine gR rfl ?_;refine gP ?_;apply gE;iterate 2 apply gS
   refine gR rfl ?_;refine gP ?_;apply gE;refine Go.block noJ_ok ?_;refine Go.loopKeep (fun i : Nat => [(1, .ptr h.next 0), (5, .int .i64 (doubtsV (R.es.take i) : Nat)), (6, .int .i64 (i : Nat))]) (fun m i h' => m + i = R.es.length ∧ Ext h h' ∧ Has h' h.next (.cells .plain [psl, esl] 25) ∧ ∀ e, e ∈ R.es.take i → e.Ok R.ps.length) (n := R.es.length) 0 ⟨rfl, rfl, rfl, trivial⟩ ⟨rfl, e0, f0, fun p hp => by simp at hp⟩ ?_;clear e0 f0 again;rintro m i hc ⟨hm, e0, f0, hok2⟩ again
   have hce := e0.1
   have hb0 := f0.1
   by_cases hi2 : i < R.es.length
   ·obtain ⟨e, he⟩ : ∃ e, R.es[i]? = some e := ⟨R.es[i], by simp [hi2]⟩
    have hem := List.mem_of_getElem? he
    obtain ⟨bq, off, q1, q2⟩ := A.es.at (i := i) (l := EV.cells e) (by rw [List.getElem?_map, he]; rfl)
    rw [List.length_map] at q1
    have hle : doubtsV (R.es.take i) ≤ i := by
     unfold doubtsV
     have := List.length_filter_le EV.doubt (R.es.take i)
     rw [List.length_take] at this
     omega
    have hnx : doubtsV (R.es.take (i + 1)) = doubtsV (R.es.take i) + (if e.kind = 0 ∧ e.ll ≠ e.lh then 1 else 0) := by
     unfold doubtsV
     rw [List.take_add_one, he, Option.toList_some, List.filter_append, List.length_append]
     congr 1
     by_cases q : e.kind = 0 ∧ e.ll ≠ e.lh
     ·rw [if_pos q, show List.filter EV.doubt [e] = [e] from by rw [List.filter_cons, show EV.doubt e = true from decide_eq_true q]; rfl]; rfl
     ·rw [if_neg q, show List.filter EV.doubt [e] = [] from by rw [List.filter_cons, show EV.doubt e = false from decide_eq_false q]; rfl]; rfl
    obtain ⟨d, hd⟩ : ∃ d, doubtsV (R.es.take i) = d := ⟨_, rfl⟩
    rw [hd] at hnx hle ⊢
    have hev := fun {h9} A => event88_ok (R := R) (psl := psl) (esl := esl) (h := h9) A (by omega) e
    unfold EV.cells at q2 hev
    by_cases O : e.Ok R.ps.length
    ·rw [decide_eq_true O] at hev
     have hok3 : ∀ e', e' ∈ R.es.take (i + 1) → e'.Ok R.ps.length := fun e' he' => by
      rw [List.take_add_one, he, Option.toList_some, List.mem_append, List.mem_singleton] at he'
      rcases he' with he' | rfl
      ·exact hok2 e' he'
      ·exact O
     by_cases k0 : e.kind = 0
     ·have hO := O
      unfold EV.Ok at hO
      by_cases k1 : e.ll = e.lh
      ·rw [if_neg (by simp [k1]), Nat.add_zero] at hnx;iterate 2 apply gS
       refine gR rfl ?_;refine gP ?_;refine gO rfl rfl (fa25_1 rfl) rfl ?_;refine gO rfl rfl (ld23 rfl f0 rfl) rfl ?_;refine gO rfl rfl (aOp_lenSlice Tryz.underlying23 rfl (by assumption)) rfl ?_;refine gO rfl rfl (kLT rfl rfl) rfl ?_;apply gE;refine gC (b := true) rfl ?_;refine gD ?_;apply gS;refine Go.block noJ_ok ?_;apply gS;refine gR rfl ?_;refine gO rfl rfl (fa25_1 rfl) rfl ?_;refine gO rfl rfl (ld23 rfl f0 rfl) rfl ?_;refine gP ?_;refine gO rfl rfl (aOp_indexAddr (i := i) Tryz.underlying23 sz62 rfl (by assumption) rfl (Nat.ble_eq_true_of_le (by omega))) rfl ?_;refine gO rfl rfl (aOp_loadE ag62 sz62 rfl (q2.ext (by assumption))) rfl ?_;refine GoR.alloc rfl rfl rfl zt62 rfl rfl fun h2 x2 f2 => ?_;have := e0.1;have := f0.1;replace f0 := f0.ext x2;replace e0 := e0.trans x2;have := f2.1;refine GoR.store rfl rfl rfl rfl rfl rfl f2 rfl sz62 rfl rfl rfl fun h3 u3 => ?_;replace f2 := u3.has f2;replace f0 := f0.upd u3 (by omega);replace e0 := e0.upd u3 (by omega);apply gE;iterate 2 apply gS
       refine gR rfl ?_;refine gO rfl rfl (ld25 rfl f0 rfl) rfl ?_;refine gO rfl rfl (ld62 rfl f2 rfl) rfl ?_;refine GoR.call rfl rfl (aCF aFunc88 rfl) (hev (A.ext e0)) ?_ np;rintro v4 h4 ⟨q, x4⟩;cases q;refine ⟨_, rfl, ?_⟩;replace f2 := f2.ext x4;replace f0 := f0.ext x4;replace e0 := e0.trans x4;refine gP ?_;apply gE;refine gC (b := false) rfl ?_;refine gD ?_;apply gS;refine gR rfl ?_;refine gO rfl rfl (fa62_0 rfl) rfl ?_;refine gO rfl rfl (ld3 rfl f2 rfl) rfl ?_;refine gO rfl rfl (kET rfl rfl) rfl ?_;refine gP ?_;refine gO rfl rfl (fa62_1 rfl) rfl ?_;refine gO rfl rfl (fa29_0 rfl) rfl ?_;refine gO rfl rfl (ld3 rfl f2 rfl) rfl ?_;refine gO rfl rfl (fa62_1 rfl) rfl ?_;refine gO rfl rfl (fa29_1 rfl) rfl ?_;refine gO rfl rfl (ld3 rfl f2 rfl) rfl ?_;refine gO rfl rfl (kLF rfl rfl) rfl ?_;refine gP ?_;apply gE;refine gC (b := false) rfl ?_;refine gD ?_;refine Go.inBlock noJ_ok ?_;refine gR rfl ?_;refine gP ?_;refine gO rfl rfl (aA rfl rfl) rfl ?_;refine gP ?_;apply gE;exact again (m - 1) (i + 1) _ _ (by omega) ⟨rfl, by rw [hnx]; rfl, rfl, trivial⟩ ⟨by omega, e0, f0, hok3⟩
      ·rw [if_pos ⟨k0, k1⟩] at hnx;iterate 2 apply gS
       refine gR rfl ?_;refine gP ?_;refine gO rfl rfl (fa25_1 rfl) rfl ?_;refine gO rfl rfl (ld23 rfl f0 rfl) rfl ?_;refine gO rfl rfl (aOp_lenSlice Tryz.underlying23 rfl (by assumption)) rfl ?_;refine gO rfl rfl (kLT rfl rfl) rfl ?_;apply gE;refine gC (b := true) rfl ?_;refine gD ?_;apply gS;refine Go.block noJ_ok ?_;apply gS;refine gR rfl ?_;refine gO rfl rfl (fa25_1 rfl) rfl ?_;refine gO rfl rfl (ld23 rfl f0 rfl) rfl ?_;refine gP ?_;refine gO rfl rfl (aOp_indexAddr (i := i) Tryz.underlying23 sz62 rfl (by assumption) rfl (Nat.ble_eq_true_of_le (by omega))) rfl ?_;refine gO rfl rfl (aOp_loadE ag62 sz62 rfl (q2.ext (by assumption))) rfl ?_;refine GoR.alloc rfl rfl rfl zt62 rfl rfl fun h2 x2 f2 => ?_;have := e0.1;have := f0.1;replace f0 := f0.ext x2;replace e0 := e0.trans x2;have := f2.1;refine GoR.store rfl rfl rfl rfl rfl rfl f2 rfl sz62 rfl rfl rfl fun h3 u3 => ?_;replace f2 := u3.has f2;replace f0 := f0.upd u3 (by omega);replace e0 := e0.upd u3 (by omega);apply gE;iterate 2 apply gS
       refine gR rfl ?_;refine gO rfl rfl (ld25 rfl f0 rfl) rfl ?_;refine gO rfl rfl (ld62 rfl f2 rfl) rfl ?_;refine GoR.call rfl rfl (aCF aFunc88 rfl) (hev (A.ext e0)) ?_ np;rintro v4 h4 ⟨q, x4⟩;cases q;refine ⟨_, rfl, ?_⟩;replace f2 := f2.ext x4;replace f0 := f0.ext x4;replace e0 := e0.trans x4;refine gP ?_;apply gE;refine gC (b := false) rfl ?_;refine gD ?_;apply gS;refine gR rfl ?_;refine gO rfl rfl (fa62_0 rfl) rfl ?_;refine gO rfl rfl (ld3 rfl f2 rfl) rfl ?_;refine gO rfl rfl (kET rfl rfl) rfl ?_;refine gP ?_;refine gO rfl rfl (fa62_1 rfl) rfl ?_;refine gO rfl rfl (fa29_0 rfl) rfl ?_;refine gO rfl rfl (ld3 rfl f2 rfl) rfl ?_;refine gO rfl rfl (fa62_1 rfl) rfl ?_;refine gO rfl rfl (fa29_1 rfl) rfl ?_;refine gO rfl rfl (ld3 rfl f2 rfl) rfl ?_;refine gO rfl rfl (kLT rfl rfl) rfl ?_;refine gP ?_;apply gE;refine gC (b := true) rfl ?_;refine gR rfl ?_;refine gP ?_;refine gO rfl rfl (aA rfl rfl) rfl ?_;refine gP ?_;apply gE;refine Go.inBlock noJ_ok ?_;refine gR rfl ?_;refine gP ?_;refine gO rfl rfl (aA rfl rfl) rfl ?_;refine gP ?_;apply gE;exact again (m - 1) (i + 1) _ _ (by omega) ⟨rfl, by rw [hnx]; rfl, rfl, trivial⟩ ⟨by omega, e0, f0, hok3⟩
     ·rw [if_neg (by simp [k0]), Nat.add_zero] at hnx;iterate 2 apply gS
      refine gR rfl ?_;refine gP ?_;refine gO rfl rfl (fa25_1 rfl) rfl ?_;refine gO rfl rfl (ld23 rfl f0 rfl) rfl ?_;refine gO rfl rfl (aOp_lenSlice Tryz.underlying23 rfl (by assumption)) rfl ?_;refine gO rfl rfl (kLT rfl rfl) rfl ?_;apply gE;refine gC (b := true) rfl ?_;refine gD ?_;apply gS;refine Go.block noJ_ok ?_;apply gS;refine gR rfl ?_;refine gO rfl rfl (fa25_1 rfl) rfl ?_;refine gO rfl rfl (ld23 rfl f0 rfl) rfl ?_;refine gP ?_;refine gO rfl rfl (aOp_indexAddr (i := i) Tryz.underlying23 sz62 rfl (by assumption) rfl (Nat.ble_eq_true_of_le (by omega))) rfl ?_;refine gO rfl rfl (aOp_loadE ag62 sz62 rfl (q2.ext (by assumption))) rfl ?_;refine GoR.alloc rfl rfl rfl zt62 rfl rfl fun h2 x2 f2 => ?_;have := e0.1;have := f0.1;replace f0 := f0.ext x2;replace e0 := e0.trans x2;have := f2.1;refine GoR.store rfl rfl rfl rfl rfl rfl f2 rfl sz62 rfl rfl rfl fun h3 u3 => ?_;replace f2 := u3.has f2;replace f0 := f0.upd u3 (by omega);replace e0 := e0.upd u3 (by omega);apply gE;iterate 2 apply gS
      refine gR rfl ?_;refine gO rfl rfl (ld25 rfl f0 rfl) rfl ?_;refine gO rfl rfl (ld62 rfl f2 rfl) rfl ?_;refine GoR.call rfl rfl (aCF aFunc88 rfl) (hev (A.ext e0)) ?_ np;rintro v4 h4 ⟨q, x4⟩;cases q;refine ⟨_, rfl, ?_⟩;replace f2 := f2.ext x4;replace f0 := f0.ext x4;replace e0 := e0.trans x4;refine gP ?_;apply gE;refine gC (b := false) rfl ?_;refine gD ?_;apply gS;refine gR rfl ?_;refine gO rfl rfl (fa62_0 rfl) rfl ?_;refine gO rfl rfl (ld3 rfl f2 rfl) rfl ?_;refine gO rfl rfl (kEF rfl rfl) rfl ?_;refine gP ?_;iterate 7 refine GoR.skip rfl rfl rfl ?_
      refine gP ?_;apply gE;refine gC (b := false) rfl ?_;refine gD ?_;refine Go.inBlock noJ_ok ?_;refine gR rfl ?_;refine gP ?_;refine gO rfl rfl (aA rfl rfl) rfl ?_;refine gP ?_;apply gE;exact again (m - 1) (i + 1) _ _ (by omega) ⟨rfl, by rw [hnx]; rfl, rfl, trivial⟩ ⟨by omega, e0, f0, hok3⟩
    ·rw [decide_eq_false O] at hev;rw [show decide R.Ok = false from decide_eq_false fun q => O (q.e e hem)];iterate 2 apply gS
     refine gR rfl ?_;refine gP ?_;refine gO rfl rfl (fa25_1 rfl) rfl ?_;refine gO rfl rfl (ld23 rfl f0 rfl) rfl ?_;refine gO rfl rfl (aOp_lenSlice Tryz.underlying23 rfl (by assumption)) rfl ?_;refine gO rfl rfl (kLT rfl rfl) rfl ?_;apply gE;refine gC (b := true) rfl ?_;refine gD ?_;apply gS;refine Go.block noJ_ok ?_;apply gS;refine gR rfl ?_;refine gO rfl rfl (fa25_1 rfl) rfl ?_;refine gO rfl rfl (ld23 rfl f0 rfl) rfl ?_;refine gP ?_;refine gO rfl rfl (aOp_indexAddr (i := i) Tryz.underlying23 sz62 rfl (by assumption) rfl (Nat.ble_eq_true_of_le (by omega))) rfl ?_;refine gO rfl rfl (aOp_loadE ag62 sz62 rfl (q2.ext (by assumption))) rfl ?_;refine GoR.alloc rfl rfl rfl zt62 rfl rfl fun h2 x2 f2 => ?_;have := e0.1;have := f0.1;replace f0 := f0.ext x2;replace e0 := e0.trans x2;have := f2.1;refine GoR.store rfl rfl rfl rfl rfl rfl f2 rfl sz62 rfl rfl rfl fun h3 u3 => ?_;replace f2 := u3.has f2;replace f0 := f0.upd u3 (by omega);replace e0 := e0.upd u3 (by omega);apply gE;iterate 2 apply gS
     refine gR rfl ?_;refine gO rfl rfl (ld25 rfl f0 rfl) rfl ?_;refine gO rfl rfl (ld62 rfl f2 rfl) rfl ?_;refine GoR.call rfl rfl (aCF aFunc88 rfl) (hev (A.ext e0)) ?_ np;rintro v4 h4 ⟨q, x4⟩;cases q;refine ⟨_, rfl, ?_⟩;replace e0 := e0.trans x4;refine gP ?_;apply gE;refine gC (b := true) rfl ?_;apply gS;refine gR rfl ?_;refine gP ?_;apply gE;exact gW Tryz.func36 rfl rfl ⟨rfl, e0⟩
   ·have hin : i = R.es.length := by omega
    rw [hin, List.take_length] at hok2 ⊢
    by_cases hd : doubtsV R.es ≤ 4
    ·rw [show decide R.Ok = true from decide_eq_true ⟨⟨c1.1, c1.2.1⟩, c1.2.2, hok, hok2, hd⟩];iterate 2 apply gS
     refine gR rfl ?_;refine gP ?_;refine gO rfl rfl (fa25_1 rfl) rfl ?_;refine gO rfl rfl (ld23 rfl f0 rfl) rfl ?_;refine gO rfl rfl (aOp_lenSlice Tryz.underlying23 rfl (by assumption)) rfl ?_;refine gO rfl rfl (kLF rfl rfl) rfl ?_;apply gE;refine gC (b := false) rfl ?_;refine gD ?_;apply gS;refine gR rfl ?_;refine gP ?_;refine gO rfl rfl (kMT rfl rfl) rfl ?_;refine gP ?_;apply gE;exact gW Tryz.func36 rfl rfl ⟨rfl, e0⟩
    ·rw [show decide R.Ok = false from decide_eq_false fun q => hd q.d]
     have : doubtsV R.es ≤ R.es.length := List.length_filter_le _ _
     iterate 2 apply gS
     refine gR rfl ?_;refine gP ?_;refine gO rfl rfl (fa25_1 rfl) rfl ?_;refine gO rfl rfl (ld23 rfl f0 rfl) rfl ?_;refine gO rfl rfl (aOp_lenSlice Tryz.underlying23 rfl (by assumption)) rfl ?_;refine gO rfl rfl (kLF rfl rfl) rfl ?_;apply gE;refine gC (b := false) rfl ?_;refine gD ?_;apply gS;refine gR rfl ?_;refine gP ?_;refine gO rfl rfl (kMF rfl rfl) rfl ?_;refine gP ?_;apply gE;exact gW Tryz.func36 rfl rfl ⟨rfl, e0⟩
 ·rw [show decide R.Ok = false from decide_eq_false fun O => c1 ⟨O.np.1, O.np.2, O.ne⟩]
  by_cases c2 : 1 ≤ R.ps.length ∧ R.ps.length ≤ 4
  ·have e0 : Ext h h := Ext.refl _
   refine Runs.intro aFunc36 rfl rfl rfl rfl fun rest => ?_;apply gS;refine gR rfl ?_;refine GoR.box rfl rfl rfl rfl rfl rfl fun h0 x0 f0 => ?_;replace e0 := e0.trans x0;refine gP ?_;apply gE;iterate 2 apply gS
   refine gR rfl ?_;refine gO rfl rfl (fa25_0 rfl) rfl ?_;refine gO rfl rfl (ld22 rfl f0 rfl) rfl ?_;refine gO rfl rfl (aOp_lenSlice Tryz.underlying22 rfl (by assumption)) rfl ?_;refine GoR.call rfl rfl (aCF aFunc86 rfl) (in86_is (r := true) (dt (by omega))) ?_ np;rintro v1 h1 ⟨q, x1⟩;cases q;refine ⟨_, rfl, ?_⟩;replace f0 := f0.ext x1;replace e0 := e0.trans x1;iterate 2 refine gP ?_
   refine gO rfl rfl (fa25_1 rfl) rfl ?_;refine gO rfl rfl (ld23 rfl f0 rfl) rfl ?_;refine gO rfl rfl (aOp_lenSlice Tryz.underlying23 rfl (by assumption)) rfl ?_;refine gO rfl rfl (kGT rfl rfl) rfl ?_;refine gP ?_;apply gE;refine gC (b := true) rfl ?_;apply gS;refine gR rfl ?_;refine gP ?_;apply gE;exact gW Tryz.func36 rfl rfl ⟨rfl, e0⟩
  ·have e0 : Ext h h := Ext.refl _
   refine Runs.intro aFunc36 rfl rfl rfl rfl fun rest => ?_;apply gS;refine gR rfl ?_;refine GoR.box rfl rfl rfl rfl rfl rfl fun h0 x0 f0 => ?_;replace e0 := e0.trans x0;refine gP ?_;apply gE;iterate 2 apply gS
   refine gR rfl ?_;refine gO rfl rfl (fa25_0 rfl) rfl ?_;refine gO rfl rfl (ld22 rfl f0 rfl) rfl ?_;refine gO rfl rfl (aOp_lenSlice Tryz.underlying22 rfl (by assumption)) rfl ?_;refine GoR.call rfl rfl (aCF aFunc86 rfl) (in86_is (r := false) (df (by omega))) ?_ np;rintro v1 h1 ⟨q, x1⟩;cases q;refine ⟨_, rfl, ?_⟩;replace e0 := e0.trans x1;iterate 2 refine gP ?_
   iterate 4 refine GoR.skip rfl rfl rfl ?_
   refine gP ?_;apply gE;refine gC (b := true) rfl ?_;apply gS;refine gR rfl ?_;refine gP ?_;apply gE;exact gW Tryz.func36 rfl rfl ⟨rfl, e0⟩
end Go.Proofs.YtkcimfopboelaaaGreat

set_option linter.unusedSimpArgs false
namespace Go.AbsE
open Go
section
variable {P : Program} {t : Tr AVal} {h : AH} {dst : Option Tmp} {ty tt : TypeId} {pos : String} {after : Array Edge} {guard : Option (Nat × Bool)} {x y : Operand}
theorem slice_all0 {α : Type} {l : List α} {n : Nat} (h : l.length = n) : slice? l 0 n = some l := slice_all h
theorem aOp_appendFull {el el2 eb t1 t2 : TypeId} {sz bytes b len : Nat} {z s : AVal} {g0 : Kd} {Lx L : List (List AVal)} (hu1 : P.underlying t1 = some (.slice el)) (hu2 : P.underlying t2 = some (.slice el2)) (hs : sizeT P el = some sz) (hby : bytesT P el = some bytes) (hz : zeroT P el = some z) (hzl : Nat.beq z.cells.length sz = true) (hsz : Nat.blt 0 sz = true)
  (hx : ev t x = some (.slice b 0 len len)) (hb : Has h b (.cells g0 Lx.flatten eb)) (hg : g0.isRo = false) (hlx : Lx.length = len) (hzx : ∀ l, l ∈ Lx → l.length = sz) (hy : ev t y = some s) (hsl : SliceOf h sz s L) (hzL : ∀ l, l ∈ L → l.length = sz) (hroom : (len + L.length + 300) * 2 * (bytes + 1) < 281474976710656) :
  ∃ s' h1, aOp P t h ⟨dst, .call ⟨.builtin .append, #[x, y], #[t1, t2]⟩, tt, pos, after, guard⟩ = some (.val s' h1) ∧ Ext h h1 ∧ FreshS b h1 sz s' (Lx ++ L) := by
 subst hlx
 have hfx := flatten_len hzx
 by_cases hL : L = []
 ·subst hL
  obtain ⟨h1, q1, q2⟩ := aOp_appendIn (P := P) (t := t) (h := h) (dst := dst) (tt := tt) (pos := pos) (after := after) (guard := guard) (x := x) (y := y) (cap := Lx.length) (m := Lx.length) (new := []) (cs' := Lx.flatten) (cs := Lx.flatten) hu1 hu2 hs hby hz hzl hsz hx hy hsl.len (by rw [hsl.src]; rfl) rfl (by simp) (by simpa using hroom) hb hg rfl (by
   rw [Nat.zero_add, ← hfx]
   have : splice Lx.flatten Lx.flatten.length [] = some (Lx.flatten.take Lx.flatten.length ++ [] ++ Lx.flatten.drop (Lx.flatten.length + ([] : List AVal).length)) := splice_eq (by simp)
   rw [this]
   simp)
  refine ⟨_, h1, q1, ⟨by rw [q2.1]; exact Nat.le_refl _, fun c hc => ?_⟩, ?_⟩
  ·by_cases z : c = b
   ·subst z; rw [q2.2.1, hb.2]
   ·exact q2.2.2 c z
  ·rw [List.append_nil]
   intro h' hn he
   have hb1 := q2.has hb
   refine SliceOf.mk' rfl rfl (hb1.fresh (Nat.le_refl b) hn he) rfl fun i l hl => ?_
   rw [Nat.zero_add]
   exact slice_flatten hzx i l hl
 ·have hL0 : 0 < L.length := List.length_pos_iff.2 hL
  obtain ⟨h1, q⟩ := new_some h (.cells .grow (Lx ++ L).flatten el)
  obtain ⟨_, q2, q3⟩ := new_ext q
  refine ⟨.gsl h.next 0 0 (Lx.length + L.length), h1, ?_, q2, ?_⟩
  ·show opCall P t h ⟨.builtin .append, #[x, y], #[t1, t2]⟩ tt = _
   have he : evs t [x, y] = some [.slice b 0 Lx.length Lx.length, s] := by simp only [evs, mapO, hx, hy]
   have hlt : Nat.blt ((Lx.length + L.length + 300) * 2 * (bytes + 1)) 281474976710656 = true := Nat.ble_eq_true_of_le hroom
   have hold : srcCells h sz Lx.length (.slice b 0 Lx.length Lx.length) = some Lx.flatten := by
    show AbsE.loadCells h b 0 (Lx.length * sz) = _
    unfold AbsE.loadCells
    rw [hb.2]
    exact slice_all0 hfx
   have hle : Nat.ble (Lx.length + L.length) Lx.length = false := by
    cases q : Nat.ble (Lx.length + L.length) Lx.length with
    | false => rfl
    | true => have := Nat.le_of_ble_eq_true q; omega
   have ha : aAppend P h t1 t2 (.slice b 0 Lx.length Lx.length) s = some (.val (.gsl h.next 0 0 (Lx.length + L.length)) h1) := by
    unfold aAppend
    rw [hu1, hu2]
    simp only [hs, hby, hz, show lenA (.slice b 0 Lx.length Lx.length) = some Lx.length from rfl, hsl.len, hsl.src, hlt, hsz, hzl, cond_true]
    unfold appSlice
    rw [hle, hold]
    simp only [cond_false]
    unfold growNew
    rw [← List.flatten_append, q]
   simp only [opCall, he, callWith, aBuiltin, ha]
  ·intro h' hn he
   refine SliceOf.mk' rfl rfl (q3.fresh (Nat.le_of_lt hb.1) hn he) (by rw [List.length_append]) fun i l hl => ?_
   rw [Nat.zero_add]
   refine slice_flatten (fun l hl => ?_) i l hl
   rcases List.mem_append.1 hl with hl | hl
   ·exact hzx l hl
   ·exact hzL l hl
variable {c : FC} {k : List AItem} {Q : AM → Prop} {J : Jump} {all : Array Oper} {l lrest : List Oper} {i d : Nat}
theorem GoR.appendFull {el el2 eb t1 t2 : TypeId} {sz bytes b len : Nat} {z s : AVal} {g0 : Kd} {Lx L : List (List AVal)} (hl : l = ⟨dst, .call ⟨.builtin .append, #[x, y], #[t1, t2]⟩, tt, pos, after, guard⟩ :: lrest) (hw : wantedA all t ⟨dst, .call ⟨.builtin .append, #[x, y], #[t1, t2]⟩, tt, pos, after, guard⟩ = some true)
  (hu1 : P.underlying t1 = some (.slice el)) (hu2 : P.underlying t2 = some (.slice el2)) (hs : sizeT P el = some sz) (hby : bytesT P el = some bytes) (hz : zeroT P el = some z) (hzl : Nat.beq z.cells.length sz = true) (hsz : Nat.blt 0 sz = true)
  (hx : ev t x = some (.slice b 0 len len)) (hb : Has h b (.cells g0 Lx.flatten eb)) (hg : g0.isRo = false) (hlx : Lx.length = len) (hzx : ∀ l, l ∈ Lx → l.length = sz) (hy : ev t y = some s) (hsl : SliceOf h sz s L) (hzL : ∀ l, l ∈ L → l.length = sz) (hroom : (len + L.length + 300) * 2 * (bytes + 1) < 281474976710656) (hd : dst = some d) (hdn : Nat.blt d c.n = true)
  (g : ∀ s' h1, Ext h h1 → FreshS b h1 sz s' (Lx ++ L) → GoR P J c k Q (runOps P c.n all lrest (i + 1) (t.put (pth d) (some s')) h1)) : GoR P J c k Q (runOps P c.n all l i t h) := by
 obtain ⟨s', h1, q1, q2, q3⟩ := aOp_appendFull (P := P) (dst := dst) (tt := tt) (pos := pos) (after := after) (guard := guard) hu1 hu2 hs hby hz hzl hsz hx hb hg hlx hzx hy hsl hzL hroom
 refine GoR.op hl hw q1 ?_ (g s' h1 q2 q3)
 unfold prepD
 rw [show (⟨dst, .call ⟨.builtin .append, #[x, y], #[t1, t2]⟩, tt, pos, after, guard⟩ : Oper).dst = some d from hd]
 simp only [hdn, cond_true]
 rw [Tr.mkPut_eq]
end
end Go.AbsE
