import Derived.Test.YtkhiagdmbajimaaMAM
import Derived.Test.YtkhiagdmbajimaaMAK
import Derived.Test.YtkhiagdmbajimaaMAJ
import Derived.Test.YtkhiagdmbajimaaMAF
import Derived.Test.YtkhiagdmbajimaaMAG
namespace Go.Proofs.Ytkhiagdmbajimaa
open Go Go.AbsE
set_option linter.unusedSimpArgs false
set_option maxRecDepth 100000
set_option maxHeartbeats 0
set_option linter.unusedVariables false
def popc (n : Nat) : Nat := ((List.range 10).filter fun i => n.testBit i).length
def pop1 (n : Nat) : Nat := (n / 2 ^ 1 &&& 6148914691236517205) + (n &&& 6148914691236517205)
def pop2 (a : Nat) : Nat := (a / 2 ^ 2 &&& 3689348814741910323) + (a &&& 3689348814741910323)
def pop3 (b : Nat) : Nat := (b / 2 ^ 4 + b) &&& 1085102592571150095
def pop4 (k c : Nat) : Nat := c + c / 2 ^ k
theorem pop_all : ((List.range 1024).all fun n => (pop4 32 (pop4 16 (pop4 8 (pop3 (pop2 (pop1 n))))) &&& 127) == popc n) = true := by decide +kernel
theorem ones96_ok {n : Nat} (hn : n < 1024) {h : AH} : Runs Try.prog 96 [.int .u64 (n : Nat)] h (fun en h' => en = .ret (.int .i64 (popc n : Nat)) ∧ Ext h h') := by
 have hp := List.all_eq_true.1 pop_all n (List.mem_range.2 hn)
 simp only [beq_iff_eq] at hp
 have k1 : n / 2 ^ 1 &&& 6148914691236517205 ≤ n / 2 ^ 1 := Nat.and_le_left
 have k2 : n &&& 6148914691236517205 ≤ n := Nat.and_le_left
 obtain ⟨a, ha⟩ : ∃ a, pop1 n = a := ⟨_, rfl⟩
 have ka : a ≤ 2048 := by rw [← ha]; unfold pop1; omega
 have k3 : a / 2 ^ 2 &&& 3689348814741910323 ≤ a / 2 ^ 2 := Nat.and_le_left
 have k4 : a &&& 3689348814741910323 ≤ a := Nat.and_le_left
 obtain ⟨b, hb⟩ : ∃ b, pop2 a = b := ⟨_, rfl⟩
 have kb : b ≤ 4096 := by rw [← hb]; unfold pop2; omega
 have k5 : (b / 2 ^ 4 + b) &&& 1085102592571150095 ≤ b / 2 ^ 4 + b := Nat.and_le_left
 obtain ⟨c, hc⟩ : ∃ c, pop3 b = c := ⟨_, rfl⟩
 have kc : c ≤ 8192 := by rw [← hc]; unfold pop3; omega
 obtain ⟨d, hd⟩ : ∃ d, pop4 8 c = d := ⟨_, rfl⟩
 have kd : d ≤ 16384 := by rw [← hd]; unfold pop4; omega
 obtain ⟨e, he⟩ : ∃ e, pop4 16 d = e := ⟨_, rfl⟩
 have ke : e ≤ 32768 := by rw [← he]; unfold pop4; omega
 obtain ⟨f, hf⟩ : ∃ f, pop4 32 e = f := ⟨_, rfl⟩
 have kf : f ≤ 65536 := by rw [← hf]; unfold pop4; omega
 rw [ha, hb, hc, hd, he, hf] at hp
 have e0 : Ext h h := Ext.refl _
 refine Runs.intro aFunc96 rfl rfl rfl rfl fun rest => ?_;apply gS;refine gR rfl ?_;refine gP ?_;apply gE;apply gS;refine gR rfl ?_;refine gP ?_;refine gO rfl rfl (aOp_shrU rfl rfl (by decide) rfl) rfl ?_;refine gO rfl rfl (aOp_andU (a := n / 2 ^ 1) rfl rfl (by omega) (by decide) rfl) rfl ?_;refine gP ?_;refine gO rfl rfl (aOp_andU (a := n) rfl rfl (by omega) (by decide) rfl) rfl ?_;refine gO rfl rfl (aOp_addU (a := n / 2 ^ 1 &&& 6148914691236517205) (b := n &&& 6148914691236517205) rfl rfl (by omega) ha) rfl ?_;refine gP ?_;apply gE;apply gS;refine gR rfl ?_;refine gP ?_;refine gO rfl rfl (aOp_shrU rfl rfl (by decide) rfl) rfl ?_;refine gO rfl rfl (aOp_andU (a := a / 2 ^ 2) rfl rfl (by omega) (by decide) rfl) rfl ?_;refine gP ?_;refine gO rfl rfl (aOp_andU (a := a) rfl rfl (by omega) (by decide) rfl) rfl ?_;refine gO rfl rfl (aOp_addU (a := a / 2 ^ 2 &&& 3689348814741910323) (b := a &&& 3689348814741910323) rfl rfl (by omega) hb) rfl ?_;refine gP ?_;apply gE;apply gS;refine gR rfl ?_;refine gP ?_;refine gO rfl rfl (aOp_shrU rfl rfl (by decide) rfl) rfl ?_;refine gP ?_;refine gO rfl rfl (aOp_addU (a := b / 2 ^ 4) (b := b) rfl rfl (by omega) rfl) rfl ?_;refine gO rfl rfl (aOp_andU (a := b / 2 ^ 4 + b) rfl rfl (by omega) (by decide) hc) rfl ?_;refine gP ?_;apply gE;apply gS;refine gR rfl ?_;iterate 2 refine gP ?_
 refine gO rfl rfl (aOp_shrU rfl rfl (by decide) rfl) rfl ?_;refine gO rfl rfl (aOp_addU (a := c) (b := c / 2 ^ 8) rfl rfl (by omega) hd) rfl ?_;refine gP ?_;apply gE;apply gS;refine gR rfl ?_;iterate 2 refine gP ?_
 refine gO rfl rfl (aOp_shrU rfl rfl (by decide) rfl) rfl ?_;refine gO rfl rfl (aOp_addU (a := d) (b := d / 2 ^ 16) rfl rfl (by omega) he) rfl ?_;refine gP ?_;apply gE;apply gS;refine gR rfl ?_;iterate 2 refine gP ?_
 refine gO rfl rfl (aOp_shrU rfl rfl (by decide) rfl) rfl ?_;refine gO rfl rfl (aOp_addU (a := e) (b := e / 2 ^ 32) rfl rfl (by omega) hf) rfl ?_;refine gP ?_;apply gE;apply gS;refine gR rfl ?_;refine gP ?_;refine gO rfl rfl (aOp_convUI (w := f) rfl Try.underlying132 Try.underlying3 (by omega)) rfl ?_;refine gO rfl rfl (aOp_andNat (a := f) rfl rfl (by omega) (by decide) hp) rfl ?_;refine gP ?_;apply gE;exact gW Try.func96 rfl rfl ⟨rfl, e0⟩
theorem ones81_ok {n : Nat} (hn : n < 1024) {h : AH} : Runs Try.prog 81 [.int .u64 (n : Nat)] h (fun en h' => en = .ret (.int .i64 (popc n : Nat)) ∧ Ext h h') := by
 have e0 : Ext h h := Ext.refl _
 refine Runs.intro aFunc81 rfl rfl rfl rfl fun rest => ?_;apply gS;refine gR rfl ?_;refine gP ?_;apply gE;apply gS;refine gC (b := false) rfl ?_;refine gD ?_;apply gS;refine gR rfl ?_;refine gP ?_;refine GoR.call rfl rfl (aCF aFunc96 rfl) (ones96_ok hn) ?_ np;rintro v0 h0 ⟨q, x0⟩;cases q;refine ⟨_, rfl, ?_⟩;replace e0 := e0.trans x0;refine gP ?_;apply gE;exact gW Try.func81 rfl rfl ⟨rfl, e0⟩
def subB (m k : Nat) : List Nat := (List.range k).filter fun s => decide (popc s = m)
def subA (n m : Nat) : List Nat := (List.range m).flatMap fun j => subB j (2 ^ n)
def subs (n : Nat) : List Nat := subA n (n + 1)
theorem subB_succ (m k : Nat) : subB m (k + 1) = subB m k ++ (if popc k = m then [k] else []) := by
 unfold subB
 rw [List.range_succ, List.filter_append]
 congr 1
 by_cases q : popc k = m
 ·rw [if_pos q, List.filter_cons_of_pos (by simpa using q)]; rfl
 ·rw [if_neg q, List.filter_cons_of_neg (by simpa using q)]; rfl
theorem subA_succ (n m : Nat) : subA n (m + 1) = subA n m ++ subB m (2 ^ n) := by
 unfold subA
 rw [List.range_succ, List.flatMap_append, List.flatMap_cons, List.flatMap_nil, List.append_nil]
theorem popc_le (n : Nat) : popc n ≤ 10 := by
 unfold popc
 have := List.length_filter_le (fun i => n.testBit i) (List.range 10)
 rw [List.length_range] at this;exact this
def natsV (l : List Nat) : List AVal := l.map fun s => .int .i64 (s : Nat)
theorem subB_len (m k : Nat) : (subB m k).length ≤ k := by
 unfold subB
 have := List.length_filter_le (fun s => decide (popc s = m)) (List.range k)
 rw [List.length_range] at this;exact this
theorem subA_len (n m : Nat) : (subA n m).length ≤ m * 2 ^ n := by
 induction m with
 | zero => simp [subA]
 | succ m ih =>
  rw [subA_succ, List.length_append, Nat.add_mul, Nat.one_mul]
  have := subB_len m (2 ^ n)
  omega
theorem subsets_ok {n : Nat} (hn : n ≤ 7) {h : AH} : Runs Try.prog 78 [.int .i64 (n : Nat)] h (fun en h' => ∃ s, en = .ret s ∧ Ext h h' ∧ Grow h' 3 1 h.next s (subs n).length (natsV (subs n))) := by
 have hw : 2 ^ n ≤ 128 := Nat.pow_le_pow_right (n := 2) (by omega) (show n ≤ 7 by omega)
 obtain ⟨w, hww⟩ : ∃ w, 2 ^ n = w := ⟨_, rfl⟩
 have hsh : (1 : Int) * 2 ^ n = ((w : Nat) : Int) := by rw [← hww]; simp
 rw [hww] at hw
 have hAl : ∀ m, m ≤ n + 1 → (subA n m).length ≤ 1100 := fun m hm => by
  have := subA_len n m
  rw [hww] at this
  have h2 : m * w ≤ 8 * 128 := Nat.mul_le_mul (by omega) hw
  omega
 have e0 : Ext h h := Ext.refl _
 refine Runs.intro aFunc78 rfl rfl rfl rfl fun rest => ?_;apply gS;refine gR rfl ?_;refine gP ?_;apply gE;apply gS;refine gR rfl ?_;refine gP ?_;apply gE;iterate 2 apply gS
 refine gR rfl ?_;refine gP ?_;refine gO rfl rfl (aA rfl rfl) rfl ?_;refine gP ?_;apply gE;refine Go.block noJ_ok ?_
 refine Go.loopKeep (fun a : Nat × AVal => [(0, .int .i64 (n : Nat)), (3, a.2), (7, .int .i64 ((n : Int) + 1)), (8, .int .i64 (a.1 : Nat))])
  (fun m a h' => m + a.1 = n + 1 ∧ Ext h h' ∧ Grow h' 3 1 h.next a.2 (subA n a.1).length (natsV (subA n a.1))) (n := n + 1) (0, .nilslice) ⟨rfl, rfl, rfl, rfl, trivial⟩ ⟨rfl, e0, Grow.nil _ _ _ _⟩ ?_
 clear e0;rintro m ⟨i, sl⟩ h20 ⟨hm, e0, G⟩ again
 dsimp only at hm G ⊢
 by_cases hi : i < n + 1
 ·have hA0 := hAl i (by omega)
  have hs0 := subA_succ n i
  rw [hww] at hs0;apply gS;refine gR rfl ?_;refine gO rfl rfl (kLT rfl rfl) rfl ?_;apply gE;apply gS;refine gC (b := true) rfl ?_;refine gD ?_;apply gS;refine Go.block noJ_ok ?_;apply gS;refine gR rfl ?_;iterate 2 refine gP ?_
  apply gE;apply gS;refine gR rfl ?_;refine gP ?_;refine gO rfl rfl (aOp_shl rfl rfl (i := n) (by omega) hsh (by omega)) rfl ?_;refine gP ?_;apply gE;refine Go.block noJ_ok ?_
  refine Go.loopKeep (fun a : Nat × AVal => [(0, .int .i64 (n : Nat)), (3, a.2), (4, .int .i64 (i : Nat)), (7, .int .i64 ((n : Int) + 1)), (8, .int .i64 (i : Nat)), (12, .int .i64 (w : Nat)), (13, .int .i64 (a.1 : Nat))])
   (fun q a h' => q + a.1 = w ∧ Ext h h' ∧ Grow h' 3 1 h.next a.2 (subA n i ++ subB i a.1).length (natsV (subA n i ++ subB i a.1))) (n := w) (0, sl) ⟨rfl, rfl, rfl, rfl, rfl, rfl, rfl, trivial⟩ ⟨by simp, e0, by simpa [subB] using G⟩ ?_
  clear e0 G;rintro q ⟨k, s2⟩ h30 ⟨hq, e0, G⟩ again2
  dsimp only at hq G ⊢
  by_cases hk : k < w
  ·have hsb := subB_succ i k
   have hbl := subB_len i k
   have hpk := popc_le k
   have hk10 : k < 1024 := by omega
   have hlen : (subA n i ++ subB i k).length ≤ 1300 := by rw [List.length_append]; omega
   have e9 : Ext h30 h30 := Ext.refl _
   by_cases c2 : popc k = i
   ·rw [if_pos c2] at hsb
    have hnx : subA n i ++ subB i (k + 1) = (subA n i ++ subB i k) ++ [k] := by rw [hsb, List.append_assoc]
    have d2 : decide (((popc k : Nat) : Int) = (i : Nat)) = true := decide_eq_true (by omega)
    apply gS;refine gR rfl ?_;refine gO rfl rfl (kLT rfl rfl) rfl ?_;apply gE;apply gS;refine gC (b := true) rfl ?_;refine gD ?_;apply gS;refine Go.block noJ_ok ?_;apply gS;refine gR rfl ?_;iterate 2 refine gP ?_
    apply gE;apply gS;refine gR rfl ?_;refine gP ?_;refine gO rfl rfl (aOp_convU64 rfl Try.underlying3 Try.underlying114 (by omega)) rfl ?_;refine GoR.call rfl rfl (aCF aFunc81 rfl) (ones81_ok hk10) ?_ np;rintro v31 h31 ⟨q, x31⟩;cases q;refine ⟨_, rfl, ?_⟩;replace e0 := e0.trans x31;replace e9 := e9.trans x31;refine gP ?_;refine gO rfl rfl (aOp_eql rfl rfl d2) rfl ?_;apply gE;refine gC (b := true) rfl ?_;refine gR rfl ?_;iterate 2 refine gP ?_
    refine GoR.buildSl rfl rfl (ps := [(0, .int .i64 (k : Nat))]) (cs := [.int .i64 (k : Nat)]) Try.underlying47 rfl sz3 zt3 rfl rfl rfl rfl fun h32 x32 f32 => ?_;have := e0.1;have := e9.1;replace e0 := e0.trans x32;replace e9 := e9.trans x32;have := f32.1;refine GoR.append1F rfl rfl rfl Try.underlying47 Try.underlying47 sz3 by3 zt3 rfl rfl rfl rfl f32 rfl rfl (G.ext e9) (by omega) rfl rfl fun s33 h33 y33 g33 => ?_;have := f32.1;have := e0.1;have := e9.1;clear f32;replace e0 := y33.low e0 (fun b q => by have := (grow_own (G.ext e9) q).1; omega);clear e9;have := y33.1;refine gP ?_;apply gE;refine Go.inBlock noJ_ok ?_;refine gR rfl ?_;refine gO rfl rfl (aA rfl rfl) rfl ?_;refine gP ?_;apply gE
    have hh0 := e0.1
    refine again2 (q - 1) (k + 1, s33) _ _ (by omega) ⟨rfl, rfl, rfl, rfl, rfl, rfl, rfl, trivial⟩ ⟨by dsimp only; omega, e0, ?_⟩
    dsimp only
    rw [hnx, List.length_append (bs := [k])]
    have hnv : natsV ((subA n i ++ subB i k) ++ [k]) = natsV (subA n i ++ subB i k) ++ [.int .i64 (k : Nat)] := by unfold natsV; rw [List.map_append]; rfl
    rw [hnv];exact g33.low (by omega)
   ·rw [if_neg c2, List.append_nil] at hsb
    have d2 : decide (((popc k : Nat) : Int) = (i : Nat)) = false := decide_eq_false (by omega)
    apply gS;refine gR rfl ?_;refine gO rfl rfl (kLT rfl rfl) rfl ?_;apply gE;apply gS;refine gC (b := true) rfl ?_;refine gD ?_;apply gS;refine Go.block noJ_ok ?_;apply gS;refine gR rfl ?_;iterate 2 refine gP ?_
    apply gE;apply gS;refine gR rfl ?_;refine gP ?_;refine gO rfl rfl (aOp_convU64 rfl Try.underlying3 Try.underlying114 (by omega)) rfl ?_;refine GoR.call rfl rfl (aCF aFunc81 rfl) (ones81_ok hk10) ?_ np;rintro v31 h31 ⟨q, x31⟩;cases q;refine ⟨_, rfl, ?_⟩;replace e0 := e0.trans x31;replace e9 := e9.trans x31;refine gP ?_;refine gO rfl rfl (aOp_eql rfl rfl d2) rfl ?_;apply gE;refine gC (b := false) rfl ?_;refine gD ?_;refine Go.inBlock noJ_ok ?_;refine gR rfl ?_;refine gO rfl rfl (aA rfl rfl) rfl ?_;refine gP ?_;apply gE;exact again2 (q - 1) (k + 1, s2) _ _ (by omega) ⟨rfl, rfl, rfl, rfl, rfl, rfl, rfl, trivial⟩ ⟨by dsimp only; omega, e0, by dsimp only; rw [hsb]; exact G.ext e9⟩
  ·have hkw : k = w := by omega
   subst hkw
   rw [← hs0] at G
   apply gS;refine gR rfl ?_;refine gO rfl rfl (kLF rfl rfl) rfl ?_;apply gE;apply gS;refine gC (b := false) rfl ?_;refine gD ?_;refine Go.inBlock noJ_ok ?_;refine gR rfl ?_;refine gO rfl rfl (aA rfl rfl) rfl ?_;refine gP ?_;apply gE;exact again (m - 1) (i + 1, s2) _ _ (by omega) ⟨rfl, rfl, rfl, rfl, trivial⟩ ⟨by dsimp only; omega, e0, G⟩
 ·have hin : i = n + 1 := by omega
  subst hin;apply gS;refine gR rfl ?_;refine gO rfl rfl (kLF rfl rfl) rfl ?_;apply gE;apply gS;refine gC (b := false) rfl ?_;refine gD ?_;apply gS;refine gR rfl ?_;iterate 2 refine gP ?_
  apply gE;exact gV (ret_end (aResult_of Try.func78 rfl rfl) ⟨sl, rfl, e0, G⟩)
theorem subs_nodup {n : Nat} (hn : n ≤ 7) : (subs n).Nodup ∧ (subs n).length ≤ 128 := by
 have h : ∀ n, n < 8 → (subs n).Nodup ∧ (subs n).length ≤ 128 := by decide +kernel
 exact h n (by omega)
theorem nats_slice {h : AH} {lo : Nat} {s : AVal} {l : List Nat} (g : Grow h 3 1 lo s l.length (natsV l)) : SliceOf h 1 s (l.map fun n => [.int .i64 (n : Nat)]) := by
 refine Grow.sliceOf (L := l.map fun n : Nat => [AVal.int .i64 (n : Nat)]) (by rw [List.length_map]; exact g) fun i v q => ?_
 have := slice_flatten (sz := 1) (L := l.map fun n : Nat => [AVal.int .i64 (n : Nat)]) (fun x hx => by obtain ⟨_, _, rfl⟩ := List.mem_map.1 hx; rfl) i v q
 have hf : (l.map fun n : Nat => [AVal.int .i64 (n : Nat)]).flatten = natsV l := by
  clear g q this
  induction l with
  | nil => rfl
  | cons e l ih => rw [List.map_cons, List.flatten_cons, ih]; rfl
 rwa [hf] at this
theorem find_take {L : List Nat} {p : Nat → Bool} {i x : Nat} (hx : L[i]? = some x) (hp : p x = true) (hn : ∀ y, y ∈ L.take i → p y = false) : L.find? p = some x := by
 have h1 := List.getElem?_eq_some_iff.1 hx
 rw [← List.take_append_drop i L, List.find?_append, List.find?_eq_none.2 (fun y hy => by rw [hn y hy]; decide), Option.none_or, List.drop_eq_getElem_cons h1.1, h1.2, List.find?_cons_of_pos hp]
theorem find_no {L : List Nat} {p : Nat → Bool} (hn : ∀ y, y ∈ L → p y = false) : L.find? p = none := List.find?_eq_none.2 fun y hy => by rw [hn y hy]; decide
theorem first_ok {L : List Nat} {sl : AVal} (hL : L.length ≤ 1000) {fid : FuncId} {fn : Func} (hfid : aFunc Try.prog fid = some fn) (caps : List AVal) (p : Nat → Bool) {h : AH} (S : SliceOf h 1 sl (L.map fun n => [.int .i64 (n : Nat)])) (hcs : scalars [.func (.func fid) [] caps] = true)
  (hc : ∀ x h', x ∈ L → Ext h h' → Runs Try.prog fid ([.int .i64 (x : Nat)] ++ caps) h' (fun en h'' => en = .ret (.bool (p x)) ∧ Ext h' h'')) :
  Runs Try.prog 77 [sl, .agg [.func (.func fid) [] caps]] h (fun en h' => en = .ret (.tuple [.int .i64 (((L.find? p).getD 0 : Nat) : Int), .bool (L.find? p).isSome]) ∧ Ext h h') := by
 have hlen := S.len
 rw [List.length_map] at hlen
 have e0 : Ext h h := Ext.refl _
 refine Runs.intro aFunc77 rfl rfl rfl rfl fun rest => ?_;apply gS;refine gR rfl ?_;refine GoR.box rfl rfl rfl rfl rfl rfl fun h0 x0 f0 => ?_;have := e0.1;replace e0 := e0.trans x0;have := f0.1;iterate 2 refine gP ?_
 apply gE;iterate 2 apply gS
 refine gR rfl ?_;refine gP ?_;refine gO rfl rfl (aOp_lenSlice Try.underlying47 rfl hlen) rfl ?_;refine gP ?_;apply gE;refine Go.block noJ_ok ?_
 refine Go.loopKeep (fun i : Nat => [(3, .ptr h.next 0), (4, .int .i64 0), (8, sl), (9, .int .i64 L.length), (10, .int .i64 (i : Nat))])
  (fun m i h' => m + i = L.length ∧ Ext h h' ∧ Has h' h.next (.cells .plain [.func (.func fid) [] caps] 112) ∧ ∀ x, x ∈ L.take i → p x = false) (n := L.length) 0 ⟨rfl, rfl, rfl, rfl, rfl, trivial⟩ ⟨rfl, e0, f0, (by intro x hx; simp at hx)⟩ ?_
 clear e0 f0;rintro m i h4 ⟨hm, e0, f0, hp⟩ again
 by_cases hi : i < L.length
 ·obtain ⟨x, hx⟩ : ∃ x, L[i]? = some x := ⟨L[i], by simp [hi]⟩
  obtain ⟨bq, off, q1, q2⟩ := S.at (i := i) (l := [.int .i64 (x : Nat)]) (by rw [List.getElem?_map, hx]; rfl)
  rw [List.length_map] at q1
  have hcx := fun h' e => hc x h' (List.mem_of_getElem? hx) e
  cases hpx : p x with
  | true =>
   rw [hpx] at hcx;rw [find_take hx hpx hp, Option.getD_some, Option.isSome_some];apply gS;refine gR rfl ?_;refine gO rfl rfl (kLT rfl rfl) rfl ?_;apply gE;apply gS;refine gC (b := true) rfl ?_;refine gD ?_;apply gS;refine Go.block noJ_ok ?_;apply gS;refine gR rfl ?_;refine gO rfl rfl (aOp_indexAddr (i := i) Try.underlying47 sz3 rfl q1 rfl (Nat.ble_eq_true_of_le (by omega))) rfl ?_;refine gO rfl rfl ((aOp_loadE1 (k := 0) ag3 rfl (q2.ext e0) rfl)) rfl ?_;refine gP ?_;apply gE;apply gS;refine gR rfl ?_;refine gO rfl rfl (fa112_0 rfl) rfl ?_;refine gO rfl rfl (ld64 rfl f0 rfl) rfl ?_;refine gP ?_;refine GoR.call rfl rfl (aOp_callVal rfl hfid rfl) (hcx _ e0) ?_ np;rintro v5 h5 ⟨q, x5⟩;cases q;refine ⟨_, rfl, ?_⟩;replace f0 := f0.ext x5;replace e0 := e0.trans x5;apply gE;refine gC (b := true) rfl ?_;apply gS;refine gR rfl ?_;iterate 3 refine gP ?_
   apply gE;exact gW Try.func77 rfl rfl ⟨rfl, e0⟩
  | false =>
   rw [hpx] at hcx;apply gS;refine gR rfl ?_;refine gO rfl rfl (kLT rfl rfl) rfl ?_;apply gE;apply gS;refine gC (b := true) rfl ?_;refine gD ?_;apply gS;refine Go.block noJ_ok ?_;apply gS;refine gR rfl ?_;refine gO rfl rfl (aOp_indexAddr (i := i) Try.underlying47 sz3 rfl q1 rfl (Nat.ble_eq_true_of_le (by omega))) rfl ?_;refine gO rfl rfl ((aOp_loadE1 (k := 0) ag3 rfl (q2.ext e0) rfl)) rfl ?_;refine gP ?_;apply gE;apply gS;refine gR rfl ?_;refine gO rfl rfl (fa112_0 rfl) rfl ?_;refine gO rfl rfl (ld64 rfl f0 rfl) rfl ?_;refine gP ?_;refine GoR.call rfl rfl (aOp_callVal rfl hfid rfl) (hcx _ e0) ?_ np;rintro v5 h5 ⟨q, x5⟩;cases q;refine ⟨_, rfl, ?_⟩;replace f0 := f0.ext x5;replace e0 := e0.trans x5;apply gE;refine gC (b := false) rfl ?_;refine gD ?_;refine Go.inBlock noJ_ok ?_;refine gR rfl ?_;refine gO rfl rfl (aA rfl rfl) rfl ?_;refine gP ?_;apply gE;exact again (m - 1) (i + 1) _ _ (by omega) ⟨rfl, rfl, rfl, rfl, rfl, trivial⟩ ⟨by omega, e0, f0, take_no hx hpx hp⟩
 ·rw [List.take_of_length_le (by omega)] at hp;rw [find_no hp];apply gS;refine gR rfl ?_;refine gO rfl rfl (kLF rfl rfl) rfl ?_;apply gE;apply gS;refine gC (b := false) rfl ?_;refine gD ?_;apply gS;refine gR rfl ?_;iterate 3 refine gP ?_
  apply gE;exact gW Try.func77 rfl rfl ⟨rfl, e0⟩
end Go.Proofs.Ytkhiagdmbajimaa

namespace Go.Proofs.Ytkhiagdmbajimaa
open Go Go.AbsE
set_option linter.unusedSimpArgs false
set_option maxRecDepth 100000
set_option maxHeartbeats 0
set_option linter.unusedVariables false
theorem truths_yes {D : DrainV} (O : D.Ok) (hT : D.truths ≠ []) {b d r s : AVal} {h : AH} (A : DrainAt h D b d r s) : Runs Try.prog 40 [.agg (dC b d r s)] h (fun en h' => ∃ (bm : Nat) (KT : KV), en = .ret (.map bm) ∧ KT.map (fun x => x.1) = D.truths ∧ Ext h h' ∧ h.next ≤ bm ∧ KnownAt D h' bm b KT ∧ Ext h' h') :=
 (truths_ok O A).mono fun en h' ⟨e, k⟩ => by
  rcases k with ⟨_, bm, KT, q, hK, hb, K⟩ | ⟨q, _⟩
  ·exact ⟨bm, KT, q, hK, e, hb, K, Ext.refl h'⟩
  ·exact absurd q hT
theorem truths_no {D : DrainV} (O : D.Ok) (hT : D.truths = []) {b d r s : AVal} {h : AH} (A : DrainAt h D b d r s) : Runs Try.prog 40 [.agg (dC b d r s)] h (fun en h' => en = .pan (refusal 10) ∧ Ext h h') :=
 (truths_ok O A).mono fun en h' ⟨e, k⟩ => by
  rcases k with ⟨q, _⟩ | ⟨_, q⟩
  ·exact absurd hT q
  ·exact ⟨q, e⟩
def clashV (D : DrainV) : Option Nat := (subs D.ss.length).find? fun st => (D.learn st).isEmpty
theorem learnE_ok {D : DrainV} (O : D.Ok) {b d r s : AVal} {st bb : Nat} {h : AH} (A : DrainAt h D b d r s) (f8 : Has h bb (.cells .plain [b, d, r, s] 71)) :
  Runs Try.prog 82 [.int .i64 (st : Nat), .ptr bb 0] h (fun en h' => en = .ret (.bool (D.learn st).isEmpty) ∧ Ext h h') := by
 have hsm := A.same
 have hln := fun h A => learn_e O (b := b) (d := d) (r := r) (s := s) (st := st) (h := h) A
 obtain ⟨T, hT⟩ : ∃ T, D.learn st = T := ⟨_, rfl⟩
 rw [hT] at hln ⊢
 have hKl : ∀ {KT : KV}, KT.map (fun x => x.1) = T → (esN (KT.map (entK D.bs.length b))).length = T.length := fun {KT} k => by rw [esN_len, List.length_map, ← k, List.length_map]
 have hd : decide ((T.length : Int) = 0) = T.isEmpty := by cases T <;> simp; omega
 unfold dC at *
 have e0 : Ext h h := Ext.refl _
 refine Runs.intro aFunc82 rfl rfl rfl rfl fun rest => ?_;apply gS;refine gR rfl ?_;refine gP ?_;apply gE;apply gS;refine gR rfl ?_;refine gO rfl rfl (ld71 rfl f8 rfl) rfl ?_;refine gP ?_;refine GoR.call rfl rfl (aCF aFunc70 rfl) (hln _ (A.ext e0)) ?_ (by rintro _ _ ⟨bm, KT, q, hKT, _, hbm, KK, e7⟩; cases q);rintro v9 h9 ⟨bm, KT, q, hKT, x9, hbm, KK, e7⟩;cases q;refine ⟨_, rfl, ?_⟩;replace e0 := e0.trans x9;refine gO rfl rfl (aOp_lenMap Try.underlying74 rfl (KK.ext e7).m (hKl hKT)) rfl ?_;refine gO rfl rfl (aOp_eql rfl rfl hd) rfl ?_;refine gP ?_;apply gE;exact gW Try.func82 rfl rfl ⟨rfl, e0⟩
theorem clashB_ok {D : DrainV} (O : D.Ok) {b d r s : AVal} {h : AH} (A : DrainAt h D b d r s) : Runs Try.prog 60 [.agg (dC b d r s)] h (fun en h' => en = (match clashV D with | some st => .ret (.int .i64 ((st : Nat) : Int)) | none => .pan (refusal 4)) ∧ Ext h h') := by
 have hsm := A.same
 have hns := O.ns
 have hl4 := A.ss.len
 rw [List.length_map] at hl4
 have hsu := fun h => subsets_ok (n := D.ss.length) (by omega) (h := h)
 have hsl := (subs_nodup (n := D.ss.length) (by omega)).2
 have hfi := fun {h' : AH} {sl : AVal} {bb : Nat} (e : Ext h h') (f : Has h' bb (.cells .plain [b, d, r, s] 71)) {lo : Nat} (G : Grow h' 3 1 lo sl (subs D.ss.length).length (natsV (subs D.ss.length))) => first_ok (L := subs D.ss.length) (sl := sl) (h := h') (by omega) aFunc82 [.ptr bb 0] (fun st => (D.learn st).isEmpty) (nats_slice G) rfl fun x h'' hx e' => learnE_ok O ((A.ext e).ext e') (f.ext e')
 unfold dC at *
 cases q : clashV D with
 | none =>
  rw [show (subs D.ss.length).find? (fun st => (D.learn st).isEmpty) = none from q] at hfi
  simp only [Option.getD_none, Option.isSome_none] at hfi
  dsimp only
  have e0 : Ext h h := Ext.refl _
  refine Runs.intro aFunc60 rfl rfl rfl rfl fun rest => ?_;apply gS;refine gR rfl ?_;refine GoR.box rfl rfl rfl rfl rfl rfl fun h0 x0 f0 => ?_;replace e0 := e0.trans x0;refine gP ?_;apply gE;apply gS;refine gR rfl ?_;refine gO rfl rfl (fa71_3 rfl) rfl ?_;refine gO rfl rfl (ld26 rfl f0 rfl) rfl ?_;refine gO rfl rfl (aOp_lenSlice Try.underlying26 rfl hl4) rfl ?_;refine GoR.call rfl rfl (aCF aFunc78 rfl) (hsu _) ?_ (by rintro _ _ ⟨sl, q, _, G⟩; cases q);rintro v1 h1 ⟨sl, q, x1, G⟩;cases q;refine ⟨_, rfl, ?_⟩;replace f0 := f0.ext x1;replace e0 := e0.trans x1;refine gP ?_;refine gO rfl rfl (aOp_build zt112 hu112 pl112 rfl rfl) rfl ?_;refine GoR.call rfl rfl (aCF aFunc77 rfl) (hfi e0 (by assumption) G) ?_ np;rintro v2 h2 ⟨q, x2⟩;cases q;refine ⟨_, rfl, ?_⟩;replace f0 := f0.ext x2;replace e0 := e0.trans x2;iterate 5 refine gP ?_
  apply gE;apply gS;refine gR rfl ?_;iterate 2 refine gP ?_
  refine GoR.callP rfl rfl (aCF aFunc67 rfl) (refuse_yes _ _) (by rintro _ _ ⟨q, _⟩; cases q) ?_;rintro chain h3 ⟨q, x3⟩
  have q := AEnd.pan.inj q
  subst q;replace f0 := f0.ext x3;replace e0 := e0.trans x3;exact FLeft.pan (⟨rfl, e0⟩)
 | some st =>
  rw [show (subs D.ss.length).find? (fun st => (D.learn st).isEmpty) = some st from q] at hfi
  simp only [Option.getD_some, Option.isSome_some] at hfi
  dsimp only
  have e0 : Ext h h := Ext.refl _
  refine Runs.intro aFunc60 rfl rfl rfl rfl fun rest => ?_;apply gS;refine gR rfl ?_;refine GoR.box rfl rfl rfl rfl rfl rfl fun h0 x0 f0 => ?_;replace e0 := e0.trans x0;refine gP ?_;apply gE;apply gS;refine gR rfl ?_;refine gO rfl rfl (fa71_3 rfl) rfl ?_;refine gO rfl rfl (ld26 rfl f0 rfl) rfl ?_;refine gO rfl rfl (aOp_lenSlice Try.underlying26 rfl hl4) rfl ?_;refine GoR.call rfl rfl (aCF aFunc78 rfl) (hsu _) ?_ (by rintro _ _ ⟨sl, q, _, G⟩; cases q);rintro v1 h1 ⟨sl, q, x1, G⟩;cases q;refine ⟨_, rfl, ?_⟩;replace f0 := f0.ext x1;replace e0 := e0.trans x1;refine gP ?_;refine gO rfl rfl (aOp_build zt112 hu112 pl112 rfl rfl) rfl ?_;refine GoR.call rfl rfl (aCF aFunc77 rfl) (hfi e0 (by assumption) G) ?_ np;rintro v2 h2 ⟨q, x2⟩;cases q;refine ⟨_, rfl, ?_⟩;replace e0 := e0.trans x2;iterate 5 refine gP ?_
  apply gE;apply gS;refine gR rfl ?_;iterate 2 refine gP ?_
  refine GoR.call rfl rfl (aCF aFunc67 rfl) (refuse_no _ _) ?_ np;rintro v3 h3 ⟨q, x3⟩;cases q;refine ⟨_, rfl, ?_⟩;replace e0 := e0.trans x3;apply gE;apply gS;refine gR rfl ?_;iterate 2 refine gP ?_
  apply gE;exact gW Try.func60 rfl rfl ⟨rfl, e0⟩
theorem keepsR_ok {D : DrainV} (O : D.Ok) {b d r s : AVal} {st bb bk bm : Nat} {KT : KV} {h : AH} (A : DrainAt h D b d r s) (hK : KT.map (fun x => x.1) = D.truths) (K : KnownAt D h bm b KT) (f8 : Has h bb (.cells .plain [b, d, r, s] 71)) (f9 : Has h bk (.cells .plain [.map bm] 74)) :
  Runs Try.prog 79 [.int .i64 (st : Nat), .ptr bb 0, .ptr bk 0] h (fun en h' => en = .ret (.bool (decide (D.keeps D.truths (D.course st) = 2))) ∧ Ext h h') := by
 have hsm := A.same
 have hds := A.ds.scal
 have hdg := fun h A => dugOf_ok (D := D) (b := b) (d := d) (r := r) (s := s) (h := h) A
 have hkp := fun h' e => keeps_ok O (iv := restI d st) (h := h') (A.ext e) ((rest_join (s := st) A.ds (by have := O.nd; omega)).ext e) hK (K.ext e)
 have hJ : (fun l => crsJ (fun a c => (openV st 0 D.ds).any fun w => joinsV w a c) D.bs.length l) = D.course st := rfl
 have hT : D.learn D.all = D.truths := rfl
 obtain ⟨v, hv⟩ : ∃ v, D.keeps D.truths (D.course st) = v := ⟨_, rfl⟩
 unfold dC restI at *
 have e0 : Ext h h := Ext.refl _
 refine Runs.intro aFunc79 rfl rfl rfl rfl fun rest => ?_;apply gS;refine gR rfl ?_;refine gP ?_;apply gE;apply gS;refine Go.drawnE plan79_0 ?_;refine gQ rfl rfl (ld71 rfl f8 rfl) rfl ?_;refine gQ rfl rfl (ld74 rfl f9 rfl) rfl ?_;refine gQ rfl rfl (ld71 rfl f8 rfl) rfl ?_;refine gQ rfl rfl rfl rfl ?_;refine GoE.call rfl rfl (aCF aFunc80 rfl) (hdg _ (A.ext e0)) (dK 4 4 (dD 4 2 (dK 4 1 (dK 4 0 rfl)))) ?_ np;rintro v10 h10 ⟨q, x10⟩;cases q;replace f8 := f8.ext x10;replace f9 := f9.ext x10;replace e0 := e0.trans x10;refine ⟨(rck (h2 := h10) rfl (rfl) (rck (h2 := h10) rfl (ld74 rfl f9 rfl) (rck (h2 := h10) rfl (ld71 rfl f8 rfl) recheck_nil))), _, rfl, ?_⟩;refine gQ rfl rfl (aOp_build zt110 hu110 pl110 rfl rfl) rfl ?_;refine gQ rfl rfl rfl rfl ?_;refine GoE.call rfl rfl (aCF aFunc76 rfl) (hkp _ e0) (dD 127 6 (dD 127 5 (dD 127 4 (dD 127 1 (dD 127 0 rfl))))) ?_ np;rintro v11 h11 ⟨q, x11⟩;cases q;replace e0 := e0.trans x11;refine ⟨recheck_nil, _, rfl, ?_⟩;refine gQ rfl rfl (aOp_eql rfl rfl rfl) rfl ?_;refine gQ rfl rfl rfl rfl ?_;refine GoE.end rfl ?_;exact gW Try.func79 rfl rfl ⟨rfl, e0⟩
end Go.Proofs.Ytkhiagdmbajimaa

set_option linter.unusedSimpArgs false
namespace Go.AbsE
open Go
section
variable {P : Program} {t : Tr AVal} {h : AH} {dst : Option Tmp} {ty tt : TypeId} {pos : String} {after : Array Edge} {guard : Option (Nat × Bool)} {x y : Operand}
variable {c : FC} {k : List AItem} {Q : AM → Prop} {J : Jump} {all : Array Oper} {l lrest : List Oper} {i d : Nat}
end
end Go.AbsE

namespace Go.Proofs.Ytkhiagdmbajimaa
open Go Go.AbsE
set_option linter.unusedSimpArgs false
set_option maxRecDepth 100000
set_option maxHeartbeats 0
set_option linter.unusedVariables false
theorem mem_subs {n s : Nat} (h : s ∈ subs n) : s < 2 ^ n := by
 unfold subs subA at h
 obtain ⟨j, _, h⟩ := List.mem_flatMap.1 h
 unfold subB at h
 exact List.mem_range.1 (List.mem_filter.1 h).1
def stopV (D : DrainV) : Nat := ((subs D.ds.length).find? fun st => decide (D.keeps D.truths (D.course st) = 2)).getD 0
theorem stop_lt {D : DrainV} (O : D.Ok) : stopV D < 1024 := by
 unfold stopV
 cases q : (subs D.ds.length).find? fun st => decide (D.keeps D.truths (D.course st) = 2) with
 | none => rw [Option.getD_none]; omega
 | some st =>
  have h1 := mem_subs (List.mem_of_find?_eq_some q)
  have h2 : 2 ^ D.ds.length ≤ 2 ^ 7 := Nat.pow_le_pow_right (by omega) O.nd
  rw [Option.getD_some]
  omega
theorem stopB_ok {D : DrainV} (O : D.Ok) (hT : D.truths ≠ []) {b d r s : AVal} {h : AH} (A : DrainAt h D b d r s) : Runs Try.prog 58 [.agg (dC b d r s)] h (fun en h' => en = .ret (.tuple [.int .i64 ((popc (stopV D) : Nat) : Int), .int .i64 ((stopV D : Nat) : Int)]) ∧ Ext h h') := by
 have hsm := A.same
 have hnd := O.nd
 have hl2 := A.ds.len
 rw [List.length_map] at hl2
 have htr := fun h A => truths_yes O hT (b := b) (d := d) (r := r) (s := s) (h := h) A
 have hsu := fun h => subsets_ok (n := D.ds.length) (by omega) (h := h)
 have hsl := (subs_nodup (n := D.ds.length) (by omega)).2
 have hst := stop_lt O
 have hfi := fun {h' : AH} {sl : AVal} {lo bb bk bm : Nat} {KT : KV} (e : Ext h h') (hK : KT.map (fun x => x.1) = D.truths) (K : KnownAt D h' bm b KT) (f : Has h' bb (.cells .plain [b, d, r, s] 71)) (f2 : Has h' bk (.cells .plain [.map bm] 74)) (G : Grow h' 3 1 lo sl (subs D.ds.length).length (natsV (subs D.ds.length))) => first_ok (L := subs D.ds.length) (sl := sl) (h := h') (by omega) aFunc79 [.ptr bb 0, .ptr bk 0] (fun st => decide (D.keeps D.truths (D.course st) = 2)) (nats_slice G) rfl fun x h'' hx e' => keepsR_ok O ((A.ext e).ext e') hK (K.ext e') (f.ext e') (f2.ext e')
 have hsv : ((subs D.ds.length).find? fun st => decide (D.keeps D.truths (D.course st) = 2)).getD 0 = stopV D := rfl
 rw [hsv] at hfi
 obtain ⟨w, hw⟩ : ∃ w, stopV D = w := ⟨_, rfl⟩
 rw [hw] at hfi hst ⊢
 have hon := fun h => ones81_ok hst (h := h)
 unfold dC at *
 have e0 : Ext h h := Ext.refl _
 refine Runs.intro aFunc58 rfl rfl rfl rfl fun rest => ?_;apply gS;refine gR rfl ?_;refine GoR.box rfl rfl rfl rfl rfl rfl fun h0 x0 f0 => ?_;have := e0.1;replace e0 := e0.trans x0;have := f0.1;iterate 2 refine gP ?_
 apply gE;apply gS;refine gR rfl ?_;refine gO rfl rfl (ld71 rfl f0 rfl) rfl ?_;refine GoR.call rfl rfl (aCF aFunc40 rfl) (htr _ (A.ext e0)) ?_ (by rintro _ _ ⟨bm, KT, q, hKT, _, hbm, KK, e7⟩; cases q);rintro v1 h1 ⟨bm, KT, q, hKT, x1, hbm, KK, e7⟩;cases q;refine ⟨_, rfl, ?_⟩;have := e0.1;replace f0 := f0.ext x1;replace e0 := e0.trans x1;refine GoR.alloc rfl rfl rfl zt74 rfl rfl fun h2 x2 f2 => ?_;have := e7.1;have := e0.1;have := f0.1;replace f0 := f0.ext x2;replace e7 := e7.trans x2;replace e0 := e0.trans x2;have := f2.1;refine GoR.store rfl rfl rfl rfl rfl rfl f2 rfl sz74 rfl rfl rfl fun h3 u3 => ?_;replace f2 := u3.has f2;replace f0 := f0.upd u3 (by omega);replace e7 := e7.upd u3 (by omega);replace e0 := e0.upd u3 (by omega);apply gE;apply gS;refine gR rfl ?_;refine gO rfl rfl (fa71_1 rfl) rfl ?_;refine gO rfl rfl (ld26 rfl f0 rfl) rfl ?_;refine gO rfl rfl (aOp_lenSlice Try.underlying26 rfl hl2) rfl ?_;refine GoR.call rfl rfl (aCF aFunc78 rfl) (hsu _) ?_ (by rintro _ _ ⟨sl, q, _, G⟩; cases q);rintro v4 h4 ⟨sl, q, x4, G⟩;cases q;refine ⟨_, rfl, ?_⟩;replace f2 := f2.ext x4;replace f0 := f0.ext x4;replace e7 := e7.trans x4;replace e0 := e0.trans x4;refine gP ?_;refine gO rfl rfl (aOp_build zt112 hu112 pl112 rfl rfl) rfl ?_;refine GoR.call rfl rfl (aCF aFunc77 rfl) (hfi e0 hKT (KK.ext e7) (by assumption) (by assumption) G) ?_ np;rintro v5 h5 ⟨q, x5⟩;cases q;refine ⟨_, rfl, ?_⟩;replace e0 := e0.trans x5;iterate 4 refine gP ?_
 apply gE;apply gS;refine gR rfl ?_;refine gP ?_;refine gO rfl rfl (aOp_convU64 rfl Try.underlying3 Try.underlying114 (by omega)) rfl ?_;refine GoR.call rfl rfl (aCF aFunc81 rfl) (hon _) ?_ np;rintro v6 h6 ⟨q, x6⟩;cases q;refine ⟨_, rfl, ?_⟩;replace e0 := e0.trans x6;iterate 3 refine gP ?_
 apply gE;exact gW Try.func58 rfl rfl ⟨rfl, e0⟩
theorem bits_app (p : RtV → Bool) : ∀ (A B : List RtV) (k : Nat), bitsFrom p k (A ++ B) = bitsFrom p k A ||| bitsFrom p (k + A.length) B
 | [], B, k => by
  show bitsFrom p k B = 0 ||| _
  rw [Nat.zero_or]
  rfl
 | x :: A, B, k => by
  have ih := bits_app p A B (k + 1)
  rw [show k + 1 + A.length = k + (x :: A).length by rw [List.length_cons]; omega] at ih
  show _ ||| bitsFrom p (k + 1) (A ++ B) = (_ ||| bitsFrom p (k + 1) A) ||| _
  rw [ih, Nat.or_assoc]
theorem bits_take {p : RtV → Bool} {L : List RtV} {i : Nat} {x : RtV} (hx : L[i]? = some x) : bitsFrom p 0 (L.take (i + 1)) = bitsFrom p 0 (L.take i) ||| (if p x = true then 2 ^ i else 0) := by
 have hl := (List.getElem?_eq_some_iff.1 hx).1
 rw [List.take_add_one, hx, Option.toList_some, bits_app, Nat.zero_add, List.length_take, Nat.min_eq_left (by omega)]
 congr 1
 show _ ||| 0 = _
 rw [Nat.or_zero]
theorem bits_lt {p : RtV → Bool} : ∀ {L : List RtV} {k : Nat}, bitsFrom p k L < 2 ^ (k + L.length)
 | [], k => Nat.two_pow_pos _
 | x :: L, k => by
  have ih := bits_lt (p := p) (L := L) (k := k + 1)
  rw [show k + 1 + L.length = k + (x :: L).length by rw [List.length_cons]; omega] at ih
  show _ ||| bitsFrom p (k + 1) L < _
  refine Nat.or_lt_two_pow ?_ ih
  have h2 : 2 ^ k < 2 ^ (k + (x :: L).length) := Nat.pow_lt_pow_right (by omega) (by rw [List.length_cons]; omega)
  split
  ·exact h2
  ·omega
theorem breaksB_ok {D : DrainV} (O : D.Ok) (hT : D.truths ≠ []) {b d r s : AVal} {h : AH} (A : DrainAt h D b d r s) : Runs Try.prog 54 [.agg (dC b d r s)] h (fun en h' => en = .ret (.tuple [.int .i64 ((D.surely : Nat) : Int), .int .i64 ((D.perhaps : Nat) : Int)]) ∧ Ext h h') := by
 have hsm := A.same
 have hnr := O.nr
 have hl3 := A.rs.len
 rw [List.length_map] at hl3
 have htr := fun h A => truths_yes O hT (b := b) (d := d) (r := r) (s := s) (h := h) A
 obtain ⟨p1, hp1⟩ : ∃ p : RtV → Bool, p = fun r => decide (r.m < (D.flow r.o.toNat r.t.toNat).1) := ⟨_, rfl⟩
 obtain ⟨p2, hp2⟩ : ∃ p : RtV → Bool, p = fun r => decide (r.m < (D.flow r.o.toNat r.t.toNat).2) := ⟨_, rfl⟩
 have h1 : D.surely = bitsFrom p1 0 D.rs := by rw [hp1]; rfl
 have h2 : D.perhaps = bitsFrom p2 0 D.rs := by rw [hp2]; rfl
 rw [h1, h2]
 unfold dC at *
 have e0 : Ext h h := Ext.refl _
 refine Runs.intro aFunc54 rfl rfl rfl rfl fun rest => ?_;apply gS;refine gR rfl ?_;refine GoR.box rfl rfl rfl rfl rfl rfl fun h3 x3 f3 => ?_;have := e0.1;replace e0 := e0.trans x3;have := f3.1;iterate 2 refine gP ?_
 apply gE;apply gS;refine gR rfl ?_;refine gO rfl rfl (ld71 rfl f3 rfl) rfl ?_;refine GoR.call rfl rfl (aCF aFunc40 rfl) (htr _ (A.ext e0)) ?_ (by rintro _ _ ⟨bm, KT, q, hKT, _, hbm, KK, e7⟩; cases q);rintro v4 h4 ⟨bm, KT, q, hKT, x4, hbm, KK, e7⟩;cases q;refine ⟨_, rfl, ?_⟩;have := e0.1;replace f3 := f3.ext x4;replace e0 := e0.trans x4;refine gP ?_;apply gE;iterate 2 apply gS
 refine gR rfl ?_;refine gO rfl rfl (fa71_2 rfl) rfl ?_;refine gO rfl rfl (ld27 rfl f3 rfl) rfl ?_;refine gO rfl rfl (aOp_lenSlice Try.underlying27 rfl hl3) rfl ?_;refine gP ?_;apply gE;refine Go.block noJ_ok ?_
 refine Go.loopKeep (fun i : Nat => [(2, .int .i64 ((bitsFrom p1 0 (D.rs.take i) : Nat) : Int)), (3, .int .i64 ((bitsFrom p2 0 (D.rs.take i) : Nat) : Int)), (4, .map bm), (11, r), (12, .int .i64 D.rs.length), (13, .int .i64 (i : Nat))])
  (fun m i h' => m + i = D.rs.length ∧ Ext h h' ∧ Ext h4 h') (n := D.rs.length) 0 ⟨rfl, rfl, rfl, rfl, rfl, rfl, trivial⟩ ⟨rfl, e0, e7⟩ ?_
 clear e0 e7 f3;rintro m i h9 ⟨hm, e0, e7⟩ again
 by_cases hi : i < D.rs.length
 ·obtain ⟨⟨ro, rt, rm⟩, hx⟩ : ∃ x, D.rs[i]? = some x := ⟨D.rs[i], by simp [hi]⟩
  obtain ⟨bq, off, q1, q2⟩ := A.rs.at (i := i) (l := RtV.cells ⟨ro, rt, rm⟩) (by rw [List.getElem?_map, hx]; rfl)
  rw [List.length_map] at q1
  have hro := O.r _ (List.mem_of_getElem? hx)
  unfold RtV.Ok PairOk at hro
  dsimp only at hro
  obtain ⟨o, rfl⟩ := Int.eq_ofNat_of_zero_le hro.1.1.1
  obtain ⟨p, rfl⟩ := Int.eq_ofNat_of_zero_le hro.1.2.1.1
  unfold RtV.cells at q2
  dsimp only at q2
  have hfl := fun {h' : AH} (e : Ext h h') (e' : Ext h4 h') => flow_ok O hKT (KK.ext e') (A.bs.ext e) (a := o) (to := p) (by omega) (by omega)
  have t1 := bits_take (p := p1) hx
  have t2 := bits_take (p := p2) hx
  have hq1 : p1 ⟨(o : Int), (p : Int), rm⟩ = decide (rm < (D.flow o p).1) := by rw [hp1]; dsimp only; rw [Int.toNat_natCast, Int.toNat_natCast]
  have hq2 : p2 ⟨(o : Int), (p : Int), rm⟩ = decide (rm < (D.flow o p).2) := by rw [hp2]; dsimp only; rw [Int.toNat_natCast, Int.toNat_natCast]
  rw [hq1] at t1;rw [hq2] at t2
  obtain ⟨⟨w1, w2⟩, hw⟩ : ∃ w, D.flow o p = w := ⟨_, rfl⟩
  rw [hw] at t1 t2 hfl
  unfold spC at hfl
  dsimp only at t1 t2 hfl
  have b1 := bits_lt (p := p1) (L := D.rs.take i) (k := 0)
  have b2 := bits_lt (p := p2) (L := D.rs.take i) (k := 0)
  have hln : (D.rs.take i).length ≤ 4 := by rw [List.length_take]; omega
  have hp2' : 2 ^ (0 + (D.rs.take i).length) ≤ 16 := Nat.pow_le_pow_right (n := 2) (j := 4) (by omega) (by omega)
  have hpw : (1 : Int) * 2 ^ i = ((2 ^ i : Nat) : Int) := by simp
  have hpl : 2 ^ i ≤ 16 := Nat.pow_le_pow_right (n := 2) (j := 4) (by omega) (by omega)
  obtain ⟨a1, ha1⟩ : ∃ a, bitsFrom p1 0 (D.rs.take i) = a := ⟨_, rfl⟩
  obtain ⟨a2, ha2⟩ : ∃ a, bitsFrom p2 0 (D.rs.take i) = a := ⟨_, rfl⟩
  obtain ⟨pw, hpw0⟩ : ∃ a, 2 ^ i = a := ⟨_, rfl⟩
  rw [ha1] at t1 b1 ⊢;rw [ha2] at t2 b2 ⊢;rw [hpw0] at t1 t2 hpl hpw
  obtain ⟨r1, hr1⟩ : ∃ a, a1 ||| pw = a := ⟨_, rfl⟩
  obtain ⟨r2, hr2⟩ : ∃ a, a2 ||| pw = a := ⟨_, rfl⟩
  by_cases d1 : decide (rm < w1) = true
  ·have c1 := of_decide_eq_true d1
   by_cases d2 : decide (rm < w2) = true
   ·have c2 := of_decide_eq_true d2
    rw [if_pos d1, hr1] at t1;rw [if_pos d2, hr2] at t2;apply gS;refine gR rfl ?_;refine gO rfl rfl (kLT rfl rfl) rfl ?_;apply gE;apply gS;refine gC (b := true) rfl ?_;refine gD ?_;apply gS;refine Go.block noJ_ok ?_;apply gS;refine gR rfl ?_;refine gP ?_;refine gO rfl rfl (aOp_indexAddr (i := i) Try.underlying27 sz57 rfl q1 rfl (Nat.ble_eq_true_of_le hi)) rfl ?_;refine gO rfl rfl (aOp_loadE ag57 sz57 rfl (q2.ext e0)) rfl ?_;refine GoR.alloc rfl rfl rfl zt57 rfl rfl fun h10 x10 f10 => ?_;have := e0.1;have := e7.1;replace e0 := e0.trans x10;replace e7 := e7.trans x10;have := f10.1;refine gP ?_;refine GoR.store rfl rfl rfl rfl rfl rfl f10 rfl sz57 rfl rfl rfl fun h11 u11 => ?_;replace f10 := u11.has f10;replace e0 := e0.upd u11 (by omega);replace e7 := e7.upd u11 (by omega);apply gE;apply gS;refine gR rfl ?_;refine gP ?_;refine gO rfl rfl (fa57_0 rfl) rfl ?_;refine gO rfl rfl (ld3 rfl f10 rfl) rfl ?_;refine gO rfl rfl (fa57_1 rfl) rfl ?_;refine gO rfl rfl (ld3 rfl f10 rfl) rfl ?_;refine GoR.call rfl rfl (aCF aFunc52 rfl) (hfl e0 e7) ?_ np;rintro v12 h12 ⟨q, x12⟩;cases q;refine ⟨_, rfl, ?_⟩;replace f10 := f10.ext x12;replace e0 := e0.trans x12;replace e7 := e7.trans x12;refine GoR.alloc rfl rfl rfl zt35 rfl rfl fun h13 x13 f13 => ?_;have := e0.1;have := e7.1;have := f10.1;replace f10 := f10.ext x13;replace e0 := e0.trans x13;replace e7 := e7.trans x13;have := f13.1;refine GoR.store rfl rfl rfl rfl rfl rfl f13 rfl sz35 rfl rfl rfl fun h14 u14 => ?_;replace f13 := u14.has f13;replace f10 := f10.upd u14 (by omega);replace e0 := e0.upd u14 (by omega);replace e7 := e7.upd u14 (by omega);apply gE;iterate 2 apply gS
    refine gR rfl ?_;refine gO rfl rfl (fa35_0 rfl) rfl ?_;refine gO rfl rfl (ld3 rfl f13 rfl) rfl ?_;refine gO rfl rfl (fa57_2 rfl) rfl ?_;refine gO rfl rfl (ld3 rfl f10 rfl) rfl ?_;refine gO rfl rfl (kGT rfl rfl) rfl ?_;apply gE;refine gC (b := true) rfl ?_;refine gR rfl ?_;iterate 2 refine gP ?_
    refine gO rfl rfl (aOp_shl rfl rfl (i := i) (by omega) hpw (by omega)) rfl ?_;refine gO rfl rfl (aOp_orNat (a := a1) (b := pw) rfl rfl (by omega) (by omega) hr1) rfl ?_;refine gP ?_;apply gE;apply gS;refine gR rfl ?_;refine gO rfl rfl (fa35_1 rfl) rfl ?_;refine gO rfl rfl (ld3 rfl f13 rfl) rfl ?_;refine gO rfl rfl (fa57_2 rfl) rfl ?_;refine gO rfl rfl (ld3 rfl f10 rfl) rfl ?_;refine gO rfl rfl (kGT rfl rfl) rfl ?_;apply gE;refine gC (b := true) rfl ?_;refine gR rfl ?_;iterate 2 refine gP ?_
    refine gO rfl rfl (aOp_shl rfl rfl (i := i) (by omega) hpw (by omega)) rfl ?_;refine gO rfl rfl (aOp_orNat (a := a2) (b := pw) rfl rfl (by omega) (by omega) hr2) rfl ?_;refine gP ?_;apply gE;refine Go.inBlock noJ_ok ?_;refine gR rfl ?_;refine gO rfl rfl (aA rfl rfl) rfl ?_;refine gP ?_;apply gE;exact again (m - 1) (i + 1) _ _ (by omega) ⟨by show _ = some (AVal.int .i64 ((bitsFrom p1 0 (D.rs.take (i + 1)) : Nat) : Int)); rw [t1]; rfl, by show _ = some (AVal.int .i64 ((bitsFrom p2 0 (D.rs.take (i + 1)) : Nat) : Int)); rw [t2]; rfl, rfl, rfl, rfl, rfl, trivial⟩ ⟨by omega, e0, e7⟩
   ·have c2 : ¬ rm < w2 := fun q => d2 (decide_eq_true q)
    rw [if_pos d1, hr1] at t1;rw [if_neg d2, Nat.or_zero] at t2;apply gS;refine gR rfl ?_;refine gO rfl rfl (kLT rfl rfl) rfl ?_;apply gE;apply gS;refine gC (b := true) rfl ?_;refine gD ?_;apply gS;refine Go.block noJ_ok ?_;apply gS;refine gR rfl ?_;refine gP ?_;refine gO rfl rfl (aOp_indexAddr (i := i) Try.underlying27 sz57 rfl q1 rfl (Nat.ble_eq_true_of_le hi)) rfl ?_;refine gO rfl rfl (aOp_loadE ag57 sz57 rfl (q2.ext e0)) rfl ?_;refine GoR.alloc rfl rfl rfl zt57 rfl rfl fun h10 x10 f10 => ?_;have := e0.1;have := e7.1;replace e0 := e0.trans x10;replace e7 := e7.trans x10;have := f10.1;refine gP ?_;refine GoR.store rfl rfl rfl rfl rfl rfl f10 rfl sz57 rfl rfl rfl fun h11 u11 => ?_;replace f10 := u11.has f10;replace e0 := e0.upd u11 (by omega);replace e7 := e7.upd u11 (by omega);apply gE;apply gS;refine gR rfl ?_;refine gP ?_;refine gO rfl rfl (fa57_0 rfl) rfl ?_;refine gO rfl rfl (ld3 rfl f10 rfl) rfl ?_;refine gO rfl rfl (fa57_1 rfl) rfl ?_;refine gO rfl rfl (ld3 rfl f10 rfl) rfl ?_;refine GoR.call rfl rfl (aCF aFunc52 rfl) (hfl e0 e7) ?_ np;rintro v12 h12 ⟨q, x12⟩;cases q;refine ⟨_, rfl, ?_⟩;replace f10 := f10.ext x12;replace e0 := e0.trans x12;replace e7 := e7.trans x12;refine GoR.alloc rfl rfl rfl zt35 rfl rfl fun h13 x13 f13 => ?_;have := e0.1;have := e7.1;have := f10.1;replace f10 := f10.ext x13;replace e0 := e0.trans x13;replace e7 := e7.trans x13;have := f13.1;refine GoR.store rfl rfl rfl rfl rfl rfl f13 rfl sz35 rfl rfl rfl fun h14 u14 => ?_;replace f13 := u14.has f13;replace f10 := f10.upd u14 (by omega);replace e0 := e0.upd u14 (by omega);replace e7 := e7.upd u14 (by omega);apply gE;iterate 2 apply gS
    refine gR rfl ?_;refine gO rfl rfl (fa35_0 rfl) rfl ?_;refine gO rfl rfl (ld3 rfl f13 rfl) rfl ?_;refine gO rfl rfl (fa57_2 rfl) rfl ?_;refine gO rfl rfl (ld3 rfl f10 rfl) rfl ?_;refine gO rfl rfl (kGT rfl rfl) rfl ?_;apply gE;refine gC (b := true) rfl ?_;refine gR rfl ?_;iterate 2 refine gP ?_
    refine gO rfl rfl (aOp_shl rfl rfl (i := i) (by omega) hpw (by omega)) rfl ?_;refine gO rfl rfl (aOp_orNat (a := a1) (b := pw) rfl rfl (by omega) (by omega) hr1) rfl ?_;refine gP ?_;apply gE;apply gS;refine gR rfl ?_;refine gO rfl rfl (fa35_1 rfl) rfl ?_;refine gO rfl rfl (ld3 rfl f13 rfl) rfl ?_;refine gO rfl rfl (fa57_2 rfl) rfl ?_;refine gO rfl rfl (ld3 rfl f10 rfl) rfl ?_;refine gO rfl rfl (kGF rfl rfl) rfl ?_;apply gE;refine gC (b := false) rfl ?_;refine gD ?_;refine Go.inBlock noJ_ok ?_;refine gR rfl ?_;refine gO rfl rfl (aA rfl rfl) rfl ?_;refine gP ?_;apply gE;exact again (m - 1) (i + 1) _ _ (by omega) ⟨by show _ = some (AVal.int .i64 ((bitsFrom p1 0 (D.rs.take (i + 1)) : Nat) : Int)); rw [t1]; rfl, by show _ = some (AVal.int .i64 ((bitsFrom p2 0 (D.rs.take (i + 1)) : Nat) : Int)); rw [t2]; rfl, rfl, rfl, rfl, rfl, trivial⟩ ⟨by omega, e0, e7⟩
  ·have c1 : ¬ rm < w1 := fun q => d1 (decide_eq_true q)
   by_cases d2 : decide (rm < w2) = true
   ·have c2 := of_decide_eq_true d2
    rw [if_neg d1, Nat.or_zero] at t1;rw [if_pos d2, hr2] at t2;apply gS;refine gR rfl ?_;refine gO rfl rfl (kLT rfl rfl) rfl ?_;apply gE;apply gS;refine gC (b := true) rfl ?_;refine gD ?_;apply gS;refine Go.block noJ_ok ?_;apply gS;refine gR rfl ?_;refine gP ?_;refine gO rfl rfl (aOp_indexAddr (i := i) Try.underlying27 sz57 rfl q1 rfl (Nat.ble_eq_true_of_le hi)) rfl ?_;refine gO rfl rfl (aOp_loadE ag57 sz57 rfl (q2.ext e0)) rfl ?_;refine GoR.alloc rfl rfl rfl zt57 rfl rfl fun h10 x10 f10 => ?_;have := e0.1;have := e7.1;replace e0 := e0.trans x10;replace e7 := e7.trans x10;have := f10.1;refine gP ?_;refine GoR.store rfl rfl rfl rfl rfl rfl f10 rfl sz57 rfl rfl rfl fun h11 u11 => ?_;replace f10 := u11.has f10;replace e0 := e0.upd u11 (by omega);replace e7 := e7.upd u11 (by omega);apply gE;apply gS;refine gR rfl ?_;refine gP ?_;refine gO rfl rfl (fa57_0 rfl) rfl ?_;refine gO rfl rfl (ld3 rfl f10 rfl) rfl ?_;refine gO rfl rfl (fa57_1 rfl) rfl ?_;refine gO rfl rfl (ld3 rfl f10 rfl) rfl ?_;refine GoR.call rfl rfl (aCF aFunc52 rfl) (hfl e0 e7) ?_ np;rintro v12 h12 ⟨q, x12⟩;cases q;refine ⟨_, rfl, ?_⟩;replace f10 := f10.ext x12;replace e0 := e0.trans x12;replace e7 := e7.trans x12;refine GoR.alloc rfl rfl rfl zt35 rfl rfl fun h13 x13 f13 => ?_;have := e0.1;have := e7.1;have := f10.1;replace f10 := f10.ext x13;replace e0 := e0.trans x13;replace e7 := e7.trans x13;have := f13.1;refine GoR.store rfl rfl rfl rfl rfl rfl f13 rfl sz35 rfl rfl rfl fun h14 u14 => ?_;replace f13 := u14.has f13;replace f10 := f10.upd u14 (by omega);replace e0 := e0.upd u14 (by omega);replace e7 := e7.upd u14 (by omega);apply gE;iterate 2 apply gS
    refine gR rfl ?_;refine gO rfl rfl (fa35_0 rfl) rfl ?_;refine gO rfl rfl (ld3 rfl f13 rfl) rfl ?_;refine gO rfl rfl (fa57_2 rfl) rfl ?_;refine gO rfl rfl (ld3 rfl f10 rfl) rfl ?_;refine gO rfl rfl (kGF rfl rfl) rfl ?_;apply gE;refine gC (b := false) rfl ?_;refine gD ?_;apply gS;refine gR rfl ?_;refine gO rfl rfl (fa35_1 rfl) rfl ?_;refine gO rfl rfl (ld3 rfl f13 rfl) rfl ?_;refine gO rfl rfl (fa57_2 rfl) rfl ?_;refine gO rfl rfl (ld3 rfl f10 rfl) rfl ?_;refine gO rfl rfl (kGT rfl rfl) rfl ?_;apply gE;refine gC (b := true) rfl ?_;refine gR rfl ?_;iterate 2 refine gP ?_
    refine gO rfl rfl (aOp_shl rfl rfl (i := i) (by omega) hpw (by omega)) rfl ?_;refine gO rfl rfl (aOp_orNat (a := a2) (b := pw) rfl rfl (by omega) (by omega) hr2) rfl ?_;refine gP ?_;apply gE;refine Go.inBlock noJ_ok ?_;refine gR rfl ?_;refine gO rfl rfl (aA rfl rfl) rfl ?_;refine gP ?_;apply gE;exact again (m - 1) (i + 1) _ _ (by omega) ⟨by show _ = some (AVal.int .i64 ((bitsFrom p1 0 (D.rs.take (i + 1)) : Nat) : Int)); rw [t1]; rfl, by show _ = some (AVal.int .i64 ((bitsFrom p2 0 (D.rs.take (i + 1)) : Nat) : Int)); rw [t2]; rfl, rfl, rfl, rfl, rfl, trivial⟩ ⟨by omega, e0, e7⟩
   ·have c2 : ¬ rm < w2 := fun q => d2 (decide_eq_true q)
    rw [if_neg d1, Nat.or_zero] at t1;rw [if_neg d2, Nat.or_zero] at t2;apply gS;refine gR rfl ?_;refine gO rfl rfl (kLT rfl rfl) rfl ?_;apply gE;apply gS;refine gC (b := true) rfl ?_;refine gD ?_;apply gS;refine Go.block noJ_ok ?_;apply gS;refine gR rfl ?_;refine gP ?_;refine gO rfl rfl (aOp_indexAddr (i := i) Try.underlying27 sz57 rfl q1 rfl (Nat.ble_eq_true_of_le hi)) rfl ?_;refine gO rfl rfl (aOp_loadE ag57 sz57 rfl (q2.ext e0)) rfl ?_;refine GoR.alloc rfl rfl rfl zt57 rfl rfl fun h10 x10 f10 => ?_;have := e0.1;have := e7.1;replace e0 := e0.trans x10;replace e7 := e7.trans x10;have := f10.1;refine gP ?_;refine GoR.store rfl rfl rfl rfl rfl rfl f10 rfl sz57 rfl rfl rfl fun h11 u11 => ?_;replace f10 := u11.has f10;replace e0 := e0.upd u11 (by omega);replace e7 := e7.upd u11 (by omega);apply gE;apply gS;refine gR rfl ?_;refine gP ?_;refine gO rfl rfl (fa57_0 rfl) rfl ?_;refine gO rfl rfl (ld3 rfl f10 rfl) rfl ?_;refine gO rfl rfl (fa57_1 rfl) rfl ?_;refine gO rfl rfl (ld3 rfl f10 rfl) rfl ?_;refine GoR.call rfl rfl (aCF aFunc52 rfl) (hfl e0 e7) ?_ np;rintro v12 h12 ⟨q, x12⟩;cases q;refine ⟨_, rfl, ?_⟩;replace f10 := f10.ext x12;replace e0 := e0.trans x12;replace e7 := e7.trans x12;refine GoR.alloc rfl rfl rfl zt35 rfl rfl fun h13 x13 f13 => ?_;have := e0.1;have := e7.1;have := f10.1;replace f10 := f10.ext x13;replace e0 := e0.trans x13;replace e7 := e7.trans x13;have := f13.1;refine GoR.store rfl rfl rfl rfl rfl rfl f13 rfl sz35 rfl rfl rfl fun h14 u14 => ?_;replace f13 := u14.has f13;replace f10 := f10.upd u14 (by omega);replace e0 := e0.upd u14 (by omega);replace e7 := e7.upd u14 (by omega);apply gE;iterate 2 apply gS
    refine gR rfl ?_;refine gO rfl rfl (fa35_0 rfl) rfl ?_;refine gO rfl rfl (ld3 rfl f13 rfl) rfl ?_;refine gO rfl rfl (fa57_2 rfl) rfl ?_;refine gO rfl rfl (ld3 rfl f10 rfl) rfl ?_;refine gO rfl rfl (kGF rfl rfl) rfl ?_;apply gE;refine gC (b := false) rfl ?_;refine gD ?_;apply gS;refine gR rfl ?_;refine gO rfl rfl (fa35_1 rfl) rfl ?_;refine gO rfl rfl (ld3 rfl f13 rfl) rfl ?_;refine gO rfl rfl (fa57_2 rfl) rfl ?_;refine gO rfl rfl (ld3 rfl f10 rfl) rfl ?_;refine gO rfl rfl (kGF rfl rfl) rfl ?_;apply gE;refine gC (b := false) rfl ?_;refine gD ?_;refine Go.inBlock noJ_ok ?_;refine gR rfl ?_;refine gO rfl rfl (aA rfl rfl) rfl ?_;refine gP ?_;apply gE;exact again (m - 1) (i + 1) _ _ (by omega) ⟨by show _ = some (AVal.int .i64 ((bitsFrom p1 0 (D.rs.take (i + 1)) : Nat) : Int)); rw [t1]; rfl, by show _ = some (AVal.int .i64 ((bitsFrom p2 0 (D.rs.take (i + 1)) : Nat) : Int)); rw [t2]; rfl, rfl, rfl, rfl, rfl, trivial⟩ ⟨by omega, e0, e7⟩
 ·rw [List.take_of_length_le (by omega)];apply gS;refine gR rfl ?_;refine gO rfl rfl (kLF rfl rfl) rfl ?_;apply gE;apply gS;refine gC (b := false) rfl ?_;refine gD ?_;apply gS;refine gR rfl ?_;iterate 4 refine gP ?_
  apply gE;exact gW Try.func54 rfl rfl ⟨rfl, e0⟩
theorem way_len : ∀ L : List (Int × Int), (L.flatMap spC).length = L.length * 2
 | [] => rfl
 | x :: L => by rw [List.flatMap_cons, List.length_append, way_len L, List.length_cons, Nat.add_mul]; show 2 + _ = _; omega
theorem way_scal : ∀ L : List (Int × Int), scalars (L.flatMap spC) = true
 | [] => rfl
 | x :: L => by
  have := way_scal L
  show cond true (cond true (scalars (L.flatMap spC)) false) false = true
  rw [this]
  rfl
theorem digB_ok {D : DrainV} (O : D.Ok) (hT : D.truths ≠ []) {b d r s : AVal} {x y : Nat} {h : AH} (A : DrainAt h D b d r s) : Runs Try.prog 56 [.agg (dC b d r s), .agg (spC ((x : Int), (y : Int)))] h (fun en h' => en = (if D.ds.length = 7 then .pan (refusal 9) else .ret (.int .i64 (D.keeps D.truths ((D.dug x y).course 0)))) ∧ Ext h h') := by
 have hsm := A.same
 have hsm1 := A.ds.same
 have hnd := O.nd
 have hl2 := A.ds.len
 rw [List.length_map] at hl2
 have htr := fun h A => truths_yes O hT (b := b) (d := d) (r := r) (s := s) (h := h) A
 unfold dC at *
 unfold spC
 by_cases c1 : D.ds.length = 7
 ·rw [if_pos c1]
  have e0 : Ext h h := Ext.refl _
  refine Runs.intro aFunc56 rfl rfl rfl rfl fun rest => ?_;apply gS;refine gR rfl ?_;refine GoR.box rfl rfl rfl rfl rfl rfl fun h0 x0 f0 => ?_;have := e0.1;replace e0 := e0.trans x0;have := f0.1;refine GoR.box rfl rfl rfl rfl rfl rfl fun h1 x1 f1 => ?_;have := e0.1;have := f0.1;replace f0 := f0.ext x1;replace e0 := e0.trans x1;have := f1.1;refine gP ?_;apply gE;apply gS;refine Go.drawnE plan56_0 ?_;refine gQ rfl rfl (ld71 rfl f0 rfl) rfl ?_;refine gQ rfl rfl (fa71_1 rfl) rfl ?_;refine gQ rfl rfl (ld26 rfl f0 rfl) rfl ?_;refine gQ rfl rfl (aOp_lenSlice Try.underlying26 rfl hl2) rfl ?_;refine GoE.call rfl rfl (aCF aFunc40 rfl) (htr _ (A.ext e0)) (dK 1 4 (dK 1 3 (dK 1 2 (dD 1 0 rfl)))) ?_ (by rintro _ _ ⟨bm, KT, q, hKT, _, hbm, KK, e7⟩; cases q);rintro v2 h2 ⟨bm, KT, q, hKT, x2, hbm, KK, e7⟩;cases q;replace f0 := f0.ext x2;replace e0 := e0.trans x2;refine ⟨(rck (h2 := h2) rfl (aOp_lenSlice Try.underlying26 rfl hl2) (rck (h2 := h2) rfl (ld26 rfl f0 rfl) (rck (h2 := h2) rfl (fa71_1 rfl) recheck_nil))), _, rfl, ?_⟩;iterate 2 refine gQ rfl rfl rfl rfl ?_
  refine GoE.end rfl ?_;apply gS;refine gR rfl ?_;refine gP ?_;refine gO rfl rfl (kET rfl rfl) rfl ?_;refine GoR.callP rfl rfl (aCF aFunc67 rfl) (refuse_yes _ _) (by rintro _ _ ⟨q, _⟩; cases q) ?_;rintro chain h3 ⟨q, x3⟩
  have q := AEnd.pan.inj q
  subst q;replace e0 := e0.trans x3;exact FLeft.pan (⟨rfl, e0⟩)
 ·rw [if_neg c1]
  have e0 : Ext h h := Ext.refl _
  refine Runs.intro aFunc56 rfl rfl rfl rfl fun rest => ?_;apply gS;refine gR rfl ?_;refine GoR.box rfl rfl rfl rfl rfl rfl fun h0 x0 f0 => ?_;have := e0.1;replace e0 := e0.trans x0;have := f0.1;refine GoR.box rfl rfl rfl rfl rfl rfl fun h1 x1 f1 => ?_;have := e0.1;have := f0.1;replace f0 := f0.ext x1;replace e0 := e0.trans x1;have := f1.1;refine gP ?_;apply gE;apply gS;refine Go.drawnE plan56_0 ?_;refine gQ rfl rfl (ld71 rfl f0 rfl) rfl ?_;refine gQ rfl rfl (fa71_1 rfl) rfl ?_;refine gQ rfl rfl (ld26 rfl f0 rfl) rfl ?_;refine gQ rfl rfl (aOp_lenSlice Try.underlying26 rfl hl2) rfl ?_;refine GoE.call rfl rfl (aCF aFunc40 rfl) (htr _ (A.ext e0)) (dK 1 4 (dK 1 3 (dK 1 2 (dD 1 0 rfl)))) ?_ (by rintro _ _ ⟨bm, KT, q, hKT, _, hbm, KK, e7⟩; cases q);rintro v2 h2 ⟨bm, KT, q, hKT, x2, hbm, KK, e7⟩;cases q;have := e0.1;have := f1.1;have := f0.1;replace f1 := f1.ext x2;replace f0 := f0.ext x2;replace e0 := e0.trans x2;refine ⟨(rck (h2 := h2) rfl (aOp_lenSlice Try.underlying26 rfl hl2) (rck (h2 := h2) rfl (ld26 rfl f0 rfl) (rck (h2 := h2) rfl (fa71_1 rfl) recheck_nil))), _, rfl, ?_⟩;iterate 2 refine gQ rfl rfl rfl rfl ?_
  refine GoE.end rfl ?_;apply gS;refine gR rfl ?_;refine gP ?_;refine gO rfl rfl (kEF rfl rfl) rfl ?_;refine GoR.call rfl rfl (aCF aFunc67 rfl) (refuse_no _ _) ?_ np;rintro v3 h3 ⟨q, x3⟩;cases q;refine ⟨_, rfl, ?_⟩;replace f1 := f1.ext x3;replace f0 := f0.ext x3;replace e7 := e7.trans x3;replace e0 := e0.trans x3;apply gE;apply gS;refine gR rfl ?_;refine gP ?_;refine gO rfl rfl (aOp_add (r := ((D.ds.length + 1 : Nat) : Int)) rfl rfl (by constructor <;> omega) (by omega)) rfl ?_;refine GoR.makeSl rfl rfl rfl Try.underlying26 rfl rfl sz32 by32 zt32 rfl (Nat.ble_eq_true_of_le (by omega)) rfl rfl fun h4 x4 f4 => ?_;have := e7.1;have := e0.1;have := f1.1;have := f0.1;replace f1 := f1.ext x4;replace f0 := f0.ext x4;replace e7 := e7.trans x4;replace e0 := e0.trans x4;have := f4.1;refine gP ?_;apply gE;apply gS;refine gR rfl ?_;refine gP ?_;refine gO rfl rfl (fa71_1 rfl) rfl ?_;refine gO rfl rfl (ld26 rfl f0 rfl) rfl ?_
  have hsrc := (A.ds.ext e0).src
  rw [List.length_map, ← List.flatMap_def] at hsrc
  obtain ⟨n, hn⟩ : ∃ n, D.ds.length = n := ⟨_, rfl⟩
  have hrl : (repl (AVal.agg [.int .i64 0, .int .i64 0]).cells (D.ds.length + 1)).length = (D.ds.length + 1) * 2 := by rw [repl_eq]; simp; rfl
  have hwl := way_len D.ds
  have hsp := splice_eq (cs := repl (AVal.agg [.int .i64 0, .int .i64 0]).cells (D.ds.length + 1)) (off := 0) (new := D.ds.flatMap spC) (by rw [hrl, hwl]; omega)
  rw [List.take_zero, List.nil_append, Nat.zero_add, hwl] at hsp
  obtain ⟨Z, hZ⟩ : ∃ Z, (repl (AVal.agg [.int .i64 0, .int .i64 0]).cells (D.ds.length + 1)).drop (D.ds.length * 2) = Z := ⟨_, rfl⟩
  have hZl : Z.length = 2 := by rw [← hZ, List.length_drop, hrl]; omega
  rw [hZ] at hsp
  have hb7 := f4.1
  refine GoR.copyIn rfl rfl Try.underlying26 sz32 rfl rfl hl2 (Nat.min_eq_left (by omega)) hsrc f4 rfl (way_scal _) hsp rfl fun h9 u9 => ?_;replace f4 := u9.has f4;replace f0 := f0.upd u9 (by omega);replace f1 := f1.upd u9 (by omega);replace e7 := e7.upd u9 (by omega);replace e0 := e0.upd u9 (by omega)
  have hq7 : aSlElems (.slice h3.next 0 (D.ds.length + 1) (D.ds.length + 1)) = some (h3.next, 0, D.ds.length + 1) := rfl
  have hput : splice (D.ds.flatMap spC ++ Z) (0 + D.ds.length * 2) [AVal.int .i64 x, .int .i64 y] = some ((D.ds ++ [((x : Int), (y : Int))]).flatMap spC) := by
   rw [Nat.zero_add, splice_eq (by rw [List.length_append, hwl, hZl]; exact Nat.le_refl _), ← hwl, List.take_left', List.flatMap_append]
   ·rw [show (D.ds.flatMap spC).length + [AVal.int .i64 (x : Int), .int .i64 (y : Int)].length = (D.ds.flatMap spC ++ Z).length by rw [List.length_append, hZl]; rfl, List.drop_length, List.append_nil]
    rfl
   ·rfl
  apply gE;apply gS;refine gR rfl ?_;iterate 2 refine gP ?_
  refine gO rfl rfl (ld32 rfl f1 rfl) rfl ?_;refine gO rfl rfl (aOp_indexAddr (i := D.ds.length) Try.underlying26 sz32 rfl hq7 rfl (Nat.ble_eq_true_of_le (by omega))) rfl ?_;refine GoR.store rfl rfl rfl rfl rfl rfl f4 rfl sz32 rfl rfl hput fun h10 u10 => ?_;replace f4 := u10.has f4;replace f0 := f0.upd u10 (by omega);replace e7 := e7.upd u10 (by omega);replace e0 := e0.upd u10 (by omega);apply gE;apply gS;refine gR rfl ?_;refine gO rfl rfl (ld71 rfl f0 rfl) rfl ?_;iterate 2 refine gP ?_
  refine gO rfl rfl (aOp_build zt104 hu104 pl104 rfl rfl) rfl ?_;refine gP ?_
  have S7 : SliceOf h10 2 (.slice h3.next 0 (D.ds.length + 1) (D.ds.length + 1)) ((D.ds ++ [((x : Int), (y : Int))]).map spC) := SliceOf.mk' rfl rfl f4 (by simp) fun i l hl => by
   rw [Nat.zero_add, List.flatMap_def];exact slice_flatten (fun l hl => by obtain ⟨_, _, rfl⟩ := List.mem_map.1 hl; rfl) i l hl
  have hkp := keeps_ok O (iv := dugI (.slice h3.next 0 (D.ds.length + 1) (D.ds.length + 1))) (st := D.all) (h := h10) (A.ext e0) (dug_join S7 (by simp; omega)) hKT (KK.ext e7)
  have hv : D.keeps (D.learn D.all) (crsJ (fun a c => (openV 0 0 (D.ds ++ [((x : Int), (y : Int))])).any fun w => joinsV w a c) D.bs.length) = D.keeps D.truths ((D.dug x y).course 0) := rfl
  rw [hv] at hkp
  generalize D.keeps D.truths ((D.dug x y).course 0) = v at hkp ⊢
  refine GoR.call rfl rfl (aCF aFunc76 rfl) hkp ?_ np;rintro v11 h11 ⟨q, x11⟩;cases q;refine ⟨_, rfl, ?_⟩;replace e0 := e0.trans x11;clear f0 f1 f4 e7;refine gP ?_;apply gE;exact gW Try.func56 rfl rfl ⟨rfl, e0⟩
end Go.Proofs.Ytkhiagdmbajimaa
