import Derived.Test.YtkhiagdmbajimaaMAP
import Derived.Test.YtkhiagdmbajimaaMAJ
import Derived.Test.YtkhiagdmbajimaaMAG
import Derived.Deep.Slices
import Derived.Lib.SmallJoins
import Derived.Carry
import Derived.Test.YtkhiagdmbajimaaMAK
import Derived.Laws.IdiomArrays
import Derived.Test.YtkhiagdmbajimaaRows
import Derived.WalkKit
import Derived.ProofKit
import Derived.OpenShut
namespace Go.Proofs.Ytkhiagdmbajimaa
open Go Go.AbsE
set_option linter.unusedSimpArgs false
set_option maxRecDepth 100000
set_option maxHeartbeats 0
set_option linter.unusedVariables false
theorem popc_half : ∀ s, s < 1024 → popc s = s % 2 + popc (s / 2) := by decide +kernel
theorem size28_ok (s : Nat) (hs : s < 1024) {h : AH} : Runs Try.prog 28 [.int .i64 (s : Nat)] h (fun en h' => en = .ret (.int .i64 (popc s : Nat)) ∧ Ext h h') := by
 have e0 : Ext h h := Ext.refl _
 refine Runs.intro aFunc28 rfl rfl rfl rfl fun rest => ?_;apply gS;refine gR rfl ?_;refine gP ?_;apply gE;apply gS;refine gR rfl ?_;refine gP ?_;apply gE;apply gS;refine Go.block noJ_ok ?_;refine Go.loopKeep (fun a : Nat × Nat => [(0, .int .i64 (a.1 : Nat)), (3, .int .i64 (a.2 : Nat))]) (fun m a h' => a.1 ≤ m ∧ a.1 < 1024 ∧ a.2 + popc a.1 = popc s ∧ Ext h h') (n := s) (s, 0) ⟨rfl, rfl, trivial⟩ ⟨Nat.le_refl _, hs, by simp, e0⟩ ?_;clear e0;rintro m ⟨z, n⟩ h2' ⟨hm, hz, hn, e0⟩ again
 dsimp only at hm hz hn ⊢
 have hp5 := popc_le s
 have hph := popc_half z hz
 by_cases hz0 : 0 < z
 ·have hr : ((z : Nat) : Int).tmod 2 = ((z % 2 : Nat) : Int) := rfl
  have hq : ((z : Nat) : Int).tdiv 2 = ((z / 2 : Nat) : Int) := rfl
  have hsum : ((n : Nat) : Int) + ((z % 2 : Nat) : Int) = ((n + z % 2 : Nat) : Int) := by push_cast; rfl
  have again2 := again (z / 2) (z / 2, n + z % 2)
  dsimp only at again2
  rw [← hsum] at again2
  obtain ⟨zr, hzr⟩ : ∃ zr, ((z % 2 : Nat) : Int) = zr := ⟨_, rfl⟩
  obtain ⟨zq, hzq⟩ : ∃ zq, ((z / 2 : Nat) : Int) = zq := ⟨_, rfl⟩
  rw [hzr] at hr again2;rw [hzq] at hq again2
  have hzr2 : 0 ≤ zr ∧ zr ≤ 1 := by omega
  have hzq2 : 0 ≤ zq ∧ zq ≤ 512 := by omega
  iterate 2 apply gS
  refine gR rfl ?_;refine gP ?_;refine gO rfl rfl (kGT rfl rfl) rfl ?_;apply gE;refine gC (b := true) rfl ?_;refine gD ?_;refine Go.block noJ_ok ?_;refine gR rfl ?_;iterate 2 refine gP ?_
  refine gO rfl rfl (aOp_rem rfl rfl (by decide) hr) rfl ?_;refine gO rfl rfl (aA rfl rfl) rfl ?_;refine gP ?_;refine gO rfl rfl (aOp_quo rfl rfl (by decide) hq (by omega)) rfl ?_;iterate 2 refine gP ?_
  apply gE;refine Go.inBlock noJ_ok ?_;exact again2 _ _ (by omega) ⟨rfl, rfl, trivial⟩ ⟨Nat.le_refl _, by omega, by omega, e0⟩
 ·have hz00 : z = 0 := by omega
  subst hz00
  have hp0 : popc 0 = 0 := by decide
  have hns : n = popc s := by omega
  subst hns;iterate 2 apply gS
  refine gR rfl ?_;refine gP ?_;refine gO rfl rfl (kGF rfl rfl) rfl ?_;apply gE;refine gC (b := false) rfl ?_;refine gD ?_;apply gS;refine gR rfl ?_;iterate 2 refine gP ?_
  apply gE;exact gW Try.func28 rfl rfl ⟨rfl, e0⟩
theorem mem_subs2 {n s : Nat} : s ∈ subs n ↔ s < 2 ^ n ∧ popc s < n + 1 := by
 unfold subs subA subB
 simp only [List.mem_flatMap, List.mem_range, List.mem_filter, decide_eq_true_eq]
 constructor
 ·rintro ⟨j, hj, h1, h3⟩;exact ⟨h1, by omega⟩
 ·rintro ⟨h1, h3⟩;exact ⟨popc s, h3, h1, rfl⟩
theorem subs_pair (n : Nat) : (subs n).Pairwise fun a b => popc a < popc b ∨ (popc a = popc b ∧ a < b) := by
 unfold subs subA
 rw [List.pairwise_flatMap];refine ⟨fun j _ => ?_, List.pairwise_lt_range.imp fun {i j} hij x hx y hy => ?_⟩
 ·unfold subB
  refine (List.Pairwise.filter _ (List.pairwise_lt_range (n := 2 ^ n))).imp_of_mem fun {a b} ha hb hab => ?_
  have h1 := (List.mem_filter.1 ha).2
  have h2 := (List.mem_filter.1 hb).2
  simp only [decide_eq_true_eq] at h1 h2
  exact .inr ⟨by omega, hab⟩
 ·have h1 := (List.mem_filter.1 hx).2
  have h2 := (List.mem_filter.1 hy).2
  simp only [decide_eq_true_eq] at h1 h2
  exact .inl (by omega)
theorem subs_first {of q : Nat} {p : Nat → Bool} (h : (subs of).find? p = some q) : q ∈ subs of ∧ p q = true ∧ ∀ s, s ∈ subs of → p s = true → popc q < popc s ∨ (popc q = popc s ∧ q ≤ s) := by
 refine ⟨List.mem_of_find?_eq_some h, List.find?_some h, fun s hs ps => ?_⟩
 obtain ⟨_, aa, bb, hl, has⟩ := List.find?_eq_some_iff_append.1 h
 have hP := subs_pair of
 rw [hl] at hs hP
 rcases List.mem_append.1 hs with q1 | q1
 ·have := has s q1
  rw [ps] at this;cases this
 ·rcases List.mem_cons.1 q1 with q2 | q2
  ·subst q2;exact .inr ⟨rfl, Nat.le_refl _⟩
  ·have := List.rel_of_pairwise_cons (List.pairwise_append.1 hP).2.1 q2
   omega
theorem popc_less : ∀ s, s < 1024 → ∀ i, i < 10 → s.testBit i = true → popc (andNot s (2 ^ i)) + 1 = popc s := by decide +kernel
theorem andNot_le (a b : Nat) (ha : a < 2 ^ 64) : andNot a b ≤ a := by
 unfold andNot
 rw [BitVec.toNat_and, BitVec.toNat_ofNat, Nat.mod_eq_of_lt ha];exact Nat.and_le_left
theorem popc_lt : ∀ n, n ≤ 7 → ∀ s, s < 2 ^ n → popc s < n + 1 := by decide +kernel
theorem in_subs {n s : Nat} (hn : n ≤ 7) (h : s < 2 ^ n) : s ∈ subs n := mem_subs2.2 ⟨h, popc_lt n hn s h⟩
def DrainV.clashes (D : DrainV) (s : Nat) : Bool := (D.learn s).isEmpty
theorem only_from {s : Nat} : ∀ {i : Nat} {L : List (Int × Int)}, (∀ j, j < L.length → s.testBit (i + j) = true) → onlyV s i L = L
 | _, [], _ => rfl
 | i, l :: L, h => by
  unfold onlyV
  rw [if_pos (by have := h 0 (by simp); rwa [Nat.add_zero] at this), only_from fun j hj => by
   have := h (j + 1) (by simpa using hj)
   rwa [show i + (j + 1) = i + 1 + j by omega] at this]
theorem only_all (D : DrainV) : onlyV D.all 0 D.ss = D.ss := only_from fun j hj => by
 unfold DrainV.all
 rw [Nat.zero_add, Nat.testBit_two_pow_sub_one];exact decide_eq_true hj
theorem only_none : ∀ (L : List (Int × Int)) (i : Nat), onlyV 0 i L = []
 | [], _ => rfl
 | l :: L, i => by
  unfold onlyV
  rw [Nat.zero_testBit, if_neg (by decide)];exact only_none L (i + 1)
theorem only_sub {s : Nat} : ∀ {L : List (Int × Int)} {i : Nat} {l : Int × Int}, l ∈ onlyV s i L → l ∈ L
 | [], _, _, h => by cases h
 | x :: L, i, l, h => by
  unfold onlyV at h
  split at h
  ·rcases List.mem_cons.1 h with rfl | h
   ·exact .head _
   ·exact .tail _ (only_sub h)
  ·exact .tail _ (only_sub h)
theorem only_len {s : Nat} : ∀ {L : List (Int × Int)} {k : Nat}, (onlyV s k L).length ≤ L.length
 | [], _ => Nat.le_refl _
 | x :: L, k => by
  have := only_len (s := s) (L := L) (k := k + 1)
  unfold onlyV
  split
  ·rw [List.length_cons, List.length_cons]; omega
  ·rw [List.length_cons]; omega
theorem levs_ne {D : DrainV} (O : D.Ok) : levsV D.bs ≠ [] := by
 obtain ⟨T, hT⟩ := levs_first (bs := D.bs) fun b hb => (O.b b hb).1.1
 rw [hT];exact List.cons_ne_nil _ _
theorem clashes_zero {D : DrainV} (O : D.Ok) : D.clashes 0 = false := by
 unfold DrainV.clashes DrainV.learn DrainV.okSeen
 simp only [only_none, List.all_nil]
 cases q : levsV D.bs with
 | nil => exact absurd q (levs_ne O)
 | cons a l => simp
theorem learn_sub (D : DrainV) {s : Nat} {l : List Int} (h : l ∈ D.truths) : l ∈ D.learn s := by
 unfold DrainV.truths DrainV.learn at h
 unfold DrainV.learn
 obtain ⟨h1, h2⟩ := List.mem_filter.1 h
 refine List.mem_filter.2 ⟨h1, ?_⟩
 unfold DrainV.okSeen at h2 ⊢
 rw [only_all] at h2;rw [List.all_eq_true] at h2 ⊢;exact fun w hw => h2 w (only_sub hw)
theorem clash_more {D : DrainV} {s : Nat} (h : D.clashes s = true) : D.truths = [] := by
 unfold DrainV.clashes at h
 rw [List.isEmpty_iff] at h;refine List.eq_nil_iff_forall_not_mem.2 fun l hl => ?_
 have := learn_sub D (s := s) hl
 rw [h] at this;cases this
theorem clash_ex {D : DrainV} (O : D.Ok) (hT : D.truths = []) : ∃ q : Nat, clashV D = some q ∧ 1 ≤ q ∧ q < 2 ^ D.ss.length ∧ D.clashes q = true ∧ ∀ s, s < 2 ^ D.ss.length → D.clashes s = true → popc q < popc s ∨ (popc q = popc s ∧ q ≤ s) := by
 have hn := O.ns
 have hall : D.clashes D.all = true := by show D.truths.isEmpty = true; rw [hT]; rfl
 have hal : D.all < 2 ^ D.ss.length := by unfold DrainV.all; have := Nat.two_pow_pos D.ss.length; omega
 cases q : clashV D with
 | none =>
  unfold clashV at q
  rw [List.find?_eq_none] at q;exact absurd hall (q _ (in_subs (by omega) hal))
 | some c =>
  have q' := q
  unfold clashV at q'
  obtain ⟨m1, m2, m3⟩ := subs_first q'
  obtain ⟨s1, s2⟩ := mem_subs2.1 m1
  refine ⟨c, rfl, ?_, s1, m2, fun s hs h => m3 s (in_subs (by omega) hs) h⟩
  rcases Nat.eq_zero_or_pos c with z | z
  ·have h0 := clashes_zero O
   rw [z] at m2
   unfold DrainV.clashes at h0
   rw [m2] at h0;cases h0
  ·exact z
theorem noclash {D : DrainV} (hT : D.truths ≠ []) : clashV D = none := by
 cases q : clashV D with
 | none => rfl
 | some c =>
  unfold clashV at q
  obtain ⟨_, m2, _⟩ := subs_first q
  exact absurd (clash_more m2) hT
def DrainV.with (D : DrainV) (L : List (Int × Int)) : DrainV := { D with ss := L }
theorem with_ok {D : DrainV} (O : D.Ok) {L : List (Int × Int)} (hl : L.length ≤ 4) (h : ∀ l, l ∈ L → l ∈ D.ss) : (D.with L).Ok := ⟨O.nb, O.b, O.nd, O.d, O.nr, O.r, hl, fun l q => O.s l (h l q)⟩
theorem with_truths (D : DrainV) (s : Nat) : (D.with (onlyV s 0 D.ss)).truths = D.learn s := by
 unfold DrainV.truths DrainV.learn
 refine List.filter_congr fun l _ => ?_
 unfold DrainV.okSeen
 rw [only_all]
 rfl
theorem nextR_e {D : DrainV} (O : D.Ok) : D.nextR 0 = D.tr ((D.nexts 0 : Nat) : Int) 0 := by
 have hnb := O.nb
 unfold DrainV.nextR
 rw [DrainV.ok_yes O, DrainV.bank_yes (by omega)]
 rfl
theorem scal_app {a b : List AVal} (ha : scalars a = true) (hb : scalars b = true) : scalars (a ++ b) = true := by
 induction a with
 | nil => exact hb
 | cons x a ih =>
  show cond (scalar x) (scalars (a ++ b)) false = true
  have h1 : cond (scalar x) (scalars a) false = true := ha
  cases q : scalar x with
  | true => rw [q] at h1; exact ih h1
  | false => rw [q] at h1; cases h1
theorem DrainAt.scal {D : DrainV} {b d r s : AVal} {h : AH} (A : DrainAt h D b d r s) : scalars (dC b d r s) = true := by
 have h2 := scal2 A.rs.scal.1 A.ss.scal.1
 have h0 := scal2 A.bs.scal.1 A.ds.scal.1
 unfold dC
 have := scal_app h0 h2
 exact this
theorem clash35_ok {D : DrainV} (O : D.Ok) {st : Nat} {b d r s : AVal} {h : AH} (A : DrainAt h D b d r s) {bh : Nat} (fh : Has h bh (.cells .plain (dC b d r s) 29)) :
  Runs Try.prog 35 [.int .i64 (st : Nat), .ptr bh 0] h (fun en h' => en = .ret (.bool (D.clashes st)) ∧ Ext h h') := by
 have hl4 := A.ss.len
 rw [List.length_map] at hl4
 have hns := O.ns
 have hsc := A.scal
 have hsm := A.same
 have hbh := fh.1
 unfold dC at *
 have e0 : Ext h h := Ext.refl _
 refine Runs.intro aFunc35 rfl rfl rfl rfl fun rest => ?_;apply gS;refine gR rfl ?_;refine gP ?_;apply gE;apply gS;refine gR rfl ?_;refine gO rfl rfl (ld29 rfl fh rfl) rfl ?_;refine GoR.alloc rfl rfl rfl zt29 rfl rfl fun h0 x0 f0 => ?_;have := e0.1;have := fh.1;replace fh := fh.ext x0;replace e0 := e0.trans x0;have := f0.1;refine GoR.store rfl rfl rfl rfl rfl rfl f0 rfl sz29 rfl hsc rfl fun h1 u1 => ?_;replace f0 := u1.has f0;replace fh := fh.upd u1 (by omega);replace e0 := e0.upd u1 (by omega);apply gE;apply gS;refine gR rfl ?_;refine gO rfl rfl (fa29_3 rfl) rfl ?_;refine GoR.store rfl rfl rfl rfl rfl rfl f0 rfl sz26 rfl rfl rfl fun h2 u2 => ?_;replace f0 := u2.has f0;replace fh := fh.upd u2 (by omega);replace e0 := e0.upd u2 (by omega);apply gE;iterate 2 apply gS
 refine gR rfl ?_;refine gO rfl rfl (fa29_3 rfl) rfl ?_;refine gO rfl rfl (ld26 rfl fh rfl) rfl ?_;refine gO rfl rfl (aOp_lenSlice Try.underlying26 rfl hl4) rfl ?_;refine gP ?_;apply gE;refine Go.block noJ_ok ?_
 have hb0 := f0.1
 have hn2 : h2.next = h0.next := by rw [u2.1, u1.1]
 refine Go.loopKeep (fun a : Nat × AVal => [(0, .int .i64 (st : Nat)), (1, .ptr bh 0), (4, .ptr h.next 0), (12, s), (13, .int .i64 D.ss.length), (14, .int .i64 (a.1 : Nat))])
  (fun m a h' => m + a.1 = D.ss.length ∧ Ext h h' ∧ h2.next ≤ h'.next ∧ Has h' h.next (.cells .plain [b, d, r, a.2] 29) ∧ Grow h' 32 2 h2.next a.2 (onlyV st 0 (D.ss.take a.1)).length ((onlyV st 0 (D.ss.take a.1)).flatMap spC))
  (n := D.ss.length) (0, .nilslice) ⟨rfl, rfl, rfl, rfl, rfl, rfl, trivial⟩ ⟨rfl, e0, Nat.le_refl _, f0, Grow.nil _ _ _ _⟩ ?_
 clear e0 f0 fh;rintro m ⟨i, sl⟩ h10 ⟨hm, e0, hn10, f0, G⟩ again
 dsimp only at hm f0 G ⊢
 by_cases hi : i < D.ss.length
 ·obtain ⟨x, hx⟩ : ∃ x, D.ss[i]? = some x := ⟨D.ss[i], by simp [hi]⟩
  obtain ⟨bq, off, q1, q2⟩ := (A.ss.ext e0).at (i := i) (l := spC x) (by rw [List.getElem?_map, hx]; rfl)
  rw [List.length_map] at q1
  have hap := only_take (s := st) hx
  have hbit := bit_int st i
  have hlen := only_len (s := st) (L := D.ss.take i) (k := 0)
  rw [List.length_take] at hlen
  obtain ⟨xa, xb⟩ := x
  unfold spC at q2
  dsimp only at q2 hap
  have e1 : Ext h10 h10 := Ext.refl _
  cases hb : st.testBit i with
  | true =>
   rw [if_pos hb] at hap;rw [hb] at hbit;apply gS;refine gR rfl ?_;refine gO rfl rfl (kLT rfl rfl) rfl ?_;apply gE;apply gS;refine gC (b := true) rfl ?_;refine gD ?_;apply gS;refine Go.block noJ_ok ?_;apply gS;refine gR rfl ?_;refine gP ?_;refine gO rfl rfl (aOp_indexAddr (i := i) Try.underlying26 sz32 rfl q1 rfl (Nat.ble_eq_true_of_le hi)) rfl ?_;refine gO rfl rfl (aOp_loadE ag32 sz32 rfl (q2.ext e1)) rfl ?_;refine GoR.alloc rfl rfl rfl zt32 rfl rfl fun h11 x11 f11 => ?_;have := e0.1;have := e1.1;have := f0.1;replace f0 := f0.ext x11;replace e0 := e0.trans x11;replace e1 := e1.trans x11;have := f11.1;refine gP ?_;refine GoR.store rfl rfl rfl rfl rfl rfl f11 rfl sz32 rfl rfl rfl fun h12 u12 => ?_;replace f11 := u12.has f11;replace f0 := f0.upd u12 (by omega);replace e0 := e0.upd u12 (by omega);replace e1 := e1.upd u12 (by omega);apply gE;apply gS;refine gR rfl ?_;iterate 2 refine gP ?_
   refine gO rfl rfl (aOp_shr rfl rfl (by omega) rfl) rfl ?_;refine gO rfl rfl (aOp_and1 rfl rfl rfl) rfl ?_;refine gO rfl rfl (aOp_eql rfl rfl hbit) rfl ?_;apply gE;refine gC (b := true) rfl ?_;refine gR rfl ?_;refine gO rfl rfl (fa29_3 rfl) rfl ?_;refine gO rfl rfl (ld26 rfl f0 rfl) rfl ?_;refine gO rfl rfl (ld32 rfl f11 rfl) rfl ?_;refine GoR.buildSl rfl rfl (ps := [(0, .agg [.int .i64 xa, .int .i64 xb])]) (cs := [.int .i64 xa, .int .i64 xb]) Try.underlying26 rfl sz32 zt32 rfl rfl rfl rfl fun h13 x13 f13 => ?_;have := e0.1;have := e1.1;have := f11.1;have := f0.1;replace f11 := f11.ext x13;replace f0 := f0.ext x13;replace e0 := e0.trans x13;replace e1 := e1.trans x13;have := f13.1
   have G' := G.ext e1
   have hx1 := e1.1
   refine GoR.append1F (lo := h2.next) (s := sl) rfl rfl rfl Try.underlying26 Try.underlying26 sz32 by32 zt32 rfl rfl rfl rfl f13 rfl rfl G' (by omega) rfl rfl fun s6 h59 y59 g59 => ?_
   have e9 : Ext h h59 := y59.low e0 (fun b q => by have := (grow_own G' q).1; omega)
   have f9 := f0.extF y59 (fun q => by have := (grow_own G' q).1; omega)
   have hy := y59.1
   obtain ⟨hk1, hk2⟩ := grow_scal g59
   have hst1 : Nat.beq s6.cells.length 1 = true := by rw [hk2]; rfl
   have hst2 : scalars s6.cells = true := by rw [hk2]; exact hk1
   have hst3 : splice [b, d, r, sl] (0 + 3) s6.cells = some [b, d, r, s6] := by rw [hk2]; rfl
   clear e0 e1 f0 f13 f11 y59
   have e0 := e9
   have f0 := f9
   clear e9 f9;refine gO rfl rfl (fa29_3 rfl) rfl ?_;refine GoR.store rfl rfl rfl rfl rfl rfl f0 rfl sz26 hst1 hst2 hst3 fun h60 u60 => ?_;replace f0 := u60.has f0;replace e0 := e0.upd u60 (by omega);apply gE;refine Go.inBlock noJ_ok ?_;refine gR rfl ?_;refine gO rfl rfl (aA rfl rfl) rfl ?_;refine gP ?_;apply gE
   have hu := u60.1
   refine again (m - 1) (i + 1, s6) _ _ (by omega) ⟨rfl, rfl, rfl, rfl, rfl, rfl, trivial⟩ ⟨by dsimp only; omega, e0, by omega, f0, ?_⟩
   dsimp only
   rw [hap, List.length_append, List.flatMap_append];exact (g59.low (by omega)).keep (by omega) fun b hb1 hb2 hb3 => u60.2.2 b (by have := (grow_own g59 hb3).1; omega)
  | false =>
   rw [if_neg (by rw [hb]; decide), List.append_nil] at hap;rw [hb] at hbit;apply gS;refine gR rfl ?_;refine gO rfl rfl (kLT rfl rfl) rfl ?_;apply gE;apply gS;refine gC (b := true) rfl ?_;refine gD ?_;apply gS;refine Go.block noJ_ok ?_;apply gS;refine gR rfl ?_;refine gP ?_;refine gO rfl rfl (aOp_indexAddr (i := i) Try.underlying26 sz32 rfl q1 rfl (Nat.ble_eq_true_of_le hi)) rfl ?_;refine gO rfl rfl (aOp_loadE ag32 sz32 rfl (q2.ext e1)) rfl ?_;refine GoR.alloc rfl rfl rfl zt32 rfl rfl fun h11 x11 f11 => ?_;have := e0.1;have := e1.1;have := f0.1;replace f0 := f0.ext x11;replace e0 := e0.trans x11;replace e1 := e1.trans x11;have := f11.1;refine gP ?_;refine GoR.store rfl rfl rfl rfl rfl rfl f11 rfl sz32 rfl rfl rfl fun h12 u12 => ?_;replace f0 := f0.upd u12 (by omega);replace e0 := e0.upd u12 (by omega);replace e1 := e1.upd u12 (by omega);apply gE;apply gS;refine gR rfl ?_;iterate 2 refine gP ?_
   refine gO rfl rfl (aOp_shr rfl rfl (by omega) rfl) rfl ?_;refine gO rfl rfl (aOp_and1 rfl rfl rfl) rfl ?_;refine gO rfl rfl (aOp_eql rfl rfl hbit) rfl ?_;apply gE;refine gC (b := false) rfl ?_;refine gD ?_;refine Go.inBlock noJ_ok ?_;refine gR rfl ?_;refine gO rfl rfl (aA rfl rfl) rfl ?_;refine gP ?_;apply gE
   have hx1 := e1.1
   exact again (m - 1) (i + 1, sl) _ _ (by omega) ⟨rfl, rfl, rfl, rfl, rfl, rfl, trivial⟩ ⟨by dsimp only; omega, e0, by omega, f0, by dsimp only; rw [hap]; exact G.ext e1⟩
 ·have hin : i = D.ss.length := by omega
  subst hin;rw [List.take_length] at G
  have hlen := only_len (s := st) (L := D.ss) (k := 0)
  have O2 := with_ok O (L := onlyV st 0 D.ss) (by omega) fun l q => only_sub q
  have hcl := with_truths D st
  have hcs : D.clashes st = (D.with (onlyV st 0 D.ss)).truths.isEmpty := by rw [hcl]; rfl
  rw [hcs];clear hcs hcl
  obtain ⟨L, hL⟩ : ∃ L, onlyV st 0 D.ss = L := ⟨_, rfl⟩
  rw [hL] at G hlen O2 ⊢
  have hslS : SliceOf h10 2 sl (L.map spC) := by
   have k : Grow h10 32 2 h2.next sl (L.map spC).length ((L.map spC).flatten) := by
    rw [List.length_map, ← List.flatMap_def];exact G
   exact k.sliceOf (slice_flatten fun l hl => by obtain ⟨_, _, rfl⟩ := List.mem_map.1 hl; rfl)
  have hW := fun {h'} (e : Ext h h') (e' : Ext h10 h') => Next_ok (D := D.with L) (⟨A.bs.ext e, A.ds.ext e, A.rs.ext e, hslS.ext e'⟩ : DrainAt h' (D.with L) b d r sl) O2.B 0
  have e1 : Ext h10 h10 := Ext.refl _
  rw [nextR_e O2] at hW
  unfold dC at hW
  by_cases hT : (D.with L).truths = []
  ·rw [DrainV.tr_no hT] at hW;rw [hT];apply gS;refine gR rfl ?_;refine gO rfl rfl (kLF rfl rfl) rfl ?_;apply gE;apply gS;refine gC (b := false) rfl ?_;refine gD ?_;apply gS;refine gR rfl ?_;refine gO rfl rfl (ld29 rfl f0 rfl) rfl ?_;refine GoR.call rfl rfl (aCF aFunc10 rfl) (hW e0 e1) ?_ np;rintro v11 h11 ⟨q, x11⟩;cases q;refine ⟨_, rfl, ?_⟩;replace e0 := e0.trans x11;iterate 5 refine gP ?_
   apply gE;apply gS;refine gR rfl ?_;refine gP ?_;refine gO rfl rfl (kET rfl rfl) rfl ?_;refine gP ?_;apply gE;exact gW Try.func35 rfl rfl ⟨rfl, e0⟩
  ·rw [DrainV.tr_yes hT] at hW;rw [show (D.with L).truths.isEmpty = false from by cases q : (D.with L).truths with | nil => exact absurd q hT | cons a b => rfl]
   obtain ⟨J, hJ⟩ : ∃ J, (D.with L).nexts 0 = J := ⟨_, rfl⟩
   rw [hJ] at hW;apply gS;refine gR rfl ?_;refine gO rfl rfl (kLF rfl rfl) rfl ?_;apply gE;apply gS;refine gC (b := false) rfl ?_;refine gD ?_;apply gS;refine gR rfl ?_;refine gO rfl rfl (ld29 rfl f0 rfl) rfl ?_;refine GoR.call rfl rfl (aCF aFunc10 rfl) (hW e0 e1) ?_ np;rintro v11 h11 ⟨q, x11⟩;cases q;refine ⟨_, rfl, ?_⟩;replace e0 := e0.trans x11;iterate 5 refine gP ?_
   apply gE;apply gS;refine gR rfl ?_;refine gP ?_;refine gO rfl rfl (kEF rfl rfl) rfl ?_;refine gP ?_;apply gE;exact gW Try.func35 rfl rfl ⟨rfl, e0⟩
end Go.Proofs.Ytkhiagdmbajimaa

namespace Go.Proofs.Ytkhiagdmbajimaa
open Go Go.AbsE
set_option linter.unusedSimpArgs false
set_option maxRecDepth 100000
set_option maxHeartbeats 0
set_option linter.unusedVariables false
theorem clashR_is {D : DrainV} (O : D.Ok) : D.clashR = D.clashQ := DrainV.ok_yes O
theorem DrainB.L {D : DrainV} (B : DrainB D) : DrainL D := ⟨by have := B.b; omega, by have := B.d; omega, by have := B.r; omega, by have := B.s; omega⟩
theorem law8_far {D : DrainV} {b d r s : AVal} {h : AH} (A : DrainAt h D b d r s) (L : DrainL D) (B : ¬ DrainB D) {w1 : Int} : Runs Try.prog 8 [.agg (dC b d r s), .int .u8 w1] h (fun en h' => en = .ret (.bool true) ∧ Ext h h') := by
 have hF := fun {h'} (e : Ext h h') => far_ok (A.ext e) L
 rw [decide_eq_true B] at hF
 have hsm := A.same
 unfold dC at *
 have e0 : Ext h h := Ext.refl _
 refine Runs.intro aFunc8 rfl rfl rfl rfl fun rest => ?_;apply gS;refine gR rfl ?_;refine GoR.box rfl rfl rfl rfl rfl rfl fun h0 x0 f0 => ?_;replace e0 := e0.trans x0;refine gP ?_;apply gE;iterate 2 apply gS
 refine gR rfl ?_;refine gO rfl rfl (ld29 rfl f0 rfl) rfl ?_;refine GoR.call rfl rfl (aCF aFunc22 rfl) (hF e0) ?_ np;rintro v1 h1 ⟨q, x1⟩;cases q;refine ⟨_, rfl, ?_⟩;replace e0 := e0.trans x1;apply gE;refine gC (b := true) rfl ?_;apply gS;refine gR rfl ?_;refine GoR.call rfl rfl (aCF aFunc20 rfl) (awake_ok) ?_ np;rintro v2 h2 ⟨q, x2⟩;cases q;refine ⟨_, rfl, ?_⟩;replace e0 := e0.trans x2;refine gP ?_;apply gE;exact gW Try.func8 rfl rfl ⟨rfl, e0⟩
theorem law8_bad {D : DrainV} {b d r s : AVal} {h : AH} (A : DrainAt h D b d r s) (B : DrainB D) (O : ¬ D.Ok) {w1 : Int} : Runs Try.prog 8 [.agg (dC b d r s), .int .u8 w1] h (fun en h' => en = .ret (.bool true) ∧ Ext h h') := by
 have hF := fun {h'} (e : Ext h h') => far_ok (A.ext e) B.L
 rw [decide_eq_false (fun w => w B)] at hF
 have hR := fun {h'} (e : Ext h h') => Drain23_ok (A.ext e) B
 rw [decide_eq_false O] at hR
 have hCl := fun {h'} (e : Ext h h') => Clash_ok (A.ext e) B
 rw [show D.clashR = (0, 1) from DrainV.ok_no O] at hCl
 have hsm := A.same
 unfold dC at *
 have e0 : Ext h h := Ext.refl _
 refine Runs.intro aFunc8 rfl rfl rfl rfl fun rest => ?_;apply gS;refine gR rfl ?_;refine GoR.box rfl rfl rfl rfl rfl rfl fun h0 x0 f0 => ?_;replace e0 := e0.trans x0;refine gP ?_;apply gE;iterate 2 apply gS
 refine gR rfl ?_;refine gO rfl rfl (ld29 rfl f0 rfl) rfl ?_;refine GoR.call rfl rfl (aCF aFunc22 rfl) (hF e0) ?_ np;rintro v1 h1 ⟨q, x1⟩;cases q;refine ⟨_, rfl, ?_⟩;replace f0 := f0.ext x1;replace e0 := e0.trans x1;apply gE;refine gC (b := false) rfl ?_;refine gD ?_;apply gS;refine gR rfl ?_;refine gO rfl rfl (ld29 rfl f0 rfl) rfl ?_;refine GoR.call rfl rfl (aCF aFunc19 rfl) (hCl e0) ?_ np;rintro v2 h2 ⟨q, x2⟩;cases q;refine ⟨_, rfl, ?_⟩;replace f0 := f0.ext x2;replace e0 := e0.trans x2;iterate 5 refine gP ?_
 apply gE;iterate 2 apply gS
 refine gR rfl ?_;refine gO rfl rfl (ld29 rfl f0 rfl) rfl ?_;refine GoR.call rfl rfl (aCF aFunc23 rfl) (hR e0) ?_ np;rintro v3 h3 ⟨q, x3⟩;cases q;refine ⟨_, rfl, ?_⟩;replace e0 := e0.trans x3;refine gP ?_;apply gE;refine gC (b := true) rfl ?_;apply gS;refine gR rfl ?_;refine gP ?_;refine gO rfl rfl (kET rfl rfl) rfl ?_;iterate 2 refine gP ?_
 refine gO rfl rfl (kET rfl rfl) rfl ?_;iterate 2 refine gP ?_
 refine GoR.call rfl rfl (aCF aFunc20 rfl) (awake_ok) ?_ np;rintro v4 h4 ⟨q, x4⟩;cases q;refine ⟨_, rfl, ?_⟩;replace e0 := e0.trans x4;iterate 2 refine gP ?_
 apply gE;exact gW Try.func8 rfl rfl ⟨rfl, e0⟩
theorem law8_ok {D : DrainV} {b d r s : AVal} {h : AH} (A : DrainAt h D b d r s) (O : D.Ok) {w : Nat} (hw : w < 256) : Runs Try.prog 8 [.agg (dC b d r s), .int .u8 (w : Nat)] h (fun en h' => en = .ret (.bool true) ∧ Ext h h') := by
 have hnb := O.nb
 have hns := O.ns
 have hF := fun {h'} (e : Ext h h') => far_ok (A.ext e) O.B.L
 rw [decide_eq_false (fun w => w O.B)] at hF
 have hR := fun {h'} (e : Ext h h') => Drain23_ok (A.ext e) O.B
 rw [decide_eq_true O] at hR
 have hl4 := A.ss.len
 rw [List.length_map] at hl4
 have hCl := fun {h'} (e : Ext h h') => Clash_ok (A.ext e) O.B
 rw [clashR_is O] at hCl
 have hsm := A.same
 by_cases hT : D.truths = []
 ·obtain ⟨q, z1, z2, z3, z5, z6⟩ := clash_ex O hT
  have hq32 : 2 ^ D.ss.length ≤ 2 ^ 4 := Nat.pow_le_pow_right (by decide) hns
  rw [show D.clashQ = ((q : Int), 0) from by unfold DrainV.clashQ; rw [z1]] at hCl
  dsimp only at hCl
  obtain ⟨pw, hpw⟩ : ∃ pw, 2 ^ D.ss.length = pw := ⟨_, rfl⟩
  have hp0 : 0 < pw := by rw [← hpw]; exact Nat.two_pow_pos _
  have hshl : (1 : Int) * 2 ^ D.ss.length = (pw : Nat) := by rw [Int.one_mul, ← hpw]; push_cast; rfl
  rw [hpw] at z3 z6 hq32
  obtain ⟨al, rfl⟩ : ∃ al, pw = al + 1 := ⟨pw - 1, by omega⟩
  have hal : ((al + 1 : Nat) : Int) - 1 = (al : Nat) := by omega
  have hbx : ∀ {h' : AH}, Ext h h' → Has h' h.next (.cells .plain (dC b d r s) 29) → ∀ z : Nat, Runs Try.prog 35 [.int .i64 (z : Nat), .ptr h.next 0] h' (fun en h'' => en = .ret (.bool (D.clashes z)) ∧ Ext h' h'') := fun e f z => clash35_ok O (A.ext e) f
  have hcq := fun {h' : AH} (e : Ext h h') f => hbx e f q
  rw [z5] at hcq
  obtain ⟨own, hown⟩ : ∃ own, w &&& al = own := ⟨_, rfl⟩
  have hownl : own ≤ al := by rw [← hown]; exact Nat.and_le_right
  have hco := fun {h' : AH} (e : Ext h h') f => hbx e f own
  have hs2 := fun {h'} => size28_ok own (by omega) (h := h')
  have hs3 := fun {h'} => size28_ok q (by omega) (h := h')
  have hp5 := popc_le own
  have hp6 := popc_le q
  have hall : D.clashes al = true := by
   have : D.all = al := by unfold DrainV.all; omega
   rw [← this]
   show D.truths.isEmpty = true
   rw [hT]
   rfl
  have hca := fun {h' : AH} (e : Ext h h') f => hbx e f al
  rw [hall] at hca
  have hpart : ∀ i, i < 10 → q.testBit i = true → D.clashes (andNot q (2 ^ i)) = false := fun i hi k => by
   have h1 := popc_less q (by omega) i hi k
   have h3 := andNot_le q (2 ^ i) (by omega)
   cases z : D.clashes (andNot q (2 ^ i)) with
   | false => rfl
   | true =>
    have := z6 _ (by omega) z
    omega
  clear hbx
  have hbx2 : ∀ {h' : AH}, Ext h h' → Has h' h.next (.cells .plain (dC b d r s) 29) → ∀ z : Nat, Runs Try.prog 35 [.int .i64 (z : Nat), .ptr h.next 0] h' (fun en h'' => en = .ret (.bool (D.clashes z)) ∧ Ext h' h'') := fun e f z => clash35_ok O (A.ext e) f
  unfold dC at *
  have e0 : Ext h h := Ext.refl _
  refine Runs.intro aFunc8 rfl rfl rfl rfl fun rest => ?_;apply gS;refine gR rfl ?_;refine GoR.box rfl rfl rfl rfl rfl rfl fun h0 x0 f0 => ?_;have := e0.1;replace e0 := e0.trans x0;have := f0.1;refine gP ?_;apply gE;iterate 2 apply gS
  refine gR rfl ?_;refine gO rfl rfl (ld29 rfl f0 rfl) rfl ?_;refine GoR.call rfl rfl (aCF aFunc22 rfl) (hF e0) ?_ np;rintro v1 h1 ⟨q, x1⟩;cases q;refine ⟨_, rfl, ?_⟩;replace f0 := f0.ext x1;replace e0 := e0.trans x1;apply gE;refine gC (b := false) rfl ?_;refine gD ?_;apply gS;refine gR rfl ?_;refine gO rfl rfl (ld29 rfl f0 rfl) rfl ?_;refine GoR.call rfl rfl (aCF aFunc19 rfl) (hCl e0) ?_ np;rintro v2 h2 ⟨q, x2⟩;cases q;refine ⟨_, rfl, ?_⟩;replace f0 := f0.ext x2;replace e0 := e0.trans x2;iterate 5 refine gP ?_
  apply gE;iterate 2 apply gS
  refine gR rfl ?_;refine gO rfl rfl (ld29 rfl f0 rfl) rfl ?_;refine GoR.call rfl rfl (aCF aFunc23 rfl) (hR e0) ?_ np;rintro v3 h3 ⟨q, x3⟩;cases q;refine ⟨_, rfl, ?_⟩;replace f0 := f0.ext x3;replace e0 := e0.trans x3;refine gP ?_;apply gE;refine gC (b := false) rfl ?_;refine gD ?_;apply gS;refine gR rfl ?_;iterate 2 refine gP ?_
  apply gE;apply gS;refine gR rfl ?_;refine gO rfl rfl (fa29_3 rfl) rfl ?_;refine gO rfl rfl (ld26 rfl f0 rfl) rfl ?_;refine gO rfl rfl (aOp_lenSlice Try.underlying26 rfl hl4) rfl ?_;refine gO rfl rfl (aOp_shl rfl rfl (by omega) hshl (by omega)) rfl ?_;refine gO rfl rfl (aOp_sub rfl rfl (by constructor <;> omega) hal) rfl ?_;refine gP ?_;apply gE;iterate 2 apply gS
  refine gR rfl ?_;refine gP ?_;refine gO rfl rfl (kET rfl rfl) rfl ?_;iterate 2 refine gP ?_
  refine GoR.call rfl rfl (aOp_callVal rfl aFunc35 rfl) (hca e0 f0) ?_ np;rintro v4 h4 ⟨q, x4⟩;cases q;refine ⟨_, rfl, ?_⟩;replace f0 := f0.ext x4;replace e0 := e0.trans x4;refine gO rfl rfl (aOp_neqBool (r := false) rfl rfl Try.underlying4 rfl) rfl ?_;iterate 2 refine gP ?_
  refine gO rfl rfl (kXF rfl rfl) rfl ?_;refine gP ?_;iterate 6 refine GoR.skip rfl rfl rfl ?_
  iterate 2 refine gP ?_
  apply gE;refine gC (b := false) rfl ?_;refine gD ?_;iterate 2 apply gS
  refine gR rfl ?_;refine gP ?_;refine gO rfl rfl (kXF rfl rfl) rfl ?_;apply gE;refine gC (b := false) rfl ?_;refine gD ?_;iterate 2 apply gS
  refine gR rfl ?_;refine gP ?_;refine gO rfl rfl (kLF rfl rfl) rfl ?_;iterate 3 refine gP ?_
  refine gO rfl rfl (kGF rfl rfl) rfl ?_;iterate 4 refine gP ?_
  refine GoR.call rfl rfl (aOp_callVal rfl aFunc35 rfl) (hcq e0 f0) ?_ np;rintro v5 h5 ⟨q, x5⟩;cases q;refine ⟨_, rfl, ?_⟩;replace f0 := f0.ext x5;replace e0 := e0.trans x5;iterate 2 refine gP ?_
  apply gE;refine gC (b := false) rfl ?_;refine gD ?_;iterate 2 apply gS
  refine gR rfl ?_;refine gO rfl rfl (fa29_3 rfl) rfl ?_;refine gO rfl rfl (ld26 rfl f0 rfl) rfl ?_;refine gO rfl rfl (aOp_lenSlice Try.underlying26 rfl hl4) rfl ?_;refine gP ?_;apply gE;refine Go.block noJ_ok ?_;refine Go.loopKeep (fun i : Nat => [(1, .int .u8 (w : Nat)), (2, .ptr h.next 0), (5, .int .i64 (q : Nat)), (8, .int .i64 (al : Nat)), (7, .func (.func 35) [] [.ptr h.next 0]), (74, .int .i64 D.ss.length), (75, .int .i64 (i : Nat))]) (fun m i h' => m + i = D.ss.length ∧ Ext h h' ∧ Has h' h.next (.cells .plain [b, d, r, s] 29)) (n := D.ss.length) 0 ⟨rfl, rfl, rfl, rfl, rfl, rfl, rfl, trivial⟩ ⟨rfl, e0, f0⟩ ?_;clear e0 f0;rintro m i h70 ⟨hm, e0, f0⟩ again
  have hce := e0.1
  have hb0 := f0.1
  by_cases hi : i < D.ss.length
  ·have hbit := bit_int q i
   have h2i : 2 ^ i ≤ 2 ^ 4 := Nat.pow_le_pow_right (by decide) (by omega)
   obtain ⟨p2, hp2⟩ : ∃ p2, 2 ^ i = p2 := ⟨_, rfl⟩
   have hsh2 : (1 : Int) * 2 ^ i = (p2 : Nat) := by rw [Int.one_mul, ← hp2]; push_cast; rfl
   cases hb : q.testBit i with
   | false =>
    rw [hb] at hbit;apply gS;refine gR rfl ?_;refine gO rfl rfl (kLT rfl rfl) rfl ?_;apply gE;apply gS;refine gC (b := true) rfl ?_;refine gD ?_;apply gS;refine Go.block noJ_ok ?_;apply gS;refine gR rfl ?_;iterate 2 refine gP ?_
    apply gE;apply gS;refine gR rfl ?_;iterate 2 refine gP ?_
    refine gO rfl rfl (aOp_shr rfl rfl (by omega) rfl) rfl ?_;refine gO rfl rfl (aOp_and1 rfl rfl rfl) rfl ?_;refine gO rfl rfl (aOp_eql rfl rfl hbit) rfl ?_;refine gP ?_;iterate 6 refine GoR.skip rfl rfl rfl ?_
    refine gP ?_;apply gE;refine gC (b := false) rfl ?_;refine gD ?_;refine Go.inBlock noJ_ok ?_;refine gR rfl ?_;refine gO rfl rfl (aA rfl rfl) rfl ?_;refine gP ?_;apply gE;exact again (m - 1) (i + 1) _ _ (by omega) ⟨rfl, rfl, rfl, rfl, rfl, rfl, rfl, trivial⟩ ⟨by omega, e0, f0⟩
   | true =>
    rw [hb] at hbit
    have hp7 := hpart i (by omega) hb
    have hc7 := fun {h' : AH} (e : Ext h h') f => hbx2 (h' := h') e f (andNot q p2)
    rw [hp2] at hp7 h2i;rw [hp7] at hc7;apply gS;refine gR rfl ?_;refine gO rfl rfl (kLT rfl rfl) rfl ?_;apply gE;apply gS;refine gC (b := true) rfl ?_;refine gD ?_;apply gS;refine Go.block noJ_ok ?_;apply gS;refine gR rfl ?_;iterate 2 refine gP ?_
    apply gE;apply gS;refine gR rfl ?_;iterate 2 refine gP ?_
    refine gO rfl rfl (aOp_shr rfl rfl (by omega) rfl) rfl ?_;refine gO rfl rfl (aOp_and1 rfl rfl rfl) rfl ?_;refine gO rfl rfl (aOp_eql rfl rfl hbit) rfl ?_;iterate 4 refine gP ?_
    refine gO rfl rfl (aOp_shl rfl rfl (by omega) hsh2 (by omega)) rfl ?_;refine gO rfl rfl (aOp_andNot (r := andNot q p2) rfl rfl (by omega) rfl) rfl ?_;refine GoR.call rfl rfl (aOp_callVal rfl aFunc35 rfl) (hc7 e0 f0) ?_ np;rintro v71 h71 ⟨q, x71⟩;cases q;refine ⟨_, rfl, ?_⟩;replace f0 := f0.ext x71;replace e0 := e0.trans x71;refine gP ?_;apply gE;refine gC (b := false) rfl ?_;refine gD ?_;refine Go.inBlock noJ_ok ?_;refine gR rfl ?_;refine gO rfl rfl (aA rfl rfl) rfl ?_;refine gP ?_;apply gE;exact again (m - 1) (i + 1) _ _ (by omega) ⟨rfl, rfl, rfl, rfl, rfl, rfl, rfl, trivial⟩ ⟨by omega, e0, f0⟩
  ·clear again
   cases hk : D.clashes own with
   | false =>
    rw [hk] at hco;apply gS;refine gR rfl ?_;refine gO rfl rfl (kLF rfl rfl) rfl ?_;apply gE;apply gS;refine gC (b := false) rfl ?_;refine gD ?_;apply gS;refine gR rfl ?_;refine gP ?_;refine gO rfl rfl (aOp_convU8 rfl Try.underlying5 Try.underlying3 (by omega)) rfl ?_;refine gP ?_;refine gO rfl rfl (aOp_andNat rfl rfl (by omega) (by omega) hown) rfl ?_;iterate 2 refine gP ?_
    apply gE;apply gS;refine gR rfl ?_;iterate 2 refine gP ?_
    refine GoR.call rfl rfl (aOp_callVal rfl aFunc35 rfl) (hco e0 f0) ?_ np;rintro v71 h71 ⟨q, x71⟩;cases q;refine ⟨_, rfl, ?_⟩;replace f0 := f0.ext x71;replace e0 := e0.trans x71;iterate 2 refine gP ?_
    iterate 7 refine GoR.skip rfl rfl rfl ?_
    iterate 2 refine gP ?_
    iterate 12 refine GoR.skip rfl rfl rfl ?_
    iterate 2 refine gP ?_
    refine GoR.call rfl rfl (aCF aFunc20 rfl) (awake_ok) ?_ np;rintro v72 h72 ⟨q, x72⟩;cases q;refine ⟨_, rfl, ?_⟩;replace f0 := f0.ext x72;replace e0 := e0.trans x72;iterate 2 refine gP ?_
    apply gE;exact gW Try.func8 rfl rfl ⟨rfl, e0⟩
   | true =>
    rw [hk] at hco
    have hl := z6 own (by omega) hk
    by_cases hpo : popc q = popc own
    ·apply gS;refine gR rfl ?_;refine gO rfl rfl (kLF rfl rfl) rfl ?_;apply gE;apply gS;refine gC (b := false) rfl ?_;refine gD ?_;apply gS;refine gR rfl ?_;refine gP ?_;refine gO rfl rfl (aOp_convU8 rfl Try.underlying5 Try.underlying3 (by omega)) rfl ?_;refine gP ?_;refine gO rfl rfl (aOp_andNat rfl rfl (by omega) (by omega) hown) rfl ?_;iterate 2 refine gP ?_
     apply gE;apply gS;refine gR rfl ?_;iterate 2 refine gP ?_
     refine GoR.call rfl rfl (aOp_callVal rfl aFunc35 rfl) (hco e0 f0) ?_ np;rintro v71 h71 ⟨q, x71⟩;cases q;refine ⟨_, rfl, ?_⟩;replace e0 := e0.trans x71;iterate 4 refine gP ?_
     refine GoR.call rfl rfl (aOp_callVal rfl aFunc28 rfl) (hs2) ?_ np;rintro v72 h72 ⟨q, x72⟩;cases q;refine ⟨_, rfl, ?_⟩;replace e0 := e0.trans x72;iterate 2 refine gP ?_
     refine GoR.call rfl rfl (aOp_callVal rfl aFunc28 rfl) (hs3) ?_ np;rintro v73 h73 ⟨q, x73⟩;cases q;refine ⟨_, rfl, ?_⟩;replace e0 := e0.trans x73;refine gO rfl rfl (kGF rfl rfl) rfl ?_;iterate 4 refine gP ?_
     refine GoR.call rfl rfl (aOp_callVal rfl aFunc28 rfl) (hs2) ?_ np;rintro v74 h74 ⟨q, x74⟩;cases q;refine ⟨_, rfl, ?_⟩;replace e0 := e0.trans x74;iterate 2 refine gP ?_
     refine GoR.call rfl rfl (aOp_callVal rfl aFunc28 rfl) (hs3) ?_ np;rintro v75 h75 ⟨q, x75⟩;cases q;refine ⟨_, rfl, ?_⟩;replace e0 := e0.trans x75;refine gO rfl rfl (kET rfl rfl) rfl ?_;iterate 3 refine gP ?_
     refine gO rfl rfl (kNT rfl rfl) rfl ?_;iterate 3 refine gP ?_
     refine GoR.call rfl rfl (aCF aFunc20 rfl) (awake_ok) ?_ np;rintro v76 h76 ⟨q, x76⟩;cases q;refine ⟨_, rfl, ?_⟩;replace e0 := e0.trans x76;iterate 2 refine gP ?_
     apply gE;exact gW Try.func8 rfl rfl ⟨rfl, e0⟩
    ·apply gS;refine gR rfl ?_;refine gO rfl rfl (kLF rfl rfl) rfl ?_;apply gE;apply gS;refine gC (b := false) rfl ?_;refine gD ?_;apply gS;refine gR rfl ?_;refine gP ?_;refine gO rfl rfl (aOp_convU8 rfl Try.underlying5 Try.underlying3 (by omega)) rfl ?_;refine gP ?_;refine gO rfl rfl (aOp_andNat rfl rfl (by omega) (by omega) hown) rfl ?_;iterate 2 refine gP ?_
     apply gE;apply gS;refine gR rfl ?_;iterate 2 refine gP ?_
     refine GoR.call rfl rfl (aOp_callVal rfl aFunc35 rfl) (hco e0 f0) ?_ np;rintro v71 h71 ⟨q, x71⟩;cases q;refine ⟨_, rfl, ?_⟩;replace e0 := e0.trans x71;iterate 4 refine gP ?_
     refine GoR.call rfl rfl (aOp_callVal rfl aFunc28 rfl) (hs2) ?_ np;rintro v72 h72 ⟨q, x72⟩;cases q;refine ⟨_, rfl, ?_⟩;replace e0 := e0.trans x72;iterate 2 refine gP ?_
     refine GoR.call rfl rfl (aOp_callVal rfl aFunc28 rfl) (hs3) ?_ np;rintro v73 h73 ⟨q, x73⟩;cases q;refine ⟨_, rfl, ?_⟩;replace e0 := e0.trans x73;refine gO rfl rfl (kGT rfl rfl) rfl ?_;iterate 2 refine gP ?_
     iterate 12 refine GoR.skip rfl rfl rfl ?_
     iterate 2 refine gP ?_
     refine GoR.call rfl rfl (aCF aFunc20 rfl) (awake_ok) ?_ np;rintro v74 h74 ⟨q, x74⟩;cases q;refine ⟨_, rfl, ?_⟩;replace e0 := e0.trans x74;iterate 2 refine gP ?_
     apply gE;exact gW Try.func8 rfl rfl ⟨rfl, e0⟩
 ·have hv := noclash hT
  rw [show D.clashQ = (0, 4) from by unfold DrainV.clashQ; rw [hv]] at hCl
  dsimp only at hCl
  have hbx2 : ∀ {h' : AH}, Ext h h' → Has h' h.next (.cells .plain (dC b d r s) 29) → ∀ z : Nat, Runs Try.prog 35 [.int .i64 (z : Nat), .ptr h.next 0] h' (fun en h'' => en = .ret (.bool (D.clashes z)) ∧ Ext h' h'') := fun e f z => clash35_ok O (A.ext e) f
  have hq32 : 2 ^ D.ss.length ≤ 2 ^ 4 := Nat.pow_le_pow_right (by decide) hns
  obtain ⟨pw, hpw⟩ : ∃ pw, 2 ^ D.ss.length = pw := ⟨_, rfl⟩
  have hp0 : 0 < pw := by rw [← hpw]; exact Nat.two_pow_pos _
  have hshl : (1 : Int) * 2 ^ D.ss.length = (pw : Nat) := by rw [Int.one_mul, ← hpw]; push_cast; rfl
  have hal : ((pw : Nat) : Int) - 1 = ((D.all : Nat) : Int) := by unfold DrainV.all; omega
  have hall : D.clashes D.all = false := by
   cases z : D.clashes D.all with
   | false => rfl
   | true => exact absurd (clash_more z) hT
  have hcq := fun {h' : AH} (e : Ext h h') f => hbx2 (h' := h') e f D.all
  rw [hall] at hcq
  unfold dC at *
  have e0 : Ext h h := Ext.refl _
  refine Runs.intro aFunc8 rfl rfl rfl rfl fun rest => ?_;apply gS;refine gR rfl ?_;refine GoR.box rfl rfl rfl rfl rfl rfl fun h0 x0 f0 => ?_;replace e0 := e0.trans x0;refine gP ?_;apply gE;iterate 2 apply gS
  refine gR rfl ?_;refine gO rfl rfl (ld29 rfl f0 rfl) rfl ?_;refine GoR.call rfl rfl (aCF aFunc22 rfl) (hF e0) ?_ np;rintro v1 h1 ⟨q, x1⟩;cases q;refine ⟨_, rfl, ?_⟩;replace f0 := f0.ext x1;replace e0 := e0.trans x1;apply gE;refine gC (b := false) rfl ?_;refine gD ?_;apply gS;refine gR rfl ?_;refine gO rfl rfl (ld29 rfl f0 rfl) rfl ?_;refine GoR.call rfl rfl (aCF aFunc19 rfl) (hCl e0) ?_ np;rintro v2 h2 ⟨q, x2⟩;cases q;refine ⟨_, rfl, ?_⟩;replace f0 := f0.ext x2;replace e0 := e0.trans x2;iterate 5 refine gP ?_
  apply gE;iterate 2 apply gS
  refine gR rfl ?_;refine gO rfl rfl (ld29 rfl f0 rfl) rfl ?_;refine GoR.call rfl rfl (aCF aFunc23 rfl) (hR e0) ?_ np;rintro v3 h3 ⟨q, x3⟩;cases q;refine ⟨_, rfl, ?_⟩;replace f0 := f0.ext x3;replace e0 := e0.trans x3;refine gP ?_;apply gE;refine gC (b := false) rfl ?_;refine gD ?_;apply gS;refine gR rfl ?_;iterate 2 refine gP ?_
  apply gE;apply gS;refine gR rfl ?_;refine gO rfl rfl (fa29_3 rfl) rfl ?_;refine gO rfl rfl (ld26 rfl f0 rfl) rfl ?_;refine gO rfl rfl (aOp_lenSlice Try.underlying26 rfl hl4) rfl ?_;refine gO rfl rfl (aOp_shl rfl rfl (by omega) hshl (by omega)) rfl ?_;refine gO rfl rfl (aOp_sub rfl rfl (by constructor <;> omega) hal) rfl ?_;refine gP ?_;apply gE;iterate 2 apply gS
  refine gR rfl ?_;refine gP ?_;refine gO rfl rfl (kEF rfl rfl) rfl ?_;iterate 2 refine gP ?_
  refine GoR.call rfl rfl (aOp_callVal rfl aFunc35 rfl) (hcq e0 f0) ?_ np;rintro v4 h4 ⟨q, x4⟩;cases q;refine ⟨_, rfl, ?_⟩;replace e0 := e0.trans x4;refine gO rfl rfl (aOp_neqBool (r := false) rfl rfl Try.underlying4 rfl) rfl ?_;iterate 2 refine gP ?_
  refine gO rfl rfl (kXT rfl rfl) rfl ?_;iterate 2 refine gP ?_
  refine gO rfl rfl (kXF rfl rfl) rfl ?_;iterate 2 refine gP ?_
  refine gO rfl rfl (kXF rfl rfl) rfl ?_;iterate 3 refine gP ?_
  apply gE;refine gC (b := false) rfl ?_;refine gD ?_;iterate 2 apply gS
  refine gR rfl ?_;refine gP ?_;refine gO rfl rfl (kXT rfl rfl) rfl ?_;apply gE;refine gC (b := true) rfl ?_;apply gS;refine gR rfl ?_;refine GoR.call rfl rfl (aCF aFunc20 rfl) (awake_ok) ?_ np;rintro v5 h5 ⟨q, x5⟩;cases q;refine ⟨_, rfl, ?_⟩;replace e0 := e0.trans x5;refine gP ?_;apply gE;exact gW Try.func8 rfl rfl ⟨rfl, e0⟩
theorem law8 {D : DrainV} {b d r s : AVal} {h : AH} (A : DrainAt h D b d r s) (L : DrainL D) {w1 : Int} (h1 : 0 ≤ w1 ∧ w1 < 256) : Runs Try.prog 8 [.agg (dC b d r s), .int .u8 w1] h (fun en h' => en = .ret (.bool true) ∧ Ext h h') := by
 by_cases B : DrainB D
 ·by_cases O : D.Ok
  ·obtain ⟨w, rfl⟩ := Int.eq_ofNat_of_zero_le h1.1
   exact law8_ok A O (by omega)
  ·exact law8_bad A B O
 ·exact law8_far A L B
end Go.Proofs.Ytkhiagdmbajimaa

namespace Go.AbsE
open Go Go.RowKit
section
variable {P : Program}
theorem VRs.ints {e : Env} : ∀ l : List Int, VRs e (l.map fun x => AVal.int .i64 x) (l.map fun x => Value.int .i64 x) := by
 intro l
 induction l with
 | nil => exact .nil
 | cons a l ih => exact .cons (.int _ _) ih
theorem HR.openWin {e : Env} {h : AH} {W : World} (r : HR P (Base.all W) e h W) {B lo : Nat} {PRE CS junk : List Value} {el : TypeId} {fr : Nat × Nat} {cs : List AVal} (hB : W.heap[B]? = some (.cells (PRE ++ (CS ++ junk)).toArray el fr)) (hp : PRE.length = lo) (hv : ∀ e, VRs e cs CS) :
  ∃ e' h', Env.le e e' ∧ HR P (Base.all W) e' h' W ∧ Ext h h' ∧ e' h.next = some (B, 0) ∧ Has h' h.next (.win lo cs) := by
 obtain ⟨h', k⟩ := new_some h (.win lo cs)
 obtain ⟨_, x1, x2⟩ := new_ext k
 obtain ⟨n1, n2, n3⟩ := AH.get_new k
 have hle := Env.le_ext (x := (B, 0)) r.fresh
 have hlt := (Array.getElem?_eq_some_iff.1 hB).1
 refine ⟨e.ext h.next (B, 0), h', hle, ?_, x1, Env.ext_same _ _ _, x2⟩
 refine { dom := ?_, blk := ?_, inj := ?_, imm := ?_, os := r.os, tape := r.tape, output := r.output, size := r.size, old := r.old, young := r.young }
 ·intro b' x kx
  rw [Env.ext_at] at kx
  by_cases hb' : b' = h.next
  ·omega
  ·rw [if_neg hb'] at kx; have := r.dom _ _ kx; omega
 ·intro b' o' kx
  rw [n3] at kx
  by_cases hb' : b' = h.next
  ·rw [if_pos hb'] at kx
   cases kx
   subst hb'
   exact ⟨B, 0, _, Env.ext_same _ _ _, (fun q => by cases q), hB, .win (hv _) hp⟩
  ·rw [if_neg hb'] at kx
   obtain ⟨B', c', O', k1, k2, k3, k4⟩ := r.blk _ _ kx
   exact ⟨B', c', O', hle.1 _ _ k1, k2, k3, k4.mono hle⟩
 ·intro b1 b2 B1 c1 c2 o1 o2 k1 k2 hro e1 e2
  rw [n3] at k1 k2
  rw [Env.ext_at] at e1 e2
  by_cases q1 : b1 = h.next
  ·rw [if_pos q1] at k1; cases k1; cases hro
  ·rw [if_neg q1] at k1 e1
   by_cases q2 : b2 = h.next
   ·rw [if_pos q2] at e2
    cases e2
    obtain ⟨B', c', O', j1, j2, _, _⟩ := r.blk _ _ k1
    rw [e1] at j1
    cases j1
    exact absurd hlt (j2 hro)
   ·rw [if_neg q2] at k2 e2
    exact r.inj _ _ _ _ _ _ _ k1 k2 hro e1 e2
 ·intro B1 CS' hi
  obtain ⟨i1, i2⟩ := r.imm B1 CS' hi
  refine ⟨i1, fun b' o' c' kx hro ke => ?_⟩
  rw [n3] at kx
  rw [Env.ext_at] at ke
  by_cases q : b' = h.next
  ·rw [if_pos q] at kx; cases kx; cases hro
  ·rw [if_neg q] at kx ke; exact i2 b' o' c' kx hro ke
end
end Go.AbsE

namespace Go.AbsE
open Go Go.RowKit
section
variable {P : Program}
theorem VRs.kinds {K : Type} {va : K → AVal} {vv : K → Value} (hvr : ∀ e x, VR e (va x) (vv x)) {e : Env} : ∀ l : List K, VRs e (l.map fun x => va x) (l.map fun x => vv x) := by
 intro l
 induction l with
 | nil => exact .nil
 | cons a l ih => exact .cons (hvr _ _) ih
theorem rowsG_eq {K : Type} {vv : K → Value} {C : List Value} {off sz : Nat} : ∀ (len : Nat) (f : Nat → List K), (∀ i, i < len → (f i).length = sz ∧ ∀ k n, (f i)[k]? = some n → C[off + i * sz + k]? = some (vv n)) →
  (C.drop off).take (len * sz) = (((List.range len).map f).flatten).map fun x => vv x := by
 intro len
 induction len with
 | zero => intro f _; simp
 | succ len ih =>
  intro f hf
  have h1 := ih f fun i hi => hf i (by omega)
  obtain ⟨l1, l2⟩ := hf len (by omega)
  rw [Nat.add_mul, Nat.one_mul, List.take_add, h1, List.range_succ, List.map_append, List.flatten_append, List.map_append]
  congr 1
  simp only [List.map_cons, List.map_nil, List.flatten_cons, List.flatten_nil, List.append_nil]
  rw [List.drop_drop]
  refine List.ext_getElem? fun k => ?_
  rw [List.getElem?_take, List.getElem?_drop, List.getElem?_map]
  by_cases hk : k < sz
  ·rw [if_pos hk]
   obtain ⟨n, hn⟩ : ∃ n, (f len)[k]? = some n := ⟨(f len)[k]'(by omega), by simp⟩
   rw [hn]
   exact l2 k n hn
  ·rw [if_neg hk]
   have : (f len)[k]? = none := by simp; omega
   rw [this]
   rfl
end
end Go.AbsE

namespace Go.AbsE
open Go Go.RowKit
section
variable {P : Program}
theorem HR.openRowsC {K : Type} (va : K → AVal) (vv : K → Value) (hvr : ∀ e x, VR e (va x) (vv x)) {e : Env} {h : AH} {W : World} (r : HR P (Base.all W) e h W) {a : Addr} {len cap sz : Nat} {C : Array Value} {el : TypeId} {fr : Nat × Nat} (hB : W.heap[a.block]? = some (.cells C el fr)) (hspot : a.spot = none) (f : Nat → List K)
  (hf : ∀ i, i < len → (f i).length = sz ∧ ∀ k n, (f i)[k]? = some n → W.cell? (a.add (i * sz + k)) = some (vv n)) :
  ∃ e' h' s, Env.le e e' ∧ HR P (Base.all W) e' h' W ∧ Ext h h' ∧ VR e' s (.slice (some a) len cap) ∧ SliceOf h' sz s (((List.range len).map f).map fun l => l.map fun x => va x) ∧ sameA s s = true ∧ ∃ b o, s = .slice b o len cap := by
 obtain ⟨B, off, spot⟩ := a
 dsimp only at hB hspot
 subst hspot
 have hcell : ∀ i, i < len → (f i).length = sz ∧ ∀ k n, (f i)[k]? = some n → C.toList[off + i * sz + k]? = some (vv n) := fun i hi => by
  obtain ⟨h1, h2⟩ := hf i hi
  refine ⟨h1, fun k n hn => ?_⟩
  have := h2 k n hn
  have e1 := addr_add B off (i * sz + k)
  rw [e1] at this
  unfold World.cell? at this
  rw [hB] at this
  simp only [Option.isSome_none, Bool.false_eq_true, if_false] at this
  rw [Array.getElem?_toList, Nat.add_assoc]
  exact this
 have hrows := rowsG_eq len f hcell
 let R := (List.range len).map f
 have hRl : ∀ l, l ∈ R → l.length = sz := fun l hl => by
  obtain ⟨i, hi, rfl⟩ := List.mem_map.1 hl
  exact (hf i (List.mem_range.1 hi)).1
 have hRlen : R.length = len := by simp [R]
 have hlen : (C.toList.drop off).take (len * sz) = (R.flatten).map fun x => vv x := hrows
 have hfl : R.flatten.length = len * sz := by
  have : ∀ {L : List (List K)}, (∀ l, l ∈ L → l.length = sz) → L.flatten.length = L.length * sz := by
   intro L
   induction L with
   | nil => intro _; simp
   | cons a L ih => intro h; simp only [List.flatten_cons, List.length_append, h a (by simp), ih fun l q => h l (by simp [q]), List.length_cons, Nat.add_mul]; omega
  rw [this hRl, hRlen]
 by_cases h0 : len * sz = 0
 ·-- nothing of it is read
  obtain ⟨e', h', k1, k2, k3, k4, k5⟩ := r.openWin (B := B) (lo := 0) (PRE := []) (CS := []) (junk := C.toList) (el := el) (fr := fr) (cs := []) (by simpa using hB) rfl (fun _ => .nil)
  refine ⟨e', h', .slice h.next off len cap, k1, k2, k3, .slice k4, .mk rfl rfl k5.1 (by simp) (fun l hl => ?_) ?_, by simp [sameA], _, _, rfl⟩
  ·obtain ⟨x, hx, rfl⟩ := List.mem_map.1 hl
   rw [List.length_map]
   exact hRl x hx
  ·have hnil : R.flatten = [] := List.eq_nil_of_length_eq_zero (by omega)
   unfold loadCells
   rw [k5.2]
   have e1 : ((R.map fun l => l.map fun x => va x).length * sz) = 0 := by rw [List.length_map, hRlen]; exact h0
   have e2 : (R.map fun l => l.map fun x => va x).flatten = [] := by rw [← List.map_flatten, hnil]; rfl
   show cond (Nat.ble 0 off) (slice? [] (off - 0) ((R.map fun l => l.map fun x => va x).length * sz)) none = some _
   rw [e1, e2, show Nat.ble 0 off = true from Nat.ble_eq_true_of_le (Nat.zero_le _)]
   simp [slice?]
 ·have hle : off + len * sz ≤ C.toList.length := by
   have : ((C.toList.drop off).take (len * sz)).length = len * sz := by rw [hlen, List.length_map, hfl]
   rw [List.length_take, List.length_drop] at this
   omega
  have hC : C = (C.toList.take off ++ ((R.flatten.map fun x => vv x) ++ C.toList.drop (off + len * sz))).toArray := by
   rw [← hlen]
   have : C.toList.take off ++ ((C.toList.drop off).take (len * sz) ++ C.toList.drop (off + len * sz)) = C.toList := by
    rw [← List.drop_drop, List.take_append_drop, List.take_append_drop]
   rw [this]
  obtain ⟨e', h', k1, k2, k3, k4, k5⟩ := r.openWin (B := B) (lo := off) (PRE := C.toList.take off) (CS := R.flatten.map fun x => vv x) (junk := C.toList.drop (off + len * sz)) (el := el) (fr := fr) (cs := R.flatten.map fun x => va x) (by rw [← hC]; exact hB) (by rw [List.length_take]; omega) (fun _ => VRs.kinds hvr _)
  refine ⟨e', h', .slice h.next off len cap, k1, k2, k3, .slice k4, .mk rfl rfl k5.1 (by simp) (fun l hl => ?_) ?_, by simp [sameA], _, _, rfl⟩
  ·obtain ⟨x, hx, rfl⟩ := List.mem_map.1 hl
   rw [List.length_map]
   exact hRl x hx
  ·unfold loadCells
   rw [k5.2]
   have e1 : ((R.map fun l => l.map fun x => va x).length * sz) = len * sz := by rw [List.length_map, hRlen]
   have e2 : (R.map fun l => l.map fun x => va x).flatten = R.flatten.map fun x => va x := by rw [← List.map_flatten]
   show cond (Nat.ble off off) (slice? (R.flatten.map fun x => va x) (off - off) ((R.map fun l => l.map fun x => va x).length * sz)) none = some _
   rw [e1, e2, show Nat.ble off off = true from Nat.ble_eq_true_of_le (Nat.le_refl _), Nat.sub_self]
   exact slice_all (by rw [List.length_map, hfl])
end
end Go.AbsE

namespace Go.AbsE
open Go
set_option linter.unusedSimpArgs false
set_option linter.unusedVariables false
section
variable {P : Program} {h : AH} {dst : Option Tmp} {ty tt el : TypeId} {pos : String} {after : Array Edge} {guard : Option (Nat × Bool)} {x y : Operand}
def CutS (s : AVal) (n : Nat) : Prop := n ≠ 0 → ∃ b off cap, s = .slice b off n cap ∧ n ≤ cap
theorem SliceOf.take {sz b off n cap cap' i : Nat} {L : List (List AVal)} (k : SliceOf h sz (.slice b off n cap) L) (hL : L.length = n) (hi : i ≤ n) : SliceOf h sz (.slice b off i cap') (L.take i) := by
 cases k with
 | mk hs hn hb hl hz hc =>
  rw [show aSlElems (.slice b off n cap) = some (b, off, n) from rfl] at hs
  cases hs
  have hlen : (L.take i).length = i := by rw [List.length_take]; omega
  refine .mk (b := b) (off := off) (len := i) rfl rfl hb hlen (fun l hl => hz l (List.mem_of_mem_take hl)) ?_
  have hp := loadCells_part (k := 0) (m := i * sz) hc (by rw [Nat.zero_add]; exact Nat.mul_le_mul_right _ (by omega))
  rw [Nat.add_zero] at hp
  rw [hlen, hp]
  congr 1
  have e1 : (L.take i).flatten.length = i * sz := by
   rw [flatten_len (sz := sz) (fun l hl => hz l (List.mem_of_mem_take hl)), hlen]
  have e3 : L.flatten = (L.take i).flatten ++ (L.drop i).flatten := by rw [← List.flatten_append, List.take_append_drop]
  rw [List.drop_zero, e3, ← e1, List.take_left]
end
end Go.AbsE

namespace Go.Proofs.Ytkhiagdmbajimaa
open Go Go.AbsE Go.ChangeShapes Go.WideShapes Go.ChangeAt Go.RowKit
set_option linter.unusedSimpArgs false
set_option maxRecDepth 100000
set_option linter.unusedVariables false
theorem cells29 : Try.prog.cellsOf 29 = 4 := by kernel_rfl
theorem cells3 : Try.prog.cellsOf 3 = 1 := by kernel_rfl
theorem cells35 : Try.prog.cellsOf 35 = 2 := by kernel_rfl
theorem cells32 : Try.prog.cellsOf 32 = 2 := by kernel_rfl
theorem cells57 : Try.prog.cellsOf 57 = 3 := by kernel_rfl
theorem cells60 : Try.prog.cellsOf 60 = 4 := by kernel_rfl
theorem cells25 : Try.prog.cellsOf 25 = 1 := by kernel_rfl
theorem cells26 : Try.prog.cellsOf 26 = 1 := by kernel_rfl
theorem cells27 : Try.prog.cellsOf 27 = 1 := by kernel_rfl
theorem ctypes29 : Try.prog.cellTypes Try.prog.depth 29 = some [25, 26, 27, 26] := by kernel_rfl
theorem laidOut : laidOutB Try.prog = true := by kernel_rfl
def inI64 (n : Int) : Prop := -9223372036854775808 ≤ n ∧ n ≤ 9223372036854775807
theorem wf_in {n : Int} (h : (Lit.int .i64 n).wf = true) : inI64 n := by
 simp only [Lit.wf, Bool.and_eq_true, decide_eq_true_eq] at h
 have h1 : IntKind.i64.min = -9223372036854775808 := by decide
 have h2 : IntKind.i64.max = 9223372036854775807 := by decide
 rw [h1, h2] at h
 constructor <;> omega
variable {H : Type} {enc : TypeId × Value → H} {W : World} {base : Nat} {spare : Nat → Bool} {held : Bool}
theorem int_row {n : Nat} {cs : List Value} {x : DataW H × List MemPlace} (h : DataW.trod enc Try.prog W base spare held n 3 cs = some x) : ∃ a : Int, cs = [.int .i64 a] ∧ inI64 a := by
 obtain ⟨a, h1, _, h3⟩ := DataW.trod_int Try.underlying3 h
 exact ⟨a, h1, wf_in h3⟩
theorem span_row {n : Nat} {cs : List Value} {x : DataW H × List MemPlace} (h : DataW.trod enc Try.prog W base spare held n 35 cs = some x) : ∃ a b : Int, cs = [.int .i64 a, .int .i64 b] := by
 obtain ⟨y0, y1, k, _, hl, h0, h1⟩ := ChangeShapes.trod_struct2 Try.underlying35 h
 rw [cells35] at hl
 dsimp only at h0 h1
 rw [cells3] at h0 h1
 obtain ⟨a, ha, _⟩ := int_row h0
 obtain ⟨b, hb, _⟩ := int_row h1
 match cs, hl with
 | [c0, c1], _ =>
  simp at ha hb
  exact ⟨a, b, by rw [ha, hb]⟩
theorem list2 {α : Type} {l : List α} (h : l.length = 2) : ∃ c0 c1, l = [c0, c1] := by
 match l, h with
 | [c0, c1], _ => exact ⟨c0, c1, rfl⟩
theorem list3 {α : Type} {l : List α} (h : l.length = 3) : ∃ c0 c1 c2, l = [c0, c1, c2] := by
 match l, h with
 | [c0, c1, c2], _ => exact ⟨c0, c1, c2, rfl⟩
theorem list4 {α : Type} {l : List α} (h : l.length = 4) : ∃ c0 c1 c2 c3, l = [c0, c1, c2, c3] := by
 match l, h with
 | [c0, c1, c2, c3], _ => exact ⟨c0, c1, c2, c3, rfl⟩
theorem way_row {n : Nat} {cs : List Value} {x : DataW H × List MemPlace} (h : DataW.trod enc Try.prog W base spare held n 32 cs = some x) : ∃ r : List Int, r.length = 2 ∧ cs = r.map fun x => Value.int .i64 x := by
 obtain ⟨y0, y1, k, _, hl, h0, h1⟩ := ChangeShapes.trod_struct2 Try.underlying32 h
 rw [cells32] at hl
 dsimp only at h0 h1
 rw [cells3] at h0 h1
 obtain ⟨a, ha, _⟩ := int_row h0
 obtain ⟨b, hb, _⟩ := int_row h1
 match cs, hl with
 | [c0, c1], _ =>
  simp at ha hb
  exact ⟨[a, b], rfl, by rw [ha, hb]; rfl⟩
theorem bank_row {n : Nat} {cs : List Value} {x : DataW H × List MemPlace} (h : DataW.trod enc Try.prog W base spare held n 60 cs = some x) : ∃ r : List Int, r.length = 4 ∧ cs = r.map fun x => Value.int .i64 x := by
 obtain ⟨xs, m, _, _, hl, hlen, hfl⟩ := DataW.trod_struct Try.underlying60 h
 rw [cells60] at hl
 obtain ⟨c0, c1, c2, c3, rfl⟩ := list4 hl
 obtain ⟨y0, y1, rfl⟩ := list2 hlen
 have t0 : DataW.trod enc Try.prog W base spare held m 35 [c0, c1] = some y0 := by
  have this : DataW.trod enc Try.prog W base spare held m 35 (([c0, c1, c2, c3].drop 0).take (Try.prog.cellsOf 35)) = [y0, y1][0]? := hfl 0 _ rfl
  rw [cells35] at this;exact this
 have t1 : DataW.trod enc Try.prog W base spare held m 35 [c2, c3] = some y1 := by
  have this : DataW.trod enc Try.prog W base spare held m 35 (([c0, c1, c2, c3].drop 2).take (Try.prog.cellsOf 35)) = [y0, y1][1]? := hfl 1 _ rfl
  rw [cells35] at this;exact this
 obtain ⟨a0, a1, e0⟩ := span_row t0
 obtain ⟨a2, a3, e1⟩ := span_row t1
 simp at e0 e1
 exact ⟨[a0, a1, a2, a3], rfl, by rw [e0.1, e0.2, e1.1, e1.2]; rfl⟩
theorem right_row {n : Nat} {cs : List Value} {x : DataW H × List MemPlace} (h : DataW.trod enc Try.prog W base spare held n 57 cs = some x) : ∃ r : List Int, r.length = 3 ∧ cs = r.map fun x => Value.int .i64 x := by
 obtain ⟨xs, m, _, _, hl, hlen, hfl⟩ := DataW.trod_struct Try.underlying57 h
 rw [cells57] at hl
 obtain ⟨c0, c1, c2, rfl⟩ := list3 hl
 obtain ⟨y0, y1, y2, rfl⟩ := list3 hlen
 have t0 : DataW.trod enc Try.prog W base spare held m 3 [c0] = some y0 := by
  have this : DataW.trod enc Try.prog W base spare held m 3 (([c0, c1, c2].drop 0).take (Try.prog.cellsOf 3)) = [y0, y1, y2][0]? := hfl 0 _ rfl
  rw [cells3] at this;exact this
 have t1 : DataW.trod enc Try.prog W base spare held m 3 [c1] = some y1 := by
  have this : DataW.trod enc Try.prog W base spare held m 3 (([c0, c1, c2].drop 1).take (Try.prog.cellsOf 3)) = [y0, y1, y2][1]? := hfl 1 _ rfl
  rw [cells3] at this;exact this
 have t2 : DataW.trod enc Try.prog W base spare held m 3 [c2] = some y2 := by
  have this : DataW.trod enc Try.prog W base spare held m 3 (([c0, c1, c2].drop 2).take (Try.prog.cellsOf 3)) = [y0, y1, y2][2]? := hfl 2 _ rfl
  rw [cells3] at this;exact this
 obtain ⟨a0, e0, _⟩ := int_row t0
 obtain ⟨a1, e1, _⟩ := int_row t1
 obtain ⟨a2, e2, _⟩ := int_row t2
 simp at e0 e1 e2
 exact ⟨[a0, a1, a2], rfl, by rw [e0, e1, e2]; rfl⟩
theorem slice_okw {t el : TypeId} {a : Addr} {len cap : Nat} {bs : Nat} (ht : Try.prog.underlying t = some (.slice el)) (h : Cell.okWide Try.prog W .any bs t (.slice (some a) len cap)) : a.spot = none ∧ ∃ C e fr, W.heap[a.block]? = some (.cells C e fr) := by
 unfold Cell.okWide at h
 rw [ht] at h
 dsimp only at h
 unfold Cell.ok at h
 rw [ht] at h
 dsimp only at h
 obtain ⟨_, _, _, h2, row, n, h3, _⟩ := h
 refine ⟨h2, ?_⟩
 unfold World.shape? at h3
 split at h3
 ·rename_i c e fr hq
  exact ⟨c, e, fr, hq⟩
 ·cases h3
theorem slice_cap {t el : TypeId} {a : Addr} {len cap : Nat} {bs : Nat} (ht : Try.prog.underlying t = some (.slice el)) (h : Cell.okWide Try.prog W .any bs t (.slice (some a) len cap)) : len < 9223372036854775808 := by
 unfold Cell.okWide at h
 rw [ht] at h
 dsimp only at h
 unfold Cell.ok at h
 rw [ht] at h
 dsimp only at h
 obtain ⟨h1, h2, _⟩ := h
 have : IntKind.i64.max = 9223372036854775807 := by decide
 rw [this] at h2
 omega
theorem slice_le {t el : TypeId} {a : Addr} {len cap : Nat} {bs : Nat} (ht : Try.prog.underlying t = some (.slice el)) (h : Cell.okWide Try.prog W .any bs t (.slice (some a) len cap)) : len ≤ cap := by
 unfold Cell.okWide at h
 rw [ht] at h
 dsimp only at h
 unfold Cell.ok at h
 rw [ht] at h
 dsimp only at h
 exact h.1
theorem rows_of {t el : TypeId} {sz fuel : Nat} {c : Value} {y : DataW H × List MemPlace} {bs : Nat} (ht : Try.prog.underlying t = some (.slice el)) (hsz : Try.prog.cellsOf el = sz)
  (hrow : ∀ {n : Nat} {cs : List Value} {x : DataW H × List MemPlace}, DataW.trod enc Try.prog W 0 (fun _ => true) true n el cs = some x → ∃ r : List Int, r.length = sz ∧ cs = r.map fun x => Value.int .i64 x)
  (h : DataW.trod enc Try.prog W 0 (fun _ => true) true fuel t [c] = some y) (hok : Cell.okWide Try.prog W .any bs t c) {e : Env} {hh : AH} (r : HR Try.prog (Base.all W) e hh W) :
  ∃ e' h' s, ∃ R : List (List Int), Env.le e e' ∧ HR Try.prog (Base.all W) e' h' W ∧ Ext hh h' ∧ VR e' s c ∧ (∀ l, l ∈ R → l.length = sz) ∧ SliceOf h' sz s (R.map fun l => l.map fun x => AVal.int .i64 x) ∧ R.length < 9223372036854775808 ∧ CutS s R.length := by
 rcases Deep.open_slice ht h with ⟨hcs, _⟩ | ⟨a, len, cap, m, n, D, Pl, hcs, _, hl, _, hmm, _, hx⟩
 ·simp at hcs
  subst hcs;exact ⟨e, hh, .nilslice, [], Env.le_refl e, r, Ext.refl _, .nilslice, (fun _ q => by cases q), .nil, by decide, fun q => absurd rfl q⟩
 ·simp at hcs
  subst hcs
  obtain ⟨hs, C, el', fr, hB⟩ := slice_okw ht hok
  have hcap := slice_cap ht hok
  have hle := slice_le ht hok
  have hm : m = cap := by simpa using hmm
  have each : ∀ i, ∃ rr : List Int, i < len → rr.length = sz ∧ ∀ k n, rr[k]? = some n → W.cell? (a.add (i * sz + k)) = some (.int .i64 n) := by
   intro i
   by_cases hi : i < len
   ·obtain ⟨cs', h1, h2⟩ := hx i (by omega)
    obtain ⟨rr, hr1, hr2⟩ := hrow h2
    rw [hsz] at h1
    obtain ⟨_, hlen, hc⟩ := World.cells?_some h1
    refine ⟨rr, fun _ => ⟨hr1, fun k n hk => ?_⟩⟩
    have hkl := (List.getElem?_eq_some_iff.1 hk).1
    have := hc k (by omega)
    obtain ⟨B, off, spot⟩ := a
    dsimp only at hs
    subst hs;rw [addr_add, addr_add] at this;rw [addr_add, ← Nat.add_assoc, this, hr2, List.getElem?_map, hk]
    rfl
   ·exact ⟨[], fun q => absurd q hi⟩
  obtain ⟨f, hf⟩ := Classical.axiomOfChoice each
  obtain ⟨e', h', s, k1, k2, k3, k4, k5, _, b, o, rfl⟩ := r.openRowsC (fun x => AVal.int .i64 x) (fun x => Value.int .i64 x) (fun _ _ => .int _ _) (cap := cap) (len := len) (sz := sz) hB hs f hf
  exact ⟨e', h', _, (List.range len).map f, k1, k2, k3, k4, fun l hl => by
   obtain ⟨i, hi, rfl⟩ := List.mem_map.1 hl
   exact (hf i (List.mem_range.1 hi)).1, k5, by rw [List.length_map, List.length_range]; exact hcap, fun _ => ⟨b, o, cap, by rw [List.length_map, List.length_range], by rw [List.length_map, List.length_range]; exact hle⟩⟩
def toS : List Int → Int × Int
 | [a, b] => (a, b)
 | _ => (0, 0)
def toB : List Int → BkV
 | [a, b, c, d] => ⟨a, b, c, d⟩
 | _ => ⟨0, 0, 0, 0⟩
def toR : List Int → RtV
 | [a, b, c] => ⟨a, b, c⟩
 | _ => ⟨0, 0, 0⟩
theorem ss_eq {R : List (List Int)} (h : ∀ l, l ∈ R → l.length = 2) : (R.map fun l => l.map fun x => AVal.int .i64 x) = (R.map toS).map spC := by
 rw [List.map_map];refine List.map_congr_left fun l hl => ?_
 match l, h l hl with
 | [a, b], _ => rfl
theorem bs_eq {R : List (List Int)} (h : ∀ l, l ∈ R → l.length = 4) : (R.map fun l => l.map fun x => AVal.int .i64 x) = (R.map toB).map BkV.cells := by
 rw [List.map_map];refine List.map_congr_left fun l hl => ?_
 match l, h l hl with
 | [a, b, c, d], _ => rfl
theorem rs_eq {R : List (List Int)} (h : ∀ l, l ∈ R → l.length = 3) : (R.map fun l => l.map fun x => AVal.int .i64 x) = (R.map toR).map RtV.cells := by
 rw [List.map_map];refine List.map_congr_left fun l hl => ?_
 match l, h l hl with
 | [a, b, c], _ => rfl
theorem array4 {α : Type} {cs : Array α} (h : cs.size = 4) : ∃ c0 c1 c2 c3, cs = #[c0, c1, c2, c3] := by
 obtain ⟨l⟩ := cs
 match l, h with
 | [c0, c1, c2, c3], _ => exact ⟨c0, c1, c2, c3, rfl⟩
theorem drain_of {bs : Nat} {v : Value} {d : DataW H} {p : List MemPlace} (hv : Value.okWide Try.prog W .any bs 29 v) (h : DataW.Trod enc Try.prog W 0 (fun _ => true) true 29 v d p) {e : Env} {hh : AH} (r : HR Try.prog (Base.all W) e hh W) :
  ∃ e' h' D sb sd sr ss, Env.le e e' ∧ HR Try.prog (Base.all W) e' h' W ∧ Ext hh h' ∧ VR e' (.agg (dC sb sd sr ss)) v ∧ DrainAt h' D sb sd sr ss ∧ DrainL D ∧ CutS sb D.bs.length ∧ CutS sd D.ds.length ∧ CutS sr D.rs.length ∧ CutS ss D.ss.length := by
 have hv2 := hv
 obtain ⟨cs, rfl, hsz⟩ := okWide_struct Try.underlying29 hv
 obtain ⟨c0, c1, c2, c3, rfl⟩ := array4 (hsz.trans cells29)
 obtain ⟨fuel, hf⟩ := h
 obtain ⟨xs, n, _, _, hl, hlen, hfl⟩ := DataW.trod_struct Try.underlying29 hf
 obtain ⟨y0, y1, y2, y3, rfl⟩ := list4 hlen
 have t0 : DataW.trod enc Try.prog W 0 (fun _ => true) true n 25 [c0] = some y0 := by
  have this : DataW.trod enc Try.prog W 0 (fun _ => true) true n 25 (([c0, c1, c2, c3].drop 0).take (Try.prog.cellsOf 25)) = [y0, y1, y2, y3][0]? := hfl 0 _ rfl
  rw [cells25] at this;exact this
 have t1 : DataW.trod enc Try.prog W 0 (fun _ => true) true n 26 [c1] = some y1 := by
  have this : DataW.trod enc Try.prog W 0 (fun _ => true) true n 26 (([c0, c1, c2, c3].drop 1).take (Try.prog.cellsOf 26)) = [y0, y1, y2, y3][1]? := hfl 1 _ rfl
  rw [cells26] at this;exact this
 have t2 : DataW.trod enc Try.prog W 0 (fun _ => true) true n 27 [c2] = some y2 := by
  have this : DataW.trod enc Try.prog W 0 (fun _ => true) true n 27 (([c0, c1, c2, c3].drop 2).take (Try.prog.cellsOf 27)) = [y0, y1, y2, y3][2]? := hfl 2 _ rfl
  rw [cells27] at this;exact this
 have t3 : DataW.trod enc Try.prog W 0 (fun _ => true) true n 26 [c3] = some y3 := by
  have this : DataW.trod enc Try.prog W 0 (fun _ => true) true n 26 (([c0, c1, c2, c3].drop 3).take (Try.prog.cellsOf 26)) = [y0, y1, y2, y3][3]? := hfl 3 _ rfl
  rw [cells26] at this;exact this
 unfold Value.okWide at hv2
 rw [Try.underlying29] at hv2
 obtain ⟨cs, hcs, _, ts, hts, _, hrow⟩ := hv2
 injection hcs with hcs
 subst hcs;rw [ctypes29] at hts;cases hts
 obtain ⟨u0, hu0, ok0⟩ := hrow 0 c0 rfl
 obtain ⟨u1, hu1, ok1⟩ := hrow 1 c1 rfl
 obtain ⟨u2, hu2, ok2⟩ := hrow 2 c2 rfl
 obtain ⟨u3, hu3, ok3⟩ := hrow 3 c3 rfl
 cases hu0;cases hu1;cases hu2;cases hu3
 obtain ⟨ea, ha, s0, R0, a1, a2, a3, a4, a5, a6, a7, a8⟩ := rows_of Try.underlying25 cells60 bank_row t0 ok0 r
 obtain ⟨eb, hb, s1, R1, b1, b2, b3, b4, b5, b6, b7, b8⟩ := rows_of Try.underlying26 cells32 way_row t1 ok1 a2
 obtain ⟨ec, hc, s2, R2, g1, g2, g3, g4, g5, g6, g7, g8⟩ := rows_of Try.underlying27 cells57 right_row t2 ok2 b2
 obtain ⟨ed, hd, s3, R3, i1, i2, i3, i4, i5, i6, i7, i8⟩ := rows_of Try.underlying26 cells32 way_row t3 ok3 g2
 rw [bs_eq a5] at a6;rw [ss_eq b5] at b6;rw [rs_eq g5] at g6;rw [ss_eq i5] at i6;refine ⟨ed, hd, ⟨R0.map toB, R1.map toS, R2.map toR, R3.map toS⟩, s0, s1, s2, s3, Env.le_trans a1 (Env.le_trans b1 (Env.le_trans g1 i1)), i2, a3.trans (b3.trans (g3.trans i3)), ?_, ⟨((a6.ext b3).ext g3).ext i3, (b6.ext g3).ext i3, g6.ext i3, i6⟩, ⟨by simpa using a7, by simpa using b7, by simpa using g7, by simpa using i7⟩, by show CutS s0 (R0.map toB).length; rw [List.length_map]; exact a8, by show CutS s1 (R1.map toS).length; rw [List.length_map]; exact b8, by show CutS s2 (R2.map toR).length; rw [List.length_map]; exact g8, by show CutS s3 (R3.map toS).length; rw [List.length_map]; exact i8⟩;exact .agg (CS := [_, _, _, _]) (.cons (((a4.mono b1).mono g1).mono i1) (.cons ((b4.mono g1).mono i1) (.cons (g4.mono i1) (.cons i4 .nil))))
end Go.Proofs.Ytkhiagdmbajimaa
