import Derived.Test.YtobhkdgcciolmaaGreatMAQ
import Derived.Test.YtobhkdgcciolmaaGreatMAI
import Derived.Test.YtobhkdgcciolmaaGreatMAG
namespace Go.Proofs.YtobhkdgcciolmaaGreat
open Go Go.AbsE
set_option linter.unusedSimpArgs false
set_option maxRecDepth 100000
set_option maxHeartbeats 0
set_option linter.unusedVariables false
theorem share37_ok {C : ClampV} (O : C.Ok) (hp : C.possible = true) {s : Nat} {sp se : AVal} {h : AH} (A : ClampAt h C sp se) {bh : Nat} (fh : Has h bh (.cells .plain [sp, .int .i64 C.pl, .int .i64 C.ph, se] 27)) :
  Runs Tryz.prog 37 [.int .i64 (s : Nat), .ptr bh 0] h (fun en h' => en = .ret (.int .i64 (C.total s).1) ∧ Ext h h') := by
 have hl1 := A.ps.len
 rw [List.length_map] at hl1
 have hnp := O.np
 have hkk := O.k
 have hbh := fh.1
 have hsc : scalars [sp, .int .i64 C.pl, .int .i64 C.ph, se] = true := A.scal
 have e0 : Ext h h := Ext.refl _
 refine Runs.intro aFunc37 rfl rfl rfl rfl fun rest => ?_;apply gS;refine gR rfl ?_;refine gP ?_;apply gE;apply gS;refine gR rfl ?_;refine gP ?_;apply gE;iterate 2 apply gS
 refine gR rfl ?_;refine gO rfl rfl (fa27_1 rfl) rfl ?_;refine gO rfl rfl (fa24_0 rfl) rfl ?_;refine gO rfl rfl (ld3 rfl fh rfl) rfl ?_;refine gP ?_;apply gE;refine Go.block noJ_ok ?_
 refine Go.loopKeep (fun a : Nat => [(0, .int .i64 (s : Nat)), (1, .ptr bh 0), (4, .int .i64 (C.leastK s a)), (5, .int .i64 (C.pl + (a : Nat)))])
  (fun m a h' => (m : Int) + a = C.ph - C.pl + 1 ∧ Ext h h' ∧ Has h' bh (.cells .plain [sp, .int .i64 C.pl, .int .i64 C.ph, se] 27)) (n := (C.ph - C.pl + 1).toNat) 0 ⟨rfl, rfl, rfl, show some (AVal.int .i64 C.pl) = some (AVal.int .i64 (C.pl + 0)) by rw [Int.add_zero], trivial⟩ ⟨by omega, e0, fh⟩ ?_
 clear e0 fh;rintro m a h10 ⟨hm, e0, fh⟩ again
 by_cases ha : C.pl + (a : Nat) ≤ C.ph
 ·obtain ⟨k, hk⟩ : ∃ k, C.pl + (a : Nat) = k := ⟨_, rfl⟩
  obtain ⟨lst, hlst⟩ : ∃ l, C.leastK s a = l := ⟨_, rfl⟩
  rw [hk, hlst];rw [hk] at ha
  have hkb : C.pl ≤ k ∧ k ≤ C.ph := by omega
  have OK := byK_ok O hkb
  iterate 2 apply gS
  refine gR rfl ?_;refine gP ?_;refine gO rfl rfl (fa27_1 rfl) rfl ?_;refine gO rfl rfl (fa24_1 rfl) rfl ?_;refine gO rfl rfl (ld3 rfl fh rfl) rfl ?_;refine gO rfl rfl (kMT rfl rfl) rfl ?_;apply gE;refine gC (b := true) rfl ?_;refine gD ?_;apply gS;refine Go.block noJ_ok ?_;apply gS;refine gR rfl ?_;refine gO rfl rfl (ld27 rfl fh rfl) rfl ?_;refine GoR.alloc rfl rfl rfl zt27 rfl rfl fun h11 x11 f11 => ?_;have := e0.1;have := fh.1;replace fh := fh.ext x11;replace e0 := e0.trans x11;have := f11.1;refine GoR.store rfl rfl rfl rfl rfl rfl f11 rfl sz27 rfl hsc rfl fun h12 u12 => ?_;replace f11 := u12.has f11;replace fh := fh.upd u12 (by omega);replace e0 := e0.upd u12 (by omega);apply gE;apply gS;refine gR rfl ?_;iterate 2 refine gP ?_
  refine GoR.call rfl rfl (aCF aFunc36 rfl) (span36_ok) ?_ np;rintro v13 h13 ⟨q, x13⟩;cases q;refine ⟨_, rfl, ?_⟩;replace f11 := f11.ext x13;replace fh := fh.ext x13;replace e0 := e0.trans x13;refine gO rfl rfl (fa27_1 rfl) rfl ?_;refine GoR.store rfl rfl rfl rfl rfl rfl f11 rfl sz24 rfl rfl rfl fun h14 u14 => ?_;replace f11 := u14.has f11;replace fh := fh.upd u14 (by omega);replace e0 := e0.upd u14 (by omega);apply gE;apply gS;refine gR rfl ?_;iterate 2 refine gP ?_
  apply gE;iterate 2 apply gS
  refine gR rfl ?_;refine gO rfl rfl (fa27_0 rfl) rfl ?_;refine gO rfl rfl (ld22 rfl fh rfl) rfl ?_;refine gO rfl rfl (aOp_lenSlice Tryz.underlying22 rfl hl1) rfl ?_;refine gP ?_;apply gE;refine Go.block noJ_ok ?_
  have hAK := fun {h'} (e : Ext h h') => (⟨A.ps.ext e, A.es.ext e⟩ : ClampAt h' (C.byK k) sp se)
  have hH := fun {h'} (e : Ext h h') (i : Nat) => Has_ok (hAK e) OK.B (i : Nat)
  obtain ⟨k1, hk1⟩ : ∃ x, k + 1 = x := ⟨_, rfl⟩
  have again2 := again (m - 1) (a + 1)
  rw [show C.pl + ((a + 1 : Nat) : Int) = k1 by omega] at again2
  unfold ClampV.leastK at again2
  rw [hk, hlst] at again2
  cases hpk : (C.byK k).possible with
  | true =>
   have hin := sureK_in O hkb hpk s
   have hH2 : ∀ i : Nat, i < C.ps.length → (C.byK k).hasR (i : Nat) = ((C.byK k).left i, 0) := fun i hi => by rw [hasR_is OK (show i < (C.byK k).ps.length from hi), ClampV.tr_yes hpk]
   rw [hpk] at again2;refine Go.loopKeep (fun j : Nat => [(0, .int .i64 (s : Nat)), (1, .ptr bh 0), (4, .int .i64 lst), (5, .int .i64 k), (6, .ptr h10.next 0), (7, .int .i64 (sumS s (fun i => ((C.byK k).left i).1) j)), (8, .bool true), (28, sp), (29, .int .i64 C.ps.length), (30, .int .i64 (j : Nat))]) (fun m j h' => m + j = C.ps.length ∧ Ext h h' ∧ Has h' bh (.cells .plain [sp, .int .i64 C.pl, .int .i64 C.ph, se] 27) ∧ Has h' h10.next (.cells .plain [sp, .int .i64 k, .int .i64 k, se] 27)) (n := C.ps.length) 0 ⟨rfl, rfl, rfl, rfl, rfl, rfl, rfl, rfl, rfl, rfl, trivial⟩ ⟨rfl, e0, fh, f11⟩ ?_;clear e0 fh f11;rintro m2 j h20 ⟨hm2, e0, fh, f11⟩ more
   by_cases hj : j < C.ps.length
   ·have hHj := fun {h'} (e : Ext h h') => hH e j
    rw [hH2 j hj] at hHj;rw [show (C.byK k).cells sp se = [sp, .int .i64 k, .int .i64 k, se] from rfl] at hHj
    unfold spC at hHj
    dsimp only at hHj
    have b1 := sumS_in (s := s) (f := fun i => ((C.byK k).left i).1) (fun i => by have := left_in OK hpk i; omega) j
    have b3 := left_in OK hpk j
    have hbit : decide (((s : Nat) : Int).fdiv (2 ^ j) % 2 = 1) = s.testBit j := bit_int s j
    have more2 := more (m2 - 1) (j + 1)
    unfold sumS at more2
    cases hb : s.testBit j with
    | true =>
     rw [hb] at hbit more2;apply gS;refine gR rfl ?_;refine gO rfl rfl (kLT rfl rfl) rfl ?_;apply gE;apply gS;refine gC (b := true) rfl ?_;refine gD ?_;apply gS;refine Go.block noJ_ok ?_;apply gS;refine gR rfl ?_;iterate 2 refine gP ?_
     apply gE;apply gS;refine gR rfl ?_;refine gO rfl rfl (ld27 rfl f11 rfl) rfl ?_;refine gP ?_;refine GoR.call rfl rfl (aCF aFunc15 rfl) (hHj e0) ?_ np;rintro v21 h21 ⟨q, x21⟩;cases q;refine ⟨_, rfl, ?_⟩;replace fh := fh.ext x21;replace f11 := f11.ext x21;replace e0 := e0.trans x21;iterate 3 refine gP ?_
     refine GoR.alloc rfl rfl rfl zt24 rfl rfl fun h22 x22 f22 => ?_;have := e0.1;have := fh.1;have := f11.1;replace fh := fh.ext x22;replace f11 := f11.ext x22;replace e0 := e0.trans x22;have := f22.1;refine GoR.store rfl rfl rfl rfl rfl rfl f22 rfl sz24 rfl rfl rfl fun h23 u23 => ?_;replace f22 := u23.has f22;replace fh := fh.upd u23 (by omega);replace f11 := f11.upd u23 (by omega);replace e0 := e0.upd u23 (by omega);refine gP ?_;apply gE;apply gS;refine gR rfl ?_;iterate 3 refine gP ?_
     refine gO rfl rfl (kET rfl rfl) rfl ?_;iterate 2 refine gP ?_
     apply gE;apply gS;refine gR rfl ?_;iterate 2 refine gP ?_
     refine gO rfl rfl (aOp_shr rfl rfl (by omega) rfl) rfl ?_;refine gO rfl rfl (aOp_and1 rfl rfl rfl) rfl ?_;refine gO rfl rfl (aOp_eql rfl rfl hbit) rfl ?_;apply gE;refine gC (b := true) rfl ?_;refine gR rfl ?_;refine gP ?_;refine gO rfl rfl (fa24_0 rfl) rfl ?_;refine gO rfl rfl (ld3 rfl f22 rfl) rfl ?_;refine gO rfl rfl (aA rfl rfl) rfl ?_;refine gP ?_;apply gE;refine Go.inBlock noJ_ok ?_;refine gR rfl ?_;refine gO rfl rfl (aA rfl rfl) rfl ?_;refine gP ?_;apply gE;exact more2 _ _ (by omega) ⟨rfl, rfl, rfl, rfl, rfl, rfl, rfl, rfl, rfl, rfl, trivial⟩ ⟨by omega, e0, fh, f11⟩
    | false =>
     rw [hb] at hbit more2;apply gS;refine gR rfl ?_;refine gO rfl rfl (kLT rfl rfl) rfl ?_;apply gE;apply gS;refine gC (b := true) rfl ?_;refine gD ?_;apply gS;refine Go.block noJ_ok ?_;apply gS;refine gR rfl ?_;iterate 2 refine gP ?_
     apply gE;apply gS;refine gR rfl ?_;refine gO rfl rfl (ld27 rfl f11 rfl) rfl ?_;refine gP ?_;refine GoR.call rfl rfl (aCF aFunc15 rfl) (hHj e0) ?_ np;rintro v21 h21 ⟨q, x21⟩;cases q;refine ⟨_, rfl, ?_⟩;replace fh := fh.ext x21;replace f11 := f11.ext x21;replace e0 := e0.trans x21;iterate 3 refine gP ?_
     refine GoR.alloc rfl rfl rfl zt24 rfl rfl fun h22 x22 f22 => ?_;have := e0.1;have := fh.1;have := f11.1;replace fh := fh.ext x22;replace f11 := f11.ext x22;replace e0 := e0.trans x22;have := f22.1;refine GoR.store rfl rfl rfl rfl rfl rfl f22 rfl sz24 rfl rfl rfl fun h23 u23 => ?_;replace fh := fh.upd u23 (by omega);replace f11 := f11.upd u23 (by omega);replace e0 := e0.upd u23 (by omega);refine gP ?_;apply gE;apply gS;refine gR rfl ?_;iterate 3 refine gP ?_
     refine gO rfl rfl (kET rfl rfl) rfl ?_;iterate 2 refine gP ?_
     apply gE;apply gS;refine gR rfl ?_;iterate 2 refine gP ?_
     refine gO rfl rfl (aOp_shr rfl rfl (by omega) rfl) rfl ?_;refine gO rfl rfl (aOp_and1 rfl rfl rfl) rfl ?_;refine gO rfl rfl (aOp_eql rfl rfl hbit) rfl ?_;apply gE;refine gC (b := false) rfl ?_;refine gD ?_;refine Go.inBlock noJ_ok ?_;refine gR rfl ?_;refine gO rfl rfl (aA rfl rfl) rfl ?_;refine gP ?_;apply gE;exact more2 _ _ (by omega) ⟨rfl, rfl, rfl, rfl, rfl, rfl, rfl, rfl, rfl, rfl, trivial⟩ ⟨by omega, e0, fh, f11⟩
   ·have hjn : j = C.ps.length := by omega
    subst hjn;rw [show sumS s (fun i => ((C.byK k).left i).1) C.ps.length = C.sureK s k from rfl]
    obtain ⟨su, hsu⟩ : ∃ x, C.sureK s k = x := ⟨_, rfl⟩
    rw [hsu] at hin again2;rw [hsu]
    by_cases r1 : lst < 0
    ·rw [if_pos ⟨rfl, .inl r1⟩] at again2;apply gS;refine gR rfl ?_;refine gO rfl rfl (kLF rfl rfl) rfl ?_;apply gE;apply gS;refine gC (b := false) rfl ?_;refine gD ?_;apply gS;refine gR rfl ?_;iterate 3 refine gP ?_
     refine gO rfl rfl (kLT rfl rfl) rfl ?_;refine gP ?_;iterate 3 refine GoR.skip rfl rfl rfl ?_
     iterate 2 refine gP ?_
     apply gE;refine gC (b := true) rfl ?_;refine gR rfl ?_;iterate 2 refine gP ?_
     apply gE;refine Go.inBlock noJ_ok ?_;refine gR rfl ?_;refine gP ?_;refine gO rfl rfl (aA rfl rfl) rfl ?_;refine gP ?_;apply gE;exact again2 _ _ (by omega) ⟨rfl, rfl, rfl, show some (AVal.int .i64 (k + 1)) = some (AVal.int .i64 k1) by rw [hk1], trivial⟩ ⟨by omega, e0, fh⟩
    ·by_cases r2 : su < lst
     ·rw [if_pos ⟨rfl, .inr r2⟩] at again2;apply gS;refine gR rfl ?_;refine gO rfl rfl (kLF rfl rfl) rfl ?_;apply gE;apply gS;refine gC (b := false) rfl ?_;refine gD ?_;apply gS;refine gR rfl ?_;iterate 3 refine gP ?_
      refine gO rfl rfl (kLF rfl rfl) rfl ?_;iterate 3 refine gP ?_
      refine gO rfl rfl (kLT rfl rfl) rfl ?_;iterate 2 refine gP ?_
      apply gE;refine gC (b := true) rfl ?_;refine gR rfl ?_;iterate 2 refine gP ?_
      apply gE;refine Go.inBlock noJ_ok ?_;refine gR rfl ?_;refine gP ?_;refine gO rfl rfl (aA rfl rfl) rfl ?_;refine gP ?_;apply gE;exact again2 _ _ (by omega) ⟨rfl, rfl, rfl, show some (AVal.int .i64 (k + 1)) = some (AVal.int .i64 k1) by rw [hk1], trivial⟩ ⟨by omega, e0, fh⟩
     ·rw [if_neg (by rintro ⟨_, w | w⟩ <;> omega)] at again2;apply gS;refine gR rfl ?_;refine gO rfl rfl (kLF rfl rfl) rfl ?_;apply gE;apply gS;refine gC (b := false) rfl ?_;refine gD ?_;apply gS;refine gR rfl ?_;iterate 3 refine gP ?_
      refine gO rfl rfl (kLF rfl rfl) rfl ?_;iterate 3 refine gP ?_
      refine gO rfl rfl (kLF rfl rfl) rfl ?_;iterate 2 refine gP ?_
      apply gE;refine gC (b := false) rfl ?_;refine gD ?_;refine Go.inBlock noJ_ok ?_;refine gR rfl ?_;refine gP ?_;refine gO rfl rfl (aA rfl rfl) rfl ?_;refine gP ?_;apply gE;exact again2 _ _ (by omega) ⟨rfl, rfl, rfl, show some (AVal.int .i64 (k + 1)) = some (AVal.int .i64 k1) by rw [hk1], trivial⟩ ⟨by omega, e0, fh⟩
  | false =>
   rw [hpk, if_neg (by rintro ⟨w, _⟩; cases w)] at again2
   have hH2 : ∀ i : Nat, i < C.ps.length → (C.byK k).hasR (i : Nat) = ((0, 0), 10) := fun i hi => by rw [hasR_is OK (show i < (C.byK k).ps.length from hi), ClampV.tr_no hpk]; rfl
   refine Go.loopKeep (fun z : Nat × Bool => [(0, .int .i64 (s : Nat)), (1, .ptr bh 0), (4, .int .i64 lst), (5, .int .i64 k), (6, .ptr h10.next 0), (7, .int .i64 (0)), (8, .bool z.2), (28, sp), (29, .int .i64 C.ps.length), (30, .int .i64 (z.1 : Nat))]) (fun m z h' => m + z.1 = C.ps.length ∧ (z.2 = true → z.1 = 0) ∧ Ext h h' ∧ Has h' bh (.cells .plain [sp, .int .i64 C.pl, .int .i64 C.ph, se] 27) ∧ Has h' h10.next (.cells .plain [sp, .int .i64 k, .int .i64 k, se] 27)) (n := C.ps.length) (0, true) ⟨rfl, rfl, rfl, rfl, rfl, rfl, rfl, rfl, rfl, rfl, trivial⟩ ⟨rfl, fun _ => rfl, e0, fh, f11⟩ ?_;clear e0 fh f11;rintro m2 ⟨j, kn⟩ h20 ⟨hm2, hkn, e0, fh, f11⟩ more
   dsimp only at hm2 hkn ⊢
   by_cases hj : j < C.ps.length
   ·have hHj := fun {h'} (e : Ext h h') => hH e j
    rw [hH2 j hj] at hHj;rw [show (C.byK k).cells sp se = [sp, .int .i64 k, .int .i64 k, se] from rfl] at hHj
    unfold spC at hHj
    dsimp only at hHj
    have hbit : decide (((s : Nat) : Int).fdiv (2 ^ j) % 2 = 1) = s.testBit j := bit_int s j
    cases hb : s.testBit j with
    | true =>
     rw [hb] at hbit
     cases kn with
     | true =>
      apply gS;refine gR rfl ?_;refine gO rfl rfl (kLT rfl rfl) rfl ?_;apply gE;apply gS;refine gC (b := true) rfl ?_;refine gD ?_;apply gS;refine Go.block noJ_ok ?_;apply gS;refine gR rfl ?_;iterate 2 refine gP ?_
      apply gE;apply gS;refine gR rfl ?_;refine gO rfl rfl (ld27 rfl f11 rfl) rfl ?_;refine gP ?_;refine GoR.call rfl rfl (aCF aFunc15 rfl) (hHj e0) ?_ np;rintro v21 h21 ⟨q, x21⟩;cases q;refine ⟨_, rfl, ?_⟩;replace fh := fh.ext x21;replace f11 := f11.ext x21;replace e0 := e0.trans x21;iterate 3 refine gP ?_
      refine GoR.alloc rfl rfl rfl zt24 rfl rfl fun h22 x22 f22 => ?_;have := e0.1;have := fh.1;have := f11.1;replace fh := fh.ext x22;replace f11 := f11.ext x22;replace e0 := e0.trans x22;have := f22.1;refine GoR.store rfl rfl rfl rfl rfl rfl f22 rfl sz24 rfl rfl rfl fun h23 u23 => ?_;replace f22 := u23.has f22;replace fh := fh.upd u23 (by omega);replace f11 := f11.upd u23 (by omega);replace e0 := e0.upd u23 (by omega);refine gP ?_;apply gE;apply gS;refine gR rfl ?_;iterate 3 refine gP ?_
      refine gO rfl rfl (kEF rfl rfl) rfl ?_;iterate 2 refine gP ?_
      apply gE;apply gS;refine gR rfl ?_;iterate 2 refine gP ?_
      refine gO rfl rfl (aOp_shr rfl rfl (by omega) rfl) rfl ?_;refine gO rfl rfl (aOp_and1 rfl rfl rfl) rfl ?_;refine gO rfl rfl (aOp_eql rfl rfl hbit) rfl ?_;apply gE;refine gC (b := true) rfl ?_;refine gR rfl ?_;refine gP ?_;refine gO rfl rfl (fa24_0 rfl) rfl ?_;refine gO rfl rfl (ld3 rfl f22 rfl) rfl ?_;refine gO rfl rfl (aA rfl rfl) rfl ?_;refine gP ?_;apply gE;refine Go.inBlock noJ_ok ?_;refine gR rfl ?_;refine gO rfl rfl (aA rfl rfl) rfl ?_;refine gP ?_;apply gE;exact more (m2 - 1) (j + 1, false) _ _ (by omega) ⟨rfl, rfl, rfl, rfl, rfl, rfl, rfl, rfl, rfl, rfl, trivial⟩ ⟨by dsimp only; omega, (fun w => by cases w), e0, fh, f11⟩
     | false =>
      apply gS;refine gR rfl ?_;refine gO rfl rfl (kLT rfl rfl) rfl ?_;apply gE;apply gS;refine gC (b := true) rfl ?_;refine gD ?_;apply gS;refine Go.block noJ_ok ?_;apply gS;refine gR rfl ?_;iterate 2 refine gP ?_
      apply gE;apply gS;refine gR rfl ?_;refine gO rfl rfl (ld27 rfl f11 rfl) rfl ?_;refine gP ?_;refine GoR.call rfl rfl (aCF aFunc15 rfl) (hHj e0) ?_ np;rintro v21 h21 ⟨q, x21⟩;cases q;refine ⟨_, rfl, ?_⟩;replace fh := fh.ext x21;replace f11 := f11.ext x21;replace e0 := e0.trans x21;iterate 3 refine gP ?_
      refine GoR.alloc rfl rfl rfl zt24 rfl rfl fun h22 x22 f22 => ?_;have := e0.1;have := fh.1;have := f11.1;replace fh := fh.ext x22;replace f11 := f11.ext x22;replace e0 := e0.trans x22;have := f22.1;refine GoR.store rfl rfl rfl rfl rfl rfl f22 rfl sz24 rfl rfl rfl fun h23 u23 => ?_;replace f22 := u23.has f22;replace fh := fh.upd u23 (by omega);replace f11 := f11.upd u23 (by omega);replace e0 := e0.upd u23 (by omega);refine gP ?_;apply gE;apply gS;refine gR rfl ?_;iterate 2 refine gP ?_
      iterate 2 refine GoR.skip rfl rfl rfl ?_
      iterate 2 refine gP ?_
      apply gE;apply gS;refine gR rfl ?_;iterate 2 refine gP ?_
      refine gO rfl rfl (aOp_shr rfl rfl (by omega) rfl) rfl ?_;refine gO rfl rfl (aOp_and1 rfl rfl rfl) rfl ?_;refine gO rfl rfl (aOp_eql rfl rfl hbit) rfl ?_;apply gE;refine gC (b := true) rfl ?_;refine gR rfl ?_;refine gP ?_;refine gO rfl rfl (fa24_0 rfl) rfl ?_;refine gO rfl rfl (ld3 rfl f22 rfl) rfl ?_;refine gO rfl rfl (aA rfl rfl) rfl ?_;refine gP ?_;apply gE;refine Go.inBlock noJ_ok ?_;refine gR rfl ?_;refine gO rfl rfl (aA rfl rfl) rfl ?_;refine gP ?_;apply gE;exact more (m2 - 1) (j + 1, false) _ _ (by omega) ⟨rfl, rfl, rfl, rfl, rfl, rfl, rfl, rfl, rfl, rfl, trivial⟩ ⟨by dsimp only; omega, (fun w => by cases w), e0, fh, f11⟩
    | false =>
     rw [hb] at hbit
     cases kn with
     | true =>
      apply gS;refine gR rfl ?_;refine gO rfl rfl (kLT rfl rfl) rfl ?_;apply gE;apply gS;refine gC (b := true) rfl ?_;refine gD ?_;apply gS;refine Go.block noJ_ok ?_;apply gS;refine gR rfl ?_;iterate 2 refine gP ?_
      apply gE;apply gS;refine gR rfl ?_;refine gO rfl rfl (ld27 rfl f11 rfl) rfl ?_;refine gP ?_;refine GoR.call rfl rfl (aCF aFunc15 rfl) (hHj e0) ?_ np;rintro v21 h21 ⟨q, x21⟩;cases q;refine ⟨_, rfl, ?_⟩;replace fh := fh.ext x21;replace f11 := f11.ext x21;replace e0 := e0.trans x21;iterate 3 refine gP ?_
      refine GoR.alloc rfl rfl rfl zt24 rfl rfl fun h22 x22 f22 => ?_;have := e0.1;have := fh.1;have := f11.1;replace fh := fh.ext x22;replace f11 := f11.ext x22;replace e0 := e0.trans x22;have := f22.1;refine GoR.store rfl rfl rfl rfl rfl rfl f22 rfl sz24 rfl rfl rfl fun h23 u23 => ?_;replace f22 := u23.has f22;replace fh := fh.upd u23 (by omega);replace f11 := f11.upd u23 (by omega);replace e0 := e0.upd u23 (by omega);refine gP ?_;apply gE;apply gS;refine gR rfl ?_;iterate 3 refine gP ?_
      refine gO rfl rfl (kEF rfl rfl) rfl ?_;iterate 2 refine gP ?_
      apply gE;apply gS;refine gR rfl ?_;iterate 2 refine gP ?_
      refine gO rfl rfl (aOp_shr rfl rfl (by omega) rfl) rfl ?_;refine gO rfl rfl (aOp_and1 rfl rfl rfl) rfl ?_;refine gO rfl rfl (aOp_eql rfl rfl hbit) rfl ?_;apply gE;refine gC (b := false) rfl ?_;refine gD ?_;refine Go.inBlock noJ_ok ?_;refine gR rfl ?_;refine gO rfl rfl (aA rfl rfl) rfl ?_;refine gP ?_;apply gE;exact more (m2 - 1) (j + 1, false) _ _ (by omega) ⟨rfl, rfl, rfl, rfl, rfl, rfl, rfl, rfl, rfl, rfl, trivial⟩ ⟨by dsimp only; omega, (fun w => by cases w), e0, fh, f11⟩
     | false =>
      apply gS;refine gR rfl ?_;refine gO rfl rfl (kLT rfl rfl) rfl ?_;apply gE;apply gS;refine gC (b := true) rfl ?_;refine gD ?_;apply gS;refine Go.block noJ_ok ?_;apply gS;refine gR rfl ?_;iterate 2 refine gP ?_
      apply gE;apply gS;refine gR rfl ?_;refine gO rfl rfl (ld27 rfl f11 rfl) rfl ?_;refine gP ?_;refine GoR.call rfl rfl (aCF aFunc15 rfl) (hHj e0) ?_ np;rintro v21 h21 ⟨q, x21⟩;cases q;refine ⟨_, rfl, ?_⟩;replace fh := fh.ext x21;replace f11 := f11.ext x21;replace e0 := e0.trans x21;iterate 3 refine gP ?_
      refine GoR.alloc rfl rfl rfl zt24 rfl rfl fun h22 x22 f22 => ?_;have := e0.1;have := fh.1;have := f11.1;replace fh := fh.ext x22;replace f11 := f11.ext x22;replace e0 := e0.trans x22;have := f22.1;refine GoR.store rfl rfl rfl rfl rfl rfl f22 rfl sz24 rfl rfl rfl fun h23 u23 => ?_;replace fh := fh.upd u23 (by omega);replace f11 := f11.upd u23 (by omega);replace e0 := e0.upd u23 (by omega);refine gP ?_;apply gE;apply gS;refine gR rfl ?_;iterate 2 refine gP ?_
      iterate 2 refine GoR.skip rfl rfl rfl ?_
      iterate 2 refine gP ?_
      apply gE;apply gS;refine gR rfl ?_;iterate 2 refine gP ?_
      refine gO rfl rfl (aOp_shr rfl rfl (by omega) rfl) rfl ?_;refine gO rfl rfl (aOp_and1 rfl rfl rfl) rfl ?_;refine gO rfl rfl (aOp_eql rfl rfl hbit) rfl ?_;apply gE;refine gC (b := false) rfl ?_;refine gD ?_;refine Go.inBlock noJ_ok ?_;refine gR rfl ?_;refine gO rfl rfl (aA rfl rfl) rfl ?_;refine gP ?_;apply gE;exact more (m2 - 1) (j + 1, false) _ _ (by omega) ⟨rfl, rfl, rfl, rfl, rfl, rfl, rfl, rfl, rfl, rfl, trivial⟩ ⟨by dsimp only; omega, (fun w => by cases w), e0, fh, f11⟩
   ·have hknf : kn = false := by
     cases kn with
     | false => rfl
     | true => have := hkn rfl; omega
    subst hknf;apply gS;refine gR rfl ?_;refine gO rfl rfl (kLF rfl rfl) rfl ?_;apply gE;apply gS;refine gC (b := false) rfl ?_;refine gD ?_;apply gS;refine gR rfl ?_;iterate 2 refine gP ?_
    iterate 7 refine GoR.skip rfl rfl rfl ?_
    refine gP ?_;apply gE;refine gC (b := false) rfl ?_;refine gD ?_;refine Go.inBlock noJ_ok ?_;refine gR rfl ?_;refine gP ?_;refine gO rfl rfl (aA rfl rfl) rfl ?_;refine gP ?_;apply gE;exact again2 _ _ (by omega) ⟨rfl, rfl, rfl, show some (AVal.int .i64 (k + 1)) = some (AVal.int .i64 k1) by rw [hk1], trivial⟩ ⟨by omega, e0, fh⟩
 ·have hls := leastK_is O hp s (m := a) (by omega)
  rw [hls];iterate 2 apply gS
  refine gR rfl ?_;refine gP ?_;refine gO rfl rfl (fa27_1 rfl) rfl ?_;refine gO rfl rfl (fa24_1 rfl) rfl ?_;refine gO rfl rfl (ld3 rfl fh rfl) rfl ?_;refine gO rfl rfl (kMF rfl rfl) rfl ?_;apply gE;refine gC (b := false) rfl ?_;refine gD ?_;apply gS;refine gR rfl ?_;iterate 2 refine gP ?_
  apply gE;exact gW Tryz.func37 rfl rfl ⟨rfl, e0⟩
end Go.Proofs.YtobhkdgcciolmaaGreat

namespace Go.Proofs.YtobhkdgcciolmaaGreat
open Go Go.AbsE
set_option linter.unusedSimpArgs false
set_option maxRecDepth 100000
set_option maxHeartbeats 0
set_option linter.unusedVariables false
theorem law8_bad {C : ClampV} {sp se : AVal} {h : AH} (A : ClampAt h C sp se) (hb : C.ps.length < 9223372036854775808 ∧ C.es.length < 9223372036854775808) {w1 w2 : Int} (O : ¬ C.Ok) : Runs Tryz.prog 8 [.agg (C.cells sp se), .int .u16 w1, .int .u8 w2] h (fun en h' => en = .ret (.bool true) ∧ Ext h h') := by
 have hL := fun {h'} (e : Ext h h') => long29_ok (A.ext e) hb.1 hb.2
 by_cases hs : C.ps.length ≤ 40 ∧ C.es.length ≤ 40
 ·rw [decide_eq_false (by omega)] at hL
  have hR := fun {h'} (e : Ext h h') => Clamp30_ok (A.ext e) ⟨hs.1, hs.2⟩
  rw [decide_eq_false O] at hR
  unfold ClampV.cells at *
  have e0 : Ext h h := Ext.refl _
  refine Runs.intro aFunc8 rfl rfl rfl rfl fun rest => ?_;apply gS;refine gR rfl ?_;refine GoR.box rfl rfl rfl rfl rfl rfl fun h0 x0 f0 => ?_;replace e0 := e0.trans x0;refine gP ?_;apply gE;iterate 2 apply gS
  refine gR rfl ?_;refine gO rfl rfl (ld27 rfl f0 rfl) rfl ?_;refine GoR.call rfl rfl (aCF aFunc29 rfl) (hL e0) ?_ np;rintro v1 h1 ⟨q, x1⟩;cases q;refine ⟨_, rfl, ?_⟩;replace f0 := f0.ext x1;replace e0 := e0.trans x1;refine gP ?_;refine gO rfl rfl (ld27 rfl f0 rfl) rfl ?_;refine GoR.call rfl rfl (aCF aFunc30 rfl) (hR e0) ?_ np;rintro v2 h2 ⟨q, x2⟩;cases q;refine ⟨_, rfl, ?_⟩;replace e0 := e0.trans x2;iterate 2 refine gP ?_
  apply gE;refine gC (b := true) rfl ?_;apply gS;refine gR rfl ?_;refine GoR.call rfl rfl (aCF aFunc12 rfl) (alive_ok) ?_ np;rintro v3 h3 ⟨q, x3⟩;cases q;refine ⟨_, rfl, ?_⟩;replace e0 := e0.trans x3;refine gP ?_;apply gE;exact gW Tryz.func8 rfl rfl ⟨rfl, e0⟩
 ·rw [decide_eq_true (by omega)] at hL
  unfold ClampV.cells at *
  have e0 : Ext h h := Ext.refl _
  refine Runs.intro aFunc8 rfl rfl rfl rfl fun rest => ?_;apply gS;refine gR rfl ?_;refine GoR.box rfl rfl rfl rfl rfl rfl fun h0 x0 f0 => ?_;replace e0 := e0.trans x0;refine gP ?_;apply gE;iterate 2 apply gS
  refine gR rfl ?_;refine gO rfl rfl (ld27 rfl f0 rfl) rfl ?_;refine GoR.call rfl rfl (aCF aFunc29 rfl) (hL e0) ?_ np;rintro v1 h1 ⟨q, x1⟩;cases q;refine ⟨_, rfl, ?_⟩;replace e0 := e0.trans x1;refine gP ?_;iterate 3 refine GoR.skip rfl rfl rfl ?_
  refine gP ?_;apply gE;refine gC (b := true) rfl ?_;apply gS;refine gR rfl ?_;refine GoR.call rfl rfl (aCF aFunc12 rfl) (alive_ok) ?_ np;rintro v2 h2 ⟨q, x2⟩;cases q;refine ⟨_, rfl, ?_⟩;replace e0 := e0.trans x2;refine gP ?_;apply gE;exact gW Tryz.func8 rfl rfl ⟨rfl, e0⟩
theorem law8_no {C : ClampV} {sp se : AVal} {h : AH} (A : ClampAt h C sp se) (O : C.Ok) (hp : C.possible = false) {w1 w2 : Nat} (hw1 : w1 < 65536) (hw2 : w2 < 256) : Runs Tryz.prog 8 [.agg (C.cells sp se), .int .u16 w1, .int .u8 w2] h (fun en h' => en = .ret (.bool true) ∧ Ext h h') := by
 have hnp := O.np
 have hne := O.ne
 have B : ClampB C := O.B
 have hL := fun {h'} (e : Ext h h') => long29_ok (A.ext e) (by omega) (by omega)
 rw [decide_eq_false (by omega)] at hL
 have hR := fun {h'} (e : Ext h h') => Clamp30_ok (A.ext e) B
 rw [decide_eq_true O] at hR
 have hl1 := A.ps.len
 rw [List.length_map] at hl1
 have hA := fun {h'} (e : Ext h h') => All_ok (A.ext e) B
 rw [allR_is O, ClampV.tr_no hp] at hA
 obtain ⟨n, hn⟩ : ∃ n, ((w1 : Nat) : Int).tmod (max 0 0 + 2) = n := ⟨_, rfl⟩
 have hn1 : 0 ≤ n := by rw [← hn]; exact Int.tmod_nonneg _ (by omega)
 have hn2 : n < max 0 0 + 2 := by rw [← hn]; exact Int.tmod_lt_of_pos _ (by omega)
 have hS := fun {h'} (e : Ext h h') => Share_ok (A.ext e) B n
 rw [show C.shareR n = (0, 10) from by unfold ClampV.shareR ClampV.shareQ; rw [ClampV.ok_yes O, sods_yes (by omega), if_neg (by rw [hp]; decide)]] at hS
 unfold spC zSp at *
 dsimp only at hA
 have hcells : C.cells sp se = [sp, .int .i64 C.pl, .int .i64 C.ph, se] := rfl
 rw [hcells] at *
 have e0 : Ext h h := Ext.refl _
 refine Runs.intro aFunc8 rfl rfl rfl rfl fun rest => ?_;apply gS;refine gR rfl ?_;refine GoR.box rfl rfl rfl rfl rfl rfl fun h0 x0 f0 => ?_;have := e0.1;replace e0 := e0.trans x0;have := f0.1;refine gP ?_;apply gE;iterate 2 apply gS
 refine gR rfl ?_;refine gO rfl rfl (ld27 rfl f0 rfl) rfl ?_;refine GoR.call rfl rfl (aCF aFunc29 rfl) (hL e0) ?_ np;rintro v1 h1 ⟨q, x1⟩;cases q;refine ⟨_, rfl, ?_⟩;replace f0 := f0.ext x1;replace e0 := e0.trans x1;refine gP ?_;refine gO rfl rfl (ld27 rfl f0 rfl) rfl ?_;refine GoR.call rfl rfl (aCF aFunc30 rfl) (hR e0) ?_ np;rintro v2 h2 ⟨q, x2⟩;cases q;refine ⟨_, rfl, ?_⟩;replace f0 := f0.ext x2;replace e0 := e0.trans x2;iterate 2 refine gP ?_
 apply gE;refine gC (b := false) rfl ?_;refine gD ?_;apply gS;refine gR rfl ?_;refine gO rfl rfl (ld27 rfl f0 rfl) rfl ?_;refine GoR.call rfl rfl (aCF aFunc19 rfl) (hA e0) ?_ np;rintro v3 h3 ⟨q, x3⟩;cases q;refine ⟨_, rfl, ?_⟩;replace f0 := f0.ext x3;replace e0 := e0.trans x3;iterate 3 refine gP ?_
 refine GoR.alloc rfl rfl rfl zt24 rfl rfl fun h4 x4 f4 => ?_;have := e0.1;have := f0.1;replace f0 := f0.ext x4;replace e0 := e0.trans x4;have := f4.1;refine GoR.store rfl rfl rfl rfl rfl rfl f4 rfl sz24 rfl rfl rfl fun h5 u5 => ?_;replace f4 := u5.has f4;replace f0 := f0.upd u5 (by omega);replace e0 := e0.upd u5 (by omega);refine gP ?_;apply gE;apply gS;refine gR rfl ?_;refine gP ?_;refine gO rfl rfl (aOp_convU16 rfl Tryz.underlying42 Tryz.underlying3 (by omega)) rfl ?_;refine gO rfl rfl (fa24_1 rfl) rfl ?_;refine gO rfl rfl (ld3 rfl f4 rfl) rfl ?_;refine gO rfl rfl (aOp_max2 rfl rfl (joinP_max 0 0)) rfl ?_;refine gO rfl rfl (aA rfl rfl) rfl ?_;refine gO rfl rfl (aOp_rem rfl rfl (by omega) hn) rfl ?_;refine gP ?_;apply gE;iterate 2 apply gS
 refine gR rfl ?_;refine gP ?_;refine gO rfl rfl (kGF rfl rfl) rfl ?_;apply gE;refine gC (b := false) rfl ?_;refine gD ?_;apply gS;refine gR rfl ?_;refine gO rfl rfl (ld27 rfl f0 rfl) rfl ?_;refine gP ?_;refine GoR.call rfl rfl (aCF aFunc25 rfl) (hS e0) ?_ np;rintro v6 h6 ⟨q, x6⟩;cases q;refine ⟨_, rfl, ?_⟩;replace e0 := e0.trans x6;iterate 5 refine gP ?_
 apply gE;iterate 2 apply gS
 refine gR rfl ?_;refine gP ?_;refine gO rfl rfl (kXT rfl rfl) rfl ?_;apply gE;refine gC (b := true) rfl ?_;apply gS;refine gR rfl ?_;refine gP ?_;refine gO rfl rfl (kET rfl rfl) rfl ?_;iterate 3 refine gP ?_
 refine gO rfl rfl (kET rfl rfl) rfl ?_;iterate 3 refine gP ?_
 refine gO rfl rfl (kET rfl rfl) rfl ?_;iterate 2 refine gP ?_
 refine GoR.call rfl rfl (aCF aFunc12 rfl) (alive_ok) ?_ np;rintro v7 h7 ⟨q, x7⟩;cases q;refine ⟨_, rfl, ?_⟩;replace e0 := e0.trans x7;iterate 2 refine gP ?_
 apply gE;exact gW Tryz.func8 rfl rfl ⟨rfl, e0⟩
theorem law8_yes {C : ClampV} {sp se : AVal} {h : AH} (A : ClampAt h C sp se) (O : C.Ok) (hp : C.possible = true) {w1 w2 : Nat} (hw1 : w1 < 65536) (hw2 : w2 < 256) : Runs Tryz.prog 8 [.agg (C.cells sp se), .int .u16 w1, .int .u8 w2] h (fun en h' => en = .ret (.bool true) ∧ Ext h h') := by
 have hnp := O.np
 have hne := O.ne
 have B : ClampB C := O.B
 have hL := fun {h'} (e : Ext h h') => long29_ok (A.ext e) (by omega) (by omega)
 rw [decide_eq_false (by omega)] at hL
 have hR := fun {h'} (e : Ext h h') => Clamp30_ok (A.ext e) B
 rw [decide_eq_true O] at hR
 have hl1 := A.ps.len
 rw [List.length_map] at hl1
 have hA := fun {h'} (e : Ext h h') => All_ok (A.ext e) B
 rw [allR_is O, ClampV.tr_yes hp] at hA
 have hin := total_in O hp C.all
 obtain ⟨T, hT⟩ : ∃ T, C.total C.all = T := ⟨_, rfl⟩
 rw [hT] at hA hin
 obtain ⟨n, hn⟩ : ∃ n, ((w1 : Nat) : Int).tmod (max 0 T.2 + 2) = n := ⟨_, rfl⟩
 have hn1 : 0 ≤ n := by rw [← hn]; exact Int.tmod_nonneg _ (by omega)
 have hn2 : n < max 0 T.2 + 2 := by rw [← hn]; exact Int.tmod_lt_of_pos _ (by omega)
 have hS := fun {h'} (e : Ext h h') => Share_ok (A.ext e) B n
 have hlt := all_lt O
 obtain ⟨pw, hpw⟩ : ∃ pw, 2 ^ C.ps.length = pw := ⟨_, rfl⟩
 have hpw1 : 1 ≤ pw := by rw [← hpw]; exact Nat.one_le_two_pow
 have hal : C.all = pw - 1 := by unfold ClampV.all; rw [hpw]
 have hshl : (1 : Int) * 2 ^ C.ps.length = (pw : Nat) := by rw [Int.one_mul, ← hpw]; push_cast; rfl
 have hsub : ((pw : Nat) : Int) - 1 = (C.all : Nat) := by omega
 have hcl := fun {h' : AH} (s : Nat) (e : Ext h h') f => share37_ok O hp (s := s) (h := h') (bh := h.next) (A.ext e) f
 have hcA := fun {h' : AH} (e : Ext h h') f => hcl (h' := h') C.all e f
 rw [hT] at hcA
 unfold spC at *
 dsimp only at hA
 have hcells : C.cells sp se = [sp, .int .i64 C.pl, .int .i64 C.ph, se] := rfl
 rw [hcells] at *
 by_cases hbig : 20000 < n
 ·have e0 : Ext h h := Ext.refl _
  refine Runs.intro aFunc8 rfl rfl rfl rfl fun rest => ?_;apply gS;refine gR rfl ?_;refine GoR.box rfl rfl rfl rfl rfl rfl fun h0 x0 f0 => ?_;have := e0.1;replace e0 := e0.trans x0;have := f0.1;refine gP ?_;apply gE;iterate 2 apply gS
  refine gR rfl ?_;refine gO rfl rfl (ld27 rfl f0 rfl) rfl ?_;refine GoR.call rfl rfl (aCF aFunc29 rfl) (hL e0) ?_ np;rintro v1 h1 ⟨q, x1⟩;cases q;refine ⟨_, rfl, ?_⟩;replace f0 := f0.ext x1;replace e0 := e0.trans x1;refine gP ?_;refine gO rfl rfl (ld27 rfl f0 rfl) rfl ?_;refine GoR.call rfl rfl (aCF aFunc30 rfl) (hR e0) ?_ np;rintro v2 h2 ⟨q, x2⟩;cases q;refine ⟨_, rfl, ?_⟩;replace f0 := f0.ext x2;replace e0 := e0.trans x2;iterate 2 refine gP ?_
  apply gE;refine gC (b := false) rfl ?_;refine gD ?_;apply gS;refine gR rfl ?_;refine gO rfl rfl (ld27 rfl f0 rfl) rfl ?_;refine GoR.call rfl rfl (aCF aFunc19 rfl) (hA e0) ?_ np;rintro v3 h3 ⟨q, x3⟩;cases q;refine ⟨_, rfl, ?_⟩;replace f0 := f0.ext x3;replace e0 := e0.trans x3;iterate 3 refine gP ?_
  refine GoR.alloc rfl rfl rfl zt24 rfl rfl fun h4 x4 f4 => ?_;have := e0.1;have := f0.1;replace e0 := e0.trans x4;have := f4.1;refine GoR.store rfl rfl rfl rfl rfl rfl f4 rfl sz24 rfl rfl rfl fun h5 u5 => ?_;replace f4 := u5.has f4;replace e0 := e0.upd u5 (by omega);refine gP ?_;apply gE;apply gS;refine gR rfl ?_;refine gP ?_;refine gO rfl rfl (aOp_convU16 rfl Tryz.underlying42 Tryz.underlying3 (by omega)) rfl ?_;refine gO rfl rfl (fa24_1 rfl) rfl ?_;refine gO rfl rfl (ld3 rfl f4 rfl) rfl ?_;refine gO rfl rfl (aOp_max2 rfl rfl (joinP_max 0 T.2)) rfl ?_;refine gO rfl rfl (aA rfl rfl) rfl ?_;refine gO rfl rfl (aOp_rem rfl rfl (by omega) hn) rfl ?_;refine gP ?_;apply gE;iterate 2 apply gS
  refine gR rfl ?_;refine gP ?_;refine gO rfl rfl (kGT rfl rfl) rfl ?_;apply gE;refine gC (b := true) rfl ?_;apply gS;refine gR rfl ?_;refine GoR.call rfl rfl (aCF aFunc12 rfl) (alive_ok) ?_ np;rintro v6 h6 ⟨q, x6⟩;cases q;refine ⟨_, rfl, ?_⟩;replace e0 := e0.trans x6;refine gP ?_;apply gE;exact gW Tryz.func8 rfl rfl ⟨rfl, e0⟩
 by_cases hnt : n ≤ T.1
 ·obtain ⟨q, z1, z3, z4, z7, z5, z6⟩ := share_ex O hp (n := n) (by omega) (by rw [hT]; exact hnt)
  rw [z1] at hS
  have hcq := fun {h' : AH} (e : Ext h h') f => hcl (h' := h') q e f
  have hpart : ∀ i, i < 10 → q.testBit i = true → (C.total (andNot q (2 ^ i))).1 < n := fun i hi k => by
   have y1 := popc_less q z3 i hi k
   have y3 := andNot_le q (2 ^ i) (by omega)
   refine Int.lt_of_not_ge fun z => ?_
   have := z6 _ (by omega) (fun j hj b => z4 j hj (andNot_sub z3 hj b)) z
   omega
  obtain ⟨own, hown⟩ : ∃ own, w2 &&& C.all = own := ⟨_, rfl⟩
  have hownl : own ≤ C.all := by rw [← hown]; exact Nat.and_le_right
  have hco := fun {h' : AH} (e : Ext h h') f => hcl (h' := h') own e f
  have hs2 := fun {h'} => size38_ok own (by omega) (h := h')
  have hs3 := fun {h'} => size38_ok q z3 (h := h')
  have hp5 := popc_le own
  have hp6 := popc_le q
  have hsubo : ∀ i, i < 10 → own.testBit i = true → C.all.testBit i = true := fun i _ hb => by
   rw [← hown, Nat.testBit_and] at hb
   cases z : C.all.testBit i with
   | true => rfl
   | false => rw [z, Bool.and_false] at hb; cases hb
  have hl := z6 own (by omega) hsubo
  obtain ⟨tq, htq⟩ : ∃ x, (C.total q).1 = x := ⟨_, rfl⟩
  obtain ⟨to, hto⟩ : ∃ x, (C.total own).1 = x := ⟨_, rfl⟩
  rw [htq] at hcq z5;rw [hto] at hco hl
  obtain ⟨al, hale⟩ : ∃ x, C.all = x := ⟨_, rfl⟩
  rw [hale] at hcA hal hsub hown hownl hlt z7
  have e0 : Ext h h := Ext.refl _
  refine Runs.intro aFunc8 rfl rfl rfl rfl fun rest => ?_;apply gS;refine gR rfl ?_;refine GoR.box rfl rfl rfl rfl rfl rfl fun h0 x0 f0 => ?_;have := e0.1;replace e0 := e0.trans x0;have := f0.1;refine gP ?_;apply gE;iterate 2 apply gS
  refine gR rfl ?_;refine gO rfl rfl (ld27 rfl f0 rfl) rfl ?_;refine GoR.call rfl rfl (aCF aFunc29 rfl) (hL e0) ?_ np;rintro v1 h1 ⟨q, x1⟩;cases q;refine ⟨_, rfl, ?_⟩;replace f0 := f0.ext x1;replace e0 := e0.trans x1;refine gP ?_;refine gO rfl rfl (ld27 rfl f0 rfl) rfl ?_;refine GoR.call rfl rfl (aCF aFunc30 rfl) (hR e0) ?_ np;rintro v2 h2 ⟨q, x2⟩;cases q;refine ⟨_, rfl, ?_⟩;replace f0 := f0.ext x2;replace e0 := e0.trans x2;iterate 2 refine gP ?_
  apply gE;refine gC (b := false) rfl ?_;refine gD ?_;apply gS;refine gR rfl ?_;refine gO rfl rfl (ld27 rfl f0 rfl) rfl ?_;refine GoR.call rfl rfl (aCF aFunc19 rfl) (hA e0) ?_ np;rintro v3 h3 ⟨q, x3⟩;cases q;refine ⟨_, rfl, ?_⟩;replace f0 := f0.ext x3;replace e0 := e0.trans x3;iterate 3 refine gP ?_
  refine GoR.alloc rfl rfl rfl zt24 rfl rfl fun h4 x4 f4 => ?_;have := e0.1;have := f0.1;replace f0 := f0.ext x4;replace e0 := e0.trans x4;have := f4.1;refine GoR.store rfl rfl rfl rfl rfl rfl f4 rfl sz24 rfl rfl rfl fun h5 u5 => ?_;replace f4 := u5.has f4;replace f0 := f0.upd u5 (by omega);replace e0 := e0.upd u5 (by omega);refine gP ?_;apply gE;apply gS;refine gR rfl ?_;refine gP ?_;refine gO rfl rfl (aOp_convU16 rfl Tryz.underlying42 Tryz.underlying3 (by omega)) rfl ?_;refine gO rfl rfl (fa24_1 rfl) rfl ?_;refine gO rfl rfl (ld3 rfl f4 rfl) rfl ?_;refine gO rfl rfl (aOp_max2 rfl rfl (joinP_max 0 T.2)) rfl ?_;refine gO rfl rfl (aA rfl rfl) rfl ?_;refine gO rfl rfl (aOp_rem rfl rfl (by omega) hn) rfl ?_;refine gP ?_;apply gE;iterate 2 apply gS
  refine gR rfl ?_;refine gP ?_;refine gO rfl rfl (kGF rfl rfl) rfl ?_;apply gE;refine gC (b := false) rfl ?_;refine gD ?_;apply gS;refine gR rfl ?_;refine gO rfl rfl (ld27 rfl f0 rfl) rfl ?_;refine gP ?_;refine GoR.call rfl rfl (aCF aFunc25 rfl) (hS e0) ?_ np;rintro v6 h6 ⟨q, x6⟩;cases q;refine ⟨_, rfl, ?_⟩;replace f0 := f0.ext x6;replace e0 := e0.trans x6;iterate 5 refine gP ?_
  apply gE;iterate 2 apply gS
  refine gR rfl ?_;refine gP ?_;refine gO rfl rfl (kXF rfl rfl) rfl ?_;apply gE;refine gC (b := false) rfl ?_;refine gD ?_;apply gS;refine gR rfl ?_;iterate 2 refine gP ?_
  apply gE;apply gS;refine gR rfl ?_;refine gO rfl rfl (fa27_0 rfl) rfl ?_;refine gO rfl rfl (ld22 rfl f0 rfl) rfl ?_;refine gO rfl rfl (aOp_lenSlice Tryz.underlying22 rfl hl1) rfl ?_;refine gO rfl rfl (aOp_shl rfl rfl (by omega) hshl (by omega)) rfl ?_;refine gO rfl rfl (aOp_sub rfl rfl (by constructor <;> omega) hsub) rfl ?_;iterate 2 refine gP ?_
  apply gE;iterate 2 apply gS
  refine gR rfl ?_;refine gP ?_;refine gO rfl rfl (kET rfl rfl) rfl ?_;iterate 2 refine gP ?_
  refine GoR.call rfl rfl (aOp_callVal rfl aFunc37 rfl) (hcA e0 f0) ?_ np;rintro v7 h7 ⟨q, x7⟩;cases q;refine ⟨_, rfl, ?_⟩;replace f0 := f0.ext x7;replace e0 := e0.trans x7;refine gP ?_;refine gO rfl rfl (kNT rfl rfl) rfl ?_;refine gO rfl rfl (aOp_neqBool (r := false) rfl rfl Tryz.underlying4 rfl) rfl ?_;iterate 2 refine gP ?_
  refine gO rfl rfl (kXF rfl rfl) rfl ?_;refine gP ?_;iterate 6 refine GoR.skip rfl rfl rfl ?_
  iterate 2 refine gP ?_
  apply gE;refine gC (b := false) rfl ?_;refine gD ?_;iterate 2 apply gS
  refine gR rfl ?_;refine gP ?_;refine gO rfl rfl (kXF rfl rfl) rfl ?_;apply gE;refine gC (b := false) rfl ?_;refine gD ?_;iterate 2 apply gS
  refine gR rfl ?_;refine gP ?_;refine gO rfl rfl (kLF rfl rfl) rfl ?_;iterate 3 refine gP ?_
  refine gO rfl rfl (kGF rfl rfl) rfl ?_;iterate 4 refine gP ?_
  refine GoR.call rfl rfl (aOp_callVal rfl aFunc37 rfl) (hcq e0 f0) ?_ np;rintro v8 h8 ⟨q, x8⟩;cases q;refine ⟨_, rfl, ?_⟩;replace f0 := f0.ext x8;replace e0 := e0.trans x8;refine gP ?_;refine gO rfl rfl (kLF rfl rfl) rfl ?_;refine gP ?_;apply gE;refine gC (b := false) rfl ?_;refine gD ?_;iterate 2 apply gS
  refine gR rfl ?_;refine gO rfl rfl (fa27_0 rfl) rfl ?_;refine gO rfl rfl (ld22 rfl f0 rfl) rfl ?_;refine gO rfl rfl (aOp_lenSlice Tryz.underlying22 rfl hl1) rfl ?_;refine gP ?_;apply gE;refine Go.block noJ_ok ?_;refine Go.loopKeep (fun i : Nat => [(2, .int .u8 (w2 : Nat)), (3, .ptr h.next 0), (9, .int .i64 n), (10, .int .i64 (q : Nat)), (12, .func (.func 37) [] [.ptr h.next 0]), (13, .int .i64 (al : Nat)), (14, .func (.func 38) [] []), (106, sp), (107, .int .i64 C.ps.length), (108, .int .i64 (i : Nat))]) (fun m i h' => m + i = C.ps.length ∧ Ext h h' ∧ Has h' h.next (.cells .plain [sp, .int .i64 C.pl, .int .i64 C.ph, se] 27)) (n := C.ps.length) 0 ⟨rfl, rfl, rfl, rfl, rfl, rfl, rfl, rfl, rfl, rfl, trivial⟩ ⟨rfl, e0, f0⟩ ?_;clear e0 f0 f4;rintro m i h70 ⟨hm, e0, f0⟩ again
  by_cases hi : i < C.ps.length
  ·have hbit : decide (((q : Nat) : Int).fdiv (2 ^ i) % 2 = 1) = q.testBit i := bit_int q i
   have h2i : 2 ^ i ≤ 2 ^ 10 := Nat.pow_le_pow_right (by decide) (by omega)
   obtain ⟨pq, hpq⟩ : ∃ pw, 2 ^ i = pw := ⟨_, rfl⟩
   have hshi : (1 : Int) * 2 ^ i = (pq : Nat) := by rw [Int.one_mul, ← hpq]; push_cast; rfl
   cases hb : q.testBit i with
   | false =>
    rw [hb] at hbit;apply gS;refine gR rfl ?_;refine gO rfl rfl (kLT rfl rfl) rfl ?_;apply gE;apply gS;refine gC (b := true) rfl ?_;refine gD ?_;apply gS;refine Go.block noJ_ok ?_;apply gS;refine gR rfl ?_;iterate 2 refine gP ?_
    apply gE;apply gS;refine gR rfl ?_;iterate 2 refine gP ?_
    refine gO rfl rfl (aOp_shr rfl rfl (by omega) rfl) rfl ?_;refine gO rfl rfl (aOp_and1 rfl rfl rfl) rfl ?_;refine gO rfl rfl (aOp_eql rfl rfl hbit) rfl ?_;refine gP ?_;iterate 8 refine GoR.skip rfl rfl rfl ?_
    refine gP ?_;apply gE;refine gC (b := false) rfl ?_;refine gD ?_;refine Go.inBlock noJ_ok ?_;refine gR rfl ?_;refine gO rfl rfl (aA rfl rfl) rfl ?_;refine gP ?_;apply gE;exact again (m - 1) (i + 1) _ _ (by omega) ⟨rfl, rfl, rfl, rfl, rfl, rfl, rfl, rfl, rfl, rfl, trivial⟩ ⟨by omega, e0, f0⟩
   | true =>
    rw [hb] at hbit
    have hp7 := hpart i (by omega) hb
    rw [hpq] at hp7 h2i
    have hc7 := fun {h' : AH} (e : Ext h h') f => hcl (h' := h') (andNot q pq) e f
    obtain ⟨t7, ht7⟩ : ∃ x, (C.total (andNot q pq)).1 = x := ⟨_, rfl⟩
    rw [ht7] at hp7 hc7;apply gS;refine gR rfl ?_;refine gO rfl rfl (kLT rfl rfl) rfl ?_;apply gE;apply gS;refine gC (b := true) rfl ?_;refine gD ?_;apply gS;refine Go.block noJ_ok ?_;apply gS;refine gR rfl ?_;iterate 2 refine gP ?_
    apply gE;apply gS;refine gR rfl ?_;iterate 2 refine gP ?_
    refine gO rfl rfl (aOp_shr rfl rfl (by omega) rfl) rfl ?_;refine gO rfl rfl (aOp_and1 rfl rfl rfl) rfl ?_;refine gO rfl rfl (aOp_eql rfl rfl hbit) rfl ?_;iterate 4 refine gP ?_
    refine gO rfl rfl (aOp_shl rfl rfl (by omega) hshi (by omega)) rfl ?_;refine gO rfl rfl (aOp_andNot (r := andNot q pq) rfl rfl (by omega) rfl) rfl ?_;refine GoR.call rfl rfl (aOp_callVal rfl aFunc37 rfl) (hc7 e0 f0) ?_ np;rintro v71 h71 ⟨q, x71⟩;cases q;refine ⟨_, rfl, ?_⟩;replace f0 := f0.ext x71;replace e0 := e0.trans x71;refine gP ?_;refine gO rfl rfl (kNF rfl rfl) rfl ?_;refine gP ?_;apply gE;refine gC (b := false) rfl ?_;refine gD ?_;refine Go.inBlock noJ_ok ?_;refine gR rfl ?_;refine gO rfl rfl (aA rfl rfl) rfl ?_;refine gP ?_;apply gE;exact again (m - 1) (i + 1) _ _ (by omega) ⟨rfl, rfl, rfl, rfl, rfl, rfl, rfl, rfl, rfl, rfl, trivial⟩ ⟨by omega, e0, f0⟩
  ·clear again
   by_cases hk : n ≤ to
   ·have hl2 := hl hk
    by_cases hpo : popc q = popc own
    ·apply gS;refine gR rfl ?_;refine gO rfl rfl (kLF rfl rfl) rfl ?_;apply gE;apply gS;refine gC (b := false) rfl ?_;refine gD ?_;apply gS;refine gR rfl ?_;refine gP ?_;refine gO rfl rfl (aOp_convU8 rfl Tryz.underlying5 Tryz.underlying3 (by omega)) rfl ?_;refine gP ?_;refine gO rfl rfl (aOp_andNat rfl rfl (by omega) (by omega) hown) rfl ?_;refine gP ?_;apply gE;apply gS;refine gR rfl ?_;iterate 2 refine gP ?_
     refine GoR.call rfl rfl (aOp_callVal rfl aFunc37 rfl) (hco e0 f0) ?_ np;rintro v71 h71 ⟨q, x71⟩;cases q;refine ⟨_, rfl, ?_⟩;replace e0 := e0.trans x71;refine gP ?_;refine gO rfl rfl (kLF rfl rfl) rfl ?_;iterate 3 refine gP ?_
     refine GoR.call rfl rfl (aOp_callVal rfl aFunc38 rfl) (hs2) ?_ np;rintro v72 h72 ⟨q, x72⟩;cases q;refine ⟨_, rfl, ?_⟩;replace e0 := e0.trans x72;iterate 2 refine gP ?_
     refine GoR.call rfl rfl (aOp_callVal rfl aFunc38 rfl) (hs3) ?_ np;rintro v73 h73 ⟨q, x73⟩;cases q;refine ⟨_, rfl, ?_⟩;replace e0 := e0.trans x73;refine gO rfl rfl (kGF rfl rfl) rfl ?_;iterate 4 refine gP ?_
     refine GoR.call rfl rfl (aOp_callVal rfl aFunc38 rfl) (hs2) ?_ np;rintro v74 h74 ⟨q, x74⟩;cases q;refine ⟨_, rfl, ?_⟩;replace e0 := e0.trans x74;iterate 2 refine gP ?_
     refine GoR.call rfl rfl (aOp_callVal rfl aFunc38 rfl) (hs3) ?_ np;rintro v75 h75 ⟨q, x75⟩;cases q;refine ⟨_, rfl, ?_⟩;replace e0 := e0.trans x75;refine gO rfl rfl (kET rfl rfl) rfl ?_;iterate 3 refine gP ?_
     refine gO rfl rfl (kNT rfl rfl) rfl ?_;iterate 3 refine gP ?_
     refine GoR.call rfl rfl (aCF aFunc12 rfl) (alive_ok) ?_ np;rintro v76 h76 ⟨q, x76⟩;cases q;refine ⟨_, rfl, ?_⟩;replace e0 := e0.trans x76;iterate 2 refine gP ?_
     apply gE;exact gW Tryz.func8 rfl rfl ⟨rfl, e0⟩
    ·apply gS;refine gR rfl ?_;refine gO rfl rfl (kLF rfl rfl) rfl ?_;apply gE;apply gS;refine gC (b := false) rfl ?_;refine gD ?_;apply gS;refine gR rfl ?_;refine gP ?_;refine gO rfl rfl (aOp_convU8 rfl Tryz.underlying5 Tryz.underlying3 (by omega)) rfl ?_;refine gP ?_;refine gO rfl rfl (aOp_andNat rfl rfl (by omega) (by omega) hown) rfl ?_;refine gP ?_;apply gE;apply gS;refine gR rfl ?_;iterate 2 refine gP ?_
     refine GoR.call rfl rfl (aOp_callVal rfl aFunc37 rfl) (hco e0 f0) ?_ np;rintro v71 h71 ⟨q, x71⟩;cases q;refine ⟨_, rfl, ?_⟩;replace e0 := e0.trans x71;refine gP ?_;refine gO rfl rfl (kLF rfl rfl) rfl ?_;iterate 3 refine gP ?_
     refine GoR.call rfl rfl (aOp_callVal rfl aFunc38 rfl) (hs2) ?_ np;rintro v72 h72 ⟨q, x72⟩;cases q;refine ⟨_, rfl, ?_⟩;replace e0 := e0.trans x72;iterate 2 refine gP ?_
     refine GoR.call rfl rfl (aOp_callVal rfl aFunc38 rfl) (hs3) ?_ np;rintro v73 h73 ⟨q, x73⟩;cases q;refine ⟨_, rfl, ?_⟩;replace e0 := e0.trans x73;refine gO rfl rfl (kGT rfl rfl) rfl ?_;iterate 2 refine gP ?_
     iterate 12 refine GoR.skip rfl rfl rfl ?_
     iterate 2 refine gP ?_
     refine GoR.call rfl rfl (aCF aFunc12 rfl) (alive_ok) ?_ np;rintro v74 h74 ⟨q, x74⟩;cases q;refine ⟨_, rfl, ?_⟩;replace e0 := e0.trans x74;iterate 2 refine gP ?_
     apply gE;exact gW Tryz.func8 rfl rfl ⟨rfl, e0⟩
   ·apply gS;refine gR rfl ?_;refine gO rfl rfl (kLF rfl rfl) rfl ?_;apply gE;apply gS;refine gC (b := false) rfl ?_;refine gD ?_;apply gS;refine gR rfl ?_;refine gP ?_;refine gO rfl rfl (aOp_convU8 rfl Tryz.underlying5 Tryz.underlying3 (by omega)) rfl ?_;refine gP ?_;refine gO rfl rfl (aOp_andNat rfl rfl (by omega) (by omega) hown) rfl ?_;refine gP ?_;apply gE;apply gS;refine gR rfl ?_;iterate 2 refine gP ?_
    refine GoR.call rfl rfl (aOp_callVal rfl aFunc37 rfl) (hco e0 f0) ?_ np;rintro v71 h71 ⟨q, x71⟩;cases q;refine ⟨_, rfl, ?_⟩;replace e0 := e0.trans x71;refine gP ?_;refine gO rfl rfl (kLT rfl rfl) rfl ?_;refine gP ?_;iterate 7 refine GoR.skip rfl rfl rfl ?_
    iterate 2 refine gP ?_
    iterate 12 refine GoR.skip rfl rfl rfl ?_
    iterate 2 refine gP ?_
    refine GoR.call rfl rfl (aCF aFunc12 rfl) (alive_ok) ?_ np;rintro v72 h72 ⟨q, x72⟩;cases q;refine ⟨_, rfl, ?_⟩;replace e0 := e0.trans x72;iterate 2 refine gP ?_
    apply gE;exact gW Tryz.func8 rfl rfl ⟨rfl, e0⟩
 ·rw [share_more O hp (n := n) (by rw [hT]; omega)] at hS
  have e0 : Ext h h := Ext.refl _
  refine Runs.intro aFunc8 rfl rfl rfl rfl fun rest => ?_;apply gS;refine gR rfl ?_;refine GoR.box rfl rfl rfl rfl rfl rfl fun h0 x0 f0 => ?_;have := e0.1;replace e0 := e0.trans x0;have := f0.1;refine gP ?_;apply gE;iterate 2 apply gS
  refine gR rfl ?_;refine gO rfl rfl (ld27 rfl f0 rfl) rfl ?_;refine GoR.call rfl rfl (aCF aFunc29 rfl) (hL e0) ?_ np;rintro v1 h1 ⟨q, x1⟩;cases q;refine ⟨_, rfl, ?_⟩;replace f0 := f0.ext x1;replace e0 := e0.trans x1;refine gP ?_;refine gO rfl rfl (ld27 rfl f0 rfl) rfl ?_;refine GoR.call rfl rfl (aCF aFunc30 rfl) (hR e0) ?_ np;rintro v2 h2 ⟨q, x2⟩;cases q;refine ⟨_, rfl, ?_⟩;replace f0 := f0.ext x2;replace e0 := e0.trans x2;iterate 2 refine gP ?_
  apply gE;refine gC (b := false) rfl ?_;refine gD ?_;apply gS;refine gR rfl ?_;refine gO rfl rfl (ld27 rfl f0 rfl) rfl ?_;refine GoR.call rfl rfl (aCF aFunc19 rfl) (hA e0) ?_ np;rintro v3 h3 ⟨q, x3⟩;cases q;refine ⟨_, rfl, ?_⟩;replace f0 := f0.ext x3;replace e0 := e0.trans x3;iterate 3 refine gP ?_
  refine GoR.alloc rfl rfl rfl zt24 rfl rfl fun h4 x4 f4 => ?_;have := e0.1;have := f0.1;replace f0 := f0.ext x4;replace e0 := e0.trans x4;have := f4.1;refine GoR.store rfl rfl rfl rfl rfl rfl f4 rfl sz24 rfl rfl rfl fun h5 u5 => ?_;replace f4 := u5.has f4;replace f0 := f0.upd u5 (by omega);replace e0 := e0.upd u5 (by omega);refine gP ?_;apply gE;apply gS;refine gR rfl ?_;refine gP ?_;refine gO rfl rfl (aOp_convU16 rfl Tryz.underlying42 Tryz.underlying3 (by omega)) rfl ?_;refine gO rfl rfl (fa24_1 rfl) rfl ?_;refine gO rfl rfl (ld3 rfl f4 rfl) rfl ?_;refine gO rfl rfl (aOp_max2 rfl rfl (joinP_max 0 T.2)) rfl ?_;refine gO rfl rfl (aA rfl rfl) rfl ?_;refine gO rfl rfl (aOp_rem rfl rfl (by omega) hn) rfl ?_;refine gP ?_;apply gE;iterate 2 apply gS
  refine gR rfl ?_;refine gP ?_;refine gO rfl rfl (kGF rfl rfl) rfl ?_;apply gE;refine gC (b := false) rfl ?_;refine gD ?_;apply gS;refine gR rfl ?_;refine gO rfl rfl (ld27 rfl f0 rfl) rfl ?_;refine gP ?_;refine GoR.call rfl rfl (aCF aFunc25 rfl) (hS e0) ?_ np;rintro v6 h6 ⟨q, x6⟩;cases q;refine ⟨_, rfl, ?_⟩;replace f0 := f0.ext x6;replace e0 := e0.trans x6;iterate 5 refine gP ?_
  apply gE;iterate 2 apply gS
  refine gR rfl ?_;refine gP ?_;refine gO rfl rfl (kXF rfl rfl) rfl ?_;apply gE;refine gC (b := false) rfl ?_;refine gD ?_;apply gS;refine gR rfl ?_;iterate 2 refine gP ?_
  apply gE;apply gS;refine gR rfl ?_;refine gO rfl rfl (fa27_0 rfl) rfl ?_;refine gO rfl rfl (ld22 rfl f0 rfl) rfl ?_;refine gO rfl rfl (aOp_lenSlice Tryz.underlying22 rfl hl1) rfl ?_;refine gO rfl rfl (aOp_shl rfl rfl (by omega) hshl (by omega)) rfl ?_;refine gO rfl rfl (aOp_sub rfl rfl (by constructor <;> omega) hsub) rfl ?_;iterate 2 refine gP ?_
  apply gE;iterate 2 apply gS
  refine gR rfl ?_;refine gP ?_;refine gO rfl rfl (kEF rfl rfl) rfl ?_;iterate 2 refine gP ?_
  refine GoR.call rfl rfl (aOp_callVal rfl aFunc37 rfl) (hcA e0 f0) ?_ np;rintro v7 h7 ⟨q, x7⟩;cases q;refine ⟨_, rfl, ?_⟩;replace e0 := e0.trans x7;refine gP ?_;refine gO rfl rfl (kNF rfl rfl) rfl ?_;refine gO rfl rfl (aOp_neqBool (r := false) rfl rfl Tryz.underlying4 rfl) rfl ?_;iterate 2 refine gP ?_
  refine gO rfl rfl (kXT rfl rfl) rfl ?_;iterate 2 refine gP ?_
  refine gO rfl rfl (kXF rfl rfl) rfl ?_;iterate 2 refine gP ?_
  refine gO rfl rfl (kXF rfl rfl) rfl ?_;iterate 3 refine gP ?_
  apply gE;refine gC (b := false) rfl ?_;refine gD ?_;iterate 2 apply gS
  refine gR rfl ?_;refine gP ?_;refine gO rfl rfl (kXT rfl rfl) rfl ?_;apply gE;refine gC (b := true) rfl ?_;apply gS;refine gR rfl ?_;refine GoR.call rfl rfl (aCF aFunc12 rfl) (alive_ok) ?_ np;rintro v8 h8 ⟨q, x8⟩;cases q;refine ⟨_, rfl, ?_⟩;replace e0 := e0.trans x8;refine gP ?_;apply gE;exact gW Tryz.func8 rfl rfl ⟨rfl, e0⟩
theorem law8 {C : ClampV} {sp se : AVal} {h : AH} (A : ClampAt h C sp se) (hb : C.ps.length < 9223372036854775808 ∧ C.es.length < 9223372036854775808) {w1 w2 : Int} (h1 : 0 ≤ w1 ∧ w1 < 65536) (h2 : 0 ≤ w2 ∧ w2 < 256) : Runs Tryz.prog 8 [.agg (C.cells sp se), .int .u16 w1, .int .u8 w2] h (fun en h' => en = .ret (.bool true) ∧ Ext h h') := by
 by_cases O : C.Ok
 ·cases hp : C.possible with
  | true =>
   have := law8_yes A O hp (w1 := w1.toNat) (w2 := w2.toNat) (by omega) (by omega)
   rw [Int.toNat_of_nonneg h1.1, Int.toNat_of_nonneg h2.1] at this;exact this
  | false =>
   have := law8_no A O hp (w1 := w1.toNat) (w2 := w2.toNat) (by omega) (by omega)
   rw [Int.toNat_of_nonneg h1.1, Int.toNat_of_nonneg h2.1] at this;exact this
 ·exact law8_bad A hb O
end Go.Proofs.YtobhkdgcciolmaaGreat
