import Derived.Test.YtmimdgjehnhnoaaMAM
import Derived.Test.YtmimdgjehnhnoaaMAH
namespace Go.Proofs.Ytmimdgjehnhnoaa
open Go Go.AbsE
set_option linter.unusedSimpArgs false
set_option maxRecDepth 100000
set_option maxHeartbeats 0
set_option linter.unusedVariables false
def FootV.bad (F : FootV) : List Int → Nat → List Pl → Option (Int × Int × Int)
 | _, _, [] => none
 | st, i, p :: L => if F.rule st i p 0 ≠ 0 then some (i, 0, F.rule st i p 0) else if F.rule st i p 1 ≠ 0 then some (i, 1, F.rule st i p 1) else if F.rule st i p 2 ≠ 0 then some (i, 2, F.rule st i p 2) else F.bad (withV st p) (i + 1) L
def stA (L : List Pl) : Nat → List Int
 | 0 => [0, 0, 0, 0, 0, 0, 0, 0]
 | i + 1 => match L[i]? with | some p => withV (stA L i) p | none => stA L i
theorem stA_len (L : List Pl) : ∀ i, (stA L i).length = 8
 | 0 => rfl
 | i + 1 => by
  unfold stA
  split
  ·rw [withV_len, stA_len L i]
  ·exact stA_len L i
theorem stA_in (L : List Pl) : ∀ i, ∀ y, y ∈ stA L i → 0 ≤ y ∧ y ≤ 3 * (i : Int)
 | 0, y, hy => by
  simp [stA] at hy
  omega
 | i + 1, y, hy => by
  have ih := stA_in L i
  unfold stA at hy
  split at hy
  ·have := withV_in ih (by omega) y hy
   omega
  ·have := ih y hy
   omega
theorem broken_ok {F : FootV} (O : F.Ok) {rsl hsl : AVal} {h : AH} (A : FootAt h F rsl hsl) {L : List Pl} (hL : L.length = F.hs.length) (hn : ∀ p, p ∈ L → p.Num F.rs.length) {s : AVal} (hs : SliceOf h 3 s (L.map Pl.cells)) :
  Runs Try.prog 68 [.agg (F.cells rsl hsl), s] h (fun en h' => (match F.bad (stA L 0) 0 L with | some x => en = .ret (.tuple [.int .i64 x.1, .int .i64 x.2.1, .int .i64 x.2.2]) | none => en = .pan (refusal 4)) ∧ Ext h h') := by
 have hl1 := hs.len
 rw [List.length_map] at hl1
 have hnr := O.nr
 have hnh := O.nh
 have hz : splice (repl (AVal.int .i64 0).cells 9) 0 (i64s (stA L 0 ++ [((0 : Nat) : Int)])) = some (i64s (stA L 0 ++ [((0 : Nat) : Int)])) := rfl
 have hru := fun h A st hst i hi p hp k hk => rule_ok O (h := h) (rsl := rsl) (hsl := hsl) A (st := st) hst (i := i) hi (p := p) hp (k := k) hk
 obtain ⟨R, hR⟩ : ∃ R, F.bad (stA L 0) 0 L = R := ⟨_, rfl⟩
 rw [hR]
 unfold FootV.cells at hru ⊢
 have e0 : Ext h h := Ext.refl _
 refine Runs.intro aFunc68 rfl rfl rfl rfl fun rest => ?_;apply gS;refine gR rfl ?_;refine GoR.box rfl rfl rfl rfl rfl rfl fun h0 x0 f0 => ?_;have := e0.1;replace e0 := e0.trans x0;have := f0.1;iterate 3 refine gP ?_
 apply gE;apply gS;refine gR rfl ?_;refine GoR.alloc rfl rfl rfl zt138 rfl rfl fun h1 x1 f1 => ?_;have := e0.1;have := f0.1;replace f0 := f0.ext x1;replace e0 := e0.trans x1;have := f1.1;apply gE;iterate 2 apply gS
 refine gR rfl ?_;refine gP ?_;refine gO rfl rfl (aOp_lenSlice Try.underlying40 rfl (by assumption)) rfl ?_;refine gP ?_;apply gE;refine Go.block noJ_ok ?_
 refine Go.loopKeep (fun i : Nat => [(2, .ptr h.next 0), (7, .ptr h0.next 0), (12, s), (13, .int .i64 L.length), (14, .int .i64 (i : Nat))])
  (fun m i h' => m + i = L.length ∧ Ext h h' ∧ h0.next < h'.next ∧ Has h' h.next (.cells .plain [rsl, .int .i64 F.men, .int .i64 F.l0, .int .i64 F.l1, .int .i64 F.l2, .int .i64 F.d0, .int .i64 F.d1, .int .i64 F.d2, hsl] 80) ∧ Has h' h0.next (.cells .plain (i64s (stA L i ++ [(i : Int)])) 138) ∧ R = F.bad (stA L i) i (L.drop i))
  (n := L.length) 0 ⟨rfl, rfl, rfl, rfl, rfl, trivial⟩ ⟨rfl, e0, f1.1, f0, f1, hR.symm⟩ ?_
 clear e0 f0 f1;rintro m i h20 ⟨hm, e0, hn0, f0, f1, hbad⟩ again
 by_cases hi : i < L.length
 ·obtain ⟨p, hp⟩ : ∃ p, L[i]? = some p := ⟨L[i], by simp [hi]⟩
  have hpn := hn p (List.mem_of_getElem? hp)
  obtain ⟨bq, off, q1, q2⟩ := hs.at (i := i) (l := Pl.cells p) (by rw [List.getElem?_map, hp]; rfl)
  rw [List.length_map] at q1
  have hst := stA_len L i
  have hsi := stA_in L i
  have hdr : L.drop i = p :: L.drop (i + 1) := by
   rw [List.drop_eq_getElem_cons hi]
   congr 1
   have := List.getElem?_eq_getElem hi
   rw [hp] at this;exact (Option.some.inj this).symm
  rw [hdr] at hbad
  have hsa : stA L (i + 1) = withV (stA L i) p := by
   show (match L[i]? with | some p => withV (stA L i) p | none => stA L i) = _
   rw [hp]
  have g9 := ros_len (i := (i : Int)) hst
  have g9' := ros_len (st := withV (stA L i) p) (i := (i : Int) + 1) (by rw [withV_len, hst])
  have hwi := fun h => with_ok (h := h) (st := stA L i) (i := (i : Int)) (p := p) hst (by obtain ⟨a, b, c⟩ := hpn; unfold Pl.Num; omega) (fun y hy => by have := hsi y hy; omega) (by omega)
  have hr0 := fun h A => hru h A (stA L i) hst i (by omega) p hpn 0 (by omega)
  have hr1 := fun h A => hru h A (stA L i) hst i (by omega) p hpn 1 (by omega)
  have hr2 := fun h A => hru h A (stA L i) hst i (by omega) p hpn 2 (by omega)
  rw [show F.bad (stA L i) i (p :: L.drop (i + 1)) = if F.rule (stA L i) i p 0 ≠ 0 then some ((i : Int), 0, F.rule (stA L i) i p 0) else if F.rule (stA L i) i p 1 ≠ 0 then some ((i : Int), 1, F.rule (stA L i) i p 1) else if F.rule (stA L i) i p 2 ≠ 0 then some ((i : Int), 2, F.rule (stA L i) i p 2) else F.bad (withV (stA L i) p) (i + 1) (L.drop (i + 1)) from rfl] at hbad
  unfold Pl.cells at q2 hr0 hr1 hr2 hwi
  by_cases c0 : F.rule (stA L i) i p 0 = 0
  ·rw [if_neg (by simp [c0])] at hbad;rw [c0] at hr0
   by_cases c1 : F.rule (stA L i) i p 1 = 0
   ·rw [if_neg (by simp [c1])] at hbad;rw [c1] at hr1
    by_cases c2 : F.rule (stA L i) i p 2 = 0
    ·rw [if_neg (by simp [c2])] at hbad;rw [c2] at hr2;apply gS;refine gR rfl ?_;refine gO rfl rfl (kLT rfl rfl) rfl ?_;apply gE;apply gS;refine gC (b := true) rfl ?_;refine gD ?_;apply gS;refine Go.block noJ_ok ?_;apply gS;refine gR rfl ?_;refine gP ?_;refine gO rfl rfl (aOp_indexAddr (i := i) Try.underlying40 sz27 rfl (by assumption) rfl (Nat.ble_eq_true_of_le (by omega))) rfl ?_;refine gO rfl rfl (aOp_loadE ag27 sz27 rfl (q2.ext e0)) rfl ?_;refine GoR.alloc rfl rfl rfl zt27 rfl rfl fun h21 x21 f21 => ?_;have := e0.1;have := f0.1;have := f1.1;replace f0 := f0.ext x21;replace f1 := f1.ext x21;replace e0 := e0.trans x21;have := f21.1;refine gP ?_;refine GoR.store rfl rfl rfl rfl rfl rfl f21 rfl sz27 rfl rfl rfl fun h22 u22 => ?_;replace f21 := u22.has f21;replace f0 := f0.upd u22 (by omega);replace f1 := f1.upd u22 (by omega);replace e0 := e0.upd u22 (by omega);apply gE;iterate 2 apply gS
     refine gR rfl ?_;refine gP ?_;apply gE;refine Go.block noJ_ok ?_;refine Go.loop noJ_ok ?_;apply gS;refine gR rfl ?_;refine gO rfl rfl (kLT rfl rfl) rfl ?_;apply gE;apply gS;refine gC (b := true) rfl ?_;refine gD ?_;apply gS;refine Go.block noJ_ok ?_;apply gS;refine gR rfl ?_;iterate 2 refine gP ?_
     apply gE;apply gS;refine gR rfl ?_;refine gO rfl rfl (ld80 rfl f0 rfl) rfl ?_;refine gO rfl rfl (ld138 rfl f1 (slice_all g9)) rfl ?_;refine gO rfl rfl (ld27 rfl f21 rfl) rfl ?_;refine gP ?_;refine GoR.call rfl rfl (aCF aFunc95 rfl) (hr0 _ (A.ext e0)) ?_ np;rintro v23 h23 ⟨q, x23⟩;cases q;refine ⟨_, rfl, ?_⟩;replace f21 := f21.ext x23;replace f0 := f0.ext x23;replace f1 := f1.ext x23;replace e0 := e0.trans x23;refine gP ?_;apply gE;apply gS;refine gR rfl ?_;refine gP ?_;refine gO rfl rfl (kXF rfl rfl) rfl ?_;apply gE;refine gC (b := false) rfl ?_;refine gD ?_;refine Go.inBlock noJ_ok ?_;refine gR rfl ?_;refine gO rfl rfl (aA rfl rfl) rfl ?_;refine gP ?_;apply gE;refine Go.inLoop noJ_ok ?_;apply gS;refine gR rfl ?_;refine gO rfl rfl (kLT rfl rfl) rfl ?_;apply gE;apply gS;refine gC (b := true) rfl ?_;refine gD ?_;apply gS;refine Go.block noJ_ok ?_;apply gS;refine gR rfl ?_;iterate 2 refine gP ?_
     apply gE;apply gS;refine gR rfl ?_;refine gO rfl rfl (ld80 rfl f0 rfl) rfl ?_;refine gO rfl rfl (ld138 rfl f1 (slice_all g9)) rfl ?_;refine gO rfl rfl (ld27 rfl f21 rfl) rfl ?_;refine gP ?_;refine GoR.call rfl rfl (aCF aFunc95 rfl) (hr1 _ (A.ext e0)) ?_ np;rintro v24 h24 ⟨q, x24⟩;cases q;refine ⟨_, rfl, ?_⟩;replace f21 := f21.ext x24;replace f0 := f0.ext x24;replace f1 := f1.ext x24;replace e0 := e0.trans x24;refine gP ?_;apply gE;apply gS;refine gR rfl ?_;refine gP ?_;refine gO rfl rfl (kXF rfl rfl) rfl ?_;apply gE;refine gC (b := false) rfl ?_;refine gD ?_;refine Go.inBlock noJ_ok ?_;refine gR rfl ?_;refine gO rfl rfl (aA rfl rfl) rfl ?_;refine gP ?_;apply gE;refine Go.inLoop noJ_ok ?_;apply gS;refine gR rfl ?_;refine gO rfl rfl (kLT rfl rfl) rfl ?_;apply gE;apply gS;refine gC (b := true) rfl ?_;refine gD ?_;apply gS;refine Go.block noJ_ok ?_;apply gS;refine gR rfl ?_;iterate 2 refine gP ?_
     apply gE;apply gS;refine gR rfl ?_;refine gO rfl rfl (ld80 rfl f0 rfl) rfl ?_;refine gO rfl rfl (ld138 rfl f1 (slice_all g9)) rfl ?_;refine gO rfl rfl (ld27 rfl f21 rfl) rfl ?_;refine gP ?_;refine GoR.call rfl rfl (aCF aFunc95 rfl) (hr2 _ (A.ext e0)) ?_ np;rintro v25 h25 ⟨q, x25⟩;cases q;refine ⟨_, rfl, ?_⟩;replace f21 := f21.ext x25;replace f0 := f0.ext x25;replace f1 := f1.ext x25;replace e0 := e0.trans x25;refine gP ?_;apply gE;apply gS;refine gR rfl ?_;refine gP ?_;refine gO rfl rfl (kXF rfl rfl) rfl ?_;apply gE;refine gC (b := false) rfl ?_;refine gD ?_;refine Go.inBlock noJ_ok ?_;refine gR rfl ?_;refine gO rfl rfl (aA rfl rfl) rfl ?_;refine gP ?_;apply gE;refine Go.inLoop noJ_ok ?_;apply gS;refine gR rfl ?_;refine gO rfl rfl (kLF rfl rfl) rfl ?_;apply gE;apply gS;refine gC (b := false) rfl ?_;refine gD ?_;refine gR rfl ?_;refine gO rfl rfl (ld138 rfl f1 (slice_all g9)) rfl ?_;refine gO rfl rfl (ld27 rfl f21 rfl) rfl ?_;refine GoR.call rfl rfl (aCF aFunc96 rfl) (hwi _) ?_ np;rintro v26 h26 ⟨q, x26⟩;cases q;refine ⟨_, rfl, ?_⟩;replace f0 := f0.ext x26;replace f1 := f1.ext x26;replace e0 := e0.trans x26;refine GoR.store rfl rfl rfl rfl rfl rfl f1 rfl sz138 (beq_len g9') (scal_ints _) (splice_whole (g9.trans g9'.symm)) fun h27 u27 => ?_;replace f0 := f0.upd u27 (by omega);replace f1 := u27.has f1;replace e0 := e0.upd u27 (by omega);apply gE;refine Go.inBlock noJ_ok ?_;refine gR rfl ?_;refine gO rfl rfl (aA rfl rfl) rfl ?_;refine gP ?_;apply gE;exact again (m - 1) (i + 1) _ _ (by omega) ⟨rfl, rfl, rfl, rfl, rfl, trivial⟩ ⟨by omega, e0, f1.1, f0, by rw [hsa]; exact f1, by rw [hsa]; exact hbad⟩
    ·rw [if_pos (by simp [c2])] at hbad;subst hbad;apply gS;refine gR rfl ?_;refine gO rfl rfl (kLT rfl rfl) rfl ?_;apply gE;apply gS;refine gC (b := true) rfl ?_;refine gD ?_;apply gS;refine Go.block noJ_ok ?_;apply gS;refine gR rfl ?_;refine gP ?_;refine gO rfl rfl (aOp_indexAddr (i := i) Try.underlying40 sz27 rfl (by assumption) rfl (Nat.ble_eq_true_of_le (by omega))) rfl ?_;refine gO rfl rfl (aOp_loadE ag27 sz27 rfl (q2.ext e0)) rfl ?_;refine GoR.alloc rfl rfl rfl zt27 rfl rfl fun h21 x21 f21 => ?_;have := e0.1;have := f0.1;have := f1.1;replace f0 := f0.ext x21;replace f1 := f1.ext x21;replace e0 := e0.trans x21;have := f21.1;refine gP ?_;refine GoR.store rfl rfl rfl rfl rfl rfl f21 rfl sz27 rfl rfl rfl fun h22 u22 => ?_;replace f21 := u22.has f21;replace f0 := f0.upd u22 (by omega);replace f1 := f1.upd u22 (by omega);replace e0 := e0.upd u22 (by omega);apply gE;iterate 2 apply gS
     refine gR rfl ?_;refine gP ?_;apply gE;refine Go.block noJ_ok ?_;refine Go.loop noJ_ok ?_;apply gS;refine gR rfl ?_;refine gO rfl rfl (kLT rfl rfl) rfl ?_;apply gE;apply gS;refine gC (b := true) rfl ?_;refine gD ?_;apply gS;refine Go.block noJ_ok ?_;apply gS;refine gR rfl ?_;iterate 2 refine gP ?_
     apply gE;apply gS;refine gR rfl ?_;refine gO rfl rfl (ld80 rfl f0 rfl) rfl ?_;refine gO rfl rfl (ld138 rfl f1 (slice_all g9)) rfl ?_;refine gO rfl rfl (ld27 rfl f21 rfl) rfl ?_;refine gP ?_;refine GoR.call rfl rfl (aCF aFunc95 rfl) (hr0 _ (A.ext e0)) ?_ np;rintro v23 h23 ⟨q, x23⟩;cases q;refine ⟨_, rfl, ?_⟩;replace f21 := f21.ext x23;replace f0 := f0.ext x23;replace f1 := f1.ext x23;replace e0 := e0.trans x23;refine gP ?_;apply gE;apply gS;refine gR rfl ?_;refine gP ?_;refine gO rfl rfl (kXF rfl rfl) rfl ?_;apply gE;refine gC (b := false) rfl ?_;refine gD ?_;refine Go.inBlock noJ_ok ?_;refine gR rfl ?_;refine gO rfl rfl (aA rfl rfl) rfl ?_;refine gP ?_;apply gE;refine Go.inLoop noJ_ok ?_;apply gS;refine gR rfl ?_;refine gO rfl rfl (kLT rfl rfl) rfl ?_;apply gE;apply gS;refine gC (b := true) rfl ?_;refine gD ?_;apply gS;refine Go.block noJ_ok ?_;apply gS;refine gR rfl ?_;iterate 2 refine gP ?_
     apply gE;apply gS;refine gR rfl ?_;refine gO rfl rfl (ld80 rfl f0 rfl) rfl ?_;refine gO rfl rfl (ld138 rfl f1 (slice_all g9)) rfl ?_;refine gO rfl rfl (ld27 rfl f21 rfl) rfl ?_;refine gP ?_;refine GoR.call rfl rfl (aCF aFunc95 rfl) (hr1 _ (A.ext e0)) ?_ np;rintro v24 h24 ⟨q, x24⟩;cases q;refine ⟨_, rfl, ?_⟩;replace f21 := f21.ext x24;replace f0 := f0.ext x24;replace f1 := f1.ext x24;replace e0 := e0.trans x24;refine gP ?_;apply gE;apply gS;refine gR rfl ?_;refine gP ?_;refine gO rfl rfl (kXF rfl rfl) rfl ?_;apply gE;refine gC (b := false) rfl ?_;refine gD ?_;refine Go.inBlock noJ_ok ?_;refine gR rfl ?_;refine gO rfl rfl (aA rfl rfl) rfl ?_;refine gP ?_;apply gE;refine Go.inLoop noJ_ok ?_;apply gS;refine gR rfl ?_;refine gO rfl rfl (kLT rfl rfl) rfl ?_;apply gE;apply gS;refine gC (b := true) rfl ?_;refine gD ?_;apply gS;refine Go.block noJ_ok ?_;apply gS;refine gR rfl ?_;iterate 2 refine gP ?_
     apply gE;apply gS;refine gR rfl ?_;refine gO rfl rfl (ld80 rfl f0 rfl) rfl ?_;refine gO rfl rfl (ld138 rfl f1 (slice_all g9)) rfl ?_;refine gO rfl rfl (ld27 rfl f21 rfl) rfl ?_;refine gP ?_;refine GoR.call rfl rfl (aCF aFunc95 rfl) (hr2 _ (A.ext e0)) ?_ np;rintro v25 h25 ⟨q, x25⟩;cases q;refine ⟨_, rfl, ?_⟩;replace e0 := e0.trans x25;refine gP ?_;apply gE;apply gS;refine gR rfl ?_;refine gP ?_;refine gO rfl rfl (kXT rfl rfl) rfl ?_;apply gE;refine gC (b := true) rfl ?_;apply gS;refine gR rfl ?_;iterate 6 refine gP ?_
     apply gE;exact gW Try.func68 rfl rfl ⟨rfl, e0⟩
   ·rw [if_pos (by simp [c1])] at hbad;subst hbad;apply gS;refine gR rfl ?_;refine gO rfl rfl (kLT rfl rfl) rfl ?_;apply gE;apply gS;refine gC (b := true) rfl ?_;refine gD ?_;apply gS;refine Go.block noJ_ok ?_;apply gS;refine gR rfl ?_;refine gP ?_;refine gO rfl rfl (aOp_indexAddr (i := i) Try.underlying40 sz27 rfl (by assumption) rfl (Nat.ble_eq_true_of_le (by omega))) rfl ?_;refine gO rfl rfl (aOp_loadE ag27 sz27 rfl (q2.ext e0)) rfl ?_;refine GoR.alloc rfl rfl rfl zt27 rfl rfl fun h21 x21 f21 => ?_;have := e0.1;have := f0.1;have := f1.1;replace f0 := f0.ext x21;replace f1 := f1.ext x21;replace e0 := e0.trans x21;have := f21.1;refine gP ?_;refine GoR.store rfl rfl rfl rfl rfl rfl f21 rfl sz27 rfl rfl rfl fun h22 u22 => ?_;replace f21 := u22.has f21;replace f0 := f0.upd u22 (by omega);replace f1 := f1.upd u22 (by omega);replace e0 := e0.upd u22 (by omega);apply gE;iterate 2 apply gS
    refine gR rfl ?_;refine gP ?_;apply gE;refine Go.block noJ_ok ?_;refine Go.loop noJ_ok ?_;apply gS;refine gR rfl ?_;refine gO rfl rfl (kLT rfl rfl) rfl ?_;apply gE;apply gS;refine gC (b := true) rfl ?_;refine gD ?_;apply gS;refine Go.block noJ_ok ?_;apply gS;refine gR rfl ?_;iterate 2 refine gP ?_
    apply gE;apply gS;refine gR rfl ?_;refine gO rfl rfl (ld80 rfl f0 rfl) rfl ?_;refine gO rfl rfl (ld138 rfl f1 (slice_all g9)) rfl ?_;refine gO rfl rfl (ld27 rfl f21 rfl) rfl ?_;refine gP ?_;refine GoR.call rfl rfl (aCF aFunc95 rfl) (hr0 _ (A.ext e0)) ?_ np;rintro v23 h23 ⟨q, x23⟩;cases q;refine ⟨_, rfl, ?_⟩;replace f21 := f21.ext x23;replace f0 := f0.ext x23;replace f1 := f1.ext x23;replace e0 := e0.trans x23;refine gP ?_;apply gE;apply gS;refine gR rfl ?_;refine gP ?_;refine gO rfl rfl (kXF rfl rfl) rfl ?_;apply gE;refine gC (b := false) rfl ?_;refine gD ?_;refine Go.inBlock noJ_ok ?_;refine gR rfl ?_;refine gO rfl rfl (aA rfl rfl) rfl ?_;refine gP ?_;apply gE;refine Go.inLoop noJ_ok ?_;apply gS;refine gR rfl ?_;refine gO rfl rfl (kLT rfl rfl) rfl ?_;apply gE;apply gS;refine gC (b := true) rfl ?_;refine gD ?_;apply gS;refine Go.block noJ_ok ?_;apply gS;refine gR rfl ?_;iterate 2 refine gP ?_
    apply gE;apply gS;refine gR rfl ?_;refine gO rfl rfl (ld80 rfl f0 rfl) rfl ?_;refine gO rfl rfl (ld138 rfl f1 (slice_all g9)) rfl ?_;refine gO rfl rfl (ld27 rfl f21 rfl) rfl ?_;refine gP ?_;refine GoR.call rfl rfl (aCF aFunc95 rfl) (hr1 _ (A.ext e0)) ?_ np;rintro v24 h24 ⟨q, x24⟩;cases q;refine ⟨_, rfl, ?_⟩;replace e0 := e0.trans x24;refine gP ?_;apply gE;apply gS;refine gR rfl ?_;refine gP ?_;refine gO rfl rfl (kXT rfl rfl) rfl ?_;apply gE;refine gC (b := true) rfl ?_;apply gS;refine gR rfl ?_;iterate 6 refine gP ?_
    apply gE;exact gW Try.func68 rfl rfl ⟨rfl, e0⟩
  ·rw [if_pos (by simp [c0])] at hbad;subst hbad;apply gS;refine gR rfl ?_;refine gO rfl rfl (kLT rfl rfl) rfl ?_;apply gE;apply gS;refine gC (b := true) rfl ?_;refine gD ?_;apply gS;refine Go.block noJ_ok ?_;apply gS;refine gR rfl ?_;refine gP ?_;refine gO rfl rfl (aOp_indexAddr (i := i) Try.underlying40 sz27 rfl (by assumption) rfl (Nat.ble_eq_true_of_le (by omega))) rfl ?_;refine gO rfl rfl (aOp_loadE ag27 sz27 rfl (q2.ext e0)) rfl ?_;refine GoR.alloc rfl rfl rfl zt27 rfl rfl fun h21 x21 f21 => ?_;have := e0.1;have := f0.1;have := f1.1;replace f0 := f0.ext x21;replace f1 := f1.ext x21;replace e0 := e0.trans x21;have := f21.1;refine gP ?_;refine GoR.store rfl rfl rfl rfl rfl rfl f21 rfl sz27 rfl rfl rfl fun h22 u22 => ?_;replace f21 := u22.has f21;replace f0 := f0.upd u22 (by omega);replace f1 := f1.upd u22 (by omega);replace e0 := e0.upd u22 (by omega);apply gE;iterate 2 apply gS
   refine gR rfl ?_;refine gP ?_;apply gE;refine Go.block noJ_ok ?_;refine Go.loop noJ_ok ?_;apply gS;refine gR rfl ?_;refine gO rfl rfl (kLT rfl rfl) rfl ?_;apply gE;apply gS;refine gC (b := true) rfl ?_;refine gD ?_;apply gS;refine Go.block noJ_ok ?_;apply gS;refine gR rfl ?_;iterate 2 refine gP ?_
   apply gE;apply gS;refine gR rfl ?_;refine gO rfl rfl (ld80 rfl f0 rfl) rfl ?_;refine gO rfl rfl (ld138 rfl f1 (slice_all g9)) rfl ?_;refine gO rfl rfl (ld27 rfl f21 rfl) rfl ?_;refine gP ?_;refine GoR.call rfl rfl (aCF aFunc95 rfl) (hr0 _ (A.ext e0)) ?_ np;rintro v23 h23 ⟨q, x23⟩;cases q;refine ⟨_, rfl, ?_⟩;replace e0 := e0.trans x23;refine gP ?_;apply gE;apply gS;refine gR rfl ?_;refine gP ?_;refine gO rfl rfl (kXT rfl rfl) rfl ?_;apply gE;refine gC (b := true) rfl ?_;apply gS;refine gR rfl ?_;iterate 6 refine gP ?_
   apply gE;exact gW Try.func68 rfl rfl ⟨rfl, e0⟩
 ·have hin : L.drop i = [] := List.drop_of_length_le (by omega)
  rw [hin] at hbad
  unfold FootV.bad at hbad
  subst hbad;apply gS;refine gR rfl ?_;refine gO rfl rfl (kLF rfl rfl) rfl ?_;apply gE;apply gS;refine gC (b := false) rfl ?_;refine gD ?_;refine gR rfl ?_;refine gP ?_;refine GoR.panic rfl rfl rfl (FLeft.pan (⟨rfl, e0⟩))
def FootV.Fit (F : FootV) (L : List Pl) : Prop := L.length = F.hs.length ∧ ∀ p, p ∈ L → p.Num F.rs.length
instance (F : FootV) (L : List Pl) : Decidable (F.Fit L) := by unfold FootV.Fit; infer_instance
theorem needPlans_yes {F : FootV} {rsl hsl : AVal} {h : AH} (A : FootAt h F rsl hsl) (hb1 : F.rs.length ≤ 40) (hb2 : F.hs.length ≤ 40) {L : List Pl} (hL : F.Fit L) {s : AVal} (hs : SliceOf h 3 s (L.map Pl.cells)) :
  Runs Try.prog 67 [.agg (F.cells rsl hsl), s] h (fun en h' => en = .ret (.tuple []) ∧ Ext h h') := by
 obtain ⟨hL1, hL2⟩ := hL
 have hl1 := hs.len
 have hl2 := A.rs.len
 have hl3 := A.hs.len
 rw [List.length_map] at hl1 hl2 hl3
 unfold FootV.cells
 have e0 : Ext h h := Ext.refl _
 refine Runs.intro aFunc67 rfl rfl rfl rfl fun rest => ?_;apply gS;refine gR rfl ?_;refine GoR.box rfl rfl rfl rfl rfl rfl fun h0 x0 f0 => ?_;have := e0.1;replace e0 := e0.trans x0;have := f0.1;apply gE;apply gS;refine gR rfl ?_;refine gP ?_;refine gO rfl rfl (aOp_lenSlice Try.underlying40 rfl (by assumption)) rfl ?_;refine gO rfl rfl (fa80_4 rfl) rfl ?_;refine gO rfl rfl (ld24 rfl f0 rfl) rfl ?_;refine gO rfl rfl (aOp_lenSlice Try.underlying24 rfl (by assumption)) rfl ?_;refine gO rfl rfl (kXF rfl rfl) rfl ?_;refine GoR.call rfl rfl (aCF aFunc59 rfl) (refuse_no _ _) ?_ np;rintro v1 h1 ⟨q, x1⟩;cases q;refine ⟨_, rfl, ?_⟩;replace f0 := f0.ext x1;replace e0 := e0.trans x1;apply gE;apply gS;refine gR rfl ?_;refine gP ?_;refine gO rfl rfl (aOp_lenSlice Try.underlying40 rfl (by assumption)) rfl ?_;refine gP ?_;apply gE;refine Go.block noJ_ok ?_
 refine Go.loopKeep (fun i : Nat => [(2, .ptr h.next 0), (15, s), (16, .int .i64 L.length), (17, .int .i64 (i : Nat))])
  (fun m i h' => m + i = L.length ∧ Ext h h' ∧ Has h' h.next (.cells .plain [rsl, .int .i64 F.men, .int .i64 F.l0, .int .i64 F.l1, .int .i64 F.l2, .int .i64 F.d0, .int .i64 F.d1, .int .i64 F.d2, hsl] 80))
  (n := L.length) 0 ⟨rfl, rfl, rfl, rfl, trivial⟩ ⟨rfl, e0, f0⟩ ?_
 clear e0 f0;rintro m i h20 ⟨hm, e0, f0⟩ again
 by_cases hi : i < L.length
 ·obtain ⟨p, hp⟩ : ∃ p, L[i]? = some p := ⟨L[i], by simp [hi]⟩
  have hpn := hL2 p (List.mem_of_getElem? hp)
  obtain ⟨bq, off, q1, q2⟩ := hs.at (i := i) (l := Pl.cells p) (by rw [List.getElem?_map, hp]; rfl)
  rw [List.length_map] at q1
  unfold Pl.cells at q2
  apply gS;refine gR rfl ?_;refine gO rfl rfl (kLT rfl rfl) rfl ?_;apply gE;apply gS;refine gC (b := true) rfl ?_;refine gD ?_;apply gS;refine Go.block noJ_ok ?_;apply gS;refine gR rfl ?_;refine gO rfl rfl (aOp_indexAddr (i := i) Try.underlying40 sz27 rfl (by assumption) rfl (Nat.ble_eq_true_of_le (by omega))) rfl ?_;refine gO rfl rfl (aOp_loadE ag27 sz27 rfl (q2.ext e0)) rfl ?_;refine GoR.alloc rfl rfl rfl zt27 rfl rfl fun h21 x21 f21 => ?_;have := e0.1;have := f0.1;replace f0 := f0.ext x21;replace e0 := e0.trans x21;have := f21.1;refine GoR.store rfl rfl rfl rfl rfl rfl f21 rfl sz27 rfl rfl rfl fun h22 u22 => ?_;replace f21 := u22.has f21;replace f0 := f0.upd u22 (by omega);replace e0 := e0.upd u22 (by omega);apply gE;apply gS;refine gR rfl ?_;refine gO rfl rfl (ld27 rfl f21 rfl) rfl ?_;refine gP ?_;apply gE;refine Go.block noJ_ok ?_
  refine Go.loopKeep (fun k : Nat => [(2, .ptr h.next 0), (15, s), (16, .int .i64 L.length), (17, .int .i64 (i : Nat)), (21, .agg [.int .i64 p.a, .int .i64 p.b, .int .i64 p.c]), (22, .int .i64 (k : Nat))])
   (fun m k h' => m + k = 3 ∧ Ext h h' ∧ Has h' h.next (.cells .plain [rsl, .int .i64 F.men, .int .i64 F.l0, .int .i64 F.l1, .int .i64 F.l2, .int .i64 F.d0, .int .i64 F.d1, .int .i64 F.d2, hsl] 80))
   (n := 3) 0 ⟨rfl, rfl, rfl, rfl, rfl, rfl, trivial⟩ ⟨rfl, e0, f0⟩ ?_
  clear e0 f0;rintro m2 k h30 ⟨hm2, e0, f0⟩ again2
  by_cases hk : k < 3
  ·have hnum := at_num hpn k
   have hget := at_get (p := p) hk
   rw [Nat.zero_add] at hget
   by_cases hx : p.at k = -1
   ·apply gS;refine gR rfl ?_;refine gO rfl rfl (kLT rfl rfl) rfl ?_;apply gE;apply gS;refine gC (b := true) rfl ?_;refine gD ?_;apply gS;refine Go.block noJ_ok ?_;apply gS;refine gR rfl ?_;refine gO rfl rfl (aOp_indexArr (i := k) Try.underlying27 sz3 rfl rfl (Nat.ble_eq_true_of_le (by omega)) (partT_one ag3 hget)) rfl ?_;refine gP ?_;apply gE;refine gR rfl ?_;refine gP ?_;refine gO rfl rfl (kXF rfl rfl) rfl ?_;refine gP ?_;iterate 6 refine GoR.skip rfl rfl rfl ?_
    refine gP ?_;refine GoR.call rfl rfl (aCF aFunc59 rfl) (refuse_no _ _) ?_ np;rintro v31 h31 ⟨q, x31⟩;cases q;refine ⟨_, rfl, ?_⟩;replace f0 := f0.ext x31;replace e0 := e0.trans x31;apply gE;refine Go.inBlock noJ_ok ?_;refine gR rfl ?_;refine gO rfl rfl (aA rfl rfl) rfl ?_;refine gP ?_;apply gE;exact again2 (m2 - 1) (k + 1) _ _ (by omega) ⟨rfl, rfl, rfl, rfl, rfl, rfl, trivial⟩ ⟨by omega, e0, f0⟩
   ·apply gS;refine gR rfl ?_;refine gO rfl rfl (kLT rfl rfl) rfl ?_;apply gE;apply gS;refine gC (b := true) rfl ?_;refine gD ?_;apply gS;refine Go.block noJ_ok ?_;apply gS;refine gR rfl ?_;refine gO rfl rfl (aOp_indexArr (i := k) Try.underlying27 sz3 rfl rfl (Nat.ble_eq_true_of_le (by omega)) (partT_one ag3 hget)) rfl ?_;refine gP ?_;apply gE;refine gR rfl ?_;refine gP ?_;refine gO rfl rfl (kXT rfl rfl) rfl ?_;iterate 2 refine gP ?_
    refine gO rfl rfl (fa80_0 rfl) rfl ?_;refine gO rfl rfl (ld22 rfl f0 rfl) rfl ?_;refine gO rfl rfl (aOp_lenSlice Try.underlying22 rfl (by assumption)) rfl ?_;refine GoR.call rfl rfl (aCF aFunc94 rfl) (isDay_is (r := true) (by omega) (dt (by omega))) ?_ np;rintro v31 h31 ⟨q, x31⟩;cases q;refine ⟨_, rfl, ?_⟩;replace f0 := f0.ext x31;replace e0 := e0.trans x31;iterate 2 refine gP ?_
    refine GoR.call rfl rfl (aCF aFunc59 rfl) (refuse_no _ _) ?_ np;rintro v32 h32 ⟨q, x32⟩;cases q;refine ⟨_, rfl, ?_⟩;replace f0 := f0.ext x32;replace e0 := e0.trans x32;apply gE;refine Go.inBlock noJ_ok ?_;refine gR rfl ?_;refine gO rfl rfl (aA rfl rfl) rfl ?_;refine gP ?_;apply gE;exact again2 (m2 - 1) (k + 1) _ _ (by omega) ⟨rfl, rfl, rfl, rfl, rfl, rfl, trivial⟩ ⟨by omega, e0, f0⟩
  ·apply gS;refine gR rfl ?_;refine gO rfl rfl (kLF rfl rfl) rfl ?_;apply gE;apply gS;refine gC (b := false) rfl ?_;refine gD ?_;refine Go.inBlock noJ_ok ?_;refine gR rfl ?_;refine gO rfl rfl (aA rfl rfl) rfl ?_;refine gP ?_;apply gE;exact again (m - 1) (i + 1) _ _ (by omega) ⟨rfl, rfl, rfl, rfl, trivial⟩ ⟨by omega, e0, f0⟩
 ·apply gS;refine gR rfl ?_;refine gO rfl rfl (kLF rfl rfl) rfl ?_;apply gE;apply gS;refine gC (b := false) rfl ?_;refine gD ?_;exact Go.endL (FLeft.ret (v := .tuple []) (aResult_of Try.func67 rfl rfl) ⟨rfl, e0⟩)
theorem needPlans_no {F : FootV} {rsl hsl : AVal} {h : AH} (A : FootAt h F rsl hsl) (hb1 : F.rs.length ≤ 40) (hb2 : F.hs.length ≤ 40) {L : List Pl} (hb3 : L.length ≤ 100) (hL : ¬ F.Fit L) {s : AVal} (hs : SliceOf h 3 s (L.map Pl.cells)) :
  Runs Try.prog 67 [.agg (F.cells rsl hsl), s] h (fun en h' => en = .pan (refusal 2) ∧ Ext h h') := by
 have hl1 := hs.len
 have hl2 := A.rs.len
 have hl3 := A.hs.len
 rw [List.length_map] at hl1 hl2 hl3
 unfold FootV.cells
 by_cases hlen : L.length = F.hs.length
 ·have e0 : Ext h h := Ext.refl _
  refine Runs.intro aFunc67 rfl rfl rfl rfl fun rest => ?_;apply gS;refine gR rfl ?_;refine GoR.box rfl rfl rfl rfl rfl rfl fun h0 x0 f0 => ?_;have := e0.1;replace e0 := e0.trans x0;have := f0.1;apply gE;apply gS;refine gR rfl ?_;refine gP ?_;refine gO rfl rfl (aOp_lenSlice Try.underlying40 rfl (by assumption)) rfl ?_;refine gO rfl rfl (fa80_4 rfl) rfl ?_;refine gO rfl rfl (ld24 rfl f0 rfl) rfl ?_;refine gO rfl rfl (aOp_lenSlice Try.underlying24 rfl (by assumption)) rfl ?_;refine gO rfl rfl (kXF rfl rfl) rfl ?_;refine GoR.call rfl rfl (aCF aFunc59 rfl) (refuse_no _ _) ?_ np;rintro v1 h1 ⟨q, x1⟩;cases q;refine ⟨_, rfl, ?_⟩;replace f0 := f0.ext x1;replace e0 := e0.trans x1;apply gE;apply gS;refine gR rfl ?_;refine gP ?_;refine gO rfl rfl (aOp_lenSlice Try.underlying40 rfl (by assumption)) rfl ?_;refine gP ?_;apply gE;refine Go.block noJ_ok ?_
  refine Go.loopKeep (fun i : Nat => [(2, .ptr h.next 0), (15, s), (16, .int .i64 L.length), (17, .int .i64 (i : Nat))])
   (fun m i h' => m + i = L.length ∧ Ext h h' ∧ Has h' h.next (.cells .plain [rsl, .int .i64 F.men, .int .i64 F.l0, .int .i64 F.l1, .int .i64 F.l2, .int .i64 F.d0, .int .i64 F.d1, .int .i64 F.d2, hsl] 80) ∧ ∀ p, p ∈ L.take i → p.Num F.rs.length)
   (n := L.length) 0 ⟨rfl, rfl, rfl, rfl, trivial⟩ ⟨rfl, e0, f0, fun p hp => by simp at hp⟩ ?_
  clear e0 f0;rintro m i h20 ⟨hm, e0, f0, hpre⟩ again
  by_cases hi : i < L.length
  ·obtain ⟨p, hp⟩ : ∃ p, L[i]? = some p := ⟨L[i], by simp [hi]⟩
   obtain ⟨bq, off, q1, q2⟩ := hs.at (i := i) (l := Pl.cells p) (by rw [List.getElem?_map, hp]; rfl)
   rw [List.length_map] at q1
   unfold Pl.cells at q2
   apply gS;refine gR rfl ?_;refine gO rfl rfl (kLT rfl rfl) rfl ?_;apply gE;apply gS;refine gC (b := true) rfl ?_;refine gD ?_;apply gS;refine Go.block noJ_ok ?_;apply gS;refine gR rfl ?_;refine gO rfl rfl (aOp_indexAddr (i := i) Try.underlying40 sz27 rfl (by assumption) rfl (Nat.ble_eq_true_of_le (by omega))) rfl ?_;refine gO rfl rfl (aOp_loadE ag27 sz27 rfl (q2.ext e0)) rfl ?_;refine GoR.alloc rfl rfl rfl zt27 rfl rfl fun h21 x21 f21 => ?_;have := e0.1;have := f0.1;replace f0 := f0.ext x21;replace e0 := e0.trans x21;have := f21.1;refine GoR.store rfl rfl rfl rfl rfl rfl f21 rfl sz27 rfl rfl rfl fun h22 u22 => ?_;replace f21 := u22.has f21;replace f0 := f0.upd u22 (by omega);replace e0 := e0.upd u22 (by omega);apply gE;apply gS;refine gR rfl ?_;refine gO rfl rfl (ld27 rfl f21 rfl) rfl ?_;refine gP ?_;apply gE;refine Go.block noJ_ok ?_
   refine Go.loopKeep (fun k : Nat => [(2, .ptr h.next 0), (15, s), (16, .int .i64 L.length), (17, .int .i64 (i : Nat)), (21, .agg [.int .i64 p.a, .int .i64 p.b, .int .i64 p.c]), (22, .int .i64 (k : Nat))])
    (fun m k h' => m + k = 3 ∧ Ext h h' ∧ Has h' h.next (.cells .plain [rsl, .int .i64 F.men, .int .i64 F.l0, .int .i64 F.l1, .int .i64 F.l2, .int .i64 F.d0, .int .i64 F.d1, .int .i64 F.d2, hsl] 80) ∧ ∀ j, j < k → (p.at j = -1 ∨ (0 ≤ p.at j ∧ p.at j ≤ (F.rs.length : Int) - 1)))
    (n := 3) 0 ⟨rfl, rfl, rfl, rfl, rfl, rfl, trivial⟩ ⟨rfl, e0, f0, fun j hj => by omega⟩ ?_
   clear e0 f0;rintro m2 k h30 ⟨hm2, e0, f0, hpk⟩ again2
   by_cases hk : k < 3
   ·have hget := at_get (p := p) hk
    rw [Nat.zero_add] at hget
    have hpk2 : (p.at k = -1 ∨ (0 ≤ p.at k ∧ p.at k ≤ (F.rs.length : Int) - 1)) → ∀ j, j < k + 1 → (p.at j = -1 ∨ (0 ≤ p.at j ∧ p.at j ≤ (F.rs.length : Int) - 1)) := fun q j hj => by
     by_cases hjk : j = k
     ·subst hjk; exact q
     ·exact hpk j (by omega)
    by_cases hx : p.at k = -1
    ·apply gS;refine gR rfl ?_;refine gO rfl rfl (kLT rfl rfl) rfl ?_;apply gE;apply gS;refine gC (b := true) rfl ?_;refine gD ?_;apply gS;refine Go.block noJ_ok ?_;apply gS;refine gR rfl ?_;refine gO rfl rfl (aOp_indexArr (i := k) Try.underlying27 sz3 rfl rfl (Nat.ble_eq_true_of_le (by omega)) (partT_one ag3 hget)) rfl ?_;refine gP ?_;apply gE;refine gR rfl ?_;refine gP ?_;refine gO rfl rfl (kXF rfl rfl) rfl ?_;refine gP ?_;iterate 6 refine GoR.skip rfl rfl rfl ?_
     refine gP ?_;refine GoR.call rfl rfl (aCF aFunc59 rfl) (refuse_no _ _) ?_ np;rintro v31 h31 ⟨q, x31⟩;cases q;refine ⟨_, rfl, ?_⟩;replace f0 := f0.ext x31;replace e0 := e0.trans x31;apply gE;refine Go.inBlock noJ_ok ?_;refine gR rfl ?_;refine gO rfl rfl (aA rfl rfl) rfl ?_;refine gP ?_;apply gE;exact again2 (m2 - 1) (k + 1) _ _ (by omega) ⟨rfl, rfl, rfl, rfl, rfl, rfl, trivial⟩ ⟨by omega, e0, f0, hpk2 (.inl hx)⟩
    ·by_cases hd : 0 ≤ p.at k ∧ p.at k ≤ (F.rs.length : Int) - 1
     ·apply gS;refine gR rfl ?_;refine gO rfl rfl (kLT rfl rfl) rfl ?_;apply gE;apply gS;refine gC (b := true) rfl ?_;refine gD ?_;apply gS;refine Go.block noJ_ok ?_;apply gS;refine gR rfl ?_;refine gO rfl rfl (aOp_indexArr (i := k) Try.underlying27 sz3 rfl rfl (Nat.ble_eq_true_of_le (by omega)) (partT_one ag3 hget)) rfl ?_;refine gP ?_;apply gE;refine gR rfl ?_;refine gP ?_;refine gO rfl rfl (kXT rfl rfl) rfl ?_;iterate 2 refine gP ?_
      refine gO rfl rfl (fa80_0 rfl) rfl ?_;refine gO rfl rfl (ld22 rfl f0 rfl) rfl ?_;refine gO rfl rfl (aOp_lenSlice Try.underlying22 rfl (by assumption)) rfl ?_;refine GoR.call rfl rfl (aCF aFunc94 rfl) (isDay_is (r := true) (by omega) (dt (by omega))) ?_ np;rintro v31 h31 ⟨q, x31⟩;cases q;refine ⟨_, rfl, ?_⟩;replace f0 := f0.ext x31;replace e0 := e0.trans x31;iterate 2 refine gP ?_
      refine GoR.call rfl rfl (aCF aFunc59 rfl) (refuse_no _ _) ?_ np;rintro v32 h32 ⟨q, x32⟩;cases q;refine ⟨_, rfl, ?_⟩;replace f0 := f0.ext x32;replace e0 := e0.trans x32;apply gE;refine Go.inBlock noJ_ok ?_;refine gR rfl ?_;refine gO rfl rfl (aA rfl rfl) rfl ?_;refine gP ?_;apply gE;exact again2 (m2 - 1) (k + 1) _ _ (by omega) ⟨rfl, rfl, rfl, rfl, rfl, rfl, trivial⟩ ⟨by omega, e0, f0, hpk2 (.inr hd)⟩
     ·apply gS;refine gR rfl ?_;refine gO rfl rfl (kLT rfl rfl) rfl ?_;apply gE;apply gS;refine gC (b := true) rfl ?_;refine gD ?_;apply gS;refine Go.block noJ_ok ?_;apply gS;refine gR rfl ?_;refine gO rfl rfl (aOp_indexArr (i := k) Try.underlying27 sz3 rfl rfl (Nat.ble_eq_true_of_le (by omega)) (partT_one ag3 hget)) rfl ?_;refine gP ?_;apply gE;refine gR rfl ?_;refine gP ?_;refine gO rfl rfl (kXT rfl rfl) rfl ?_;iterate 2 refine gP ?_
      refine gO rfl rfl (fa80_0 rfl) rfl ?_;refine gO rfl rfl (ld22 rfl f0 rfl) rfl ?_;refine gO rfl rfl (aOp_lenSlice Try.underlying22 rfl (by assumption)) rfl ?_;refine GoR.call rfl rfl (aCF aFunc94 rfl) (isDay_is (r := false) (by omega) (df (by omega))) ?_ np;rintro v31 h31 ⟨q, x31⟩;cases q;refine ⟨_, rfl, ?_⟩;replace e0 := e0.trans x31;iterate 2 refine gP ?_
      refine GoR.callP rfl rfl (aCF aFunc59 rfl) (refuse_yes _ _) (by rintro _ _ ⟨q, _⟩; cases q) ?_;rintro chain h32 ⟨q, x32⟩
      have q := AEnd.pan.inj q
      subst q;replace e0 := e0.trans x32;exact FLeft.pan (⟨rfl, e0⟩)
   ·apply gS;refine gR rfl ?_;refine gO rfl rfl (kLF rfl rfl) rfl ?_;apply gE;apply gS;refine gC (b := false) rfl ?_;refine gD ?_;refine Go.inBlock noJ_ok ?_;refine gR rfl ?_;refine gO rfl rfl (aA rfl rfl) rfl ?_;refine gP ?_;apply gE
    have hk3 : k = 3 := by omega
    subst hk3;refine again (m - 1) (i + 1) _ _ (by omega) ⟨rfl, rfl, rfl, rfl, trivial⟩ ⟨by omega, e0, f0, fun x hx => ?_⟩;rw [List.take_add_one, hp] at hx
    rcases List.mem_append.1 hx with hx | hx
    ·exact hpre x hx
    ·have hx := List.mem_singleton.1 hx
     subst hx;exact num_at hpk
  ·exact absurd ⟨hlen, fun p hp => hpre p (by rw [List.take_of_length_le (by omega)]; exact hp)⟩ hL
 ·have e0 : Ext h h := Ext.refl _
  refine Runs.intro aFunc67 rfl rfl rfl rfl fun rest => ?_;apply gS;refine gR rfl ?_;refine GoR.box rfl rfl rfl rfl rfl rfl fun h0 x0 f0 => ?_;replace e0 := e0.trans x0;apply gE;apply gS;refine gR rfl ?_;refine gP ?_;refine gO rfl rfl (aOp_lenSlice Try.underlying40 rfl (by assumption)) rfl ?_;refine gO rfl rfl (fa80_4 rfl) rfl ?_;refine gO rfl rfl (ld24 rfl f0 rfl) rfl ?_;refine gO rfl rfl (aOp_lenSlice Try.underlying24 rfl (by assumption)) rfl ?_;refine gO rfl rfl (kXT rfl rfl) rfl ?_;refine GoR.callP rfl rfl (aCF aFunc59 rfl) (refuse_yes _ _) (by rintro _ _ ⟨q, _⟩; cases q) ?_;rintro chain h1 ⟨q, x1⟩
  have q := AEnd.pan.inj q
  subst q;replace e0 := e0.trans x1;exact FLeft.pan (⟨rfl, e0⟩)
theorem brokeB_no {F : FootV} (O : F.Ok) {rsl hsl : AVal} {bl b1 b2 b3 : Nat} {h : AH} (A : FootAt h F rsl hsl) {L : List Pl} (hb3 : L.length ≤ 100) (hL : ¬ F.Fit L) {s : AVal} (hs : SliceOf h 3 s (L.map Pl.cells))
  (f0 : Has h bl (.cells .plain [s] 40)) : Runs Try.prog 66 [.agg (F.cells rsl hsl), .ptr bl 0, .ptr b1 0, .ptr b2 0, .ptr b3 0] h (fun en h' => en = .pan (refusal 2) ∧ Ext h h') := by
 have hnr := O.nr
 have hnh := O.nh
 have k := fun h A hs => needPlans_no (h := h) (F := F) (rsl := rsl) (hsl := hsl) A (by omega) (by omega) hb3 hL (s := s) hs
 unfold FootV.cells at k ⊢
 have e0 : Ext h h := Ext.refl _
 refine Runs.intro aFunc66 rfl rfl rfl rfl fun rest => ?_;apply gS;refine gR rfl ?_;refine GoR.box rfl rfl rfl rfl rfl rfl fun h1 x1 f1 => ?_;replace f0 := f0.ext x1;replace e0 := e0.trans x1;apply gE;apply gS;refine gR rfl ?_;refine gO rfl rfl (ld80 rfl f1 rfl) rfl ?_;refine gO rfl rfl (ld40 rfl f0 rfl) rfl ?_;refine GoR.callP rfl rfl (aCF aFunc67 rfl) (k _ (A.ext e0) (hs.ext e0)) (by rintro _ _ ⟨q, _⟩; cases q) ?_;rintro chain h2 ⟨q, x2⟩
 have q := AEnd.pan.inj q
 subst q;replace e0 := e0.trans x2;exact FLeft.pan (⟨rfl, e0⟩)
theorem brokeB_ok {F : FootV} (O : F.Ok) {rsl hsl : AVal} {bl b1 b2 b3 : Nat} {h : AH} (A : FootAt h F rsl hsl) {L : List Pl} (hL : F.Fit L) {s : AVal} (hs : SliceOf h 3 s (L.map Pl.cells)) (hd : b1 ≠ b2 ∧ b1 ≠ b3 ∧ b2 ≠ b3 ∧ bl ≠ b1 ∧ bl ≠ b2 ∧ bl ≠ b3)
  (f0 : Has h bl (.cells .plain [s] 40)) (f1 : Has h b1 (.cells .plain [.int .i64 0] 3)) (f2 : Has h b2 (.cells .plain [.int .i64 0] 3)) (f3 : Has h b3 (.cells .plain [.int .i64 0] 3)) :
  Runs Try.prog 66 [.agg (F.cells rsl hsl), .ptr bl 0, .ptr b1 0, .ptr b2 0, .ptr b3 0] h (fun en h' => match F.bad (stA L 0) 0 L with
   | some x => en = .ret (.tuple []) ∧ ExtF (fun b => b = b1 ∨ b = b2 ∨ b = b3) h h' ∧ Has h' b1 (.cells .plain [.int .i64 x.1] 3) ∧ Has h' b2 (.cells .plain [.int .i64 x.2.1] 3) ∧ Has h' b3 (.cells .plain [.int .i64 x.2.2] 3)
   | none => en = .pan (refusal 4) ∧ Ext h h') := by
 have hnr := O.nr
 have hnh := O.nh
 have k := fun h A hs => needPlans_yes (h := h) (F := F) (rsl := rsl) (hsl := hsl) A (by omega) (by omega) hL (s := s) hs
 have k2 := fun h A hs => broken_ok O (h := h) (rsl := rsl) (hsl := hsl) A hL.1 hL.2 (s := s) hs
 have hn1 := f1.1
 have hn2 := f2.1
 have hn3 := f3.1
 have y0 : ExtF (fun b => b = b1 ∨ b = b2 ∨ b = b3) h h := ExtF.of (Ext.refl _)
 unfold FootV.cells at k k2 ⊢
 obtain ⟨R, hR⟩ : ∃ R, F.bad (stA L 0) 0 L = R := ⟨_, rfl⟩
 rw [hR] at k2 ⊢
 cases R with
 | none =>
  dsimp only at k2 ⊢
  have e0 : Ext h h := Ext.refl _
  refine Runs.intro aFunc66 rfl rfl rfl rfl fun rest => ?_;apply gS;refine gR rfl ?_;refine GoR.box rfl rfl rfl rfl rfl rfl fun h4 x4 f4 => ?_;have := e0.1;have := f0.1;have := f1.1;have := f2.1;have := f3.1;replace f0 := f0.ext x4;replace f1 := f1.ext x4;replace f2 := f2.ext x4;replace f3 := f3.ext x4;replace e0 := e0.trans x4;replace y0 := y0.ext x4;have := f4.1;apply gE;apply gS;refine gR rfl ?_;refine gO rfl rfl (ld80 rfl f4 rfl) rfl ?_;refine gO rfl rfl (ld40 rfl f0 rfl) rfl ?_;refine GoR.call rfl rfl (aCF aFunc67 rfl) (k _ (A.ext e0) (hs.ext e0)) ?_ np;rintro v5 h5 ⟨q, x5⟩;cases q;refine ⟨_, rfl, ?_⟩;replace f4 := f4.ext x5;replace f0 := f0.ext x5;replace f1 := f1.ext x5;replace f2 := f2.ext x5;replace f3 := f3.ext x5;replace e0 := e0.trans x5;replace y0 := y0.ext x5;apply gE;refine gR rfl ?_;refine gO rfl rfl (ld80 rfl f4 rfl) rfl ?_;refine gO rfl rfl (ld40 rfl f0 rfl) rfl ?_;refine GoR.callP rfl rfl (aCF aFunc68 rfl) (k2 _ (A.ext e0) (hs.ext e0)) (by rintro _ _ ⟨q, _⟩; cases q) ?_;rintro chain h6 ⟨q, x6⟩
  have q := AEnd.pan.inj q
  subst q;replace f4 := f4.ext x6;replace f0 := f0.ext x6;replace f1 := f1.ext x6;replace f2 := f2.ext x6;replace f3 := f3.ext x6;replace e0 := e0.trans x6;replace y0 := y0.ext x6;exact FLeft.pan (⟨rfl, e0⟩)
 | some x =>
  dsimp only at k2 ⊢
  have e0 : Ext h h := Ext.refl _
  refine Runs.intro aFunc66 rfl rfl rfl rfl fun rest => ?_;apply gS;refine gR rfl ?_;refine GoR.box rfl rfl rfl rfl rfl rfl fun h4 x4 f4 => ?_;have := e0.1;have := f0.1;have := f1.1;have := f2.1;have := f3.1;replace f0 := f0.ext x4;replace f1 := f1.ext x4;replace f2 := f2.ext x4;replace f3 := f3.ext x4;replace e0 := e0.trans x4;replace y0 := y0.ext x4;have := f4.1;apply gE;apply gS;refine gR rfl ?_;refine gO rfl rfl (ld80 rfl f4 rfl) rfl ?_;refine gO rfl rfl (ld40 rfl f0 rfl) rfl ?_;refine GoR.call rfl rfl (aCF aFunc67 rfl) (k _ (A.ext e0) (hs.ext e0)) ?_ np;rintro v5 h5 ⟨q, x5⟩;cases q;refine ⟨_, rfl, ?_⟩;replace f4 := f4.ext x5;replace f0 := f0.ext x5;replace f1 := f1.ext x5;replace f2 := f2.ext x5;replace f3 := f3.ext x5;replace e0 := e0.trans x5;replace y0 := y0.ext x5;apply gE;refine gR rfl ?_;refine gO rfl rfl (ld80 rfl f4 rfl) rfl ?_;refine gO rfl rfl (ld40 rfl f0 rfl) rfl ?_;refine GoR.call rfl rfl (aCF aFunc68 rfl) (k2 _ (A.ext e0) (hs.ext e0)) ?_ np;rintro v6 h6 ⟨q, x6⟩;cases q;refine ⟨_, rfl, ?_⟩;replace f1 := f1.ext x6;replace f2 := f2.ext x6;replace f3 := f3.ext x6;replace y0 := y0.ext x6;iterate 4 refine gP ?_
  refine GoR.store rfl rfl rfl rfl rfl rfl f1 rfl sz3 rfl rfl rfl fun h7 u7 => ?_;replace f1 := u7.has f1;replace f2 := f2.upd u7 (by omega);replace f3 := f3.upd u7 (by omega);clear e0;replace y0 := y0.upd u7 (by omega);refine GoR.store rfl rfl rfl rfl rfl rfl f2 rfl sz3 rfl rfl rfl fun h8 u8 => ?_;replace f1 := f1.upd u8 (by omega);replace f2 := u8.has f2;replace f3 := f3.upd u8 (by omega);replace y0 := y0.upd u8 (by omega);refine GoR.store rfl rfl rfl rfl rfl rfl f3 rfl sz3 rfl rfl rfl fun h9 u9 => ?_;replace f1 := f1.upd u9 (by omega);replace f2 := f2.upd u9 (by omega);replace f3 := u9.has f3;replace y0 := y0.upd u9 (by omega);apply gE;exact Go.endL (FLeft.ret (v := .tuple []) (aResult_of Try.func66 rfl rfl) ⟨rfl, y0, f1, f2, f3⟩)
def FootV.badR (F : FootV) (L : List Pl) : (Int × Int × Int) × Int :=
 if F.Ok then (if F.Fit L then (match F.bad (stA L 0) 0 L with | some x => (x, 0) | none => ((0, 0, 0), 4)) else ((0, 0, 0), 2)) else ((0, 0, 0), 1)
theorem Broken_ok {F : FootV} {rsl hsl : AVal} {h : AH} (A : FootAt h F rsl hsl) (hb1 : F.rs.length ≤ 40) (hb2 : F.hs.length ≤ 40) {L : List Pl} (hb3 : L.length ≤ 100) {s : AVal} (hs : SliceOf h 3 s (L.map Pl.cells)) :
  Runs Try.prog 22 [.agg (F.cells rsl hsl), s] h (fun en h' => en = .ret (.tuple [.int .i64 (F.badR L).1.1, .int .i64 (F.badR L).1.2.1, .int .i64 (F.badR L).1.2.2, .int .i64 (F.badR L).2]) ∧ Ext h h') := by
 obtain ⟨sc, hsc⟩ := hs.scal
 unfold FootV.badR
 by_cases O : F.Ok
 ·rw [if_pos O]
  by_cases hL : F.Fit L
  ·rw [if_pos hL]
   have hB := fun bl b1 b2 b3 h A hs => brokeB_ok O (h := h) (rsl := rsl) (hsl := hsl) (bl := bl) (b1 := b1) (b2 := b2) (b3 := b3) A hL (s := s) hs
   obtain ⟨R, hR⟩ : ∃ R, F.bad (stA L 0) 0 L = R := ⟨_, rfl⟩
   rw [hR] at hB ⊢
   cases R with
   | none =>
    have hat := attempt_gives O rsl hsl
    dsimp only at hB ⊢
    unfold FootV.cells at hat hB ⊢
    have e0 : Ext h h := Ext.refl _
    refine Runs.intro aFunc22 rfl rfl rfl rfl fun rest => ?_;apply gS;refine gR rfl ?_;refine GoR.box rfl rfl rfl rfl rfl rfl fun h0 x0 f0 => ?_;have := e0.1;replace e0 := e0.trans x0;have := f0.1;refine GoR.box rfl rfl rfl rfl rfl rfl fun h1 x1 f1 => ?_;have := e0.1;have := f0.1;replace f0 := f0.ext x1;replace e0 := e0.trans x1;have := f1.1;refine GoR.alloc rfl rfl rfl zt3 rfl rfl fun h2 x2 f2 => ?_;have := e0.1;have := f1.1;have := f0.1;replace f1 := f1.ext x2;replace f0 := f0.ext x2;replace e0 := e0.trans x2;have := f2.1;refine GoR.alloc rfl rfl rfl zt3 rfl rfl fun h3 x3 f3 => ?_;have := e0.1;have := f2.1;have := f1.1;have := f0.1;replace f2 := f2.ext x3;replace f1 := f1.ext x3;replace f0 := f0.ext x3;replace e0 := e0.trans x3;have := f3.1;refine GoR.alloc rfl rfl rfl zt3 rfl rfl fun h4 x4 f4 => ?_;have := e0.1;have := f3.1;have := f2.1;have := f1.1;have := f0.1;replace f3 := f3.ext x4;replace f2 := f2.ext x4;replace f1 := f1.ext x4;replace f0 := f0.ext x4;replace e0 := e0.trans x4;have := f4.1;refine gP ?_;apply gE;apply gS;refine gR rfl ?_;refine gO rfl rfl (ld26 rfl f0 rfl) rfl ?_;refine gP ?_;refine GoR.call rfl rfl (aCF aFunc42 rfl) (hat _ (A.ext e0) 66 _ aFunc66 _ 4 (fun h' e => hB _ _ _ _ h' ((A.ext e0).ext e) ((hs.ext e0).ext e) ⟨by omega, by omega, by omega, by omega, by omega, by omega⟩ (by have := f1.ext e; rw [hsc] at this; exact this) (f2.ext e) (f3.ext e) (f4.ext e))) ?_ np;rintro v5 h5 ⟨q, x5⟩;cases q;refine ⟨_, rfl, ?_⟩;replace f4 := f4.ext x5;replace f3 := f3.ext x5;replace f2 := f2.ext x5;replace f1 := f1.ext x5;replace f0 := f0.ext x5;replace e0 := e0.trans x5;refine gP ?_;apply gE;apply gS;refine Go.drawnE plan22_0 ?_;refine gQ rfl rfl (ld3 rfl f2 rfl) rfl ?_;refine gQ rfl rfl (ld3 rfl f3 rfl) rfl ?_;refine gQ rfl rfl (ld3 rfl f4 rfl) rfl ?_;refine gQ rfl rfl rfl rfl ?_;refine GoE.store rfl rfl rfl rfl (dK 1 3 (dK 1 2 (dK 1 1 (dD 1 0 rfl)))) rfl rfl f2 rfl sz3 rfl rfl rfl fun h6 u6 => ?_;replace f4 := f4.upd u6 (by omega);replace f3 := f3.upd u6 (by omega);replace f2 := u6.has f2;replace f1 := f1.upd u6 (by omega);replace f0 := f0.upd u6 (by omega);replace e0 := e0.upd u6 (by omega);refine ⟨(rck (h2 := h6) rfl (rfl) (rck (h2 := h6) rfl (ld3 rfl f4 rfl) (rck (h2 := h6) rfl (ld3 rfl f3 rfl) recheck_nil))), ?_⟩;refine GoE.store rfl rfl rfl rfl (dK 19 3 (dK 19 2 (dD 19 1 rfl))) rfl rfl f3 rfl sz3 rfl rfl rfl fun h7 u7 => ?_;replace f4 := f4.upd u7 (by omega);replace f3 := u7.has f3;replace f2 := f2.upd u7 (by omega);replace f1 := f1.upd u7 (by omega);replace f0 := f0.upd u7 (by omega);replace e0 := e0.upd u7 (by omega);refine ⟨(rck (h2 := h7) rfl (rfl) (rck (h2 := h7) rfl (ld3 rfl f4 rfl) recheck_nil)), ?_⟩;refine GoE.store rfl rfl rfl rfl (dK 55 3 (dD 55 2 rfl)) rfl rfl f4 rfl sz3 rfl rfl rfl fun h8 u8 => ?_;replace f4 := u8.has f4;replace f3 := f3.upd u8 (by omega);replace f2 := f2.upd u8 (by omega);replace f1 := f1.upd u8 (by omega);replace f0 := f0.upd u8 (by omega);replace e0 := e0.upd u8 (by omega);refine ⟨(rck (h2 := h8) rfl (rfl) recheck_nil), ?_⟩;refine gQ rfl rfl rfl rfl ?_;refine GoE.end rfl ?_;exact gV (ret_end (aResult_of Try.func22 rfl (aResults_c rfl f2 (inCells_one ag3 rfl) (aResults_c rfl f3 (inCells_one ag3 rfl) (aResults_c rfl f4 (inCells_one ag3 rfl) rfl)))) ⟨rfl, e0⟩)
   | some x =>
    have hat := attempt_does O rsl hsl
    dsimp only at hB ⊢
    unfold FootV.cells at hat hB ⊢
    have e0 : Ext h h := Ext.refl _
    refine Runs.intro aFunc22 rfl rfl rfl rfl fun rest => ?_;apply gS;refine gR rfl ?_;refine GoR.box rfl rfl rfl rfl rfl rfl fun h0 x0 f0 => ?_;have := e0.1;replace e0 := e0.trans x0;have := f0.1;refine GoR.box rfl rfl rfl rfl rfl rfl fun h1 x1 f1 => ?_;have := e0.1;have := f0.1;replace f0 := f0.ext x1;replace e0 := e0.trans x1;have := f1.1;refine GoR.alloc rfl rfl rfl zt3 rfl rfl fun h2 x2 f2 => ?_;have := e0.1;have := f1.1;have := f0.1;replace f1 := f1.ext x2;replace f0 := f0.ext x2;replace e0 := e0.trans x2;have := f2.1;refine GoR.alloc rfl rfl rfl zt3 rfl rfl fun h3 x3 f3 => ?_;have := e0.1;have := f2.1;have := f1.1;have := f0.1;replace f2 := f2.ext x3;replace f1 := f1.ext x3;replace f0 := f0.ext x3;replace e0 := e0.trans x3;have := f3.1;refine GoR.alloc rfl rfl rfl zt3 rfl rfl fun h4 x4 f4 => ?_;have := e0.1;have := f3.1;have := f2.1;have := f1.1;have := f0.1;replace f3 := f3.ext x4;replace f2 := f2.ext x4;replace f1 := f1.ext x4;replace f0 := f0.ext x4;replace e0 := e0.trans x4;have := f4.1;refine gP ?_;apply gE;apply gS;refine gR rfl ?_;refine gO rfl rfl (ld26 rfl f0 rfl) rfl ?_;refine gP ?_;refine GoR.call rfl rfl (aCF aFunc42 rfl) (hat _ (A.ext e0) 66 _ aFunc66 _ (fun b => b = h1.next ∨ b = h2.next ∨ b = h3.next) (fun b q => by omega) (fun h' => Has h' h1.next (.cells .plain [.int .i64 x.1] 3) ∧ Has h' h2.next (.cells .plain [.int .i64 x.2.1] 3) ∧ Has h' h3.next (.cells .plain [.int .i64 x.2.2] 3)) (fun h4 h' le same t => ⟨t.1.keep le (same _ (by omega)), t.2.1.keep le (same _ (by omega)), t.2.2.keep le (same _ (by omega))⟩) (fun h' e => hB _ _ _ _ h' ((A.ext e0).ext e) ((hs.ext e0).ext e) ⟨by omega, by omega, by omega, by omega, by omega, by omega⟩ (by have := f1.ext e; rw [hsc] at this; exact this) (f2.ext e) (f3.ext e) (f4.ext e))) ?_ (by rintro _ _ ⟨q, _, fa, fb, fc⟩; cases q);rintro v5 h5 ⟨q, y5, fa, fb, fc⟩;cases q;refine ⟨_, rfl, ?_⟩;have := e0.1;have := f4.1;have := f3.1;have := f2.1;have := f1.1;have := f0.1;clear f4;clear f3;clear f2;replace e0 := y5.low e0 (fun b q => by omega);have := y5.1;refine gP ?_;apply gE;apply gS;refine Go.drawnE plan22_0 ?_;refine gQ rfl rfl (ld3 rfl fa rfl) rfl ?_;refine gQ rfl rfl (ld3 rfl fb rfl) rfl ?_;refine gQ rfl rfl (ld3 rfl fc rfl) rfl ?_;refine gQ rfl rfl rfl rfl ?_;refine GoE.store rfl rfl rfl rfl (dK 1 3 (dK 1 2 (dK 1 1 (dD 1 0 rfl)))) rfl rfl fa rfl sz3 rfl rfl rfl fun h6 u6 => ?_;replace fa := u6.has fa;replace fb := fb.upd u6 (by omega);replace fc := fc.upd u6 (by omega);replace e0 := e0.upd u6 (by omega);refine ⟨(rck (h2 := h6) rfl (rfl) (rck (h2 := h6) rfl (ld3 rfl fc rfl) (rck (h2 := h6) rfl (ld3 rfl fb rfl) recheck_nil))), ?_⟩;refine GoE.store rfl rfl rfl rfl (dK 19 3 (dK 19 2 (dD 19 1 rfl))) rfl rfl fb rfl sz3 rfl rfl rfl fun h7 u7 => ?_;replace fa := fa.upd u7 (by omega);replace fb := u7.has fb;replace fc := fc.upd u7 (by omega);replace e0 := e0.upd u7 (by omega);refine ⟨(rck (h2 := h7) rfl (rfl) (rck (h2 := h7) rfl (ld3 rfl fc rfl) recheck_nil)), ?_⟩;refine GoE.store rfl rfl rfl rfl (dK 55 3 (dD 55 2 rfl)) rfl rfl fc rfl sz3 rfl rfl rfl fun h8 u8 => ?_;replace fa := fa.upd u8 (by omega);replace fb := fb.upd u8 (by omega);replace fc := u8.has fc;replace e0 := e0.upd u8 (by omega);refine ⟨(rck (h2 := h8) rfl (rfl) recheck_nil), ?_⟩;refine gQ rfl rfl rfl rfl ?_;refine GoE.end rfl ?_;exact gV (ret_end (aResult_of Try.func22 rfl (aResults_c rfl fa (inCells_one ag3 rfl) (aResults_c rfl fb (inCells_one ag3 rfl) (aResults_c rfl fc (inCells_one ag3 rfl) rfl)))) ⟨rfl, e0⟩)
  ·rw [if_neg hL]
   have hat := attempt_gives O rsl hsl
   have hB := fun bl b1 b2 b3 h A hs => brokeB_no O (h := h) (rsl := rsl) (hsl := hsl) (bl := bl) (b1 := b1) (b2 := b2) (b3 := b3) A hb3 hL (s := s) hs
   unfold FootV.cells at hat hB ⊢
   have e0 : Ext h h := Ext.refl _
   refine Runs.intro aFunc22 rfl rfl rfl rfl fun rest => ?_;apply gS;refine gR rfl ?_;refine GoR.box rfl rfl rfl rfl rfl rfl fun h0 x0 f0 => ?_;have := e0.1;replace e0 := e0.trans x0;have := f0.1;refine GoR.box rfl rfl rfl rfl rfl rfl fun h1 x1 f1 => ?_;have := e0.1;have := f0.1;replace f0 := f0.ext x1;replace e0 := e0.trans x1;have := f1.1;refine GoR.alloc rfl rfl rfl zt3 rfl rfl fun h2 x2 f2 => ?_;have := e0.1;have := f1.1;have := f0.1;replace f1 := f1.ext x2;replace f0 := f0.ext x2;replace e0 := e0.trans x2;have := f2.1;refine GoR.alloc rfl rfl rfl zt3 rfl rfl fun h3 x3 f3 => ?_;have := e0.1;have := f2.1;have := f1.1;have := f0.1;replace f2 := f2.ext x3;replace f1 := f1.ext x3;replace f0 := f0.ext x3;replace e0 := e0.trans x3;have := f3.1;refine GoR.alloc rfl rfl rfl zt3 rfl rfl fun h4 x4 f4 => ?_;have := e0.1;have := f3.1;have := f2.1;have := f1.1;have := f0.1;replace f3 := f3.ext x4;replace f2 := f2.ext x4;replace f1 := f1.ext x4;replace f0 := f0.ext x4;replace e0 := e0.trans x4;have := f4.1;refine gP ?_;apply gE;apply gS;refine gR rfl ?_;refine gO rfl rfl (ld26 rfl f0 rfl) rfl ?_;refine gP ?_;refine GoR.call rfl rfl (aCF aFunc42 rfl) (hat _ (A.ext e0) 66 _ aFunc66 _ 2 (fun h' e => hB _ _ _ _ h' ((A.ext e0).ext e) ((hs.ext e0).ext e) (by have := f1.ext e; rw [hsc] at this; exact this))) ?_ np;rintro v5 h5 ⟨q, x5⟩;cases q;refine ⟨_, rfl, ?_⟩;replace f4 := f4.ext x5;replace f3 := f3.ext x5;replace f2 := f2.ext x5;replace e0 := e0.trans x5;refine gP ?_;apply gE;apply gS;refine Go.drawnE plan22_0 ?_;refine gQ rfl rfl (ld3 rfl f2 rfl) rfl ?_;refine gQ rfl rfl (ld3 rfl f3 rfl) rfl ?_;refine gQ rfl rfl (ld3 rfl f4 rfl) rfl ?_;refine gQ rfl rfl rfl rfl ?_;refine GoE.store rfl rfl rfl rfl (dK 1 3 (dK 1 2 (dK 1 1 (dD 1 0 rfl)))) rfl rfl f2 rfl sz3 rfl rfl rfl fun h6 u6 => ?_;replace f4 := f4.upd u6 (by omega);replace f3 := f3.upd u6 (by omega);replace f2 := u6.has f2;replace e0 := e0.upd u6 (by omega);refine ⟨(rck (h2 := h6) rfl (rfl) (rck (h2 := h6) rfl (ld3 rfl f4 rfl) (rck (h2 := h6) rfl (ld3 rfl f3 rfl) recheck_nil))), ?_⟩;refine GoE.store rfl rfl rfl rfl (dK 19 3 (dK 19 2 (dD 19 1 rfl))) rfl rfl f3 rfl sz3 rfl rfl rfl fun h7 u7 => ?_;replace f4 := f4.upd u7 (by omega);replace f3 := u7.has f3;replace f2 := f2.upd u7 (by omega);replace e0 := e0.upd u7 (by omega);refine ⟨(rck (h2 := h7) rfl (rfl) (rck (h2 := h7) rfl (ld3 rfl f4 rfl) recheck_nil)), ?_⟩;refine GoE.store rfl rfl rfl rfl (dK 55 3 (dD 55 2 rfl)) rfl rfl f4 rfl sz3 rfl rfl rfl fun h8 u8 => ?_;replace f4 := u8.has f4;replace f3 := f3.upd u8 (by omega);replace f2 := f2.upd u8 (by omega);replace e0 := e0.upd u8 (by omega);refine ⟨(rck (h2 := h8) rfl (rfl) recheck_nil), ?_⟩;refine gQ rfl rfl rfl rfl ?_;refine GoE.end rfl ?_;exact gV (ret_end (aResult_of Try.func22 rfl (aResults_c rfl f2 (inCells_one ag3 rfl) (aResults_c rfl f3 (inCells_one ag3 rfl) (aResults_c rfl f4 (inCells_one ag3 rfl) rfl)))) ⟨rfl, e0⟩)
 ·rw [if_neg O]
  have hat := attempt_bad O hb1 hb2 rsl hsl
  unfold FootV.cells at hat ⊢
  have e0 : Ext h h := Ext.refl _
  refine Runs.intro aFunc22 rfl rfl rfl rfl fun rest => ?_;apply gS;refine gR rfl ?_;refine GoR.box rfl rfl rfl rfl rfl rfl fun h0 x0 f0 => ?_;have := e0.1;replace e0 := e0.trans x0;have := f0.1;refine GoR.box rfl rfl rfl rfl rfl rfl fun h1 x1 f1 => ?_;have := e0.1;have := f0.1;replace f0 := f0.ext x1;replace e0 := e0.trans x1;have := f1.1;refine GoR.alloc rfl rfl rfl zt3 rfl rfl fun h2 x2 f2 => ?_;have := e0.1;have := f1.1;have := f0.1;replace f1 := f1.ext x2;replace f0 := f0.ext x2;replace e0 := e0.trans x2;have := f2.1;refine GoR.alloc rfl rfl rfl zt3 rfl rfl fun h3 x3 f3 => ?_;have := e0.1;have := f2.1;have := f1.1;have := f0.1;replace f2 := f2.ext x3;replace f1 := f1.ext x3;replace f0 := f0.ext x3;replace e0 := e0.trans x3;have := f3.1;refine GoR.alloc rfl rfl rfl zt3 rfl rfl fun h4 x4 f4 => ?_;have := e0.1;have := f3.1;have := f2.1;have := f1.1;have := f0.1;replace f3 := f3.ext x4;replace f2 := f2.ext x4;replace f0 := f0.ext x4;replace e0 := e0.trans x4;have := f4.1;refine gP ?_;apply gE;apply gS;refine gR rfl ?_;refine gO rfl rfl (ld26 rfl f0 rfl) rfl ?_;refine gP ?_;refine GoR.call rfl rfl (aCF aFunc42 rfl) (hat _ (A.ext e0) 66 _) ?_ np;rintro v5 h5 ⟨q, x5⟩;cases q;refine ⟨_, rfl, ?_⟩;replace f4 := f4.ext x5;replace f3 := f3.ext x5;replace f2 := f2.ext x5;replace e0 := e0.trans x5;refine gP ?_;apply gE;apply gS;refine Go.drawnE plan22_0 ?_;refine gQ rfl rfl (ld3 rfl f2 rfl) rfl ?_;refine gQ rfl rfl (ld3 rfl f3 rfl) rfl ?_;refine gQ rfl rfl (ld3 rfl f4 rfl) rfl ?_;refine gQ rfl rfl rfl rfl ?_;refine GoE.store rfl rfl rfl rfl (dK 1 3 (dK 1 2 (dK 1 1 (dD 1 0 rfl)))) rfl rfl f2 rfl sz3 rfl rfl rfl fun h6 u6 => ?_;replace f4 := f4.upd u6 (by omega);replace f3 := f3.upd u6 (by omega);replace f2 := u6.has f2;replace e0 := e0.upd u6 (by omega);refine ⟨(rck (h2 := h6) rfl (rfl) (rck (h2 := h6) rfl (ld3 rfl f4 rfl) (rck (h2 := h6) rfl (ld3 rfl f3 rfl) recheck_nil))), ?_⟩;refine GoE.store rfl rfl rfl rfl (dK 19 3 (dK 19 2 (dD 19 1 rfl))) rfl rfl f3 rfl sz3 rfl rfl rfl fun h7 u7 => ?_;replace f4 := f4.upd u7 (by omega);replace f3 := u7.has f3;replace f2 := f2.upd u7 (by omega);replace e0 := e0.upd u7 (by omega);refine ⟨(rck (h2 := h7) rfl (rfl) (rck (h2 := h7) rfl (ld3 rfl f4 rfl) recheck_nil)), ?_⟩;refine GoE.store rfl rfl rfl rfl (dK 55 3 (dD 55 2 rfl)) rfl rfl f4 rfl sz3 rfl rfl rfl fun h8 u8 => ?_;replace f4 := u8.has f4;replace f3 := f3.upd u8 (by omega);replace f2 := f2.upd u8 (by omega);replace e0 := e0.upd u8 (by omega);refine ⟨(rck (h2 := h8) rfl (rfl) recheck_nil), ?_⟩;refine gQ rfl rfl rfl rfl ?_;refine GoE.end rfl ?_;exact gV (ret_end (aResult_of Try.func22 rfl (aResults_c rfl f2 (inCells_one ag3 rfl) (aResults_c rfl f3 (inCells_one ag3 rfl) (aResults_c rfl f4 (inCells_one ag3 rfl) rfl)))) ⟨rfl, e0⟩)
end Go.Proofs.Ytmimdgjehnhnoaa

namespace Go.Proofs.Ytmimdgjehnhnoaa
open Go Go.AbsE
set_option linter.unusedSimpArgs false
set_option maxRecDepth 100000
set_option maxHeartbeats 0
set_option linter.unusedVariables false
theorem sum_take {L : List Int} {i : Nat} {x : Int} (h : L[i]? = some x) : (L.take (i + 1)).sum = (L.take i).sum + x := by
 rw [List.take_add_one, h, Option.toList_some, List.sum_append]
 simp
theorem sum_in {L : List Int} {m : Int} (h : ∀ x, x ∈ L → 0 ≤ x ∧ x ≤ m) : 0 ≤ L.sum ∧ L.sum ≤ m * L.length := by
 induction L with
 | nil => simp
 | cons x L ih =>
  have h1 := h x (by simp)
  have h2 := ih fun y hy => h y (by simp [hy])
  rw [List.sum_cons, List.length_cons]
  have : m * ((L.length + 1 : Nat) : Int) = m * (L.length : Int) + m := by
   rw [Int.natCast_add, Int.mul_add]
   simp
  omega
theorem sum_ok {L : List Int} {s : AVal} {h : AH} (hs : SliceOf h 1 s (L.map fun x => [AVal.int .i64 x])) (hn : L.length ≤ 100) (hL : ∀ x, x ∈ L → 0 ≤ x ∧ x ≤ 1000000) :
  Runs Try.prog 121 [s] h (fun en h' => en = .ret (.int .i64 L.sum) ∧ Ext h h') := by
 have hl1 := hs.len
 rw [List.length_map] at hl1
 have e0 : Ext h h := Ext.refl _
 refine Runs.intro aFunc121 rfl rfl rfl rfl fun rest => ?_;apply gS;refine gR rfl ?_;refine gP ?_;apply gE;apply gS;refine gR rfl ?_;refine gP ?_;apply gE;iterate 2 apply gS
 refine gR rfl ?_;refine gP ?_;refine gO rfl rfl (aOp_lenSlice Try.underlying49 rfl (by assumption)) rfl ?_;refine gP ?_;apply gE;refine Go.block noJ_ok ?_;refine Go.loopKeep (fun i : Nat => [(3, .int .i64 (L.take i).sum), (6, s), (7, .int .i64 L.length), (8, .int .i64 (i : Nat))]) (fun m i h' => m + i = L.length ∧ Ext h h') (n := L.length) 0 ⟨rfl, rfl, rfl, rfl, trivial⟩ ⟨rfl, e0⟩ ?_;clear e0;rintro m i h20 ⟨hm, e0⟩ again
 by_cases hi : i < L.length
 ·obtain ⟨x, hx⟩ : ∃ x, L[i]? = some x := ⟨L[i], by simp [hi]⟩
  have h1 := hL x (List.mem_of_getElem? hx)
  have h2 := sum_in (L := L.take i) (m := 1000000) fun y hy => hL y (List.mem_of_mem_take hy)
  rw [List.length_take] at h2
  have h3 : (1000000 : Int) * ((min i L.length : Nat) : Int) ≤ 100000000 := by omega
  obtain ⟨bq, off, q1, q2⟩ := hs.at (i := i) (l := [.int .i64 x]) (by rw [List.getElem?_map, hx]; rfl)
  rw [List.length_map] at q1;apply gS;refine gR rfl ?_;refine gO rfl rfl (kLT rfl rfl) rfl ?_;apply gE;apply gS;refine gC (b := true) rfl ?_;refine gD ?_;apply gS;refine Go.block noJ_ok ?_;apply gS;refine gR rfl ?_;refine gO rfl rfl (aOp_indexAddr (i := i) Try.underlying49 sz3 rfl (by assumption) rfl (Nat.ble_eq_true_of_le (by omega))) rfl ?_;refine gO rfl rfl (aOp_loadE1 (k := 0) ag3 rfl (q2.ext e0) rfl) rfl ?_;refine gP ?_;apply gE;refine gR rfl ?_;iterate 2 refine gP ?_
  refine gO rfl rfl (aA rfl rfl) rfl ?_;refine gP ?_;apply gE;refine Go.inBlock noJ_ok ?_;refine gR rfl ?_;refine gO rfl rfl (aA rfl rfl) rfl ?_;refine gP ?_;apply gE;exact again (m - 1) (i + 1) _ _ (by omega) ⟨by rw [sum_take hx]; rfl, rfl, rfl, rfl, trivial⟩ ⟨by omega, e0⟩
 ·rw [List.take_of_length_le (by omega)];apply gS;refine gR rfl ?_;refine gO rfl rfl (kLF rfl rfl) rfl ?_;apply gE;apply gS;refine gC (b := false) rfl ?_;refine gD ?_;apply gS;refine gR rfl ?_;iterate 2 refine gP ?_
  apply gE;exact gW Try.func121 rfl rfl ⟨rfl, e0⟩
def fullB (st : List Int) (men : Int) (p : Pl) : Bool := decide (men ≤ (st[p.a.toNat]?).getD 0 ∨ men ≤ (st[p.b.toNat]?).getD 0 ∨ men ≤ (st[p.c.toNat]?).getD 0)
theorem full_ok {st : List Int} (hst : st.length = 8) {i men : Int} {p : Pl} (hp : 0 ≤ p.a ∧ p.a < 8 ∧ 0 ≤ p.b ∧ p.b < 8 ∧ 0 ≤ p.c ∧ p.c < 8) {h : AH} :
  Runs Try.prog 104 [.agg (i64s (st ++ [i])), .agg p.cells, .int .i64 men] h (fun en h' => en = .ret (.bool (fullB st men p)) ∧ Ext h h') := by
 have ga := ros_get (st := st) (i := i) (d := p.a.toNat) (by omega)
 have gb := ros_get (st := st) (i := i) (d := p.b.toNat) (by omega)
 have gc := ros_get (st := st) (i := i) (d := p.c.toNat) (by omega)
 unfold Pl.cells fullB
 obtain ⟨va, hva⟩ : ∃ v, (st[p.a.toNat]?).getD 0 = v := ⟨_, rfl⟩
 obtain ⟨vb, hvb⟩ : ∃ v, (st[p.b.toNat]?).getD 0 = v := ⟨_, rfl⟩
 obtain ⟨vc, hvc⟩ : ∃ v, (st[p.c.toNat]?).getD 0 = v := ⟨_, rfl⟩
 rw [hva] at ga ⊢;rw [hvb] at gb ⊢;rw [hvc] at gc ⊢
 have e0 : Ext h h := Ext.refl _
 refine Runs.intro aFunc104 rfl rfl rfl rfl fun rest => ?_;apply gS;refine gR rfl ?_;refine GoR.box rfl rfl rfl rfl rfl rfl fun h0 x0 f0 => ?_;replace e0 := e0.trans x0;refine GoR.box rfl rfl rfl rfl rfl rfl fun h1 x1 f1 => ?_;replace f0 := f0.ext x1;replace e0 := e0.trans x1;refine gP ?_;apply gE;iterate 2 apply gS
 refine gR rfl ?_;refine gO rfl rfl (ld83 rfl f1 rfl) rfl ?_;refine gP ?_;apply gE;refine Go.block noJ_ok ?_;refine Go.loop noJ_ok ?_;apply gS;refine gR rfl ?_;refine gO rfl rfl (kLT rfl rfl) rfl ?_;apply gE;apply gS;refine gC (b := true) rfl ?_;refine gD ?_;apply gS;refine Go.block noJ_ok ?_;apply gS;refine gR rfl ?_;refine gO rfl rfl (aOp_indexArr (i := 0) Try.underlying83 sz3 rfl rfl rfl (partT_one ag3 rfl)) rfl ?_;refine gP ?_;apply gE;apply gS;refine gR rfl ?_;refine gP ?_;refine gO rfl rfl (fa138_0 rfl) rfl ?_;refine gO rfl rfl (aOp_indexAddrArrI Try.underlying136 sz3 rfl rfl (by omega)) rfl ?_;refine gO rfl rfl (ld3 rfl f0 ga) rfl ?_;refine gP ?_
 by_cases hs0 : (men : Int) ≤ va
 ·refine gO rfl rfl (kNT rfl rfl) rfl ?_;apply gE;refine gC (b := true) rfl ?_;apply gS;refine gR rfl ?_;refine gP ?_;apply gE;exact gV (ret_end (aResult_of Try.func104 rfl rfl) ⟨ret_true (by omega), e0⟩)
 ·refine gO rfl rfl (kNF rfl rfl) rfl ?_;apply gE;refine gC (b := false) rfl ?_;refine gD ?_;refine Go.inBlock noJ_ok ?_;refine gR rfl ?_;refine gO rfl rfl (aA rfl rfl) rfl ?_;refine gP ?_;apply gE;refine Go.inLoop noJ_ok ?_;apply gS;refine gR rfl ?_;refine gO rfl rfl (kLT rfl rfl) rfl ?_;apply gE;apply gS;refine gC (b := true) rfl ?_;refine gD ?_;apply gS;refine Go.block noJ_ok ?_;apply gS;refine gR rfl ?_;refine gO rfl rfl (aOp_indexArr (i := 1) Try.underlying83 sz3 rfl rfl rfl (partT_one ag3 rfl)) rfl ?_;refine gP ?_;apply gE;apply gS;refine gR rfl ?_;refine gP ?_;refine gO rfl rfl (fa138_0 rfl) rfl ?_;refine gO rfl rfl (aOp_indexAddrArrI Try.underlying136 sz3 rfl rfl (by omega)) rfl ?_;refine gO rfl rfl (ld3 rfl f0 gb) rfl ?_;refine gP ?_
  by_cases hs1 : (men : Int) ≤ vb
  ·refine gO rfl rfl (kNT rfl rfl) rfl ?_;apply gE;refine gC (b := true) rfl ?_;apply gS;refine gR rfl ?_;refine gP ?_;apply gE;exact gV (ret_end (aResult_of Try.func104 rfl rfl) ⟨ret_true (by omega), e0⟩)
  ·refine gO rfl rfl (kNF rfl rfl) rfl ?_;apply gE;refine gC (b := false) rfl ?_;refine gD ?_;refine Go.inBlock noJ_ok ?_;refine gR rfl ?_;refine gO rfl rfl (aA rfl rfl) rfl ?_;refine gP ?_;apply gE;refine Go.inLoop noJ_ok ?_;apply gS;refine gR rfl ?_;refine gO rfl rfl (kLT rfl rfl) rfl ?_;apply gE;apply gS;refine gC (b := true) rfl ?_;refine gD ?_;apply gS;refine Go.block noJ_ok ?_;apply gS;refine gR rfl ?_;refine gO rfl rfl (aOp_indexArr (i := 2) Try.underlying83 sz3 rfl rfl rfl (partT_one ag3 rfl)) rfl ?_;refine gP ?_;apply gE;apply gS;refine gR rfl ?_;refine gP ?_;refine gO rfl rfl (fa138_0 rfl) rfl ?_;refine gO rfl rfl (aOp_indexAddrArrI Try.underlying136 sz3 rfl rfl (by omega)) rfl ?_;refine gO rfl rfl (ld3 rfl f0 gc) rfl ?_;refine gP ?_
   by_cases hs2 : (men : Int) ≤ vc
   ·refine gO rfl rfl (kNT rfl rfl) rfl ?_;apply gE;refine gC (b := true) rfl ?_;apply gS;refine gR rfl ?_;refine gP ?_;apply gE;exact gV (ret_end (aResult_of Try.func104 rfl rfl) ⟨ret_true (by omega), e0⟩)
   ·refine gO rfl rfl (kNF rfl rfl) rfl ?_;apply gE;refine gC (b := false) rfl ?_;refine gD ?_;refine Go.inBlock noJ_ok ?_;refine gR rfl ?_;refine gO rfl rfl (aA rfl rfl) rfl ?_;refine gP ?_;apply gE;refine Go.inLoop noJ_ok ?_;apply gS;refine gR rfl ?_;refine gO rfl rfl (kLF rfl rfl) rfl ?_;apply gE;apply gS;refine gC (b := false) rfl ?_;refine gD ?_;apply gS;refine gR rfl ?_;refine gP ?_;apply gE;exact gV (ret_end (aResult_of Try.func104 rfl rfl) ⟨ret_false (by omega), e0⟩)
def FootV.rest (F : FootV) (i : Nat) : Int := ((F.hs.drop i).map HF.sods).sum
theorem left_ok {F : FootV} (O : F.Ok) {rsl hsl : AVal} {h : AH} (A : FootAt h F rsl hsl) {st : List Int} (hst : st.length = 8) {i : Nat} (hi : i < F.hs.length) :
  Runs Try.prog 103 [.agg (F.cells rsl hsl), .agg (i64s (st ++ [(i : Int)]))] h (fun en h' => en = .ret (.int .i64 (F.rest i)) ∧ Ext h h') := by
 have hl1 := A.hs.len
 rw [List.length_map] at hl1
 have hnh := O.nh
 have gn := ros_next (i := (i : Int)) hst
 have g9 := ros_len (i := (i : Int)) hst
 unfold FootV.cells
 have e0 : Ext h h := Ext.refl _
 refine Runs.intro aFunc103 rfl rfl rfl rfl fun rest => ?_;apply gS;refine gR rfl ?_;refine GoR.box rfl rfl rfl rfl rfl rfl fun h0 x0 f0 => ?_;have := e0.1;replace e0 := e0.trans x0;have := f0.1;refine GoR.box rfl rfl rfl rfl rfl rfl fun h1 x1 f1 => ?_;have := e0.1;have := f0.1;replace f0 := f0.ext x1;replace e0 := e0.trans x1;have := f1.1;refine gP ?_;apply gE;apply gS;refine gR rfl ?_;refine gP ?_;apply gE;iterate 2 apply gS
 refine gR rfl ?_;refine gO rfl rfl (fa80_4 rfl) rfl ?_;refine gO rfl rfl (ld24 rfl f0 rfl) rfl ?_;refine gO rfl rfl (fa138_1 rfl) rfl ?_;refine gO rfl rfl (ld3 rfl f1 gn) rfl ?_
 obtain ⟨s', hcut, S'⟩ := (A.c.ext e0).at (A.hs.ext e0) (by rw [List.length_map]) hi (by decide)
 obtain ⟨M, hM⟩ : ∃ M, F.hs.drop i = M := ⟨_, rfl⟩
 rw [← List.map_drop, hM] at S'
 have hMl : M.length ≤ 3 := by rw [← hM, List.length_drop]; omega
 have hMo : ∀ x, x ∈ M → 0 ≤ x.sods ∧ x.sods ≤ 500 := fun x hx => by
  rw [← hM] at hx
  have := O.h x (List.mem_of_mem_drop hx)
  omega
 have hs1 := S'.len
 rw [List.length_map] at hs1
 unfold FootV.rest
 rw [hM]
 have hsum : ∀ h v, SliceOf h 1 v ((M.map HF.sods).map fun x => [AVal.int .i64 x]) → Runs Try.prog 121 [v] h (fun en h' => en = .ret (.int .i64 (M.map HF.sods).sum) ∧ Ext h h') := fun h v S => sum_ok S (by rw [List.length_map]; omega) (fun x hx => by
  obtain ⟨y, hy, rfl⟩ := List.mem_map.1 hx
  have := hMo y hy
  omega)
 refine gO rfl rfl (hcut Try.underlying24 sz72 rfl rfl) rfl ?_;refine gO rfl rfl (aOp_lenSlice Try.underlying24 rfl (by assumption)) rfl ?_;refine gP ?_;apply gE;refine Go.block noJ_ok ?_
 have hlo := e0.1
 refine Go.loopKeep (fun a : Nat × AVal => [(5, a.2), (12, s'), (13, .int .i64 M.length), (14, .int .i64 (a.1 : Nat))])
  (fun m a h' => m + a.1 = M.length ∧ Ext h h' ∧ Ext h1 h' ∧ Grow h' 3 1 h1.next a.2 a.1 (i64s ((M.take a.1).map HF.sods)))
  (n := M.length) (0, .nilslice) ⟨rfl, rfl, rfl, rfl, trivial⟩ ⟨rfl, e0, Ext.refl _, Grow.nil _ _ _ _⟩ ?_
 have e9 : Ext h h1 := e0
 clear e0 f0 f1;rintro m ⟨k, sa⟩ h20 ⟨hm, e0, e1, G⟩ again
 dsimp only at hm G ⊢
 have hn1 := e1.1
 by_cases hk : k < M.length
 ·obtain ⟨x, hx⟩ : ∃ x, M[k]? = some x := ⟨M[k], by simp [hk]⟩
  have hxo := hMo x (List.mem_of_getElem? hx)
  obtain ⟨bq, off, q1, q2⟩ := S'.at (i := k) (l := HF.cells x) (by rw [List.getElem?_map, hx]; rfl)
  rw [List.length_map] at q1
  unfold HF.cells at q2
  have e7 : Ext h20 h20 := Ext.refl _
  apply gS;refine gR rfl ?_;refine gO rfl rfl (kLT rfl rfl) rfl ?_;apply gE;apply gS;refine gC (b := true) rfl ?_;refine gD ?_;apply gS;refine Go.block noJ_ok ?_;apply gS;refine gR rfl ?_;refine gO rfl rfl (aOp_indexAddr (i := k) Try.underlying24 sz72 rfl (by assumption) rfl (Nat.ble_eq_true_of_le (by omega))) rfl ?_;refine gO rfl rfl (aOp_loadE ag72 sz72 rfl (q2.ext e1)) rfl ?_;refine GoR.alloc rfl rfl rfl zt72 rfl rfl fun h21 x21 f21 => ?_;have := e0.1;have := e1.1;have := e7.1;replace e0 := e0.trans x21;replace e1 := e1.trans x21;replace e7 := e7.trans x21;have := f21.1;refine GoR.store rfl rfl rfl rfl rfl rfl f21 rfl sz72 rfl rfl rfl fun h22 u22 => ?_;replace f21 := u22.has f21;replace e0 := e0.upd u22 (by omega);replace e1 := e1.upd u22 (by omega);replace e7 := e7.upd u22 (by omega);apply gE;refine gR rfl ?_;refine gP ?_;refine gO rfl rfl (fa72_1 rfl) rfl ?_;refine gO rfl rfl (ld3 rfl f21 rfl) rfl ?_;refine GoR.buildSl rfl rfl (ps := [(0, .int .i64 x.sods)]) (cs := [.int .i64 x.sods]) Try.underlying49 rfl sz3 zt3 rfl rfl rfl rfl fun h23 x23 f23 => ?_;have := e0.1;have := e1.1;have := e7.1;have := f21.1;replace e0 := e0.trans x23;replace e1 := e1.trans x23;replace e7 := e7.trans x23;have := f23.1
  have G' := grow_extF G (.of e7) (S := fun _ => False) (fun _ q => q.elim)
  refine GoR.append1F (lo := h1.next) (s := sa) rfl rfl rfl Try.underlying49 Try.underlying49 sz3 by3 zt3 rfl rfl rfl rfl f23 rfl rfl G' (by omega) rfl rfl fun s6 h59 y59 g59 => ?_
  have z0 : Ext h h59 := y59.low e0 (fun b q => by have := (grow_own G' q).1; have := e9.1; omega)
  have z1 : Ext h1 h59 := y59.low e1 (fun b q => (grow_own G' q).1)
  clear e0 e1 e7 f21 f23
  have e0 := z0
  have again2 := again (m - 1) (k + 1, s6)
  dsimp only at again2
  refine gP ?_;apply gE;refine Go.inBlock noJ_ok ?_;refine gR rfl ?_;refine gO rfl rfl (aA rfl rfl) rfl ?_;refine gP ?_;apply gE;refine again2 _ _ (by omega) ⟨rfl, rfl, rfl, rfl, trivial⟩ ⟨by omega, z0, z1, ?_⟩;rw [List.take_add_one, hx, Option.toList_some, List.map_append]
  unfold i64s at g59 ⊢
  rw [List.map_append];exact g59.low (by have := (z1.1); have := hn1; omega)
 ·have hkM : k = M.length := by omega
  subst hkM;rw [List.take_length] at G;apply gS;refine gR rfl ?_;refine gO rfl rfl (kLF rfl rfl) rfl ?_;apply gE;apply gS;refine gC (b := false) rfl ?_;refine gD ?_;apply gS;refine gR rfl ?_;refine gP ?_;refine GoR.call rfl rfl (aCF aFunc121 rfl) (hsum _ _ (nums_sl (by rw [List.length_map]) G)) ?_ np;rintro v21 h21 ⟨q, x21⟩;cases q;refine ⟨_, rfl, ?_⟩;replace e0 := e0.trans x21;refine gP ?_;apply gE;exact gW Try.func103 rfl rfl ⟨rfl, e0⟩
end Go.Proofs.Ytmimdgjehnhnoaa

namespace Go.Proofs.Ytmimdgjehnhnoaa
open Go Go.AbsE
set_option linter.unusedSimpArgs false
set_option maxRecDepth 100000
set_option maxHeartbeats 0
set_option linter.unusedVariables false
theorem pls_flat (L : List Pl) : (L.map Pl.cells).flatten = L.flatMap Pl.cells := by rw [List.flatMap_def]
theorem pls_len (L : List Pl) : (L.flatMap Pl.cells).length = L.length * 3 := by
 induction L with
 | nil => rfl
 | cons p L ih => rw [List.flatMap_cons, List.length_append, ih, List.length_cons, Nat.add_mul]; show 3 + _ = _; omega
theorem pls_scal : ∀ L : List Pl, scalars (L.flatMap Pl.cells) = true
 | [] => rfl
 | p :: L => by
  rw [List.flatMap_cons];exact pls_scal L
theorem repl_len {z : List AVal} : ∀ n, (repl z n).length = n * z.length
 | 0 => by simp [repl]
 | n + 1 => by unfold repl; rw [List.length_append, repl_len n, Nat.add_mul]; omega
theorem after_ok {s : AVal} {L : List Pl} {p : Pl} {n sods : Int} {h : AH} (hs : SliceOf h 3 s (L.map Pl.cells)) (hL : L.length ≤ 10) (hn : 0 ≤ n ∧ n ≤ 1000) (hsd : 0 ≤ sods ∧ sods ≤ 100000) :
  Runs Try.prog 102 [.agg [.int .i64 sods, s], .agg p.cells, .int .i64 n] h (fun en h' => ∃ b, en = .ret (.agg [.int .i64 (n + sods), .slice b 0 (L.length + 1) (L.length + 1)]) ∧ Ext h h' ∧ h.next ≤ b ∧ Has h' b (.cells .plain ((p :: L).flatMap Pl.cells) 27)) := by
 have hl1 := hs.len
 rw [List.length_map] at hl1
 obtain ⟨sc, hsc⟩ := hs.scal
 have hsame := hs.same
 have hsum : ∀ h v, SliceOf h 1 v ([n, sods].map fun x => [AVal.int .i64 x]) → Runs Try.prog 121 [v] h (fun en h' => en = .ret (.int .i64 (n + sods)) ∧ Ext h h') := fun h v S => by
  have := sum_ok (L := [n, sods]) (s := v) (h := h) S (by simp) (fun x hx => by simp at hx; omega)
  rwa [show [n, sods].sum = n + sods by simp] at this
 have hz : splice (repl (AVal.agg [AVal.int .i64 0, .int .i64 0, .int .i64 0]).cells (L.length + 1)) (0 + 0 * 3) (AVal.agg [.int .i64 p.a, .int .i64 p.b, .int .i64 p.c]).cells = some ([.int .i64 p.a, .int .i64 p.b, .int .i64 p.c] ++ repl (AVal.agg [AVal.int .i64 0, .int .i64 0, .int .i64 0]).cells L.length) := by
  show splice ([AVal.int .i64 0, .int .i64 0, .int .i64 0] ++ repl (AVal.agg [AVal.int .i64 0, .int .i64 0, .int .i64 0]).cells L.length) 0 [.int .i64 p.a, .int .i64 p.b, .int .i64 p.c] = _
  rw [splice_eq (by simp)]
  simp
 unfold Pl.cells
 have e0 : Ext h h := Ext.refl _
 refine Runs.intro aFunc102 rfl rfl rfl rfl fun rest => ?_;apply gS;refine gR rfl ?_;refine GoR.box rfl rfl rfl rfl rfl rfl fun h0 x0 f0 => ?_;have := e0.1;replace e0 := e0.trans x0;have := f0.1;refine GoR.box rfl rfl rfl rfl rfl rfl fun h1 x1 f1 => ?_;have := e0.1;have := f0.1;replace f0 := f0.ext x1;replace e0 := e0.trans x1;have := f1.1;refine GoR.alloc rfl rfl rfl zt111 rfl rfl fun h2 x2 f2 => ?_;have := e0.1;have := f1.1;have := f0.1;replace f1 := f1.ext x2;replace f0 := f0.ext x2;replace e0 := e0.trans x2;have := f2.1;apply gE;apply gS;refine gR rfl ?_;refine gO rfl rfl (fa111_1 rfl) rfl ?_;refine gO rfl rfl (ld40 rfl f0 rfl) rfl ?_;refine gO rfl rfl (aOp_lenSlice Try.underlying40 rfl (by assumption)) rfl ?_;refine gO rfl rfl (aA rfl rfl) rfl ?_;refine GoR.makeSl (n := L.length + 1) rfl rfl rfl Try.underlying40 rfl rfl sz27 by27 zt27 rfl (Nat.ble_eq_true_of_le (by omega)) rfl rfl fun h3 x3 f3 => ?_;have := e0.1;have := f2.1;have := f1.1;have := f0.1;replace f2 := f2.ext x3;replace f1 := f1.ext x3;replace f0 := f0.ext x3;replace e0 := e0.trans x3;have := f3.1;refine gP ?_;apply gE;apply gS;refine gR rfl ?_;refine gP ?_;refine gO rfl rfl (ld83 rfl f1 rfl) rfl ?_;refine gO rfl rfl (aOp_indexAddr (i := 0) (len := L.length + 1) Try.underlying40 sz27 rfl rfl rfl (Nat.ble_eq_true_of_le (by omega))) rfl ?_;refine GoR.store rfl rfl rfl rfl rfl rfl f3 rfl sz27 rfl rfl hz fun h4 u4 => ?_;replace f3 := u4.has f3;replace f2 := f2.upd u4 (by omega);replace f1 := f1.upd u4 (by omega);replace f0 := f0.upd u4 (by omega);replace e0 := e0.upd u4 (by omega);apply gE;apply gS;refine Go.drawnE plan102_0 ?_;refine gQ rfl rfl rfl rfl ?_
 have hcap : ∀ h', Ext h h' → srcCells h' 3 L.length s = some (L.flatMap Pl.cells) := fun h' e => by
  have := (hs.ext e).src
  rwa [List.length_map, pls_flat] at this
 have hsp : splice ([AVal.int .i64 p.a, .int .i64 p.b, .int .i64 p.c] ++ repl (AVal.agg [AVal.int .i64 0, .int .i64 0, .int .i64 0]).cells L.length) (0 + 1 * 3) (L.flatMap Pl.cells) = some ([AVal.int .i64 p.a, .int .i64 p.b, .int .i64 p.c] ++ L.flatMap Pl.cells) := by
  have hrl : (repl (AVal.agg [AVal.int .i64 0, .int .i64 0, .int .i64 0]).cells L.length).length = L.length * 3 := repl_len _
  rw [splice_eq (by rw [List.length_append, hrl, pls_len]; simp), List.take_left' (l₁ := [AVal.int .i64 p.a, .int .i64 p.b, .int .i64 p.c]) (i := 0 + 1 * 3) rfl, List.drop_of_length_le (by rw [List.length_append, hrl, pls_len]; simp), List.append_nil]
 have hfin : [AVal.int .i64 p.a, .int .i64 p.b, .int .i64 p.c] ++ L.flatMap Pl.cells = (p :: L).flatMap Pl.cells := rfl
 by_cases hL0 : L = []
 ·subst hL0;refine gQ rfl rfl (aOp_sliceAll Try.underlying40 sz27 rfl rfl rfl (cut_lo (n := 1) (cap := 1) (i := 1) (by omega)) (by omega)) rfl ?_;refine gQ rfl rfl (fa111_1 rfl) rfl ?_;refine gQ rfl rfl (ld40 rfl f0 rfl) rfl ?_;refine GoE.copyIn rfl rfl Try.underlying40 sz27 rfl rfl hl1 rfl (hcap _ e0) f3 rfl rfl rfl (dD 15 3 (dD 15 2 (dD 15 1 (dD 15 0 rfl)))) rfl rfl fun h5 u5 => ?_;replace f2 := f2.upd u5 (by omega);replace f1 := f1.upd u5 (by omega);replace f0 := f0.upd u5 (by omega);replace f3 := u5.has f3;replace e0 := e0.upd u5 (by omega);refine ⟨recheck_nil, ?_⟩;refine GoE.end rfl ?_;apply gS;refine gR rfl ?_;refine gP ?_;refine gO rfl rfl (fa111_0 rfl) rfl ?_;refine gO rfl rfl (ld3 rfl f0 rfl) rfl ?_;refine GoR.buildSl rfl rfl (ps := [(0, .int .i64 n), (1, .int .i64 sods)]) (cs := [.int .i64 n, .int .i64 sods]) Try.underlying49 rfl sz3 zt3 rfl rfl rfl rfl fun h6 x6 f6 => ?_;have := e0.1;have := f2.1;have := f1.1;have := f0.1;have := f3.1;replace f2 := f2.ext x6;replace f3 := f3.ext x6;replace e0 := e0.trans x6;have := f6.1;refine GoR.call rfl rfl (aCF aFunc121 rfl) (hsum _ _ (lit_slice (l := [n, sods]) rfl f6)) ?_ np;rintro v7 h7 ⟨q, x7⟩;cases q;refine ⟨_, rfl, ?_⟩;replace f2 := f2.ext x7;replace f3 := f3.ext x7;replace e0 := e0.trans x7;refine gP ?_;refine gO rfl rfl (aOp_build zt111 hu111 pl111 rfl rfl) rfl ?_;refine GoR.store rfl rfl rfl rfl rfl rfl f2 rfl sz111 rfl rfl rfl fun h8 u8 => ?_;replace f2 := u8.has f2;replace f3 := f3.upd u8 (by omega);replace e0 := e0.upd u8 (by omega);apply gE;exact gV (ret_end (aResult_of Try.func102 rfl (aResults_c rfl f2 (inCells_agg ag111 sz111 rfl) rfl)) (⟨_, rfl, e0, by omega, f3⟩))
 ·have hL1 : L.length ≠ 0 := fun q => hL0 (List.length_eq_zero_iff.1 q)
  refine gQ rfl rfl (aOp_slice Try.underlying40 sz27 rfl rfl rfl (cut_lo (n := L.length + 1) (cap := L.length + 1) (i := 1) (by omega)) (by omega) (by omega)) rfl ?_;refine gQ rfl rfl (fa111_1 rfl) rfl ?_;refine gQ rfl rfl (ld40 rfl f0 rfl) rfl ?_;refine GoE.copyIn rfl rfl Try.underlying40 sz27 rfl rfl hl1 (Nat.min_self _) (hcap _ e0) f3 rfl (pls_scal _) hsp (dD 15 3 (dD 15 2 (dD 15 1 (dD 15 0 rfl)))) rfl rfl fun h5 u5 => ?_;replace f3 := u5.has f3;replace f2 := f2.upd u5 (by omega);replace f1 := f1.upd u5 (by omega);replace f0 := f0.upd u5 (by omega);replace e0 := e0.upd u5 (by omega);refine ⟨recheck_nil, ?_⟩;refine GoE.end rfl ?_;apply gS;refine gR rfl ?_;refine gP ?_;refine gO rfl rfl (fa111_0 rfl) rfl ?_;refine gO rfl rfl (ld3 rfl f0 rfl) rfl ?_;refine GoR.buildSl rfl rfl (ps := [(0, .int .i64 n), (1, .int .i64 sods)]) (cs := [.int .i64 n, .int .i64 sods]) Try.underlying49 rfl sz3 zt3 rfl rfl rfl rfl fun h6 x6 f6 => ?_;have := e0.1;have := f3.1;have := f2.1;have := f1.1;have := f0.1;replace f3 := f3.ext x6;replace f2 := f2.ext x6;replace e0 := e0.trans x6;have := f6.1;refine GoR.call rfl rfl (aCF aFunc121 rfl) (hsum _ _ (lit_slice (l := [n, sods]) rfl f6)) ?_ np;rintro v7 h7 ⟨q, x7⟩;cases q;refine ⟨_, rfl, ?_⟩;replace f3 := f3.ext x7;replace f2 := f2.ext x7;replace e0 := e0.trans x7;refine gP ?_;refine gO rfl rfl (aOp_build zt111 hu111 pl111 rfl rfl) rfl ?_;refine GoR.store rfl rfl rfl rfl rfl rfl f2 rfl sz111 rfl rfl rfl fun h8 u8 => ?_;replace f3 := f3.upd u8 (by omega);replace f2 := u8.has f2;replace e0 := e0.upd u8 (by omega);apply gE;exact gV (ret_end (aResult_of Try.func102 rfl (aResults_c rfl f2 (inCells_agg ag111 sz111 rfl) rfl)) (⟨_, rfl, e0, by omega, f3⟩))
end Go.Proofs.Ytmimdgjehnhnoaa
