import Derived.Test.YteibheeleeengaaMAM
import Derived.Test.YteibheeleeengaaMAJ
import Derived.Test.YteibheeleeengaaMAH
namespace Go.Proofs.Yteibheeleeengaa
open Go Go.AbsE
set_option linter.unusedSimpArgs false
set_option maxRecDepth 100000
set_option maxHeartbeats 0
set_option linter.unusedVariables false
def CutV.learnL (C : CutV) (ks : List Int) (s : Nat) : KV := ks.filterMap fun k => (C.course k s).map fun c => ((k, (s : Int)), c)
def CutV.learn (C : CutV) (sets : List Nat) : KV := sets.flatMap fun s => C.learnL (upto C.kl C.kh) s
theorem key102 : KeyN Try.prog 102 2 where
 fs := ⟨_, Try.underlying102, .cons (n := 1) ⟨by decide, .inl ⟨rfl, _, Try.underlying3⟩⟩ rfl (.cons (n := 1) ⟨by decide, .inl ⟨rfl, _, Try.underlying3⟩⟩ rfl (.nil _))⟩
 std := by kernel_rfl
theorem learnL_mem {C : CutV} {ks : List Int} {s : Nat} {x : (Int × Int) × List (Int × Int)} (h : x ∈ C.learnL ks s) : x.1.1 ∈ ks ∧ x.1.2 = (s : Int) ∧ C.course x.1.1 s = some x.2 := by
 unfold CutV.learnL at h
 obtain ⟨k, hk, h⟩ := List.mem_filterMap.1 h
 cases q : C.course k s with
 | none => rw [q] at h; cases h
 | some c => rw [q] at h; cases h; exact ⟨hk, rfl, q⟩
theorem learn_mem {C : CutV} {sets : List Nat} {x : (Int × Int) × List (Int × Int)} (h : x ∈ C.learn sets) : ∃ s, s ∈ sets ∧ x ∈ C.learnL (upto C.kl C.kh) s := List.mem_flatMap.1 h
theorem upto_nodup (a b : Int) : (upto a b).Nodup := by
 unfold upto
 refine List.Pairwise.map _ (fun x y h => ?_) List.nodup_range
 omega
theorem course_len {C : CutV} {k : Int} {s : Nat} {c : List (Int × Int)} (h : C.course k s = some c) : c.length = C.rs.length + 1 := by
 unfold CutV.course at h
 have hd : (C.days k s).length = C.rs.length + 1 := by unfold CutV.days; simp
 cases q : fwdA (C.days k s) (C.dl, C.dh) with
 | none => rw [q] at h; cases h
 | some p =>
  obtain ⟨l, z⟩ := p
  rw [q] at h;cases h;rw [bwdA_len (fwdA_len q).symm, hd]
theorem learnL_more {C : CutV} {ks : List Int} {s j : Nat} {k : Int} (hk : ks[j]? = some k) : C.learnL (ks.take (j + 1)) s = C.learnL (ks.take j) s ++ (match C.course k s with | none => [] | some c => [((k, (s : Int)), c)]) := by
 unfold CutV.learnL
 rw [List.take_add_one, hk, Option.toList_some, List.filterMap_append]
 congr 1
 cases q : C.course k s with
 | none => simp [List.filterMap_cons, q]
 | some c => simp [List.filterMap_cons, q]
theorem learn_more {C : CutV} {sets : List Nat} {i s : Nat} (hs : sets[i]? = some s) : C.learn (sets.take (i + 1)) = C.learn (sets.take i) ++ C.learnL (upto C.kl C.kh) s := by
 unfold CutV.learn
 rw [List.take_add_one, hs, Option.toList_some, List.flatMap_append, List.flatMap_cons, List.flatMap_nil, List.append_nil]
theorem learn_new {C : CutV} {sets : List Nat} (hnd : sets.Nodup) {i s j : Nat} {k : Int} (hs : sets[i]? = some s) (hk : (upto C.kl C.kh)[j]? = some k) : ∀ x, x ∈ C.learn (sets.take i) ++ C.learnL ((upto C.kl C.kh).take j) s → x.1 ≠ (k, (s : Int)) := by
 intro x hx q
 have hil := (List.getElem?_eq_some_iff.1 hs)
 have hjl := (List.getElem?_eq_some_iff.1 hk)
 rcases List.mem_append.1 hx with hx | hx
 ·obtain ⟨s', h1, h2⟩ := learn_mem hx
  obtain ⟨_, h3, _⟩ := learnL_mem h2
  rw [q] at h3
  have h4 : s' = s := by dsimp only at h3; omega
  subst h4
  obtain ⟨i', hi', h5⟩ := List.mem_take_iff_getElem.1 h1
  exact List.pairwise_iff_getElem.1 hnd i' i (by omega) hil.1 (by omega) (h5.trans hil.2.symm)
 ·obtain ⟨h1, _, _⟩ := learnL_mem hx
  rw [q] at h1
  obtain ⟨j', hj', h5⟩ := List.mem_take_iff_getElem.1 h1
  exact List.pairwise_iff_getElem.1 (upto_nodup _ _) j' j (by omega) hjl.1 (by omega) (h5.trans hjl.2.symm)
theorem learn_ok {C : CutV} (O : C.Ok) {r b l sl : AVal} {sets : List Nat} (hnd : sets.Nodup) (hsl : sets.length ≤ 100) (h : AH) (A : CutAt h C r b l) (S : SliceOf h 1 sl (sets.map fun n => [.int .i64 (n : Nat)])) :
  Runs Try.prog 63 [.agg (C.cells r b l), sl] h (fun en h' => ∃ bm, en = .ret (.map bm) ∧ Ext h h' ∧ h.next ≤ bm ∧ Has h' bm (.map (esN ((C.learn sets).map entL)) (C.learn sets).length)) := by
 have hsll := S.len
 rw [List.length_map] at hsll
 have hok := O.k
 have hco := fun k hk s h A => course_ok O (r := r) (b := b) (l := l) (k := k) hk (s := s) h A
 have hle := fun h => leaks_ok (C := C) (r := r) (b := b) (l := l) (h := h)
 have hsm := A.same
 unfold CutV.cells at hco hle hsm ⊢
 have e0 : Ext h h := Ext.refl _
 refine Runs.intro aFunc63 rfl rfl rfl rfl fun rest => ?_;apply gS;refine gR rfl ?_;refine GoR.box rfl rfl rfl rfl rfl rfl fun h0 x0 f0 => ?_;have := e0.1;replace e0 := e0.trans x0;have := f0.1;refine gP ?_;apply gE;apply gS;refine gR rfl ?_;refine GoR.makeMap rfl rfl rfl rfl rfl fun h1 x1 f1 => ?_;have := e0.1;have := f0.1;replace f0 := f0.ext x1;replace e0 := e0.trans x1;have := f1.1;refine GoR.alloc rfl rfl rfl zt72 rfl rfl fun h2 x2 f2 => ?_;have := e0.1;have := f1.1;have := f0.1;replace f1 := f1.ext x2;replace f0 := f0.ext x2;replace e0 := e0.trans x2;have := f2.1;refine GoR.store rfl rfl rfl rfl rfl rfl f2 rfl sz72 rfl rfl rfl fun h3 u3 => ?_;replace f2 := u3.has f2;replace f1 := f1.upd u3 (by omega);replace f0 := f0.upd u3 (by omega);replace e0 := e0.upd u3 (by omega);apply gE;iterate 2 apply gS
 refine gR rfl ?_;refine gP ?_;refine gO rfl rfl (aOp_lenSlice Try.underlying34 rfl hsll) rfl ?_;refine gP ?_;apply gE;refine Go.block noJ_ok ?_
 have hb0 := f0.1
 have hb1 := f1.1
 have hb2 := f2.1
 refine Go.loopKeepD (fun i : Nat => [(2, .ptr h.next 0), (5, .ptr h1.next 0), (13, sl), (14, .int .i64 sets.length), (15, .int .i64 (i : Nat))])
  (fun m i ds h' => m + i = sets.length ∧ Ext h h' ∧ h3.next ≤ h'.next ∧ Has h' h.next (.cells .plain [.int .i64 C.dl, .int .i64 C.dh, .int .i64 C.kl, .int .i64 C.kh, r, .int .i64 C.most, b, l] 68) ∧ Has h' h1.next (.cells .plain [.map h0.next] 72) ∧ Has h' h0.next (.map (esN ((C.learn (sets.take i)).map entL)) (C.learn (sets.take i)).length) ∧ ∃ bs : List Nat, ds = bs.map .collected ∧ Coll h' h3.next bs) (n := sets.length) 0 ⟨rfl, rfl, rfl, rfl, rfl, trivial⟩ ⟨rfl, e0, Nat.le_refl _, f0, f2, f1, [], rfl, .nil⟩ ?_
 clear e0 f0 f1 f2;rintro m i ds h20 ⟨hm, e0, hle3, f0, f2, f1, bs, rfl, CL⟩ again
 have hn0 := f0.1
 have hn1 := f1.1
 have hn2 := f2.1
 by_cases hi : i < sets.length
 ·obtain ⟨s, hs⟩ : ∃ s, sets[i]? = some s := ⟨sets[i], by simp [hi]⟩
  obtain ⟨bq, off, q1, q2⟩ := (S.ext e0).at (i := i) (l := [.int .i64 (s : Nat)]) (by rw [List.getElem?_map, hs]; rfl)
  rw [List.length_map] at q1
  have e9 : Ext h20 h20 := Ext.refl _
  apply gS;refine gR rfl ?_;refine gO rfl rfl (kLT rfl rfl) rfl ?_;apply gE;apply gS;refine gC (b := true) rfl ?_;refine gD ?_;apply gS;refine Go.block noJ_ok ?_;apply gS;refine gR rfl ?_;refine gO rfl rfl (aOp_indexAddr (i := i) Try.underlying34 sz3 rfl q1 rfl (Nat.ble_eq_true_of_le hi)) rfl ?_;refine gO rfl rfl ((aOp_loadE1 (k := 0) ag3 rfl (q2.ext e9) rfl)) rfl ?_;refine GoR.alloc rfl rfl rfl zt3 rfl rfl fun h21 x21 f21 => ?_;have := e0.1;have := e9.1;have := f0.1;have := f2.1;have := f1.1;replace f0 := f0.ext x21;replace f2 := f2.ext x21;replace f1 := f1.ext x21;replace e0 := e0.trans x21;replace e9 := e9.trans x21;have := f21.1;refine GoR.store rfl rfl rfl rfl rfl rfl f21 rfl sz3 rfl rfl rfl fun h22 u22 => ?_;replace f21 := u22.has f21;replace f0 := f0.upd u22 (by omega);replace f2 := f2.upd u22 (by omega);replace f1 := f1.upd u22 (by omega);replace e0 := e0.upd u22 (by omega);replace e9 := e9.upd u22 (by omega);apply gE;apply gS;refine gR rfl ?_;refine gO rfl rfl (ld68 rfl f0 rfl) rfl ?_;refine GoR.call rfl rfl (aCF aFunc64 rfl) (hle _) ?_ (by rintro _ _ ⟨bf, bt, q, _, hbf, hbt, NA⟩; cases q);rintro v23 h23 ⟨bf, bt, q, x23, hbf, hbt, NA⟩;cases q;refine ⟨_, rfl, ?_⟩;have := e0.1;have := e9.1;replace f21 := f21.ext x23;replace f0 := f0.ext x23;replace f2 := f2.ext x23;replace f1 := f1.ext x23;replace e0 := e0.trans x23;replace e9 := e9.trans x23;apply gE;refine Go.block noJ_ok ?_
  have hb0 := f0.1
  have hb1 := f1.1
  have hb2 := f2.1
  have hb21 := f21.1
  have hle9 := e9.1
  have CL2 := CL.ext e9
  obtain ⟨KS, hKS⟩ : ∃ KS, upto C.kl C.kh = KS := ⟨_, rfl⟩
  have hlm := learn_more (C := C) hs
  have eF : ∀ {hh}, ExtF (fun b => b = h0.next) h23 hh → Ext h hh := fun x => x.low e0 fun b q => by omega
  refine Go.rangeN (items := KS.map fun n => [AVal.int .i64 n]) (A := NumsA C.kl C.kh bf bt) (fun b => b = h0.next)
   (fun j hh G => Has hh h0.next (.map (esN ((C.learn (sets.take i) ++ C.learnL (KS.take j) s).map entL)) (C.learn (sets.take i) ++ C.learnL (KS.take j) s).length) ∧ ∀ b, G b ↔ b = h0.next)
   (fun _ _ _ => False) rfl aFunc80 Try.func63 (by rw [← hKS]; exact nums80_it (by omega) (by omega) bf bt) (fun h' x => ⟨NA.f.extF x (by omega), NA.t.extF x (by omega)⟩) ⟨?_, fun b => Iff.rfl⟩ ?_ ?_ ?_ ?_ ?_ ?_ ?_
  ·have : C.learn (sets.take i) ++ C.learnL (KS.take 0) s = C.learn (sets.take i) := by show _ ++ [] = _; rw [List.append_nil]
   rw [this];exact f1
  ·rintro k hh G b ⟨g1, hG⟩ q
   rw [(hG b).1 q]
   exact g1.1
  ·rintro c hh G b q;exact q.elim
  ·rintro k h4' h5' G ⟨g1, hG⟩ hn hk;exact ⟨g1.keep hn (hk _ g1.1 (.inr ((hG _).2 rfl))), hG⟩
  ·rintro c h4' h5' G q;exact q.elim
  ·rintro j item hj
   obtain ⟨k, hk, rfl⟩ : ∃ k, KS[j]? = some k ∧ [AVal.int .i64 k] = item := by
    rw [List.getElem?_map] at hj
    cases q : KS[j]? with
    | none => rw [q] at hj; cases hj
    | some x => rw [q] at hj; exact ⟨x, rfl, Option.some.inj hj⟩
   refine ⟨_, rfl, ?_⟩;rintro hh G lb r0 fr rest' Q' ⟨g1, hG⟩ x1 hsub hnl hlb fl hready contT contF
   have hkr : 0 ≤ k ∧ k ≤ 10 := by
    have := mem_upto.1 (hKS ▸ List.mem_of_getElem? hk)
    omega
   have hnew := learn_new (C := C) hnd (i := i) (j := j) hs (by rw [hKS]; exact hk)
   rw [hKS] at hnew
   have hmore := learnL_more (C := C) (s := s) hk
   have hx1 := x1.1
   have hfl := fl.1
   replace f0 := f0.extF x1 (by omega);replace f2 := f2.extF x1 (by omega);replace f21 := f21.extF x1 (by omega)
   have e8 := eF x1
   have hl0 : h0.next ≠ lb := by omega
   have y9 : ExtF (fun b => G b ∨ b = lb) hh hh := ExtF.of (Ext.refl _)
   clear e0 e9 f1 contF;refine gR rfl ?_;refine gP ?_;apply gE;refine Go.beginRound fl hready fun h41 u41 => ?_;replace f0 := f0.upd u41 (by omega);replace f2 := f2.upd u41 (by omega);replace f21 := f21.upd u41 (by omega);replace g1 := g1.upd u41 hl0;replace fl := u41.has fl;replace y9 := y9.upd u41 (.inl (.inr rfl));replace e8 := e8.upd u41 (by omega)
   have hu41 := u41.1
   have hcx := fun h' e => hco k hkr s h' (A.ext e)
   obtain ⟨f1, hf1⟩ : ∃ f1, f1 = g1 := ⟨_, rfl⟩
   obtain ⟨f6, hf6⟩ : ∃ f6, f6 = fl := ⟨_, rfl⟩
   clear hf1 hf6 g1 fl
   have hk0 := f0.1
   have hk1 := f1.1
   have hk2 := f2.1
   have hk6 := f6.1
   have hk21 := f21.1
   have hG0 : G h0.next := (hG _).2 rfl
   cases hc : C.course k s with
   | none =>
    rw [hc] at hcx hmore
    dsimp only at hmore
    rw [List.append_nil] at hmore
    have hz : crsC ((none : Option (List (Int × Int))).getD []) = [.int .i64 0, .int .i64 0, .int .i64 0, .int .i64 0, .int .i64 0, .int .i64 0, .int .i64 0, .int .i64 0, .int .i64 0, .int .i64 0, .int .i64 0, .int .i64 0, .int .i64 0, .int .i64 0, .int .i64 0, .int .i64 0, .int .i64 0, .int .i64 0] := rfl
    rw [hz] at hcx;refine Go.block noJ_ok ?_;apply gS;refine gR rfl ?_;refine gP ?_;refine gO rfl rfl (ld3 rfl f21 rfl) rfl ?_;refine gO rfl rfl (aOp_build zt102 hu102 pl102 rfl rfl) rfl ?_;refine GoR.alloc rfl rfl rfl zt102 rfl rfl fun h42 x42 f42 => ?_;have := e8.1;have := f0.1;have := f2.1;have := f21.1;have := f1.1;have := f6.1;replace f0 := f0.ext x42;replace f2 := f2.ext x42;replace f21 := f21.ext x42;replace f1 := f1.ext x42;replace f6 := f6.ext x42;replace e8 := e8.trans x42;replace y9 := y9.ext x42;have := f42.1;refine GoR.store rfl rfl rfl rfl rfl rfl f42 rfl sz102 rfl rfl rfl fun h43 u43 => ?_;replace f42 := u43.has f42;replace f0 := f0.upd u43 (by omega);replace f2 := f2.upd u43 (by omega);replace f21 := f21.upd u43 (by omega);replace f1 := f1.upd u43 (by omega);replace f6 := f6.upd u43 (by omega);replace e8 := e8.upd u43 (by omega);replace y9 := y9.upd u43 (.inr (by omega));apply gE;apply gS;refine gR rfl ?_;refine gO rfl rfl (ld68 rfl f0 rfl) rfl ?_;refine gO rfl rfl (ld102 rfl f42 rfl) rfl ?_;refine GoR.call rfl rfl (aCF aFunc79 rfl) (hcx _ e8) ?_ np;rintro v44 h44 ⟨q, x44⟩;cases q;refine ⟨_, rfl, ?_⟩;replace f42 := f42.ext x44;replace f0 := f0.ext x44;replace f2 := f2.ext x44;replace f21 := f21.ext x44;replace f1 := f1.ext x44;replace f6 := f6.ext x44;replace e8 := e8.trans x44;replace y9 := y9.ext x44;iterate 3 refine gP ?_
    refine GoR.alloc rfl rfl rfl zt99 rfl rfl fun h45 x45 f45 => ?_;have := e8.1;have := f42.1;have := f0.1;have := f2.1;have := f21.1;have := f1.1;have := f6.1;replace f42 := f42.ext x45;replace f0 := f0.ext x45;replace f2 := f2.ext x45;replace f21 := f21.ext x45;replace f1 := f1.ext x45;replace f6 := f6.ext x45;replace e8 := e8.trans x45;replace y9 := y9.ext x45;have := f45.1;refine GoR.store rfl rfl rfl rfl rfl rfl f45 rfl sz99 rfl rfl rfl fun h46 u46 => ?_;replace f45 := u46.has f45;replace f42 := f42.upd u46 (by omega);replace f0 := f0.upd u46 (by omega);replace f2 := f2.upd u46 (by omega);replace f21 := f21.upd u46 (by omega);replace f1 := f1.upd u46 (by omega);replace f6 := f6.upd u46 (by omega);replace e8 := e8.upd u46 (by omega);replace y9 := y9.upd u46 (.inr (by omega));refine gP ?_;apply gE;apply gS;refine gR rfl ?_;refine gP ?_;apply gE;refine gC (b := false) rfl ?_;refine gD ?_;refine Go.inBlock noJ_ok ?_;exact contT _ _ G ⟨by rw [hmore]; exact f1, hG⟩ (fun b q => .inl q) y9 f6
   | some c =>
    rw [hc] at hcx hmore
    dsimp only at hmore
    have hcl := crsC_len (c := c) (by rw [course_len hc]; have := O.nr; omega)
    have hcs := crsC_scal c
    have hgd : (some c).getD [] = c := rfl
    rw [hgd] at hcx
    have hent : entL ((k, (s : Int)), c) = ([k, (s : Int)], .agg (crsC c)) := rfl
    obtain ⟨cc, hcc⟩ : ∃ cc, crsC c = cc := ⟨_, rfl⟩
    rw [hcc] at hcx hcl hcs hent
    have hs1 : Nat.beq (AVal.agg cc).cells.length 18 = true := by show Nat.beq cc.length 18 = true; rw [hcl]; rfl
    have hs3 : ∀ l : List AVal, l.length = 18 → splice l 0 (AVal.agg cc).cells = some cc := fun l hl => splice_all (by rw [hl]; exact hcl)
    have hsa : slice? cc 0 18 = some cc := slice_all hcl
    refine Go.block noJ_ok ?_;apply gS;refine gR rfl ?_;refine gP ?_;refine gO rfl rfl (ld3 rfl f21 rfl) rfl ?_;refine gO rfl rfl (aOp_build zt102 hu102 pl102 rfl rfl) rfl ?_;refine GoR.alloc rfl rfl rfl zt102 rfl rfl fun h42 x42 f42 => ?_;have := e8.1;have := f0.1;have := f2.1;have := f21.1;have := f1.1;have := f6.1;replace f0 := f0.ext x42;replace f2 := f2.ext x42;replace f21 := f21.ext x42;replace f1 := f1.ext x42;replace f6 := f6.ext x42;replace e8 := e8.trans x42;replace y9 := y9.ext x42;have := f42.1;refine GoR.store rfl rfl rfl rfl rfl rfl f42 rfl sz102 rfl rfl rfl fun h43 u43 => ?_;replace f42 := u43.has f42;replace f0 := f0.upd u43 (by omega);replace f2 := f2.upd u43 (by omega);replace f21 := f21.upd u43 (by omega);replace f1 := f1.upd u43 (by omega);replace f6 := f6.upd u43 (by omega);replace e8 := e8.upd u43 (by omega);replace y9 := y9.upd u43 (.inr (by omega));apply gE;apply gS;refine gR rfl ?_;refine gO rfl rfl (ld68 rfl f0 rfl) rfl ?_;refine gO rfl rfl (ld102 rfl f42 rfl) rfl ?_;refine GoR.call rfl rfl (aCF aFunc79 rfl) (hcx _ e8) ?_ np;rintro v44 h44 ⟨q, x44⟩;cases q;refine ⟨_, rfl, ?_⟩;replace f42 := f42.ext x44;replace f0 := f0.ext x44;replace f2 := f2.ext x44;replace f21 := f21.ext x44;replace f1 := f1.ext x44;replace f6 := f6.ext x44;replace e8 := e8.trans x44;replace y9 := y9.ext x44;iterate 3 refine gP ?_
    refine GoR.alloc rfl rfl rfl zt99 rfl rfl fun h45 x45 f45 => ?_;have := e8.1;have := f42.1;have := f0.1;have := f2.1;have := f21.1;have := f1.1;have := f6.1;replace f42 := f42.ext x45;replace f0 := f0.ext x45;replace f2 := f2.ext x45;replace f21 := f21.ext x45;replace f1 := f1.ext x45;replace f6 := f6.ext x45;replace e8 := e8.trans x45;replace y9 := y9.ext x45;have := f45.1;refine GoR.store rfl rfl rfl rfl rfl rfl f45 rfl sz99 hs1 hcs (hs3 _ rfl) fun h46 u46 => ?_;replace f45 := u46.has f45;replace f42 := f42.upd u46 (by omega);replace f0 := f0.upd u46 (by omega);replace f2 := f2.upd u46 (by omega);replace f21 := f21.upd u46 (by omega);replace f1 := f1.upd u46 (by omega);replace f6 := f6.upd u46 (by omega);replace e8 := e8.upd u46 (by omega);replace y9 := y9.upd u46 (.inr (by omega));refine gP ?_;apply gE;apply gS;refine gR rfl ?_;refine gP ?_;apply gE;refine gC (b := true) rfl ?_;refine gR rfl ?_;refine gO rfl rfl (ld72 rfl f2 rfl) rfl ?_;refine gO rfl rfl (ld102 rfl f42 rfl) rfl ?_;refine gO rfl rfl (ld99 rfl (by assumption) hsa) rfl ?_;refine GoR.mapNewN rfl rfl key102 Try.underlying72 rfl rfl (key := [k, (s : Int)]) rfl rfl rfl (by rw [List.length_map]; exact f1) ?_ fun h47 u47 => ?_
    ·intro x hx
     obtain ⟨y, hy, rfl⟩ := List.mem_map.1 hx
     refine ⟨rfl, fun q => hnew y hy ?_⟩
     have q' : [k, (s : Int)] = [y.1.1, y.1.2] := q
     injection q' with q1' q2'
     injection q2' with q3'
     exact Prod.ext q1'.symm q3'.symm
    have hK2 : (C.learn (sets.take i) ++ C.learnL (KS.take j) s).map entL ++ [([k, (s : Int)], .agg cc)] = (C.learn (sets.take i) ++ C.learnL (KS.take (j + 1)) s).map entL := by
     rw [hmore, ← List.append_assoc, List.map_append (l₂ := [((k, (s : Int)), c)]), ← hent]
     rfl
    rw [hK2, List.length_map] at u47;replace f6 := f6.upd u47 (by omega);replace f1 := u47.has f1
    have y9' := y9.upd u47 (.inl (.inl hG0))
    clear y9 f0 f2 f21 f42 f45 e8;apply gE;refine Go.inBlock noJ_ok ?_;exact contT _ _ G ⟨f1, hG⟩ (fun b q => .inl q) y9' f6
  ·rintro d h30 G x30 hGs hnd2 hd hdd ⟨g1, hG⟩;rw [List.length_map, List.take_length, ← hKS, ← hlm] at g1
   have hx30 := x30.1
   have e30 := eF x30
   have CL3 := CL2.keep x30.1 fun b b1 b2 _ => x30.2 b b2 (by omega)
   have CL4 := CL3.cons (d := d) (by omega) hdd (fun q => by have := (CL2.hs d q).2.1; omega)
   replace f0 := f0.extF x30 (by omega);replace f2 := f2.extF x30 (by omega);clear e0 e9 f1 f21
   have hw0 := e30.1
   iterate 2 refine Go.inBlock noJ_ok ?_
   refine gR rfl ?_;refine gO rfl rfl (aA rfl rfl) rfl ?_;refine gP ?_;apply gE;exact again (m - 1) (i + 1) ((d :: bs).map .collected) _ _ (by omega) ⟨rfl, rfl, rfl, rfl, rfl, trivial⟩ ⟨by omega, e30, by omega, f0, f2, g1, d :: bs, rfl, CL4⟩
  ·rintro c d h30 G x30 hGs hnd2 hd hdd q;exact q.elim
 ·have hii : i = sets.length := by omega
  subst hii;rw [List.take_length] at f1;clear again;apply gS;refine gR rfl ?_;refine gO rfl rfl (kLF rfl rfl) rfl ?_;apply gE;apply gS;refine gC (b := false) rfl ?_;refine gD ?_;apply gS;refine gR rfl ?_;refine gO rfl rfl (ld72 rfl f2 rfl) rfl ?_;refine gP ?_;apply gE;exact Go.retCs CL.nd (fun b q => (CL.hs b q).2) fun h' n1 n2 => ⟨aResult_of Try.func63 rfl rfl, h0.next, rfl, ⟨by have := e0.1; omega, fun b hb => by rw [n2 b (fun q => by have := (CL.hs b q).1; omega), e0.2 b hb]⟩, by omega, f1.keep (by omega) (n2 _ (fun q => by have := (CL.hs _ q).1; omega))⟩
end Go.Proofs.Yteibheeleeengaa

namespace Go.Proofs.Yteibheeleeengaa
open Go Go.AbsE
set_option linter.unusedSimpArgs false
set_option linter.unusedVariables false
def EvV.rel : EvV → Int → Int → Prop
 | .look s, x, y => y = x ∧ s.1 ≤ x ∧ x ≤ s.2
 | .flow r k m, x, y => ∃ w, r.1 ≤ w ∧ w ≤ r.2 ∧ y = heldV m (x + w - k)
def evsR : List EvV → Int → Int → Prop
 | [], x, y => y = x
 | e :: es, x, y => ∃ z, e.rel x z ∧ evsR es z y
def chainR : List (List EvV) → Int → List Int → Prop
 | [], x, Ps => Ps = []
 | es :: L, x, Ps => ∃ y Ps', Ps = x :: Ps' ∧ evsR es x y ∧ chainR L y Ps'
def InS (S : Int × Int) (x : Int) : Prop := S.1 ≤ x ∧ x ≤ S.2
def EvV.good (M : Int) : EvV → Prop
 | .look s => True
 | .flow r k m => r.1 ≤ r.2 ∧ m = M
theorem held_in {m x : Int} (hm : 0 ≤ m) : 0 ≤ heldV m x ∧ heldV m x ≤ m := by unfold heldV; omega
theorem rel_in {M : Int} (hM : 0 ≤ M) {e : EvV} (g : e.good M) {x y : Int} (hx : 0 ≤ x ∧ x ≤ M) (h : e.rel x y) : 0 ≤ y ∧ y ≤ M := by
 cases e with
 | look s => obtain ⟨rfl, _⟩ := h; exact hx
 | flow r k m =>
  obtain ⟨w, _, _, rfl⟩ := h
  obtain ⟨_, rfl⟩ := g
  exact held_in hM
theorem after_is {M : Int} (hM : 0 ≤ M) {e : EvV} (g : e.good M) {S : Int × Int} (hS : S.1 ≤ S.2) (hS2 : 0 ≤ S.1 ∧ S.2 ≤ M) (y : Int) : InS (e.after S) y ↔ ∃ x, InS S x ∧ e.rel x y := by
 cases e with
 | look s =>
  unfold InS EvV.after meetV EvV.rel
  constructor
  ·intro h
   exact ⟨y, by dsimp only at h; omega, rfl, by dsimp only at h; omega, by dsimp only at h; omega⟩
  ·rintro ⟨x, h1, rfl, h2, h3⟩
   dsimp only
   omega
 | flow r k m =>
  obtain ⟨hr, rfl⟩ := g
  unfold InS EvV.after EvV.rel heldV
  dsimp only
  constructor
  ·intro h
   by_cases q : S.1 + r.1 - k ≤ y
   ·by_cases q2 : y ≤ S.2 + r.1 - k
    ·exact ⟨y - r.1 + k, by omega, r.1, by omega, by omega, by omega⟩
    ·by_cases q3 : y ≤ S.2 + r.2 - k
     ·exact ⟨S.2, by omega, y - S.2 + k, by omega, by omega, by omega⟩
     ·exact ⟨S.2, by omega, r.2, by omega, by omega, by omega⟩
   ·exact ⟨S.1, by omega, r.1, by omega, by omega, by omega⟩
  ·rintro ⟨x, h1, w, h2, h3, rfl⟩
   omega
theorem after_in {M : Int} (hM : 0 ≤ M) {e : EvV} (g : e.good M) {S : Int × Int} (hS2 : 0 ≤ S.1 ∧ S.2 ≤ M) : 0 ≤ (e.after S).1 ∧ (e.after S).2 ≤ M := by
 cases e with
 | look s => unfold EvV.after meetV; dsimp only; omega
 | flow r k m =>
  obtain ⟨hr, rfl⟩ := g
  unfold EvV.after heldV
  dsimp only
  omega
theorem fwd1_is {M : Int} (hM : 0 ≤ M) : ∀ {es : List EvV} {S : Int × Int}, (∀ e, e ∈ es → e.good M) → S.1 ≤ S.2 → (0 ≤ S.1 ∧ S.2 ≤ M) →
  (fwd1 es S = none → ∀ x y, InS S x → ¬ evsR es x y) ∧ ∀ T, fwd1 es S = some T → T.1 ≤ T.2 ∧ (0 ≤ T.1 ∧ T.2 ≤ M) ∧ ∀ y, InS T y ↔ ∃ x, InS S x ∧ evsR es x y
 | [], S, g, h1, h2 => by
  refine ⟨fun q => (by cases q), fun T q => ?_⟩;cases q;exact ⟨h1, h2, fun y => ⟨fun h => ⟨y, h, rfl⟩, fun ⟨x, h, q⟩ => by rw [show y = x from q]; exact h⟩⟩
 | e :: es, S, g, h1, h2 => by
  rw [fwd1_cons]
  have ge := g e List.mem_cons_self
  have ha := after_is hM ge h1 h2
  by_cases q : (e.after S).1 > (e.after S).2
  ·rw [if_pos q];refine ⟨fun _ x y hx hy => ?_, fun T q => (by cases q)⟩
   obtain ⟨z, hz, _⟩ := hy
   have := (ha z).2 ⟨x, hx, hz⟩
   unfold InS at this
   omega
  ·rw [if_neg q]
   obtain ⟨i1, i2⟩ := fwd1_is hM (es := es) (S := e.after S) (fun e he => g e (List.mem_cons_of_mem _ he)) (by omega) (after_in hM ge h2)
   refine ⟨fun h x y hx hy => ?_, fun T hT => ?_⟩
   ·obtain ⟨z, hz, hzy⟩ := hy
    exact i1 h z y ((ha z).2 ⟨x, hx, hz⟩) hzy
   ·obtain ⟨j1, j2, j3⟩ := i2 T hT
    refine ⟨j1, j2, fun y => ?_⟩;rw [j3]
    constructor
    ·rintro ⟨z, hz, hzy⟩
     obtain ⟨x, hx, hxz⟩ := (ha z).1 hz
     exact ⟨x, hx, z, hxz, hzy⟩
    ·rintro ⟨x, hx, z, hxz, hzy⟩;exact ⟨z, (ha z).2 ⟨x, hx, hxz⟩, hzy⟩
theorem before_is {M : Int} (hM : 0 ≤ M) {e : EvV} (g : e.good M) {U : Int × Int} (hU : ∃ u, InS U u ∧ 0 ≤ u ∧ u ≤ M) {x : Int} (hx : 0 ≤ x ∧ x ≤ M) : InS (e.before U) x ↔ ∃ y, InS U y ∧ e.rel x y := by
 obtain ⟨u, hu, hu2⟩ := hU
 cases e with
 | look s =>
  unfold InS EvV.before meetV EvV.rel at *
  constructor
  ·intro h
   exact ⟨x, by dsimp only at h; omega, rfl, by dsimp only at h; omega, by dsimp only at h; omega⟩
  ·rintro ⟨y, h1, rfl, h2, h3⟩
   dsimp only
   omega
 | flow r k m =>
  obtain ⟨hr, rfl⟩ := g
  unfold InS EvV.before EvV.rel heldV at *
  dsimp only
  constructor
  ·intro h
   by_cases q1 : U.1 > 0
   ·rw [if_pos q1] at h
    by_cases q2 : x + r.1 - k ≥ U.1
    ·refine ⟨min (max (x + r.1 - k) 0) m, ?_, r.1, by omega, by omega, rfl⟩
     by_cases q3 : U.2 < m
     ·rw [if_pos q3] at h; omega
     ·rw [if_neg q3] at h; omega
    ·exact ⟨min (max (x + (U.1 - x + k) - k) 0) m, by omega, U.1 - x + k, by omega, by omega, rfl⟩
   ·rw [if_neg q1] at h;refine ⟨min (max (x + r.1 - k) 0) m, ?_, r.1, by omega, by omega, rfl⟩
    by_cases q3 : U.2 < m
    ·rw [if_pos q3] at h; omega
    ·rw [if_neg q3] at h; omega
  ·rintro ⟨y, h1, w, h2, h3, rfl⟩
   constructor
   ·split <;> omega
   ·split <;> omega
theorem bwd1_is {M : Int} (hM : 0 ≤ M) : ∀ {es : List EvV} {T : Int × Int}, (∀ e, e ∈ es → e.good M) → (∃ x y, (0 ≤ x ∧ x ≤ M) ∧ InS T y ∧ evsR es x y) → ∀ {x : Int}, (0 ≤ x ∧ x ≤ M) → (InS (bwd1 es T) x ↔ ∃ y, InS T y ∧ evsR es x y)
 | [], T, g, h, x, hx => ⟨fun h => ⟨x, h, rfl⟩, fun ⟨y, h, q⟩ => by rw [← show y = x from q]; exact h⟩
 | e :: es, T, g, ⟨x0, y0, hx0, hy0, z0, hz0, hzy0⟩, x, hx => by
  have ge := g e List.mem_cons_self
  have gs := fun e he => g e (List.mem_cons_of_mem _ he)
  have hz0' := rel_in hM ge hx0 hz0
  have ih := fun {x} hx => bwd1_is hM (es := es) (T := T) gs ⟨z0, y0, hz0', hy0, hzy0⟩ (x := x) hx
  show InS (e.before (bwd1 es T)) x ↔ _
  rw [before_is hM ge ⟨z0, (ih hz0').2 ⟨y0, hy0, hzy0⟩, hz0'⟩ hx]
  constructor
  ·rintro ⟨z, hz, hxz⟩
   obtain ⟨y, hy, hzy⟩ := (ih (rel_in hM ge hx hxz)).1 hz
   exact ⟨y, hy, z, hxz, hzy⟩
  ·rintro ⟨y, hy, z, hxz, hzy⟩;exact ⟨z, (ih (rel_in hM ge hx hxz)).2 ⟨y, hy, hzy⟩, hxz⟩
theorem chain_len : ∀ {L : List (List EvV)} {x : Int} {Ps : List Int}, chainR L x Ps → Ps.length = L.length
 | [], x, Ps, h => by rw [show Ps = [] from h]; rfl
 | es :: L, x, Ps, ⟨y, Ps', h1, _, h2⟩ => by rw [h1, List.length_cons, List.length_cons, chain_len h2]
theorem course_is {M : Int} (hM : 0 ≤ M) : ∀ {L : List (List EvV)} {S : Int × Int}, (∀ es, es ∈ L → ∀ e, e ∈ es → e.good M) → S.1 ≤ S.2 → (0 ≤ S.1 ∧ S.2 ≤ M) →
  (fwdA L S = none → ∀ x Ps, InS S x → ¬ chainR L x Ps) ∧ ∀ A z, fwdA L S = some (A, z) →
   (∃ x Ps, InS S x ∧ chainR L x Ps) ∧ (∀ x, InS S x → (InS (bwdA L A z).2 x ↔ ∃ Ps, chainR L x Ps)) ∧ (∀ x, InS (bwdA L A z).2 x → InS S x) ∧
   ∀ (d : Nat) p, (bwdA L A z).1[d]? = some p → ∀ v, InS p v ↔ ∃ x Ps, InS S x ∧ chainR L x Ps ∧ Ps[d]? = some v
 | [], S, g, h1, h2 => by
  refine ⟨fun q => (by cases q), fun A z q => ?_⟩;cases q;exact ⟨⟨S.1, [], ⟨Int.le_refl _, h1⟩, rfl⟩, fun x hx => ⟨fun _ => ⟨[], rfl⟩, fun _ => hx⟩, fun x hx => hx, fun d p q => (by cases q)⟩
 | es :: L, S, g, h1, h2 => by
  have ge := g es List.mem_cons_self
  have gs := fun es' he => g es' (List.mem_cons_of_mem _ he)
  obtain ⟨f1, f2⟩ := fwd1_is hM ge h1 h2
  rw [fwdA_cons]
  cases hf : fwd1 es S with
  | none =>
   refine ⟨fun _ x Ps hx hc => ?_, fun A z q => (by cases q)⟩
   obtain ⟨y, _, _, hy, _⟩ := hc
   exact f1 hf x y hx hy
  | some T =>
   obtain ⟨t1, t2, t3⟩ := f2 T hf
   obtain ⟨i1, i2⟩ := course_is hM (L := L) (S := T) gs t1 t2
   dsimp only
   cases hA : fwdA L T with
   | none =>
    refine ⟨fun _ x Ps hx hc => ?_, fun A z q => (by cases q)⟩
    obtain ⟨y, Ps', _, hy, hc⟩ := hc
    exact i1 hA y Ps' ((t3 y).2 ⟨x, hx, hy⟩) hc
   | some p =>
    obtain ⟨A', z'⟩ := p
    refine ⟨fun q => (by cases q), fun A z q => ?_⟩;cases q
    obtain ⟨j1, j2, j3, j4⟩ := i2 A' z' hA
    obtain ⟨Z, hZ⟩ : ∃ Z, bwdA L A' z' = Z := ⟨_, rfl⟩
    have hbw : bwdA (es :: L) (S :: A') z' = (meetV (bwd1 es Z.2) S :: Z.1, meetV (bwd1 es Z.2) S) := by rw [← hZ]; rfl
    rw [hbw];rw [hZ] at j2 j3 j4
    have hex : ∃ x y, (0 ≤ x ∧ x ≤ M) ∧ InS Z.2 y ∧ evsR es x y := by
     obtain ⟨y, Ps, hy, hc⟩ := j1
     obtain ⟨x, hx, hxy⟩ := (t3 y).1 hy
     exact ⟨x, y, by unfold InS at hx; omega, (j2 y hy).2 ⟨Ps, hc⟩, hxy⟩
    have hhd : ∀ x, InS (meetV (bwd1 es Z.2) S) x ↔ InS S x ∧ ∃ Ps, chainR (es :: L) x Ps := by
     intro x
     have hme : InS (meetV (bwd1 es Z.2) S) x ↔ InS (bwd1 es Z.2) x ∧ InS S x := by unfold InS meetV; dsimp only; omega
     rw [hme]
     constructor
     ·rintro ⟨q1, q2⟩;refine ⟨q2, ?_⟩
      obtain ⟨y, hy, hxy⟩ := (bwd1_is hM ge hex (by unfold InS at q2; omega)).1 q1
      obtain ⟨Ps, hc⟩ := (j2 y (j3 y hy)).1 hy
      exact ⟨x :: Ps, y, Ps, rfl, hxy, hc⟩
     ·rintro ⟨q2, Ps, y, Ps', _, hxy, hc⟩;exact ⟨(bwd1_is hM ge hex (by unfold InS at q2; omega)).2 ⟨y, (j2 y ((t3 y).2 ⟨x, q2, hxy⟩)).2 ⟨Ps', hc⟩, hxy⟩, q2⟩
    refine ⟨?_, fun x hx => ?_, fun x hx => ((hhd x).1 hx).1, fun d p hp v => ?_⟩
    ·obtain ⟨y, Ps, hy, hc⟩ := j1
     obtain ⟨x, hx, hxy⟩ := (t3 y).1 hy
     exact ⟨x, x :: Ps, hx, y, Ps, rfl, hxy, hc⟩
    ·rw [hhd];exact ⟨fun q => q.2, fun q => ⟨hx, q⟩⟩
    ·cases d with
     | zero =>
      cases hp;rw [hhd]
      constructor
      ·rintro ⟨hx, Ps, hc⟩
       obtain ⟨y, Ps', h3, h4⟩ := hc
       exact ⟨v, Ps, hx, ⟨y, Ps', h3, h4⟩, by rw [h3]; rfl⟩
      ·rintro ⟨x, Ps, hx, hc, hv⟩
       have hc' := hc
       obtain ⟨y, Ps', rfl, h4⟩ := hc'
       cases hv;exact ⟨hx, _, hc⟩
     | succ d =>
      have hp' : Z.1[d]? = some p := hp
      rw [j4 d p hp' v]
      constructor
      ·rintro ⟨y, Ps, hy, hc, hv⟩
       obtain ⟨x, hx, hxy⟩ := (t3 y).1 hy
       exact ⟨x, x :: Ps, hx, ⟨y, Ps, rfl, hxy, hc⟩, hv⟩
      ·rintro ⟨x, Ps, hx, ⟨y, Ps', rfl, hxy, hc⟩, hv⟩;exact ⟨y, Ps', (t3 y).2 ⟨x, hx, hxy⟩, hc, hv⟩
end Go.Proofs.Yteibheeleeengaa

namespace Go.Proofs.Yteibheeleeengaa
open Go Go.AbsE
set_option linter.unusedSimpArgs false
set_option linter.unusedVariables false
structure CutV.Path (C : CutV) (k : Int) (L : List LV) (P : Nat → Int) : Prop where
 p0 : C.dl ≤ P 0 ∧ P 0 ≤ C.dh
 next : ∀ (d : Nat) r, C.rs[d]? = some r → ∃ w, r.1 ≤ w ∧ w ≤ r.2 ∧ P (d + 1) = heldV C.most (P d + w - k)
 look : ∀ l, l ∈ L → l.lo ≤ P l.day.toNat ∧ P l.day.toNat ≤ l.hi
theorem evsR_app : ∀ {a b : List EvV} {x y : Int}, evsR (a ++ b) x y ↔ ∃ z, evsR a x z ∧ evsR b z y
 | [], b, x, y => ⟨fun h => ⟨x, rfl, h⟩, fun ⟨z, h1, h2⟩ => by rw [show z = x from h1] at h2; exact h2⟩
 | e :: a, b, x, y => by
  constructor
  ·rintro ⟨z, hz, h⟩
   obtain ⟨u, h1, h2⟩ := evsR_app.1 h
   exact ⟨u, ⟨z, hz, h1⟩, h2⟩
  ·rintro ⟨u, ⟨z, hz, h1⟩, h2⟩;exact ⟨z, hz, evsR_app.2 ⟨u, h1, h2⟩⟩
theorem evsR_looks : ∀ {L : List LV} {x y : Int}, evsR (L.map fun l => EvV.look (l.lo, l.hi)) x y ↔ y = x ∧ ∀ l, l ∈ L → l.lo ≤ x ∧ x ≤ l.hi
 | [], x, y => ⟨fun h => ⟨h, fun _ q => by cases q⟩, fun h => h.1⟩
 | l :: L, x, y => by
  constructor
  ·rintro ⟨z, ⟨rfl, h1, h2⟩, h⟩
   obtain ⟨rfl, h3⟩ := evsR_looks.1 h
   exact ⟨rfl, fun l' hl => by
    rcases List.mem_cons.1 hl with rfl | hl
    ·exact ⟨h1, h2⟩
    ·exact h3 l' hl⟩
  ·rintro ⟨rfl, h⟩;exact ⟨y, ⟨rfl, (h l List.mem_cons_self).1, (h l List.mem_cons_self).2⟩, evsR_looks.2 ⟨rfl, fun l' hl => h l' (List.mem_cons_of_mem _ hl)⟩⟩
theorem evs_day {C : CutV} {k : Int} {L : List LV} {d : Nat} {x y : Int} : evsR (lookE L d ++ C.flowE k C.rs.length d) x y ↔ (∀ l, l ∈ L → l.day = (d : Int) → l.lo ≤ x ∧ x ≤ l.hi) ∧ (match C.rs[d]? with | some r => ∃ w, r.1 ≤ w ∧ w ≤ r.2 ∧ y = heldV C.most (x + w - k) | none => y = x) := by
 rw [evsR_app]
 unfold lookE
 have hl : ∀ z, evsR ((L.filter fun l => decide (l.day = (d : Int))).map fun l => EvV.look (l.lo, l.hi)) x z ↔ z = x ∧ ∀ l, l ∈ L → l.day = (d : Int) → l.lo ≤ x ∧ x ≤ l.hi := fun z => by
  rw [evsR_looks]
  constructor
  ·rintro ⟨rfl, h⟩;exact ⟨rfl, fun l h1 h2 => h l (List.mem_filter.2 ⟨h1, by simpa using h2⟩)⟩
  ·rintro ⟨rfl, h⟩;exact ⟨rfl, fun l h1 => h l (List.mem_filter.1 h1).1 (by simpa using (List.mem_filter.1 h1).2)⟩
 have hf : ∀ z, evsR (C.flowE k C.rs.length d) z y ↔ (match C.rs[d]? with | some r => ∃ w, r.1 ≤ w ∧ w ≤ r.2 ∧ y = heldV C.most (z + w - k) | none => y = z) := fun z => by
  unfold CutV.flowE
  by_cases q : d < C.rs.length
  ·rw [if_pos q, List.getElem?_eq_getElem q]
   constructor
   ·rintro ⟨u, ⟨w, h1, h2, rfl⟩, h3⟩;exact ⟨w, h1, h2, h3⟩
   ·rintro ⟨w, h1, h2, h3⟩;exact ⟨_, ⟨w, h1, h2, rfl⟩, h3⟩
  ·rw [if_neg q, List.getElem?_eq_none (by omega)];exact Iff.rfl
 constructor
 ·rintro ⟨z, h1, h2⟩
  obtain ⟨rfl, h3⟩ := (hl z).1 h1
  exact ⟨h3, (hf z).1 h2⟩
 ·rintro ⟨h1, h2⟩;exact ⟨x, (hl x).2 ⟨rfl, h1⟩, (hf x).2 h2⟩
theorem chain_to {ev : Nat → List EvV} : ∀ {m d : Nat} {x : Int} {Ps : List Int}, chainR ((List.range' d m).map ev) x Ps → ∃ P : Nat → Int, (0 < m → P d = x) ∧ (∀ i, i < m → evsR (ev (d + i)) (P (d + i)) (P (d + i + 1))) ∧ ∀ i, i < m → Ps[i]? = some (P (d + i))
 | 0, d, x, Ps, h => ⟨fun _ => 0, fun q => by omega, fun i q => by omega, fun i q => by omega⟩
 | m + 1, d, x, Ps, h => by
  rw [List.range'_succ] at h
  obtain ⟨y, Ps', rfl, h1, h2⟩ := h
  obtain ⟨P, q0, q1, q2⟩ := chain_to (m := m) h2
  have hy : 0 < m ∨ m = 0 := by omega
  refine ⟨fun i => if i = d then x else if i = d + 1 then y else P i, fun _ => by dsimp only; rw [if_pos rfl], fun i hi => ?_, fun i hi => ?_⟩
  ·dsimp only
   cases i with
   | zero => rw [if_pos (show d + 0 = d from rfl), if_neg (show ¬ d + 0 + 1 = d by omega), if_pos (show d + 0 + 1 = d + 1 from rfl)]; exact h1
   | succ i =>
    have := q1 i (by omega)
    rw [if_neg (by omega)];rw [show d + (i + 1) = d + 1 + i by omega, if_neg (show ¬ d + 1 + i + 1 = d by omega), if_neg (show ¬ d + 1 + i + 1 = d + 1 by omega)]
    by_cases qi : d + 1 + i = d + 1
    ·rw [if_pos qi]
     have h0 : i = 0 := by omega
     subst h0
     rw [← q0 (by omega)]
     exact this
    ·rw [if_neg qi];exact this
  ·dsimp only
   cases i with
   | zero => rw [if_pos (show d + 0 = d from rfl)]; rfl
   | succ i =>
    rw [if_neg (by omega), List.getElem?_cons_succ, q2 i (by omega), show d + (i + 1) = d + 1 + i by omega]
    by_cases qi : d + 1 + i = d + 1
    ·rw [if_pos qi]
     have h0 : i = 0 := by omega
     subst h0;exact congrArg some (q0 (by omega))
    ·rw [if_neg qi]
theorem chain_of {ev : Nat → List EvV} {P : Nat → Int} : ∀ {m d : Nat}, (∀ i, i < m → evsR (ev (d + i)) (P (d + i)) (P (d + i + 1))) → chainR ((List.range' d m).map ev) (P d) ((List.range' d m).map P)
 | 0, d, h => rfl
 | m + 1, d, h => by
  rw [List.range'_succ];refine ⟨P (d + 1), (List.range' (d + 1) m).map P, rfl, h 0 (by omega), chain_of fun i hi => ?_⟩
  have := h (i + 1) (by omega)
  rw [show d + (i + 1) = d + 1 + i by omega] at this;exact this
theorem days_good {C : CutV} (O : C.Ok) {k : Int} {s : Nat} : ∀ es, es ∈ C.days k s → ∀ e, e ∈ es → e.good C.most := by
 intro es h e he
 unfold CutV.days at h
 obtain ⟨d, hd, rfl⟩ := List.mem_map.1 h
 unfold CutV.evs at he
 rcases List.mem_append.1 he with he | he
 ·obtain ⟨x, hx, rfl⟩ := List.mem_map.1 he
  trivial
 ·cases q : C.rs[d]? with
  | none => rw [q] at he; cases he
  | some r =>
   rw [q] at he
   cases List.mem_singleton.1 he
   exact ⟨(O.r r (List.mem_of_getElem? q)).1, rfl⟩
theorem chain_path {C : CutV} (O : C.Ok) {k : Int} {s : Nat} (d : Nat) (hd : d < C.rs.length + 1) (v : Int) : (∃ x Ps, InS (C.dl, C.dh) x ∧ chainR (C.days k s) x Ps ∧ Ps[d]? = some v) ↔ ∃ P, C.Path k (onlyV s 0 C.ls) P ∧ P d = v := by
 have hdays : C.days k s = (List.range' 0 (C.rs.length + 1)).map fun d => lookE (onlyV s 0 C.ls) d ++ C.flowE k C.rs.length d := by
  rw [← day_all, ← List.range_eq_range']
  rfl
 rw [hdays]
 constructor
 ·rintro ⟨x, Ps, hx, hc, hv⟩
  obtain ⟨P, h0, h1, h2⟩ := chain_to hc
  have hP := h2 d hd
  rw [hv, Nat.zero_add] at hP;refine ⟨P, ⟨?_, fun d r hr => ?_, fun l hl => ?_⟩, (Option.some.inj hP).symm⟩
  ·rw [h0 (by omega)]; exact hx
  ·have hdl := (List.getElem?_eq_some_iff.1 hr).1
   have := h1 d (by omega)
   rw [Nat.zero_add] at this
   have := (evs_day.1 this).2
   rw [hr] at this;exact this
  ·have hlo := (O.l l (only_mem hl)).1
   have := h1 l.day.toNat (by omega)
   rw [Nat.zero_add] at this;exact (evs_day.1 this).1 l hl (by omega)
 ·rintro ⟨P, ⟨h0, h1, h2⟩, hv⟩
  obtain ⟨Q, hQ⟩ : ∃ Q : Nat → Int, Q = fun i => if i ≤ C.rs.length then P i else P C.rs.length := ⟨_, rfl⟩
  have hQ0 : ∀ i, i ≤ C.rs.length → Q i = P i := fun i hi => by rw [hQ]; dsimp only; rw [if_pos hi]
  refine ⟨Q 0, (List.range' 0 (C.rs.length + 1)).map Q, by rw [hQ0 0 (by omega)]; exact h0, chain_of fun i hi => ?_, ?_⟩
  ·rw [Nat.zero_add, evs_day, hQ0 i (by omega)];refine ⟨fun l hl hld => ?_, ?_⟩
   ·have := h2 l hl
    rw [hld] at this;exact this
   ·by_cases q : i < C.rs.length
    ·rw [List.getElem?_eq_getElem q, hQ0 (i + 1) (by omega)];exact h1 i _ (List.getElem?_eq_getElem q)
    ·have hin : i = C.rs.length := by omega
     subst hin;rw [List.getElem?_eq_none (by omega)]
     show Q (C.rs.length + 1) = P C.rs.length
     rw [hQ]
     dsimp only
     rw [if_neg (by omega)]
  ·rw [List.getElem?_map, List.getElem?_range' hd, Option.map_some, Nat.zero_add, Nat.one_mul, hQ0 d (by omega), hv]
theorem course_none {C : CutV} (O : C.Ok) {k : Int} {s : Nat} (h : C.course k s = none) (P : Nat → Int) : ¬ C.Path k (onlyV s 0 C.ls) P := by
 intro hP
 have hd := O.d
 have hm := O.m
 obtain ⟨x, Ps, hx, hc, _⟩ := (chain_path O 0 (by omega) (P 0)).2 ⟨P, hP, rfl⟩
 have := (course_is (M := C.most) (by omega) (L := C.days k s) (S := (C.dl, C.dh)) (days_good O) hd.1 ⟨hd.2.1, hd.2.2⟩).1
 refine this ?_ x Ps hx hc
 unfold CutV.course at h
 cases q : fwdA (C.days k s) (C.dl, C.dh) with
 | none => rfl
 | some p => rw [q] at h; cases h
theorem course_some {C : CutV} (O : C.Ok) {k : Int} {s : Nat} {c : List (Int × Int)} (h : C.course k s = some c) : (∃ P, C.Path k (onlyV s 0 C.ls) P) ∧ ∀ (d : Nat) p, c[d]? = some p → ∀ v, InS p v ↔ ∃ P, C.Path k (onlyV s 0 C.ls) P ∧ P d = v := by
 have hd := O.d
 have hm := O.m
 have hl := course_len h
 unfold CutV.course at h
 cases q : fwdA (C.days k s) (C.dl, C.dh) with
 | none => rw [q] at h; cases h
 | some p =>
  obtain ⟨A, z⟩ := p
  rw [q] at h;cases h
  obtain ⟨h1, _, _, h4⟩ := (course_is (M := C.most) (by omega) (L := C.days k s) (S := (C.dl, C.dh)) (days_good O) hd.1 ⟨hd.2.1, hd.2.2⟩).2 A z q
  refine ⟨?_, fun d p hp v => ?_⟩
  ·obtain ⟨x, Ps, hx, hc⟩ := h1
   have hlen := chain_len hc
   have hdl : (C.days k s).length = C.rs.length + 1 := by unfold CutV.days; simp
   obtain ⟨P, hP, _⟩ := (chain_path O 0 (by omega) (Ps[0]'(by omega))).1 ⟨x, Ps, hx, hc, by simp⟩
   exact ⟨P, hP⟩
  ·rw [h4 d p hp v];exact chain_path O d (by have := (List.getElem?_eq_some_iff.1 hp).1; omega) v
theorem CutV.Path.in {C : CutV} (O : C.Ok) {k : Int} {L : List LV} {P : Nat → Int} (h : C.Path k L P) : ∀ {d : Nat}, d ≤ C.rs.length → 0 ≤ P d ∧ P d ≤ C.most
 | 0, _ => by have := h.p0; have := O.d; omega
 | d + 1, hd => by
  obtain ⟨w, _, _, hw⟩ := h.next d _ (List.getElem?_eq_getElem (show d < C.rs.length by omega))
  rw [hw];exact held_in (by have := O.m; omega)
theorem course_in {C : CutV} (O : C.Ok) {k : Int} {s : Nat} {c : List (Int × Int)} (h : C.course k s = some c) : ∀ p, p ∈ c → 0 ≤ p.1 ∧ p.1 ≤ p.2 ∧ p.2 ≤ C.most := by
 intro p hp
 obtain ⟨d, hd⟩ := List.mem_iff_getElem?.1 hp
 have hlt := (List.getElem?_eq_some_iff.1 hd).1
 rw [course_len h] at hlt
 obtain ⟨⟨P0, hP0⟩, hs⟩ := course_some O h
 have hx := (hs d p hd (P0 d)).2 ⟨P0, hP0, rfl⟩
 unfold InS at hx
 obtain ⟨P1, h1, e1⟩ := (hs d p hd p.1).1 ⟨Int.le_refl _, by omega⟩
 obtain ⟨P2, h2, e2⟩ := (hs d p hd p.2).1 ⟨by omega, Int.le_refl _⟩
 have i1 := h1.in O (d := d) (by omega)
 have i2 := h2.in O (d := d) (by omega)
 rw [e1] at i1;rw [e2] at i2
 omega
end Go.Proofs.Yteibheeleeengaa

set_option linter.unusedSimpArgs false
namespace Go.AbsE
open Go
section
variable {P : Program} {t : Tr AVal} {h : AH} {dst : Option Tmp} {ty tt : TypeId} {pos : String} {after : Array Edge} {guard : Option (Nat × Bool)} {x y : Operand}
theorem u64_small {n : Nat} (hn : n < 18446744073709551616) : IntKind.u64.wrap (n : Nat) = n := by
 have h1 : IntKind.u64.wrap (n : Nat) = (n : Int) % 18446744073709551616 := by rfl
 rw [h1]
 omega
theorem aOp_binU {op : BinOp} {ty2 : TypeId} {a b : Int} {k : IntKind} {r : AVal} (hx : ev t x = some (.int .u64 a)) (hy : ev t y = some (.int k b)) (hv : (match pureRun P (binOp op ty (.int .u64 a) (.int k b)) with | some v => absV v | none => none) = some r) :
  aOp P t h ⟨dst, .binOp op ty x y ty2, tt, pos, after, guard⟩ = some (.val r h) := by
 show opBin P t h op ty x y = _
 unfold opBin
 rw [hx, hy]
 dsimp only
 rw [show aBinOp P op ty (isConstO x || isConstO y) (.int .u64 a) (.int k b) = some r from hv]
 rfl
theorem aOp_andU {ty2 : TypeId} {a b r : Nat} (hx : ev t x = some (.int .u64 (a : Nat))) (hy : ev t y = some (.int .u64 (b : Nat))) (ha : a < 18446744073709551616) (hb : b < 18446744073709551616) (hr : a &&& b = r) :
  aOp P t h ⟨dst, .binOp .and ty x y ty2, tt, pos, after, guard⟩ = some (.val (.int .u64 (r : Nat)) h) := by
 refine aOp_binU hx hy ?_
 have : pureRun P (binOp .and ty (.int .u64 (a : Nat)) (.int .u64 (b : Nat))) = some (.int .u64 (r : Nat)) := by
  show pureRun P (if IntKind.u64 ≠ IntKind.u64 then stuck "BinOp: operands of different kinds" else Op.intBits .and .u64 (a : Nat) (b : Nat)) = _
  rw [if_neg (fun h => h rfl)]
  show some (Value.int .u64 (IntKind.u64.wrap ((BitVec.ofInt 64 (a : Nat) &&& BitVec.ofInt 64 (b : Nat)).toNat : Int))) = _
  have h1 : (BitVec.ofInt 64 (a : Nat) &&& BitVec.ofInt 64 (b : Nat)).toNat = r := by
   rw [BitVec.ofInt_natCast, BitVec.ofInt_natCast, BitVec.toNat_and, BitVec.toNat_ofNat, BitVec.toNat_ofNat, Nat.mod_eq_of_lt (by omega), Nat.mod_eq_of_lt (by omega)]
   exact hr
  have h2 : r ≤ a := by rw [← hr]; exact Nat.and_le_left
  rw [h1, u64_small (by omega)]
 rw [this]
 rfl
theorem aOp_addU {ty2 : TypeId} {a b r : Nat} (hx : ev t x = some (.int .u64 (a : Nat))) (hy : ev t y = some (.int .u64 (b : Nat))) (hb : a + b < 18446744073709551616) (hr : a + b = r) :
  aOp P t h ⟨dst, .binOp .add ty x y ty2, tt, pos, after, guard⟩ = some (.val (.int .u64 (r : Nat)) h) := by
 refine aOp_binU hx hy ?_
 have : pureRun P (binOp .add ty (.int .u64 (a : Nat)) (.int .u64 (b : Nat))) = some (.int .u64 (r : Nat)) := by
  show some (Value.int .u64 (IntKind.u64.wrap ((a : Int) + (b : Int)))) = _
  have : (a : Int) + (b : Int) = ((a + b : Nat) : Int) := by omega
  rw [this, u64_small hb, hr]
 rw [this]
 rfl
theorem aOp_shrU {ty2 : TypeId} {a r i : Nat} (hx : ev t x = some (.int .u64 (a : Nat))) (hy : ev t y = some (.int .u64 (i : Nat))) (hi : i ≤ 64) (hr : a / 2 ^ i = r) : aOp P t h ⟨dst, .binOp .shr ty x y ty2, tt, pos, after, guard⟩ = some (.val (.int .u64 (r : Nat)) h) := by
 refine aOp_binU hx hy ?_
 have : pureRun P (binOp .shr ty (.int .u64 (a : Nat)) (.int .u64 (i : Nat))) = some (.int .u64 (r : Nat)) := by
  show pureRun P (Op.shift .shr .u64 (a : Nat) .u64 (i : Nat)) = _
  unfold Op.shift
  rw [if_neg (by omega)]
  have : min ((i : Int)).toNat IntKind.u64.bits = i := by
   show min ((i : Int)).toNat 64 = i
   omega
  rw [this]
  show some (Value.int .u64 ((a : Int).fdiv (2 ^ i))) = _
  rw [show (a : Int).fdiv (2 ^ i) = ((a / 2 ^ i : Nat) : Int) by rw [Int.fdiv_eq_ediv_of_nonneg _ (Int.le_of_lt (Int.pow_pos (by omega)))]; simp, hr]
 rw [this]
 rfl
theorem aOp_convUI {src dt : TypeId} {sd : TypeDesc} {w : Nat} (hx : ev t x = some (.int .u64 (w : Nat))) (hs : P.underlying src = some sd) (hu : P.underlying dt = some (.int .i64)) (hw : w < 9223372036854775808) : aOp P t h ⟨dst, .convert src dt x, tt, pos, after, guard⟩ = some (.val (.int .i64 (w : Nat)) h) := by
 show opConvert P t h src dt x = _
 unfold opConvert
 rw [hx]
 have : pureRun P (convert src dt (.int .u64 (w : Nat))) = some (.int .i64 (w : Nat)) := by
  unfold convert
  rw [pureRun_bind, pr_underlying hs]
  simp only [Option.bind_some, pureRun_bind, pr_underlying hu]
  have := i64_small hw
  cases sd <;> (show pureRun P (Conv.intToInt .i64 (w : Nat)) = _; unfold Conv.intToInt; rw [this]; rfl)
 simp only [this]
 rfl
end
end Go.AbsE

namespace Go.Proofs.Yteibheeleeengaa
open Go Go.AbsE
set_option linter.unusedSimpArgs false
set_option maxRecDepth 100000
set_option maxHeartbeats 0
set_option linter.unusedVariables false
def CutV.truths (C : CutV) : KV := C.learn [C.all]
theorem learn_fit {C : CutV} (O : C.Ok) {sets : List Nat} {x : (Int × Int) × List (Int × Int)} (h : x ∈ C.learn sets) : x.2.length = C.rs.length + 1 ∧ InSp (x.1.1, x.1.1) ∧ ∀ p, p ∈ x.2 → InSp p := by
 obtain ⟨s, hs, hx⟩ := learn_mem h
 obtain ⟨h1, h2, h3⟩ := learnL_mem hx
 have hk := mem_upto.1 h1
 have ho := O.k
 have hm := O.m
 refine ⟨course_len h3, ⟨by dsimp only; omega, by dsimp only; omega⟩, fun p hp => ?_⟩
 have := course_in O h3 p hp
 exact ⟨by omega, by omega⟩
theorem sl1 {h : AH} {b : Nat} {v : AVal} {el : TypeId} (f : Has h b (.cells .plain [v] el)) : SliceOf h 1 (.slice b 0 1 1) [[v]] :=
 SliceOf.mk' rfl rfl f rfl (fun i l hl => by
  match i, hl with
  | 0, hl => cases hl; rfl)
theorem truths_ok {C : CutV} (O : C.Ok) {r b l : AVal} {h : AH} (A : CutAt h C r b l) : Runs Try.prog 36 [.agg (C.cells r b l)] h (fun en h' => Ext h h' ∧ ((C.truths ≠ [] ∧ ∃ bm, en = .ret (.map bm) ∧ h.next ≤ bm ∧ KnownAt C.truths (C.rs.length + 1) h' bm) ∨ (C.truths = [] ∧ en = .pan (refusal 10)))) := by
 have hnl := O.nl
 have hl3 := A.ls.len
 rw [List.length_map] at hl3
 have hln := fun sl h A S => learn_ok O (r := r) (b := b) (l := l) (sl := sl) (sets := [C.all]) (by simp) (by simp) h A S
 have hsm := A.same
 obtain ⟨n, hn⟩ : ∃ n, C.ls.length = n := ⟨_, rfl⟩
 obtain ⟨w, hw⟩ : ∃ w, 2 ^ n = w := ⟨_, rfl⟩
 have hw1 : 1 ≤ w ∧ w ≤ 32 := by
  rw [← hw]
  exact ⟨Nat.one_le_two_pow, Nat.pow_le_pow_right (n := 2) (by omega) (show n ≤ 5 by omega)⟩
 have hsh : (1 : Int) * 2 ^ n = ((w : Nat) : Int) := by rw [← hw]; simp
 have hall : ((C.all : Nat) : Int) = (w : Int) - 1 := by unfold CutV.all; rw [hn, hw]; omega
 have hT : C.truths = C.learn [C.all] := rfl
 rw [hn] at hl3 hnl
 obtain ⟨T, hTT⟩ : ∃ T, C.learn [C.all] = T := ⟨_, rfl⟩
 have hfit : ∀ x, x ∈ T → x.2.length = C.rs.length + 1 ∧ InSp (x.1.1, x.1.1) ∧ ∀ p, p ∈ x.2 → InSp p := fun x hx => learn_fit O (hTT ▸ hx)
 rw [hT, hTT];rw [hTT] at hln
 have hln2 : ∀ h' bb el, CutAt h' C r b l → Has h' bb (.cells .plain [.int .i64 ((w : Int) - 1)] el) → _ := fun h' bb el A f => hln (.slice bb 0 1 1) h' A (by
  rw [← hall] at f
  exact sl1 f)
 unfold CutV.cells at hln2 hsm ⊢
 by_cases hTe : T = []
 ·have hlen0 : (List.map entL T).length = 0 := by rw [hTe]; rfl
  have hesn : (esN (List.map entL T)).length = 0 := by rw [esN_len, hlen0]
  have e0 : Ext h h := Ext.refl _
  refine Runs.intro aFunc36 rfl rfl rfl rfl fun rest => ?_;apply gS;refine gR rfl ?_;refine GoR.box rfl rfl rfl rfl rfl rfl fun h0 x0 f0 => ?_;have := e0.1;replace e0 := e0.trans x0;have := f0.1;refine gP ?_;apply gE;apply gS;refine Go.drawnE plan36_0 ?_;refine gQ rfl rfl (ld68 rfl f0 rfl) rfl ?_;refine gQ rfl rfl (fa68_5 rfl) rfl ?_;refine gQ rfl rfl (ld26 rfl f0 rfl) rfl ?_;refine gQ rfl rfl (aOp_lenSlice Try.underlying26 rfl hl3) rfl ?_;refine gQ rfl rfl (aOp_shl rfl rfl (i := n) (by omega) hsh (by omega)) rfl ?_;refine gQ rfl rfl (aS rfl rfl) rfl ?_;refine GoE.buildSl rfl rfl (ps := [(0, .int .i64 ((w : Int) - 1))]) (cs := [.int .i64 ((w : Int) - 1)]) Try.underlying34 rfl sz3 zt3 rfl rfl rfl (dD 62 5 (dD 62 4 (dD 62 3 (dD 62 2 (dD 62 1 (dK 62 0 rfl)))))) rfl fun h1 x1 f1 => ?_;replace f0 := f0.ext x1;replace e0 := e0.trans x1;refine ⟨(rck (h2 := h1) rfl (ld68 rfl f0 rfl) recheck_nil), ?_⟩;refine GoE.call rfl rfl (aCF aFunc63 rfl) (hln2 _ _ _ (A.ext e0) (by assumption)) (dD 127 0 rfl) ?_ (by rintro _ _ ⟨bm, q, _, hbm, _⟩; cases q);rintro v2 h2 ⟨bm, q, x2, hbm, f2⟩;cases q;replace f1 := f1.ext x2;replace f0 := f0.ext x2;replace e0 := e0.trans x2;refine ⟨recheck_nil, _, rfl, ?_⟩;refine gQ rfl rfl rfl rfl ?_;refine GoE.end rfl ?_;apply gS;refine gR rfl ?_;refine gP ?_;refine gO rfl rfl (aOp_lenMap Try.underlying72 rfl (by assumption) hesn) rfl ?_;refine gO rfl rfl (kET rfl rfl) rfl ?_;refine GoR.callP rfl rfl (aCF aFunc60 rfl) (refuse_yes _ _) (by rintro _ _ ⟨q, _⟩; cases q) ?_;rintro chain h3 ⟨q, x3⟩
  have q := AEnd.pan.inj q
  subst q;replace e0 := e0.trans x3;exact FLeft.pan (⟨e0, .inr ⟨hTe, rfl⟩⟩)
 ·have hlenp : ∃ q, T.length = q + 1 := ⟨T.length - 1, by have := List.length_pos_iff.2 hTe; omega⟩
  obtain ⟨q, hq⟩ := hlenp
  have hesn : (esN (List.map entL T)).length = q + 1 := by rw [esN_len, List.length_map, hq]
  have e0 : Ext h h := Ext.refl _
  refine Runs.intro aFunc36 rfl rfl rfl rfl fun rest => ?_;apply gS;refine gR rfl ?_;refine GoR.box rfl rfl rfl rfl rfl rfl fun h0 x0 f0 => ?_;have := e0.1;replace e0 := e0.trans x0;have := f0.1;refine gP ?_;apply gE;apply gS;refine Go.drawnE plan36_0 ?_;refine gQ rfl rfl (ld68 rfl f0 rfl) rfl ?_;refine gQ rfl rfl (fa68_5 rfl) rfl ?_;refine gQ rfl rfl (ld26 rfl f0 rfl) rfl ?_;refine gQ rfl rfl (aOp_lenSlice Try.underlying26 rfl hl3) rfl ?_;refine gQ rfl rfl (aOp_shl rfl rfl (i := n) (by omega) hsh (by omega)) rfl ?_;refine gQ rfl rfl (aS rfl rfl) rfl ?_;refine GoE.buildSl rfl rfl (ps := [(0, .int .i64 ((w : Int) - 1))]) (cs := [.int .i64 ((w : Int) - 1)]) Try.underlying34 rfl sz3 zt3 rfl rfl rfl (dD 62 5 (dD 62 4 (dD 62 3 (dD 62 2 (dD 62 1 (dK 62 0 rfl)))))) rfl fun h1 x1 f1 => ?_;have := e0.1;have := f0.1;replace f0 := f0.ext x1;replace e0 := e0.trans x1;have := f1.1;refine ⟨(rck (h2 := h1) rfl (ld68 rfl f0 rfl) recheck_nil), ?_⟩;refine GoE.call rfl rfl (aCF aFunc63 rfl) (hln2 _ _ _ (A.ext e0) (by assumption)) (dD 127 0 rfl) ?_ (by rintro _ _ ⟨bm, q, _, hbm, _⟩; cases q);rintro v2 h2 ⟨bm, q, x2, hbm, f2⟩;cases q;have := e0.1;have := f1.1;have := f0.1;replace f1 := f1.ext x2;replace f0 := f0.ext x2;replace e0 := e0.trans x2;refine ⟨recheck_nil, _, rfl, ?_⟩;refine gQ rfl rfl rfl rfl ?_;refine GoE.end rfl ?_;apply gS;refine gR rfl ?_;refine gP ?_;refine gO rfl rfl (aOp_lenMap Try.underlying72 rfl (by assumption) hesn) rfl ?_;refine gO rfl rfl (kEF rfl rfl) rfl ?_;refine GoR.call rfl rfl (aCF aFunc60 rfl) (refuse_no _ _) ?_ np;rintro v3 h3 ⟨q, x3⟩;cases q;refine ⟨_, rfl, ?_⟩;replace f2 := f2.ext x3;replace e0 := e0.trans x3;apply gE;apply gS;refine gR rfl ?_;iterate 2 refine gP ?_
  apply gE;exact gV (ret_end (aResult_of Try.func36 rfl rfl) ⟨e0, .inl ⟨hTe, bm, rfl, by omega, ⟨f2, fun x hx => (hfit x hx).1, fun x hx => (hfit x hx).2⟩⟩⟩)
theorem truths_yes {C : CutV} (O : C.Ok) (hT : C.truths ≠ []) {r b l : AVal} {h : AH} (A : CutAt h C r b l) : Runs Try.prog 36 [.agg (C.cells r b l)] h (fun en h' => ∃ bm, en = .ret (.map bm) ∧ Ext h h' ∧ h.next ≤ bm ∧ KnownAt C.truths (C.rs.length + 1) h' bm) :=
 (truths_ok O A).mono fun en h' ⟨e, k⟩ => by
  rcases k with ⟨_, bm, q, hb, K⟩ | ⟨q, _⟩
  ·exact ⟨bm, q, e, hb, K⟩
  ·exact absurd q hT
theorem truths_no {C : CutV} (O : C.Ok) (hT : C.truths = []) {r b l : AVal} {h : AH} (A : CutAt h C r b l) : Runs Try.prog 36 [.agg (C.cells r b l)] h (fun en h' => en = .pan (refusal 10) ∧ Ext h h') :=
 (truths_ok O A).mono fun en h' ⟨e, k⟩ => by
  rcases k with ⟨q, _⟩ | ⟨_, q⟩
  ·exact absurd hT q
  ·exact ⟨q, e⟩
end Go.Proofs.Yteibheeleeengaa

namespace Go.Proofs.Yteibheeleeengaa
open Go Go.AbsE
set_option linter.unusedSimpArgs false
set_option maxRecDepth 100000
set_option maxHeartbeats 0
set_option linter.unusedVariables false
def bitsV (n : Nat) (p : Nat → Bool) : Nat := (List.range n).foldl (fun s i => if p i then s ||| 2 ^ i else s) 0
theorem bitsV_succ (n : Nat) (p : Nat → Bool) : bitsV (n + 1) p = if p n then bitsV n p ||| 2 ^ n else bitsV n p := by
 unfold bitsV
 rw [List.range_succ, List.foldl_append]
 rfl
theorem bitsV_lt (p : Nat → Bool) : ∀ n, bitsV n p < 2 ^ n
 | 0 => by simp [bitsV]
 | n + 1 => by
  have ih := bitsV_lt p n
  rw [bitsV_succ]
  have h2 : 2 ^ (n + 1) = 2 ^ n * 2 := Nat.pow_succ ..
  split
  ·exact Nat.or_lt_two_pow (by omega) (by omega)
  ·omega
theorem bitsV_test (p : Nat → Bool) : ∀ n i, (bitsV n p).testBit i = (decide (i < n) && p i)
 | 0, i => by simp [bitsV]
 | n + 1, i => by
  have ih := bitsV_test p n i
  rw [bitsV_succ]
  split
  ·rename_i hp
   rw [Nat.testBit_or, ih, Nat.testBit_two_pow]
   by_cases q : n = i
   ·subst q; simp [hp]
   ·rw [decide_eq_false q, Bool.or_false]
    by_cases q2 : i < n
    ·rw [decide_eq_true q2, decide_eq_true (show i < n + 1 by omega)]
    ·rw [decide_eq_false q2, decide_eq_false (show ¬ i < n + 1 by omega)]
  ·rename_i hp
   rw [ih]
   by_cases q : n = i
   ·subst q; simp at hp; simp [hp]
   ·by_cases q2 : i < n
    ·rw [decide_eq_true q2, decide_eq_true (show i < n + 1 by omega)]
    ·rw [decide_eq_false q2, decide_eq_false (show ¬ i < n + 1 by omega)]
theorem pow_small {i : Nat} (h : i < 10) : 2 ^ i ≤ 512 := Nat.pow_le_pow_right (n := 2) (by omega) (show i ≤ 9 by omega)
theorem upto_at {a b : Int} {j : Nat} {x : Int} (h : (upto a b)[j]? = some x) : x = a + j ∧ x ≤ b := by
 unfold upto at h
 have hlt := (List.getElem?_eq_some_iff.1 h).1
 rw [List.length_map, List.length_range] at hlt;rw [List.getElem?_map, List.getElem?_range hlt] at h
 have h := Option.some.inj h
 dsimp only at h
 omega
theorem on_ok {K : KV} {n bm bf bt : Nat} {h : AH} (k : KnownAt K (n + 1) h bm) (hn : n ≤ 8) (NA : NumsA 0 (n : Nat) bf bt h) {fid : FuncId} {fn : Func} (hfid : aFunc Try.prog fid = some fn) (p : Int × Int → Int × Int → Bool) (hp : ∀ d need h, Runs Try.prog fid [.agg (spC d), .agg (spC need)] h (fun en h' => en = .ret (.bool (p d need)) ∧ Ext h h')) (need : Int × Int) :
  Runs Try.prog 44 [.map bm, .func (.func 80) [] [.ptr bf 0, .ptr bt 0], .func (.func fid) [] [], .agg (spC need)] h (fun en h' => en = .ret (.int .i64 (bitsV (n + 1) fun d => p (joinL (K.map (atK d))) need : Nat)) ∧ Ext h h') := by
 have hbf := NA.f.1
 have hbt := NA.t.1
 have hbm := k.m.1
 have hne : ∀ h d, Runs Try.prog fid [.agg (spC d), .agg (spC need)] h (fun en h' => en = .ret (.bool (p d need)) ∧ Ext h h') := fun h d => hp d need h
 unfold spC at hne ⊢
 have e0 : Ext h h := Ext.refl _
 refine Runs.intro aFunc44 rfl rfl rfl rfl fun rest => ?_;apply gS;refine gR rfl ?_;refine GoR.box rfl rfl rfl rfl rfl rfl fun h0 x0 f0 => ?_;have := e0.1;replace e0 := e0.trans x0;have := f0.1;refine GoR.box rfl rfl rfl rfl rfl rfl fun h1 x1 f1 => ?_;have := e0.1;have := f0.1;replace f0 := f0.ext x1;replace e0 := e0.trans x1;have := f1.1;refine GoR.box rfl rfl rfl rfl rfl rfl fun h2 x2 f2 => ?_;have := e0.1;have := f1.1;have := f0.1;replace f1 := f1.ext x2;replace f0 := f0.ext x2;replace e0 := e0.trans x2;have := f2.1;refine gP ?_;apply gE;apply gS;refine gR rfl ?_;refine GoR.alloc rfl rfl rfl zt3 rfl rfl fun h3 x3 f3 => ?_;have := e0.1;have := f2.1;have := f1.1;have := f0.1;replace f2 := f2.ext x3;replace f1 := f1.ext x3;replace f0 := f0.ext x3;replace e0 := e0.trans x3;have := f3.1;refine GoR.store rfl rfl rfl rfl rfl rfl f3 rfl sz3 rfl rfl rfl fun h4 u4 => ?_;replace f3 := u4.has f3;replace f2 := f2.upd u4 (by omega);replace f1 := f1.upd u4 (by omega);replace f0 := f0.upd u4 (by omega);replace e0 := e0.upd u4 (by omega);apply gE;iterate 2 apply gS
 refine gR rfl ?_;refine gP ?_;apply gE;refine Go.block noJ_ok ?_
 have hb0 := f0.1
 have hb1 := f1.1
 have hb2 := f2.1
 have hb3 := f3.1
 have hx0 := e0.1
 have hn0 : h.next < h0.next := by omega
 have hn1 : h0.next < h1.next := by omega
 have hn2 : h1.next < h2.next := by omega
 have eF : ∀ {hh}, ExtF (fun b => b = h2.next) h4 hh → Ext h hh := fun x => x.low e0 fun b q => by omega
 obtain ⟨Pd, hPd⟩ : ∃ Pd : Nat → Bool, Pd = fun d => p (joinL (K.map (atK d))) need := ⟨_, rfl⟩
 rw [← hPd]
 refine Go.rangeN (items := (upto 0 (n : Nat)).map fun n => [AVal.int .i64 n]) (A := NumsA 0 (n : Nat) bf bt) (fun b => b = h2.next)
  (fun j hh G => Has hh h2.next (.cells .plain [.int .i64 (bitsV j Pd : Nat)] 3) ∧ ∀ b, G b ↔ b = h2.next)
  (fun _ _ _ => False) rfl aFunc80 Try.func44 (nums80_it (by omega) (by omega) bf bt) (fun h' x => ⟨NA.f.ext (eF x), NA.t.ext (eF x)⟩) ⟨f3, fun b => Iff.rfl⟩ ?_ ?_ ?_ ?_ ?_ ?_ ?_
 ·rintro k hh G b ⟨g1, hG⟩ q
  rw [(hG b).1 q]
  exact g1.1
 ·rintro c hh G b q;exact q.elim
 ·rintro k h4' h5' G ⟨g1, hG⟩ hn hk;exact ⟨g1.keep hn (hk _ g1.1 (.inr ((hG _).2 rfl))), hG⟩
 ·rintro c h4' h5' G q;exact q.elim
 ·rintro j item hj
  obtain ⟨d, hd, rfl⟩ : ∃ d, (upto 0 (n : Nat))[j]? = some d ∧ [AVal.int .i64 d] = item := by
   rw [List.getElem?_map] at hj
   cases q : (upto 0 (n : Nat))[j]? with
   | none => rw [q] at hj; cases hj
   | some x => rw [q] at hj; exact ⟨x, rfl, Option.some.inj hj⟩
  obtain ⟨hd1, hd2⟩ := upto_at hd
  have hdj : d = (j : Nat) := by omega
  subst hdj
  have hjn : j < n + 1 := by omega
  refine ⟨_, rfl, ?_⟩;rintro hh G lb r0 fr rest' Q' ⟨g1, hG⟩ x1 hsub hnl hlb fl hready contT contF
  have hx1 := x1.1
  have hfl := fl.1
  replace f0 := f0.extF x1 (by omega);replace f1 := f1.extF x1 (by omega);replace f2 := f2.extF x1 (by omega)
  have e8 := eF x1
  have hl0 : h2.next ≠ lb := by omega
  have y9 : ExtF (fun b => G b ∨ b = lb) hh hh := ExtF.of (Ext.refl _)
  clear e0 f3 contF;refine gR rfl ?_;refine gP ?_;apply gE;refine Go.beginRound fl hready fun h41 u41 => ?_;replace f0 := f0.upd u41 (by omega);replace f1 := f1.upd u41 (by omega);replace f2 := f2.upd u41 (by omega);replace g1 := g1.upd u41 hl0;replace fl := u41.has fl;replace y9 := y9.upd u41 (.inl (.inr rfl));replace e8 := e8.upd u41 (by omega)
  have hu41 := u41.1
  obtain ⟨f3, hf3⟩ : ∃ f3, f3 = g1 := ⟨_, rfl⟩
  obtain ⟨f6, hf6⟩ : ∃ f6, f6 = fl := ⟨_, rfl⟩
  clear hf3 hf6 g1 fl
  have hk0 := f0.1
  have hk1 := f1.1
  have hk2 := f2.1
  have hk3 := f3.1
  have hk6 := f6.1
  have hG0 : G h2.next := (hG _).2 rfl
  have hat := fun h' e => at_ok (k.ext (h' := h') e) hjn (by omega)
  obtain ⟨W, hW⟩ : ∃ W, joinL (K.map (atK j)) = W := ⟨_, rfl⟩
  have hPj : Pd j = p W need := by rw [hPd, ← hW]
  rw [hW] at hat
  have hpw := fun h => hne h W
  unfold spC at hat hpw
  have hsucc := bitsV_succ j Pd
  have hlt := bitsV_lt Pd j
  have hps := pow_small (i := j) (by omega)
  obtain ⟨w, hw⟩ : ∃ w, 2 ^ j = w := ⟨_, rfl⟩
  have hsh : (1 : Int) * 2 ^ j = ((w : Nat) : Int) := by rw [← hw]; simp
  obtain ⟨B, hB⟩ : ∃ B, bitsV j Pd = B := ⟨_, rfl⟩
  rw [hB, hw] at hsucc hlt;rw [hw] at hps;rw [hB] at f3
  cases hq : Pd j with
  | true =>
   rw [hq, if_pos rfl] at hsucc
   rw [← hPj, hq] at hpw
   refine Go.block noJ_ok ?_;apply gS;refine Go.drawnE plan44_0 ?_;refine gQ rfl rfl (ld86 rfl f1 rfl) rfl ?_;refine gQ rfl rfl (ld72 rfl f0 rfl) rfl ?_;refine gQ rfl rfl rfl rfl ?_;refine gQ rfl rfl (ld23 rfl f2 rfl) rfl ?_;refine GoE.call rfl rfl (aCF aFunc40 rfl) (hat _ e8) (dK 6 4 (dD 6 2 (dD 6 1 (dK 6 0 rfl)))) ?_ np;rintro v42 h42 ⟨q, x42⟩;cases q;replace f0 := f0.ext x42;replace f1 := f1.ext x42;replace f2 := f2.ext x42;replace f6 := f6.ext x42;replace f3 := f3.ext x42;replace e8 := e8.trans x42;replace y9 := y9.ext x42;refine ⟨(rck (h2 := h42) rfl (ld23 rfl f2 rfl) (rck (h2 := h42) rfl (ld86 rfl f1 rfl) recheck_nil)), _, rfl, ?_⟩;refine GoE.call rfl rfl (aOp_callVal rfl hfid rfl) (hpw _) (dD 31 4 (dD 31 0 rfl)) ?_ np;rintro v43 h43 ⟨q, x43⟩;cases q;replace f0 := f0.ext x43;replace f1 := f1.ext x43;replace f2 := f2.ext x43;replace f6 := f6.ext x43;replace f3 := f3.ext x43;replace e8 := e8.trans x43;replace y9 := y9.ext x43;refine ⟨recheck_nil, _, rfl, ?_⟩;refine GoE.end rfl ?_;refine gC (b := true) rfl ?_;refine Go.drawnE plan44_1 ?_;refine gQ rfl rfl (ld3 rfl f3 rfl) rfl ?_;refine gQ rfl rfl rfl rfl ?_;refine gQ rfl rfl (aOp_shl rfl rfl (i := j) (by omega) hsh (by omega)) rfl ?_;refine gQ rfl rfl (aOp_orNat rfl rfl (by omega) (by omega) rfl) rfl ?_;refine GoE.store rfl rfl rfl rfl (dD 15 3 (dD 15 2 (dD 15 1 (dD 15 0 rfl)))) rfl rfl f3 rfl sz3 rfl rfl rfl fun h44 u44 => ?_;replace f0 := f0.upd u44 (by omega);replace f1 := f1.upd u44 (by omega);replace f2 := f2.upd u44 (by omega);replace f6 := f6.upd u44 (by omega);replace f3 := u44.has f3;replace e8 := e8.upd u44 (by omega);refine ⟨recheck_nil, ?_⟩;refine GoE.end rfl ?_;refine Go.inBlock noJ_ok ?_;exact contT _ _ G ⟨by rw [hsucc]; exact f3, hG⟩ (fun b q => .inl q) (y9.upd u44 (.inl (.inl hG0))) f6
  | false =>
   rw [hq, if_neg (by decide)] at hsucc
   rw [← hPj, hq] at hpw
   refine Go.block noJ_ok ?_;apply gS;refine Go.drawnE plan44_0 ?_;refine gQ rfl rfl (ld86 rfl f1 rfl) rfl ?_;refine gQ rfl rfl (ld72 rfl f0 rfl) rfl ?_;refine gQ rfl rfl rfl rfl ?_;refine gQ rfl rfl (ld23 rfl f2 rfl) rfl ?_;refine GoE.call rfl rfl (aCF aFunc40 rfl) (hat _ e8) (dK 6 4 (dD 6 2 (dD 6 1 (dK 6 0 rfl)))) ?_ np;rintro v42 h42 ⟨q, x42⟩;cases q;replace f1 := f1.ext x42;replace f2 := f2.ext x42;replace f6 := f6.ext x42;replace f3 := f3.ext x42;replace y9 := y9.ext x42;refine ⟨(rck (h2 := h42) rfl (ld23 rfl f2 rfl) (rck (h2 := h42) rfl (ld86 rfl f1 rfl) recheck_nil)), _, rfl, ?_⟩;refine GoE.call rfl rfl (aOp_callVal rfl hfid rfl) (hpw _) (dD 31 4 (dD 31 0 rfl)) ?_ np;rintro v43 h43 ⟨q, x43⟩;cases q;replace f6 := f6.ext x43;replace f3 := f3.ext x43;replace y9 := y9.ext x43;refine ⟨recheck_nil, _, rfl, ?_⟩;refine GoE.end rfl ?_;refine gC (b := false) rfl ?_;refine gD ?_;refine Go.inBlock noJ_ok ?_;exact contT _ _ G ⟨by rw [hsucc]; exact f3, hG⟩ (fun b q => .inl q) y9 f6
 ·rintro d h30 G x30 hGs hnd2 hd hdd ⟨g1, hG⟩
  have hlen : ((upto 0 (n : Nat)).map fun n => [AVal.int .i64 n]).length = n + 1 := by
   unfold upto
   rw [List.length_map, List.length_map, List.length_range]
   omega
  rw [hlen] at g1
  have hx30 := x30.1
  have e30 := eF x30
  have d1 : h2.next ≠ d := fun z => hnd2 ((hG _).2 z.symm)
  clear e0 f0 f1 f2 f3
  obtain ⟨f3, hf3⟩ : ∃ f3, f3 = g1 := ⟨_, rfl⟩
  clear hf3 g1;refine Go.inBlock noJ_ok ?_;apply gS;refine gR rfl ?_;refine gO rfl rfl (ld3 rfl f3 rfl) rfl ?_;refine gP ?_;apply gE;exact Go.retC hdd fun h9 u9 => ⟨aResult_of Try.func44 rfl rfl, rfl, e30.upd u9 (by omega)⟩
 ·rintro c d h30 G x30 hGs hnd2 hd hdd q;exact q.elim
def pickV (p : Int → Bool) (a : Option Int) (x : Int) : Option Int := if (p x && (match a with | none => true | some y => decide (y < x))) = true then some x else a
def greatV (p : Int → Bool) (L : List Int) : Option Int := L.foldl (pickV p) none
theorem great_more (p : Int → Bool) {L : List Int} {j : Nat} {x : Int} (hx : L[j]? = some x) : greatV p (L.take (j + 1)) = pickV p (greatV p (L.take j)) x := by
 unfold greatV
 rw [List.take_add_one, hx, Option.toList_some, List.foldl_append]
 rfl
theorem great_ok {L : List Int} {A : AH → Prop} {bf bt : Nat} (it : IterN Try.prog 80 [] [.ptr bf 0, .ptr bt 0] (L.map fun n => [.int .i64 n]) A) {fid : FuncId} {caps : List AVal} {fn : Func} (hfid : aFunc Try.prog fid = some fn) (p : Int → Bool) {h : AH} (hA : ∀ h', Ext h h' → A h')
  (hc : ∀ x h', x ∈ L → Ext h h' → Runs Try.prog fid ([.int .i64 x] ++ caps) h' (fun en h'' => en = .ret (.bool (p x)) ∧ Ext h' h'')) :
  Runs Try.prog 69 [.func (.func 80) [] [.ptr bf 0, .ptr bt 0], .agg [.func (.func fid) [] caps]] h (fun en h' => en = .ret (.tuple [.int .i64 ((greatV p L).getD 0), .bool (greatV p L).isSome]) ∧ Ext h h') := by
 have e0 : Ext h h := Ext.refl _
 refine Runs.intro aFunc69 rfl rfl rfl rfl fun rest => ?_;apply gS;refine gR rfl ?_;refine GoR.box rfl rfl rfl rfl rfl rfl fun h0 x0 f0 => ?_;have := e0.1;replace e0 := e0.trans x0;have := f0.1;refine GoR.alloc rfl rfl rfl zt3 rfl rfl fun h1 x1 f1 => ?_;have := e0.1;have := f0.1;replace f0 := f0.ext x1;replace e0 := e0.trans x1;have := f1.1;refine GoR.alloc rfl rfl rfl zt4 rfl rfl fun h2 x2 f2 => ?_;have := e0.1;have := f1.1;have := f0.1;replace f1 := f1.ext x2;replace f0 := f0.ext x2;replace e0 := e0.trans x2;have := f2.1;apply gE;iterate 2 apply gS
 refine gR rfl ?_;refine gP ?_;apply gE;refine Go.block noJ_ok ?_
 have hb0 := f0.1
 have hb1 := f1.1
 have hb2 := f2.1
 have hx0 := e0.1
 have hn0 : h.next < h0.next := by omega
 have hn1 : h0.next < h1.next := by omega
 have eF : ∀ {hh}, ExtF (fun b => b = h0.next ∨ b = h1.next) h2 hh → Ext h hh := fun x => x.low e0 fun b q => by omega
 refine Go.rangeN (items := L.map fun n => [AVal.int .i64 n]) (A := A) (fun b => b = h0.next ∨ b = h1.next) (fun j hh G => Has hh h0.next (.cells .plain [.int .i64 ((greatV p (L.take j)).getD 0)] 3) ∧ Has hh h1.next (.cells .plain [.bool (greatV p (L.take j)).isSome] 4) ∧ ∀ b, G b ↔ (b = h0.next ∨ b = h1.next))
  (fun _ _ _ => False) rfl aFunc80 Try.func69 it (fun h' x => hA h' (eF x)) ⟨f1, f2, fun b => Iff.rfl⟩ ?_ ?_ ?_ ?_ ?_ ?_ ?_
 ·rintro k hh G b ⟨g1, g2, hG⟩ q
  rcases (hG b).1 q with rfl | rfl
  ·exact g1.1
  ·exact g2.1
 ·rintro c hh G b q;exact q.elim
 ·rintro k h4 h5 G ⟨g1, g2, hG⟩ hn hk;exact ⟨g1.keep hn (hk _ g1.1 (.inr ((hG _).2 (.inl rfl)))), g2.keep hn (hk _ g2.1 (.inr ((hG _).2 (.inr rfl)))), hG⟩
 ·rintro c h4 h5 G q;exact q.elim
 ·rintro j item hj
  obtain ⟨x, hx, rfl⟩ : ∃ x, L[j]? = some x ∧ [AVal.int .i64 x] = item := by
   rw [List.getElem?_map] at hj
   cases q : L[j]? with
   | none => rw [q] at hj; cases hj
   | some x => rw [q] at hj; exact ⟨x, rfl, Option.some.inj hj⟩
  refine ⟨_, rfl, ?_⟩;rintro hh G lb r0 fr rest' Q' ⟨g1, g2, hG⟩ x1 hsub hnl hlb fl hready contT contF
  have hxm := List.mem_of_getElem? hx
  have hmore := great_more p hx
  obtain ⟨a, ha⟩ : ∃ a, greatV p (L.take j) = a := ⟨_, rfl⟩
  rw [ha] at g1 g2 hmore
  have hx1 := x1.1
  have hfl := fl.1
  replace f0 := f0.extF x1 (by omega)
  have e8 := eF x1
  have hl0 : h0.next ≠ lb := by omega
  have hl1 : h1.next ≠ lb := by omega
  have y9 : ExtF (fun b => G b ∨ b = lb) hh hh := ExtF.of (Ext.refl _)
  clear e0 f1 f2 contF;refine gR rfl ?_;refine gP ?_;apply gE;refine Go.beginRound fl hready fun h15 u15 => ?_;replace f0 := f0.upd u15 (by omega);replace g1 := g1.upd u15 hl0;replace g2 := g2.upd u15 hl1;replace fl := u15.has fl;replace y9 := y9.upd u15 (.inl (.inr rfl));replace e8 := e8.upd u15 (by omega)
  have hcx := hc x h15 hxm e8
  have hb0' := f0.1
  have hb1' := g1.1
  have hb2' := g2.1
  have hbl' := fl.1
  have hG0 : G h0.next := (hG _).2 (.inl rfl)
  have hG1 : G h1.next := (hG _).2 (.inr rfl)
  clear e8
  have e0 : Ext h15 h15 := Ext.refl _
  obtain ⟨f1, hf1⟩ : ∃ f1, f1 = g1 := ⟨_, rfl⟩
  obtain ⟨f2, hf2⟩ : ∃ f2, f2 = g2 := ⟨_, rfl⟩
  obtain ⟨f6, hf6⟩ : ∃ f6, f6 = fl := ⟨_, rfl⟩
  clear hf1 hf2 hf6 g1 g2 fl
  unfold pickV at hmore
  cases hp : p x with
  | false =>
   rw [hp] at hcx hmore;rw [if_neg (by simp)] at hmore;refine Go.block noJ_ok ?_;apply gS;refine gR rfl ?_;refine gO rfl rfl (fa108_0 rfl) rfl ?_;refine gO rfl rfl (ld58 rfl f0 rfl) rfl ?_;refine gP ?_;refine GoR.call rfl rfl (aOp_callVal rfl hfid rfl) (hcx) ?_ np;rintro v16 h16 ⟨q, x16⟩;cases q;refine ⟨_, rfl, ?_⟩;replace f0 := f0.ext x16;replace f1 := f1.ext x16;replace f2 := f2.ext x16;replace f6 := f6.ext x16;replace y9 := y9.ext x16;refine gP ?_;iterate 7 refine GoR.skip rfl rfl rfl ?_
   refine gP ?_;apply gE;refine gC (b := false) rfl ?_;refine gD ?_;refine Go.inBlock noJ_ok ?_;exact contT _ _ G ⟨by rw [hmore]; exact f1, by rw [hmore]; exact f2, hG⟩ (fun b q => .inl q) y9 f6
  | true =>
   rw [hp] at hcx hmore
   cases a with
   | none =>
    rw [if_pos (by rfl)] at hmore
    dsimp only [Option.getD, Option.isSome] at f1 f2
    refine Go.block noJ_ok ?_;apply gS;refine gR rfl ?_;refine gO rfl rfl (fa108_0 rfl) rfl ?_;refine gO rfl rfl (ld58 rfl f0 rfl) rfl ?_;refine gP ?_;refine GoR.call rfl rfl (aOp_callVal rfl hfid rfl) (hcx) ?_ np;rintro v16 h16 ⟨q, x16⟩;cases q;refine ⟨_, rfl, ?_⟩;replace f0 := f0.ext x16;replace f6 := f6.ext x16;replace f1 := f1.ext x16;replace f2 := f2.ext x16;replace y9 := y9.ext x16;refine gP ?_;refine gO rfl rfl (ld4 rfl f2 rfl) rfl ?_;iterate 2 refine gP ?_
    iterate 3 refine GoR.skip rfl rfl rfl ?_
    iterate 2 refine gP ?_
    apply gE;refine gC (b := true) rfl ?_;refine gR rfl ?_;refine gP ?_;refine GoR.store rfl rfl rfl rfl rfl rfl f1 rfl sz3 rfl rfl rfl fun h17 u17 => ?_;replace f0 := f0.upd u17 (by omega);replace f6 := f6.upd u17 (by omega);replace f1 := u17.has f1;replace f2 := f2.upd u17 (by omega);clear e0;refine GoR.store rfl rfl rfl rfl rfl rfl f2 rfl sz4 rfl rfl rfl fun h18 u18 => ?_;replace f0 := f0.upd u18 (by omega);replace f6 := f6.upd u18 (by omega);replace f1 := f1.upd u18 (by omega);replace f2 := u18.has f2;apply gE;refine Go.inBlock noJ_ok ?_;exact contT _ _ G ⟨by rw [hmore]; exact f1, by rw [hmore]; exact f2, hG⟩ (fun b q => .inl q) ((y9.upd u17 (.inl (.inl hG0))).upd u18 (.inl (.inl hG1))) f6
   | some y =>
    dsimp only [Option.getD, Option.isSome] at f1 f2
    by_cases hyx : y < x
    ·rw [if_pos (by simp [hyx])] at hmore;refine Go.block noJ_ok ?_;apply gS;refine gR rfl ?_;refine gO rfl rfl (fa108_0 rfl) rfl ?_;refine gO rfl rfl (ld58 rfl f0 rfl) rfl ?_;refine gP ?_;refine GoR.call rfl rfl (aOp_callVal rfl hfid rfl) (hcx) ?_ np;rintro v16 h16 ⟨q, x16⟩;cases q;refine ⟨_, rfl, ?_⟩;replace f6 := f6.ext x16;replace f1 := f1.ext x16;replace f2 := f2.ext x16;replace y9 := y9.ext x16;refine gP ?_;refine gO rfl rfl (ld4 rfl f2 rfl) rfl ?_;iterate 3 refine gP ?_
     refine gO rfl rfl (ld3 rfl f1 rfl) rfl ?_;refine gO rfl rfl (aOp_gtr rfl rfl (r := true) (decide_eq_true hyx)) rfl ?_;iterate 2 refine gP ?_
     apply gE;refine gC (b := true) rfl ?_;refine gR rfl ?_;refine gP ?_;refine GoR.store rfl rfl rfl rfl rfl rfl f1 rfl sz3 rfl rfl rfl fun h17 u17 => ?_;replace f6 := f6.upd u17 (by omega);replace f1 := u17.has f1;replace f2 := f2.upd u17 (by omega);clear e0;refine GoR.store rfl rfl rfl rfl rfl rfl f2 rfl sz4 rfl rfl rfl fun h18 u18 => ?_;replace f6 := f6.upd u18 (by omega);replace f1 := f1.upd u18 (by omega);replace f2 := u18.has f2;apply gE;refine Go.inBlock noJ_ok ?_;exact contT _ _ G ⟨by rw [hmore]; exact f1, by rw [hmore]; exact f2, hG⟩ (fun b q => .inl q) ((y9.upd u17 (.inl (.inl hG0))).upd u18 (.inl (.inl hG1))) f6
    ·rw [if_neg (by simp [hyx])] at hmore;refine Go.block noJ_ok ?_;apply gS;refine gR rfl ?_;refine gO rfl rfl (fa108_0 rfl) rfl ?_;refine gO rfl rfl (ld58 rfl f0 rfl) rfl ?_;refine gP ?_;refine GoR.call rfl rfl (aOp_callVal rfl hfid rfl) (hcx) ?_ np;rintro v16 h16 ⟨q, x16⟩;cases q;refine ⟨_, rfl, ?_⟩;replace f6 := f6.ext x16;replace f1 := f1.ext x16;replace f2 := f2.ext x16;replace y9 := y9.ext x16;refine gP ?_;refine gO rfl rfl (ld4 rfl f2 rfl) rfl ?_;iterate 3 refine gP ?_
     refine gO rfl rfl (ld3 rfl f1 rfl) rfl ?_;refine gO rfl rfl (aOp_gtr rfl rfl (r := false) (decide_eq_false hyx)) rfl ?_;iterate 2 refine gP ?_
     apply gE;refine gC (b := false) rfl ?_;refine gD ?_;refine Go.inBlock noJ_ok ?_;exact contT _ _ G ⟨by rw [hmore]; exact f1, by rw [hmore]; exact f2, hG⟩ (fun b q => .inl q) y9 f6
 ·rintro d h30 G x30 hGs hnd hd hdd ⟨g1, g2, hG⟩;rw [List.length_map, List.take_length] at g1 g2
  have e9 := eF x30
  have hx30 := x30.1
  clear e0 f0 f1 f2
  have d0 : h0.next ≠ d := fun z => hnd ((hG _).2 (.inl z.symm))
  have d1 : h1.next ≠ d := fun z => hnd ((hG _).2 (.inr z.symm))
  have hn01 : h0.next ≠ h1.next := by omega
  obtain ⟨f1, hf1⟩ : ∃ f1, f1 = g1 := ⟨_, rfl⟩
  obtain ⟨f2, hf2⟩ : ∃ f2, f2 = g2 := ⟨_, rfl⟩
  clear hf1 hf2 g1 g2;refine Go.inBlock noJ_ok ?_;apply gS;refine Go.drawnE plan69_0 ?_;refine gQ rfl rfl (ld3 rfl f1 rfl) rfl ?_;refine gQ rfl rfl (ld4 rfl f2 rfl) rfl ?_;refine GoE.store rfl rfl rfl rfl (dK 1 1 (dD 1 0 rfl)) rfl rfl f1 rfl sz3 rfl rfl rfl fun h31 u31 => ?_;replace hdd := hdd.upd u31 (by omega);replace f1 := u31.has f1;replace f2 := f2.upd u31 (by omega);replace e9 := e9.upd u31 (by omega);refine ⟨(rck (h2 := h31) rfl (ld4 rfl f2 rfl) recheck_nil), ?_⟩;refine GoE.store rfl rfl rfl rfl (dD 7 1 rfl) rfl rfl f2 rfl sz4 rfl rfl rfl fun h32 u32 => ?_;replace hdd := hdd.upd u32 (by omega);replace f1 := f1.upd u32 (by omega);replace f2 := u32.has f2;replace e9 := e9.upd u32 (by omega);refine ⟨recheck_nil, ?_⟩;refine GoE.end rfl ?_;exact Go.retC hdd fun h9 u9 => ⟨aResult_of Try.func69 rfl (aResults_c rfl (f1.upd u9 d0) (inCells_one ag3 rfl) (aResults_c rfl (f2.upd u9 d1) (inCells_one ag4 rfl) rfl)), rfl, e9.upd u9 (by omega)⟩
 ·rintro c d h30 G x30 hGs hnd hd hdd q;exact q.elim
def mostV (b : BV) (q : Int × Int → Bool) : Int := match greatV (fun n => q (b.needs n)) (upto 0 b.room) with | none => -1 | some n => n
theorem most_ok {x : BV} (O : x.Ok) {fid : FuncId} {fn : Func} {first : List AVal} (hfid : aFunc Try.prog fid = some fn) (hsm : sameA (.func (.func fid) first []) (.func (.func fid) first []) = true) (su : Int × Int → Bool) (hq : ∀ need h, Runs Try.prog fid (first ++ [.agg (spC need)] ++ []) h (fun en h' => en = .ret (.bool (su need)) ∧ Ext h h')) {h : AH} :
  Runs Try.prog 58 [.agg x.cells, .func (.func fid) first []] h (fun en h' => en = .ret (.int .i64 (mostV x su)) ∧ Ext h h') := by
 have hro := O.2.2
 have hnu := fun h => numbers_ok (a := 0) (b := x.room) (h := h)
 have hne := fun n h => needs_ok O (n := n) (h := h)
 have hxs : sameA (.agg x.cells) (.agg x.cells) = true := by unfold BV.cells; simp [sameA, sameAs, eqI_eq]
 have hcl : ∀ {h' : AH} {b1 b2 : Nat} {e1 e2 : TypeId}, Has h' b1 (.cells .plain [.func (.func fid) first []] e1) → Has h' b2 (.cells .plain x.cells e2) → ∀ n h'', n ∈ upto 0 x.room → Ext h' h'' → Runs Try.prog 70 ([.int .i64 n] ++ [.ptr b1 0, .ptr b2 0]) h'' (fun en h3 => en = .ret (.bool (su (x.needs n))) ∧ Ext h'' h3) := by
  intro h' b1 b2 e1 e2 g1 g2 n h'' hn e
  have hnr := mem_upto.1 hn
  have f0 := g1.ext e
  have f1 := g2.ext e
  have hb0 := f0.1
  have hb1 := f1.1
  have hne2 := fun h => hne n h
  rw [if_pos hnr] at hne2;clear g1 g2 e
  have hqq := fun h => hq (x.needs n) h
  obtain ⟨N, hN⟩ : ∃ N, x.needs n = N := ⟨_, rfl⟩
  rw [hN] at hne2 hqq ⊢
  unfold spC BV.cells at *
  show Runs Try.prog 70 [.int .i64 n, .ptr b1 0, .ptr b2 0] h'' _
  have e0 : Ext h'' h'' := Ext.refl _
  refine Runs.intro aFunc70 rfl rfl rfl rfl fun rest => ?_;apply gS;refine gR rfl ?_;refine gP ?_;apply gE;apply gS;refine Go.drawnE plan70_0 ?_;refine gQ rfl rfl (ld87 rfl f0 rfl) rfl ?_;refine gQ rfl rfl (ld79 rfl f1 rfl) rfl ?_;refine gQ rfl rfl rfl rfl ?_;refine GoE.call rfl rfl (aCF aFunc43 rfl) (hne2 _) (dD 6 2 (dD 6 1 (dK 6 0 rfl))) ?_ np;rintro v2 h2 ⟨q, x2⟩;cases q;replace f0 := f0.ext x2;replace f1 := f1.ext x2;replace e0 := e0.trans x2;refine ⟨(rck (h2 := h2) rfl (ld87 rfl f0 rfl) recheck_nil), _, rfl, ?_⟩;refine GoE.call rfl rfl (aOp_callVal rfl hfid rfl) (hqq _) (dD 15 0 rfl) ?_ np;rintro v3 h3 ⟨q, x3⟩;cases q;replace f0 := f0.ext x3;replace f1 := f1.ext x3;replace e0 := e0.trans x3;refine ⟨recheck_nil, _, rfl, ?_⟩;refine gQ rfl rfl rfl rfl ?_;refine GoE.end rfl ?_;exact gW Try.func70 rfl rfl ⟨rfl, e0⟩
 unfold mostV
 unfold BV.cells at *
 have hgr : ∀ {h' : AH} {b1 b2 bf bt : Nat} {e1 e2 : TypeId}, NumsA 0 x.room bf bt h' → Has h' b1 (.cells .plain [.func (.func fid) first []] e1) → Has h' b2 (.cells .plain [.int .i64 x.lo, .int .i64 x.hi, .int .i64 x.per, .int .i64 x.room] e2) → Runs Try.prog 69 [.func (.func 80) [] [.ptr bf 0, .ptr bt 0], .agg [.func (.func 70) [] [.ptr b1 0, .ptr b2 0]]] h' (fun en h3 => en = .ret (.tuple [.int .i64 ((greatV (fun n => su (x.needs n)) (upto 0 x.room)).getD 0), .bool (greatV (fun n => su (x.needs n)) (upto 0 x.room)).isSome]) ∧ Ext h' h3) :=
  fun N g1 g2 => great_ok (nums80_it (by omega) (by omega) _ _) aFunc70 (fun n => su (x.needs n)) (fun h' e => ⟨N.f.ext e, N.t.ext e⟩) (hcl g1 g2)
 cases hg : greatV (fun n => su (x.needs n)) (upto 0 x.room) with
 | none =>
  rw [hg] at hgr
  dsimp only [Option.getD, Option.isSome] at hgr
  have e0 : Ext h h := Ext.refl _
  refine Runs.intro aFunc58 rfl rfl rfl rfl fun rest => ?_;apply gS;refine gR rfl ?_;refine GoR.box rfl rfl rfl rfl rfl rfl fun h0 x0 f0 => ?_;replace e0 := e0.trans x0;refine GoR.box rfl rfl rfl rfl rfl rfl fun h1 x1 f1 => ?_;replace f0 := f0.ext x1;replace e0 := e0.trans x1;refine gP ?_;apply gE;apply gS;refine gR rfl ?_;refine gO rfl rfl (fa79_2 rfl) rfl ?_;refine gO rfl rfl (ld3 rfl f0 rfl) rfl ?_;refine GoR.call rfl rfl (aCF aFunc68 rfl) (hnu _) ?_ (by rintro _ _ ⟨bf, bt, q, _, hbf, hbt, NA⟩; cases q);rintro v2 h2 ⟨bf, bt, q, x2, hbf, hbt, NA⟩;cases q;refine ⟨_, rfl, ?_⟩;replace f1 := f1.ext x2;replace f0 := f0.ext x2;replace e0 := e0.trans x2;refine gP ?_;refine gO rfl rfl (aOp_build zt108 hu108 pl108 rfl rfl) rfl ?_;refine GoR.call rfl rfl (aCF aFunc69 rfl) (hgr (by assumption) (by assumption) (by assumption)) ?_ np;rintro v3 h3 ⟨q, x3⟩;cases q;refine ⟨_, rfl, ?_⟩;replace f1 := f1.ext x3;replace f0 := f0.ext x3;replace e0 := e0.trans x3;iterate 5 refine gP ?_
  apply gE;iterate 2 apply gS
  refine gR rfl ?_;iterate 2 refine gP ?_
  apply gE;refine gC (b := true) rfl ?_;apply gS;refine gR rfl ?_;refine gP ?_;apply gE;exact gW Try.func58 rfl rfl ⟨rfl, e0⟩
 | some n =>
  rw [hg] at hgr
  dsimp only [Option.getD, Option.isSome] at hgr
  have e0 : Ext h h := Ext.refl _
  refine Runs.intro aFunc58 rfl rfl rfl rfl fun rest => ?_;apply gS;refine gR rfl ?_;refine GoR.box rfl rfl rfl rfl rfl rfl fun h0 x0 f0 => ?_;replace e0 := e0.trans x0;refine GoR.box rfl rfl rfl rfl rfl rfl fun h1 x1 f1 => ?_;replace f0 := f0.ext x1;replace e0 := e0.trans x1;refine gP ?_;apply gE;apply gS;refine gR rfl ?_;refine gO rfl rfl (fa79_2 rfl) rfl ?_;refine gO rfl rfl (ld3 rfl f0 rfl) rfl ?_;refine GoR.call rfl rfl (aCF aFunc68 rfl) (hnu _) ?_ (by rintro _ _ ⟨bf, bt, q, _, hbf, hbt, NA⟩; cases q);rintro v2 h2 ⟨bf, bt, q, x2, hbf, hbt, NA⟩;cases q;refine ⟨_, rfl, ?_⟩;replace f1 := f1.ext x2;replace f0 := f0.ext x2;replace e0 := e0.trans x2;refine gP ?_;refine gO rfl rfl (aOp_build zt108 hu108 pl108 rfl rfl) rfl ?_;refine GoR.call rfl rfl (aCF aFunc69 rfl) (hgr (by assumption) (by assumption) (by assumption)) ?_ np;rintro v3 h3 ⟨q, x3⟩;cases q;refine ⟨_, rfl, ?_⟩;replace e0 := e0.trans x3;iterate 5 refine gP ?_
  apply gE;iterate 2 apply gS
  refine gR rfl ?_;iterate 2 refine gP ?_
  apply gE;refine gC (b := false) rfl ?_;refine gD ?_;apply gS;refine gR rfl ?_;iterate 2 refine gP ?_
  apply gE;exact gW Try.func58 rfl rfl ⟨rfl, e0⟩
end Go.Proofs.Yteibheeleeengaa
