import Derived.Test.YtmimdgjehnhnoaaMAQ
import Derived.Test.YtmimdgjehnhnoaaMAH
import Derived.Test.YtmimdgjehnhnoaaMAN
namespace Go.Proofs.Ytmimdgjehnhnoaa
open Go Go.AbsE
set_option linter.unusedSimpArgs false
set_option maxRecDepth 100000
set_option maxHeartbeats 0
set_option linter.unusedVariables false
def FootV.TK (F : FootV) (R : List Int) (x : Int) (p : Pl) : Prop := ∀ k, k < 3 → p.at k = -1 ∨ F.tw R x p (p.at k).toNat ≤ F.lm k
instance (F : FootV) (R : List Int) (x : Int) (p : Pl) : Decidable (F.TK R x p) := by unfold FootV.TK; infer_instance
theorem ints_all {h : AH} {s : AVal} {L : List Int} (S : SliceOf h 1 s (ints L)) : L = [] ∨ ∃ b o, aSlElems s = some (b, o, L.length) ∧ ∀ (d : Nat) (x : Int), L[d]? = some x → CellsAt h b (o + d * 1) 1 [.int .i64 x] := by
 cases e : L with
 | nil => exact .inl rfl
 | cons y M =>
  rw [e] at S
  obtain ⟨b, o, q1, _⟩ := S.at (ints_at (i := 0) (x := y) rfl)
  rw [ints_len] at q1;refine .inr ⟨b, o, q1, fun d x hd => ?_⟩
  obtain ⟨b', o', q3, q4⟩ := S.at (ints_at hd)
  rw [ints_len, q1] at q3;cases q3;exact q4
theorem lm_get {F : FootV} {rsl hsl : AVal} {k : Nat} (hk : k < 3) : ([rsl, .int .i64 F.men, .int .i64 F.l0, .int .i64 F.l1, .int .i64 F.l2, .int .i64 F.d0, .int .i64 F.d1, .int .i64 F.d2, hsl] : List AVal)[0 + 2 + k * 1]? = some (.int .i64 (F.lm k)) := by
 match k, hk with
 | 0, _ => rfl
 | 1, _ => rfl
 | 2, _ => rfl
theorem lm_in {F : FootV} (O : F.Ok) (k : Nat) : 0 ≤ F.lm k ∧ F.lm k ≤ 60 := by
 have := O.l0
 have := O.l1
 have := O.l2
 unfold FootV.lm
 split <;> omega
theorem ord_num {n : Int} {p : Pl} (h : p.Ord n) : p.Num n := by
 unfold Pl.Ord at h
 unfold Pl.Num
 omega
theorem keeps_ok {F : FootV} (O : F.Ok) {R fl : List Int} (hR : R.length = F.rs.length) (hRb : ∀ x, x ∈ R → 0 ≤ x ∧ x ≤ 10) {i : Nat} {x : Int} (hx : fl[i]? = some x) (hxb : 0 ≤ x ∧ x ≤ 60) {p : Pl} (hp : p.Ord F.rs.length)
  {rs fs rsl hsl : AVal} {h g : AH} (A : FootAt g F rsl hsl) (hrs : SliceOf h 1 rs (ints R)) (hfs : SliceOf h 1 fs (ints fl)) :
  Runs Try.prog 29 [.agg [rs, fs], .agg (F.cells rsl hsl), .int .i64 i, .agg p.cells] h (fun en h' => en = .ret (.bool (decide (F.TK R x p))) ∧ Ext h h') := by
 have hnr := O.nr
 have htwo := fun h (e : Ext h h) a b => twet_ok O hR hRb hx hxb hp (h := h) A (rs := rs) (fs := fs) a b
 have hsc := foot_scal A F.men
 have hsc2 : scalars [rs, fs] = true := by
  unfold scalars
  rw [scal_one' hrs.scal.1]
  simp only [scalars, scal_one' hfs.scal.1, cond_true]
 have yes : F.TK R x p → AEnd.ret (.bool true) = .ret (.bool (decide (F.TK R x p))) := ret_true
 have no : ¬ F.TK R x p → AEnd.ret (.bool false) = .ret (.bool (decide (F.TK R x p))) := ret_false
 unfold FootV.cells Pl.cells at *
 have e0 : Ext h h := Ext.refl _
 refine Runs.intro aFunc29 rfl rfl rfl rfl fun rest => ?_;apply gS;refine gR rfl ?_;refine GoR.box rfl rfl rfl rfl rfl rfl fun h0 x0 f0 => ?_;have := e0.1;replace e0 := e0.trans x0;have := f0.1;refine GoR.box rfl rfl rfl rfl rfl rfl fun h1 x1 f1 => ?_;have := e0.1;have := f0.1;replace f0 := f0.ext x1;replace e0 := e0.trans x1;have := f1.1;refine GoR.box rfl rfl rfl rfl rfl rfl fun h2 x2 f2 => ?_;have := e0.1;have := f1.1;have := f0.1;replace f1 := f1.ext x2;replace f0 := f0.ext x2;replace e0 := e0.trans x2;have := f2.1;refine gP ?_;apply gE;apply gS;refine gR rfl ?_;refine gO rfl rfl (ld51 rfl f0 rfl) rfl ?_;refine gO rfl rfl (ld26 rfl f1 rfl) rfl ?_;refine gP ?_;refine gO rfl rfl (ld27 rfl f2 rfl) rfl ?_;refine GoR.call rfl rfl (aCF aFunc27 rfl) (htwo _ (Ext.refl _) (hrs.ext e0) (hfs.ext e0)) ?_ (by rintro _ _ ⟨s, q, _, S, hss⟩; cases q);rintro v3 h3 ⟨s, q, x3, S, hss⟩;cases q;refine ⟨_, rfl, ?_⟩;have := e0.1;replace f2 := f2.ext x3;replace f1 := f1.ext x3;replace e0 := e0.trans x3;refine gP ?_;apply gE;iterate 2 apply gS
 refine gR rfl ?_;refine gO rfl rfl (ld27 rfl f2 rfl) rfl ?_;refine gP ?_;apply gE;refine Go.block noJ_ok ?_
 obtain ⟨b, o, s1, s2⟩ := (ints_all S).resolve_left (by rw [List.range_succ]; simp)
 rw [List.length_map, List.length_range] at s1
 have e3 : Ext h3 h3 := Ext.refl _
 refine Go.loopKeep (fun k : Nat => [(5, .ptr h0.next 0), (9, v3), (17, .agg [.int .i64 p.a, .int .i64 p.b, .int .i64 p.c]), (18, .int .i64 (k : Nat))])
  (fun m k h' => m + k = 3 ∧ Ext h h' ∧ Ext h3 h' ∧ Has h' h0.next (.cells .plain [rsl, .int .i64 F.men, .int .i64 F.l0, .int .i64 F.l1, .int .i64 F.l2, .int .i64 F.d0, .int .i64 F.d1, .int .i64 F.d2, hsl] 26) ∧ ∀ j, j < k → p.at j = -1 ∨ F.tw R x p (p.at j).toNat ≤ F.lm j)
  (n := 3) 0 ⟨rfl, rfl, rfl, rfl, trivial⟩ ⟨rfl, e0, e3, f1, fun j q => by omega⟩ ?_
 clear e0 e3 f0 f1 f2;rintro m k h20 ⟨hm, e0, e3, f1, hj⟩ again
 by_cases hk : k < 3
 ·have hget := at_get (p := p) hk
  rw [Nat.zero_add] at hget
  have hn := at_num (ord_num hp) k
  have hlm := lm_in O k
  by_cases c1 : p.at k = -1
  ·apply gS;refine gR rfl ?_;refine gO rfl rfl (kLT rfl rfl) rfl ?_;apply gE;apply gS;refine gC (b := true) rfl ?_;refine gD ?_;apply gS;refine Go.block noJ_ok ?_;apply gS;refine gR rfl ?_;refine gP ?_;refine gO rfl rfl (aOp_indexArr (i := k) Try.underlying27 sz3 rfl rfl (Nat.ble_eq_true_of_le hk) (partT_one ag3 hget)) rfl ?_;iterate 2 refine gP ?_
   apply gE;apply gS;refine Go.drawnE plan29_0 ?_;refine gQ rfl rfl rfl rfl ?_;refine gQ rfl rfl (kNF rfl rfl) rfl ?_;refine gQ rfl rfl rfl rfl ?_;iterate 9 refine GoE.skip rfl rfl rfl ?_
   refine gQ rfl rfl rfl rfl ?_;refine GoE.end rfl ?_;refine gC (b := false) rfl ?_;refine gD ?_;refine Go.inBlock noJ_ok ?_;refine gR rfl ?_;refine gO rfl rfl (aA rfl rfl) rfl ?_;refine gP ?_;apply gE;refine again (m - 1) (k + 1) _ _ (by omega) ⟨rfl, rfl, rfl, rfl, trivial⟩ ⟨by omega, e0, e3, f1, fun j q => ?_⟩
   rcases Nat.lt_or_ge j k with q' | q'
   ·exact hj j q'
   ·rw [show j = k by omega];exact .inl c1
  ·have hn' : 0 ≤ p.at k ∧ p.at k ≤ (F.rs.length : Int) - 1 := by omega
   have hcell := s2 (p.at k).toNat _ (by rw [List.getElem?_map, List.getElem?_range (by omega)]; rfl)
   have htw := tw_in O hRb hxb (p := p) (p.at k).toNat
   obtain ⟨w, hw⟩ : ∃ w, F.tw R x p (p.at k).toNat = w := ⟨_, rfl⟩
   rw [hw] at hcell htw
   by_cases c2 : w ≤ F.lm k
   ·apply gS;refine gR rfl ?_;refine gO rfl rfl (kLT rfl rfl) rfl ?_;apply gE;apply gS;refine gC (b := true) rfl ?_;refine gD ?_;apply gS;refine Go.block noJ_ok ?_;apply gS;refine gR rfl ?_;refine gP ?_;refine gO rfl rfl (aOp_indexArr (i := k) Try.underlying27 sz3 rfl rfl (Nat.ble_eq_true_of_le hk) (partT_one ag3 hget)) rfl ?_;iterate 2 refine gP ?_
    apply gE;apply gS;refine Go.drawnE plan29_0 ?_;refine gQ rfl rfl rfl rfl ?_;refine gQ rfl rfl (kNT rfl rfl) rfl ?_;iterate 3 refine gQ rfl rfl rfl rfl ?_
    refine gQ rfl rfl (aOp_indexAddrI Try.underlying49 sz3 rfl s1 rfl (by omega)) rfl ?_;refine gQ rfl rfl (aOp_loadE1 (k := 0) ag3 rfl (hcell.ext e3) rfl) rfl ?_;refine gQ rfl rfl rfl rfl ?_;refine gQ rfl rfl (fa26_2 rfl) rfl ?_;refine gQ rfl rfl (aOp_indexAddrArr (i := k) Try.underlying23 sz3 rfl rfl (Nat.ble_eq_true_of_le hk)) rfl ?_;refine gQ rfl rfl (ld3 rfl f1 (lm_get hk)) rfl ?_;refine gQ rfl rfl (kGF rfl rfl) rfl ?_;refine gQ rfl rfl rfl rfl ?_;refine GoE.end rfl ?_;refine gC (b := false) rfl ?_;refine gD ?_;refine Go.inBlock noJ_ok ?_;refine gR rfl ?_;refine gO rfl rfl (aA rfl rfl) rfl ?_;refine gP ?_;apply gE;refine again (m - 1) (k + 1) _ _ (by omega) ⟨rfl, rfl, rfl, rfl, trivial⟩ ⟨by omega, e0, e3, f1, fun j q => ?_⟩
    rcases Nat.lt_or_ge j k with q' | q'
    ·exact hj j q'
    ·rw [show j = k by omega, hw];exact .inr c2
   ·have hno := no fun z => by
     have := z k hk
     omega
    apply gS;refine gR rfl ?_;refine gO rfl rfl (kLT rfl rfl) rfl ?_;apply gE;apply gS;refine gC (b := true) rfl ?_;refine gD ?_;apply gS;refine Go.block noJ_ok ?_;apply gS;refine gR rfl ?_;refine gP ?_;refine gO rfl rfl (aOp_indexArr (i := k) Try.underlying27 sz3 rfl rfl (Nat.ble_eq_true_of_le hk) (partT_one ag3 hget)) rfl ?_;iterate 2 refine gP ?_
    apply gE;apply gS;refine Go.drawnE plan29_0 ?_;refine gQ rfl rfl rfl rfl ?_;refine gQ rfl rfl (kNT rfl rfl) rfl ?_;iterate 3 refine gQ rfl rfl rfl rfl ?_
    refine gQ rfl rfl (aOp_indexAddrI Try.underlying49 sz3 rfl s1 rfl (by omega)) rfl ?_;refine gQ rfl rfl (aOp_loadE1 (k := 0) ag3 rfl (hcell.ext e3) rfl) rfl ?_;refine gQ rfl rfl rfl rfl ?_;refine gQ rfl rfl (fa26_2 rfl) rfl ?_;refine gQ rfl rfl (aOp_indexAddrArr (i := k) Try.underlying23 sz3 rfl rfl (Nat.ble_eq_true_of_le hk)) rfl ?_;refine gQ rfl rfl (ld3 rfl f1 (lm_get hk)) rfl ?_;refine gQ rfl rfl (kGT rfl rfl) rfl ?_;refine gQ rfl rfl rfl rfl ?_;refine GoE.end rfl ?_;refine gC (b := true) rfl ?_;apply gS;refine gR rfl ?_;refine gP ?_;apply gE;exact gV (ret_end (aResult_of Try.func29 rfl rfl) ⟨hno, e0⟩)
 ·have hy := yes fun j q => hj j (by omega)
  apply gS;refine gR rfl ?_;refine gO rfl rfl (kLF rfl rfl) rfl ?_;apply gE;apply gS;refine gC (b := false) rfl ?_;refine gD ?_;apply gS;refine gR rfl ?_;refine gP ?_;apply gE;exact gV (ret_end (aResult_of Try.func29 rfl rfl) ⟨hy, e0⟩)
end Go.Proofs.Ytmimdgjehnhnoaa

namespace Go.Proofs.Ytmimdgjehnhnoaa
open Go Go.AbsE
set_option linter.unusedSimpArgs false
set_option maxRecDepth 100000
set_option maxHeartbeats 0
set_option linter.unusedVariables false
theorem grow_scal {h : AH} {el : TypeId} {sz lo : Nat} {s : AVal} {n : Nat} {cs : List AVal} (k : Grow h el sz lo s n cs) : scalars [s] = true ∧ s.cells = [s] := by
 rcases k.2 with ⟨rfl, _⟩ | ⟨_, b, _, rfl, _⟩ <;> exact ⟨rfl, rfl⟩
theorem grow_same {h : AH} {el : TypeId} {sz lo : Nat} {s : AVal} {n : Nat} {cs : List AVal} (k : Grow h el sz lo s n cs) : sameA s s = true := by
 rcases k.2 with ⟨rfl, _⟩ | ⟨_, b, _, rfl, _⟩
 ·rfl
 ·simp [sameA]
theorem pick78_ok {T : Bool} {lo hi : Int} {b : Nat} {h : AH} (f0 : Has h b (.cells .plain [.bool T] 4)) : Runs Try.prog 78 [.agg [.int .i64 lo, .int .i64 hi], .ptr b 0] h (fun en h' => en = .ret (.int .i64 (if T then hi else lo)) ∧ Ext h h') := by
 have lb := f0.1
 cases T with
 | true =>
  have e0 : Ext h h := Ext.refl _
  refine Runs.intro aFunc78 rfl rfl rfl rfl fun rest => ?_;apply gS;refine gR rfl ?_;refine GoR.box rfl rfl rfl rfl rfl rfl fun h1 x1 f1 => ?_;replace f0 := f0.ext x1;replace e0 := e0.trans x1;refine gP ?_;apply gE;iterate 2 apply gS
  refine gR rfl ?_;refine gO rfl rfl (ld4 rfl f0 rfl) rfl ?_;apply gE;refine gC (b := true) rfl ?_;apply gS;refine gR rfl ?_;refine gO rfl rfl (fa31_1 rfl) rfl ?_;refine gO rfl rfl (ld3 rfl f1 rfl) rfl ?_;refine gP ?_;apply gE;exact gW Try.func78 rfl rfl ⟨rfl, e0⟩
 | false =>
  have e0 : Ext h h := Ext.refl _
  refine Runs.intro aFunc78 rfl rfl rfl rfl fun rest => ?_;apply gS;refine gR rfl ?_;refine GoR.box rfl rfl rfl rfl rfl rfl fun h1 x1 f1 => ?_;replace f0 := f0.ext x1;replace e0 := e0.trans x1;refine gP ?_;apply gE;iterate 2 apply gS
  refine gR rfl ?_;refine gO rfl rfl (ld4 rfl f0 rfl) rfl ?_;apply gE;refine gC (b := false) rfl ?_;refine gD ?_;apply gS;refine gR rfl ?_;refine gO rfl rfl (fa31_0 rfl) rfl ?_;refine gO rfl rfl (ld3 rfl f1 rfl) rfl ?_;refine gP ?_;apply gE;exact gW Try.func78 rfl rfl ⟨rfl, e0⟩
theorem ends35_ok {F : FootV} (O : F.Ok) {T : Bool} {rsl hsl : AVal} {h : AH} (A : FootAt h F rsl hsl) :
  Runs Try.prog 35 [.agg (F.cells rsl hsl), .bool T] h (fun en h' => ∃ rs fs, en = .ret (.agg [rs, fs]) ∧ Ext h h' ∧ Grow h' 3 1 h.next rs F.rs.length (i64s (F.rs.map fun r => if T then r.2 else r.1)) ∧ Grow h' 3 1 h.next fs F.hs.length (i64s (F.hs.map fun x => if T then x.hi else x.lo)) ∧ scalars [rs, fs] = true ∧ sameA rs rs = true ∧ sameA fs fs = true) := by
 have hl1 := A.rs.len
 have hl2 := A.hs.len
 rw [List.length_map] at hl1 hl2
 have hnh := O.nh
 have hnr := O.nr
 have hpk := fun lo hi b h f => pick78_ok (T := T) (lo := lo) (hi := hi) (b := b) (h := h) f
 unfold FootV.cells
 have e0 : Ext h h := Ext.refl _
 refine Runs.intro aFunc35 rfl rfl rfl rfl fun rest => ?_;apply gS;refine gR rfl ?_;refine GoR.box rfl rfl rfl rfl rfl rfl fun h0 x0 f0 => ?_;have := e0.1;replace e0 := e0.trans x0;have := f0.1;refine GoR.box rfl rfl rfl rfl rfl rfl fun h1 x1 f1 => ?_;have := e0.1;have := f0.1;replace f0 := f0.ext x1;replace e0 := e0.trans x1;have := f1.1;refine GoR.alloc rfl rfl rfl zt51 rfl rfl fun h2 x2 f2 => ?_;have := e0.1;have := f1.1;have := f0.1;replace f1 := f1.ext x2;replace f0 := f0.ext x2;replace e0 := e0.trans x2;have := f2.1;apply gE;apply gS;refine gR rfl ?_;iterate 2 refine gP ?_
 apply gE;iterate 2 apply gS
 refine gR rfl ?_;refine gO rfl rfl (fa26_0 rfl) rfl ?_;refine gO rfl rfl (ld22 rfl f0 rfl) rfl ?_;refine gO rfl rfl (aOp_lenSlice Try.underlying22 rfl hl1) rfl ?_;refine gP ?_;apply gE;refine Go.block noJ_ok ?_
 have hn0 := f0.1
 have hn1 := f1.1
 have hn2 := f2.1
 have hb1 : h.next < h0.next := by omega
 have hb2 : h0.next < h1.next := by omega
 refine Go.loopKeep (fun a : Nat × AVal => [(2, .ptr h.next 0), (4, .ptr h1.next 0), (5, .func (.func 78) [] [.ptr h0.next 0]), (12, rsl), (13, .int .i64 F.rs.length), (14, .int .i64 (a.1 : Nat))])
  (fun m a h' => m + a.1 = F.rs.length ∧ Ext h h' ∧ h2.next ≤ h'.next ∧ Has h' h.next (.cells .plain [rsl, .int .i64 F.men, .int .i64 F.l0, .int .i64 F.l1, .int .i64 F.l2, .int .i64 F.d0, .int .i64 F.d1, .int .i64 F.d2, hsl] 26) ∧ Has h' h0.next (.cells .plain [.bool T] 4) ∧ Has h' h1.next (.cells .plain [a.2, .nilslice] 51) ∧ Grow h' 3 1 h2.next a.2 a.1 (i64s ((F.rs.take a.1).map fun r => if T then r.2 else r.1)))
  (n := F.rs.length) (0, .nilslice) ⟨rfl, rfl, rfl, rfl, rfl, rfl, trivial⟩ ⟨rfl, e0, Nat.le_refl _, f0, f1, f2, Grow.nil _ _ _ _⟩ ?_
 clear e0 f0 f1 f2;rintro m ⟨i, sa⟩ h20 ⟨hm, e0, hle, f0, f1, f2, G⟩ again
 dsimp only at hm f2 G ⊢
 have hn9 := f0.1
 have hn8 := f1.1
 have hn7 := f2.1
 by_cases hi : i < F.rs.length
 ·obtain ⟨r, hr⟩ : ∃ r, F.rs[i]? = some r := ⟨F.rs[i], by simp [hi]⟩
  obtain ⟨bq, off, q1, q2⟩ := A.rs.at (i := i) (l := spC r) (by rw [List.getElem?_map, hr]; rfl)
  rw [List.length_map] at q1
  obtain ⟨r1, r2⟩ := r
  unfold spC at q2
  dsimp only at q2
  have e5 : Ext h20 h20 := Ext.refl _
  have hsame := grow_same G
  have hst1 : ∀ {h : AH} {lo m : Nat} {z : AVal} {cs : List AVal}, Grow h 3 1 lo z m cs → Nat.beq z.cells.length 1 = true := fun k => by rw [(grow_scal k).2]; rfl
  have hst2 : ∀ {h : AH} {lo m : Nat} {z : AVal} {cs : List AVal}, Grow h 3 1 lo z m cs → scalars z.cells = true := fun k => by rw [(grow_scal k).2]; exact (grow_scal k).1
  have hst3 : ∀ {h : AH} {lo m : Nat} {z : AVal} {cs : List AVal}, Grow h 3 1 lo z m cs → splice [sa, .nilslice] (0 + 0) z.cells = some [z, .nilslice] := fun k => by rw [(grow_scal k).2]; rfl
  obtain ⟨w, hw⟩ : ∃ w : Int, (if T then r2 else r1) = w := ⟨_, rfl⟩
  have hpk2 := fun b h f => hpk r1 r2 b h f
  rw [hw] at hpk2;apply gS;refine gR rfl ?_;refine gO rfl rfl (kLT rfl rfl) rfl ?_;apply gE;apply gS;refine gC (b := true) rfl ?_;refine gD ?_;apply gS;refine Go.block noJ_ok ?_;apply gS;refine gR rfl ?_;refine gO rfl rfl (aOp_indexAddr (i := i) Try.underlying22 sz31 rfl q1 rfl (Nat.ble_eq_true_of_le hi)) rfl ?_;refine gO rfl rfl (aOp_loadE ag31 sz31 rfl (q2.ext e0)) rfl ?_;refine GoR.alloc rfl rfl rfl zt31 rfl rfl fun h21 x21 f21 => ?_;have := e0.1;have := e5.1;have := f0.1;have := f1.1;have := f2.1;replace f0 := f0.ext x21;replace f1 := f1.ext x21;replace f2 := f2.ext x21;replace e0 := e0.trans x21;replace e5 := e5.trans x21;have := f21.1;refine GoR.store rfl rfl rfl rfl rfl rfl f21 rfl sz31 rfl rfl rfl fun h22 u22 => ?_;replace f21 := u22.has f21;replace f0 := f0.upd u22 (by omega);replace f1 := f1.upd u22 (by omega);replace f2 := f2.upd u22 (by omega);replace e0 := e0.upd u22 (by omega);replace e5 := e5.upd u22 (by omega);apply gE;refine Go.drawnE plan35_0 ?_;refine gQ rfl rfl (fa51_0 rfl) rfl ?_;refine gQ rfl rfl (ld49 rfl f2 rfl) rfl ?_;refine gQ rfl rfl rfl rfl ?_;refine gQ rfl rfl (ld31 rfl f21 rfl) rfl ?_;refine GoE.call rfl rfl (aOp_callVal rfl aFunc78 rfl) (hpk2 _ _ (by assumption)) (dD 12 3 (dD 12 2 (dK 12 1 (dK 12 0 rfl)))) ?_ np;rintro v23 h23 ⟨q, x23⟩;cases q;replace f21 := f21.ext x23;replace f0 := f0.ext x23;replace f1 := f1.ext x23;replace f2 := f2.ext x23;replace e0 := e0.trans x23;replace e5 := e5.trans x23;refine ⟨(rck (h2 := h23) rfl (ld49 rfl f2 rfl) (rck (h2 := h23) rfl (fa51_0 rfl) recheck_nil)), _, rfl, ?_⟩;refine GoE.quietX rfl rfl (aOpX_lit (ps := [(0, .int .i64 w)]) (cs := [.int .i64 w]) Try.underlying49 rfl sz3 zt3 rfl rfl rfl) rfl ?_;refine GoE.append1L rfl rfl Try.underlying49 Try.underlying49 sz3 by3 zt3 rfl rfl rfl rfl rfl rfl (G.ext e5) (by omega) (dD 63 5 (dD 63 1 (dD 63 0 rfl))) rfl rfl fun s24 h24 y24 g24 => ?_;replace f21 := f21.extF y24 (fun q => by have := grow_own G q; omega);replace f0 := f0.extF y24 (fun q => by have := grow_own G q; omega);replace f1 := f1.extF y24 (fun q => by have := grow_own G q; omega);replace f2 := f2.extF y24 (fun q => by have := grow_own G q; omega);replace e0 := y24.low e0 (fun b q => by have := grow_own G q; omega);have := y24.1;refine ⟨recheck_nil, ?_⟩;refine gQ rfl rfl (fa51_0 rfl) rfl ?_;refine GoE.store rfl rfl rfl rfl (dD 255 7 rfl) rfl rfl f2 rfl sz49 (hst1 (by assumption)) (hst2 (by assumption)) (hst3 (by assumption)) fun h25 u25 => ?_;replace f0 := f0.upd u25 (by omega);replace f1 := f1.upd u25 (by omega);replace f2 := u25.has f2;replace e0 := e0.upd u25 (by omega);refine ⟨recheck_nil, ?_⟩;refine GoE.end rfl ?_;refine Go.inBlock noJ_ok ?_;refine gR rfl ?_;refine gO rfl rfl (aA rfl rfl) rfl ?_;refine gP ?_;apply gE
  have m1 := e5.1
  have m2 := y24.1
  have m3 := u25.1
  have g26 := grow_extF (S := fun b => b = h1.next) g24 ((ExtF.of (Ext.refl h24)).upd u25 (.inl rfl)) (fun b q => by have : b = h1.next := q; omega)
  have g27 := g26.low (lo' := h2.next) (by omega)
  refine again (m - 1) (i + 1, s24) _ _ (by omega) ⟨rfl, rfl, rfl, rfl, rfl, rfl, trivial⟩ ⟨by dsimp only; omega, e0, by omega, f0, f1, f2, ?_⟩;rw [List.take_add_one, hr, Option.toList_some, List.map_append, List.map_cons, List.map_nil]
  dsimp only
  rw [hw]
  unfold i64s at g27 ⊢
  rw [List.map_append];exact g27
 ·apply gS;refine gR rfl ?_;refine gO rfl rfl (kLF rfl rfl) rfl ?_;apply gE;apply gS;refine gC (b := false) rfl ?_;refine gD ?_;iterate 2 apply gS
  refine gR rfl ?_;refine gO rfl rfl (fa26_4 rfl) rfl ?_;refine gO rfl rfl (ld24 rfl f0 rfl) rfl ?_;refine gO rfl rfl (aOp_lenSlice Try.underlying24 rfl hl2) rfl ?_;refine gP ?_;apply gE;refine Go.block noJ_ok ?_
  have hii : i = F.rs.length := by omega
  subst hii;rw [List.take_length] at G;clear again
  refine Go.loopKeep (fun a : Nat × AVal => [(2, .ptr h.next 0), (4, .ptr h1.next 0), (5, .func (.func 78) [] [.ptr h0.next 0]), (28, hsl), (29, .int .i64 F.hs.length), (30, .int .i64 (a.1 : Nat))])
   (fun m a h' => m + a.1 = F.hs.length ∧ Ext h h' ∧ h20.next ≤ h'.next ∧ Has h' h.next (.cells .plain [rsl, .int .i64 F.men, .int .i64 F.l0, .int .i64 F.l1, .int .i64 F.l2, .int .i64 F.d0, .int .i64 F.d1, .int .i64 F.d2, hsl] 26) ∧ Has h' h0.next (.cells .plain [.bool T] 4) ∧ Has h' h1.next (.cells .plain [sa, a.2] 51) ∧ Grow h' 3 1 h2.next sa F.rs.length (i64s (F.rs.map fun r => if T then r.2 else r.1)) ∧ Grow h' 3 1 h20.next a.2 a.1 (i64s ((F.hs.take a.1).map fun x => if T then x.hi else x.lo)))
   (n := F.hs.length) (0, .nilslice) ⟨rfl, rfl, rfl, rfl, rfl, rfl, trivial⟩ ⟨rfl, e0, Nat.le_refl _, f0, f1, f2, G, Grow.nil _ _ _ _⟩ ?_
  have hown := fun b q => grow_own G (b := b) q
  have hsame := grow_same G
  have hsca := grow_scal G
  clear e0 f0 f1 f2 hm G;rintro m ⟨i, sb⟩ h40 ⟨hm, e0, hle2, f0, f1, f2, G1, G⟩ again
  dsimp only at hm f2 G ⊢
  have hn9 := f0.1
  have hn8 := f1.1
  have hn7 := f2.1
  by_cases hi : i < F.hs.length
  ·obtain ⟨x, hx⟩ : ∃ x, F.hs[i]? = some x := ⟨F.hs[i], by simp [hi]⟩
   obtain ⟨bq, off, q1, q2⟩ := A.hs.at (i := i) (l := HF.cells x) (by rw [List.getElem?_map, hx]; rfl)
   rw [List.length_map] at q1
   unfold HF.cells at q2
   have e5 : Ext h40 h40 := Ext.refl _
   have hsame2 := grow_same G
   have hst1 : ∀ {h : AH} {lo m : Nat} {z : AVal} {cs : List AVal}, Grow h 3 1 lo z m cs → Nat.beq z.cells.length 1 = true := fun k => by rw [(grow_scal k).2]; rfl
   have hst2 : ∀ {h : AH} {lo m : Nat} {z : AVal} {cs : List AVal}, Grow h 3 1 lo z m cs → scalars z.cells = true := fun k => by rw [(grow_scal k).2]; exact (grow_scal k).1
   have hst3 : ∀ {h : AH} {lo m : Nat} {z : AVal} {cs : List AVal}, Grow h 3 1 lo z m cs → splice [sa, sb] (0 + 1) z.cells = some [sa, z] := fun k => by rw [(grow_scal k).2]; rfl
   obtain ⟨w, hw⟩ : ∃ w : Int, (if T then x.hi else x.lo) = w := ⟨_, rfl⟩
   have hpk2 := fun b h f => hpk x.lo x.hi b h f
   rw [hw] at hpk2;apply gS;refine gR rfl ?_;refine gO rfl rfl (kLT rfl rfl) rfl ?_;apply gE;apply gS;refine gC (b := true) rfl ?_;refine gD ?_;apply gS;refine Go.block noJ_ok ?_;apply gS;refine gR rfl ?_;refine gO rfl rfl (aOp_indexAddr (i := i) Try.underlying24 sz72 rfl q1 rfl (Nat.ble_eq_true_of_le hi)) rfl ?_;refine gO rfl rfl (aOp_loadE ag72 sz72 rfl (q2.ext e0)) rfl ?_;refine GoR.alloc rfl rfl rfl zt72 rfl rfl fun h41 x41 f41 => ?_;have := e0.1;have := e5.1;have := f0.1;have := f1.1;have := f2.1;replace f0 := f0.ext x41;replace f1 := f1.ext x41;replace f2 := f2.ext x41;replace e0 := e0.trans x41;replace e5 := e5.trans x41;have := f41.1;refine GoR.store rfl rfl rfl rfl rfl rfl f41 rfl sz72 rfl rfl rfl fun h42 u42 => ?_;replace f41 := u42.has f41;replace f0 := f0.upd u42 (by omega);replace f1 := f1.upd u42 (by omega);replace f2 := f2.upd u42 (by omega);replace e0 := e0.upd u42 (by omega);replace e5 := e5.upd u42 (by omega);apply gE;refine Go.drawnE plan35_1 ?_;refine gQ rfl rfl (fa51_1 rfl) rfl ?_;refine gQ rfl rfl (ld49 rfl f2 rfl) rfl ?_;refine gQ rfl rfl rfl rfl ?_;refine gQ rfl rfl (fa72_0 rfl) rfl ?_;refine gQ rfl rfl (ld31 rfl f41 rfl) rfl ?_;refine GoE.call rfl rfl (aOp_callVal rfl aFunc78 rfl) (hpk2 _ _ (by assumption)) (dD 28 4 (dD 28 3 (dD 28 2 (dK 28 1 (dK 28 0 rfl))))) ?_ np;rintro v43 h43 ⟨q, x43⟩;cases q;replace f41 := f41.ext x43;replace f0 := f0.ext x43;replace f1 := f1.ext x43;replace f2 := f2.ext x43;replace e0 := e0.trans x43;replace e5 := e5.trans x43;refine ⟨(rck (h2 := h43) rfl (ld49 rfl f2 rfl) (rck (h2 := h43) rfl (fa51_1 rfl) recheck_nil)), _, rfl, ?_⟩;refine GoE.quietX rfl rfl (aOpX_lit (ps := [(0, .int .i64 w)]) (cs := [.int .i64 w]) Try.underlying49 rfl sz3 zt3 rfl rfl rfl) rfl ?_;refine GoE.append1L rfl rfl Try.underlying49 Try.underlying49 sz3 by3 zt3 rfl rfl rfl rfl rfl rfl (G.ext e5) (by omega) (dD 127 6 (dD 127 1 (dD 127 0 rfl))) rfl rfl fun s44 h44 y44 g44 => ?_;replace f41 := f41.extF y44 (fun q => by have := grow_own G q; omega);replace f0 := f0.extF y44 (fun q => by have := grow_own G q; omega);replace f1 := f1.extF y44 (fun q => by have := grow_own G q; omega);replace f2 := f2.extF y44 (fun q => by have := grow_own G q; omega);replace e0 := y44.low e0 (fun b q => by have := grow_own G q; omega);have := y44.1;refine ⟨recheck_nil, ?_⟩;refine gQ rfl rfl (fa51_1 rfl) rfl ?_;refine GoE.store rfl rfl rfl rfl (dD 511 8 rfl) rfl rfl f2 rfl sz49 (hst1 (by assumption)) (hst2 (by assumption)) (hst3 (by assumption)) fun h45 u45 => ?_;replace f0 := f0.upd u45 (by omega);replace f1 := f1.upd u45 (by omega);replace f2 := u45.has f2;replace e0 := e0.upd u45 (by omega);refine ⟨recheck_nil, ?_⟩;refine GoE.end rfl ?_;refine Go.inBlock noJ_ok ?_;refine gR rfl ?_;refine gO rfl rfl (aA rfl rfl) rfl ?_;refine gP ?_;apply gE
   have m1 := e5.1
   have m2 := y44.1
   have m3 := u45.1
   have g46 := grow_extF (S := fun b => b = h1.next) g44 ((ExtF.of (Ext.refl h44)).upd u45 (.inl rfl)) (fun b q => by have : b = h1.next := q; omega)
   have g47 := g46.low (lo' := h20.next) (by omega)
   have g49 : Grow h45 3 1 h2.next sa F.rs.length (i64s (F.rs.map fun r => if T then r.2 else r.1)) := G1.keep (by omega) fun b q1 q2 q3 => by
    have q4 := hown b q3
    rw [u45.2.2 b (by omega), y44.2 b (by omega) (fun q => by have := grow_own G q; omega), e5.2 b (by omega)]
   refine again (m - 1) (i + 1, s44) _ _ (by omega) ⟨rfl, rfl, rfl, rfl, rfl, rfl, trivial⟩ ⟨by dsimp only; omega, e0, by omega, f0, f1, f2, g49, ?_⟩;rw [List.take_add_one, hx, Option.toList_some, List.map_append, List.map_cons, List.map_nil];rw [hw]
   unfold i64s at g47 ⊢
   rw [List.map_append];exact g47
  ·have hii : i = F.hs.length := by omega
   subst hii;rw [List.take_length] at G
   have hsc2 : scalars [sa, sb] = true := by
    unfold scalars
    rw [scal_one' (grow_scal G1).1]
    simp only [scalars, scal_one' (grow_scal G).1, cond_true]
   have hS1 := nums_sl (by rw [List.length_map]) G1
   have hS2 := nums_sl (by rw [List.length_map]) G
   have e5 : Ext h40 h40 := Ext.refl _
   have hrs : ∀ h', ExtF (fun b => b = h1.next) h40 h' → Grow h' 3 1 h.next sa F.rs.length (i64s (F.rs.map fun r => if T then r.2 else r.1)) := fun h' y => (grow_extF G1 y (fun b q => by have : b = h1.next := q; omega)).low (by omega)
   have hfs : ∀ h', ExtF (fun b => b = h1.next) h40 h' → Grow h' 3 1 h.next sb F.hs.length (i64s (F.hs.map fun x => if T then x.hi else x.lo)) := fun h' y => (grow_extF G y (fun b q => by have : b = h1.next := q; omega)).low (by omega)
   have y7 : ExtF (fun b => b = h1.next) h40 h40 := .of (Ext.refl _)
   have hss1 := grow_same G1
   have hss2 := grow_same G
   apply gS;refine gR rfl ?_;refine gO rfl rfl (kLF rfl rfl) rfl ?_;apply gE;apply gS;refine gC (b := false) rfl ?_;refine gD ?_;apply gS;refine gR rfl ?_;refine gO rfl rfl (ld51 rfl f2 rfl) rfl ?_;refine GoR.store rfl rfl rfl rfl rfl rfl f2 rfl sz51 rfl hsc2 rfl fun h41 u41 => ?_;replace f2 := u41.has f2;replace e0 := e0.upd u41 (by omega);clear e5;replace y7 := y7.upd u41 (.inl rfl);apply gE;exact gV (ret_end (aResult_of Try.func35 rfl (aResults_c rfl f2 (inCells_agg ag51 sz51 rfl) rfl)) (⟨sa, sb, rfl, e0, hrs _ y7, hfs _ y7, hsc2, hss1, hss2⟩))
end Go.Proofs.Ytmimdgjehnhnoaa

namespace Go.Proofs.Ytmimdgjehnhnoaa
open Go Go.AbsE
set_option linter.unusedSimpArgs false
set_option maxRecDepth 100000
set_option maxHeartbeats 0
set_option linter.unusedVariables false
end Go.Proofs.Ytmimdgjehnhnoaa

namespace Go.Proofs.Ytmimdgjehnhnoaa
open Go Go.AbsE
set_option linter.unusedSimpArgs false
set_option maxRecDepth 100000
set_option maxHeartbeats 0
set_option linter.unusedVariables false
theorem kept_at {F : FootV} {T : Bool} {i : Nat} {p : Pl} : F.Kept T i p ↔ ∀ k, k < 3 → p.at k = -1 ∨ F.w T i p (p.at k).toNat ≤ F.lm k := by
 constructor
 ·intro h k hk
  match k, hk with
  | 0, _ => exact h.1
  | 1, _ => exact h.2.1
  | 2, _ => exact h.2.2
 ·intro h
  exact ⟨h 0 (by omega), h 1 (by omega), h 2 (by omega)⟩
end Go.Proofs.Ytmimdgjehnhnoaa

namespace Go.Proofs.Ytmimdgjehnhnoaa
open Go Go.AbsE
set_option linter.unusedSimpArgs false
set_option maxRecDepth 100000
set_option maxHeartbeats 0
set_option linter.unusedVariables false
def FootV.rain (F : FootV) (T : Bool) : List Int := F.rs.map fun r => if T then r.2 else r.1
def FootV.first (F : FootV) (T : Bool) : List Int := F.hs.map fun x => if T then x.hi else x.lo
theorem rain_get {F : FootV} {T : Bool} (d : Nat) : ((F.rain T)[d]?).getD 0 = F.rn T d := by
 unfold FootV.rain FootV.rn
 rw [List.getElem?_map]
 cases F.rs[d]? <;> rfl
theorem first_get {F : FootV} {T : Bool} {i : Nat} (hi : i < F.hs.length) : (F.first T)[i]? = some (F.st T i) := by
 unfold FootV.first FootV.st
 rw [List.getElem?_map, List.getElem?_eq_getElem hi]
 rfl
theorem w_tw {F : FootV} {T : Bool} {i : Nat} {p : Pl} : ∀ d : Nat, F.w T i p d = F.tw (F.rain T) (F.st T i) p d
 | 0 => rfl
 | d + 1 => by
  have ih := w_tw (F := F) (T := T) (i := i) (p := p) d
  unfold FootV.w FootV.tw
  rw [ih, rain_get]
theorem tw_mono {F : FootV} {R R' : List Int} {x x' : Int} {p : Pl} (hx : x ≤ x') (hR : ∀ d : Nat, (R[d]?).getD 0 ≤ (R'[d]?).getD 0) : ∀ d : Nat, F.tw R x p d ≤ F.tw R' x' p d
 | 0 => hx
 | d + 1 => by
  have ih := tw_mono (F := F) (p := p) hx hR d
  have := hR d
  unfold FootV.tw
  split <;> omega
theorem tk_kept {F : FootV} {T : Bool} {i : Nat} {p : Pl} : F.TK (F.rain T) (F.st T i) p ↔ F.Kept T i p := by
 rw [kept_at]
 unfold FootV.TK
 simp only [w_tw]
theorem rains_in {F : FootV} (O : F.Ok) (T : Bool) : ∀ x, x ∈ F.rain T → 0 ≤ x ∧ x ≤ 10 := by
 intro x hx
 obtain ⟨r, hr, rfl⟩ := List.mem_map.1 hx
 have := O.r r hr
 cases T
 ·show 0 ≤ r.1 ∧ r.1 ≤ 10
  omega
 ·show 0 ≤ r.2 ∧ r.2 ≤ 10
  omega
theorem rain_len {F : FootV} {T : Bool} : (F.rain T).length = F.rs.length := by unfold FootV.rain; rw [List.length_map]
structure Truth (F : FootV) (R fl : List Int) : Prop where
 lr : R.length = F.rs.length
 r : ∀ (k : Nat) r x, F.rs[k]? = some r → R[k]? = some x → r.1 ≤ x ∧ x ≤ r.2
 lf : fl.length = F.hs.length
 f : ∀ (k : Nat) x w, F.hs[k]? = some x → fl[k]? = some w → x.lo ≤ w ∧ w ≤ x.hi
theorem Truth.get {F : FootV} {R fl : List Int} (t : Truth F R fl) (d : Nat) : F.rn false d ≤ (R[d]?).getD 0 ∧ (R[d]?).getD 0 ≤ F.rn true d := by
 unfold FootV.rn
 have hl := t.lr
 cases e : F.rs[d]? with
 | none =>
  have : R[d]? = none := by
   rw [List.getElem?_eq_none_iff] at e ⊢
   omega
  rw [this];exact ⟨Int.le_refl _, Int.le_refl _⟩
 | some r =>
  have hd := (List.getElem?_eq_some_iff.1 e).1
  have hx : R[d]? = some (R[d]'(by omega)) := List.getElem?_eq_getElem _
  rw [hx];exact t.r d r _ e hx
theorem Truth.first {F : FootV} (O : F.Ok) {R fl : List Int} (t : Truth F R fl) {i : Nat} (hi : i < F.hs.length) : ∃ x, fl[i]? = some x ∧ F.st false i ≤ x ∧ x ≤ F.st true i ∧ 0 ≤ x ∧ x ≤ 60 := by
 have hl := t.lf
 have hx : fl[i]? = some (fl[i]'(by omega)) := List.getElem?_eq_getElem _
 have hh : F.hs[i]? = some F.hs[i] := List.getElem?_eq_getElem hi
 have h1 := t.f i _ _ hh hx
 have h2 := O.h _ (List.getElem_mem hi)
 refine ⟨_, hx, ?_⟩
 unfold FootV.st
 rw [hh]
 dsimp only
 rw [if_neg (by simp), if_pos rfl]
 omega
theorem Truth.wet {F : FootV} {R fl : List Int} (t : Truth F R fl) {i : Nat} {x : Int} (h1 : F.st false i ≤ x) (h2 : x ≤ F.st true i) {p : Pl} (d : Nat) : F.w false i p d ≤ F.tw R x p d ∧ F.tw R x p d ≤ F.w true i p d := by
 rw [w_tw, w_tw];exact ⟨tw_mono h1 (fun d => by rw [rain_get]; exact (t.get d).1) d, tw_mono h2 (fun d => by rw [rain_get]; exact (t.get d).2) d⟩
theorem Truth.keeps {F : FootV} {R fl : List Int} (t : Truth F R fl) {i : Nat} {x : Int} (h1 : F.st false i ≤ x) (h2 : x ≤ F.st true i) {p : Pl} : (F.Kept true i p → F.TK R x p) ∧ (F.TK R x p → F.Kept false i p) := by
 constructor
 ·intro h k hk
  rcases kept_at.1 h k hk with q | q
  ·exact .inl q
  ·have := (t.wet h1 h2 (p := p) (p.at k).toNat).2
   exact .inr (by omega)
 ·intro h
  refine kept_at.2 fun k hk => ?_
  rcases h k hk with q | q
  ·exact .inl q
  ·have := (t.wet h1 h2 (p := p) (p.at k).toNat).1
   exact .inr (by omega)
end Go.Proofs.Ytmimdgjehnhnoaa

namespace Go.Proofs.Ytmimdgjehnhnoaa
open Go Go.AbsE
set_option linter.unusedSimpArgs false
set_option maxRecDepth 100000
set_option maxHeartbeats 0
set_option linter.unusedVariables false
end Go.Proofs.Ytmimdgjehnhnoaa

namespace Go.Proofs.Ytmimdgjehnhnoaa
open Go Go.AbsE
set_option linter.unusedSimpArgs false
set_option maxRecDepth 100000
set_option maxHeartbeats 0
set_option linter.unusedVariables false
end Go.Proofs.Ytmimdgjehnhnoaa

namespace Go.Proofs.Ytmimdgjehnhnoaa
open Go Go.AbsE
set_option linter.unusedSimpArgs false
set_option maxRecDepth 100000
set_option maxHeartbeats 0
set_option linter.unusedVariables false
end Go.Proofs.Ytmimdgjehnhnoaa

namespace Go.Proofs.Ytmimdgjehnhnoaa
open Go Go.AbsE
set_option linter.unusedSimpArgs false
set_option maxRecDepth 100000
set_option maxHeartbeats 0
set_option linter.unusedVariables false
theorem Wet_ord {F : FootV} (O : F.Ok) {k : Nat} (hk : k < F.hs.length) {p : Pl} (hp : p.Ord F.rs.length) {d : Nat} (hd : d ≤ F.rs.length) {rsl hsl : AVal} {h : AH} (A : FootAt h F rsl hsl) :
  Runs Try.prog 14 [.agg (F.cells rsl hsl), .int .i64 (k : Nat), .agg p.cells, .int .i64 (d : Nat)] h (fun en h' => en = .ret (.tuple [.agg [.int .i64 (F.w false k p d), .int .i64 (F.w true k p d)], .int .i64 0]) ∧ Ext h h') := by
 have h1 := O.nr
 have h2 := O.nh
 have := Wet_ok A (by omega) (by omega) (k : Nat) p (d : Nat)
 unfold FootV.wetR at this
 rw [if_pos O, if_pos ⟨by omega, hp, by omega, by omega⟩, Int.toNat_natCast, Int.toNat_natCast] at this;exact this
theorem lenV {h : AH} {s : AVal} {n : Nat} {f : Nat → Int} (S : SliceOf h 1 s (ints ((List.range n).map f))) : lenA s = some n := by
 have := S.len
 rw [ints_len, List.length_map, List.length_range] at this;exact this
end Go.Proofs.Ytmimdgjehnhnoaa

set_option linter.unusedSimpArgs false
namespace Go.AbsE
open Go
section
variable {P : Program}
theorem GoE.makeSl {c : FC} {k : List AItem} {Q : AM → Prop} {all : Array Oper} {pl rest : List DOp} {tf ta : Tr AVal} {facts left : List DFact} {h : AH} {i bef d n size bytes : Nat} {tt ty el : TypeId} {pos : String} {after : Array Edge} {guard : Option (Nat × Bool)} {x y : Operand} {z : AVal}
  (hl : pl = ⟨i, bef, false, ⟨some d, .makeSlice ty x y, tt, pos, after, guard⟩, false⟩ :: rest) (hw : wantedA all ta ⟨some d, .makeSlice ty x y, tt, pos, after, guard⟩ = some true) (hu : P.underlying ty = some (.slice el)) (hx : ev ta x = some (.int .i64 (.ofNat n))) (hy : ev ta y = some (.int .i64 (.ofNat n)))
  (hs : sizeT P el = some size) (hby : bytesT P el = some bytes) (hz : zeroT P el = some z) (hzl : Nat.beq z.cells.length size = true) (hb : Nat.ble ((n + 1) * (bytes + 1)) 1000000 = true) (hleft : dropF bef facts = left) (hdn : Nat.blt d c.n = true)
  (g : ∀ h1, Ext h h1 → Has h1 h.next (.cells .plain (repl z.cells n) el) → recheck P h1 left = true ∧ GoE P c k Q all rest tf left (ta.put (pth d) (some (.slice h.next 0 n n))) h1) : GoE P c k Q all pl tf facts ta h := by
 obtain ⟨h1, q⟩ := new_some h (.cells .plain (repl z.cells n) el)
 obtain ⟨_, q2, q3⟩ := new_ext q
 obtain ⟨g1, g2⟩ := g h1 q2 q3
 refine GoE.noisy0 (v := .slice h.next 0 n n) (h1 := h1) hl hw ?_ hleft g1 ?_ g2
 ·show opMakeSlice P ta h ty x y = _
  unfold opMakeSlice
  rw [hu, hx, hy]
  have hnn : Nat.ble n n = true := Nat.ble_eq_true_of_le (Nat.le_refl _)
  simp only [hs, hby, hz, hnn, hb, hzl, cond_true, q]
 ·unfold prepD
  simp only [hdn, cond_true]
  rw [Tr.mkPut_eq]
end
end Go.AbsE

namespace Go.Proofs.Ytmimdgjehnhnoaa
open Go Go.AbsE
set_option linter.unusedSimpArgs false
set_option maxRecDepth 100000
set_option maxHeartbeats 0
set_option linter.unusedVariables false
noncomputable def opsE0 : Array Oper := ((drawnOps Try.f6)[0]?).getD #[]
theorem befsE0 : befs0 opsE0 = [0, 0, 3, 7, 15, 15, 0, 95, 255] := by kernel_rfl
theorem sizeE0 : opsE0.size = 9 := by kernel_rfl
theorem plE0_1_2_6 : planX opsE0 [0, 0, 3, 7, 15, 15, 7, 95, 255] [0, 1, 2, 3, 4, 5, 6, 7, 8] = some (mkPlan opsE0.toList [(0, 0, true, false), (1, 0, false, false), (2, 3, false, false), (3, 7, true, false), (4, 15, true, false), (5, 15, true, false), (6, 7, false, false), (7, 95, false, false), (8, 255, true, false)]) := by kernel_rfl
theorem plE0_1_6_2 : planX opsE0 [0, 0, 67, 71, 79, 79, 2, 95, 255] [0, 1, 6, 2, 3, 4, 5, 7, 8] = some (mkPlan opsE0.toList [(0, 0, true, false), (1, 0, false, false), (6, 2, false, false), (2, 67, false, false), (3, 71, true, false), (4, 79, true, false), (5, 79, true, false), (7, 95, false, false), (8, 255, true, false)]) := by kernel_rfl
theorem plE0_6_1_2 : planX opsE0 [0, 64, 67, 71, 79, 79, 0, 95, 255] [0, 6, 1, 2, 3, 4, 5, 7, 8] = some (mkPlan opsE0.toList [(0, 0, true, false), (6, 0, false, false), (1, 64, false, false), (2, 67, false, false), (3, 71, true, false), (4, 79, true, false), (5, 79, true, false), (7, 95, false, false), (8, 255, true, false)]) := by kernel_rfl
theorem altsE0 {P : Program} {c : FC} {k : List AItem} {id : Nat} {t : Tr AVal} {h : AH} {Q : AM → Prop}
  (g1_2_6 : ∀ pl, planX opsE0 [0, 0, 3, 7, 15, 15, 7, 95, 255] [0, 1, 2, 3, 4, 5, 6, 7, 8] = some pl → GoE P c k Q opsE0 pl (eraseT opsE0.toList t) [] t h)
  (g1_6_2 : ∀ pl, planX opsE0 [0, 0, 67, 71, 79, 79, 2, 95, 255] [0, 1, 6, 2, 3, 4, 5, 7, 8] = some pl → GoE P c k Q opsE0 pl (eraseT opsE0.toList t) [] t h)
  (g6_1_2 : ∀ pl, planX opsE0 [0, 64, 67, 71, 79, 79, 0, 95, 255] [0, 6, 1, 2, 3, 4, 5, 7, 8] = some pl → GoE P c k Q opsE0 pl (eraseT opsE0.toList t) [] t h) :
  Go P c (.code (.region id opsE0 true) :: k) t h Q := by
 refine Go.drawnX plE0_6_1_2 fun s hv => ?_
 have hb := fun i k hi hk => VB.before hv befsE0 i k (by rw [sizeE0]; exact hi) hk
 have h2_0 := hb 2 0 (by decide) (by decide)
 have h2_1 := hb 2 1 (by decide) (by decide)
 have h3_0 := hb 3 0 (by decide) (by decide)
 have h3_1 := hb 3 1 (by decide) (by decide)
 have h3_2 := hb 3 2 (by decide) (by decide)
 have h4_0 := hb 4 0 (by decide) (by decide)
 have h4_1 := hb 4 1 (by decide) (by decide)
 have h4_2 := hb 4 2 (by decide) (by decide)
 have h4_3 := hb 4 3 (by decide) (by decide)
 have h5_0 := hb 5 0 (by decide) (by decide)
 have h5_1 := hb 5 1 (by decide) (by decide)
 have h5_2 := hb 5 2 (by decide) (by decide)
 have h5_3 := hb 5 3 (by decide) (by decide)
 have d6_1 := VB.apart hv befsE0 6 1 (by rw [sizeE0]; decide) (by decide)
 have d6_2 := VB.apart hv befsE0 6 2 (by rw [sizeE0]; decide) (by decide)
 by_cases q6_1 : s.idxOf 6 < s.idxOf 1
 ·refine ⟨_, _, _, plE0_6_1_2, VB.alt hv befsE0 sizeE0 [(6, 1), (6, 2), (6, 3), (6, 4), (6, 5)] (by kernel_rfl) ?_, g6_1_2 _ plE0_6_1_2⟩
  intro e he
  simp only [List.mem_cons, List.not_mem_nil, or_false] at he
  rcases he with rfl | rfl | rfl | rfl | rfl <;> dsimp only <;> omega
 ·by_cases q6_2 : s.idxOf 6 < s.idxOf 2
  ·refine ⟨_, _, _, plE0_1_6_2, VB.alt hv befsE0 sizeE0 [(6, 2), (6, 3), (6, 4), (6, 5), (1, 6)] (by kernel_rfl) ?_, g1_6_2 _ plE0_1_6_2⟩
   intro e he
   simp only [List.mem_cons, List.not_mem_nil, or_false] at he
   rcases he with rfl | rfl | rfl | rfl | rfl <;> dsimp only <;> omega
  ·refine ⟨_, _, _, plE0_1_2_6, VB.alt hv befsE0 sizeE0 [(0, 6), (1, 6), (2, 6)] (by kernel_rfl) ?_, g1_2_6 _ plE0_1_2_6⟩
   intro e he
   simp only [List.mem_cons, List.not_mem_nil, or_false] at he
   rcases he with rfl | rfl | rfl <;> dsimp only <;> omega
noncomputable def opsE1 : Array Oper := ((drawnOps Try.f6)[1]?).getD #[]
theorem befsE1 : befs0 opsE1 = [0, 0, 2, 6, 0, 31, 63, 127, 127, 0, 767, 2047] := by kernel_rfl
theorem sizeE1 : opsE1.size = 12 := by kernel_rfl
theorem plE1_4_5_9 : planX opsE1 [0, 0, 2, 6, 0, 31, 63, 127, 127, 63, 767, 2047] [0, 1, 2, 3, 4, 5, 6, 7, 8, 9, 10, 11] = some (mkPlan opsE1.toList [(0, 0, true, false), (1, 0, true, false), (2, 2, true, false), (3, 6, true, false), (4, 0, false, false), (5, 31, false, false), (6, 63, true, false), (7, 127, true, false), (8, 127, true, false), (9, 63, false, false), (10, 767, false, false), (11, 2047, true, false)]) := by kernel_rfl
theorem plE1_4_9_5 : planX opsE1 [0, 0, 2, 6, 0, 543, 575, 639, 639, 16, 767, 2047] [0, 1, 2, 3, 4, 9, 5, 6, 7, 8, 10, 11] = some (mkPlan opsE1.toList [(0, 0, true, false), (1, 0, true, false), (2, 2, true, false), (3, 6, true, false), (4, 0, false, false), (9, 16, false, false), (5, 543, false, false), (6, 575, true, false), (7, 639, true, false), (8, 639, true, false), (10, 767, false, false), (11, 2047, true, false)]) := by kernel_rfl
theorem plE1_9_4_5 : planX opsE1 [0, 0, 2, 6, 512, 543, 575, 639, 639, 0, 767, 2047] [0, 1, 2, 3, 9, 4, 5, 6, 7, 8, 10, 11] = some (mkPlan opsE1.toList [(0, 0, true, false), (1, 0, true, false), (2, 2, true, false), (3, 6, true, false), (9, 0, false, false), (4, 512, false, false), (5, 543, false, false), (6, 575, true, false), (7, 639, true, false), (8, 639, true, false), (10, 767, false, false), (11, 2047, true, false)]) := by kernel_rfl
theorem altsE1 {P : Program} {c : FC} {k : List AItem} {id : Nat} {t : Tr AVal} {h : AH} {Q : AM → Prop}
  (g4_5_9 : ∀ pl, planX opsE1 [0, 0, 2, 6, 0, 31, 63, 127, 127, 63, 767, 2047] [0, 1, 2, 3, 4, 5, 6, 7, 8, 9, 10, 11] = some pl → GoE P c k Q opsE1 pl (eraseT opsE1.toList t) [] t h)
  (g4_9_5 : ∀ pl, planX opsE1 [0, 0, 2, 6, 0, 543, 575, 639, 639, 16, 767, 2047] [0, 1, 2, 3, 4, 9, 5, 6, 7, 8, 10, 11] = some pl → GoE P c k Q opsE1 pl (eraseT opsE1.toList t) [] t h)
  (g9_4_5 : ∀ pl, planX opsE1 [0, 0, 2, 6, 512, 543, 575, 639, 639, 0, 767, 2047] [0, 1, 2, 3, 9, 4, 5, 6, 7, 8, 10, 11] = some pl → GoE P c k Q opsE1 pl (eraseT opsE1.toList t) [] t h) :
  Go P c (.code (.region id opsE1 true) :: k) t h Q := by
 refine Go.drawnX plE1_9_4_5 fun s hv => ?_
 have hb := fun i k hi hk => VB.before hv befsE1 i k (by rw [sizeE1]; exact hi) hk
 have h2_1 := hb 2 1 (by decide) (by decide)
 have h3_1 := hb 3 1 (by decide) (by decide)
 have h3_2 := hb 3 2 (by decide) (by decide)
 have h5_0 := hb 5 0 (by decide) (by decide)
 have h5_1 := hb 5 1 (by decide) (by decide)
 have h5_2 := hb 5 2 (by decide) (by decide)
 have h5_3 := hb 5 3 (by decide) (by decide)
 have h5_4 := hb 5 4 (by decide) (by decide)
 have h6_0 := hb 6 0 (by decide) (by decide)
 have h6_1 := hb 6 1 (by decide) (by decide)
 have h6_2 := hb 6 2 (by decide) (by decide)
 have h6_3 := hb 6 3 (by decide) (by decide)
 have h6_4 := hb 6 4 (by decide) (by decide)
 have h6_5 := hb 6 5 (by decide) (by decide)
 have h7_0 := hb 7 0 (by decide) (by decide)
 have h7_1 := hb 7 1 (by decide) (by decide)
 have h7_2 := hb 7 2 (by decide) (by decide)
 have h7_3 := hb 7 3 (by decide) (by decide)
 have h7_4 := hb 7 4 (by decide) (by decide)
 have h7_5 := hb 7 5 (by decide) (by decide)
 have h7_6 := hb 7 6 (by decide) (by decide)
 have h8_0 := hb 8 0 (by decide) (by decide)
 have h8_1 := hb 8 1 (by decide) (by decide)
 have h8_2 := hb 8 2 (by decide) (by decide)
 have h8_3 := hb 8 3 (by decide) (by decide)
 have h8_4 := hb 8 4 (by decide) (by decide)
 have h8_5 := hb 8 5 (by decide) (by decide)
 have h8_6 := hb 8 6 (by decide) (by decide)
 have d9_4 := VB.apart hv befsE1 9 4 (by rw [sizeE1]; decide) (by decide)
 have d9_5 := VB.apart hv befsE1 9 5 (by rw [sizeE1]; decide) (by decide)
 by_cases q9_4 : s.idxOf 9 < s.idxOf 4
 ·refine ⟨_, _, _, plE1_9_4_5, VB.alt hv befsE1 sizeE1 [(9, 4), (9, 5), (9, 6), (9, 7), (9, 8)] (by kernel_rfl) ?_, g9_4_5 _ plE1_9_4_5⟩
  intro e he
  simp only [List.mem_cons, List.not_mem_nil, or_false] at he
  rcases he with rfl | rfl | rfl | rfl | rfl <;> dsimp only <;> omega
 ·by_cases q9_5 : s.idxOf 9 < s.idxOf 5
  ·refine ⟨_, _, _, plE1_4_9_5, VB.alt hv befsE1 sizeE1 [(9, 5), (9, 6), (9, 7), (9, 8), (4, 9)] (by kernel_rfl) ?_, g4_9_5 _ plE1_4_9_5⟩
   intro e he
   simp only [List.mem_cons, List.not_mem_nil, or_false] at he
   rcases he with rfl | rfl | rfl | rfl | rfl <;> dsimp only <;> omega
  ·refine ⟨_, _, _, plE1_4_5_9, VB.alt hv befsE1 sizeE1 [(0, 9), (1, 9), (2, 9), (3, 9), (4, 9), (5, 9)] (by kernel_rfl) ?_, g4_5_9 _ plE1_4_5_9⟩
   intro e he
   simp only [List.mem_cons, List.not_mem_nil, or_false] at he
   rcases he with rfl | rfl | rfl | rfl | rfl | rfl <;> dsimp only <;> omega
noncomputable def opsE3 : Array Oper := ((drawnOps Try.f6)[3]?).getD #[]
theorem befsE3 : befs0 opsE3 = [0, 1, 0, 4, 12, 31, 0, 0, 128, 448, 0, 2047, 4095] := by kernel_rfl
theorem sizeE3 : opsE3.size = 13 := by kernel_rfl
theorem plE3_9_10 : planX opsE3 [0, 1, 0, 4, 12, 31, 0, 0, 128, 448, 960, 2047, 4095] [0, 1, 2, 3, 4, 5, 6, 7, 8, 9, 10, 11, 12] = some (mkPlan opsE3.toList [(0, 0, true, false), (1, 1, true, false), (2, 0, true, false), (3, 4, true, false), (4, 12, true, false), (5, 31, true, false), (6, 0, true, false), (7, 0, true, false), (8, 128, true, false), (9, 448, false, false), (10, 960, false, false), (11, 2047, true, false), (12, 4095, false, false)]) := by kernel_rfl
theorem plE3_10_9 : planX opsE3 [0, 1, 0, 4, 12, 31, 0, 0, 128, 1472, 0, 2047, 4095] [0, 1, 2, 3, 4, 5, 6, 7, 8, 10, 9, 11, 12] = some (mkPlan opsE3.toList [(0, 0, true, false), (1, 1, true, false), (2, 0, true, false), (3, 4, true, false), (4, 12, true, false), (5, 31, true, false), (6, 0, true, false), (7, 0, true, false), (8, 128, true, false), (10, 0, false, false), (9, 1472, false, false), (11, 2047, true, false), (12, 4095, false, false)]) := by kernel_rfl
theorem altsE3 {P : Program} {c : FC} {k : List AItem} {id : Nat} {t : Tr AVal} {h : AH} {Q : AM → Prop}
  (g9_10 : ∀ pl, planX opsE3 [0, 1, 0, 4, 12, 31, 0, 0, 128, 448, 960, 2047, 4095] [0, 1, 2, 3, 4, 5, 6, 7, 8, 9, 10, 11, 12] = some pl → GoE P c k Q opsE3 pl (eraseT opsE3.toList t) [] t h)
  (g10_9 : ∀ pl, planX opsE3 [0, 1, 0, 4, 12, 31, 0, 0, 128, 1472, 0, 2047, 4095] [0, 1, 2, 3, 4, 5, 6, 7, 8, 10, 9, 11, 12] = some pl → GoE P c k Q opsE3 pl (eraseT opsE3.toList t) [] t h) :
  Go P c (.code (.region id opsE3 true) :: k) t h Q := by
 refine Go.drawnX plE3_10_9 fun s hv => ?_
 have hb := fun i k hi hk => VB.before hv befsE3 i k (by rw [sizeE3]; exact hi) hk
 have h8_7 := hb 8 7 (by decide) (by decide)
 have h9_6 := hb 9 6 (by decide) (by decide)
 have h9_7 := hb 9 7 (by decide) (by decide)
 have h9_8 := hb 9 8 (by decide) (by decide)
 have d10_9 := VB.apart hv befsE3 10 9 (by rw [sizeE3]; decide) (by decide)
 by_cases q10_9 : s.idxOf 10 < s.idxOf 9
 ·refine ⟨_, _, _, plE3_10_9, VB.alt hv befsE3 sizeE3 [(10, 9)] (by kernel_rfl) ?_, g10_9 _ plE3_10_9⟩
  intro e he
  simp only [List.mem_cons, List.not_mem_nil, or_false] at he
  rcases he with rfl <;> dsimp only <;> omega
 ·refine ⟨_, _, _, plE3_9_10, VB.alt hv befsE3 sizeE3 [(6, 10), (7, 10), (8, 10), (9, 10)] (by kernel_rfl) ?_, g9_10 _ plE3_9_10⟩
  intro e he
  simp only [List.mem_cons, List.not_mem_nil, or_false] at he
  rcases he with rfl | rfl | rfl | rfl <;> dsimp only <;> omega
noncomputable def opsE4 : Array Oper := ((drawnOps Try.f6)[4]?).getD #[]
theorem befsE4 : befs0 opsE4 = [0, 1, 0, 7, 0, 0, 63, 127] := by kernel_rfl
theorem sizeE4 : opsE4.size = 8 := by kernel_rfl
theorem plE4_1_3_4_5 : planX opsE4 [0, 1, 0, 7, 15, 31, 63, 127] [0, 2, 1, 3, 4, 5, 6, 7] = some (mkPlan opsE4.toList [(0, 0, true, false), (2, 0, true, false), (1, 1, false, false), (3, 7, false, false), (4, 15, false, false), (5, 31, false, false), (6, 63, false, false), (7, 127, false, false)]) := by kernel_rfl
theorem plE4_1_3_5_4 : planX opsE4 [0, 1, 0, 7, 47, 15, 63, 127] [0, 2, 1, 3, 5, 4, 6, 7] = some (mkPlan opsE4.toList [(0, 0, true, false), (2, 0, true, false), (1, 1, false, false), (3, 7, false, false), (5, 15, false, false), (4, 47, false, false), (6, 63, false, false), (7, 127, false, false)]) := by kernel_rfl
theorem plE4_1_4_3_5 : planX opsE4 [0, 1, 0, 23, 3, 31, 63, 127] [0, 2, 1, 4, 3, 5, 6, 7] = some (mkPlan opsE4.toList [(0, 0, true, false), (2, 0, true, false), (1, 1, false, false), (4, 3, false, false), (3, 23, false, false), (5, 31, false, false), (6, 63, false, false), (7, 127, false, false)]) := by kernel_rfl
theorem plE4_1_4_5_3 : planX opsE4 [0, 1, 0, 55, 3, 19, 63, 127] [0, 2, 1, 4, 5, 3, 6, 7] = some (mkPlan opsE4.toList [(0, 0, true, false), (2, 0, true, false), (1, 1, false, false), (4, 3, false, false), (5, 19, false, false), (3, 55, false, false), (6, 63, false, false), (7, 127, false, false)]) := by kernel_rfl
theorem plE4_1_5_3_4 : planX opsE4 [0, 1, 0, 39, 47, 3, 63, 127] [0, 2, 1, 5, 3, 4, 6, 7] = some (mkPlan opsE4.toList [(0, 0, true, false), (2, 0, true, false), (1, 1, false, false), (5, 3, false, false), (3, 39, false, false), (4, 47, false, false), (6, 63, false, false), (7, 127, false, false)]) := by kernel_rfl
theorem plE4_1_5_4_3 : planX opsE4 [0, 1, 0, 55, 35, 3, 63, 127] [0, 2, 1, 5, 4, 3, 6, 7] = some (mkPlan opsE4.toList [(0, 0, true, false), (2, 0, true, false), (1, 1, false, false), (5, 3, false, false), (4, 35, false, false), (3, 55, false, false), (6, 63, false, false), (7, 127, false, false)]) := by kernel_rfl
theorem plE4_4_1_3_5 : planX opsE4 [0, 17, 0, 23, 0, 31, 63, 127] [0, 2, 4, 1, 3, 5, 6, 7] = some (mkPlan opsE4.toList [(0, 0, true, false), (2, 0, true, false), (4, 0, false, false), (1, 17, false, false), (3, 23, false, false), (5, 31, false, false), (6, 63, false, false), (7, 127, false, false)]) := by kernel_rfl
theorem plE4_4_1_5_3 : planX opsE4 [0, 17, 0, 55, 0, 19, 63, 127] [0, 2, 4, 1, 5, 3, 6, 7] = some (mkPlan opsE4.toList [(0, 0, true, false), (2, 0, true, false), (4, 0, false, false), (1, 17, false, false), (5, 19, false, false), (3, 55, false, false), (6, 63, false, false), (7, 127, false, false)]) := by kernel_rfl
theorem plE4_4_5_1_3 : planX opsE4 [0, 49, 0, 55, 0, 16, 63, 127] [0, 2, 4, 5, 1, 3, 6, 7] = some (mkPlan opsE4.toList [(0, 0, true, false), (2, 0, true, false), (4, 0, false, false), (5, 16, false, false), (1, 49, false, false), (3, 55, false, false), (6, 63, false, false), (7, 127, false, false)]) := by kernel_rfl
theorem plE4_5_1_3_4 : planX opsE4 [0, 33, 0, 39, 47, 0, 63, 127] [0, 2, 5, 1, 3, 4, 6, 7] = some (mkPlan opsE4.toList [(0, 0, true, false), (2, 0, true, false), (5, 0, false, false), (1, 33, false, false), (3, 39, false, false), (4, 47, false, false), (6, 63, false, false), (7, 127, false, false)]) := by kernel_rfl
theorem plE4_5_1_4_3 : planX opsE4 [0, 33, 0, 55, 35, 0, 63, 127] [0, 2, 5, 1, 4, 3, 6, 7] = some (mkPlan opsE4.toList [(0, 0, true, false), (2, 0, true, false), (5, 0, false, false), (1, 33, false, false), (4, 35, false, false), (3, 55, false, false), (6, 63, false, false), (7, 127, false, false)]) := by kernel_rfl
theorem plE4_5_4_1_3 : planX opsE4 [0, 49, 0, 55, 32, 0, 63, 127] [0, 2, 5, 4, 1, 3, 6, 7] = some (mkPlan opsE4.toList [(0, 0, true, false), (2, 0, true, false), (5, 0, false, false), (4, 32, false, false), (1, 49, false, false), (3, 55, false, false), (6, 63, false, false), (7, 127, false, false)]) := by kernel_rfl
theorem altsE4 {P : Program} {c : FC} {k : List AItem} {id : Nat} {t : Tr AVal} {h : AH} {Q : AM → Prop}
  (g1_3_4_5 : ∀ pl, planX opsE4 [0, 1, 0, 7, 15, 31, 63, 127] [0, 2, 1, 3, 4, 5, 6, 7] = some pl → GoE P c k Q opsE4 pl (eraseT opsE4.toList t) [] t h)
  (g1_3_5_4 : ∀ pl, planX opsE4 [0, 1, 0, 7, 47, 15, 63, 127] [0, 2, 1, 3, 5, 4, 6, 7] = some pl → GoE P c k Q opsE4 pl (eraseT opsE4.toList t) [] t h)
  (g1_4_3_5 : ∀ pl, planX opsE4 [0, 1, 0, 23, 3, 31, 63, 127] [0, 2, 1, 4, 3, 5, 6, 7] = some pl → GoE P c k Q opsE4 pl (eraseT opsE4.toList t) [] t h)
  (g1_4_5_3 : ∀ pl, planX opsE4 [0, 1, 0, 55, 3, 19, 63, 127] [0, 2, 1, 4, 5, 3, 6, 7] = some pl → GoE P c k Q opsE4 pl (eraseT opsE4.toList t) [] t h)
  (g1_5_3_4 : ∀ pl, planX opsE4 [0, 1, 0, 39, 47, 3, 63, 127] [0, 2, 1, 5, 3, 4, 6, 7] = some pl → GoE P c k Q opsE4 pl (eraseT opsE4.toList t) [] t h)
  (g1_5_4_3 : ∀ pl, planX opsE4 [0, 1, 0, 55, 35, 3, 63, 127] [0, 2, 1, 5, 4, 3, 6, 7] = some pl → GoE P c k Q opsE4 pl (eraseT opsE4.toList t) [] t h)
  (g4_1_3_5 : ∀ pl, planX opsE4 [0, 17, 0, 23, 0, 31, 63, 127] [0, 2, 4, 1, 3, 5, 6, 7] = some pl → GoE P c k Q opsE4 pl (eraseT opsE4.toList t) [] t h)
  (g4_1_5_3 : ∀ pl, planX opsE4 [0, 17, 0, 55, 0, 19, 63, 127] [0, 2, 4, 1, 5, 3, 6, 7] = some pl → GoE P c k Q opsE4 pl (eraseT opsE4.toList t) [] t h)
  (g4_5_1_3 : ∀ pl, planX opsE4 [0, 49, 0, 55, 0, 16, 63, 127] [0, 2, 4, 5, 1, 3, 6, 7] = some pl → GoE P c k Q opsE4 pl (eraseT opsE4.toList t) [] t h)
  (g5_1_3_4 : ∀ pl, planX opsE4 [0, 33, 0, 39, 47, 0, 63, 127] [0, 2, 5, 1, 3, 4, 6, 7] = some pl → GoE P c k Q opsE4 pl (eraseT opsE4.toList t) [] t h)
  (g5_1_4_3 : ∀ pl, planX opsE4 [0, 33, 0, 55, 35, 0, 63, 127] [0, 2, 5, 1, 4, 3, 6, 7] = some pl → GoE P c k Q opsE4 pl (eraseT opsE4.toList t) [] t h)
  (g5_4_1_3 : ∀ pl, planX opsE4 [0, 49, 0, 55, 32, 0, 63, 127] [0, 2, 5, 4, 1, 3, 6, 7] = some pl → GoE P c k Q opsE4 pl (eraseT opsE4.toList t) [] t h) :
  Go P c (.code (.region id opsE4 true) :: k) t h Q := by
 refine Go.drawnX plE4_5_4_1_3 fun s hv => ?_
 have hb := fun i k hi hk => VB.before hv befsE4 i k (by rw [sizeE4]; exact hi) hk
 have h1_0 := hb 1 0 (by decide) (by decide)
 have h3_0 := hb 3 0 (by decide) (by decide)
 have h3_1 := hb 3 1 (by decide) (by decide)
 have h3_2 := hb 3 2 (by decide) (by decide)
 have d4_1 := VB.apart hv befsE4 4 1 (by rw [sizeE4]; decide) (by decide)
 have d4_3 := VB.apart hv befsE4 4 3 (by rw [sizeE4]; decide) (by decide)
 have d5_1 := VB.apart hv befsE4 5 1 (by rw [sizeE4]; decide) (by decide)
 have d5_3 := VB.apart hv befsE4 5 3 (by rw [sizeE4]; decide) (by decide)
 have d4_5 := VB.apart hv befsE4 4 5 (by rw [sizeE4]; decide) (by decide)
 by_cases q4_1 : s.idxOf 4 < s.idxOf 1
 ·by_cases q5_1 : s.idxOf 5 < s.idxOf 1
  ·by_cases q4_5 : s.idxOf 4 < s.idxOf 5
   ·refine ⟨_, _, _, plE4_4_5_1_3, VB.alt hv befsE4 sizeE4 [(4, 1), (5, 1), (4, 3), (5, 3), (4, 5)] (by kernel_rfl) ?_, g4_5_1_3 _ plE4_4_5_1_3⟩
    intro e he
    simp only [List.mem_cons, List.not_mem_nil, or_false] at he
    rcases he with rfl | rfl | rfl | rfl | rfl <;> dsimp only <;> omega
   ·refine ⟨_, _, _, plE4_5_4_1_3, VB.alt hv befsE4 sizeE4 [(4, 1), (5, 1), (4, 3), (5, 3), (5, 4)] (by kernel_rfl) ?_, g5_4_1_3 _ plE4_5_4_1_3⟩
    intro e he
    simp only [List.mem_cons, List.not_mem_nil, or_false] at he
    rcases he with rfl | rfl | rfl | rfl | rfl <;> dsimp only <;> omega
  ·by_cases q5_3 : s.idxOf 5 < s.idxOf 3
   ·refine ⟨_, _, _, plE4_4_1_5_3, VB.alt hv befsE4 sizeE4 [(4, 1), (4, 3), (5, 3), (0, 5), (1, 5), (4, 5)] (by kernel_rfl) ?_, g4_1_5_3 _ plE4_4_1_5_3⟩
    intro e he
    simp only [List.mem_cons, List.not_mem_nil, or_false] at he
    rcases he with rfl | rfl | rfl | rfl | rfl | rfl <;> dsimp only <;> omega
   ·refine ⟨_, _, _, plE4_4_1_3_5, VB.alt hv befsE4 sizeE4 [(4, 1), (4, 3), (0, 5), (1, 5), (2, 5), (3, 5), (4, 5)] (by kernel_rfl) ?_, g4_1_3_5 _ plE4_4_1_3_5⟩
    intro e he
    simp only [List.mem_cons, List.not_mem_nil, or_false] at he
    rcases he with rfl | rfl | rfl | rfl | rfl | rfl | rfl <;> dsimp only <;> omega
 ·by_cases q4_3 : s.idxOf 4 < s.idxOf 3
  ·by_cases q5_1 : s.idxOf 5 < s.idxOf 1
   ·refine ⟨_, _, _, plE4_5_1_4_3, VB.alt hv befsE4 sizeE4 [(5, 1), (4, 3), (5, 3), (0, 4), (1, 4), (5, 4)] (by kernel_rfl) ?_, g5_1_4_3 _ plE4_5_1_4_3⟩
    intro e he
    simp only [List.mem_cons, List.not_mem_nil, or_false] at he
    rcases he with rfl | rfl | rfl | rfl | rfl | rfl <;> dsimp only <;> omega
   ·by_cases q5_3 : s.idxOf 5 < s.idxOf 3
    ·by_cases q4_5 : s.idxOf 4 < s.idxOf 5
     ·refine ⟨_, _, _, plE4_1_4_5_3, VB.alt hv befsE4 sizeE4 [(4, 3), (5, 3), (0, 4), (1, 4), (0, 5), (1, 5), (4, 5)] (by kernel_rfl) ?_, g1_4_5_3 _ plE4_1_4_5_3⟩
      intro e he
      simp only [List.mem_cons, List.not_mem_nil, or_false] at he
      rcases he with rfl | rfl | rfl | rfl | rfl | rfl | rfl <;> dsimp only <;> omega
     ·refine ⟨_, _, _, plE4_1_5_4_3, VB.alt hv befsE4 sizeE4 [(4, 3), (5, 3), (0, 4), (1, 4), (5, 4), (0, 5), (1, 5)] (by kernel_rfl) ?_, g1_5_4_3 _ plE4_1_5_4_3⟩
      intro e he
      simp only [List.mem_cons, List.not_mem_nil, or_false] at he
      rcases he with rfl | rfl | rfl | rfl | rfl | rfl | rfl <;> dsimp only <;> omega
    ·refine ⟨_, _, _, plE4_1_4_3_5, VB.alt hv befsE4 sizeE4 [(4, 3), (0, 4), (1, 4), (0, 5), (1, 5), (2, 5), (3, 5), (4, 5)] (by kernel_rfl) ?_, g1_4_3_5 _ plE4_1_4_3_5⟩
     intro e he
     simp only [List.mem_cons, List.not_mem_nil, or_false] at he
     rcases he with rfl | rfl | rfl | rfl | rfl | rfl | rfl | rfl <;> dsimp only <;> omega
  ·by_cases q5_1 : s.idxOf 5 < s.idxOf 1
   ·refine ⟨_, _, _, plE4_5_1_3_4, VB.alt hv befsE4 sizeE4 [(5, 1), (5, 3), (0, 4), (1, 4), (2, 4), (3, 4), (5, 4)] (by kernel_rfl) ?_, g5_1_3_4 _ plE4_5_1_3_4⟩
    intro e he
    simp only [List.mem_cons, List.not_mem_nil, or_false] at he
    rcases he with rfl | rfl | rfl | rfl | rfl | rfl | rfl <;> dsimp only <;> omega
   ·by_cases q5_3 : s.idxOf 5 < s.idxOf 3
    ·refine ⟨_, _, _, plE4_1_5_3_4, VB.alt hv befsE4 sizeE4 [(5, 3), (0, 4), (1, 4), (2, 4), (3, 4), (5, 4), (0, 5), (1, 5)] (by kernel_rfl) ?_, g1_5_3_4 _ plE4_1_5_3_4⟩
     intro e he
     simp only [List.mem_cons, List.not_mem_nil, or_false] at he
     rcases he with rfl | rfl | rfl | rfl | rfl | rfl | rfl | rfl <;> dsimp only <;> omega
    ·by_cases q4_5 : s.idxOf 4 < s.idxOf 5
     ·refine ⟨_, _, _, plE4_1_3_4_5, VB.alt hv befsE4 sizeE4 [(0, 4), (1, 4), (2, 4), (3, 4), (0, 5), (1, 5), (2, 5), (3, 5), (4, 5)] (by kernel_rfl) ?_, g1_3_4_5 _ plE4_1_3_4_5⟩
      intro e he
      simp only [List.mem_cons, List.not_mem_nil, or_false] at he
      rcases he with rfl | rfl | rfl | rfl | rfl | rfl | rfl | rfl | rfl <;> dsimp only <;> omega
     ·refine ⟨_, _, _, plE4_1_3_5_4, VB.alt hv befsE4 sizeE4 [(0, 4), (1, 4), (2, 4), (3, 4), (5, 4), (0, 5), (1, 5), (2, 5), (3, 5)] (by kernel_rfl) ?_, g1_3_5_4 _ plE4_1_3_5_4⟩
      intro e he
      simp only [List.mem_cons, List.not_mem_nil, or_false] at he
      rcases he with rfl | rfl | rfl | rfl | rfl | rfl | rfl | rfl | rfl <;> dsimp only <;> omega
end Go.Proofs.Ytmimdgjehnhnoaa
