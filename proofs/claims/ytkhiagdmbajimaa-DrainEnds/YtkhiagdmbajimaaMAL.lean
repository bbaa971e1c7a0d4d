import Derived.Test.YtkhiagdmbajimaaMAK
import Derived.Test.YtkhiagdmbajimaaMAG
namespace Go.Proofs.Ytkhiagdmbajimaa
open Go Go.AbsE
set_option linter.unusedSimpArgs false
set_option maxRecDepth 100000
set_option maxHeartbeats 0
set_option linter.unusedVariables false
theorem fill1 {d : AVal} (h : d.cells = [d]) : aFillA (fun i => [(0,1)][i]?) (AVal.agg [AVal.nilslice]).cells [(0, d)] = some [d] := by
 unfold aFillA
 simp only [List.getElem?_cons_zero, h]
 rfl
theorem fill2 {x b : AVal} (hx : x.cells = [x]) (h : b.cells = [b]) : aFillA (fun i => [(0,1),(1,1)][i]?) (AVal.agg [AVal.nilslice, .nilslice]).cells [(0, x), (1, b)] = some [x, b] := by
 unfold aFillA
 simp only [List.getElem?_cons_zero, hx]
 show (match splice [AVal.nilslice, .nilslice] 0 [x] with | some cs => _ | none => none) = _
 unfold aFillA
 simp [splice, h]
 rfl
theorem repl_ints : ∀ n : Nat, repl [AVal.int .i64 0] n = i64s (List.replicate n 0)
 | 0 => rfl
 | n + 1 => by
  show [AVal.int .i64 0] ++ repl [AVal.int .i64 0] n = _
  rw [repl_ints n]
  rfl
def ints (l : List Nat) : List Int := l.map Int.ofNat
def upC (c : List Nat) (i : Nat) : List Int := ints (c.take i) ++ List.replicate (c.length - i) 0
theorem upC_zero (c : List Nat) : upC c 0 = List.replicate c.length 0 := by unfold upC ints; simp
theorem upC_all (c : List Nat) : upC c c.length = ints c := by unfold upC; simp [ints]
theorem upC_len {c : List Nat} {i : Nat} (hi : i ≤ c.length) : (upC c i).length = c.length := by unfold upC ints; simp; omega
theorem upC_set {c : List Nat} {i x : Nat} (hx : c[i]? = some x) : (upC c i).set i (x : Int) = upC c (i + 1) := by
 have hl := (List.getElem?_eq_some_iff.1 hx).1
 unfold upC ints
 rw [List.take_add_one, hx, Option.toList_some, List.map_append]
 have h1 : (List.map Int.ofNat (c.take i)).length = i := by rw [List.length_map, List.length_take]; omega
 rw [List.set_append_right _ _ (by omega), h1, Nat.sub_self, show c.length - i = (c.length - (i + 1)) + 1 by omega, List.replicate_succ, List.set_cons_zero, List.append_assoc]
 rfl
theorem splice_int {l : List Int} {i : Nat} (hi : i < l.length) (v : Int) : splice (i64s l) (0 + i * 1) (AVal.int .i64 v).cells = some (i64s (l.set i v)) := by
 rw [Nat.zero_add, Nat.mul_one]
 show splice _ _ [_] = _
 rw [splice_at (by rw [i64s_len]; exact hi)]
 unfold i64s
 rw [← List.map_set]
theorem dugOf_ok {b d r s : AVal} {h : AH} {D : DrainV} (A : DrainAt h D b d r s) : Runs Try.prog 80 [.agg (dC b d r s)] h (fun en h' => en = .ret (.agg [d]) ∧ Ext h h') := by
 have hsm := A.ds.same
 have hcl := A.ds.scal
 unfold dC
 have e0 : Ext h h := Ext.refl _
 refine Runs.intro aFunc80 rfl rfl rfl rfl fun rest => ?_;apply gS;refine gR rfl ?_;refine GoR.box rfl rfl rfl rfl rfl rfl fun h0 x0 f0 => ?_;have := e0.1;replace e0 := e0.trans x0;have := f0.1;refine GoR.alloc rfl rfl rfl zt104 rfl rfl fun h1 x1 f1 => ?_;have := e0.1;have := f0.1;replace f0 := f0.ext x1;replace e0 := e0.trans x1;have := f1.1;apply gE;apply gS;refine gR rfl ?_;refine gO rfl rfl (fa71_1 rfl) rfl ?_;refine gO rfl rfl (ld26 rfl f0 rfl) rfl ?_;refine gO rfl rfl (aOp_build (ps := [(0, d)]) (cs := [d]) zt104 hu104 pl104 rfl (fill1 hcl.2)) rfl ?_;refine GoR.store rfl rfl rfl rfl rfl rfl f1 rfl sz104 rfl hcl.1 rfl fun h2 u2 => ?_;replace f1 := u2.has f1;replace e0 := e0.upd u2 (by omega);apply gE;exact gV (ret_end (aResult_of Try.func80 rfl (aResults_cell rfl f1 (inCells_agg ag104 sz104 rfl))) ⟨rfl, e0⟩)
theorem scal2 {x y : AVal} (h1 : scalars [x] = true) (h2 : scalars [y] = true) : scalars [x, y] = true := by
 unfold scalars at *
 revert h1
 cases scalar x with
 | true => intro _; exact h2
 | false => intro h1; cases h1
structure CrsAt (h : AH) (lo : Nat) (c : List Nat) (t : AVal) : Prop where
 blk : ∃ bt, t = .slice bt 0 c.length c.length ∧ lo ≤ bt ∧ Has h bt (.cells .plain (i64s (ints c)) 3)
theorem CrsAt.ext {h h' : AH} {lo : Nat} {c : List Nat} {t : AVal} (k : CrsAt h lo c t) (e : Ext h h') : CrsAt h' lo c t := ⟨by
 obtain ⟨bt, k1, k2, k3⟩ := k.blk
 exact ⟨bt, k1, k2, k3.ext e⟩⟩
theorem CrsAt.sl {h : AH} {lo : Nat} {c : List Nat} {t : AVal} (k : CrsAt h lo c t) : SliceOf h 1 t ((ints c).map fun x => [AVal.int .i64 x]) := by
 obtain ⟨bt, rfl, k2, k3⟩ := k.blk
 exact lit_slice (by unfold ints; simp) k3
theorem course_ok {D : DrainV} (O : D.Ok) {b d r s iv : AVal} {J : Nat → Nat → Bool} {l : List Int} (hl : l.length = D.bs.length) {h : AH} (A : DrainAt h D b d r s) (JI : JoinI iv J h) :
  Runs Try.prog 91 [.agg (dC b d r s), iv, .agg (i64s (lv5 l))] h (fun en h' => ∃ t, en = .ret (.agg [t, b]) ∧ Ext h h' ∧ CrsAt h' h.next ((List.range D.bs.length).map fun a => lowV (J a) l D.bs.length a) t) := by
 have hnb := O.nb
 have hl1 := A.bs.len
 rw [List.length_map] at hl1
 have hsm := A.same
 have hsm2 := JI.same
 have hsm3 := A.bs.same
 have hlen := lv5_len (l := l) (by omega)
 have hlw := fun h' e (a : Nat) ha => lowest_ok O (b := b) (d := d) (r := r) (s := s) (iv := iv) (J := J) hl (a := a) ha (h := h') (A.ext e) (JI.ext e)
 obtain ⟨n, hn⟩ : ∃ n, D.bs.length = n := ⟨_, rfl⟩
 obtain ⟨c, hc⟩ : ∃ c, ((List.range D.bs.length).map fun a => lowV (J a) l D.bs.length a) = c := ⟨_, rfl⟩
 have hcl : c.length = n := by rw [← hc, ← hn]; simp
 have hca : ∀ i, i < n → c[i]? = some (lowV (J i) l D.bs.length i) := fun i hi => by
  rw [← hc, List.getElem?_map, List.getElem?_range (by omega)]
  rfl
 rw [hc];rw [hn] at hl1 hnb hlw hca
 have hz := repl_ints n
 unfold dC at *
 have hbs := A.bs.scal
 have hsc : ∀ bt, scalars [.slice bt 0 n n, b] = true := fun bt => scal2 rfl hbs.1
 have hu0 := upC_zero c
 rw [hcl] at hu0
 have e0 : Ext h h := Ext.refl _
 refine Runs.intro aFunc91 rfl rfl rfl rfl fun rest => ?_;apply gS;refine gR rfl ?_;refine GoR.box rfl rfl rfl rfl rfl rfl fun h0 x0 f0 => ?_;have := e0.1;replace e0 := e0.trans x0;have := f0.1;refine GoR.box rfl rfl rfl rfl rfl rfl fun h1 x1 f1 => ?_;have := e0.1;have := f0.1;replace f0 := f0.ext x1;replace e0 := e0.trans x1;have := f1.1;refine GoR.alloc rfl rfl rfl zt79 rfl rfl fun h2 x2 f2 => ?_;have := e0.1;have := f1.1;have := f0.1;replace f1 := f1.ext x2;replace f0 := f0.ext x2;replace e0 := e0.trans x2;have := f2.1;apply gE;refine Go.seq noJ_ok (Go.join (fun bb : Nat × Nat => [(1, iv), (3, .ptr h.next 0), (5, .ptr h0.next 0), (6, .ptr h1.next 0), (7, .ptr bb.2 0)]) (fun bb h' => Ext h h' ∧ h2.next ≤ bb.1 ∧ h2.next ≤ bb.2 ∧ bb.1 ≠ bb.2 ∧ Has h' h.next (.cells .plain [b, d, r, s] 71) ∧ Has h' h0.next (.cells .plain (i64s (lv5 l)) 99) ∧ Has h' h1.next (.cells .plain [.nilslice, .nilslice] 79) ∧ Has h' bb.2 (.cells .plain [.slice bb.1 0 n n, b] 79) ∧ Has h' bb.1 (.cells .plain (i64s (upC c 0)) 3)) ?_ ?_)
 ·intro k' done
  refine alts91a ?_ ?_
  ·intro pl hpl
   rw [pl91a_3_7] at hpl;cases hpl
   have hs4 : sameA (.agg [.slice h2.next 0 n n, b]) (.agg [.slice h2.next 0 n n, b]) = true := by simp [sameA, sameAs, A.bs.same]
   refine gQ rfl rfl (fa71_0 rfl) rfl ?_;refine gQ rfl rfl (ld25 rfl f0 rfl) rfl ?_;refine gQ rfl rfl (aOp_lenSlice Try.underlying25 rfl hl1) rfl ?_;refine gQ rfl rfl (fa71_0 rfl) rfl ?_;refine gQ rfl rfl (ld25 rfl f0 rfl) rfl ?_;refine GoE.makeSl  rfl rfl Try.underlying47 rfl rfl sz3 by3 zt3 rfl (Nat.ble_eq_true_of_le (by omega)) (dK 7 5 (dK 7 4 (dD 7 2 (dD 7 1 (dD 7 0 rfl))))) rfl fun h3 x3 f3 => ?_;have := e0.1;have := f2.1;have := f1.1;have := f0.1;replace f2 := f2.ext x3;replace f1 := f1.ext x3;replace f0 := f0.ext x3;replace e0 := e0.trans x3;have := f3.1;refine ⟨(rck (h2 := h3) rfl (ld25 rfl f0 rfl) (rck (h2 := h3) rfl (fa71_0 rfl) recheck_nil)), ?_⟩;refine gQ rfl rfl (aOp_build (ps := [(0, .slice h2.next 0 n n), (1, b)]) (cs := [.slice h2.next 0 n n, b]) zt79 hu79 pl79 rfl (fill2 rfl hbs.2)) rfl ?_;refine GoE.alloc rfl rfl zt79 (dK 15 6 (dK 15 5 (dK 15 4 rfl))) rfl rfl fun h4 x4 f4 => ?_;have := e0.1;have := f3.1;have := f2.1;have := f1.1;have := f0.1;replace f3 := f3.ext x4;replace f2 := f2.ext x4;replace f1 := f1.ext x4;replace f0 := f0.ext x4;replace e0 := e0.trans x4;have := f4.1;refine ⟨(rck (h2 := h4) rfl (aOp_build (ps := [(0, .slice h2.next 0 n n), (1, b)]) (cs := [.slice h2.next 0 n n, b]) zt79 hu79 pl79 rfl (fill2 rfl hbs.2)) (rck (h2 := h4) rfl (ld25 rfl f0 rfl) (rck (h2 := h4) rfl (fa71_0 rfl) recheck_nil))), ?_⟩;refine GoE.store rfl rfl rfl rfl (dD 255 6 (dD 255 5 (dD 255 4 rfl))) rfl rfl f4 rfl sz79 rfl (hsc _) rfl fun h5 u5 => ?_;replace f4 := u5.has f4;replace f3 := f3.upd u5 (by omega);replace f2 := f2.upd u5 (by omega);replace f1 := f1.upd u5 (by omega);replace f0 := f0.upd u5 (by omega);replace e0 := e0.upd u5 (by omega);refine ⟨recheck_nil, ?_⟩;refine GoE.end rfl ?_;exact done (h2.next, h3.next) _ _ ⟨rfl, rfl, rfl, rfl, rfl, trivial⟩ ⟨e0, Nat.le_refl _, by dsimp only; omega, by dsimp only; omega, f0, f1, f2, f4, by rw [hu0]; dsimp only; rw [← hz]; exact f3⟩
  ·intro pl hpl
   rw [pl91a_7_3] at hpl;cases hpl;refine gQ rfl rfl (fa71_0 rfl) rfl ?_;refine gQ rfl rfl (ld25 rfl f0 rfl) rfl ?_;refine gQ rfl rfl (aOp_lenSlice Try.underlying25 rfl hl1) rfl ?_;refine gQ rfl rfl (fa71_0 rfl) rfl ?_;refine gQ rfl rfl (ld25 rfl f0 rfl) rfl ?_;refine GoE.alloc rfl rfl zt79 (dK 0 5 (dK 0 4 (dK 0 2 (dK 0 1 (dK 0 0 rfl))))) rfl rfl fun h3 x3 f3 => ?_;have := e0.1;have := f2.1;have := f1.1;have := f0.1;replace f2 := f2.ext x3;replace f1 := f1.ext x3;replace f0 := f0.ext x3;replace e0 := e0.trans x3;have := f3.1;refine ⟨(rck (h2 := h3) rfl (ld25 rfl f0 rfl) (rck (h2 := h3) rfl (fa71_0 rfl) (rck (h2 := h3) rfl (aOp_lenSlice Try.underlying25 rfl hl1) (rck (h2 := h3) rfl (ld25 rfl f0 rfl) (rck (h2 := h3) rfl (fa71_0 rfl) recheck_nil))))), ?_⟩;refine GoE.makeSl  rfl rfl Try.underlying47 rfl rfl sz3 by3 zt3 rfl (Nat.ble_eq_true_of_le (by omega)) (dK 135 5 (dK 135 4 (dD 135 2 (dD 135 1 (dD 135 0 rfl))))) rfl fun h4 x4 f4 => ?_;have := e0.1;have := f3.1;have := f2.1;have := f1.1;have := f0.1;replace f3 := f3.ext x4;replace f2 := f2.ext x4;replace f1 := f1.ext x4;replace f0 := f0.ext x4;replace e0 := e0.trans x4;have := f4.1;refine ⟨(rck (h2 := h4) rfl (ld25 rfl f0 rfl) (rck (h2 := h4) rfl (fa71_0 rfl) recheck_nil)), ?_⟩;refine gQ rfl rfl (aOp_build (ps := [(0, .slice h3.next 0 n n), (1, b)]) (cs := [.slice h3.next 0 n n, b]) zt79 hu79 pl79 rfl (fill2 rfl hbs.2)) rfl ?_;refine GoE.store rfl rfl rfl rfl (dD 255 6 (dD 255 5 (dD 255 4 rfl))) rfl rfl f3 rfl sz79 rfl (hsc _) rfl fun h5 u5 => ?_;replace f4 := f4.upd u5 (by omega);replace f3 := u5.has f3;replace f2 := f2.upd u5 (by omega);replace f1 := f1.upd u5 (by omega);replace f0 := f0.upd u5 (by omega);replace e0 := e0.upd u5 (by omega);refine ⟨recheck_nil, ?_⟩;refine GoE.end rfl ?_;exact done (h3.next, h2.next) _ _ ⟨rfl, rfl, rfl, rfl, rfl, trivial⟩ ⟨e0, by dsimp only; omega, Nat.le_refl _, by dsimp only; omega, f0, f1, f2, f3, by rw [hu0]; dsimp only; rw [← hz]; exact f4⟩
 ·clear e0 f0 f1 f2;rintro ⟨bt, b7⟩ h9 ⟨e0, hbt, hb7, hne, f0, f1, f2, f7, f8⟩
  dsimp only at hbt hb7 hne f7 f8
  have hb3 : h.next < h0.next := by assumption
  have hb4 : h0.next < h1.next := by assumption
  have hb5 : h1.next < h2.next := by assumption
  iterate 2 apply gS
  refine gR rfl ?_;refine gO rfl rfl (fa71_0 rfl) rfl ?_;refine gO rfl rfl (ld25 rfl f0 rfl) rfl ?_;refine gO rfl rfl (aOp_lenSlice Try.underlying25 rfl hl1) rfl ?_;refine gP ?_;apply gE;refine Go.block noJ_ok ?_
  refine Go.loopKeep (fun i : Nat => [(1, iv), (3, .ptr h.next 0), (5, .ptr h0.next 0), (6, .ptr h1.next 0), (7, .ptr b7 0), (18, .int .i64 n), (19, .int .i64 (i : Nat))])
   (fun m i h' => m + i = n ∧ Ext h h' ∧ Has h' h.next (.cells .plain [b, d, r, s] 71) ∧ Has h' h0.next (.cells .plain (i64s (lv5 l)) 99) ∧ Has h' h1.next (.cells .plain [.nilslice, .nilslice] 79) ∧ Has h' b7 (.cells .plain [.slice bt 0 n n, b] 79) ∧ Has h' bt (.cells .plain (i64s (upC c i)) 3)) (n := n) 0 ⟨rfl, rfl, rfl, rfl, rfl, rfl, rfl, trivial⟩ ⟨rfl, e0, f0, f1, f2, f7, f8⟩ ?_
  clear e0 f0 f1 f2 f7 f8;rintro m i h14 ⟨hm, e0, f0, f1, f2, f7, f8⟩ again
  have hn0 := f0.1
  have hn1 := f1.1
  have hn2 := f2.1
  have hn7 := f7.1
  have hn8 := f8.1
  have hn9 := e0.1
  by_cases hi : i < n
  ·have hci := hca i hi
   have hset := upC_set hci
   have hsp := splice_int (l := upC c i) (i := i) (by rw [upC_len (by omega)]; omega) ((lowV (J i) l n i : Nat) : Int)
   rw [hset] at hsp
   have hq1 : aSlElems (.slice bt 0 n n) = some (bt, 0, n) := rfl
   have hlwi := fun h' e => hlw h' e i hi
   apply gS;refine gR rfl ?_;refine gO rfl rfl (kLT rfl rfl) rfl ?_;apply gE;apply gS;refine gC (b := true) rfl ?_;refine gD ?_;apply gS;refine Go.block noJ_ok ?_;apply gS;refine gR rfl ?_;iterate 2 refine gP ?_
   apply gE;refine Go.drawnE plan91_1 ?_;refine gQ rfl rfl (fa79_0 rfl) rfl ?_;refine gQ rfl rfl (ld47 rfl f7 rfl) rfl ?_;refine gQ rfl rfl rfl rfl ?_;refine gQ rfl rfl (ld71 rfl f0 rfl) rfl ?_;refine gQ rfl rfl rfl rfl ?_;refine gQ rfl rfl (ld99 rfl f1 (slice_all (by rw [i64s_len, hlen]))) rfl ?_;refine gQ rfl rfl rfl rfl ?_;refine GoE.call rfl rfl (aCF aFunc103 rfl) (hlwi _ e0) (dD 120 6 (dD 120 5 (dD 120 4 (dD 120 3 (dK 120 2 (dK 120 1 (dK 120 0 rfl))))))) ?_ np;rintro v15 h15 ⟨q, x15⟩;cases q;replace f0 := f0.ext x15;replace f1 := f1.ext x15;replace f2 := f2.ext x15;replace f7 := f7.ext x15;replace f8 := f8.ext x15;replace e0 := e0.trans x15;refine ⟨(rck (h2 := h15) rfl (rfl) (rck (h2 := h15) rfl (ld47 rfl f7 rfl) (rck (h2 := h15) rfl (fa79_0 rfl) recheck_nil))), _, rfl, ?_⟩;refine gQ rfl rfl (aOp_indexAddr (i := i) Try.underlying47 sz3 rfl hq1 rfl (Nat.ble_eq_true_of_le hi)) rfl ?_;refine GoE.store rfl rfl rfl rfl (dD 511 8 (dD 511 2 (dD 511 1 (dD 511 0 rfl)))) rfl rfl f8 rfl sz3 rfl rfl hsp fun h16 u16 => ?_;replace f0 := f0.upd u16 (by omega);replace f1 := f1.upd u16 (by omega);replace f2 := f2.upd u16 (by omega);replace f7 := f7.upd u16 (by omega);replace f8 := u16.has f8;replace e0 := e0.upd u16 (by omega);refine ⟨recheck_nil, ?_⟩;refine GoE.end rfl ?_;refine Go.inBlock noJ_ok ?_;refine gR rfl ?_;refine gO rfl rfl (aA rfl rfl) rfl ?_;refine gP ?_;apply gE;exact again (m - 1) (i + 1) _ _ (by omega) ⟨rfl, rfl, rfl, rfl, rfl, rfl, rfl, trivial⟩ ⟨by omega, e0, f0, f1, f2, f7, f8⟩
  ·rw [show i = c.length by omega, upC_all] at f8;apply gS;refine gR rfl ?_;refine gO rfl rfl (kLF rfl rfl) rfl ?_;apply gE;apply gS;refine gC (b := false) rfl ?_;refine gD ?_;apply gS;refine gR rfl ?_;refine gO rfl rfl (ld79 rfl f7 rfl) rfl ?_;refine GoR.store rfl rfl rfl rfl rfl rfl f2 rfl sz79 rfl (hsc bt) rfl fun h15 u15 => ?_;replace f2 := u15.has f2;replace f8 := f8.upd u15 (by omega);replace e0 := e0.upd u15 (by omega);apply gE;exact gV (ret_end (aResult_of Try.func91 rfl (aResults_cell rfl f2 (inCells_agg ag79 sz79 rfl))) ⟨_, rfl, e0, ⟨bt, by rw [hcl], by omega, f8⟩⟩)
end Go.Proofs.Ytkhiagdmbajimaa

namespace Go.Proofs.Ytkhiagdmbajimaa
open Go Go.AbsE
set_option linter.unusedSimpArgs false
set_option maxRecDepth 100000
set_option maxHeartbeats 0
set_option linter.unusedVariables false
def curL (bs : List BkV) (l : List Int) (i : Nat) : List Int := (bs.take i).map (fun b => b.ll) ++ l.drop i
theorem curL_len {bs : List BkV} {l : List Int} (h : l.length = bs.length) {i : Nat} (hi : i ≤ bs.length) : (curL bs l i).length = bs.length := by unfold curL; simp; omega
theorem curL_at {bs : List BkV} {l : List Int} (h : l.length = bs.length) {i : Nat} (hi : i < bs.length) : lv (curL bs l i) i = lv l i := by
 unfold lv curL
 have h1 : (List.map (fun b : BkV => b.ll) (bs.take i)).length = i := by simp; omega
 rw [List.getElem?_append_right (by omega), h1, Nat.sub_self, List.getElem?_drop, Nat.add_zero]
theorem curL_set {bs : List BkV} {l : List Int} (h : l.length = bs.length) {i : Nat} {b : BkV} (hb : bs[i]? = some b) (v : Int) : (curL bs l i).set i v = (bs.take i).map (fun b => b.ll) ++ v :: l.drop (i + 1) := by
 have hi := (List.getElem?_eq_some_iff.1 hb).1
 unfold curL
 have h1 : (List.map (fun b : BkV => b.ll) (bs.take i)).length = i := by simp; omega
 rw [List.set_append_right _ _ (by omega), h1, Nat.sub_self, List.drop_eq_getElem_cons (by omega), List.set_cons_zero]
theorem curL_next {bs : List BkV} {l : List Int} (h : l.length = bs.length) {i : Nat} {b : BkV} (hb : bs[i]? = some b) : (curL bs l i).set i b.ll = curL bs l (i + 1) := by
 rw [curL_set h hb]
 unfold curL
 rw [List.take_add_one, hb, Option.toList_some, List.map_append, List.append_assoc]
 rfl
def Left (bs : List BkV) (l : List Int) (i : Nat) : Prop := nextL bs l = (nextL (bs.drop i) (l.drop i)).map fun t => (bs.take i).map (fun b => b.ll) ++ t
theorem left_zero (bs : List BkV) (l : List Int) : Left bs l 0 := by
 unfold Left
 cases q : nextL bs l with
 | none => simp [q]
 | some t => simp [q]
theorem left_up {bs : List BkV} {l : List Int} (h : l.length = bs.length) {i : Nat} {b : BkV} (hb : bs[i]? = some b) (k : Left bs l i) (hx : lv l i < b.lh) : nextL bs l = some ((curL bs l i).set i (lv l i + 1)) := by
 have hi := (List.getElem?_eq_some_iff.1 hb)
 have hi1 := hi.1
 have hl : l.drop i = lv l i :: l.drop (i + 1) := by
  rw [List.drop_eq_getElem_cons (by omega)]
  unfold lv
  rw [List.getElem?_eq_getElem (by omega)]
  rfl
 unfold Left at k
 rw [k, curL_set h hb, List.drop_eq_getElem_cons hi.1, hi.2, hl]
 show Option.map _ (if lv l i < b.lh then _ else _) = _
 rw [if_pos hx]
 rfl
theorem left_next {bs : List BkV} {l : List Int} (h : l.length = bs.length) {i : Nat} {b : BkV} (hb : bs[i]? = some b) (k : Left bs l i) (hx : ¬ lv l i < b.lh) : Left bs l (i + 1) := by
 have hi := (List.getElem?_eq_some_iff.1 hb)
 have hi1 := hi.1
 have hl : l.drop i = lv l i :: l.drop (i + 1) := by
  rw [List.drop_eq_getElem_cons (by omega)]
  unfold lv
  rw [List.getElem?_eq_getElem (by omega)]
  rfl
 unfold Left at k ⊢
 rw [k, List.drop_eq_getElem_cons hi.1, hi.2, hl, List.take_add_one, hb, Option.toList_some, List.map_append]
 show Option.map _ (if lv l i < b.lh then _ else _) = _
 rw [if_neg hx]
 cases nextL (bs.drop (i + 1)) (l.drop (i + 1)) with
 | none => rfl
 | some t => simp
theorem left_end {bs : List BkV} {l : List Int} (h : l.length = bs.length) (k : Left bs l bs.length) : nextL bs l = none := by
 unfold Left at k
 rw [k, List.drop_length]
 rfl
theorem lv5_set {l : List Int} {i : Nat} (hi : i < l.length) (v : Int) : (lv5 l).set i v = lv5 (l.set i v) := by
 unfold lv5
 rw [List.set_append_left _ _ hi, List.length_set]
theorem raise_ok {D : DrainV} (O : D.Ok) {b d r s : AVal} {l : List Int} (hl : l ∈ levsV D.bs) {g h : AH} (A : DrainAt g D b d r s) (e9 : Ext g h) {bl : Nat} (hbl : g.next ≤ bl) (f9 : Has h bl (.cells .plain (i64s (lv5 l)) 99)) :
  Runs Try.prog 102 [.agg (dC b d r s), .ptr bl 0] h (fun en h' => ExtF (fun b => b = bl) h h' ∧ ∃ m, Has h' bl (.cells .plain (i64s m) 99) ∧ ((en = .ret (.bool true) ∧ nextL D.bs l = some (m.take D.bs.length) ∧ m = lv5 (m.take D.bs.length)) ∨ (en = .ret (.bool false) ∧ nextL D.bs l = none))) := by
 have hnb := O.nb
 have hl1 := A.bs.len
 rw [List.length_map] at hl1
 have hll := levs_len hl
 have y0 : ExtF (fun b => b = bl) h h := ExtF.of (Ext.refl _)
 have hsm := A.same
 have hn9 := e9.1
 have hf9 := f9.1
 unfold dC at *
 refine Runs.intro aFunc102 rfl rfl rfl rfl fun rest => ?_;apply gS;refine gR rfl ?_;refine GoR.box rfl rfl rfl rfl rfl rfl fun h10 x10 f10 => ?_;have := e9.1;have := f9.1;replace f9 := f9.ext x10;replace e9 := e9.trans x10;replace y0 := y0.ext x10;have := f10.1;refine gP ?_;apply gE;iterate 2 apply gS
 refine gR rfl ?_;refine gO rfl rfl (fa71_0 rfl) rfl ?_;refine gO rfl rfl (ld25 rfl f10 rfl) rfl ?_;refine gO rfl rfl (aOp_lenSlice Try.underlying25 rfl hl1) rfl ?_;refine gP ?_;apply gE;refine Go.block noJ_ok ?_
 refine Go.loopKeep (fun i : Nat => [(1, .ptr bl 0), (2, .ptr h.next 0), (8, b), (9, .int .i64 D.bs.length), (10, .int .i64 (i : Nat))])
  (fun m i h' => m + i = D.bs.length ∧ Ext g h' ∧ ExtF (fun b => b = bl) h h' ∧ h.next ≤ h'.next ∧ Has h' bl (.cells .plain (i64s (lv5 (curL D.bs l i))) 99) ∧ Left D.bs l i) (n := D.bs.length) 0 ⟨rfl, rfl, rfl, rfl, rfl, trivial⟩ ⟨rfl, e9, y0, by omega, f9, left_zero _ _⟩ ?_
 try clear f0
 try clear e0
 clear e9 y0 f9;rintro m i h4 ⟨hm, e9, y0, hn4, f9, hleft⟩ again
 have hf9' := f9.1
 by_cases hi : i < D.bs.length
 ·obtain ⟨x, hx⟩ : ∃ x, D.bs[i]? = some x := ⟨D.bs[i], by simp [hi]⟩
  have hmem := List.mem_of_getElem? hx
  have hxo := (O.b x hmem).1
  have hli := levs_in O hl hi
  obtain ⟨bq, off, q1, q2⟩ := A.bs.at (i := i) (l := BkV.cells x) (by rw [List.getElem?_map, hx]; rfl)
  rw [List.length_map] at q1
  have hcl := curL_len hll (i := i) (by omega)
  have hgi : (i64s (lv5 (curL D.bs l i)))[0 + i * 1]? = some (.int .i64 (lv l i)) := by
   have := i64s_at (lv5_at (l := curL D.bs l i) (i := i) (by omega))
   rwa [curL_at hll hi] at this
  have hs5 := lv5_len (l := curL D.bs l i) (by omega)
  have hsp := fun v => splice_int (l := lv5 (curL D.bs l i)) (i := i) (by omega) v
  have hsv := fun v => lv5_set (l := curL D.bs l i) (i := i) (by omega) v
  unfold BkV.cells at q2
  by_cases c1 : lv l i < x.lh
  ·have hup := left_up hll hx hleft c1
   have hsp1 := hsp (lv l i + 1)
   rw [hsv] at hsp1
   obtain ⟨l', hl'⟩ : ∃ l', (curL D.bs l i).set i (lv l i + 1) = l' := ⟨_, rfl⟩
   rw [hl'] at hup hsp1
   have hll' : l'.length = D.bs.length := by rw [← hl', List.length_set, hcl]
   have htk : (lv5 l').take D.bs.length = l' := by
    unfold lv5
    rw [← hll', List.take_left']
    rfl
   apply gS;refine gR rfl ?_;refine gO rfl rfl (kLT rfl rfl) rfl ?_;apply gE;apply gS;refine gC (b := true) rfl ?_;refine gD ?_;apply gS;refine Go.block noJ_ok ?_;apply gS;refine gR rfl ?_;refine gP ?_;refine gO rfl rfl (aOp_indexAddr (i := i) Try.underlying25 sz60 rfl q1 rfl (Nat.ble_eq_true_of_le hi)) rfl ?_;refine gO rfl rfl (aOp_loadE ag60 sz60 rfl (q2.ext e9)) rfl ?_;refine GoR.alloc rfl rfl rfl zt60 rfl rfl fun h11 x11 f11 => ?_;have := e9.1;have := f9.1;replace f9 := f9.ext x11;replace y0 := y0.ext x11;have := f11.1;refine gP ?_;refine GoR.store rfl rfl rfl rfl rfl rfl f11 rfl sz60 rfl rfl rfl fun h12 u12 => ?_;replace f11 := u12.has f11;replace f9 := f9.upd u12 (by omega);replace y0 := y0.upd u12 (.inr (by omega));apply gE;iterate 2 apply gS
   refine Go.drawnE plan102_0 ?_;iterate 3 refine gQ rfl rfl rfl rfl ?_
   refine gQ rfl rfl (fa99_0 rfl) rfl ?_;refine gQ rfl rfl (aOp_indexAddrArr (i := i) Try.underlying97 sz3 rfl rfl (Nat.ble_eq_true_of_le (by omega))) rfl ?_;refine gQ rfl rfl (ld3 rfl f9 hgi) rfl ?_;refine gQ rfl rfl (fa60_0 rfl) rfl ?_;refine gQ rfl rfl (fa35_1 rfl) rfl ?_;refine gQ rfl rfl (ld3 rfl f11 rfl) rfl ?_;refine gQ rfl rfl (kLT rfl rfl) rfl ?_;refine GoE.end rfl ?_;refine gC (b := true) rfl ?_;apply gS;refine Go.drawnE plan102_1 ?_;iterate 3 refine gQ rfl rfl rfl rfl ?_
   refine gQ rfl rfl (fa99_0 rfl) rfl ?_;refine gQ rfl rfl (aOp_indexAddrArr (i := i) Try.underlying97 sz3 rfl rfl (Nat.ble_eq_true_of_le (by omega))) rfl ?_;refine gQ rfl rfl (ld3 rfl f9 hgi) rfl ?_;refine gQ rfl rfl (aA rfl rfl) rfl ?_;refine gQ rfl rfl rfl rfl ?_;refine gQ rfl rfl (fa99_0 rfl) rfl ?_;refine gQ rfl rfl (aOp_indexAddrArr (i := i) Try.underlying97 sz3 rfl rfl (Nat.ble_eq_true_of_le (by omega))) rfl ?_;refine GoE.store rfl rfl rfl rfl (dD 1023 9 (dD 1023 8 (dD 1023 7 (dD 1023 6 (dD 1023 5 (dD 1023 4 (dD 1023 3 (dD 1023 2 (dD 1023 1 (dD 1023 0 rfl)))))))))) rfl rfl f9 rfl sz3 rfl rfl hsp1 fun h13 u13 => ?_;replace f9 := u13.has f9;replace y0 := y0.upd u13 (.inl rfl);refine ⟨recheck_nil, ?_⟩;refine GoE.end rfl ?_;apply gS;refine gR rfl ?_;refine gP ?_;apply gE;exact gV (ret_end (aResult_of Try.func102 rfl rfl) ⟨y0, lv5 l', f9, .inl ⟨rfl, by rw [htk]; exact hup, by rw [htk]⟩⟩)
  ·have hnx := left_next hll hx hleft c1
   have hsp1 := hsp x.ll
   rw [hsv, curL_next hll hx] at hsp1;apply gS;refine gR rfl ?_;refine gO rfl rfl (kLT rfl rfl) rfl ?_;apply gE;apply gS;refine gC (b := true) rfl ?_;refine gD ?_;apply gS;refine Go.block noJ_ok ?_;apply gS;refine gR rfl ?_;refine gP ?_;refine gO rfl rfl (aOp_indexAddr (i := i) Try.underlying25 sz60 rfl q1 rfl (Nat.ble_eq_true_of_le hi)) rfl ?_;refine gO rfl rfl (aOp_loadE ag60 sz60 rfl (q2.ext e9)) rfl ?_;refine GoR.alloc rfl rfl rfl zt60 rfl rfl fun h11 x11 f11 => ?_;have := e9.1;have := f9.1;replace f9 := f9.ext x11;replace e9 := e9.trans x11;replace y0 := y0.ext x11;have := f11.1;refine gP ?_;refine GoR.store rfl rfl rfl rfl rfl rfl f11 rfl sz60 rfl rfl rfl fun h12 u12 => ?_;replace f11 := u12.has f11;replace f9 := f9.upd u12 (by omega);replace e9 := e9.upd u12 (by omega);replace y0 := y0.upd u12 (.inr (by omega));apply gE;iterate 2 apply gS
   refine Go.drawnE plan102_0 ?_;iterate 3 refine gQ rfl rfl rfl rfl ?_
   refine gQ rfl rfl (fa99_0 rfl) rfl ?_;refine gQ rfl rfl (aOp_indexAddrArr (i := i) Try.underlying97 sz3 rfl rfl (Nat.ble_eq_true_of_le (by omega))) rfl ?_;refine gQ rfl rfl (ld3 rfl f9 hgi) rfl ?_;refine gQ rfl rfl (fa60_0 rfl) rfl ?_;refine gQ rfl rfl (fa35_1 rfl) rfl ?_;refine gQ rfl rfl (ld3 rfl f11 rfl) rfl ?_;refine gQ rfl rfl (kLF rfl rfl) rfl ?_;refine GoE.end rfl ?_;refine gC (b := false) rfl ?_;refine gD ?_;refine Go.drawnE plan102_2 ?_;iterate 2 refine gQ rfl rfl rfl rfl ?_
   refine gQ rfl rfl (fa60_0 rfl) rfl ?_;refine gQ rfl rfl (fa35_0 rfl) rfl ?_;refine gQ rfl rfl (ld3 rfl f11 rfl) rfl ?_;refine gQ rfl rfl rfl rfl ?_;refine gQ rfl rfl (fa99_0 rfl) rfl ?_;refine gQ rfl rfl (aOp_indexAddrArr (i := i) Try.underlying97 sz3 rfl rfl (Nat.ble_eq_true_of_le (by omega))) rfl ?_;refine GoE.store rfl rfl rfl rfl (dD 255 7 (dD 255 6 (dD 255 5 (dD 255 4 (dD 255 3 (dD 255 2 (dD 255 1 (dD 255 0 rfl)))))))) rfl rfl f9 rfl sz3 rfl rfl hsp1 fun h13 u13 => ?_;replace f9 := u13.has f9;replace e9 := e9.upd u13 (by omega);replace y0 := y0.upd u13 (.inl rfl);refine ⟨recheck_nil, ?_⟩;refine GoE.end rfl ?_;refine Go.inBlock noJ_ok ?_;refine gR rfl ?_;refine gO rfl rfl (aA rfl rfl) rfl ?_;refine gP ?_;apply gE;exact again (m - 1) (i + 1) _ _ (by omega) ⟨rfl, rfl, rfl, rfl, rfl, trivial⟩ ⟨by omega, e9, y0, y0.1, f9, hnx⟩
 ·have hii : i = D.bs.length := by omega
  subst hii
  have hno := left_end hll hleft
  apply gS;refine gR rfl ?_;refine gO rfl rfl (kLF rfl rfl) rfl ?_;apply gE;apply gS;refine gC (b := false) rfl ?_;refine gD ?_;apply gS;refine gR rfl ?_;refine gP ?_;apply gE;exact gV (ret_end (aResult_of Try.func102 rfl rfl) ⟨y0, _, f9, .inr ⟨rfl, hno⟩⟩)
end Go.Proofs.Ytkhiagdmbajimaa

namespace Go.Proofs.Ytkhiagdmbajimaa
open Go Go.AbsE
set_option linter.unusedSimpArgs false
set_option maxRecDepth 100000
set_option maxHeartbeats 0
set_option linter.unusedVariables false
theorem own_next {F G G' : Nat → Prop} {h h1 : AH} (a : ∀ b, G' b → G b ∨ h1.next ≤ b) (c : ∀ b, G b → F b ∨ h.next ≤ b) (hn : h.next ≤ h1.next) : ∀ b, G' b → F b ∨ h.next ≤ b := fun b q => (a b q).elim (c b) fun q => .inr (by omega)
def levI (D : DrainV) : List (List AVal) := (levsV D.bs).map fun l => [.agg (i64s (lv5 l))]
def upLo (bs : List BkV) (i : Nat) : List Int := (bs.take i).map (fun b => b.ll) ++ List.replicate (5 - i) 0
theorem upLo_len {bs : List BkV} (h : bs.length ≤ 5) {i : Nat} (hi : i ≤ bs.length) : (upLo bs i).length = 5 := by unfold upLo; simp; omega
theorem upLo_set {bs : List BkV} (h : bs.length ≤ 5) {i : Nat} {b : BkV} (hb : bs[i]? = some b) : (upLo bs i).set i b.ll = upLo bs (i + 1) := by
 have hi := (List.getElem?_eq_some_iff.1 hb)
 have hi1 := hi.1
 unfold upLo
 have h1 : (List.map (fun b : BkV => b.ll) (bs.take i)).length = i := by simp; omega
 rw [List.set_append_right _ _ (by omega), h1, Nat.sub_self, show 5 - i = (5 - (i + 1)) + 1 by omega, List.replicate_succ, List.set_cons_zero, List.take_add_one, hb, Option.toList_some, List.map_append, List.append_assoc]
 rfl
theorem upLo_all (bs : List BkV) : upLo bs bs.length = lv5 (bs.map fun b => b.ll) := by unfold upLo lv5; simp
theorem levels_it {D : DrainV} (O : D.Ok) {b d r s : AVal} {g : AH} (A : DrainAt g D b d r s) (bb : Nat) : IterN Try.prog 101 [] [.ptr bb 0] (levI D) (fun h => Has h bb (.cells .plain [b, d, r, s] 71) ∧ Ext g h) := by
 intro y base J E h F hyc hys hA hbase T j0
 show Runs Try.prog 101 [y, .ptr bb 0] h _
 have hlen : (levI D).length = (levsV D.bs).length := by unfold levI; simp
 rw [hlen]
 have hat : ∀ {k : Nat} {l}, (levsV D.bs)[k]? = some l → (levI D)[k]? = some [.agg (i64s (lv5 l))] := fun hk => by
  unfold levI
  rw [List.getElem?_map, hk]
  rfl
 have hnb := O.nb
 have hl1 := A.bs.len
 rw [List.length_map] at hl1
 have hlo : ∀ b, b ∈ D.bs → b.ll ≤ b.lh := fun b hb => (O.b b hb).1.1
 have hsm := A.same
 unfold dC at hsm
 have e8 : Ext h h := Ext.refl _
 obtain ⟨f8, e9⟩ := hA h (ExtF.of e8)
 have hn9 := e9.1
 obtain ⟨LT, hLT⟩ := levs_first hlo
 obtain ⟨N, hN⟩ : ∃ N, (levsV D.bs).length = N := ⟨_, rfl⟩
 have hN1 : 1 ≤ N := by rw [← hN, hLT, List.length_cons]; omega
 rw [hN];refine Runs.intro aFunc101 rfl rfl rfl rfl fun rest => ?_;apply gS;refine gR rfl ?_;refine GoR.alloc rfl rfl rfl zt99 rfl rfl fun h9 x9 f9 => ?_;have := e8.1;have := e9.1;have := f8.1;replace f8 := f8.ext x9;replace e8 := e8.trans x9;replace e9 := e9.trans x9;have := f9.1;apply gE;iterate 2 apply gS
 refine gR rfl ?_;refine gO rfl rfl (fa71_0 rfl) rfl ?_;refine gO rfl rfl (ld25 rfl f8 rfl) rfl ?_;refine gO rfl rfl (aOp_lenSlice Try.underlying25 rfl hl1) rfl ?_;refine gP ?_;apply gE;refine Go.block noJ_ok ?_
 have hb0 := f9.1
 refine Go.loopKeep (fun i : Nat => [(0, y), (1, .ptr bb 0), (3, .ptr h.next 0), (7, b), (8, .int .i64 D.bs.length), (9, .int .i64 (i : Nat))])
  (fun m i h' => m + i = D.bs.length ∧ Ext h h' ∧ Ext g h' ∧ h.next < h'.next ∧ Has h' bb (.cells .plain [b, d, r, s] 71) ∧ Has h' h.next (.cells .plain (i64s (upLo D.bs i)) 99)) (n := D.bs.length) 0 ⟨rfl, rfl, rfl, rfl, rfl, rfl, trivial⟩ ⟨rfl, e8, e9, hb0, f8, f9⟩ ?_
 clear e8 e9 f8 f9;rintro m i h4 ⟨hm, e8, e9, hb4, f8, f9⟩ again
 by_cases hi : i < D.bs.length
 ·obtain ⟨x, hx⟩ : ∃ x, D.bs[i]? = some x := ⟨D.bs[i], by simp [hi]⟩
  obtain ⟨bq, off, q1, q2⟩ := A.bs.at (i := i) (l := BkV.cells x) (by rw [List.getElem?_map, hx]; rfl)
  rw [List.length_map] at q1
  have hul := upLo_len (bs := D.bs) (by omega) (i := i) (by omega)
  have hsp := splice_int (l := upLo D.bs i) (i := i) (by omega) x.ll
  rw [upLo_set (by omega) hx] at hsp
  unfold BkV.cells at q2
  apply gS;refine gR rfl ?_;refine gO rfl rfl (kLT rfl rfl) rfl ?_;apply gE;apply gS;refine gC (b := true) rfl ?_;refine gD ?_;apply gS;refine Go.block noJ_ok ?_;apply gS;refine gR rfl ?_;refine gP ?_;refine gO rfl rfl (aOp_indexAddr (i := i) Try.underlying25 sz60 rfl q1 rfl (Nat.ble_eq_true_of_le hi)) rfl ?_;refine gO rfl rfl (aOp_loadE ag60 sz60 rfl (q2.ext e9)) rfl ?_;refine GoR.alloc rfl rfl rfl zt60 rfl rfl fun h10 x10 f10 => ?_;have := e8.1;have := e9.1;have := f8.1;have := f9.1;replace f8 := f8.ext x10;replace f9 := f9.ext x10;replace e8 := e8.trans x10;replace e9 := e9.trans x10;have := f10.1;refine gP ?_;refine GoR.store rfl rfl rfl rfl rfl rfl f10 rfl sz60 rfl rfl rfl fun h11 u11 => ?_;replace f10 := u11.has f10;replace f8 := f8.upd u11 (by omega);replace f9 := f9.upd u11 (by omega);replace e8 := e8.upd u11 (by omega);replace e9 := e9.upd u11 (by omega);apply gE;refine gR rfl ?_;refine gP ?_;refine gO rfl rfl (fa60_0 rfl) rfl ?_;refine gO rfl rfl (fa35_0 rfl) rfl ?_;refine gO rfl rfl (ld3 rfl f10 rfl) rfl ?_;refine gO rfl rfl (fa99_0 rfl) rfl ?_;refine gO rfl rfl (aOp_indexAddrArr (i := i) Try.underlying97 sz3 rfl rfl (Nat.ble_eq_true_of_le (by omega))) rfl ?_;refine GoR.store rfl rfl rfl rfl rfl rfl f9 rfl sz3 rfl rfl hsp fun h12 u12 => ?_;replace f8 := f8.upd u12 (by omega);replace f9 := u12.has f9;replace e8 := e8.upd u12 (by omega);replace e9 := e9.upd u12 (by omega);apply gE;refine Go.inBlock noJ_ok ?_;refine gR rfl ?_;refine gO rfl rfl (aA rfl rfl) rfl ?_;refine gP ?_;apply gE;exact again (m - 1) (i + 1) _ _ (by omega) ⟨rfl, rfl, rfl, rfl, rfl, rfl, trivial⟩ ⟨by omega, e8, e9, f9.1, f8, f9⟩
 ·rw [show i = D.bs.length by omega, upLo_all] at f9;clear again;apply gS;refine gR rfl ?_;refine gO rfl rfl (kLF rfl rfl) rfl ?_;apply gE;apply gS;refine gC (b := false) rfl ?_;refine gD ?_;refine Go.block noJ_ok ?_
  have hk0 : (levsV D.bs)[0]? = some (D.bs.map fun b => b.ll) := by rw [hLT]; rfl
  refine Go.loopKeep (fun a' : Nat × (Nat → Prop) => [(0, y), (1, .ptr bb 0), (3, .ptr h.next 0)]) (fun m a' h' => m + a'.1 = N ∧ a'.1 < N ∧ h.next < h'.next ∧ ExtF F h h' ∧ (∀ b, a'.2 b → F b ∨ h.next ≤ b) ∧ ¬ a'.2 h.next ∧ J a'.1 h' a'.2 ∧ Has h' h.next (.cells .plain (i64s (lv5 (((levsV D.bs)[a'.1]?).getD []))) 99)) (n := N) (0, F) ⟨rfl, rfl, rfl, trivial⟩ ⟨rfl, hN1, hb4, ExtF.of e8, fun b q => .inl q, fun q => Nat.lt_irrefl _ (T.ltJ j0 q), T.ext j0 e8, by rw [hk0]; exact f9⟩ ?_;clear e8 e9 f8 f9;rintro m ⟨k, G⟩ h1 ⟨hm, hk, hb1, x1, hG, hnG, j1, f9⟩ again
  dsimp only at hm hk hG hnG j1 f9 ⊢
  obtain ⟨l, hl⟩ : ∃ l, (levsV D.bs)[k]? = some l := ⟨(levsV D.bs)[k]'(by omega), by simp [hN, hk]⟩
  have hmem := List.mem_of_getElem? hl
  have hll := levs_len hmem
  rw [hl, Option.getD_some] at f9
  obtain ⟨f8, e9⟩ := hA h1 x1
  obtain ⟨ax, a1, a2, a3⟩ := T.take (hat hl) j1
  have hl5 := lv5_len (l := l) (by omega)
  have hx1 := x1.1
  have hnx := levs_next hlo hl
  iterate 2 apply gS
  refine gR rfl ?_;refine gP ?_;refine gO rfl rfl (ld99 rfl f9 (slice_all (by rw [i64s_len, hl5]))) rfl ?_;refine GoR.does rfl rfl (aOp_callY rfl rfl a1) a2 a3 ?_ (by rintro _ _ ⟨_, _, _, ⟨q, _⟩ | ⟨q, _⟩⟩ <;> cases q);rintro v h6 ⟨x6, G', hG', ⟨q, j6⟩ | ⟨q, e6⟩⟩
  ·cases q;refine ⟨_, rfl, ?_⟩
   have y6 := x1.trans hG x6
   have hG2 := own_next hG' hG hx1
   have hnG' : ¬ G' h.next := fun q => (hG' _ q).elim hnG (fun q => by omega)
   replace f9 := f9.extF x6 hnG;clear f8 e9
   obtain ⟨f8, e9⟩ := hA h6 y6
   have hx6 := x6.1
   have hra := fun h' e f => raise_ok O hmem (g := g) (h := h') A e (bl := h.next) hn9 f
   unfold dC at hra
   refine gP ?_;refine gO rfl rfl (ld71 rfl f8 rfl) rfl ?_;refine GoR.call rfl rfl (aCF aFunc102 rfl) (hra _ e9 f9) ?_ (by rintro _ _ ⟨_, _, _, ⟨q, _⟩ | ⟨q, _⟩⟩ <;> cases q);rintro v h7 ⟨x7, m', f7, hw⟩
   have y7 := y6.trans (fun b q => .inr (by have : b = h.next := q; omega)) x7
   have j7 := T.keep j6 x7.1 fun b hb q => x7.2 b hb fun z => by
    have z : b = h.next := z
    subst z;exact q.elim (fun q => by omega) hnG'
   have hx7 := x7.1
   clear f8 e9 f9 x6 x7 j6 y6
   rcases hw with ⟨q, n1, n2⟩ | ⟨q, n1⟩
   ·cases q;refine ⟨_, rfl, ?_⟩;rw [n1] at hnx
    have hk1 : k + 1 < N := by
     have := (List.getElem?_eq_some_iff.1 hnx.symm).1
     omega
    refine gP ?_;apply gE;refine gC (b := true) rfl ?_;refine gD ?_;refine Go.block noJ_ok ?_;refine gD ?_;refine Go.inBlock noJ_ok ?_;exact again (m - 1) (k + 1, G') _ _ (by omega) ⟨rfl, rfl, rfl, trivial⟩ ⟨by dsimp only; omega, hk1, by omega, y7, hG2, hnG', j7, by dsimp only; rw [← hnx, Option.getD_some, ← n2]; exact f7⟩
   ·cases q;refine ⟨_, rfl, ?_⟩;rw [n1] at hnx
    have hk1 : k + 1 = N := by
     have := List.getElem?_eq_none_iff.1 hnx.symm
     omega
    rw [hk1] at j7;refine gP ?_;apply gE;refine gC (b := false) rfl ?_;refine gD ?_;exact Go.endL (FLeft.ret (v := .tuple []) (aResult_of Try.func101 rfl rfl) ⟨rfl, y7, G', hG2, .inl j7⟩)
  ·cases q;refine ⟨_, rfl, ?_⟩;clear f8 e9 f9;refine gP ?_;iterate 2 refine GoR.skip rfl rfl rfl ?_
   refine gP ?_;apply gE;refine gC (b := false) rfl ?_;refine gD ?_;exact Go.endL (FLeft.ret (v := .tuple []) (aResult_of Try.func101 rfl rfl) ⟨rfl, x1.trans hG x6, G', own_next hG' hG hx1, .inr ⟨k, by omega, e6⟩⟩)
theorem levels_ok {D : DrainV} {b d r s : AVal} {h : AH} (A : DrainAt h D b d r s) : Runs Try.prog 90 [.agg (dC b d r s)] h (fun en h' => ∃ bb, en = .ret (.func (.func 101) [] [.ptr bb 0]) ∧ Ext h h' ∧ h.next ≤ bb ∧ Has h' bb (.cells .plain [b, d, r, s] 71)) := by
 have hsm := A.same
 unfold dC at *
 have e0 : Ext h h := Ext.refl _
 refine Runs.intro aFunc90 rfl rfl rfl rfl fun rest => ?_;apply gS;refine gR rfl ?_;refine GoR.box rfl rfl rfl rfl rfl rfl fun h0 x0 f0 => ?_;replace e0 := e0.trans x0;refine gP ?_;apply gE;apply gS;refine gR rfl ?_;iterate 2 refine gP ?_
 apply gE;exact gV (ret_end (aResult_of Try.func90 rfl rfl) ⟨_, rfl, e0, Nat.le_refl _, f0⟩)
end Go.Proofs.Ytkhiagdmbajimaa

set_option linter.unusedSimpArgs false
namespace Go.AbsE
open Go
section
variable {P : Program}
theorem FLeft.collects {f n : Nat} {ds : List ADef} {dk : Bool} {rd : Option Nat} {rest : List AFr} {t : Tr AVal} {Q : AM → Prop} {mode : AMode} (hm : mode ≠ .run) : ∀ {bs : List Nat} {h : AH}, bs.Nodup → (∀ b, b ∈ bs → Has h b (.deferred (some []))) →
  (∀ h', h'.next = h.next → (∀ b, b ∉ bs → h'.get b = h.get b) → FLeft P ⟨f, n, ds, dk, rd, rest⟩ mode t h' Q) → FLeft P ⟨f, n, bs.map .collected ++ ds, dk, rd, rest⟩ mode t h Q
 | [], h, _, _, g => g h rfl fun _ _ => rfl
 | b :: bs, h, nd, hb, g => by
  have nd' := List.nodup_cons.1 nd
  refine FLeft.collected hm (hb b List.mem_cons_self) fun h1 u => ?_
  refine FLeft.collects hm nd'.2 (fun b' hb' => (hb b' (List.mem_cons_of_mem _ hb')).upd u (fun z => nd'.1 (z ▸ hb'))) fun h' e1 e2 => ?_
  exact g h' (e1.trans u.1) fun b' hb' => by
   rw [e2 b' (fun z => hb' (List.mem_cons_of_mem _ z)), u.2.2 b' (fun z => hb' (z ▸ List.mem_cons_self))]
theorem Go.retCs {fn n : Nat} {bs : List Nat} {rst : List AFr} {k : List AItem} {t : Tr AVal} {h : AH} {R : AEnd → AH → Prop} {v : AVal} (nd : bs.Nodup) (hd : ∀ b, b ∈ bs → Has h b (.deferred (some [])))
  (hv : ∀ h', h'.next = h.next → (∀ b, b ∉ bs → h'.get b = h.get b) → aResult P h' fn t = some v ∧ R (.ret v) h') : Go P ⟨fn, n, bs.map .collected, false, none, rst⟩ (.code .ret :: k) t h (Post P fn rst R) := by
 rw [← List.append_nil (bs.map ADef.collected)]
 exact Go.retL (FLeft.collects (fun q => by cases q) nd hd fun h' a b => FLeft.ret (hv h' a b).1 (hv h' a b).2)
structure Coll (h : AH) (lo : Nat) (bs : List Nat) : Prop where
 nd : bs.Nodup
 hs : ∀ b, b ∈ bs → lo ≤ b ∧ Has h b (.deferred (some []))
theorem Coll.nil {h : AH} {lo : Nat} : Coll h lo [] := ⟨List.nodup_nil, fun b q => by cases q⟩
theorem Coll.keep {h h' : AH} {lo : Nat} {bs : List Nat} (k : Coll h lo bs) (n : h.next ≤ h'.next) (e : ∀ b, lo ≤ b → b < h.next → b ∈ bs → h'.get b = h.get b) : Coll h' lo bs :=
 ⟨k.nd, fun b q => ⟨(k.hs b q).1, (k.hs b q).2.keep n (e b (k.hs b q).1 (k.hs b q).2.1 q)⟩⟩
theorem Coll.ext {h h' : AH} {lo : Nat} {bs : List Nat} (k : Coll h lo bs) (e : Ext h h') : Coll h' lo bs := k.keep e.1 fun b _ hb _ => e.2 b hb
theorem Coll.cons {h : AH} {lo d : Nat} {bs : List Nat} (k : Coll h lo bs) (hl : lo ≤ d) (hd : Has h d (.deferred (some []))) (hn : d ∉ bs) : Coll h lo (d :: bs) :=
 ⟨List.nodup_cons.2 ⟨hn, k.nd⟩, fun b q => by
  rcases List.mem_cons.1 q with rfl | q
  ·exact ⟨hl, hd⟩
  ·exact k.hs b q⟩
end
end Go.AbsE

namespace Go.Proofs.Ytkhiagdmbajimaa
open Go Go.AbsE
set_option linter.unusedSimpArgs false
set_option maxRecDepth 100000
set_option maxHeartbeats 0
set_option linter.unusedVariables false
theorem ints_at {c : List Nat} {a : Nat} (h : a < c.length) : (ints c)[a]? = some ((nx c a : Nat) : Int) := by
 unfold ints nx
 rw [List.getElem?_map]
 simp [h]
theorem next_ok {c : List Nat} {t b : AVal} (hb : scalars [b] = true ∧ b.cells = [b]) {a : Nat} (ha : a < c.length) (hc : c.length ≤ 100) {h : AH} (S : SliceOf h 1 t ((ints c).map fun x => [AVal.int .i64 x])) :
  Runs Try.prog 42 [.agg [t, b], .int .i64 a] h (fun en h' => en = .ret (.int .i64 ((nx c a : Nat) : Int)) ∧ Ext h h') := by
 have hl : ((ints c).map fun x => [AVal.int .i64 x]).length = c.length := by unfold ints; simp
 obtain ⟨bq, off, q1, q2⟩ := S.at (i := a) (l := [.int .i64 ((nx c a : Nat) : Int)]) (by rw [List.getElem?_map, ints_at ha]; rfl)
 rw [hl] at q1
 have e9 : Ext h h := Ext.refl _
 refine Runs.intro aFunc42 rfl rfl rfl rfl fun rest => ?_;apply gS;refine gR rfl ?_;refine GoR.box rfl rfl rfl rfl rfl rfl fun h0 x0 f0 => ?_;replace e9 := e9.trans x0;refine gP ?_;apply gE;apply gS;refine gR rfl ?_;refine gO rfl rfl (fa79_0 rfl) rfl ?_;refine gO rfl rfl (ld47 rfl f0 rfl) rfl ?_;refine gP ?_;refine gO rfl rfl (aOp_indexAddr (i := a) Try.underlying47 sz3 rfl q1 rfl (Nat.ble_eq_true_of_le ha)) rfl ?_;refine gO rfl rfl (aOp_loadE1 (k := 0) ag3 rfl (q2.ext e9) rfl) rfl ?_;refine gP ?_;apply gE;exact gW Try.func42 rfl rfl ⟨rfl, e9⟩
theorem only_app (s : Nat) : ∀ (A B : List (Int × Int)) (k : Nat), onlyV s k (A ++ B) = onlyV s k A ++ onlyV s (k + A.length) B
 | [], B, k => rfl
 | x :: A, B, k => by
  have ih := only_app s A B (k + 1)
  rw [show k + 1 + A.length = k + (x :: A).length by rw [List.length_cons]; omega] at ih
  show (if s.testBit k = true then x :: onlyV s (k + 1) (A ++ B) else onlyV s (k + 1) (A ++ B)) = (if s.testBit k = true then x :: onlyV s (k + 1) A else onlyV s (k + 1) A) ++ _
  rw [ih]
  by_cases q : s.testBit k = true
  ·rw [if_pos q, if_pos q, List.cons_append]
  ·rw [if_neg q, if_neg q]
theorem only_take {s : Nat} {L : List (Int × Int)} {i : Nat} {x : Int × Int} (hx : L[i]? = some x) : onlyV s 0 (L.take (i + 1)) = onlyV s 0 (L.take i) ++ (if s.testBit i = true then [x] else []) := by
 have hl := (List.getElem?_eq_some_iff.1 hx).1
 rw [List.take_add_one, hx, Option.toList_some, only_app, Nat.zero_add, List.length_take, Nat.min_eq_left (by omega)]
 congr 1
theorem only_not {s : Nat} {L : List (Int × Int)} {i : Nat} {x : Int × Int} {p : Int × Int → Bool} (hx : L[i]? = some x) (hs : s.testBit i = true) (hp : p x = false) : (onlyV s 0 L).all p = false := by
 have h1 := only_app s (L.take (i + 1)) (L.drop (i + 1)) 0
 rw [List.take_append_drop, only_take hx, hs, if_pos rfl] at h1;rw [h1, List.all_append, List.all_append, List.all_cons, hp]
 simp
theorem lv5_inj {l m : List Int} (h : l.length = m.length) (k : lv5 l = lv5 m) : l = m := by
 unfold lv5 at k
 exact (List.append_inj k h).1
def entK (n : Nat) (b : AVal) (x : List Int × Nat) : List Int × AVal := (lv5 x.1, .agg [.slice x.2 0 n n, b])
structure KnownAt (D : DrainV) (h : AH) (bm : Nat) (b : AVal) (KT : List (List Int × Nat)) : Prop where
 m : Has h bm (.map (esN (KT.map (entK D.bs.length b))) KT.length)
 sl : ∀ x, x ∈ KT → Has h x.2 (.cells .plain (i64s (ints (D.course 0 x.1))) 3)
theorem KnownAt.ext {D : DrainV} {h h' : AH} {bm : Nat} {b : AVal} {KT : List (List Int × Nat)} (k : KnownAt D h bm b KT) (e : Ext h h') : KnownAt D h' bm b KT := ⟨k.m.ext e, fun x hx => (k.sl x hx).ext e⟩
theorem key99 : KeyN Try.prog 99 5 where
 fs := ⟨_, Try.underlying99, .cons (n := 5) ⟨by decide, .inr ⟨sz97, _, _, Try.underlying97, Try.underlying3, sz3⟩⟩ rfl (.nil _)⟩
 std := by kernel_rfl
theorem course0_ok {D : DrainV} (O : D.Ok) {b d r s : AVal} {l : List Int} (hl : l.length = D.bs.length) {h : AH} (A : DrainAt h D b d r s) :
  Runs Try.prog 91 [.agg (dC b d r s), dugI d, .agg (i64s (lv5 l))] h (fun en h' => ∃ bt, en = .ret (.agg [.slice bt 0 D.bs.length D.bs.length, b]) ∧ Ext h h' ∧ h.next ≤ bt ∧ Has h' bt (.cells .plain (i64s (ints (D.course 0 l))) 3)) :=
 (course_ok O hl A (dug_join A.ds (by have := O.nd; omega))).mono fun en h' ⟨t, q, e, C⟩ => by
  obtain ⟨bt, k1, k2, k3⟩ := C.blk
  rw [List.length_map, List.length_range] at k1;subst k1;exact ⟨bt, q, e, k2, k3⟩
theorem levs_new {D : DrainV} {st j : Nat} {l : List Int} (hl : (levsV D.bs)[j]? = some l) {x : List Int} (hx : x ∈ ((levsV D.bs).take j).filter (D.okSeen st)) : x.length = D.bs.length ∧ l ≠ x := by
 have h1 := (List.mem_filter.1 hx).1
 refine ⟨levs_len (List.mem_of_mem_take h1), fun q => ?_⟩;subst q
 obtain ⟨i, hi, h2⟩ := List.mem_take_iff_getElem.1 h1
 have hj := List.getElem?_eq_some_iff.1 hl
 exact List.pairwise_iff_getElem.1 (levs_nodup D.bs) i j (by omega) hj.1 (by omega) (h2.trans hj.2.symm)
theorem learn_ok {D : DrainV} (O : D.Ok) {b d r s : AVal} {st : Nat} {h : AH} (A : DrainAt h D b d r s) :
  Runs Try.prog 70 [.agg (dC b d r s), .int .i64 st] h (fun en h' => ∃ bm KT, en = .ret (.map bm) ∧ KT.map (fun x => x.1) = D.learn st ∧ Ext h h' ∧ h.next ≤ bm ∧ KnownAt D h' bm b KT) := by
 have hnb := O.nb
 have hns := O.ns
 have hl4 := A.ss.len
 rw [List.length_map] at hl4
 have hlv := fun h A => levels_ok (D := D) (b := b) (d := d) (r := r) (s := s) (h := h) A
 have hdg := fun h A => dugOf_ok (D := D) (b := b) (d := d) (r := r) (s := s) (h := h) A
 have hco := fun {l : List Int} (hl : l.length = D.bs.length) h A => course0_ok O (b := b) (d := d) (r := r) (s := s) hl (h := h) A
 have hsm := A.same
 have hsm3 := A.bs.same
 have hsmd := A.ds.same
 have hbs := A.bs.scal
 unfold dC dugI at *
 have e0 : Ext h h := Ext.refl _
 refine Runs.intro aFunc70 rfl rfl rfl rfl fun rest => ?_;apply gS;refine gR rfl ?_;refine GoR.box rfl rfl rfl rfl rfl rfl fun h0 x0 f0 => ?_;have := e0.1;replace e0 := e0.trans x0;have := f0.1;refine GoR.box rfl rfl rfl rfl rfl rfl fun h1 x1 f1 => ?_;have := e0.1;have := f0.1;replace f0 := f0.ext x1;replace e0 := e0.trans x1;have := f1.1;refine gP ?_;apply gE;refine Go.scope noJ_ok ?_;apply gS;refine gR rfl ?_;refine GoR.makeMap rfl rfl rfl rfl rfl fun h2 x2 f2 => ?_;have := e0.1;have := f1.1;have := f0.1;replace f1 := f1.ext x2;replace f0 := f0.ext x2;replace e0 := e0.trans x2;have := f2.1;refine GoR.alloc rfl rfl rfl zt74 rfl rfl fun h3 x3 f3 => ?_;have := e0.1;have := f2.1;have := f1.1;have := f0.1;replace f2 := f2.ext x3;replace f1 := f1.ext x3;replace f0 := f0.ext x3;replace e0 := e0.trans x3;have := f3.1;refine GoR.store rfl rfl rfl rfl rfl rfl f3 rfl sz74 rfl rfl rfl fun h4 u4 => ?_;replace f3 := u4.has f3;replace f2 := f2.upd u4 (by omega);replace f1 := f1.upd u4 (by omega);replace f0 := f0.upd u4 (by omega);replace e0 := e0.upd u4 (by omega);apply gE;apply gS;refine Go.label noJ_ok ?_;iterate 2 apply gS
 refine gR rfl ?_;refine gO rfl rfl (ld71 rfl f0 rfl) rfl ?_;refine GoR.call rfl rfl (aCF aFunc90 rfl) (hlv _ (A.ext e0)) ?_ (by rintro _ _ ⟨bb, q, _, hbb, _⟩; cases q);rintro v5 h5 ⟨bb, q, x5, hbb, f5⟩;cases q;refine ⟨_, rfl, ?_⟩;have := e0.1;replace f3 := f3.ext x5;replace f2 := f2.ext x5;replace f1 := f1.ext x5;replace f0 := f0.ext x5;replace e0 := e0.trans x5;apply gE;refine Go.block noJ_ok ?_
 have hq0 := f0.1
 have hq1 := f1.1
 have hq2 := f2.1
 have hq3 := f3.1
 have eF : ∀ {hh}, ExtF (fun b => b = h1.next) h5 hh → Ext h hh := fun x => x.low e0 fun b q => by omega
 refine Go.rangeN (items := levI D) (A := fun h' => Has h' bb (.cells .plain [b, d, r, s] 71) ∧ Ext h h') (fun x => x = h1.next)
  (fun j hh G => ∃ KT, KT.map (fun x => x.1) = ((levsV D.bs).take j).filter (D.okSeen st) ∧ KnownAt D hh h1.next b KT ∧ (∀ x, G x ↔ (x = h1.next ∨ ∃ y, y ∈ KT ∧ x = y.2)) ∧ ∀ y, y ∈ KT → h5.next ≤ y.2)
  (fun _ _ _ => False) rfl aFunc101 Try.func70 (levels_it O A bb) (fun h' x => ⟨f5.extF x (by have := u4.1; omega), eF x⟩) ⟨[], rfl, ⟨f2, fun x hx => by cases hx⟩, fun x => ⟨.inl, fun q => q.elim id fun ⟨y, hy, _⟩ => by cases hy⟩, fun y hy => by cases hy⟩ ?_ ?_ ?_ ?_ ?_ ?_ ?_
 ·rintro k hh G x ⟨KT, _, KA, hG, _⟩ q
  rcases (hG x).1 q with rfl | ⟨y, hy, rfl⟩
  ·exact KA.m.1
  ·exact (KA.sl y hy).1
 ·rintro c hh G b q;exact q.elim
 ·rintro k h4' h5' G ⟨KT, hK, KA, hG, hKT⟩ hn hk;exact ⟨KT, hK, ⟨KA.m.keep hn (hk _ KA.m.1 (.inr ((hG _).2 (.inl rfl)))), fun x hx => (KA.sl x hx).keep hn (hk _ (KA.sl x hx).1 (.inr ((hG _).2 (.inr ⟨x, hx, rfl⟩))))⟩, hG, hKT⟩
 ·rintro c h4' h5' G q;exact q.elim
 ·rintro j item hj
  obtain ⟨l, hl, rfl⟩ : ∃ l, (levsV D.bs)[j]? = some l ∧ [AVal.agg (i64s (lv5 l))] = item := by
   unfold levI at hj
   rw [List.getElem?_map] at hj
   cases q : (levsV D.bs)[j]? with
   | none => rw [q] at hj; cases hj
   | some x => rw [q] at hj; exact ⟨x, rfl, Option.some.inj hj⟩
  refine ⟨_, rfl, ?_⟩;rintro hh G lb r0 fr rest' Q' ⟨KT, hK, KA, hG, hKT⟩ x1 hsub hnl hlb fl hready contT contF
  have hmem := List.mem_of_getElem? hl
  have hll := levs_len hmem
  have hl5 := lv5_len (l := l) (by omega)
  have htk : ((levsV D.bs).take (j + 1)).filter (D.okSeen st) = ((levsV D.bs).take j).filter (D.okSeen st) ++ (if D.okSeen st l = true then [l] else []) := by
   rw [List.take_add_one, hl, Option.toList_some, List.filter_append, List.filter_cons, List.filter_nil]
  have hx1 := x1.1
  have hfl := fl.1
  have f2' := KA.m
  have hbl : h1.next ≠ lb := fun q => hnl ((hG _).2 (.inl q.symm))
  have hkl : ∀ y, y ∈ KT → y.2 ≠ lb := fun y hy q => hnl ((hG _).2 (.inr ⟨y, hy, q.symm⟩))
  replace f0 := f0.extF x1 (by omega);replace f1 := f1.extF x1 (by omega);replace f3 := f3.extF x1 (by omega)
  have e8 := eF x1
  have y8 : ExtF (fun b => b = lb) hh hh := ExtF.of (Ext.refl _)
  have y9 : ExtF (fun b => G b ∨ b = lb) hh hh := ExtF.of (Ext.refl _)
  clear e0 f2 f5 contF
  obtain ⟨f2, hf2⟩ : ∃ f2, f2 = f2' := ⟨_, rfl⟩
  clear hf2
  have hb5 : Nat.beq (AVal.agg (i64s (lv5 l))).cells.length 5 = true := beq_len (show (i64s (lv5 l)).length = 5 by rw [i64s_len, hl5])
  have hs5 : ∀ z : List AVal, z.length = 5 → splice z 0 (AVal.agg (i64s (lv5 l))).cells = some (i64s (lv5 l)) := fun z hz => splice_whole (show z.length = (i64s (lv5 l)).length by rw [i64s_len, hl5, hz])
  have hsl : slice? (i64s (lv5 l)) 0 5 = some (i64s (lv5 l)) := slice_all (by rw [i64s_len, hl5])
  have hsm6 := same_ints (lv5 l)
  have hsm7 : sameA (.iface 104 (.agg [d])) (.iface 104 (.agg [d])) = true := (dug_join A.ds (by have := O.nd; omega)).same
  have hsc : ∀ bt, scalars [.slice bt 0 D.bs.length D.bs.length, b] = true := fun bt => scal2 rfl hbs.1
  clear f2';refine gR rfl ?_;refine GoR.alloc rfl rfl rfl zt99 rfl rfl fun h6 x6 f6 => ?_;have := e8.1;have := fl.1;have := f0.1;have := f1.1;have := f3.1;have := f2.1;replace fl := fl.ext x6;replace f0 := f0.ext x6;replace f1 := f1.ext x6;replace f3 := f3.ext x6;replace f2 := f2.ext x6;replace e8 := e8.trans x6;replace y8 := y8.ext x6;replace y9 := y9.ext x6;have := f6.1;refine GoR.store rfl rfl rfl rfl rfl rfl f6 rfl sz99 hb5 (scal_ints _) (hs5 _ rfl) fun h7 u7 => ?_;replace f6 := u7.has f6;replace fl := fl.upd u7 (by omega);replace f0 := f0.upd u7 (by omega);replace f1 := f1.upd u7 (by omega);replace f3 := f3.upd u7 (by omega);replace f2 := f2.upd u7 (by omega);replace e8 := e8.upd u7 (by omega);replace y8 := y8.upd u7 (.inr (by omega));replace y9 := y9.upd u7 (.inr (by omega));apply gE;refine Go.beginRound fl hready fun h41 u41 => ?_
  have hu41 := u41.1
  replace f0 := f0.upd u41 (by omega);replace f1 := f1.upd u41 (by omega);replace f2 := f2.upd u41 hbl;replace f3 := f3.upd u41 (by omega);replace f6 := f6.upd u41 (by omega);replace fl := u41.has fl;replace y8 := y8.upd u41 (.inl rfl);replace y9 := y9.upd u41 (.inl (.inr rfl));replace e8 := e8.upd u41 (by omega);refine Go.block noJ_ok ?_;refine Go.seq noJ_ok (Go.join (fun bb : Nat × Nat => [(2, .ptr h.next 0), (3, .ptr h0.next 0), (5, .ptr h2.next 0), (6, .ptr hh.next 0), (7, .ptr bb.2 0)]) (fun bb h' => Ext h h' ∧ ExtF (fun b => b = lb) hh h' ∧ ExtF (fun b => G b ∨ b = lb) hh h' ∧ hh.next < bb.1 ∧ hh.next < bb.2 ∧ bb.1 ≠ bb.2 ∧ Has h' h.next (.cells .plain [b, d, r, s] 71) ∧ Has h' h0.next (.cells .plain [.int .i64 st] 3) ∧ Has h' h2.next (.cells .plain [.map h1.next] 74) ∧ Has h' hh.next (.cells .plain (i64s (lv5 l)) 99) ∧ Has h' h1.next (.map (esN (KT.map (entK D.bs.length b))) KT.length) ∧ Has h' lb (.loop { r0 with state := .busy }) ∧ Has h' bb.2 (.cells .plain [.slice bb.1 0 D.bs.length D.bs.length, b] 79) ∧ Has h' bb.1 (.cells .plain (i64s (ints (D.course 0 l))) 3)) ?_ ?_)
  ·intro k' done
   refine alts70a ?_ ?_ ?_
   ·intro pl hpl
    rw [pl70a_2_5_6] at hpl;cases hpl;iterate 2 refine gQ rfl rfl (ld71 rfl f0 rfl) rfl ?_
    refine gQ rfl rfl (ld99 rfl f6 hsl) rfl ?_;refine GoE.call rfl rfl (aCF aFunc80 rfl) (hdg _ (A.ext e8)) (dK 2 4 (dD 2 1 (dK 2 0 rfl))) ?_ np;rintro v42 h42 ⟨q, x42⟩;cases q;replace f0 := f0.ext x42;replace f1 := f1.ext x42;replace f2 := f2.ext x42;replace f3 := f3.ext x42;replace f6 := f6.ext x42;replace fl := fl.ext x42;replace e8 := e8.trans x42;replace y8 := y8.ext x42;replace y9 := y9.ext x42;refine ⟨(rck (h2 := h42) rfl (ld99 rfl f6 hsl) (rck (h2 := h42) rfl (ld71 rfl f0 rfl) recheck_nil)), _, rfl, ?_⟩;refine gQ rfl rfl rfl rfl ?_;refine GoE.call rfl rfl (aCF aFunc91 rfl) (hco hll _ (A.ext e8)) (dD 31 3 (dD 31 4 (dD 31 0 rfl))) ?_ (by rintro _ _ ⟨bt, q, _, hbt, _⟩; cases q);rintro v43 h43 ⟨bt, q, x43, hbt, f43⟩;cases q;have := e8.1;have := f0.1;have := f1.1;have := f2.1;have := f3.1;have := f6.1;have := fl.1;replace f0 := f0.ext x43;replace f1 := f1.ext x43;replace f2 := f2.ext x43;replace f3 := f3.ext x43;replace f6 := f6.ext x43;replace fl := fl.ext x43;replace e8 := e8.trans x43;replace y8 := y8.ext x43;replace y9 := y9.ext x43;refine ⟨recheck_nil, _, rfl, ?_⟩;refine GoE.alloc rfl rfl zt79 rfl rfl rfl fun h44 x44 f44 => ?_;have := e8.1;have := f43.1;have := f0.1;have := f1.1;have := f2.1;have := f3.1;have := f6.1;have := fl.1;replace f43 := f43.ext x44;replace f0 := f0.ext x44;replace f1 := f1.ext x44;replace f2 := f2.ext x44;replace f3 := f3.ext x44;replace f6 := f6.ext x44;replace fl := fl.ext x44;replace e8 := e8.trans x44;replace y8 := y8.ext x44;replace y9 := y9.ext x44;have := f44.1;refine ⟨recheck_nil, ?_⟩;refine GoE.store rfl rfl rfl rfl rfl rfl rfl f44 rfl sz79 rfl (hsc _) rfl fun h45 u45 => ?_;replace f44 := u45.has f44;replace f43 := f43.upd u45 (by omega);replace f0 := f0.upd u45 (by omega);replace f1 := f1.upd u45 (by omega);replace f2 := f2.upd u45 (by omega);replace f3 := f3.upd u45 (by omega);replace f6 := f6.upd u45 (by omega);replace fl := fl.upd u45 (by omega);replace e8 := e8.upd u45 (by omega);replace y8 := y8.upd u45 (.inr (by omega));replace y9 := y9.upd u45 (.inr (by omega));refine ⟨recheck_nil, ?_⟩;refine GoE.end rfl ?_;exact done (bt, h43.next) _ _ ⟨rfl, rfl, rfl, rfl, rfl, trivial⟩ ⟨e8, y8, y9, by dsimp only; omega, by dsimp only; omega, by dsimp only; omega, f0, f1, f3, f6, f2, fl, f44, f43⟩
   ·intro pl hpl
    rw [pl70a_2_6_5] at hpl;cases hpl;iterate 2 refine gQ rfl rfl (ld71 rfl f0 rfl) rfl ?_
    refine gQ rfl rfl (ld99 rfl f6 hsl) rfl ?_;refine GoE.call rfl rfl (aCF aFunc80 rfl) (hdg _ (A.ext e8)) (dK 2 4 (dD 2 1 (dK 2 0 rfl))) ?_ np;rintro v42 h42 ⟨q, x42⟩;cases q;replace f0 := f0.ext x42;replace f1 := f1.ext x42;replace f2 := f2.ext x42;replace f3 := f3.ext x42;replace f6 := f6.ext x42;replace fl := fl.ext x42;replace e8 := e8.trans x42;replace y8 := y8.ext x42;replace y9 := y9.ext x42;refine ⟨(rck (h2 := h42) rfl (ld99 rfl f6 hsl) (rck (h2 := h42) rfl (ld71 rfl f0 rfl) recheck_nil)), _, rfl, ?_⟩;refine gQ rfl rfl rfl rfl ?_;refine GoE.alloc rfl rfl zt79 (dK 6 3 (dK 6 4 (dK 6 0 rfl))) rfl rfl fun h43 x43 f43 => ?_;have := e8.1;have := f0.1;have := f1.1;have := f2.1;have := f3.1;have := f6.1;have := fl.1;replace f0 := f0.ext x43;replace f1 := f1.ext x43;replace f2 := f2.ext x43;replace f3 := f3.ext x43;replace f6 := f6.ext x43;replace fl := fl.ext x43;replace e8 := e8.trans x43;replace y8 := y8.ext x43;replace y9 := y9.ext x43;have := f43.1;refine ⟨(rck (h2 := h43) rfl (rfl) (rck (h2 := h43) rfl (ld99 rfl f6 hsl) (rck (h2 := h43) rfl (ld71 rfl f0 rfl) recheck_nil))), ?_⟩;refine GoE.call rfl rfl (aCF aFunc91 rfl) (hco hll _ (A.ext e8)) (dD 95 3 (dD 95 4 (dD 95 0 rfl))) ?_ (by rintro _ _ ⟨bt, q, _, hbt, _⟩; cases q);rintro v44 h44 ⟨bt, q, x44, hbt, f44⟩;cases q;have := e8.1;have := f43.1;have := f0.1;have := f1.1;have := f2.1;have := f3.1;have := f6.1;have := fl.1;replace f43 := f43.ext x44;replace f0 := f0.ext x44;replace f1 := f1.ext x44;replace f2 := f2.ext x44;replace f3 := f3.ext x44;replace f6 := f6.ext x44;replace fl := fl.ext x44;replace e8 := e8.trans x44;replace y8 := y8.ext x44;replace y9 := y9.ext x44;refine ⟨recheck_nil, _, rfl, ?_⟩;refine GoE.store rfl rfl rfl rfl rfl rfl rfl f43 rfl sz79 rfl (hsc _) rfl fun h45 u45 => ?_;replace f44 := f44.upd u45 (by omega);replace f43 := u45.has f43;replace f0 := f0.upd u45 (by omega);replace f1 := f1.upd u45 (by omega);replace f2 := f2.upd u45 (by omega);replace f3 := f3.upd u45 (by omega);replace f6 := f6.upd u45 (by omega);replace fl := fl.upd u45 (by omega);replace e8 := e8.upd u45 (by omega);replace y8 := y8.upd u45 (.inr (by omega));replace y9 := y9.upd u45 (.inr (by omega));refine ⟨recheck_nil, ?_⟩;refine GoE.end rfl ?_;exact done (bt, h42.next) _ _ ⟨rfl, rfl, rfl, rfl, rfl, trivial⟩ ⟨e8, y8, y9, by dsimp only; omega, by dsimp only; omega, by dsimp only; omega, f0, f1, f3, f6, f2, fl, f43, f44⟩
   ·intro pl hpl
    rw [pl70a_6_2_5] at hpl;cases hpl;iterate 2 refine gQ rfl rfl (ld71 rfl f0 rfl) rfl ?_
    refine gQ rfl rfl (ld99 rfl f6 hsl) rfl ?_;refine GoE.alloc rfl rfl zt79 (dK 0 4 (dK 0 1 (dK 0 0 rfl))) rfl rfl fun h42 x42 f42 => ?_;have := e8.1;have := f0.1;have := f1.1;have := f2.1;have := f3.1;have := f6.1;have := fl.1;replace f0 := f0.ext x42;replace f1 := f1.ext x42;replace f2 := f2.ext x42;replace f3 := f3.ext x42;replace f6 := f6.ext x42;replace fl := fl.ext x42;replace e8 := e8.trans x42;replace y8 := y8.ext x42;replace y9 := y9.ext x42;have := f42.1;refine ⟨(rck (h2 := h42) rfl (ld99 rfl f6 hsl) (rck (h2 := h42) rfl (ld71 rfl f0 rfl) (rck (h2 := h42) rfl (ld71 rfl f0 rfl) recheck_nil))), ?_⟩;refine GoE.call rfl rfl (aCF aFunc80 rfl) (hdg _ (A.ext e8)) (dK 66 4 (dD 66 1 (dK 66 0 rfl))) ?_ np;rintro v43 h43 ⟨q, x43⟩;cases q;replace f42 := f42.ext x43;replace f0 := f0.ext x43;replace f1 := f1.ext x43;replace f2 := f2.ext x43;replace f3 := f3.ext x43;replace f6 := f6.ext x43;replace fl := fl.ext x43;replace e8 := e8.trans x43;replace y8 := y8.ext x43;replace y9 := y9.ext x43;refine ⟨(rck (h2 := h43) rfl (ld99 rfl f6 hsl) (rck (h2 := h43) rfl (ld71 rfl f0 rfl) recheck_nil)), _, rfl, ?_⟩;refine gQ rfl rfl rfl rfl ?_;refine GoE.call rfl rfl (aCF aFunc91 rfl) (hco hll _ (A.ext e8)) (dD 95 3 (dD 95 4 (dD 95 0 rfl))) ?_ (by rintro _ _ ⟨bt, q, _, hbt, _⟩; cases q);rintro v44 h44 ⟨bt, q, x44, hbt, f44⟩;cases q;have := e8.1;have := f42.1;have := f0.1;have := f1.1;have := f2.1;have := f3.1;have := f6.1;have := fl.1;replace f42 := f42.ext x44;replace f0 := f0.ext x44;replace f1 := f1.ext x44;replace f2 := f2.ext x44;replace f3 := f3.ext x44;replace f6 := f6.ext x44;replace fl := fl.ext x44;replace e8 := e8.trans x44;replace y8 := y8.ext x44;replace y9 := y9.ext x44;refine ⟨recheck_nil, _, rfl, ?_⟩;refine GoE.store rfl rfl rfl rfl rfl rfl rfl f42 rfl sz79 rfl (hsc _) rfl fun h45 u45 => ?_;replace f44 := f44.upd u45 (by omega);replace f42 := u45.has f42;replace f0 := f0.upd u45 (by omega);replace f1 := f1.upd u45 (by omega);replace f2 := f2.upd u45 (by omega);replace f3 := f3.upd u45 (by omega);replace f6 := f6.upd u45 (by omega);replace fl := fl.upd u45 (by omega);replace e8 := e8.upd u45 (by omega);replace y8 := y8.upd u45 (.inr (by omega));replace y9 := y9.upd u45 (.inr (by omega));refine ⟨recheck_nil, ?_⟩;refine GoE.end rfl ?_;exact done (bt, h41.next) _ _ ⟨rfl, rfl, rfl, rfl, rfl, trivial⟩ ⟨e8, y8, y9, by dsimp only; omega, by dsimp only; omega, by dsimp only; omega, f0, f1, f3, f6, f2, fl, f42, f44⟩
  ·clear e8 y8 y9 f0 f1 f2 f3 f6 fl;rintro ⟨bt, b7⟩ h46 ⟨e8, y8, y9, hbt, hb7, hne, f0, f1, f3, f6, f2, fl, f7, f9⟩
   dsimp only at hbt hb7 hne f7 f9
   iterate 2 apply gS
   refine gR rfl ?_;refine gO rfl rfl (fa71_3 rfl) rfl ?_;refine gO rfl rfl (ld26 rfl f0 rfl) rfl ?_;refine gO rfl rfl (aOp_lenSlice Try.underlying26 rfl hl4) rfl ?_;refine gP ?_;apply gE;refine Go.block noJ_ok ?_
   refine Go.loopKeep (fun i : Nat => [(3, .ptr h0.next 0), (5, .ptr h2.next 0), (6, .ptr hh.next 0), (7, .ptr b7 0), (21, s), (22, .int .i64 D.ss.length), (23, .int .i64 (i : Nat))])
    (fun m i h' => m + i = D.ss.length ∧ (onlyV st 0 (D.ss.take i)).all (fun w => decide ((nx (D.course 0 l) w.1.toNat : Int) = w.2)) = true ∧ Ext h h' ∧ ExtF (fun b => b = lb) hh h' ∧ ExtF (fun b => G b ∨ b = lb) hh h' ∧ Has h' h0.next (.cells .plain [.int .i64 st] 3) ∧ Has h' h2.next (.cells .plain [.map h1.next] 74) ∧ Has h' hh.next (.cells .plain (i64s (lv5 l)) 99) ∧ Has h' h1.next (.map (esN (KT.map (entK D.bs.length b))) KT.length) ∧ Has h' lb (.loop { r0 with state := .busy }) ∧ Has h' b7 (.cells .plain [.slice bt 0 D.bs.length D.bs.length, b] 79) ∧ Has h' bt (.cells .plain (i64s (ints (D.course 0 l))) 3)) (n := D.ss.length) 0 ⟨rfl, rfl, rfl, rfl, rfl, rfl, rfl, trivial⟩ ⟨rfl, rfl, e8, y8, y9, f1, f3, f6, f2, fl, f7, f9⟩ ?_
   clear e8 y8 y9 f0 f1 f2 f3 f6 fl f7 f9;rintro m i h50 ⟨hm, hall, e8, y8, y9, f1, f3, f6, f2, fl, f7, f9⟩ again
   have hcl : (D.course 0 l).length = D.bs.length := course_len D 0 l
   by_cases hi : i < D.ss.length
   ·obtain ⟨⟨xa, xb⟩, hx⟩ : ∃ x, D.ss[i]? = some x := ⟨D.ss[i], by simp [hi]⟩
    have hxo := O.s _ (List.mem_of_getElem? hx)
    unfold PairOk at hxo
    dsimp only at hxo
    obtain ⟨a, rfl⟩ := Int.eq_ofNat_of_zero_le hxo.1.1
    obtain ⟨bq, off, q1, q2⟩ := A.ss.at (i := i) (l := spC ((a : Int), xb)) (by rw [List.getElem?_map, hx]; rfl)
    rw [List.length_map] at q1
    unfold spC at q2
    dsimp only at q2
    have hot := only_take (s := st) hx
    have hhas := fun h => has_is (s := st) (i := i) (by omega) (h := h)
    have hnxt := fun h' (f : Has h' bt (.cells .plain (i64s (ints (D.course 0 l))) 3)) => next_ok (c := D.course 0 l) (t := .slice bt 0 D.bs.length D.bs.length) (b := b) hbs (a := a) (by omega) (by omega) (h := h') (lit_slice (by unfold ints; rw [List.length_map, hcl]) f)
    cases hb : st.testBit i with
    | false =>
     rw [hb] at hhas;rw [hb, if_neg (by decide), List.append_nil] at hot;apply gS;refine gR rfl ?_;refine gO rfl rfl (kLT rfl rfl) rfl ?_;apply gE;apply gS;refine gC (b := true) rfl ?_;refine gD ?_;apply gS;refine Go.block noJ_ok ?_;apply gS;refine gR rfl ?_;refine gP ?_;refine gO rfl rfl (aOp_indexAddr (i := i) Try.underlying26 sz32 rfl q1 rfl (Nat.ble_eq_true_of_le hi)) rfl ?_;refine gO rfl rfl (aOp_loadE ag32 sz32 rfl (q2.ext e8)) rfl ?_;refine GoR.alloc rfl rfl rfl zt32 rfl rfl fun h51 x51 f51 => ?_;have := e8.1;have := f1.1;have := f3.1;have := f6.1;have := f2.1;have := fl.1;have := f7.1;have := f9.1;replace f1 := f1.ext x51;replace f3 := f3.ext x51;replace f6 := f6.ext x51;replace f2 := f2.ext x51;replace fl := fl.ext x51;replace f7 := f7.ext x51;replace f9 := f9.ext x51;replace e8 := e8.trans x51;replace y8 := y8.ext x51;replace y9 := y9.ext x51;have := f51.1;refine gP ?_;refine GoR.store rfl rfl rfl rfl rfl rfl f51 rfl sz32 rfl rfl rfl fun h52 u52 => ?_;replace f51 := u52.has f51;replace f1 := f1.upd u52 (by omega);replace f3 := f3.upd u52 (by omega);replace f6 := f6.upd u52 (by omega);replace f2 := f2.upd u52 (by omega);replace fl := fl.upd u52 (by omega);replace f7 := f7.upd u52 (by omega);replace f9 := f9.upd u52 (by omega);replace e8 := e8.upd u52 (by omega);replace y8 := y8.upd u52 (.inr (by omega));replace y9 := y9.upd u52 (.inr (by omega));apply gE;apply gS;refine Go.drawnE plan70_1 ?_;refine gQ rfl rfl (ld3 rfl f1 rfl) rfl ?_;refine gQ rfl rfl rfl rfl ?_;refine GoE.call rfl rfl (aCF aFunc92 rfl) (hhas _) (dD 3 1 (dD 3 0 rfl)) ?_ np;rintro v53 h53 ⟨q, x53⟩;cases q;replace f51 := f51.ext x53;replace f1 := f1.ext x53;replace f3 := f3.ext x53;replace f6 := f6.ext x53;replace f2 := f2.ext x53;replace fl := fl.ext x53;replace f7 := f7.ext x53;replace f9 := f9.ext x53;replace e8 := e8.trans x53;replace y8 := y8.ext x53;replace y9 := y9.ext x53;refine ⟨recheck_nil, _, rfl, ?_⟩;refine gQ rfl rfl rfl rfl ?_;iterate 7 refine GoE.skip rfl rfl rfl ?_
     refine gQ rfl rfl rfl rfl ?_;refine GoE.end rfl ?_;refine gC (b := false) rfl ?_;refine gD ?_;refine Go.inBlock noJ_ok ?_;refine gR rfl ?_;refine gO rfl rfl (aA rfl rfl) rfl ?_;refine gP ?_;apply gE;exact again (m - 1) (i + 1) _ _ (by omega) ⟨rfl, rfl, rfl, rfl, rfl, rfl, rfl, trivial⟩ ⟨by omega, by rw [hot]; exact hall, e8, y8, y9, f1, f3, f6, f2, fl, f7, f9⟩
    | true =>
     rw [hb] at hhas;rw [hb, if_pos rfl] at hot
     by_cases c1 : ((nx (D.course 0 l) a : Nat) : Int) = xb
     ·apply gS;refine gR rfl ?_;refine gO rfl rfl (kLT rfl rfl) rfl ?_;apply gE;apply gS;refine gC (b := true) rfl ?_;refine gD ?_;apply gS;refine Go.block noJ_ok ?_;apply gS;refine gR rfl ?_;refine gP ?_;refine gO rfl rfl (aOp_indexAddr (i := i) Try.underlying26 sz32 rfl q1 rfl (Nat.ble_eq_true_of_le hi)) rfl ?_;refine gO rfl rfl (aOp_loadE ag32 sz32 rfl (q2.ext e8)) rfl ?_;refine GoR.alloc rfl rfl rfl zt32 rfl rfl fun h51 x51 f51 => ?_;have := e8.1;have := f1.1;have := f3.1;have := f6.1;have := f2.1;have := fl.1;have := f7.1;have := f9.1;replace f1 := f1.ext x51;replace f3 := f3.ext x51;replace f6 := f6.ext x51;replace f2 := f2.ext x51;replace fl := fl.ext x51;replace f7 := f7.ext x51;replace f9 := f9.ext x51;replace e8 := e8.trans x51;replace y8 := y8.ext x51;replace y9 := y9.ext x51;have := f51.1;refine gP ?_;refine GoR.store rfl rfl rfl rfl rfl rfl f51 rfl sz32 rfl rfl rfl fun h52 u52 => ?_;replace f51 := u52.has f51;replace f1 := f1.upd u52 (by omega);replace f3 := f3.upd u52 (by omega);replace f6 := f6.upd u52 (by omega);replace f2 := f2.upd u52 (by omega);replace fl := fl.upd u52 (by omega);replace f7 := f7.upd u52 (by omega);replace f9 := f9.upd u52 (by omega);replace e8 := e8.upd u52 (by omega);replace y8 := y8.upd u52 (.inr (by omega));replace y9 := y9.upd u52 (.inr (by omega));apply gE;apply gS;refine Go.drawnE plan70_1 ?_;refine gQ rfl rfl (ld3 rfl f1 rfl) rfl ?_;refine gQ rfl rfl rfl rfl ?_;refine GoE.call rfl rfl (aCF aFunc92 rfl) (hhas _) (dD 3 1 (dD 3 0 rfl)) ?_ np;rintro v53 h53 ⟨q, x53⟩;cases q;replace f51 := f51.ext x53;replace f1 := f1.ext x53;replace f3 := f3.ext x53;replace f6 := f6.ext x53;replace f2 := f2.ext x53;replace fl := fl.ext x53;replace f7 := f7.ext x53;replace f9 := f9.ext x53;replace e8 := e8.trans x53;replace y8 := y8.ext x53;replace y9 := y9.ext x53;refine ⟨recheck_nil, _, rfl, ?_⟩;refine gQ rfl rfl rfl rfl ?_;refine gQ rfl rfl (ld79 rfl f7 rfl) rfl ?_;refine gQ rfl rfl (fa32_0 rfl) rfl ?_;refine gQ rfl rfl (ld3 rfl f51 rfl) rfl ?_;refine gQ rfl rfl (fa32_1 rfl) rfl ?_;refine gQ rfl rfl (ld3 rfl f51 rfl) rfl ?_;refine GoE.call rfl rfl (aCF aFunc42 rfl) (hnxt _ f9) (dK 127 9 (dK 127 8 (dD 127 6 (dD 127 5 (dD 127 4 (dD 127 3 rfl)))))) ?_ np;rintro v54 h54 ⟨q, x54⟩;cases q;replace f51 := f51.ext x54;replace f1 := f1.ext x54;replace f3 := f3.ext x54;replace f6 := f6.ext x54;replace f2 := f2.ext x54;replace fl := fl.ext x54;replace f7 := f7.ext x54;replace f9 := f9.ext x54;replace e8 := e8.trans x54;replace y8 := y8.ext x54;replace y9 := y9.ext x54;refine ⟨(rck (h2 := h54) rfl (ld3 rfl f51 rfl) (rck (h2 := h54) rfl (fa32_1 rfl) recheck_nil)), _, rfl, ?_⟩;refine gQ rfl rfl (kXF rfl rfl) rfl ?_;refine gQ rfl rfl rfl rfl ?_;refine GoE.end rfl ?_;refine gC (b := false) rfl ?_;refine gD ?_;refine Go.inBlock noJ_ok ?_;refine gR rfl ?_;refine gO rfl rfl (aA rfl rfl) rfl ?_;refine gP ?_;apply gE;exact again (m - 1) (i + 1) _ _ (by omega) ⟨rfl, rfl, rfl, rfl, rfl, rfl, rfl, trivial⟩ ⟨by omega, by rw [hot, List.all_append, hall, List.all_cons, List.all_nil]; simp [c1], e8, y8, y9, f1, f3, f6, f2, fl, f7, f9⟩
     ·apply gS;refine gR rfl ?_;refine gO rfl rfl (kLT rfl rfl) rfl ?_;apply gE;apply gS;refine gC (b := true) rfl ?_;refine gD ?_;apply gS;refine Go.block noJ_ok ?_;apply gS;refine gR rfl ?_;refine gP ?_;refine gO rfl rfl (aOp_indexAddr (i := i) Try.underlying26 sz32 rfl q1 rfl (Nat.ble_eq_true_of_le hi)) rfl ?_;refine gO rfl rfl (aOp_loadE ag32 sz32 rfl (q2.ext e8)) rfl ?_;refine GoR.alloc rfl rfl rfl zt32 rfl rfl fun h51 x51 f51 => ?_;have := e8.1;have := f1.1;have := f3.1;have := f6.1;have := f2.1;have := fl.1;have := f7.1;have := f9.1;replace f1 := f1.ext x51;replace f2 := f2.ext x51;replace fl := fl.ext x51;replace f7 := f7.ext x51;replace f9 := f9.ext x51;replace y8 := y8.ext x51;replace y9 := y9.ext x51;have := f51.1;refine gP ?_;refine GoR.store rfl rfl rfl rfl rfl rfl f51 rfl sz32 rfl rfl rfl fun h52 u52 => ?_;replace f51 := u52.has f51;replace f1 := f1.upd u52 (by omega);replace f2 := f2.upd u52 (by omega);replace fl := fl.upd u52 (by omega);replace f7 := f7.upd u52 (by omega);replace f9 := f9.upd u52 (by omega);replace y8 := y8.upd u52 (.inr (by omega));replace y9 := y9.upd u52 (.inr (by omega));apply gE;apply gS;refine Go.drawnE plan70_1 ?_;refine gQ rfl rfl (ld3 rfl f1 rfl) rfl ?_;refine gQ rfl rfl rfl rfl ?_;refine GoE.call rfl rfl (aCF aFunc92 rfl) (hhas _) (dD 3 1 (dD 3 0 rfl)) ?_ np;rintro v53 h53 ⟨q, x53⟩;cases q;replace f51 := f51.ext x53;replace f2 := f2.ext x53;replace fl := fl.ext x53;replace f7 := f7.ext x53;replace f9 := f9.ext x53;replace y8 := y8.ext x53;replace y9 := y9.ext x53;refine ⟨recheck_nil, _, rfl, ?_⟩;refine gQ rfl rfl rfl rfl ?_;refine gQ rfl rfl (ld79 rfl f7 rfl) rfl ?_;refine gQ rfl rfl (fa32_0 rfl) rfl ?_;refine gQ rfl rfl (ld3 rfl f51 rfl) rfl ?_;refine gQ rfl rfl (fa32_1 rfl) rfl ?_;refine gQ rfl rfl (ld3 rfl f51 rfl) rfl ?_;refine GoE.call rfl rfl (aCF aFunc42 rfl) (hnxt _ f9) (dK 127 9 (dK 127 8 (dD 127 6 (dD 127 5 (dD 127 4 (dD 127 3 rfl)))))) ?_ np;rintro v54 h54 ⟨q, x54⟩;cases q;replace f51 := f51.ext x54;replace f2 := f2.ext x54;replace fl := fl.ext x54;replace y8 := y8.ext x54;replace y9 := y9.ext x54;refine ⟨(rck (h2 := h54) rfl (ld3 rfl f51 rfl) (rck (h2 := h54) rfl (fa32_1 rfl) recheck_nil)), _, rfl, ?_⟩;refine gQ rfl rfl (kXT rfl rfl) rfl ?_;refine gQ rfl rfl rfl rfl ?_;refine GoE.end rfl ?_;refine gC (b := true) rfl ?_;refine gD ?_
      have hok : D.okSeen st l = false := only_not hx hb (p := fun w => decide ((nx (D.course 0 l) w.1.toNat : Int) = w.2)) (by simp [c1])
      rw [hok, if_neg (by decide), List.append_nil] at htk;exact contT _ _ G ⟨KT, by rw [htk]; exact hK, ⟨f2, fun x hx => (KA.sl x hx).extF y8 (hkl x hx)⟩, hG, hKT⟩ (fun b q => .inl q) y9 fl
   ·rw [List.take_of_length_le (by omega)] at hall
    have hok : D.okSeen st l = true := hall
    rw [if_pos hok] at htk;clear again;apply gS;refine gR rfl ?_;refine gO rfl rfl (kLF rfl rfl) rfl ?_;apply gE;apply gS;refine gC (b := false) rfl ?_;refine gD ?_;refine gR rfl ?_;refine gO rfl rfl (ld74 rfl f3 rfl) rfl ?_;refine gO rfl rfl (ld99 rfl f6 hsl) rfl ?_;refine gO rfl rfl (ld79 rfl f7 rfl) rfl ?_;refine GoR.mapNewN rfl rfl key99 Try.underlying74 rfl rfl (key := lv5 l) rfl rfl hl5 (by rw [List.length_map]; exact f2) ?_ fun h60 u60 => ?_
    ·intro x hx
     obtain ⟨y, hy, rfl⟩ := List.mem_map.1 hx
     have hyf : y.1 ∈ ((levsV D.bs).take j).filter (D.okSeen st) := hK ▸ List.mem_map.2 ⟨y, hy, rfl⟩
     obtain ⟨n1, n2⟩ := levs_new hl hyf
     exact ⟨lv5_len (by omega), fun q => n2 (lv5_inj (by omega) q)⟩
    have hK2 : KT.map (entK D.bs.length b) ++ [(lv5 l, AVal.agg [.slice bt 0 D.bs.length D.bs.length, b])] = (KT ++ [(l, bt)]).map (entK D.bs.length b) := by rw [List.map_append]; rfl
    replace u60 : Upd h50 h1.next (.map (esN (KT.map (entK D.bs.length b) ++ [(lv5 l, AVal.agg [.slice bt 0 D.bs.length D.bs.length, b])])) (KT.map (entK D.bs.length b) ++ [(lv5 l, AVal.agg [.slice bt 0 D.bs.length D.bs.length, b])]).length) h60 := u60;rw [hK2, List.length_map] at u60
    have g2 := u60.has f2
    have g9 := f9.upd u60 (by omega)
    have gK : ∀ x, x ∈ KT → Has h60 x.2 (.cells .plain (i64s (ints (D.course 0 x.1))) 3) := fun x hx => ((KA.sl x hx).extF y8 (hkl x hx)).upd u60 (by have := hKT x hx; omega)
    replace y9 := y9.upd u60 (.inl (.inl ((hG _).2 (.inl rfl))));replace fl := fl.upd u60 (by omega);clear f1 f2 f3 f6 f7 f9 e8 y8;apply gE;refine Go.inBlock noJ_ok ?_;refine contT _ _ (fun x => x = h1.next ∨ ∃ y, y ∈ KT ++ [(l, bt)] ∧ x = y.2) ⟨KT ++ [(l, bt)], by rw [htk, List.map_append, hK]; rfl, ⟨g2, fun x hx => ?_⟩, fun x => Iff.rfl, fun y hy => ?_⟩ (fun x q => ?_) y9 fl
    ·rcases List.mem_append.1 hx with hx | hx
     ·exact gK x hx
     ·cases List.mem_singleton.1 hx
      exact g9
    ·rcases List.mem_append.1 hy with hy | hy
     ·exact hKT y hy
     ·cases List.mem_singleton.1 hy
      dsimp only
      omega
    ·rcases q with q | ⟨y, hy, q⟩
     ·exact .inl ((hG _).2 (.inl q))
     ·rcases List.mem_append.1 hy with hy | hy
      ·exact .inl ((hG _).2 (.inr ⟨y, hy, q⟩))
      ·cases List.mem_singleton.1 hy
       exact .inr (by rw [q]; dsimp only; omega)
 ·rintro d' h30 G x30 hGs hnd2 hd hdd ⟨KT, hK, KA, hG, hKT⟩
  have hlen : (levI D).length = (levsV D.bs).length := by unfold levI; simp
  rw [hlen, List.take_length] at hK
  have hx30 := x30.1
  have e30 := eF x30
  replace f3 := f3.extF x30 (by omega)
  have hbm := KA.m.1
  clear e0 f0 f1 f2 f5;refine Go.inBlock noJ_ok ?_;apply gS;refine gR rfl ?_;refine gO rfl rfl (ld74 rfl f3 rfl) rfl ?_;refine gP ?_;apply gE;refine Go.retCs (bs := [d']) (by simp) (fun x q => by cases List.mem_singleton.1 q; exact hdd) fun h' n1 n2 => ⟨aResult_of Try.func70 rfl rfl, h1.next, KT, rfl, hK, ⟨by have := e30.1; omega, fun x hx => by rw [n2 x (fun q => by have := List.mem_singleton.1 q; omega), e30.2 x hx]⟩, by omega, ⟨KA.m.keep (by omega) (n2 _ (fun q => by have := List.mem_singleton.1 q; omega)), fun x hx => (KA.sl x hx).keep (by omega) (n2 _ (fun q => ?_))⟩⟩
  have q := List.mem_singleton.1 q
  exact hnd2 (q ▸ (hG _).2 (.inr ⟨x, hx, rfl⟩))
 ·rintro c d h30 G x30 hGs hnd2 hd hdd q;exact q.elim
end Go.Proofs.Ytkhiagdmbajimaa

namespace Go.Proofs.Ytkhiagdmbajimaa
open Go Go.AbsE
set_option linter.unusedSimpArgs false
set_option maxRecDepth 100000
set_option maxHeartbeats 0
set_option linter.unusedVariables false
theorem slice_sub {α : Type} {l r : List α} {o n k m : Nat} (h : slice? l o n = some r) (hk : k + m ≤ n) : slice? l (o + k) m = some ((r.drop k).take m) := by
 unfold slice? at *
 dsimp only at *
 by_cases q : ((l.drop o).take n).length = n
 ·rw [q, Nat.beq_refl] at h
  have h : (l.drop o).take n = r := Option.some.inj h
  have e : (l.drop (o + k)).take m = (r.drop k).take m := by
   rw [← h, List.drop_take, List.drop_drop, List.take_take, Nat.min_eq_left (by omega)]
  rw [e]
  have : ((r.drop k).take m).length = m := by
   rw [List.length_take, List.length_drop, ← h, q]
   omega
  rw [this, Nat.beq_refl]
  rfl
 ·have : Nat.beq ((l.drop o).take n).length n = false := by
   cases z : Nat.beq ((l.drop o).take n).length n with
   | false => rfl
   | true => exact absurd (Nat.eq_of_beq_eq_true z) q
  rw [this] at h;cases h
theorem cells_sub {h : AH} {b o n k m : Nat} {l : List AVal} (c : CellsAt h b o n l) (hk : k + m ≤ n) : CellsAt h b (o + k) m ((l.drop k).take m) := by
 obtain ⟨c1, c2⟩ := c
 refine ⟨c1, ?_⟩
 unfold AbsE.loadCells at *
 cases q : h.get b with
 | none => rw [q] at c2; cases c2
 | some x =>
  rw [q] at c2
  cases x with
  | cells g cs el => exact slice_sub c2 hk
  | win lo cs =>
   dsimp only at c2 ⊢
   cases z : Nat.ble lo o with
   | false => rw [z] at c2; cases c2
   | true =>
    rw [z] at c2
    have hle := Nat.le_of_ble_eq_true z
    rw [Nat.ble_eq_true_of_le (show lo ≤ o + k by omega)]
    show slice? cs (o + k - lo) m = _
    rw [show o + k - lo = (o - lo) + k by omega];exact slice_sub c2 hk
  | _ => cases c2
theorem end_ok {D : DrainV} {l : List Int} {c : List Nat} (dn : Down l c) (hcn : c.length = D.bs.length) (hc5 : c.length ≤ 5) {t b : AVal} {a : Nat} (ha : a < c.length) {h : AH} (S : SliceOf h 1 t ((ints c).map fun x => [AVal.int .i64 x])) (B : SliceOf h 4 b (D.bs.map BkV.cells)) :
  Runs Try.prog 45 [.agg [t, b], .int .i64 a] h (fun en h' => en = .ret (.int .i64 ((endV c 21 a : Nat) : Int)) ∧ Ext h h') := by
 have hl1 := B.len
 rw [List.length_map] at hl1
 have hbs := B.scal
 have hsm1 := S.same
 have hsm2 := B.same
 have hsm : sameA (.agg [t, b]) (.agg [t, b]) = true := by simp [sameA, sameAs, hsm1, hsm2]
 have hnxt := fun h' e (a : Nat) (ha : a < c.length) => next_ok (c := c) (t := t) (b := b) hbs (a := a) ha (by omega) (h := h') (S.ext e)
 have hlo := dn.lo a ha
 have e0 : Ext h h := Ext.refl _
 refine Runs.intro aFunc45 rfl rfl rfl rfl fun rest => ?_;apply gS;refine gR rfl ?_;refine GoR.box rfl rfl rfl rfl rfl rfl fun h0 x0 f0 => ?_;have := e0.1;replace e0 := e0.trans x0;have := f0.1;refine gP ?_;apply gE;apply gS;refine Go.block noJ_ok ?_
 refine Go.loopKeep (fun a' : Nat => [(1, .int .i64 a'), (2, .ptr h.next 0)])
  (fun m a' h' => a' < c.length ∧ (m : Int) = lv l a' ∧ endV c 21 a' = endV c 21 a ∧ Ext h h' ∧ Has h' h.next (.cells .plain [t, b] 79)) (n := (lv l a).toNat) a ⟨rfl, rfl, trivial⟩ ⟨ha, by omega, rfl, e0, f0⟩ ?_
 clear e0 f0;rintro m a' h9 ⟨ha', hm, hend, e0, f0⟩ again
 have hna := fun h' e => hnxt h' e a' ha'
 by_cases hi : nx c a' < c.length
 ·have hn := end_next dn ha'
  rw [if_pos hi] at hn
  have hlt := dn.lt a' ha' hi
  have hlo2 := dn.lo _ hi
  iterate 2 apply gS
  refine Go.drawnE plan45_0 ?_;refine gQ rfl rfl (ld79 rfl f0 rfl) rfl ?_;refine gQ rfl rfl rfl rfl ?_;refine gQ rfl rfl (fa79_1 rfl) rfl ?_;refine gQ rfl rfl (ld25 rfl f0 rfl) rfl ?_;refine gQ rfl rfl (aOp_lenSlice Try.underlying25 rfl hl1) rfl ?_;refine GoE.call rfl rfl (aCF aFunc42 rfl) (hna _ e0) (dK 3 5 (dK 3 4 (dK 3 3 (dD 3 1 (dD 3 0 rfl))))) ?_ np;rintro v10 h10 ⟨q, x10⟩;cases q;replace f0 := f0.ext x10;replace e0 := e0.trans x10;refine ⟨(rck (h2 := h10) rfl (aOp_lenSlice Try.underlying25 rfl hl1) (rck (h2 := h10) rfl (ld25 rfl f0 rfl) (rck (h2 := h10) rfl (fa79_1 rfl) recheck_nil))), _, rfl, ?_⟩;refine gQ rfl rfl (kLT rfl rfl) rfl ?_;refine GoE.end rfl ?_;refine gC (b := true) rfl ?_;refine gD ?_;refine Go.block noJ_ok ?_;refine gR rfl ?_;refine gO rfl rfl (ld79 rfl f0 rfl) rfl ?_;refine gP ?_;refine GoR.call rfl rfl (aCF aFunc42 rfl) (hna _ e0) ?_ np;rintro v11 h11 ⟨q, x11⟩;cases q;refine ⟨_, rfl, ?_⟩;replace f0 := f0.ext x11;replace e0 := e0.trans x11;refine gP ?_;apply gE;refine Go.inBlock noJ_ok ?_;exact again (lv l (nx c a')).toNat (nx c a') _ _ (by omega) ⟨rfl, rfl, trivial⟩ ⟨hi, by omega, by rw [← hn, hend], e0, f0⟩
 ·have hn := end_next dn ha'
  rw [if_neg hi] at hn
  rw [← hend, hn]
  iterate 2 apply gS
  refine Go.drawnE plan45_0 ?_;refine gQ rfl rfl (ld79 rfl f0 rfl) rfl ?_;refine gQ rfl rfl rfl rfl ?_;refine gQ rfl rfl (fa79_1 rfl) rfl ?_;refine gQ rfl rfl (ld25 rfl f0 rfl) rfl ?_;refine gQ rfl rfl (aOp_lenSlice Try.underlying25 rfl hl1) rfl ?_;refine GoE.call rfl rfl (aCF aFunc42 rfl) (hna _ e0) (dK 3 5 (dK 3 4 (dK 3 3 (dD 3 1 (dD 3 0 rfl))))) ?_ np;rintro v10 h10 ⟨q, x10⟩;cases q;replace f0 := f0.ext x10;replace e0 := e0.trans x10;refine ⟨(rck (h2 := h10) rfl (aOp_lenSlice Try.underlying25 rfl hl1) (rck (h2 := h10) rfl (ld25 rfl f0 rfl) (rck (h2 := h10) rfl (fa79_1 rfl) recheck_nil))), _, rfl, ?_⟩;refine gQ rfl rfl (kLF rfl rfl) rfl ?_;refine GoE.end rfl ?_;refine gC (b := false) rfl ?_;refine gD ?_;apply gS;refine gR rfl ?_;iterate 2 refine gP ?_
  apply gE;exact gW Try.func45 rfl rfl ⟨rfl, e0⟩
theorem add_ok {L : List (Int × Int)} {s : AVal} {h : AH} (S : SliceOf h 2 s (L.map spC)) (hL : L.length ≤ 100) (hin : ∀ p, p ∈ L → (0 ≤ p.1 ∧ p.1 ≤ (20 : Nat)) ∧ (0 ≤ p.2 ∧ p.2 ≤ (20 : Nat))) :
  Runs Try.prog 72 [s] h (fun en h' => en = .ret (.agg (spC (sumP L))) ∧ Ext h h') := by
 have hl := S.len
 rw [List.length_map] at hl
 have hsm := S.same
 have e0 : Ext h h := Ext.refl _
 refine Runs.intro aFunc72 rfl rfl rfl rfl fun rest => ?_;apply gS;refine gR rfl ?_;refine GoR.alloc rfl rfl rfl zt35 rfl rfl fun h0 x0 f0 => ?_;have := e0.1;replace e0 := e0.trans x0;have := f0.1;apply gE;iterate 2 apply gS
 refine gR rfl ?_;refine gP ?_;refine gO rfl rfl (aOp_lenSlice Try.underlying100 rfl hl) rfl ?_;refine gP ?_;apply gE;refine Go.block noJ_ok ?_
 refine Go.loopKeep (fun i : Nat => [(2, .ptr h.next 0), (5, s), (6, .int .i64 L.length), (7, .int .i64 (i : Nat))])
  (fun m i h' => m + i = L.length ∧ Ext h h' ∧ Has h' h.next (.cells .plain (spC (sumP (L.take i))) 35)) (n := L.length) 0 ⟨rfl, rfl, rfl, rfl, trivial⟩ ⟨rfl, e0, f0⟩ ?_
 clear e0 f0;rintro m i h9 ⟨hm, e0, f0⟩ again
 by_cases hi : i < L.length
 ·obtain ⟨⟨x, y⟩, hx⟩ : ∃ x, L[i]? = some x := ⟨L[i], by simp [hi]⟩
  obtain ⟨bq, off, q1, q2⟩ := S.at (i := i) (l := spC (x, y)) (by rw [List.getElem?_map, hx]; rfl)
  rw [List.length_map] at q1
  have hst : sumP (L.take (i + 1)) = ((sumP (L.take i)).1 + x, (sumP (L.take i)).2 + y) := by rw [List.take_add_one, hx, Option.toList_some, sum_app]
  have hb := sum_in (l := L.take i) (M := 20) fun p hp => hin p (List.mem_of_mem_take hp)
  have hxy := hin _ (List.mem_of_getElem? hx)
  rw [List.length_take, Nat.min_eq_left (by omega)] at hb
  dsimp only at hxy
  obtain ⟨⟨u, v⟩, hu⟩ : ∃ z, sumP (L.take i) = z := ⟨_, rfl⟩
  rw [hu] at hst hb f0
  unfold spC at f0 q2
  dsimp only at f0 q2 hst hb
  apply gS;refine gR rfl ?_;refine gO rfl rfl (kLT rfl rfl) rfl ?_;apply gE;apply gS;refine gC (b := true) rfl ?_;refine gD ?_;apply gS;refine Go.block noJ_ok ?_;apply gS;refine gR rfl ?_;refine gO rfl rfl (aOp_indexAddr (i := i) Try.underlying100 sz35 rfl q1 rfl (Nat.ble_eq_true_of_le hi)) rfl ?_;refine gO rfl rfl (aOp_loadE ag35 sz35 rfl (q2.ext e0)) rfl ?_;refine GoR.alloc rfl rfl rfl zt35 rfl rfl fun h10 x10 f10 => ?_;have := e0.1;have := f0.1;replace f0 := f0.ext x10;replace e0 := e0.trans x10;have := f10.1;refine GoR.store rfl rfl rfl rfl rfl rfl f10 rfl sz35 rfl rfl rfl fun h11 u11 => ?_;replace f10 := u11.has f10;replace f0 := f0.upd u11 (by omega);replace e0 := e0.upd u11 (by omega);apply gE;apply gS;refine gR rfl ?_;refine gO rfl rfl (fa35_0 rfl) rfl ?_;refine gO rfl rfl (ld3 rfl f0 rfl) rfl ?_;refine gO rfl rfl (fa35_0 rfl) rfl ?_;refine gO rfl rfl (ld3 rfl f10 rfl) rfl ?_;refine gO rfl rfl (aA rfl rfl) rfl ?_;refine gO rfl rfl (fa35_0 rfl) rfl ?_;refine GoR.store rfl rfl rfl rfl rfl rfl f0 rfl sz3 rfl rfl rfl fun h12 u12 => ?_;replace f10 := f10.upd u12 (by omega);replace f0 := u12.has f0;replace e0 := e0.upd u12 (by omega);apply gE;refine gR rfl ?_;refine gO rfl rfl (fa35_1 rfl) rfl ?_;refine gO rfl rfl (ld3 rfl f0 rfl) rfl ?_;refine gO rfl rfl (fa35_1 rfl) rfl ?_;refine gO rfl rfl (ld3 rfl f10 rfl) rfl ?_;refine gO rfl rfl (aA rfl rfl) rfl ?_;refine gO rfl rfl (fa35_1 rfl) rfl ?_;refine GoR.store rfl rfl rfl rfl rfl rfl f0 rfl sz3 rfl rfl rfl fun h13 u13 => ?_;replace f0 := u13.has f0;replace e0 := e0.upd u13 (by omega);apply gE;refine Go.inBlock noJ_ok ?_;refine gR rfl ?_;refine gO rfl rfl (aA rfl rfl) rfl ?_;refine gP ?_;apply gE;exact again (m - 1) (i + 1) _ _ (by omega) ⟨rfl, rfl, rfl, rfl, trivial⟩ ⟨by omega, e0, by rw [hst]; exact f0⟩
 ·rw [List.take_of_length_le (by omega)] at f0
  unfold spC at f0 ⊢
  apply gS;refine gR rfl ?_;refine gO rfl rfl (kLF rfl rfl) rfl ?_;apply gE;apply gS;refine gC (b := false) rfl ?_;refine gD ?_;apply gS;refine gR rfl ?_;refine gO rfl rfl (ld35 rfl f0 rfl) rfl ?_;refine GoR.store rfl rfl rfl rfl rfl rfl f0 rfl sz35 rfl rfl rfl fun h10 u10 => ?_;replace f0 := u10.has f0;replace e0 := e0.upd u10 (by omega);apply gE;exact gV (ret_end (aResult_of Try.func72 rfl (aResults_cell rfl f0 (inCells_agg ag35 sz35 rfl))) ⟨rfl, e0⟩)
end Go.Proofs.Ytkhiagdmbajimaa
