import Derived.Test.YtobhkdgcciolmaaGreatMAQ
import Derived.KernelRfl
import Derived.Test.YtobhkdgcciolmaaGreatMAJ
import Derived.Test.YtobhkdgcciolmaaGreatMAG
import Derived.Laws.IdiomArrays
import Derived.Test.YtobhkdgcciolmaaGreatRows
import Derived.WalkKit
import Derived.ProofKit
import Derived.OpenShut
import Derived.Carry
namespace Go.Proofs.YtobhkdgcciolmaaGreat
open Go Go.AbsE
set_option linter.unusedSimpArgs false
set_option maxRecDepth 100000
set_option maxHeartbeats 0
set_option linter.unusedVariables false
def sampleV (E : List EV) : ClampV := ⟨[⟨3, 3, 2, 2, 1, 2⟩, ⟨2, 2, 2, 2, 2, 2⟩], 4, 5, [⟨0, 0, 10, 12⟩, ⟨1, 1, 30, 33⟩] ++ E⟩
def k1 : EV := ⟨1, 0, 13, 36⟩
def k2 : EV := ⟨1, 0, 12, 12⟩
theorem pv_len (p : PV) : (PV.cells p).length = 6 := rfl
theorem ev_len (p : EV) : (EV.cells p).length = 4 := rfl
theorem evs_four {L : List EV} : ∀ l, l ∈ L.map EV.cells → l.length = 4 := fun l hl => by
 obtain ⟨e, _, rfl⟩ := List.mem_map.1 hl
 rfl
theorem pvs_slice {h : AH} {b n : Nat} {g : Kd} {el : TypeId} {L : List PV} (hn : L.length = n) (f : Has h b (.cells g (L.flatMap PV.cells) el)) : SliceOf h 6 (.slice b 0 n n) (L.map PV.cells) :=
 SliceOf.mk' rfl rfl f (by rw [List.length_map, hn]) fun i v q => by rw [Nat.zero_add]; exact flatten_at pv_len i v q
theorem evs_slice {h : AH} {b n : Nat} {g : Kd} {el : TypeId} {L : List EV} (hn : L.length = n) (f : Has h b (.cells g (L.flatMap EV.cells) el)) : SliceOf h 4 (.slice b 0 n n) (L.map EV.cells) :=
 SliceOf.mk' rfl rfl f (by rw [List.length_map, hn]) fun i v q => by rw [Nat.zero_add]; exact flatten_at ev_len i v q
theorem scal_app {a b : List AVal} (ha : scalars a = true) (hb : scalars b = true) : scalars (a ++ b) = true := by
 induction a with
 | nil => exact hb
 | cons x a ih =>
  show cond (scalar x) (scalars (a ++ b)) false = true
  have h1 : cond (scalar x) (scalars a) false = true := ha
  cases q : scalar x with
  | true => rw [q] at h1; exact ih h1
  | false => rw [q] at h1; cases h1
theorem ClampAt.scal {C : ClampV} {p e : AVal} {h : AH} (A : ClampAt h C p e) : scalars (C.cells p e) = true :=
 scal_app (a := [p]) A.ps.scal.1 (scal_app (a := [.int .i64 C.pl, .int .i64 C.ph]) rfl A.es.scal.1)
def ClampNew (lo : Nat) (h : AH) (C : ClampV) (p e : AVal) : Prop := FreshS lo h 6 p (C.ps.map PV.cells) ∧ FreshS lo h 4 e (C.es.map EV.cells)
theorem ClampNew.at {lo : Nat} {h : AH} {C : ClampV} {p e : AVal} (k : ClampNew lo h C p e) : ClampAt h C p e := ⟨k.1.self, k.2.self⟩
theorem ClampNew.upd {lo n : Nat} {B : ABlk} {h h' : AH} {C : ClampV} {p e : AVal} (k : ClampNew lo h C p e) (u : Upd h n B h') (hn : n < lo) : ClampNew lo h' C p e :=
 ⟨k.1.on (Nat.le_of_eq u.1.symm) fun b b1 _ => u.2.2 b (by omega), k.2.on (Nat.le_of_eq u.1.symm) fun b b1 _ => u.2.2 b (by omega)⟩
theorem fresh_pvs {lo : Nat} {h : AH} {b n : Nat} {g : Kd} {el : TypeId} {L : List PV} (hn : L.length = n) (hb : lo ≤ b) (f : Has h b (.cells g (L.flatMap PV.cells) el)) : FreshS lo h 6 (.slice b 0 n n) (L.map PV.cells) := fun h' hl he => pvs_slice hn ⟨Nat.lt_of_lt_of_le f.1 hl, by rw [he b hb f.1]; exact f.2⟩
theorem sample_ok {E : List EV} {s : AVal} {h : AH} (hs : SliceOf h 4 s (E.map EV.cells)) (hn : E.length ≤ 100) : Runs Tryz.prog 42 [s] h (fun en h' => ∃ p e, en = .ret (.agg ((sampleV E).cells p e)) ∧ Ext h h' ∧ ClampNew h.next h' (sampleV E) p e ∧ Ext h' h') := by
 unfold ClampV.cells
 have e0 : Ext h h := Ext.refl _
 refine Runs.intro aFunc42 rfl rfl rfl rfl fun rest => ?_;apply gS;refine gR rfl ?_;refine GoR.alloc rfl rfl rfl zt27 rfl rfl fun h0 x0 f0 => ?_;have := e0.1;replace e0 := e0.trans x0;have := f0.1;apply gE;apply gS;refine gR rfl ?_;refine GoR.call rfl rfl (aCF aFunc83 rfl) (pile83_ok) ?_ np;rintro v1 h1 ⟨q, x1⟩;cases q;refine ⟨_, rfl, ?_⟩;replace f0 := f0.ext x1;replace e0 := e0.trans x1;refine GoR.call rfl rfl (aCF aFunc83 rfl) (pile83_ok) ?_ np;rintro v2 h2 ⟨q, x2⟩;cases q;refine ⟨_, rfl, ?_⟩;replace f0 := f0.ext x2;replace e0 := e0.trans x2;refine GoR.buildSl rfl rfl (ps := [(0, .agg [.int .i64 3, .int .i64 3, .int .i64 2, .int .i64 2, .int .i64 1, .int .i64 2]), (1, .agg [.int .i64 2, .int .i64 2, .int .i64 2, .int .i64 2, .int .i64 2, .int .i64 2])]) (cs := ([⟨3, 3, 2, 2, 1, 2⟩, ⟨2, 2, 2, 2, 2, 2⟩] : List PV).flatMap PV.cells) Tryz.underlying22 rfl sz58 zt58 rfl rfl rfl rfl fun h3 x3 f3 => ?_;have := e0.1;have := f0.1;replace f0 := f0.ext x3;replace e0 := e0.trans x3;have := f3.1;refine GoR.call rfl rfl (aCF aFunc36 rfl) (span36_ok) ?_ np;rintro v4 h4 ⟨q, x4⟩;cases q;refine ⟨_, rfl, ?_⟩;replace f3 := f3.ext x4;replace f0 := f0.ext x4;replace e0 := e0.trans x4;refine GoR.call rfl rfl (aCF aFunc41 rfl) (sale41_ok) ?_ np;rintro v5 h5 ⟨q, x5⟩;cases q;refine ⟨_, rfl, ?_⟩;replace f3 := f3.ext x5;replace f0 := f0.ext x5;replace e0 := e0.trans x5;refine GoR.call rfl rfl (aCF aFunc35 rfl) (count35_ok) ?_ np;rintro v6 h6 ⟨q, x6⟩;cases q;refine ⟨_, rfl, ?_⟩;replace f3 := f3.ext x6;replace f0 := f0.ext x6;replace e0 := e0.trans x6;refine GoR.buildSl rfl rfl (ps := [(0, .agg [.int .i64 0, .int .i64 0, .int .i64 10, .int .i64 12]), (1, .agg [.int .i64 1, .int .i64 1, .int .i64 30, .int .i64 33])]) (cs := (([⟨0, 0, 10, 12⟩, ⟨1, 1, 30, 33⟩] : List EV).map EV.cells).flatten) Tryz.underlying25 rfl sz53 zt53 rfl rfl rfl rfl fun h7 x7 f7 => ?_;have := e0.1;have := f3.1;have := f0.1;replace f3 := f3.ext x7;replace f0 := f0.ext x7;replace e0 := e0.trans x7;have := f7.1;refine gP ?_
 have hb0 := f0.1
 have hsl := hs.ext e0
 have hb3 := f3.1
 have hb7 := f7.1
 have hn1 : h.next < h2.next := by omega
 have hn2 : h2.next < h6.next := by omega
 refine GoR.appendFull (Lx := ([⟨0, 0, 10, 12⟩, ⟨1, 1, 30, 33⟩] : List EV).map EV.cells) rfl rfl Tryz.underlying25 Tryz.underlying25 sz53 by53 zt53 rfl rfl rfl f7 rfl rfl evs_four rfl hsl evs_four (by rw [List.length_map]; omega) rfl rfl fun s11 h11 x11 S11 => ?_;replace f0 := f0.ext x11;replace f3 := f3.ext x11;replace e0 := e0.trans x11
 rw [← List.map_append] at S11
 have hs11 := S11.self.scal
 have hx11 := x11.1
 have RN : ClampNew (h.next + 1) h11 (sampleV E) (.slice h2.next 0 2 2) s11 := ⟨fresh_pvs (L := [⟨3, 3, 2, 2, 1, 2⟩, ⟨2, 2, 2, 2, 2, 2⟩]) rfl (by omega) f3, fun h' hl he => S11 h' hl fun b b1 b2 => he b (by omega) b2⟩
 have hsc : scalars [.slice h2.next 0 2 2, .int .i64 4, .int .i64 5, s11] = true := scal_app (a := [.slice h2.next 0 2 2, .int .i64 4, .int .i64 5]) rfl hs11.1
 clear f7;refine gO rfl rfl (aOp_build (ps := [(0, .slice h2.next 0 2 2), (1, .agg [.int .i64 4, .int .i64 5]), (2, s11)]) (cs := [.slice h2.next 0 2 2, .int .i64 4, .int .i64 5, s11]) zt27 hu27 pl27 rfl (by simp [aFillA, hs11.2, cells_agg, splice]; rfl)) rfl ?_;refine GoR.store rfl rfl rfl rfl rfl rfl f0 rfl sz27 rfl hsc rfl fun h12 u12 => ?_;replace f0 := u12.has f0;replace e0 := e0.upd u12 (by omega);apply gE
 have hr := RN.upd u12 (Nat.lt_succ_self _)
 exact gV (ret_end (aResult_of Tryz.func42 rfl (aResults_cell rfl f0 (inCells_agg ag27 sz27 rfl))) ⟨_, _, rfl, e0, ⟨fun h' hl he => hr.1 h' hl fun b b1 b2 => he b (by omega) b2, fun h' hl he => hr.2 h' hl fun b b1 b2 => he b (by omega) b2⟩, Ext.refl _⟩)
theorem nil_ok {h : AH} : Runs Tryz.prog 42 [.nilslice] h (fun en h' => ∃ p e, en = .ret (.agg ((sampleV []).cells p e)) ∧ Ext h h' ∧ ClampAt h' (sampleV []) p e ∧ Ext h' h') :=
 (sample_ok (E := []) .nil (by decide)).mono fun en h' ⟨p, e, q, x, N, y⟩ => ⟨p, e, q, x, N.at, y⟩
theorem counted_ok {h : AH} : Runs Tryz.prog 43 [] h (fun en h' => ∃ p e, en = .ret (.agg ((sampleV [k1]).cells p e)) ∧ Ext h h' ∧ ClampAt h' (sampleV [k1]) p e ∧ Ext h' h') := by
 have hsa := fun {s h'} S => sample_ok (E := [k1]) (s := s) (h := h') S (by decide)
 unfold ClampV.cells at hsa ⊢
 have e0 : Ext h h := Ext.refl _
 refine Runs.intro aFunc43 rfl rfl rfl rfl fun rest => ?_;apply gS;refine gR rfl ?_;refine GoR.alloc rfl rfl rfl zt27 rfl rfl fun h0 x0 f0 => ?_;have := e0.1;replace e0 := e0.trans x0;have := f0.1;apply gE;apply gS;refine gR rfl ?_;refine GoR.call rfl rfl (aCF aFunc35 rfl) (count35_ok) ?_ np;rintro v1 h1 ⟨q, x1⟩;cases q;refine ⟨_, rfl, ?_⟩;replace f0 := f0.ext x1;replace e0 := e0.trans x1;refine GoR.buildSl rfl rfl (ps := [(0, .agg [.int .i64 1, .int .i64 0, .int .i64 13, .int .i64 36])]) (cs := [k1].flatMap EV.cells) Tryz.underlying25 rfl sz53 zt53 rfl rfl rfl rfl fun h2 x2 f2 => ?_;have := e0.1;have := f0.1;replace f0 := f0.ext x2;replace e0 := e0.trans x2;have := f2.1;refine GoR.call rfl rfl (aCF aFunc42 rfl) (hsa (evs_slice (L := [k1]) rfl (by assumption))) ?_ (by rintro _ _ ⟨p, e, q, _, RA, e9⟩; cases q);rintro v3 h3 ⟨p, e, q, x3, RA, e9⟩;cases q;refine ⟨_, rfl, ?_⟩;have := e0.1;replace f2 := f2.ext x3;replace f0 := f0.ext x3;replace e0 := e0.trans x3;refine GoR.store rfl rfl rfl rfl rfl rfl f0 rfl sz27 rfl RA.at.scal rfl fun h4 u4 => ?_;replace f2 := f2.upd u4 (by omega);replace f0 := u4.has f0;clear e9;replace e0 := e0.upd u4 (by omega);apply gE;exact gV (ret_end (aResult_of Tryz.func43 rfl (aResults_cell rfl f0 (inCells_agg ag27 sz27 rfl))) ⟨_, _, rfl, e0, (RA.upd (by assumption) (by omega)).at, Ext.refl _⟩)
theorem clash_ok {h : AH} : Runs Tryz.prog 44 [] h (fun en h' => ∃ p e, en = .ret (.agg ((sampleV [k1, k2]).cells p e)) ∧ Ext h h' ∧ ClampAt h' (sampleV [k1, k2]) p e ∧ Ext h' h') := by
 have hsa := fun {s h'} S => sample_ok (E := [k1, k2]) (s := s) (h := h') S (by decide)
 unfold ClampV.cells at hsa ⊢
 have e0 : Ext h h := Ext.refl _
 refine Runs.intro aFunc44 rfl rfl rfl rfl fun rest => ?_;apply gS;refine gR rfl ?_;refine GoR.alloc rfl rfl rfl zt27 rfl rfl fun h0 x0 f0 => ?_;have := e0.1;replace e0 := e0.trans x0;have := f0.1;apply gE;apply gS;refine gR rfl ?_;refine GoR.call rfl rfl (aCF aFunc35 rfl) (count35_ok) ?_ np;rintro v1 h1 ⟨q, x1⟩;cases q;refine ⟨_, rfl, ?_⟩;replace f0 := f0.ext x1;replace e0 := e0.trans x1;refine GoR.call rfl rfl (aCF aFunc35 rfl) (count35_ok) ?_ np;rintro v2 h2 ⟨q, x2⟩;cases q;refine ⟨_, rfl, ?_⟩;replace f0 := f0.ext x2;replace e0 := e0.trans x2;refine GoR.buildSl rfl rfl (ps := [(0, .agg [.int .i64 1, .int .i64 0, .int .i64 13, .int .i64 36]), (1, .agg [.int .i64 1, .int .i64 0, .int .i64 12, .int .i64 12])]) (cs := [k1, k2].flatMap EV.cells) Tryz.underlying25 rfl sz53 zt53 rfl rfl rfl rfl fun h3 x3 f3 => ?_;have := e0.1;have := f0.1;replace f0 := f0.ext x3;replace e0 := e0.trans x3;have := f3.1;refine GoR.call rfl rfl (aCF aFunc42 rfl) (hsa (evs_slice (L := [k1, k2]) rfl (by assumption))) ?_ (by rintro _ _ ⟨p, e, q, _, RA, e9⟩; cases q);rintro v4 h4 ⟨p, e, q, x4, RA, e9⟩;cases q;refine ⟨_, rfl, ?_⟩;have := e0.1;replace f3 := f3.ext x4;replace f0 := f0.ext x4;replace e0 := e0.trans x4;refine GoR.store rfl rfl rfl rfl rfl rfl f0 rfl sz27 rfl RA.at.scal rfl fun h5 u5 => ?_;replace f3 := f3.upd u5 (by omega);replace f0 := u5.has f0;clear e9;replace e0 := e0.upd u5 (by omega);apply gE;exact gV (ret_end (aResult_of Tryz.func44 rfl (aResults_cell rfl f0 (inCells_agg ag27 sz27 rfl))) ⟨_, _, rfl, e0, (RA.upd (by assumption) (by omega)).at, Ext.refl _⟩)
theorem spanT24 : SpanT Tryz.prog 24 := ⟨⟨_, _, Tryz.underlying24, by decide, by decide, rfl, rfl, ⟨_, Tryz.underlying3⟩, ⟨_, Tryz.underlying3⟩⟩, by kernel_rfl, by kernel_rfl⟩
theorem v0 : (sampleV []).builtR 0 = ((24, 48), 0) := by decide +kernel
theorem cv0 {h : AH} {p e : AVal} (A : ClampAt h (sampleV []) p e) : Runs Tryz.prog 13 [.agg ((sampleV []).cells p e), .int .i64 0] h (fun en h' => en = .ret (.tuple [.agg [.int .i64 24, .int .i64 48], .int .i64 0]) ∧ Ext h h') := by
 have q := Built_ok A ⟨by decide, by decide⟩ 0
 rw [v0] at q;exact q
theorem v1 : (sampleV [k1]).hasR 0 = ((13, 36), 0) := by decide +kernel
theorem cv1 {h : AH} {p e : AVal} (A : ClampAt h (sampleV [k1]) p e) : Runs Tryz.prog 15 [.agg ((sampleV [k1]).cells p e), .int .i64 0] h (fun en h' => en = .ret (.tuple [.agg [.int .i64 13, .int .i64 36], .int .i64 0]) ∧ Ext h h') := by
 have q := Has_ok A ⟨by decide, by decide⟩ 0
 rw [v1] at q;exact q
theorem v2 : (sampleV []).soldR 0 = ((10, 12), 0) := by decide +kernel
theorem cv2 {h : AH} {p e : AVal} (A : ClampAt h (sampleV []) p e) : Runs Tryz.prog 17 [.agg ((sampleV []).cells p e), .int .i64 0] h (fun en h' => en = .ret (.tuple [.agg [.int .i64 10, .int .i64 12], .int .i64 0]) ∧ Ext h h') := by
 have q := Sold_ok A ⟨by decide, by decide⟩ 0
 rw [v2] at q;exact q
theorem v3 : (sampleV []).allR = ((44, 70), 0) := by decide +kernel
theorem cv3 {h : AH} {p e : AVal} (A : ClampAt h (sampleV []) p e) : Runs Tryz.prog 19 [.agg ((sampleV []).cells p e)] h (fun en h' => en = .ret (.tuple [.agg [.int .i64 44, .int .i64 70], .int .i64 0]) ∧ Ext h h') := by
 have q := All_ok A ⟨by decide, by decide⟩
 rw [v3] at q;exact q
theorem v4 : (sampleV []).enoughR 0 20 = (1, 0) := by decide +kernel
theorem cv4 {h : AH} {p e : AVal} (A : ClampAt h (sampleV []) p e) : Runs Tryz.prog 21 [.agg ((sampleV []).cells p e), .int .i64 0, .int .i64 20] h (fun en h' => en = .ret (.tuple [.int .i64 1, .int .i64 0]) ∧ Ext h h') := by
 have q := Enough_ok A ⟨by decide, by decide⟩ 0 20
 rw [v4] at q;exact q
theorem v5 : (sampleV []).emptyR = ((0, 0), 0) := by decide +kernel
theorem cv5 {h : AH} {p e : AVal} (A : ClampAt h (sampleV []) p e) : Runs Tryz.prog 23 [.agg ((sampleV []).cells p e)] h (fun en h' => en = .ret (.tuple [.int .i64 0, .int .i64 0, .int .i64 0]) ∧ Ext h h') := by
 have q := Empty_ok A ⟨by decide, by decide⟩
 rw [v5] at q;exact q
theorem v6 : (sampleV []).shareR 40 = (3, 0) := by decide +kernel
theorem cv6 {h : AH} {p e : AVal} (A : ClampAt h (sampleV []) p e) : Runs Tryz.prog 25 [.agg ((sampleV []).cells p e), .int .i64 40] h (fun en h' => en = .ret (.tuple [.int .i64 3, .int .i64 0]) ∧ Ext h h') := by
 have q := Share_ok A ⟨by decide, by decide⟩ 40
 rw [v6] at q;exact q
theorem v7 : (sampleV [k1, k2]).clashR = (12, 0) := by decide +kernel
theorem cv7 {h : AH} {p e : AVal} (A : ClampAt h (sampleV [k1, k2]) p e) : Runs Tryz.prog 27 [.agg ((sampleV [k1, k2]).cells p e)] h (fun en h' => en = .ret (.tuple [.int .i64 12, .int .i64 0]) ∧ Ext h h') := by
 have q := Clash_ok A ⟨by decide, by decide⟩
 rw [v7] at q;exact q
theorem alive_ok {h : AH} : Runs Tryz.prog 12 [] h (fun en h' => en = .ret (.bool true) ∧ Ext h h') := by
 have e0 : Ext h h := Ext.refl _
 refine Runs.intro aFunc12 rfl rfl rfl rfl fun rest => ?_;apply gS;refine gR rfl ?_;refine gP ?_;apply gE;apply gS;refine gR rfl ?_;refine GoR.call rfl rfl (aCF aFunc42 rfl) (nil_ok) ?_ (by rintro _ _ ⟨p0, q0, q, _, A0, _⟩; cases q);rintro v0 h0 ⟨p0, q0, q, x0, A0, _⟩;cases q;refine ⟨_, rfl, ?_⟩;have := e0.1;replace e0 := e0.trans x0;refine GoR.call rfl rfl (aCF aFunc13 rfl) (cv0 A0) ?_ np;rintro v1 h1 ⟨q, x1⟩;cases q;refine ⟨_, rfl, ?_⟩;replace e0 := e0.trans x1;iterate 3 refine gP ?_
 refine GoR.alloc rfl rfl rfl zt24 rfl rfl fun h2 x2 f2 => ?_;have := e0.1;replace e0 := e0.trans x2;have := f2.1;refine GoR.store rfl rfl rfl rfl rfl rfl f2 rfl sz24 rfl rfl rfl fun h3 u3 => ?_;replace f2 := u3.has f2;replace e0 := e0.upd u3 (by omega);refine gP ?_;apply gE;apply gS;refine gR rfl ?_;refine GoR.call rfl rfl (aCF aFunc43 rfl) (counted_ok) ?_ (by rintro _ _ ⟨p1, q1, q, _, A1, _⟩; cases q);rintro v4 h4 ⟨p1, q1, q, x4, A1, _⟩;cases q;refine ⟨_, rfl, ?_⟩;have := e0.1;replace f2 := f2.ext x4;replace e0 := e0.trans x4;refine GoR.call rfl rfl (aCF aFunc15 rfl) (cv1 A1) ?_ np;rintro v5 h5 ⟨q, x5⟩;cases q;refine ⟨_, rfl, ?_⟩;replace f2 := f2.ext x5;replace e0 := e0.trans x5;iterate 3 refine gP ?_
 refine GoR.alloc rfl rfl rfl zt24 rfl rfl fun h6 x6 f6 => ?_;have := e0.1;have := f2.1;replace f2 := f2.ext x6;replace e0 := e0.trans x6;have := f6.1;refine GoR.store rfl rfl rfl rfl rfl rfl f6 rfl sz24 rfl rfl rfl fun h7 u7 => ?_;replace f6 := u7.has f6;replace f2 := f2.upd u7 (by omega);replace e0 := e0.upd u7 (by omega);refine gP ?_;apply gE;apply gS;refine gR rfl ?_;refine GoR.call rfl rfl (aCF aFunc42 rfl) (nil_ok) ?_ (by rintro _ _ ⟨p0, q0, q, _, A0, _⟩; cases q);rintro v8 h8 ⟨p0, q0, q, x8, A0, _⟩;cases q;refine ⟨_, rfl, ?_⟩;have := e0.1;replace f6 := f6.ext x8;replace f2 := f2.ext x8;replace e0 := e0.trans x8;refine GoR.call rfl rfl (aCF aFunc17 rfl) (cv2 A0) ?_ np;rintro v9 h9 ⟨q, x9⟩;cases q;refine ⟨_, rfl, ?_⟩;replace f6 := f6.ext x9;replace f2 := f2.ext x9;replace e0 := e0.trans x9;iterate 3 refine gP ?_
 refine GoR.alloc rfl rfl rfl zt24 rfl rfl fun h10 x10 f10 => ?_;have := e0.1;have := f6.1;have := f2.1;replace f6 := f6.ext x10;replace f2 := f2.ext x10;replace e0 := e0.trans x10;have := f10.1;refine GoR.store rfl rfl rfl rfl rfl rfl f10 rfl sz24 rfl rfl rfl fun h11 u11 => ?_;replace f10 := u11.has f10;replace f6 := f6.upd u11 (by omega);replace f2 := f2.upd u11 (by omega);replace e0 := e0.upd u11 (by omega);refine gP ?_;apply gE;apply gS;refine gR rfl ?_;refine GoR.call rfl rfl (aCF aFunc42 rfl) (nil_ok) ?_ (by rintro _ _ ⟨p0, q0, q, _, A0, _⟩; cases q);rintro v12 h12 ⟨p0, q0, q, x12, A0, _⟩;cases q;refine ⟨_, rfl, ?_⟩;have := e0.1;replace f10 := f10.ext x12;replace f6 := f6.ext x12;replace f2 := f2.ext x12;replace e0 := e0.trans x12;refine GoR.call rfl rfl (aCF aFunc19 rfl) (cv3 A0) ?_ np;rintro v13 h13 ⟨q, x13⟩;cases q;refine ⟨_, rfl, ?_⟩;replace f10 := f10.ext x13;replace f6 := f6.ext x13;replace f2 := f2.ext x13;replace e0 := e0.trans x13;iterate 3 refine gP ?_
 refine GoR.alloc rfl rfl rfl zt24 rfl rfl fun h14 x14 f14 => ?_;have := e0.1;have := f10.1;have := f6.1;have := f2.1;replace f10 := f10.ext x14;replace f6 := f6.ext x14;replace f2 := f2.ext x14;replace e0 := e0.trans x14;have := f14.1;refine GoR.store rfl rfl rfl rfl rfl rfl f14 rfl sz24 rfl rfl rfl fun h15 u15 => ?_;replace f14 := u15.has f14;replace f10 := f10.upd u15 (by omega);replace f6 := f6.upd u15 (by omega);replace f2 := f2.upd u15 (by omega);replace e0 := e0.upd u15 (by omega);refine gP ?_;apply gE;apply gS;refine gR rfl ?_;refine GoR.call rfl rfl (aCF aFunc42 rfl) (nil_ok) ?_ (by rintro _ _ ⟨p0, q0, q, _, A0, _⟩; cases q);rintro v16 h16 ⟨p0, q0, q, x16, A0, _⟩;cases q;refine ⟨_, rfl, ?_⟩;have := e0.1;replace f14 := f14.ext x16;replace f10 := f10.ext x16;replace f6 := f6.ext x16;replace f2 := f2.ext x16;replace e0 := e0.trans x16;refine GoR.call rfl rfl (aCF aFunc21 rfl) (cv4 A0) ?_ np;rintro v17 h17 ⟨q, x17⟩;cases q;refine ⟨_, rfl, ?_⟩;replace f14 := f14.ext x17;replace f10 := f10.ext x17;replace f6 := f6.ext x17;replace f2 := f2.ext x17;replace e0 := e0.trans x17;iterate 5 refine gP ?_
 apply gE;apply gS;refine gR rfl ?_;refine GoR.call rfl rfl (aCF aFunc42 rfl) (nil_ok) ?_ (by rintro _ _ ⟨p0, q0, q, _, A0, _⟩; cases q);rintro v18 h18 ⟨p0, q0, q, x18, A0, _⟩;cases q;refine ⟨_, rfl, ?_⟩;have := e0.1;replace f14 := f14.ext x18;replace f10 := f10.ext x18;replace f6 := f6.ext x18;replace f2 := f2.ext x18;replace e0 := e0.trans x18;refine GoR.call rfl rfl (aCF aFunc23 rfl) (cv5 A0) ?_ np;rintro v19 h19 ⟨q, x19⟩;cases q;refine ⟨_, rfl, ?_⟩;replace f14 := f14.ext x19;replace f10 := f10.ext x19;replace f6 := f6.ext x19;replace f2 := f2.ext x19;replace e0 := e0.trans x19;iterate 7 refine gP ?_
 apply gE;apply gS;refine gR rfl ?_;refine GoR.call rfl rfl (aCF aFunc42 rfl) (nil_ok) ?_ (by rintro _ _ ⟨p0, q0, q, _, A0, _⟩; cases q);rintro v20 h20 ⟨p0, q0, q, x20, A0, _⟩;cases q;refine ⟨_, rfl, ?_⟩;have := e0.1;replace f14 := f14.ext x20;replace f10 := f10.ext x20;replace f6 := f6.ext x20;replace f2 := f2.ext x20;replace e0 := e0.trans x20;refine GoR.call rfl rfl (aCF aFunc25 rfl) (cv6 A0) ?_ np;rintro v21 h21 ⟨q, x21⟩;cases q;refine ⟨_, rfl, ?_⟩;replace f14 := f14.ext x21;replace f10 := f10.ext x21;replace f6 := f6.ext x21;replace f2 := f2.ext x21;replace e0 := e0.trans x21;iterate 5 refine gP ?_
 apply gE;apply gS;refine gR rfl ?_;refine GoR.call rfl rfl (aCF aFunc44 rfl) (clash_ok) ?_ (by rintro _ _ ⟨p2, q2, q, _, A2, _⟩; cases q);rintro v22 h22 ⟨p2, q2, q, x22, A2, _⟩;cases q;refine ⟨_, rfl, ?_⟩;have := e0.1;replace f14 := f14.ext x22;replace f10 := f10.ext x22;replace f6 := f6.ext x22;replace f2 := f2.ext x22;replace e0 := e0.trans x22;refine GoR.call rfl rfl (aCF aFunc27 rfl) (cv7 A2) ?_ np;rintro v23 h23 ⟨q, x23⟩;cases q;refine ⟨_, rfl, ?_⟩;replace f14 := f14.ext x23;replace f10 := f10.ext x23;replace f6 := f6.ext x23;replace f2 := f2.ext x23;replace e0 := e0.trans x23;iterate 5 refine gP ?_
 apply gE;apply gS;refine Go.drawnE plan12_0 ?_;refine gQ rfl rfl (ld24 rfl f2 rfl) rfl ?_;refine GoE.call rfl rfl (aCF aFunc36 rfl) (span36_ok) (dK 0 0 rfl) ?_ np;rintro v24 h24 ⟨q, x24⟩;cases q;replace f14 := f14.ext x24;replace f10 := f10.ext x24;replace f6 := f6.ext x24;replace f2 := f2.ext x24;replace e0 := e0.trans x24;refine ⟨(rck (h2 := h24) rfl (ld24 rfl f2 rfl) recheck_nil), _, rfl, ?_⟩;refine gQ rfl rfl (aOp_eqlSpan spanT24 rfl rfl rfl) rfl ?_;iterate 2 refine gQ rfl rfl rfl rfl ?_
 refine gQ rfl rfl (kET rfl rfl) rfl ?_;iterate 2 refine gQ rfl rfl rfl rfl ?_
 refine gQ rfl rfl (ld24 rfl f6 rfl) rfl ?_;refine GoE.call rfl rfl (aCF aFunc36 rfl) (span36_ok) (dK 255 8 (dD 255 7 (dD 255 6 (dD 255 5 (dD 255 4 (dD 255 3 (dD 255 2 (dD 255 0 rfl)))))))) ?_ np;rintro v25 h25 ⟨q, x25⟩;cases q;replace f14 := f14.ext x25;replace f10 := f10.ext x25;replace f6 := f6.ext x25;replace e0 := e0.trans x25;refine ⟨(rck (h2 := h25) rfl (ld24 rfl f6 rfl) recheck_nil), _, rfl, ?_⟩;refine gQ rfl rfl (aOp_eqlSpan spanT24 rfl rfl rfl) rfl ?_;iterate 3 refine gQ rfl rfl rfl rfl ?_
 refine gQ rfl rfl (kET rfl rfl) rfl ?_;iterate 2 refine gQ rfl rfl rfl rfl ?_
 refine gQ rfl rfl (ld24 rfl f10 rfl) rfl ?_;refine GoE.call rfl rfl (aCF aFunc36 rfl) (span36_ok) (dK 131071 17 (dD 131071 16 (dD 131071 15 (dD 131071 14 (dD 131071 13 (dD 131071 12 (dD 131071 11 (dD 131071 10 (dD 131071 8 rfl))))))))) ?_ np;rintro v26 h26 ⟨q, x26⟩;cases q;replace f14 := f14.ext x26;replace f10 := f10.ext x26;replace e0 := e0.trans x26;refine ⟨(rck (h2 := h26) rfl (ld24 rfl f10 rfl) recheck_nil), _, rfl, ?_⟩;refine gQ rfl rfl (aOp_eqlSpan spanT24 rfl rfl rfl) rfl ?_;iterate 3 refine gQ rfl rfl rfl rfl ?_
 refine gQ rfl rfl (kET rfl rfl) rfl ?_;iterate 2 refine gQ rfl rfl rfl rfl ?_
 refine gQ rfl rfl (ld24 rfl f14 rfl) rfl ?_;refine GoE.call rfl rfl (aCF aFunc36 rfl) (span36_ok) (dK 67108863 26 (dD 67108863 25 (dD 67108863 24 (dD 67108863 23 (dD 67108863 22 (dD 67108863 21 (dD 67108863 20 (dD 67108863 19 (dD 67108863 17 rfl))))))))) ?_ np;rintro v27 h27 ⟨q, x27⟩;cases q;replace f14 := f14.ext x27;replace e0 := e0.trans x27;refine ⟨(rck (h2 := h27) rfl (ld24 rfl f14 rfl) recheck_nil), _, rfl, ?_⟩;refine gQ rfl rfl (aOp_eqlSpan spanT24 rfl rfl rfl) rfl ?_;iterate 3 refine gQ rfl rfl rfl rfl ?_
 refine gQ rfl rfl (kET rfl rfl) rfl ?_;iterate 3 refine gQ rfl rfl rfl rfl ?_
 refine gQ rfl rfl (kET rfl rfl) rfl ?_;iterate 3 refine gQ rfl rfl rfl rfl ?_
 refine gQ rfl rfl (kET rfl rfl) rfl ?_;iterate 3 refine gQ rfl rfl rfl rfl ?_
 refine gQ rfl rfl (kET rfl rfl) rfl ?_;iterate 3 refine gQ rfl rfl rfl rfl ?_
 refine gQ rfl rfl (kET rfl rfl) rfl ?_;iterate 3 refine gQ rfl rfl rfl rfl ?_
 refine gQ rfl rfl (kET rfl rfl) rfl ?_;iterate 3 refine gQ rfl rfl rfl rfl ?_
 refine gQ rfl rfl (kET rfl rfl) rfl ?_;iterate 3 refine gQ rfl rfl rfl rfl ?_
 refine gQ rfl rfl (kET rfl rfl) rfl ?_;iterate 3 refine gQ rfl rfl rfl rfl ?_
 refine gQ rfl rfl (kET rfl rfl) rfl ?_;iterate 3 refine gQ rfl rfl rfl rfl ?_
 refine gQ rfl rfl (kET rfl rfl) rfl ?_;iterate 2 refine gQ rfl rfl rfl rfl ?_
 refine GoE.end rfl ?_;exact gW Tryz.func12 rfl rfl ⟨rfl, e0⟩
end Go.Proofs.YtobhkdgcciolmaaGreat

namespace Go.Proofs.YtobhkdgcciolmaaGreat
open Go Go.AbsE
set_option linter.unusedSimpArgs false
set_option maxRecDepth 100000
set_option maxHeartbeats 0
set_option linter.unusedVariables false
theorem with34_ok {C : ClampV} {sp se : AVal} (e : EV) {h : AH} (A : ClampAt h C sp se) (hb2 : C.es.length ≤ 40) : Runs Tryz.prog 34 [.agg (C.cells sp se), .agg e.cells] h (fun en h' => ∃ s, en = .ret (.agg (C.cells sp s)) ∧ Ext h h' ∧ FreshS h.next h' 4 s ((C.es ++ [e]).map EV.cells) ∧ Ext h' h') := by
 obtain ⟨hs1, hc1⟩ := A.ps.scal
 obtain ⟨a, b, c, d⟩ := e
 unfold EV.cells ClampV.cells
 dsimp only
 refine Runs.intro aFunc34 rfl rfl rfl rfl fun rest => ?_;refine Go.seq noJ_ok (gR rfl ?_);refine GoR.box rfl rfl rfl rfl rfl rfl fun h1 x1 f1 => ?_;refine GoR.box rfl rfl rfl rfl rfl rfl fun h2 x2 f2 => ?_;refine GoR.alloc rfl rfl rfl zt27 rfl rfl fun h3 x3 f3 => ?_
 have a1 := x1.1
 have a2 := x2.1
 have a3 := x3.1
 have l1 := f1.1
 have l2 := f2.1
 have l3 := f3.1
 replace f1 := (f1.ext x2).ext x3;replace f2 := f2.ext x3
 have x03 := (x1.trans x2).trans x3
 refine GoR.end (Go.seq noJ_ok (Go.drawnE plan34_0 ?_));refine GoE.quietX rfl rfl (aOpX_lit (ps := []) Tryz.underlying25 rfl sz53 zt53 rfl rfl rfl) rfl ?_;refine gQ rfl rfl (fa27_2 rfl) rfl ?_;refine gQ rfl rfl (ld25 rfl f1 rfl) rfl ?_;refine gQ rfl rfl (ld53 rfl f2 rfl) rfl ?_;refine GoE.quietX rfl rfl (aOpX_lit (ps := [(0, .agg [.int .i64 a, .int .i64 b, .int .i64 c, .int .i64 d])]) (cs := [.int .i64 a, .int .i64 b, .int .i64 c, .int .i64 d]) Tryz.underlying25 rfl sz53 zt53 rfl rfl rfl) rfl ?_
 have hm3 := A.es.ext x03
 refine GoE.copy (L := C.es.map EV.cells) rfl rfl Tryz.underlying25 Tryz.underlying25 sz53 by53 zt53 rfl rfl rfl rfl hm3 evs_four (by rw [List.length_map]; omega)
  (dK 7 5 (dK 7 4 (dD 7 2 (dD 7 1 (dD 7 0 rfl))))) rfl rfl fun v4 h4 x4 c4 => ?_
 have f24 := f2.ext x4
 refine ⟨recheck_consX (h2 := h4) rfl (aOpX_lit (ps := [(0, .agg [.int .i64 a, .int .i64 b, .int .i64 c, .int .i64 d])]) (cs := [.int .i64 a, .int .i64 b, .int .i64 c, .int .i64 d]) Tryz.underlying25 rfl sz53 zt53 rfl rfl rfl) (by simp [sameA, sameAs, eqI_eq]) (recheck_cons (h2 := h4) rfl (ld53 rfl f24 rfl) (show sameA (.agg [AVal.int .i64 a, .int .i64 b, .int .i64 c, .int .i64 d]) (.agg [.int .i64 a, .int .i64 b, .int .i64 c, .int .i64 d]) = true by simp [sameA, sameAs, eqI_eq]) recheck_nil), ?_⟩;refine GoE.copy1 (L := C.es.map EV.cells) rfl rfl Tryz.underlying25 Tryz.underlying25 sz53 by53 zt53 rfl rfl rfl rfl c4 evs_four rfl rfl (by rw [List.length_map]; omega) x4.1 (dD 63 5 (dD 63 4 rfl)) rfl rfl fun b5 h5 n5 m5 o5 g5 => ?_;refine ⟨recheck_nil, ?_⟩
 have a4 := x4.1
 have low : ∀ b, b < h3.next → h5.get b = h3.get b := fun b hb => by rw [o5 b hb, x4.2 b hb]
 have keep : ∀ {b o}, Has h3 b o → Has h5 b o := fun k => ⟨by have := k.1; omega, by rw [low _ k.1]; exact k.2⟩
 refine gQ rfl rfl (fa27_2 rfl) rfl ?_;refine GoE.store rfl rfl rfl rfl (dD 255 7 rfl) rfl rfl (keep f1) rfl sz25 rfl rfl rfl fun h6 u6 => ?_;refine ⟨recheck_nil, ?_⟩
 have n6 : h6.next = h5.next := u6.1
 refine GoE.end rfl (Go.seq noJ_ok (gR rfl ?_));refine gO rfl rfl (ld27 rfl (u6.has (keep f1)) rfl) rfl ?_
 have hsc : scalars [sp, .int .i64 C.pl, .int .i64 C.ph, .gsl b5 0 0 ((C.es.map EV.cells).length + 1)] = true := scal_app (a := [sp, .int .i64 C.pl, .int .i64 C.ph]) (scal_app (a := [sp]) hs1 rfl) rfl
 refine GoR.store rfl rfl rfl rfl rfl rfl ((keep f3).upd u6 (by omega)) rfl sz27 rfl hsc rfl fun h7 u7 => ?_
 have n7 : h7.next = h6.next := u7.1
 refine GoR.end (gV (ret_end (aResult_of Tryz.func34 rfl (aResults_cell rfl (u7.has ((keep f3).upd u6 (by omega))) (inCells_agg ag27 sz27 rfl))) ?_))
 have x07 : Ext h h7 := ⟨by have := x03.1; omega, fun b hb => by rw [u7.2.2 b (by omega), u6.2.2 b (by omega), low b (by omega), x03.2 b hb]⟩
 have g7 := (g5.upd u6 (by have := f1.1; omega)).upd u7 (by omega)
 refine ⟨.gsl b5 0 0 ((C.es.map EV.cells).length + 1), rfl, x07, ?_, Ext.refl _⟩
 have hll : ∀ l, l ∈ C.es.map EV.cells ++ [[AVal.int .i64 a, .int .i64 b, .int .i64 c, .int .i64 d]] → l.length = 4 := fun l hl => by
  rcases List.mem_append.1 hl with q | q
  ·exact evs_four l q
  ·rw [List.mem_singleton.1 q]; rfl
 have hmap : (C.es ++ [(⟨a, b, c, d⟩ : EV)]).map EV.cells = C.es.map EV.cells ++ [[AVal.int .i64 a, .int .i64 b, .int .i64 c, .int .i64 d]] := by rw [List.map_append]; rfl
 intro h8 n8 e8
 have hb5 : h.next ≤ b5 := by have := x03.1; omega
 show SliceOf h8 4 _ ((C.es ++ [(⟨a, b, c, d⟩ : EV)]).map EV.cells)
 rw [hmap];exact SliceOf.mk' rfl rfl (Has.fresh g7 hb5 n8 e8) (by simp) (fun i l hl => by rw [Nat.zero_add]; exact slice_flatten hll i l hl)
end Go.Proofs.YtobhkdgcciolmaaGreat

namespace Go.AbsE
open Go
set_option linter.unusedSimpArgs false
set_option linter.unusedVariables false
section
variable {P : Program} {h : AH} {dst : Option Tmp} {ty tt el : TypeId} {pos : String} {after : Array Edge} {guard : Option (Nat × Bool)} {x y : Operand}
def CutS (s : AVal) (n : Nat) : Prop := n ≠ 0 → ∃ b off cap, s = .slice b off n cap ∧ n ≤ cap
theorem SliceOf.take {sz b off n cap cap' i : Nat} {L : List (List AVal)} (k : SliceOf h sz (.slice b off n cap) L) (hL : L.length = n) (hi : i ≤ n) : SliceOf h sz (.slice b off i cap') (L.take i) := by
 cases k with
 | mk hs hn hb hl hz hc =>
  rw [show aSlElems (.slice b off n cap) = some (b, off, n) from rfl] at hs
  cases hs
  have hlen : (L.take i).length = i := by rw [List.length_take]; omega
  refine .mk (b := b) (off := off) (len := i) rfl rfl hb hlen (fun l hl => hz l (List.mem_of_mem_take hl)) ?_
  have hp := loadCells_part (k := 0) (m := i * sz) hc (by rw [Nat.zero_add]; exact Nat.mul_le_mul_right _ (by omega))
  rw [Nat.add_zero] at hp
  rw [hlen, hp]
  congr 1
  have e1 : (L.take i).flatten.length = i * sz := by
   rw [flatten_len (sz := sz) (fun l hl => hz l (List.mem_of_mem_take hl)), hlen]
  have e3 : L.flatten = (L.take i).flatten ++ (L.drop i).flatten := by rw [← List.flatten_append, List.take_append_drop]
  rw [List.drop_zero, e3, ← e1, List.take_left]
end
end Go.AbsE

namespace Go.Proofs.YtobhkdgcciolmaaGreat
open Go Go.AbsE Go.ChangeShapes Go.WideShapes Go.ChangeAt Go.RowKit
set_option linter.unusedSimpArgs false
set_option maxRecDepth 100000
set_option linter.unusedVariables false
theorem cells27 : Tryz.prog.cellsOf 27 = 4 := by kernel_rfl
theorem cells3 : Tryz.prog.cellsOf 3 = 1 := by kernel_rfl
theorem cells24 : Tryz.prog.cellsOf 24 = 2 := by kernel_rfl
theorem cells58 : Tryz.prog.cellsOf 58 = 6 := by kernel_rfl
theorem cells53 : Tryz.prog.cellsOf 53 = 4 := by kernel_rfl
theorem cells22 : Tryz.prog.cellsOf 22 = 1 := by kernel_rfl
theorem cells25 : Tryz.prog.cellsOf 25 = 1 := by kernel_rfl
theorem ctypes27 : Tryz.prog.cellTypes Tryz.prog.depth 27 = some [22, 3, 3, 25] := by kernel_rfl
theorem laidOut : laidOutB Tryz.prog = true := by kernel_rfl
def inI64 (n : Int) : Prop := -9223372036854775808 ≤ n ∧ n ≤ 9223372036854775807
theorem wf_in {n : Int} (h : (Lit.int .i64 n).wf = true) : inI64 n := by
 simp only [Lit.wf, Bool.and_eq_true, decide_eq_true_eq] at h
 have h1 : IntKind.i64.min = -9223372036854775808 := by decide
 have h2 : IntKind.i64.max = 9223372036854775807 := by decide
 rw [h1, h2] at h
 constructor <;> omega
variable {H : Type} {enc : TypeId × Value → H} {W : World} {base : Nat} {spare : Nat → Bool} {held : Bool}
theorem int_row {n : Nat} {cs : List Value} {x : DataW H × List MemPlace} (h : DataW.trod enc Tryz.prog W base spare held n 3 cs = some x) : ∃ a : Int, cs = [.int .i64 a] ∧ inI64 a := by
 obtain ⟨a, h1, _, h3⟩ := DataW.trod_int Tryz.underlying3 h
 exact ⟨a, h1, wf_in h3⟩
theorem span_row {n : Nat} {cs : List Value} {x : DataW H × List MemPlace} (h : DataW.trod enc Tryz.prog W base spare held n 24 cs = some x) : ∃ a b : Int, cs = [.int .i64 a, .int .i64 b] := by
 obtain ⟨y0, y1, k, _, hl, h0, h1⟩ := ChangeShapes.trod_struct2 Tryz.underlying24 h
 rw [cells24] at hl
 dsimp only at h0 h1
 rw [cells3] at h0 h1
 obtain ⟨a, ha, _⟩ := int_row h0
 obtain ⟨b, hb, _⟩ := int_row h1
 match cs, hl with
 | [c0, c1], _ =>
  simp at ha hb
  exact ⟨a, b, by rw [ha, hb]⟩
theorem list3 {α : Type} {l : List α} (h : l.length = 3) : ∃ c0 c1 c2, l = [c0, c1, c2] := by
 match l, h with
 | [c0, c1, c2], _ => exact ⟨c0, c1, c2, rfl⟩
theorem list4 {α : Type} {l : List α} (h : l.length = 4) : ∃ c0 c1 c2 c3, l = [c0, c1, c2, c3] := by
 match l, h with
 | [c0, c1, c2, c3], _ => exact ⟨c0, c1, c2, c3, rfl⟩
theorem list6 {α : Type} {l : List α} (h : l.length = 6) : ∃ c0 c1 c2 c3 c4 c5, l = [c0, c1, c2, c3, c4, c5] := by
 match l, h with
 | [c0, c1, c2, c3, c4, c5], _ => exact ⟨c0, c1, c2, c3, c4, c5, rfl⟩
theorem pile_row {n : Nat} {cs : List Value} {x : DataW H × List MemPlace} (h : DataW.trod enc Tryz.prog W base spare held n 58 cs = some x) : ∃ r : List Int, r.length = 6 ∧ cs = r.map fun x => Value.int .i64 x := by
 obtain ⟨xs, m, _, _, hl, hlen, hfl⟩ := DataW.trod_struct Tryz.underlying58 h
 rw [cells58] at hl
 obtain ⟨c0, c1, c2, c3, c4, c5, rfl⟩ := list6 hl
 obtain ⟨y0, y1, y2, rfl⟩ := list3 hlen
 have t0 : DataW.trod enc Tryz.prog W base spare held m 24 [c0, c1] = some y0 := by
  have this : DataW.trod enc Tryz.prog W base spare held m 24 (([c0, c1, c2, c3, c4, c5].drop 0).take (Tryz.prog.cellsOf 24)) = [y0, y1, y2][0]? := hfl 0 _ rfl
  rw [cells24] at this;exact this
 have t1 : DataW.trod enc Tryz.prog W base spare held m 24 [c2, c3] = some y1 := by
  have this : DataW.trod enc Tryz.prog W base spare held m 24 (([c0, c1, c2, c3, c4, c5].drop 2).take (Tryz.prog.cellsOf 24)) = [y0, y1, y2][1]? := hfl 1 _ rfl
  rw [cells24] at this;exact this
 have t2 : DataW.trod enc Tryz.prog W base spare held m 24 [c4, c5] = some y2 := by
  have this : DataW.trod enc Tryz.prog W base spare held m 24 (([c0, c1, c2, c3, c4, c5].drop 4).take (Tryz.prog.cellsOf 24)) = [y0, y1, y2][2]? := hfl 2 _ rfl
  rw [cells24] at this;exact this
 obtain ⟨a0, a1, e0⟩ := span_row t0
 obtain ⟨a2, a3, e1⟩ := span_row t1
 obtain ⟨a4, a5, e2⟩ := span_row t2
 simp at e0 e1 e2
 exact ⟨[a0, a1, a2, a3, a4, a5], rfl, by rw [e0.1, e0.2, e1.1, e1.2, e2.1, e2.2]; rfl⟩
theorem ev_row {n : Nat} {cs : List Value} {x : DataW H × List MemPlace} (h : DataW.trod enc Tryz.prog W base spare held n 53 cs = some x) : ∃ r : List Int, r.length = 4 ∧ cs = r.map fun x => Value.int .i64 x := by
 obtain ⟨xs, m, _, _, hl, hlen, hfl⟩ := DataW.trod_struct Tryz.underlying53 h
 rw [cells53] at hl
 obtain ⟨c0, c1, c2, c3, rfl⟩ := list4 hl
 obtain ⟨y0, y1, y2, rfl⟩ := list3 hlen
 have t0 : DataW.trod enc Tryz.prog W base spare held m 3 [c0] = some y0 := by
  have this : DataW.trod enc Tryz.prog W base spare held m 3 (([c0, c1, c2, c3].drop 0).take (Tryz.prog.cellsOf 3)) = [y0, y1, y2][0]? := hfl 0 _ rfl
  rw [cells3] at this;exact this
 have t1 : DataW.trod enc Tryz.prog W base spare held m 3 [c1] = some y1 := by
  have this : DataW.trod enc Tryz.prog W base spare held m 3 (([c0, c1, c2, c3].drop 1).take (Tryz.prog.cellsOf 3)) = [y0, y1, y2][1]? := hfl 1 _ rfl
  rw [cells3] at this;exact this
 have t2 : DataW.trod enc Tryz.prog W base spare held m 24 [c2, c3] = some y2 := by
  have this : DataW.trod enc Tryz.prog W base spare held m 24 (([c0, c1, c2, c3].drop 2).take (Tryz.prog.cellsOf 24)) = [y0, y1, y2][2]? := hfl 2 _ rfl
  rw [cells24] at this;exact this
 obtain ⟨a0, e0, _⟩ := int_row t0
 obtain ⟨a1, e1, _⟩ := int_row t1
 obtain ⟨a2, a3, e2⟩ := span_row t2
 simp at e0 e1 e2
 exact ⟨[a0, a1, a2, a3], rfl, by rw [e0, e1, e2.1, e2.2]; rfl⟩
theorem slice_okw {t el : TypeId} {a : Addr} {len cap : Nat} {bs : Nat} (ht : Tryz.prog.underlying t = some (.slice el)) (h : Cell.okWide Tryz.prog W .any bs t (.slice (some a) len cap)) : a.spot = none ∧ ∃ C e fr, W.heap[a.block]? = some (.cells C e fr) := by
 unfold Cell.okWide at h
 rw [ht] at h
 dsimp only at h
 unfold Cell.ok at h
 rw [ht] at h
 dsimp only at h
 obtain ⟨_, _, _, h2, row, n, h3, _⟩ := h
 refine ⟨h2, ?_⟩
 unfold World.shape? at h3
 split at h3
 ·rename_i c e fr hq
  exact ⟨c, e, fr, hq⟩
 ·cases h3
theorem slice_cap {t el : TypeId} {a : Addr} {len cap : Nat} {bs : Nat} (ht : Tryz.prog.underlying t = some (.slice el)) (h : Cell.okWide Tryz.prog W .any bs t (.slice (some a) len cap)) : len < 9223372036854775808 := by
 unfold Cell.okWide at h
 rw [ht] at h
 dsimp only at h
 unfold Cell.ok at h
 rw [ht] at h
 dsimp only at h
 obtain ⟨h1, h2, _⟩ := h
 have : IntKind.i64.max = 9223372036854775807 := by decide
 rw [this] at h2
 omega
theorem slice_le {t el : TypeId} {a : Addr} {len cap : Nat} {bs : Nat} (ht : Tryz.prog.underlying t = some (.slice el)) (h : Cell.okWide Tryz.prog W .any bs t (.slice (some a) len cap)) : len ≤ cap := by
 unfold Cell.okWide at h
 rw [ht] at h
 dsimp only at h
 unfold Cell.ok at h
 rw [ht] at h
 dsimp only at h
 exact h.1
theorem rows_of {t el : TypeId} {sz fuel : Nat} {c : Value} {y : DataW H × List MemPlace} {bs : Nat} (ht : Tryz.prog.underlying t = some (.slice el)) (hsz : Tryz.prog.cellsOf el = sz)
  (hrow : ∀ {n : Nat} {cs : List Value} {x : DataW H × List MemPlace}, DataW.trod enc Tryz.prog W 0 (fun _ => true) true n el cs = some x → ∃ r : List Int, r.length = sz ∧ cs = r.map fun x => Value.int .i64 x)
  (h : DataW.trod enc Tryz.prog W 0 (fun _ => true) true fuel t [c] = some y) (hok : Cell.okWide Tryz.prog W .any bs t c) {e : Env} {hh : AH} (r : HR Tryz.prog (Base.all W) e hh W) :
  ∃ e' h' s, ∃ R : List (List Int), Env.le e e' ∧ HR Tryz.prog (Base.all W) e' h' W ∧ Ext hh h' ∧ VR e' s c ∧ (∀ l, l ∈ R → l.length = sz) ∧ SliceOf h' sz s (R.map fun l => l.map fun x => AVal.int .i64 x) ∧ R.length < 9223372036854775808 ∧ CutS s R.length := by
 rcases Deep.open_slice ht h with ⟨hcs, _⟩ | ⟨a, len, cap, m, n, D, Pl, hcs, _, hl, _, hmm, _, hx⟩
 ·simp at hcs
  subst hcs;exact ⟨e, hh, .nilslice, [], Env.le_refl e, r, Ext.refl _, .nilslice, (fun _ q => by cases q), .nil, by decide, fun q => absurd rfl q⟩
 ·simp at hcs
  subst hcs
  obtain ⟨hs, C, el', fr, hB⟩ := slice_okw ht hok
  have hcap := slice_cap ht hok
  have hle := slice_le ht hok
  have hm : m = cap := by simpa using hmm
  have each : ∀ i, ∃ rr : List Int, i < len → rr.length = sz ∧ ∀ k n, rr[k]? = some n → W.cell? (a.add (i * sz + k)) = some (.int .i64 n) := by
   intro i
   by_cases hi : i < len
   ·obtain ⟨cs', h1, h2⟩ := hx i (by omega)
    obtain ⟨rr, hr1, hr2⟩ := hrow h2
    rw [hsz] at h1
    obtain ⟨_, hlen, hc⟩ := World.cells?_some h1
    refine ⟨rr, fun _ => ⟨hr1, fun k n hk => ?_⟩⟩
    have hkl := (List.getElem?_eq_some_iff.1 hk).1
    have := hc k (by omega)
    obtain ⟨B, off, spot⟩ := a
    dsimp only at hs
    subst hs;rw [addr_add, addr_add] at this;rw [addr_add, ← Nat.add_assoc, this, hr2, List.getElem?_map, hk]
    rfl
   ·exact ⟨[], fun q => absurd q hi⟩
  obtain ⟨f, hf⟩ := Classical.axiomOfChoice each
  obtain ⟨e', h', s, k1, k2, k3, k4, k5, _, b, o, rfl⟩ := r.openRowsC (fun x => AVal.int .i64 x) (fun x => Value.int .i64 x) (fun _ _ => .int _ _) (cap := cap) (len := len) (sz := sz) hB hs f hf
  exact ⟨e', h', _, (List.range len).map f, k1, k2, k3, k4, fun l hl => by
   obtain ⟨i, hi, rfl⟩ := List.mem_map.1 hl
   exact (hf i (List.mem_range.1 hi)).1, k5, by rw [List.length_map, List.length_range]; exact hcap, fun _ => ⟨b, o, cap, by rw [List.length_map, List.length_range], by rw [List.length_map, List.length_range]; exact hle⟩⟩
def toP : List Int → PV
 | [a, b, c, d, e, f] => ⟨a, b, c, d, e, f⟩
 | _ => ⟨0, 0, 0, 0, 0, 0⟩
def toE : List Int → EV
 | [a, b, c, d] => ⟨a, b, c, d⟩
 | _ => ⟨0, 0, 0, 0⟩
theorem ps_eq {R : List (List Int)} (h : ∀ l, l ∈ R → l.length = 6) : (R.map fun l => l.map fun x => AVal.int .i64 x) = (R.map toP).map PV.cells := by
 rw [List.map_map];refine List.map_congr_left fun l hl => ?_
 match l, h l hl with
 | [a, b, c, d, e, f], _ => rfl
theorem es_eq {R : List (List Int)} (h : ∀ l, l ∈ R → l.length = 4) : (R.map fun l => l.map fun x => AVal.int .i64 x) = (R.map toE).map EV.cells := by
 rw [List.map_map];refine List.map_congr_left fun l hl => ?_
 match l, h l hl with
 | [a, b, c, d], _ => rfl
theorem array4 {α : Type} {cs : Array α} (h : cs.size = 4) : ∃ c0 c1 c2 c3, cs = #[c0, c1, c2, c3] := by
 obtain ⟨l⟩ := cs
 match l, h with
 | [c0, c1, c2, c3], _ => exact ⟨c0, c1, c2, c3, rfl⟩
theorem clamp_of {bs : Nat} {v : Value} {d : DataW H} {p : List MemPlace} (hv : Value.okWide Tryz.prog W .any bs 27 v) (h : DataW.Trod enc Tryz.prog W 0 (fun _ => true) true 27 v d p) {e : Env} {hh : AH} (r : HR Tryz.prog (Base.all W) e hh W) :
  ∃ e' h' C sp se, Env.le e e' ∧ HR Tryz.prog (Base.all W) e' h' W ∧ Ext hh h' ∧ VR e' (.agg (C.cells sp se)) v ∧ ClampAt h' C sp se ∧ C.ps.length < 9223372036854775808 ∧ C.es.length < 9223372036854775808 ∧ CutS se C.es.length := by
 have hv2 := hv
 obtain ⟨cs, rfl, hsz⟩ := okWide_struct Tryz.underlying27 hv
 obtain ⟨c0, c1, c2, c3, rfl⟩ := array4 (hsz.trans cells27)
 obtain ⟨fuel, hf⟩ := h
 obtain ⟨xs, n, _, _, hl, hlen, hfl⟩ := DataW.trod_struct Tryz.underlying27 hf
 obtain ⟨y0, y1, y2, rfl⟩ := list3 hlen
 have t0 : DataW.trod enc Tryz.prog W 0 (fun _ => true) true n 22 [c0] = some y0 := by
  have this : DataW.trod enc Tryz.prog W 0 (fun _ => true) true n 22 (([c0, c1, c2, c3].drop 0).take (Tryz.prog.cellsOf 22)) = [y0, y1, y2][0]? := hfl 0 _ rfl
  rw [cells22] at this;exact this
 have t1 : DataW.trod enc Tryz.prog W 0 (fun _ => true) true n 24 [c1, c2] = some y1 := by
  have this : DataW.trod enc Tryz.prog W 0 (fun _ => true) true n 24 (([c0, c1, c2, c3].drop 1).take (Tryz.prog.cellsOf 24)) = [y0, y1, y2][1]? := hfl 1 _ rfl
  rw [cells24] at this;exact this
 have t2 : DataW.trod enc Tryz.prog W 0 (fun _ => true) true n 25 [c3] = some y2 := by
  have this : DataW.trod enc Tryz.prog W 0 (fun _ => true) true n 25 (([c0, c1, c2, c3].drop 3).take (Tryz.prog.cellsOf 25)) = [y0, y1, y2][2]? := hfl 2 _ rfl
  rw [cells25] at this;exact this
 unfold Value.okWide at hv2
 rw [Tryz.underlying27] at hv2
 obtain ⟨cs, hcs, _, ts, hts, _, hrow⟩ := hv2
 injection hcs with hcs
 subst hcs;rw [ctypes27] at hts;cases hts
 obtain ⟨u0, hu0, ok0⟩ := hrow 0 c0 rfl
 obtain ⟨u3, hu3, ok3⟩ := hrow 3 c3 rfl
 cases hu0;cases hu3
 obtain ⟨n1, n2, e1⟩ := span_row t1
 simp at e1
 obtain ⟨rfl, rfl⟩ := e1
 obtain ⟨ea, ha, s0, R0, a1, a2, a3, a4, a5, a6, a7, a8⟩ := rows_of Tryz.underlying22 cells58 pile_row t0 ok0 r
 obtain ⟨eb, hb, s1, R1, b1, b2, b3, b4, b5, b6, b7, b8⟩ := rows_of Tryz.underlying25 cells53 ev_row t2 ok3 a2
 rw [ps_eq a5] at a6;rw [es_eq b5] at b6;refine ⟨eb, hb, ⟨R0.map toP, n1, n2, R1.map toE⟩, s0, s1, Env.le_trans a1 b1, b2, a3.trans b3, ?_, ⟨a6.ext b3, b6⟩, by simpa using a7, by simpa using b7, by show CutS s1 (R1.map toE).length; rw [List.length_map]; exact b8⟩;exact .agg (CS := [_, _, _, _]) (.cons (a4.mono b1) (.cons (.int _ _) (.cons (.int _ _) (.cons b4 .nil))))
end Go.Proofs.YtobhkdgcciolmaaGreat
