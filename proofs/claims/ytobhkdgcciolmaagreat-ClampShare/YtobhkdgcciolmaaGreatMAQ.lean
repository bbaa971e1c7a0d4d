import Derived.Test.YtobhkdgcciolmaaGreatMAP
import Derived.KernelRfl
import Derived.Test.YtobhkdgcciolmaaGreatMAI
import Derived.Test.YtobhkdgcciolmaaGreatMAG
import Derived.Deep.Slices
import Derived.Lib.SmallJoins
import Derived.Carry
import Derived.Laws.IdiomArrays
import Derived.Test.YtobhkdgcciolmaaGreatRows
import Derived.WalkKit
import Derived.ProofKit
import Derived.OpenShut
namespace Go.Proofs.YtobhkdgcciolmaaGreat
open Go Go.AbsE
set_option linter.unusedSimpArgs false
set_option maxRecDepth 100000
set_option maxHeartbeats 0
set_option linter.unusedVariables false
def sampleV (E : List EV) : ClampV := ⟨[⟨3, 3, 2, 2, 1, 2⟩, ⟨2, 2, 2, 2, 2, 2⟩], 4, 5, [⟨0, 0, 10, 12⟩, ⟨1, 1, 30, 33⟩] ++ E⟩
def k1 : EV := ⟨1, 0, 13, 36⟩
def k2 : EV := ⟨1, 0, 12, 12⟩
theorem pv_len (p : PV) : (PV.cells p).length = 6 := rfl
theorem ev_len (p : EV) : (EV.cells p).length = 4 := rfl
theorem evs_four {L : List EV} : ∀ l, l ∈ L.map EV.cells → l.length = 4 := fun l hl => by
 obtain ⟨e, _, rfl⟩ := List.mem_map.1 hl
 rfl
theorem pvs_slice {h : AH} {b n : Nat} {g : Kd} {el : TypeId} {L : List PV} (hn : L.length = n) (f : Has h b (.cells g (L.flatMap PV.cells) el)) : SliceOf h 6 (.slice b 0 n n) (L.map PV.cells) :=
 SliceOf.mk' rfl rfl f (by rw [List.length_map, hn]) fun i v q => by rw [Nat.zero_add]; exact flatten_at pv_len i v q
theorem evs_slice {h : AH} {b n : Nat} {g : Kd} {el : TypeId} {L : List EV} (hn : L.length = n) (f : Has h b (.cells g (L.flatMap EV.cells) el)) : SliceOf h 4 (.slice b 0 n n) (L.map EV.cells) :=
 SliceOf.mk' rfl rfl f (by rw [List.length_map, hn]) fun i v q => by rw [Nat.zero_add]; exact flatten_at ev_len i v q
theorem scal_app {a b : List AVal} (ha : scalars a = true) (hb : scalars b = true) : scalars (a ++ b) = true := by
 induction a with
 | nil => exact hb
 | cons x a ih =>
  show cond (scalar x) (scalars (a ++ b)) false = true
  have h1 : cond (scalar x) (scalars a) false = true := ha
  cases q : scalar x with
  | true => rw [q] at h1; exact ih h1
  | false => rw [q] at h1; cases h1
theorem ClampAt.scal {C : ClampV} {p e : AVal} {h : AH} (A : ClampAt h C p e) : scalars (C.cells p e) = true :=
 scal_app (a := [p]) A.ps.scal.1 (scal_app (a := [.int .i64 C.pl, .int .i64 C.ph]) rfl A.es.scal.1)
def ClampNew (lo : Nat) (h : AH) (C : ClampV) (p e : AVal) : Prop := FreshS lo h 6 p (C.ps.map PV.cells) ∧ FreshS lo h 4 e (C.es.map EV.cells)
theorem ClampNew.at {lo : Nat} {h : AH} {C : ClampV} {p e : AVal} (k : ClampNew lo h C p e) : ClampAt h C p e := ⟨k.1.self, k.2.self⟩
theorem ClampNew.upd {lo n : Nat} {B : ABlk} {h h' : AH} {C : ClampV} {p e : AVal} (k : ClampNew lo h C p e) (u : Upd h n B h') (hn : n < lo) : ClampNew lo h' C p e :=
 ⟨k.1.on (Nat.le_of_eq u.1.symm) fun b b1 _ => u.2.2 b (by omega), k.2.on (Nat.le_of_eq u.1.symm) fun b b1 _ => u.2.2 b (by omega)⟩
theorem fresh_pvs {lo : Nat} {h : AH} {b n : Nat} {g : Kd} {el : TypeId} {L : List PV} (hn : L.length = n) (hb : lo ≤ b) (f : Has h b (.cells g (L.flatMap PV.cells) el)) : FreshS lo h 6 (.slice b 0 n n) (L.map PV.cells) := fun h' hl he => pvs_slice hn ⟨Nat.lt_of_lt_of_le f.1 hl, by rw [he b hb f.1]; exact f.2⟩
theorem sample_ok {E : List EV} {s : AVal} {h : AH} (hs : SliceOf h 4 s (E.map EV.cells)) (hn : E.length ≤ 100) : Runs Tryz.prog 42 [s] h (fun en h' => ∃ p e, en = .ret (.agg ((sampleV E).cells p e)) ∧ Ext h h' ∧ ClampNew h.next h' (sampleV E) p e ∧ Ext h' h') := by
 unfold ClampV.cells
 have e0 : Ext h h := Ext.refl _
 refine Runs.intro aFunc42 rfl rfl rfl rfl fun rest => ?_;apply gS;refine gR rfl ?_;refine GoR.alloc rfl rfl rfl zt27 rfl rfl fun h0 x0 f0 => ?_;have := e0.1;replace e0 := e0.trans x0;have := f0.1;apply gE;apply gS;refine gR rfl ?_;refine GoR.call rfl rfl (aCF aFunc83 rfl) (pile83_ok) ?_ np;rintro v1 h1 ⟨q, x1⟩;cases q;refine ⟨_, rfl, ?_⟩;replace f0 := f0.ext x1;replace e0 := e0.trans x1;refine GoR.call rfl rfl (aCF aFunc83 rfl) (pile83_ok) ?_ np;rintro v2 h2 ⟨q, x2⟩;cases q;refine ⟨_, rfl, ?_⟩;replace f0 := f0.ext x2;replace e0 := e0.trans x2;refine GoR.buildSl rfl rfl (ps := [(0, .agg [.int .i64 3, .int .i64 3, .int .i64 2, .int .i64 2, .int .i64 1, .int .i64 2]), (1, .agg [.int .i64 2, .int .i64 2, .int .i64 2, .int .i64 2, .int .i64 2, .int .i64 2])]) (cs := ([⟨3, 3, 2, 2, 1, 2⟩, ⟨2, 2, 2, 2, 2, 2⟩] : List PV).flatMap PV.cells) Tryz.underlying22 rfl sz58 zt58 rfl rfl rfl rfl fun h3 x3 f3 => ?_;have := e0.1;have := f0.1;replace f0 := f0.ext x3;replace e0 := e0.trans x3;have := f3.1;refine GoR.call rfl rfl (aCF aFunc36 rfl) (span36_ok) ?_ np;rintro v4 h4 ⟨q, x4⟩;cases q;refine ⟨_, rfl, ?_⟩;replace f3 := f3.ext x4;replace f0 := f0.ext x4;replace e0 := e0.trans x4;refine GoR.call rfl rfl (aCF aFunc41 rfl) (sale41_ok) ?_ np;rintro v5 h5 ⟨q, x5⟩;cases q;refine ⟨_, rfl, ?_⟩;replace f3 := f3.ext x5;replace f0 := f0.ext x5;replace e0 := e0.trans x5;refine GoR.call rfl rfl (aCF aFunc35 rfl) (count35_ok) ?_ np;rintro v6 h6 ⟨q, x6⟩;cases q;refine ⟨_, rfl, ?_⟩;replace f3 := f3.ext x6;replace f0 := f0.ext x6;replace e0 := e0.trans x6;refine GoR.buildSl rfl rfl (ps := [(0, .agg [.int .i64 0, .int .i64 0, .int .i64 10, .int .i64 12]), (1, .agg [.int .i64 1, .int .i64 1, .int .i64 30, .int .i64 33])]) (cs := (([⟨0, 0, 10, 12⟩, ⟨1, 1, 30, 33⟩] : List EV).map EV.cells).flatten) Tryz.underlying25 rfl sz53 zt53 rfl rfl rfl rfl fun h7 x7 f7 => ?_;have := e0.1;have := f3.1;have := f0.1;replace f3 := f3.ext x7;replace f0 := f0.ext x7;replace e0 := e0.trans x7;have := f7.1;refine gP ?_
 have hb0 := f0.1
 have hsl := hs.ext e0
 have hb3 := f3.1
 have hb7 := f7.1
 have hn1 : h.next < h2.next := by omega
 have hn2 : h2.next < h6.next := by omega
 refine GoR.appendFull (Lx := ([⟨0, 0, 10, 12⟩, ⟨1, 1, 30, 33⟩] : List EV).map EV.cells) rfl rfl Tryz.underlying25 Tryz.underlying25 sz53 by53 zt53 rfl rfl rfl f7 rfl rfl evs_four rfl hsl evs_four (by rw [List.length_map]; omega) rfl rfl fun s11 h11 x11 S11 => ?_;replace f0 := f0.ext x11;replace f3 := f3.ext x11;replace e0 := e0.trans x11
 rw [← List.map_append] at S11
 have hs11 := S11.self.scal
 have hx11 := x11.1
 have RN : ClampNew (h.next + 1) h11 (sampleV E) (.slice h2.next 0 2 2) s11 := ⟨fresh_pvs (L := [⟨3, 3, 2, 2, 1, 2⟩, ⟨2, 2, 2, 2, 2, 2⟩]) rfl (by omega) f3, fun h' hl he => S11 h' hl fun b b1 b2 => he b (by omega) b2⟩
 have hsc : scalars [.slice h2.next 0 2 2, .int .i64 4, .int .i64 5, s11] = true := scal_app (a := [.slice h2.next 0 2 2, .int .i64 4, .int .i64 5]) rfl hs11.1
 clear f7;refine gO rfl rfl (aOp_build (ps := [(0, .slice h2.next 0 2 2), (1, .agg [.int .i64 4, .int .i64 5]), (2, s11)]) (cs := [.slice h2.next 0 2 2, .int .i64 4, .int .i64 5, s11]) zt27 hu27 pl27 rfl (by simp [aFillA, hs11.2, cells_agg, splice]; rfl)) rfl ?_;refine GoR.store rfl rfl rfl rfl rfl rfl f0 rfl sz27 rfl hsc rfl fun h12 u12 => ?_;replace f0 := u12.has f0;replace e0 := e0.upd u12 (by omega);apply gE
 have hr := RN.upd u12 (Nat.lt_succ_self _)
 exact gV (ret_end (aResult_of Tryz.func42 rfl (aResults_cell rfl f0 (inCells_agg ag27 sz27 rfl))) ⟨_, _, rfl, e0, ⟨fun h' hl he => hr.1 h' hl fun b b1 b2 => he b (by omega) b2, fun h' hl he => hr.2 h' hl fun b b1 b2 => he b (by omega) b2⟩, Ext.refl _⟩)
theorem nil_ok {h : AH} : Runs Tryz.prog 42 [.nilslice] h (fun en h' => ∃ p e, en = .ret (.agg ((sampleV []).cells p e)) ∧ Ext h h' ∧ ClampAt h' (sampleV []) p e ∧ Ext h' h') :=
 (sample_ok (E := []) .nil (by decide)).mono fun en h' ⟨p, e, q, x, N, y⟩ => ⟨p, e, q, x, N.at, y⟩
theorem counted_ok {h : AH} : Runs Tryz.prog 43 [] h (fun en h' => ∃ p e, en = .ret (.agg ((sampleV [k1]).cells p e)) ∧ Ext h h' ∧ ClampAt h' (sampleV [k1]) p e ∧ Ext h' h') := by
 have hsa := fun {s h'} S => sample_ok (E := [k1]) (s := s) (h := h') S (by decide)
 unfold ClampV.cells at hsa ⊢
 have e0 : Ext h h := Ext.refl _
 refine Runs.intro aFunc43 rfl rfl rfl rfl fun rest => ?_;apply gS;refine gR rfl ?_;refine GoR.alloc rfl rfl rfl zt27 rfl rfl fun h0 x0 f0 => ?_;have := e0.1;replace e0 := e0.trans x0;have := f0.1;apply gE;apply gS;refine gR rfl ?_;refine GoR.call rfl rfl (aCF aFunc35 rfl) (count35_ok) ?_ np;rintro v1 h1 ⟨q, x1⟩;cases q;refine ⟨_, rfl, ?_⟩;replace f0 := f0.ext x1;replace e0 := e0.trans x1;refine GoR.buildSl rfl rfl (ps := [(0, .agg [.int .i64 1, .int .i64 0, .int .i64 13, .int .i64 36])]) (cs := [k1].flatMap EV.cells) Tryz.underlying25 rfl sz53 zt53 rfl rfl rfl rfl fun h2 x2 f2 => ?_;have := e0.1;have := f0.1;replace f0 := f0.ext x2;replace e0 := e0.trans x2;have := f2.1;refine GoR.call rfl rfl (aCF aFunc42 rfl) (hsa (evs_slice (L := [k1]) rfl (by assumption))) ?_ (by rintro _ _ ⟨p, e, q, _, RA, e9⟩; cases q);rintro v3 h3 ⟨p, e, q, x3, RA, e9⟩;cases q;refine ⟨_, rfl, ?_⟩;have := e0.1;replace f2 := f2.ext x3;replace f0 := f0.ext x3;replace e0 := e0.trans x3;refine GoR.store rfl rfl rfl rfl rfl rfl f0 rfl sz27 rfl RA.at.scal rfl fun h4 u4 => ?_;replace f2 := f2.upd u4 (by omega);replace f0 := u4.has f0;clear e9;replace e0 := e0.upd u4 (by omega);apply gE;exact gV (ret_end (aResult_of Tryz.func43 rfl (aResults_cell rfl f0 (inCells_agg ag27 sz27 rfl))) ⟨_, _, rfl, e0, (RA.upd (by assumption) (by omega)).at, Ext.refl _⟩)
theorem clash_ok {h : AH} : Runs Tryz.prog 44 [] h (fun en h' => ∃ p e, en = .ret (.agg ((sampleV [k1, k2]).cells p e)) ∧ Ext h h' ∧ ClampAt h' (sampleV [k1, k2]) p e ∧ Ext h' h') := by
 have hsa := fun {s h'} S => sample_ok (E := [k1, k2]) (s := s) (h := h') S (by decide)
 unfold ClampV.cells at hsa ⊢
 have e0 : Ext h h := Ext.refl _
 refine Runs.intro aFunc44 rfl rfl rfl rfl fun rest => ?_;apply gS;refine gR rfl ?_;refine GoR.alloc rfl rfl rfl zt27 rfl rfl fun h0 x0 f0 => ?_;have := e0.1;replace e0 := e0.trans x0;have := f0.1;apply gE;apply gS;refine gR rfl ?_;refine GoR.call rfl rfl (aCF aFunc35 rfl) (count35_ok) ?_ np;rintro v1 h1 ⟨q, x1⟩;cases q;refine ⟨_, rfl, ?_⟩;replace f0 := f0.ext x1;replace e0 := e0.trans x1;refine GoR.call rfl rfl (aCF aFunc35 rfl) (count35_ok) ?_ np;rintro v2 h2 ⟨q, x2⟩;cases q;refine ⟨_, rfl, ?_⟩;replace f0 := f0.ext x2;replace e0 := e0.trans x2;refine GoR.buildSl rfl rfl (ps := [(0, .agg [.int .i64 1, .int .i64 0, .int .i64 13, .int .i64 36]), (1, .agg [.int .i64 1, .int .i64 0, .int .i64 12, .int .i64 12])]) (cs := [k1, k2].flatMap EV.cells) Tryz.underlying25 rfl sz53 zt53 rfl rfl rfl rfl fun h3 x3 f3 => ?_;have := e0.1;have := f0.1;replace f0 := f0.ext x3;replace e0 := e0.trans x3;have := f3.1;refine GoR.call rfl rfl (aCF aFunc42 rfl) (hsa (evs_slice (L := [k1, k2]) rfl (by assumption))) ?_ (by rintro _ _ ⟨p, e, q, _, RA, e9⟩; cases q);rintro v4 h4 ⟨p, e, q, x4, RA, e9⟩;cases q;refine ⟨_, rfl, ?_⟩;have := e0.1;replace f3 := f3.ext x4;replace f0 := f0.ext x4;replace e0 := e0.trans x4;refine GoR.store rfl rfl rfl rfl rfl rfl f0 rfl sz27 rfl RA.at.scal rfl fun h5 u5 => ?_;replace f3 := f3.upd u5 (by omega);replace f0 := u5.has f0;clear e9;replace e0 := e0.upd u5 (by omega);apply gE;exact gV (ret_end (aResult_of Tryz.func44 rfl (aResults_cell rfl f0 (inCells_agg ag27 sz27 rfl))) ⟨_, _, rfl, e0, (RA.upd (by assumption) (by omega)).at, Ext.refl _⟩)
theorem spanT24 : SpanT Tryz.prog 24 := ⟨⟨_, _, Tryz.underlying24, by decide, by decide, rfl, rfl, ⟨_, Tryz.underlying3⟩, ⟨_, Tryz.underlying3⟩⟩, by kernel_rfl, by kernel_rfl⟩
theorem v0 : (sampleV []).builtR 0 = ((24, 48), 0) := by decide +kernel
theorem cv0 {h : AH} {p e : AVal} (A : ClampAt h (sampleV []) p e) : Runs Tryz.prog 13 [.agg ((sampleV []).cells p e), .int .i64 0] h (fun en h' => en = .ret (.tuple [.agg [.int .i64 24, .int .i64 48], .int .i64 0]) ∧ Ext h h') := by
 have q := Built_ok A ⟨by decide, by decide⟩ 0
 rw [v0] at q;exact q
theorem v1 : (sampleV [k1]).hasR 0 = ((13, 36), 0) := by decide +kernel
theorem cv1 {h : AH} {p e : AVal} (A : ClampAt h (sampleV [k1]) p e) : Runs Tryz.prog 15 [.agg ((sampleV [k1]).cells p e), .int .i64 0] h (fun en h' => en = .ret (.tuple [.agg [.int .i64 13, .int .i64 36], .int .i64 0]) ∧ Ext h h') := by
 have q := Has_ok A ⟨by decide, by decide⟩ 0
 rw [v1] at q;exact q
theorem v2 : (sampleV []).soldR 0 = ((10, 12), 0) := by decide +kernel
theorem cv2 {h : AH} {p e : AVal} (A : ClampAt h (sampleV []) p e) : Runs Tryz.prog 17 [.agg ((sampleV []).cells p e), .int .i64 0] h (fun en h' => en = .ret (.tuple [.agg [.int .i64 10, .int .i64 12], .int .i64 0]) ∧ Ext h h') := by
 have q := Sold_ok A ⟨by decide, by decide⟩ 0
 rw [v2] at q;exact q
theorem v3 : (sampleV []).allR = ((44, 70), 0) := by decide +kernel
theorem cv3 {h : AH} {p e : AVal} (A : ClampAt h (sampleV []) p e) : Runs Tryz.prog 19 [.agg ((sampleV []).cells p e)] h (fun en h' => en = .ret (.tuple [.agg [.int .i64 44, .int .i64 70], .int .i64 0]) ∧ Ext h h') := by
 have q := All_ok A ⟨by decide, by decide⟩
 rw [v3] at q;exact q
theorem v4 : (sampleV []).enoughR 0 20 = (1, 0) := by decide +kernel
theorem cv4 {h : AH} {p e : AVal} (A : ClampAt h (sampleV []) p e) : Runs Tryz.prog 21 [.agg ((sampleV []).cells p e), .int .i64 0, .int .i64 20] h (fun en h' => en = .ret (.tuple [.int .i64 1, .int .i64 0]) ∧ Ext h h') := by
 have q := Enough_ok A ⟨by decide, by decide⟩ 0 20
 rw [v4] at q;exact q
theorem v5 : (sampleV []).emptyR = ((0, 0), 0) := by decide +kernel
theorem cv5 {h : AH} {p e : AVal} (A : ClampAt h (sampleV []) p e) : Runs Tryz.prog 23 [.agg ((sampleV []).cells p e)] h (fun en h' => en = .ret (.tuple [.int .i64 0, .int .i64 0, .int .i64 0]) ∧ Ext h h') := by
 have q := Empty_ok A ⟨by decide, by decide⟩
 rw [v5] at q;exact q
theorem v6 : (sampleV []).shareR 40 = (3, 0) := by decide +kernel
theorem cv6 {h : AH} {p e : AVal} (A : ClampAt h (sampleV []) p e) : Runs Tryz.prog 25 [.agg ((sampleV []).cells p e), .int .i64 40] h (fun en h' => en = .ret (.tuple [.int .i64 3, .int .i64 0]) ∧ Ext h h') := by
 have q := Share_ok A ⟨by decide, by decide⟩ 40
 rw [v6] at q;exact q
theorem v7 : (sampleV [k1, k2]).clashR = (12, 0) := by decide +kernel
theorem cv7 {h : AH} {p e : AVal} (A : ClampAt h (sampleV [k1, k2]) p e) : Runs Tryz.prog 27 [.agg ((sampleV [k1, k2]).cells p e)] h (fun en h' => en = .ret (.tuple [.int .i64 12, .int .i64 0]) ∧ Ext h h') := by
 have q := Clash_ok A ⟨by decide, by decide⟩
 rw [v7] at q;exact q
theorem alive_ok {h : AH} : Runs Tryz.prog 12 [] h (fun en h' => en = .ret (.bool true) ∧ Ext h h') := by
 have e0 : Ext h h := Ext.refl _
 refine Runs.intro aFunc12 rfl rfl rfl rfl fun rest => ?_;apply gS;refine gR rfl ?_;refine gP ?_;apply gE;apply gS;refine gR rfl ?_;refine GoR.call rfl rfl (aCF aFunc42 rfl) (nil_ok) ?_ (by rintro _ _ ⟨p0, q0, q, _, A0, _⟩; cases q);rintro v0 h0 ⟨p0, q0, q, x0, A0, _⟩;cases q;refine ⟨_, rfl, ?_⟩;have := e0.1;replace e0 := e0.trans x0;refine GoR.call rfl rfl (aCF aFunc13 rfl) (cv0 A0) ?_ np;rintro v1 h1 ⟨q, x1⟩;cases q;refine ⟨_, rfl, ?_⟩;replace e0 := e0.trans x1;iterate 3 refine gP ?_
 refine GoR.alloc rfl rfl rfl zt24 rfl rfl fun h2 x2 f2 => ?_;have := e0.1;replace e0 := e0.trans x2;have := f2.1;refine GoR.store rfl rfl rfl rfl rfl rfl f2 rfl sz24 rfl rfl rfl fun h3 u3 => ?_;replace f2 := u3.has f2;replace e0 := e0.upd u3 (by omega);refine gP ?_;apply gE;apply gS;refine gR rfl ?_;refine GoR.call rfl rfl (aCF aFunc43 rfl) (counted_ok) ?_ (by rintro _ _ ⟨p1, q1, q, _, A1, _⟩; cases q);rintro v4 h4 ⟨p1, q1, q, x4, A1, _⟩;cases q;refine ⟨_, rfl, ?_⟩;have := e0.1;replace f2 := f2.ext x4;replace e0 := e0.trans x4;refine GoR.call rfl rfl (aCF aFunc15 rfl) (cv1 A1) ?_ np;rintro v5 h5 ⟨q, x5⟩;cases q;refine ⟨_, rfl, ?_⟩;replace f2 := f2.ext x5;replace e0 := e0.trans x5;iterate 3 refine gP ?_
 refine GoR.alloc rfl rfl rfl zt24 rfl rfl fun h6 x6 f6 => ?_;have := e0.1;have := f2.1;replace f2 := f2.ext x6;replace e0 := e0.trans x6;have := f6.1;refine GoR.store rfl rfl rfl rfl rfl rfl f6 rfl sz24 rfl rfl rfl fun h7 u7 => ?_;replace f6 := u7.has f6;replace f2 := f2.upd u7 (by omega);replace e0 := e0.upd u7 (by omega);refine gP ?_;apply gE;apply gS;refine gR rfl ?_;refine GoR.call rfl rfl (aCF aFunc42 rfl) (nil_ok) ?_ (by rintro _ _ ⟨p0, q0, q, _, A0, _⟩; cases q);rintro v8 h8 ⟨p0, q0, q, x8, A0, _⟩;cases q;refine ⟨_, rfl, ?_⟩;have := e0.1;replace f6 := f6.ext x8;replace f2 := f2.ext x8;replace e0 := e0.trans x8;refine GoR.call rfl rfl (aCF aFunc17 rfl) (cv2 A0) ?_ np;rintro v9 h9 ⟨q, x9⟩;cases q;refine ⟨_, rfl, ?_⟩;replace f6 := f6.ext x9;replace f2 := f2.ext x9;replace e0 := e0.trans x9;iterate 3 refine gP ?_
 refine GoR.alloc rfl rfl rfl zt24 rfl rfl fun h10 x10 f10 => ?_;have := e0.1;have := f6.1;have := f2.1;replace f6 := f6.ext x10;replace f2 := f2.ext x10;replace e0 := e0.trans x10;have := f10.1;refine GoR.store rfl rfl rfl rfl rfl rfl f10 rfl sz24 rfl rfl rfl fun h11 u11 => ?_;replace f10 := u11.has f10;replace f6 := f6.upd u11 (by omega);replace f2 := f2.upd u11 (by omega);replace e0 := e0.upd u11 (by omega);refine gP ?_;apply gE;apply gS;refine gR rfl ?_;refine GoR.call rfl rfl (aCF aFunc42 rfl) (nil_ok) ?_ (by rintro _ _ ⟨p0, q0, q, _, A0, _⟩; cases q);rintro v12 h12 ⟨p0, q0, q, x12, A0, _⟩;cases q;refine ⟨_, rfl, ?_⟩;have := e0.1;replace f10 := f10.ext x12;replace f6 := f6.ext x12;replace f2 := f2.ext x12;replace e0 := e0.trans x12;refine GoR.call rfl rfl (aCF aFunc19 rfl) (cv3 A0) ?_ np;rintro v13 h13 ⟨q, x13⟩;cases q;refine ⟨_, rfl, ?_⟩;replace f10 := f10.ext x13;replace f6 := f6.ext x13;replace f2 := f2.ext x13;replace e0 := e0.trans x13;iterate 3 refine gP ?_
 refine GoR.alloc rfl rfl rfl zt24 rfl rfl fun h14 x14 f14 => ?_;have := e0.1;have := f10.1;have := f6.1;have := f2.1;replace f10 := f10.ext x14;replace f6 := f6.ext x14;replace f2 := f2.ext x14;replace e0 := e0.trans x14;have := f14.1;refine GoR.store rfl rfl rfl rfl rfl rfl f14 rfl sz24 rfl rfl rfl fun h15 u15 => ?_;replace f14 := u15.has f14;replace f10 := f10.upd u15 (by omega);replace f6 := f6.upd u15 (by omega);replace f2 := f2.upd u15 (by omega);replace e0 := e0.upd u15 (by omega);refine gP ?_;apply gE;apply gS;refine gR rfl ?_;refine GoR.call rfl rfl (aCF aFunc42 rfl) (nil_ok) ?_ (by rintro _ _ ⟨p0, q0, q, _, A0, _⟩; cases q);rintro v16 h16 ⟨p0, q0, q, x16, A0, _⟩;cases q;refine ⟨_, rfl, ?_⟩;have := e0.1;replace f14 := f14.ext x16;replace f10 := f10.ext x16;replace f6 := f6.ext x16;replace f2 := f2.ext x16;replace e0 := e0.trans x16;refine GoR.call rfl rfl (aCF aFunc21 rfl) (cv4 A0) ?_ np;rintro v17 h17 ⟨q, x17⟩;cases q;refine ⟨_, rfl, ?_⟩;replace f14 := f14.ext x17;replace f10 := f10.ext x17;replace f6 := f6.ext x17;replace f2 := f2.ext x17;replace e0 := e0.trans x17;iterate 5 refine gP ?_
 apply gE;apply gS;refine gR rfl ?_;refine GoR.call rfl rfl (aCF aFunc42 rfl) (nil_ok) ?_ (by rintro _ _ ⟨p0, q0, q, _, A0, _⟩; cases q);rintro v18 h18 ⟨p0, q0, q, x18, A0, _⟩;cases q;refine ⟨_, rfl, ?_⟩;have := e0.1;replace f14 := f14.ext x18;replace f10 := f10.ext x18;replace f6 := f6.ext x18;replace f2 := f2.ext x18;replace e0 := e0.trans x18;refine GoR.call rfl rfl (aCF aFunc23 rfl) (cv5 A0) ?_ np;rintro v19 h19 ⟨q, x19⟩;cases q;refine ⟨_, rfl, ?_⟩;replace f14 := f14.ext x19;replace f10 := f10.ext x19;replace f6 := f6.ext x19;replace f2 := f2.ext x19;replace e0 := e0.trans x19;iterate 7 refine gP ?_
 apply gE;apply gS;refine gR rfl ?_;refine GoR.call rfl rfl (aCF aFunc42 rfl) (nil_ok) ?_ (by rintro _ _ ⟨p0, q0, q, _, A0, _⟩; cases q);rintro v20 h20 ⟨p0, q0, q, x20, A0, _⟩;cases q;refine ⟨_, rfl, ?_⟩;have := e0.1;replace f14 := f14.ext x20;replace f10 := f10.ext x20;replace f6 := f6.ext x20;replace f2 := f2.ext x20;replace e0 := e0.trans x20;refine GoR.call rfl rfl (aCF aFunc25 rfl) (cv6 A0) ?_ np;rintro v21 h21 ⟨q, x21⟩;cases q;refine ⟨_, rfl, ?_⟩;replace f14 := f14.ext x21;replace f10 := f10.ext x21;replace f6 := f6.ext x21;replace f2 := f2.ext x21;replace e0 := e0.trans x21;iterate 5 refine gP ?_
 apply gE;apply gS;refine gR rfl ?_;refine GoR.call rfl rfl (aCF aFunc44 rfl) (clash_ok) ?_ (by rintro _ _ ⟨p2, q2, q, _, A2, _⟩; cases q);rintro v22 h22 ⟨p2, q2, q, x22, A2, _⟩;cases q;refine ⟨_, rfl, ?_⟩;have := e0.1;replace f14 := f14.ext x22;replace f10 := f10.ext x22;replace f6 := f6.ext x22;replace f2 := f2.ext x22;replace e0 := e0.trans x22;refine GoR.call rfl rfl (aCF aFunc27 rfl) (cv7 A2) ?_ np;rintro v23 h23 ⟨q, x23⟩;cases q;refine ⟨_, rfl, ?_⟩;replace f14 := f14.ext x23;replace f10 := f10.ext x23;replace f6 := f6.ext x23;replace f2 := f2.ext x23;replace e0 := e0.trans x23;iterate 5 refine gP ?_
 apply gE;apply gS;refine Go.drawnE plan12_0 ?_;refine gQ rfl rfl (ld24 rfl f2 rfl) rfl ?_;refine GoE.call rfl rfl (aCF aFunc36 rfl) (span36_ok) (dK 0 0 rfl) ?_ np;rintro v24 h24 ⟨q, x24⟩;cases q;replace f14 := f14.ext x24;replace f10 := f10.ext x24;replace f6 := f6.ext x24;replace f2 := f2.ext x24;replace e0 := e0.trans x24;refine ⟨(rck (h2 := h24) rfl (ld24 rfl f2 rfl) recheck_nil), _, rfl, ?_⟩;refine gQ rfl rfl (aOp_eqlSpan spanT24 rfl rfl rfl) rfl ?_;iterate 2 refine gQ rfl rfl rfl rfl ?_
 refine gQ rfl rfl (kET rfl rfl) rfl ?_;iterate 2 refine gQ rfl rfl rfl rfl ?_
 refine gQ rfl rfl (ld24 rfl f6 rfl) rfl ?_;refine GoE.call rfl rfl (aCF aFunc36 rfl) (span36_ok) (dK 255 8 (dD 255 7 (dD 255 6 (dD 255 5 (dD 255 4 (dD 255 3 (dD 255 2 (dD 255 0 rfl)))))))) ?_ np;rintro v25 h25 ⟨q, x25⟩;cases q;replace f14 := f14.ext x25;replace f10 := f10.ext x25;replace f6 := f6.ext x25;replace e0 := e0.trans x25;refine ⟨(rck (h2 := h25) rfl (ld24 rfl f6 rfl) recheck_nil), _, rfl, ?_⟩;refine gQ rfl rfl (aOp_eqlSpan spanT24 rfl rfl rfl) rfl ?_;iterate 3 refine gQ rfl rfl rfl rfl ?_
 refine gQ rfl rfl (kET rfl rfl) rfl ?_;iterate 2 refine gQ rfl rfl rfl rfl ?_
 refine gQ rfl rfl (ld24 rfl f10 rfl) rfl ?_;refine GoE.call rfl rfl (aCF aFunc36 rfl) (span36_ok) (dK 131071 17 (dD 131071 16 (dD 131071 15 (dD 131071 14 (dD 131071 13 (dD 131071 12 (dD 131071 11 (dD 131071 10 (dD 131071 8 rfl))))))))) ?_ np;rintro v26 h26 ⟨q, x26⟩;cases q;replace f14 := f14.ext x26;replace f10 := f10.ext x26;replace e0 := e0.trans x26;refine ⟨(rck (h2 := h26) rfl (ld24 rfl f10 rfl) recheck_nil), _, rfl, ?_⟩;refine gQ rfl rfl (aOp_eqlSpan spanT24 rfl rfl rfl) rfl ?_;iterate 3 refine gQ rfl rfl rfl rfl ?_
 refine gQ rfl rfl (kET rfl rfl) rfl ?_;iterate 2 refine gQ rfl rfl rfl rfl ?_
 refine gQ rfl rfl (ld24 rfl f14 rfl) rfl ?_;refine GoE.call rfl rfl (aCF aFunc36 rfl) (span36_ok) (dK 67108863 26 (dD 67108863 25 (dD 67108863 24 (dD 67108863 23 (dD 67108863 22 (dD 67108863 21 (dD 67108863 20 (dD 67108863 19 (dD 67108863 17 rfl))))))))) ?_ np;rintro v27 h27 ⟨q, x27⟩;cases q;replace f14 := f14.ext x27;replace e0 := e0.trans x27;refine ⟨(rck (h2 := h27) rfl (ld24 rfl f14 rfl) recheck_nil), _, rfl, ?_⟩;refine gQ rfl rfl (aOp_eqlSpan spanT24 rfl rfl rfl) rfl ?_;iterate 3 refine gQ rfl rfl rfl rfl ?_
 refine gQ rfl rfl (kET rfl rfl) rfl ?_;iterate 3 refine gQ rfl rfl rfl rfl ?_
 refine gQ rfl rfl (kET rfl rfl) rfl ?_;iterate 3 refine gQ rfl rfl rfl rfl ?_
 refine gQ rfl rfl (kET rfl rfl) rfl ?_;iterate 3 refine gQ rfl rfl rfl rfl ?_
 refine gQ rfl rfl (kET rfl rfl) rfl ?_;iterate 3 refine gQ rfl rfl rfl rfl ?_
 refine gQ rfl rfl (kET rfl rfl) rfl ?_;iterate 3 refine gQ rfl rfl rfl rfl ?_
 refine gQ rfl rfl (kET rfl rfl) rfl ?_;iterate 3 refine gQ rfl rfl rfl rfl ?_
 refine gQ rfl rfl (kET rfl rfl) rfl ?_;iterate 3 refine gQ rfl rfl rfl rfl ?_
 refine gQ rfl rfl (kET rfl rfl) rfl ?_;iterate 3 refine gQ rfl rfl rfl rfl ?_
 refine gQ rfl rfl (kET rfl rfl) rfl ?_;iterate 3 refine gQ rfl rfl rfl rfl ?_
 refine gQ rfl rfl (kET rfl rfl) rfl ?_;iterate 2 refine gQ rfl rfl rfl rfl ?_
 refine GoE.end rfl ?_;exact gW Tryz.func12 rfl rfl ⟨rfl, e0⟩
end Go.Proofs.YtobhkdgcciolmaaGreat

namespace Go.Proofs.YtobhkdgcciolmaaGreat
open Go Go.AbsE
set_option linter.unusedSimpArgs false
set_option maxRecDepth 100000
set_option maxHeartbeats 0
set_option linter.unusedVariables false
end Go.Proofs.YtobhkdgcciolmaaGreat

namespace Go.Proofs.YtobhkdgcciolmaaGreat
open Go Go.AbsE
set_option linter.unusedSimpArgs false
set_option maxRecDepth 100000
set_option maxHeartbeats 0
set_option linter.unusedVariables false
theorem andNot_bit {a b i : Nat} (ha : a < 2 ^ 64) (hi : i < 64) : (andNot a b).testBit i = (a.testBit i && !b.testBit i) := by
 unfold andNot
 rw [BitVec.testBit_toNat, BitVec.getLsbD_and, BitVec.getLsbD_not, BitVec.getLsbD_ofNat, BitVec.getLsbD_ofNat]
 simp [hi]
end Go.Proofs.YtobhkdgcciolmaaGreat

namespace Go.Proofs.YtobhkdgcciolmaaGreat
open Go Go.AbsE
set_option linter.unusedSimpArgs false
set_option maxRecDepth 100000
set_option maxHeartbeats 0
set_option linter.unusedVariables false
theorem popc_half : ∀ s, s < 1024 → popc s = s % 2 + popc (s / 2) := by decide +kernel
theorem size38_ok (s : Nat) (hs : s < 1024) {h : AH} : Runs Tryz.prog 38 [.int .i64 (s : Nat)] h (fun en h' => en = .ret (.int .i64 (popc s : Nat)) ∧ Ext h h') := by
 have e0 : Ext h h := Ext.refl _
 refine Runs.intro aFunc38 rfl rfl rfl rfl fun rest => ?_;apply gS;refine gR rfl ?_;refine gP ?_;apply gE;apply gS;refine gR rfl ?_;refine gP ?_;apply gE;apply gS;refine Go.block noJ_ok ?_;refine Go.loopKeep (fun a : Nat × Nat => [(0, .int .i64 (a.1 : Nat)), (3, .int .i64 (a.2 : Nat))]) (fun m a h' => a.1 ≤ m ∧ a.1 < 1024 ∧ a.2 + popc a.1 = popc s ∧ Ext h h') (n := s) (s, 0) ⟨rfl, rfl, trivial⟩ ⟨Nat.le_refl _, hs, by simp, e0⟩ ?_;clear e0;rintro m ⟨z, n⟩ h2' ⟨hm, hz, hn, e0⟩ again
 dsimp only at hm hz hn ⊢
 have hp5 := popc_le s
 have hph := popc_half z hz
 by_cases hz0 : 0 < z
 ·have hr : ((z : Nat) : Int).tmod 2 = ((z % 2 : Nat) : Int) := rfl
  have hq : ((z : Nat) : Int).tdiv 2 = ((z / 2 : Nat) : Int) := rfl
  have hsum : ((n : Nat) : Int) + ((z % 2 : Nat) : Int) = ((n + z % 2 : Nat) : Int) := by push_cast; rfl
  have again2 := again (z / 2) (z / 2, n + z % 2)
  dsimp only at again2
  rw [← hsum] at again2
  obtain ⟨zr, hzr⟩ : ∃ zr, ((z % 2 : Nat) : Int) = zr := ⟨_, rfl⟩
  obtain ⟨zq, hzq⟩ : ∃ zq, ((z / 2 : Nat) : Int) = zq := ⟨_, rfl⟩
  rw [hzr] at hr again2;rw [hzq] at hq again2
  have hzr2 : 0 ≤ zr ∧ zr ≤ 1 := by omega
  have hzq2 : 0 ≤ zq ∧ zq ≤ 512 := by omega
  iterate 2 apply gS
  refine gR rfl ?_;refine gP ?_;refine gO rfl rfl (kGT rfl rfl) rfl ?_;apply gE;refine gC (b := true) rfl ?_;refine gD ?_;refine Go.block noJ_ok ?_;refine gR rfl ?_;iterate 2 refine gP ?_
  refine gO rfl rfl (aOp_rem rfl rfl (by decide) hr) rfl ?_;refine gO rfl rfl (aA rfl rfl) rfl ?_;refine gP ?_;refine gO rfl rfl (aOp_quo rfl rfl (by decide) hq (by omega)) rfl ?_;iterate 2 refine gP ?_
  apply gE;refine Go.inBlock noJ_ok ?_;exact again2 _ _ (by omega) ⟨rfl, rfl, trivial⟩ ⟨Nat.le_refl _, by omega, by omega, e0⟩
 ·have hz00 : z = 0 := by omega
  subst hz00
  have hp0 : popc 0 = 0 := by decide
  have hns : n = popc s := by omega
  subst hns;iterate 2 apply gS
  refine gR rfl ?_;refine gP ?_;refine gO rfl rfl (kGF rfl rfl) rfl ?_;apply gE;refine gC (b := false) rfl ?_;refine gD ?_;apply gS;refine gR rfl ?_;iterate 2 refine gP ?_
  apply gE;exact gW Tryz.func38 rfl rfl ⟨rfl, e0⟩
theorem mem_subs {of s : Nat} : s ∈ subs of ↔ s < of + 1 ∧ andNot s of = 0 ∧ popc s < popc of + 1 := by
 unfold subs subA subB goodS
 simp only [List.mem_flatMap, List.mem_range, List.mem_filter, Bool.and_eq_true, decide_eq_true_eq]
 constructor
 ·rintro ⟨j, hj, h1, h2, h3⟩;exact ⟨h1, h2, by omega⟩
 ·rintro ⟨h1, h2, h3⟩;exact ⟨popc s, h3, h1, h2, rfl⟩
theorem subs_pair (of : Nat) : (subs of).Pairwise fun a b => popc a < popc b ∨ (popc a = popc b ∧ a < b) := by
 unfold subs subA
 rw [List.pairwise_flatMap];refine ⟨fun j _ => ?_, List.pairwise_lt_range.imp fun {i j} hij x hx y hy => ?_⟩
 ·unfold subB
  refine (List.Pairwise.filter _ (List.pairwise_lt_range (n := of + 1))).imp_of_mem fun {a b} ha hb hab => ?_
  have h1 := (List.mem_filter.1 ha).2
  have h2 := (List.mem_filter.1 hb).2
  unfold goodS at h1 h2
  simp only [Bool.and_eq_true, decide_eq_true_eq] at h1 h2
  exact .inr ⟨by omega, hab⟩
 ·have h1 := (List.mem_filter.1 hx).2
  have h2 := (List.mem_filter.1 hy).2
  unfold goodS at h1 h2
  simp only [Bool.and_eq_true, decide_eq_true_eq] at h1 h2
  exact .inl (by omega)
theorem subs_first {of q : Nat} {p : Nat → Bool} (h : (subs of).find? p = some q) : q ∈ subs of ∧ p q = true ∧ ∀ s, s ∈ subs of → p s = true → popc q < popc s ∨ (popc q = popc s ∧ q ≤ s) := by
 refine ⟨List.mem_of_find?_eq_some h, List.find?_some h, fun s hs ps => ?_⟩
 obtain ⟨_, aa, bb, hl, has⟩ := List.find?_eq_some_iff_append.1 h
 have hP := subs_pair of
 rw [hl] at hs hP
 rcases List.mem_append.1 hs with q1 | q1
 ·have := has s q1
  rw [ps] at this;cases this
 ·rcases List.mem_cons.1 q1 with q2 | q2
  ·subst q2;exact .inr ⟨rfl, Nat.le_refl _⟩
  ·have := List.rel_of_pairwise_cons (List.pairwise_append.1 hP).2.1 q2
   omega
theorem small_bit {s i : Nat} (hs : s < 1024) (hi : ¬ i < 10) : s.testBit i = false := by
 have : 2 ^ 10 ≤ 2 ^ i := Nat.pow_le_pow_right (by decide) (by omega)
 exact Nat.testBit_lt_two_pow (by omega)
theorem sub_bits {s of : Nat} (hs : s < 1024) (h : ∀ i, i < 10 → s.testBit i = true → of.testBit i = true) : s ≤ of ∧ popc s ≤ popc of ∧ andNot s of = 0 := by
 have hall : ∀ i, s.testBit i = true → of.testBit i = true := fun i hi => by
  by_cases q : i < 10
  ·exact h i q hi
  ·rw [small_bit hs q] at hi;cases hi
 refine ⟨?_, ?_, ?_⟩
 ·have : s &&& of = s := Nat.eq_of_testBit_eq fun i => by
   rw [Nat.testBit_and]
   cases q : s.testBit i with
   | false => rfl
   | true => rw [hall i q]; rfl
  rw [← this]
  exact Nat.and_le_right
 ·unfold popc
  rw [← List.countP_eq_length_filter, ← List.countP_eq_length_filter]
  exact List.countP_mono_left fun i _ hi => hall i hi
 ·refine Nat.eq_of_testBit_eq fun i => ?_;rw [Nat.zero_testBit]
  by_cases q : i < 64
  ·rw [andNot_bit (by omega) q]
   cases q2 : s.testBit i with
   | false => rfl
   | true => rw [hall i q2]; rfl
  ·have h1 := andNot_le s of (by omega)
   exact small_bit (Nat.lt_of_le_of_lt h1 hs) (by omega)
theorem subs_bits {s of : Nat} (hs : s < 1024) (h : ∀ i, i < 10 → s.testBit i = true → of.testBit i = true) : s ∈ subs of := by
 obtain ⟨h1, h2, h3⟩ := sub_bits hs h
 exact mem_subs.2 ⟨by omega, h3, by omega⟩
theorem drop_zero (C : ClampV) : C.drop 0 = C := by
 have : ∀ (L : List EV) k, dropV 0 k L = L := fun L => by
  induction L with
  | nil => intro k; rfl
  | cons x L ih => intro k; unfold dropV; rw [Nat.zero_testBit, ih]; rfl
 unfold ClampV.drop
 rw [this]
theorem popc_less : ∀ s, s < 1024 → ∀ i, i < 10 → s.testBit i = true → popc (andNot s (2 ^ i)) + 1 = popc s := by decide +kernel
theorem andNot_sub {a b i : Nat} (ha : a < 1024) (hi : i < 10) (h : (andNot a b).testBit i = true) : a.testBit i = true := by
 rw [andNot_bit (by omega) (by omega)] at h
 cases w : a.testBit i with
 | true => rfl
 | false => rw [w] at h; cases h
end Go.Proofs.YtobhkdgcciolmaaGreat

namespace Go.AbsE
open Go Go.RowKit
section
variable {P : Program}
theorem HR.openWin {e : Env} {h : AH} {W : World} (r : HR P (Base.all W) e h W) {B lo : Nat} {PRE CS junk : List Value} {el : TypeId} {fr : Nat × Nat} {cs : List AVal} (hB : W.heap[B]? = some (.cells (PRE ++ (CS ++ junk)).toArray el fr)) (hp : PRE.length = lo) (hv : ∀ e, VRs e cs CS) :
  ∃ e' h', Env.le e e' ∧ HR P (Base.all W) e' h' W ∧ Ext h h' ∧ e' h.next = some (B, 0) ∧ Has h' h.next (.win lo cs) := by
 obtain ⟨h', k⟩ := new_some h (.win lo cs)
 obtain ⟨_, x1, x2⟩ := new_ext k
 obtain ⟨n1, n2, n3⟩ := AH.get_new k
 have hle := Env.le_ext (x := (B, 0)) r.fresh
 have hlt := (Array.getElem?_eq_some_iff.1 hB).1
 refine ⟨e.ext h.next (B, 0), h', hle, ?_, x1, Env.ext_same _ _ _, x2⟩
 refine { dom := ?_, blk := ?_, inj := ?_, imm := ?_, os := r.os, tape := r.tape, output := r.output, size := r.size, old := r.old, young := r.young }
 ·intro b' x kx
  rw [Env.ext_at] at kx
  by_cases hb' : b' = h.next
  ·omega
  ·rw [if_neg hb'] at kx; have := r.dom _ _ kx; omega
 ·intro b' o' kx
  rw [n3] at kx
  by_cases hb' : b' = h.next
  ·rw [if_pos hb'] at kx
   cases kx
   subst hb'
   exact ⟨B, 0, _, Env.ext_same _ _ _, (fun q => by cases q), hB, .win (hv _) hp⟩
  ·rw [if_neg hb'] at kx
   obtain ⟨B', c', O', k1, k2, k3, k4⟩ := r.blk _ _ kx
   exact ⟨B', c', O', hle.1 _ _ k1, k2, k3, k4.mono hle⟩
 ·intro b1 b2 B1 c1 c2 o1 o2 k1 k2 hro e1 e2
  rw [n3] at k1 k2
  rw [Env.ext_at] at e1 e2
  by_cases q1 : b1 = h.next
  ·rw [if_pos q1] at k1; cases k1; cases hro
  ·rw [if_neg q1] at k1 e1
   by_cases q2 : b2 = h.next
   ·rw [if_pos q2] at e2
    cases e2
    obtain ⟨B', c', O', j1, j2, _, _⟩ := r.blk _ _ k1
    rw [e1] at j1
    cases j1
    exact absurd hlt (j2 hro)
   ·rw [if_neg q2] at k2 e2
    exact r.inj _ _ _ _ _ _ _ k1 k2 hro e1 e2
 ·intro B1 CS' hi
  obtain ⟨i1, i2⟩ := r.imm B1 CS' hi
  refine ⟨i1, fun b' o' c' kx hro ke => ?_⟩
  rw [n3] at kx
  rw [Env.ext_at] at ke
  by_cases q : b' = h.next
  ·rw [if_pos q] at kx; cases kx; cases hro
  ·rw [if_neg q] at kx ke; exact i2 b' o' c' kx hro ke
end
end Go.AbsE

namespace Go.AbsE
open Go Go.RowKit
section
variable {P : Program}
theorem VRs.kinds {K : Type} {va : K → AVal} {vv : K → Value} (hvr : ∀ e x, VR e (va x) (vv x)) {e : Env} : ∀ l : List K, VRs e (l.map fun x => va x) (l.map fun x => vv x) := by
 intro l
 induction l with
 | nil => exact .nil
 | cons a l ih => exact .cons (hvr _ _) ih
theorem rowsG_eq {K : Type} {vv : K → Value} {C : List Value} {off sz : Nat} : ∀ (len : Nat) (f : Nat → List K), (∀ i, i < len → (f i).length = sz ∧ ∀ k n, (f i)[k]? = some n → C[off + i * sz + k]? = some (vv n)) →
  (C.drop off).take (len * sz) = (((List.range len).map f).flatten).map fun x => vv x := by
 intro len
 induction len with
 | zero => intro f _; simp
 | succ len ih =>
  intro f hf
  have h1 := ih f fun i hi => hf i (by omega)
  obtain ⟨l1, l2⟩ := hf len (by omega)
  rw [Nat.add_mul, Nat.one_mul, List.take_add, h1, List.range_succ, List.map_append, List.flatten_append, List.map_append]
  congr 1
  simp only [List.map_cons, List.map_nil, List.flatten_cons, List.flatten_nil, List.append_nil]
  rw [List.drop_drop]
  refine List.ext_getElem? fun k => ?_
  rw [List.getElem?_take, List.getElem?_drop, List.getElem?_map]
  by_cases hk : k < sz
  ·rw [if_pos hk]
   obtain ⟨n, hn⟩ : ∃ n, (f len)[k]? = some n := ⟨(f len)[k]'(by omega), by simp⟩
   rw [hn]
   exact l2 k n hn
  ·rw [if_neg hk]
   have : (f len)[k]? = none := by simp; omega
   rw [this]
   rfl
end
end Go.AbsE

namespace Go.AbsE
open Go Go.RowKit
section
variable {P : Program}
theorem HR.openRowsC {K : Type} (va : K → AVal) (vv : K → Value) (hvr : ∀ e x, VR e (va x) (vv x)) {e : Env} {h : AH} {W : World} (r : HR P (Base.all W) e h W) {a : Addr} {len cap sz : Nat} {C : Array Value} {el : TypeId} {fr : Nat × Nat} (hB : W.heap[a.block]? = some (.cells C el fr)) (hspot : a.spot = none) (f : Nat → List K)
  (hf : ∀ i, i < len → (f i).length = sz ∧ ∀ k n, (f i)[k]? = some n → W.cell? (a.add (i * sz + k)) = some (vv n)) :
  ∃ e' h' s, Env.le e e' ∧ HR P (Base.all W) e' h' W ∧ Ext h h' ∧ VR e' s (.slice (some a) len cap) ∧ SliceOf h' sz s (((List.range len).map f).map fun l => l.map fun x => va x) ∧ sameA s s = true ∧ ∃ b o, s = .slice b o len cap := by
 obtain ⟨B, off, spot⟩ := a
 dsimp only at hB hspot
 subst hspot
 have hcell : ∀ i, i < len → (f i).length = sz ∧ ∀ k n, (f i)[k]? = some n → C.toList[off + i * sz + k]? = some (vv n) := fun i hi => by
  obtain ⟨h1, h2⟩ := hf i hi
  refine ⟨h1, fun k n hn => ?_⟩
  have := h2 k n hn
  have e1 := addr_add B off (i * sz + k)
  rw [e1] at this
  unfold World.cell? at this
  rw [hB] at this
  simp only [Option.isSome_none, Bool.false_eq_true, if_false] at this
  rw [Array.getElem?_toList, Nat.add_assoc]
  exact this
 have hrows := rowsG_eq len f hcell
 let R := (List.range len).map f
 have hRl : ∀ l, l ∈ R → l.length = sz := fun l hl => by
  obtain ⟨i, hi, rfl⟩ := List.mem_map.1 hl
  exact (hf i (List.mem_range.1 hi)).1
 have hRlen : R.length = len := by simp [R]
 have hlen : (C.toList.drop off).take (len * sz) = (R.flatten).map fun x => vv x := hrows
 have hfl : R.flatten.length = len * sz := by
  have : ∀ {L : List (List K)}, (∀ l, l ∈ L → l.length = sz) → L.flatten.length = L.length * sz := by
   intro L
   induction L with
   | nil => intro _; simp
   | cons a L ih => intro h; simp only [List.flatten_cons, List.length_append, h a (by simp), ih fun l q => h l (by simp [q]), List.length_cons, Nat.add_mul]; omega
  rw [this hRl, hRlen]
 by_cases h0 : len * sz = 0
 ·-- nothing of it is read
  obtain ⟨e', h', k1, k2, k3, k4, k5⟩ := r.openWin (B := B) (lo := 0) (PRE := []) (CS := []) (junk := C.toList) (el := el) (fr := fr) (cs := []) (by simpa using hB) rfl (fun _ => .nil)
  refine ⟨e', h', .slice h.next off len cap, k1, k2, k3, .slice k4, .mk rfl rfl k5.1 (by simp) (fun l hl => ?_) ?_, by simp [sameA], _, _, rfl⟩
  ·obtain ⟨x, hx, rfl⟩ := List.mem_map.1 hl
   rw [List.length_map]
   exact hRl x hx
  ·have hnil : R.flatten = [] := List.eq_nil_of_length_eq_zero (by omega)
   unfold loadCells
   rw [k5.2]
   have e1 : ((R.map fun l => l.map fun x => va x).length * sz) = 0 := by rw [List.length_map, hRlen]; exact h0
   have e2 : (R.map fun l => l.map fun x => va x).flatten = [] := by rw [← List.map_flatten, hnil]; rfl
   show cond (Nat.ble 0 off) (slice? [] (off - 0) ((R.map fun l => l.map fun x => va x).length * sz)) none = some _
   rw [e1, e2, show Nat.ble 0 off = true from Nat.ble_eq_true_of_le (Nat.zero_le _)]
   simp [slice?]
 ·have hle : off + len * sz ≤ C.toList.length := by
   have : ((C.toList.drop off).take (len * sz)).length = len * sz := by rw [hlen, List.length_map, hfl]
   rw [List.length_take, List.length_drop] at this
   omega
  have hC : C = (C.toList.take off ++ ((R.flatten.map fun x => vv x) ++ C.toList.drop (off + len * sz))).toArray := by
   rw [← hlen]
   have : C.toList.take off ++ ((C.toList.drop off).take (len * sz) ++ C.toList.drop (off + len * sz)) = C.toList := by
    rw [← List.drop_drop, List.take_append_drop, List.take_append_drop]
   rw [this]
  obtain ⟨e', h', k1, k2, k3, k4, k5⟩ := r.openWin (B := B) (lo := off) (PRE := C.toList.take off) (CS := R.flatten.map fun x => vv x) (junk := C.toList.drop (off + len * sz)) (el := el) (fr := fr) (cs := R.flatten.map fun x => va x) (by rw [← hC]; exact hB) (by rw [List.length_take]; omega) (fun _ => VRs.kinds hvr _)
  refine ⟨e', h', .slice h.next off len cap, k1, k2, k3, .slice k4, .mk rfl rfl k5.1 (by simp) (fun l hl => ?_) ?_, by simp [sameA], _, _, rfl⟩
  ·obtain ⟨x, hx, rfl⟩ := List.mem_map.1 hl
   rw [List.length_map]
   exact hRl x hx
  ·unfold loadCells
   rw [k5.2]
   have e1 : ((R.map fun l => l.map fun x => va x).length * sz) = len * sz := by rw [List.length_map, hRlen]
   have e2 : (R.map fun l => l.map fun x => va x).flatten = R.flatten.map fun x => va x := by rw [← List.map_flatten]
   show cond (Nat.ble off off) (slice? (R.flatten.map fun x => va x) (off - off) ((R.map fun l => l.map fun x => va x).length * sz)) none = some _
   rw [e1, e2, show Nat.ble off off = true from Nat.ble_eq_true_of_le (Nat.le_refl _), Nat.sub_self]
   exact slice_all (by rw [List.length_map, hfl])
end
end Go.AbsE

namespace Go.AbsE
open Go
set_option linter.unusedSimpArgs false
set_option linter.unusedVariables false
section
variable {P : Program} {h : AH} {dst : Option Tmp} {ty tt el : TypeId} {pos : String} {after : Array Edge} {guard : Option (Nat × Bool)} {x y : Operand}
def CutS (s : AVal) (n : Nat) : Prop := n ≠ 0 → ∃ b off cap, s = .slice b off n cap ∧ n ≤ cap
theorem SliceOf.take {sz b off n cap cap' i : Nat} {L : List (List AVal)} (k : SliceOf h sz (.slice b off n cap) L) (hL : L.length = n) (hi : i ≤ n) : SliceOf h sz (.slice b off i cap') (L.take i) := by
 cases k with
 | mk hs hn hb hl hz hc =>
  rw [show aSlElems (.slice b off n cap) = some (b, off, n) from rfl] at hs
  cases hs
  have hlen : (L.take i).length = i := by rw [List.length_take]; omega
  refine .mk (b := b) (off := off) (len := i) rfl rfl hb hlen (fun l hl => hz l (List.mem_of_mem_take hl)) ?_
  have hp := loadCells_part (k := 0) (m := i * sz) hc (by rw [Nat.zero_add]; exact Nat.mul_le_mul_right _ (by omega))
  rw [Nat.add_zero] at hp
  rw [hlen, hp]
  congr 1
  have e1 : (L.take i).flatten.length = i * sz := by
   rw [flatten_len (sz := sz) (fun l hl => hz l (List.mem_of_mem_take hl)), hlen]
  have e3 : L.flatten = (L.take i).flatten ++ (L.drop i).flatten := by rw [← List.flatten_append, List.take_append_drop]
  rw [List.drop_zero, e3, ← e1, List.take_left]
end
end Go.AbsE

namespace Go.Proofs.YtobhkdgcciolmaaGreat
open Go Go.AbsE Go.ChangeShapes Go.WideShapes Go.ChangeAt Go.RowKit
set_option linter.unusedSimpArgs false
set_option maxRecDepth 100000
set_option linter.unusedVariables false
theorem cells27 : Tryz.prog.cellsOf 27 = 4 := by kernel_rfl
theorem cells3 : Tryz.prog.cellsOf 3 = 1 := by kernel_rfl
theorem cells24 : Tryz.prog.cellsOf 24 = 2 := by kernel_rfl
theorem cells58 : Tryz.prog.cellsOf 58 = 6 := by kernel_rfl
theorem cells53 : Tryz.prog.cellsOf 53 = 4 := by kernel_rfl
theorem cells22 : Tryz.prog.cellsOf 22 = 1 := by kernel_rfl
theorem cells25 : Tryz.prog.cellsOf 25 = 1 := by kernel_rfl
theorem ctypes27 : Tryz.prog.cellTypes Tryz.prog.depth 27 = some [22, 3, 3, 25] := by kernel_rfl
theorem laidOut : laidOutB Tryz.prog = true := by kernel_rfl
def inI64 (n : Int) : Prop := -9223372036854775808 ≤ n ∧ n ≤ 9223372036854775807
theorem wf_in {n : Int} (h : (Lit.int .i64 n).wf = true) : inI64 n := by
 simp only [Lit.wf, Bool.and_eq_true, decide_eq_true_eq] at h
 have h1 : IntKind.i64.min = -9223372036854775808 := by decide
 have h2 : IntKind.i64.max = 9223372036854775807 := by decide
 rw [h1, h2] at h
 constructor <;> omega
variable {H : Type} {enc : TypeId × Value → H} {W : World} {base : Nat} {spare : Nat → Bool} {held : Bool}
theorem int_row {n : Nat} {cs : List Value} {x : DataW H × List MemPlace} (h : DataW.trod enc Tryz.prog W base spare held n 3 cs = some x) : ∃ a : Int, cs = [.int .i64 a] ∧ inI64 a := by
 obtain ⟨a, h1, _, h3⟩ := DataW.trod_int Tryz.underlying3 h
 exact ⟨a, h1, wf_in h3⟩
theorem span_row {n : Nat} {cs : List Value} {x : DataW H × List MemPlace} (h : DataW.trod enc Tryz.prog W base spare held n 24 cs = some x) : ∃ a b : Int, cs = [.int .i64 a, .int .i64 b] := by
 obtain ⟨y0, y1, k, _, hl, h0, h1⟩ := ChangeShapes.trod_struct2 Tryz.underlying24 h
 rw [cells24] at hl
 dsimp only at h0 h1
 rw [cells3] at h0 h1
 obtain ⟨a, ha, _⟩ := int_row h0
 obtain ⟨b, hb, _⟩ := int_row h1
 match cs, hl with
 | [c0, c1], _ =>
  simp at ha hb
  exact ⟨a, b, by rw [ha, hb]⟩
theorem list3 {α : Type} {l : List α} (h : l.length = 3) : ∃ c0 c1 c2, l = [c0, c1, c2] := by
 match l, h with
 | [c0, c1, c2], _ => exact ⟨c0, c1, c2, rfl⟩
theorem list4 {α : Type} {l : List α} (h : l.length = 4) : ∃ c0 c1 c2 c3, l = [c0, c1, c2, c3] := by
 match l, h with
 | [c0, c1, c2, c3], _ => exact ⟨c0, c1, c2, c3, rfl⟩
theorem list6 {α : Type} {l : List α} (h : l.length = 6) : ∃ c0 c1 c2 c3 c4 c5, l = [c0, c1, c2, c3, c4, c5] := by
 match l, h with
 | [c0, c1, c2, c3, c4, c5], _ => exact ⟨c0, c1, c2, c3, c4, c5, rfl⟩
theorem pile_row {n : Nat} {cs : List Value} {x : DataW H × List MemPlace} (h : DataW.trod enc Tryz.prog W base spare held n 58 cs = some x) : ∃ r : List Int, r.length = 6 ∧ cs = r.map fun x => Value.int .i64 x := by
 obtain ⟨xs, m, _, _, hl, hlen, hfl⟩ := DataW.trod_struct Tryz.underlying58 h
 rw [cells58] at hl
 obtain ⟨c0, c1, c2, c3, c4, c5, rfl⟩ := list6 hl
 obtain ⟨y0, y1, y2, rfl⟩ := list3 hlen
 have t0 : DataW.trod enc Tryz.prog W base spare held m 24 [c0, c1] = some y0 := by
  have this : DataW.trod enc Tryz.prog W base spare held m 24 (([c0, c1, c2, c3, c4, c5].drop 0).take (Tryz.prog.cellsOf 24)) = [y0, y1, y2][0]? := hfl 0 _ rfl
  rw [cells24] at this;exact this
 have t1 : DataW.trod enc Tryz.prog W base spare held m 24 [c2, c3] = some y1 := by
  have this : DataW.trod enc Tryz.prog W base spare held m 24 (([c0, c1, c2, c3, c4, c5].drop 2).take (Tryz.prog.cellsOf 24)) = [y0, y1, y2][1]? := hfl 1 _ rfl
  rw [cells24] at this;exact this
 have t2 : DataW.trod enc Tryz.prog W base spare held m 24 [c4, c5] = some y2 := by
  have this : DataW.trod enc Tryz.prog W base spare held m 24 (([c0, c1, c2, c3, c4, c5].drop 4).take (Tryz.prog.cellsOf 24)) = [y0, y1, y2][2]? := hfl 2 _ rfl
  rw [cells24] at this;exact this
 obtain ⟨a0, a1, e0⟩ := span_row t0
 obtain ⟨a2, a3, e1⟩ := span_row t1
 obtain ⟨a4, a5, e2⟩ := span_row t2
 simp at e0 e1 e2
 exact ⟨[a0, a1, a2, a3, a4, a5], rfl, by rw [e0.1, e0.2, e1.1, e1.2, e2.1, e2.2]; rfl⟩
theorem ev_row {n : Nat} {cs : List Value} {x : DataW H × List MemPlace} (h : DataW.trod enc Tryz.prog W base spare held n 53 cs = some x) : ∃ r : List Int, r.length = 4 ∧ cs = r.map fun x => Value.int .i64 x := by
 obtain ⟨xs, m, _, _, hl, hlen, hfl⟩ := DataW.trod_struct Tryz.underlying53 h
 rw [cells53] at hl
 obtain ⟨c0, c1, c2, c3, rfl⟩ := list4 hl
 obtain ⟨y0, y1, y2, rfl⟩ := list3 hlen
 have t0 : DataW.trod enc Tryz.prog W base spare held m 3 [c0] = some y0 := by
  have this : DataW.trod enc Tryz.prog W base spare held m 3 (([c0, c1, c2, c3].drop 0).take (Tryz.prog.cellsOf 3)) = [y0, y1, y2][0]? := hfl 0 _ rfl
  rw [cells3] at this;exact this
 have t1 : DataW.trod enc Tryz.prog W base spare held m 3 [c1] = some y1 := by
  have this : DataW.trod enc Tryz.prog W base spare held m 3 (([c0, c1, c2, c3].drop 1).take (Tryz.prog.cellsOf 3)) = [y0, y1, y2][1]? := hfl 1 _ rfl
  rw [cells3] at this;exact this
 have t2 : DataW.trod enc Tryz.prog W base spare held m 24 [c2, c3] = some y2 := by
  have this : DataW.trod enc Tryz.prog W base spare held m 24 (([c0, c1, c2, c3].drop 2).take (Tryz.prog.cellsOf 24)) = [y0, y1, y2][2]? := hfl 2 _ rfl
  rw [cells24] at this;exact this
 obtain ⟨a0, e0, _⟩ := int_row t0
 obtain ⟨a1, e1, _⟩ := int_row t1
 obtain ⟨a2, a3, e2⟩ := span_row t2
 simp at e0 e1 e2
 exact ⟨[a0, a1, a2, a3], rfl, by rw [e0, e1, e2.1, e2.2]; rfl⟩
theorem slice_okw {t el : TypeId} {a : Addr} {len cap : Nat} {bs : Nat} (ht : Tryz.prog.underlying t = some (.slice el)) (h : Cell.okWide Tryz.prog W .any bs t (.slice (some a) len cap)) : a.spot = none ∧ ∃ C e fr, W.heap[a.block]? = some (.cells C e fr) := by
 unfold Cell.okWide at h
 rw [ht] at h
 dsimp only at h
 unfold Cell.ok at h
 rw [ht] at h
 dsimp only at h
 obtain ⟨_, _, _, h2, row, n, h3, _⟩ := h
 refine ⟨h2, ?_⟩
 unfold World.shape? at h3
 split at h3
 ·rename_i c e fr hq
  exact ⟨c, e, fr, hq⟩
 ·cases h3
theorem slice_cap {t el : TypeId} {a : Addr} {len cap : Nat} {bs : Nat} (ht : Tryz.prog.underlying t = some (.slice el)) (h : Cell.okWide Tryz.prog W .any bs t (.slice (some a) len cap)) : len < 9223372036854775808 := by
 unfold Cell.okWide at h
 rw [ht] at h
 dsimp only at h
 unfold Cell.ok at h
 rw [ht] at h
 dsimp only at h
 obtain ⟨h1, h2, _⟩ := h
 have : IntKind.i64.max = 9223372036854775807 := by decide
 rw [this] at h2
 omega
theorem slice_le {t el : TypeId} {a : Addr} {len cap : Nat} {bs : Nat} (ht : Tryz.prog.underlying t = some (.slice el)) (h : Cell.okWide Tryz.prog W .any bs t (.slice (some a) len cap)) : len ≤ cap := by
 unfold Cell.okWide at h
 rw [ht] at h
 dsimp only at h
 unfold Cell.ok at h
 rw [ht] at h
 dsimp only at h
 exact h.1
theorem rows_of {t el : TypeId} {sz fuel : Nat} {c : Value} {y : DataW H × List MemPlace} {bs : Nat} (ht : Tryz.prog.underlying t = some (.slice el)) (hsz : Tryz.prog.cellsOf el = sz)
  (hrow : ∀ {n : Nat} {cs : List Value} {x : DataW H × List MemPlace}, DataW.trod enc Tryz.prog W 0 (fun _ => true) true n el cs = some x → ∃ r : List Int, r.length = sz ∧ cs = r.map fun x => Value.int .i64 x)
  (h : DataW.trod enc Tryz.prog W 0 (fun _ => true) true fuel t [c] = some y) (hok : Cell.okWide Tryz.prog W .any bs t c) {e : Env} {hh : AH} (r : HR Tryz.prog (Base.all W) e hh W) :
  ∃ e' h' s, ∃ R : List (List Int), Env.le e e' ∧ HR Tryz.prog (Base.all W) e' h' W ∧ Ext hh h' ∧ VR e' s c ∧ (∀ l, l ∈ R → l.length = sz) ∧ SliceOf h' sz s (R.map fun l => l.map fun x => AVal.int .i64 x) ∧ R.length < 9223372036854775808 ∧ CutS s R.length := by
 rcases Deep.open_slice ht h with ⟨hcs, _⟩ | ⟨a, len, cap, m, n, D, Pl, hcs, _, hl, _, hmm, _, hx⟩
 ·simp at hcs
  subst hcs;exact ⟨e, hh, .nilslice, [], Env.le_refl e, r, Ext.refl _, .nilslice, (fun _ q => by cases q), .nil, by decide, fun q => absurd rfl q⟩
 ·simp at hcs
  subst hcs
  obtain ⟨hs, C, el', fr, hB⟩ := slice_okw ht hok
  have hcap := slice_cap ht hok
  have hle := slice_le ht hok
  have hm : m = cap := by simpa using hmm
  have each : ∀ i, ∃ rr : List Int, i < len → rr.length = sz ∧ ∀ k n, rr[k]? = some n → W.cell? (a.add (i * sz + k)) = some (.int .i64 n) := by
   intro i
   by_cases hi : i < len
   ·obtain ⟨cs', h1, h2⟩ := hx i (by omega)
    obtain ⟨rr, hr1, hr2⟩ := hrow h2
    rw [hsz] at h1
    obtain ⟨_, hlen, hc⟩ := World.cells?_some h1
    refine ⟨rr, fun _ => ⟨hr1, fun k n hk => ?_⟩⟩
    have hkl := (List.getElem?_eq_some_iff.1 hk).1
    have := hc k (by omega)
    obtain ⟨B, off, spot⟩ := a
    dsimp only at hs
    subst hs;rw [addr_add, addr_add] at this;rw [addr_add, ← Nat.add_assoc, this, hr2, List.getElem?_map, hk]
    rfl
   ·exact ⟨[], fun q => absurd q hi⟩
  obtain ⟨f, hf⟩ := Classical.axiomOfChoice each
  obtain ⟨e', h', s, k1, k2, k3, k4, k5, _, b, o, rfl⟩ := r.openRowsC (fun x => AVal.int .i64 x) (fun x => Value.int .i64 x) (fun _ _ => .int _ _) (cap := cap) (len := len) (sz := sz) hB hs f hf
  exact ⟨e', h', _, (List.range len).map f, k1, k2, k3, k4, fun l hl => by
   obtain ⟨i, hi, rfl⟩ := List.mem_map.1 hl
   exact (hf i (List.mem_range.1 hi)).1, k5, by rw [List.length_map, List.length_range]; exact hcap, fun _ => ⟨b, o, cap, by rw [List.length_map, List.length_range], by rw [List.length_map, List.length_range]; exact hle⟩⟩
def toP : List Int → PV
 | [a, b, c, d, e, f] => ⟨a, b, c, d, e, f⟩
 | _ => ⟨0, 0, 0, 0, 0, 0⟩
def toE : List Int → EV
 | [a, b, c, d] => ⟨a, b, c, d⟩
 | _ => ⟨0, 0, 0, 0⟩
theorem ps_eq {R : List (List Int)} (h : ∀ l, l ∈ R → l.length = 6) : (R.map fun l => l.map fun x => AVal.int .i64 x) = (R.map toP).map PV.cells := by
 rw [List.map_map];refine List.map_congr_left fun l hl => ?_
 match l, h l hl with
 | [a, b, c, d, e, f], _ => rfl
theorem es_eq {R : List (List Int)} (h : ∀ l, l ∈ R → l.length = 4) : (R.map fun l => l.map fun x => AVal.int .i64 x) = (R.map toE).map EV.cells := by
 rw [List.map_map];refine List.map_congr_left fun l hl => ?_
 match l, h l hl with
 | [a, b, c, d], _ => rfl
theorem array4 {α : Type} {cs : Array α} (h : cs.size = 4) : ∃ c0 c1 c2 c3, cs = #[c0, c1, c2, c3] := by
 obtain ⟨l⟩ := cs
 match l, h with
 | [c0, c1, c2, c3], _ => exact ⟨c0, c1, c2, c3, rfl⟩
theorem clamp_of {bs : Nat} {v : Value} {d : DataW H} {p : List MemPlace} (hv : Value.okWide Tryz.prog W .any bs 27 v) (h : DataW.Trod enc Tryz.prog W 0 (fun _ => true) true 27 v d p) {e : Env} {hh : AH} (r : HR Tryz.prog (Base.all W) e hh W) :
  ∃ e' h' C sp se, Env.le e e' ∧ HR Tryz.prog (Base.all W) e' h' W ∧ Ext hh h' ∧ VR e' (.agg (C.cells sp se)) v ∧ ClampAt h' C sp se ∧ C.ps.length < 9223372036854775808 ∧ C.es.length < 9223372036854775808 ∧ CutS se C.es.length := by
 have hv2 := hv
 obtain ⟨cs, rfl, hsz⟩ := okWide_struct Tryz.underlying27 hv
 obtain ⟨c0, c1, c2, c3, rfl⟩ := array4 (hsz.trans cells27)
 obtain ⟨fuel, hf⟩ := h
 obtain ⟨xs, n, _, _, hl, hlen, hfl⟩ := DataW.trod_struct Tryz.underlying27 hf
 obtain ⟨y0, y1, y2, rfl⟩ := list3 hlen
 have t0 : DataW.trod enc Tryz.prog W 0 (fun _ => true) true n 22 [c0] = some y0 := by
  have this : DataW.trod enc Tryz.prog W 0 (fun _ => true) true n 22 (([c0, c1, c2, c3].drop 0).take (Tryz.prog.cellsOf 22)) = [y0, y1, y2][0]? := hfl 0 _ rfl
  rw [cells22] at this;exact this
 have t1 : DataW.trod enc Tryz.prog W 0 (fun _ => true) true n 24 [c1, c2] = some y1 := by
  have this : DataW.trod enc Tryz.prog W 0 (fun _ => true) true n 24 (([c0, c1, c2, c3].drop 1).take (Tryz.prog.cellsOf 24)) = [y0, y1, y2][1]? := hfl 1 _ rfl
  rw [cells24] at this;exact this
 have t2 : DataW.trod enc Tryz.prog W 0 (fun _ => true) true n 25 [c3] = some y2 := by
  have this : DataW.trod enc Tryz.prog W 0 (fun _ => true) true n 25 (([c0, c1, c2, c3].drop 3).take (Tryz.prog.cellsOf 25)) = [y0, y1, y2][2]? := hfl 2 _ rfl
  rw [cells25] at this;exact this
 unfold Value.okWide at hv2
 rw [Tryz.underlying27] at hv2
 obtain ⟨cs, hcs, _, ts, hts, _, hrow⟩ := hv2
 injection hcs with hcs
 subst hcs;rw [ctypes27] at hts;cases hts
 obtain ⟨u0, hu0, ok0⟩ := hrow 0 c0 rfl
 obtain ⟨u3, hu3, ok3⟩ := hrow 3 c3 rfl
 cases hu0;cases hu3
 obtain ⟨n1, n2, e1⟩ := span_row t1
 simp at e1
 obtain ⟨rfl, rfl⟩ := e1
 obtain ⟨ea, ha, s0, R0, a1, a2, a3, a4, a5, a6, a7, a8⟩ := rows_of Tryz.underlying22 cells58 pile_row t0 ok0 r
 obtain ⟨eb, hb, s1, R1, b1, b2, b3, b4, b5, b6, b7, b8⟩ := rows_of Tryz.underlying25 cells53 ev_row t2 ok3 a2
 rw [ps_eq a5] at a6;rw [es_eq b5] at b6;refine ⟨eb, hb, ⟨R0.map toP, n1, n2, R1.map toE⟩, s0, s1, Env.le_trans a1 b1, b2, a3.trans b3, ?_, ⟨a6.ext b3, b6⟩, by simpa using a7, by simpa using b7, by show CutS s1 (R1.map toE).length; rw [List.length_map]; exact b8⟩;exact .agg (CS := [_, _, _, _]) (.cons (a4.mono b1) (.cons (.int _ _) (.cons (.int _ _) (.cons b4 .nil))))
end Go.Proofs.YtobhkdgcciolmaaGreat

namespace Go.Proofs.YtobhkdgcciolmaaGreat
open Go Go.AbsE
set_option linter.unusedSimpArgs false
set_option maxRecDepth 100000
set_option maxHeartbeats 0
set_option linter.unusedVariables false
theorem hasR_is {C : ClampV} (O : C.Ok) {i : Nat} (hi : i < C.ps.length) : C.hasR (i : Nat) = C.tr (C.left i) zSp := by
 unfold ClampV.hasR
 rw [ClampV.ok_yes O, ClampV.clamp_yes (by omega), Int.toNat_natCast]
theorem allR_is {C : ClampV} (O : C.Ok) : C.allR = C.tr (C.total C.all) zSp := by
 unfold ClampV.allR
 rw [ClampV.ok_yes O]
end Go.Proofs.YtobhkdgcciolmaaGreat

namespace Go.Proofs.YtobhkdgcciolmaaGreat
open Go Go.AbsE
set_option linter.unusedSimpArgs false
set_option maxRecDepth 100000
set_option maxHeartbeats 0
set_option linter.unusedVariables false
def sumTo (f : Nat → Int) : Nat → Int
 | 0 => 0
 | n + 1 => sumTo f n + f n
theorem aft_first {C : ClampV} {b b' : BT} {i : Nat} (h : firstV b i = firstV b' i) : C.aft b i = C.aft b' i := by
 unfold ClampV.aft
 rw [h]
theorem aft_out {C : ClampV} {b : BT} {i : Nat} (h : ¬ i < C.ps.length) : C.aft b i = (0, 0) := by
 unfold ClampV.aft
 rw [if_neg h]
theorem stock_is (C : ClampV) (b : BT) : C.stock b = [C.aft b 0, C.aft b 1, C.aft b 2, C.aft b 3] := rfl
theorem sumB_all {C : ClampV} (O : C.Ok) (b : BT) : C.sumB C.all b = (sumTo (fun i => (C.aft b i).1) C.ps.length, sumTo (fun i => (C.aft b i).2) C.ps.length) := by
 have hn := O.np
 unfold ClampV.sumB ClampV.all
 rw [stock_is]
 obtain ⟨n, e⟩ : ∃ n, C.ps.length = n := ⟨_, rfl⟩
 rw [e] at hn ⊢
 rcases (by omega : n = 1 ∨ n = 2 ∨ n = 3 ∨ n = 4) with rfl | rfl | rfl | rfl
 ·show ((C.aft b 0).1 + 0, (C.aft b 0).2 + 0) = (0 + (C.aft b 0).1, 0 + (C.aft b 0).2)
  ext <;> dsimp only <;> omega
 ·show ((C.aft b 0).1 + ((C.aft b 1).1 + 0), (C.aft b 0).2 + ((C.aft b 1).2 + 0)) = (0 + (C.aft b 0).1 + (C.aft b 1).1, 0 + (C.aft b 0).2 + (C.aft b 1).2)
  ext <;> dsimp only <;> omega
 ·show ((C.aft b 0).1 + ((C.aft b 1).1 + ((C.aft b 2).1 + 0)), (C.aft b 0).2 + ((C.aft b 1).2 + ((C.aft b 2).2 + 0))) = (0 + (C.aft b 0).1 + (C.aft b 1).1 + (C.aft b 2).1, 0 + (C.aft b 0).2 + (C.aft b 1).2 + (C.aft b 2).2)
  ext <;> dsimp only <;> omega
 ·show ((C.aft b 0).1 + ((C.aft b 1).1 + ((C.aft b 2).1 + ((C.aft b 3).1 + 0))), (C.aft b 0).2 + ((C.aft b 1).2 + ((C.aft b 2).2 + ((C.aft b 3).2 + 0)))) = (0 + (C.aft b 0).1 + (C.aft b 1).1 + (C.aft b 2).1 + (C.aft b 3).1, 0 + (C.aft b 0).2 + (C.aft b 1).2 + (C.aft b 2).2 + (C.aft b 3).2)
  ext <;> dsimp only <;> omega
theorem aft_in3 {C : ClampV} (O : C.Ok) {b : BT} (hb : b ∈ C.builds) (i : Nat) : 0 ≤ (C.aft b i).1 ∧ (C.aft b i).1 ≤ (C.aft b i).2 ∧ (C.aft b i).2 ≤ 5000 := by
 by_cases hi : i < C.ps.length
 ·have := aft_is O hb hi
  omega
 ·rw [aft_out hi]
  decide
theorem pick_le {s : Nat} {a b c d : Int × Int} (ha : 0 ≤ a.1 ∧ a.1 ≤ a.2 ∧ a.2 ≤ 5000) (hb : 0 ≤ b.1 ∧ b.1 ≤ b.2 ∧ b.2 ≤ 5000) (hc : 0 ≤ c.1 ∧ c.1 ≤ c.2 ∧ c.2 ≤ 5000) (hd : 0 ≤ d.1 ∧ d.1 ≤ d.2 ∧ d.2 ≤ 5000) :
  0 ≤ (sumIn s 0 [a, b, c, d]).1 ∧ (sumIn s 0 [a, b, c, d]).1 ≤ (sumIn s 0 [a, b, c, d]).2 ∧ (sumIn s 0 [a, b, c, d]).2 ≤ 20000 ∧ (sumIn s 0 [a, b, c, d]).1 ≤ a.1 + b.1 + c.1 + d.1 := by
 unfold sumIn sumIn sumIn sumIn sumIn plusV
 cases s.testBit 0 <;> cases s.testBit (0 + 1) <;> cases s.testBit (0 + 1 + 1) <;> cases s.testBit (0 + 1 + 1 + 1) <;> simp only [if_true, if_false, Bool.false_eq_true, reduceCtorEq] <;> omega
theorem sum4 {C : ClampV} (O : C.Ok) (b : BT) : sumTo (fun i => (C.aft b i).1) C.ps.length = (C.aft b 0).1 + (C.aft b 1).1 + (C.aft b 2).1 + (C.aft b 3).1 := by
 have hn := O.np
 have ho := fun i => aft_out (C := C) (b := b) (i := i)
 obtain ⟨n, e⟩ : ∃ n, C.ps.length = n := ⟨_, rfl⟩
 rw [e] at hn ho ⊢
 rcases (by omega : n = 1 ∨ n = 2 ∨ n = 3 ∨ n = 4) with rfl | rfl | rfl | rfl
 ·rw [ho 1 (by decide), ho 2 (by decide), ho 3 (by decide)]
  show 0 + (C.aft b 0).1 = (C.aft b 0).1 + 0 + 0 + 0
  omega
 ·rw [ho 2 (by decide), ho 3 (by decide)]
  show 0 + (C.aft b 0).1 + (C.aft b 1).1 = (C.aft b 0).1 + (C.aft b 1).1 + 0 + 0
  omega
 ·rw [ho 3 (by decide)]
  show 0 + (C.aft b 0).1 + (C.aft b 1).1 + (C.aft b 2).1 = (C.aft b 0).1 + (C.aft b 1).1 + (C.aft b 2).1 + 0
  omega
 ·show 0 + (C.aft b 0).1 + (C.aft b 1).1 + (C.aft b 2).1 + (C.aft b 3).1 = (C.aft b 0).1 + (C.aft b 1).1 + (C.aft b 2).1 + (C.aft b 3).1
  omega
theorem sumB_in {C : ClampV} (O : C.Ok) {b : BT} (hb : b ∈ C.builds) (s : Nat) : 0 ≤ (C.sumB s b).1 ∧ (C.sumB s b).1 ≤ (C.sumB s b).2 ∧ (C.sumB s b).2 ≤ 20000 ∧ (C.sumB s b).1 ≤ (C.sumB C.all b).1 := by
 have h := pick_le (s := s) (aft_in3 O hb 0) (aft_in3 O hb 1) (aft_in3 O hb 2) (aft_in3 O hb 3)
 rw [sumB_all O b]
 dsimp only
 rw [sum4 O b]
 unfold ClampV.sumB
 rw [stock_is];exact h
theorem total_ex {C : ClampV} (O : C.Ok) (hp : C.possible = true) (s : Nat) : (∃ b, b ∈ C.builds ∧ (C.total s).1 = (C.sumB s b).1) ∧ (∃ b, b ∈ C.builds ∧ (C.total s).2 = (C.sumB s b).2) :=
 join_map_ex hp fun b hb => by
  have := sumB_in O hb s
  omega
theorem total_le {C : ClampV} {b : BT} (hb : b ∈ C.builds) (s : Nat) : (C.total s).1 ≤ (C.sumB s b).1 ∧ (C.sumB s b).2 ≤ (C.total s).2 := join_map_le (f := fun b => C.sumB s b) hb
theorem total_in {C : ClampV} (O : C.Ok) (hp : C.possible = true) (s : Nat) : 0 ≤ (C.total s).1 ∧ (C.total s).1 ≤ (C.total s).2 ∧ (C.total s).2 ≤ 20000 ∧ (C.total s).1 ≤ (C.total C.all).1 := by
 obtain ⟨⟨b1, hb1, e1⟩, b2, hb2, e2⟩ := total_ex O hp s
 obtain ⟨⟨b3, hb3, e3⟩, _⟩ := total_ex O hp C.all
 have a1 := sumB_in O hb1 s
 have a2 := sumB_in O hb2 s
 have a3 := sumB_in O hb3 s
 have l1 := total_le hb1 s
 have l3 := total_le hb3 s
 omega
theorem left_ex {C : ClampV} (O : C.Ok) (hp : C.possible = true) (i : Nat) : (∃ b, b ∈ C.builds ∧ (C.left i).1 = (C.aft b i).1) ∧ (∃ b, b ∈ C.builds ∧ (C.left i).2 = (C.aft b i).2) :=
 join_map_ex hp fun b hb => by
  have := aft_in3 O hb i
  omega
theorem left_le {C : ClampV} {b : BT} (hb : b ∈ C.builds) (i : Nat) : (C.left i).1 ≤ (C.aft b i).1 ∧ (C.aft b i).2 ≤ (C.left i).2 := join_map_le (f := fun b => C.aft b i) hb
theorem mix {C : ClampV} (O : C.Ok) {k : Int} (g : Nat → BT) (hg : ∀ i, i < C.ps.length → g i ∈ C.builds ∧ (g i).2 = k) (h0 : 0 < C.ps.length) :
  ((List.range C.ps.length).map fun i => (g i).1.getD i 0, k) ∈ C.builds ∧ ∀ i, i < C.ps.length → C.aft ((List.range C.ps.length).map fun i => (g i).1.getD i 0, k) i = C.aft (g i) i := by
 have hf : ∀ i, i < C.ps.length → firstV ((List.range C.ps.length).map fun i => (g i).1.getD i 0, k) i = firstV (g i) i := fun i hi => by
  unfold firstV
  dsimp only
  rw [(hg i hi).2, List.getD_eq_getElem?_getD, List.getElem?_map, List.getElem?_range hi]
  rfl
 refine ⟨(builds_iff O.fine).2 ⟨?_, by rw [List.length_map, List.length_range], fun j p hp => ?_⟩, fun i hi => aft_first (hf i hi)⟩
 ·have := ((builds_iff O.fine).1 (hg 0 h0).1).1
  rw [(hg 0 h0).2] at this
  exact this
 ·have hj := (List.getElem?_eq_some_iff.1 hp).1
  obtain ⟨_, _, q⟩ := (builds_iff O.fine).1 (hg j hj).1
  obtain ⟨q1, y, q2, q3⟩ := q j p hp
  refine ⟨?_, y, q2, ?_⟩
  ·rw [List.getD_eq_getElem?_getD, List.getElem?_map, List.getElem?_range hj];exact q1
  ·rw [hf j hj];exact q3
theorem left_in {C : ClampV} (O : C.Ok) (hp : C.possible = true) (i : Nat) : 0 ≤ (C.left i).1 ∧ (C.left i).1 ≤ (C.left i).2 ∧ (C.left i).2 ≤ 5000 := by
 obtain ⟨⟨b1, hb1, e1⟩, b2, hb2, e2⟩ := left_ex O hp i
 have := aft_in3 O hb1 i
 have := aft_in3 O hb2 i
 have := left_le hb1 i
 omega
theorem share_more {C : ClampV} (O : C.Ok) (hp : C.possible = true) {n : Int} (hn : (C.total C.all).1 < n ∧ n ≤ 20000) : C.shareR n = (0, 4) := by
 have hin := total_in O hp C.all
 unfold ClampV.shareR ClampV.shareQ
 rw [ClampV.ok_yes O, sods_yes (by omega), if_pos hp]
 have hc : C.shareI n = none := by
  unfold ClampV.shareI
  rw [List.find?_eq_none]
  intro x hx
  have := total_in O hp x.toNat
  simp
  omega
 rw [hc]
end Go.Proofs.YtobhkdgcciolmaaGreat

namespace Go.Proofs.YtobhkdgcciolmaaGreat
open Go Go.AbsE
set_option linter.unusedSimpArgs false
set_option maxRecDepth 100000
set_option maxHeartbeats 0
set_option linter.unusedVariables false
def sumS (s : Nat) (f : Nat → Int) : Nat → Int
 | 0 => 0
 | n + 1 => if s.testBit n = true then sumS s f n + f n else sumS s f n
theorem sumS_mono {s : Nat} {f g : Nat → Int} : ∀ {n : Nat}, (∀ i, i < n → f i ≤ g i) → sumS s f n ≤ sumS s g n
 | 0, _ => Int.le_refl _
 | n + 1, h => by
  have := sumS_mono (s := s) (f := f) (g := g) (n := n) fun i hi => h i (by omega)
  have := h n (by omega)
  unfold sumS
  split <;> omega
theorem sumS_eq {s : Nat} {f g : Nat → Int} {n : Nat} (h : ∀ i, i < n → f i = g i) : sumS s f n = sumS s g n :=
 Int.le_antisymm (sumS_mono fun i hi => Int.le_of_eq (h i hi)) (sumS_mono fun i hi => Int.le_of_eq (h i hi).symm)
theorem sumS_in {s : Nat} {f : Nat → Int} (h : ∀ i, 0 ≤ f i ∧ f i ≤ 5000) : ∀ n : Nat, 0 ≤ sumS s f n ∧ sumS s f n ≤ 5000 * (n : Int)
 | 0 => by
  unfold sumS
  omega
 | n + 1 => by
  have := sumS_in (s := s) h n
  have := h n
  unfold sumS
  split <;> omega
theorem sumB_S {C : ClampV} (O : C.Ok) (s : Nat) (b : BT) : (C.sumB s b).1 = sumS s (fun i => (C.aft b i).1) C.ps.length := by
 have hn := O.np
 have ho := fun i => aft_out (C := C) (b := b) (i := i)
 unfold ClampV.sumB
 rw [stock_is]
 obtain ⟨n, e⟩ : ∃ n, C.ps.length = n := ⟨_, rfl⟩
 rw [e] at hn ho ⊢
 rcases (by omega : n = 1 ∨ n = 2 ∨ n = 3 ∨ n = 4) with rfl | rfl | rfl | rfl
 ·rw [ho 1 (by decide), ho 2 (by decide), ho 3 (by decide)]
  unfold sumS sumS sumIn sumIn sumIn sumIn sumIn plusV
  cases s.testBit 0 <;> cases s.testBit (0 + 1) <;> cases s.testBit (0 + 1 + 1) <;> cases s.testBit (0 + 1 + 1 + 1) <;> simp only [if_true, if_false, Bool.false_eq_true, reduceCtorEq] <;> omega
 ·rw [ho 2 (by decide), ho 3 (by decide)]
  unfold sumS sumS sumS sumIn sumIn sumIn sumIn sumIn plusV
  cases s.testBit 0 <;> cases s.testBit (0 + 1) <;> cases s.testBit (0 + 1 + 1) <;> cases s.testBit (0 + 1 + 1 + 1) <;> simp only [if_true, if_false, Bool.false_eq_true, reduceCtorEq] <;> omega
 ·rw [ho 3 (by decide)]
  unfold sumS sumS sumS sumS sumIn sumIn sumIn sumIn sumIn plusV
  show _ = (if s.testBit (0 + 1 + 1) = true then (if s.testBit (0 + 1) = true then (if s.testBit 0 = true then 0 + (C.aft b 0).1 else 0) + (C.aft b 1).1 else (if s.testBit 0 = true then 0 + (C.aft b 0).1 else 0)) + (C.aft b 2).1 else (if s.testBit (0 + 1) = true then (if s.testBit 0 = true then 0 + (C.aft b 0).1 else 0) + (C.aft b 1).1 else (if s.testBit 0 = true then 0 + (C.aft b 0).1 else 0)))
  cases s.testBit 0 <;> cases s.testBit (0 + 1) <;> cases s.testBit (0 + 1 + 1) <;> cases s.testBit (0 + 1 + 1 + 1) <;> simp only [if_true, if_false, Bool.false_eq_true, reduceCtorEq] <;> omega
 ·unfold sumS sumS sumS sumS sumS sumIn sumIn sumIn sumIn sumIn plusV
  show _ = (if s.testBit (0 + 1 + 1 + 1) = true then (if s.testBit (0 + 1 + 1) = true then (if s.testBit (0 + 1) = true then (if s.testBit 0 = true then 0 + (C.aft b 0).1 else 0) + (C.aft b 1).1 else (if s.testBit 0 = true then 0 + (C.aft b 0).1 else 0)) + (C.aft b 2).1 else (if s.testBit (0 + 1) = true then (if s.testBit 0 = true then 0 + (C.aft b 0).1 else 0) + (C.aft b 1).1 else (if s.testBit 0 = true then 0 + (C.aft b 0).1 else 0))) + (C.aft b 3).1 else (if s.testBit (0 + 1 + 1) = true then (if s.testBit (0 + 1) = true then (if s.testBit 0 = true then 0 + (C.aft b 0).1 else 0) + (C.aft b 1).1 else (if s.testBit 0 = true then 0 + (C.aft b 0).1 else 0)) + (C.aft b 2).1 else (if s.testBit (0 + 1) = true then (if s.testBit 0 = true then 0 + (C.aft b 0).1 else 0) + (C.aft b 1).1 else (if s.testBit 0 = true then 0 + (C.aft b 0).1 else 0))))
  cases s.testBit 0 <;> cases s.testBit (0 + 1) <;> cases s.testBit (0 + 1 + 1) <;> cases s.testBit (0 + 1 + 1 + 1) <;> simp only [if_true, if_false, Bool.false_eq_true, reduceCtorEq] <;> omega
def ClampV.byK (C : ClampV) (k : Int) : ClampV := { C with pl := k, ph := k }
theorem byK_ok {C : ClampV} (O : C.Ok) {k : Int} (hk : C.pl ≤ k ∧ k ≤ C.ph) : (C.byK k).Ok := by
 have := O.k
 exact ⟨O.np, O.p, ⟨⟨Int.le_refl _, show 1 ≤ k by omega, show k ≤ 5 by omega⟩, show k - k ≤ 2 by omega⟩, O.ne, O.e⟩
theorem byK_iff {C : ClampV} (O : C.Ok) {k : Int} (hk : C.pl ≤ k ∧ k ≤ C.ph) {b : BT} : b ∈ (C.byK k).builds ↔ b ∈ C.builds ∧ b.2 = k := by
 rw [builds_iff (byK_ok O hk).fine, builds_iff O.fine]
 constructor
 ·rintro ⟨⟨h1, h2⟩, h3, h4⟩
  have e : b.2 = k := Int.le_antisymm h2 h1
  exact ⟨⟨by rw [e]; exact hk, h3, h4⟩, e⟩
 ·rintro ⟨⟨_, h3, h4⟩, e⟩;exact ⟨⟨Int.le_of_eq e.symm, Int.le_of_eq e⟩, h3, h4⟩
def ClampV.sureK (C : ClampV) (s : Nat) (k : Int) : Int := sumS s (fun i => ((C.byK k).left i).1) C.ps.length
theorem sureK_le {C : ClampV} (O : C.Ok) {b : BT} (hb : b ∈ C.builds) (s : Nat) : (C.byK b.2).possible = true ∧ C.sureK s b.2 ≤ (C.sumB s b).1 := by
 have hk := ((builds_iff O.fine).1 hb).1
 have hm := (byK_iff O hk).2 ⟨hb, rfl⟩
 refine ⟨possible_iff.2 ⟨_, hm⟩, ?_⟩;rw [sumB_S O]
 unfold ClampV.sureK
 exact sumS_mono fun i _ => (left_le hm i).1
theorem sureK_ex {C : ClampV} (O : C.Ok) {k : Int} (hk : C.pl ≤ k ∧ k ≤ C.ph) (hp : (C.byK k).possible = true) (s : Nat) : ∃ b, b ∈ C.builds ∧ (C.sumB s b).1 = C.sureK s k := by
 have OK := byK_ok O hk
 have hn := O.np
 have one : ∀ i, ∃ b, b ∈ (C.byK k).builds ∧ ((C.byK k).left i).1 = ((C.byK k).aft b i).1 := fun i => (left_ex OK hp i).1
 obtain ⟨g, hg⟩ := Classical.axiomOfChoice one
 obtain ⟨m1, m2⟩ := mix OK (k := k) g (fun i _ => ⟨(hg i).1, ((byK_iff O hk).1 (hg i).1).2⟩) (show 0 < C.ps.length by omega)
 refine ⟨_, ((byK_iff O hk).1 m1).1, ?_⟩;rw [sumB_S O]
 unfold ClampV.sureK
 exact sumS_eq fun i hi => by
  rw [(hg i).2, ← m2 i hi]
  rfl
def ClampV.leastK (C : ClampV) (s : Nat) : Nat → Int
 | 0 => -1
 | m + 1 => if (C.byK (C.pl + (m : Nat))).possible = true ∧ (C.leastK s m < 0 ∨ C.sureK s (C.pl + (m : Nat)) < C.leastK s m) then C.sureK s (C.pl + (m : Nat)) else C.leastK s m
theorem sureK_in {C : ClampV} (O : C.Ok) {k : Int} (hk : C.pl ≤ k ∧ k ≤ C.ph) (hp : (C.byK k).possible = true) (s : Nat) : 0 ≤ C.sureK s k ∧ C.sureK s k ≤ 20000 := by
 have := sumS_in (s := s) (f := fun i => ((C.byK k).left i).1) (fun i => by have := left_in (byK_ok O hk) hp i; omega) C.ps.length
 have := O.np
 unfold ClampV.sureK
 omega
theorem leastK_spec {C : ClampV} (O : C.Ok) (s : Nat) : ∀ m : Nat, (m : Int) ≤ C.ph - C.pl + 1 → ((C.leastK s m = -1 ∧ ∀ j : Nat, j < m → (C.byK (C.pl + j)).possible = false) ∨ ((∃ j : Nat, j < m ∧ (C.byK (C.pl + j)).possible = true ∧ C.leastK s m = C.sureK s (C.pl + j)) ∧ ∀ j : Nat, j < m → (C.byK (C.pl + j)).possible = true → C.leastK s m ≤ C.sureK s (C.pl + j)))
 | 0, _ => .inl ⟨rfl, fun j hj => by omega⟩
 | m + 1, hm => by
  have ih := leastK_spec O s m (by omega)
  unfold ClampV.leastK
  cases hp : (C.byK (C.pl + (m : Nat))).possible with
  | false =>
   rw [if_neg (by rintro ⟨q, _⟩; cases q)]
   rcases ih with ⟨i1, i2⟩ | ⟨⟨j, i1, i2, i3⟩, i4⟩
   ·refine .inl ⟨i1, fun j hj => ?_⟩
    by_cases e : j = m
    ·subst e; exact hp
    ·exact i2 j (by omega)
   ·refine .inr ⟨⟨j, by omega, i2, i3⟩, fun l hl hl2 => ?_⟩
    by_cases e : l = m
    ·subst e; rw [hp] at hl2; cases hl2
    ·exact i4 l (by omega) hl2
  | true =>
   have hin := sureK_in O (k := C.pl + (m : Nat)) (by omega) hp s
   by_cases q : C.leastK s m < 0 ∨ C.sureK s (C.pl + (m : Nat)) < C.leastK s m
   ·rw [if_pos ⟨rfl, q⟩];refine .inr ⟨⟨m, by omega, hp, rfl⟩, fun l hl hl2 => ?_⟩
    by_cases e : l = m
    ·subst e; exact Int.le_refl _
    ·rcases ih with ⟨i1, i2⟩ | ⟨⟨j, i1, i2, i3⟩, i4⟩
     ·rw [i2 l (by omega)] at hl2; cases hl2
     ·have := i4 l (by omega) hl2
      have := sureK_in O (k := C.pl + (j : Nat)) (by omega) i2 s
      omega
   ·rw [if_neg (fun w => q w.2)]
    rcases ih with ⟨i1, i2⟩ | ⟨⟨j, i1, i2, i3⟩, i4⟩
    ·exact absurd (.inl (by omega)) q
    ·refine .inr ⟨⟨j, by omega, i2, i3⟩, fun l hl hl2 => ?_⟩
     by_cases e : l = m
     ·subst e; omega
     ·exact i4 l (by omega) hl2
theorem leastK_is {C : ClampV} (O : C.Ok) (hp : C.possible = true) (s : Nat) {m : Nat} (hm : (m : Int) = C.ph - C.pl + 1) : C.leastK s m = (C.total s).1 := by
 obtain ⟨⟨b, hb, e⟩, _⟩ := total_ex O hp s
 have hk := ((builds_iff O.fine).1 hb).1
 obtain ⟨q1, q2⟩ := sureK_le O hb s
 have hj : C.pl + ((b.2 - C.pl).toNat : Int) = b.2 := by omega
 rcases leastK_spec O s m (by omega) with ⟨_, i2⟩ | ⟨⟨j, i1, i2, i3⟩, i4⟩
 ·have := i2 (b.2 - C.pl).toNat (by omega)
  rw [hj, q1] at this;cases this
 ·have h1 := i4 (b.2 - C.pl).toNat (by omega) (by rw [hj]; exact q1)
  rw [hj] at h1
  obtain ⟨b2, hb2, e2⟩ := sureK_ex O (k := C.pl + (j : Nat)) (by omega) i2 s
  have := (total_le hb2 s).1
  omega
theorem share_ex {C : ClampV} (O : C.Ok) (hp : C.possible = true) {n : Int} (hn : 0 ≤ n ∧ n ≤ 20000) (hnt : n ≤ (C.total C.all).1) : ∃ q : Nat, C.shareR n = ((q : Int), 0) ∧ q < 1024 ∧ (∀ i, i < 10 → q.testBit i = true → C.all.testBit i = true) ∧ q ≤ C.all ∧ n ≤ (C.total q).1 ∧ ∀ s, s < 1024 → (∀ i, i < 10 → s.testBit i = true → C.all.testBit i = true) → n ≤ (C.total s).1 → popc q < popc s ∨ (popc q = popc s ∧ q ≤ s) := by
 have hlt := all_lt O
 have hc : C.shareI n = ((subs C.all).find? fun s => decide (n ≤ (C.total s).1)).map fun s => ((s : Nat) : Int) := by
  unfold ClampV.shareI
  rw [List.find?_map]
  rfl
 unfold ClampV.shareR ClampV.shareQ
 rw [ClampV.ok_yes O, sods_yes hn, if_pos hp, hc]
 cases q : (subs C.all).find? fun s => decide (n ≤ (C.total s).1) with
 | none =>
  rw [List.find?_eq_none] at q;exact absurd (decide_eq_true hnt) (q C.all (subs_bits (by omega) fun i _ h => h))
 | some c =>
  obtain ⟨m1, m2, m3⟩ := subs_first q
  obtain ⟨s1, s2, s3⟩ := mem_subs.1 m1
  refine ⟨c, rfl, by omega, fun i hi hb => ?_, by omega, of_decide_eq_true m2, fun s hs hb ht => m3 s (subs_bits hs hb) (decide_eq_true ht)⟩
  have := andNot_bit (a := c) (b := C.all) (i := i) (by omega) (by omega)
  rw [s2, Nat.zero_testBit, hb, Bool.true_and] at this
  cases w : C.all.testBit i with
  | true => rfl
  | false => rw [w] at this; cases this
end Go.Proofs.YtobhkdgcciolmaaGreat
