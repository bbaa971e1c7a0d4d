import Derived.Test.YtobhkdgcciolmaaGreatMAQ
import Derived.KernelRfl
import Derived.Test.YtobhkdgcciolmaaGreatMAI
import Derived.Test.YtobhkdgcciolmaaGreatMAG
import Derived.Deep.Slices
import Derived.Lib.SmallJoins
import Derived.Carry
import Derived.Laws.IdiomArrays
import Derived.Test.YtobhkdgcciolmaaGreatRows
import Derived.WalkKit
import Derived.ProofKit
import Derived.OpenShut
import Derived.Test.YtobhkdgcciolmaaGreatMAJ
namespace Go.Proofs.YtobhkdgcciolmaaGreat
open Go Go.AbsE
set_option linter.unusedSimpArgs false
set_option maxRecDepth 100000
set_option maxHeartbeats 0
set_option linter.unusedVariables false
def sampleV (E : List EV) : ClampV := ⟨[⟨3, 3, 2, 2, 1, 2⟩, ⟨2, 2, 2, 2, 2, 2⟩], 4, 5, [⟨0, 0, 10, 12⟩, ⟨1, 1, 30, 33⟩] ++ E⟩
def k1 : EV := ⟨1, 0, 13, 36⟩
def k2 : EV := ⟨1, 0, 12, 12⟩
theorem pv_len (p : PV) : (PV.cells p).length = 6 := rfl
theorem ev_len (p : EV) : (EV.cells p).length = 4 := rfl
theorem evs_four {L : List EV} : ∀ l, l ∈ L.map EV.cells → l.length = 4 := fun l hl => by
 obtain ⟨e, _, rfl⟩ := List.mem_map.1 hl
 rfl
theorem pvs_slice {h : AH} {b n : Nat} {g : Kd} {el : TypeId} {L : List PV} (hn : L.length = n) (f : Has h b (.cells g (L.flatMap PV.cells) el)) : SliceOf h 6 (.slice b 0 n n) (L.map PV.cells) :=
 SliceOf.mk' rfl rfl f (by rw [List.length_map, hn]) fun i v q => by rw [Nat.zero_add]; exact flatten_at pv_len i v q
theorem evs_slice {h : AH} {b n : Nat} {g : Kd} {el : TypeId} {L : List EV} (hn : L.length = n) (f : Has h b (.cells g (L.flatMap EV.cells) el)) : SliceOf h 4 (.slice b 0 n n) (L.map EV.cells) :=
 SliceOf.mk' rfl rfl f (by rw [List.length_map, hn]) fun i v q => by rw [Nat.zero_add]; exact flatten_at ev_len i v q
theorem scal_app {a b : List AVal} (ha : scalars a = true) (hb : scalars b = true) : scalars (a ++ b) = true := by
 induction a with
 | nil => exact hb
 | cons x a ih =>
  show cond (scalar x) (scalars (a ++ b)) false = true
  have h1 : cond (scalar x) (scalars a) false = true := ha
  cases q : scalar x with
  | true => rw [q] at h1; exact ih h1
  | false => rw [q] at h1; cases h1
theorem ClampAt.scal {C : ClampV} {p e : AVal} {h : AH} (A : ClampAt h C p e) : scalars (C.cells p e) = true :=
 scal_app (a := [p]) A.ps.scal.1 (scal_app (a := [.int .i64 C.pl, .int .i64 C.ph]) rfl A.es.scal.1)
def ClampNew (lo : Nat) (h : AH) (C : ClampV) (p e : AVal) : Prop := FreshS lo h 6 p (C.ps.map PV.cells) ∧ FreshS lo h 4 e (C.es.map EV.cells)
theorem ClampNew.at {lo : Nat} {h : AH} {C : ClampV} {p e : AVal} (k : ClampNew lo h C p e) : ClampAt h C p e := ⟨k.1.self, k.2.self⟩
theorem ClampNew.upd {lo n : Nat} {B : ABlk} {h h' : AH} {C : ClampV} {p e : AVal} (k : ClampNew lo h C p e) (u : Upd h n B h') (hn : n < lo) : ClampNew lo h' C p e :=
 ⟨k.1.on (Nat.le_of_eq u.1.symm) fun b b1 _ => u.2.2 b (by omega), k.2.on (Nat.le_of_eq u.1.symm) fun b b1 _ => u.2.2 b (by omega)⟩
theorem fresh_pvs {lo : Nat} {h : AH} {b n : Nat} {g : Kd} {el : TypeId} {L : List PV} (hn : L.length = n) (hb : lo ≤ b) (f : Has h b (.cells g (L.flatMap PV.cells) el)) : FreshS lo h 6 (.slice b 0 n n) (L.map PV.cells) := fun h' hl he => pvs_slice hn ⟨Nat.lt_of_lt_of_le f.1 hl, by rw [he b hb f.1]; exact f.2⟩
theorem sample_ok {E : List EV} {s : AVal} {h : AH} (hs : SliceOf h 4 s (E.map EV.cells)) (hn : E.length ≤ 100) : Runs Tryz.prog 42 [s] h (fun en h' => ∃ p e, en = .ret (.agg ((sampleV E).cells p e)) ∧ Ext h h' ∧ ClampNew h.next h' (sampleV E) p e ∧ Ext h' h') := by
 unfold ClampV.cells
 have e0 : Ext h h := Ext.refl _
 refine Runs.intro aFunc42 rfl rfl rfl rfl fun rest => ?_;apply gS;refine gR rfl ?_;refine GoR.alloc rfl rfl rfl zt27 rfl rfl fun h0 x0 f0 => ?_;have := e0.1;replace e0 := e0.trans x0;have := f0.1;apply gE;apply gS;refine gR rfl ?_;refine GoR.call rfl rfl (aCF aFunc83 rfl) (pile83_ok) ?_ np;rintro v1 h1 ⟨q, x1⟩;cases q;refine ⟨_, rfl, ?_⟩;replace f0 := f0.ext x1;replace e0 := e0.trans x1;refine GoR.call rfl rfl (aCF aFunc83 rfl) (pile83_ok) ?_ np;rintro v2 h2 ⟨q, x2⟩;cases q;refine ⟨_, rfl, ?_⟩;replace f0 := f0.ext x2;replace e0 := e0.trans x2;refine GoR.buildSl rfl rfl (ps := [(0, .agg [.int .i64 3, .int .i64 3, .int .i64 2, .int .i64 2, .int .i64 1, .int .i64 2]), (1, .agg [.int .i64 2, .int .i64 2, .int .i64 2, .int .i64 2, .int .i64 2, .int .i64 2])]) (cs := ([⟨3, 3, 2, 2, 1, 2⟩, ⟨2, 2, 2, 2, 2, 2⟩] : List PV).flatMap PV.cells) Tryz.underlying22 rfl sz58 zt58 rfl rfl rfl rfl fun h3 x3 f3 => ?_;have := e0.1;have := f0.1;replace f0 := f0.ext x3;replace e0 := e0.trans x3;have := f3.1;refine GoR.call rfl rfl (aCF aFunc36 rfl) (span36_ok) ?_ np;rintro v4 h4 ⟨q, x4⟩;cases q;refine ⟨_, rfl, ?_⟩;replace f3 := f3.ext x4;replace f0 := f0.ext x4;replace e0 := e0.trans x4;refine GoR.call rfl rfl (aCF aFunc41 rfl) (sale41_ok) ?_ np;rintro v5 h5 ⟨q, x5⟩;cases q;refine ⟨_, rfl, ?_⟩;replace f3 := f3.ext x5;replace f0 := f0.ext x5;replace e0 := e0.trans x5;refine GoR.call rfl rfl (aCF aFunc35 rfl) (count35_ok) ?_ np;rintro v6 h6 ⟨q, x6⟩;cases q;refine ⟨_, rfl, ?_⟩;replace f3 := f3.ext x6;replace f0 := f0.ext x6;replace e0 := e0.trans x6;refine GoR.buildSl rfl rfl (ps := [(0, .agg [.int .i64 0, .int .i64 0, .int .i64 10, .int .i64 12]), (1, .agg [.int .i64 1, .int .i64 1, .int .i64 30, .int .i64 33])]) (cs := (([⟨0, 0, 10, 12⟩, ⟨1, 1, 30, 33⟩] : List EV).map EV.cells).flatten) Tryz.underlying25 rfl sz53 zt53 rfl rfl rfl rfl fun h7 x7 f7 => ?_;have := e0.1;have := f3.1;have := f0.1;replace f3 := f3.ext x7;replace f0 := f0.ext x7;replace e0 := e0.trans x7;have := f7.1;refine gP ?_
 have hb0 := f0.1
 have hsl := hs.ext e0
 have hb3 := f3.1
 have hb7 := f7.1
 have hn1 : h.next < h2.next := by omega
 have hn2 : h2.next < h6.next := by omega
 refine GoR.appendFull (Lx := ([⟨0, 0, 10, 12⟩, ⟨1, 1, 30, 33⟩] : List EV).map EV.cells) rfl rfl Tryz.underlying25 Tryz.underlying25 sz53 by53 zt53 rfl rfl rfl f7 rfl rfl evs_four rfl hsl evs_four (by rw [List.length_map]; omega) rfl rfl fun s11 h11 x11 S11 => ?_;replace f0 := f0.ext x11;replace f3 := f3.ext x11;replace e0 := e0.trans x11
 rw [← List.map_append] at S11
 have hs11 := S11.self.scal
 have hx11 := x11.1
 have RN : ClampNew (h.next + 1) h11 (sampleV E) (.slice h2.next 0 2 2) s11 := ⟨fresh_pvs (L := [⟨3, 3, 2, 2, 1, 2⟩, ⟨2, 2, 2, 2, 2, 2⟩]) rfl (by omega) f3, fun h' hl he => S11 h' hl fun b b1 b2 => he b (by omega) b2⟩
 have hsc : scalars [.slice h2.next 0 2 2, .int .i64 4, .int .i64 5, s11] = true := scal_app (a := [.slice h2.next 0 2 2, .int .i64 4, .int .i64 5]) rfl hs11.1
 clear f7;refine gO rfl rfl (aOp_build (ps := [(0, .slice h2.next 0 2 2), (1, .agg [.int .i64 4, .int .i64 5]), (2, s11)]) (cs := [.slice h2.next 0 2 2, .int .i64 4, .int .i64 5, s11]) zt27 hu27 pl27 rfl (by simp [aFillA, hs11.2, cells_agg, splice]; rfl)) rfl ?_;refine GoR.store rfl rfl rfl rfl rfl rfl f0 rfl sz27 rfl hsc rfl fun h12 u12 => ?_;replace f0 := u12.has f0;replace e0 := e0.upd u12 (by omega);apply gE
 have hr := RN.upd u12 (Nat.lt_succ_self _)
 exact gV (ret_end (aResult_of Tryz.func42 rfl (aResults_cell rfl f0 (inCells_agg ag27 sz27 rfl))) ⟨_, _, rfl, e0, ⟨fun h' hl he => hr.1 h' hl fun b b1 b2 => he b (by omega) b2, fun h' hl he => hr.2 h' hl fun b b1 b2 => he b (by omega) b2⟩, Ext.refl _⟩)
theorem nil_ok {h : AH} : Runs Tryz.prog 42 [.nilslice] h (fun en h' => ∃ p e, en = .ret (.agg ((sampleV []).cells p e)) ∧ Ext h h' ∧ ClampAt h' (sampleV []) p e ∧ Ext h' h') :=
 (sample_ok (E := []) .nil (by decide)).mono fun en h' ⟨p, e, q, x, N, y⟩ => ⟨p, e, q, x, N.at, y⟩
theorem counted_ok {h : AH} : Runs Tryz.prog 43 [] h (fun en h' => ∃ p e, en = .ret (.agg ((sampleV [k1]).cells p e)) ∧ Ext h h' ∧ ClampAt h' (sampleV [k1]) p e ∧ Ext h' h') := by
 have hsa := fun {s h'} S => sample_ok (E := [k1]) (s := s) (h := h') S (by decide)
 unfold ClampV.cells at hsa ⊢
 have e0 : Ext h h := Ext.refl _
 refine Runs.intro aFunc43 rfl rfl rfl rfl fun rest => ?_;apply gS;refine gR rfl ?_;refine GoR.alloc rfl rfl rfl zt27 rfl rfl fun h0 x0 f0 => ?_;have := e0.1;replace e0 := e0.trans x0;have := f0.1;apply gE;apply gS;refine gR rfl ?_;refine GoR.call rfl rfl (aCF aFunc35 rfl) (count35_ok) ?_ np;rintro v1 h1 ⟨q, x1⟩;cases q;refine ⟨_, rfl, ?_⟩;replace f0 := f0.ext x1;replace e0 := e0.trans x1;refine GoR.buildSl rfl rfl (ps := [(0, .agg [.int .i64 1, .int .i64 0, .int .i64 13, .int .i64 36])]) (cs := [k1].flatMap EV.cells) Tryz.underlying25 rfl sz53 zt53 rfl rfl rfl rfl fun h2 x2 f2 => ?_;have := e0.1;have := f0.1;replace f0 := f0.ext x2;replace e0 := e0.trans x2;have := f2.1;refine GoR.call rfl rfl (aCF aFunc42 rfl) (hsa (evs_slice (L := [k1]) rfl (by assumption))) ?_ (by rintro _ _ ⟨p, e, q, _, RA, e9⟩; cases q);rintro v3 h3 ⟨p, e, q, x3, RA, e9⟩;cases q;refine ⟨_, rfl, ?_⟩;have := e0.1;replace f2 := f2.ext x3;replace f0 := f0.ext x3;replace e0 := e0.trans x3;refine GoR.store rfl rfl rfl rfl rfl rfl f0 rfl sz27 rfl RA.at.scal rfl fun h4 u4 => ?_;replace f2 := f2.upd u4 (by omega);replace f0 := u4.has f0;clear e9;replace e0 := e0.upd u4 (by omega);apply gE;exact gV (ret_end (aResult_of Tryz.func43 rfl (aResults_cell rfl f0 (inCells_agg ag27 sz27 rfl))) ⟨_, _, rfl, e0, (RA.upd (by assumption) (by omega)).at, Ext.refl _⟩)
theorem clash_ok {h : AH} : Runs Tryz.prog 44 [] h (fun en h' => ∃ p e, en = .ret (.agg ((sampleV [k1, k2]).cells p e)) ∧ Ext h h' ∧ ClampAt h' (sampleV [k1, k2]) p e ∧ Ext h' h') := by
 have hsa := fun {s h'} S => sample_ok (E := [k1, k2]) (s := s) (h := h') S (by decide)
 unfold ClampV.cells at hsa ⊢
 have e0 : Ext h h := Ext.refl _
 refine Runs.intro aFunc44 rfl rfl rfl rfl fun rest => ?_;apply gS;refine gR rfl ?_;refine GoR.alloc rfl rfl rfl zt27 rfl rfl fun h0 x0 f0 => ?_;have := e0.1;replace e0 := e0.trans x0;have := f0.1;apply gE;apply gS;refine gR rfl ?_;refine GoR.call rfl rfl (aCF aFunc35 rfl) (count35_ok) ?_ np;rintro v1 h1 ⟨q, x1⟩;cases q;refine ⟨_, rfl, ?_⟩;replace f0 := f0.ext x1;replace e0 := e0.trans x1;refine GoR.call rfl rfl (aCF aFunc35 rfl) (count35_ok) ?_ np;rintro v2 h2 ⟨q, x2⟩;cases q;refine ⟨_, rfl, ?_⟩;replace f0 := f0.ext x2;replace e0 := e0.trans x2;refine GoR.buildSl rfl rfl (ps := [(0, .agg [.int .i64 1, .int .i64 0, .int .i64 13, .int .i64 36]), (1, .agg [.int .i64 1, .int .i64 0, .int .i64 12, .int .i64 12])]) (cs := [k1, k2].flatMap EV.cells) Tryz.underlying25 rfl sz53 zt53 rfl rfl rfl rfl fun h3 x3 f3 => ?_;have := e0.1;have := f0.1;replace f0 := f0.ext x3;replace e0 := e0.trans x3;have := f3.1;refine GoR.call rfl rfl (aCF aFunc42 rfl) (hsa (evs_slice (L := [k1, k2]) rfl (by assumption))) ?_ (by rintro _ _ ⟨p, e, q, _, RA, e9⟩; cases q);rintro v4 h4 ⟨p, e, q, x4, RA, e9⟩;cases q;refine ⟨_, rfl, ?_⟩;have := e0.1;replace f3 := f3.ext x4;replace f0 := f0.ext x4;replace e0 := e0.trans x4;refine GoR.store rfl rfl rfl rfl rfl rfl f0 rfl sz27 rfl RA.at.scal rfl fun h5 u5 => ?_;replace f3 := f3.upd u5 (by omega);replace f0 := u5.has f0;clear e9;replace e0 := e0.upd u5 (by omega);apply gE;exact gV (ret_end (aResult_of Tryz.func44 rfl (aResults_cell rfl f0 (inCells_agg ag27 sz27 rfl))) ⟨_, _, rfl, e0, (RA.upd (by assumption) (by omega)).at, Ext.refl _⟩)
theorem spanT24 : SpanT Tryz.prog 24 := ⟨⟨_, _, Tryz.underlying24, by decide, by decide, rfl, rfl, ⟨_, Tryz.underlying3⟩, ⟨_, Tryz.underlying3⟩⟩, by kernel_rfl, by kernel_rfl⟩
theorem v0 : (sampleV []).builtR 0 = ((24, 48), 0) := by decide +kernel
theorem cv0 {h : AH} {p e : AVal} (A : ClampAt h (sampleV []) p e) : Runs Tryz.prog 13 [.agg ((sampleV []).cells p e), .int .i64 0] h (fun en h' => en = .ret (.tuple [.agg [.int .i64 24, .int .i64 48], .int .i64 0]) ∧ Ext h h') := by
 have q := Built_ok A ⟨by decide, by decide⟩ 0
 rw [v0] at q;exact q
theorem v1 : (sampleV [k1]).hasR 0 = ((13, 36), 0) := by decide +kernel
theorem cv1 {h : AH} {p e : AVal} (A : ClampAt h (sampleV [k1]) p e) : Runs Tryz.prog 15 [.agg ((sampleV [k1]).cells p e), .int .i64 0] h (fun en h' => en = .ret (.tuple [.agg [.int .i64 13, .int .i64 36], .int .i64 0]) ∧ Ext h h') := by
 have q := Has_ok A ⟨by decide, by decide⟩ 0
 rw [v1] at q;exact q
theorem v2 : (sampleV []).soldR 0 = ((10, 12), 0) := by decide +kernel
theorem cv2 {h : AH} {p e : AVal} (A : ClampAt h (sampleV []) p e) : Runs Tryz.prog 17 [.agg ((sampleV []).cells p e), .int .i64 0] h (fun en h' => en = .ret (.tuple [.agg [.int .i64 10, .int .i64 12], .int .i64 0]) ∧ Ext h h') := by
 have q := Sold_ok A ⟨by decide, by decide⟩ 0
 rw [v2] at q;exact q
theorem v3 : (sampleV []).allR = ((44, 70), 0) := by decide +kernel
theorem cv3 {h : AH} {p e : AVal} (A : ClampAt h (sampleV []) p e) : Runs Tryz.prog 19 [.agg ((sampleV []).cells p e)] h (fun en h' => en = .ret (.tuple [.agg [.int .i64 44, .int .i64 70], .int .i64 0]) ∧ Ext h h') := by
 have q := All_ok A ⟨by decide, by decide⟩
 rw [v3] at q;exact q
theorem v4 : (sampleV []).enoughR 0 20 = (1, 0) := by decide +kernel
theorem cv4 {h : AH} {p e : AVal} (A : ClampAt h (sampleV []) p e) : Runs Tryz.prog 21 [.agg ((sampleV []).cells p e), .int .i64 0, .int .i64 20] h (fun en h' => en = .ret (.tuple [.int .i64 1, .int .i64 0]) ∧ Ext h h') := by
 have q := Enough_ok A ⟨by decide, by decide⟩ 0 20
 rw [v4] at q;exact q
theorem v5 : (sampleV []).emptyR = ((0, 0), 0) := by decide +kernel
theorem cv5 {h : AH} {p e : AVal} (A : ClampAt h (sampleV []) p e) : Runs Tryz.prog 23 [.agg ((sampleV []).cells p e)] h (fun en h' => en = .ret (.tuple [.int .i64 0, .int .i64 0, .int .i64 0]) ∧ Ext h h') := by
 have q := Empty_ok A ⟨by decide, by decide⟩
 rw [v5] at q;exact q
theorem v6 : (sampleV []).shareR 40 = (3, 0) := by decide +kernel
theorem cv6 {h : AH} {p e : AVal} (A : ClampAt h (sampleV []) p e) : Runs Tryz.prog 25 [.agg ((sampleV []).cells p e), .int .i64 40] h (fun en h' => en = .ret (.tuple [.int .i64 3, .int .i64 0]) ∧ Ext h h') := by
 have q := Share_ok A ⟨by decide, by decide⟩ 40
 rw [v6] at q;exact q
theorem v7 : (sampleV [k1, k2]).clashR = (12, 0) := by decide +kernel
theorem cv7 {h : AH} {p e : AVal} (A : ClampAt h (sampleV [k1, k2]) p e) : Runs Tryz.prog 27 [.agg ((sampleV [k1, k2]).cells p e)] h (fun en h' => en = .ret (.tuple [.int .i64 12, .int .i64 0]) ∧ Ext h h') := by
 have q := Clash_ok A ⟨by decide, by decide⟩
 rw [v7] at q;exact q
theorem alive_ok {h : AH} : Runs Tryz.prog 12 [] h (fun en h' => en = .ret (.bool true) ∧ Ext h h') := by
 have e0 : Ext h h := Ext.refl _
 refine Runs.intro aFunc12 rfl rfl rfl rfl fun rest => ?_;apply gS;refine gR rfl ?_;refine gP ?_;apply gE;apply gS;refine gR rfl ?_;refine GoR.call rfl rfl (aCF aFunc42 rfl) (nil_ok) ?_ (by rintro _ _ ⟨p0, q0, q, _, A0, _⟩; cases q);rintro v0 h0 ⟨p0, q0, q, x0, A0, _⟩;cases q;refine ⟨_, rfl, ?_⟩;have := e0.1;replace e0 := e0.trans x0;refine GoR.call rfl rfl (aCF aFunc13 rfl) (cv0 A0) ?_ np;rintro v1 h1 ⟨q, x1⟩;cases q;refine ⟨_, rfl, ?_⟩;replace e0 := e0.trans x1;iterate 3 refine gP ?_
 refine GoR.alloc rfl rfl rfl zt24 rfl rfl fun h2 x2 f2 => ?_;have := e0.1;replace e0 := e0.trans x2;have := f2.1;refine GoR.store rfl rfl rfl rfl rfl rfl f2 rfl sz24 rfl rfl rfl fun h3 u3 => ?_;replace f2 := u3.has f2;replace e0 := e0.upd u3 (by omega);refine gP ?_;apply gE;apply gS;refine gR rfl ?_;refine GoR.call rfl rfl (aCF aFunc43 rfl) (counted_ok) ?_ (by rintro _ _ ⟨p1, q1, q, _, A1, _⟩; cases q);rintro v4 h4 ⟨p1, q1, q, x4, A1, _⟩;cases q;refine ⟨_, rfl, ?_⟩;have := e0.1;replace f2 := f2.ext x4;replace e0 := e0.trans x4;refine GoR.call rfl rfl (aCF aFunc15 rfl) (cv1 A1) ?_ np;rintro v5 h5 ⟨q, x5⟩;cases q;refine ⟨_, rfl, ?_⟩;replace f2 := f2.ext x5;replace e0 := e0.trans x5;iterate 3 refine gP ?_
 refine GoR.alloc rfl rfl rfl zt24 rfl rfl fun h6 x6 f6 => ?_;have := e0.1;have := f2.1;replace f2 := f2.ext x6;replace e0 := e0.trans x6;have := f6.1;refine GoR.store rfl rfl rfl rfl rfl rfl f6 rfl sz24 rfl rfl rfl fun h7 u7 => ?_;replace f6 := u7.has f6;replace f2 := f2.upd u7 (by omega);replace e0 := e0.upd u7 (by omega);refine gP ?_;apply gE;apply gS;refine gR rfl ?_;refine GoR.call rfl rfl (aCF aFunc42 rfl) (nil_ok) ?_ (by rintro _ _ ⟨p0, q0, q, _, A0, _⟩; cases q);rintro v8 h8 ⟨p0, q0, q, x8, A0, _⟩;cases q;refine ⟨_, rfl, ?_⟩;have := e0.1;replace f6 := f6.ext x8;replace f2 := f2.ext x8;replace e0 := e0.trans x8;refine GoR.call rfl rfl (aCF aFunc17 rfl) (cv2 A0) ?_ np;rintro v9 h9 ⟨q, x9⟩;cases q;refine ⟨_, rfl, ?_⟩;replace f6 := f6.ext x9;replace f2 := f2.ext x9;replace e0 := e0.trans x9;iterate 3 refine gP ?_
 refine GoR.alloc rfl rfl rfl zt24 rfl rfl fun h10 x10 f10 => ?_;have := e0.1;have := f6.1;have := f2.1;replace f6 := f6.ext x10;replace f2 := f2.ext x10;replace e0 := e0.trans x10;have := f10.1;refine GoR.store rfl rfl rfl rfl rfl rfl f10 rfl sz24 rfl rfl rfl fun h11 u11 => ?_;replace f10 := u11.has f10;replace f6 := f6.upd u11 (by omega);replace f2 := f2.upd u11 (by omega);replace e0 := e0.upd u11 (by omega);refine gP ?_;apply gE;apply gS;refine gR rfl ?_;refine GoR.call rfl rfl (aCF aFunc42 rfl) (nil_ok) ?_ (by rintro _ _ ⟨p0, q0, q, _, A0, _⟩; cases q);rintro v12 h12 ⟨p0, q0, q, x12, A0, _⟩;cases q;refine ⟨_, rfl, ?_⟩;have := e0.1;replace f10 := f10.ext x12;replace f6 := f6.ext x12;replace f2 := f2.ext x12;replace e0 := e0.trans x12;refine GoR.call rfl rfl (aCF aFunc19 rfl) (cv3 A0) ?_ np;rintro v13 h13 ⟨q, x13⟩;cases q;refine ⟨_, rfl, ?_⟩;replace f10 := f10.ext x13;replace f6 := f6.ext x13;replace f2 := f2.ext x13;replace e0 := e0.trans x13;iterate 3 refine gP ?_
 refine GoR.alloc rfl rfl rfl zt24 rfl rfl fun h14 x14 f14 => ?_;have := e0.1;have := f10.1;have := f6.1;have := f2.1;replace f10 := f10.ext x14;replace f6 := f6.ext x14;replace f2 := f2.ext x14;replace e0 := e0.trans x14;have := f14.1;refine GoR.store rfl rfl rfl rfl rfl rfl f14 rfl sz24 rfl rfl rfl fun h15 u15 => ?_;replace f14 := u15.has f14;replace f10 := f10.upd u15 (by omega);replace f6 := f6.upd u15 (by omega);replace f2 := f2.upd u15 (by omega);replace e0 := e0.upd u15 (by omega);refine gP ?_;apply gE;apply gS;refine gR rfl ?_;refine GoR.call rfl rfl (aCF aFunc42 rfl) (nil_ok) ?_ (by rintro _ _ ⟨p0, q0, q, _, A0, _⟩; cases q);rintro v16 h16 ⟨p0, q0, q, x16, A0, _⟩;cases q;refine ⟨_, rfl, ?_⟩;have := e0.1;replace f14 := f14.ext x16;replace f10 := f10.ext x16;replace f6 := f6.ext x16;replace f2 := f2.ext x16;replace e0 := e0.trans x16;refine GoR.call rfl rfl (aCF aFunc21 rfl) (cv4 A0) ?_ np;rintro v17 h17 ⟨q, x17⟩;cases q;refine ⟨_, rfl, ?_⟩;replace f14 := f14.ext x17;replace f10 := f10.ext x17;replace f6 := f6.ext x17;replace f2 := f2.ext x17;replace e0 := e0.trans x17;iterate 5 refine gP ?_
 apply gE;apply gS;refine gR rfl ?_;refine GoR.call rfl rfl (aCF aFunc42 rfl) (nil_ok) ?_ (by rintro _ _ ⟨p0, q0, q, _, A0, _⟩; cases q);rintro v18 h18 ⟨p0, q0, q, x18, A0, _⟩;cases q;refine ⟨_, rfl, ?_⟩;have := e0.1;replace f14 := f14.ext x18;replace f10 := f10.ext x18;replace f6 := f6.ext x18;replace f2 := f2.ext x18;replace e0 := e0.trans x18;refine GoR.call rfl rfl (aCF aFunc23 rfl) (cv5 A0) ?_ np;rintro v19 h19 ⟨q, x19⟩;cases q;refine ⟨_, rfl, ?_⟩;replace f14 := f14.ext x19;replace f10 := f10.ext x19;replace f6 := f6.ext x19;replace f2 := f2.ext x19;replace e0 := e0.trans x19;iterate 7 refine gP ?_
 apply gE;apply gS;refine gR rfl ?_;refine GoR.call rfl rfl (aCF aFunc42 rfl) (nil_ok) ?_ (by rintro _ _ ⟨p0, q0, q, _, A0, _⟩; cases q);rintro v20 h20 ⟨p0, q0, q, x20, A0, _⟩;cases q;refine ⟨_, rfl, ?_⟩;have := e0.1;replace f14 := f14.ext x20;replace f10 := f10.ext x20;replace f6 := f6.ext x20;replace f2 := f2.ext x20;replace e0 := e0.trans x20;refine GoR.call rfl rfl (aCF aFunc25 rfl) (cv6 A0) ?_ np;rintro v21 h21 ⟨q, x21⟩;cases q;refine ⟨_, rfl, ?_⟩;replace f14 := f14.ext x21;replace f10 := f10.ext x21;replace f6 := f6.ext x21;replace f2 := f2.ext x21;replace e0 := e0.trans x21;iterate 5 refine gP ?_
 apply gE;apply gS;refine gR rfl ?_;refine GoR.call rfl rfl (aCF aFunc44 rfl) (clash_ok) ?_ (by rintro _ _ ⟨p2, q2, q, _, A2, _⟩; cases q);rintro v22 h22 ⟨p2, q2, q, x22, A2, _⟩;cases q;refine ⟨_, rfl, ?_⟩;have := e0.1;replace f14 := f14.ext x22;replace f10 := f10.ext x22;replace f6 := f6.ext x22;replace f2 := f2.ext x22;replace e0 := e0.trans x22;refine GoR.call rfl rfl (aCF aFunc27 rfl) (cv7 A2) ?_ np;rintro v23 h23 ⟨q, x23⟩;cases q;refine ⟨_, rfl, ?_⟩;replace f14 := f14.ext x23;replace f10 := f10.ext x23;replace f6 := f6.ext x23;replace f2 := f2.ext x23;replace e0 := e0.trans x23;iterate 5 refine gP ?_
 apply gE;apply gS;refine Go.drawnE plan12_0 ?_;refine gQ rfl rfl (ld24 rfl f2 rfl) rfl ?_;refine GoE.call rfl rfl (aCF aFunc36 rfl) (span36_ok) (dK 0 0 rfl) ?_ np;rintro v24 h24 ⟨q, x24⟩;cases q;replace f14 := f14.ext x24;replace f10 := f10.ext x24;replace f6 := f6.ext x24;replace f2 := f2.ext x24;replace e0 := e0.trans x24;refine ⟨(rck (h2 := h24) rfl (ld24 rfl f2 rfl) recheck_nil), _, rfl, ?_⟩;refine gQ rfl rfl (aOp_eqlSpan spanT24 rfl rfl rfl) rfl ?_;iterate 2 refine gQ rfl rfl rfl rfl ?_
 refine gQ rfl rfl (kET rfl rfl) rfl ?_;iterate 2 refine gQ rfl rfl rfl rfl ?_
 refine gQ rfl rfl (ld24 rfl f6 rfl) rfl ?_;refine GoE.call rfl rfl (aCF aFunc36 rfl) (span36_ok) (dK 255 8 (dD 255 7 (dD 255 6 (dD 255 5 (dD 255 4 (dD 255 3 (dD 255 2 (dD 255 0 rfl)))))))) ?_ np;rintro v25 h25 ⟨q, x25⟩;cases q;replace f14 := f14.ext x25;replace f10 := f10.ext x25;replace f6 := f6.ext x25;replace e0 := e0.trans x25;refine ⟨(rck (h2 := h25) rfl (ld24 rfl f6 rfl) recheck_nil), _, rfl, ?_⟩;refine gQ rfl rfl (aOp_eqlSpan spanT24 rfl rfl rfl) rfl ?_;iterate 3 refine gQ rfl rfl rfl rfl ?_
 refine gQ rfl rfl (kET rfl rfl) rfl ?_;iterate 2 refine gQ rfl rfl rfl rfl ?_
 refine gQ rfl rfl (ld24 rfl f10 rfl) rfl ?_;refine GoE.call rfl rfl (aCF aFunc36 rfl) (span36_ok) (dK 131071 17 (dD 131071 16 (dD 131071 15 (dD 131071 14 (dD 131071 13 (dD 131071 12 (dD 131071 11 (dD 131071 10 (dD 131071 8 rfl))))))))) ?_ np;rintro v26 h26 ⟨q, x26⟩;cases q;replace f14 := f14.ext x26;replace f10 := f10.ext x26;replace e0 := e0.trans x26;refine ⟨(rck (h2 := h26) rfl (ld24 rfl f10 rfl) recheck_nil), _, rfl, ?_⟩;refine gQ rfl rfl (aOp_eqlSpan spanT24 rfl rfl rfl) rfl ?_;iterate 3 refine gQ rfl rfl rfl rfl ?_
 refine gQ rfl rfl (kET rfl rfl) rfl ?_;iterate 2 refine gQ rfl rfl rfl rfl ?_
 refine gQ rfl rfl (ld24 rfl f14 rfl) rfl ?_;refine GoE.call rfl rfl (aCF aFunc36 rfl) (span36_ok) (dK 67108863 26 (dD 67108863 25 (dD 67108863 24 (dD 67108863 23 (dD 67108863 22 (dD 67108863 21 (dD 67108863 20 (dD 67108863 19 (dD 67108863 17 rfl))))))))) ?_ np;rintro v27 h27 ⟨q, x27⟩;cases q;replace f14 := f14.ext x27;replace e0 := e0.trans x27;refine ⟨(rck (h2 := h27) rfl (ld24 rfl f14 rfl) recheck_nil), _, rfl, ?_⟩;refine gQ rfl rfl (aOp_eqlSpan spanT24 rfl rfl rfl) rfl ?_;iterate 3 refine gQ rfl rfl rfl rfl ?_
 refine gQ rfl rfl (kET rfl rfl) rfl ?_;iterate 3 refine gQ rfl rfl rfl rfl ?_
 refine gQ rfl rfl (kET rfl rfl) rfl ?_;iterate 3 refine gQ rfl rfl rfl rfl ?_
 refine gQ rfl rfl (kET rfl rfl) rfl ?_;iterate 3 refine gQ rfl rfl rfl rfl ?_
 refine gQ rfl rfl (kET rfl rfl) rfl ?_;iterate 3 refine gQ rfl rfl rfl rfl ?_
 refine gQ rfl rfl (kET rfl rfl) rfl ?_;iterate 3 refine gQ rfl rfl rfl rfl ?_
 refine gQ rfl rfl (kET rfl rfl) rfl ?_;iterate 3 refine gQ rfl rfl rfl rfl ?_
 refine gQ rfl rfl (kET rfl rfl) rfl ?_;iterate 3 refine gQ rfl rfl rfl rfl ?_
 refine gQ rfl rfl (kET rfl rfl) rfl ?_;iterate 3 refine gQ rfl rfl rfl rfl ?_
 refine gQ rfl rfl (kET rfl rfl) rfl ?_;iterate 3 refine gQ rfl rfl rfl rfl ?_
 refine gQ rfl rfl (kET rfl rfl) rfl ?_;iterate 2 refine gQ rfl rfl rfl rfl ?_
 refine GoE.end rfl ?_;exact gW Tryz.func12 rfl rfl ⟨rfl, e0⟩
end Go.Proofs.YtobhkdgcciolmaaGreat

namespace Go.Proofs.YtobhkdgcciolmaaGreat
open Go Go.AbsE
set_option linter.unusedSimpArgs false
set_option maxRecDepth 100000
set_option maxHeartbeats 0
set_option linter.unusedVariables false
end Go.Proofs.YtobhkdgcciolmaaGreat

namespace Go.Proofs.YtobhkdgcciolmaaGreat
open Go Go.AbsE
set_option linter.unusedSimpArgs false
set_option maxRecDepth 100000
set_option maxHeartbeats 0
set_option linter.unusedVariables false
theorem andNot_bit {a b i : Nat} (ha : a < 2 ^ 64) (hi : i < 64) : (andNot a b).testBit i = (a.testBit i && !b.testBit i) := by
 unfold andNot
 rw [BitVec.testBit_toNat, BitVec.getLsbD_and, BitVec.getLsbD_not, BitVec.getLsbD_ofNat, BitVec.getLsbD_ofNat]
 simp [hi]
end Go.Proofs.YtobhkdgcciolmaaGreat

namespace Go.Proofs.YtobhkdgcciolmaaGreat
open Go Go.AbsE
set_option linter.unusedSimpArgs false
set_option maxRecDepth 100000
set_option maxHeartbeats 0
set_option linter.unusedVariables false
theorem mem_subs {of s : Nat} : s ∈ subs of ↔ s < of + 1 ∧ andNot s of = 0 ∧ popc s < popc of + 1 := by
 unfold subs subA subB goodS
 simp only [List.mem_flatMap, List.mem_range, List.mem_filter, Bool.and_eq_true, decide_eq_true_eq]
 constructor
 ·rintro ⟨j, hj, h1, h2, h3⟩;exact ⟨h1, h2, by omega⟩
 ·rintro ⟨h1, h2, h3⟩;exact ⟨popc s, h3, h1, h2, rfl⟩
theorem subs_pair (of : Nat) : (subs of).Pairwise fun a b => popc a < popc b ∨ (popc a = popc b ∧ a < b) := by
 unfold subs subA
 rw [List.pairwise_flatMap];refine ⟨fun j _ => ?_, List.pairwise_lt_range.imp fun {i j} hij x hx y hy => ?_⟩
 ·unfold subB
  refine (List.Pairwise.filter _ (List.pairwise_lt_range (n := of + 1))).imp_of_mem fun {a b} ha hb hab => ?_
  have h1 := (List.mem_filter.1 ha).2
  have h2 := (List.mem_filter.1 hb).2
  unfold goodS at h1 h2
  simp only [Bool.and_eq_true, decide_eq_true_eq] at h1 h2
  exact .inr ⟨by omega, hab⟩
 ·have h1 := (List.mem_filter.1 hx).2
  have h2 := (List.mem_filter.1 hy).2
  unfold goodS at h1 h2
  simp only [Bool.and_eq_true, decide_eq_true_eq] at h1 h2
  exact .inl (by omega)
theorem subs_first {of q : Nat} {p : Nat → Bool} (h : (subs of).find? p = some q) : q ∈ subs of ∧ p q = true ∧ ∀ s, s ∈ subs of → p s = true → popc q < popc s ∨ (popc q = popc s ∧ q ≤ s) := by
 refine ⟨List.mem_of_find?_eq_some h, List.find?_some h, fun s hs ps => ?_⟩
 obtain ⟨_, aa, bb, hl, has⟩ := List.find?_eq_some_iff_append.1 h
 have hP := subs_pair of
 rw [hl] at hs hP
 rcases List.mem_append.1 hs with q1 | q1
 ·have := has s q1
  rw [ps] at this;cases this
 ·rcases List.mem_cons.1 q1 with q2 | q2
  ·subst q2;exact .inr ⟨rfl, Nat.le_refl _⟩
  ·have := List.rel_of_pairwise_cons (List.pairwise_append.1 hP).2.1 q2
   omega
theorem small_bit {s i : Nat} (hs : s < 1024) (hi : ¬ i < 10) : s.testBit i = false := by
 have : 2 ^ 10 ≤ 2 ^ i := Nat.pow_le_pow_right (by decide) (by omega)
 exact Nat.testBit_lt_two_pow (by omega)
theorem sub_bits {s of : Nat} (hs : s < 1024) (h : ∀ i, i < 10 → s.testBit i = true → of.testBit i = true) : s ≤ of ∧ popc s ≤ popc of ∧ andNot s of = 0 := by
 have hall : ∀ i, s.testBit i = true → of.testBit i = true := fun i hi => by
  by_cases q : i < 10
  ·exact h i q hi
  ·rw [small_bit hs q] at hi;cases hi
 refine ⟨?_, ?_, ?_⟩
 ·have : s &&& of = s := Nat.eq_of_testBit_eq fun i => by
   rw [Nat.testBit_and]
   cases q : s.testBit i with
   | false => rfl
   | true => rw [hall i q]; rfl
  rw [← this]
  exact Nat.and_le_right
 ·unfold popc
  rw [← List.countP_eq_length_filter, ← List.countP_eq_length_filter]
  exact List.countP_mono_left fun i _ hi => hall i hi
 ·refine Nat.eq_of_testBit_eq fun i => ?_;rw [Nat.zero_testBit]
  by_cases q : i < 64
  ·rw [andNot_bit (by omega) q]
   cases q2 : s.testBit i with
   | false => rfl
   | true => rw [hall i q2]; rfl
  ·have h1 := andNot_le s of (by omega)
   exact small_bit (Nat.lt_of_le_of_lt h1 hs) (by omega)
theorem subs_bits {s of : Nat} (hs : s < 1024) (h : ∀ i, i < 10 → s.testBit i = true → of.testBit i = true) : s ∈ subs of := by
 obtain ⟨h1, h2, h3⟩ := sub_bits hs h
 exact mem_subs.2 ⟨by omega, h3, by omega⟩
theorem drop_zero (C : ClampV) : C.drop 0 = C := by
 have : ∀ (L : List EV) k, dropV 0 k L = L := fun L => by
  induction L with
  | nil => intro k; rfl
  | cons x L ih => intro k; unfold dropV; rw [Nat.zero_testBit, ih]; rfl
 unfold ClampV.drop
 rw [this]
end Go.Proofs.YtobhkdgcciolmaaGreat

namespace Go.AbsE
open Go Go.RowKit
section
variable {P : Program}
theorem HR.openWin {e : Env} {h : AH} {W : World} (r : HR P (Base.all W) e h W) {B lo : Nat} {PRE CS junk : List Value} {el : TypeId} {fr : Nat × Nat} {cs : List AVal} (hB : W.heap[B]? = some (.cells (PRE ++ (CS ++ junk)).toArray el fr)) (hp : PRE.length = lo) (hv : ∀ e, VRs e cs CS) :
  ∃ e' h', Env.le e e' ∧ HR P (Base.all W) e' h' W ∧ Ext h h' ∧ e' h.next = some (B, 0) ∧ Has h' h.next (.win lo cs) := by
 obtain ⟨h', k⟩ := new_some h (.win lo cs)
 obtain ⟨_, x1, x2⟩ := new_ext k
 obtain ⟨n1, n2, n3⟩ := AH.get_new k
 have hle := Env.le_ext (x := (B, 0)) r.fresh
 have hlt := (Array.getElem?_eq_some_iff.1 hB).1
 refine ⟨e.ext h.next (B, 0), h', hle, ?_, x1, Env.ext_same _ _ _, x2⟩
 refine { dom := ?_, blk := ?_, inj := ?_, imm := ?_, os := r.os, tape := r.tape, output := r.output, size := r.size, old := r.old, young := r.young }
 ·intro b' x kx
  rw [Env.ext_at] at kx
  by_cases hb' : b' = h.next
  ·omega
  ·rw [if_neg hb'] at kx; have := r.dom _ _ kx; omega
 ·intro b' o' kx
  rw [n3] at kx
  by_cases hb' : b' = h.next
  ·rw [if_pos hb'] at kx
   cases kx
   subst hb'
   exact ⟨B, 0, _, Env.ext_same _ _ _, (fun q => by cases q), hB, .win (hv _) hp⟩
  ·rw [if_neg hb'] at kx
   obtain ⟨B', c', O', k1, k2, k3, k4⟩ := r.blk _ _ kx
   exact ⟨B', c', O', hle.1 _ _ k1, k2, k3, k4.mono hle⟩
 ·intro b1 b2 B1 c1 c2 o1 o2 k1 k2 hro e1 e2
  rw [n3] at k1 k2
  rw [Env.ext_at] at e1 e2
  by_cases q1 : b1 = h.next
  ·rw [if_pos q1] at k1; cases k1; cases hro
  ·rw [if_neg q1] at k1 e1
   by_cases q2 : b2 = h.next
   ·rw [if_pos q2] at e2
    cases e2
    obtain ⟨B', c', O', j1, j2, _, _⟩ := r.blk _ _ k1
    rw [e1] at j1
    cases j1
    exact absurd hlt (j2 hro)
   ·rw [if_neg q2] at k2 e2
    exact r.inj _ _ _ _ _ _ _ k1 k2 hro e1 e2
 ·intro B1 CS' hi
  obtain ⟨i1, i2⟩ := r.imm B1 CS' hi
  refine ⟨i1, fun b' o' c' kx hro ke => ?_⟩
  rw [n3] at kx
  rw [Env.ext_at] at ke
  by_cases q : b' = h.next
  ·rw [if_pos q] at kx; cases kx; cases hro
  ·rw [if_neg q] at kx ke; exact i2 b' o' c' kx hro ke
end
end Go.AbsE

namespace Go.AbsE
open Go Go.RowKit
section
variable {P : Program}
theorem VRs.kinds {K : Type} {va : K → AVal} {vv : K → Value} (hvr : ∀ e x, VR e (va x) (vv x)) {e : Env} : ∀ l : List K, VRs e (l.map fun x => va x) (l.map fun x => vv x) := by
 intro l
 induction l with
 | nil => exact .nil
 | cons a l ih => exact .cons (hvr _ _) ih
theorem rowsG_eq {K : Type} {vv : K → Value} {C : List Value} {off sz : Nat} : ∀ (len : Nat) (f : Nat → List K), (∀ i, i < len → (f i).length = sz ∧ ∀ k n, (f i)[k]? = some n → C[off + i * sz + k]? = some (vv n)) →
  (C.drop off).take (len * sz) = (((List.range len).map f).flatten).map fun x => vv x := by
 intro len
 induction len with
 | zero => intro f _; simp
 | succ len ih =>
  intro f hf
  have h1 := ih f fun i hi => hf i (by omega)
  obtain ⟨l1, l2⟩ := hf len (by omega)
  rw [Nat.add_mul, Nat.one_mul, List.take_add, h1, List.range_succ, List.map_append, List.flatten_append, List.map_append]
  congr 1
  simp only [List.map_cons, List.map_nil, List.flatten_cons, List.flatten_nil, List.append_nil]
  rw [List.drop_drop]
  refine List.ext_getElem? fun k => ?_
  rw [List.getElem?_take, List.getElem?_drop, List.getElem?_map]
  by_cases hk : k < sz
  ·rw [if_pos hk]
   obtain ⟨n, hn⟩ : ∃ n, (f len)[k]? = some n := ⟨(f len)[k]'(by omega), by simp⟩
   rw [hn]
   exact l2 k n hn
  ·rw [if_neg hk]
   have : (f len)[k]? = none := by simp; omega
   rw [this]
   rfl
theorem HR.openRowsG {K : Type} (va : K → AVal) (vv : K → Value) (hvr : ∀ e x, VR e (va x) (vv x)) {e : Env} {h : AH} {W : World} (r : HR P (Base.all W) e h W) {a : Addr} {len cap sz : Nat} {C : Array Value} {el : TypeId} {fr : Nat × Nat} (hB : W.heap[a.block]? = some (.cells C el fr)) (hspot : a.spot = none) (f : Nat → List K)
  (hf : ∀ i, i < len → (f i).length = sz ∧ ∀ k n, (f i)[k]? = some n → W.cell? (a.add (i * sz + k)) = some (vv n)) :
  ∃ e' h' s, Env.le e e' ∧ HR P (Base.all W) e' h' W ∧ Ext h h' ∧ VR e' s (.slice (some a) len cap) ∧ SliceOf h' sz s (((List.range len).map f).map fun l => l.map fun x => va x) ∧ sameA s s = true := by
 obtain ⟨B, off, spot⟩ := a
 dsimp only at hB hspot
 subst hspot
 have hcell : ∀ i, i < len → (f i).length = sz ∧ ∀ k n, (f i)[k]? = some n → C.toList[off + i * sz + k]? = some (vv n) := fun i hi => by
  obtain ⟨h1, h2⟩ := hf i hi
  refine ⟨h1, fun k n hn => ?_⟩
  have := h2 k n hn
  have e1 := addr_add B off (i * sz + k)
  rw [e1] at this
  unfold World.cell? at this
  rw [hB] at this
  simp only [Option.isSome_none, Bool.false_eq_true, if_false] at this
  rw [Array.getElem?_toList, Nat.add_assoc]
  exact this
 have hrows := rowsG_eq len f hcell
 let R := (List.range len).map f
 have hRl : ∀ l, l ∈ R → l.length = sz := fun l hl => by
  obtain ⟨i, hi, rfl⟩ := List.mem_map.1 hl
  exact (hf i (List.mem_range.1 hi)).1
 have hRlen : R.length = len := by simp [R]
 have hlen : (C.toList.drop off).take (len * sz) = (R.flatten).map fun x => vv x := hrows
 have hfl : R.flatten.length = len * sz := by
  have : ∀ {L : List (List K)}, (∀ l, l ∈ L → l.length = sz) → L.flatten.length = L.length * sz := by
   intro L
   induction L with
   | nil => intro _; simp
   | cons a L ih => intro h; simp only [List.flatten_cons, List.length_append, h a (by simp), ih fun l q => h l (by simp [q]), List.length_cons, Nat.add_mul]; omega
  rw [this hRl, hRlen]
 by_cases h0 : len * sz = 0
 ·-- nothing of it is read
  obtain ⟨e', h', k1, k2, k3, k4, k5⟩ := r.openWin (B := B) (lo := 0) (PRE := []) (CS := []) (junk := C.toList) (el := el) (fr := fr) (cs := []) (by simpa using hB) rfl (fun _ => .nil)
  refine ⟨e', h', .slice h.next off len cap, k1, k2, k3, .slice k4, .mk rfl rfl k5.1 (by simp) (fun l hl => ?_) ?_, by simp [sameA]⟩
  ·obtain ⟨x, hx, rfl⟩ := List.mem_map.1 hl
   rw [List.length_map]
   exact hRl x hx
  ·have hnil : R.flatten = [] := List.eq_nil_of_length_eq_zero (by omega)
   unfold loadCells
   rw [k5.2]
   have e1 : ((R.map fun l => l.map fun x => va x).length * sz) = 0 := by rw [List.length_map, hRlen]; exact h0
   have e2 : (R.map fun l => l.map fun x => va x).flatten = [] := by rw [← List.map_flatten, hnil]; rfl
   show cond (Nat.ble 0 off) (slice? [] (off - 0) ((R.map fun l => l.map fun x => va x).length * sz)) none = some _
   rw [e1, e2, show Nat.ble 0 off = true from Nat.ble_eq_true_of_le (Nat.zero_le _)]
   simp [slice?]
 ·have hle : off + len * sz ≤ C.toList.length := by
   have : ((C.toList.drop off).take (len * sz)).length = len * sz := by rw [hlen, List.length_map, hfl]
   rw [List.length_take, List.length_drop] at this
   omega
  have hC : C = (C.toList.take off ++ ((R.flatten.map fun x => vv x) ++ C.toList.drop (off + len * sz))).toArray := by
   rw [← hlen]
   have : C.toList.take off ++ ((C.toList.drop off).take (len * sz) ++ C.toList.drop (off + len * sz)) = C.toList := by
    rw [← List.drop_drop, List.take_append_drop, List.take_append_drop]
   rw [this]
  obtain ⟨e', h', k1, k2, k3, k4, k5⟩ := r.openWin (B := B) (lo := off) (PRE := C.toList.take off) (CS := R.flatten.map fun x => vv x) (junk := C.toList.drop (off + len * sz)) (el := el) (fr := fr) (cs := R.flatten.map fun x => va x) (by rw [← hC]; exact hB) (by rw [List.length_take]; omega) (fun _ => VRs.kinds hvr _)
  refine ⟨e', h', .slice h.next off len cap, k1, k2, k3, .slice k4, .mk rfl rfl k5.1 (by simp) (fun l hl => ?_) ?_, by simp [sameA]⟩
  ·obtain ⟨x, hx, rfl⟩ := List.mem_map.1 hl
   rw [List.length_map]
   exact hRl x hx
  ·unfold loadCells
   rw [k5.2]
   have e1 : ((R.map fun l => l.map fun x => va x).length * sz) = len * sz := by rw [List.length_map, hRlen]
   have e2 : (R.map fun l => l.map fun x => va x).flatten = R.flatten.map fun x => va x := by rw [← List.map_flatten]
   show cond (Nat.ble off off) (slice? (R.flatten.map fun x => va x) (off - off) ((R.map fun l => l.map fun x => va x).length * sz)) none = some _
   rw [e1, e2, show Nat.ble off off = true from Nat.ble_eq_true_of_le (Nat.le_refl _), Nat.sub_self]
   exact slice_all (by rw [List.length_map, hfl])
end
end Go.AbsE

namespace Go.AbsE
open Go Go.RowKit
section
variable {P : Program}
theorem HR.openRowsC {K : Type} (va : K → AVal) (vv : K → Value) (hvr : ∀ e x, VR e (va x) (vv x)) {e : Env} {h : AH} {W : World} (r : HR P (Base.all W) e h W) {a : Addr} {len cap sz : Nat} {C : Array Value} {el : TypeId} {fr : Nat × Nat} (hB : W.heap[a.block]? = some (.cells C el fr)) (hspot : a.spot = none) (f : Nat → List K)
  (hf : ∀ i, i < len → (f i).length = sz ∧ ∀ k n, (f i)[k]? = some n → W.cell? (a.add (i * sz + k)) = some (vv n)) :
  ∃ e' h' s, Env.le e e' ∧ HR P (Base.all W) e' h' W ∧ Ext h h' ∧ VR e' s (.slice (some a) len cap) ∧ SliceOf h' sz s (((List.range len).map f).map fun l => l.map fun x => va x) ∧ sameA s s = true ∧ ∃ b o, s = .slice b o len cap := by
 obtain ⟨B, off, spot⟩ := a
 dsimp only at hB hspot
 subst hspot
 have hcell : ∀ i, i < len → (f i).length = sz ∧ ∀ k n, (f i)[k]? = some n → C.toList[off + i * sz + k]? = some (vv n) := fun i hi => by
  obtain ⟨h1, h2⟩ := hf i hi
  refine ⟨h1, fun k n hn => ?_⟩
  have := h2 k n hn
  have e1 := addr_add B off (i * sz + k)
  rw [e1] at this
  unfold World.cell? at this
  rw [hB] at this
  simp only [Option.isSome_none, Bool.false_eq_true, if_false] at this
  rw [Array.getElem?_toList, Nat.add_assoc]
  exact this
 have hrows := rowsG_eq len f hcell
 let R := (List.range len).map f
 have hRl : ∀ l, l ∈ R → l.length = sz := fun l hl => by
  obtain ⟨i, hi, rfl⟩ := List.mem_map.1 hl
  exact (hf i (List.mem_range.1 hi)).1
 have hRlen : R.length = len := by simp [R]
 have hlen : (C.toList.drop off).take (len * sz) = (R.flatten).map fun x => vv x := hrows
 have hfl : R.flatten.length = len * sz := by
  have : ∀ {L : List (List K)}, (∀ l, l ∈ L → l.length = sz) → L.flatten.length = L.length * sz := by
   intro L
   induction L with
   | nil => intro _; simp
   | cons a L ih => intro h; simp only [List.flatten_cons, List.length_append, h a (by simp), ih fun l q => h l (by simp [q]), List.length_cons, Nat.add_mul]; omega
  rw [this hRl, hRlen]
 by_cases h0 : len * sz = 0
 ·-- nothing of it is read
  obtain ⟨e', h', k1, k2, k3, k4, k5⟩ := r.openWin (B := B) (lo := 0) (PRE := []) (CS := []) (junk := C.toList) (el := el) (fr := fr) (cs := []) (by simpa using hB) rfl (fun _ => .nil)
  refine ⟨e', h', .slice h.next off len cap, k1, k2, k3, .slice k4, .mk rfl rfl k5.1 (by simp) (fun l hl => ?_) ?_, by simp [sameA], _, _, rfl⟩
  ·obtain ⟨x, hx, rfl⟩ := List.mem_map.1 hl
   rw [List.length_map]
   exact hRl x hx
  ·have hnil : R.flatten = [] := List.eq_nil_of_length_eq_zero (by omega)
   unfold loadCells
   rw [k5.2]
   have e1 : ((R.map fun l => l.map fun x => va x).length * sz) = 0 := by rw [List.length_map, hRlen]; exact h0
   have e2 : (R.map fun l => l.map fun x => va x).flatten = [] := by rw [← List.map_flatten, hnil]; rfl
   show cond (Nat.ble 0 off) (slice? [] (off - 0) ((R.map fun l => l.map fun x => va x).length * sz)) none = some _
   rw [e1, e2, show Nat.ble 0 off = true from Nat.ble_eq_true_of_le (Nat.zero_le _)]
   simp [slice?]
 ·have hle : off + len * sz ≤ C.toList.length := by
   have : ((C.toList.drop off).take (len * sz)).length = len * sz := by rw [hlen, List.length_map, hfl]
   rw [List.length_take, List.length_drop] at this
   omega
  have hC : C = (C.toList.take off ++ ((R.flatten.map fun x => vv x) ++ C.toList.drop (off + len * sz))).toArray := by
   rw [← hlen]
   have : C.toList.take off ++ ((C.toList.drop off).take (len * sz) ++ C.toList.drop (off + len * sz)) = C.toList := by
    rw [← List.drop_drop, List.take_append_drop, List.take_append_drop]
   rw [this]
  obtain ⟨e', h', k1, k2, k3, k4, k5⟩ := r.openWin (B := B) (lo := off) (PRE := C.toList.take off) (CS := R.flatten.map fun x => vv x) (junk := C.toList.drop (off + len * sz)) (el := el) (fr := fr) (cs := R.flatten.map fun x => va x) (by rw [← hC]; exact hB) (by rw [List.length_take]; omega) (fun _ => VRs.kinds hvr _)
  refine ⟨e', h', .slice h.next off len cap, k1, k2, k3, .slice k4, .mk rfl rfl k5.1 (by simp) (fun l hl => ?_) ?_, by simp [sameA], _, _, rfl⟩
  ·obtain ⟨x, hx, rfl⟩ := List.mem_map.1 hl
   rw [List.length_map]
   exact hRl x hx
  ·unfold loadCells
   rw [k5.2]
   have e1 : ((R.map fun l => l.map fun x => va x).length * sz) = len * sz := by rw [List.length_map, hRlen]
   have e2 : (R.map fun l => l.map fun x => va x).flatten = R.flatten.map fun x => va x := by rw [← List.map_flatten]
   show cond (Nat.ble off off) (slice? (R.flatten.map fun x => va x) (off - off) ((R.map fun l => l.map fun x => va x).length * sz)) none = some _
   rw [e1, e2, show Nat.ble off off = true from Nat.ble_eq_true_of_le (Nat.le_refl _), Nat.sub_self]
   exact slice_all (by rw [List.length_map, hfl])
end
end Go.AbsE

namespace Go.AbsE
open Go
set_option linter.unusedSimpArgs false
set_option linter.unusedVariables false
section
variable {P : Program} {h : AH} {dst : Option Tmp} {ty tt el : TypeId} {pos : String} {after : Array Edge} {guard : Option (Nat × Bool)} {x y : Operand}
def CutS (s : AVal) (n : Nat) : Prop := n ≠ 0 → ∃ b off cap, s = .slice b off n cap ∧ n ≤ cap
theorem SliceOf.take {sz b off n cap cap' i : Nat} {L : List (List AVal)} (k : SliceOf h sz (.slice b off n cap) L) (hL : L.length = n) (hi : i ≤ n) : SliceOf h sz (.slice b off i cap') (L.take i) := by
 cases k with
 | mk hs hn hb hl hz hc =>
  rw [show aSlElems (.slice b off n cap) = some (b, off, n) from rfl] at hs
  cases hs
  have hlen : (L.take i).length = i := by rw [List.length_take]; omega
  refine .mk (b := b) (off := off) (len := i) rfl rfl hb hlen (fun l hl => hz l (List.mem_of_mem_take hl)) ?_
  have hp := loadCells_part (k := 0) (m := i * sz) hc (by rw [Nat.zero_add]; exact Nat.mul_le_mul_right _ (by omega))
  rw [Nat.add_zero] at hp
  rw [hlen, hp]
  congr 1
  have e1 : (L.take i).flatten.length = i * sz := by
   rw [flatten_len (sz := sz) (fun l hl => hz l (List.mem_of_mem_take hl)), hlen]
  have e3 : L.flatten = (L.take i).flatten ++ (L.drop i).flatten := by rw [← List.flatten_append, List.take_append_drop]
  rw [List.drop_zero, e3, ← e1, List.take_left]
end
end Go.AbsE

namespace Go.Proofs.YtobhkdgcciolmaaGreat
open Go Go.AbsE Go.ChangeShapes Go.WideShapes Go.ChangeAt Go.RowKit
set_option linter.unusedSimpArgs false
set_option maxRecDepth 100000
set_option linter.unusedVariables false
theorem cells27 : Tryz.prog.cellsOf 27 = 4 := by kernel_rfl
theorem cells3 : Tryz.prog.cellsOf 3 = 1 := by kernel_rfl
theorem cells24 : Tryz.prog.cellsOf 24 = 2 := by kernel_rfl
theorem cells58 : Tryz.prog.cellsOf 58 = 6 := by kernel_rfl
theorem cells53 : Tryz.prog.cellsOf 53 = 4 := by kernel_rfl
theorem cells22 : Tryz.prog.cellsOf 22 = 1 := by kernel_rfl
theorem cells25 : Tryz.prog.cellsOf 25 = 1 := by kernel_rfl
theorem ctypes27 : Tryz.prog.cellTypes Tryz.prog.depth 27 = some [22, 3, 3, 25] := by kernel_rfl
theorem laidOut : laidOutB Tryz.prog = true := by kernel_rfl
def inI64 (n : Int) : Prop := -9223372036854775808 ≤ n ∧ n ≤ 9223372036854775807
theorem wf_in {n : Int} (h : (Lit.int .i64 n).wf = true) : inI64 n := by
 simp only [Lit.wf, Bool.and_eq_true, decide_eq_true_eq] at h
 have h1 : IntKind.i64.min = -9223372036854775808 := by decide
 have h2 : IntKind.i64.max = 9223372036854775807 := by decide
 rw [h1, h2] at h
 constructor <;> omega
variable {H : Type} {enc : TypeId × Value → H} {W : World} {base : Nat} {spare : Nat → Bool} {held : Bool}
theorem int_row {n : Nat} {cs : List Value} {x : DataW H × List MemPlace} (h : DataW.trod enc Tryz.prog W base spare held n 3 cs = some x) : ∃ a : Int, cs = [.int .i64 a] ∧ inI64 a := by
 obtain ⟨a, h1, _, h3⟩ := DataW.trod_int Tryz.underlying3 h
 exact ⟨a, h1, wf_in h3⟩
theorem span_row {n : Nat} {cs : List Value} {x : DataW H × List MemPlace} (h : DataW.trod enc Tryz.prog W base spare held n 24 cs = some x) : ∃ a b : Int, cs = [.int .i64 a, .int .i64 b] := by
 obtain ⟨y0, y1, k, _, hl, h0, h1⟩ := ChangeShapes.trod_struct2 Tryz.underlying24 h
 rw [cells24] at hl
 dsimp only at h0 h1
 rw [cells3] at h0 h1
 obtain ⟨a, ha, _⟩ := int_row h0
 obtain ⟨b, hb, _⟩ := int_row h1
 match cs, hl with
 | [c0, c1], _ =>
  simp at ha hb
  exact ⟨a, b, by rw [ha, hb]⟩
theorem list3 {α : Type} {l : List α} (h : l.length = 3) : ∃ c0 c1 c2, l = [c0, c1, c2] := by
 match l, h with
 | [c0, c1, c2], _ => exact ⟨c0, c1, c2, rfl⟩
theorem list4 {α : Type} {l : List α} (h : l.length = 4) : ∃ c0 c1 c2 c3, l = [c0, c1, c2, c3] := by
 match l, h with
 | [c0, c1, c2, c3], _ => exact ⟨c0, c1, c2, c3, rfl⟩
theorem list6 {α : Type} {l : List α} (h : l.length = 6) : ∃ c0 c1 c2 c3 c4 c5, l = [c0, c1, c2, c3, c4, c5] := by
 match l, h with
 | [c0, c1, c2, c3, c4, c5], _ => exact ⟨c0, c1, c2, c3, c4, c5, rfl⟩
theorem pile_row {n : Nat} {cs : List Value} {x : DataW H × List MemPlace} (h : DataW.trod enc Tryz.prog W base spare held n 58 cs = some x) : ∃ r : List Int, r.length = 6 ∧ cs = r.map fun x => Value.int .i64 x := by
 obtain ⟨xs, m, _, _, hl, hlen, hfl⟩ := DataW.trod_struct Tryz.underlying58 h
 rw [cells58] at hl
 obtain ⟨c0, c1, c2, c3, c4, c5, rfl⟩ := list6 hl
 obtain ⟨y0, y1, y2, rfl⟩ := list3 hlen
 have t0 : DataW.trod enc Tryz.prog W base spare held m 24 [c0, c1] = some y0 := by
  have this : DataW.trod enc Tryz.prog W base spare held m 24 (([c0, c1, c2, c3, c4, c5].drop 0).take (Tryz.prog.cellsOf 24)) = [y0, y1, y2][0]? := hfl 0 _ rfl
  rw [cells24] at this;exact this
 have t1 : DataW.trod enc Tryz.prog W base spare held m 24 [c2, c3] = some y1 := by
  have this : DataW.trod enc Tryz.prog W base spare held m 24 (([c0, c1, c2, c3, c4, c5].drop 2).take (Tryz.prog.cellsOf 24)) = [y0, y1, y2][1]? := hfl 1 _ rfl
  rw [cells24] at this;exact this
 have t2 : DataW.trod enc Tryz.prog W base spare held m 24 [c4, c5] = some y2 := by
  have this : DataW.trod enc Tryz.prog W base spare held m 24 (([c0, c1, c2, c3, c4, c5].drop 4).take (Tryz.prog.cellsOf 24)) = [y0, y1, y2][2]? := hfl 2 _ rfl
  rw [cells24] at this;exact this
 obtain ⟨a0, a1, e0⟩ := span_row t0
 obtain ⟨a2, a3, e1⟩ := span_row t1
 obtain ⟨a4, a5, e2⟩ := span_row t2
 simp at e0 e1 e2
 exact ⟨[a0, a1, a2, a3, a4, a5], rfl, by rw [e0.1, e0.2, e1.1, e1.2, e2.1, e2.2]; rfl⟩
theorem ev_row {n : Nat} {cs : List Value} {x : DataW H × List MemPlace} (h : DataW.trod enc Tryz.prog W base spare held n 53 cs = some x) : ∃ r : List Int, r.length = 4 ∧ cs = r.map fun x => Value.int .i64 x := by
 obtain ⟨xs, m, _, _, hl, hlen, hfl⟩ := DataW.trod_struct Tryz.underlying53 h
 rw [cells53] at hl
 obtain ⟨c0, c1, c2, c3, rfl⟩ := list4 hl
 obtain ⟨y0, y1, y2, rfl⟩ := list3 hlen
 have t0 : DataW.trod enc Tryz.prog W base spare held m 3 [c0] = some y0 := by
  have this : DataW.trod enc Tryz.prog W base spare held m 3 (([c0, c1, c2, c3].drop 0).take (Tryz.prog.cellsOf 3)) = [y0, y1, y2][0]? := hfl 0 _ rfl
  rw [cells3] at this;exact this
 have t1 : DataW.trod enc Tryz.prog W base spare held m 3 [c1] = some y1 := by
  have this : DataW.trod enc Tryz.prog W base spare held m 3 (([c0, c1, c2, c3].drop 1).take (Tryz.prog.cellsOf 3)) = [y0, y1, y2][1]? := hfl 1 _ rfl
  rw [cells3] at this;exact this
 have t2 : DataW.trod enc Tryz.prog W base spare held m 24 [c2, c3] = some y2 := by
  have this : DataW.trod enc Tryz.prog W base spare held m 24 (([c0, c1, c2, c3].drop 2).take (Tryz.prog.cellsOf 24)) = [y0, y1, y2][2]? := hfl 2 _ rfl
  rw [cells24] at this;exact this
 obtain ⟨a0, e0, _⟩ := int_row t0
 obtain ⟨a1, e1, _⟩ := int_row t1
 obtain ⟨a2, a3, e2⟩ := span_row t2
 simp at e0 e1 e2
 exact ⟨[a0, a1, a2, a3], rfl, by rw [e0, e1, e2.1, e2.2]; rfl⟩
theorem slice_okw {t el : TypeId} {a : Addr} {len cap : Nat} {bs : Nat} (ht : Tryz.prog.underlying t = some (.slice el)) (h : Cell.okWide Tryz.prog W .any bs t (.slice (some a) len cap)) : a.spot = none ∧ ∃ C e fr, W.heap[a.block]? = some (.cells C e fr) := by
 unfold Cell.okWide at h
 rw [ht] at h
 dsimp only at h
 unfold Cell.ok at h
 rw [ht] at h
 dsimp only at h
 obtain ⟨_, _, _, h2, row, n, h3, _⟩ := h
 refine ⟨h2, ?_⟩
 unfold World.shape? at h3
 split at h3
 ·rename_i c e fr hq
  exact ⟨c, e, fr, hq⟩
 ·cases h3
theorem slice_cap {t el : TypeId} {a : Addr} {len cap : Nat} {bs : Nat} (ht : Tryz.prog.underlying t = some (.slice el)) (h : Cell.okWide Tryz.prog W .any bs t (.slice (some a) len cap)) : len < 9223372036854775808 := by
 unfold Cell.okWide at h
 rw [ht] at h
 dsimp only at h
 unfold Cell.ok at h
 rw [ht] at h
 dsimp only at h
 obtain ⟨h1, h2, _⟩ := h
 have : IntKind.i64.max = 9223372036854775807 := by decide
 rw [this] at h2
 omega
theorem slice_le {t el : TypeId} {a : Addr} {len cap : Nat} {bs : Nat} (ht : Tryz.prog.underlying t = some (.slice el)) (h : Cell.okWide Tryz.prog W .any bs t (.slice (some a) len cap)) : len ≤ cap := by
 unfold Cell.okWide at h
 rw [ht] at h
 dsimp only at h
 unfold Cell.ok at h
 rw [ht] at h
 dsimp only at h
 exact h.1
theorem rows_of {t el : TypeId} {sz fuel : Nat} {c : Value} {y : DataW H × List MemPlace} {bs : Nat} (ht : Tryz.prog.underlying t = some (.slice el)) (hsz : Tryz.prog.cellsOf el = sz)
  (hrow : ∀ {n : Nat} {cs : List Value} {x : DataW H × List MemPlace}, DataW.trod enc Tryz.prog W 0 (fun _ => true) true n el cs = some x → ∃ r : List Int, r.length = sz ∧ cs = r.map fun x => Value.int .i64 x)
  (h : DataW.trod enc Tryz.prog W 0 (fun _ => true) true fuel t [c] = some y) (hok : Cell.okWide Tryz.prog W .any bs t c) {e : Env} {hh : AH} (r : HR Tryz.prog (Base.all W) e hh W) :
  ∃ e' h' s, ∃ R : List (List Int), Env.le e e' ∧ HR Tryz.prog (Base.all W) e' h' W ∧ Ext hh h' ∧ VR e' s c ∧ (∀ l, l ∈ R → l.length = sz) ∧ SliceOf h' sz s (R.map fun l => l.map fun x => AVal.int .i64 x) ∧ R.length < 9223372036854775808 ∧ CutS s R.length := by
 rcases Deep.open_slice ht h with ⟨hcs, _⟩ | ⟨a, len, cap, m, n, D, Pl, hcs, _, hl, _, hmm, _, hx⟩
 ·simp at hcs
  subst hcs;exact ⟨e, hh, .nilslice, [], Env.le_refl e, r, Ext.refl _, .nilslice, (fun _ q => by cases q), .nil, by decide, fun q => absurd rfl q⟩
 ·simp at hcs
  subst hcs
  obtain ⟨hs, C, el', fr, hB⟩ := slice_okw ht hok
  have hcap := slice_cap ht hok
  have hle := slice_le ht hok
  have hm : m = cap := by simpa using hmm
  have each : ∀ i, ∃ rr : List Int, i < len → rr.length = sz ∧ ∀ k n, rr[k]? = some n → W.cell? (a.add (i * sz + k)) = some (.int .i64 n) := by
   intro i
   by_cases hi : i < len
   ·obtain ⟨cs', h1, h2⟩ := hx i (by omega)
    obtain ⟨rr, hr1, hr2⟩ := hrow h2
    rw [hsz] at h1
    obtain ⟨_, hlen, hc⟩ := World.cells?_some h1
    refine ⟨rr, fun _ => ⟨hr1, fun k n hk => ?_⟩⟩
    have hkl := (List.getElem?_eq_some_iff.1 hk).1
    have := hc k (by omega)
    obtain ⟨B, off, spot⟩ := a
    dsimp only at hs
    subst hs;rw [addr_add, addr_add] at this;rw [addr_add, ← Nat.add_assoc, this, hr2, List.getElem?_map, hk]
    rfl
   ·exact ⟨[], fun q => absurd q hi⟩
  obtain ⟨f, hf⟩ := Classical.axiomOfChoice each
  obtain ⟨e', h', s, k1, k2, k3, k4, k5, _, b, o, rfl⟩ := r.openRowsC (fun x => AVal.int .i64 x) (fun x => Value.int .i64 x) (fun _ _ => .int _ _) (cap := cap) (len := len) (sz := sz) hB hs f hf
  exact ⟨e', h', _, (List.range len).map f, k1, k2, k3, k4, fun l hl => by
   obtain ⟨i, hi, rfl⟩ := List.mem_map.1 hl
   exact (hf i (List.mem_range.1 hi)).1, k5, by rw [List.length_map, List.length_range]; exact hcap, fun _ => ⟨b, o, cap, by rw [List.length_map, List.length_range], by rw [List.length_map, List.length_range]; exact hle⟩⟩
def toP : List Int → PV
 | [a, b, c, d, e, f] => ⟨a, b, c, d, e, f⟩
 | _ => ⟨0, 0, 0, 0, 0, 0⟩
def toE : List Int → EV
 | [a, b, c, d] => ⟨a, b, c, d⟩
 | _ => ⟨0, 0, 0, 0⟩
theorem ps_eq {R : List (List Int)} (h : ∀ l, l ∈ R → l.length = 6) : (R.map fun l => l.map fun x => AVal.int .i64 x) = (R.map toP).map PV.cells := by
 rw [List.map_map];refine List.map_congr_left fun l hl => ?_
 match l, h l hl with
 | [a, b, c, d, e, f], _ => rfl
theorem es_eq {R : List (List Int)} (h : ∀ l, l ∈ R → l.length = 4) : (R.map fun l => l.map fun x => AVal.int .i64 x) = (R.map toE).map EV.cells := by
 rw [List.map_map];refine List.map_congr_left fun l hl => ?_
 match l, h l hl with
 | [a, b, c, d], _ => rfl
theorem array4 {α : Type} {cs : Array α} (h : cs.size = 4) : ∃ c0 c1 c2 c3, cs = #[c0, c1, c2, c3] := by
 obtain ⟨l⟩ := cs
 match l, h with
 | [c0, c1, c2, c3], _ => exact ⟨c0, c1, c2, c3, rfl⟩
theorem clamp_of {bs : Nat} {v : Value} {d : DataW H} {p : List MemPlace} (hv : Value.okWide Tryz.prog W .any bs 27 v) (h : DataW.Trod enc Tryz.prog W 0 (fun _ => true) true 27 v d p) {e : Env} {hh : AH} (r : HR Tryz.prog (Base.all W) e hh W) :
  ∃ e' h' C sp se, Env.le e e' ∧ HR Tryz.prog (Base.all W) e' h' W ∧ Ext hh h' ∧ VR e' (.agg (C.cells sp se)) v ∧ ClampAt h' C sp se ∧ C.ps.length < 9223372036854775808 ∧ C.es.length < 9223372036854775808 ∧ CutS se C.es.length := by
 have hv2 := hv
 obtain ⟨cs, rfl, hsz⟩ := okWide_struct Tryz.underlying27 hv
 obtain ⟨c0, c1, c2, c3, rfl⟩ := array4 (hsz.trans cells27)
 obtain ⟨fuel, hf⟩ := h
 obtain ⟨xs, n, _, _, hl, hlen, hfl⟩ := DataW.trod_struct Tryz.underlying27 hf
 obtain ⟨y0, y1, y2, rfl⟩ := list3 hlen
 have t0 : DataW.trod enc Tryz.prog W 0 (fun _ => true) true n 22 [c0] = some y0 := by
  have this : DataW.trod enc Tryz.prog W 0 (fun _ => true) true n 22 (([c0, c1, c2, c3].drop 0).take (Tryz.prog.cellsOf 22)) = [y0, y1, y2][0]? := hfl 0 _ rfl
  rw [cells22] at this;exact this
 have t1 : DataW.trod enc Tryz.prog W 0 (fun _ => true) true n 24 [c1, c2] = some y1 := by
  have this : DataW.trod enc Tryz.prog W 0 (fun _ => true) true n 24 (([c0, c1, c2, c3].drop 1).take (Tryz.prog.cellsOf 24)) = [y0, y1, y2][1]? := hfl 1 _ rfl
  rw [cells24] at this;exact this
 have t2 : DataW.trod enc Tryz.prog W 0 (fun _ => true) true n 25 [c3] = some y2 := by
  have this : DataW.trod enc Tryz.prog W 0 (fun _ => true) true n 25 (([c0, c1, c2, c3].drop 3).take (Tryz.prog.cellsOf 25)) = [y0, y1, y2][2]? := hfl 2 _ rfl
  rw [cells25] at this;exact this
 unfold Value.okWide at hv2
 rw [Tryz.underlying27] at hv2
 obtain ⟨cs, hcs, _, ts, hts, _, hrow⟩ := hv2
 injection hcs with hcs
 subst hcs;rw [ctypes27] at hts;cases hts
 obtain ⟨u0, hu0, ok0⟩ := hrow 0 c0 rfl
 obtain ⟨u3, hu3, ok3⟩ := hrow 3 c3 rfl
 cases hu0;cases hu3
 obtain ⟨n1, n2, e1⟩ := span_row t1
 simp at e1
 obtain ⟨rfl, rfl⟩ := e1
 obtain ⟨ea, ha, s0, R0, a1, a2, a3, a4, a5, a6, a7, a8⟩ := rows_of Tryz.underlying22 cells58 pile_row t0 ok0 r
 obtain ⟨eb, hb, s1, R1, b1, b2, b3, b4, b5, b6, b7, b8⟩ := rows_of Tryz.underlying25 cells53 ev_row t2 ok3 a2
 rw [ps_eq a5] at a6;rw [es_eq b5] at b6;refine ⟨eb, hb, ⟨R0.map toP, n1, n2, R1.map toE⟩, s0, s1, Env.le_trans a1 b1, b2, a3.trans b3, ?_, ⟨a6.ext b3, b6⟩, by simpa using a7, by simpa using b7, by show CutS s1 (R1.map toE).length; rw [List.length_map]; exact b8⟩;exact .agg (CS := [_, _, _, _]) (.cons (a4.mono b1) (.cons (.int _ _) (.cons (.int _ _) (.cons b4 .nil))))
end Go.Proofs.YtobhkdgcciolmaaGreat

namespace Go.Proofs.YtobhkdgcciolmaaGreat
open Go Go.AbsE
set_option linter.unusedSimpArgs false
set_option maxRecDepth 100000
set_option maxHeartbeats 0
set_option linter.unusedVariables false
theorem inside33_is {n lo hi : Int} {r : Bool} (hr : decide (lo ≤ n ∧ n ≤ hi) = r) {h : AH} : Runs Tryz.prog 33 [.int .i64 n, .agg [.int .i64 lo, .int .i64 hi]] h (fun en h' => en = .ret (.bool r) ∧ Ext h h') := by
 subst hr
 have e0 : Ext h h := Ext.refl _
 refine Runs.intro aFunc33 rfl rfl rfl rfl fun rest => ?_;apply gS;refine gR rfl ?_;refine GoR.box rfl rfl rfl rfl rfl rfl fun h0 x0 f0 => ?_;have := e0.1;replace e0 := e0.trans x0;have := f0.1;refine gP ?_;apply gE;apply gS;refine gR rfl ?_;refine gO rfl rfl (fa24_0 rfl) rfl ?_;refine gO rfl rfl (ld3 rfl f0 rfl) rfl ?_;refine gP ?_
 by_cases hs0 : (lo : Int) ≤ n
 ·refine gO rfl rfl (kMT rfl rfl) rfl ?_;iterate 2 refine gP ?_
  refine gO rfl rfl (fa24_1 rfl) rfl ?_;refine gO rfl rfl (ld3 rfl f0 rfl) rfl ?_
  by_cases hs1 : (n : Int) ≤ hi
  ·refine gO rfl rfl (kMT rfl rfl) rfl ?_;iterate 2 refine gP ?_
   apply gE;exact gV (ret_end (aResult_of Tryz.func33 rfl rfl) ⟨ret_true (by omega), e0⟩)
  ·refine gO rfl rfl (kMF rfl rfl) rfl ?_;iterate 2 refine gP ?_
   apply gE;exact gV (ret_end (aResult_of Tryz.func33 rfl rfl) ⟨ret_false (by omega), e0⟩)
 ·refine gO rfl rfl (kMF rfl rfl) rfl ?_;refine gP ?_;iterate 4 refine GoR.skip rfl rfl rfl ?_
  iterate 2 refine gP ?_
  apply gE;exact gV (ret_end (aResult_of Tryz.func33 rfl rfl) ⟨ret_false (by omega), e0⟩)
theorem builtR_is {C : ClampV} (O : C.Ok) {i : Nat} (hi : i < C.ps.length) : C.builtR (i : Nat) = C.tr (C.first i) zSp := by
 unfold ClampV.builtR
 rw [ClampV.ok_yes O, ClampV.clamp_yes (by omega), Int.toNat_natCast]
theorem hasR_is {C : ClampV} (O : C.Ok) {i : Nat} (hi : i < C.ps.length) : C.hasR (i : Nat) = C.tr (C.left i) zSp := by
 unfold ClampV.hasR
 rw [ClampV.ok_yes O, ClampV.clamp_yes (by omega), Int.toNat_natCast]
theorem soldR_is {C : ClampV} (O : C.Ok) {i : Nat} (hi : i < C.ps.length) : C.soldR (i : Nat) = C.tr (C.sold i) zSp := by
 unfold ClampV.soldR
 rw [ClampV.ok_yes O, ClampV.clamp_yes (by omega), Int.toNat_natCast]
theorem enoughR_is {C : ClampV} (O : C.Ok) {i : Nat} (hi : i < C.ps.length) {n : Int} (hn : 0 ≤ n ∧ n ≤ 20000) : C.enoughR (i : Nat) n = C.tr (reachV (C.left i) n) 0 := by
 unfold ClampV.enoughR
 rw [ClampV.ok_yes O, ClampV.clamp_yes (by omega), sods_yes hn, Int.toNat_natCast]
theorem emptyR_is {C : ClampV} (O : C.Ok) : C.emptyR = C.tr (((C.gone : Nat) : Int), ((C.low : Nat) : Int)) zSp := by
 unfold ClampV.emptyR
 rw [ClampV.ok_yes O]
theorem allR_is {C : ClampV} (O : C.Ok) : C.allR = C.tr (C.total C.all) zSp := by
 unfold ClampV.allR
 rw [ClampV.ok_yes O]
theorem clashR_is {C : ClampV} (O : C.Ok) : C.clashR = if C.possible = true then (0, 4) else (C.clashI.getD 0, 0) := by
 unfold ClampV.clashR ClampV.clashQ
 rw [ClampV.ok_yes O]
end Go.Proofs.YtobhkdgcciolmaaGreat

namespace Go.Proofs.YtobhkdgcciolmaaGreat
open Go Go.AbsE
set_option linter.unusedSimpArgs false
set_option maxRecDepth 100000
set_option maxHeartbeats 0
set_option linter.unusedVariables false
def sumTo (f : Nat → Int) : Nat → Int
 | 0 => 0
 | n + 1 => sumTo f n + f n
theorem sumTo_mono {f g : Nat → Int} : ∀ {n : Nat}, (∀ i, i < n → f i ≤ g i) → sumTo f n ≤ sumTo g n
 | 0, _ => Int.le_refl _
 | n + 1, h => by
  have := sumTo_mono (f := f) (g := g) (n := n) fun i hi => h i (by omega)
  have := h n (by omega)
  unfold sumTo
  omega
theorem aft_out {C : ClampV} {b : BT} {i : Nat} (h : ¬ i < C.ps.length) : C.aft b i = (0, 0) := by
 unfold ClampV.aft
 rw [if_neg h]
theorem stock_is (C : ClampV) (b : BT) : C.stock b = [C.aft b 0, C.aft b 1, C.aft b 2, C.aft b 3] := rfl
theorem sumB_all {C : ClampV} (O : C.Ok) (b : BT) : C.sumB C.all b = (sumTo (fun i => (C.aft b i).1) C.ps.length, sumTo (fun i => (C.aft b i).2) C.ps.length) := by
 have hn := O.np
 unfold ClampV.sumB ClampV.all
 rw [stock_is]
 obtain ⟨n, e⟩ : ∃ n, C.ps.length = n := ⟨_, rfl⟩
 rw [e] at hn ⊢
 rcases (by omega : n = 1 ∨ n = 2 ∨ n = 3 ∨ n = 4) with rfl | rfl | rfl | rfl
 ·show ((C.aft b 0).1 + 0, (C.aft b 0).2 + 0) = (0 + (C.aft b 0).1, 0 + (C.aft b 0).2)
  ext <;> dsimp only <;> omega
 ·show ((C.aft b 0).1 + ((C.aft b 1).1 + 0), (C.aft b 0).2 + ((C.aft b 1).2 + 0)) = (0 + (C.aft b 0).1 + (C.aft b 1).1, 0 + (C.aft b 0).2 + (C.aft b 1).2)
  ext <;> dsimp only <;> omega
 ·show ((C.aft b 0).1 + ((C.aft b 1).1 + ((C.aft b 2).1 + 0)), (C.aft b 0).2 + ((C.aft b 1).2 + ((C.aft b 2).2 + 0))) = (0 + (C.aft b 0).1 + (C.aft b 1).1 + (C.aft b 2).1, 0 + (C.aft b 0).2 + (C.aft b 1).2 + (C.aft b 2).2)
  ext <;> dsimp only <;> omega
 ·show ((C.aft b 0).1 + ((C.aft b 1).1 + ((C.aft b 2).1 + ((C.aft b 3).1 + 0))), (C.aft b 0).2 + ((C.aft b 1).2 + ((C.aft b 2).2 + ((C.aft b 3).2 + 0)))) = (0 + (C.aft b 0).1 + (C.aft b 1).1 + (C.aft b 2).1 + (C.aft b 3).1, 0 + (C.aft b 0).2 + (C.aft b 1).2 + (C.aft b 2).2 + (C.aft b 3).2)
  ext <;> dsimp only <;> omega
theorem aft_in3 {C : ClampV} (O : C.Ok) {b : BT} (hb : b ∈ C.builds) (i : Nat) : 0 ≤ (C.aft b i).1 ∧ (C.aft b i).1 ≤ (C.aft b i).2 ∧ (C.aft b i).2 ≤ 5000 := by
 by_cases hi : i < C.ps.length
 ·have := aft_is O hb hi
  omega
 ·rw [aft_out hi]
  decide
theorem pick_le {s : Nat} {a b c d : Int × Int} (ha : 0 ≤ a.1 ∧ a.1 ≤ a.2 ∧ a.2 ≤ 5000) (hb : 0 ≤ b.1 ∧ b.1 ≤ b.2 ∧ b.2 ≤ 5000) (hc : 0 ≤ c.1 ∧ c.1 ≤ c.2 ∧ c.2 ≤ 5000) (hd : 0 ≤ d.1 ∧ d.1 ≤ d.2 ∧ d.2 ≤ 5000) :
  0 ≤ (sumIn s 0 [a, b, c, d]).1 ∧ (sumIn s 0 [a, b, c, d]).1 ≤ (sumIn s 0 [a, b, c, d]).2 ∧ (sumIn s 0 [a, b, c, d]).2 ≤ 20000 ∧ (sumIn s 0 [a, b, c, d]).1 ≤ a.1 + b.1 + c.1 + d.1 := by
 unfold sumIn sumIn sumIn sumIn sumIn plusV
 cases s.testBit 0 <;> cases s.testBit (0 + 1) <;> cases s.testBit (0 + 1 + 1) <;> cases s.testBit (0 + 1 + 1 + 1) <;> simp only [if_true, if_false, Bool.false_eq_true, reduceCtorEq] <;> omega
theorem sum4 {C : ClampV} (O : C.Ok) (b : BT) : sumTo (fun i => (C.aft b i).1) C.ps.length = (C.aft b 0).1 + (C.aft b 1).1 + (C.aft b 2).1 + (C.aft b 3).1 := by
 have hn := O.np
 have ho := fun i => aft_out (C := C) (b := b) (i := i)
 obtain ⟨n, e⟩ : ∃ n, C.ps.length = n := ⟨_, rfl⟩
 rw [e] at hn ho ⊢
 rcases (by omega : n = 1 ∨ n = 2 ∨ n = 3 ∨ n = 4) with rfl | rfl | rfl | rfl
 ·rw [ho 1 (by decide), ho 2 (by decide), ho 3 (by decide)]
  show 0 + (C.aft b 0).1 = (C.aft b 0).1 + 0 + 0 + 0
  omega
 ·rw [ho 2 (by decide), ho 3 (by decide)]
  show 0 + (C.aft b 0).1 + (C.aft b 1).1 = (C.aft b 0).1 + (C.aft b 1).1 + 0 + 0
  omega
 ·rw [ho 3 (by decide)]
  show 0 + (C.aft b 0).1 + (C.aft b 1).1 + (C.aft b 2).1 = (C.aft b 0).1 + (C.aft b 1).1 + (C.aft b 2).1 + 0
  omega
 ·show 0 + (C.aft b 0).1 + (C.aft b 1).1 + (C.aft b 2).1 + (C.aft b 3).1 = (C.aft b 0).1 + (C.aft b 1).1 + (C.aft b 2).1 + (C.aft b 3).1
  omega
theorem sumB_in {C : ClampV} (O : C.Ok) {b : BT} (hb : b ∈ C.builds) (s : Nat) : 0 ≤ (C.sumB s b).1 ∧ (C.sumB s b).1 ≤ (C.sumB s b).2 ∧ (C.sumB s b).2 ≤ 20000 ∧ (C.sumB s b).1 ≤ (C.sumB C.all b).1 := by
 have h := pick_le (s := s) (aft_in3 O hb 0) (aft_in3 O hb 1) (aft_in3 O hb 2) (aft_in3 O hb 3)
 rw [sumB_all O b]
 dsimp only
 rw [sum4 O b]
 unfold ClampV.sumB
 rw [stock_is];exact h
theorem total_ex {C : ClampV} (O : C.Ok) (hp : C.possible = true) (s : Nat) : (∃ b, b ∈ C.builds ∧ (C.total s).1 = (C.sumB s b).1) ∧ (∃ b, b ∈ C.builds ∧ (C.total s).2 = (C.sumB s b).2) :=
 join_map_ex hp fun b hb => by
  have := sumB_in O hb s
  omega
theorem total_le {C : ClampV} {b : BT} (hb : b ∈ C.builds) (s : Nat) : (C.total s).1 ≤ (C.sumB s b).1 ∧ (C.sumB s b).2 ≤ (C.total s).2 := join_map_le (f := fun b => C.sumB s b) hb
theorem total_in {C : ClampV} (O : C.Ok) (hp : C.possible = true) (s : Nat) : 0 ≤ (C.total s).1 ∧ (C.total s).1 ≤ (C.total s).2 ∧ (C.total s).2 ≤ 20000 ∧ (C.total s).1 ≤ (C.total C.all).1 := by
 obtain ⟨⟨b1, hb1, e1⟩, b2, hb2, e2⟩ := total_ex O hp s
 obtain ⟨⟨b3, hb3, e3⟩, _⟩ := total_ex O hp C.all
 have a1 := sumB_in O hb1 s
 have a2 := sumB_in O hb2 s
 have a3 := sumB_in O hb3 s
 have l1 := total_le hb1 s
 have l3 := total_le hb3 s
 omega
theorem left_ex {C : ClampV} (O : C.Ok) (hp : C.possible = true) (i : Nat) : (∃ b, b ∈ C.builds ∧ (C.left i).1 = (C.aft b i).1) ∧ (∃ b, b ∈ C.builds ∧ (C.left i).2 = (C.aft b i).2) :=
 join_map_ex hp fun b hb => by
  have := aft_in3 O hb i
  omega
theorem left_le {C : ClampV} {b : BT} (hb : b ∈ C.builds) (i : Nat) : (C.left i).1 ≤ (C.aft b i).1 ∧ (C.aft b i).2 ≤ (C.left i).2 := join_map_le (f := fun b => C.aft b i) hb
theorem left_in {C : ClampV} (O : C.Ok) (hp : C.possible = true) (i : Nat) : 0 ≤ (C.left i).1 ∧ (C.left i).1 ≤ (C.left i).2 ∧ (C.left i).2 ≤ 5000 := by
 obtain ⟨⟨b1, hb1, e1⟩, b2, hb2, e2⟩ := left_ex O hp i
 have := aft_in3 O hb1 i
 have := aft_in3 O hb2 i
 have := left_le hb1 i
 omega
theorem share_more {C : ClampV} (O : C.Ok) (hp : C.possible = true) {n : Int} (hn : (C.total C.all).1 < n ∧ n ≤ 20000) : C.shareR n = (0, 4) := by
 have hin := total_in O hp C.all
 unfold ClampV.shareR ClampV.shareQ
 rw [ClampV.ok_yes O, sods_yes (by omega), if_pos hp]
 have hc : C.shareI n = none := by
  unfold ClampV.shareI
  rw [List.find?_eq_none]
  intro x hx
  have := total_in O hp x.toNat
  simp
  omega
 rw [hc]
end Go.Proofs.YtobhkdgcciolmaaGreat

namespace Go.Proofs.YtobhkdgcciolmaaGreat
open Go Go.AbsE
set_option linter.unusedSimpArgs false
set_option maxRecDepth 100000
set_option maxHeartbeats 0
set_option linter.unusedVariables false
def sumS (s : Nat) (f : Nat → Int) : Nat → Int
 | 0 => 0
 | n + 1 => if s.testBit n = true then sumS s f n + f n else sumS s f n
theorem sumS_mono {s : Nat} {f g : Nat → Int} : ∀ {n : Nat}, (∀ i, i < n → f i ≤ g i) → sumS s f n ≤ sumS s g n
 | 0, _ => Int.le_refl _
 | n + 1, h => by
  have := sumS_mono (s := s) (f := f) (g := g) (n := n) fun i hi => h i (by omega)
  have := h n (by omega)
  unfold sumS
  split <;> omega
theorem sumB_S {C : ClampV} (O : C.Ok) (s : Nat) (b : BT) : (C.sumB s b).1 = sumS s (fun i => (C.aft b i).1) C.ps.length := by
 have hn := O.np
 have ho := fun i => aft_out (C := C) (b := b) (i := i)
 unfold ClampV.sumB
 rw [stock_is]
 obtain ⟨n, e⟩ : ∃ n, C.ps.length = n := ⟨_, rfl⟩
 rw [e] at hn ho ⊢
 rcases (by omega : n = 1 ∨ n = 2 ∨ n = 3 ∨ n = 4) with rfl | rfl | rfl | rfl
 ·rw [ho 1 (by decide), ho 2 (by decide), ho 3 (by decide)]
  unfold sumS sumS sumIn sumIn sumIn sumIn sumIn plusV
  cases s.testBit 0 <;> cases s.testBit (0 + 1) <;> cases s.testBit (0 + 1 + 1) <;> cases s.testBit (0 + 1 + 1 + 1) <;> simp only [if_true, if_false, Bool.false_eq_true, reduceCtorEq] <;> omega
 ·rw [ho 2 (by decide), ho 3 (by decide)]
  unfold sumS sumS sumS sumIn sumIn sumIn sumIn sumIn plusV
  cases s.testBit 0 <;> cases s.testBit (0 + 1) <;> cases s.testBit (0 + 1 + 1) <;> cases s.testBit (0 + 1 + 1 + 1) <;> simp only [if_true, if_false, Bool.false_eq_true, reduceCtorEq] <;> omega
 ·rw [ho 3 (by decide)]
  unfold sumS sumS sumS sumS sumIn sumIn sumIn sumIn sumIn plusV
  show _ = (if s.testBit (0 + 1 + 1) = true then (if s.testBit (0 + 1) = true then (if s.testBit 0 = true then 0 + (C.aft b 0).1 else 0) + (C.aft b 1).1 else (if s.testBit 0 = true then 0 + (C.aft b 0).1 else 0)) + (C.aft b 2).1 else (if s.testBit (0 + 1) = true then (if s.testBit 0 = true then 0 + (C.aft b 0).1 else 0) + (C.aft b 1).1 else (if s.testBit 0 = true then 0 + (C.aft b 0).1 else 0)))
  cases s.testBit 0 <;> cases s.testBit (0 + 1) <;> cases s.testBit (0 + 1 + 1) <;> cases s.testBit (0 + 1 + 1 + 1) <;> simp only [if_true, if_false, Bool.false_eq_true, reduceCtorEq] <;> omega
 ·unfold sumS sumS sumS sumS sumS sumIn sumIn sumIn sumIn sumIn plusV
  show _ = (if s.testBit (0 + 1 + 1 + 1) = true then (if s.testBit (0 + 1 + 1) = true then (if s.testBit (0 + 1) = true then (if s.testBit 0 = true then 0 + (C.aft b 0).1 else 0) + (C.aft b 1).1 else (if s.testBit 0 = true then 0 + (C.aft b 0).1 else 0)) + (C.aft b 2).1 else (if s.testBit (0 + 1) = true then (if s.testBit 0 = true then 0 + (C.aft b 0).1 else 0) + (C.aft b 1).1 else (if s.testBit 0 = true then 0 + (C.aft b 0).1 else 0))) + (C.aft b 3).1 else (if s.testBit (0 + 1 + 1) = true then (if s.testBit (0 + 1) = true then (if s.testBit 0 = true then 0 + (C.aft b 0).1 else 0) + (C.aft b 1).1 else (if s.testBit 0 = true then 0 + (C.aft b 0).1 else 0)) + (C.aft b 2).1 else (if s.testBit (0 + 1) = true then (if s.testBit 0 = true then 0 + (C.aft b 0).1 else 0) + (C.aft b 1).1 else (if s.testBit 0 = true then 0 + (C.aft b 0).1 else 0))))
  cases s.testBit 0 <;> cases s.testBit (0 + 1) <;> cases s.testBit (0 + 1 + 1) <;> cases s.testBit (0 + 1 + 1 + 1) <;> simp only [if_true, if_false, Bool.false_eq_true, reduceCtorEq] <;> omega
theorem share_ex {C : ClampV} (O : C.Ok) (hp : C.possible = true) {n : Int} (hn : 0 ≤ n ∧ n ≤ 20000) (hnt : n ≤ (C.total C.all).1) : ∃ q : Nat, C.shareR n = ((q : Int), 0) ∧ q < 1024 ∧ (∀ i, i < 10 → q.testBit i = true → C.all.testBit i = true) ∧ q ≤ C.all ∧ n ≤ (C.total q).1 ∧ ∀ s, s < 1024 → (∀ i, i < 10 → s.testBit i = true → C.all.testBit i = true) → n ≤ (C.total s).1 → popc q < popc s ∨ (popc q = popc s ∧ q ≤ s) := by
 have hlt := all_lt O
 have hc : C.shareI n = ((subs C.all).find? fun s => decide (n ≤ (C.total s).1)).map fun s => ((s : Nat) : Int) := by
  unfold ClampV.shareI
  rw [List.find?_map]
  rfl
 unfold ClampV.shareR ClampV.shareQ
 rw [ClampV.ok_yes O, sods_yes hn, if_pos hp, hc]
 cases q : (subs C.all).find? fun s => decide (n ≤ (C.total s).1) with
 | none =>
  rw [List.find?_eq_none] at q;exact absurd (decide_eq_true hnt) (q C.all (subs_bits (by omega) fun i _ h => h))
 | some c =>
  obtain ⟨m1, m2, m3⟩ := subs_first q
  obtain ⟨s1, s2, s3⟩ := mem_subs.1 m1
  refine ⟨c, rfl, by omega, fun i hi hb => ?_, by omega, of_decide_eq_true m2, fun s hs hb ht => m3 s (subs_bits hs hb) (decide_eq_true ht)⟩
  have := andNot_bit (a := c) (b := C.all) (i := i) (by omega) (by omega)
  rw [s2, Nat.zero_testBit, hb, Bool.true_and] at this
  cases w : C.all.testBit i with
  | true => rfl
  | false => rw [w] at this; cases this
end Go.Proofs.YtobhkdgcciolmaaGreat

namespace Go.Proofs.YtobhkdgcciolmaaGreat
open Go Go.AbsE
set_option linter.unusedSimpArgs false
set_option maxRecDepth 100000
set_option maxHeartbeats 0
set_option linter.unusedVariables false
structure TI (C : ClampV) (b : BT) (E : List EV) (lv : Nat → Int) : Prop where
 path : ∀ j, j < C.ps.length → Path j E (firstV b j) (lv j) ∧ 0 ≤ lv j ∧ lv j ≤ firstV b j
 ok : ∀ e, e ∈ E → e.Ok C.ps.length
theorem TI.nil {C : ClampV} {b : BT} (h : ∀ j, j < C.ps.length → 0 ≤ firstV b j) : TI C b [] (firstV b) := ⟨fun j hj => ⟨rfl, h j hj, Int.le_refl _⟩, fun e h => by cases h⟩
theorem TI.count {C : ClampV} {b : BT} {E : List EV} {lv : Nat → Int} (k : TI C b E lv) {c : Nat} (hc : c < C.ps.length) {lo hi : Int} (h1 : 0 ≤ lo ∧ lo ≤ lv c) (h2 : lv c ≤ hi ∧ hi ≤ 5000) : TI C b (E ++ [⟨1, c, lo, hi⟩]) lv := by
 refine ⟨fun j hj => ⟨path_app.2 ⟨lv j, (k.path j hj).1, ?_⟩, (k.path j hj).2⟩, fun e he => ?_⟩
 ·unfold Path
  split
  ·rename_i q
   have : c = j := by
    have : ((c : Nat) : Int) = (j : Nat) := q
    omega
   subst this;refine ⟨lv c, ?_, rfl⟩
   unfold EV.step
   dsimp only
   rw [if_neg (by decide)];exact ⟨rfl, h1.2, h2.1⟩
  ·rfl
 ·rcases List.mem_append.1 he with q | q
  ·exact k.ok e q
  ·rw [List.mem_singleton.1 q];refine ⟨?_, ?_, .inr rfl⟩
   ·dsimp only; omega
   ·dsimp only; omega
theorem TI.sale {C : ClampV} {b : BT} {E : List EV} {lv : Nat → Int} (k : TI C b E lv) {e : EV} (he : e.Ok C.ps.length) (h0 : e.kind = 0) {c : Nat} (hc : e.cl = (c : Nat)) {v : Int} (hv : e.lo ≤ v ∧ v ≤ e.hi ∧ v ≤ lv c) : TI C b (E ++ [e]) (fun j => if j = c then lv c - v else lv j) := by
 obtain ⟨o1, o2, o3⟩ := he
 refine ⟨fun j hj => ?_, fun x hx => ?_⟩
 ·obtain ⟨p1, p2, p3⟩ := k.path j hj
  by_cases q : j = c
  ·subst q;rw [if_pos rfl];refine ⟨path_app.2 ⟨lv j, p1, ?_⟩, by omega, by omega⟩
   unfold Path
   rw [if_pos hc];refine ⟨lv j - v, ?_, rfl⟩
   unfold EV.step
   rw [if_pos h0]
   omega
  ·rw [if_neg q];refine ⟨path_app.2 ⟨lv j, p1, ?_⟩, p2, p3⟩
   unfold Path
   rw [if_neg (by omega)]
   rfl
 ·rcases List.mem_append.1 hx with q | q
  ·exact k.ok x q
  ·rw [List.mem_singleton.1 q];exact ⟨o1, o2, o3⟩
structure Truth (C X : ClampV) (b : BT) (lv : Nat → Int) : Prop where
 ok : X.Ok
 ps : X.ps = C.ps
 mem : b ∈ X.builds
 path : ∀ j, j < X.ps.length → hasB (X.aft b j) (lv j) = true ∧ 0 ≤ lv j ∧ lv j ≤ firstV b j ∧ 1 ≤ firstV b j ∧ firstV b j ≤ 5000
theorem TI.truth {C : ClampV} (O : C.Ok) {b : BT} {E : List EV} {lv : Nat → Int} (k : TI C b E lv) (hE : E.length = C.es.length) (hb : C.pl ≤ b.2 ∧ b.2 ≤ C.ph) (hl : b.1.length = C.ps.length) (hs : ∀ (j : Nat) p, C.ps[j]? = some p → b.1.getD j 0 ∈ p.sizes) : Truth C { C with es := E } b lv := by
 have OX : ({ C with es := E } : ClampV).Ok := ⟨O.np, O.p, O.k, by have := O.ne; show E.length ≤ 6; omega, k.ok⟩
 have hin : ∀ j p, C.ps[j]? = some p → 1 ≤ firstV b j ∧ firstV b j ≤ 5000 := fun j p hp => by
  have h6 := sizes_in (O.p _ (List.mem_of_getElem? hp)) (hs j p hp)
  have hk := O.k
  have := mul_in (a := b.1.getD j 0) (b := b.2) (A := 1000) (B := 5) h6 (by omega)
  unfold firstV
  omega
 have hm : b ∈ ({ C with es := E } : ClampV).builds := (builds_iff OX.fine).2 ⟨hb, hl, fun j p hp => by
  have hj := (List.getElem?_eq_some_iff.1 hp).1
  obtain ⟨p1, p2, p3⟩ := k.path j hj
  have := hin j p hp
  exact ⟨hs j p hp, lv j, by omega, p1⟩⟩
 refine ⟨OX, rfl, hm, fun j hj => ?_⟩
 obtain ⟨p1, p2, p3⟩ := k.path j hj
 have h5 := hin j _ (List.getElem?_eq_getElem hj)
 exact ⟨((aft_is OX hm hj).2.2.2.2 _).2 p1, p2, p3, h5.1, h5.2⟩
theorem Truth.possible {C X : ClampV} {b : BT} {lv : Nat → Int} (t : Truth C X b lv) : X.possible = true := possible_iff.2 ⟨_, t.mem⟩
theorem Truth.each {C X : ClampV} {b : BT} {lv : Nat → Int} (t : Truth C X b lv) {j : Nat} (hj : j < X.ps.length) : ((X.first j).1 ≤ firstV b j ∧ firstV b j ≤ (X.first j).2) ∧ ((X.left j).1 ≤ lv j ∧ lv j ≤ (X.left j).2) ∧ ((X.sold j).1 ≤ firstV b j - lv j ∧ firstV b j - lv j ≤ (X.sold j).2) := by
 obtain ⟨p1, p2, p3, p4, p5⟩ := t.path j hj
 have q := hasB_iff.1 p1
 have l1 := join_map_le (f := fun b => (firstV b j, firstV b j)) t.mem
 have l2 := left_le t.mem j
 have l3 := join_map_le (f := fun b => minusV (firstV b j, firstV b j) (X.aft b j)) t.mem
 unfold minusV at l3
 dsimp only at l1 l3
 unfold ClampV.first ClampV.sold
 unfold minusV
 dsimp only
 omega
theorem Truth.all {C X : ClampV} {b : BT} {lv : Nat → Int} (t : Truth C X b lv) : (X.total X.all).1 ≤ sumTo lv X.ps.length ∧ sumTo lv X.ps.length ≤ (X.total X.all).2 := by
 have l := total_le t.mem X.all
 rw [sumB_all t.ok] at l
 dsimp only at l
 have a := sumTo_mono (f := fun i => (X.aft b i).1) (g := lv) (n := X.ps.length) fun i hi => (hasB_iff.1 (t.path i hi).1).1
 have c := sumTo_mono (f := lv) (g := fun i => (X.aft b i).2) (n := X.ps.length) fun i hi => (hasB_iff.1 (t.path i hi).1).2
 omega
theorem Truth.some {C X : ClampV} {b : BT} {lv : Nat → Int} (t : Truth C X b lv) (s : Nat) : (X.total s).1 ≤ sumS s lv X.ps.length := by
 have l := (total_le t.mem s).1
 rw [sumB_S t.ok] at l
 have a := sumS_mono (s := s) (f := fun i => (X.aft b i).1) (g := lv) (n := X.ps.length) fun i hi => (hasB_iff.1 (t.path i hi).1).1
 omega
theorem gone_low {X : ClampV} (O : X.Ok) (hp : X.possible = true) : andNot X.gone X.low = 0 ∧ X.low < 2 ^ X.ps.length := by
 refine ⟨?_, bitsV_lt _ _⟩
 have h1 : X.gone < 2 ^ X.ps.length := bitsV_lt _ _
 have h4 : 2 ^ X.ps.length ≤ 2 ^ 4 := Nat.pow_le_pow_right (by decide) O.np.2
 refine (sub_bits (by omega) fun i _ hi => ?_).2.2
 unfold ClampV.gone at hi
 unfold ClampV.low
 rw [bitsV_test] at hi ⊢
 simp only [Bool.and_eq_true, decide_eq_true_eq] at hi ⊢
 have := left_in O hp i
 exact ⟨hi.1, by omega⟩
end Go.Proofs.YtobhkdgcciolmaaGreat

namespace Go.Proofs.YtobhkdgcciolmaaGreat
open Go Go.AbsE
set_option linter.unusedSimpArgs false
set_option maxRecDepth 100000
set_option maxHeartbeats 0
set_option linter.unusedVariables false
def u16s (l : List Int) : List (List AVal) := l.map fun x => [AVal.int .u16 x]
theorem draws32_ok (s : AVal) (h : AH) (hs : scalars [s] = true) (hc : s.cells = [s]) : Runs Tryz.prog 32 [s] h (fun en h' => ∃ ba bb, en = .ret (.func (.func 82) [] [.ptr ba 0, .ptr bb 0]) ∧ Ext h h' ∧ h.next ≤ ba ∧ h.next ≤ bb ∧ ba ≠ bb ∧ Has h' ba (.cells .plain [.int .i64 0] 3) ∧ Has h' bb (.cells .plain [s] 41)) := by
 have e0 : Ext h h := Ext.refl _
 refine Runs.intro aFunc32 rfl rfl rfl rfl fun rest => ?_;apply gS;refine gR rfl ?_;refine GoR.box rfl rfl rfl rfl rfl rfl fun h0 x0 f0 => ?_;have := e0.1;replace e0 := e0.trans x0;have := f0.1;refine gP ?_;apply gE;apply gS;refine gR rfl ?_;refine GoR.alloc rfl rfl rfl zt3 rfl rfl fun h1 x1 f1 => ?_;have := e0.1;have := f0.1;replace f0 := f0.ext x1;replace e0 := e0.trans x1;have := f1.1;refine GoR.store rfl rfl rfl rfl rfl rfl f1 rfl sz3 rfl rfl rfl fun h2 u2 => ?_;replace f1 := u2.has f1;replace f0 := f0.upd u2 (by omega);replace e0 := e0.upd u2 (by omega);apply gE;apply gS;refine gR rfl ?_;iterate 2 refine gP ?_
 apply gE;rw [hc] at f0
 have l0 := x0.1
 have l1 := f0.1
 exact gV (ret_end (aResult_of Tryz.func32 rfl rfl) ⟨h0.next, h.next, rfl, e0, l0, Nat.le_refl _, by omega, f1, f0⟩)
theorem draw82_ok {bs : List Int} (hbs : ∀ x, x ∈ bs → 0 ≤ x ∧ x < 65536) {s : AVal} {ba bb : Nat} {n lo hi : Int} {h g : AH} (fa : Has h ba (.cells .plain [.int .i64 n] 3)) (fb : Has h bb (.cells .plain [s] 41)) (eg : Ext g h) (hab : ba ≠ bb) (hs : SliceOf g 1 s (u16s bs)) (hga : g.next ≤ ba) (hlen : bs.length < 9223372036854775808) (hn : 0 ≤ n ∧ n ≤ 1000) (hl : 0 ≤ lo ∧ lo ≤ hi ∧ hi ≤ 5000) :
  Runs Tryz.prog 82 [.agg [.int .i64 lo, .int .i64 hi], .ptr ba 0, .ptr bb 0] h (fun en h' => ∃ v, en = .ret (.int .i64 v) ∧ lo ≤ v ∧ v ≤ hi ∧ ExtF (fun b => b = ba) h h' ∧ Has h' ba (.cells .plain [.int .i64 (n + 1)] 3)) := by
 have hsl := hs.len
 unfold u16s at hsl
 rw [List.length_map] at hsl
 have y0 : ExtF (fun b => b = ba) h h := ExtF.of (Ext.refl _)
 have la := fa.1
 have lb := fb.1
 obtain ⟨nl, hnl⟩ : ∃ nl, bs.length = nl := ⟨_, rfl⟩
 rw [hnl] at hsl hlen
 by_cases h0' : nl = 0
 ·have hz : decide (((nl : Nat) : Int) = 0) = true := decide_eq_true (by omega)
  refine Runs.intro aFunc82 rfl rfl rfl rfl fun rest => ?_;apply gS;refine gR rfl ?_;refine GoR.box rfl rfl rfl rfl rfl rfl fun h0 x0 f0 => ?_;have := eg.1;have := fa.1;have := fb.1;replace fa := fa.ext x0;replace fb := fb.ext x0;replace eg := eg.trans x0;replace y0 := y0.ext x0;have := f0.1;refine gP ?_;apply gE;apply gS;refine gR rfl ?_;refine gO rfl rfl (ld3 rfl fa rfl) rfl ?_;refine gO rfl rfl (aA rfl rfl) rfl ?_;refine GoR.store rfl rfl rfl rfl rfl rfl fa rfl sz3 rfl rfl rfl fun h1 u1 => ?_;replace f0 := f0.upd u1 (by omega);replace fa := u1.has fa;replace fb := fb.upd u1 (by omega);replace eg := eg.upd u1 (by omega);replace y0 := y0.upd u1 (.inl rfl);apply gE;iterate 2 apply gS
  refine gR rfl ?_;refine gO rfl rfl (ld41 rfl fb rfl) rfl ?_;refine gO rfl rfl (aOp_lenSlice Tryz.underlying41 rfl hsl) rfl ?_;refine gO rfl rfl (aOp_eql rfl rfl hz) rfl ?_;apply gE;refine gC (b := true) rfl ?_;apply gS;refine gR rfl ?_;refine gO rfl rfl (fa24_0 rfl) rfl ?_;refine gO rfl rfl (ld3 rfl f0 rfl) rfl ?_;refine gP ?_;apply gE;exact gV (ret_end (aResult_of Tryz.func82 rfl rfl) ⟨_, rfl, Int.le_refl _, hl.2.1, y0, fa⟩)
 ·have hz : decide (((nl : Nat) : Int) = 0) = false := decide_eq_false (by omega)
  obtain ⟨n', hn'⟩ : ∃ n' : Nat, n + 1 = (n' : Nat) := ⟨(n + 1).toNat, by omega⟩
  obtain ⟨k, hk⟩ : ∃ k, n' % nl = k := ⟨_, rfl⟩
  have hk2 : k < nl := by rw [← hk]; exact Nat.mod_lt _ (by omega)
  have hrem : (n + 1).tmod ((nl : Nat) : Int) = (k : Nat) := by rw [hn', ← hk]; rfl
  obtain ⟨x, hx⟩ : ∃ x, bs[k]? = some x := ⟨bs[k]'(by omega), by simp⟩
  have hxb := hbs x (List.mem_of_getElem? hx)
  obtain ⟨bq, off, p1, p2⟩ := hs.at (i := k) (l := [AVal.int .u16 x]) (by unfold u16s; rw [List.getElem?_map, hx]; rfl)
  unfold u16s at p1
  rw [List.length_map, hnl] at p1
  have he : ∀ h', ExtF (fun b => b = ba) h h' → Ext g h' := fun h' y => y.low eg (fun b q => by have : b = ba := q; omega)
  obtain ⟨m, hm⟩ : ∃ m, (53 : Int) * (n + 1) = m := ⟨_, rfl⟩
  obtain ⟨q, hq2⟩ : ∃ q, (x + m).tmod (hi - lo + 1) = q := ⟨_, rfl⟩
  have hq3 : 0 ≤ q ∧ q ≤ hi - lo := by
   have h1 : 0 ≤ x + m := by omega
   rw [Int.tmod_eq_emod_of_nonneg h1] at hq2
   have h2 := Int.emod_nonneg (x + m) (b := hi - lo + 1) (by omega)
   have h3 := Int.emod_lt_of_pos (x + m) (b := hi - lo + 1) (by omega)
   omega
  refine Runs.intro aFunc82 rfl rfl rfl rfl fun rest => ?_;apply gS;refine gR rfl ?_;refine GoR.box rfl rfl rfl rfl rfl rfl fun h0 x0 f0 => ?_;have := eg.1;have := fa.1;have := fb.1;replace fa := fa.ext x0;replace fb := fb.ext x0;replace eg := eg.trans x0;replace y0 := y0.ext x0;have := f0.1;refine gP ?_;apply gE;apply gS;refine gR rfl ?_;refine gO rfl rfl (ld3 rfl fa rfl) rfl ?_;refine gO rfl rfl (aA rfl rfl) rfl ?_;refine GoR.store rfl rfl rfl rfl rfl rfl fa rfl sz3 rfl rfl rfl fun h1 u1 => ?_;replace f0 := f0.upd u1 (by omega);replace fa := u1.has fa;replace fb := fb.upd u1 (by omega);replace eg := eg.upd u1 (by omega);replace y0 := y0.upd u1 (.inl rfl);apply gE;iterate 2 apply gS
  refine gR rfl ?_;refine gO rfl rfl (ld41 rfl fb rfl) rfl ?_;refine gO rfl rfl (aOp_lenSlice Tryz.underlying41 rfl hsl) rfl ?_;refine gO rfl rfl (aOp_eql rfl rfl hz) rfl ?_;apply gE;refine gC (b := false) rfl ?_;refine gD ?_;apply gS;refine Go.drawnE plan82_0 ?_;refine gQ rfl rfl (fa24_0 rfl) rfl ?_;refine gQ rfl rfl (ld3 rfl f0 rfl) rfl ?_;refine gQ rfl rfl (ld41 rfl fb rfl) rfl ?_;refine gQ rfl rfl (ld3 rfl fa rfl) rfl ?_;refine gQ rfl rfl (ld41 rfl fb rfl) rfl ?_;refine gQ rfl rfl (aOp_lenSlice Tryz.underlying41 rfl hsl) rfl ?_;refine gQ rfl rfl (aOp_rem rfl rfl (by omega) hrem) rfl ?_;refine gQ rfl rfl (aOp_indexAddr Tryz.underlying41 sz42 rfl p1 rfl (Nat.ble_eq_true_of_le hk2)) rfl ?_;refine gQ rfl rfl (aOp_loadE1 (k := 0) ag42 rfl (p2.ext (he _ y0)) rfl) rfl ?_;refine gQ rfl rfl (aOp_convU16 rfl Tryz.underlying42 Tryz.underlying3 hxb) rfl ?_;refine gQ rfl rfl (ld3 rfl fa rfl) rfl ?_;refine gQ rfl rfl (aOp_mul rfl rfl hm (by omega)) rfl ?_;refine gQ rfl rfl (aA rfl rfl) rfl ?_;refine gQ rfl rfl (fa24_1 rfl) rfl ?_;refine gQ rfl rfl (ld3 rfl f0 rfl) rfl ?_;refine gQ rfl rfl (fa24_0 rfl) rfl ?_;refine gQ rfl rfl (ld3 rfl f0 rfl) rfl ?_;refine gQ rfl rfl (aS rfl rfl) rfl ?_;refine gQ rfl rfl (aA rfl rfl) rfl ?_;refine gQ rfl rfl (aOp_rem rfl rfl (by omega) hq2) rfl ?_;refine gQ rfl rfl (aA rfl rfl) rfl ?_;refine gQ rfl rfl rfl rfl ?_;refine GoE.end rfl ?_;exact gV (ret_end (aResult_of Tryz.func82 rfl rfl) ⟨_, rfl, by omega, by omega, y0, fa⟩)
end Go.Proofs.YtobhkdgcciolmaaGreat

set_option linter.unusedSimpArgs false
set_option linter.unusedVariables false
namespace Go.AbsE
open Go
section
variable {P : Program} {t : Tr AVal} {h : AH} {dst : Option Tmp} {tt : TypeId} {pos : String} {after : Array Edge} {guard : Option (Nat × Bool)} {x y : Operand}
variable {c : FC} {k : List AItem} {Q : AM → Prop} {J : Jump} {all : Array Oper} {l lrest : List Oper} {i d : Nat}
def CopR (h : AH) (el eb : TypeId) (b lo : Nat) (v : AVal) (L : List (List AVal)) : Prop := (L = [] ∧ v = .slice b 0 0 0 ∧ Has h b (.cells .plain [] eb)) ∨ (0 < L.length ∧ ∃ B, lo ≤ B ∧ v = .gsl B 0 0 L.length ∧ Has h B (.cells .grow L.flatten el))
theorem CopR.ext {h h' : AH} {el eb : TypeId} {b lo : Nat} {v : AVal} {L : List (List AVal)} (k : CopR h el eb b lo v L) (e : Ext h h') : CopR h' el eb b lo v L := by
 rcases k with ⟨k1, k2, k3⟩ | ⟨k, b, k1, k2, k3⟩
 ·exact .inl ⟨k1, k2, k3.ext e⟩
 ·exact .inr ⟨k, b, k1, k2, k3.ext e⟩
theorem GoR.copyR {el el2 eb t1 t2 : TypeId} {sz bytes b : Nat} {z s : AVal} {L : List (List AVal)} (hl : l = ⟨dst, .call ⟨.builtin .append, #[x, y], #[t1, t2]⟩, tt, pos, after, guard⟩ :: lrest) (hw : wantedA all t ⟨dst, .call ⟨.builtin .append, #[x, y], #[t1, t2]⟩, tt, pos, after, guard⟩ = some true)
  (hu1 : P.underlying t1 = some (.slice el)) (hu2 : P.underlying t2 = some (.slice el2)) (hs : sizeT P el = some sz) (hby : bytesT P el = some bytes) (hz : zeroT P el = some z) (hzl : Nat.beq z.cells.length sz = true) (hsz : Nat.blt 0 sz = true)
  (hx : ev t x = some (.slice b 0 0 0)) (hb : Has h b (.cells .plain [] eb)) (hy : ev t y = some s) (hsl : SliceOf h sz s L) (hroom : (0 + L.length + 300) * 2 * (bytes + 1) < 281474976710656) (hd : dst = some d) (hdn : Nat.blt d c.n = true)
  (g : ∀ v h1, Ext h h1 → CopR h1 el eb b h.next v L → GoR P J c k Q (runOps P c.n all lrest (i + 1) (t.put (pth d) (some v)) h1)) : GoR P J c k Q (runOps P c.n all l i t h) := by
 rcases Nat.eq_zero_or_pos L.length with hL | hL
 ·have hL := List.eq_nil_of_length_eq_zero hL
  subst hL
  obtain ⟨h1, hst⟩ : ∃ h1, h.set b (some (.cells .plain [] eb)) = some h1 := by obtain ⟨tt, nx⟩ := h; exact ⟨_, rfl⟩
  obtain ⟨s1, s2⟩ := AH.get_set hst
  have e1 : Ext h h1 := ⟨by omega, fun c hc => by
   rw [s2]
   split
   ·rename_i q; rw [q]; exact hb.2.symm
   ·rfl⟩
  have hop : aOp P t h ⟨dst, .call ⟨.builtin .append, #[x, y], #[t1, t2]⟩, tt, pos, after, guard⟩ = some (.val (.slice b 0 0 0) h1) := by
   show opCall P t h ⟨.builtin .append, #[x, y], #[t1, t2]⟩ tt = _
   have he : evs t [x, y] = some [.slice b 0 0 0, s] := by simp only [evs, mapO, hx, hy]
   have hlt : Nat.blt ((0 + 0 + 300) * 2 * (bytes + 1)) 281474976710656 = true := Nat.ble_eq_true_of_le hroom
   have hlen : lenA s = some 0 := hsl.len
   have hsrc : srcCells h sz 0 s = some [] := hsl.src
   have ha : aAppend P h t1 t2 (.slice b 0 0 0) s = some (.val (.slice b 0 0 0) h1) := by
    unfold aAppend
    rw [hu1, hu2]
    simp only [hs, hby, hz, show lenA (.slice b 0 0 0) = some 0 from rfl, hlen, hsrc, hlt, hsz, hzl, cond_true]
    unfold appSlice
    have hle : Nat.ble (0 + 0) 0 = true := rfl
    rw [hle, cond_true]
    have : AbsE.storeCells h b (0 + 0 * sz) [] = some h1 := by
     unfold AbsE.storeCells
     rw [hb.2]
     have hs0 : splice ([] : List AVal) (0 + 0 * sz) [] = some [] := by rw [Nat.zero_mul]; rfl
     have hr0 : Kd.isRo .plain = false := rfl
     have hc0 : scalars [] = true := rfl
     simp only [hr0, hc0, cond_false, cond_true, hs0]
     exact hst
    rw [this]
   simp only [opCall, he, callWith, aBuiltin, ha]
  exact GoR.op hl hw hop (prepD_some hd hdn) (g _ h1 e1 (.inl ⟨rfl, rfl, hb.ext e1⟩))
 ·exact GoR.appendNew hl hw hu1 hu2 hs hby hz hzl hsz hx hb hy hsl hL hroom hd hdn fun h1 e1 f1 => g _ h1 e1 (.inr ⟨hL, _, Nat.le_refl _, rfl, f1⟩)
end
end Go.AbsE

set_option linter.unusedSimpArgs false
set_option linter.unusedVariables false
namespace Go.AbsE
open Go
section
variable {f : Nat → Nat}
end
end Go.AbsE
