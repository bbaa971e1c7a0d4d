import Derived.Test.YtobhkdgcciolmaaGreatMAP
import Derived.KernelRfl
import Derived.Test.YtobhkdgcciolmaaGreatMAI
import Derived.Test.YtobhkdgcciolmaaGreatMAG
import Derived.Deep.Slices
import Derived.Lib.SmallJoins
import Derived.Carry
namespace Go.Proofs.YtobhkdgcciolmaaGreat
open Go Go.AbsE
set_option linter.unusedSimpArgs false
set_option maxRecDepth 100000
set_option maxHeartbeats 0
set_option linter.unusedVariables false
def sampleV (E : List EV) : ClampV := ⟨[⟨3, 3, 2, 2, 1, 2⟩, ⟨2, 2, 2, 2, 2, 2⟩], 4, 5, [⟨0, 0, 10, 12⟩, ⟨1, 1, 30, 33⟩] ++ E⟩
def k1 : EV := ⟨1, 0, 13, 36⟩
def k2 : EV := ⟨1, 0, 12, 12⟩
theorem pv_len (p : PV) : (PV.cells p).length = 6 := rfl
theorem ev_len (p : EV) : (EV.cells p).length = 4 := rfl
theorem evs_four {L : List EV} : ∀ l, l ∈ L.map EV.cells → l.length = 4 := fun l hl => by
 obtain ⟨e, _, rfl⟩ := List.mem_map.1 hl
 rfl
theorem pvs_slice {h : AH} {b n : Nat} {g : Kd} {el : TypeId} {L : List PV} (hn : L.length = n) (f : Has h b (.cells g (L.flatMap PV.cells) el)) : SliceOf h 6 (.slice b 0 n n) (L.map PV.cells) :=
 SliceOf.mk' rfl rfl f (by rw [List.length_map, hn]) fun i v q => by rw [Nat.zero_add]; exact flatten_at pv_len i v q
theorem evs_slice {h : AH} {b n : Nat} {g : Kd} {el : TypeId} {L : List EV} (hn : L.length = n) (f : Has h b (.cells g (L.flatMap EV.cells) el)) : SliceOf h 4 (.slice b 0 n n) (L.map EV.cells) :=
 SliceOf.mk' rfl rfl f (by rw [List.length_map, hn]) fun i v q => by rw [Nat.zero_add]; exact flatten_at ev_len i v q
theorem scal_app {a b : List AVal} (ha : scalars a = true) (hb : scalars b = true) : scalars (a ++ b) = true := by
 induction a with
 | nil => exact hb
 | cons x a ih =>
  show cond (scalar x) (scalars (a ++ b)) false = true
  have h1 : cond (scalar x) (scalars a) false = true := ha
  cases q : scalar x with
  | true => rw [q] at h1; exact ih h1
  | false => rw [q] at h1; cases h1
theorem ClampAt.scal {C : ClampV} {p e : AVal} {h : AH} (A : ClampAt h C p e) : scalars (C.cells p e) = true :=
 scal_app (a := [p]) A.ps.scal.1 (scal_app (a := [.int .i64 C.pl, .int .i64 C.ph]) rfl A.es.scal.1)
def ClampNew (lo : Nat) (h : AH) (C : ClampV) (p e : AVal) : Prop := FreshS lo h 6 p (C.ps.map PV.cells) ∧ FreshS lo h 4 e (C.es.map EV.cells)
theorem ClampNew.at {lo : Nat} {h : AH} {C : ClampV} {p e : AVal} (k : ClampNew lo h C p e) : ClampAt h C p e := ⟨k.1.self, k.2.self⟩
theorem ClampNew.upd {lo n : Nat} {B : ABlk} {h h' : AH} {C : ClampV} {p e : AVal} (k : ClampNew lo h C p e) (u : Upd h n B h') (hn : n < lo) : ClampNew lo h' C p e :=
 ⟨k.1.on (Nat.le_of_eq u.1.symm) fun b b1 _ => u.2.2 b (by omega), k.2.on (Nat.le_of_eq u.1.symm) fun b b1 _ => u.2.2 b (by omega)⟩
theorem fresh_pvs {lo : Nat} {h : AH} {b n : Nat} {g : Kd} {el : TypeId} {L : List PV} (hn : L.length = n) (hb : lo ≤ b) (f : Has h b (.cells g (L.flatMap PV.cells) el)) : FreshS lo h 6 (.slice b 0 n n) (L.map PV.cells) := fun h' hl he => pvs_slice hn ⟨Nat.lt_of_lt_of_le f.1 hl, by rw [he b hb f.1]; exact f.2⟩
theorem sample_ok {E : List EV} {s : AVal} {h : AH} (hs : SliceOf h 4 s (E.map EV.cells)) (hn : E.length ≤ 100) : Runs Tryz.prog 42 [s] h (fun en h' => ∃ p e, en = .ret (.agg ((sampleV E).cells p e)) ∧ Ext h h' ∧ ClampNew h.next h' (sampleV E) p e ∧ Ext h' h') := by
 unfold ClampV.cells
 have e0 : Ext h h := Ext.refl _
 refine Runs.intro aFunc42 rfl rfl rfl rfl fun rest => ?_;apply gS;refine gR rfl ?_;refine GoR.alloc rfl rfl rfl zt27 rfl rfl fun h0 x0 f0 => ?_;have := e0.1;replace e0 := e0.trans x0;have := f0.1;apply gE;apply gS;refine gR rfl ?_;refine GoR.call rfl rfl (aCF aFunc83 rfl) (pile83_ok) ?_ np;rintro v1 h1 ⟨q, x1⟩;cases q;refine ⟨_, rfl, ?_⟩;replace f0 := f0.ext x1;replace e0 := e0.trans x1;refine GoR.call rfl rfl (aCF aFunc83 rfl) (pile83_ok) ?_ np;rintro v2 h2 ⟨q, x2⟩;cases q;refine ⟨_, rfl, ?_⟩;replace f0 := f0.ext x2;replace e0 := e0.trans x2;refine GoR.buildSl rfl rfl (ps := [(0, .agg [.int .i64 3, .int .i64 3, .int .i64 2, .int .i64 2, .int .i64 1, .int .i64 2]), (1, .agg [.int .i64 2, .int .i64 2, .int .i64 2, .int .i64 2, .int .i64 2, .int .i64 2])]) (cs := ([⟨3, 3, 2, 2, 1, 2⟩, ⟨2, 2, 2, 2, 2, 2⟩] : List PV).flatMap PV.cells) Tryz.underlying22 rfl sz58 zt58 rfl rfl rfl rfl fun h3 x3 f3 => ?_;have := e0.1;have := f0.1;replace f0 := f0.ext x3;replace e0 := e0.trans x3;have := f3.1;refine GoR.call rfl rfl (aCF aFunc36 rfl) (span36_ok) ?_ np;rintro v4 h4 ⟨q, x4⟩;cases q;refine ⟨_, rfl, ?_⟩;replace f3 := f3.ext x4;replace f0 := f0.ext x4;replace e0 := e0.trans x4;refine GoR.call rfl rfl (aCF aFunc41 rfl) (sale41_ok) ?_ np;rintro v5 h5 ⟨q, x5⟩;cases q;refine ⟨_, rfl, ?_⟩;replace f3 := f3.ext x5;replace f0 := f0.ext x5;replace e0 := e0.trans x5;refine GoR.call rfl rfl (aCF aFunc35 rfl) (count35_ok) ?_ np;rintro v6 h6 ⟨q, x6⟩;cases q;refine ⟨_, rfl, ?_⟩;replace f3 := f3.ext x6;replace f0 := f0.ext x6;replace e0 := e0.trans x6;refine GoR.buildSl rfl rfl (ps := [(0, .agg [.int .i64 0, .int .i64 0, .int .i64 10, .int .i64 12]), (1, .agg [.int .i64 1, .int .i64 1, .int .i64 30, .int .i64 33])]) (cs := (([⟨0, 0, 10, 12⟩, ⟨1, 1, 30, 33⟩] : List EV).map EV.cells).flatten) Tryz.underlying25 rfl sz53 zt53 rfl rfl rfl rfl fun h7 x7 f7 => ?_;have := e0.1;have := f3.1;have := f0.1;replace f3 := f3.ext x7;replace f0 := f0.ext x7;replace e0 := e0.trans x7;have := f7.1;refine gP ?_
 have hb0 := f0.1
 have hsl := hs.ext e0
 have hb3 := f3.1
 have hb7 := f7.1
 have hn1 : h.next < h2.next := by omega
 have hn2 : h2.next < h6.next := by omega
 refine GoR.appendFull (Lx := ([⟨0, 0, 10, 12⟩, ⟨1, 1, 30, 33⟩] : List EV).map EV.cells) rfl rfl Tryz.underlying25 Tryz.underlying25 sz53 by53 zt53 rfl rfl rfl f7 rfl rfl evs_four rfl hsl evs_four (by rw [List.length_map]; omega) rfl rfl fun s11 h11 x11 S11 => ?_;replace f0 := f0.ext x11;replace f3 := f3.ext x11;replace e0 := e0.trans x11
 rw [← List.map_append] at S11
 have hs11 := S11.self.scal
 have hx11 := x11.1
 have RN : ClampNew (h.next + 1) h11 (sampleV E) (.slice h2.next 0 2 2) s11 := ⟨fresh_pvs (L := [⟨3, 3, 2, 2, 1, 2⟩, ⟨2, 2, 2, 2, 2, 2⟩]) rfl (by omega) f3, fun h' hl he => S11 h' hl fun b b1 b2 => he b (by omega) b2⟩
 have hsc : scalars [.slice h2.next 0 2 2, .int .i64 4, .int .i64 5, s11] = true := scal_app (a := [.slice h2.next 0 2 2, .int .i64 4, .int .i64 5]) rfl hs11.1
 clear f7;refine gO rfl rfl (aOp_build (ps := [(0, .slice h2.next 0 2 2), (1, .agg [.int .i64 4, .int .i64 5]), (2, s11)]) (cs := [.slice h2.next 0 2 2, .int .i64 4, .int .i64 5, s11]) zt27 hu27 pl27 rfl (by simp [aFillA, hs11.2, cells_agg, splice]; rfl)) rfl ?_;refine GoR.store rfl rfl rfl rfl rfl rfl f0 rfl sz27 rfl hsc rfl fun h12 u12 => ?_;replace f0 := u12.has f0;replace e0 := e0.upd u12 (by omega);apply gE
 have hr := RN.upd u12 (Nat.lt_succ_self _)
 exact gV (ret_end (aResult_of Tryz.func42 rfl (aResults_cell rfl f0 (inCells_agg ag27 sz27 rfl))) ⟨_, _, rfl, e0, ⟨fun h' hl he => hr.1 h' hl fun b b1 b2 => he b (by omega) b2, fun h' hl he => hr.2 h' hl fun b b1 b2 => he b (by omega) b2⟩, Ext.refl _⟩)
theorem nil_ok {h : AH} : Runs Tryz.prog 42 [.nilslice] h (fun en h' => ∃ p e, en = .ret (.agg ((sampleV []).cells p e)) ∧ Ext h h' ∧ ClampAt h' (sampleV []) p e ∧ Ext h' h') :=
 (sample_ok (E := []) .nil (by decide)).mono fun en h' ⟨p, e, q, x, N, y⟩ => ⟨p, e, q, x, N.at, y⟩
theorem counted_ok {h : AH} : Runs Tryz.prog 43 [] h (fun en h' => ∃ p e, en = .ret (.agg ((sampleV [k1]).cells p e)) ∧ Ext h h' ∧ ClampAt h' (sampleV [k1]) p e ∧ Ext h' h') := by
 have hsa := fun {s h'} S => sample_ok (E := [k1]) (s := s) (h := h') S (by decide)
 unfold ClampV.cells at hsa ⊢
 have e0 : Ext h h := Ext.refl _
 refine Runs.intro aFunc43 rfl rfl rfl rfl fun rest => ?_;apply gS;refine gR rfl ?_;refine GoR.alloc rfl rfl rfl zt27 rfl rfl fun h0 x0 f0 => ?_;have := e0.1;replace e0 := e0.trans x0;have := f0.1;apply gE;apply gS;refine gR rfl ?_;refine GoR.call rfl rfl (aCF aFunc35 rfl) (count35_ok) ?_ np;rintro v1 h1 ⟨q, x1⟩;cases q;refine ⟨_, rfl, ?_⟩;replace f0 := f0.ext x1;replace e0 := e0.trans x1;refine GoR.buildSl rfl rfl (ps := [(0, .agg [.int .i64 1, .int .i64 0, .int .i64 13, .int .i64 36])]) (cs := [k1].flatMap EV.cells) Tryz.underlying25 rfl sz53 zt53 rfl rfl rfl rfl fun h2 x2 f2 => ?_;have := e0.1;have := f0.1;replace f0 := f0.ext x2;replace e0 := e0.trans x2;have := f2.1;refine GoR.call rfl rfl (aCF aFunc42 rfl) (hsa (evs_slice (L := [k1]) rfl (by assumption))) ?_ (by rintro _ _ ⟨p, e, q, _, RA, e9⟩; cases q);rintro v3 h3 ⟨p, e, q, x3, RA, e9⟩;cases q;refine ⟨_, rfl, ?_⟩;have := e0.1;replace f2 := f2.ext x3;replace f0 := f0.ext x3;replace e0 := e0.trans x3;refine GoR.store rfl rfl rfl rfl rfl rfl f0 rfl sz27 rfl RA.at.scal rfl fun h4 u4 => ?_;replace f2 := f2.upd u4 (by omega);replace f0 := u4.has f0;clear e9;replace e0 := e0.upd u4 (by omega);apply gE;exact gV (ret_end (aResult_of Tryz.func43 rfl (aResults_cell rfl f0 (inCells_agg ag27 sz27 rfl))) ⟨_, _, rfl, e0, (RA.upd (by assumption) (by omega)).at, Ext.refl _⟩)
theorem clash_ok {h : AH} : Runs Tryz.prog 44 [] h (fun en h' => ∃ p e, en = .ret (.agg ((sampleV [k1, k2]).cells p e)) ∧ Ext h h' ∧ ClampAt h' (sampleV [k1, k2]) p e ∧ Ext h' h') := by
 have hsa := fun {s h'} S => sample_ok (E := [k1, k2]) (s := s) (h := h') S (by decide)
 unfold ClampV.cells at hsa ⊢
 have e0 : Ext h h := Ext.refl _
 refine Runs.intro aFunc44 rfl rfl rfl rfl fun rest => ?_;apply gS;refine gR rfl ?_;refine GoR.alloc rfl rfl rfl zt27 rfl rfl fun h0 x0 f0 => ?_;have := e0.1;replace e0 := e0.trans x0;have := f0.1;apply gE;apply gS;refine gR rfl ?_;refine GoR.call rfl rfl (aCF aFunc35 rfl) (count35_ok) ?_ np;rintro v1 h1 ⟨q, x1⟩;cases q;refine ⟨_, rfl, ?_⟩;replace f0 := f0.ext x1;replace e0 := e0.trans x1;refine GoR.call rfl rfl (aCF aFunc35 rfl) (count35_ok) ?_ np;rintro v2 h2 ⟨q, x2⟩;cases q;refine ⟨_, rfl, ?_⟩;replace f0 := f0.ext x2;replace e0 := e0.trans x2;refine GoR.buildSl rfl rfl (ps := [(0, .agg [.int .i64 1, .int .i64 0, .int .i64 13, .int .i64 36]), (1, .agg [.int .i64 1, .int .i64 0, .int .i64 12, .int .i64 12])]) (cs := [k1, k2].flatMap EV.cells) Tryz.underlying25 rfl sz53 zt53 rfl rfl rfl rfl fun h3 x3 f3 => ?_;have := e0.1;have := f0.1;replace f0 := f0.ext x3;replace e0 := e0.trans x3;have := f3.1;refine GoR.call rfl rfl (aCF aFunc42 rfl) (hsa (evs_slice (L := [k1, k2]) rfl (by assumption))) ?_ (by rintro _ _ ⟨p, e, q, _, RA, e9⟩; cases q);rintro v4 h4 ⟨p, e, q, x4, RA, e9⟩;cases q;refine ⟨_, rfl, ?_⟩;have := e0.1;replace f3 := f3.ext x4;replace f0 := f0.ext x4;replace e0 := e0.trans x4;refine GoR.store rfl rfl rfl rfl rfl rfl f0 rfl sz27 rfl RA.at.scal rfl fun h5 u5 => ?_;replace f3 := f3.upd u5 (by omega);replace f0 := u5.has f0;clear e9;replace e0 := e0.upd u5 (by omega);apply gE;exact gV (ret_end (aResult_of Tryz.func44 rfl (aResults_cell rfl f0 (inCells_agg ag27 sz27 rfl))) ⟨_, _, rfl, e0, (RA.upd (by assumption) (by omega)).at, Ext.refl _⟩)
theorem spanT24 : SpanT Tryz.prog 24 := ⟨⟨_, _, Tryz.underlying24, by decide, by decide, rfl, rfl, ⟨_, Tryz.underlying3⟩, ⟨_, Tryz.underlying3⟩⟩, by kernel_rfl, by kernel_rfl⟩
theorem v0 : (sampleV []).builtR 0 = ((24, 48), 0) := by decide +kernel
theorem cv0 {h : AH} {p e : AVal} (A : ClampAt h (sampleV []) p e) : Runs Tryz.prog 13 [.agg ((sampleV []).cells p e), .int .i64 0] h (fun en h' => en = .ret (.tuple [.agg [.int .i64 24, .int .i64 48], .int .i64 0]) ∧ Ext h h') := by
 have q := Built_ok A ⟨by decide, by decide⟩ 0
 rw [v0] at q;exact q
theorem v1 : (sampleV [k1]).hasR 0 = ((13, 36), 0) := by decide +kernel
theorem cv1 {h : AH} {p e : AVal} (A : ClampAt h (sampleV [k1]) p e) : Runs Tryz.prog 15 [.agg ((sampleV [k1]).cells p e), .int .i64 0] h (fun en h' => en = .ret (.tuple [.agg [.int .i64 13, .int .i64 36], .int .i64 0]) ∧ Ext h h') := by
 have q := Has_ok A ⟨by decide, by decide⟩ 0
 rw [v1] at q;exact q
theorem v2 : (sampleV []).soldR 0 = ((10, 12), 0) := by decide +kernel
theorem cv2 {h : AH} {p e : AVal} (A : ClampAt h (sampleV []) p e) : Runs Tryz.prog 17 [.agg ((sampleV []).cells p e), .int .i64 0] h (fun en h' => en = .ret (.tuple [.agg [.int .i64 10, .int .i64 12], .int .i64 0]) ∧ Ext h h') := by
 have q := Sold_ok A ⟨by decide, by decide⟩ 0
 rw [v2] at q;exact q
theorem v3 : (sampleV []).allR = ((44, 70), 0) := by decide +kernel
theorem cv3 {h : AH} {p e : AVal} (A : ClampAt h (sampleV []) p e) : Runs Tryz.prog 19 [.agg ((sampleV []).cells p e)] h (fun en h' => en = .ret (.tuple [.agg [.int .i64 44, .int .i64 70], .int .i64 0]) ∧ Ext h h') := by
 have q := All_ok A ⟨by decide, by decide⟩
 rw [v3] at q;exact q
theorem v4 : (sampleV []).enoughR 0 20 = (1, 0) := by decide +kernel
theorem cv4 {h : AH} {p e : AVal} (A : ClampAt h (sampleV []) p e) : Runs Tryz.prog 21 [.agg ((sampleV []).cells p e), .int .i64 0, .int .i64 20] h (fun en h' => en = .ret (.tuple [.int .i64 1, .int .i64 0]) ∧ Ext h h') := by
 have q := Enough_ok A ⟨by decide, by decide⟩ 0 20
 rw [v4] at q;exact q
theorem v5 : (sampleV []).emptyR = ((0, 0), 0) := by decide +kernel
theorem cv5 {h : AH} {p e : AVal} (A : ClampAt h (sampleV []) p e) : Runs Tryz.prog 23 [.agg ((sampleV []).cells p e)] h (fun en h' => en = .ret (.tuple [.int .i64 0, .int .i64 0, .int .i64 0]) ∧ Ext h h') := by
 have q := Empty_ok A ⟨by decide, by decide⟩
 rw [v5] at q;exact q
theorem v6 : (sampleV []).shareR 40 = (3, 0) := by decide +kernel
theorem cv6 {h : AH} {p e : AVal} (A : ClampAt h (sampleV []) p e) : Runs Tryz.prog 25 [.agg ((sampleV []).cells p e), .int .i64 40] h (fun en h' => en = .ret (.tuple [.int .i64 3, .int .i64 0]) ∧ Ext h h') := by
 have q := Share_ok A ⟨by decide, by decide⟩ 40
 rw [v6] at q;exact q
theorem v7 : (sampleV [k1, k2]).clashR = (12, 0) := by decide +kernel
theorem cv7 {h : AH} {p e : AVal} (A : ClampAt h (sampleV [k1, k2]) p e) : Runs Tryz.prog 27 [.agg ((sampleV [k1, k2]).cells p e)] h (fun en h' => en = .ret (.tuple [.int .i64 12, .int .i64 0]) ∧ Ext h h') := by
 have q := Clash_ok A ⟨by decide, by decide⟩
 rw [v7] at q;exact q
theorem alive_ok {h : AH} : Runs Tryz.prog 12 [] h (fun en h' => en = .ret (.bool true) ∧ Ext h h') := by
 have e0 : Ext h h := Ext.refl _
 refine Runs.intro aFunc12 rfl rfl rfl rfl fun rest => ?_;apply gS;refine gR rfl ?_;refine gP ?_;apply gE;apply gS;refine gR rfl ?_;refine GoR.call rfl rfl (aCF aFunc42 rfl) (nil_ok) ?_ (by rintro _ _ ⟨p0, q0, q, _, A0, _⟩; cases q);rintro v0 h0 ⟨p0, q0, q, x0, A0, _⟩;cases q;refine ⟨_, rfl, ?_⟩;have := e0.1;replace e0 := e0.trans x0;refine GoR.call rfl rfl (aCF aFunc13 rfl) (cv0 A0) ?_ np;rintro v1 h1 ⟨q, x1⟩;cases q;refine ⟨_, rfl, ?_⟩;replace e0 := e0.trans x1;iterate 3 refine gP ?_
 refine GoR.alloc rfl rfl rfl zt24 rfl rfl fun h2 x2 f2 => ?_;have := e0.1;replace e0 := e0.trans x2;have := f2.1;refine GoR.store rfl rfl rfl rfl rfl rfl f2 rfl sz24 rfl rfl rfl fun h3 u3 => ?_;replace f2 := u3.has f2;replace e0 := e0.upd u3 (by omega);refine gP ?_;apply gE;apply gS;refine gR rfl ?_;refine GoR.call rfl rfl (aCF aFunc43 rfl) (counted_ok) ?_ (by rintro _ _ ⟨p1, q1, q, _, A1, _⟩; cases q);rintro v4 h4 ⟨p1, q1, q, x4, A1, _⟩;cases q;refine ⟨_, rfl, ?_⟩;have := e0.1;replace f2 := f2.ext x4;replace e0 := e0.trans x4;refine GoR.call rfl rfl (aCF aFunc15 rfl) (cv1 A1) ?_ np;rintro v5 h5 ⟨q, x5⟩;cases q;refine ⟨_, rfl, ?_⟩;replace f2 := f2.ext x5;replace e0 := e0.trans x5;iterate 3 refine gP ?_
 refine GoR.alloc rfl rfl rfl zt24 rfl rfl fun h6 x6 f6 => ?_;have := e0.1;have := f2.1;replace f2 := f2.ext x6;replace e0 := e0.trans x6;have := f6.1;refine GoR.store rfl rfl rfl rfl rfl rfl f6 rfl sz24 rfl rfl rfl fun h7 u7 => ?_;replace f6 := u7.has f6;replace f2 := f2.upd u7 (by omega);replace e0 := e0.upd u7 (by omega);refine gP ?_;apply gE;apply gS;refine gR rfl ?_;refine GoR.call rfl rfl (aCF aFunc42 rfl) (nil_ok) ?_ (by rintro _ _ ⟨p0, q0, q, _, A0, _⟩; cases q);rintro v8 h8 ⟨p0, q0, q, x8, A0, _⟩;cases q;refine ⟨_, rfl, ?_⟩;have := e0.1;replace f6 := f6.ext x8;replace f2 := f2.ext x8;replace e0 := e0.trans x8;refine GoR.call rfl rfl (aCF aFunc17 rfl) (cv2 A0) ?_ np;rintro v9 h9 ⟨q, x9⟩;cases q;refine ⟨_, rfl, ?_⟩;replace f6 := f6.ext x9;replace f2 := f2.ext x9;replace e0 := e0.trans x9;iterate 3 refine gP ?_
 refine GoR.alloc rfl rfl rfl zt24 rfl rfl fun h10 x10 f10 => ?_;have := e0.1;have := f6.1;have := f2.1;replace f6 := f6.ext x10;replace f2 := f2.ext x10;replace e0 := e0.trans x10;have := f10.1;refine GoR.store rfl rfl rfl rfl rfl rfl f10 rfl sz24 rfl rfl rfl fun h11 u11 => ?_;replace f10 := u11.has f10;replace f6 := f6.upd u11 (by omega);replace f2 := f2.upd u11 (by omega);replace e0 := e0.upd u11 (by omega);refine gP ?_;apply gE;apply gS;refine gR rfl ?_;refine GoR.call rfl rfl (aCF aFunc42 rfl) (nil_ok) ?_ (by rintro _ _ ⟨p0, q0, q, _, A0, _⟩; cases q);rintro v12 h12 ⟨p0, q0, q, x12, A0, _⟩;cases q;refine ⟨_, rfl, ?_⟩;have := e0.1;replace f10 := f10.ext x12;replace f6 := f6.ext x12;replace f2 := f2.ext x12;replace e0 := e0.trans x12;refine GoR.call rfl rfl (aCF aFunc19 rfl) (cv3 A0) ?_ np;rintro v13 h13 ⟨q, x13⟩;cases q;refine ⟨_, rfl, ?_⟩;replace f10 := f10.ext x13;replace f6 := f6.ext x13;replace f2 := f2.ext x13;replace e0 := e0.trans x13;iterate 3 refine gP ?_
 refine GoR.alloc rfl rfl rfl zt24 rfl rfl fun h14 x14 f14 => ?_;have := e0.1;have := f10.1;have := f6.1;have := f2.1;replace f10 := f10.ext x14;replace f6 := f6.ext x14;replace f2 := f2.ext x14;replace e0 := e0.trans x14;have := f14.1;refine GoR.store rfl rfl rfl rfl rfl rfl f14 rfl sz24 rfl rfl rfl fun h15 u15 => ?_;replace f14 := u15.has f14;replace f10 := f10.upd u15 (by omega);replace f6 := f6.upd u15 (by omega);replace f2 := f2.upd u15 (by omega);replace e0 := e0.upd u15 (by omega);refine gP ?_;apply gE;apply gS;refine gR rfl ?_;refine GoR.call rfl rfl (aCF aFunc42 rfl) (nil_ok) ?_ (by rintro _ _ ⟨p0, q0, q, _, A0, _⟩; cases q);rintro v16 h16 ⟨p0, q0, q, x16, A0, _⟩;cases q;refine ⟨_, rfl, ?_⟩;have := e0.1;replace f14 := f14.ext x16;replace f10 := f10.ext x16;replace f6 := f6.ext x16;replace f2 := f2.ext x16;replace e0 := e0.trans x16;refine GoR.call rfl rfl (aCF aFunc21 rfl) (cv4 A0) ?_ np;rintro v17 h17 ⟨q, x17⟩;cases q;refine ⟨_, rfl, ?_⟩;replace f14 := f14.ext x17;replace f10 := f10.ext x17;replace f6 := f6.ext x17;replace f2 := f2.ext x17;replace e0 := e0.trans x17;iterate 5 refine gP ?_
 apply gE;apply gS;refine gR rfl ?_;refine GoR.call rfl rfl (aCF aFunc42 rfl) (nil_ok) ?_ (by rintro _ _ ⟨p0, q0, q, _, A0, _⟩; cases q);rintro v18 h18 ⟨p0, q0, q, x18, A0, _⟩;cases q;refine ⟨_, rfl, ?_⟩;have := e0.1;replace f14 := f14.ext x18;replace f10 := f10.ext x18;replace f6 := f6.ext x18;replace f2 := f2.ext x18;replace e0 := e0.trans x18;refine GoR.call rfl rfl (aCF aFunc23 rfl) (cv5 A0) ?_ np;rintro v19 h19 ⟨q, x19⟩;cases q;refine ⟨_, rfl, ?_⟩;replace f14 := f14.ext x19;replace f10 := f10.ext x19;replace f6 := f6.ext x19;replace f2 := f2.ext x19;replace e0 := e0.trans x19;iterate 7 refine gP ?_
 apply gE;apply gS;refine gR rfl ?_;refine GoR.call rfl rfl (aCF aFunc42 rfl) (nil_ok) ?_ (by rintro _ _ ⟨p0, q0, q, _, A0, _⟩; cases q);rintro v20 h20 ⟨p0, q0, q, x20, A0, _⟩;cases q;refine ⟨_, rfl, ?_⟩;have := e0.1;replace f14 := f14.ext x20;replace f10 := f10.ext x20;replace f6 := f6.ext x20;replace f2 := f2.ext x20;replace e0 := e0.trans x20;refine GoR.call rfl rfl (aCF aFunc25 rfl) (cv6 A0) ?_ np;rintro v21 h21 ⟨q, x21⟩;cases q;refine ⟨_, rfl, ?_⟩;replace f14 := f14.ext x21;replace f10 := f10.ext x21;replace f6 := f6.ext x21;replace f2 := f2.ext x21;replace e0 := e0.trans x21;iterate 5 refine gP ?_
 apply gE;apply gS;refine gR rfl ?_;refine GoR.call rfl rfl (aCF aFunc44 rfl) (clash_ok) ?_ (by rintro _ _ ⟨p2, q2, q, _, A2, _⟩; cases q);rintro v22 h22 ⟨p2, q2, q, x22, A2, _⟩;cases q;refine ⟨_, rfl, ?_⟩;have := e0.1;replace f14 := f14.ext x22;replace f10 := f10.ext x22;replace f6 := f6.ext x22;replace f2 := f2.ext x22;replace e0 := e0.trans x22;refine GoR.call rfl rfl (aCF aFunc27 rfl) (cv7 A2) ?_ np;rintro v23 h23 ⟨q, x23⟩;cases q;refine ⟨_, rfl, ?_⟩;replace f14 := f14.ext x23;replace f10 := f10.ext x23;replace f6 := f6.ext x23;replace f2 := f2.ext x23;replace e0 := e0.trans x23;iterate 5 refine gP ?_
 apply gE;apply gS;refine Go.drawnE plan12_0 ?_;refine gQ rfl rfl (ld24 rfl f2 rfl) rfl ?_;refine GoE.call rfl rfl (aCF aFunc36 rfl) (span36_ok) (dK 0 0 rfl) ?_ np;rintro v24 h24 ⟨q, x24⟩;cases q;replace f14 := f14.ext x24;replace f10 := f10.ext x24;replace f6 := f6.ext x24;replace f2 := f2.ext x24;replace e0 := e0.trans x24;refine ⟨(rck (h2 := h24) rfl (ld24 rfl f2 rfl) recheck_nil), _, rfl, ?_⟩;refine gQ rfl rfl (aOp_eqlSpan spanT24 rfl rfl rfl) rfl ?_;iterate 2 refine gQ rfl rfl rfl rfl ?_
 refine gQ rfl rfl (kET rfl rfl) rfl ?_;iterate 2 refine gQ rfl rfl rfl rfl ?_
 refine gQ rfl rfl (ld24 rfl f6 rfl) rfl ?_;refine GoE.call rfl rfl (aCF aFunc36 rfl) (span36_ok) (dK 255 8 (dD 255 7 (dD 255 6 (dD 255 5 (dD 255 4 (dD 255 3 (dD 255 2 (dD 255 0 rfl)))))))) ?_ np;rintro v25 h25 ⟨q, x25⟩;cases q;replace f14 := f14.ext x25;replace f10 := f10.ext x25;replace f6 := f6.ext x25;replace e0 := e0.trans x25;refine ⟨(rck (h2 := h25) rfl (ld24 rfl f6 rfl) recheck_nil), _, rfl, ?_⟩;refine gQ rfl rfl (aOp_eqlSpan spanT24 rfl rfl rfl) rfl ?_;iterate 3 refine gQ rfl rfl rfl rfl ?_
 refine gQ rfl rfl (kET rfl rfl) rfl ?_;iterate 2 refine gQ rfl rfl rfl rfl ?_
 refine gQ rfl rfl (ld24 rfl f10 rfl) rfl ?_;refine GoE.call rfl rfl (aCF aFunc36 rfl) (span36_ok) (dK 131071 17 (dD 131071 16 (dD 131071 15 (dD 131071 14 (dD 131071 13 (dD 131071 12 (dD 131071 11 (dD 131071 10 (dD 131071 8 rfl))))))))) ?_ np;rintro v26 h26 ⟨q, x26⟩;cases q;replace f14 := f14.ext x26;replace f10 := f10.ext x26;replace e0 := e0.trans x26;refine ⟨(rck (h2 := h26) rfl (ld24 rfl f10 rfl) recheck_nil), _, rfl, ?_⟩;refine gQ rfl rfl (aOp_eqlSpan spanT24 rfl rfl rfl) rfl ?_;iterate 3 refine gQ rfl rfl rfl rfl ?_
 refine gQ rfl rfl (kET rfl rfl) rfl ?_;iterate 2 refine gQ rfl rfl rfl rfl ?_
 refine gQ rfl rfl (ld24 rfl f14 rfl) rfl ?_;refine GoE.call rfl rfl (aCF aFunc36 rfl) (span36_ok) (dK 67108863 26 (dD 67108863 25 (dD 67108863 24 (dD 67108863 23 (dD 67108863 22 (dD 67108863 21 (dD 67108863 20 (dD 67108863 19 (dD 67108863 17 rfl))))))))) ?_ np;rintro v27 h27 ⟨q, x27⟩;cases q;replace f14 := f14.ext x27;replace e0 := e0.trans x27;refine ⟨(rck (h2 := h27) rfl (ld24 rfl f14 rfl) recheck_nil), _, rfl, ?_⟩;refine gQ rfl rfl (aOp_eqlSpan spanT24 rfl rfl rfl) rfl ?_;iterate 3 refine gQ rfl rfl rfl rfl ?_
 refine gQ rfl rfl (kET rfl rfl) rfl ?_;iterate 3 refine gQ rfl rfl rfl rfl ?_
 refine gQ rfl rfl (kET rfl rfl) rfl ?_;iterate 3 refine gQ rfl rfl rfl rfl ?_
 refine gQ rfl rfl (kET rfl rfl) rfl ?_;iterate 3 refine gQ rfl rfl rfl rfl ?_
 refine gQ rfl rfl (kET rfl rfl) rfl ?_;iterate 3 refine gQ rfl rfl rfl rfl ?_
 refine gQ rfl rfl (kET rfl rfl) rfl ?_;iterate 3 refine gQ rfl rfl rfl rfl ?_
 refine gQ rfl rfl (kET rfl rfl) rfl ?_;iterate 3 refine gQ rfl rfl rfl rfl ?_
 refine gQ rfl rfl (kET rfl rfl) rfl ?_;iterate 3 refine gQ rfl rfl rfl rfl ?_
 refine gQ rfl rfl (kET rfl rfl) rfl ?_;iterate 3 refine gQ rfl rfl rfl rfl ?_
 refine gQ rfl rfl (kET rfl rfl) rfl ?_;iterate 3 refine gQ rfl rfl rfl rfl ?_
 refine gQ rfl rfl (kET rfl rfl) rfl ?_;iterate 2 refine gQ rfl rfl rfl rfl ?_
 refine GoE.end rfl ?_;exact gW Tryz.func12 rfl rfl ⟨rfl, e0⟩
end Go.Proofs.YtobhkdgcciolmaaGreat

namespace Go.Proofs.YtobhkdgcciolmaaGreat
open Go Go.AbsE
set_option linter.unusedSimpArgs false
set_option maxRecDepth 100000
set_option maxHeartbeats 0
set_option linter.unusedVariables false
end Go.Proofs.YtobhkdgcciolmaaGreat

namespace Go.Proofs.YtobhkdgcciolmaaGreat
open Go Go.AbsE
set_option linter.unusedSimpArgs false
set_option maxRecDepth 100000
set_option maxHeartbeats 0
set_option linter.unusedVariables false
def keepV (s : Nat) : Nat → List EV → List EV
 | _, [] => []
 | k, x :: L => if x.kind ≠ 1 ∨ s.testBit k = true then x :: keepV s (k + 1) L else keepV s (k + 1) L
theorem keepV_app {s : Nat} {x : EV} : ∀ {A : List EV} {k : Nat}, keepV s k (A ++ [x]) = keepV s k A ++ (if x.kind ≠ 1 ∨ s.testBit (k + A.length) = true then [x] else [])
 | [], k => by
  simp [keepV]
 | y :: A, k => by
  show keepV s k (y :: (A ++ [x])) = _
  unfold keepV
  rw [keepV_app, show k + 1 + A.length = k + (y :: A).length by simp only [List.length_cons]; omega]
  split <;> rfl
theorem keepV_len {s : Nat} : ∀ {L : List EV} {k : Nat}, (keepV s k L).length ≤ L.length
 | [], k => Nat.le_refl _
 | y :: L, k => by
  unfold keepV
  have := keepV_len (s := s) (L := L) (k := k + 1)
  split <;> simp only [List.length_cons] <;> omega
theorem keepV_wo {s out : Nat} : ∀ {L : List EV} {k : Nat}, (∀ i x, L[i]? = some x → out.testBit (k + i) = (decide (x.kind = 1) && !s.testBit (k + i))) → keepV s k L = dropV out k L
 | [], k, h => rfl
 | y :: L, k, h => by
  have h0 := h 0 y rfl
  rw [Nat.add_zero] at h0
  have ih := keepV_wo (s := s) (out := out) (L := L) (k := k + 1) fun i x hx => by
   have := h (i + 1) x (by simpa using hx)
   rwa [show k + (i + 1) = k + 1 + i by omega] at this
  unfold keepV dropV
  rw [ih]
  by_cases q : y.kind = 1
  ·rw [decide_eq_true q, Bool.true_and] at h0
   cases q2 : s.testBit k with
   | true =>
    rw [q2] at h0;rw [h0, if_pos (.inr rfl)]
    rfl
   | false =>
    rw [q2] at h0;rw [h0, if_neg (by rintro (w | w); exact w q; cases w)]
    rfl
  ·rw [decide_eq_false q, Bool.false_and] at h0;rw [h0, if_pos (.inl q)]
   rfl
theorem andNot_bit {a b i : Nat} (ha : a < 2 ^ 64) (hi : i < 64) : (andNot a b).testBit i = (a.testBit i && !b.testBit i) := by
 unfold andNot
 rw [BitVec.testBit_toNat, BitVec.getLsbD_and, BitVec.getLsbD_not, BitVec.getLsbD_ofNat, BitVec.getLsbD_ofNat]
 simp [hi]
theorem keep_less {C : ClampV} (O : C.Ok) (s : Nat) : ({ C with es := keepV s 0 C.es } : ClampV) = C.drop (andNot C.cnt s) := by
 have hlt := cnt_lt O
 unfold ClampV.drop
 rw [keepV_wo]
 intro i x hx
 have hi := (List.getElem?_eq_some_iff.1 hx).1
 have := O.ne
 rw [Nat.zero_add, andNot_bit (by omega) (by omega)]
 unfold ClampV.cnt
 rw [bitsV_test, decide_eq_true hi, Bool.true_and]
 unfold cntAt
 rw [hx]
 have hk := (O.e x (List.mem_of_getElem? hx)).2.2
 have : decide (x.kind ≠ 0) = decide (x.kind = 1) := by
  rw [decide_eq_decide]
  omega
 dsimp only
 rw [this]
theorem clash39_ok {C : ClampV} (O : C.Ok) {s : Nat} {sp se : AVal} {h : AH} (A : ClampAt h C sp se) {bh : Nat} (fh : Has h bh (.cells .plain [sp, .int .i64 C.pl, .int .i64 C.ph, se] 27)) :
  Runs Tryz.prog 39 [.int .i64 (s : Nat), .ptr bh 0] h (fun en h' => en = .ret (.bool (C.clashes s)) ∧ Ext h h') := by
 have hl2 := A.es.len
 rw [List.length_map] at hl2
 have hne := O.ne
 have hsc := A.scal
 unfold ClampV.cells at hsc
 have hbh := fh.1
 have e0 : Ext h h := Ext.refl _
 refine Runs.intro aFunc39 rfl rfl rfl rfl fun rest => ?_;apply gS;refine gR rfl ?_;refine gP ?_;apply gE;apply gS;refine gR rfl ?_;refine gO rfl rfl (ld27 rfl fh rfl) rfl ?_;refine GoR.alloc rfl rfl rfl zt27 rfl rfl fun h0 x0 f0 => ?_;have := e0.1;have := fh.1;replace fh := fh.ext x0;replace e0 := e0.trans x0;have := f0.1;refine GoR.store rfl rfl rfl rfl rfl rfl f0 rfl sz27 rfl hsc rfl fun h1 u1 => ?_;replace f0 := u1.has f0;replace fh := fh.upd u1 (by omega);replace e0 := e0.upd u1 (by omega);apply gE;apply gS;refine gR rfl ?_;refine gO rfl rfl (fa27_2 rfl) rfl ?_;refine GoR.store rfl rfl rfl rfl rfl rfl f0 rfl sz25 rfl rfl rfl fun h2 u2 => ?_;replace f0 := u2.has f0;replace fh := fh.upd u2 (by omega);replace e0 := e0.upd u2 (by omega);apply gE;iterate 2 apply gS
 refine gR rfl ?_;refine gO rfl rfl (fa27_2 rfl) rfl ?_;refine gO rfl rfl (ld25 rfl fh rfl) rfl ?_;refine gO rfl rfl (aOp_lenSlice Tryz.underlying25 rfl hl2) rfl ?_;refine gP ?_;apply gE;refine Go.block noJ_ok ?_
 have hb0 := f0.1
 have hn2 : h2.next = h0.next := by rw [u2.1, u1.1]
 refine Go.loopKeep (fun a : Nat × AVal => [(0, .int .i64 (s : Nat)), (1, .ptr bh 0), (4, .ptr h.next 0), (12, se), (13, .int .i64 C.es.length), (14, .int .i64 (a.1 : Nat))])
  (fun m a h' => m + a.1 = C.es.length ∧ Ext h h' ∧ h2.next ≤ h'.next ∧ Has h' h.next (.cells .plain [sp, .int .i64 C.pl, .int .i64 C.ph, a.2] 27) ∧ Grow h' 53 4 h2.next a.2 (keepV s 0 (C.es.take a.1)).length ((keepV s 0 (C.es.take a.1)).flatMap EV.cells))
  (n := C.es.length) (0, .nilslice) ⟨rfl, rfl, rfl, rfl, rfl, rfl, trivial⟩ ⟨rfl, e0, Nat.le_refl _, f0, Grow.nil _ _ _ _⟩ ?_
 clear e0 f0 fh;rintro m ⟨i, sl⟩ h10 ⟨hm, e0, hn10, f0, G⟩ again
 dsimp only at hm f0 G ⊢
 by_cases hi : i < C.es.length
 ·obtain ⟨x, hx⟩ : ∃ x, C.es[i]? = some x := ⟨C.es[i], by simp [hi]⟩
  obtain ⟨bq, off, q1, q2⟩ := (A.es.ext e0).at (i := i) (l := EV.cells x) (by rw [List.getElem?_map, hx]; rfl)
  rw [List.length_map] at q1
  have hap : keepV s 0 (C.es.take (i + 1)) = keepV s 0 (C.es.take i) ++ (if x.kind ≠ 1 ∨ s.testBit i = true then [x] else []) := by
   rw [List.take_add_one, hx, Option.toList_some, keepV_app, Nat.zero_add, List.length_take, Nat.min_eq_left (by omega)]
  have hbit : decide (((s : Nat) : Int).fdiv (2 ^ i) % 2 = 1) = s.testBit i := bit_int s i
  have hlen := keepV_len (s := s) (L := C.es.take i) (k := 0)
  rw [List.length_take] at hlen
  obtain ⟨xk, xa, xb, xd⟩ := x
  unfold EV.cells at q2
  dsimp only at q2 hap
  have e1 : Ext h10 h10 := Ext.refl _
  have skip : ¬ (xk ≠ 1 ∨ s.testBit i = true) → (xk = 1 ∧ s.testBit i = false) := fun q => by
   refine ⟨Decidable.of_not_not fun w => q (.inl w), ?_⟩
   cases w : s.testBit i with
   | false => rfl
   | true => exact absurd (.inr w) q
  by_cases hk : xk ≠ 1 ∨ s.testBit i = true
  ·rw [if_pos hk] at hap;apply gS;refine gR rfl ?_;refine gO rfl rfl (kLT rfl rfl) rfl ?_;apply gE;apply gS;refine gC (b := true) rfl ?_;refine gD ?_;apply gS;refine Go.block noJ_ok ?_;apply gS;refine gR rfl ?_;refine gP ?_;refine gO rfl rfl (aOp_indexAddr Tryz.underlying25 sz53 rfl q1 rfl (Nat.ble_eq_true_of_le hi)) rfl ?_;refine gO rfl rfl (aOp_loadE ag53 sz53 rfl (q2.ext e1)) rfl ?_;refine GoR.alloc rfl rfl rfl zt53 rfl rfl fun h11 x11 f11 => ?_;have := e0.1;have := e1.1;have := f0.1;replace f0 := f0.ext x11;replace e0 := e0.trans x11;replace e1 := e1.trans x11;have := f11.1;refine gP ?_;refine GoR.store rfl rfl rfl rfl rfl rfl f11 rfl sz53 rfl rfl rfl fun h12 u12 => ?_;replace f11 := u12.has f11;replace f0 := f0.upd u12 (by omega);replace e0 := e0.upd u12 (by omega);replace e1 := e1.upd u12 (by omega);apply gE;refine Go.seq noJ_ok (Go.join (fun _ : Unit => [(0, .int .i64 (s : Nat)), (1, .ptr bh 0), (4, .ptr h.next 0), (12, se), (13, .int .i64 C.es.length), (14, .int .i64 (i : Nat)), (6, .ptr h10.next 0), (28, .bool true)]) (fun _ h' => h' = h12) ?_ ?_)
   ·intro k' done
    by_cases hk2 : xk = 1
    ·subst hk2
     have hb : s.testBit i = true := hk.resolve_left (fun w => w rfl)
     rw [hb] at hbit;refine gR rfl ?_;refine gO rfl rfl (fa53_0 rfl) rfl ?_;refine gO rfl rfl (ld3 rfl f11 rfl) rfl ?_;refine gO rfl rfl (kXF rfl rfl) rfl ?_;iterate 3 refine gP ?_
     refine gO rfl rfl (aOp_shr rfl rfl (by omega) rfl) rfl ?_;refine gO rfl rfl (aOp_and1 rfl rfl rfl) rfl ?_;refine gO rfl rfl (aOp_eql rfl rfl hbit) rfl ?_;refine gP ?_;apply gE;exact done () _ _ ⟨rfl, rfl, rfl, rfl, rfl, rfl, rfl, rfl, trivial⟩ rfl
    ·refine gR rfl ?_;refine gO rfl rfl (fa53_0 rfl) rfl ?_;refine gO rfl rfl (ld3 rfl f11 rfl) rfl ?_;refine gO rfl rfl (aOp_neq rfl rfl (r := true) (decide_eq_false hk2)) rfl ?_;refine gP ?_;iterate 5 refine GoR.skip rfl rfl rfl ?_
     refine gP ?_;apply gE;exact done () _ _ ⟨rfl, rfl, rfl, rfl, rfl, rfl, rfl, rfl, trivial⟩ rfl
   rintro ⟨⟩ _ rfl;refine gC (b := true) rfl ?_;refine gR rfl ?_;refine gO rfl rfl (fa27_2 rfl) rfl ?_;refine gO rfl rfl (ld25 rfl f0 rfl) rfl ?_;refine gO rfl rfl (ld53 rfl f11 rfl) rfl ?_;refine GoR.buildSl rfl rfl (ps := [(0, .agg [.int .i64 xk, .int .i64 xa, .int .i64 xb, .int .i64 xd])]) (cs := [.int .i64 xk, .int .i64 xa, .int .i64 xb, .int .i64 xd]) Tryz.underlying25 rfl sz53 zt53 rfl rfl rfl rfl fun h12 x12 f12 => ?_;have := e0.1;have := e1.1;have := f11.1;have := f0.1;replace f0 := f0.ext x12;replace e0 := e0.trans x12;replace e1 := e1.trans x12;have := f12.1
   have G' := G.ext e1
   have hx1 := e1.1
   refine GoR.append1F (lo := h2.next) (s := sl) rfl rfl rfl Tryz.underlying25 Tryz.underlying25 sz53 by53 zt53 rfl rfl rfl rfl f12 rfl rfl G' (by omega) rfl rfl fun s6 h59 y59 g59 => ?_
   have e9 : Ext h h59 := y59.low e0 (fun b q => by have := (grow_own G' q).1; omega)
   have f9 := f0.extF y59 (fun q => by have := (grow_own G' q).1; omega)
   have hy := y59.1
   obtain ⟨hk1, hk2⟩ := grow_scal g59
   have hst1 : Nat.beq s6.cells.length 1 = true := by rw [hk2]; rfl
   have hst2 : scalars s6.cells = true := by rw [hk2]; exact hk1
   have hst3 : splice [sp, .int .i64 C.pl, .int .i64 C.ph, sl] (0 + 3) s6.cells = some [sp, .int .i64 C.pl, .int .i64 C.ph, s6] := by rw [hk2]; rfl
   clear e0 e1 f0 f12 f11 y59
   have e0 := e9
   have f0 := f9
   clear e9 f9;refine gO rfl rfl (fa27_2 rfl) rfl ?_;refine GoR.store rfl rfl rfl rfl rfl rfl f0 rfl sz25 hst1 hst2 hst3 fun h60 u60 => ?_;replace f0 := u60.has f0;replace e0 := e0.upd u60 (by omega);apply gE;refine Go.inBlock noJ_ok ?_;refine gR rfl ?_;refine gO rfl rfl (aA rfl rfl) rfl ?_;refine gP ?_;apply gE
   have hu := u60.1
   refine again (m - 1) (i + 1, s6) _ _ (by omega) ⟨rfl, rfl, rfl, rfl, rfl, rfl, trivial⟩ ⟨by dsimp only; omega, e0, by omega, f0, ?_⟩
   dsimp only
   rw [hap, List.length_append, List.flatMap_append];exact (g59.low (by omega)).keep (by omega) fun b hb1 hb2 hb3 => u60.2.2 b (by have := (grow_own g59 hb3).1; omega)
  ·obtain ⟨k1, k2⟩ := skip hk
   rw [if_neg hk, List.append_nil] at hap;rw [k2] at hbit;subst k1;apply gS;refine gR rfl ?_;refine gO rfl rfl (kLT rfl rfl) rfl ?_;apply gE;apply gS;refine gC (b := true) rfl ?_;refine gD ?_;apply gS;refine Go.block noJ_ok ?_;apply gS;refine gR rfl ?_;refine gP ?_;refine gO rfl rfl (aOp_indexAddr Tryz.underlying25 sz53 rfl q1 rfl (Nat.ble_eq_true_of_le hi)) rfl ?_;refine gO rfl rfl (aOp_loadE ag53 sz53 rfl (q2.ext e1)) rfl ?_;refine GoR.alloc rfl rfl rfl zt53 rfl rfl fun h11 x11 f11 => ?_;have := e0.1;have := e1.1;have := f0.1;replace f0 := f0.ext x11;replace e0 := e0.trans x11;replace e1 := e1.trans x11;have := f11.1;refine gP ?_;refine GoR.store rfl rfl rfl rfl rfl rfl f11 rfl sz53 rfl rfl rfl fun h12 u12 => ?_;replace f11 := u12.has f11;replace f0 := f0.upd u12 (by omega);replace e0 := e0.upd u12 (by omega);replace e1 := e1.upd u12 (by omega);apply gE;apply gS;refine gR rfl ?_;refine gO rfl rfl (fa53_0 rfl) rfl ?_;refine gO rfl rfl (ld3 rfl f11 rfl) rfl ?_;refine gO rfl rfl (kXF rfl rfl) rfl ?_;iterate 3 refine gP ?_
   refine gO rfl rfl (aOp_shr rfl rfl (by omega) rfl) rfl ?_;refine gO rfl rfl (aOp_and1 rfl rfl rfl) rfl ?_;refine gO rfl rfl (aOp_eql rfl rfl hbit) rfl ?_;refine gP ?_;apply gE;refine gC (b := false) rfl ?_;refine gD ?_;refine Go.inBlock noJ_ok ?_;refine gR rfl ?_;refine gO rfl rfl (aA rfl rfl) rfl ?_;refine gP ?_;apply gE
   have hx1 := e1.1
   exact again (m - 1) (i + 1, sl) _ _ (by omega) ⟨rfl, rfl, rfl, rfl, rfl, rfl, trivial⟩ ⟨by dsimp only; omega, e0, by omega, f0, by dsimp only; rw [hap]; exact G.ext e1⟩
 ·have hin : i = C.es.length := by omega
  subst hin;rw [List.take_length] at G
  have O2 := drop_ok O (andNot C.cnt s)
  have hl := keep_less O s
  have hlen := keepV_len (s := s) (L := C.es) (k := 0)
  obtain ⟨L, hL⟩ : ∃ L, keepV s 0 C.es = L := ⟨_, rfl⟩
  rw [hL] at G hl hlen
  rw [← hl] at O2
  have hslS : SliceOf h10 4 sl (L.map EV.cells) := by
   have k : Grow h10 53 4 h2.next sl (L.map EV.cells).length ((L.map EV.cells).flatten) := by
    rw [List.length_map, ← List.flatMap_def];exact G
   exact k.sliceOf (slice_flatten fun l hl => by obtain ⟨_, _, rfl⟩ := List.mem_map.1 hl; rfl)
  have hW := fun {h'} (e : Ext h h') (e' : Ext h10 h') => All_ok (C := { C with es := L }) (⟨A.ps.ext e, hslS.ext e'⟩ : ClampAt h' { C with es := L } sp sl) O2.B
  have e1 : Ext h10 h10 := Ext.refl _
  have hcl : C.clashes s = !({ C with es := L } : ClampV).possible := by unfold ClampV.clashes; rw [← hl]
  cases hc : ({ C with es := L } : ClampV).possible with
  | true =>
   rw [show ({ C with es := L } : ClampV).allR = (({ C with es := L } : ClampV).total ({ C with es := L } : ClampV).all, 0) from by unfold ClampV.allR; rw [ClampV.ok_yes O2, ClampV.tr_yes hc]] at hW;rw [hcl, hc]
   unfold ClampV.cells spC at hW
   dsimp only at hW
   apply gS;refine gR rfl ?_;refine gO rfl rfl (kLF rfl rfl) rfl ?_;apply gE;apply gS;refine gC (b := false) rfl ?_;refine gD ?_;apply gS;refine gR rfl ?_;refine gO rfl rfl (ld27 rfl f0 rfl) rfl ?_;refine GoR.call rfl rfl (aCF aFunc19 rfl) (hW e0 e1) ?_ np;rintro v11 h11 ⟨q, x11⟩;cases q;refine ⟨_, rfl, ?_⟩;replace f0 := f0.ext x11;replace e0 := e0.trans x11;replace e1 := e1.trans x11;iterate 3 refine gP ?_
   refine GoR.alloc rfl rfl rfl zt24 rfl rfl fun h12 x12 f12 => ?_;have := e0.1;have := e1.1;have := f0.1;replace f0 := f0.ext x12;replace e0 := e0.trans x12;replace e1 := e1.trans x12;have := f12.1;refine GoR.store rfl rfl rfl rfl rfl rfl f12 rfl sz24 rfl rfl rfl fun h13 u13 => ?_;replace f12 := u13.has f12;replace f0 := f0.upd u13 (by omega);replace e0 := e0.upd u13 (by omega);replace e1 := e1.upd u13 (by omega);refine gP ?_;apply gE;apply gS;refine gR rfl ?_;refine gP ?_;refine gO rfl rfl (kEF rfl rfl) rfl ?_;refine gP ?_;apply gE;exact gW Tryz.func39 rfl rfl ⟨rfl, e0⟩
  | false =>
   rw [show ({ C with es := L } : ClampV).allR = (zSp, 10) from by unfold ClampV.allR; rw [ClampV.ok_yes O2, ClampV.tr_no hc]] at hW;rw [hcl, hc]
   unfold ClampV.cells spC zSp at hW
   dsimp only at hW
   apply gS;refine gR rfl ?_;refine gO rfl rfl (kLF rfl rfl) rfl ?_;apply gE;apply gS;refine gC (b := false) rfl ?_;refine gD ?_;apply gS;refine gR rfl ?_;refine gO rfl rfl (ld27 rfl f0 rfl) rfl ?_;refine GoR.call rfl rfl (aCF aFunc19 rfl) (hW e0 e1) ?_ np;rintro v11 h11 ⟨q, x11⟩;cases q;refine ⟨_, rfl, ?_⟩;replace f0 := f0.ext x11;replace e0 := e0.trans x11;replace e1 := e1.trans x11;iterate 3 refine gP ?_
   refine GoR.alloc rfl rfl rfl zt24 rfl rfl fun h12 x12 f12 => ?_;have := e0.1;have := e1.1;have := f0.1;replace e0 := e0.trans x12;have := f12.1;refine GoR.store rfl rfl rfl rfl rfl rfl f12 rfl sz24 rfl rfl rfl fun h13 u13 => ?_;replace e0 := e0.upd u13 (by omega);refine gP ?_;apply gE;apply gS;refine gR rfl ?_;refine gP ?_;refine gO rfl rfl (kET rfl rfl) rfl ?_;refine gP ?_;apply gE;exact gW Tryz.func39 rfl rfl ⟨rfl, e0⟩
end Go.Proofs.YtobhkdgcciolmaaGreat

namespace Go.Proofs.YtobhkdgcciolmaaGreat
open Go Go.AbsE
set_option linter.unusedSimpArgs false
set_option maxRecDepth 100000
set_option maxHeartbeats 0
set_option linter.unusedVariables false
theorem popc_half : ∀ s, s < 1024 → popc s = s % 2 + popc (s / 2) := by decide +kernel
theorem size38_ok (s : Nat) (hs : s < 1024) {h : AH} : Runs Tryz.prog 38 [.int .i64 (s : Nat)] h (fun en h' => en = .ret (.int .i64 (popc s : Nat)) ∧ Ext h h') := by
 have e0 : Ext h h := Ext.refl _
 refine Runs.intro aFunc38 rfl rfl rfl rfl fun rest => ?_;apply gS;refine gR rfl ?_;refine gP ?_;apply gE;apply gS;refine gR rfl ?_;refine gP ?_;apply gE;apply gS;refine Go.block noJ_ok ?_;refine Go.loopKeep (fun a : Nat × Nat => [(0, .int .i64 (a.1 : Nat)), (3, .int .i64 (a.2 : Nat))]) (fun m a h' => a.1 ≤ m ∧ a.1 < 1024 ∧ a.2 + popc a.1 = popc s ∧ Ext h h') (n := s) (s, 0) ⟨rfl, rfl, trivial⟩ ⟨Nat.le_refl _, hs, by simp, e0⟩ ?_;clear e0;rintro m ⟨z, n⟩ h2' ⟨hm, hz, hn, e0⟩ again
 dsimp only at hm hz hn ⊢
 have hp5 := popc_le s
 have hph := popc_half z hz
 by_cases hz0 : 0 < z
 ·have hr : ((z : Nat) : Int).tmod 2 = ((z % 2 : Nat) : Int) := rfl
  have hq : ((z : Nat) : Int).tdiv 2 = ((z / 2 : Nat) : Int) := rfl
  have hsum : ((n : Nat) : Int) + ((z % 2 : Nat) : Int) = ((n + z % 2 : Nat) : Int) := by push_cast; rfl
  have again2 := again (z / 2) (z / 2, n + z % 2)
  dsimp only at again2
  rw [← hsum] at again2
  obtain ⟨zr, hzr⟩ : ∃ zr, ((z % 2 : Nat) : Int) = zr := ⟨_, rfl⟩
  obtain ⟨zq, hzq⟩ : ∃ zq, ((z / 2 : Nat) : Int) = zq := ⟨_, rfl⟩
  rw [hzr] at hr again2;rw [hzq] at hq again2
  have hzr2 : 0 ≤ zr ∧ zr ≤ 1 := by omega
  have hzq2 : 0 ≤ zq ∧ zq ≤ 512 := by omega
  iterate 2 apply gS
  refine gR rfl ?_;refine gP ?_;refine gO rfl rfl (kGT rfl rfl) rfl ?_;apply gE;refine gC (b := true) rfl ?_;refine gD ?_;refine Go.block noJ_ok ?_;refine gR rfl ?_;iterate 2 refine gP ?_
  refine gO rfl rfl (aOp_rem rfl rfl (by decide) hr) rfl ?_;refine gO rfl rfl (aA rfl rfl) rfl ?_;refine gP ?_;refine gO rfl rfl (aOp_quo rfl rfl (by decide) hq (by omega)) rfl ?_;iterate 2 refine gP ?_
  apply gE;refine Go.inBlock noJ_ok ?_;exact again2 _ _ (by omega) ⟨rfl, rfl, trivial⟩ ⟨Nat.le_refl _, by omega, by omega, e0⟩
 ·have hz00 : z = 0 := by omega
  subst hz00
  have hp0 : popc 0 = 0 := by decide
  have hns : n = popc s := by omega
  subst hns;iterate 2 apply gS
  refine gR rfl ?_;refine gP ?_;refine gO rfl rfl (kGF rfl rfl) rfl ?_;apply gE;refine gC (b := false) rfl ?_;refine gD ?_;apply gS;refine gR rfl ?_;iterate 2 refine gP ?_
  apply gE;exact gW Tryz.func38 rfl rfl ⟨rfl, e0⟩
theorem mem_subs {of s : Nat} : s ∈ subs of ↔ s < of + 1 ∧ andNot s of = 0 ∧ popc s < popc of + 1 := by
 unfold subs subA subB goodS
 simp only [List.mem_flatMap, List.mem_range, List.mem_filter, Bool.and_eq_true, decide_eq_true_eq]
 constructor
 ·rintro ⟨j, hj, h1, h2, h3⟩;exact ⟨h1, h2, by omega⟩
 ·rintro ⟨h1, h2, h3⟩;exact ⟨popc s, h3, h1, h2, rfl⟩
theorem subs_pair (of : Nat) : (subs of).Pairwise fun a b => popc a < popc b ∨ (popc a = popc b ∧ a < b) := by
 unfold subs subA
 rw [List.pairwise_flatMap];refine ⟨fun j _ => ?_, List.pairwise_lt_range.imp fun {i j} hij x hx y hy => ?_⟩
 ·unfold subB
  refine (List.Pairwise.filter _ (List.pairwise_lt_range (n := of + 1))).imp_of_mem fun {a b} ha hb hab => ?_
  have h1 := (List.mem_filter.1 ha).2
  have h2 := (List.mem_filter.1 hb).2
  unfold goodS at h1 h2
  simp only [Bool.and_eq_true, decide_eq_true_eq] at h1 h2
  exact .inr ⟨by omega, hab⟩
 ·have h1 := (List.mem_filter.1 hx).2
  have h2 := (List.mem_filter.1 hy).2
  unfold goodS at h1 h2
  simp only [Bool.and_eq_true, decide_eq_true_eq] at h1 h2
  exact .inl (by omega)
theorem subs_first {of q : Nat} {p : Nat → Bool} (h : (subs of).find? p = some q) : q ∈ subs of ∧ p q = true ∧ ∀ s, s ∈ subs of → p s = true → popc q < popc s ∨ (popc q = popc s ∧ q ≤ s) := by
 refine ⟨List.mem_of_find?_eq_some h, List.find?_some h, fun s hs ps => ?_⟩
 obtain ⟨_, aa, bb, hl, has⟩ := List.find?_eq_some_iff_append.1 h
 have hP := subs_pair of
 rw [hl] at hs hP
 rcases List.mem_append.1 hs with q1 | q1
 ·have := has s q1
  rw [ps] at this;cases this
 ·rcases List.mem_cons.1 q1 with q2 | q2
  ·subst q2;exact .inr ⟨rfl, Nat.le_refl _⟩
  ·have := List.rel_of_pairwise_cons (List.pairwise_append.1 hP).2.1 q2
   omega
theorem small_bit {s i : Nat} (hs : s < 1024) (hi : ¬ i < 10) : s.testBit i = false := by
 have : 2 ^ 10 ≤ 2 ^ i := Nat.pow_le_pow_right (by decide) (by omega)
 exact Nat.testBit_lt_two_pow (by omega)
theorem sub_bits {s of : Nat} (hs : s < 1024) (h : ∀ i, i < 10 → s.testBit i = true → of.testBit i = true) : s ≤ of ∧ popc s ≤ popc of ∧ andNot s of = 0 := by
 have hall : ∀ i, s.testBit i = true → of.testBit i = true := fun i hi => by
  by_cases q : i < 10
  ·exact h i q hi
  ·rw [small_bit hs q] at hi;cases hi
 refine ⟨?_, ?_, ?_⟩
 ·have : s &&& of = s := Nat.eq_of_testBit_eq fun i => by
   rw [Nat.testBit_and]
   cases q : s.testBit i with
   | false => rfl
   | true => rw [hall i q]; rfl
  rw [← this]
  exact Nat.and_le_right
 ·unfold popc
  rw [← List.countP_eq_length_filter, ← List.countP_eq_length_filter]
  exact List.countP_mono_left fun i _ hi => hall i hi
 ·refine Nat.eq_of_testBit_eq fun i => ?_;rw [Nat.zero_testBit]
  by_cases q : i < 64
  ·rw [andNot_bit (by omega) q]
   cases q2 : s.testBit i with
   | false => rfl
   | true => rw [hall i q2]; rfl
  ·have h1 := andNot_le s of (by omega)
   exact small_bit (Nat.lt_of_le_of_lt h1 hs) (by omega)
theorem subs_bits {s of : Nat} (hs : s < 1024) (h : ∀ i, i < 10 → s.testBit i = true → of.testBit i = true) : s ∈ subs of := by
 obtain ⟨h1, h2, h3⟩ := sub_bits hs h
 exact mem_subs.2 ⟨by omega, h3, by omega⟩
theorem drop_zero (C : ClampV) : C.drop 0 = C := by
 have : ∀ (L : List EV) k, dropV 0 k L = L := fun L => by
  induction L with
  | nil => intro k; rfl
  | cons x L ih => intro k; unfold dropV; rw [Nat.zero_testBit, ih]; rfl
 unfold ClampV.drop
 rw [this]
theorem clashes_all {C : ClampV} (O : C.Ok) : C.clashes C.cnt = !C.possible := by
 have hlt := cnt_lt O
 unfold ClampV.clashes
 rw [(sub_bits (by omega) fun i _ h => h).2.2, drop_zero]
theorem popc_less : ∀ s, s < 1024 → ∀ i, i < 10 → s.testBit i = true → popc (andNot s (2 ^ i)) + 1 = popc s := by decide +kernel
theorem clash_ex {C : ClampV} (O : C.Ok) (hp : C.possible = false) : ∃ q : Nat, C.clashR = ((q : Int), 0) ∧ q < 1024 ∧ (∀ i, i < 10 → q.testBit i = true → C.cnt.testBit i = true) ∧ C.clashes q = true ∧ ∀ s, s < 1024 → (∀ i, i < 10 → s.testBit i = true → C.cnt.testBit i = true) → C.clashes s = true → popc q < popc s ∨ (popc q = popc s ∧ q ≤ s) := by
 have hlt := cnt_lt O
 have hc : C.clashI = ((subs C.cnt).find? fun s => C.clashes s).map fun s => ((s : Nat) : Int) := by
  unfold ClampV.clashI
  rw [List.find?_map]
  rfl
 have hin : C.cnt ∈ subs C.cnt := subs_bits (by omega) fun i _ h => h
 cases q : (subs C.cnt).find? fun s => C.clashes s with
 | none =>
  rw [List.find?_eq_none] at q
  have := q _ hin
  rw [clashes_all O, hp] at this;exact absurd rfl this
 | some c =>
  obtain ⟨m1, m2, m3⟩ := subs_first q
  obtain ⟨s1, s2, s3⟩ := mem_subs.1 m1
  refine ⟨c, ?_, by omega, fun i hi hb => ?_, m2, fun s hs hb => m3 s (subs_bits hs hb)⟩
  ·unfold ClampV.clashR ClampV.clashQ
   rw [ClampV.ok_yes O, if_neg (by rw [hp]; decide), hc, q]
   rfl
  ·have := andNot_bit (a := c) (b := C.cnt) (i := i) (by omega) (by omega)
   rw [s2, Nat.zero_testBit, hb, Bool.true_and] at this
   cases w : C.cnt.testBit i with
   | true => rfl
   | false => rw [w] at this; cases this
theorem andNot_sub {a b i : Nat} (ha : a < 1024) (hi : i < 10) (h : (andNot a b).testBit i = true) : a.testBit i = true := by
 rw [andNot_bit (by omega) (by omega)] at h
 cases w : a.testBit i with
 | true => rfl
 | false => rw [w] at h; cases h
end Go.Proofs.YtobhkdgcciolmaaGreat

namespace Go.Proofs.YtobhkdgcciolmaaGreat
open Go Go.AbsE
set_option linter.unusedSimpArgs false
set_option maxRecDepth 100000
set_option maxHeartbeats 0
set_option linter.unusedVariables false
theorem law9_bad {C : ClampV} {sp se : AVal} {h : AH} (A : ClampAt h C sp se) (hb : C.ps.length < 9223372036854775808 ∧ C.es.length < 9223372036854775808) {w1 : Int} (O : ¬ C.Ok) : Runs Tryz.prog 9 [.agg (C.cells sp se), .int .u8 w1] h (fun en h' => en = .ret (.bool true) ∧ Ext h h') := by
 have hL := fun {h'} (e : Ext h h') => long29_ok (A.ext e) hb.1 hb.2
 by_cases hs : C.ps.length ≤ 40 ∧ C.es.length ≤ 40
 ·rw [decide_eq_false (by omega)] at hL
  have hR := fun {h'} (e : Ext h h') => Clamp30_ok (A.ext e) ⟨hs.1, hs.2⟩
  rw [decide_eq_false O] at hR
  unfold ClampV.cells at *
  have e0 : Ext h h := Ext.refl _
  refine Runs.intro aFunc9 rfl rfl rfl rfl fun rest => ?_;apply gS;refine gR rfl ?_;refine GoR.box rfl rfl rfl rfl rfl rfl fun h0 x0 f0 => ?_;replace e0 := e0.trans x0;refine gP ?_;apply gE;iterate 2 apply gS
  refine gR rfl ?_;refine gO rfl rfl (ld27 rfl f0 rfl) rfl ?_;refine GoR.call rfl rfl (aCF aFunc29 rfl) (hL e0) ?_ np;rintro v1 h1 ⟨q, x1⟩;cases q;refine ⟨_, rfl, ?_⟩;replace f0 := f0.ext x1;replace e0 := e0.trans x1;refine gP ?_;refine gO rfl rfl (ld27 rfl f0 rfl) rfl ?_;refine GoR.call rfl rfl (aCF aFunc30 rfl) (hR e0) ?_ np;rintro v2 h2 ⟨q, x2⟩;cases q;refine ⟨_, rfl, ?_⟩;replace e0 := e0.trans x2;iterate 2 refine gP ?_
  apply gE;refine gC (b := true) rfl ?_;apply gS;refine gR rfl ?_;refine GoR.call rfl rfl (aCF aFunc12 rfl) (alive_ok) ?_ np;rintro v3 h3 ⟨q, x3⟩;cases q;refine ⟨_, rfl, ?_⟩;replace e0 := e0.trans x3;refine gP ?_;apply gE;exact gW Tryz.func9 rfl rfl ⟨rfl, e0⟩
 ·rw [decide_eq_true (by omega)] at hL
  unfold ClampV.cells at *
  have e0 : Ext h h := Ext.refl _
  refine Runs.intro aFunc9 rfl rfl rfl rfl fun rest => ?_;apply gS;refine gR rfl ?_;refine GoR.box rfl rfl rfl rfl rfl rfl fun h0 x0 f0 => ?_;replace e0 := e0.trans x0;refine gP ?_;apply gE;iterate 2 apply gS
  refine gR rfl ?_;refine gO rfl rfl (ld27 rfl f0 rfl) rfl ?_;refine GoR.call rfl rfl (aCF aFunc29 rfl) (hL e0) ?_ np;rintro v1 h1 ⟨q, x1⟩;cases q;refine ⟨_, rfl, ?_⟩;replace e0 := e0.trans x1;refine gP ?_;iterate 3 refine GoR.skip rfl rfl rfl ?_
  refine gP ?_;apply gE;refine gC (b := true) rfl ?_;apply gS;refine gR rfl ?_;refine GoR.call rfl rfl (aCF aFunc12 rfl) (alive_ok) ?_ np;rintro v2 h2 ⟨q, x2⟩;cases q;refine ⟨_, rfl, ?_⟩;replace e0 := e0.trans x2;refine gP ?_;apply gE;exact gW Tryz.func9 rfl rfl ⟨rfl, e0⟩
def lookB (e : EV) : Bool := decide (e.kind ≠ 0)
theorem law9_ok {C : ClampV} {sp se : AVal} {h : AH} (A : ClampAt h C sp se) (O : C.Ok) {w : Nat} (hw : w < 256) : Runs Tryz.prog 9 [.agg (C.cells sp se), .int .u8 w] h (fun en h' => en = .ret (.bool true) ∧ Ext h h') := by
 have hnp := O.np
 have hne := O.ne
 have B : ClampB C := O.B
 have hL := fun {h'} (e : Ext h h') => long29_ok (A.ext e) (by omega) (by omega)
 rw [decide_eq_false (by omega)] at hL
 have hR := fun {h'} (e : Ext h h') => Clamp30_ok (A.ext e) B
 rw [decide_eq_true O] at hR
 have hl2 := A.es.len
 rw [List.length_map] at hl2
 have hCl := fun {h'} (e : Ext h h') => Clash_ok (A.ext e) B
 obtain ⟨cq, cc, hcc⟩ : ∃ a b, C.clashR = (a, b) := ⟨_, _, rfl⟩
 rw [hcc] at hCl
 dsimp only at hCl
 have hcells : C.cells sp se = [sp, .int .i64 C.pl, .int .i64 C.ph, se] := rfl
 rw [hcells] at *
 have e0 : Ext h h := Ext.refl _
 refine Runs.intro aFunc9 rfl rfl rfl rfl fun rest => ?_;apply gS;refine gR rfl ?_;refine GoR.box rfl rfl rfl rfl rfl rfl fun h0 x0 f0 => ?_;have := e0.1;replace e0 := e0.trans x0;have := f0.1;refine gP ?_;apply gE;iterate 2 apply gS
 refine gR rfl ?_;refine gO rfl rfl (ld27 rfl f0 rfl) rfl ?_;refine GoR.call rfl rfl (aCF aFunc29 rfl) (hL e0) ?_ np;rintro v1 h1 ⟨q, x1⟩;cases q;refine ⟨_, rfl, ?_⟩;replace f0 := f0.ext x1;replace e0 := e0.trans x1;refine gP ?_;refine gO rfl rfl (ld27 rfl f0 rfl) rfl ?_;refine GoR.call rfl rfl (aCF aFunc30 rfl) (hR e0) ?_ np;rintro v2 h2 ⟨q, x2⟩;cases q;refine ⟨_, rfl, ?_⟩;replace f0 := f0.ext x2;replace e0 := e0.trans x2;iterate 2 refine gP ?_
 apply gE;refine gC (b := false) rfl ?_;refine gD ?_;apply gS;refine gR rfl ?_;refine gO rfl rfl (ld27 rfl f0 rfl) rfl ?_;refine GoR.call rfl rfl (aCF aFunc27 rfl) (hCl e0) ?_ np;rintro v3 h3 ⟨q, x3⟩;cases q;refine ⟨_, rfl, ?_⟩;replace f0 := f0.ext x3;replace e0 := e0.trans x3;iterate 5 refine gP ?_
 apply gE;apply gS;refine gR rfl ?_;refine gP ?_;apply gE;iterate 2 apply gS
 refine gR rfl ?_;refine gO rfl rfl (fa27_2 rfl) rfl ?_;refine gO rfl rfl (ld25 rfl f0 rfl) rfl ?_;refine gO rfl rfl (aOp_lenSlice Tryz.underlying25 rfl hl2) rfl ?_;refine gP ?_;apply gE;refine Go.block noJ_ok ?_
 obtain ⟨W, hW⟩ : ∃ W, C.cnt = W := ⟨_, rfl⟩
 have hWlt := cnt_lt O
 rw [hW] at hWlt
 refine Go.loopKeep (fun a : Nat × Nat => [(1, .int .u8 (w : Nat)), (2, .ptr h.next 0), (5, .int .i64 cq), (6, .int .i64 cc), (7, .int .i64 (a.2 : Nat)), (28, se), (29, .int .i64 C.es.length), (30, .int .i64 (a.1 : Nat))])
  (fun m a h' => m + a.1 = C.es.length ∧ a.2 = bitsV a.1 (cntAt C.es) ∧ Ext h h' ∧ Has h' h.next (.cells .plain [sp, .int .i64 C.pl, .int .i64 C.ph, se] 27)) (n := C.es.length) (0, 0) ⟨rfl, rfl, rfl, rfl, rfl, rfl, rfl, rfl, trivial⟩ ⟨rfl, rfl, e0, f0⟩ ?_
 clear e0 f0;rintro m ⟨i, acc⟩ h10 ⟨hm, hacc, e0, f0⟩ again
 dsimp only at hm hacc ⊢
 by_cases hi : i < C.es.length
 ·obtain ⟨x, hx⟩ : ∃ x, C.es[i]? = some x := ⟨C.es[i], by simp [hi]⟩
  obtain ⟨bq, off, q1, q2⟩ := (A.es.ext e0).at (i := i) (l := EV.cells x) (by rw [List.getElem?_map, hx]; rfl)
  rw [List.length_map] at q1
  have hla : cntAt C.es i = lookB x := by unfold cntAt; rw [hx]; rfl
  have hsucc : bitsV (i + 1) (cntAt C.es) = if lookB x = true then acc ||| 2 ^ i else acc := by rw [bitsV_succ, hla, hacc]
  have hacl : acc < 2 ^ i := by rw [hacc]; exact bitsV_lt _ _
  have h2i : 2 ^ i ≤ 2 ^ 10 := Nat.pow_le_pow_right (by decide) (by omega)
  obtain ⟨pw, hpw⟩ : ∃ pw, 2 ^ i = pw := ⟨_, rfl⟩
  have hshl : (1 : Int) * 2 ^ i = (pw : Nat) := by rw [Int.one_mul, ← hpw]; push_cast; rfl
  rw [hpw] at hacl h2i hsucc
  obtain ⟨xk, xa, xb, xd⟩ := x
  unfold EV.cells at q2
  dsimp only at q2
  have e1 : Ext h10 h10 := Ext.refl _
  by_cases hk : xk = 1
  ·subst hk;rw [if_pos (show lookB ⟨1, xa, xb, xd⟩ = true from rfl)] at hsucc;apply gS;refine gR rfl ?_;refine gO rfl rfl (kLT rfl rfl) rfl ?_;apply gE;apply gS;refine gC (b := true) rfl ?_;refine gD ?_;apply gS;refine Go.block noJ_ok ?_;apply gS;refine gR rfl ?_;refine gP ?_;refine gO rfl rfl (aOp_indexAddr Tryz.underlying25 sz53 rfl q1 rfl (Nat.ble_eq_true_of_le hi)) rfl ?_;refine gO rfl rfl (aOp_loadE ag53 sz53 rfl (q2.ext e1)) rfl ?_;refine GoR.alloc rfl rfl rfl zt53 rfl rfl fun h11 x11 f11 => ?_;have := e0.1;have := e1.1;have := f0.1;replace f0 := f0.ext x11;replace e0 := e0.trans x11;have := f11.1;refine gP ?_;refine GoR.store rfl rfl rfl rfl rfl rfl f11 rfl sz53 rfl rfl rfl fun h12 u12 => ?_;replace f11 := u12.has f11;replace f0 := f0.upd u12 (by omega);replace e0 := e0.upd u12 (by omega);apply gE;apply gS;refine gR rfl ?_;refine gO rfl rfl (fa53_0 rfl) rfl ?_;refine gO rfl rfl (ld3 rfl f11 rfl) rfl ?_;refine gO rfl rfl (kET rfl rfl) rfl ?_;apply gE;refine gC (b := true) rfl ?_;refine gR rfl ?_;iterate 2 refine gP ?_
   refine gO rfl rfl (aOp_shl rfl rfl (by omega) hshl (by omega)) rfl ?_;refine gO rfl rfl (aOp_orNat (r := acc ||| pw) rfl rfl (by omega) (by omega) rfl) rfl ?_;refine gP ?_;apply gE;refine Go.inBlock noJ_ok ?_;refine gR rfl ?_;refine gO rfl rfl (aA rfl rfl) rfl ?_;refine gP ?_;apply gE;exact again (m - 1) (i + 1, acc ||| pw) _ _ (by omega) ⟨rfl, rfl, rfl, rfl, rfl, rfl, rfl, rfl, trivial⟩ ⟨by dsimp only; omega, hsucc.symm, e0, f0⟩
  ·have hkk : xk = 0 := by
    have : ((xk = 0 ∧ xd - xb ≤ 3) ∨ xk = 1) := (O.e _ (List.mem_of_getElem? hx)).2.2
    omega
   rw [if_neg (show ¬ lookB ⟨xk, xa, xb, xd⟩ = true from fun q => (of_decide_eq_true q) hkk)] at hsucc;apply gS;refine gR rfl ?_;refine gO rfl rfl (kLT rfl rfl) rfl ?_;apply gE;apply gS;refine gC (b := true) rfl ?_;refine gD ?_;apply gS;refine Go.block noJ_ok ?_;apply gS;refine gR rfl ?_;refine gP ?_;refine gO rfl rfl (aOp_indexAddr Tryz.underlying25 sz53 rfl q1 rfl (Nat.ble_eq_true_of_le hi)) rfl ?_;refine gO rfl rfl (aOp_loadE ag53 sz53 rfl (q2.ext e1)) rfl ?_;refine GoR.alloc rfl rfl rfl zt53 rfl rfl fun h11 x11 f11 => ?_;have := e0.1;have := e1.1;have := f0.1;replace f0 := f0.ext x11;replace e0 := e0.trans x11;have := f11.1;refine gP ?_;refine GoR.store rfl rfl rfl rfl rfl rfl f11 rfl sz53 rfl rfl rfl fun h12 u12 => ?_;replace f11 := u12.has f11;replace f0 := f0.upd u12 (by omega);replace e0 := e0.upd u12 (by omega);apply gE;apply gS;refine gR rfl ?_;refine gO rfl rfl (fa53_0 rfl) rfl ?_;refine gO rfl rfl (ld3 rfl f11 rfl) rfl ?_;refine gO rfl rfl (aOp_eql rfl rfl (r := false) (decide_eq_false hk)) rfl ?_;apply gE;refine gC (b := false) rfl ?_;refine gD ?_;refine Go.inBlock noJ_ok ?_;refine gR rfl ?_;refine gO rfl rfl (aA rfl rfl) rfl ?_;refine gP ?_;apply gE;exact again (m - 1) (i + 1, acc) _ _ (by omega) ⟨rfl, rfl, rfl, rfl, rfl, rfl, rfl, rfl, trivial⟩ ⟨by dsimp only; omega, hsucc.symm, e0, f0⟩
 ·have hin : i = C.es.length := by omega
  subst hin;rw [show bitsV C.es.length (cntAt C.es) = C.cnt from rfl, hW] at hacc;subst hacc;clear again
  have hcW := fun {h' : AH} (e : Ext h h') f => clash39_ok O (s := acc) (h := h') (bh := h.next) (A.ext e) f
  have hca := clashes_all O
  rw [hW] at hca;rw [hca] at hcW
  cases hp : C.possible with
  | true =>
   have hcc2 : C.clashR = (0, 4) := by unfold ClampV.clashR ClampV.clashQ; rw [ClampV.ok_yes O, if_pos hp]
   rw [hcc] at hcc2
   obtain ⟨rfl, rfl⟩ := Prod.mk.inj hcc2
   rw [hp] at hcW;apply gS;refine gR rfl ?_;refine gO rfl rfl (kLF rfl rfl) rfl ?_;apply gE;apply gS;refine gC (b := false) rfl ?_;refine gD ?_;apply gS;refine gR rfl ?_;iterate 2 refine gP ?_
   apply gE;iterate 2 apply gS
   refine gR rfl ?_;refine gP ?_;refine gO rfl rfl (kEF rfl rfl) rfl ?_;iterate 2 refine gP ?_
   refine GoR.call rfl rfl (aOp_callVal rfl aFunc39 rfl) (hcW e0 f0) ?_ np;rintro v11 h11 ⟨q, x11⟩;cases q;refine ⟨_, rfl, ?_⟩;replace f0 := f0.ext x11;replace e0 := e0.trans x11;refine gO rfl rfl (aOp_neqBool (r := false) rfl rfl Tryz.underlying4 rfl) rfl ?_;iterate 2 refine gP ?_
   refine gO rfl rfl (kXT rfl rfl) rfl ?_;iterate 2 refine gP ?_
   refine gO rfl rfl (kXF rfl rfl) rfl ?_;iterate 2 refine gP ?_
   refine gO rfl rfl (kXF rfl rfl) rfl ?_;iterate 3 refine gP ?_
   apply gE;refine gC (b := false) rfl ?_;refine gD ?_;iterate 2 apply gS
   refine gR rfl ?_;refine gP ?_;refine gO rfl rfl (kXT rfl rfl) rfl ?_;apply gE;refine gC (b := true) rfl ?_;apply gS;refine gR rfl ?_;refine GoR.call rfl rfl (aCF aFunc12 rfl) (alive_ok) ?_ np;rintro v12 h12 ⟨q, x12⟩;cases q;refine ⟨_, rfl, ?_⟩;replace f0 := f0.ext x12;replace e0 := e0.trans x12;refine gP ?_;apply gE;exact gW Tryz.func9 rfl rfl ⟨rfl, e0⟩
  | false =>
   obtain ⟨q, z1, z3, z4, z5, z6⟩ := clash_ex O hp
   rw [hcc] at z1
   obtain ⟨rfl, rfl⟩ := Prod.mk.inj z1
   rw [hp] at hcW;rw [hW] at z4 z6
   obtain ⟨own, hown⟩ : ∃ own, w &&& acc = own := ⟨_, rfl⟩
   have hownl : own ≤ acc := by rw [← hown]; exact Nat.and_le_right
   have hqa : andNot q acc = 0 := (sub_bits z3 z4).2.2
   have hcq := fun {h' : AH} (e : Ext h h') f => clash39_ok O (s := q) (h := h') (bh := h.next) (A.ext e) f
   rw [z5] at hcq
   have hco := fun {h' : AH} (e : Ext h h') f => clash39_ok O (s := own) (h := h') (bh := h.next) (A.ext e) f
   have hs2 := fun {h'} => size38_ok own (by omega) (h := h')
   have hs3 := fun {h'} => size38_ok q z3 (h := h')
   have hp5 := popc_le own
   have hp6 := popc_le q
   have hpart : ∀ i, i < 10 → q.testBit i = true → C.clashes (andNot q (2 ^ i)) = false := fun i hi k => by
    have h1 := popc_less q z3 i hi k
    have h3 := andNot_le q (2 ^ i) (by omega)
    cases z : C.clashes (andNot q (2 ^ i)) with
    | false => rfl
    | true =>
     have := z6 _ (by omega) (fun j hj b => z4 j hj (andNot_sub z3 hj b)) z
     omega
   apply gS;refine gR rfl ?_;refine gO rfl rfl (kLF rfl rfl) rfl ?_;apply gE;apply gS;refine gC (b := false) rfl ?_;refine gD ?_;apply gS;refine gR rfl ?_;iterate 2 refine gP ?_
   apply gE;iterate 2 apply gS
   refine gR rfl ?_;refine gP ?_;refine gO rfl rfl (kET rfl rfl) rfl ?_;iterate 2 refine gP ?_
   refine GoR.call rfl rfl (aOp_callVal rfl aFunc39 rfl) (hcW e0 f0) ?_ np;rintro v11 h11 ⟨q, x11⟩;cases q;refine ⟨_, rfl, ?_⟩;replace f0 := f0.ext x11;replace e0 := e0.trans x11;refine gO rfl rfl (aOp_neqBool (r := false) rfl rfl Tryz.underlying4 rfl) rfl ?_;iterate 2 refine gP ?_
   refine gO rfl rfl (kXF rfl rfl) rfl ?_;refine gP ?_;iterate 6 refine GoR.skip rfl rfl rfl ?_
   iterate 2 refine gP ?_
   apply gE;refine gC (b := false) rfl ?_;refine gD ?_;iterate 2 apply gS
   refine gR rfl ?_;refine gP ?_;refine gO rfl rfl (kXF rfl rfl) rfl ?_;apply gE;refine gC (b := false) rfl ?_;refine gD ?_;iterate 2 apply gS
   refine gR rfl ?_;refine gP ?_;refine gO rfl rfl (kLF rfl rfl) rfl ?_;iterate 3 refine gP ?_
   refine gO rfl rfl (aOp_andNot rfl rfl (by omega) hqa) rfl ?_;refine gO rfl rfl (kXF rfl rfl) rfl ?_;iterate 4 refine gP ?_
   refine GoR.call rfl rfl (aOp_callVal rfl aFunc39 rfl) (hcq e0 f0) ?_ np;rintro v12 h12 ⟨q, x12⟩;cases q;refine ⟨_, rfl, ?_⟩;replace f0 := f0.ext x12;replace e0 := e0.trans x12;iterate 2 refine gP ?_
   apply gE;refine gC (b := false) rfl ?_;refine gD ?_;iterate 2 apply gS
   refine gR rfl ?_;refine gO rfl rfl (fa27_2 rfl) rfl ?_;refine gO rfl rfl (ld25 rfl f0 rfl) rfl ?_;refine gO rfl rfl (aOp_lenSlice Tryz.underlying25 rfl hl2) rfl ?_;refine gP ?_;apply gE;refine Go.block noJ_ok ?_;refine Go.loopKeep (fun i : Nat => [(1, .int .u8 (w : Nat)), (2, .ptr h.next 0), (5, .int .i64 (q : Nat)), (7, .int .i64 (acc : Nat)), (10, .func (.func 39) [] [.ptr h.next 0]), (80, se), (81, .int .i64 C.es.length), (82, .int .i64 (i : Nat))]) (fun m i h' => m + i = C.es.length ∧ Ext h h' ∧ Has h' h.next (.cells .plain [sp, .int .i64 C.pl, .int .i64 C.ph, se] 27)) (n := C.es.length) 0 ⟨rfl, rfl, rfl, rfl, rfl, rfl, rfl, rfl, trivial⟩ ⟨rfl, e0, f0⟩ ?_;clear e0 f0;rintro m i h70 ⟨hm, e0, f0⟩ again
   by_cases hi : i < C.es.length
   ·have hbit : decide (((q : Nat) : Int).fdiv (2 ^ i) % 2 = 1) = q.testBit i := bit_int q i
    have h2i : 2 ^ i ≤ 2 ^ 10 := Nat.pow_le_pow_right (by decide) (by omega)
    obtain ⟨pw, hpw⟩ : ∃ pw, 2 ^ i = pw := ⟨_, rfl⟩
    have hshl : (1 : Int) * 2 ^ i = (pw : Nat) := by rw [Int.one_mul, ← hpw]; push_cast; rfl
    cases hb : q.testBit i with
    | false =>
     rw [hb] at hbit;apply gS;refine gR rfl ?_;refine gO rfl rfl (kLT rfl rfl) rfl ?_;apply gE;apply gS;refine gC (b := true) rfl ?_;refine gD ?_;apply gS;refine Go.block noJ_ok ?_;apply gS;refine gR rfl ?_;iterate 2 refine gP ?_
     apply gE;apply gS;refine gR rfl ?_;iterate 2 refine gP ?_
     refine gO rfl rfl (aOp_shr rfl rfl (by omega) rfl) rfl ?_;refine gO rfl rfl (aOp_and1 rfl rfl rfl) rfl ?_;refine gO rfl rfl (aOp_eql rfl rfl hbit) rfl ?_;refine gP ?_;iterate 6 refine GoR.skip rfl rfl rfl ?_
     refine gP ?_;apply gE;refine gC (b := false) rfl ?_;refine gD ?_;refine Go.inBlock noJ_ok ?_;refine gR rfl ?_;refine gO rfl rfl (aA rfl rfl) rfl ?_;refine gP ?_;apply gE;exact again (m - 1) (i + 1) _ _ (by omega) ⟨rfl, rfl, rfl, rfl, rfl, rfl, rfl, rfl, trivial⟩ ⟨by omega, e0, f0⟩
    | true =>
     rw [hb] at hbit
     have hp7 := hpart i (by omega) hb
     have hc7 := fun {h' : AH} (e : Ext h h') f => clash39_ok O (s := andNot q pw) (h := h') (bh := h.next) (A.ext e) f
     rw [hpw] at hp7 h2i;rw [hp7] at hc7;apply gS;refine gR rfl ?_;refine gO rfl rfl (kLT rfl rfl) rfl ?_;apply gE;apply gS;refine gC (b := true) rfl ?_;refine gD ?_;apply gS;refine Go.block noJ_ok ?_;apply gS;refine gR rfl ?_;iterate 2 refine gP ?_
     apply gE;apply gS;refine gR rfl ?_;iterate 2 refine gP ?_
     refine gO rfl rfl (aOp_shr rfl rfl (by omega) rfl) rfl ?_;refine gO rfl rfl (aOp_and1 rfl rfl rfl) rfl ?_;refine gO rfl rfl (aOp_eql rfl rfl hbit) rfl ?_;iterate 4 refine gP ?_
     refine gO rfl rfl (aOp_shl rfl rfl (by omega) hshl (by omega)) rfl ?_;refine gO rfl rfl (aOp_andNot (r := andNot q pw) rfl rfl (by omega) rfl) rfl ?_;refine GoR.call rfl rfl (aOp_callVal rfl aFunc39 rfl) (hc7 e0 f0) ?_ np;rintro v71 h71 ⟨q, x71⟩;cases q;refine ⟨_, rfl, ?_⟩;replace f0 := f0.ext x71;replace e0 := e0.trans x71;refine gP ?_;apply gE;refine gC (b := false) rfl ?_;refine gD ?_;refine Go.inBlock noJ_ok ?_;refine gR rfl ?_;refine gO rfl rfl (aA rfl rfl) rfl ?_;refine gP ?_;apply gE;exact again (m - 1) (i + 1) _ _ (by omega) ⟨rfl, rfl, rfl, rfl, rfl, rfl, rfl, rfl, trivial⟩ ⟨by omega, e0, f0⟩
   ·clear again
    have hsub : ∀ i, i < 10 → own.testBit i = true → acc.testBit i = true := fun i _ hb => by
     rw [← hown, Nat.testBit_and] at hb
     cases z : acc.testBit i with
     | true => rfl
     | false => rw [z, Bool.and_false] at hb; cases hb
    cases hk : C.clashes own with
    | false =>
     rw [hk] at hco;apply gS;refine gR rfl ?_;refine gO rfl rfl (kLF rfl rfl) rfl ?_;apply gE;apply gS;refine gC (b := false) rfl ?_;refine gD ?_;apply gS;refine gR rfl ?_;refine gP ?_;refine gO rfl rfl (aOp_convU8 rfl Tryz.underlying5 Tryz.underlying3 (by omega)) rfl ?_;refine gP ?_;refine gO rfl rfl (aOp_andNat rfl rfl (by omega) (by omega) hown) rfl ?_;iterate 2 refine gP ?_
     apply gE;apply gS;refine gR rfl ?_;iterate 2 refine gP ?_
     refine GoR.call rfl rfl (aOp_callVal rfl aFunc39 rfl) (hco e0 f0) ?_ np;rintro v71 h71 ⟨q, x71⟩;cases q;refine ⟨_, rfl, ?_⟩;replace f0 := f0.ext x71;replace e0 := e0.trans x71;iterate 2 refine gP ?_
     iterate 7 refine GoR.skip rfl rfl rfl ?_
     iterate 2 refine gP ?_
     iterate 12 refine GoR.skip rfl rfl rfl ?_
     iterate 2 refine gP ?_
     refine GoR.call rfl rfl (aCF aFunc12 rfl) (alive_ok) ?_ np;rintro v72 h72 ⟨q, x72⟩;cases q;refine ⟨_, rfl, ?_⟩;replace f0 := f0.ext x72;replace e0 := e0.trans x72;iterate 2 refine gP ?_
     apply gE;exact gW Tryz.func9 rfl rfl ⟨rfl, e0⟩
    | true =>
     rw [hk] at hco
     have hl := z6 own (by omega) hsub hk
     by_cases hpo : popc q = popc own
     ·apply gS;refine gR rfl ?_;refine gO rfl rfl (kLF rfl rfl) rfl ?_;apply gE;apply gS;refine gC (b := false) rfl ?_;refine gD ?_;apply gS;refine gR rfl ?_;refine gP ?_;refine gO rfl rfl (aOp_convU8 rfl Tryz.underlying5 Tryz.underlying3 (by omega)) rfl ?_;refine gP ?_;refine gO rfl rfl (aOp_andNat rfl rfl (by omega) (by omega) hown) rfl ?_;iterate 2 refine gP ?_
      apply gE;apply gS;refine gR rfl ?_;iterate 2 refine gP ?_
      refine GoR.call rfl rfl (aOp_callVal rfl aFunc39 rfl) (hco e0 f0) ?_ np;rintro v71 h71 ⟨q, x71⟩;cases q;refine ⟨_, rfl, ?_⟩;replace e0 := e0.trans x71;iterate 4 refine gP ?_
      refine GoR.call rfl rfl (aOp_callVal rfl aFunc38 rfl) (hs2) ?_ np;rintro v72 h72 ⟨q, x72⟩;cases q;refine ⟨_, rfl, ?_⟩;replace e0 := e0.trans x72;iterate 2 refine gP ?_
      refine GoR.call rfl rfl (aOp_callVal rfl aFunc38 rfl) (hs3) ?_ np;rintro v73 h73 ⟨q, x73⟩;cases q;refine ⟨_, rfl, ?_⟩;replace e0 := e0.trans x73;refine gO rfl rfl (kGF rfl rfl) rfl ?_;iterate 4 refine gP ?_
      refine GoR.call rfl rfl (aOp_callVal rfl aFunc38 rfl) (hs2) ?_ np;rintro v74 h74 ⟨q, x74⟩;cases q;refine ⟨_, rfl, ?_⟩;replace e0 := e0.trans x74;iterate 2 refine gP ?_
      refine GoR.call rfl rfl (aOp_callVal rfl aFunc38 rfl) (hs3) ?_ np;rintro v75 h75 ⟨q, x75⟩;cases q;refine ⟨_, rfl, ?_⟩;replace e0 := e0.trans x75;refine gO rfl rfl (kET rfl rfl) rfl ?_;iterate 3 refine gP ?_
      refine gO rfl rfl (kNT rfl rfl) rfl ?_;iterate 3 refine gP ?_
      refine GoR.call rfl rfl (aCF aFunc12 rfl) (alive_ok) ?_ np;rintro v76 h76 ⟨q, x76⟩;cases q;refine ⟨_, rfl, ?_⟩;replace e0 := e0.trans x76;iterate 2 refine gP ?_
      apply gE;exact gW Tryz.func9 rfl rfl ⟨rfl, e0⟩
     ·apply gS;refine gR rfl ?_;refine gO rfl rfl (kLF rfl rfl) rfl ?_;apply gE;apply gS;refine gC (b := false) rfl ?_;refine gD ?_;apply gS;refine gR rfl ?_;refine gP ?_;refine gO rfl rfl (aOp_convU8 rfl Tryz.underlying5 Tryz.underlying3 (by omega)) rfl ?_;refine gP ?_;refine gO rfl rfl (aOp_andNat rfl rfl (by omega) (by omega) hown) rfl ?_;iterate 2 refine gP ?_
      apply gE;apply gS;refine gR rfl ?_;iterate 2 refine gP ?_
      refine GoR.call rfl rfl (aOp_callVal rfl aFunc39 rfl) (hco e0 f0) ?_ np;rintro v71 h71 ⟨q, x71⟩;cases q;refine ⟨_, rfl, ?_⟩;replace e0 := e0.trans x71;iterate 4 refine gP ?_
      refine GoR.call rfl rfl (aOp_callVal rfl aFunc38 rfl) (hs2) ?_ np;rintro v72 h72 ⟨q, x72⟩;cases q;refine ⟨_, rfl, ?_⟩;replace e0 := e0.trans x72;iterate 2 refine gP ?_
      refine GoR.call rfl rfl (aOp_callVal rfl aFunc38 rfl) (hs3) ?_ np;rintro v73 h73 ⟨q, x73⟩;cases q;refine ⟨_, rfl, ?_⟩;replace e0 := e0.trans x73;refine gO rfl rfl (kGT rfl rfl) rfl ?_;iterate 2 refine gP ?_
      iterate 12 refine GoR.skip rfl rfl rfl ?_
      iterate 2 refine gP ?_
      refine GoR.call rfl rfl (aCF aFunc12 rfl) (alive_ok) ?_ np;rintro v74 h74 ⟨q, x74⟩;cases q;refine ⟨_, rfl, ?_⟩;replace e0 := e0.trans x74;iterate 2 refine gP ?_
      apply gE;exact gW Tryz.func9 rfl rfl ⟨rfl, e0⟩
theorem law9 {C : ClampV} {sp se : AVal} {h : AH} (A : ClampAt h C sp se) (hb : C.ps.length < 9223372036854775808 ∧ C.es.length < 9223372036854775808) {w1 : Int} (h1 : 0 ≤ w1 ∧ w1 < 256) : Runs Tryz.prog 9 [.agg (C.cells sp se), .int .u8 w1] h (fun en h' => en = .ret (.bool true) ∧ Ext h h') := by
 by_cases O : C.Ok
 ·have := law9_ok A O (w := w1.toNat) (by omega)
  rw [Int.toNat_of_nonneg h1.1] at this;exact this
 ·exact law9_bad A hb O
end Go.Proofs.YtobhkdgcciolmaaGreat

namespace Go.AbsE
open Go Go.RowKit
section
variable {P : Program}
theorem HR.openWin {e : Env} {h : AH} {W : World} (r : HR P (Base.all W) e h W) {B lo : Nat} {PRE CS junk : List Value} {el : TypeId} {fr : Nat × Nat} {cs : List AVal} (hB : W.heap[B]? = some (.cells (PRE ++ (CS ++ junk)).toArray el fr)) (hp : PRE.length = lo) (hv : ∀ e, VRs e cs CS) :
  ∃ e' h', Env.le e e' ∧ HR P (Base.all W) e' h' W ∧ Ext h h' ∧ e' h.next = some (B, 0) ∧ Has h' h.next (.win lo cs) := by
 obtain ⟨h', k⟩ := new_some h (.win lo cs)
 obtain ⟨_, x1, x2⟩ := new_ext k
 obtain ⟨n1, n2, n3⟩ := AH.get_new k
 have hle := Env.le_ext (x := (B, 0)) r.fresh
 have hlt := (Array.getElem?_eq_some_iff.1 hB).1
 refine ⟨e.ext h.next (B, 0), h', hle, ?_, x1, Env.ext_same _ _ _, x2⟩
 refine { dom := ?_, blk := ?_, inj := ?_, imm := ?_, os := r.os, tape := r.tape, output := r.output, size := r.size, old := r.old, young := r.young }
 ·intro b' x kx
  rw [Env.ext_at] at kx
  by_cases hb' : b' = h.next
  ·omega
  ·rw [if_neg hb'] at kx; have := r.dom _ _ kx; omega
 ·intro b' o' kx
  rw [n3] at kx
  by_cases hb' : b' = h.next
  ·rw [if_pos hb'] at kx
   cases kx
   subst hb'
   exact ⟨B, 0, _, Env.ext_same _ _ _, (fun q => by cases q), hB, .win (hv _) hp⟩
  ·rw [if_neg hb'] at kx
   obtain ⟨B', c', O', k1, k2, k3, k4⟩ := r.blk _ _ kx
   exact ⟨B', c', O', hle.1 _ _ k1, k2, k3, k4.mono hle⟩
 ·intro b1 b2 B1 c1 c2 o1 o2 k1 k2 hro e1 e2
  rw [n3] at k1 k2
  rw [Env.ext_at] at e1 e2
  by_cases q1 : b1 = h.next
  ·rw [if_pos q1] at k1; cases k1; cases hro
  ·rw [if_neg q1] at k1 e1
   by_cases q2 : b2 = h.next
   ·rw [if_pos q2] at e2
    cases e2
    obtain ⟨B', c', O', j1, j2, _, _⟩ := r.blk _ _ k1
    rw [e1] at j1
    cases j1
    exact absurd hlt (j2 hro)
   ·rw [if_neg q2] at k2 e2
    exact r.inj _ _ _ _ _ _ _ k1 k2 hro e1 e2
 ·intro B1 CS' hi
  obtain ⟨i1, i2⟩ := r.imm B1 CS' hi
  refine ⟨i1, fun b' o' c' kx hro ke => ?_⟩
  rw [n3] at kx
  rw [Env.ext_at] at ke
  by_cases q : b' = h.next
  ·rw [if_pos q] at kx; cases kx; cases hro
  ·rw [if_neg q] at kx ke; exact i2 b' o' c' kx hro ke
end
end Go.AbsE

namespace Go.AbsE
open Go Go.RowKit
section
variable {P : Program}
theorem VRs.kinds {K : Type} {va : K → AVal} {vv : K → Value} (hvr : ∀ e x, VR e (va x) (vv x)) {e : Env} : ∀ l : List K, VRs e (l.map fun x => va x) (l.map fun x => vv x) := by
 intro l
 induction l with
 | nil => exact .nil
 | cons a l ih => exact .cons (hvr _ _) ih
theorem rowsG_eq {K : Type} {vv : K → Value} {C : List Value} {off sz : Nat} : ∀ (len : Nat) (f : Nat → List K), (∀ i, i < len → (f i).length = sz ∧ ∀ k n, (f i)[k]? = some n → C[off + i * sz + k]? = some (vv n)) →
  (C.drop off).take (len * sz) = (((List.range len).map f).flatten).map fun x => vv x := by
 intro len
 induction len with
 | zero => intro f _; simp
 | succ len ih =>
  intro f hf
  have h1 := ih f fun i hi => hf i (by omega)
  obtain ⟨l1, l2⟩ := hf len (by omega)
  rw [Nat.add_mul, Nat.one_mul, List.take_add, h1, List.range_succ, List.map_append, List.flatten_append, List.map_append]
  congr 1
  simp only [List.map_cons, List.map_nil, List.flatten_cons, List.flatten_nil, List.append_nil]
  rw [List.drop_drop]
  refine List.ext_getElem? fun k => ?_
  rw [List.getElem?_take, List.getElem?_drop, List.getElem?_map]
  by_cases hk : k < sz
  ·rw [if_pos hk]
   obtain ⟨n, hn⟩ : ∃ n, (f len)[k]? = some n := ⟨(f len)[k]'(by omega), by simp⟩
   rw [hn]
   exact l2 k n hn
  ·rw [if_neg hk]
   have : (f len)[k]? = none := by simp; omega
   rw [this]
   rfl
end
end Go.AbsE

namespace Go.AbsE
open Go Go.RowKit
section
variable {P : Program}
theorem HR.openRowsC {K : Type} (va : K → AVal) (vv : K → Value) (hvr : ∀ e x, VR e (va x) (vv x)) {e : Env} {h : AH} {W : World} (r : HR P (Base.all W) e h W) {a : Addr} {len cap sz : Nat} {C : Array Value} {el : TypeId} {fr : Nat × Nat} (hB : W.heap[a.block]? = some (.cells C el fr)) (hspot : a.spot = none) (f : Nat → List K)
  (hf : ∀ i, i < len → (f i).length = sz ∧ ∀ k n, (f i)[k]? = some n → W.cell? (a.add (i * sz + k)) = some (vv n)) :
  ∃ e' h' s, Env.le e e' ∧ HR P (Base.all W) e' h' W ∧ Ext h h' ∧ VR e' s (.slice (some a) len cap) ∧ SliceOf h' sz s (((List.range len).map f).map fun l => l.map fun x => va x) ∧ sameA s s = true ∧ ∃ b o, s = .slice b o len cap := by
 obtain ⟨B, off, spot⟩ := a
 dsimp only at hB hspot
 subst hspot
 have hcell : ∀ i, i < len → (f i).length = sz ∧ ∀ k n, (f i)[k]? = some n → C.toList[off + i * sz + k]? = some (vv n) := fun i hi => by
  obtain ⟨h1, h2⟩ := hf i hi
  refine ⟨h1, fun k n hn => ?_⟩
  have := h2 k n hn
  have e1 := addr_add B off (i * sz + k)
  rw [e1] at this
  unfold World.cell? at this
  rw [hB] at this
  simp only [Option.isSome_none, Bool.false_eq_true, if_false] at this
  rw [Array.getElem?_toList, Nat.add_assoc]
  exact this
 have hrows := rowsG_eq len f hcell
 let R := (List.range len).map f
 have hRl : ∀ l, l ∈ R → l.length = sz := fun l hl => by
  obtain ⟨i, hi, rfl⟩ := List.mem_map.1 hl
  exact (hf i (List.mem_range.1 hi)).1
 have hRlen : R.length = len := by simp [R]
 have hlen : (C.toList.drop off).take (len * sz) = (R.flatten).map fun x => vv x := hrows
 have hfl : R.flatten.length = len * sz := by
  have : ∀ {L : List (List K)}, (∀ l, l ∈ L → l.length = sz) → L.flatten.length = L.length * sz := by
   intro L
   induction L with
   | nil => intro _; simp
   | cons a L ih => intro h; simp only [List.flatten_cons, List.length_append, h a (by simp), ih fun l q => h l (by simp [q]), List.length_cons, Nat.add_mul]; omega
  rw [this hRl, hRlen]
 by_cases h0 : len * sz = 0
 ·-- nothing of it is read
  obtain ⟨e', h', k1, k2, k3, k4, k5⟩ := r.openWin (B := B) (lo := 0) (PRE := []) (CS := []) (junk := C.toList) (el := el) (fr := fr) (cs := []) (by simpa using hB) rfl (fun _ => .nil)
  refine ⟨e', h', .slice h.next off len cap, k1, k2, k3, .slice k4, .mk rfl rfl k5.1 (by simp) (fun l hl => ?_) ?_, by simp [sameA], _, _, rfl⟩
  ·obtain ⟨x, hx, rfl⟩ := List.mem_map.1 hl
   rw [List.length_map]
   exact hRl x hx
  ·have hnil : R.flatten = [] := List.eq_nil_of_length_eq_zero (by omega)
   unfold loadCells
   rw [k5.2]
   have e1 : ((R.map fun l => l.map fun x => va x).length * sz) = 0 := by rw [List.length_map, hRlen]; exact h0
   have e2 : (R.map fun l => l.map fun x => va x).flatten = [] := by rw [← List.map_flatten, hnil]; rfl
   show cond (Nat.ble 0 off) (slice? [] (off - 0) ((R.map fun l => l.map fun x => va x).length * sz)) none = some _
   rw [e1, e2, show Nat.ble 0 off = true from Nat.ble_eq_true_of_le (Nat.zero_le _)]
   simp [slice?]
 ·have hle : off + len * sz ≤ C.toList.length := by
   have : ((C.toList.drop off).take (len * sz)).length = len * sz := by rw [hlen, List.length_map, hfl]
   rw [List.length_take, List.length_drop] at this
   omega
  have hC : C = (C.toList.take off ++ ((R.flatten.map fun x => vv x) ++ C.toList.drop (off + len * sz))).toArray := by
   rw [← hlen]
   have : C.toList.take off ++ ((C.toList.drop off).take (len * sz) ++ C.toList.drop (off + len * sz)) = C.toList := by
    rw [← List.drop_drop, List.take_append_drop, List.take_append_drop]
   rw [this]
  obtain ⟨e', h', k1, k2, k3, k4, k5⟩ := r.openWin (B := B) (lo := off) (PRE := C.toList.take off) (CS := R.flatten.map fun x => vv x) (junk := C.toList.drop (off + len * sz)) (el := el) (fr := fr) (cs := R.flatten.map fun x => va x) (by rw [← hC]; exact hB) (by rw [List.length_take]; omega) (fun _ => VRs.kinds hvr _)
  refine ⟨e', h', .slice h.next off len cap, k1, k2, k3, .slice k4, .mk rfl rfl k5.1 (by simp) (fun l hl => ?_) ?_, by simp [sameA], _, _, rfl⟩
  ·obtain ⟨x, hx, rfl⟩ := List.mem_map.1 hl
   rw [List.length_map]
   exact hRl x hx
  ·unfold loadCells
   rw [k5.2]
   have e1 : ((R.map fun l => l.map fun x => va x).length * sz) = len * sz := by rw [List.length_map, hRlen]
   have e2 : (R.map fun l => l.map fun x => va x).flatten = R.flatten.map fun x => va x := by rw [← List.map_flatten]
   show cond (Nat.ble off off) (slice? (R.flatten.map fun x => va x) (off - off) ((R.map fun l => l.map fun x => va x).length * sz)) none = some _
   rw [e1, e2, show Nat.ble off off = true from Nat.ble_eq_true_of_le (Nat.le_refl _), Nat.sub_self]
   exact slice_all (by rw [List.length_map, hfl])
end
end Go.AbsE

namespace Go.AbsE
open Go
set_option linter.unusedSimpArgs false
set_option linter.unusedVariables false
section
variable {P : Program} {h : AH} {dst : Option Tmp} {ty tt el : TypeId} {pos : String} {after : Array Edge} {guard : Option (Nat × Bool)} {x y : Operand}
def CutS (s : AVal) (n : Nat) : Prop := n ≠ 0 → ∃ b off cap, s = .slice b off n cap ∧ n ≤ cap
theorem SliceOf.take {sz b off n cap cap' i : Nat} {L : List (List AVal)} (k : SliceOf h sz (.slice b off n cap) L) (hL : L.length = n) (hi : i ≤ n) : SliceOf h sz (.slice b off i cap') (L.take i) := by
 cases k with
 | mk hs hn hb hl hz hc =>
  rw [show aSlElems (.slice b off n cap) = some (b, off, n) from rfl] at hs
  cases hs
  have hlen : (L.take i).length = i := by rw [List.length_take]; omega
  refine .mk (b := b) (off := off) (len := i) rfl rfl hb hlen (fun l hl => hz l (List.mem_of_mem_take hl)) ?_
  have hp := loadCells_part (k := 0) (m := i * sz) hc (by rw [Nat.zero_add]; exact Nat.mul_le_mul_right _ (by omega))
  rw [Nat.add_zero] at hp
  rw [hlen, hp]
  congr 1
  have e1 : (L.take i).flatten.length = i * sz := by
   rw [flatten_len (sz := sz) (fun l hl => hz l (List.mem_of_mem_take hl)), hlen]
  have e3 : L.flatten = (L.take i).flatten ++ (L.drop i).flatten := by rw [← List.flatten_append, List.take_append_drop]
  rw [List.drop_zero, e3, ← e1, List.take_left]
end
end Go.AbsE
