import Derived.Test.YtkcimfopboelaaaGreatMAP
import Derived.Test.YtkcimfopboelaaaGreatMAG
import Derived.KernelRfl
import Derived.Test.YtkcimfopboelaaaGreatMAH
import Derived.Test.YtkcimfopboelaaaGreatMAN
import Derived.Deep.Slices
import Derived.Lib.SmallJoins
import Derived.Carry
namespace Go.Proofs.YtkcimfopboelaaaGreat
open Go Go.AbsE
set_option linter.unusedSimpArgs false
set_option maxRecDepth 100000
set_option maxHeartbeats 0
set_option linter.unusedVariables false
def mkPass (lo hi : Int) : EV := ⟨0, lo, hi, 0, 0, 0, 0⟩
def mkRest (d : Int) : EV := ⟨1, 0, 0, d, 0, 0, 0⟩
def mkLook (p lo hi : Int) : EV := ⟨2, 0, 0, 0, p, lo, hi⟩
def sampleV (E : List EV) : RoadV := ⟨[⟨10, 11, 2, 2, 1, 1, 12⟩, ⟨8, 8, 3, 4, 0, 1, 9⟩], [mkPass 6 6, mkRest 2] ++ E⟩
theorem span33_ok {a b : Int} {h : AH} : Runs Tryz.prog 33 [.int .i64 a, .int .i64 b] h (fun en h' => en = .ret (.agg [.int .i64 a, .int .i64 b]) ∧ Ext h h') := by
 have e0 : Ext h h := Ext.refl _
 refine Runs.intro aFunc33 rfl rfl rfl rfl fun rest => ?_;apply gS;refine gR rfl ?_;refine GoR.alloc rfl rfl rfl zt29 rfl rfl fun h0 x0 f0 => ?_;have := e0.1;replace e0 := e0.trans x0;have := f0.1;apply gE;apply gS;refine gR rfl ?_;iterate 2 refine gP ?_
 refine gO rfl rfl (aOp_build zt29 hu29 pl29 rfl rfl) rfl ?_;refine GoR.store rfl rfl rfl rfl rfl rfl f0 rfl sz29 rfl rfl rfl fun h1 u1 => ?_;replace f0 := u1.has f0;replace e0 := e0.upd u1 (by omega);apply gE;exact gV (ret_end (aResult_of Tryz.func33 rfl (aResults_cell rfl f0 (inCells_agg ag29 sz29 rfl))) ⟨rfl, e0⟩)
theorem look42_ok {p a b : Int} {h : AH} : Runs Tryz.prog 42 [.int .i64 p, .int .i64 a, .int .i64 b] h (fun en h' => en = .ret (.agg (EV.cells (mkLook p a b))) ∧ Ext h h') := by
 unfold mkLook EV.cells
 have e0 : Ext h h := Ext.refl _
 refine Runs.intro aFunc42 rfl rfl rfl rfl fun rest => ?_;apply gS;refine gR rfl ?_;refine GoR.alloc rfl rfl rfl zt62 rfl rfl fun h0 x0 f0 => ?_;have := e0.1;replace e0 := e0.trans x0;have := f0.1;apply gE;apply gS;refine gR rfl ?_;iterate 3 refine gP ?_
 refine GoR.call rfl rfl (aCF aFunc33 rfl) (span33_ok) ?_ np;rintro v1 h1 ⟨q, x1⟩;cases q;refine ⟨_, rfl, ?_⟩;replace f0 := f0.ext x1;replace e0 := e0.trans x1;refine gO rfl rfl (aOp_build zt62 hu62 pl62 rfl rfl) rfl ?_;refine GoR.store rfl rfl rfl rfl rfl rfl f0 rfl sz62 rfl rfl rfl fun h2 u2 => ?_;replace f0 := u2.has f0;replace e0 := e0.upd u2 (by omega);apply gE;exact gV (ret_end (aResult_of Tryz.func42 rfl (aResults_cell rfl f0 (inCells_agg ag62 sz62 rfl))) ⟨rfl, e0⟩)
theorem pass43_ok {a b : Int} {h : AH} : Runs Tryz.prog 43 [.int .i64 a, .int .i64 b] h (fun en h' => en = .ret (.agg (EV.cells (mkPass a b))) ∧ Ext h h') := by
 unfold mkPass EV.cells
 have e0 : Ext h h := Ext.refl _
 refine Runs.intro aFunc43 rfl rfl rfl rfl fun rest => ?_;apply gS;refine gR rfl ?_;refine GoR.alloc rfl rfl rfl zt62 rfl rfl fun h0 x0 f0 => ?_;have := e0.1;replace e0 := e0.trans x0;have := f0.1;apply gE;apply gS;refine gR rfl ?_;iterate 2 refine gP ?_
 refine GoR.call rfl rfl (aCF aFunc33 rfl) (span33_ok) ?_ np;rintro v1 h1 ⟨q, x1⟩;cases q;refine ⟨_, rfl, ?_⟩;replace f0 := f0.ext x1;replace e0 := e0.trans x1;refine gO rfl rfl (aOp_build zt62 hu62 pl62 rfl rfl) rfl ?_;refine GoR.store rfl rfl rfl rfl rfl rfl f0 rfl sz62 rfl rfl rfl fun h2 u2 => ?_;replace f0 := u2.has f0;replace e0 := e0.upd u2 (by omega);apply gE;exact gV (ret_end (aResult_of Tryz.func43 rfl (aResults_cell rfl f0 (inCells_agg ag62 sz62 rfl))) ⟨rfl, e0⟩)
theorem rest45_ok {d : Int} {h : AH} : Runs Tryz.prog 45 [.int .i64 d] h (fun en h' => en = .ret (.agg (EV.cells (mkRest d))) ∧ Ext h h') := by
 unfold mkRest EV.cells
 have e0 : Ext h h := Ext.refl _
 refine Runs.intro aFunc45 rfl rfl rfl rfl fun rest => ?_;apply gS;refine gR rfl ?_;refine GoR.alloc rfl rfl rfl zt62 rfl rfl fun h0 x0 f0 => ?_;have := e0.1;replace e0 := e0.trans x0;have := f0.1;apply gE;apply gS;refine gR rfl ?_;refine gP ?_;refine gO rfl rfl (aOp_build zt62 hu62 pl62 rfl rfl) rfl ?_;refine GoR.store rfl rfl rfl rfl rfl rfl f0 rfl sz62 rfl rfl rfl fun h1 u1 => ?_;replace f0 := u1.has f0;replace e0 := e0.upd u1 (by omega);apply gE;exact gV (ret_end (aResult_of Tryz.func45 rfl (aResults_cell rfl f0 (inCells_agg ag62 sz62 rfl))) ⟨rfl, e0⟩)
theorem evs_seven {L : List EV} : ∀ l, l ∈ L.map EV.cells → l.length = 7 := fun l hl => by
 obtain ⟨e, _, rfl⟩ := List.mem_map.1 hl
 rfl
theorem pvs_slice {h : AH} {b n : Nat} {g : Kd} {el : TypeId} {L : List PV} (hn : L.length = n) (f : Has h b (.cells g (L.flatMap PV.cells) el)) : SliceOf h 7 (.slice b 0 n n) (L.map PV.cells) :=
 SliceOf.mk' rfl rfl f (by rw [List.length_map, hn]) fun i v q => by rw [Nat.zero_add]; exact flatten_at pv_len i v q
theorem evs_slice {h : AH} {b n : Nat} {g : Kd} {el : TypeId} {L : List EV} (hn : L.length = n) (f : Has h b (.cells g (L.flatMap EV.cells) el)) : SliceOf h 7 (.slice b 0 n n) (L.map EV.cells) :=
 SliceOf.mk' rfl rfl f (by rw [List.length_map, hn]) fun i v q => by rw [Nat.zero_add]; exact flatten_at ev_len i v q
theorem scal_two {a b : AVal} (ha : scalars [a] = true) (hb : scalars [b] = true) : scalars [a, b] = true := by
 have h1 : cond (scalar a) (scalars []) false = true := ha
 show cond (scalar a) (scalars [b]) false = true
 cases q : scalar a with
 | true => exact hb
 | false => rw [q] at h1; cases h1
theorem road_scal {h : AH} {R : RoadV} {sp se : AVal} (A : RoadAt h R sp se) : scalars [sp, se] = true := scal_two A.ps.scal.1 A.es.scal.1
def RoadNew (lo : Nat) (h : AH) (R : RoadV) (sp se : AVal) : Prop := FreshS lo h 7 sp (R.ps.map PV.cells) ∧ FreshS lo h 7 se (R.es.map EV.cells)
theorem RoadNew.road {lo : Nat} {h : AH} {R : RoadV} {sp se : AVal} (k : RoadNew lo h R sp se) : RoadAt h R sp se := ⟨k.1.self, k.2.self⟩
theorem RoadNew.upd {lo n : Nat} {B : ABlk} {h h' : AH} {R : RoadV} {sp se : AVal} (k : RoadNew lo h R sp se) (u : Upd h n B h') (hn : n < lo) : RoadNew lo h' R sp se :=
 ⟨k.1.on (Nat.le_of_eq u.1.symm) fun b b1 _ => u.2.2 b (by omega), k.2.on (Nat.le_of_eq u.1.symm) fun b b1 _ => u.2.2 b (by omega)⟩
theorem fresh_pvs {lo : Nat} {h : AH} {b n : Nat} {g : Kd} {el : TypeId} {L : List PV} (hn : L.length = n) (hb : lo ≤ b) (f : Has h b (.cells g (L.flatMap PV.cells) el)) : FreshS lo h 7 (.slice b 0 n n) (L.map PV.cells) := fun h' hl he => pvs_slice hn ⟨Nat.lt_of_lt_of_le f.1 hl, by rw [he b hb f.1]; exact f.2⟩
theorem sample_ok {E : List EV} {s : AVal} {h : AH} (hs : SliceOf h 7 s (E.map EV.cells)) (hn : E.length ≤ 100) : Runs Tryz.prog 32 [s] h (fun en h' => ∃ sp se, en = .ret (.agg [sp, se]) ∧ Ext h h' ∧ RoadNew h.next h' (sampleV E) sp se ∧ Ext h' h') := by
 have p1 : ([⟨10, 11, 2, 2, 1, 1, 12⟩, ⟨8, 8, 3, 4, 0, 1, 9⟩] : List PV).flatMap PV.cells = _ := rfl
 have hpc := fun {h9} => pass43_ok (a := 6) (b := 6) (h := h9)
 have hrc := fun {h9} => rest45_ok (d := 2) (h := h9)
 unfold mkPass EV.cells at hpc
 unfold mkRest EV.cells at hrc
 have e0 : Ext h h := Ext.refl _
 refine Runs.intro aFunc32 rfl rfl rfl rfl fun rest => ?_;apply gS;refine gR rfl ?_;refine GoR.alloc rfl rfl rfl zt25 rfl rfl fun h0 x0 f0 => ?_;have := e0.1;replace e0 := e0.trans x0;have := f0.1;apply gE;apply gS;refine gR rfl ?_;refine GoR.call rfl rfl (aCF aFunc33 rfl) (span33_ok) ?_ np;rintro v1 h1 ⟨q, x1⟩;cases q;refine ⟨_, rfl, ?_⟩;replace f0 := f0.ext x1;replace e0 := e0.trans x1;refine GoR.call rfl rfl (aCF aFunc33 rfl) (span33_ok) ?_ np;rintro v2 h2 ⟨q, x2⟩;cases q;refine ⟨_, rfl, ?_⟩;replace f0 := f0.ext x2;replace e0 := e0.trans x2;refine GoR.call rfl rfl (aCF aFunc33 rfl) (span33_ok) ?_ np;rintro v3 h3 ⟨q, x3⟩;cases q;refine ⟨_, rfl, ?_⟩;replace f0 := f0.ext x3;replace e0 := e0.trans x3;refine gO rfl rfl (aOp_build zt58 hu58 pl58 rfl rfl) rfl ?_;refine GoR.call rfl rfl (aCF aFunc33 rfl) (span33_ok) ?_ np;rintro v4 h4 ⟨q, x4⟩;cases q;refine ⟨_, rfl, ?_⟩;replace f0 := f0.ext x4;replace e0 := e0.trans x4;refine GoR.call rfl rfl (aCF aFunc33 rfl) (span33_ok) ?_ np;rintro v5 h5 ⟨q, x5⟩;cases q;refine ⟨_, rfl, ?_⟩;replace f0 := f0.ext x5;replace e0 := e0.trans x5;refine GoR.call rfl rfl (aCF aFunc33 rfl) (span33_ok) ?_ np;rintro v6 h6 ⟨q, x6⟩;cases q;refine ⟨_, rfl, ?_⟩;replace f0 := f0.ext x6;replace e0 := e0.trans x6;refine gO rfl rfl (aOp_build zt58 hu58 pl58 rfl rfl) rfl ?_;refine GoR.buildSl rfl rfl (ps := [(0, .agg [.int .i64 10, .int .i64 11, .int .i64 2, .int .i64 2, .int .i64 1, .int .i64 1, .int .i64 12]), (1, .agg [.int .i64 8, .int .i64 8, .int .i64 3, .int .i64 4, .int .i64 0, .int .i64 1, .int .i64 9])]) (cs := ([⟨10, 11, 2, 2, 1, 1, 12⟩, ⟨8, 8, 3, 4, 0, 1, 9⟩] : List PV).flatMap PV.cells) Tryz.underlying22 rfl sz58 zt58 rfl rfl rfl rfl fun h7 x7 f7 => ?_;have := e0.1;have := f0.1;replace f0 := f0.ext x7;replace e0 := e0.trans x7;have := f7.1;refine GoR.call rfl rfl (aCF aFunc43 rfl) (hpc) ?_ np;rintro v8 h8 ⟨q, x8⟩;cases q;refine ⟨_, rfl, ?_⟩;replace f7 := f7.ext x8;replace f0 := f0.ext x8;replace e0 := e0.trans x8;refine GoR.call rfl rfl (aCF aFunc45 rfl) (hrc) ?_ np;rintro v9 h9 ⟨q, x9⟩;cases q;refine ⟨_, rfl, ?_⟩;replace f7 := f7.ext x9;replace f0 := f0.ext x9;replace e0 := e0.trans x9;refine GoR.buildSl rfl rfl (ps := [(0, .agg [.int .i64 0, .int .i64 6, .int .i64 6, .int .i64 0, .int .i64 0, .int .i64 0, .int .i64 0]), (1, .agg [.int .i64 1, .int .i64 0, .int .i64 0, .int .i64 2, .int .i64 0, .int .i64 0, .int .i64 0])]) (cs := ([mkPass 6 6, mkRest 2].map EV.cells).flatten) Tryz.underlying23 rfl sz62 zt62 rfl rfl rfl rfl fun h10 x10 f10 => ?_;have := e0.1;have := f7.1;have := f0.1;replace f7 := f7.ext x10;replace f0 := f0.ext x10;replace e0 := e0.trans x10;have := f10.1;refine gP ?_
 have hb0 := f0.1
 have hsl := hs.ext e0
 have hps := pvs_slice (L := [⟨10, 11, 2, 2, 1, 1, 12⟩, ⟨8, 8, 3, 4, 0, 1, 9⟩]) rfl f7
 refine GoR.appendFull (Lx := [mkPass 6 6, mkRest 2].map EV.cells) rfl rfl Tryz.underlying23 Tryz.underlying23 sz62 by62 zt62 rfl rfl rfl f10 rfl rfl evs_seven rfl hsl evs_seven (by rw [List.length_map]; omega) rfl rfl fun s11 h11 x11 S11 => ?_;replace f0 := f0.ext x11;replace f7 := f7.ext x11;replace e0 := e0.trans x11
 rw [← List.map_append] at S11
 have hs11 := S11.self.scal
 have h1' : cond (scalar s11) (scalars []) false = true := hs11.1
 have hsc : scalar s11 = true := by
  cases q : scalar s11 with
  | true => rfl
  | false => rw [q] at h1'; cases h1'
 have hx11 := x11.1
 have RN : RoadNew (h.next + 1) h11 (sampleV E) (.slice h6.next 0 2 2) s11 := ⟨fresh_pvs (L := [⟨10, 11, 2, 2, 1, 1, 12⟩, ⟨8, 8, 3, 4, 0, 1, 9⟩]) rfl (by omega) f7, fun h' hl he => S11 h' hl fun b b1 b2 => he b (by omega) b2⟩
 refine gO rfl rfl (aOp_build (ps := [(0, .slice h6.next 0 2 2), (1, s11)]) (cs := [.slice h6.next 0 2 2, s11]) zt25 hu25 pl25 rfl (by simp [aFillA, hs11.2, cells_agg, splice]; rfl)) rfl ?_;refine GoR.store rfl rfl rfl rfl rfl rfl f0 rfl sz25 rfl (by show cond true (cond (scalar s11) true false) false = true; rw [hsc]; rfl) rfl fun h12 u12 => ?_;replace f0 := u12.has f0;replace e0 := e0.upd u12 (by omega);apply gE
 have hr := RN.upd u12 (Nat.lt_succ_self _)
 exact gV (ret_end (aResult_of Tryz.func32 rfl (aResults_cell rfl f0 (inCells_agg ag25 sz25 rfl))) ⟨_, _, rfl, e0, ⟨fun h' hl he => hr.1 h' hl fun b b1 b2 => he b (by omega) b2, fun h' hl he => hr.2 h' hl fun b b1 b2 => he b (by omega) b2⟩, Ext.refl _⟩)
theorem seen_ok {h : AH} : Runs Tryz.prog 34 [] h (fun en h' => ∃ sp se, en = .ret (.agg [sp, se]) ∧ Ext h h' ∧ RoadAt h' (sampleV [mkLook 1 7 9]) sp se ∧ Ext h' h') := by
 have hlk := fun {h9} => look42_ok (p := 1) (a := 7) (b := 9) (h := h9)
 unfold mkLook EV.cells at hlk
 have e0 : Ext h h := Ext.refl _
 refine Runs.intro aFunc34 rfl rfl rfl rfl fun rest => ?_;apply gS;refine gR rfl ?_;refine GoR.alloc rfl rfl rfl zt25 rfl rfl fun h0 x0 f0 => ?_;have := e0.1;replace e0 := e0.trans x0;have := f0.1;apply gE;apply gS;refine gR rfl ?_;refine GoR.call rfl rfl (aCF aFunc42 rfl) (hlk) ?_ np;rintro v1 h1 ⟨q, x1⟩;cases q;refine ⟨_, rfl, ?_⟩;replace f0 := f0.ext x1;replace e0 := e0.trans x1;refine GoR.buildSl rfl rfl (ps := [(0, .agg [.int .i64 2, .int .i64 0, .int .i64 0, .int .i64 0, .int .i64 1, .int .i64 7, .int .i64 9])]) (cs := [mkLook 1 7 9].flatMap EV.cells) Tryz.underlying23 rfl sz62 zt62 rfl rfl rfl rfl fun h2 x2 f2 => ?_;have := e0.1;have := f0.1;replace f0 := f0.ext x2;replace e0 := e0.trans x2;have := f2.1;refine GoR.call rfl rfl (aCF aFunc32 rfl) (sample_ok (evs_slice (L := [mkLook 1 7 9]) rfl (by assumption)) (by decide)) ?_ (by rintro _ _ ⟨sp, se, q, _, RA, e9⟩; cases q);rintro v3 h3 ⟨sp, se, q, x3, RA, e9⟩;cases q;refine ⟨_, rfl, ?_⟩;have := e0.1;replace f2 := f2.ext x3;replace f0 := f0.ext x3;replace e0 := e0.trans x3;refine GoR.store rfl rfl rfl rfl rfl rfl f0 rfl sz25 rfl (road_scal RA.road) rfl fun h4 u4 => ?_;replace f2 := f2.upd u4 (by omega);replace f0 := u4.has f0;clear e9;replace e0 := e0.upd u4 (by omega);apply gE;exact gV (ret_end (aResult_of Tryz.func34 rfl (aResults_cell rfl f0 (inCells_agg ag25 sz25 rfl))) ⟨_, _, rfl, e0, (RA.upd (by assumption) (by omega)).road, Ext.refl _⟩)
theorem clash_ok {h : AH} : Runs Tryz.prog 35 [] h (fun en h' => ∃ sp se, en = .ret (.agg [sp, se]) ∧ Ext h h' ∧ RoadAt h' (sampleV [mkLook 1 7 9, mkLook 1 6 6]) sp se ∧ Ext h' h') := by
 have hlk := fun {h9} => look42_ok (p := 1) (a := 7) (b := 9) (h := h9)
 have hlk2 := fun {h9} => look42_ok (p := 1) (a := 6) (b := 6) (h := h9)
 unfold mkLook EV.cells at hlk hlk2
 have e0 : Ext h h := Ext.refl _
 refine Runs.intro aFunc35 rfl rfl rfl rfl fun rest => ?_;apply gS;refine gR rfl ?_;refine GoR.alloc rfl rfl rfl zt25 rfl rfl fun h0 x0 f0 => ?_;have := e0.1;replace e0 := e0.trans x0;have := f0.1;apply gE;apply gS;refine gR rfl ?_;refine GoR.call rfl rfl (aCF aFunc42 rfl) (hlk) ?_ np;rintro v1 h1 ⟨q, x1⟩;cases q;refine ⟨_, rfl, ?_⟩;replace f0 := f0.ext x1;replace e0 := e0.trans x1;refine GoR.call rfl rfl (aCF aFunc42 rfl) (hlk2) ?_ np;rintro v2 h2 ⟨q, x2⟩;cases q;refine ⟨_, rfl, ?_⟩;replace f0 := f0.ext x2;replace e0 := e0.trans x2;refine GoR.buildSl rfl rfl (ps := [(0, .agg [.int .i64 2, .int .i64 0, .int .i64 0, .int .i64 0, .int .i64 1, .int .i64 7, .int .i64 9]), (1, .agg [.int .i64 2, .int .i64 0, .int .i64 0, .int .i64 0, .int .i64 1, .int .i64 6, .int .i64 6])]) (cs := [mkLook 1 7 9, mkLook 1 6 6].flatMap EV.cells) Tryz.underlying23 rfl sz62 zt62 rfl rfl rfl rfl fun h3 x3 f3 => ?_;have := e0.1;have := f0.1;replace f0 := f0.ext x3;replace e0 := e0.trans x3;have := f3.1;refine GoR.call rfl rfl (aCF aFunc32 rfl) (sample_ok (evs_slice (L := [mkLook 1 7 9, mkLook 1 6 6]) rfl (by assumption)) (by decide)) ?_ (by rintro _ _ ⟨sp, se, q, _, RA, e9⟩; cases q);rintro v4 h4 ⟨sp, se, q, x4, RA, e9⟩;cases q;refine ⟨_, rfl, ?_⟩;have := e0.1;replace f3 := f3.ext x4;replace f0 := f0.ext x4;replace e0 := e0.trans x4;refine GoR.store rfl rfl rfl rfl rfl rfl f0 rfl sz25 rfl (road_scal RA.road) rfl fun h5 u5 => ?_;replace f3 := f3.upd u5 (by omega);replace f0 := u5.has f0;clear e9;replace e0 := e0.upd u5 (by omega);apply gE;exact gV (ret_end (aResult_of Tryz.func35 rfl (aResults_cell rfl f0 (inCells_agg ag25 sz25 rfl))) ⟨_, _, rfl, e0, (RA.upd (by assumption) (by omega)).road, Ext.refl _⟩)
theorem v_h1 : (sampleV []).heightR 1 1 = ((6, 8), 0) := by decide +kernel
theorem v_s1 : (sampleV []).sinksR 1 8 = ((2, 3), 0) := by decide +kernel
theorem v_b1 : (sampleV []).bearsR 20 = (1, 0) := by decide +kernel
theorem v_m1 : (sampleV []).mostR = (18, 0) := by decide +kernel
theorem v_r1 : (sampleV [mkLook 1 7 9]).restR 20 = (1, 0) := by decide +kernel
theorem v_w1 : (sampleV []).belowR = ((0, 0), 0) := by decide +kernel
theorem v_k1 : (sampleV []).weakR = (1, 0) := by decide +kernel
theorem v_c1 : (sampleV [mkLook 1 7 9, mkLook 1 6 6]).clashR = (12, 0) := by decide +kernel
end Go.Proofs.YtkcimfopboelaaaGreat

namespace Go.Proofs.YtkcimfopboelaaaGreat
open Go Go.AbsE
set_option linter.unusedSimpArgs false
set_option maxRecDepth 100000
set_option maxHeartbeats 0
set_option linter.unusedVariables false
theorem sample_of {h : AH} : Runs Tryz.prog 32 [.nilslice] h (fun en h' => ∃ sp se, en = .ret (.agg [sp, se]) ∧ Ext h h' ∧ RoadAt h' (sampleV []) sp se ∧ Ext h' h') := (sample_ok (E := []) .nil (by decide)).mono fun _ _ ⟨sp, se, a, b, c, d⟩ => ⟨sp, se, a, b, c.road, d⟩
theorem spanT29 : SpanT Tryz.prog 29 := ⟨⟨_, _, Tryz.underlying29, by decide, by decide, rfl, rfl, ⟨_, Tryz.underlying3⟩, ⟨_, Tryz.underlying3⟩⟩, by kernel_rfl, by kernel_rfl⟩
theorem cv_h1 {h : AH} {sp se : AVal} (A : RoadAt h (sampleV []) sp se) : Runs Tryz.prog 15 [.agg [sp, se], .int .i64 1, .int .i64 1] h (fun en h' => en = .ret (.tuple [.agg [.int .i64 6, .int .i64 8], .int .i64 0]) ∧ Ext h h') := by
 have q := Height_ok A (by decide) (by decide) 1 1
 rw [v_h1] at q;exact q
theorem cv_s1 {h : AH} {sp se : AVal} (A : RoadAt h (sampleV []) sp se) : Runs Tryz.prog 17 [.agg [sp, se], .int .i64 1, .int .i64 8] h (fun en h' => en = .ret (.tuple [.agg [.int .i64 2, .int .i64 3], .int .i64 0]) ∧ Ext h h') := by
 have q := Sinks_ok A (by decide) (by decide) 1 8
 rw [v_s1] at q;exact q
theorem cv_b1 {h : AH} {sp se : AVal} (A : RoadAt h (sampleV []) sp se) : Runs Tryz.prog 19 [.agg [sp, se], .int .i64 20] h (fun en h' => en = .ret (.tuple [.int .i64 1, .int .i64 0]) ∧ Ext h h') := by
 have q := Bears_ok A (by decide) (by decide) 20
 rw [v_b1] at q;exact q
theorem cv_m1 {h : AH} {sp se : AVal} (A : RoadAt h (sampleV []) sp se) : Runs Tryz.prog 24 [.agg [sp, se]] h (fun en h' => en = .ret (.tuple [.int .i64 18, .int .i64 0]) ∧ Ext h h') := by
 have q := Most_ok A (by decide) (by decide)
 rw [v_m1] at q;exact q
theorem cv_r1 {h : AH} {sp se : AVal} (A : RoadAt h (sampleV [mkLook 1 7 9]) sp se) : Runs Tryz.prog 26 [.agg [sp, se], .int .i64 20] h (fun en h' => en = .ret (.tuple [.int .i64 1, .int .i64 0]) ∧ Ext h h') := by
 have q := Rest_ok A (by decide) (by decide) 20
 rw [v_r1] at q;exact q
theorem cv_w1 {h : AH} {sp se : AVal} (A : RoadAt h (sampleV []) sp se) : Runs Tryz.prog 21 [.agg [sp, se]] h (fun en h' => en = .ret (.tuple [.int .i64 0, .int .i64 0, .int .i64 0]) ∧ Ext h h') := by
 have q := Below_ok A (by decide) (by decide)
 rw [v_w1] at q;exact q
theorem cv_k1 {h : AH} {sp se : AVal} (A : RoadAt h (sampleV []) sp se) : Runs Tryz.prog 28 [.agg [sp, se]] h (fun en h' => en = .ret (.tuple [.int .i64 1, .int .i64 0]) ∧ Ext h h') := by
 have q := Weak_ok A (by decide) (by decide)
 rw [v_k1] at q;exact q
theorem cv_c1 {h : AH} {sp se : AVal} (A : RoadAt h (sampleV [mkLook 1 7 9, mkLook 1 6 6]) sp se) : Runs Tryz.prog 30 [.agg [sp, se]] h (fun en h' => en = .ret (.tuple [.int .i64 12, .int .i64 0]) ∧ Ext h h') := by
 have q := Clash_ok A (by decide) (by decide)
 rw [v_c1] at q;exact q
theorem alive_ok {h : AH} : Runs Tryz.prog 14 [] h (fun en h' => en = .ret (.bool true) ∧ Ext h h') := by
 have e0 : Ext h h := Ext.refl _
 refine Runs.intro aFunc14 rfl rfl rfl rfl fun rest => ?_;apply gS;refine gR rfl ?_;refine gP ?_;apply gE;apply gS;refine gR rfl ?_;refine GoR.call rfl rfl (aCF aFunc32 rfl) (sample_of) ?_ (by rintro _ _ ⟨sp0, se0, q, _, RA0, e900⟩; cases q);rintro v0 h0 ⟨sp0, se0, q, x0, RA0, e900⟩;cases q;refine ⟨_, rfl, ?_⟩;have := e0.1;replace e0 := e0.trans x0;refine GoR.call rfl rfl (aCF aFunc15 rfl) (cv_h1 (RA0.ext e900)) ?_ np;rintro v1 h1 ⟨q, x1⟩;cases q;refine ⟨_, rfl, ?_⟩;replace e900 := e900.trans x1;replace e0 := e0.trans x1;iterate 3 refine gP ?_
 refine GoR.alloc rfl rfl rfl zt29 rfl rfl fun h2 x2 f2 => ?_;have := e900.1;have := e0.1;replace e900 := e900.trans x2;replace e0 := e0.trans x2;have := f2.1;refine GoR.store rfl rfl rfl rfl rfl rfl f2 rfl sz29 rfl rfl rfl fun h3 u3 => ?_;replace f2 := u3.has f2;replace e900 := e900.upd u3 (by omega);replace e0 := e0.upd u3 (by omega);refine gP ?_;apply gE;apply gS;refine gR rfl ?_;refine GoR.call rfl rfl (aCF aFunc32 rfl) (sample_of) ?_ (by rintro _ _ ⟨sp1, se1, q, _, RA1, e901⟩; cases q);rintro v4 h4 ⟨sp1, se1, q, x4, RA1, e901⟩;cases q;refine ⟨_, rfl, ?_⟩;have := e900.1;have := e0.1;replace f2 := f2.ext x4;replace e900 := e900.trans x4;replace e0 := e0.trans x4;refine GoR.call rfl rfl (aCF aFunc17 rfl) (cv_s1 (RA1.ext e901)) ?_ np;rintro v5 h5 ⟨q, x5⟩;cases q;refine ⟨_, rfl, ?_⟩;replace f2 := f2.ext x5;replace e901 := e901.trans x5;replace e900 := e900.trans x5;replace e0 := e0.trans x5;iterate 3 refine gP ?_
 refine GoR.alloc rfl rfl rfl zt29 rfl rfl fun h6 x6 f6 => ?_;have := e901.1;have := e900.1;have := e0.1;have := f2.1;replace f2 := f2.ext x6;replace e901 := e901.trans x6;replace e900 := e900.trans x6;replace e0 := e0.trans x6;have := f6.1;refine GoR.store rfl rfl rfl rfl rfl rfl f6 rfl sz29 rfl rfl rfl fun h7 u7 => ?_;replace f6 := u7.has f6;replace f2 := f2.upd u7 (by omega);replace e901 := e901.upd u7 (by omega);replace e900 := e900.upd u7 (by omega);replace e0 := e0.upd u7 (by omega);refine gP ?_;apply gE;apply gS;refine gR rfl ?_;refine GoR.call rfl rfl (aCF aFunc32 rfl) (sample_of) ?_ (by rintro _ _ ⟨sp2, se2, q, _, RA2, e902⟩; cases q);rintro v8 h8 ⟨sp2, se2, q, x8, RA2, e902⟩;cases q;refine ⟨_, rfl, ?_⟩;have := e901.1;have := e900.1;have := e0.1;replace f6 := f6.ext x8;replace f2 := f2.ext x8;replace e901 := e901.trans x8;replace e900 := e900.trans x8;replace e0 := e0.trans x8;refine GoR.call rfl rfl (aCF aFunc19 rfl) (cv_b1 (RA2.ext e902)) ?_ np;rintro v9 h9 ⟨q, x9⟩;cases q;refine ⟨_, rfl, ?_⟩;replace f6 := f6.ext x9;replace f2 := f2.ext x9;replace e902 := e902.trans x9;replace e901 := e901.trans x9;replace e900 := e900.trans x9;replace e0 := e0.trans x9;iterate 5 refine gP ?_
 apply gE;apply gS;refine gR rfl ?_;refine GoR.call rfl rfl (aCF aFunc32 rfl) (sample_of) ?_ (by rintro _ _ ⟨sp3, se3, q, _, RA3, e903⟩; cases q);rintro v10 h10 ⟨sp3, se3, q, x10, RA3, e903⟩;cases q;refine ⟨_, rfl, ?_⟩;have := e902.1;have := e901.1;have := e900.1;have := e0.1;replace f6 := f6.ext x10;replace f2 := f2.ext x10;replace e902 := e902.trans x10;replace e901 := e901.trans x10;replace e900 := e900.trans x10;replace e0 := e0.trans x10;refine GoR.call rfl rfl (aCF aFunc24 rfl) (cv_m1 (RA3.ext e903)) ?_ np;rintro v11 h11 ⟨q, x11⟩;cases q;refine ⟨_, rfl, ?_⟩;replace f6 := f6.ext x11;replace f2 := f2.ext x11;replace e903 := e903.trans x11;replace e902 := e902.trans x11;replace e901 := e901.trans x11;replace e900 := e900.trans x11;replace e0 := e0.trans x11;iterate 5 refine gP ?_
 apply gE;apply gS;refine gR rfl ?_;refine GoR.call rfl rfl (aCF aFunc34 rfl) (seen_ok) ?_ (by rintro _ _ ⟨sp4, se4, q, _, RA4, e904⟩; cases q);rintro v12 h12 ⟨sp4, se4, q, x12, RA4, e904⟩;cases q;refine ⟨_, rfl, ?_⟩;have := e903.1;have := e902.1;have := e901.1;have := e900.1;have := e0.1;replace f6 := f6.ext x12;replace f2 := f2.ext x12;replace e903 := e903.trans x12;replace e902 := e902.trans x12;replace e901 := e901.trans x12;replace e900 := e900.trans x12;replace e0 := e0.trans x12;refine GoR.call rfl rfl (aCF aFunc26 rfl) (cv_r1 (RA4.ext e904)) ?_ np;rintro v13 h13 ⟨q, x13⟩;cases q;refine ⟨_, rfl, ?_⟩;replace f6 := f6.ext x13;replace f2 := f2.ext x13;replace e904 := e904.trans x13;replace e903 := e903.trans x13;replace e902 := e902.trans x13;replace e901 := e901.trans x13;replace e900 := e900.trans x13;replace e0 := e0.trans x13;iterate 5 refine gP ?_
 apply gE;apply gS;refine gR rfl ?_;refine GoR.call rfl rfl (aCF aFunc32 rfl) (sample_of) ?_ (by rintro _ _ ⟨sp5, se5, q, _, RA5, e905⟩; cases q);rintro v14 h14 ⟨sp5, se5, q, x14, RA5, e905⟩;cases q;refine ⟨_, rfl, ?_⟩;have := e904.1;have := e903.1;have := e902.1;have := e901.1;have := e900.1;have := e0.1;replace f6 := f6.ext x14;replace f2 := f2.ext x14;replace e904 := e904.trans x14;replace e903 := e903.trans x14;replace e902 := e902.trans x14;replace e901 := e901.trans x14;replace e900 := e900.trans x14;replace e0 := e0.trans x14;refine GoR.call rfl rfl (aCF aFunc21 rfl) (cv_w1 (RA5.ext e905)) ?_ np;rintro v15 h15 ⟨q, x15⟩;cases q;refine ⟨_, rfl, ?_⟩;replace f6 := f6.ext x15;replace f2 := f2.ext x15;replace e905 := e905.trans x15;replace e904 := e904.trans x15;replace e903 := e903.trans x15;replace e902 := e902.trans x15;replace e901 := e901.trans x15;replace e900 := e900.trans x15;replace e0 := e0.trans x15;iterate 7 refine gP ?_
 apply gE;apply gS;refine gR rfl ?_;refine GoR.call rfl rfl (aCF aFunc32 rfl) (sample_of) ?_ (by rintro _ _ ⟨sp6, se6, q, _, RA6, e906⟩; cases q);rintro v16 h16 ⟨sp6, se6, q, x16, RA6, e906⟩;cases q;refine ⟨_, rfl, ?_⟩;have := e905.1;have := e904.1;have := e903.1;have := e902.1;have := e901.1;have := e900.1;have := e0.1;replace f6 := f6.ext x16;replace f2 := f2.ext x16;replace e905 := e905.trans x16;replace e904 := e904.trans x16;replace e903 := e903.trans x16;replace e902 := e902.trans x16;replace e901 := e901.trans x16;replace e900 := e900.trans x16;replace e0 := e0.trans x16;refine GoR.call rfl rfl (aCF aFunc28 rfl) (cv_k1 (RA6.ext e906)) ?_ np;rintro v17 h17 ⟨q, x17⟩;cases q;refine ⟨_, rfl, ?_⟩;replace f6 := f6.ext x17;replace f2 := f2.ext x17;replace e906 := e906.trans x17;replace e905 := e905.trans x17;replace e904 := e904.trans x17;replace e903 := e903.trans x17;replace e902 := e902.trans x17;replace e901 := e901.trans x17;replace e900 := e900.trans x17;replace e0 := e0.trans x17;iterate 5 refine gP ?_
 apply gE;apply gS;refine gR rfl ?_;refine GoR.call rfl rfl (aCF aFunc35 rfl) (clash_ok) ?_ (by rintro _ _ ⟨sp7, se7, q, _, RA7, e907⟩; cases q);rintro v18 h18 ⟨sp7, se7, q, x18, RA7, e907⟩;cases q;refine ⟨_, rfl, ?_⟩;have := e906.1;have := e905.1;have := e904.1;have := e903.1;have := e902.1;have := e901.1;have := e900.1;have := e0.1;replace f6 := f6.ext x18;replace f2 := f2.ext x18;replace e0 := e0.trans x18;refine GoR.call rfl rfl (aCF aFunc30 rfl) (cv_c1 (RA7.ext e907)) ?_ np;rintro v19 h19 ⟨q, x19⟩;cases q;refine ⟨_, rfl, ?_⟩;replace f6 := f6.ext x19;replace f2 := f2.ext x19;replace e0 := e0.trans x19;iterate 5 refine gP ?_
 apply gE;apply gS;refine Go.drawnE plan14_0 ?_;refine gQ rfl rfl (ld29 rfl f2 rfl) rfl ?_;refine GoE.call rfl rfl (aCF aFunc33 rfl) (span33_ok) (dK 0 0 rfl) ?_ np;rintro v20 h20 ⟨q, x20⟩;cases q;replace f6 := f6.ext x20;replace f2 := f2.ext x20;replace e0 := e0.trans x20;refine ⟨(rck (h2 := h20) rfl (ld29 rfl f2 rfl) recheck_nil), _, rfl, ?_⟩;refine gQ rfl rfl (aOp_eqlSpan spanT29 rfl rfl (r := true) rfl) rfl ?_;iterate 2 refine gQ rfl rfl rfl rfl ?_
 refine gQ rfl rfl (kET rfl rfl) rfl ?_;iterate 2 refine gQ rfl rfl rfl rfl ?_
 refine gQ rfl rfl (ld29 rfl f6 rfl) rfl ?_;refine GoE.call rfl rfl (aCF aFunc33 rfl) (span33_ok) (dK 255 8 (dD 255 7 (dD 255 6 (dD 255 5 (dD 255 4 (dD 255 3 (dD 255 2 (dD 255 0 rfl)))))))) ?_ np;rintro v21 h21 ⟨q, x21⟩;cases q;replace f6 := f6.ext x21;replace e0 := e0.trans x21;refine ⟨(rck (h2 := h21) rfl (ld29 rfl f6 rfl) recheck_nil), _, rfl, ?_⟩;refine gQ rfl rfl (aOp_eqlSpan spanT29 rfl rfl (r := true) rfl) rfl ?_;iterate 3 refine gQ rfl rfl rfl rfl ?_
 refine gQ rfl rfl (kET rfl rfl) rfl ?_;iterate 3 refine gQ rfl rfl rfl rfl ?_
 refine gQ rfl rfl (kET rfl rfl) rfl ?_;iterate 3 refine gQ rfl rfl rfl rfl ?_
 refine gQ rfl rfl (kET rfl rfl) rfl ?_;iterate 3 refine gQ rfl rfl rfl rfl ?_
 refine gQ rfl rfl (kET rfl rfl) rfl ?_;iterate 3 refine gQ rfl rfl rfl rfl ?_
 refine gQ rfl rfl (kET rfl rfl) rfl ?_;iterate 3 refine gQ rfl rfl rfl rfl ?_
 refine gQ rfl rfl (kET rfl rfl) rfl ?_;iterate 3 refine gQ rfl rfl rfl rfl ?_
 refine gQ rfl rfl (kET rfl rfl) rfl ?_;iterate 3 refine gQ rfl rfl rfl rfl ?_
 refine gQ rfl rfl (kET rfl rfl) rfl ?_;iterate 3 refine gQ rfl rfl rfl rfl ?_
 refine gQ rfl rfl (kET rfl rfl) rfl ?_;iterate 3 refine gQ rfl rfl rfl rfl ?_
 refine gQ rfl rfl (kET rfl rfl) rfl ?_;iterate 3 refine gQ rfl rfl rfl rfl ?_
 refine gQ rfl rfl (kET rfl rfl) rfl ?_;iterate 3 refine gQ rfl rfl rfl rfl ?_
 refine gQ rfl rfl (kET rfl rfl) rfl ?_;iterate 3 refine gQ rfl rfl rfl rfl ?_
 refine gQ rfl rfl (kET rfl rfl) rfl ?_;iterate 3 refine gQ rfl rfl rfl rfl ?_
 refine gQ rfl rfl (kET rfl rfl) rfl ?_;iterate 2 refine gQ rfl rfl rfl rfl ?_
 refine GoE.end rfl ?_;exact gW Tryz.func14 rfl rfl ⟨rfl, e0⟩
end Go.Proofs.YtkcimfopboelaaaGreat

namespace Go.Proofs.YtkcimfopboelaaaGreat
open Go Go.AbsE
set_option linter.unusedSimpArgs false
set_option maxRecDepth 100000
set_option maxHeartbeats 0
set_option linter.unusedVariables false
end Go.Proofs.YtkcimfopboelaaaGreat

namespace Go.Proofs.YtkcimfopboelaaaGreat
open Go Go.AbsE
set_option linter.unusedSimpArgs false
set_option maxHeartbeats 0
set_option linter.unusedVariables false
def Ft.on (f : Ft) (e : EV) (k : Int) : Ft := ⟨e.after f.x k, f.hs ++ [(e.after f.x k).height]⟩
end Go.Proofs.YtkcimfopboelaaaGreat

namespace Go.Proofs.YtkcimfopboelaaaGreat
open Go Go.AbsE
set_option linter.unusedSimpArgs false
set_option maxRecDepth 100000
set_option maxHeartbeats 0
set_option linter.unusedVariables false
end Go.Proofs.YtkcimfopboelaaaGreat

namespace Go.Proofs.YtkcimfopboelaaaGreat
open Go Go.AbsE
set_option linter.unusedSimpArgs false
set_option maxRecDepth 100000
set_option maxHeartbeats 0
set_option linter.unusedVariables false
theorem bit_at (p i : Nat) : ((p : Int).fdiv (2 ^ i)) % 2 = if p.testBit i then 1 else 0 := by
 have h1 : (p : Int).fdiv (2 ^ i) = ((p / 2 ^ i : Nat) : Int) := by
  rw [Int.fdiv_eq_ediv_of_nonneg _ (Int.pow_nonneg (by decide))]
  simp
 rw [h1, Nat.testBit_eq_decide_div_mod_eq]
 by_cases q : p / 2 ^ i % 2 = 1
 ·rw [decide_eq_true q, if_pos rfl]
  omega
 ·rw [decide_eq_false q, if_neg (by decide)]
  omega
end Go.Proofs.YtkcimfopboelaaaGreat

namespace Go.Proofs.YtkcimfopboelaaaGreat
open Go Go.AbsE
set_option linter.unusedSimpArgs false
set_option maxRecDepth 100000
set_option maxHeartbeats 0
set_option linter.unusedVariables false
def keepV (s : Nat) : Nat → List EV → List EV
 | _, [] => []
 | k, x :: L => if x.kind ≠ 2 ∨ s.testBit k = true then x :: keepV s (k + 1) L else keepV s (k + 1) L
theorem keepV_app {s : Nat} {x : EV} : ∀ {A : List EV} {k : Nat}, keepV s k (A ++ [x]) = keepV s k A ++ (if x.kind ≠ 2 ∨ s.testBit (k + A.length) = true then [x] else [])
 | [], k => by
  simp [keepV]
 | y :: A, k => by
  show keepV s k (y :: (A ++ [x])) = _
  unfold keepV
  rw [keepV_app, show k + 1 + A.length = k + (y :: A).length by simp only [List.length_cons]; omega]
  split <;> rfl
theorem keepV_len {s : Nat} : ∀ {L : List EV} {k : Nat}, (keepV s k L).length ≤ L.length
 | [], k => Nat.le_refl _
 | y :: L, k => by
  unfold keepV
  have := keepV_len (s := s) (L := L) (k := k + 1)
  split <;> simp only [List.length_cons] <;> omega
theorem keepV_wo {s out : Nat} : ∀ {L : List EV} {k : Nat}, (∀ i x, L[i]? = some x → out.testBit (k + i) = (decide (x.kind = 2) && !s.testBit (k + i))) → keepV s k L = wo out k L
 | [], k, h => rfl
 | y :: L, k, h => by
  have h0 := h 0 y rfl
  rw [Nat.add_zero] at h0
  have ih := keepV_wo (s := s) (out := out) (L := L) (k := k + 1) fun i x hx => by
   have := h (i + 1) x (by simpa using hx)
   rwa [show k + (i + 1) = k + 1 + i by omega] at this
  unfold keepV wo
  rw [ih]
  by_cases q : y.kind = 2
  ·rw [decide_eq_true q, Bool.true_and] at h0
   cases q2 : s.testBit k with
   | true =>
    rw [q2] at h0;rw [h0, if_pos (.inr rfl)]
    rfl
   | false =>
    rw [q2] at h0;rw [h0, if_neg (by rintro (w | w); exact w q; cases w)]
    rfl
  ·rw [decide_eq_false q, Bool.false_and] at h0;rw [h0, if_pos (.inl q)]
   rfl
theorem andNot_bit {a b i : Nat} (ha : a < 2 ^ 64) (hi : i < 64) : (andNot a b).testBit i = (a.testBit i && !b.testBit i) := by
 unfold andNot
 rw [BitVec.testBit_toNat, BitVec.getLsbD_and, BitVec.getLsbD_not, BitVec.getLsbD_ofNat, BitVec.getLsbD_ofNat]
 simp [hi]
theorem keep_less {R : RoadV} (O : R.Ok) (s : Nat) : (⟨R.ps, keepV s 0 R.es⟩ : RoadV) = R.less (andNot (looksV R.es) s) := by
 have hlt := looks_lt O
 unfold RoadV.less
 rw [without_is, keepV_wo]
 intro i x hx
 have hi := (List.getElem?_eq_some_iff.1 hx).1
 have := O.ne
 rw [Nat.zero_add, andNot_bit (by omega) (by omega)]
 unfold looksV
 rw [bitsV_test, decide_eq_true hi, Bool.true_and, hx]
 rfl
theorem clash46_ok {R : RoadV} (O : R.Ok) {s : Nat} {sp se : AVal} {h : AH} (A : RoadAt h R sp se) {bh : Nat} (fh : Has h bh (.cells .plain [sp, se] 25)) :
  Runs Tryz.prog 46 [.int .i64 (s : Nat), .ptr bh 0] h (fun en h' => en = .ret (.bool (R.clashes s)) ∧ Ext h h') := by
 have hl2 := A.es.len
 rw [List.length_map] at hl2
 have hne := O.ne
 have hsc := road_scal A
 have hbh := fh.1
 have e0 : Ext h h := Ext.refl _
 refine Runs.intro aFunc46 rfl rfl rfl rfl fun rest => ?_;apply gS;refine gR rfl ?_;refine gP ?_;apply gE;apply gS;refine gR rfl ?_;refine gO rfl rfl (ld25 rfl fh rfl) rfl ?_;refine GoR.alloc rfl rfl rfl zt25 rfl rfl fun h0 x0 f0 => ?_;have := e0.1;have := fh.1;replace fh := fh.ext x0;replace e0 := e0.trans x0;have := f0.1;refine GoR.store rfl rfl rfl rfl rfl rfl f0 rfl sz25 rfl hsc rfl fun h1 u1 => ?_;replace f0 := u1.has f0;replace fh := fh.upd u1 (by omega);replace e0 := e0.upd u1 (by omega);apply gE;apply gS;refine gR rfl ?_;refine gO rfl rfl (fa25_1 rfl) rfl ?_;refine GoR.store rfl rfl rfl rfl rfl rfl f0 rfl sz23 rfl rfl rfl fun h2 u2 => ?_;replace f0 := u2.has f0;replace fh := fh.upd u2 (by omega);replace e0 := e0.upd u2 (by omega);apply gE;iterate 2 apply gS
 refine gR rfl ?_;refine gO rfl rfl (fa25_1 rfl) rfl ?_;refine gO rfl rfl (ld23 rfl fh rfl) rfl ?_;refine gO rfl rfl (aOp_lenSlice Tryz.underlying23 rfl hl2) rfl ?_;refine gP ?_;apply gE;refine Go.block noJ_ok ?_
 have hb0 := f0.1
 have hn2 : h2.next = h0.next := by rw [u2.1, u1.1]
 refine Go.loopKeep (fun a : Nat × AVal => [(0, .int .i64 (s : Nat)), (1, .ptr bh 0), (4, .ptr h.next 0), (12, se), (13, .int .i64 R.es.length), (14, .int .i64 (a.1 : Nat))])
  (fun m a h' => m + a.1 = R.es.length ∧ Ext h h' ∧ h2.next ≤ h'.next ∧ Has h' h.next (.cells .plain [sp, a.2] 25) ∧ Grow h' 62 7 h2.next a.2 (keepV s 0 (R.es.take a.1)).length ((keepV s 0 (R.es.take a.1)).flatMap EV.cells))
  (n := R.es.length) (0, .nilslice) ⟨rfl, rfl, rfl, rfl, rfl, rfl, trivial⟩ ⟨rfl, e0, Nat.le_refl _, f0, Grow.nil _ _ _ _⟩ ?_
 clear e0 f0 fh;rintro m ⟨i, sl⟩ h10 ⟨hm, e0, hn10, f0, G⟩ again
 dsimp only at hm f0 G ⊢
 by_cases hi : i < R.es.length
 ·obtain ⟨x, hx⟩ : ∃ x, R.es[i]? = some x := ⟨R.es[i], by simp [hi]⟩
  obtain ⟨bq, off, q1, q2⟩ := (A.es.ext e0).at (i := i) (l := EV.cells x) (by rw [List.getElem?_map, hx]; rfl)
  rw [List.length_map] at q1
  have hap : keepV s 0 (R.es.take (i + 1)) = keepV s 0 (R.es.take i) ++ (if x.kind ≠ 2 ∨ s.testBit i = true then [x] else []) := by
   rw [List.take_add_one, hx, Option.toList_some, keepV_app, Nat.zero_add, List.length_take, Nat.min_eq_left (by omega)]
  have hbit : decide (((s : Nat) : Int).fdiv (2 ^ i) % 2 = 1) = s.testBit i := by
   rw [bit_at]
   cases s.testBit i <;> rfl
  have hlen := keepV_len (s := s) (L := R.es.take i) (k := 0)
  rw [List.length_take] at hlen
  obtain ⟨xk, xa, xb, xd, xp, xl, xh⟩ := x
  unfold EV.cells at q2
  dsimp only at q2 hap
  have e1 : Ext h10 h10 := Ext.refl _
  have skip : ¬ (xk ≠ 2 ∨ s.testBit i = true) → (xk = 2 ∧ s.testBit i = false) := fun q => by
   refine ⟨Decidable.of_not_not fun w => q (.inl w), ?_⟩
   cases w : s.testBit i with
   | false => rfl
   | true => exact absurd (.inr w) q
  by_cases hk : xk ≠ 2 ∨ s.testBit i = true
  ·rw [if_pos hk] at hap;apply gS;refine gR rfl ?_;refine gO rfl rfl (kLT rfl rfl) rfl ?_;apply gE;apply gS;refine gC (b := true) rfl ?_;refine gD ?_;apply gS;refine Go.block noJ_ok ?_;apply gS;refine gR rfl ?_;refine gP ?_;refine gO rfl rfl (aOp_indexAddr Tryz.underlying23 sz62 rfl q1 rfl (Nat.ble_eq_true_of_le hi)) rfl ?_;refine gO rfl rfl (aOp_loadE ag62 sz62 rfl (q2.ext e1)) rfl ?_;refine GoR.alloc rfl rfl rfl zt62 rfl rfl fun h11 x11 f11 => ?_;have := e0.1;have := e1.1;have := f0.1;replace f0 := f0.ext x11;replace e0 := e0.trans x11;replace e1 := e1.trans x11;have := f11.1;refine gP ?_;refine GoR.store rfl rfl rfl rfl rfl rfl f11 rfl sz62 rfl rfl rfl fun h12 u12 => ?_;replace f11 := u12.has f11;replace f0 := f0.upd u12 (by omega);replace e0 := e0.upd u12 (by omega);replace e1 := e1.upd u12 (by omega);apply gE;refine Go.seq noJ_ok (Go.join (fun _ : Unit => [(0, .int .i64 (s : Nat)), (1, .ptr bh 0), (4, .ptr h.next 0), (12, se), (13, .int .i64 R.es.length), (14, .int .i64 (i : Nat)), (6, .ptr h10.next 0), (28, .bool true)]) (fun _ h' => h' = h12) ?_ ?_)
   ·intro k' done
    by_cases hk2 : xk = 2
    ·subst hk2
     have hb : s.testBit i = true := hk.resolve_left (fun w => w rfl)
     rw [hb] at hbit;refine gR rfl ?_;refine gO rfl rfl (fa62_0 rfl) rfl ?_;refine gO rfl rfl (ld3 rfl f11 rfl) rfl ?_;refine gO rfl rfl (kXF rfl rfl) rfl ?_;iterate 3 refine gP ?_
     refine gO rfl rfl (aOp_shr rfl rfl (by omega) rfl) rfl ?_;refine gO rfl rfl (aOp_and1 rfl rfl rfl) rfl ?_;refine gO rfl rfl (aOp_eql rfl rfl hbit) rfl ?_;refine gP ?_;apply gE;exact done () _ _ ⟨rfl, rfl, rfl, rfl, rfl, rfl, rfl, rfl, trivial⟩ rfl
    ·refine gR rfl ?_;refine gO rfl rfl (fa62_0 rfl) rfl ?_;refine gO rfl rfl (ld3 rfl f11 rfl) rfl ?_;refine gO rfl rfl (aOp_neq rfl rfl (r := true) (decide_eq_false hk2)) rfl ?_;refine gP ?_;iterate 5 refine GoR.skip rfl rfl rfl ?_
     refine gP ?_;apply gE;exact done () _ _ ⟨rfl, rfl, rfl, rfl, rfl, rfl, rfl, rfl, trivial⟩ rfl
   rintro ⟨⟩ _ rfl;refine gC (b := true) rfl ?_;refine gR rfl ?_;refine gO rfl rfl (fa25_1 rfl) rfl ?_;refine gO rfl rfl (ld23 rfl f0 rfl) rfl ?_;refine gO rfl rfl (ld62 rfl f11 rfl) rfl ?_;refine GoR.buildSl rfl rfl (ps := [(0, .agg [.int .i64 xk, .int .i64 xa, .int .i64 xb, .int .i64 xd, .int .i64 xp, .int .i64 xl, .int .i64 xh])]) (cs := [.int .i64 xk, .int .i64 xa, .int .i64 xb, .int .i64 xd, .int .i64 xp, .int .i64 xl, .int .i64 xh]) Tryz.underlying23 rfl sz62 zt62 rfl rfl rfl rfl fun h12 x12 f12 => ?_;have := e0.1;have := e1.1;have := f11.1;have := f0.1;replace f0 := f0.ext x12;replace e0 := e0.trans x12;replace e1 := e1.trans x12;have := f12.1
   have G' := G.ext e1
   have hx1 := e1.1
   refine GoR.append1F (lo := h2.next) (s := sl) rfl rfl rfl Tryz.underlying23 Tryz.underlying23 sz62 by62 zt62 rfl rfl rfl rfl f12 rfl rfl G' (by omega) rfl rfl fun s6 h59 y59 g59 => ?_
   have e9 : Ext h h59 := y59.low e0 (fun b q => by have := (grow_own G' q).1; omega)
   have f9 := f0.extF y59 (fun q => by have := (grow_own G' q).1; omega)
   have hy := y59.1
   obtain ⟨hk1, hk2⟩ := grow_scal g59
   have hst1 : Nat.beq s6.cells.length 1 = true := by rw [hk2]; rfl
   have hst2 : scalars s6.cells = true := by rw [hk2]; exact hk1
   have hst3 : splice [sp, sl] (0 + 1) s6.cells = some [sp, s6] := by rw [hk2]; rfl
   clear e0 e1 f0 f12 f11 y59
   have e0 := e9
   have f0 := f9
   clear e9 f9;refine gO rfl rfl (fa25_1 rfl) rfl ?_;refine GoR.store rfl rfl rfl rfl rfl rfl f0 rfl sz23 hst1 hst2 hst3 fun h60 u60 => ?_;replace f0 := u60.has f0;replace e0 := e0.upd u60 (by omega);apply gE;refine Go.inBlock noJ_ok ?_;refine gR rfl ?_;refine gO rfl rfl (aA rfl rfl) rfl ?_;refine gP ?_;apply gE
   have hu := u60.1
   refine again (m - 1) (i + 1, s6) _ _ (by omega) ⟨rfl, rfl, rfl, rfl, rfl, rfl, trivial⟩ ⟨by dsimp only; omega, e0, by omega, f0, ?_⟩
   dsimp only
   rw [hap, List.length_append, List.flatMap_append];exact (g59.low (by omega)).keep (by omega) fun b hb1 hb2 hb3 => u60.2.2 b (by have := (grow_own g59 hb3).1; omega)
  ·obtain ⟨k1, k2⟩ := skip hk
   rw [if_neg hk, List.append_nil] at hap;rw [k2] at hbit;subst k1;apply gS;refine gR rfl ?_;refine gO rfl rfl (kLT rfl rfl) rfl ?_;apply gE;apply gS;refine gC (b := true) rfl ?_;refine gD ?_;apply gS;refine Go.block noJ_ok ?_;apply gS;refine gR rfl ?_;refine gP ?_;refine gO rfl rfl (aOp_indexAddr Tryz.underlying23 sz62 rfl q1 rfl (Nat.ble_eq_true_of_le hi)) rfl ?_;refine gO rfl rfl (aOp_loadE ag62 sz62 rfl (q2.ext e1)) rfl ?_;refine GoR.alloc rfl rfl rfl zt62 rfl rfl fun h11 x11 f11 => ?_;have := e0.1;have := e1.1;have := f0.1;replace f0 := f0.ext x11;replace e0 := e0.trans x11;replace e1 := e1.trans x11;have := f11.1;refine gP ?_;refine GoR.store rfl rfl rfl rfl rfl rfl f11 rfl sz62 rfl rfl rfl fun h12 u12 => ?_;replace f11 := u12.has f11;replace f0 := f0.upd u12 (by omega);replace e0 := e0.upd u12 (by omega);replace e1 := e1.upd u12 (by omega);apply gE;apply gS;refine gR rfl ?_;refine gO rfl rfl (fa62_0 rfl) rfl ?_;refine gO rfl rfl (ld3 rfl f11 rfl) rfl ?_;refine gO rfl rfl (kXF rfl rfl) rfl ?_;iterate 3 refine gP ?_
   refine gO rfl rfl (aOp_shr rfl rfl (by omega) rfl) rfl ?_;refine gO rfl rfl (aOp_and1 rfl rfl rfl) rfl ?_;refine gO rfl rfl (aOp_eql rfl rfl hbit) rfl ?_;refine gP ?_;apply gE;refine gC (b := false) rfl ?_;refine gD ?_;refine Go.inBlock noJ_ok ?_;refine gR rfl ?_;refine gO rfl rfl (aA rfl rfl) rfl ?_;refine gP ?_;apply gE
   have hx1 := e1.1
   exact again (m - 1) (i + 1, sl) _ _ (by omega) ⟨rfl, rfl, rfl, rfl, rfl, rfl, trivial⟩ ⟨by dsimp only; omega, e0, by omega, f0, by dsimp only; rw [hap]; exact G.ext e1⟩
 ·have hin : i = R.es.length := by omega
  subst hin;rw [List.take_length] at G
  have O2 := less_ok O (andNot (looksV R.es) s)
  have hl := keep_less O s
  have hlen := keepV_len (s := s) (L := R.es) (k := 0)
  obtain ⟨L, hL⟩ : ∃ L, keepV s 0 R.es = L := ⟨_, rfl⟩
  rw [hL] at G hl hlen
  rw [← hl] at O2
  have hslS : SliceOf h10 7 sl (L.map EV.cells) := by
   have k : Grow h10 62 7 h2.next sl (L.map EV.cells).length ((L.map EV.cells).flatten) := by
    rw [List.length_map, ← List.flatMap_def];exact G
   exact k.sliceOf (slice_flatten fun l hl => by obtain ⟨_, _, rfl⟩ := List.mem_map.1 hl; rfl)
  have hW := fun {h'} (e : Ext h h') (e' : Ext h10 h') => Weak_ok (R := ⟨R.ps, L⟩) (⟨A.ps.ext e, hslS.ext e'⟩ : RoadAt h' ⟨R.ps, L⟩ sp sl) (by have := O.np; show R.ps.length ≤ 40; omega) (by show L.length ≤ 40; omega)
  have e1 : Ext h10 h10 := Ext.refl _
  have hcl : R.clashes s = !(⟨R.ps, L⟩ : RoadV).possible := by unfold RoadV.clashes; rw [← hl]
  cases hc : (⟨R.ps, L⟩ : RoadV).possible with
  | true =>
   rw [show (⟨R.ps, L⟩ : RoadV).weakR = ((⟨R.ps, L⟩ : RoadV).weak, 0) from by unfold RoadV.weakR; rw [if_pos O2, if_pos hc]] at hW;rw [hcl, hc];apply gS;refine gR rfl ?_;refine gO rfl rfl (kLF rfl rfl) rfl ?_;apply gE;apply gS;refine gC (b := false) rfl ?_;refine gD ?_;apply gS;refine gR rfl ?_;refine gO rfl rfl (ld25 rfl f0 rfl) rfl ?_;refine GoR.call rfl rfl (aCF aFunc28 rfl) (hW e0 e1) ?_ np;rintro v11 h11 ⟨q, x11⟩;cases q;refine ⟨_, rfl, ?_⟩;replace f0 := f0.ext x11;replace e0 := e0.trans x11;replace e1 := e1.trans x11;iterate 5 refine gP ?_
   apply gE;apply gS;refine gR rfl ?_;refine gP ?_;refine gO rfl rfl (kEF rfl rfl) rfl ?_;refine gP ?_;apply gE;exact gW Tryz.func46 rfl rfl ⟨rfl, e0⟩
  | false =>
   rw [show (⟨R.ps, L⟩ : RoadV).weakR = (0, 10) from by unfold RoadV.weakR; rw [if_pos O2, if_neg (by rw [hc]; decide)]] at hW;rw [hcl, hc];apply gS;refine gR rfl ?_;refine gO rfl rfl (kLF rfl rfl) rfl ?_;apply gE;apply gS;refine gC (b := false) rfl ?_;refine gD ?_;apply gS;refine gR rfl ?_;refine gO rfl rfl (ld25 rfl f0 rfl) rfl ?_;refine GoR.call rfl rfl (aCF aFunc28 rfl) (hW e0 e1) ?_ np;rintro v11 h11 ⟨q, x11⟩;cases q;refine ⟨_, rfl, ?_⟩;replace e0 := e0.trans x11;iterate 5 refine gP ?_
   apply gE;apply gS;refine gR rfl ?_;refine gP ?_;refine gO rfl rfl (kET rfl rfl) rfl ?_;refine gP ?_;apply gE;exact gW Tryz.func46 rfl rfl ⟨rfl, e0⟩
end Go.Proofs.YtkcimfopboelaaaGreat

namespace Go.Proofs.YtkcimfopboelaaaGreat
open Go Go.AbsE
set_option linter.unusedSimpArgs false
set_option maxRecDepth 100000
set_option maxHeartbeats 0
set_option linter.unusedVariables false
theorem popc_half : ∀ s, s < 1024 → popc s = s % 2 + popc (s / 2) := by decide +kernel
theorem size47_ok (s : Nat) (hs : s < 1024) {h : AH} : Runs Tryz.prog 47 [.int .i64 (s : Nat)] h (fun en h' => en = .ret (.int .i64 (popc s : Nat)) ∧ Ext h h') := by
 have e0 : Ext h h := Ext.refl _
 refine Runs.intro aFunc47 rfl rfl rfl rfl fun rest => ?_;apply gS;refine gR rfl ?_;refine gP ?_;apply gE;apply gS;refine gR rfl ?_;refine gP ?_;apply gE;apply gS;refine Go.block noJ_ok ?_;refine Go.loopKeep (fun a : Nat × Nat => [(0, .int .i64 (a.1 : Nat)), (3, .int .i64 (a.2 : Nat))]) (fun m a h' => a.1 ≤ m ∧ a.1 < 1024 ∧ a.2 + popc a.1 = popc s ∧ Ext h h') (n := s) (s, 0) ⟨rfl, rfl, trivial⟩ ⟨Nat.le_refl _, hs, by simp, e0⟩ ?_;clear e0;rintro m ⟨z, n⟩ h2' ⟨hm, hz, hn, e0⟩ again
 dsimp only at hm hz hn ⊢
 have hp5 := popc_le s
 have hph := popc_half z hz
 by_cases hz0 : 0 < z
 ·have hr : ((z : Nat) : Int).tmod 2 = ((z % 2 : Nat) : Int) := rfl
  have hq : ((z : Nat) : Int).tdiv 2 = ((z / 2 : Nat) : Int) := rfl
  have hsum : ((n : Nat) : Int) + ((z % 2 : Nat) : Int) = ((n + z % 2 : Nat) : Int) := by push_cast; rfl
  have again2 := again (z / 2) (z / 2, n + z % 2)
  dsimp only at again2
  rw [← hsum] at again2
  obtain ⟨zr, hzr⟩ : ∃ zr, ((z % 2 : Nat) : Int) = zr := ⟨_, rfl⟩
  obtain ⟨zq, hzq⟩ : ∃ zq, ((z / 2 : Nat) : Int) = zq := ⟨_, rfl⟩
  rw [hzr] at hr again2;rw [hzq] at hq again2
  have hzr2 : 0 ≤ zr ∧ zr ≤ 1 := by omega
  have hzq2 : 0 ≤ zq ∧ zq ≤ 512 := by omega
  iterate 2 apply gS
  refine gR rfl ?_;refine gP ?_;refine gO rfl rfl (kGT rfl rfl) rfl ?_;apply gE;refine gC (b := true) rfl ?_;refine gD ?_;refine Go.block noJ_ok ?_;refine gR rfl ?_;iterate 2 refine gP ?_
  refine gO rfl rfl (aOp_rem rfl rfl (by decide) hr) rfl ?_;refine gO rfl rfl (aA rfl rfl) rfl ?_;refine gP ?_;refine gO rfl rfl (aOp_quo rfl rfl (by decide) hq (by omega)) rfl ?_;iterate 2 refine gP ?_
  apply gE;refine Go.inBlock noJ_ok ?_;exact again2 _ _ (by omega) ⟨rfl, rfl, trivial⟩ ⟨Nat.le_refl _, by omega, by omega, e0⟩
 ·have hz00 : z = 0 := by omega
  subst hz00
  have hp0 : popc 0 = 0 := by decide
  have hns : n = popc s := by omega
  subst hns;iterate 2 apply gS
  refine gR rfl ?_;refine gP ?_;refine gO rfl rfl (kGF rfl rfl) rfl ?_;apply gE;refine gC (b := false) rfl ?_;refine gD ?_;apply gS;refine gR rfl ?_;iterate 2 refine gP ?_
  apply gE;exact gW Tryz.func47 rfl rfl ⟨rfl, e0⟩
theorem mem_subs {of s : Nat} : s ∈ subs of ↔ s < of + 1 ∧ andNot s of = 0 ∧ popc s < popc of + 1 := by
 unfold subs subA subB goodS
 simp only [List.mem_flatMap, List.mem_range, List.mem_filter, Bool.and_eq_true, decide_eq_true_eq]
 constructor
 ·rintro ⟨j, hj, h1, h2, h3⟩;exact ⟨h1, h2, by omega⟩
 ·rintro ⟨h1, h2, h3⟩;exact ⟨popc s, h3, h1, h2, rfl⟩
theorem subs_pair (of : Nat) : (subs of).Pairwise fun a b => popc a < popc b ∨ (popc a = popc b ∧ a < b) := by
 unfold subs subA
 rw [List.pairwise_flatMap];refine ⟨fun j _ => ?_, List.pairwise_lt_range.imp fun {i j} hij x hx y hy => ?_⟩
 ·unfold subB
  refine (List.Pairwise.filter _ (List.pairwise_lt_range (n := of + 1))).imp_of_mem fun {a b} ha hb hab => ?_
  have h1 := (List.mem_filter.1 ha).2
  have h2 := (List.mem_filter.1 hb).2
  unfold goodS at h1 h2
  simp only [Bool.and_eq_true, decide_eq_true_eq] at h1 h2
  exact .inr ⟨by omega, hab⟩
 ·have h1 := (List.mem_filter.1 hx).2
  have h2 := (List.mem_filter.1 hy).2
  unfold goodS at h1 h2
  simp only [Bool.and_eq_true, decide_eq_true_eq] at h1 h2
  exact .inl (by omega)
theorem subs_first {of q : Nat} {p : Nat → Bool} (h : (subs of).find? p = some q) : q ∈ subs of ∧ p q = true ∧ ∀ s, s ∈ subs of → p s = true → popc q < popc s ∨ (popc q = popc s ∧ q ≤ s) := by
 refine ⟨List.mem_of_find?_eq_some h, List.find?_some h, fun s hs ps => ?_⟩
 obtain ⟨_, aa, bb, hl, has⟩ := List.find?_eq_some_iff_append.1 h
 have hP := subs_pair of
 rw [hl] at hs hP
 rcases List.mem_append.1 hs with q1 | q1
 ·have := has s q1
  rw [ps] at this;cases this
 ·rcases List.mem_cons.1 q1 with q2 | q2
  ·subst q2;exact .inr ⟨rfl, Nat.le_refl _⟩
  ·have := List.rel_of_pairwise_cons (List.pairwise_append.1 hP).2.1 q2
   omega
theorem small_bit {s i : Nat} (hs : s < 1024) (hi : ¬ i < 10) : s.testBit i = false := by
 have : 2 ^ 10 ≤ 2 ^ i := Nat.pow_le_pow_right (by decide) (by omega)
 exact Nat.testBit_lt_two_pow (by omega)
theorem sub_bits {s of : Nat} (hs : s < 1024) (h : ∀ i, i < 10 → s.testBit i = true → of.testBit i = true) : s ≤ of ∧ popc s ≤ popc of ∧ andNot s of = 0 := by
 have hall : ∀ i, s.testBit i = true → of.testBit i = true := fun i hi => by
  by_cases q : i < 10
  ·exact h i q hi
  ·rw [small_bit hs q] at hi;cases hi
 refine ⟨?_, ?_, ?_⟩
 ·have : s &&& of = s := Nat.eq_of_testBit_eq fun i => by
   rw [Nat.testBit_and]
   cases q : s.testBit i with
   | false => rfl
   | true => rw [hall i q]; rfl
  rw [← this]
  exact Nat.and_le_right
 ·unfold popc
  rw [← List.countP_eq_length_filter, ← List.countP_eq_length_filter]
  exact List.countP_mono_left fun i _ hi => hall i hi
 ·refine Nat.eq_of_testBit_eq fun i => ?_;rw [Nat.zero_testBit]
  by_cases q : i < 64
  ·rw [andNot_bit (by omega) q]
   cases q2 : s.testBit i with
   | false => rfl
   | true => rw [hall i q2]; rfl
  ·have h1 := andNot_le s of (by omega)
   exact small_bit (Nat.lt_of_le_of_lt h1 hs) (by omega)
theorem subs_bits {s of : Nat} (hs : s < 1024) (h : ∀ i, i < 10 → s.testBit i = true → of.testBit i = true) : s ∈ subs of := by
 obtain ⟨h1, h2, h3⟩ := sub_bits hs h
 exact mem_subs.2 ⟨by omega, h3, by omega⟩
theorem less_zero (R : RoadV) : R.less 0 = R := by
 have : ∀ (L : List EV) k, wo 0 k L = L := fun L => by
  induction L with
  | nil => intro k; rfl
  | cons x L ih => intro k; unfold wo; rw [Nat.zero_testBit, ih]; rfl
 unfold RoadV.less
 rw [without_is, this]
theorem clashes_all {R : RoadV} (O : R.Ok) : R.clashes (looksV R.es) = !R.possible := by
 have hlt := looks_lt O
 unfold RoadV.clashes
 rw [(sub_bits hlt fun i _ h => h).2.2, less_zero]
theorem nolook_fate {part : Int} : ∀ {l : List (EV × Int)} {x : Pc} {hs : List Int}, (∀ z, z ∈ l → z.1.kind ≠ 2) → ∃ f, fateGo part l x hs = some f
 | [], x, hs, h => ⟨_, rfl⟩
 | z :: l, x, hs, h => by
  unfold fateGo
  rw [if_pos (show z.1.right part (z.1.after x z.2) = true from decide_eq_true fun q => absurd q (h z (.head _)))];exact nolook_fate fun y hy => h y (.tail _ hy)
theorem nolook_possible {R : RoadV} (O : R.Ok) (h : ∀ e, e ∈ R.es → e.kind ≠ 2) : R.possible = true := by
 have hm : R.es.map EV.lo ∈ (haulsV R.es).filter R.can := by
  refine List.mem_filter.2 ⟨mem_hauls.2 ⟨by rw [List.length_map], fun i e k he hk => ?_⟩, can_iff.2 fun i p hp => ?_⟩
  ·rw [List.getElem?_map, he] at hk;cases hk
   have := O.e e (List.mem_of_getElem? he)
   unfold EV.lo EV.hi
   rcases this with w | w | w
   ·rw [if_pos w.1, if_pos w.1]; omega
   ·rw [if_neg (by omega), if_neg (by omega)]; omega
   ·rw [if_neg (by omega), if_neg (by omega)]; omega
  ·obtain ⟨o1, o2, o3, o4⟩ := O.p p (List.mem_of_getElem? hp)
   obtain ⟨f, hf⟩ := nolook_fate (part := (i : Int)) (l := R.es.zip (R.es.map EV.lo)) (x := ⟨p.hl, p.sl, p.rl, p.full⟩) (hs := []) fun z hz => h z.1 (List.of_mem_zip hz).1
   exact ⟨f, mem_fates.2 ⟨⟨p.hl, p.sl, p.rl, p.full⟩, mem_pcs.2 ⟨by dsimp only; omega, by dsimp only; omega, by dsimp only; omega, rfl⟩, hf⟩⟩
 unfold RoadV.possible RoadV.hs
 cases q : (haulsV R.es).filter R.can with
 | nil => rw [q] at hm; cases hm
 | cons a b => rfl
theorem keep_none : ∀ {L : List EV} {k : Nat} {e : EV}, e ∈ keepV 0 k L → e.kind ≠ 2
 | [], k, e, h => by simp [keepV] at h
 | y :: L, k, e, h => by
  unfold keepV at h
  by_cases q : y.kind ≠ 2 ∨ (0 : Nat).testBit k = true
  ·rw [if_pos q] at h
   rcases List.mem_cons.1 h with rfl | h
   ·exact q.resolve_right (by rw [Nat.zero_testBit]; decide)
   ·exact keep_none h
  ·rw [if_neg q] at h;exact keep_none h
theorem clashes_zero {R : RoadV} (O : R.Ok) : R.clashes 0 = false := by
 unfold RoadV.clashes
 rw [← keep_less O 0, nolook_possible (R := ⟨R.ps, keepV 0 0 R.es⟩) (by rw [keep_less O 0]; exact less_ok O _) fun e he => keep_none he]
 rfl
theorem popc_less : ∀ s, s < 1024 → ∀ i, i < 10 → s.testBit i = true → popc (andNot s (2 ^ i)) + 1 = popc s := by decide +kernel
theorem clash_ex {R : RoadV} (O : R.Ok) (hp : R.possible = false) : ∃ q : Nat, R.clashR = ((q : Int), 0) ∧ 1 ≤ q ∧ q < 1024 ∧ (∀ i, i < 10 → q.testBit i = true → (looksV R.es).testBit i = true) ∧ R.clashes q = true ∧ ∀ s, s < 1024 → (∀ i, i < 10 → s.testBit i = true → (looksV R.es).testBit i = true) → R.clashes s = true → popc q < popc s ∨ (popc q = popc s ∧ q ≤ s) := by
 have hlt := looks_lt O
 have hc : R.clashI = ((subs (looksV R.es)).find? fun s => R.clashes s).map fun s => ((s : Nat) : Int) := by
  unfold RoadV.clashI
  rw [List.find?_map]
  rfl
 have hin : looksV R.es ∈ subs (looksV R.es) := subs_bits hlt fun i _ h => h
 cases q : (subs (looksV R.es)).find? fun s => R.clashes s with
 | none =>
  rw [List.find?_eq_none] at q
  have := q _ hin
  rw [clashes_all O, hp] at this;exact absurd rfl this
 | some c =>
  obtain ⟨m1, m2, m3⟩ := subs_first q
  obtain ⟨s1, s2, s3⟩ := mem_subs.1 m1
  refine ⟨c, ?_, ?_, by omega, fun i hi hb => ?_, m2, fun s hs hb => m3 s (subs_bits hs hb)⟩
  ·unfold RoadV.clashR
   rw [if_pos O, if_neg (by rw [hp]; decide), hc, q]
   rfl
  ·rcases Nat.eq_zero_or_pos c with z | z
   ·rw [z, clashes_zero O] at m2;cases m2
   ·exact z
  ·have := andNot_bit (a := c) (b := looksV R.es) (i := i) (by omega) (by omega)
   rw [s2, Nat.zero_testBit, hb, Bool.true_and] at this
   cases w : (looksV R.es).testBit i with
   | true => rfl
   | false => rw [w] at this; cases this
theorem andNot_sub {a b i : Nat} (ha : a < 1024) (hi : i < 10) (h : (andNot a b).testBit i = true) : a.testBit i = true := by
 rw [andNot_bit (by omega) (by omega)] at h
 cases w : a.testBit i with
 | true => rfl
 | false => rw [w] at h; cases h
end Go.Proofs.YtkcimfopboelaaaGreat

namespace Go.Proofs.YtkcimfopboelaaaGreat
open Go Go.AbsE
set_option linter.unusedSimpArgs false
set_option maxRecDepth 100000
set_option maxHeartbeats 0
set_option linter.unusedVariables false
theorem law11_bad {R : RoadV} {sp se : AVal} {h : AH} (A : RoadAt h R sp se) (hb : R.ps.length < 9223372036854775808 ∧ R.es.length < 9223372036854775808) {w1 : Int} (O : ¬ R.Ok) : Runs Tryz.prog 11 [.agg [sp, se], .int .u8 w1] h (fun en h' => en = .ret (.bool true) ∧ Ext h h') := by
 have hL := fun {h'} (e : Ext h h') => long13_ok (A.ext e) hb
 by_cases hs : R.ps.length ≤ 40 ∧ R.es.length ≤ 40
 ·rw [decide_eq_false (by simpa using hs)] at hL
  have hR := fun {h'} (e : Ext h h') => Road36_ok (A.ext e) hs.1 hs.2
  rw [decide_eq_false O] at hR
  have e0 : Ext h h := Ext.refl _
  refine Runs.intro aFunc11 rfl rfl rfl rfl fun rest => ?_;apply gS;refine gR rfl ?_;refine GoR.box rfl rfl rfl rfl rfl rfl fun h0 x0 f0 => ?_;replace e0 := e0.trans x0;refine gP ?_;apply gE;iterate 2 apply gS
  refine gR rfl ?_;refine gO rfl rfl (ld25 rfl f0 rfl) rfl ?_;refine GoR.call rfl rfl (aCF aFunc13 rfl) (hL e0) ?_ np;rintro v1 h1 ⟨q, x1⟩;cases q;refine ⟨_, rfl, ?_⟩;replace f0 := f0.ext x1;replace e0 := e0.trans x1;refine gP ?_;refine gO rfl rfl (ld25 rfl f0 rfl) rfl ?_;refine GoR.call rfl rfl (aCF aFunc36 rfl) (hR e0) ?_ np;rintro v2 h2 ⟨q, x2⟩;cases q;refine ⟨_, rfl, ?_⟩;replace e0 := e0.trans x2;iterate 2 refine gP ?_
  apply gE;refine gC (b := true) rfl ?_;apply gS;refine gR rfl ?_;refine GoR.call rfl rfl (aCF aFunc14 rfl) (alive_ok) ?_ np;rintro v3 h3 ⟨q, x3⟩;cases q;refine ⟨_, rfl, ?_⟩;replace e0 := e0.trans x3;refine gP ?_;apply gE;exact gW Tryz.func11 rfl rfl ⟨rfl, e0⟩
 ·rw [decide_eq_true (by simpa using hs)] at hL
  have e0 : Ext h h := Ext.refl _
  refine Runs.intro aFunc11 rfl rfl rfl rfl fun rest => ?_;apply gS;refine gR rfl ?_;refine GoR.box rfl rfl rfl rfl rfl rfl fun h0 x0 f0 => ?_;replace e0 := e0.trans x0;refine gP ?_;apply gE;iterate 2 apply gS
  refine gR rfl ?_;refine gO rfl rfl (ld25 rfl f0 rfl) rfl ?_;refine GoR.call rfl rfl (aCF aFunc13 rfl) (hL e0) ?_ np;rintro v1 h1 ⟨q, x1⟩;cases q;refine ⟨_, rfl, ?_⟩;replace e0 := e0.trans x1;refine gP ?_;iterate 3 refine GoR.skip rfl rfl rfl ?_
  refine gP ?_;apply gE;refine gC (b := true) rfl ?_;apply gS;refine gR rfl ?_;refine GoR.call rfl rfl (aCF aFunc14 rfl) (alive_ok) ?_ np;rintro v2 h2 ⟨q, x2⟩;cases q;refine ⟨_, rfl, ?_⟩;replace e0 := e0.trans x2;refine gP ?_;apply gE;exact gW Tryz.func11 rfl rfl ⟨rfl, e0⟩
def lookAt (L : List EV) (i : Nat) : Bool := match L[i]? with | some e => lookB e | none => false
theorem looksV_is (L : List EV) : looksV L = bitsV L.length (lookAt L) := rfl
theorem law11_ok {R : RoadV} {sp se : AVal} {h : AH} (A : RoadAt h R sp se) (O : R.Ok) {w : Nat} (hw : w < 256) : Runs Tryz.prog 11 [.agg [sp, se], .int .u8 w] h (fun en h' => en = .ret (.bool true) ∧ Ext h h') := by
 have hnp := O.np
 have hne := O.ne
 have hs : R.ps.length ≤ 40 ∧ R.es.length ≤ 40 := by omega
 have hL := fun {h'} (e : Ext h h') => long13_ok (A.ext e) (by omega)
 rw [decide_eq_false (by simpa using hs)] at hL
 have hR := fun {h'} (e : Ext h h') => Road36_ok (A.ext e) hs.1 hs.2
 rw [decide_eq_true O] at hR
 have hl2 := A.es.len
 rw [List.length_map] at hl2
 have hCl := fun {h'} (e : Ext h h') => Clash_ok (A.ext e) hs.1 hs.2
 obtain ⟨cq, cc, hcc⟩ : ∃ a b, R.clashR = (a, b) := ⟨_, _, rfl⟩
 rw [hcc] at hCl
 dsimp only at hCl
 have e0 : Ext h h := Ext.refl _
 refine Runs.intro aFunc11 rfl rfl rfl rfl fun rest => ?_;apply gS;refine gR rfl ?_;refine GoR.box rfl rfl rfl rfl rfl rfl fun h0 x0 f0 => ?_;have := e0.1;replace e0 := e0.trans x0;have := f0.1;refine gP ?_;apply gE;iterate 2 apply gS
 refine gR rfl ?_;refine gO rfl rfl (ld25 rfl f0 rfl) rfl ?_;refine GoR.call rfl rfl (aCF aFunc13 rfl) (hL e0) ?_ np;rintro v1 h1 ⟨q, x1⟩;cases q;refine ⟨_, rfl, ?_⟩;replace f0 := f0.ext x1;replace e0 := e0.trans x1;refine gP ?_;refine gO rfl rfl (ld25 rfl f0 rfl) rfl ?_;refine GoR.call rfl rfl (aCF aFunc36 rfl) (hR e0) ?_ np;rintro v2 h2 ⟨q, x2⟩;cases q;refine ⟨_, rfl, ?_⟩;replace f0 := f0.ext x2;replace e0 := e0.trans x2;iterate 2 refine gP ?_
 apply gE;refine gC (b := false) rfl ?_;refine gD ?_;apply gS;refine gR rfl ?_;refine gO rfl rfl (ld25 rfl f0 rfl) rfl ?_;refine GoR.call rfl rfl (aCF aFunc30 rfl) (hCl e0) ?_ np;rintro v3 h3 ⟨q, x3⟩;cases q;refine ⟨_, rfl, ?_⟩;replace f0 := f0.ext x3;replace e0 := e0.trans x3;iterate 5 refine gP ?_
 apply gE;apply gS;refine gR rfl ?_;refine gP ?_;apply gE;iterate 2 apply gS
 refine gR rfl ?_;refine gO rfl rfl (fa25_1 rfl) rfl ?_;refine gO rfl rfl (ld23 rfl f0 rfl) rfl ?_;refine gO rfl rfl (aOp_lenSlice Tryz.underlying23 rfl hl2) rfl ?_;refine gP ?_;apply gE;refine Go.block noJ_ok ?_
 obtain ⟨W, hW⟩ : ∃ W, looksV R.es = W := ⟨_, rfl⟩
 have hWlt := looks_lt O
 rw [hW] at hWlt
 refine Go.loopKeep (fun a : Nat × Nat => [(1, .int .u8 (w : Nat)), (2, .ptr h.next 0), (5, .int .i64 cq), (6, .int .i64 cc), (7, .int .i64 (a.2 : Nat)), (28, se), (29, .int .i64 R.es.length), (30, .int .i64 (a.1 : Nat))])
  (fun m a h' => m + a.1 = R.es.length ∧ a.2 = bitsV a.1 (lookAt R.es) ∧ Ext h h' ∧ Has h' h.next (.cells .plain [sp, se] 25)) (n := R.es.length) (0, 0) ⟨rfl, rfl, rfl, rfl, rfl, rfl, rfl, rfl, trivial⟩ ⟨rfl, rfl, e0, f0⟩ ?_
 clear e0 f0;rintro m ⟨i, acc⟩ h10 ⟨hm, hacc, e0, f0⟩ again
 dsimp only at hm hacc ⊢
 by_cases hi : i < R.es.length
 ·obtain ⟨x, hx⟩ : ∃ x, R.es[i]? = some x := ⟨R.es[i], by simp [hi]⟩
  obtain ⟨bq, off, q1, q2⟩ := (A.es.ext e0).at (i := i) (l := EV.cells x) (by rw [List.getElem?_map, hx]; rfl)
  rw [List.length_map] at q1
  have hla : lookAt R.es i = lookB x := by unfold lookAt; rw [hx]
  have hsucc : bitsV (i + 1) (lookAt R.es) = if lookB x = true then acc ||| 2 ^ i else acc := by rw [bitsV_succ, hla, hacc]
  have hacl : acc < 2 ^ i := by rw [hacc]; exact bitsV_lt _ _
  have h2i : 2 ^ i ≤ 2 ^ 10 := Nat.pow_le_pow_right (by decide) (by omega)
  obtain ⟨pw, hpw⟩ : ∃ pw, 2 ^ i = pw := ⟨_, rfl⟩
  have hshl : (1 : Int) * 2 ^ i = (pw : Nat) := by rw [Int.one_mul, ← hpw]; push_cast; rfl
  rw [hpw] at hacl h2i hsucc
  obtain ⟨xk, xa, xb, xd, xp, xl, xh⟩ := x
  unfold EV.cells at q2
  dsimp only at q2
  have e1 : Ext h10 h10 := Ext.refl _
  by_cases hk : xk = 2
  ·subst hk;rw [if_pos (show lookB ⟨2, xa, xb, xd, xp, xl, xh⟩ = true from rfl)] at hsucc;apply gS;refine gR rfl ?_;refine gO rfl rfl (kLT rfl rfl) rfl ?_;apply gE;apply gS;refine gC (b := true) rfl ?_;refine gD ?_;apply gS;refine Go.block noJ_ok ?_;apply gS;refine gR rfl ?_;refine gP ?_;refine gO rfl rfl (aOp_indexAddr Tryz.underlying23 sz62 rfl q1 rfl (Nat.ble_eq_true_of_le hi)) rfl ?_;refine gO rfl rfl (aOp_loadE ag62 sz62 rfl (q2.ext e1)) rfl ?_;refine GoR.alloc rfl rfl rfl zt62 rfl rfl fun h11 x11 f11 => ?_;have := e0.1;have := e1.1;have := f0.1;replace f0 := f0.ext x11;replace e0 := e0.trans x11;have := f11.1;refine gP ?_;refine GoR.store rfl rfl rfl rfl rfl rfl f11 rfl sz62 rfl rfl rfl fun h12 u12 => ?_;replace f11 := u12.has f11;replace f0 := f0.upd u12 (by omega);replace e0 := e0.upd u12 (by omega);apply gE;apply gS;refine gR rfl ?_;refine gO rfl rfl (fa62_0 rfl) rfl ?_;refine gO rfl rfl (ld3 rfl f11 rfl) rfl ?_;refine gO rfl rfl (kET rfl rfl) rfl ?_;apply gE;refine gC (b := true) rfl ?_;refine gR rfl ?_;iterate 2 refine gP ?_
   refine gO rfl rfl (aOp_shl rfl rfl (by omega) hshl (by omega)) rfl ?_;refine gO rfl rfl (aOp_orNat (r := acc ||| pw) rfl rfl (by omega) (by omega) rfl) rfl ?_;refine gP ?_;apply gE;refine Go.inBlock noJ_ok ?_;refine gR rfl ?_;refine gO rfl rfl (aA rfl rfl) rfl ?_;refine gP ?_;apply gE;exact again (m - 1) (i + 1, acc ||| pw) _ _ (by omega) ⟨rfl, rfl, rfl, rfl, rfl, rfl, rfl, rfl, trivial⟩ ⟨by dsimp only; omega, hsucc.symm, e0, f0⟩
  ·rw [if_neg (show ¬ lookB ⟨xk, xa, xb, xd, xp, xl, xh⟩ = true from fun q => hk (of_decide_eq_true q))] at hsucc;apply gS;refine gR rfl ?_;refine gO rfl rfl (kLT rfl rfl) rfl ?_;apply gE;apply gS;refine gC (b := true) rfl ?_;refine gD ?_;apply gS;refine Go.block noJ_ok ?_;apply gS;refine gR rfl ?_;refine gP ?_;refine gO rfl rfl (aOp_indexAddr Tryz.underlying23 sz62 rfl q1 rfl (Nat.ble_eq_true_of_le hi)) rfl ?_;refine gO rfl rfl (aOp_loadE ag62 sz62 rfl (q2.ext e1)) rfl ?_;refine GoR.alloc rfl rfl rfl zt62 rfl rfl fun h11 x11 f11 => ?_;have := e0.1;have := e1.1;have := f0.1;replace f0 := f0.ext x11;replace e0 := e0.trans x11;have := f11.1;refine gP ?_;refine GoR.store rfl rfl rfl rfl rfl rfl f11 rfl sz62 rfl rfl rfl fun h12 u12 => ?_;replace f11 := u12.has f11;replace f0 := f0.upd u12 (by omega);replace e0 := e0.upd u12 (by omega);apply gE;apply gS;refine gR rfl ?_;refine gO rfl rfl (fa62_0 rfl) rfl ?_;refine gO rfl rfl (ld3 rfl f11 rfl) rfl ?_;refine gO rfl rfl (aOp_eql rfl rfl (r := false) (decide_eq_false hk)) rfl ?_;apply gE;refine gC (b := false) rfl ?_;refine gD ?_;refine Go.inBlock noJ_ok ?_;refine gR rfl ?_;refine gO rfl rfl (aA rfl rfl) rfl ?_;refine gP ?_;apply gE;exact again (m - 1) (i + 1, acc) _ _ (by omega) ⟨rfl, rfl, rfl, rfl, rfl, rfl, rfl, rfl, trivial⟩ ⟨by dsimp only; omega, hsucc.symm, e0, f0⟩
 ·have hin : i = R.es.length := by omega
  subst hin
  rw [← looksV_is, hW] at hacc
  subst hacc;clear again
  have hcW := fun {h' : AH} (e : Ext h h') f => clash46_ok O (s := acc) (h := h') (bh := h.next) (A.ext e) f
  have hca := clashes_all O
  rw [hW] at hca;rw [hca] at hcW
  cases hp : R.possible with
  | true =>
   have hcc2 : R.clashR = (0, 4) := by unfold RoadV.clashR; rw [if_pos O, if_pos hp]
   rw [hcc] at hcc2
   obtain ⟨rfl, rfl⟩ := Prod.mk.inj hcc2
   rw [hp] at hcW;apply gS;refine gR rfl ?_;refine gO rfl rfl (kLF rfl rfl) rfl ?_;apply gE;apply gS;refine gC (b := false) rfl ?_;refine gD ?_;apply gS;refine gR rfl ?_;iterate 2 refine gP ?_
   apply gE;iterate 2 apply gS
   refine gR rfl ?_;refine gP ?_;refine gO rfl rfl (kEF rfl rfl) rfl ?_;iterate 2 refine gP ?_
   refine GoR.call rfl rfl (aOp_callVal rfl aFunc46 rfl) (hcW e0 f0) ?_ np;rintro v11 h11 ⟨q, x11⟩;cases q;refine ⟨_, rfl, ?_⟩;replace f0 := f0.ext x11;replace e0 := e0.trans x11;refine gO rfl rfl (aOp_neqBool (r := false) rfl rfl Tryz.underlying4 rfl) rfl ?_;iterate 2 refine gP ?_
   refine gO rfl rfl (kXT rfl rfl) rfl ?_;iterate 2 refine gP ?_
   refine gO rfl rfl (kXF rfl rfl) rfl ?_;iterate 2 refine gP ?_
   refine gO rfl rfl (kXF rfl rfl) rfl ?_;iterate 3 refine gP ?_
   apply gE;refine gC (b := false) rfl ?_;refine gD ?_;iterate 2 apply gS
   refine gR rfl ?_;refine gP ?_;refine gO rfl rfl (kXT rfl rfl) rfl ?_;apply gE;refine gC (b := true) rfl ?_;apply gS;refine gR rfl ?_;refine GoR.call rfl rfl (aCF aFunc14 rfl) (alive_ok) ?_ np;rintro v12 h12 ⟨q, x12⟩;cases q;refine ⟨_, rfl, ?_⟩;replace f0 := f0.ext x12;replace e0 := e0.trans x12;refine gP ?_;apply gE;exact gW Tryz.func11 rfl rfl ⟨rfl, e0⟩
  | false =>
   obtain ⟨q, z1, z2, z3, z4, z5, z6⟩ := clash_ex O hp
   rw [hcc] at z1
   obtain ⟨rfl, rfl⟩ := Prod.mk.inj z1
   rw [hp] at hcW;rw [hW] at z4 z6
   obtain ⟨own, hown⟩ : ∃ own, w &&& acc = own := ⟨_, rfl⟩
   have hownl : own ≤ acc := by rw [← hown]; exact Nat.and_le_right
   have hqa : andNot q acc = 0 := (sub_bits z3 z4).2.2
   have hcq := fun {h' : AH} (e : Ext h h') f => clash46_ok O (s := q) (h := h') (bh := h.next) (A.ext e) f
   rw [z5] at hcq
   have hco := fun {h' : AH} (e : Ext h h') f => clash46_ok O (s := own) (h := h') (bh := h.next) (A.ext e) f
   have hs2 := fun {h'} => size47_ok own (by omega) (h := h')
   have hs3 := fun {h'} => size47_ok q z3 (h := h')
   have hp5 := popc_le own
   have hp6 := popc_le q
   have hpart : ∀ i, i < 10 → q.testBit i = true → R.clashes (andNot q (2 ^ i)) = false := fun i hi k => by
    have h1 := popc_less q z3 i hi k
    have h3 := andNot_le q (2 ^ i) (by omega)
    cases z : R.clashes (andNot q (2 ^ i)) with
    | false => rfl
    | true =>
     have := z6 _ (by omega) (fun j hj b => z4 j hj (andNot_sub z3 hj b)) z
     omega
   apply gS;refine gR rfl ?_;refine gO rfl rfl (kLF rfl rfl) rfl ?_;apply gE;apply gS;refine gC (b := false) rfl ?_;refine gD ?_;apply gS;refine gR rfl ?_;iterate 2 refine gP ?_
   apply gE;iterate 2 apply gS
   refine gR rfl ?_;refine gP ?_;refine gO rfl rfl (kET rfl rfl) rfl ?_;iterate 2 refine gP ?_
   refine GoR.call rfl rfl (aOp_callVal rfl aFunc46 rfl) (hcW e0 f0) ?_ np;rintro v11 h11 ⟨q, x11⟩;cases q;refine ⟨_, rfl, ?_⟩;replace f0 := f0.ext x11;replace e0 := e0.trans x11;refine gO rfl rfl (aOp_neqBool (r := false) rfl rfl Tryz.underlying4 rfl) rfl ?_;iterate 2 refine gP ?_
   refine gO rfl rfl (kXF rfl rfl) rfl ?_;refine gP ?_;iterate 6 refine GoR.skip rfl rfl rfl ?_
   iterate 2 refine gP ?_
   apply gE;refine gC (b := false) rfl ?_;refine gD ?_;iterate 2 apply gS
   refine gR rfl ?_;refine gP ?_;refine gO rfl rfl (kXF rfl rfl) rfl ?_;apply gE;refine gC (b := false) rfl ?_;refine gD ?_;iterate 2 apply gS
   refine gR rfl ?_;refine gP ?_;refine gO rfl rfl (kLF rfl rfl) rfl ?_;iterate 3 refine gP ?_
   refine gO rfl rfl (aOp_andNot rfl rfl (by omega) hqa) rfl ?_;refine gO rfl rfl (kXF rfl rfl) rfl ?_;iterate 4 refine gP ?_
   refine GoR.call rfl rfl (aOp_callVal rfl aFunc46 rfl) (hcq e0 f0) ?_ np;rintro v12 h12 ⟨q, x12⟩;cases q;refine ⟨_, rfl, ?_⟩;replace f0 := f0.ext x12;replace e0 := e0.trans x12;iterate 2 refine gP ?_
   apply gE;refine gC (b := false) rfl ?_;refine gD ?_;iterate 2 apply gS
   refine gR rfl ?_;refine gO rfl rfl (fa25_1 rfl) rfl ?_;refine gO rfl rfl (ld23 rfl f0 rfl) rfl ?_;refine gO rfl rfl (aOp_lenSlice Tryz.underlying23 rfl hl2) rfl ?_;refine gP ?_;apply gE;refine Go.block noJ_ok ?_;refine Go.loopKeep (fun i : Nat => [(1, .int .u8 (w : Nat)), (2, .ptr h.next 0), (5, .int .i64 (q : Nat)), (7, .int .i64 (acc : Nat)), (10, .func (.func 46) [] [.ptr h.next 0]), (80, se), (81, .int .i64 R.es.length), (82, .int .i64 (i : Nat))]) (fun m i h' => m + i = R.es.length ∧ Ext h h' ∧ Has h' h.next (.cells .plain [sp, se] 25)) (n := R.es.length) 0 ⟨rfl, rfl, rfl, rfl, rfl, rfl, rfl, rfl, trivial⟩ ⟨rfl, e0, f0⟩ ?_;clear e0 f0;rintro m i h70 ⟨hm, e0, f0⟩ again
   by_cases hi : i < R.es.length
   ·have hbit : decide (((q : Nat) : Int).fdiv (2 ^ i) % 2 = 1) = q.testBit i := by
     rw [bit_at]
     cases q.testBit i <;> rfl
    have h2i : 2 ^ i ≤ 2 ^ 10 := Nat.pow_le_pow_right (by decide) (by omega)
    obtain ⟨pw, hpw⟩ : ∃ pw, 2 ^ i = pw := ⟨_, rfl⟩
    have hshl : (1 : Int) * 2 ^ i = (pw : Nat) := by rw [Int.one_mul, ← hpw]; push_cast; rfl
    cases hb : q.testBit i with
    | false =>
     rw [hb] at hbit;apply gS;refine gR rfl ?_;refine gO rfl rfl (kLT rfl rfl) rfl ?_;apply gE;apply gS;refine gC (b := true) rfl ?_;refine gD ?_;apply gS;refine Go.block noJ_ok ?_;apply gS;refine gR rfl ?_;iterate 2 refine gP ?_
     apply gE;apply gS;refine gR rfl ?_;iterate 2 refine gP ?_
     refine gO rfl rfl (aOp_shr rfl rfl (by omega) rfl) rfl ?_;refine gO rfl rfl (aOp_and1 rfl rfl rfl) rfl ?_;refine gO rfl rfl (aOp_eql rfl rfl hbit) rfl ?_;refine gP ?_;iterate 6 refine GoR.skip rfl rfl rfl ?_
     refine gP ?_;apply gE;refine gC (b := false) rfl ?_;refine gD ?_;refine Go.inBlock noJ_ok ?_;refine gR rfl ?_;refine gO rfl rfl (aA rfl rfl) rfl ?_;refine gP ?_;apply gE;exact again (m - 1) (i + 1) _ _ (by omega) ⟨rfl, rfl, rfl, rfl, rfl, rfl, rfl, rfl, trivial⟩ ⟨by omega, e0, f0⟩
    | true =>
     rw [hb] at hbit
     have hp7 := hpart i (by omega) hb
     have hc7 := fun {h' : AH} (e : Ext h h') f => clash46_ok O (s := andNot q pw) (h := h') (bh := h.next) (A.ext e) f
     rw [hpw] at hp7 h2i;rw [hp7] at hc7;apply gS;refine gR rfl ?_;refine gO rfl rfl (kLT rfl rfl) rfl ?_;apply gE;apply gS;refine gC (b := true) rfl ?_;refine gD ?_;apply gS;refine Go.block noJ_ok ?_;apply gS;refine gR rfl ?_;iterate 2 refine gP ?_
     apply gE;apply gS;refine gR rfl ?_;iterate 2 refine gP ?_
     refine gO rfl rfl (aOp_shr rfl rfl (by omega) rfl) rfl ?_;refine gO rfl rfl (aOp_and1 rfl rfl rfl) rfl ?_;refine gO rfl rfl (aOp_eql rfl rfl hbit) rfl ?_;iterate 4 refine gP ?_
     refine gO rfl rfl (aOp_shl rfl rfl (by omega) hshl (by omega)) rfl ?_;refine gO rfl rfl (aOp_andNot (r := andNot q pw) rfl rfl (by omega) rfl) rfl ?_;refine GoR.call rfl rfl (aOp_callVal rfl aFunc46 rfl) (hc7 e0 f0) ?_ np;rintro v71 h71 ⟨q, x71⟩;cases q;refine ⟨_, rfl, ?_⟩;replace f0 := f0.ext x71;replace e0 := e0.trans x71;refine gP ?_;apply gE;refine gC (b := false) rfl ?_;refine gD ?_;refine Go.inBlock noJ_ok ?_;refine gR rfl ?_;refine gO rfl rfl (aA rfl rfl) rfl ?_;refine gP ?_;apply gE;exact again (m - 1) (i + 1) _ _ (by omega) ⟨rfl, rfl, rfl, rfl, rfl, rfl, rfl, rfl, trivial⟩ ⟨by omega, e0, f0⟩
   ·clear again
    have hsub : ∀ i, i < 10 → own.testBit i = true → acc.testBit i = true := fun i _ hb => by
     rw [← hown, Nat.testBit_and] at hb
     cases z : acc.testBit i with
     | true => rfl
     | false => rw [z, Bool.and_false] at hb; cases hb
    cases hk : R.clashes own with
    | false =>
     rw [hk] at hco;apply gS;refine gR rfl ?_;refine gO rfl rfl (kLF rfl rfl) rfl ?_;apply gE;apply gS;refine gC (b := false) rfl ?_;refine gD ?_;apply gS;refine gR rfl ?_;refine gP ?_;refine gO rfl rfl (aOp_convU8 rfl Tryz.underlying5 Tryz.underlying3 (by omega)) rfl ?_;refine gP ?_;refine gO rfl rfl (aOp_andNat rfl rfl (by omega) (by omega) hown) rfl ?_;iterate 2 refine gP ?_
     apply gE;apply gS;refine gR rfl ?_;iterate 2 refine gP ?_
     refine GoR.call rfl rfl (aOp_callVal rfl aFunc46 rfl) (hco e0 f0) ?_ np;rintro v71 h71 ⟨q, x71⟩;cases q;refine ⟨_, rfl, ?_⟩;replace f0 := f0.ext x71;replace e0 := e0.trans x71;iterate 2 refine gP ?_
     iterate 7 refine GoR.skip rfl rfl rfl ?_
     iterate 2 refine gP ?_
     iterate 12 refine GoR.skip rfl rfl rfl ?_
     iterate 2 refine gP ?_
     refine GoR.call rfl rfl (aCF aFunc14 rfl) (alive_ok) ?_ np;rintro v72 h72 ⟨q, x72⟩;cases q;refine ⟨_, rfl, ?_⟩;replace f0 := f0.ext x72;replace e0 := e0.trans x72;iterate 2 refine gP ?_
     apply gE;exact gW Tryz.func11 rfl rfl ⟨rfl, e0⟩
    | true =>
     rw [hk] at hco
     have hl := z6 own (by omega) hsub hk
     by_cases hpo : popc q = popc own
     ·apply gS;refine gR rfl ?_;refine gO rfl rfl (kLF rfl rfl) rfl ?_;apply gE;apply gS;refine gC (b := false) rfl ?_;refine gD ?_;apply gS;refine gR rfl ?_;refine gP ?_;refine gO rfl rfl (aOp_convU8 rfl Tryz.underlying5 Tryz.underlying3 (by omega)) rfl ?_;refine gP ?_;refine gO rfl rfl (aOp_andNat rfl rfl (by omega) (by omega) hown) rfl ?_;iterate 2 refine gP ?_
      apply gE;apply gS;refine gR rfl ?_;iterate 2 refine gP ?_
      refine GoR.call rfl rfl (aOp_callVal rfl aFunc46 rfl) (hco e0 f0) ?_ np;rintro v71 h71 ⟨q, x71⟩;cases q;refine ⟨_, rfl, ?_⟩;replace e0 := e0.trans x71;iterate 4 refine gP ?_
      refine GoR.call rfl rfl (aOp_callVal rfl aFunc47 rfl) (hs2) ?_ np;rintro v72 h72 ⟨q, x72⟩;cases q;refine ⟨_, rfl, ?_⟩;replace e0 := e0.trans x72;iterate 2 refine gP ?_
      refine GoR.call rfl rfl (aOp_callVal rfl aFunc47 rfl) (hs3) ?_ np;rintro v73 h73 ⟨q, x73⟩;cases q;refine ⟨_, rfl, ?_⟩;replace e0 := e0.trans x73;refine gO rfl rfl (kGF rfl rfl) rfl ?_;iterate 4 refine gP ?_
      refine GoR.call rfl rfl (aOp_callVal rfl aFunc47 rfl) (hs2) ?_ np;rintro v74 h74 ⟨q, x74⟩;cases q;refine ⟨_, rfl, ?_⟩;replace e0 := e0.trans x74;iterate 2 refine gP ?_
      refine GoR.call rfl rfl (aOp_callVal rfl aFunc47 rfl) (hs3) ?_ np;rintro v75 h75 ⟨q, x75⟩;cases q;refine ⟨_, rfl, ?_⟩;replace e0 := e0.trans x75;refine gO rfl rfl (kET rfl rfl) rfl ?_;iterate 3 refine gP ?_
      refine gO rfl rfl (kNT rfl rfl) rfl ?_;iterate 3 refine gP ?_
      refine GoR.call rfl rfl (aCF aFunc14 rfl) (alive_ok) ?_ np;rintro v76 h76 ⟨q, x76⟩;cases q;refine ⟨_, rfl, ?_⟩;replace e0 := e0.trans x76;iterate 2 refine gP ?_
      apply gE;exact gW Tryz.func11 rfl rfl ⟨rfl, e0⟩
     ·apply gS;refine gR rfl ?_;refine gO rfl rfl (kLF rfl rfl) rfl ?_;apply gE;apply gS;refine gC (b := false) rfl ?_;refine gD ?_;apply gS;refine gR rfl ?_;refine gP ?_;refine gO rfl rfl (aOp_convU8 rfl Tryz.underlying5 Tryz.underlying3 (by omega)) rfl ?_;refine gP ?_;refine gO rfl rfl (aOp_andNat rfl rfl (by omega) (by omega) hown) rfl ?_;iterate 2 refine gP ?_
      apply gE;apply gS;refine gR rfl ?_;iterate 2 refine gP ?_
      refine GoR.call rfl rfl (aOp_callVal rfl aFunc46 rfl) (hco e0 f0) ?_ np;rintro v71 h71 ⟨q, x71⟩;cases q;refine ⟨_, rfl, ?_⟩;replace e0 := e0.trans x71;iterate 4 refine gP ?_
      refine GoR.call rfl rfl (aOp_callVal rfl aFunc47 rfl) (hs2) ?_ np;rintro v72 h72 ⟨q, x72⟩;cases q;refine ⟨_, rfl, ?_⟩;replace e0 := e0.trans x72;iterate 2 refine gP ?_
      refine GoR.call rfl rfl (aOp_callVal rfl aFunc47 rfl) (hs3) ?_ np;rintro v73 h73 ⟨q, x73⟩;cases q;refine ⟨_, rfl, ?_⟩;replace e0 := e0.trans x73;refine gO rfl rfl (kGT rfl rfl) rfl ?_;iterate 2 refine gP ?_
      iterate 12 refine GoR.skip rfl rfl rfl ?_
      iterate 2 refine gP ?_
      refine GoR.call rfl rfl (aCF aFunc14 rfl) (alive_ok) ?_ np;rintro v74 h74 ⟨q, x74⟩;cases q;refine ⟨_, rfl, ?_⟩;replace e0 := e0.trans x74;iterate 2 refine gP ?_
      apply gE;exact gW Tryz.func11 rfl rfl ⟨rfl, e0⟩
theorem law11 {R : RoadV} {sp se : AVal} {h : AH} (A : RoadAt h R sp se) (hb : R.ps.length < 9223372036854775808 ∧ R.es.length < 9223372036854775808) {w1 : Int} (h1 : 0 ≤ w1 ∧ w1 < 256) : Runs Tryz.prog 11 [.agg [sp, se], .int .u8 w1] h (fun en h' => en = .ret (.bool true) ∧ Ext h h') := by
 by_cases O : R.Ok
 ·have := law11_ok A O (w := w1.toNat) (by omega)
  rw [Int.toNat_of_nonneg h1.1] at this;exact this
 ·exact law11_bad A hb O
end Go.Proofs.YtkcimfopboelaaaGreat

namespace Go.AbsE
open Go Go.RowKit
section
variable {P : Program}
theorem HR.openWin {e : Env} {h : AH} {W : World} (r : HR P (Base.all W) e h W) {B lo : Nat} {PRE CS junk : List Value} {el : TypeId} {fr : Nat × Nat} {cs : List AVal} (hB : W.heap[B]? = some (.cells (PRE ++ (CS ++ junk)).toArray el fr)) (hp : PRE.length = lo) (hv : ∀ e, VRs e cs CS) :
  ∃ e' h', Env.le e e' ∧ HR P (Base.all W) e' h' W ∧ Ext h h' ∧ e' h.next = some (B, 0) ∧ Has h' h.next (.win lo cs) := by
 obtain ⟨h', k⟩ := new_some h (.win lo cs)
 obtain ⟨_, x1, x2⟩ := new_ext k
 obtain ⟨n1, n2, n3⟩ := AH.get_new k
 have hle := Env.le_ext (x := (B, 0)) r.fresh
 have hlt := (Array.getElem?_eq_some_iff.1 hB).1
 refine ⟨e.ext h.next (B, 0), h', hle, ?_, x1, Env.ext_same _ _ _, x2⟩
 refine { dom := ?_, blk := ?_, inj := ?_, imm := ?_, os := r.os, tape := r.tape, output := r.output, size := r.size, old := r.old, young := r.young }
 ·intro b' x kx
  rw [Env.ext_at] at kx
  by_cases hb' : b' = h.next
  ·omega
  ·rw [if_neg hb'] at kx; have := r.dom _ _ kx; omega
 ·intro b' o' kx
  rw [n3] at kx
  by_cases hb' : b' = h.next
  ·rw [if_pos hb'] at kx
   cases kx
   subst hb'
   exact ⟨B, 0, _, Env.ext_same _ _ _, (fun q => by cases q), hB, .win (hv _) hp⟩
  ·rw [if_neg hb'] at kx
   obtain ⟨B', c', O', k1, k2, k3, k4⟩ := r.blk _ _ kx
   exact ⟨B', c', O', hle.1 _ _ k1, k2, k3, k4.mono hle⟩
 ·intro b1 b2 B1 c1 c2 o1 o2 k1 k2 hro e1 e2
  rw [n3] at k1 k2
  rw [Env.ext_at] at e1 e2
  by_cases q1 : b1 = h.next
  ·rw [if_pos q1] at k1; cases k1; cases hro
  ·rw [if_neg q1] at k1 e1
   by_cases q2 : b2 = h.next
   ·rw [if_pos q2] at e2
    cases e2
    obtain ⟨B', c', O', j1, j2, _, _⟩ := r.blk _ _ k1
    rw [e1] at j1
    cases j1
    exact absurd hlt (j2 hro)
   ·rw [if_neg q2] at k2 e2
    exact r.inj _ _ _ _ _ _ _ k1 k2 hro e1 e2
 ·intro B1 CS' hi
  obtain ⟨i1, i2⟩ := r.imm B1 CS' hi
  refine ⟨i1, fun b' o' c' kx hro ke => ?_⟩
  rw [n3] at kx
  rw [Env.ext_at] at ke
  by_cases q : b' = h.next
  ·rw [if_pos q] at kx; cases kx; cases hro
  ·rw [if_neg q] at kx ke; exact i2 b' o' c' kx hro ke
end
end Go.AbsE

namespace Go.AbsE
open Go Go.RowKit
section
variable {P : Program}
theorem VRs.kinds {K : Type} {va : K → AVal} {vv : K → Value} (hvr : ∀ e x, VR e (va x) (vv x)) {e : Env} : ∀ l : List K, VRs e (l.map fun x => va x) (l.map fun x => vv x) := by
 intro l
 induction l with
 | nil => exact .nil
 | cons a l ih => exact .cons (hvr _ _) ih
theorem rowsG_eq {K : Type} {vv : K → Value} {C : List Value} {off sz : Nat} : ∀ (len : Nat) (f : Nat → List K), (∀ i, i < len → (f i).length = sz ∧ ∀ k n, (f i)[k]? = some n → C[off + i * sz + k]? = some (vv n)) →
  (C.drop off).take (len * sz) = (((List.range len).map f).flatten).map fun x => vv x := by
 intro len
 induction len with
 | zero => intro f _; simp
 | succ len ih =>
  intro f hf
  have h1 := ih f fun i hi => hf i (by omega)
  obtain ⟨l1, l2⟩ := hf len (by omega)
  rw [Nat.add_mul, Nat.one_mul, List.take_add, h1, List.range_succ, List.map_append, List.flatten_append, List.map_append]
  congr 1
  simp only [List.map_cons, List.map_nil, List.flatten_cons, List.flatten_nil, List.append_nil]
  rw [List.drop_drop]
  refine List.ext_getElem? fun k => ?_
  rw [List.getElem?_take, List.getElem?_drop, List.getElem?_map]
  by_cases hk : k < sz
  ·rw [if_pos hk]
   obtain ⟨n, hn⟩ : ∃ n, (f len)[k]? = some n := ⟨(f len)[k]'(by omega), by simp⟩
   rw [hn]
   exact l2 k n hn
  ·rw [if_neg hk]
   have : (f len)[k]? = none := by simp; omega
   rw [this]
   rfl
end
end Go.AbsE

namespace Go.AbsE
open Go Go.RowKit
section
variable {P : Program}
theorem HR.openRowsC {K : Type} (va : K → AVal) (vv : K → Value) (hvr : ∀ e x, VR e (va x) (vv x)) {e : Env} {h : AH} {W : World} (r : HR P (Base.all W) e h W) {a : Addr} {len cap sz : Nat} {C : Array Value} {el : TypeId} {fr : Nat × Nat} (hB : W.heap[a.block]? = some (.cells C el fr)) (hspot : a.spot = none) (f : Nat → List K)
  (hf : ∀ i, i < len → (f i).length = sz ∧ ∀ k n, (f i)[k]? = some n → W.cell? (a.add (i * sz + k)) = some (vv n)) :
  ∃ e' h' s, Env.le e e' ∧ HR P (Base.all W) e' h' W ∧ Ext h h' ∧ VR e' s (.slice (some a) len cap) ∧ SliceOf h' sz s (((List.range len).map f).map fun l => l.map fun x => va x) ∧ sameA s s = true ∧ ∃ b o, s = .slice b o len cap := by
 obtain ⟨B, off, spot⟩ := a
 dsimp only at hB hspot
 subst hspot
 have hcell : ∀ i, i < len → (f i).length = sz ∧ ∀ k n, (f i)[k]? = some n → C.toList[off + i * sz + k]? = some (vv n) := fun i hi => by
  obtain ⟨h1, h2⟩ := hf i hi
  refine ⟨h1, fun k n hn => ?_⟩
  have := h2 k n hn
  have e1 := addr_add B off (i * sz + k)
  rw [e1] at this
  unfold World.cell? at this
  rw [hB] at this
  simp only [Option.isSome_none, Bool.false_eq_true, if_false] at this
  rw [Array.getElem?_toList, Nat.add_assoc]
  exact this
 have hrows := rowsG_eq len f hcell
 let R := (List.range len).map f
 have hRl : ∀ l, l ∈ R → l.length = sz := fun l hl => by
  obtain ⟨i, hi, rfl⟩ := List.mem_map.1 hl
  exact (hf i (List.mem_range.1 hi)).1
 have hRlen : R.length = len := by simp [R]
 have hlen : (C.toList.drop off).take (len * sz) = (R.flatten).map fun x => vv x := hrows
 have hfl : R.flatten.length = len * sz := by
  have : ∀ {L : List (List K)}, (∀ l, l ∈ L → l.length = sz) → L.flatten.length = L.length * sz := by
   intro L
   induction L with
   | nil => intro _; simp
   | cons a L ih => intro h; simp only [List.flatten_cons, List.length_append, h a (by simp), ih fun l q => h l (by simp [q]), List.length_cons, Nat.add_mul]; omega
  rw [this hRl, hRlen]
 by_cases h0 : len * sz = 0
 ·-- nothing of it is read
  obtain ⟨e', h', k1, k2, k3, k4, k5⟩ := r.openWin (B := B) (lo := 0) (PRE := []) (CS := []) (junk := C.toList) (el := el) (fr := fr) (cs := []) (by simpa using hB) rfl (fun _ => .nil)
  refine ⟨e', h', .slice h.next off len cap, k1, k2, k3, .slice k4, .mk rfl rfl k5.1 (by simp) (fun l hl => ?_) ?_, by simp [sameA], _, _, rfl⟩
  ·obtain ⟨x, hx, rfl⟩ := List.mem_map.1 hl
   rw [List.length_map]
   exact hRl x hx
  ·have hnil : R.flatten = [] := List.eq_nil_of_length_eq_zero (by omega)
   unfold loadCells
   rw [k5.2]
   have e1 : ((R.map fun l => l.map fun x => va x).length * sz) = 0 := by rw [List.length_map, hRlen]; exact h0
   have e2 : (R.map fun l => l.map fun x => va x).flatten = [] := by rw [← List.map_flatten, hnil]; rfl
   show cond (Nat.ble 0 off) (slice? [] (off - 0) ((R.map fun l => l.map fun x => va x).length * sz)) none = some _
   rw [e1, e2, show Nat.ble 0 off = true from Nat.ble_eq_true_of_le (Nat.zero_le _)]
   simp [slice?]
 ·have hle : off + len * sz ≤ C.toList.length := by
   have : ((C.toList.drop off).take (len * sz)).length = len * sz := by rw [hlen, List.length_map, hfl]
   rw [List.length_take, List.length_drop] at this
   omega
  have hC : C = (C.toList.take off ++ ((R.flatten.map fun x => vv x) ++ C.toList.drop (off + len * sz))).toArray := by
   rw [← hlen]
   have : C.toList.take off ++ ((C.toList.drop off).take (len * sz) ++ C.toList.drop (off + len * sz)) = C.toList := by
    rw [← List.drop_drop, List.take_append_drop, List.take_append_drop]
   rw [this]
  obtain ⟨e', h', k1, k2, k3, k4, k5⟩ := r.openWin (B := B) (lo := off) (PRE := C.toList.take off) (CS := R.flatten.map fun x => vv x) (junk := C.toList.drop (off + len * sz)) (el := el) (fr := fr) (cs := R.flatten.map fun x => va x) (by rw [← hC]; exact hB) (by rw [List.length_take]; omega) (fun _ => VRs.kinds hvr _)
  refine ⟨e', h', .slice h.next off len cap, k1, k2, k3, .slice k4, .mk rfl rfl k5.1 (by simp) (fun l hl => ?_) ?_, by simp [sameA], _, _, rfl⟩
  ·obtain ⟨x, hx, rfl⟩ := List.mem_map.1 hl
   rw [List.length_map]
   exact hRl x hx
  ·unfold loadCells
   rw [k5.2]
   have e1 : ((R.map fun l => l.map fun x => va x).length * sz) = len * sz := by rw [List.length_map, hRlen]
   have e2 : (R.map fun l => l.map fun x => va x).flatten = R.flatten.map fun x => va x := by rw [← List.map_flatten]
   show cond (Nat.ble off off) (slice? (R.flatten.map fun x => va x) (off - off) ((R.map fun l => l.map fun x => va x).length * sz)) none = some _
   rw [e1, e2, show Nat.ble off off = true from Nat.ble_eq_true_of_le (Nat.le_refl _), Nat.sub_self]
   exact slice_all (by rw [List.length_map, hfl])
end
end Go.AbsE
