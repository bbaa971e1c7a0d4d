import Derived.Test.YtkcimfopboelaaaGreatMAP
import Derived.Test.YtkcimfopboelaaaGreatMAG
import Derived.KernelRfl
import Derived.Test.YtkcimfopboelaaaGreatMAH
import Derived.Test.YtkcimfopboelaaaGreatMAN
namespace Go.Proofs.YtkcimfopboelaaaGreat
open Go Go.AbsE
set_option linter.unusedSimpArgs false
set_option maxRecDepth 100000
set_option maxHeartbeats 0
set_option linter.unusedVariables false
def mkPass (lo hi : Int) : EV := ⟨0, lo, hi, 0, 0, 0, 0⟩
def mkRest (d : Int) : EV := ⟨1, 0, 0, d, 0, 0, 0⟩
def mkLook (p lo hi : Int) : EV := ⟨2, 0, 0, 0, p, lo, hi⟩
def sampleV (E : List EV) : RoadV := ⟨[⟨10, 11, 2, 2, 1, 1, 12⟩, ⟨8, 8, 3, 4, 0, 1, 9⟩], [mkPass 6 6, mkRest 2] ++ E⟩
theorem span33_ok {a b : Int} {h : AH} : Runs Tryz.prog 33 [.int .i64 a, .int .i64 b] h (fun en h' => en = .ret (.agg [.int .i64 a, .int .i64 b]) ∧ Ext h h') := by
 have e0 : Ext h h := Ext.refl _
 refine Runs.intro aFunc33 rfl rfl rfl rfl fun rest => ?_;apply gS;refine gR rfl ?_;refine GoR.alloc rfl rfl rfl zt29 rfl rfl fun h0 x0 f0 => ?_;have := e0.1;replace e0 := e0.trans x0;have := f0.1;apply gE;apply gS;refine gR rfl ?_;iterate 2 refine gP ?_
 refine gO rfl rfl (aOp_build zt29 hu29 pl29 rfl rfl) rfl ?_;refine GoR.store rfl rfl rfl rfl rfl rfl f0 rfl sz29 rfl rfl rfl fun h1 u1 => ?_;replace f0 := u1.has f0;replace e0 := e0.upd u1 (by omega);apply gE;exact gV (ret_end (aResult_of Tryz.func33 rfl (aResults_cell rfl f0 (inCells_agg ag29 sz29 rfl))) ⟨rfl, e0⟩)
theorem look42_ok {p a b : Int} {h : AH} : Runs Tryz.prog 42 [.int .i64 p, .int .i64 a, .int .i64 b] h (fun en h' => en = .ret (.agg (EV.cells (mkLook p a b))) ∧ Ext h h') := by
 unfold mkLook EV.cells
 have e0 : Ext h h := Ext.refl _
 refine Runs.intro aFunc42 rfl rfl rfl rfl fun rest => ?_;apply gS;refine gR rfl ?_;refine GoR.alloc rfl rfl rfl zt62 rfl rfl fun h0 x0 f0 => ?_;have := e0.1;replace e0 := e0.trans x0;have := f0.1;apply gE;apply gS;refine gR rfl ?_;iterate 3 refine gP ?_
 refine GoR.call rfl rfl (aCF aFunc33 rfl) (span33_ok) ?_ np;rintro v1 h1 ⟨q, x1⟩;cases q;refine ⟨_, rfl, ?_⟩;replace f0 := f0.ext x1;replace e0 := e0.trans x1;refine gO rfl rfl (aOp_build zt62 hu62 pl62 rfl rfl) rfl ?_;refine GoR.store rfl rfl rfl rfl rfl rfl f0 rfl sz62 rfl rfl rfl fun h2 u2 => ?_;replace f0 := u2.has f0;replace e0 := e0.upd u2 (by omega);apply gE;exact gV (ret_end (aResult_of Tryz.func42 rfl (aResults_cell rfl f0 (inCells_agg ag62 sz62 rfl))) ⟨rfl, e0⟩)
theorem pass43_ok {a b : Int} {h : AH} : Runs Tryz.prog 43 [.int .i64 a, .int .i64 b] h (fun en h' => en = .ret (.agg (EV.cells (mkPass a b))) ∧ Ext h h') := by
 unfold mkPass EV.cells
 have e0 : Ext h h := Ext.refl _
 refine Runs.intro aFunc43 rfl rfl rfl rfl fun rest => ?_;apply gS;refine gR rfl ?_;refine GoR.alloc rfl rfl rfl zt62 rfl rfl fun h0 x0 f0 => ?_;have := e0.1;replace e0 := e0.trans x0;have := f0.1;apply gE;apply gS;refine gR rfl ?_;iterate 2 refine gP ?_
 refine GoR.call rfl rfl (aCF aFunc33 rfl) (span33_ok) ?_ np;rintro v1 h1 ⟨q, x1⟩;cases q;refine ⟨_, rfl, ?_⟩;replace f0 := f0.ext x1;replace e0 := e0.trans x1;refine gO rfl rfl (aOp_build zt62 hu62 pl62 rfl rfl) rfl ?_;refine GoR.store rfl rfl rfl rfl rfl rfl f0 rfl sz62 rfl rfl rfl fun h2 u2 => ?_;replace f0 := u2.has f0;replace e0 := e0.upd u2 (by omega);apply gE;exact gV (ret_end (aResult_of Tryz.func43 rfl (aResults_cell rfl f0 (inCells_agg ag62 sz62 rfl))) ⟨rfl, e0⟩)
theorem rest45_ok {d : Int} {h : AH} : Runs Tryz.prog 45 [.int .i64 d] h (fun en h' => en = .ret (.agg (EV.cells (mkRest d))) ∧ Ext h h') := by
 unfold mkRest EV.cells
 have e0 : Ext h h := Ext.refl _
 refine Runs.intro aFunc45 rfl rfl rfl rfl fun rest => ?_;apply gS;refine gR rfl ?_;refine GoR.alloc rfl rfl rfl zt62 rfl rfl fun h0 x0 f0 => ?_;have := e0.1;replace e0 := e0.trans x0;have := f0.1;apply gE;apply gS;refine gR rfl ?_;refine gP ?_;refine gO rfl rfl (aOp_build zt62 hu62 pl62 rfl rfl) rfl ?_;refine GoR.store rfl rfl rfl rfl rfl rfl f0 rfl sz62 rfl rfl rfl fun h1 u1 => ?_;replace f0 := u1.has f0;replace e0 := e0.upd u1 (by omega);apply gE;exact gV (ret_end (aResult_of Tryz.func45 rfl (aResults_cell rfl f0 (inCells_agg ag62 sz62 rfl))) ⟨rfl, e0⟩)
theorem evs_seven {L : List EV} : ∀ l, l ∈ L.map EV.cells → l.length = 7 := fun l hl => by
 obtain ⟨e, _, rfl⟩ := List.mem_map.1 hl
 rfl
theorem pvs_slice {h : AH} {b n : Nat} {g : Kd} {el : TypeId} {L : List PV} (hn : L.length = n) (f : Has h b (.cells g (L.flatMap PV.cells) el)) : SliceOf h 7 (.slice b 0 n n) (L.map PV.cells) :=
 SliceOf.mk' rfl rfl f (by rw [List.length_map, hn]) fun i v q => by rw [Nat.zero_add]; exact flatten_at pv_len i v q
theorem evs_slice {h : AH} {b n : Nat} {g : Kd} {el : TypeId} {L : List EV} (hn : L.length = n) (f : Has h b (.cells g (L.flatMap EV.cells) el)) : SliceOf h 7 (.slice b 0 n n) (L.map EV.cells) :=
 SliceOf.mk' rfl rfl f (by rw [List.length_map, hn]) fun i v q => by rw [Nat.zero_add]; exact flatten_at ev_len i v q
theorem scal_two {a b : AVal} (ha : scalars [a] = true) (hb : scalars [b] = true) : scalars [a, b] = true := by
 have h1 : cond (scalar a) (scalars []) false = true := ha
 show cond (scalar a) (scalars [b]) false = true
 cases q : scalar a with
 | true => exact hb
 | false => rw [q] at h1; cases h1
theorem road_scal {h : AH} {R : RoadV} {sp se : AVal} (A : RoadAt h R sp se) : scalars [sp, se] = true := scal_two A.ps.scal.1 A.es.scal.1
def RoadNew (lo : Nat) (h : AH) (R : RoadV) (sp se : AVal) : Prop := FreshS lo h 7 sp (R.ps.map PV.cells) ∧ FreshS lo h 7 se (R.es.map EV.cells)
theorem RoadNew.road {lo : Nat} {h : AH} {R : RoadV} {sp se : AVal} (k : RoadNew lo h R sp se) : RoadAt h R sp se := ⟨k.1.self, k.2.self⟩
theorem RoadNew.upd {lo n : Nat} {B : ABlk} {h h' : AH} {R : RoadV} {sp se : AVal} (k : RoadNew lo h R sp se) (u : Upd h n B h') (hn : n < lo) : RoadNew lo h' R sp se :=
 ⟨k.1.on (Nat.le_of_eq u.1.symm) fun b b1 _ => u.2.2 b (by omega), k.2.on (Nat.le_of_eq u.1.symm) fun b b1 _ => u.2.2 b (by omega)⟩
theorem fresh_pvs {lo : Nat} {h : AH} {b n : Nat} {g : Kd} {el : TypeId} {L : List PV} (hn : L.length = n) (hb : lo ≤ b) (f : Has h b (.cells g (L.flatMap PV.cells) el)) : FreshS lo h 7 (.slice b 0 n n) (L.map PV.cells) := fun h' hl he => pvs_slice hn ⟨Nat.lt_of_lt_of_le f.1 hl, by rw [he b hb f.1]; exact f.2⟩
theorem sample_ok {E : List EV} {s : AVal} {h : AH} (hs : SliceOf h 7 s (E.map EV.cells)) (hn : E.length ≤ 100) : Runs Tryz.prog 32 [s] h (fun en h' => ∃ sp se, en = .ret (.agg [sp, se]) ∧ Ext h h' ∧ RoadNew h.next h' (sampleV E) sp se ∧ Ext h' h') := by
 have p1 : ([⟨10, 11, 2, 2, 1, 1, 12⟩, ⟨8, 8, 3, 4, 0, 1, 9⟩] : List PV).flatMap PV.cells = _ := rfl
 have hpc := fun {h9} => pass43_ok (a := 6) (b := 6) (h := h9)
 have hrc := fun {h9} => rest45_ok (d := 2) (h := h9)
 unfold mkPass EV.cells at hpc
 unfold mkRest EV.cells at hrc
 have e0 : Ext h h := Ext.refl _
 refine Runs.intro aFunc32 rfl rfl rfl rfl fun rest => ?_;apply gS;refine gR rfl ?_;refine GoR.alloc rfl rfl rfl zt25 rfl rfl fun h0 x0 f0 => ?_;have := e0.1;replace e0 := e0.trans x0;have := f0.1;apply gE;apply gS;refine gR rfl ?_;refine GoR.call rfl rfl (aCF aFunc33 rfl) (span33_ok) ?_ np;rintro v1 h1 ⟨q, x1⟩;cases q;refine ⟨_, rfl, ?_⟩;replace f0 := f0.ext x1;replace e0 := e0.trans x1;refine GoR.call rfl rfl (aCF aFunc33 rfl) (span33_ok) ?_ np;rintro v2 h2 ⟨q, x2⟩;cases q;refine ⟨_, rfl, ?_⟩;replace f0 := f0.ext x2;replace e0 := e0.trans x2;refine GoR.call rfl rfl (aCF aFunc33 rfl) (span33_ok) ?_ np;rintro v3 h3 ⟨q, x3⟩;cases q;refine ⟨_, rfl, ?_⟩;replace f0 := f0.ext x3;replace e0 := e0.trans x3;refine gO rfl rfl (aOp_build zt58 hu58 pl58 rfl rfl) rfl ?_;refine GoR.call rfl rfl (aCF aFunc33 rfl) (span33_ok) ?_ np;rintro v4 h4 ⟨q, x4⟩;cases q;refine ⟨_, rfl, ?_⟩;replace f0 := f0.ext x4;replace e0 := e0.trans x4;refine GoR.call rfl rfl (aCF aFunc33 rfl) (span33_ok) ?_ np;rintro v5 h5 ⟨q, x5⟩;cases q;refine ⟨_, rfl, ?_⟩;replace f0 := f0.ext x5;replace e0 := e0.trans x5;refine GoR.call rfl rfl (aCF aFunc33 rfl) (span33_ok) ?_ np;rintro v6 h6 ⟨q, x6⟩;cases q;refine ⟨_, rfl, ?_⟩;replace f0 := f0.ext x6;replace e0 := e0.trans x6;refine gO rfl rfl (aOp_build zt58 hu58 pl58 rfl rfl) rfl ?_;refine GoR.buildSl rfl rfl (ps := [(0, .agg [.int .i64 10, .int .i64 11, .int .i64 2, .int .i64 2, .int .i64 1, .int .i64 1, .int .i64 12]), (1, .agg [.int .i64 8, .int .i64 8, .int .i64 3, .int .i64 4, .int .i64 0, .int .i64 1, .int .i64 9])]) (cs := ([⟨10, 11, 2, 2, 1, 1, 12⟩, ⟨8, 8, 3, 4, 0, 1, 9⟩] : List PV).flatMap PV.cells) Tryz.underlying22 rfl sz58 zt58 rfl rfl rfl rfl fun h7 x7 f7 => ?_;have := e0.1;have := f0.1;replace f0 := f0.ext x7;replace e0 := e0.trans x7;have := f7.1;refine GoR.call rfl rfl (aCF aFunc43 rfl) (hpc) ?_ np;rintro v8 h8 ⟨q, x8⟩;cases q;refine ⟨_, rfl, ?_⟩;replace f7 := f7.ext x8;replace f0 := f0.ext x8;replace e0 := e0.trans x8;refine GoR.call rfl rfl (aCF aFunc45 rfl) (hrc) ?_ np;rintro v9 h9 ⟨q, x9⟩;cases q;refine ⟨_, rfl, ?_⟩;replace f7 := f7.ext x9;replace f0 := f0.ext x9;replace e0 := e0.trans x9;refine GoR.buildSl rfl rfl (ps := [(0, .agg [.int .i64 0, .int .i64 6, .int .i64 6, .int .i64 0, .int .i64 0, .int .i64 0, .int .i64 0]), (1, .agg [.int .i64 1, .int .i64 0, .int .i64 0, .int .i64 2, .int .i64 0, .int .i64 0, .int .i64 0])]) (cs := ([mkPass 6 6, mkRest 2].map EV.cells).flatten) Tryz.underlying23 rfl sz62 zt62 rfl rfl rfl rfl fun h10 x10 f10 => ?_;have := e0.1;have := f7.1;have := f0.1;replace f7 := f7.ext x10;replace f0 := f0.ext x10;replace e0 := e0.trans x10;have := f10.1;refine gP ?_
 have hb0 := f0.1
 have hsl := hs.ext e0
 have hps := pvs_slice (L := [⟨10, 11, 2, 2, 1, 1, 12⟩, ⟨8, 8, 3, 4, 0, 1, 9⟩]) rfl f7
 refine GoR.appendFull (Lx := [mkPass 6 6, mkRest 2].map EV.cells) rfl rfl Tryz.underlying23 Tryz.underlying23 sz62 by62 zt62 rfl rfl rfl f10 rfl rfl evs_seven rfl hsl evs_seven (by rw [List.length_map]; omega) rfl rfl fun s11 h11 x11 S11 => ?_;replace f0 := f0.ext x11;replace f7 := f7.ext x11;replace e0 := e0.trans x11
 rw [← List.map_append] at S11
 have hs11 := S11.self.scal
 have h1' : cond (scalar s11) (scalars []) false = true := hs11.1
 have hsc : scalar s11 = true := by
  cases q : scalar s11 with
  | true => rfl
  | false => rw [q] at h1'; cases h1'
 have hx11 := x11.1
 have RN : RoadNew (h.next + 1) h11 (sampleV E) (.slice h6.next 0 2 2) s11 := ⟨fresh_pvs (L := [⟨10, 11, 2, 2, 1, 1, 12⟩, ⟨8, 8, 3, 4, 0, 1, 9⟩]) rfl (by omega) f7, fun h' hl he => S11 h' hl fun b b1 b2 => he b (by omega) b2⟩
 refine gO rfl rfl (aOp_build (ps := [(0, .slice h6.next 0 2 2), (1, s11)]) (cs := [.slice h6.next 0 2 2, s11]) zt25 hu25 pl25 rfl (by simp [aFillA, hs11.2, cells_agg, splice]; rfl)) rfl ?_;refine GoR.store rfl rfl rfl rfl rfl rfl f0 rfl sz25 rfl (by show cond true (cond (scalar s11) true false) false = true; rw [hsc]; rfl) rfl fun h12 u12 => ?_;replace f0 := u12.has f0;replace e0 := e0.upd u12 (by omega);apply gE
 have hr := RN.upd u12 (Nat.lt_succ_self _)
 exact gV (ret_end (aResult_of Tryz.func32 rfl (aResults_cell rfl f0 (inCells_agg ag25 sz25 rfl))) ⟨_, _, rfl, e0, ⟨fun h' hl he => hr.1 h' hl fun b b1 b2 => he b (by omega) b2, fun h' hl he => hr.2 h' hl fun b b1 b2 => he b (by omega) b2⟩, Ext.refl _⟩)
theorem seen_ok {h : AH} : Runs Tryz.prog 34 [] h (fun en h' => ∃ sp se, en = .ret (.agg [sp, se]) ∧ Ext h h' ∧ RoadAt h' (sampleV [mkLook 1 7 9]) sp se ∧ Ext h' h') := by
 have hlk := fun {h9} => look42_ok (p := 1) (a := 7) (b := 9) (h := h9)
 unfold mkLook EV.cells at hlk
 have e0 : Ext h h := Ext.refl _
 refine Runs.intro aFunc34 rfl rfl rfl rfl fun rest => ?_;apply gS;refine gR rfl ?_;refine GoR.alloc rfl rfl rfl zt25 rfl rfl fun h0 x0 f0 => ?_;have := e0.1;replace e0 := e0.trans x0;have := f0.1;apply gE;apply gS;refine gR rfl ?_;refine GoR.call rfl rfl (aCF aFunc42 rfl) (hlk) ?_ np;rintro v1 h1 ⟨q, x1⟩;cases q;refine ⟨_, rfl, ?_⟩;replace f0 := f0.ext x1;replace e0 := e0.trans x1;refine GoR.buildSl rfl rfl (ps := [(0, .agg [.int .i64 2, .int .i64 0, .int .i64 0, .int .i64 0, .int .i64 1, .int .i64 7, .int .i64 9])]) (cs := [mkLook 1 7 9].flatMap EV.cells) Tryz.underlying23 rfl sz62 zt62 rfl rfl rfl rfl fun h2 x2 f2 => ?_;have := e0.1;have := f0.1;replace f0 := f0.ext x2;replace e0 := e0.trans x2;have := f2.1;refine GoR.call rfl rfl (aCF aFunc32 rfl) (sample_ok (evs_slice (L := [mkLook 1 7 9]) rfl (by assumption)) (by decide)) ?_ (by rintro _ _ ⟨sp, se, q, _, RA, e9⟩; cases q);rintro v3 h3 ⟨sp, se, q, x3, RA, e9⟩;cases q;refine ⟨_, rfl, ?_⟩;have := e0.1;replace f2 := f2.ext x3;replace f0 := f0.ext x3;replace e0 := e0.trans x3;refine GoR.store rfl rfl rfl rfl rfl rfl f0 rfl sz25 rfl (road_scal RA.road) rfl fun h4 u4 => ?_;replace f2 := f2.upd u4 (by omega);replace f0 := u4.has f0;clear e9;replace e0 := e0.upd u4 (by omega);apply gE;exact gV (ret_end (aResult_of Tryz.func34 rfl (aResults_cell rfl f0 (inCells_agg ag25 sz25 rfl))) ⟨_, _, rfl, e0, (RA.upd (by assumption) (by omega)).road, Ext.refl _⟩)
theorem clash_ok {h : AH} : Runs Tryz.prog 35 [] h (fun en h' => ∃ sp se, en = .ret (.agg [sp, se]) ∧ Ext h h' ∧ RoadAt h' (sampleV [mkLook 1 7 9, mkLook 1 6 6]) sp se ∧ Ext h' h') := by
 have hlk := fun {h9} => look42_ok (p := 1) (a := 7) (b := 9) (h := h9)
 have hlk2 := fun {h9} => look42_ok (p := 1) (a := 6) (b := 6) (h := h9)
 unfold mkLook EV.cells at hlk hlk2
 have e0 : Ext h h := Ext.refl _
 refine Runs.intro aFunc35 rfl rfl rfl rfl fun rest => ?_;apply gS;refine gR rfl ?_;refine GoR.alloc rfl rfl rfl zt25 rfl rfl fun h0 x0 f0 => ?_;have := e0.1;replace e0 := e0.trans x0;have := f0.1;apply gE;apply gS;refine gR rfl ?_;refine GoR.call rfl rfl (aCF aFunc42 rfl) (hlk) ?_ np;rintro v1 h1 ⟨q, x1⟩;cases q;refine ⟨_, rfl, ?_⟩;replace f0 := f0.ext x1;replace e0 := e0.trans x1;refine GoR.call rfl rfl (aCF aFunc42 rfl) (hlk2) ?_ np;rintro v2 h2 ⟨q, x2⟩;cases q;refine ⟨_, rfl, ?_⟩;replace f0 := f0.ext x2;replace e0 := e0.trans x2;refine GoR.buildSl rfl rfl (ps := [(0, .agg [.int .i64 2, .int .i64 0, .int .i64 0, .int .i64 0, .int .i64 1, .int .i64 7, .int .i64 9]), (1, .agg [.int .i64 2, .int .i64 0, .int .i64 0, .int .i64 0, .int .i64 1, .int .i64 6, .int .i64 6])]) (cs := [mkLook 1 7 9, mkLook 1 6 6].flatMap EV.cells) Tryz.underlying23 rfl sz62 zt62 rfl rfl rfl rfl fun h3 x3 f3 => ?_;have := e0.1;have := f0.1;replace f0 := f0.ext x3;replace e0 := e0.trans x3;have := f3.1;refine GoR.call rfl rfl (aCF aFunc32 rfl) (sample_ok (evs_slice (L := [mkLook 1 7 9, mkLook 1 6 6]) rfl (by assumption)) (by decide)) ?_ (by rintro _ _ ⟨sp, se, q, _, RA, e9⟩; cases q);rintro v4 h4 ⟨sp, se, q, x4, RA, e9⟩;cases q;refine ⟨_, rfl, ?_⟩;have := e0.1;replace f3 := f3.ext x4;replace f0 := f0.ext x4;replace e0 := e0.trans x4;refine GoR.store rfl rfl rfl rfl rfl rfl f0 rfl sz25 rfl (road_scal RA.road) rfl fun h5 u5 => ?_;replace f3 := f3.upd u5 (by omega);replace f0 := u5.has f0;clear e9;replace e0 := e0.upd u5 (by omega);apply gE;exact gV (ret_end (aResult_of Tryz.func35 rfl (aResults_cell rfl f0 (inCells_agg ag25 sz25 rfl))) ⟨_, _, rfl, e0, (RA.upd (by assumption) (by omega)).road, Ext.refl _⟩)
theorem v_h1 : (sampleV []).heightR 1 1 = ((6, 8), 0) := by decide +kernel
theorem v_s1 : (sampleV []).sinksR 1 8 = ((2, 3), 0) := by decide +kernel
theorem v_b1 : (sampleV []).bearsR 20 = (1, 0) := by decide +kernel
theorem v_m1 : (sampleV []).mostR = (18, 0) := by decide +kernel
theorem v_r1 : (sampleV [mkLook 1 7 9]).restR 20 = (1, 0) := by decide +kernel
theorem v_w1 : (sampleV []).belowR = ((0, 0), 0) := by decide +kernel
theorem v_k1 : (sampleV []).weakR = (1, 0) := by decide +kernel
theorem v_c1 : (sampleV [mkLook 1 7 9, mkLook 1 6 6]).clashR = (12, 0) := by decide +kernel
end Go.Proofs.YtkcimfopboelaaaGreat

namespace Go.Proofs.YtkcimfopboelaaaGreat
open Go Go.AbsE
set_option linter.unusedSimpArgs false
set_option maxRecDepth 100000
set_option maxHeartbeats 0
set_option linter.unusedVariables false
theorem sample_of {h : AH} : Runs Tryz.prog 32 [.nilslice] h (fun en h' => ∃ sp se, en = .ret (.agg [sp, se]) ∧ Ext h h' ∧ RoadAt h' (sampleV []) sp se ∧ Ext h' h') := (sample_ok (E := []) .nil (by decide)).mono fun _ _ ⟨sp, se, a, b, c, d⟩ => ⟨sp, se, a, b, c.road, d⟩
theorem spanT29 : SpanT Tryz.prog 29 := ⟨⟨_, _, Tryz.underlying29, by decide, by decide, rfl, rfl, ⟨_, Tryz.underlying3⟩, ⟨_, Tryz.underlying3⟩⟩, by kernel_rfl, by kernel_rfl⟩
theorem cv_h1 {h : AH} {sp se : AVal} (A : RoadAt h (sampleV []) sp se) : Runs Tryz.prog 15 [.agg [sp, se], .int .i64 1, .int .i64 1] h (fun en h' => en = .ret (.tuple [.agg [.int .i64 6, .int .i64 8], .int .i64 0]) ∧ Ext h h') := by
 have q := Height_ok A (by decide) (by decide) 1 1
 rw [v_h1] at q;exact q
theorem cv_s1 {h : AH} {sp se : AVal} (A : RoadAt h (sampleV []) sp se) : Runs Tryz.prog 17 [.agg [sp, se], .int .i64 1, .int .i64 8] h (fun en h' => en = .ret (.tuple [.agg [.int .i64 2, .int .i64 3], .int .i64 0]) ∧ Ext h h') := by
 have q := Sinks_ok A (by decide) (by decide) 1 8
 rw [v_s1] at q;exact q
theorem cv_b1 {h : AH} {sp se : AVal} (A : RoadAt h (sampleV []) sp se) : Runs Tryz.prog 19 [.agg [sp, se], .int .i64 20] h (fun en h' => en = .ret (.tuple [.int .i64 1, .int .i64 0]) ∧ Ext h h') := by
 have q := Bears_ok A (by decide) (by decide) 20
 rw [v_b1] at q;exact q
theorem cv_m1 {h : AH} {sp se : AVal} (A : RoadAt h (sampleV []) sp se) : Runs Tryz.prog 24 [.agg [sp, se]] h (fun en h' => en = .ret (.tuple [.int .i64 18, .int .i64 0]) ∧ Ext h h') := by
 have q := Most_ok A (by decide) (by decide)
 rw [v_m1] at q;exact q
theorem cv_r1 {h : AH} {sp se : AVal} (A : RoadAt h (sampleV [mkLook 1 7 9]) sp se) : Runs Tryz.prog 26 [.agg [sp, se], .int .i64 20] h (fun en h' => en = .ret (.tuple [.int .i64 1, .int .i64 0]) ∧ Ext h h') := by
 have q := Rest_ok A (by decide) (by decide) 20
 rw [v_r1] at q;exact q
theorem cv_w1 {h : AH} {sp se : AVal} (A : RoadAt h (sampleV []) sp se) : Runs Tryz.prog 21 [.agg [sp, se]] h (fun en h' => en = .ret (.tuple [.int .i64 0, .int .i64 0, .int .i64 0]) ∧ Ext h h') := by
 have q := Below_ok A (by decide) (by decide)
 rw [v_w1] at q;exact q
theorem cv_k1 {h : AH} {sp se : AVal} (A : RoadAt h (sampleV []) sp se) : Runs Tryz.prog 28 [.agg [sp, se]] h (fun en h' => en = .ret (.tuple [.int .i64 1, .int .i64 0]) ∧ Ext h h') := by
 have q := Weak_ok A (by decide) (by decide)
 rw [v_k1] at q;exact q
theorem cv_c1 {h : AH} {sp se : AVal} (A : RoadAt h (sampleV [mkLook 1 7 9, mkLook 1 6 6]) sp se) : Runs Tryz.prog 30 [.agg [sp, se]] h (fun en h' => en = .ret (.tuple [.int .i64 12, .int .i64 0]) ∧ Ext h h') := by
 have q := Clash_ok A (by decide) (by decide)
 rw [v_c1] at q;exact q
theorem alive_ok {h : AH} : Runs Tryz.prog 14 [] h (fun en h' => en = .ret (.bool true) ∧ Ext h h') := by
 have e0 : Ext h h := Ext.refl _
 refine Runs.intro aFunc14 rfl rfl rfl rfl fun rest => ?_;apply gS;refine gR rfl ?_;refine gP ?_;apply gE;apply gS;refine gR rfl ?_;refine GoR.call rfl rfl (aCF aFunc32 rfl) (sample_of) ?_ (by rintro _ _ ⟨sp0, se0, q, _, RA0, e900⟩; cases q);rintro v0 h0 ⟨sp0, se0, q, x0, RA0, e900⟩;cases q;refine ⟨_, rfl, ?_⟩;have := e0.1;replace e0 := e0.trans x0;refine GoR.call rfl rfl (aCF aFunc15 rfl) (cv_h1 (RA0.ext e900)) ?_ np;rintro v1 h1 ⟨q, x1⟩;cases q;refine ⟨_, rfl, ?_⟩;replace e900 := e900.trans x1;replace e0 := e0.trans x1;iterate 3 refine gP ?_
 refine GoR.alloc rfl rfl rfl zt29 rfl rfl fun h2 x2 f2 => ?_;have := e900.1;have := e0.1;replace e900 := e900.trans x2;replace e0 := e0.trans x2;have := f2.1;refine GoR.store rfl rfl rfl rfl rfl rfl f2 rfl sz29 rfl rfl rfl fun h3 u3 => ?_;replace f2 := u3.has f2;replace e900 := e900.upd u3 (by omega);replace e0 := e0.upd u3 (by omega);refine gP ?_;apply gE;apply gS;refine gR rfl ?_;refine GoR.call rfl rfl (aCF aFunc32 rfl) (sample_of) ?_ (by rintro _ _ ⟨sp1, se1, q, _, RA1, e901⟩; cases q);rintro v4 h4 ⟨sp1, se1, q, x4, RA1, e901⟩;cases q;refine ⟨_, rfl, ?_⟩;have := e900.1;have := e0.1;replace f2 := f2.ext x4;replace e900 := e900.trans x4;replace e0 := e0.trans x4;refine GoR.call rfl rfl (aCF aFunc17 rfl) (cv_s1 (RA1.ext e901)) ?_ np;rintro v5 h5 ⟨q, x5⟩;cases q;refine ⟨_, rfl, ?_⟩;replace f2 := f2.ext x5;replace e901 := e901.trans x5;replace e900 := e900.trans x5;replace e0 := e0.trans x5;iterate 3 refine gP ?_
 refine GoR.alloc rfl rfl rfl zt29 rfl rfl fun h6 x6 f6 => ?_;have := e901.1;have := e900.1;have := e0.1;have := f2.1;replace f2 := f2.ext x6;replace e901 := e901.trans x6;replace e900 := e900.trans x6;replace e0 := e0.trans x6;have := f6.1;refine GoR.store rfl rfl rfl rfl rfl rfl f6 rfl sz29 rfl rfl rfl fun h7 u7 => ?_;replace f6 := u7.has f6;replace f2 := f2.upd u7 (by omega);replace e901 := e901.upd u7 (by omega);replace e900 := e900.upd u7 (by omega);replace e0 := e0.upd u7 (by omega);refine gP ?_;apply gE;apply gS;refine gR rfl ?_;refine GoR.call rfl rfl (aCF aFunc32 rfl) (sample_of) ?_ (by rintro _ _ ⟨sp2, se2, q, _, RA2, e902⟩; cases q);rintro v8 h8 ⟨sp2, se2, q, x8, RA2, e902⟩;cases q;refine ⟨_, rfl, ?_⟩;have := e901.1;have := e900.1;have := e0.1;replace f6 := f6.ext x8;replace f2 := f2.ext x8;replace e901 := e901.trans x8;replace e900 := e900.trans x8;replace e0 := e0.trans x8;refine GoR.call rfl rfl (aCF aFunc19 rfl) (cv_b1 (RA2.ext e902)) ?_ np;rintro v9 h9 ⟨q, x9⟩;cases q;refine ⟨_, rfl, ?_⟩;replace f6 := f6.ext x9;replace f2 := f2.ext x9;replace e902 := e902.trans x9;replace e901 := e901.trans x9;replace e900 := e900.trans x9;replace e0 := e0.trans x9;iterate 5 refine gP ?_
 apply gE;apply gS;refine gR rfl ?_;refine GoR.call rfl rfl (aCF aFunc32 rfl) (sample_of) ?_ (by rintro _ _ ⟨sp3, se3, q, _, RA3, e903⟩; cases q);rintro v10 h10 ⟨sp3, se3, q, x10, RA3, e903⟩;cases q;refine ⟨_, rfl, ?_⟩;have := e902.1;have := e901.1;have := e900.1;have := e0.1;replace f6 := f6.ext x10;replace f2 := f2.ext x10;replace e902 := e902.trans x10;replace e901 := e901.trans x10;replace e900 := e900.trans x10;replace e0 := e0.trans x10;refine GoR.call rfl rfl (aCF aFunc24 rfl) (cv_m1 (RA3.ext e903)) ?_ np;rintro v11 h11 ⟨q, x11⟩;cases q;refine ⟨_, rfl, ?_⟩;replace f6 := f6.ext x11;replace f2 := f2.ext x11;replace e903 := e903.trans x11;replace e902 := e902.trans x11;replace e901 := e901.trans x11;replace e900 := e900.trans x11;replace e0 := e0.trans x11;iterate 5 refine gP ?_
 apply gE;apply gS;refine gR rfl ?_;refine GoR.call rfl rfl (aCF aFunc34 rfl) (seen_ok) ?_ (by rintro _ _ ⟨sp4, se4, q, _, RA4, e904⟩; cases q);rintro v12 h12 ⟨sp4, se4, q, x12, RA4, e904⟩;cases q;refine ⟨_, rfl, ?_⟩;have := e903.1;have := e902.1;have := e901.1;have := e900.1;have := e0.1;replace f6 := f6.ext x12;replace f2 := f2.ext x12;replace e903 := e903.trans x12;replace e902 := e902.trans x12;replace e901 := e901.trans x12;replace e900 := e900.trans x12;replace e0 := e0.trans x12;refine GoR.call rfl rfl (aCF aFunc26 rfl) (cv_r1 (RA4.ext e904)) ?_ np;rintro v13 h13 ⟨q, x13⟩;cases q;refine ⟨_, rfl, ?_⟩;replace f6 := f6.ext x13;replace f2 := f2.ext x13;replace e904 := e904.trans x13;replace e903 := e903.trans x13;replace e902 := e902.trans x13;replace e901 := e901.trans x13;replace e900 := e900.trans x13;replace e0 := e0.trans x13;iterate 5 refine gP ?_
 apply gE;apply gS;refine gR rfl ?_;refine GoR.call rfl rfl (aCF aFunc32 rfl) (sample_of) ?_ (by rintro _ _ ⟨sp5, se5, q, _, RA5, e905⟩; cases q);rintro v14 h14 ⟨sp5, se5, q, x14, RA5, e905⟩;cases q;refine ⟨_, rfl, ?_⟩;have := e904.1;have := e903.1;have := e902.1;have := e901.1;have := e900.1;have := e0.1;replace f6 := f6.ext x14;replace f2 := f2.ext x14;replace e904 := e904.trans x14;replace e903 := e903.trans x14;replace e902 := e902.trans x14;replace e901 := e901.trans x14;replace e900 := e900.trans x14;replace e0 := e0.trans x14;refine GoR.call rfl rfl (aCF aFunc21 rfl) (cv_w1 (RA5.ext e905)) ?_ np;rintro v15 h15 ⟨q, x15⟩;cases q;refine ⟨_, rfl, ?_⟩;replace f6 := f6.ext x15;replace f2 := f2.ext x15;replace e905 := e905.trans x15;replace e904 := e904.trans x15;replace e903 := e903.trans x15;replace e902 := e902.trans x15;replace e901 := e901.trans x15;replace e900 := e900.trans x15;replace e0 := e0.trans x15;iterate 7 refine gP ?_
 apply gE;apply gS;refine gR rfl ?_;refine GoR.call rfl rfl (aCF aFunc32 rfl) (sample_of) ?_ (by rintro _ _ ⟨sp6, se6, q, _, RA6, e906⟩; cases q);rintro v16 h16 ⟨sp6, se6, q, x16, RA6, e906⟩;cases q;refine ⟨_, rfl, ?_⟩;have := e905.1;have := e904.1;have := e903.1;have := e902.1;have := e901.1;have := e900.1;have := e0.1;replace f6 := f6.ext x16;replace f2 := f2.ext x16;replace e905 := e905.trans x16;replace e904 := e904.trans x16;replace e903 := e903.trans x16;replace e902 := e902.trans x16;replace e901 := e901.trans x16;replace e900 := e900.trans x16;replace e0 := e0.trans x16;refine GoR.call rfl rfl (aCF aFunc28 rfl) (cv_k1 (RA6.ext e906)) ?_ np;rintro v17 h17 ⟨q, x17⟩;cases q;refine ⟨_, rfl, ?_⟩;replace f6 := f6.ext x17;replace f2 := f2.ext x17;replace e906 := e906.trans x17;replace e905 := e905.trans x17;replace e904 := e904.trans x17;replace e903 := e903.trans x17;replace e902 := e902.trans x17;replace e901 := e901.trans x17;replace e900 := e900.trans x17;replace e0 := e0.trans x17;iterate 5 refine gP ?_
 apply gE;apply gS;refine gR rfl ?_;refine GoR.call rfl rfl (aCF aFunc35 rfl) (clash_ok) ?_ (by rintro _ _ ⟨sp7, se7, q, _, RA7, e907⟩; cases q);rintro v18 h18 ⟨sp7, se7, q, x18, RA7, e907⟩;cases q;refine ⟨_, rfl, ?_⟩;have := e906.1;have := e905.1;have := e904.1;have := e903.1;have := e902.1;have := e901.1;have := e900.1;have := e0.1;replace f6 := f6.ext x18;replace f2 := f2.ext x18;replace e0 := e0.trans x18;refine GoR.call rfl rfl (aCF aFunc30 rfl) (cv_c1 (RA7.ext e907)) ?_ np;rintro v19 h19 ⟨q, x19⟩;cases q;refine ⟨_, rfl, ?_⟩;replace f6 := f6.ext x19;replace f2 := f2.ext x19;replace e0 := e0.trans x19;iterate 5 refine gP ?_
 apply gE;apply gS;refine Go.drawnE plan14_0 ?_;refine gQ rfl rfl (ld29 rfl f2 rfl) rfl ?_;refine GoE.call rfl rfl (aCF aFunc33 rfl) (span33_ok) (dK 0 0 rfl) ?_ np;rintro v20 h20 ⟨q, x20⟩;cases q;replace f6 := f6.ext x20;replace f2 := f2.ext x20;replace e0 := e0.trans x20;refine ⟨(rck (h2 := h20) rfl (ld29 rfl f2 rfl) recheck_nil), _, rfl, ?_⟩;refine gQ rfl rfl (aOp_eqlSpan spanT29 rfl rfl (r := true) rfl) rfl ?_;iterate 2 refine gQ rfl rfl rfl rfl ?_
 refine gQ rfl rfl (kET rfl rfl) rfl ?_;iterate 2 refine gQ rfl rfl rfl rfl ?_
 refine gQ rfl rfl (ld29 rfl f6 rfl) rfl ?_;refine GoE.call rfl rfl (aCF aFunc33 rfl) (span33_ok) (dK 255 8 (dD 255 7 (dD 255 6 (dD 255 5 (dD 255 4 (dD 255 3 (dD 255 2 (dD 255 0 rfl)))))))) ?_ np;rintro v21 h21 ⟨q, x21⟩;cases q;replace f6 := f6.ext x21;replace e0 := e0.trans x21;refine ⟨(rck (h2 := h21) rfl (ld29 rfl f6 rfl) recheck_nil), _, rfl, ?_⟩;refine gQ rfl rfl (aOp_eqlSpan spanT29 rfl rfl (r := true) rfl) rfl ?_;iterate 3 refine gQ rfl rfl rfl rfl ?_
 refine gQ rfl rfl (kET rfl rfl) rfl ?_;iterate 3 refine gQ rfl rfl rfl rfl ?_
 refine gQ rfl rfl (kET rfl rfl) rfl ?_;iterate 3 refine gQ rfl rfl rfl rfl ?_
 refine gQ rfl rfl (kET rfl rfl) rfl ?_;iterate 3 refine gQ rfl rfl rfl rfl ?_
 refine gQ rfl rfl (kET rfl rfl) rfl ?_;iterate 3 refine gQ rfl rfl rfl rfl ?_
 refine gQ rfl rfl (kET rfl rfl) rfl ?_;iterate 3 refine gQ rfl rfl rfl rfl ?_
 refine gQ rfl rfl (kET rfl rfl) rfl ?_;iterate 3 refine gQ rfl rfl rfl rfl ?_
 refine gQ rfl rfl (kET rfl rfl) rfl ?_;iterate 3 refine gQ rfl rfl rfl rfl ?_
 refine gQ rfl rfl (kET rfl rfl) rfl ?_;iterate 3 refine gQ rfl rfl rfl rfl ?_
 refine gQ rfl rfl (kET rfl rfl) rfl ?_;iterate 3 refine gQ rfl rfl rfl rfl ?_
 refine gQ rfl rfl (kET rfl rfl) rfl ?_;iterate 3 refine gQ rfl rfl rfl rfl ?_
 refine gQ rfl rfl (kET rfl rfl) rfl ?_;iterate 3 refine gQ rfl rfl rfl rfl ?_
 refine gQ rfl rfl (kET rfl rfl) rfl ?_;iterate 3 refine gQ rfl rfl rfl rfl ?_
 refine gQ rfl rfl (kET rfl rfl) rfl ?_;iterate 3 refine gQ rfl rfl rfl rfl ?_
 refine gQ rfl rfl (kET rfl rfl) rfl ?_;iterate 2 refine gQ rfl rfl rfl rfl ?_
 refine GoE.end rfl ?_;exact gW Tryz.func14 rfl rfl ⟨rfl, e0⟩
end Go.Proofs.YtkcimfopboelaaaGreat

namespace Go.Proofs.YtkcimfopboelaaaGreat
open Go Go.AbsE
set_option linter.unusedSimpArgs false
set_option maxRecDepth 100000
set_option maxHeartbeats 0
set_option linter.unusedVariables false
theorem with41_ok {R : RoadV} {sp se : AVal} (e : EV) {h : AH} (A : RoadAt h R sp se) (hb2 : R.es.length ≤ 40) : Runs Tryz.prog 41 [.agg [sp, se], .agg e.cells] h (fun en h' => ∃ s, en = .ret (.agg [sp, s]) ∧ Ext h h' ∧ FreshS h.next h' 7 s ((R.es ++ [e]).map EV.cells) ∧ Ext h' h') := by
 obtain ⟨hs1, hc1⟩ := A.ps.scal
 obtain ⟨a, b, c, d, p, o, q⟩ := e
 unfold EV.cells
 dsimp only
 refine Runs.intro aFunc41 rfl rfl rfl rfl fun rest => ?_;refine Go.seq noJ_ok (gR rfl ?_);refine GoR.box rfl rfl rfl rfl rfl rfl fun h1 x1 f1 => ?_;refine GoR.box rfl rfl rfl rfl rfl rfl fun h2 x2 f2 => ?_;refine GoR.alloc rfl rfl rfl zt25 rfl rfl fun h3 x3 f3 => ?_
 have a1 := x1.1
 have a2 := x2.1
 have a3 := x3.1
 have l1 := f1.1
 have l2 := f2.1
 have l3 := f3.1
 replace f1 := (f1.ext x2).ext x3;replace f2 := f2.ext x3
 have x03 := (x1.trans x2).trans x3
 refine GoR.end (Go.seq noJ_ok (Go.drawnE plan41_0 ?_));refine GoE.quietX rfl rfl (aOpX_lit (ps := []) Tryz.underlying23 rfl sz62 zt62 rfl rfl rfl) rfl ?_;refine gQ rfl rfl (fa25_1 rfl) rfl ?_;refine gQ rfl rfl (ld23 rfl f1 rfl) rfl ?_;refine gQ rfl rfl (ld62 rfl f2 rfl) rfl ?_;refine GoE.quietX rfl rfl (aOpX_lit (ps := [(0, .agg [.int .i64 a, .int .i64 b, .int .i64 c, .int .i64 d, .int .i64 p, .int .i64 o, .int .i64 q])]) (cs := [.int .i64 a, .int .i64 b, .int .i64 c, .int .i64 d, .int .i64 p, .int .i64 o, .int .i64 q]) Tryz.underlying23 rfl sz62 zt62 rfl rfl rfl) rfl ?_
 have hm3 := A.es.ext x03
 refine GoE.copy (L := R.es.map EV.cells) rfl rfl Tryz.underlying23 Tryz.underlying23 sz62 by62 zt62 rfl rfl rfl rfl hm3 evs_seven (by rw [List.length_map]; omega)
  (dK 7 5 (dK 7 4 (dD 7 2 (dD 7 1 (dD 7 0 rfl))))) rfl rfl fun v4 h4 x4 c4 => ?_
 have f24 := f2.ext x4
 refine ⟨recheck_consX (h2 := h4) rfl (aOpX_lit (ps := [(0, .agg [.int .i64 a, .int .i64 b, .int .i64 c, .int .i64 d, .int .i64 p, .int .i64 o, .int .i64 q])]) (cs := [.int .i64 a, .int .i64 b, .int .i64 c, .int .i64 d, .int .i64 p, .int .i64 o, .int .i64 q]) Tryz.underlying23 rfl sz62 zt62 rfl rfl rfl) (by simp [sameA, sameAs, eqI_eq]) (recheck_cons (h2 := h4) rfl (ld62 rfl f24 rfl) (show sameA (.agg [AVal.int .i64 a, .int .i64 b, .int .i64 c, .int .i64 d, .int .i64 p, .int .i64 o, .int .i64 q]) (.agg [.int .i64 a, .int .i64 b, .int .i64 c, .int .i64 d, .int .i64 p, .int .i64 o, .int .i64 q]) = true by simp [sameA, sameAs, eqI_eq]) recheck_nil), ?_⟩;refine GoE.copy1 (L := R.es.map EV.cells) rfl rfl Tryz.underlying23 Tryz.underlying23 sz62 by62 zt62 rfl rfl rfl rfl c4 evs_seven rfl rfl (by rw [List.length_map]; omega) x4.1 (dD 63 5 (dD 63 4 rfl)) rfl rfl fun b5 h5 n5 m5 o5 g5 => ?_;refine ⟨recheck_nil, ?_⟩
 have a4 := x4.1
 have low : ∀ b, b < h3.next → h5.get b = h3.get b := fun b hb => by rw [o5 b hb, x4.2 b hb]
 have keep : ∀ {b o}, Has h3 b o → Has h5 b o := fun k => ⟨by have := k.1; omega, by rw [low _ k.1]; exact k.2⟩
 refine gQ rfl rfl (fa25_1 rfl) rfl ?_;refine GoE.store rfl rfl rfl rfl (dD 255 7 rfl) rfl rfl (keep f1) rfl sz23 rfl rfl rfl fun h6 u6 => ?_;refine ⟨recheck_nil, ?_⟩
 have n6 : h6.next = h5.next := u6.1
 refine GoE.end rfl (Go.seq noJ_ok (gR rfl ?_));refine gO rfl rfl (ld25 rfl (u6.has (keep f1)) rfl) rfl ?_
 have hsc : scalars [sp, .gsl b5 0 0 ((R.es.map EV.cells).length + 1)] = true := scal_two hs1 rfl
 refine GoR.store rfl rfl rfl rfl rfl rfl ((keep f3).upd u6 (by omega)) rfl sz25 rfl hsc rfl fun h7 u7 => ?_
 have n7 : h7.next = h6.next := u7.1
 refine GoR.end (gV (ret_end (aResult_of Tryz.func41 rfl (aResults_cell rfl (u7.has ((keep f3).upd u6 (by omega))) (inCells_agg ag25 sz25 rfl))) ?_))
 have x07 : Ext h h7 := ⟨by have := x03.1; omega, fun b hb => by rw [u7.2.2 b (by omega), u6.2.2 b (by omega), low b (by omega), x03.2 b hb]⟩
 have g7 := (g5.upd u6 (by have := f1.1; omega)).upd u7 (by omega)
 refine ⟨.gsl b5 0 0 ((R.es.map EV.cells).length + 1), rfl, x07, ?_, Ext.refl _⟩
 have hll : ∀ l, l ∈ R.es.map EV.cells ++ [[AVal.int .i64 a, .int .i64 b, .int .i64 c, .int .i64 d, .int .i64 p, .int .i64 o, .int .i64 q]] → l.length = 7 := fun l hl => by
  rcases List.mem_append.1 hl with q | q
  ·exact evs_seven l q
  ·rw [List.mem_singleton.1 q]; rfl
 have hmap : (R.es ++ [(⟨a, b, c, d, p, o, q⟩ : EV)]).map EV.cells = R.es.map EV.cells ++ [[AVal.int .i64 a, .int .i64 b, .int .i64 c, .int .i64 d, .int .i64 p, .int .i64 o, .int .i64 q]] := by rw [List.map_append]; rfl
 intro h8 n8 e8
 have hb5 : h.next ≤ b5 := by have := x03.1; omega
 show SliceOf h8 7 _ ((R.es ++ [(⟨a, b, c, d, p, o, q⟩ : EV)]).map EV.cells)
 rw [hmap];exact SliceOf.mk' rfl rfl (Has.fresh g7 hb5 n8 e8) (by simp) (fun i l hl => by rw [Nat.zero_add]; exact slice_flatten hll i l hl)
end Go.Proofs.YtkcimfopboelaaaGreat

namespace Go.Proofs.YtkcimfopboelaaaGreat
open Go Go.AbsE
set_option linter.unusedSimpArgs false
set_option maxHeartbeats 0
set_option linter.unusedVariables false
def RoadV.plus (R : RoadV) (e : EV) : RoadV := ⟨R.ps, R.es ++ [e]⟩
def Ft.on (f : Ft) (e : EV) (k : Int) : Ft := ⟨e.after f.x k, f.hs ++ [(e.after f.x k).height]⟩
theorem fateGo_plus {part : Int} {e : EV} {k : Int} : ∀ {l : List (EV × Int)} {x : Pc} {hs : List Int}, fateGo part (l ++ [(e, k)]) x hs = (fateGo part l x hs).bind fun f => if e.right part (e.after f.x k) then some (f.on e k) else none
 | [], x, hs => rfl
 | z :: l, x, hs => by
  show fateGo part (z :: (l ++ [(e, k)])) x hs = _
  unfold fateGo
  by_cases q : z.1.right part (z.1.after x z.2) = true
  ·rw [if_pos q, if_pos q];exact fateGo_plus
  ·rw [if_neg q, if_neg q]
   rfl
theorem fateV_plus {es : List EV} {e : EV} {k part : Int} {x : Pc} {ls : List Int} (hl : ls.length = es.length) : fateV (es ++ [e]) part x (ls ++ [k]) = (fateV es part x ls).bind fun f => if e.right part (e.after f.x k) then some (f.on e k) else none := by
 unfold fateV
 rw [List.zip_append hl.symm];exact fateGo_plus
theorem upto_one (k : Int) : upto k k = [k] := by
 unfold upto
 have : (k - k + 1).toNat = 1 := by omega
 rw [this]
 show [k + ((0 : Nat) : Int)] = [k]
 simp
theorem hauls_plus {e : EV} {k : Int} (hk : e.lo = k ∧ e.hi = k) : ∀ {es : List EV}, haulsV (es ++ [e]) = (haulsV es).map fun l => l ++ [k]
 | [] => by
  show (upto e.lo e.hi).flatMap _ = _
  rw [hk.1, hk.2, upto_one]
  rfl
 | e0 :: es => by
  show (upto e0.lo e0.hi).flatMap (fun k0 => (haulsV (es ++ [e])).map fun l => k0 :: l) = ((upto e0.lo e0.hi).flatMap fun k0 => (haulsV es).map fun l => k0 :: l).map fun l => l ++ [k]
  rw [hauls_plus hk, List.map_flatMap];refine congrArg (fun f => List.flatMap f _) (funext fun k0 => ?_);rw [List.map_map, List.map_map]
  rfl
structure EV.Plain (e : EV) (k : Int) : Prop where
 nl : e.kind ≠ 2
 one : e.lo = k ∧ e.hi = k
theorem fates_plain {es : List EV} {e : EV} {k part : Int} {p : PV} {ls : List Int} (he : e.Plain k) (hl : ls.length = es.length) : fatesV (es ++ [e]) part p (ls ++ [k]) = (fatesV es part p ls).map fun f => f.on e k := by
 unfold fatesV
 rw [List.map_filterMap];refine congrArg (fun f => List.filterMap f _) (funext fun x => ?_);rw [fateV_plus hl]
 cases fateV es part x ls with
 | none => rfl
 | some f =>
  show (if e.right part (e.after f.x k) = true then some (f.on e k) else none) = some (f.on e k)
  rw [if_pos];exact decide_eq_true fun q => absurd q he.nl
theorem plain_fates {R : RoadV} {e : EV} {k : Int} {ls : List Int} (he : e.Plain k) (hl : ls.length = R.es.length) : (R.plus e).fates (ls ++ [k]) = (R.fates ls).map fun l => l.map fun f => f.on e k := by
 unfold RoadV.fates RoadV.plus
 dsimp only
 refine List.ext_getElem? fun i => ?_;rw [List.getElem?_map, List.getElem?_mapIdx, List.getElem?_mapIdx]
 cases R.ps[i]? with
 | none => rfl
 | some p => exact congrArg some (fates_plain he hl)
theorem isEmpty_map {α β : Type} (f : α → β) (l : List α) : (l.map f).isEmpty = l.isEmpty := by cases l <;> rfl
theorem plain_can {R : RoadV} {e : EV} {k : Int} {ls : List Int} (he : e.Plain k) (hl : ls.length = R.es.length) : (R.plus e).can (ls ++ [k]) = R.can ls := by
 unfold RoadV.can
 rw [plain_fates he hl, List.all_map];refine congrArg (fun f => List.all _ f) (funext fun l => ?_)
 show (!(l.map _).isEmpty) = _
 rw [isEmpty_map]
theorem plain_hs {R : RoadV} {e : EV} {k : Int} (he : e.Plain k) : (R.plus e).hs = R.hs.map fun l => l ++ [k] := by
 unfold RoadV.hs
 show (haulsV (R.es ++ [e])).filter _ = _
 rw [hauls_plus he.one, List.filter_map];refine congrArg (List.map _) (List.filter_congr fun l hl => ?_);exact plain_can he (hauls_len hl)
theorem plain_known {R : RoadV} {e : EV} {k : Int} (he : e.Plain k) : (R.plus e).known = R.known.map fun parts => parts.map fun l => l.map fun f => f.on e k := by
 unfold RoadV.known
 rw [plain_hs he, List.map_map, List.map_map];refine List.map_congr_left fun l hl => ?_;exact plain_fates he (hauls_len (List.mem_filter.1 hl).1)
theorem plain_possible {R : RoadV} {e : EV} {k : Int} (he : e.Plain k) : (R.plus e).possible = R.possible := by
 unfold RoadV.possible
 rw [plain_hs he, isEmpty_map]
theorem known_ne {R : RoadV} (h : R.possible = true) : R.known ≠ [] := by
 unfold RoadV.possible at h
 unfold RoadV.known
 intro q
 rw [List.map_eq_nil_iff] at q;rw [q] at h;cases h
theorem rested_zero {x : Pc} {lo : Int} (hx : x.In lo) : x.rested 0 = x := by
 unfold Pc.rested
 have := hx.h.2
 rw [show min (x.height + 0 * x.rise) x.full = x.height by rw [Int.zero_mul]; omega]
end Go.Proofs.YtkcimfopboelaaaGreat

namespace Go.Proofs.YtkcimfopboelaaaGreat
open Go Go.AbsE
set_option linter.unusedSimpArgs false
set_option maxRecDepth 100000
set_option maxHeartbeats 0
set_option linter.unusedVariables false
theorem pass_plain (l : Int) : (mkPass l l).Plain l := ⟨by show (0 : Int) ≠ 2; decide, rfl, rfl⟩
theorem same_two {a b : AVal} (ha : sameA a a = true) (hb : sameA b b = true) : sameA (.agg [a, b]) (.agg [a, b]) = true := by simp [sameA, sameAs, ha, hb]
theorem plus_ok {R : RoadV} (O : R.Ok) {e : EV} {k : Int} (he : e.Ok R.ps.length) (hp : e.lo = k ∧ e.hi = k) (hn : R.es.length ≠ 10) : (R.plus e).Ok := by
 refine ⟨O.np, ?_, O.p, fun x hx => ?_, ?_⟩
 ·show (R.es ++ [e]).length ≤ 10
  have := O.ne
  rw [List.length_append]
  show R.es.length + 1 ≤ 10
  omega
 ·rcases List.mem_append.1 hx with q | q
  ·exact O.e x q
  ·rw [List.mem_singleton.1 q];exact he
 ·show doubtsV (R.es ++ [e]) ≤ 4
  have hd : e.doubt = false := by
   unfold EV.doubt
   refine decide_eq_false fun ⟨q1, q2⟩ => q2 ?_
   have h1 := hp.1
   have h2 := hp.2
   unfold EV.lo at h1
   unfold EV.hi at h2
   rw [if_pos q1] at h1 h2;rw [h1, h2]
  unfold doubtsV
  rw [List.filter_append, List.length_append]
  have : (List.filter EV.doubt [e]).length = 0 := by simp [hd]
  rw [this];exact O.d
theorem pass_okE {n l : Int} (hl : 0 ≤ l ∧ l ≤ 60) : (mkPass l l).Ok n := .inl ⟨rfl, hl.1, Int.le_refl _, hl.2, by show l - l ≤ 2; omega⟩
end Go.Proofs.YtkcimfopboelaaaGreat

namespace Go.Proofs.YtkcimfopboelaaaGreat
open Go Go.AbsE
set_option linter.unusedSimpArgs false
set_option maxHeartbeats 0
set_option linter.unusedVariables false
theorem fateGo_len {part : Int} : ∀ {l : List (EV × Int)} {x : Pc} {hs : List Int} {f : Ft}, fateGo part l x hs = some f → f.hs.length = hs.length + l.length
 | [], x, hs, f, h => by cases h; rfl
 | z :: l, x, hs, f, h => by
  unfold fateGo at h
  by_cases q : z.1.right part (z.1.after x z.2) = true
  ·rw [if_pos q] at h
   have := fateGo_len h
   rw [this, List.length_append, List.length_cons]
   simp only [List.length_cons, List.length_nil]
   omega
  ·rw [if_neg q] at h;cases h
theorem fate_last {es : List EV} {part : Int} {x : Pc} {ls : List Int} {f : Ft} (hl : ls.length = es.length) (hne : es ≠ []) (h : fateV es part x ls = some f) : (f.hs[es.length - 1]?).getD 0 = f.x.height := by
 obtain ⟨es', e, rfl⟩ : ∃ es' e, es = es' ++ [e] := ⟨es.dropLast, es.getLast hne, (List.dropLast_concat_getLast hne).symm⟩
 have hlne : ls ≠ [] := by rintro rfl; simp at hl
 obtain ⟨ls', k, rfl⟩ : ∃ ls' k, ls = ls' ++ [k] := ⟨ls.dropLast, ls.getLast hlne, (List.dropLast_concat_getLast hlne).symm⟩
 have hl' : ls'.length = es'.length := by simpa using hl
 rw [fateV_plus hl'] at h
 cases q : fateV es' part x ls' with
 | none => rw [q] at h; cases h
 | some g =>
  rw [q] at h
  have h : (if e.right part (e.after g.x k) = true then some (g.on e k) else none) = some f := h
  by_cases hr : e.right part (e.after g.x k) = true
  ·rw [if_pos hr] at h;cases h
   have hg : g.hs.length = es'.length := by
    have := fateGo_len q
    rw [this]
    simp [hl']
   unfold Ft.on
   dsimp only
   rw [List.length_append, show es'.length + [e].length - 1 = es'.length from by simp, List.getElem?_append_right (by omega), hg, Nat.sub_self]
   rfl
  ·rw [if_neg hr] at h;cases h
theorem at_mem {R : RoadV} {i : Nat} {f : Ft} (h : f ∈ atPart R.known i) : ∃ ls p x, ls ∈ haulsV R.es ∧ R.can ls = true ∧ R.ps[i]? = some p ∧ x ∈ p.pcs ∧ fateV R.es i x ls = some f := by
 obtain ⟨parts, fs, h1, h2, h3⟩ := mem_atPart.1 h
 obtain ⟨ls, k1, k2, rfl⟩ := mem_known.1 h1
 cases hp : R.ps[i]? with
 | none =>
  rw [List.getElem?_eq_none (by rw [fates_len]; exact List.getElem?_eq_none_iff.1 hp)] at h2;cases h2
 | some p =>
  rw [fates_at hp] at h2;cases h2
  obtain ⟨x, hx, hf⟩ := mem_fates.1 h3
  exact ⟨ls, p, x, k1, k2, rfl, hx, hf⟩
theorem mem_at {R : RoadV} {i : Nat} {f : Ft} {ls : List Int} {p : PV} {x : Pc} (k1 : ls ∈ haulsV R.es) (k2 : R.can ls = true) (hp : R.ps[i]? = some p) (hx : x ∈ p.pcs) (hf : fateV R.es i x ls = some f) : f ∈ atPart R.known i :=
 mem_atPart.2 ⟨R.fates ls, fatesV R.es i p ls, mem_known.2 ⟨ls, k1, k2, rfl⟩, fates_at hp, mem_fates.2 ⟨x, hx, hf⟩⟩
theorem at_ne {R : RoadV} (h : R.possible = true) {i : Nat} (hi : i < R.ps.length) : atPart R.known i ≠ [] := by
 cases q : R.known with
 | nil => exact absurd q (known_ne h)
 | cons parts r =>
  have hp : parts ∈ R.known := by rw [q]; exact .head _
  obtain ⟨h1, h2⟩ := known_parts hp
  have hlt : i < parts.length := by omega
  have hg : parts[i]? = some parts[i] := List.getElem?_eq_getElem hlt
  have hne := h2 _ (List.getElem_mem hlt)
  rw [← q]
  cases q2 : parts[i] with
  | nil => exact absurd q2 hne
  | cons f l =>
   have : f ∈ atPart R.known i := mem_atPart.2 ⟨parts, _, hp, hg, by rw [q2]; exact .head _⟩
   intro q3
   rw [q3] at this;cases this
theorem last_at {R : RoadV} (hne : R.es ≠ []) {i : Nat} {f : Ft} (h : f ∈ atPart R.known i) : (f.hs[R.es.length - 1]?).getD 0 = f.x.height := by
 obtain ⟨ls, p, x, k1, k2, k3, k4, k5⟩ := at_mem h
 exact fate_last (hauls_len k1) hne k5
theorem sinks_ends {R : RoadV} (O : R.Ok) (hp : R.possible = true) {i : Nat} (hi : i < R.ps.length) {load : Int} (hl : 0 ≤ load ∧ load ≤ 60) :
  (∀ f, f ∈ atPart R.known i → (spreadV R.known i fun f => f.x.sinks load).1 ≤ f.x.sinks load ∧ f.x.sinks load ≤ (spreadV R.known i fun f => f.x.sinks load).2) ∧ (∃ f, f ∈ atPart R.known i ∧ f.x.sinks load = (spreadV R.known i fun f => f.x.sinks load).1) ∧ ∃ f, f ∈ atPart R.known i ∧ f.x.sinks load = (spreadV R.known i fun f => f.x.sinks load).2 :=
 spread_ends (at_ne hp hi) fun f hf => by
  have hx := (known_small O hf).1
  have h1 := sinks_nonneg hl.1 hx.s.1
  have h2 := sinks_le hl.1 hx.s.1
  unfold I64 Pc.sinks
  omega
theorem high_ends {R : RoadV} (O : R.Ok) (hp : R.possible = true) {i : Nat} (hi : i < R.ps.length) (v : Nat) :
  (∀ f, f ∈ atPart R.known i → (spreadV R.known i fun f => (f.hs[v]?).getD 0).1 ≤ (f.hs[v]?).getD 0 ∧ (f.hs[v]?).getD 0 ≤ (spreadV R.known i fun f => (f.hs[v]?).getD 0).2) ∧ (∃ f, f ∈ atPart R.known i ∧ (f.hs[v]?).getD 0 = (spreadV R.known i fun f => (f.hs[v]?).getD 0).1) ∧ ∃ f, f ∈ atPart R.known i ∧ (f.hs[v]?).getD 0 = (spreadV R.known i fun f => (f.hs[v]?).getD 0).2 :=
 spread_ends (at_ne hp hi) fun f hf => by
  have hx := (known_small O hf).2.2
  cases q : f.hs[v]? with
  | none => unfold I64; simp
  | some n =>
   have := hx n (List.mem_of_getElem? q)
   unfold I64
   simp only [Option.getD_some]
   omega
theorem look_ok {n lo hi p : Int} (h1 : 0 ≤ p ∧ p ≤ n - 1) (h2 : -1000 ≤ lo) (h3 : lo ≤ hi) (h4 : hi ≤ 1000) : (mkLook p lo hi).Ok n := .inr (.inr ⟨rfl, h1.1, h1.2, h2, h3, h4⟩)
theorem look_one (p lo hi : Int) : (mkLook p lo hi).lo = 0 ∧ (mkLook p lo hi).hi = 0 := ⟨rfl, rfl⟩
theorem look_after {R : RoadV} {p lo hi : Int} {x : Pc} {b : Int} (hx : x.In b) (k : Int) : (mkLook p lo hi).after x k = x := by
 show x.rested 0 = x
 exact rested_zero hx
theorem look_known {R : RoadV} (O : R.Ok) {i : Nat} (hi : i < R.ps.length) {n : Int} {f' : Ft} (h : f' ∈ atPart (R.plus (mkLook i n n)).known i) : ∃ f, f ∈ atPart R.known i ∧ f.x.height = n ∧ f'.hs = f.hs ++ [f.x.height] := by
 obtain ⟨ls', p, x, k1, k2, k3, k4, k5⟩ := at_mem h
 have k1 : ls' ∈ haulsV (R.es ++ [mkLook i n n]) := k1
 rw [hauls_plus (look_one i n n)] at k1
 obtain ⟨ls, hls, rfl⟩ := List.mem_map.1 k1
 have hlen := hauls_len hls
 have k5 : fateV (R.es ++ [mkLook i n n]) i x (ls ++ [0]) = some f' := k5
 rw [fateV_plus hlen] at k5
 cases q : fateV R.es i x ls with
 | none => rw [q] at k5; cases k5
 | some f =>
  rw [q] at k5
  have k5 : (if (mkLook i n n).right i ((mkLook i n n).after f.x 0) = true then some (f.on (mkLook i n n) 0) else none) = some f' := k5
  have hin := (fate_small O hls k3 k4 q).1
  rw [look_after (R := R) hin] at k5
  by_cases hr : (mkLook i n n).right i f.x = true
  ·rw [if_pos hr] at k5;cases k5
   have hh : f.x.height = n := by
    have := of_decide_eq_true hr rfl rfl
    have h1 : n ≤ f.x.height := this.1
    have h2 : f.x.height ≤ n := this.2
    omega
   refine ⟨f, ?_, hh, ?_⟩
   ·refine mem_at hls ?_ k3 k4 q;rw [can_iff] at k2 ⊢
    intro j pj hj
    obtain ⟨g', hg'⟩ := k2 j pj hj
    obtain ⟨y, hy, hy2⟩ := mem_fates.1 hg'
    have hy2 : fateV (R.es ++ [mkLook i n n]) j y (ls ++ [0]) = some g' := hy2
    rw [fateV_plus hlen] at hy2
    cases q2 : fateV R.es j y ls with
    | none => rw [q2] at hy2; cases hy2
    | some g => exact ⟨g, mem_fates.2 ⟨y, hy, q2⟩⟩
   ·unfold Ft.on
    dsimp only
    rw [look_after (R := R) hin]
  ·rw [if_neg hr] at k5;cases k5
theorem look_can {R : RoadV} (O : R.Ok) {i : Nat} (hi : i < R.ps.length) {n : Int} {f : Ft} (h : f ∈ atPart R.known i) (hn : f.x.height = n) : (R.plus (mkLook i n n)).possible = true := by
 obtain ⟨ls, p, x, k1, k2, k3, k4, k5⟩ := at_mem h
 have hlen := hauls_len k1
 unfold RoadV.possible RoadV.hs
 have hmem : ls ++ [0] ∈ (haulsV (R.plus (mkLook i n n)).es).filter (R.plus (mkLook i n n)).can := by
  refine List.mem_filter.2 ⟨?_, ?_⟩
  ·show ls ++ [0] ∈ haulsV (R.es ++ [mkLook i n n])
   rw [hauls_plus (look_one i n n)];exact List.mem_map.2 ⟨ls, k1, rfl⟩
  ·rw [can_iff] at k2 ⊢
   intro j pj hj
   have go : ∀ {y : Pc} {g : Ft}, y ∈ pj.pcs → fateV R.es j y ls = some g → ((j : Int) = i → g.x.height = n) → ∃ f, f ∈ fatesV (R.plus (mkLook i n n)).es j pj (ls ++ [0]) := fun {y g} hy hg hh => by
    refine ⟨g.on (mkLook i n n) 0, mem_fates.2 ⟨y, hy, ?_⟩⟩
    show fateV (R.es ++ [mkLook i n n]) j y (ls ++ [0]) = _
    rw [fateV_plus hlen, hg]
    show (if (mkLook i n n).right j ((mkLook i n n).after g.x 0) = true then some (g.on (mkLook i n n) 0) else none) = some (g.on (mkLook i n n) 0)
    rw [if_pos];rw [look_after (R := R) (fate_small O k1 hj hy hg).1];refine decide_eq_true fun _ q => ?_
    have := hh q
    show n ≤ g.x.height ∧ g.x.height ≤ n
    omega
   by_cases hji : j = i
   ·subst hji
    have hj : R.ps[j]? = some pj := hj
    rw [k3] at hj;cases hj;exact go k4 k5 fun _ => hn
   ·obtain ⟨g, hg⟩ := k2 j pj hj
    obtain ⟨y, hy, hy2⟩ := mem_fates.1 hg
    exact go hy hy2 fun q => absurd (Int.ofNat.inj q) hji
 cases q : (haulsV (R.plus (mkLook i n n)).es).filter (R.plus (mkLook i n n)).can with
 | nil => rw [q] at hmem; cases hmem
 | cons a b => rfl
theorem spread_one {k : List (List (List Ft))} {i : Nat} {m : Ft → Int} {n : Int} (hne : atPart k i ≠ []) (hn : -1000 ≤ n ∧ n ≤ 1000) (h : ∀ f, f ∈ atPart k i → m f = n) : spreadV k i m = (n, n) := by
 obtain ⟨h1, ⟨f, hf, h2⟩, g, hg, h3⟩ := spread_ends (k := k) (i := i) (m := m) hne fun f hf => by rw [h f hf]; unfold I64; omega
 rw [h f hf] at h2;rw [h g hg] at h3;exact Prod.ext h2.symm h3.symm
theorem heightR_is {R : RoadV} (O : R.Ok) {i v : Nat} (hi : i < R.ps.length) (hv : v < R.es.length) : R.heightR i v = if R.possible = true then (spreadV R.known i (fun f => (f.hs[v]?).getD 0), 0) else (zSp, 10) := by
 unfold RoadV.heightR
 rw [if_pos O, if_pos (by omega), if_pos (by omega), Int.toNat_natCast, Int.toNat_natCast]
theorem look_height {R : RoadV} (O : R.Ok) (hne : R.es ≠ []) (hn10 : R.es.length ≠ 10) {i : Nat} (hi : i < R.ps.length) {n : Int} (hn : -1000 ≤ n ∧ n ≤ 1000) :
  (R.plus (mkLook i n n)).Ok ∧ ((∃ f, f ∈ atPart R.known i ∧ f.x.height = n) → (R.plus (mkLook i n n)).heightR i (R.es.length - 1 : Nat) = ((n, n), 0)) ∧ ((¬ ∃ f, f ∈ atPart R.known i ∧ f.x.height = n) → (R.plus (mkLook i n n)).heightR i (R.es.length - 1 : Nat) = ((0, 0), 10)) := by
 have O' : (R.plus (mkLook i n n)).Ok := plus_ok O (look_ok (n := (R.ps.length : Int)) (p := (i : Int)) (by omega) hn.1 (Int.le_refl _) hn.2) (look_one _ _ _) hn10
 have hlen : R.es.length - 1 < (R.plus (mkLook i n n)).es.length := by
  have : (R.plus (mkLook i n n)).es.length = R.es.length + 1 := by
   show (R.es ++ [mkLook i n n]).length = _
   rw [List.length_append]
   rfl
  omega
 have h0 : 0 < R.es.length := List.length_pos_iff.2 hne
 have hh := heightR_is O' (i := i) hi hlen
 refine ⟨O', fun ⟨f, hf, q⟩ => ?_, fun hno => ?_⟩
 ·have hp := look_can O hi hf q
  rw [hh, if_pos hp];refine congrArg (fun s => (s, (0 : Int))) (spread_one (at_ne hp hi) hn fun g hg => ?_)
  obtain ⟨f2, k1, k2, k3⟩ := look_known O hi hg
  have k4 := (known_small O k1).2.1
  rw [k3, List.getElem?_append_left (by omega), last_at hne k1, k2]
 ·rw [hh, if_neg]
  ·rfl
  ·intro hp
   have h2 := at_ne hp (i := i) hi
   cases q : atPart (R.plus (mkLook i n n)).known i with
   | nil => exact h2 q
   | cons g l =>
    obtain ⟨f2, k1, k2, _⟩ := look_known O hi (f' := g) (by rw [q]; exact .head _)
    exact hno ⟨f2, k1, k2⟩
theorem pass_height {R : RoadV} (O : R.Ok) (hp : R.possible = true) (hne : R.es ≠ []) (hn10 : R.es.length ≠ 10) {i : Nat} (hi : i < R.ps.length) {l : Int} (hl : 0 ≤ l ∧ l ≤ 60) :
  (R.plus (mkPass l l)).Ok ∧ ∃ d : Int × Int, (R.plus (mkPass l l)).heightR i (R.es.length : Nat) = (d, 0) ∧
   (spreadV R.known i fun f => (f.hs[R.es.length - 1]?).getD 0).1 - (spreadV R.known i fun f => f.x.sinks l).2 ≤ d.1 ∧ d.1 ≤ (spreadV R.known i fun f => (f.hs[R.es.length - 1]?).getD 0).1 - (spreadV R.known i fun f => f.x.sinks l).1 ∧
   (spreadV R.known i fun f => (f.hs[R.es.length - 1]?).getD 0).2 - (spreadV R.known i fun f => f.x.sinks l).2 ≤ d.2 ∧ d.2 ≤ (spreadV R.known i fun f => (f.hs[R.es.length - 1]?).getD 0).2 - (spreadV R.known i fun f => f.x.sinks l).1 := by
 have O' : (R.plus (mkPass l l)).Ok := plus_ok O (pass_okE hl) (pass_plain l).one hn10
 have hpp : (R.plus (mkPass l l)).possible = true := by rw [plain_possible (pass_plain l)]; exact hp
 have hlen : R.es.length < (R.plus (mkPass l l)).es.length := by
  show _ < (R.es ++ [mkPass l l]).length
  rw [List.length_append];exact Nat.lt_succ_self _
 refine ⟨O', _, by rw [heightR_is O' (i := i) hi hlen, if_pos hpp], ?_⟩
 obtain ⟨d1, ⟨d2, d3, d4⟩, d5, d6, d7⟩ := high_ends O' hpp (i := i) hi R.es.length
 obtain ⟨c1, ⟨c2, c3, c4⟩, c5, c6, c7⟩ := high_ends O hp (i := i) hi (R.es.length - 1)
 obtain ⟨s1, _, _⟩ := sinks_ends O hp (i := i) hi hl
 have hk : ∀ g, g ∈ atPart (R.plus (mkPass l l)).known i → ∃ f, f ∈ atPart R.known i ∧ (g.hs[R.es.length]?).getD 0 = f.x.height - f.x.sinks l := fun g hg => by
  rw [plain_known (pass_plain l)] at hg
  obtain ⟨parts, fs, h1, h2, h3⟩ := mem_atPart.1 hg
  obtain ⟨pp, hpp, rfl⟩ := List.mem_map.1 h1
  rw [List.getElem?_map, Option.map_eq_some_iff] at h2
  obtain ⟨fs', hfs, rfl⟩ := h2
  obtain ⟨f, hf, rfl⟩ := List.mem_map.1 h3
  have hat := mem_atPart.2 ⟨pp, fs', hpp, hfs, hf⟩
  refine ⟨f, hat, ?_⟩
  unfold Ft.on
  dsimp only
  rw [List.getElem?_append_right (by rw [(known_small O hat).2.1]; exact Nat.le_refl _), (known_small O hat).2.1, Nat.sub_self]
  rfl
 have hk2 : ∀ f, f ∈ atPart R.known i → ∃ g, g ∈ atPart (R.plus (mkPass l l)).known i ∧ (g.hs[R.es.length]?).getD 0 = f.x.height - f.x.sinks l := fun f hf => by
  obtain ⟨parts, fs, h1, h2, h3⟩ := mem_atPart.1 hf
  refine ⟨f.on (mkPass l l) l, ?_, ?_⟩
  ·rw [plain_known (pass_plain l)];exact mem_atPart.2 ⟨_, _, List.mem_map.2 ⟨parts, h1, rfl⟩, by rw [List.getElem?_map, h2]; rfl, List.mem_map.2 ⟨f, h3, rfl⟩⟩
  ·unfold Ft.on
   dsimp only
   rw [List.getElem?_append_right (by rw [(known_small O hf).2.1]; exact Nat.le_refl _), (known_small O hf).2.1, Nat.sub_self]
   rfl
 obtain ⟨fa, fa1, fa2⟩ := hk d2 d3
 obtain ⟨fb, fb1, fb2⟩ := hk d5 d6
 obtain ⟨ga, ga1, ga2⟩ := hk2 c2 c3
 obtain ⟨gb, gb1, gb2⟩ := hk2 c5 c6
 have la := last_at hne fa1
 have lb := last_at hne fb1
 have lc := last_at hne c3
 have ld := last_at hne c6
 have a1 := c1 fa fa1
 have a2 := s1 fa fa1
 have b1 := c1 fb fb1
 have b2 := s1 fb fb1
 have e1 := d1 ga ga1
 have e2 := s1 c2 c3
 have e3 := d1 gb gb1
 have e4 := s1 c5 c6
 refine ⟨?_, ?_, ?_, ?_⟩ <;> omega
end Go.Proofs.YtkcimfopboelaaaGreat

namespace Go.Proofs.YtkcimfopboelaaaGreat
open Go Go.AbsE
set_option linter.unusedSimpArgs false
set_option maxRecDepth 100000
set_option maxHeartbeats 0
set_option linter.unusedVariables false
noncomputable def opsE30 : Array Oper := ((drawnOps Tryz.f7)[1]?).getD #[]
theorem befsE30 : befs0 opsE30 = [0, 0, 0, 0, 14, 31, 0, 0, 255, 511, 1023, 1023, 0, 6143, 16383] := by kernel_rfl
theorem sizeE30 : opsE30.size = 15 := by kernel_rfl
theorem plE30_4_5_8_12 : planX opsE30 [0, 0, 0, 0, 14, 31, 0, 0, 255, 511, 1023, 1023, 511, 6143, 16383] [0, 1, 2, 3, 6, 7, 4, 5, 8, 9, 10, 11, 12, 13, 14] = some (mkPlan opsE30.toList [(0, 0, true, false), (1, 0, true, false), (2, 0, true, false), (3, 0, true, false), (6, 0, true, false), (7, 0, true, false), (4, 14, false, false), (5, 31, false, false), (8, 255, false, false), (9, 511, true, false), (10, 1023, true, false), (11, 1023, true, false), (12, 511, false, false), (13, 6143, false, false), (14, 16383, true, false)]) := by kernel_rfl
theorem plE30_4_5_12_8 : planX opsE30 [0, 0, 0, 0, 14, 31, 0, 0, 4351, 4607, 5119, 5119, 63, 6143, 16383] [0, 1, 2, 3, 6, 7, 4, 5, 12, 8, 9, 10, 11, 13, 14] = some (mkPlan opsE30.toList [(0, 0, true, false), (1, 0, true, false), (2, 0, true, false), (3, 0, true, false), (6, 0, true, false), (7, 0, true, false), (4, 14, false, false), (5, 31, false, false), (12, 63, false, false), (8, 4351, false, false), (9, 4607, true, false), (10, 5119, true, false), (11, 5119, true, false), (13, 6143, false, false), (14, 16383, true, false)]) := by kernel_rfl
theorem plE30_4_12_5_8 : planX opsE30 [0, 0, 0, 0, 14, 4127, 0, 0, 4351, 4607, 5119, 5119, 30, 6143, 16383] [0, 1, 2, 3, 6, 7, 4, 12, 5, 8, 9, 10, 11, 13, 14] = some (mkPlan opsE30.toList [(0, 0, true, false), (1, 0, true, false), (2, 0, true, false), (3, 0, true, false), (6, 0, true, false), (7, 0, true, false), (4, 14, false, false), (12, 30, false, false), (5, 4127, false, false), (8, 4351, false, false), (9, 4607, true, false), (10, 5119, true, false), (11, 5119, true, false), (13, 6143, false, false), (14, 16383, true, false)]) := by kernel_rfl
theorem plE30_12_4_5_8 : planX opsE30 [0, 0, 0, 0, 4110, 4127, 0, 0, 4351, 4607, 5119, 5119, 0, 6143, 16383] [0, 1, 2, 3, 6, 7, 12, 4, 5, 8, 9, 10, 11, 13, 14] = some (mkPlan opsE30.toList [(0, 0, true, false), (1, 0, true, false), (2, 0, true, false), (3, 0, true, false), (6, 0, true, false), (7, 0, true, false), (12, 0, false, false), (4, 4110, false, false), (5, 4127, false, false), (8, 4351, false, false), (9, 4607, true, false), (10, 5119, true, false), (11, 5119, true, false), (13, 6143, false, false), (14, 16383, true, false)]) := by kernel_rfl
theorem altsE30 {P : Program} {c : FC} {k : List AItem} {id : Nat} {t : Tr AVal} {h : AH} {Q : AM → Prop}
  (g4_5_8_12 : ∀ pl, planX opsE30 [0, 0, 0, 0, 14, 31, 0, 0, 255, 511, 1023, 1023, 511, 6143, 16383] [0, 1, 2, 3, 6, 7, 4, 5, 8, 9, 10, 11, 12, 13, 14] = some pl → GoE P c k Q opsE30 pl (eraseT opsE30.toList t) [] t h)
  (g4_5_12_8 : ∀ pl, planX opsE30 [0, 0, 0, 0, 14, 31, 0, 0, 4351, 4607, 5119, 5119, 63, 6143, 16383] [0, 1, 2, 3, 6, 7, 4, 5, 12, 8, 9, 10, 11, 13, 14] = some pl → GoE P c k Q opsE30 pl (eraseT opsE30.toList t) [] t h)
  (g4_12_5_8 : ∀ pl, planX opsE30 [0, 0, 0, 0, 14, 4127, 0, 0, 4351, 4607, 5119, 5119, 30, 6143, 16383] [0, 1, 2, 3, 6, 7, 4, 12, 5, 8, 9, 10, 11, 13, 14] = some pl → GoE P c k Q opsE30 pl (eraseT opsE30.toList t) [] t h)
  (g12_4_5_8 : ∀ pl, planX opsE30 [0, 0, 0, 0, 4110, 4127, 0, 0, 4351, 4607, 5119, 5119, 0, 6143, 16383] [0, 1, 2, 3, 6, 7, 12, 4, 5, 8, 9, 10, 11, 13, 14] = some pl → GoE P c k Q opsE30 pl (eraseT opsE30.toList t) [] t h) :
  Go P c (.code (.region id opsE30 true) :: k) t h Q := by
 refine Go.drawnX plE30_12_4_5_8 fun s hv => ?_
 have hb := fun i k hi hk => VB.before hv befsE30 i k (by rw [sizeE30]; exact hi) hk
 have h4_1 := hb 4 1 (by decide) (by decide)
 have h4_2 := hb 4 2 (by decide) (by decide)
 have h4_3 := hb 4 3 (by decide) (by decide)
 have h5_0 := hb 5 0 (by decide) (by decide)
 have h5_1 := hb 5 1 (by decide) (by decide)
 have h5_2 := hb 5 2 (by decide) (by decide)
 have h5_3 := hb 5 3 (by decide) (by decide)
 have h5_4 := hb 5 4 (by decide) (by decide)
 have h8_0 := hb 8 0 (by decide) (by decide)
 have h8_1 := hb 8 1 (by decide) (by decide)
 have h8_2 := hb 8 2 (by decide) (by decide)
 have h8_3 := hb 8 3 (by decide) (by decide)
 have h8_4 := hb 8 4 (by decide) (by decide)
 have h8_5 := hb 8 5 (by decide) (by decide)
 have h8_6 := hb 8 6 (by decide) (by decide)
 have h8_7 := hb 8 7 (by decide) (by decide)
 have h9_0 := hb 9 0 (by decide) (by decide)
 have h9_1 := hb 9 1 (by decide) (by decide)
 have h9_2 := hb 9 2 (by decide) (by decide)
 have h9_3 := hb 9 3 (by decide) (by decide)
 have h9_4 := hb 9 4 (by decide) (by decide)
 have h9_5 := hb 9 5 (by decide) (by decide)
 have h9_6 := hb 9 6 (by decide) (by decide)
 have h9_7 := hb 9 7 (by decide) (by decide)
 have h9_8 := hb 9 8 (by decide) (by decide)
 have h10_0 := hb 10 0 (by decide) (by decide)
 have h10_1 := hb 10 1 (by decide) (by decide)
 have h10_2 := hb 10 2 (by decide) (by decide)
 have h10_3 := hb 10 3 (by decide) (by decide)
 have h10_4 := hb 10 4 (by decide) (by decide)
 have h10_5 := hb 10 5 (by decide) (by decide)
 have h10_6 := hb 10 6 (by decide) (by decide)
 have h10_7 := hb 10 7 (by decide) (by decide)
 have h10_8 := hb 10 8 (by decide) (by decide)
 have h10_9 := hb 10 9 (by decide) (by decide)
 have h11_0 := hb 11 0 (by decide) (by decide)
 have h11_1 := hb 11 1 (by decide) (by decide)
 have h11_2 := hb 11 2 (by decide) (by decide)
 have h11_3 := hb 11 3 (by decide) (by decide)
 have h11_4 := hb 11 4 (by decide) (by decide)
 have h11_5 := hb 11 5 (by decide) (by decide)
 have h11_6 := hb 11 6 (by decide) (by decide)
 have h11_7 := hb 11 7 (by decide) (by decide)
 have h11_8 := hb 11 8 (by decide) (by decide)
 have h11_9 := hb 11 9 (by decide) (by decide)
 have d12_4 := VB.apart hv befsE30 12 4 (by rw [sizeE30]; decide) (by decide)
 have d12_5 := VB.apart hv befsE30 12 5 (by rw [sizeE30]; decide) (by decide)
 have d12_8 := VB.apart hv befsE30 12 8 (by rw [sizeE30]; decide) (by decide)
 by_cases q12_4 : s.idxOf 12 < s.idxOf 4
 ·refine ⟨_, _, _, plE30_12_4_5_8, VB.alt hv befsE30 sizeE30 [(12, 4), (12, 5), (12, 8), (12, 9), (12, 10), (12, 11)] (by kernel_rfl) ?_, g12_4_5_8 _ plE30_12_4_5_8⟩
  intro e he
  simp only [List.mem_cons, List.not_mem_nil, or_false] at he
  rcases he with rfl | rfl | rfl | rfl | rfl | rfl <;> dsimp only <;> omega
 ·by_cases q12_5 : s.idxOf 12 < s.idxOf 5
  ·refine ⟨_, _, _, plE30_4_12_5_8, VB.alt hv befsE30 sizeE30 [(12, 5), (12, 8), (12, 9), (12, 10), (12, 11), (1, 12), (2, 12), (3, 12), (4, 12)] (by kernel_rfl) ?_, g4_12_5_8 _ plE30_4_12_5_8⟩
   intro e he
   simp only [List.mem_cons, List.not_mem_nil, or_false] at he
   rcases he with rfl | rfl | rfl | rfl | rfl | rfl | rfl | rfl | rfl <;> dsimp only <;> omega
  ·by_cases q12_8 : s.idxOf 12 < s.idxOf 8
   ·refine ⟨_, _, _, plE30_4_5_12_8, VB.alt hv befsE30 sizeE30 [(12, 8), (12, 9), (12, 10), (12, 11), (0, 12), (1, 12), (2, 12), (3, 12), (4, 12), (5, 12)] (by kernel_rfl) ?_, g4_5_12_8 _ plE30_4_5_12_8⟩
    intro e he
    simp only [List.mem_cons, List.not_mem_nil, or_false] at he
    rcases he with rfl | rfl | rfl | rfl | rfl | rfl | rfl | rfl | rfl | rfl <;> dsimp only <;> omega
   ·refine ⟨_, _, _, plE30_4_5_8_12, VB.alt hv befsE30 sizeE30 [(0, 12), (1, 12), (2, 12), (3, 12), (4, 12), (5, 12), (6, 12), (7, 12), (8, 12)] (by kernel_rfl) ?_, g4_5_8_12 _ plE30_4_5_8_12⟩
    intro e he
    simp only [List.mem_cons, List.not_mem_nil, or_false] at he
    rcases he with rfl | rfl | rfl | rfl | rfl | rfl | rfl | rfl | rfl <;> dsimp only <;> omega
noncomputable def opsE34 : Array Oper := ((drawnOps Tryz.f7)[3]?).getD #[]
theorem befsE34 : befs0 opsE34 = [0, 0, 0, 6, 15, 0, 0, 64, 255, 511, 1023, 1023, 0, 6143, 16383] := by kernel_rfl
theorem sizeE34 : opsE34.size = 15 := by kernel_rfl
theorem plE34_3_4_8_12 : planX opsE34 [0, 0, 0, 6, 15, 0, 0, 64, 255, 511, 1023, 1023, 511, 6143, 16383] [0, 1, 2, 5, 6, 7, 3, 4, 8, 9, 10, 11, 12, 13, 14] = some (mkPlan opsE34.toList [(0, 0, true, false), (1, 0, true, false), (2, 0, true, false), (5, 0, true, false), (6, 0, true, false), (7, 64, true, false), (3, 6, false, false), (4, 15, false, false), (8, 255, false, false), (9, 511, true, false), (10, 1023, true, false), (11, 1023, true, false), (12, 511, false, false), (13, 6143, false, false), (14, 16383, true, false)]) := by kernel_rfl
theorem plE34_3_4_12_8 : planX opsE34 [0, 0, 0, 6, 15, 0, 0, 64, 4351, 4607, 5119, 5119, 31, 6143, 16383] [0, 1, 2, 5, 6, 7, 3, 4, 12, 8, 9, 10, 11, 13, 14] = some (mkPlan opsE34.toList [(0, 0, true, false), (1, 0, true, false), (2, 0, true, false), (5, 0, true, false), (6, 0, true, false), (7, 64, true, false), (3, 6, false, false), (4, 15, false, false), (12, 31, false, false), (8, 4351, false, false), (9, 4607, true, false), (10, 5119, true, false), (11, 5119, true, false), (13, 6143, false, false), (14, 16383, true, false)]) := by kernel_rfl
theorem plE34_3_12_4_8 : planX opsE34 [0, 0, 0, 6, 4111, 0, 0, 64, 4351, 4607, 5119, 5119, 14, 6143, 16383] [0, 1, 2, 5, 6, 7, 3, 12, 4, 8, 9, 10, 11, 13, 14] = some (mkPlan opsE34.toList [(0, 0, true, false), (1, 0, true, false), (2, 0, true, false), (5, 0, true, false), (6, 0, true, false), (7, 64, true, false), (3, 6, false, false), (12, 14, false, false), (4, 4111, false, false), (8, 4351, false, false), (9, 4607, true, false), (10, 5119, true, false), (11, 5119, true, false), (13, 6143, false, false), (14, 16383, true, false)]) := by kernel_rfl
theorem plE34_12_3_4_8 : planX opsE34 [0, 0, 0, 4102, 4111, 0, 0, 64, 4351, 4607, 5119, 5119, 0, 6143, 16383] [0, 1, 2, 5, 6, 7, 12, 3, 4, 8, 9, 10, 11, 13, 14] = some (mkPlan opsE34.toList [(0, 0, true, false), (1, 0, true, false), (2, 0, true, false), (5, 0, true, false), (6, 0, true, false), (7, 64, true, false), (12, 0, false, false), (3, 4102, false, false), (4, 4111, false, false), (8, 4351, false, false), (9, 4607, true, false), (10, 5119, true, false), (11, 5119, true, false), (13, 6143, false, false), (14, 16383, true, false)]) := by kernel_rfl
theorem altsE34 {P : Program} {c : FC} {k : List AItem} {id : Nat} {t : Tr AVal} {h : AH} {Q : AM → Prop}
  (g3_4_8_12 : ∀ pl, planX opsE34 [0, 0, 0, 6, 15, 0, 0, 64, 255, 511, 1023, 1023, 511, 6143, 16383] [0, 1, 2, 5, 6, 7, 3, 4, 8, 9, 10, 11, 12, 13, 14] = some pl → GoE P c k Q opsE34 pl (eraseT opsE34.toList t) [] t h)
  (g3_4_12_8 : ∀ pl, planX opsE34 [0, 0, 0, 6, 15, 0, 0, 64, 4351, 4607, 5119, 5119, 31, 6143, 16383] [0, 1, 2, 5, 6, 7, 3, 4, 12, 8, 9, 10, 11, 13, 14] = some pl → GoE P c k Q opsE34 pl (eraseT opsE34.toList t) [] t h)
  (g3_12_4_8 : ∀ pl, planX opsE34 [0, 0, 0, 6, 4111, 0, 0, 64, 4351, 4607, 5119, 5119, 14, 6143, 16383] [0, 1, 2, 5, 6, 7, 3, 12, 4, 8, 9, 10, 11, 13, 14] = some pl → GoE P c k Q opsE34 pl (eraseT opsE34.toList t) [] t h)
  (g12_3_4_8 : ∀ pl, planX opsE34 [0, 0, 0, 4102, 4111, 0, 0, 64, 4351, 4607, 5119, 5119, 0, 6143, 16383] [0, 1, 2, 5, 6, 7, 12, 3, 4, 8, 9, 10, 11, 13, 14] = some pl → GoE P c k Q opsE34 pl (eraseT opsE34.toList t) [] t h) :
  Go P c (.code (.region id opsE34 true) :: k) t h Q := by
 refine Go.drawnX plE34_12_3_4_8 fun s hv => ?_
 have hb := fun i k hi hk => VB.before hv befsE34 i k (by rw [sizeE34]; exact hi) hk
 have h3_1 := hb 3 1 (by decide) (by decide)
 have h3_2 := hb 3 2 (by decide) (by decide)
 have h4_0 := hb 4 0 (by decide) (by decide)
 have h4_1 := hb 4 1 (by decide) (by decide)
 have h4_2 := hb 4 2 (by decide) (by decide)
 have h4_3 := hb 4 3 (by decide) (by decide)
 have h7_6 := hb 7 6 (by decide) (by decide)
 have h8_0 := hb 8 0 (by decide) (by decide)
 have h8_1 := hb 8 1 (by decide) (by decide)
 have h8_2 := hb 8 2 (by decide) (by decide)
 have h8_3 := hb 8 3 (by decide) (by decide)
 have h8_4 := hb 8 4 (by decide) (by decide)
 have h8_5 := hb 8 5 (by decide) (by decide)
 have h8_6 := hb 8 6 (by decide) (by decide)
 have h8_7 := hb 8 7 (by decide) (by decide)
 have h9_0 := hb 9 0 (by decide) (by decide)
 have h9_1 := hb 9 1 (by decide) (by decide)
 have h9_2 := hb 9 2 (by decide) (by decide)
 have h9_3 := hb 9 3 (by decide) (by decide)
 have h9_4 := hb 9 4 (by decide) (by decide)
 have h9_5 := hb 9 5 (by decide) (by decide)
 have h9_6 := hb 9 6 (by decide) (by decide)
 have h9_7 := hb 9 7 (by decide) (by decide)
 have h9_8 := hb 9 8 (by decide) (by decide)
 have h10_0 := hb 10 0 (by decide) (by decide)
 have h10_1 := hb 10 1 (by decide) (by decide)
 have h10_2 := hb 10 2 (by decide) (by decide)
 have h10_3 := hb 10 3 (by decide) (by decide)
 have h10_4 := hb 10 4 (by decide) (by decide)
 have h10_5 := hb 10 5 (by decide) (by decide)
 have h10_6 := hb 10 6 (by decide) (by decide)
 have h10_7 := hb 10 7 (by decide) (by decide)
 have h10_8 := hb 10 8 (by decide) (by decide)
 have h10_9 := hb 10 9 (by decide) (by decide)
 have h11_0 := hb 11 0 (by decide) (by decide)
 have h11_1 := hb 11 1 (by decide) (by decide)
 have h11_2 := hb 11 2 (by decide) (by decide)
 have h11_3 := hb 11 3 (by decide) (by decide)
 have h11_4 := hb 11 4 (by decide) (by decide)
 have h11_5 := hb 11 5 (by decide) (by decide)
 have h11_6 := hb 11 6 (by decide) (by decide)
 have h11_7 := hb 11 7 (by decide) (by decide)
 have h11_8 := hb 11 8 (by decide) (by decide)
 have h11_9 := hb 11 9 (by decide) (by decide)
 have d12_3 := VB.apart hv befsE34 12 3 (by rw [sizeE34]; decide) (by decide)
 have d12_4 := VB.apart hv befsE34 12 4 (by rw [sizeE34]; decide) (by decide)
 have d12_8 := VB.apart hv befsE34 12 8 (by rw [sizeE34]; decide) (by decide)
 by_cases q12_3 : s.idxOf 12 < s.idxOf 3
 ·refine ⟨_, _, _, plE34_12_3_4_8, VB.alt hv befsE34 sizeE34 [(12, 3), (12, 4), (12, 8), (12, 9), (12, 10), (12, 11)] (by kernel_rfl) ?_, g12_3_4_8 _ plE34_12_3_4_8⟩
  intro e he
  simp only [List.mem_cons, List.not_mem_nil, or_false] at he
  rcases he with rfl | rfl | rfl | rfl | rfl | rfl <;> dsimp only <;> omega
 ·by_cases q12_4 : s.idxOf 12 < s.idxOf 4
  ·refine ⟨_, _, _, plE34_3_12_4_8, VB.alt hv befsE34 sizeE34 [(12, 4), (12, 8), (12, 9), (12, 10), (12, 11), (1, 12), (2, 12), (3, 12)] (by kernel_rfl) ?_, g3_12_4_8 _ plE34_3_12_4_8⟩
   intro e he
   simp only [List.mem_cons, List.not_mem_nil, or_false] at he
   rcases he with rfl | rfl | rfl | rfl | rfl | rfl | rfl | rfl <;> dsimp only <;> omega
  ·by_cases q12_8 : s.idxOf 12 < s.idxOf 8
   ·refine ⟨_, _, _, plE34_3_4_12_8, VB.alt hv befsE34 sizeE34 [(12, 8), (12, 9), (12, 10), (12, 11), (0, 12), (1, 12), (2, 12), (3, 12), (4, 12)] (by kernel_rfl) ?_, g3_4_12_8 _ plE34_3_4_12_8⟩
    intro e he
    simp only [List.mem_cons, List.not_mem_nil, or_false] at he
    rcases he with rfl | rfl | rfl | rfl | rfl | rfl | rfl | rfl | rfl <;> dsimp only <;> omega
   ·refine ⟨_, _, _, plE34_3_4_8_12, VB.alt hv befsE34 sizeE34 [(0, 12), (1, 12), (2, 12), (3, 12), (4, 12), (5, 12), (6, 12), (7, 12), (8, 12)] (by kernel_rfl) ?_, g3_4_8_12 _ plE34_3_4_8_12⟩
    intro e he
    simp only [List.mem_cons, List.not_mem_nil, or_false] at he
    rcases he with rfl | rfl | rfl | rfl | rfl | rfl | rfl | rfl | rfl <;> dsimp only <;> omega
end Go.Proofs.YtkcimfopboelaaaGreat
