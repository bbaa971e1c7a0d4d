import Derived.Test.YtkcimfopboelaaaGreatMAP
import Derived.Test.YtkcimfopboelaaaGreatMAG
import Derived.KernelRfl
import Derived.Test.YtkcimfopboelaaaGreatMAH
import Derived.Test.YtkcimfopboelaaaGreatMAN
import Derived.Test.YtkcimfopboelaaaGreatMAF
namespace Go.Proofs.YtkcimfopboelaaaGreat
open Go Go.AbsE
set_option linter.unusedSimpArgs false
set_option maxRecDepth 100000
set_option maxHeartbeats 0
set_option linter.unusedVariables false
def mkPass (lo hi : Int) : EV := ⟨0, lo, hi, 0, 0, 0, 0⟩
def mkRest (d : Int) : EV := ⟨1, 0, 0, d, 0, 0, 0⟩
def mkLook (p lo hi : Int) : EV := ⟨2, 0, 0, 0, p, lo, hi⟩
def sampleV (E : List EV) : RoadV := ⟨[⟨10, 11, 2, 2, 1, 1, 12⟩, ⟨8, 8, 3, 4, 0, 1, 9⟩], [mkPass 6 6, mkRest 2] ++ E⟩
theorem span33_ok {a b : Int} {h : AH} : Runs Tryz.prog 33 [.int .i64 a, .int .i64 b] h (fun en h' => en = .ret (.agg [.int .i64 a, .int .i64 b]) ∧ Ext h h') := by
 have e0 : Ext h h := Ext.refl _
 refine Runs.intro aFunc33 rfl rfl rfl rfl fun rest => ?_;apply gS;refine gR rfl ?_;refine GoR.alloc rfl rfl rfl zt29 rfl rfl fun h0 x0 f0 => ?_;have := e0.1;replace e0 := e0.trans x0;have := f0.1;apply gE;apply gS;refine gR rfl ?_;iterate 2 refine gP ?_
 refine gO rfl rfl (aOp_build zt29 hu29 pl29 rfl rfl) rfl ?_;refine GoR.store rfl rfl rfl rfl rfl rfl f0 rfl sz29 rfl rfl rfl fun h1 u1 => ?_;replace f0 := u1.has f0;replace e0 := e0.upd u1 (by omega);apply gE;exact gV (ret_end (aResult_of Tryz.func33 rfl (aResults_cell rfl f0 (inCells_agg ag29 sz29 rfl))) ⟨rfl, e0⟩)
theorem look42_ok {p a b : Int} {h : AH} : Runs Tryz.prog 42 [.int .i64 p, .int .i64 a, .int .i64 b] h (fun en h' => en = .ret (.agg (EV.cells (mkLook p a b))) ∧ Ext h h') := by
 unfold mkLook EV.cells
 have e0 : Ext h h := Ext.refl _
 refine Runs.intro aFunc42 rfl rfl rfl rfl fun rest => ?_;apply gS;refine gR rfl ?_;refine GoR.alloc rfl rfl rfl zt62 rfl rfl fun h0 x0 f0 => ?_;have := e0.1;replace e0 := e0.trans x0;have := f0.1;apply gE;apply gS;refine gR rfl ?_;iterate 3 refine gP ?_
 refine GoR.call rfl rfl (aCF aFunc33 rfl) (span33_ok) ?_ np;rintro v1 h1 ⟨q, x1⟩;cases q;refine ⟨_, rfl, ?_⟩;replace f0 := f0.ext x1;replace e0 := e0.trans x1;refine gO rfl rfl (aOp_build zt62 hu62 pl62 rfl rfl) rfl ?_;refine GoR.store rfl rfl rfl rfl rfl rfl f0 rfl sz62 rfl rfl rfl fun h2 u2 => ?_;replace f0 := u2.has f0;replace e0 := e0.upd u2 (by omega);apply gE;exact gV (ret_end (aResult_of Tryz.func42 rfl (aResults_cell rfl f0 (inCells_agg ag62 sz62 rfl))) ⟨rfl, e0⟩)
theorem pass43_ok {a b : Int} {h : AH} : Runs Tryz.prog 43 [.int .i64 a, .int .i64 b] h (fun en h' => en = .ret (.agg (EV.cells (mkPass a b))) ∧ Ext h h') := by
 unfold mkPass EV.cells
 have e0 : Ext h h := Ext.refl _
 refine Runs.intro aFunc43 rfl rfl rfl rfl fun rest => ?_;apply gS;refine gR rfl ?_;refine GoR.alloc rfl rfl rfl zt62 rfl rfl fun h0 x0 f0 => ?_;have := e0.1;replace e0 := e0.trans x0;have := f0.1;apply gE;apply gS;refine gR rfl ?_;iterate 2 refine gP ?_
 refine GoR.call rfl rfl (aCF aFunc33 rfl) (span33_ok) ?_ np;rintro v1 h1 ⟨q, x1⟩;cases q;refine ⟨_, rfl, ?_⟩;replace f0 := f0.ext x1;replace e0 := e0.trans x1;refine gO rfl rfl (aOp_build zt62 hu62 pl62 rfl rfl) rfl ?_;refine GoR.store rfl rfl rfl rfl rfl rfl f0 rfl sz62 rfl rfl rfl fun h2 u2 => ?_;replace f0 := u2.has f0;replace e0 := e0.upd u2 (by omega);apply gE;exact gV (ret_end (aResult_of Tryz.func43 rfl (aResults_cell rfl f0 (inCells_agg ag62 sz62 rfl))) ⟨rfl, e0⟩)
theorem rest45_ok {d : Int} {h : AH} : Runs Tryz.prog 45 [.int .i64 d] h (fun en h' => en = .ret (.agg (EV.cells (mkRest d))) ∧ Ext h h') := by
 unfold mkRest EV.cells
 have e0 : Ext h h := Ext.refl _
 refine Runs.intro aFunc45 rfl rfl rfl rfl fun rest => ?_;apply gS;refine gR rfl ?_;refine GoR.alloc rfl rfl rfl zt62 rfl rfl fun h0 x0 f0 => ?_;have := e0.1;replace e0 := e0.trans x0;have := f0.1;apply gE;apply gS;refine gR rfl ?_;refine gP ?_;refine gO rfl rfl (aOp_build zt62 hu62 pl62 rfl rfl) rfl ?_;refine GoR.store rfl rfl rfl rfl rfl rfl f0 rfl sz62 rfl rfl rfl fun h1 u1 => ?_;replace f0 := u1.has f0;replace e0 := e0.upd u1 (by omega);apply gE;exact gV (ret_end (aResult_of Tryz.func45 rfl (aResults_cell rfl f0 (inCells_agg ag62 sz62 rfl))) ⟨rfl, e0⟩)
theorem evs_seven {L : List EV} : ∀ l, l ∈ L.map EV.cells → l.length = 7 := fun l hl => by
 obtain ⟨e, _, rfl⟩ := List.mem_map.1 hl
 rfl
theorem pvs_slice {h : AH} {b n : Nat} {g : Kd} {el : TypeId} {L : List PV} (hn : L.length = n) (f : Has h b (.cells g (L.flatMap PV.cells) el)) : SliceOf h 7 (.slice b 0 n n) (L.map PV.cells) :=
 SliceOf.mk' rfl rfl f (by rw [List.length_map, hn]) fun i v q => by rw [Nat.zero_add]; exact flatten_at pv_len i v q
theorem evs_slice {h : AH} {b n : Nat} {g : Kd} {el : TypeId} {L : List EV} (hn : L.length = n) (f : Has h b (.cells g (L.flatMap EV.cells) el)) : SliceOf h 7 (.slice b 0 n n) (L.map EV.cells) :=
 SliceOf.mk' rfl rfl f (by rw [List.length_map, hn]) fun i v q => by rw [Nat.zero_add]; exact flatten_at ev_len i v q
theorem scal_two {a b : AVal} (ha : scalars [a] = true) (hb : scalars [b] = true) : scalars [a, b] = true := by
 have h1 : cond (scalar a) (scalars []) false = true := ha
 show cond (scalar a) (scalars [b]) false = true
 cases q : scalar a with
 | true => exact hb
 | false => rw [q] at h1; cases h1
theorem road_scal {h : AH} {R : RoadV} {sp se : AVal} (A : RoadAt h R sp se) : scalars [sp, se] = true := scal_two A.ps.scal.1 A.es.scal.1
def RoadNew (lo : Nat) (h : AH) (R : RoadV) (sp se : AVal) : Prop := FreshS lo h 7 sp (R.ps.map PV.cells) ∧ FreshS lo h 7 se (R.es.map EV.cells)
theorem RoadNew.road {lo : Nat} {h : AH} {R : RoadV} {sp se : AVal} (k : RoadNew lo h R sp se) : RoadAt h R sp se := ⟨k.1.self, k.2.self⟩
theorem RoadNew.upd {lo n : Nat} {B : ABlk} {h h' : AH} {R : RoadV} {sp se : AVal} (k : RoadNew lo h R sp se) (u : Upd h n B h') (hn : n < lo) : RoadNew lo h' R sp se :=
 ⟨k.1.on (Nat.le_of_eq u.1.symm) fun b b1 _ => u.2.2 b (by omega), k.2.on (Nat.le_of_eq u.1.symm) fun b b1 _ => u.2.2 b (by omega)⟩
theorem fresh_pvs {lo : Nat} {h : AH} {b n : Nat} {g : Kd} {el : TypeId} {L : List PV} (hn : L.length = n) (hb : lo ≤ b) (f : Has h b (.cells g (L.flatMap PV.cells) el)) : FreshS lo h 7 (.slice b 0 n n) (L.map PV.cells) := fun h' hl he => pvs_slice hn ⟨Nat.lt_of_lt_of_le f.1 hl, by rw [he b hb f.1]; exact f.2⟩
theorem sample_ok {E : List EV} {s : AVal} {h : AH} (hs : SliceOf h 7 s (E.map EV.cells)) (hn : E.length ≤ 100) : Runs Tryz.prog 32 [s] h (fun en h' => ∃ sp se, en = .ret (.agg [sp, se]) ∧ Ext h h' ∧ RoadNew h.next h' (sampleV E) sp se ∧ Ext h' h') := by
 have p1 : ([⟨10, 11, 2, 2, 1, 1, 12⟩, ⟨8, 8, 3, 4, 0, 1, 9⟩] : List PV).flatMap PV.cells = _ := rfl
 have hpc := fun {h9} => pass43_ok (a := 6) (b := 6) (h := h9)
 have hrc := fun {h9} => rest45_ok (d := 2) (h := h9)
 unfold mkPass EV.cells at hpc
 unfold mkRest EV.cells at hrc
 have e0 : Ext h h := Ext.refl _
 refine Runs.intro aFunc32 rfl rfl rfl rfl fun rest => ?_;apply gS;refine gR rfl ?_;refine GoR.alloc rfl rfl rfl zt25 rfl rfl fun h0 x0 f0 => ?_;have := e0.1;replace e0 := e0.trans x0;have := f0.1;apply gE;apply gS;refine gR rfl ?_;refine GoR.call rfl rfl (aCF aFunc33 rfl) (span33_ok) ?_ np;rintro v1 h1 ⟨q, x1⟩;cases q;refine ⟨_, rfl, ?_⟩;replace f0 := f0.ext x1;replace e0 := e0.trans x1;refine GoR.call rfl rfl (aCF aFunc33 rfl) (span33_ok) ?_ np;rintro v2 h2 ⟨q, x2⟩;cases q;refine ⟨_, rfl, ?_⟩;replace f0 := f0.ext x2;replace e0 := e0.trans x2;refine GoR.call rfl rfl (aCF aFunc33 rfl) (span33_ok) ?_ np;rintro v3 h3 ⟨q, x3⟩;cases q;refine ⟨_, rfl, ?_⟩;replace f0 := f0.ext x3;replace e0 := e0.trans x3;refine gO rfl rfl (aOp_build zt58 hu58 pl58 rfl rfl) rfl ?_;refine GoR.call rfl rfl (aCF aFunc33 rfl) (span33_ok) ?_ np;rintro v4 h4 ⟨q, x4⟩;cases q;refine ⟨_, rfl, ?_⟩;replace f0 := f0.ext x4;replace e0 := e0.trans x4;refine GoR.call rfl rfl (aCF aFunc33 rfl) (span33_ok) ?_ np;rintro v5 h5 ⟨q, x5⟩;cases q;refine ⟨_, rfl, ?_⟩;replace f0 := f0.ext x5;replace e0 := e0.trans x5;refine GoR.call rfl rfl (aCF aFunc33 rfl) (span33_ok) ?_ np;rintro v6 h6 ⟨q, x6⟩;cases q;refine ⟨_, rfl, ?_⟩;replace f0 := f0.ext x6;replace e0 := e0.trans x6;refine gO rfl rfl (aOp_build zt58 hu58 pl58 rfl rfl) rfl ?_;refine GoR.buildSl rfl rfl (ps := [(0, .agg [.int .i64 10, .int .i64 11, .int .i64 2, .int .i64 2, .int .i64 1, .int .i64 1, .int .i64 12]), (1, .agg [.int .i64 8, .int .i64 8, .int .i64 3, .int .i64 4, .int .i64 0, .int .i64 1, .int .i64 9])]) (cs := ([⟨10, 11, 2, 2, 1, 1, 12⟩, ⟨8, 8, 3, 4, 0, 1, 9⟩] : List PV).flatMap PV.cells) Tryz.underlying22 rfl sz58 zt58 rfl rfl rfl rfl fun h7 x7 f7 => ?_;have := e0.1;have := f0.1;replace f0 := f0.ext x7;replace e0 := e0.trans x7;have := f7.1;refine GoR.call rfl rfl (aCF aFunc43 rfl) (hpc) ?_ np;rintro v8 h8 ⟨q, x8⟩;cases q;refine ⟨_, rfl, ?_⟩;replace f7 := f7.ext x8;replace f0 := f0.ext x8;replace e0 := e0.trans x8;refine GoR.call rfl rfl (aCF aFunc45 rfl) (hrc) ?_ np;rintro v9 h9 ⟨q, x9⟩;cases q;refine ⟨_, rfl, ?_⟩;replace f7 := f7.ext x9;replace f0 := f0.ext x9;replace e0 := e0.trans x9;refine GoR.buildSl rfl rfl (ps := [(0, .agg [.int .i64 0, .int .i64 6, .int .i64 6, .int .i64 0, .int .i64 0, .int .i64 0, .int .i64 0]), (1, .agg [.int .i64 1, .int .i64 0, .int .i64 0, .int .i64 2, .int .i64 0, .int .i64 0, .int .i64 0])]) (cs := ([mkPass 6 6, mkRest 2].map EV.cells).flatten) Tryz.underlying23 rfl sz62 zt62 rfl rfl rfl rfl fun h10 x10 f10 => ?_;have := e0.1;have := f7.1;have := f0.1;replace f7 := f7.ext x10;replace f0 := f0.ext x10;replace e0 := e0.trans x10;have := f10.1;refine gP ?_
 have hb0 := f0.1
 have hsl := hs.ext e0
 have hps := pvs_slice (L := [⟨10, 11, 2, 2, 1, 1, 12⟩, ⟨8, 8, 3, 4, 0, 1, 9⟩]) rfl f7
 refine GoR.appendFull (Lx := [mkPass 6 6, mkRest 2].map EV.cells) rfl rfl Tryz.underlying23 Tryz.underlying23 sz62 by62 zt62 rfl rfl rfl f10 rfl rfl evs_seven rfl hsl evs_seven (by rw [List.length_map]; omega) rfl rfl fun s11 h11 x11 S11 => ?_;replace f0 := f0.ext x11;replace f7 := f7.ext x11;replace e0 := e0.trans x11
 rw [← List.map_append] at S11
 have hs11 := S11.self.scal
 have h1' : cond (scalar s11) (scalars []) false = true := hs11.1
 have hsc : scalar s11 = true := by
  cases q : scalar s11 with
  | true => rfl
  | false => rw [q] at h1'; cases h1'
 have hx11 := x11.1
 have RN : RoadNew (h.next + 1) h11 (sampleV E) (.slice h6.next 0 2 2) s11 := ⟨fresh_pvs (L := [⟨10, 11, 2, 2, 1, 1, 12⟩, ⟨8, 8, 3, 4, 0, 1, 9⟩]) rfl (by omega) f7, fun h' hl he => S11 h' hl fun b b1 b2 => he b (by omega) b2⟩
 refine gO rfl rfl (aOp_build (ps := [(0, .slice h6.next 0 2 2), (1, s11)]) (cs := [.slice h6.next 0 2 2, s11]) zt25 hu25 pl25 rfl (by simp [aFillA, hs11.2, cells_agg, splice]; rfl)) rfl ?_;refine GoR.store rfl rfl rfl rfl rfl rfl f0 rfl sz25 rfl (by show cond true (cond (scalar s11) true false) false = true; rw [hsc]; rfl) rfl fun h12 u12 => ?_;replace f0 := u12.has f0;replace e0 := e0.upd u12 (by omega);apply gE
 have hr := RN.upd u12 (Nat.lt_succ_self _)
 exact gV (ret_end (aResult_of Tryz.func32 rfl (aResults_cell rfl f0 (inCells_agg ag25 sz25 rfl))) ⟨_, _, rfl, e0, ⟨fun h' hl he => hr.1 h' hl fun b b1 b2 => he b (by omega) b2, fun h' hl he => hr.2 h' hl fun b b1 b2 => he b (by omega) b2⟩, Ext.refl _⟩)
theorem seen_ok {h : AH} : Runs Tryz.prog 34 [] h (fun en h' => ∃ sp se, en = .ret (.agg [sp, se]) ∧ Ext h h' ∧ RoadAt h' (sampleV [mkLook 1 7 9]) sp se ∧ Ext h' h') := by
 have hlk := fun {h9} => look42_ok (p := 1) (a := 7) (b := 9) (h := h9)
 unfold mkLook EV.cells at hlk
 have e0 : Ext h h := Ext.refl _
 refine Runs.intro aFunc34 rfl rfl rfl rfl fun rest => ?_;apply gS;refine gR rfl ?_;refine GoR.alloc rfl rfl rfl zt25 rfl rfl fun h0 x0 f0 => ?_;have := e0.1;replace e0 := e0.trans x0;have := f0.1;apply gE;apply gS;refine gR rfl ?_;refine GoR.call rfl rfl (aCF aFunc42 rfl) (hlk) ?_ np;rintro v1 h1 ⟨q, x1⟩;cases q;refine ⟨_, rfl, ?_⟩;replace f0 := f0.ext x1;replace e0 := e0.trans x1;refine GoR.buildSl rfl rfl (ps := [(0, .agg [.int .i64 2, .int .i64 0, .int .i64 0, .int .i64 0, .int .i64 1, .int .i64 7, .int .i64 9])]) (cs := [mkLook 1 7 9].flatMap EV.cells) Tryz.underlying23 rfl sz62 zt62 rfl rfl rfl rfl fun h2 x2 f2 => ?_;have := e0.1;have := f0.1;replace f0 := f0.ext x2;replace e0 := e0.trans x2;have := f2.1;refine GoR.call rfl rfl (aCF aFunc32 rfl) (sample_ok (evs_slice (L := [mkLook 1 7 9]) rfl (by assumption)) (by decide)) ?_ (by rintro _ _ ⟨sp, se, q, _, RA, e9⟩; cases q);rintro v3 h3 ⟨sp, se, q, x3, RA, e9⟩;cases q;refine ⟨_, rfl, ?_⟩;have := e0.1;replace f2 := f2.ext x3;replace f0 := f0.ext x3;replace e0 := e0.trans x3;refine GoR.store rfl rfl rfl rfl rfl rfl f0 rfl sz25 rfl (road_scal RA.road) rfl fun h4 u4 => ?_;replace f2 := f2.upd u4 (by omega);replace f0 := u4.has f0;clear e9;replace e0 := e0.upd u4 (by omega);apply gE;exact gV (ret_end (aResult_of Tryz.func34 rfl (aResults_cell rfl f0 (inCells_agg ag25 sz25 rfl))) ⟨_, _, rfl, e0, (RA.upd (by assumption) (by omega)).road, Ext.refl _⟩)
theorem clash_ok {h : AH} : Runs Tryz.prog 35 [] h (fun en h' => ∃ sp se, en = .ret (.agg [sp, se]) ∧ Ext h h' ∧ RoadAt h' (sampleV [mkLook 1 7 9, mkLook 1 6 6]) sp se ∧ Ext h' h') := by
 have hlk := fun {h9} => look42_ok (p := 1) (a := 7) (b := 9) (h := h9)
 have hlk2 := fun {h9} => look42_ok (p := 1) (a := 6) (b := 6) (h := h9)
 unfold mkLook EV.cells at hlk hlk2
 have e0 : Ext h h := Ext.refl _
 refine Runs.intro aFunc35 rfl rfl rfl rfl fun rest => ?_;apply gS;refine gR rfl ?_;refine GoR.alloc rfl rfl rfl zt25 rfl rfl fun h0 x0 f0 => ?_;have := e0.1;replace e0 := e0.trans x0;have := f0.1;apply gE;apply gS;refine gR rfl ?_;refine GoR.call rfl rfl (aCF aFunc42 rfl) (hlk) ?_ np;rintro v1 h1 ⟨q, x1⟩;cases q;refine ⟨_, rfl, ?_⟩;replace f0 := f0.ext x1;replace e0 := e0.trans x1;refine GoR.call rfl rfl (aCF aFunc42 rfl) (hlk2) ?_ np;rintro v2 h2 ⟨q, x2⟩;cases q;refine ⟨_, rfl, ?_⟩;replace f0 := f0.ext x2;replace e0 := e0.trans x2;refine GoR.buildSl rfl rfl (ps := [(0, .agg [.int .i64 2, .int .i64 0, .int .i64 0, .int .i64 0, .int .i64 1, .int .i64 7, .int .i64 9]), (1, .agg [.int .i64 2, .int .i64 0, .int .i64 0, .int .i64 0, .int .i64 1, .int .i64 6, .int .i64 6])]) (cs := [mkLook 1 7 9, mkLook 1 6 6].flatMap EV.cells) Tryz.underlying23 rfl sz62 zt62 rfl rfl rfl rfl fun h3 x3 f3 => ?_;have := e0.1;have := f0.1;replace f0 := f0.ext x3;replace e0 := e0.trans x3;have := f3.1;refine GoR.call rfl rfl (aCF aFunc32 rfl) (sample_ok (evs_slice (L := [mkLook 1 7 9, mkLook 1 6 6]) rfl (by assumption)) (by decide)) ?_ (by rintro _ _ ⟨sp, se, q, _, RA, e9⟩; cases q);rintro v4 h4 ⟨sp, se, q, x4, RA, e9⟩;cases q;refine ⟨_, rfl, ?_⟩;have := e0.1;replace f3 := f3.ext x4;replace f0 := f0.ext x4;replace e0 := e0.trans x4;refine GoR.store rfl rfl rfl rfl rfl rfl f0 rfl sz25 rfl (road_scal RA.road) rfl fun h5 u5 => ?_;replace f3 := f3.upd u5 (by omega);replace f0 := u5.has f0;clear e9;replace e0 := e0.upd u5 (by omega);apply gE;exact gV (ret_end (aResult_of Tryz.func35 rfl (aResults_cell rfl f0 (inCells_agg ag25 sz25 rfl))) ⟨_, _, rfl, e0, (RA.upd (by assumption) (by omega)).road, Ext.refl _⟩)
theorem v_h1 : (sampleV []).heightR 1 1 = ((6, 8), 0) := by decide +kernel
theorem v_s1 : (sampleV []).sinksR 1 8 = ((2, 3), 0) := by decide +kernel
theorem v_b1 : (sampleV []).bearsR 20 = (1, 0) := by decide +kernel
theorem v_m1 : (sampleV []).mostR = (18, 0) := by decide +kernel
theorem v_r1 : (sampleV [mkLook 1 7 9]).restR 20 = (1, 0) := by decide +kernel
theorem v_w1 : (sampleV []).belowR = ((0, 0), 0) := by decide +kernel
theorem v_k1 : (sampleV []).weakR = (1, 0) := by decide +kernel
theorem v_c1 : (sampleV [mkLook 1 7 9, mkLook 1 6 6]).clashR = (12, 0) := by decide +kernel
end Go.Proofs.YtkcimfopboelaaaGreat

namespace Go.Proofs.YtkcimfopboelaaaGreat
open Go Go.AbsE
set_option linter.unusedSimpArgs false
set_option maxRecDepth 100000
set_option maxHeartbeats 0
set_option linter.unusedVariables false
theorem sample_of {h : AH} : Runs Tryz.prog 32 [.nilslice] h (fun en h' => ∃ sp se, en = .ret (.agg [sp, se]) ∧ Ext h h' ∧ RoadAt h' (sampleV []) sp se ∧ Ext h' h') := (sample_ok (E := []) .nil (by decide)).mono fun _ _ ⟨sp, se, a, b, c, d⟩ => ⟨sp, se, a, b, c.road, d⟩
theorem spanT29 : SpanT Tryz.prog 29 := ⟨⟨_, _, Tryz.underlying29, by decide, by decide, rfl, rfl, ⟨_, Tryz.underlying3⟩, ⟨_, Tryz.underlying3⟩⟩, by kernel_rfl, by kernel_rfl⟩
theorem cv_h1 {h : AH} {sp se : AVal} (A : RoadAt h (sampleV []) sp se) : Runs Tryz.prog 15 [.agg [sp, se], .int .i64 1, .int .i64 1] h (fun en h' => en = .ret (.tuple [.agg [.int .i64 6, .int .i64 8], .int .i64 0]) ∧ Ext h h') := by
 have q := Height_ok A (by decide) (by decide) 1 1
 rw [v_h1] at q;exact q
theorem cv_s1 {h : AH} {sp se : AVal} (A : RoadAt h (sampleV []) sp se) : Runs Tryz.prog 17 [.agg [sp, se], .int .i64 1, .int .i64 8] h (fun en h' => en = .ret (.tuple [.agg [.int .i64 2, .int .i64 3], .int .i64 0]) ∧ Ext h h') := by
 have q := Sinks_ok A (by decide) (by decide) 1 8
 rw [v_s1] at q;exact q
theorem cv_b1 {h : AH} {sp se : AVal} (A : RoadAt h (sampleV []) sp se) : Runs Tryz.prog 19 [.agg [sp, se], .int .i64 20] h (fun en h' => en = .ret (.tuple [.int .i64 1, .int .i64 0]) ∧ Ext h h') := by
 have q := Bears_ok A (by decide) (by decide) 20
 rw [v_b1] at q;exact q
theorem cv_m1 {h : AH} {sp se : AVal} (A : RoadAt h (sampleV []) sp se) : Runs Tryz.prog 24 [.agg [sp, se]] h (fun en h' => en = .ret (.tuple [.int .i64 18, .int .i64 0]) ∧ Ext h h') := by
 have q := Most_ok A (by decide) (by decide)
 rw [v_m1] at q;exact q
theorem cv_r1 {h : AH} {sp se : AVal} (A : RoadAt h (sampleV [mkLook 1 7 9]) sp se) : Runs Tryz.prog 26 [.agg [sp, se], .int .i64 20] h (fun en h' => en = .ret (.tuple [.int .i64 1, .int .i64 0]) ∧ Ext h h') := by
 have q := Rest_ok A (by decide) (by decide) 20
 rw [v_r1] at q;exact q
theorem cv_w1 {h : AH} {sp se : AVal} (A : RoadAt h (sampleV []) sp se) : Runs Tryz.prog 21 [.agg [sp, se]] h (fun en h' => en = .ret (.tuple [.int .i64 0, .int .i64 0, .int .i64 0]) ∧ Ext h h') := by
 have q := Below_ok A (by decide) (by decide)
 rw [v_w1] at q;exact q
theorem cv_k1 {h : AH} {sp se : AVal} (A : RoadAt h (sampleV []) sp se) : Runs Tryz.prog 28 [.agg [sp, se]] h (fun en h' => en = .ret (.tuple [.int .i64 1, .int .i64 0]) ∧ Ext h h') := by
 have q := Weak_ok A (by decide) (by decide)
 rw [v_k1] at q;exact q
theorem cv_c1 {h : AH} {sp se : AVal} (A : RoadAt h (sampleV [mkLook 1 7 9, mkLook 1 6 6]) sp se) : Runs Tryz.prog 30 [.agg [sp, se]] h (fun en h' => en = .ret (.tuple [.int .i64 12, .int .i64 0]) ∧ Ext h h') := by
 have q := Clash_ok A (by decide) (by decide)
 rw [v_c1] at q;exact q
theorem alive_ok {h : AH} : Runs Tryz.prog 14 [] h (fun en h' => en = .ret (.bool true) ∧ Ext h h') := by
 have e0 : Ext h h := Ext.refl _
 refine Runs.intro aFunc14 rfl rfl rfl rfl fun rest => ?_;apply gS;refine gR rfl ?_;refine gP ?_;apply gE;apply gS;refine gR rfl ?_;refine GoR.call rfl rfl (aCF aFunc32 rfl) (sample_of) ?_ (by rintro _ _ ⟨sp0, se0, q, _, RA0, e900⟩; cases q);rintro v0 h0 ⟨sp0, se0, q, x0, RA0, e900⟩;cases q;refine ⟨_, rfl, ?_⟩;have := e0.1;replace e0 := e0.trans x0;refine GoR.call rfl rfl (aCF aFunc15 rfl) (cv_h1 (RA0.ext e900)) ?_ np;rintro v1 h1 ⟨q, x1⟩;cases q;refine ⟨_, rfl, ?_⟩;replace e900 := e900.trans x1;replace e0 := e0.trans x1;iterate 3 refine gP ?_
 refine GoR.alloc rfl rfl rfl zt29 rfl rfl fun h2 x2 f2 => ?_;have := e900.1;have := e0.1;replace e900 := e900.trans x2;replace e0 := e0.trans x2;have := f2.1;refine GoR.store rfl rfl rfl rfl rfl rfl f2 rfl sz29 rfl rfl rfl fun h3 u3 => ?_;replace f2 := u3.has f2;replace e900 := e900.upd u3 (by omega);replace e0 := e0.upd u3 (by omega);refine gP ?_;apply gE;apply gS;refine gR rfl ?_;refine GoR.call rfl rfl (aCF aFunc32 rfl) (sample_of) ?_ (by rintro _ _ ⟨sp1, se1, q, _, RA1, e901⟩; cases q);rintro v4 h4 ⟨sp1, se1, q, x4, RA1, e901⟩;cases q;refine ⟨_, rfl, ?_⟩;have := e900.1;have := e0.1;replace f2 := f2.ext x4;replace e900 := e900.trans x4;replace e0 := e0.trans x4;refine GoR.call rfl rfl (aCF aFunc17 rfl) (cv_s1 (RA1.ext e901)) ?_ np;rintro v5 h5 ⟨q, x5⟩;cases q;refine ⟨_, rfl, ?_⟩;replace f2 := f2.ext x5;replace e901 := e901.trans x5;replace e900 := e900.trans x5;replace e0 := e0.trans x5;iterate 3 refine gP ?_
 refine GoR.alloc rfl rfl rfl zt29 rfl rfl fun h6 x6 f6 => ?_;have := e901.1;have := e900.1;have := e0.1;have := f2.1;replace f2 := f2.ext x6;replace e901 := e901.trans x6;replace e900 := e900.trans x6;replace e0 := e0.trans x6;have := f6.1;refine GoR.store rfl rfl rfl rfl rfl rfl f6 rfl sz29 rfl rfl rfl fun h7 u7 => ?_;replace f6 := u7.has f6;replace f2 := f2.upd u7 (by omega);replace e901 := e901.upd u7 (by omega);replace e900 := e900.upd u7 (by omega);replace e0 := e0.upd u7 (by omega);refine gP ?_;apply gE;apply gS;refine gR rfl ?_;refine GoR.call rfl rfl (aCF aFunc32 rfl) (sample_of) ?_ (by rintro _ _ ⟨sp2, se2, q, _, RA2, e902⟩; cases q);rintro v8 h8 ⟨sp2, se2, q, x8, RA2, e902⟩;cases q;refine ⟨_, rfl, ?_⟩;have := e901.1;have := e900.1;have := e0.1;replace f6 := f6.ext x8;replace f2 := f2.ext x8;replace e901 := e901.trans x8;replace e900 := e900.trans x8;replace e0 := e0.trans x8;refine GoR.call rfl rfl (aCF aFunc19 rfl) (cv_b1 (RA2.ext e902)) ?_ np;rintro v9 h9 ⟨q, x9⟩;cases q;refine ⟨_, rfl, ?_⟩;replace f6 := f6.ext x9;replace f2 := f2.ext x9;replace e902 := e902.trans x9;replace e901 := e901.trans x9;replace e900 := e900.trans x9;replace e0 := e0.trans x9;iterate 5 refine gP ?_
 apply gE;apply gS;refine gR rfl ?_;refine GoR.call rfl rfl (aCF aFunc32 rfl) (sample_of) ?_ (by rintro _ _ ⟨sp3, se3, q, _, RA3, e903⟩; cases q);rintro v10 h10 ⟨sp3, se3, q, x10, RA3, e903⟩;cases q;refine ⟨_, rfl, ?_⟩;have := e902.1;have := e901.1;have := e900.1;have := e0.1;replace f6 := f6.ext x10;replace f2 := f2.ext x10;replace e902 := e902.trans x10;replace e901 := e901.trans x10;replace e900 := e900.trans x10;replace e0 := e0.trans x10;refine GoR.call rfl rfl (aCF aFunc24 rfl) (cv_m1 (RA3.ext e903)) ?_ np;rintro v11 h11 ⟨q, x11⟩;cases q;refine ⟨_, rfl, ?_⟩;replace f6 := f6.ext x11;replace f2 := f2.ext x11;replace e903 := e903.trans x11;replace e902 := e902.trans x11;replace e901 := e901.trans x11;replace e900 := e900.trans x11;replace e0 := e0.trans x11;iterate 5 refine gP ?_
 apply gE;apply gS;refine gR rfl ?_;refine GoR.call rfl rfl (aCF aFunc34 rfl) (seen_ok) ?_ (by rintro _ _ ⟨sp4, se4, q, _, RA4, e904⟩; cases q);rintro v12 h12 ⟨sp4, se4, q, x12, RA4, e904⟩;cases q;refine ⟨_, rfl, ?_⟩;have := e903.1;have := e902.1;have := e901.1;have := e900.1;have := e0.1;replace f6 := f6.ext x12;replace f2 := f2.ext x12;replace e903 := e903.trans x12;replace e902 := e902.trans x12;replace e901 := e901.trans x12;replace e900 := e900.trans x12;replace e0 := e0.trans x12;refine GoR.call rfl rfl (aCF aFunc26 rfl) (cv_r1 (RA4.ext e904)) ?_ np;rintro v13 h13 ⟨q, x13⟩;cases q;refine ⟨_, rfl, ?_⟩;replace f6 := f6.ext x13;replace f2 := f2.ext x13;replace e904 := e904.trans x13;replace e903 := e903.trans x13;replace e902 := e902.trans x13;replace e901 := e901.trans x13;replace e900 := e900.trans x13;replace e0 := e0.trans x13;iterate 5 refine gP ?_
 apply gE;apply gS;refine gR rfl ?_;refine GoR.call rfl rfl (aCF aFunc32 rfl) (sample_of) ?_ (by rintro _ _ ⟨sp5, se5, q, _, RA5, e905⟩; cases q);rintro v14 h14 ⟨sp5, se5, q, x14, RA5, e905⟩;cases q;refine ⟨_, rfl, ?_⟩;have := e904.1;have := e903.1;have := e902.1;have := e901.1;have := e900.1;have := e0.1;replace f6 := f6.ext x14;replace f2 := f2.ext x14;replace e904 := e904.trans x14;replace e903 := e903.trans x14;replace e902 := e902.trans x14;replace e901 := e901.trans x14;replace e900 := e900.trans x14;replace e0 := e0.trans x14;refine GoR.call rfl rfl (aCF aFunc21 rfl) (cv_w1 (RA5.ext e905)) ?_ np;rintro v15 h15 ⟨q, x15⟩;cases q;refine ⟨_, rfl, ?_⟩;replace f6 := f6.ext x15;replace f2 := f2.ext x15;replace e905 := e905.trans x15;replace e904 := e904.trans x15;replace e903 := e903.trans x15;replace e902 := e902.trans x15;replace e901 := e901.trans x15;replace e900 := e900.trans x15;replace e0 := e0.trans x15;iterate 7 refine gP ?_
 apply gE;apply gS;refine gR rfl ?_;refine GoR.call rfl rfl (aCF aFunc32 rfl) (sample_of) ?_ (by rintro _ _ ⟨sp6, se6, q, _, RA6, e906⟩; cases q);rintro v16 h16 ⟨sp6, se6, q, x16, RA6, e906⟩;cases q;refine ⟨_, rfl, ?_⟩;have := e905.1;have := e904.1;have := e903.1;have := e902.1;have := e901.1;have := e900.1;have := e0.1;replace f6 := f6.ext x16;replace f2 := f2.ext x16;replace e905 := e905.trans x16;replace e904 := e904.trans x16;replace e903 := e903.trans x16;replace e902 := e902.trans x16;replace e901 := e901.trans x16;replace e900 := e900.trans x16;replace e0 := e0.trans x16;refine GoR.call rfl rfl (aCF aFunc28 rfl) (cv_k1 (RA6.ext e906)) ?_ np;rintro v17 h17 ⟨q, x17⟩;cases q;refine ⟨_, rfl, ?_⟩;replace f6 := f6.ext x17;replace f2 := f2.ext x17;replace e906 := e906.trans x17;replace e905 := e905.trans x17;replace e904 := e904.trans x17;replace e903 := e903.trans x17;replace e902 := e902.trans x17;replace e901 := e901.trans x17;replace e900 := e900.trans x17;replace e0 := e0.trans x17;iterate 5 refine gP ?_
 apply gE;apply gS;refine gR rfl ?_;refine GoR.call rfl rfl (aCF aFunc35 rfl) (clash_ok) ?_ (by rintro _ _ ⟨sp7, se7, q, _, RA7, e907⟩; cases q);rintro v18 h18 ⟨sp7, se7, q, x18, RA7, e907⟩;cases q;refine ⟨_, rfl, ?_⟩;have := e906.1;have := e905.1;have := e904.1;have := e903.1;have := e902.1;have := e901.1;have := e900.1;have := e0.1;replace f6 := f6.ext x18;replace f2 := f2.ext x18;replace e0 := e0.trans x18;refine GoR.call rfl rfl (aCF aFunc30 rfl) (cv_c1 (RA7.ext e907)) ?_ np;rintro v19 h19 ⟨q, x19⟩;cases q;refine ⟨_, rfl, ?_⟩;replace f6 := f6.ext x19;replace f2 := f2.ext x19;replace e0 := e0.trans x19;iterate 5 refine gP ?_
 apply gE;apply gS;refine Go.drawnE plan14_0 ?_;refine gQ rfl rfl (ld29 rfl f2 rfl) rfl ?_;refine GoE.call rfl rfl (aCF aFunc33 rfl) (span33_ok) (dK 0 0 rfl) ?_ np;rintro v20 h20 ⟨q, x20⟩;cases q;replace f6 := f6.ext x20;replace f2 := f2.ext x20;replace e0 := e0.trans x20;refine ⟨(rck (h2 := h20) rfl (ld29 rfl f2 rfl) recheck_nil), _, rfl, ?_⟩;refine gQ rfl rfl (aOp_eqlSpan spanT29 rfl rfl (r := true) rfl) rfl ?_;iterate 2 refine gQ rfl rfl rfl rfl ?_
 refine gQ rfl rfl (kET rfl rfl) rfl ?_;iterate 2 refine gQ rfl rfl rfl rfl ?_
 refine gQ rfl rfl (ld29 rfl f6 rfl) rfl ?_;refine GoE.call rfl rfl (aCF aFunc33 rfl) (span33_ok) (dK 255 8 (dD 255 7 (dD 255 6 (dD 255 5 (dD 255 4 (dD 255 3 (dD 255 2 (dD 255 0 rfl)))))))) ?_ np;rintro v21 h21 ⟨q, x21⟩;cases q;replace f6 := f6.ext x21;replace e0 := e0.trans x21;refine ⟨(rck (h2 := h21) rfl (ld29 rfl f6 rfl) recheck_nil), _, rfl, ?_⟩;refine gQ rfl rfl (aOp_eqlSpan spanT29 rfl rfl (r := true) rfl) rfl ?_;iterate 3 refine gQ rfl rfl rfl rfl ?_
 refine gQ rfl rfl (kET rfl rfl) rfl ?_;iterate 3 refine gQ rfl rfl rfl rfl ?_
 refine gQ rfl rfl (kET rfl rfl) rfl ?_;iterate 3 refine gQ rfl rfl rfl rfl ?_
 refine gQ rfl rfl (kET rfl rfl) rfl ?_;iterate 3 refine gQ rfl rfl rfl rfl ?_
 refine gQ rfl rfl (kET rfl rfl) rfl ?_;iterate 3 refine gQ rfl rfl rfl rfl ?_
 refine gQ rfl rfl (kET rfl rfl) rfl ?_;iterate 3 refine gQ rfl rfl rfl rfl ?_
 refine gQ rfl rfl (kET rfl rfl) rfl ?_;iterate 3 refine gQ rfl rfl rfl rfl ?_
 refine gQ rfl rfl (kET rfl rfl) rfl ?_;iterate 3 refine gQ rfl rfl rfl rfl ?_
 refine gQ rfl rfl (kET rfl rfl) rfl ?_;iterate 3 refine gQ rfl rfl rfl rfl ?_
 refine gQ rfl rfl (kET rfl rfl) rfl ?_;iterate 3 refine gQ rfl rfl rfl rfl ?_
 refine gQ rfl rfl (kET rfl rfl) rfl ?_;iterate 3 refine gQ rfl rfl rfl rfl ?_
 refine gQ rfl rfl (kET rfl rfl) rfl ?_;iterate 3 refine gQ rfl rfl rfl rfl ?_
 refine gQ rfl rfl (kET rfl rfl) rfl ?_;iterate 3 refine gQ rfl rfl rfl rfl ?_
 refine gQ rfl rfl (kET rfl rfl) rfl ?_;iterate 3 refine gQ rfl rfl rfl rfl ?_
 refine gQ rfl rfl (kET rfl rfl) rfl ?_;iterate 2 refine gQ rfl rfl rfl rfl ?_
 refine GoE.end rfl ?_;exact gW Tryz.func14 rfl rfl ⟨rfl, e0⟩
end Go.Proofs.YtkcimfopboelaaaGreat

namespace Go.Proofs.YtkcimfopboelaaaGreat
open Go Go.AbsE
set_option linter.unusedSimpArgs false
set_option maxRecDepth 100000
set_option maxHeartbeats 0
set_option linter.unusedVariables false
end Go.Proofs.YtkcimfopboelaaaGreat

namespace Go.Proofs.YtkcimfopboelaaaGreat
open Go Go.AbsE
set_option linter.unusedSimpArgs false
set_option maxHeartbeats 0
set_option linter.unusedVariables false
def Ft.on (f : Ft) (e : EV) (k : Int) : Ft := ⟨e.after f.x k, f.hs ++ [(e.after f.x k).height]⟩
theorem fateGo_plus {part : Int} {e : EV} {k : Int} : ∀ {l : List (EV × Int)} {x : Pc} {hs : List Int}, fateGo part (l ++ [(e, k)]) x hs = (fateGo part l x hs).bind fun f => if e.right part (e.after f.x k) then some (f.on e k) else none
 | [], x, hs => rfl
 | z :: l, x, hs => by
  show fateGo part (z :: (l ++ [(e, k)])) x hs = _
  unfold fateGo
  by_cases q : z.1.right part (z.1.after x z.2) = true
  ·rw [if_pos q, if_pos q];exact fateGo_plus
  ·rw [if_neg q, if_neg q]
   rfl
theorem fateV_plus {es : List EV} {e : EV} {k part : Int} {x : Pc} {ls : List Int} (hl : ls.length = es.length) : fateV (es ++ [e]) part x (ls ++ [k]) = (fateV es part x ls).bind fun f => if e.right part (e.after f.x k) then some (f.on e k) else none := by
 unfold fateV
 rw [List.zip_append hl.symm];exact fateGo_plus
theorem upto_one (k : Int) : upto k k = [k] := by
 unfold upto
 have : (k - k + 1).toNat = 1 := by omega
 rw [this]
 show [k + ((0 : Nat) : Int)] = [k]
 simp
theorem always_iff {R : RoadV} {s : Ft → Bool} : alwaysV R.known s = true ↔ ∀ i f, f ∈ atPart R.known i → s f = true := by
 unfold alwaysV
 simp only [List.all_eq_true]
 constructor
 ·intro h i f hf
  obtain ⟨parts, fs, h1, h2, h3⟩ := mem_atPart.1 hf
  exact h parts h1 fs (List.mem_of_getElem? h2) f h3
 ·intro h parts h1 fs h2 f h3
  obtain ⟨i, hi⟩ := List.getElem?_of_mem h2
  exact h i f (mem_atPart.2 ⟨parts, fs, h1, hi, h3⟩)
theorem known_ne {R : RoadV} (h : R.possible = true) : R.known ≠ [] := by
 unfold RoadV.possible at h
 unfold RoadV.known
 intro q
 rw [List.map_eq_nil_iff] at q;rw [q] at h;cases h
theorem always_perhaps {R : RoadV} (h : R.possible = true) {s : Ft → Bool} (k : alwaysV R.known s = true) : perhapsV R.known s = true := by
 cases q : R.known with
 | nil => exact absurd q (known_ne h)
 | cons parts r =>
  have hp : parts ∈ R.known := by rw [q]; exact .head _
  rw [← q]
  unfold alwaysV at k
  unfold perhapsV
  simp only [List.any_eq_true, List.all_eq_true] at k ⊢
  refine ⟨parts, hp, fun fs hfs => ?_⟩
  cases q2 : fs with
  | nil => exact absurd q2 ((known_parts hp).2 fs hfs)
  | cons f r2 => exact ⟨f, .head _, k parts hp fs hfs f (by rw [q2]; exact .head _)⟩
theorem rested_zero {x : Pc} {lo : Int} (hx : x.In lo) : x.rested 0 = x := by
 unfold Pc.rested
 have := hx.h.2
 rw [show min (x.height + 0 * x.rise) x.full = x.height by rw [Int.zero_mul]; omega]
end Go.Proofs.YtkcimfopboelaaaGreat

namespace Go.Proofs.YtkcimfopboelaaaGreat
open Go Go.AbsE
set_option linter.unusedSimpArgs false
set_option maxRecDepth 100000
set_option maxHeartbeats 0
set_option linter.unusedVariables false
end Go.Proofs.YtkcimfopboelaaaGreat

namespace Go.Proofs.YtkcimfopboelaaaGreat
open Go Go.AbsE
set_option linter.unusedSimpArgs false
set_option maxHeartbeats 0
set_option linter.unusedVariables false
theorem fateGo_len {part : Int} : ∀ {l : List (EV × Int)} {x : Pc} {hs : List Int} {f : Ft}, fateGo part l x hs = some f → f.hs.length = hs.length + l.length
 | [], x, hs, f, h => by cases h; rfl
 | z :: l, x, hs, f, h => by
  unfold fateGo at h
  by_cases q : z.1.right part (z.1.after x z.2) = true
  ·rw [if_pos q] at h
   have := fateGo_len h
   rw [this, List.length_append, List.length_cons]
   simp only [List.length_cons, List.length_nil]
   omega
  ·rw [if_neg q] at h;cases h
theorem fate_last {es : List EV} {part : Int} {x : Pc} {ls : List Int} {f : Ft} (hl : ls.length = es.length) (hne : es ≠ []) (h : fateV es part x ls = some f) : (f.hs[es.length - 1]?).getD 0 = f.x.height := by
 obtain ⟨es', e, rfl⟩ : ∃ es' e, es = es' ++ [e] := ⟨es.dropLast, es.getLast hne, (List.dropLast_concat_getLast hne).symm⟩
 have hlne : ls ≠ [] := by rintro rfl; simp at hl
 obtain ⟨ls', k, rfl⟩ : ∃ ls' k, ls = ls' ++ [k] := ⟨ls.dropLast, ls.getLast hlne, (List.dropLast_concat_getLast hlne).symm⟩
 have hl' : ls'.length = es'.length := by simpa using hl
 rw [fateV_plus hl'] at h
 cases q : fateV es' part x ls' with
 | none => rw [q] at h; cases h
 | some g =>
  rw [q] at h
  have h : (if e.right part (e.after g.x k) = true then some (g.on e k) else none) = some f := h
  by_cases hr : e.right part (e.after g.x k) = true
  ·rw [if_pos hr] at h;cases h
   have hg : g.hs.length = es'.length := by
    have := fateGo_len q
    rw [this]
    simp [hl']
   unfold Ft.on
   dsimp only
   rw [List.length_append, show es'.length + [e].length - 1 = es'.length from by simp, List.getElem?_append_right (by omega), hg, Nat.sub_self]
   rfl
  ·rw [if_neg hr] at h;cases h
theorem at_mem {R : RoadV} {i : Nat} {f : Ft} (h : f ∈ atPart R.known i) : ∃ ls p x, ls ∈ haulsV R.es ∧ R.can ls = true ∧ R.ps[i]? = some p ∧ x ∈ p.pcs ∧ fateV R.es i x ls = some f := by
 obtain ⟨parts, fs, h1, h2, h3⟩ := mem_atPart.1 h
 obtain ⟨ls, k1, k2, rfl⟩ := mem_known.1 h1
 cases hp : R.ps[i]? with
 | none =>
  rw [List.getElem?_eq_none (by rw [fates_len]; exact List.getElem?_eq_none_iff.1 hp)] at h2;cases h2
 | some p =>
  rw [fates_at hp] at h2;cases h2
  obtain ⟨x, hx, hf⟩ := mem_fates.1 h3
  exact ⟨ls, p, x, k1, k2, rfl, hx, hf⟩
theorem mem_at {R : RoadV} {i : Nat} {f : Ft} {ls : List Int} {p : PV} {x : Pc} (k1 : ls ∈ haulsV R.es) (k2 : R.can ls = true) (hp : R.ps[i]? = some p) (hx : x ∈ p.pcs) (hf : fateV R.es i x ls = some f) : f ∈ atPart R.known i :=
 mem_atPart.2 ⟨R.fates ls, fatesV R.es i p ls, mem_known.2 ⟨ls, k1, k2, rfl⟩, fates_at hp, mem_fates.2 ⟨x, hx, hf⟩⟩
theorem at_ne {R : RoadV} (h : R.possible = true) {i : Nat} (hi : i < R.ps.length) : atPart R.known i ≠ [] := by
 cases q : R.known with
 | nil => exact absurd q (known_ne h)
 | cons parts r =>
  have hp : parts ∈ R.known := by rw [q]; exact .head _
  obtain ⟨h1, h2⟩ := known_parts hp
  have hlt : i < parts.length := by omega
  have hg : parts[i]? = some parts[i] := List.getElem?_eq_getElem hlt
  have hne := h2 _ (List.getElem_mem hlt)
  rw [← q]
  cases q2 : parts[i] with
  | nil => exact absurd q2 hne
  | cons f l =>
   have : f ∈ atPart R.known i := mem_atPart.2 ⟨parts, _, hp, hg, by rw [q2]; exact .head _⟩
   intro q3
   rw [q3] at this;cases this
theorem last_at {R : RoadV} (hne : R.es ≠ []) {i : Nat} {f : Ft} (h : f ∈ atPart R.known i) : (f.hs[R.es.length - 1]?).getD 0 = f.x.height := by
 obtain ⟨ls, p, x, k1, k2, k3, k4, k5⟩ := at_mem h
 exact fate_last (hauls_len k1) hne k5
theorem high_ends {R : RoadV} (O : R.Ok) (hp : R.possible = true) {i : Nat} (hi : i < R.ps.length) (v : Nat) :
  (∀ f, f ∈ atPart R.known i → (spreadV R.known i fun f => (f.hs[v]?).getD 0).1 ≤ (f.hs[v]?).getD 0 ∧ (f.hs[v]?).getD 0 ≤ (spreadV R.known i fun f => (f.hs[v]?).getD 0).2) ∧ (∃ f, f ∈ atPart R.known i ∧ (f.hs[v]?).getD 0 = (spreadV R.known i fun f => (f.hs[v]?).getD 0).1) ∧ ∃ f, f ∈ atPart R.known i ∧ (f.hs[v]?).getD 0 = (spreadV R.known i fun f => (f.hs[v]?).getD 0).2 :=
 spread_ends (at_ne hp hi) fun f hf => by
  have hx := (known_small O hf).2.2
  cases q : f.hs[v]? with
  | none => unfold I64; simp
  | some n =>
   have := hx n (List.mem_of_getElem? q)
   unfold I64
   simp only [Option.getD_some]
   omega
theorem heightR_is {R : RoadV} (O : R.Ok) {i v : Nat} (hi : i < R.ps.length) (hv : v < R.es.length) : R.heightR i v = if R.possible = true then (spreadV R.known i (fun f => (f.hs[v]?).getD 0), 0) else (zSp, 10) := by
 unfold RoadV.heightR
 rw [if_pos O, if_pos (by omega), if_pos (by omega), Int.toNat_natCast, Int.toNat_natCast]
end Go.Proofs.YtkcimfopboelaaaGreat

namespace Go.Proofs.YtkcimfopboelaaaGreat
open Go Go.AbsE
set_option linter.unusedSimpArgs false
set_option maxHeartbeats 0
set_option linter.unusedVariables false
theorem end_ends {R : RoadV} (O : R.Ok) (hp : R.possible = true) {i : Nat} (hi : i < R.ps.length) :
  (∀ f, f ∈ atPart R.known i → (spreadV R.known i fun f => f.x.height).1 ≤ f.x.height ∧ f.x.height ≤ (spreadV R.known i fun f => f.x.height).2) ∧ (∃ f, f ∈ atPart R.known i ∧ f.x.height = (spreadV R.known i fun f => f.x.height).1) ∧ ∃ f, f ∈ atPart R.known i ∧ f.x.height = (spreadV R.known i fun f => f.x.height).2 :=
 spread_ends (at_ne hp hi) fun f hf => by
  have hx := (known_small O hf).1
  have := hx.h
  have := hx.f
  unfold I64
  omega
theorem weak_is {R : RoadV} (O : R.Ok) (hp : R.possible = true) : ∃ w : Nat, R.weak = (w : Int) ∧ w < R.ps.length ∧ ∀ i, i < R.ps.length → (spreadV R.known w fun f => f.x.height).1 ≤ (spreadV R.known i fun f => f.x.height).1 ∧ ((spreadV R.known i fun f => f.x.height).1 = (spreadV R.known w fun f => f.x.height).1 → w ≤ i) := by
 have hnp := O.np
 have hlen : R.ends.length = R.ps.length := by unfold RoadV.ends; rw [List.length_map, List.length_range]
 have hat : ∀ i, i < R.ps.length → R.ends[i]? = some (spreadV R.known i fun f => f.x.height) := fun i hi => by
  unfold RoadV.ends
  rw [List.getElem?_map, List.getElem?_range hi]
  rfl
 have hb : ∀ s, s ∈ R.ends → I64 s.1 ∧ I64 s.2 := fun s hs => by
  obtain ⟨i, hi, rfl⟩ := List.mem_map.1 hs
  have hi := List.mem_range.1 hi
  obtain ⟨_, ⟨f, hf, h1⟩, g, hg, h2⟩ := end_ends O hp hi
  have a1 := (known_small O hf).1
  have a2 := (known_small O hg).1
  have := a1.h
  have := a1.f
  have := a2.h
  have := a2.f
  unfold I64
  omega
 obtain ⟨j1, ⟨s, hs, j2⟩, _⟩ := joinL_ends (l := R.ends) (by intro q; rw [q] at hlen; simp at hlen; omega) hb
 unfold RoadV.weak
 cases q : R.ends.findIdx? (fun s => s.1 == (joinL R.ends).1) with
 | none =>
  rw [List.findIdx?_eq_none_iff] at q
  have := q s hs
  rw [j2] at this
  simp at this
 | some w =>
  obtain ⟨hw, h1, h2⟩ := List.findIdx?_eq_some_iff_getElem.1 q
  refine ⟨w, rfl, by omega, fun i hi => ?_⟩
  have hwl : w < R.ps.length := by omega
  have e1 : R.ends[w] = spreadV R.known w fun f => f.x.height := by
   have := hat w hwl
   rw [List.getElem?_eq_getElem hw] at this;exact Option.some.inj this
  have hi2 : i < R.ends.length := by omega
  have e2 : R.ends[i] = spreadV R.known i fun f => f.x.height := by
   have := hat i hi
   rw [List.getElem?_eq_getElem hi2] at this;exact Option.some.inj this
  have h1 : (R.ends[w]).1 = (joinL R.ends).1 := by simpa using h1
  have h3 := (j1 R.ends[i] (List.getElem_mem hi2)).1
  rw [e1] at h1;rw [e2] at h3;refine ⟨by omega, fun z => ?_⟩
  by_cases hle : w ≤ i
  ·exact hle
  ·have := h2 i (by omega)
   rw [e2] at this;exact absurd (by rw [← h1, z]; simp) this
end Go.Proofs.YtkcimfopboelaaaGreat

namespace Go.Proofs.YtkcimfopboelaaaGreat
open Go Go.AbsE
set_option linter.unusedSimpArgs false
set_option maxHeartbeats 0
set_option linter.unusedVariables false
theorem fateGo_cons {part : Int} {z : EV × Int} {l : List (EV × Int)} {x : Pc} {hs : List Int} : fateGo part (z :: l) x hs = if z.1.right part (z.1.after x z.2) = true then fateGo part l (z.1.after x z.2) (hs ++ [(z.1.after x z.2).height]) else none := rfl
theorem fateGo_hs {part : Int} : ∀ {l : List (EV × Int)} {x : Pc} {hs : List Int}, fateGo part l x hs = (fateGo part l x []).map fun f => ⟨f.x, hs ++ f.hs⟩
 | [], x, hs => by simp [fateGo]
 | z :: l, x, hs => by
  unfold fateGo
  by_cases q : z.1.right part (z.1.after x z.2) = true
  ·rw [if_pos q, if_pos q, fateGo_hs (hs := hs ++ _), fateGo_hs (hs := [] ++ _)]
   cases fateGo part l (z.1.after x z.2) [] with
   | none => rfl
   | some f => simp
  ·rw [if_neg q, if_neg q]
   rfl
theorem fateGo_app {part : Int} : ∀ {l m : List (EV × Int)} {x : Pc} {hs : List Int}, fateGo part (l ++ m) x hs = (fateGo part l x hs).bind fun f => fateGo part m f.x f.hs
 | [], m, x, hs => rfl
 | z :: l, m, x, hs => by
  show fateGo part (z :: (l ++ m)) x hs = _
  rw [fateGo_cons, fateGo_cons]
  by_cases q : z.1.right part (z.1.after x z.2) = true
  ·rw [if_pos q, if_pos q];exact fateGo_app
  ·rw [if_neg q, if_neg q]
   rfl
theorem hauls_app : ∀ {A B : List EV} {l : List Int}, l ∈ haulsV (A ++ B) ↔ ∃ a b, a ∈ haulsV A ∧ b ∈ haulsV B ∧ l = a ++ b
 | [], B, l => by
  show l ∈ haulsV B ↔ _
  unfold haulsV
  constructor
  ·exact fun h => ⟨[], l, .head _, h, rfl⟩
  ·rintro ⟨a, b, h1, h2, rfl⟩;rw [List.mem_singleton.1 h1];exact h2
 | e :: A, B, l => by
  show l ∈ (upto e.lo e.hi).flatMap (fun k => (haulsV (A ++ B)).map fun l => k :: l) ↔ _
  rw [show haulsV (e :: A) = (upto e.lo e.hi).flatMap (fun k => (haulsV A).map fun l => k :: l) from rfl]
  simp only [List.mem_flatMap, List.mem_map, hauls_app]
  constructor
  ·rintro ⟨k, hk, l', ⟨a, b, h1, h2, rfl⟩, rfl⟩;exact ⟨k :: a, b, ⟨k, hk, a, h1, rfl⟩, h2, rfl⟩
  ·rintro ⟨a, b, ⟨k, hk, a', h1, rfl⟩, h2, rfl⟩;exact ⟨k, hk, a' ++ b, ⟨a', b, h1, h2, rfl⟩, rfl⟩
def dryLooks (n : Nat) : List EV := (List.range n).map fun p : Nat => mkLook p 0 60
theorem dry_hauls : ∀ {L : List EV}, (∀ e, e ∈ L → e.lo = 0 ∧ e.hi = 0) → haulsV L = [L.map fun _ => 0]
 | [], _ => rfl
 | e :: L, h => by
  obtain ⟨h1, h2⟩ := h e (.head _)
  show (upto e.lo e.hi).flatMap _ = _
  rw [h1, h2, upto_one, dry_hauls fun x hx => h x (.tail _ hx)]
  rfl
theorem dry_go {part : Int} {b : Int} : ∀ {L : List EV} {x : Pc}, x.In b → (∀ e, e ∈ L → ∃ p : Int, e = mkLook p 0 60) → ((∃ f, fateGo part (L.map fun e => (e, (0 : Int))) x [] = some f) ↔ ((∃ e, e ∈ L ∧ e.part = part) → 0 ≤ x.height)) ∧ ∀ f, fateGo part (L.map fun e => (e, (0 : Int))) x [] = some f → f.x = x
 | [], x, hx, h => ⟨⟨fun _ ⟨e, he, _⟩ => (by cases he), fun _ => ⟨_, rfl⟩⟩, fun f hf => (by cases hf; rfl)⟩
 | e :: L, x, hx, h => by
  obtain ⟨p, rfl⟩ := h e (.head _)
  obtain ⟨ih1, ih2⟩ := dry_go (part := part) (L := L) hx fun y hy => h y (.tail _ hy)
  have ha : (mkLook p 0 60).after x 0 = x := by show x.rested 0 = x; exact rested_zero hx
  have h60 : x.height ≤ 60 := by have := hx.h; have := hx.f; omega
  have hgo : fateGo part ((mkLook p 0 60 :: L).map fun e => (e, (0 : Int))) x [] = if (mkLook p 0 60).right part x = true then (fateGo part (L.map fun e => (e, (0 : Int))) x []).map (fun f => ⟨f.x, [x.height] ++ f.hs⟩) else none := by
   show fateGo part ((mkLook p 0 60, 0) :: L.map fun e => (e, (0 : Int))) x [] = _
   conv => lhs; unfold fateGo
   dsimp only
   rw [ha, fateGo_hs]
   rfl
  rw [hgo]
  by_cases hr : (mkLook p 0 60).right part x = true
  ·rw [if_pos hr]
   have hr2 : part = p → 0 ≤ x.height := fun q => (of_decide_eq_true hr rfl q).1
   constructor
   ·constructor
    ·rintro ⟨f, hf⟩ ⟨e, he, hp⟩
     rcases List.mem_cons.1 he with rfl | he
     ·exact hr2 hp.symm
     ·cases q : fateGo part (L.map fun e => (e, (0 : Int))) x [] with
      | none => rw [q] at hf; cases hf
      | some g => exact ih1.1 ⟨g, q⟩ ⟨e, he, hp⟩
    ·intro k
     obtain ⟨g, hg⟩ := ih1.2 fun ⟨e, he, hp⟩ => k ⟨e, .tail _ he, hp⟩
     exact ⟨⟨g.x, [x.height] ++ g.hs⟩, by rw [hg]; rfl⟩
   ·intro f hf
    cases q : fateGo part (L.map fun e => (e, (0 : Int))) x [] with
    | none => rw [q] at hf; cases hf
    | some g =>
     rw [q] at hf;cases hf;exact ih2 g q
  ·rw [if_neg hr];refine ⟨⟨fun ⟨f, hf⟩ => (by cases hf), fun k => ?_⟩, fun f hf => by cases hf⟩
   exfalso
   refine hr (decide_eq_true fun _ q => ?_);exact ⟨k ⟨mkLook p 0 60, .head _, q.symm⟩, h60⟩
end Go.Proofs.YtkcimfopboelaaaGreat

namespace Go.Proofs.YtkcimfopboelaaaGreat
open Go Go.AbsE
set_option linter.unusedSimpArgs false
set_option maxHeartbeats 0
set_option linter.unusedVariables false
def RoadV.dry (R : RoadV) (v : Nat) : RoadV := ⟨R.ps, R.es.take (v + 1) ++ (dryLooks R.ps.length ++ R.es.drop (v + 1))⟩
theorem take_okR {R : RoadV} (O : R.Ok) (n : Nat) : (⟨R.ps, R.es.take n⟩ : RoadV).Ok where
 np := O.np
 ne := by have := O.ne; show (R.es.take n).length ≤ 10; rw [List.length_take]; omega
 p := O.p
 e := fun e he => O.e e (List.mem_of_mem_take he)
 d := Nat.le_trans ((List.take_sublist n R.es).filter _).length_le O.d
theorem zip_zero : ∀ L : List EV, L.zip (L.map fun _ => (0 : Int)) = L.map fun e => (e, (0 : Int))
 | [] => rfl
 | e :: L => by
  show (e, (0 : Int)) :: L.zip (L.map fun _ => (0 : Int)) = _
  rw [zip_zero]
  rfl
theorem dryLooks_mem {n : Nat} {e : EV} (h : e ∈ dryLooks n) : ∃ p : Int, e = mkLook p 0 60 := by
 obtain ⟨p, _, rfl⟩ := List.mem_map.1 h
 exact ⟨p, rfl⟩
theorem dryLooks_has {n i : Nat} (hi : i < n) : ∃ e, e ∈ dryLooks n ∧ e.part = (i : Int) := ⟨mkLook i 0 60, List.mem_map.2 ⟨i, List.mem_range.2 hi, rfl⟩, rfl⟩
theorem dry_fate {R : RoadV} (O : R.Ok) {v : Nat} (hv : v < R.es.length) {i : Nat} {p : PV} (hp : R.ps[i]? = some p) {x : Pc} (hx : x ∈ p.pcs) {a b : List Int} (ha : a ∈ haulsV (R.es.take (v + 1))) (hb : b ∈ haulsV (R.es.drop (v + 1))) :
  (∃ f, fateV (R.dry v).es i x (a ++ ((dryLooks R.ps.length).map (fun _ => (0 : Int)) ++ b)) = some f) ↔ ∃ f, fateV R.es i x (a ++ b) = some f ∧ above v f = true := by
 have hi : i < R.ps.length := (List.getElem?_eq_some_iff.1 hp).1
 have hla := hauls_len ha
 have hlt : (R.es.take (v + 1)).length = v + 1 := by rw [List.length_take]; omega
 have h2 : fateV R.es i x (a ++ b) = (fateGo i ((R.es.take (v + 1)).zip a) x []).bind fun g => fateGo i ((R.es.drop (v + 1)).zip b) g.x g.hs := by
  have : fateV R.es i x (a ++ b) = fateV (R.es.take (v + 1) ++ R.es.drop (v + 1)) i x (a ++ b) := by rw [List.take_append_drop]
  rw [this]
  unfold fateV
  rw [List.zip_append hla.symm, fateGo_app]
 have h1 : fateV (R.dry v).es i x (a ++ ((dryLooks R.ps.length).map (fun _ => (0 : Int)) ++ b)) = (fateGo i ((R.es.take (v + 1)).zip a) x []).bind fun g => (fateGo i ((dryLooks R.ps.length).map fun e => (e, (0 : Int))) g.x g.hs).bind fun g2 => fateGo i ((R.es.drop (v + 1)).zip b) g2.x g2.hs := by
  show fateV (R.es.take (v + 1) ++ (dryLooks R.ps.length ++ R.es.drop (v + 1))) i x _ = _
  unfold fateV
  rw [List.zip_append hla.symm, fateGo_app, List.zip_append (by rw [List.length_map]), zip_zero];refine congrArg _ (funext fun g => ?_);exact fateGo_app
 rw [h1, h2]
 cases q : fateGo i ((R.es.take (v + 1)).zip a) x [] with
 | none => exact ⟨fun ⟨f, hf⟩ => (by cases hf), fun ⟨f, hf, _⟩ => (by cases hf)⟩
 | some g =>
  have hin := (fate_small (take_okR O (v + 1)) ha hp hx q).1
  have hgl : g.hs.length = v + 1 := by rw [(fate_small (take_okR O (v + 1)) ha hp hx q).2.1]; exact hlt
  have hlast : (g.hs[v]?).getD 0 = g.x.height := by
   have := fate_last hla (by intro z; rw [z] at hlt; cases hlt) q
   rw [hlt] at this;exact this
  obtain ⟨d1, d2⟩ := dry_go (part := (i : Int)) (L := dryLooks R.ps.length) hin fun e he => dryLooks_mem he
  show (∃ f, ((fateGo i ((dryLooks R.ps.length).map fun e => (e, (0 : Int))) g.x g.hs).bind fun g2 => fateGo i ((R.es.drop (v + 1)).zip b) g2.x g2.hs) = some f) ↔ ∃ f, fateGo i ((R.es.drop (v + 1)).zip b) g.x g.hs = some f ∧ above v f = true
  have hab : ∀ f, fateGo i ((R.es.drop (v + 1)).zip b) g.x g.hs = some f → (above v f = true ↔ 0 ≤ g.x.height) := fun f hf => by
   rw [fateGo_hs, Option.map_eq_some_iff] at hf
   obtain ⟨f2, _, rfl⟩ := hf
   unfold above
   dsimp only
   rw [List.getElem?_append_left (by omega), hlast];exact decide_eq_true_iff
  constructor
  ·rintro ⟨f, hf⟩;rw [fateGo_hs] at hf
   cases q2 : fateGo i ((dryLooks R.ps.length).map fun e => (e, (0 : Int))) g.x [] with
   | none => rw [q2] at hf; cases hf
   | some g2 =>
    have hh := d1.1 ⟨g2, q2⟩ (dryLooks_has hi)
    rw [q2] at hf
    have hf : fateGo i ((R.es.drop (v + 1)).zip b) g2.x (g.hs ++ g2.hs) = some f := hf
    rw [d2 g2 q2, fateGo_hs, Option.map_eq_some_iff] at hf
    obtain ⟨f2, hf2, _⟩ := hf
    have hf3 : fateGo i ((R.es.drop (v + 1)).zip b) g.x g.hs = some ⟨f2.x, g.hs ++ f2.hs⟩ := by rw [fateGo_hs, hf2]; rfl
    exact ⟨_, hf3, (hab _ hf3).2 hh⟩
  ·rintro ⟨f, hf, h⟩
   have hh := (hab f hf).1 h
   obtain ⟨g2, q2⟩ := d1.2 fun _ => hh
   rw [fateGo_hs, Option.map_eq_some_iff] at hf
   obtain ⟨f2, hf2, _⟩ := hf
   refine ⟨⟨f2.x, (g.hs ++ g2.hs) ++ f2.hs⟩, ?_⟩;rw [fateGo_hs, q2]
   show fateGo i ((R.es.drop (v + 1)).zip b) g2.x (g.hs ++ g2.hs) = _
   rw [d2 g2 q2, fateGo_hs, hf2]
   rfl
theorem possible_has {R : RoadV} : R.possible = true ↔ ∃ ls, ls ∈ haulsV R.es ∧ ∀ (i : Nat) p, R.ps[i]? = some p → ∃ x f, x ∈ p.pcs ∧ fateV R.es i x ls = some f := by
 unfold RoadV.possible RoadV.hs
 constructor
 ·intro h
  cases q : (haulsV R.es).filter R.can with
  | nil => rw [q] at h; cases h
  | cons ls r =>
   have hm : ls ∈ (haulsV R.es).filter R.can := by rw [q]; exact .head _
   obtain ⟨h1, h2⟩ := List.mem_filter.1 hm
   refine ⟨ls, h1, fun i p hp => ?_⟩
   obtain ⟨f, hf⟩ := can_iff.1 h2 i p hp
   obtain ⟨x, hx, hf2⟩ := mem_fates.1 hf
   exact ⟨x, f, hx, hf2⟩
 ·rintro ⟨ls, h1, h2⟩
  have hm : ls ∈ (haulsV R.es).filter R.can := List.mem_filter.2 ⟨h1, can_iff.2 fun i p hp => by
   obtain ⟨x, f, hx, hf⟩ := h2 i p hp
   exact ⟨f, mem_fates.2 ⟨x, hx, hf⟩⟩⟩
  cases q : (haulsV R.es).filter R.can with
  | nil => rw [q] at hm; cases hm
  | cons a b => rfl
theorem perhaps_iff {R : RoadV} {s : Ft → Bool} : perhapsV R.known s = true ↔ ∃ ls, ls ∈ haulsV R.es ∧ ∀ (i : Nat) p, R.ps[i]? = some p → ∃ x f, x ∈ p.pcs ∧ fateV R.es i x ls = some f ∧ s f = true := by
 unfold perhapsV
 simp only [List.any_eq_true, List.all_eq_true]
 constructor
 ·rintro ⟨parts, h1, h2⟩
  obtain ⟨ls, k1, k2, rfl⟩ := mem_known.1 h1
  refine ⟨ls, k1, fun i p hp => ?_⟩
  obtain ⟨f, hf, hs⟩ := h2 _ (List.mem_of_getElem? (fates_at (R := R) (ls := ls) hp))
  obtain ⟨x, hx, hf2⟩ := mem_fates.1 hf
  exact ⟨x, f, hx, hf2, hs⟩
 ·rintro ⟨ls, h1, h2⟩
  have hc : R.can ls = true := can_iff.2 fun i p hp => by
   obtain ⟨x, f, hx, hf, _⟩ := h2 i p hp
   exact ⟨f, mem_fates.2 ⟨x, hx, hf⟩⟩
  refine ⟨R.fates ls, mem_known.2 ⟨ls, h1, hc, rfl⟩, fun fs hfs => ?_⟩
  obtain ⟨i, hi⟩ := List.getElem?_of_mem hfs
  cases hp : R.ps[i]? with
  | none =>
   rw [List.getElem?_eq_none (by rw [fates_len]; exact List.getElem?_eq_none_iff.1 hp)] at hi;cases hi
  | some p =>
   rw [fates_at hp] at hi;cases hi
   obtain ⟨x, f, hx, hf, hs⟩ := h2 i p hp
   exact ⟨f, mem_fates.2 ⟨x, hx, hf⟩, hs⟩
theorem dry_possible {R : RoadV} (O : R.Ok) {v : Nat} (hv : v < R.es.length) : (R.dry v).possible = perhapsV R.known (above v) := by
 have hz : haulsV (dryLooks R.ps.length) = [(dryLooks R.ps.length).map fun _ => 0] := dry_hauls fun e he => by
  obtain ⟨p, rfl⟩ := dryLooks_mem he
  exact ⟨rfl, rfl⟩
 have key : (R.dry v).possible = true ↔ perhapsV R.known (above v) = true := by
  rw [possible_has, perhaps_iff]
  constructor
  ·rintro ⟨ls, h1, h2⟩
   have h1 : ls ∈ haulsV (R.es.take (v + 1) ++ (dryLooks R.ps.length ++ R.es.drop (v + 1))) := h1
   obtain ⟨a, c, ha, hc, rfl⟩ := hauls_app.1 h1
   obtain ⟨z, b, hzm, hb, rfl⟩ := hauls_app.1 hc
   rw [hz, List.mem_singleton] at hzm;subst hzm;refine ⟨a ++ b, ?_, fun i p hp => ?_⟩
   ·have : a ++ b ∈ haulsV (R.es.take (v + 1) ++ R.es.drop (v + 1)) := hauls_app.2 ⟨a, b, ha, hb, rfl⟩
    rwa [List.take_append_drop] at this
   ·obtain ⟨x, f, hx, hf⟩ := h2 i p hp
    obtain ⟨f2, k1, k2⟩ := (dry_fate O hv hp hx ha hb).1 ⟨f, hf⟩
    exact ⟨x, f2, hx, k1, k2⟩
  ·rintro ⟨ls, h1, h2⟩
   have h1 : ls ∈ haulsV (R.es.take (v + 1) ++ R.es.drop (v + 1)) := by rw [List.take_append_drop]; exact h1
   obtain ⟨a, b, ha, hb, rfl⟩ := hauls_app.1 h1
   refine ⟨a ++ ((dryLooks R.ps.length).map (fun _ => (0 : Int)) ++ b), hauls_app.2 ⟨a, _, ha, hauls_app.2 ⟨_, b, by rw [hz]; exact .head _, hb, rfl⟩, rfl⟩, fun i p hp => ?_⟩
   obtain ⟨x, f, hx, hf, hs⟩ := h2 i p hp
   obtain ⟨f2, k1⟩ := (dry_fate O hv hp hx ha hb).2 ⟨f, hf, hs⟩
   exact ⟨x, f2, hx, k1⟩
 cases q : perhapsV R.known (above v) with
 | true => exact key.2 q
 | false =>
  cases q2 : (R.dry v).possible with
  | false => rfl
  | true => rw [key.1 q2] at q; cases q
theorem surely_bit {R : RoadV} (O : R.Ok) {v : Nat} (hv : v < R.es.length) : R.surely.testBit v = !(R.dry v).possible := by
 rw [dry_possible O hv]
 unfold RoadV.surely
 rw [bitsV_test, decide_eq_true hv, Bool.true_and]
end Go.Proofs.YtkcimfopboelaaaGreat

namespace Go.Proofs.YtkcimfopboelaaaGreat
open Go Go.AbsE
set_option linter.unusedSimpArgs false
set_option maxRecDepth 100000
set_option maxHeartbeats 0
set_option linter.unusedVariables false
theorem bit_at (p i : Nat) : ((p : Int).fdiv (2 ^ i)) % 2 = if p.testBit i then 1 else 0 := by
 have h1 : (p : Int).fdiv (2 ^ i) = ((p / 2 ^ i : Nat) : Int) := by
  rw [Int.fdiv_eq_ediv_of_nonneg _ (Int.pow_nonneg (by decide))]
  simp
 rw [h1, Nat.testBit_eq_decide_div_mod_eq]
 by_cases q : p / 2 ^ i % 2 = 1
 ·rw [decide_eq_true q, if_pos rfl]
  omega
 ·rw [decide_eq_false q, if_neg (by decide)]
  omega
def always (R : RoadV) (load : Int) : Bool := alwaysV R.known fun f => f.x.bears load
theorem belowR_is {R : RoadV} (O : R.Ok) (hp : R.possible = true) : R.belowR = ((R.surely, R.perhaps), 0) := by
 unfold RoadV.belowR
 rw [if_pos O, if_pos hp]
end Go.Proofs.YtkcimfopboelaaaGreat

namespace Go.Proofs.YtkcimfopboelaaaGreat
open Go Go.AbsE
set_option linter.unusedSimpArgs false
set_option maxRecDepth 100000
set_option maxHeartbeats 0
set_option linter.unusedVariables false
theorem andNot_bit {a b i : Nat} (ha : a < 2 ^ 64) (hi : i < 64) : (andNot a b).testBit i = (a.testBit i && !b.testBit i) := by
 unfold andNot
 rw [BitVec.testBit_toNat, BitVec.getLsbD_and, BitVec.getLsbD_not, BitVec.getLsbD_ofNat, BitVec.getLsbD_ofNat]
 simp [hi]
end Go.Proofs.YtkcimfopboelaaaGreat

namespace Go.Proofs.YtkcimfopboelaaaGreat
open Go Go.AbsE
set_option linter.unusedSimpArgs false
set_option maxRecDepth 100000
set_option maxHeartbeats 0
set_option linter.unusedVariables false
theorem small_bit {s i : Nat} (hs : s < 1024) (hi : ¬ i < 10) : s.testBit i = false := by
 have : 2 ^ 10 ≤ 2 ^ i := Nat.pow_le_pow_right (by decide) (by omega)
 exact Nat.testBit_lt_two_pow (by omega)
theorem sub_bits {s of : Nat} (hs : s < 1024) (h : ∀ i, i < 10 → s.testBit i = true → of.testBit i = true) : s ≤ of ∧ popc s ≤ popc of ∧ andNot s of = 0 := by
 have hall : ∀ i, s.testBit i = true → of.testBit i = true := fun i hi => by
  by_cases q : i < 10
  ·exact h i q hi
  ·rw [small_bit hs q] at hi;cases hi
 refine ⟨?_, ?_, ?_⟩
 ·have : s &&& of = s := Nat.eq_of_testBit_eq fun i => by
   rw [Nat.testBit_and]
   cases q : s.testBit i with
   | false => rfl
   | true => rw [hall i q]; rfl
  rw [← this]
  exact Nat.and_le_right
 ·unfold popc
  rw [← List.countP_eq_length_filter, ← List.countP_eq_length_filter]
  exact List.countP_mono_left fun i _ hi => hall i hi
 ·refine Nat.eq_of_testBit_eq fun i => ?_;rw [Nat.zero_testBit]
  by_cases q : i < 64
  ·rw [andNot_bit (by omega) q]
   cases q2 : s.testBit i with
   | false => rfl
   | true => rw [hall i q2]; rfl
  ·have h1 := andNot_le s of (by omega)
   exact small_bit (Nat.lt_of_le_of_lt h1 hs) (by omega)
theorem nolook_fate {part : Int} : ∀ {l : List (EV × Int)} {x : Pc} {hs : List Int}, (∀ z, z ∈ l → z.1.kind ≠ 2) → ∃ f, fateGo part l x hs = some f
 | [], x, hs, h => ⟨_, rfl⟩
 | z :: l, x, hs, h => by
  unfold fateGo
  rw [if_pos (show z.1.right part (z.1.after x z.2) = true from decide_eq_true fun q => absurd q (h z (.head _)))];exact nolook_fate fun y hy => h y (.tail _ hy)
theorem nolook_possible {R : RoadV} (O : R.Ok) (h : ∀ e, e ∈ R.es → e.kind ≠ 2) : R.possible = true := by
 have hm : R.es.map EV.lo ∈ (haulsV R.es).filter R.can := by
  refine List.mem_filter.2 ⟨mem_hauls.2 ⟨by rw [List.length_map], fun i e k he hk => ?_⟩, can_iff.2 fun i p hp => ?_⟩
  ·rw [List.getElem?_map, he] at hk;cases hk
   have := O.e e (List.mem_of_getElem? he)
   unfold EV.lo EV.hi
   rcases this with w | w | w
   ·rw [if_pos w.1, if_pos w.1]; omega
   ·rw [if_neg (by omega), if_neg (by omega)]; omega
   ·rw [if_neg (by omega), if_neg (by omega)]; omega
  ·obtain ⟨o1, o2, o3, o4⟩ := O.p p (List.mem_of_getElem? hp)
   obtain ⟨f, hf⟩ := nolook_fate (part := (i : Int)) (l := R.es.zip (R.es.map EV.lo)) (x := ⟨p.hl, p.sl, p.rl, p.full⟩) (hs := []) fun z hz => h z.1 (List.of_mem_zip hz).1
   exact ⟨f, mem_fates.2 ⟨⟨p.hl, p.sl, p.rl, p.full⟩, mem_pcs.2 ⟨by dsimp only; omega, by dsimp only; omega, by dsimp only; omega, rfl⟩, hf⟩⟩
 unfold RoadV.possible RoadV.hs
 cases q : (haulsV R.es).filter R.can with
 | nil => rw [q] at hm; cases hm
 | cons a b => rfl
end Go.Proofs.YtkcimfopboelaaaGreat

namespace Go.Proofs.YtkcimfopboelaaaGreat
open Go Go.AbsE
set_option linter.unusedSimpArgs false
set_option maxHeartbeats 0
set_option linter.unusedVariables false
theorem surely_perhaps {R : RoadV} (O : R.Ok) (hp : R.possible = true) : andNot R.surely R.perhaps = 0 := by
 have h1 : R.surely < 2 ^ R.es.length := bitsV_lt _ _
 have h2 : 2 ^ R.es.length ≤ 2 ^ 10 := Nat.pow_le_pow_right (by decide) O.ne
 refine (sub_bits (by omega) fun i _ hi => ?_).2.2
 unfold RoadV.surely at hi
 unfold RoadV.perhaps
 rw [bitsV_test, Bool.and_eq_true] at hi ⊢;refine ⟨hi.1, ?_⟩
 have h3 : perhapsV R.known (above i) = false := by simpa using hi.2
 cases q : alwaysV R.known (above i) with
 | false => rfl
 | true =>
  rw [always_perhaps hp q] at h3;cases h3
theorem nil_spread {R : RoadV} (O : R.Ok) (hz : R.es = []) {i : Nat} {p : PV} (hp : R.ps[i]? = some p) : (spreadV R.known i fun f => f.x.height).1 = p.hl := by
 have hpo : R.possible = true := nolook_possible O fun e he => by rw [hz] at he; cases he
 have hi : i < R.ps.length := (List.getElem?_eq_some_iff.1 hp).1
 obtain ⟨o1, o2, o3, o4⟩ := O.p p (List.mem_of_getElem? hp)
 obtain ⟨h1, ⟨f, hf, h2⟩, _⟩ := end_ends O hpo hi
 obtain ⟨ls, p', x, k1, k2, k3, k4, k5⟩ := at_mem hf
 rw [hp] at k3;cases k3
 have hx : f.x = x := by
  unfold fateV at k5
  rw [hz] at k5;cases k5
  rfl
 have hm := mem_pcs.1 k4
 have hl : ls = [] := by
  have := hauls_len k1
  rw [hz] at this;exact List.length_eq_zero_iff.1 this
 have hin : (⟨⟨p.hl, p.sl, p.rl, p.full⟩, []⟩ : Ft) ∈ atPart R.known i := mem_at k1 k2 hp (x := ⟨p.hl, p.sl, p.rl, p.full⟩) (mem_pcs.2 ⟨⟨Int.le_refl _, o2.2.1⟩, ⟨Int.le_refl _, o3.2.1⟩, ⟨Int.le_refl _, o4.2.1⟩, rfl⟩) (by unfold fateV; rw [hz]; rfl)
 have h3 := (h1 _ hin).1
 dsimp only at h3
 rw [hx] at h2
 omega
theorem perhaps_low {R : RoadV} (O : R.Ok) (hp : R.possible = true) {v : Nat} (hv : v < R.es.length) : R.perhaps.testBit v = true ↔ ∃ i, i < R.ps.length ∧ (spreadV R.known i fun f => (f.hs[v]?).getD 0).1 < 0 := by
 unfold RoadV.perhaps
 rw [bitsV_test, decide_eq_true hv, Bool.true_and]
 constructor
 ·intro h
  have h : alwaysV R.known (above v) = false := by simpa using h
  refine Classical.byContradiction fun hno => ?_
  have : alwaysV R.known (above v) = true := always_iff.2 fun i f hf => by
   obtain ⟨ls, p, x, k1, k2, k3, k4, k5⟩ := at_mem hf
   have hi : i < R.ps.length := (List.getElem?_eq_some_iff.1 k3).1
   have h1 := ((high_ends O hp hi v).1 f hf).1
   refine decide_eq_true ?_;refine Classical.byContradiction fun hn => hno ⟨i, hi, by omega⟩
  rw [h] at this;cases this
 ·rintro ⟨i, hi, hlt⟩
  obtain ⟨_, ⟨f, hf, h1⟩, _⟩ := high_ends O hp hi v
  cases q : alwaysV R.known (above v) with
  | false => rfl
  | true =>
   have := of_decide_eq_true (always_iff.1 q i f hf)
   omega
theorem sure_low {R : RoadV} (O : R.Ok) (hp : R.possible = true) {v : Nat} (hv : v < R.es.length) {i : Nat} (hi : i < R.ps.length) (hh : (spreadV R.known i fun f => (f.hs[v]?).getD 0).2 < 0) : R.surely.testBit v = true := by
 unfold RoadV.surely
 rw [bitsV_test, decide_eq_true hv, Bool.true_and]
 cases q : perhapsV R.known (above v) with
 | false => rfl
 | true =>
  unfold perhapsV at q
  simp only [List.any_eq_true, List.all_eq_true] at q
  obtain ⟨parts, h1, h2⟩ := q
  have hlen := (known_parts h1).1
  have hg : parts[i]? = some parts[i] := List.getElem?_eq_getElem (by omega)
  obtain ⟨f, hf, hs⟩ := h2 _ (List.mem_of_getElem? hg)
  have hat : f ∈ atPart R.known i := mem_atPart.2 ⟨parts, _, h1, hg, hf⟩
  have h3 := ((high_ends O hp hi v).1 f hat).2
  have := of_decide_eq_true hs
  omega
end Go.Proofs.YtkcimfopboelaaaGreat

namespace Go.AbsE
open Go
set_option linter.unusedSimpArgs false
set_option linter.unusedVariables false
section
variable {P : Program}
theorem aOp_appendMany {t : Tr AVal} {h : AH} {dst : Option Tmp} {tt : TypeId} {pos : String} {after : Array Edge} {guard : Option (Nat × Bool)} {x y : Operand} {s s2 : AVal} {n lo : Nat} {cs : List AVal} {L : List (List AVal)} {t1 t2 el el2 : TypeId} {sz bytes : Nat} {z : AVal}
  (hu1 : P.underlying t1 = some (.slice el)) (hu2 : P.underlying t2 = some (.slice el2)) (hs : sizeT P el = some sz) (hby : bytesT P el = some bytes) (hz : zeroT P el = some z) (hzl : Nat.beq z.cells.length sz = true)
  (hsz : Nat.blt 0 sz = true) (hx : ev t x = some s) (hy : ev t y = some s2) (hsl : SliceOf h sz s2 L) (hll : ∀ l, l ∈ L → l.length = sz) (hns : scalars L.flatten = true) (hgr : Grow h el sz lo s n cs) (hn0 : 0 < n)
  (hroom : (n + L.length + 300) * 2 * (bytes + 1) < 281474976710656) :
  ∃ s' h1, aOp P t h ⟨dst, .call ⟨.builtin .append, #[x, y], #[t1, t2]⟩, tt, pos, after, guard⟩ = some (.val s' h1) ∧ h.next ≤ h1.next ∧ (∀ b, b < lo → h1.get b = h.get b) ∧ Grow h1 el sz lo s' (n + L.length) (cs ++ L.flatten) := by
 obtain ⟨hcl, hgr⟩ := hgr
 obtain ⟨bs, hlo, rfl, hbs⟩ : ∃ b, lo ≤ b ∧ s = .gsl b 0 0 n ∧ Has h b (.cells .grow cs el) := by
  rcases hgr with ⟨_, z⟩ | ⟨_, k⟩
  ·omega
  ·exact k
 have hfl := flatten_len hll
 have hlt : Nat.blt ((n + L.length + 300) * 2 * (bytes + 1)) 281474976710656 = true := Nat.ble_eq_true_of_le hroom
 have hop : ∀ {y'}, aAppend P h t1 t2 (.gsl bs 0 0 n) s2 = some y' → aOp P t h ⟨dst, .call ⟨.builtin .append, #[x, y], #[t1, t2]⟩, tt, pos, after, guard⟩ = some y' := by
  intro y' q
  show opCall P t h ⟨.builtin .append, #[x, y], #[t1, t2]⟩ tt = _
  have he : evs t [x, y] = some [.gsl bs 0 0 n, s2] := by simp only [evs, mapO, hx, hy]
  simp only [opCall, he, callWith, aBuiltin, q]
 have b1 : Nat.beq 0 (0 * sz) = true := by simp
 have b2 : eqSize P el sz = true := by unfold eqSize; rw [hs]; simp
 have b3 : Nat.beq el el = true := by simp
 have b5 : srcCells h sz n (.gsl bs 0 0 n) = some cs := by
  simp only [srcCells, loadCells, hbs.2]
  exact slice_all hcl
 have h3 : 0 < sz := blt_true hsz
 by_cases hL : L = []
 ·subst hL
  have b4 : Nat.ble (0 + (n + ([] : List (List AVal)).length) * sz) cs.length = true := Nat.ble_eq_true_of_le (by rw [hcl]; simp)
  have hsp : splice cs (0 + n * sz) [] = some cs := by
   have h5 : splice cs (0 + n * sz) [] = some (cs.take (0 + n * sz) ++ [] ++ cs.drop (0 + n * sz + ([] : List AVal).length)) := splice_eq (by simp [hcl])
   rw [h5]
   simp
  have hset : ∃ h2, h.set bs (some (.cells .grow cs el)) = some h2 := by obtain ⟨tt, nx⟩ := h; exact ⟨_, rfl⟩
  obtain ⟨h2, hset⟩ := hset
  obtain ⟨hnx, hgt⟩ := AH.get_set hset
  refine ⟨.gsl bs 0 0 (n + 0), h2, hop ?_, by omega, fun b hb => by rw [hgt, if_neg (by omega)], by simp [hcl], .inr ⟨by simpa using hn0, bs, hlo, rfl, by have := hbs.1; omega, by rw [hgt, if_pos rfl]; simp⟩⟩
  unfold aAppend
  rw [hu1, hu2]
  simp only [hs, hby, hz, show lenA (.gsl bs 0 0 n) = some n from rfl, hsl.len, hsl.src, hlt, hsz, hzl, cond_true]
  unfold appGsl
  rw [hbs.2]
  simp only [b1, b2, b3, b4, b5, cond_true, cond_false]
  unfold storeCells
  rw [hbs.2]
  rw [Nat.zero_add] at hsp
  have hro : Kd.grow.isRo = false := rfl
  simp [hsp, hset, scalars, hro]
 ·have hL0 : 0 < L.length := List.length_pos_iff.2 hL
  have hset : ∃ h2, h.set bs none = some h2 := by obtain ⟨tt, nx⟩ := h; exact ⟨_, rfl⟩
  obtain ⟨h2, hset⟩ := hset
  obtain ⟨h1, q⟩ := new_some h2 (.cells .grow (cs ++ L.flatten) el)
  obtain ⟨_, q2, q3⟩ := new_ext q
  obtain ⟨hnx, hgt⟩ := AH.get_set hset
  have hb1 := hbs.1
  refine ⟨.gsl h2.next 0 0 (n + L.length), h1, hop ?_, by have := q2.1; omega, fun b hb => by rw [q2.2 b (by omega), hgt, if_neg (by omega)], by rw [List.length_append, hcl, hfl, Nat.add_mul], .inr ⟨by omega, h2.next, by omega, rfl, q3⟩⟩
  have b4 : Nat.ble (0 + (n + L.length) * sz) cs.length = false := by
   cases hq : Nat.ble (0 + (n + L.length) * sz) cs.length with
   | false => rfl
   | true =>
    have := Nat.le_of_ble_eq_true hq
    rw [hcl, Nat.zero_add, Nat.add_mul] at this
    have h6 : 0 < L.length * sz := Nat.mul_pos hL0 h3
    omega
  unfold aAppend
  rw [hu1, hu2]
  simp only [hs, hby, hz, show lenA (.gsl bs 0 0 n) = some n from rfl, hsl.len, hsl.src, hlt, hsz, hzl, cond_true]
  unfold appGsl
  rw [hbs.2]
  simp only [b1, b2, b3, b4, b5, hns, cond_true, cond_false, hset, growNew, q]
  have : Nat.beq 0 0 = true := rfl
  simp only [this, cond_true]
variable {c : FC} {k : List AItem} {Q : AM → Prop} {all : Array Oper} {pl rest : List DOp} {tf ta : Tr AVal} {facts left : List DFact} {i bef d : Nat} {h : AH}
theorem GoE.appendMany {dst : Option Tmp} {tt : TypeId} {pos : String} {after : Array Edge} {guard : Option (Nat × Bool)} {x y : Operand} {s s2 : AVal} {n lo : Nat} {cs : List AVal} {L : List (List AVal)} {t1 t2 el el2 : TypeId} {sz bytes : Nat} {z : AVal}
  (hl : pl = ⟨i, bef, false, ⟨dst, .call ⟨.builtin .append, #[x, y], #[t1, t2]⟩, tt, pos, after, guard⟩, false⟩ :: rest) (hw : wantedA all ta ⟨dst, .call ⟨.builtin .append, #[x, y], #[t1, t2]⟩, tt, pos, after, guard⟩ = some true)
  (hu1 : P.underlying t1 = some (.slice el)) (hu2 : P.underlying t2 = some (.slice el2)) (hs : sizeT P el = some sz) (hby : bytesT P el = some bytes) (hz : zeroT P el = some z) (hzl : Nat.beq z.cells.length sz = true)
  (hsz : Nat.blt 0 sz = true) (hx : ev ta x = some s) (hy : ev ta y = some s2) (hsl : SliceOf h sz s2 L) (hll : ∀ l, l ∈ L → l.length = sz) (hns : scalars L.flatten = true) (hgr : Grow h el sz lo s n cs) (hn0 : 0 < n)
  (hroom : (n + L.length + 300) * 2 * (bytes + 1) < 281474976710656) (hleft : dropF bef facts = left) (hd : dst = some d) (hdn : Nat.blt d c.n = true)
  (g : ∀ s' h1, h.next ≤ h1.next → (∀ b, b < lo → h1.get b = h.get b) → Grow h1 el sz lo s' (n + L.length) (cs ++ L.flatten) → recheck P h1 left = true ∧ GoE P c k Q all rest tf left (ta.put (pth d) (some s')) h1) :
  GoE P c k Q all pl tf facts ta h := by
 obtain ⟨s', h1, q1, q2, q3, q4⟩ := aOp_appendMany (P := P) (dst := dst) (tt := tt) (pos := pos) (after := after) (guard := guard) hu1 hu2 hs hby hz hzl hsz hx hy hsl hll hns hgr hn0 hroom
 obtain ⟨g1, g2⟩ := g s' h1 q2 q3 q4
 exact GoE.noisy0 hl hw q1 hleft g1 (prepD_some hd hdn) g2
end
end Go.AbsE

namespace Go.AbsE
open Go
set_option linter.unusedSimpArgs false
set_option linter.unusedVariables false
section
variable {P : Program} {h : AH} {dst : Option Tmp} {ty tt el : TypeId} {pos : String} {after : Array Edge} {guard : Option (Nat × Bool)} {x y : Operand}
def CutS (s : AVal) (n : Nat) : Prop := n ≠ 0 → ∃ b off cap, s = .slice b off n cap ∧ n ≤ cap
theorem SliceOf.take {sz b off n cap cap' i : Nat} {L : List (List AVal)} (k : SliceOf h sz (.slice b off n cap) L) (hL : L.length = n) (hi : i ≤ n) : SliceOf h sz (.slice b off i cap') (L.take i) := by
 cases k with
 | mk hs hn hb hl hz hc =>
  rw [show aSlElems (.slice b off n cap) = some (b, off, n) from rfl] at hs
  cases hs
  have hlen : (L.take i).length = i := by rw [List.length_take]; omega
  refine .mk (b := b) (off := off) (len := i) rfl rfl hb hlen (fun l hl => hz l (List.mem_of_mem_take hl)) ?_
  have hp := loadCells_part (k := 0) (m := i * sz) hc (by rw [Nat.zero_add]; exact Nat.mul_le_mul_right _ (by omega))
  rw [Nat.add_zero] at hp
  rw [hlen, hp]
  congr 1
  have e1 : (L.take i).flatten.length = i * sz := by
   rw [flatten_len (sz := sz) (fun l hl => hz l (List.mem_of_mem_take hl)), hlen]
  have e3 : L.flatten = (L.take i).flatten ++ (L.drop i).flatten := by rw [← List.flatten_append, List.take_append_drop]
  rw [List.drop_zero, e3, ← e1, List.take_left]
theorem aOp_takeS {t : Tr AVal} {sz b off n cap i : Nat} (hu : P.underlying ty = some (.slice el)) (hs : sizeT P el = some sz) (hx : ev t x = some (.slice b off n cap)) (hy : ev t y = some (.int .i64 (i : Nat))) (h1 : i ≤ n) (h2 : n ≤ cap) (h3 : 0 < cap) :
  aOp P t h ⟨dst, .slice ty x none (some y) none, tt, pos, after, guard⟩ = some (.val (.slice b off i cap) h) := by
 have := aOp_slice (P := P) (t := t) (h := h) (dst := dst) (tt := tt) (pos := pos) (after := after) (guard := guard) (lo := none) (hi := some y) (lv := none) (hv := some (.int .i64 (i : Nat))) hu hs hx rfl (by show (match ev t y with | some v => some (some v) | none => none) = _; rw [hy]) (cut_hi (n := n) (by omega)) h2 (by omega)
 simpa using this
theorem drop_slice {sz b off n cap i : Nat} {L : List (List AVal)} (k : SliceOf h sz (.slice b off n cap) L) (hL : L.length = n) (hi : i ≤ n) (hc : n ≤ cap) :
  ∃ s', SliceOf h sz s' (L.drop i) ∧ ∀ {P : Program} {t : Tr AVal} {h' : AH} {dst : Option Tmp} {ty tt el : TypeId} {pos : String} {after : Array Edge} {guard : Option (Nat × Bool)} {x y : Operand}, P.underlying ty = some (.slice el) → sizeT P el = some sz → ev t x = some (.slice b off n cap) → ev t y = some (.int .i64 (i : Nat)) →
   aOp P t h' ⟨dst, .slice ty x (some y) none none, tt, pos, after, guard⟩ = some (.val s' h') := by
 have ho : ∀ {t : Tr AVal} {y : Operand}, ev t y = some (.int .i64 (i : Nat)) → evO t (some y) = some (some (.int .i64 (i : Nat))) := fun {t y} hy => by
  show (match ev t y with | some v => some (some v) | none => none) = _
  rw [hy]
 by_cases q : i = cap
 ·have hin : i = n := by omega
  subst q
  refine ⟨.slice b off (n - i) (i - i), ?_, fun hu hs hx hy => aOp_sliceAll hu hs hx (ho hy) rfl (cut_lo hi) hc⟩
  rw [List.drop_of_length_le (by omega), show n - i = 0 by omega]
  cases k with
  | mk hs hn hb hl hz hc =>
   rw [show aSlElems (.slice b off n i) = some (b, off, n) from rfl] at hs
   cases hs
   refine .mk (b := b) (off := off) (len := 0) rfl rfl hb rfl (fun l q => by cases q) ?_
   have hp := loadCells_part (k := 0) (m := 0) hc (by omega)
   simpa using hp
 ·refine ⟨.slice b (off + i * sz) (n - i) (cap - i), k.drop (by rw [hL]; rfl) (by rw [hL]; rfl) (by rw [hL]; rfl) (by omega), fun hu hs hx hy => aOp_slice hu hs hx (ho hy) rfl (cut_lo hi) hc q⟩
end
end Go.AbsE
