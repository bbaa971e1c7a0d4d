import Derived.Test.YtkcimfopboelaaaGreatMAH
import Derived.Test.YtkcimfopboelaaaGreatMAF
import Derived.Test.YtkcimfopboelaaaGreatMAQ
import Derived.Test.YtkcimfopboelaaaGreatMAG
import Derived.KernelRfl
import Derived.Test.YtkcimfopboelaaaGreatMAN
set_option linter.unusedSimpArgs false
namespace Go.AbsE
open Go
section
variable {P : Program} {t : Tr AVal} {h : AH} {dst : Option Tmp} {ty tt : TypeId} {pos : String} {after : Array Edge} {guard : Option (Nat × Bool)} {x y : Operand}
theorem slice_all0 {α : Type} {l : List α} {n : Nat} (h : l.length = n) : slice? l 0 n = some l := slice_all h
theorem aOp_appendFull {el el2 eb t1 t2 : TypeId} {sz bytes b len : Nat} {z s : AVal} {g0 : Kd} {Lx L : List (List AVal)} (hu1 : P.underlying t1 = some (.slice el)) (hu2 : P.underlying t2 = some (.slice el2)) (hs : sizeT P el = some sz) (hby : bytesT P el = some bytes) (hz : zeroT P el = some z) (hzl : Nat.beq z.cells.length sz = true) (hsz : Nat.blt 0 sz = true)
  (hx : ev t x = some (.slice b 0 len len)) (hb : Has h b (.cells g0 Lx.flatten eb)) (hg : g0.isRo = false) (hlx : Lx.length = len) (hzx : ∀ l, l ∈ Lx → l.length = sz) (hy : ev t y = some s) (hsl : SliceOf h sz s L) (hzL : ∀ l, l ∈ L → l.length = sz) (hroom : (len + L.length + 300) * 2 * (bytes + 1) < 281474976710656) :
  ∃ s' h1, aOp P t h ⟨dst, .call ⟨.builtin .append, #[x, y], #[t1, t2]⟩, tt, pos, after, guard⟩ = some (.val s' h1) ∧ Ext h h1 ∧ FreshS b h1 sz s' (Lx ++ L) := by
 subst hlx
 have hfx := flatten_len hzx
 by_cases hL : L = []
 ·subst hL
  obtain ⟨h1, q1, q2⟩ := aOp_appendIn (P := P) (t := t) (h := h) (dst := dst) (tt := tt) (pos := pos) (after := after) (guard := guard) (x := x) (y := y) (cap := Lx.length) (m := Lx.length) (new := []) (cs' := Lx.flatten) (cs := Lx.flatten) hu1 hu2 hs hby hz hzl hsz hx hy hsl.len (by rw [hsl.src]; rfl) rfl (by simp) (by simpa using hroom) hb hg rfl (by
   rw [Nat.zero_add, ← hfx]
   have : splice Lx.flatten Lx.flatten.length [] = some (Lx.flatten.take Lx.flatten.length ++ [] ++ Lx.flatten.drop (Lx.flatten.length + ([] : List AVal).length)) := splice_eq (by simp)
   rw [this]
   simp)
  refine ⟨_, h1, q1, ⟨by rw [q2.1]; exact Nat.le_refl _, fun c hc => ?_⟩, ?_⟩
  ·by_cases z : c = b
   ·subst z; rw [q2.2.1, hb.2]
   ·exact q2.2.2 c z
  ·rw [List.append_nil]
   intro h' hn he
   have hb1 := q2.has hb
   refine SliceOf.mk' rfl rfl (hb1.fresh (Nat.le_refl b) hn he) rfl fun i l hl => ?_
   rw [Nat.zero_add]
   exact slice_flatten hzx i l hl
 ·have hL0 : 0 < L.length := List.length_pos_iff.2 hL
  obtain ⟨h1, q⟩ := new_some h (.cells .grow (Lx ++ L).flatten el)
  obtain ⟨_, q2, q3⟩ := new_ext q
  refine ⟨.gsl h.next 0 0 (Lx.length + L.length), h1, ?_, q2, ?_⟩
  ·show opCall P t h ⟨.builtin .append, #[x, y], #[t1, t2]⟩ tt = _
   have he : evs t [x, y] = some [.slice b 0 Lx.length Lx.length, s] := by simp only [evs, mapO, hx, hy]
   have hlt : Nat.blt ((Lx.length + L.length + 300) * 2 * (bytes + 1)) 281474976710656 = true := Nat.ble_eq_true_of_le hroom
   have hold : srcCells h sz Lx.length (.slice b 0 Lx.length Lx.length) = some Lx.flatten := by
    show AbsE.loadCells h b 0 (Lx.length * sz) = _
    unfold AbsE.loadCells
    rw [hb.2]
    exact slice_all0 hfx
   have hle : Nat.ble (Lx.length + L.length) Lx.length = false := by
    cases q : Nat.ble (Lx.length + L.length) Lx.length with
    | false => rfl
    | true => have := Nat.le_of_ble_eq_true q; omega
   have ha : aAppend P h t1 t2 (.slice b 0 Lx.length Lx.length) s = some (.val (.gsl h.next 0 0 (Lx.length + L.length)) h1) := by
    unfold aAppend
    rw [hu1, hu2]
    simp only [hs, hby, hz, show lenA (.slice b 0 Lx.length Lx.length) = some Lx.length from rfl, hsl.len, hsl.src, hlt, hsz, hzl, cond_true]
    unfold appSlice
    rw [hle, hold]
    simp only [cond_false]
    unfold growNew
    rw [← List.flatten_append, q]
   simp only [opCall, he, callWith, aBuiltin, ha]
  ·intro h' hn he
   refine SliceOf.mk' rfl rfl (q3.fresh (Nat.le_of_lt hb.1) hn he) (by rw [List.length_append]) fun i l hl => ?_
   rw [Nat.zero_add]
   refine slice_flatten (fun l hl => ?_) i l hl
   rcases List.mem_append.1 hl with hl | hl
   ·exact hzx l hl
   ·exact hzL l hl
variable {c : FC} {k : List AItem} {Q : AM → Prop} {J : Jump} {all : Array Oper} {l lrest : List Oper} {i d : Nat}
theorem GoR.appendFull {el el2 eb t1 t2 : TypeId} {sz bytes b len : Nat} {z s : AVal} {g0 : Kd} {Lx L : List (List AVal)} (hl : l = ⟨dst, .call ⟨.builtin .append, #[x, y], #[t1, t2]⟩, tt, pos, after, guard⟩ :: lrest) (hw : wantedA all t ⟨dst, .call ⟨.builtin .append, #[x, y], #[t1, t2]⟩, tt, pos, after, guard⟩ = some true)
  (hu1 : P.underlying t1 = some (.slice el)) (hu2 : P.underlying t2 = some (.slice el2)) (hs : sizeT P el = some sz) (hby : bytesT P el = some bytes) (hz : zeroT P el = some z) (hzl : Nat.beq z.cells.length sz = true) (hsz : Nat.blt 0 sz = true)
  (hx : ev t x = some (.slice b 0 len len)) (hb : Has h b (.cells g0 Lx.flatten eb)) (hg : g0.isRo = false) (hlx : Lx.length = len) (hzx : ∀ l, l ∈ Lx → l.length = sz) (hy : ev t y = some s) (hsl : SliceOf h sz s L) (hzL : ∀ l, l ∈ L → l.length = sz) (hroom : (len + L.length + 300) * 2 * (bytes + 1) < 281474976710656) (hd : dst = some d) (hdn : Nat.blt d c.n = true)
  (g : ∀ s' h1, Ext h h1 → FreshS b h1 sz s' (Lx ++ L) → GoR P J c k Q (runOps P c.n all lrest (i + 1) (t.put (pth d) (some s')) h1)) : GoR P J c k Q (runOps P c.n all l i t h) := by
 obtain ⟨s', h1, q1, q2, q3⟩ := aOp_appendFull (P := P) (dst := dst) (tt := tt) (pos := pos) (after := after) (guard := guard) hu1 hu2 hs hby hz hzl hsz hx hb hg hlx hzx hy hsl hzL hroom
 refine GoR.op hl hw q1 ?_ (g s' h1 q2 q3)
 unfold prepD
 rw [show (⟨dst, .call ⟨.builtin .append, #[x, y], #[t1, t2]⟩, tt, pos, after, guard⟩ : Oper).dst = some d from hd]
 simp only [hdn, cond_true]
 rw [Tr.mkPut_eq]
end
end Go.AbsE

namespace Go.Proofs.YtkcimfopboelaaaGreat
open Go Go.AbsE
set_option linter.unusedSimpArgs false
set_option maxRecDepth 100000
set_option maxHeartbeats 0
set_option linter.unusedVariables false
def mkPass (lo hi : Int) : EV := ⟨0, lo, hi, 0, 0, 0, 0⟩
def mkRest (d : Int) : EV := ⟨1, 0, 0, d, 0, 0, 0⟩
def mkLook (p lo hi : Int) : EV := ⟨2, 0, 0, 0, p, lo, hi⟩
def sampleV (E : List EV) : RoadV := ⟨[⟨10, 11, 2, 2, 1, 1, 12⟩, ⟨8, 8, 3, 4, 0, 1, 9⟩], [mkPass 6 6, mkRest 2] ++ E⟩
theorem span33_ok {a b : Int} {h : AH} : Runs Tryz.prog 33 [.int .i64 a, .int .i64 b] h (fun en h' => en = .ret (.agg [.int .i64 a, .int .i64 b]) ∧ Ext h h') := by
 have e0 : Ext h h := Ext.refl _
 refine Runs.intro aFunc33 rfl rfl rfl rfl fun rest => ?_
 refine Go.seq noJ_ok ?_
 refine Go.region noJ_ok rfl ?_
 refine GoR.alloc rfl rfl rfl zt29 rfl rfl fun h0 x0 f0 => ?_
 have := e0.1
 replace e0 := e0.trans x0
 have := f0.1
 refine GoR.end ?_
 refine Go.seq noJ_ok ?_
 refine Go.region noJ_ok rfl ?_
 iterate 2 refine GoR.op rfl rfl rfl rfl ?_
 refine GoR.op rfl rfl (aOp_build zt29 hu29 pl29 rfl rfl) rfl ?_
 refine GoR.store rfl rfl rfl rfl rfl rfl f0 rfl sz29 rfl rfl rfl fun h1 u1 => ?_
 replace f0 := u1.has f0
 replace e0 := e0.upd u1 (by omega)
 refine GoR.end ?_
 exact Go.ret noJ_ok (ret_end (aResult_of Tryz.func33 rfl (aResults_cell rfl f0 (inCells_agg ag29 sz29 rfl))) ⟨rfl, e0⟩)
theorem look42_ok {p a b : Int} {h : AH} : Runs Tryz.prog 42 [.int .i64 p, .int .i64 a, .int .i64 b] h (fun en h' => en = .ret (.agg (EV.cells (mkLook p a b))) ∧ Ext h h') := by
 unfold mkLook EV.cells
 have e0 : Ext h h := Ext.refl _
 refine Runs.intro aFunc42 rfl rfl rfl rfl fun rest => ?_
 refine Go.seq noJ_ok ?_
 refine Go.region noJ_ok rfl ?_
 refine GoR.alloc rfl rfl rfl zt62 rfl rfl fun h0 x0 f0 => ?_
 have := e0.1
 replace e0 := e0.trans x0
 have := f0.1
 refine GoR.end ?_
 refine Go.seq noJ_ok ?_
 refine Go.region noJ_ok rfl ?_
 iterate 3 refine GoR.op rfl rfl rfl rfl ?_
 refine GoR.call rfl rfl (aOp_callFunc aFunc33 rfl) (span33_ok) ?_ (by rintro _ _ ⟨q, _⟩; cases q)
 rintro v1 h1 ⟨q, x1⟩
 cases q
 refine ⟨_, rfl, ?_⟩
 replace f0 := f0.ext x1
 replace e0 := e0.trans x1
 refine GoR.op rfl rfl (aOp_build zt62 hu62 pl62 rfl rfl) rfl ?_
 refine GoR.store rfl rfl rfl rfl rfl rfl f0 rfl sz62 rfl rfl rfl fun h2 u2 => ?_
 replace f0 := u2.has f0
 replace e0 := e0.upd u2 (by omega)
 refine GoR.end ?_
 exact Go.ret noJ_ok (ret_end (aResult_of Tryz.func42 rfl (aResults_cell rfl f0 (inCells_agg ag62 sz62 rfl))) ⟨rfl, e0⟩)
theorem pass43_ok {a b : Int} {h : AH} : Runs Tryz.prog 43 [.int .i64 a, .int .i64 b] h (fun en h' => en = .ret (.agg (EV.cells (mkPass a b))) ∧ Ext h h') := by
 unfold mkPass EV.cells
 have e0 : Ext h h := Ext.refl _
 refine Runs.intro aFunc43 rfl rfl rfl rfl fun rest => ?_
 refine Go.seq noJ_ok ?_
 refine Go.region noJ_ok rfl ?_
 refine GoR.alloc rfl rfl rfl zt62 rfl rfl fun h0 x0 f0 => ?_
 have := e0.1
 replace e0 := e0.trans x0
 have := f0.1
 refine GoR.end ?_
 refine Go.seq noJ_ok ?_
 refine Go.region noJ_ok rfl ?_
 iterate 2 refine GoR.op rfl rfl rfl rfl ?_
 refine GoR.call rfl rfl (aOp_callFunc aFunc33 rfl) (span33_ok) ?_ (by rintro _ _ ⟨q, _⟩; cases q)
 rintro v1 h1 ⟨q, x1⟩
 cases q
 refine ⟨_, rfl, ?_⟩
 replace f0 := f0.ext x1
 replace e0 := e0.trans x1
 refine GoR.op rfl rfl (aOp_build zt62 hu62 pl62 rfl rfl) rfl ?_
 refine GoR.store rfl rfl rfl rfl rfl rfl f0 rfl sz62 rfl rfl rfl fun h2 u2 => ?_
 replace f0 := u2.has f0
 replace e0 := e0.upd u2 (by omega)
 refine GoR.end ?_
 exact Go.ret noJ_ok (ret_end (aResult_of Tryz.func43 rfl (aResults_cell rfl f0 (inCells_agg ag62 sz62 rfl))) ⟨rfl, e0⟩)
theorem rest45_ok {d : Int} {h : AH} : Runs Tryz.prog 45 [.int .i64 d] h (fun en h' => en = .ret (.agg (EV.cells (mkRest d))) ∧ Ext h h') := by
 unfold mkRest EV.cells
 have e0 : Ext h h := Ext.refl _
 refine Runs.intro aFunc45 rfl rfl rfl rfl fun rest => ?_
 refine Go.seq noJ_ok ?_
 refine Go.region noJ_ok rfl ?_
 refine GoR.alloc rfl rfl rfl zt62 rfl rfl fun h0 x0 f0 => ?_
 have := e0.1
 replace e0 := e0.trans x0
 have := f0.1
 refine GoR.end ?_
 refine Go.seq noJ_ok ?_
 refine Go.region noJ_ok rfl ?_
 refine GoR.op rfl rfl rfl rfl ?_
 refine GoR.op rfl rfl (aOp_build zt62 hu62 pl62 rfl rfl) rfl ?_
 refine GoR.store rfl rfl rfl rfl rfl rfl f0 rfl sz62 rfl rfl rfl fun h1 u1 => ?_
 replace f0 := u1.has f0
 replace e0 := e0.upd u1 (by omega)
 refine GoR.end ?_
 exact Go.ret noJ_ok (ret_end (aResult_of Tryz.func45 rfl (aResults_cell rfl f0 (inCells_agg ag62 sz62 rfl))) ⟨rfl, e0⟩)
theorem evs_seven {L : List EV} : ∀ l, l ∈ L.map EV.cells → l.length = 7 := fun l hl => by
 obtain ⟨e, _, rfl⟩ := List.mem_map.1 hl
 rfl
theorem pvs_slice {h : AH} {b n : Nat} {g : Kd} {el : TypeId} {L : List PV} (hn : L.length = n) (f : Has h b (.cells g (L.flatMap PV.cells) el)) : SliceOf h 7 (.slice b 0 n n) (L.map PV.cells) :=
 SliceOf.mk' rfl rfl f (by rw [List.length_map, hn]) fun i v q => by rw [Nat.zero_add]; exact flatten_at pv_len i v q
theorem evs_slice {h : AH} {b n : Nat} {g : Kd} {el : TypeId} {L : List EV} (hn : L.length = n) (f : Has h b (.cells g (L.flatMap EV.cells) el)) : SliceOf h 7 (.slice b 0 n n) (L.map EV.cells) :=
 SliceOf.mk' rfl rfl f (by rw [List.length_map, hn]) fun i v q => by rw [Nat.zero_add]; exact flatten_at ev_len i v q
theorem scal_two {a b : AVal} (ha : scalars [a] = true) (hb : scalars [b] = true) : scalars [a, b] = true := by
 have h1 : cond (scalar a) (scalars []) false = true := ha
 show cond (scalar a) (scalars [b]) false = true
 cases q : scalar a with
 | true => exact hb
 | false => rw [q] at h1; cases h1
theorem road_scal {h : AH} {R : RoadV} {sp se : AVal} (A : RoadAt h R sp se) : scalars [sp, se] = true := scal_two A.ps.scal.1 A.es.scal.1
def RoadNew (lo : Nat) (h : AH) (R : RoadV) (sp se : AVal) : Prop := FreshS lo h 7 sp (R.ps.map PV.cells) ∧ FreshS lo h 7 se (R.es.map EV.cells)
theorem RoadNew.road {lo : Nat} {h : AH} {R : RoadV} {sp se : AVal} (k : RoadNew lo h R sp se) : RoadAt h R sp se := ⟨k.1.self, k.2.self⟩
theorem RoadNew.upd {lo n : Nat} {B : ABlk} {h h' : AH} {R : RoadV} {sp se : AVal} (k : RoadNew lo h R sp se) (u : Upd h n B h') (hn : n < lo) : RoadNew lo h' R sp se :=
 ⟨k.1.on (Nat.le_of_eq u.1.symm) fun b b1 _ => u.2.2 b (by omega), k.2.on (Nat.le_of_eq u.1.symm) fun b b1 _ => u.2.2 b (by omega)⟩
theorem fresh_pvs {lo : Nat} {h : AH} {b n : Nat} {g : Kd} {el : TypeId} {L : List PV} (hn : L.length = n) (hb : lo ≤ b) (f : Has h b (.cells g (L.flatMap PV.cells) el)) : FreshS lo h 7 (.slice b 0 n n) (L.map PV.cells) := fun h' hl he => pvs_slice hn ⟨Nat.lt_of_lt_of_le f.1 hl, by rw [he b hb f.1]; exact f.2⟩
theorem sample_ok {E : List EV} {s : AVal} {h : AH} (hs : SliceOf h 7 s (E.map EV.cells)) (hn : E.length ≤ 100) : Runs Tryz.prog 32 [s] h (fun en h' => ∃ sp se, en = .ret (.agg [sp, se]) ∧ Ext h h' ∧ RoadNew h.next h' (sampleV E) sp se ∧ Ext h' h') := by
 have p1 : ([⟨10, 11, 2, 2, 1, 1, 12⟩, ⟨8, 8, 3, 4, 0, 1, 9⟩] : List PV).flatMap PV.cells = _ := rfl
 have hpc := fun {h9} => pass43_ok (a := 6) (b := 6) (h := h9)
 have hrc := fun {h9} => rest45_ok (d := 2) (h := h9)
 unfold mkPass EV.cells at hpc
 unfold mkRest EV.cells at hrc
 have e0 : Ext h h := Ext.refl _
 refine Runs.intro aFunc32 rfl rfl rfl rfl fun rest => ?_
 refine Go.seq noJ_ok ?_
 refine Go.region noJ_ok rfl ?_
 refine GoR.alloc rfl rfl rfl zt25 rfl rfl fun h0 x0 f0 => ?_
 have := e0.1
 replace e0 := e0.trans x0
 have := f0.1
 refine GoR.end ?_
 refine Go.seq noJ_ok ?_
 refine Go.region noJ_ok rfl ?_
 refine GoR.call rfl rfl (aOp_callFunc aFunc33 rfl) (span33_ok) ?_ (by rintro _ _ ⟨q, _⟩; cases q)
 rintro v1 h1 ⟨q, x1⟩
 cases q
 refine ⟨_, rfl, ?_⟩
 replace f0 := f0.ext x1
 replace e0 := e0.trans x1
 refine GoR.call rfl rfl (aOp_callFunc aFunc33 rfl) (span33_ok) ?_ (by rintro _ _ ⟨q, _⟩; cases q)
 rintro v2 h2 ⟨q, x2⟩
 cases q
 refine ⟨_, rfl, ?_⟩
 replace f0 := f0.ext x2
 replace e0 := e0.trans x2
 refine GoR.call rfl rfl (aOp_callFunc aFunc33 rfl) (span33_ok) ?_ (by rintro _ _ ⟨q, _⟩; cases q)
 rintro v3 h3 ⟨q, x3⟩
 cases q
 refine ⟨_, rfl, ?_⟩
 replace f0 := f0.ext x3
 replace e0 := e0.trans x3
 refine GoR.op rfl rfl (aOp_build zt58 hu58 pl58 rfl rfl) rfl ?_
 refine GoR.call rfl rfl (aOp_callFunc aFunc33 rfl) (span33_ok) ?_ (by rintro _ _ ⟨q, _⟩; cases q)
 rintro v4 h4 ⟨q, x4⟩
 cases q
 refine ⟨_, rfl, ?_⟩
 replace f0 := f0.ext x4
 replace e0 := e0.trans x4
 refine GoR.call rfl rfl (aOp_callFunc aFunc33 rfl) (span33_ok) ?_ (by rintro _ _ ⟨q, _⟩; cases q)
 rintro v5 h5 ⟨q, x5⟩
 cases q
 refine ⟨_, rfl, ?_⟩
 replace f0 := f0.ext x5
 replace e0 := e0.trans x5
 refine GoR.call rfl rfl (aOp_callFunc aFunc33 rfl) (span33_ok) ?_ (by rintro _ _ ⟨q, _⟩; cases q)
 rintro v6 h6 ⟨q, x6⟩
 cases q
 refine ⟨_, rfl, ?_⟩
 replace f0 := f0.ext x6
 replace e0 := e0.trans x6
 refine GoR.op rfl rfl (aOp_build zt58 hu58 pl58 rfl rfl) rfl ?_
 refine GoR.buildSl rfl rfl (ps := [(0, .agg [.int .i64 10, .int .i64 11, .int .i64 2, .int .i64 2, .int .i64 1, .int .i64 1, .int .i64 12]), (1, .agg [.int .i64 8, .int .i64 8, .int .i64 3, .int .i64 4, .int .i64 0, .int .i64 1, .int .i64 9])]) (cs := ([⟨10, 11, 2, 2, 1, 1, 12⟩, ⟨8, 8, 3, 4, 0, 1, 9⟩] : List PV).flatMap PV.cells) Tryz.underlying22 rfl sz58 zt58 rfl rfl rfl rfl fun h7 x7 f7 => ?_
 have := e0.1
 have := f0.1
 replace f0 := f0.ext x7
 replace e0 := e0.trans x7
 have := f7.1
 refine GoR.call rfl rfl (aOp_callFunc aFunc43 rfl) (hpc) ?_ (by rintro _ _ ⟨q, _⟩; cases q)
 rintro v8 h8 ⟨q, x8⟩
 cases q
 refine ⟨_, rfl, ?_⟩
 replace f7 := f7.ext x8
 replace f0 := f0.ext x8
 replace e0 := e0.trans x8
 refine GoR.call rfl rfl (aOp_callFunc aFunc45 rfl) (hrc) ?_ (by rintro _ _ ⟨q, _⟩; cases q)
 rintro v9 h9 ⟨q, x9⟩
 cases q
 refine ⟨_, rfl, ?_⟩
 replace f7 := f7.ext x9
 replace f0 := f0.ext x9
 replace e0 := e0.trans x9
 refine GoR.buildSl rfl rfl (ps := [(0, .agg [.int .i64 0, .int .i64 6, .int .i64 6, .int .i64 0, .int .i64 0, .int .i64 0, .int .i64 0]), (1, .agg [.int .i64 1, .int .i64 0, .int .i64 0, .int .i64 2, .int .i64 0, .int .i64 0, .int .i64 0])]) (cs := ([mkPass 6 6, mkRest 2].map EV.cells).flatten) Tryz.underlying23 rfl sz62 zt62 rfl rfl rfl rfl fun h10 x10 f10 => ?_
 have := e0.1
 have := f7.1
 have := f0.1
 replace f7 := f7.ext x10
 replace f0 := f0.ext x10
 replace e0 := e0.trans x10
 have := f10.1
 refine GoR.op rfl rfl rfl rfl ?_
 have hb0 := f0.1
 have hsl := hs.ext e0
 have hps := pvs_slice (L := [⟨10, 11, 2, 2, 1, 1, 12⟩, ⟨8, 8, 3, 4, 0, 1, 9⟩]) rfl f7
 refine GoR.appendFull (Lx := [mkPass 6 6, mkRest 2].map EV.cells) rfl rfl Tryz.underlying23 Tryz.underlying23 sz62 by62 zt62 rfl rfl rfl f10 rfl rfl evs_seven rfl hsl evs_seven (by rw [List.length_map]; omega) rfl rfl fun s11 h11 x11 S11 => ?_
 replace f0 := f0.ext x11
 replace f7 := f7.ext x11
 replace e0 := e0.trans x11
 rw [← List.map_append] at S11
 have hs11 := S11.self.scal
 have h1' : cond (scalar s11) (scalars []) false = true := hs11.1
 have hsc : scalar s11 = true := by
  cases q : scalar s11 with
  | true => rfl
  | false => rw [q] at h1'; cases h1'
 have hx11 := x11.1
 have RN : RoadNew (h.next + 1) h11 (sampleV E) (.slice h6.next 0 2 2) s11 := ⟨fresh_pvs (L := [⟨10, 11, 2, 2, 1, 1, 12⟩, ⟨8, 8, 3, 4, 0, 1, 9⟩]) rfl (by omega) f7, fun h' hl he => S11 h' hl fun b b1 b2 => he b (by omega) b2⟩
 refine GoR.op rfl rfl (aOp_build (ps := [(0, .slice h6.next 0 2 2), (1, s11)]) (cs := [.slice h6.next 0 2 2, s11]) zt25 hu25 pl25 rfl (by simp [aFillA, hs11.2, cells_agg, splice]; rfl)) rfl ?_
 refine GoR.store rfl rfl rfl rfl rfl rfl f0 rfl sz25 rfl (by show cond true (cond (scalar s11) true false) false = true; rw [hsc]; rfl) rfl fun h12 u12 => ?_
 replace f0 := u12.has f0
 replace e0 := e0.upd u12 (by omega)
 refine GoR.end ?_
 have hr := RN.upd u12 (Nat.lt_succ_self _)
 exact Go.ret noJ_ok (ret_end (aResult_of Tryz.func32 rfl (aResults_cell rfl f0 (inCells_agg ag25 sz25 rfl))) ⟨_, _, rfl, e0, ⟨fun h' hl he => hr.1 h' hl fun b b1 b2 => he b (by omega) b2, fun h' hl he => hr.2 h' hl fun b b1 b2 => he b (by omega) b2⟩, Ext.refl _⟩)
theorem seen_ok {h : AH} : Runs Tryz.prog 34 [] h (fun en h' => ∃ sp se, en = .ret (.agg [sp, se]) ∧ Ext h h' ∧ RoadAt h' (sampleV [mkLook 1 7 9]) sp se ∧ Ext h' h') := by
 have hlk := fun {h9} => look42_ok (p := 1) (a := 7) (b := 9) (h := h9)
 unfold mkLook EV.cells at hlk
 have e0 : Ext h h := Ext.refl _
 refine Runs.intro aFunc34 rfl rfl rfl rfl fun rest => ?_
 refine Go.seq noJ_ok ?_
 refine Go.region noJ_ok rfl ?_
 refine GoR.alloc rfl rfl rfl zt25 rfl rfl fun h0 x0 f0 => ?_
 have := e0.1
 replace e0 := e0.trans x0
 have := f0.1
 refine GoR.end ?_
 refine Go.seq noJ_ok ?_
 refine Go.region noJ_ok rfl ?_
 refine GoR.call rfl rfl (aOp_callFunc aFunc42 rfl) (hlk) ?_ (by rintro _ _ ⟨q, _⟩; cases q)
 rintro v1 h1 ⟨q, x1⟩
 cases q
 refine ⟨_, rfl, ?_⟩
 replace f0 := f0.ext x1
 replace e0 := e0.trans x1
 refine GoR.buildSl rfl rfl (ps := [(0, .agg [.int .i64 2, .int .i64 0, .int .i64 0, .int .i64 0, .int .i64 1, .int .i64 7, .int .i64 9])]) (cs := [mkLook 1 7 9].flatMap EV.cells) Tryz.underlying23 rfl sz62 zt62 rfl rfl rfl rfl fun h2 x2 f2 => ?_
 have := e0.1
 have := f0.1
 replace f0 := f0.ext x2
 replace e0 := e0.trans x2
 have := f2.1
 refine GoR.call rfl rfl (aOp_callFunc aFunc32 rfl) (sample_ok (evs_slice (L := [mkLook 1 7 9]) rfl (by assumption)) (by decide)) ?_ (by rintro _ _ ⟨sp, se, q, _, RA, e9⟩; cases q)
 rintro v3 h3 ⟨sp, se, q, x3, RA, e9⟩
 cases q
 refine ⟨_, rfl, ?_⟩
 have := e0.1
 replace f2 := f2.ext x3
 replace f0 := f0.ext x3
 replace e0 := e0.trans x3
 refine GoR.store rfl rfl rfl rfl rfl rfl f0 rfl sz25 rfl (road_scal RA.road) rfl fun h4 u4 => ?_
 replace f2 := f2.upd u4 (by omega)
 replace f0 := u4.has f0
 clear e9
 replace e0 := e0.upd u4 (by omega)
 refine GoR.end ?_
 exact Go.ret noJ_ok (ret_end (aResult_of Tryz.func34 rfl (aResults_cell rfl f0 (inCells_agg ag25 sz25 rfl))) ⟨_, _, rfl, e0, (RA.upd (by assumption) (by omega)).road, Ext.refl _⟩)
theorem clash_ok {h : AH} : Runs Tryz.prog 35 [] h (fun en h' => ∃ sp se, en = .ret (.agg [sp, se]) ∧ Ext h h' ∧ RoadAt h' (sampleV [mkLook 1 7 9, mkLook 1 6 6]) sp se ∧ Ext h' h') := by
 have hlk := fun {h9} => look42_ok (p := 1) (a := 7) (b := 9) (h := h9)
 have hlk2 := fun {h9} => look42_ok (p := 1) (a := 6) (b := 6) (h := h9)
 unfold mkLook EV.cells at hlk hlk2
 have e0 : Ext h h := Ext.refl _
 refine Runs.intro aFunc35 rfl rfl rfl rfl fun rest => ?_
 refine Go.seq noJ_ok ?_
 refine Go.region noJ_ok rfl ?_
 refine GoR.alloc rfl rfl rfl zt25 rfl rfl fun h0 x0 f0 => ?_
 have := e0.1
 replace e0 := e0.trans x0
 have := f0.1
 refine GoR.end ?_
 refine Go.seq noJ_ok ?_
 refine Go.region noJ_ok rfl ?_
 refine GoR.call rfl rfl (aOp_callFunc aFunc42 rfl) (hlk) ?_ (by rintro _ _ ⟨q, _⟩; cases q)
 rintro v1 h1 ⟨q, x1⟩
 cases q
 refine ⟨_, rfl, ?_⟩
 replace f0 := f0.ext x1
 replace e0 := e0.trans x1
 refine GoR.call rfl rfl (aOp_callFunc aFunc42 rfl) (hlk2) ?_ (by rintro _ _ ⟨q, _⟩; cases q)
 rintro v2 h2 ⟨q, x2⟩
 cases q
 refine ⟨_, rfl, ?_⟩
 replace f0 := f0.ext x2
 replace e0 := e0.trans x2
 refine GoR.buildSl rfl rfl (ps := [(0, .agg [.int .i64 2, .int .i64 0, .int .i64 0, .int .i64 0, .int .i64 1, .int .i64 7, .int .i64 9]), (1, .agg [.int .i64 2, .int .i64 0, .int .i64 0, .int .i64 0, .int .i64 1, .int .i64 6, .int .i64 6])]) (cs := [mkLook 1 7 9, mkLook 1 6 6].flatMap EV.cells) Tryz.underlying23 rfl sz62 zt62 rfl rfl rfl rfl fun h3 x3 f3 => ?_
 have := e0.1
 have := f0.1
 replace f0 := f0.ext x3
 replace e0 := e0.trans x3
 have := f3.1
 refine GoR.call rfl rfl (aOp_callFunc aFunc32 rfl) (sample_ok (evs_slice (L := [mkLook 1 7 9, mkLook 1 6 6]) rfl (by assumption)) (by decide)) ?_ (by rintro _ _ ⟨sp, se, q, _, RA, e9⟩; cases q)
 rintro v4 h4 ⟨sp, se, q, x4, RA, e9⟩
 cases q
 refine ⟨_, rfl, ?_⟩
 have := e0.1
 replace f3 := f3.ext x4
 replace f0 := f0.ext x4
 replace e0 := e0.trans x4
 refine GoR.store rfl rfl rfl rfl rfl rfl f0 rfl sz25 rfl (road_scal RA.road) rfl fun h5 u5 => ?_
 replace f3 := f3.upd u5 (by omega)
 replace f0 := u5.has f0
 clear e9
 replace e0 := e0.upd u5 (by omega)
 refine GoR.end ?_
 exact Go.ret noJ_ok (ret_end (aResult_of Tryz.func35 rfl (aResults_cell rfl f0 (inCells_agg ag25 sz25 rfl))) ⟨_, _, rfl, e0, (RA.upd (by assumption) (by omega)).road, Ext.refl _⟩)
theorem v_h1 : (sampleV []).heightR 1 1 = ((6, 8), 0) := by decide +kernel
theorem v_s1 : (sampleV []).sinksR 1 8 = ((2, 3), 0) := by decide +kernel
theorem v_b1 : (sampleV []).bearsR 20 = (1, 0) := by decide +kernel
theorem v_m1 : (sampleV []).mostR = (18, 0) := by decide +kernel
theorem v_r1 : (sampleV [mkLook 1 7 9]).restR 20 = (1, 0) := by decide +kernel
theorem v_w1 : (sampleV []).belowR = ((0, 0), 0) := by decide +kernel
theorem v_k1 : (sampleV []).weakR = (1, 0) := by decide +kernel
theorem v_c1 : (sampleV [mkLook 1 7 9, mkLook 1 6 6]).clashR = (12, 0) := by decide +kernel
end Go.Proofs.YtkcimfopboelaaaGreat

namespace Go.Proofs.YtkcimfopboelaaaGreat
open Go Go.AbsE
set_option linter.unusedSimpArgs false
set_option maxRecDepth 100000
set_option maxHeartbeats 0
set_option linter.unusedVariables false
theorem sample_of {h : AH} : Runs Tryz.prog 32 [.nilslice] h (fun en h' => ∃ sp se, en = .ret (.agg [sp, se]) ∧ Ext h h' ∧ RoadAt h' (sampleV []) sp se ∧ Ext h' h') := (sample_ok (E := []) .nil (by decide)).mono fun _ _ ⟨sp, se, a, b, c, d⟩ => ⟨sp, se, a, b, c.road, d⟩
theorem spanT29 : SpanT Tryz.prog 29 := ⟨⟨_, _, Tryz.underlying29, by decide, by decide, rfl, rfl, ⟨_, Tryz.underlying3⟩, ⟨_, Tryz.underlying3⟩⟩, by kernel_rfl, by kernel_rfl⟩
theorem cv_h1 {h : AH} {sp se : AVal} (A : RoadAt h (sampleV []) sp se) : Runs Tryz.prog 15 [.agg [sp, se], .int .i64 1, .int .i64 1] h (fun en h' => en = .ret (.tuple [.agg [.int .i64 6, .int .i64 8], .int .i64 0]) ∧ Ext h h') := by
 have q := Height_ok A (by decide) (by decide) 1 1
 rw [v_h1] at q
 exact q
theorem cv_s1 {h : AH} {sp se : AVal} (A : RoadAt h (sampleV []) sp se) : Runs Tryz.prog 17 [.agg [sp, se], .int .i64 1, .int .i64 8] h (fun en h' => en = .ret (.tuple [.agg [.int .i64 2, .int .i64 3], .int .i64 0]) ∧ Ext h h') := by
 have q := Sinks_ok A (by decide) (by decide) 1 8
 rw [v_s1] at q
 exact q
theorem cv_b1 {h : AH} {sp se : AVal} (A : RoadAt h (sampleV []) sp se) : Runs Tryz.prog 19 [.agg [sp, se], .int .i64 20] h (fun en h' => en = .ret (.tuple [.int .i64 1, .int .i64 0]) ∧ Ext h h') := by
 have q := Bears_ok A (by decide) (by decide) 20
 rw [v_b1] at q
 exact q
theorem cv_m1 {h : AH} {sp se : AVal} (A : RoadAt h (sampleV []) sp se) : Runs Tryz.prog 24 [.agg [sp, se]] h (fun en h' => en = .ret (.tuple [.int .i64 18, .int .i64 0]) ∧ Ext h h') := by
 have q := Most_ok A (by decide) (by decide)
 rw [v_m1] at q
 exact q
theorem cv_r1 {h : AH} {sp se : AVal} (A : RoadAt h (sampleV [mkLook 1 7 9]) sp se) : Runs Tryz.prog 26 [.agg [sp, se], .int .i64 20] h (fun en h' => en = .ret (.tuple [.int .i64 1, .int .i64 0]) ∧ Ext h h') := by
 have q := Rest_ok A (by decide) (by decide) 20
 rw [v_r1] at q
 exact q
theorem cv_w1 {h : AH} {sp se : AVal} (A : RoadAt h (sampleV []) sp se) : Runs Tryz.prog 21 [.agg [sp, se]] h (fun en h' => en = .ret (.tuple [.int .i64 0, .int .i64 0, .int .i64 0]) ∧ Ext h h') := by
 have q := Below_ok A (by decide) (by decide)
 rw [v_w1] at q
 exact q
theorem cv_k1 {h : AH} {sp se : AVal} (A : RoadAt h (sampleV []) sp se) : Runs Tryz.prog 28 [.agg [sp, se]] h (fun en h' => en = .ret (.tuple [.int .i64 1, .int .i64 0]) ∧ Ext h h') := by
 have q := Weak_ok A (by decide) (by decide)
 rw [v_k1] at q
 exact q
theorem cv_c1 {h : AH} {sp se : AVal} (A : RoadAt h (sampleV [mkLook 1 7 9, mkLook 1 6 6]) sp se) : Runs Tryz.prog 30 [.agg [sp, se]] h (fun en h' => en = .ret (.tuple [.int .i64 12, .int .i64 0]) ∧ Ext h h') := by
 have q := Clash_ok A (by decide) (by decide)
 rw [v_c1] at q
 exact q
theorem alive_ok {h : AH} : Runs Tryz.prog 14 [] h (fun en h' => en = .ret (.bool true) ∧ Ext h h') := by
 have e0 : Ext h h := Ext.refl _
 refine Runs.intro aFunc14 rfl rfl rfl rfl fun rest => ?_
 refine Go.seq noJ_ok ?_
 refine Go.region noJ_ok rfl ?_
 refine GoR.op rfl rfl rfl rfl ?_
 refine GoR.end ?_
 refine Go.seq noJ_ok ?_
 refine Go.region noJ_ok rfl ?_
 refine GoR.call rfl rfl (aOp_callFunc aFunc32 rfl) (sample_of) ?_ (by rintro _ _ ⟨sp0, se0, q, _, RA0, e900⟩; cases q)
 rintro v0 h0 ⟨sp0, se0, q, x0, RA0, e900⟩
 cases q
 refine ⟨_, rfl, ?_⟩
 have := e0.1
 replace e0 := e0.trans x0
 refine GoR.call rfl rfl (aOp_callFunc aFunc15 rfl) (cv_h1 (RA0.ext e900)) ?_ (by rintro _ _ ⟨q, _⟩; cases q)
 rintro v1 h1 ⟨q, x1⟩
 cases q
 refine ⟨_, rfl, ?_⟩
 replace e900 := e900.trans x1
 replace e0 := e0.trans x1
 iterate 3 refine GoR.op rfl rfl rfl rfl ?_
 refine GoR.alloc rfl rfl rfl zt29 rfl rfl fun h2 x2 f2 => ?_
 have := e900.1
 have := e0.1
 replace e900 := e900.trans x2
 replace e0 := e0.trans x2
 have := f2.1
 refine GoR.store rfl rfl rfl rfl rfl rfl f2 rfl sz29 rfl rfl rfl fun h3 u3 => ?_
 replace f2 := u3.has f2
 replace e900 := e900.upd u3 (by omega)
 replace e0 := e0.upd u3 (by omega)
 refine GoR.op rfl rfl rfl rfl ?_
 refine GoR.end ?_
 refine Go.seq noJ_ok ?_
 refine Go.region noJ_ok rfl ?_
 refine GoR.call rfl rfl (aOp_callFunc aFunc32 rfl) (sample_of) ?_ (by rintro _ _ ⟨sp1, se1, q, _, RA1, e901⟩; cases q)
 rintro v4 h4 ⟨sp1, se1, q, x4, RA1, e901⟩
 cases q
 refine ⟨_, rfl, ?_⟩
 have := e900.1
 have := e0.1
 replace f2 := f2.ext x4
 replace e900 := e900.trans x4
 replace e0 := e0.trans x4
 refine GoR.call rfl rfl (aOp_callFunc aFunc17 rfl) (cv_s1 (RA1.ext e901)) ?_ (by rintro _ _ ⟨q, _⟩; cases q)
 rintro v5 h5 ⟨q, x5⟩
 cases q
 refine ⟨_, rfl, ?_⟩
 replace f2 := f2.ext x5
 replace e901 := e901.trans x5
 replace e900 := e900.trans x5
 replace e0 := e0.trans x5
 iterate 3 refine GoR.op rfl rfl rfl rfl ?_
 refine GoR.alloc rfl rfl rfl zt29 rfl rfl fun h6 x6 f6 => ?_
 have := e901.1
 have := e900.1
 have := e0.1
 have := f2.1
 replace f2 := f2.ext x6
 replace e901 := e901.trans x6
 replace e900 := e900.trans x6
 replace e0 := e0.trans x6
 have := f6.1
 refine GoR.store rfl rfl rfl rfl rfl rfl f6 rfl sz29 rfl rfl rfl fun h7 u7 => ?_
 replace f6 := u7.has f6
 replace f2 := f2.upd u7 (by omega)
 replace e901 := e901.upd u7 (by omega)
 replace e900 := e900.upd u7 (by omega)
 replace e0 := e0.upd u7 (by omega)
 refine GoR.op rfl rfl rfl rfl ?_
 refine GoR.end ?_
 refine Go.seq noJ_ok ?_
 refine Go.region noJ_ok rfl ?_
 refine GoR.call rfl rfl (aOp_callFunc aFunc32 rfl) (sample_of) ?_ (by rintro _ _ ⟨sp2, se2, q, _, RA2, e902⟩; cases q)
 rintro v8 h8 ⟨sp2, se2, q, x8, RA2, e902⟩
 cases q
 refine ⟨_, rfl, ?_⟩
 have := e901.1
 have := e900.1
 have := e0.1
 replace f6 := f6.ext x8
 replace f2 := f2.ext x8
 replace e901 := e901.trans x8
 replace e900 := e900.trans x8
 replace e0 := e0.trans x8
 refine GoR.call rfl rfl (aOp_callFunc aFunc19 rfl) (cv_b1 (RA2.ext e902)) ?_ (by rintro _ _ ⟨q, _⟩; cases q)
 rintro v9 h9 ⟨q, x9⟩
 cases q
 refine ⟨_, rfl, ?_⟩
 replace f6 := f6.ext x9
 replace f2 := f2.ext x9
 replace e902 := e902.trans x9
 replace e901 := e901.trans x9
 replace e900 := e900.trans x9
 replace e0 := e0.trans x9
 iterate 5 refine GoR.op rfl rfl rfl rfl ?_
 refine GoR.end ?_
 refine Go.seq noJ_ok ?_
 refine Go.region noJ_ok rfl ?_
 refine GoR.call rfl rfl (aOp_callFunc aFunc32 rfl) (sample_of) ?_ (by rintro _ _ ⟨sp3, se3, q, _, RA3, e903⟩; cases q)
 rintro v10 h10 ⟨sp3, se3, q, x10, RA3, e903⟩
 cases q
 refine ⟨_, rfl, ?_⟩
 have := e902.1
 have := e901.1
 have := e900.1
 have := e0.1
 replace f6 := f6.ext x10
 replace f2 := f2.ext x10
 replace e902 := e902.trans x10
 replace e901 := e901.trans x10
 replace e900 := e900.trans x10
 replace e0 := e0.trans x10
 refine GoR.call rfl rfl (aOp_callFunc aFunc24 rfl) (cv_m1 (RA3.ext e903)) ?_ (by rintro _ _ ⟨q, _⟩; cases q)
 rintro v11 h11 ⟨q, x11⟩
 cases q
 refine ⟨_, rfl, ?_⟩
 replace f6 := f6.ext x11
 replace f2 := f2.ext x11
 replace e903 := e903.trans x11
 replace e902 := e902.trans x11
 replace e901 := e901.trans x11
 replace e900 := e900.trans x11
 replace e0 := e0.trans x11
 iterate 5 refine GoR.op rfl rfl rfl rfl ?_
 refine GoR.end ?_
 refine Go.seq noJ_ok ?_
 refine Go.region noJ_ok rfl ?_
 refine GoR.call rfl rfl (aOp_callFunc aFunc34 rfl) (seen_ok) ?_ (by rintro _ _ ⟨sp4, se4, q, _, RA4, e904⟩; cases q)
 rintro v12 h12 ⟨sp4, se4, q, x12, RA4, e904⟩
 cases q
 refine ⟨_, rfl, ?_⟩
 have := e903.1
 have := e902.1
 have := e901.1
 have := e900.1
 have := e0.1
 replace f6 := f6.ext x12
 replace f2 := f2.ext x12
 replace e903 := e903.trans x12
 replace e902 := e902.trans x12
 replace e901 := e901.trans x12
 replace e900 := e900.trans x12
 replace e0 := e0.trans x12
 refine GoR.call rfl rfl (aOp_callFunc aFunc26 rfl) (cv_r1 (RA4.ext e904)) ?_ (by rintro _ _ ⟨q, _⟩; cases q)
 rintro v13 h13 ⟨q, x13⟩
 cases q
 refine ⟨_, rfl, ?_⟩
 replace f6 := f6.ext x13
 replace f2 := f2.ext x13
 replace e904 := e904.trans x13
 replace e903 := e903.trans x13
 replace e902 := e902.trans x13
 replace e901 := e901.trans x13
 replace e900 := e900.trans x13
 replace e0 := e0.trans x13
 iterate 5 refine GoR.op rfl rfl rfl rfl ?_
 refine GoR.end ?_
 refine Go.seq noJ_ok ?_
 refine Go.region noJ_ok rfl ?_
 refine GoR.call rfl rfl (aOp_callFunc aFunc32 rfl) (sample_of) ?_ (by rintro _ _ ⟨sp5, se5, q, _, RA5, e905⟩; cases q)
 rintro v14 h14 ⟨sp5, se5, q, x14, RA5, e905⟩
 cases q
 refine ⟨_, rfl, ?_⟩
 have := e904.1
 have := e903.1
 have := e902.1
 have := e901.1
 have := e900.1
 have := e0.1
 replace f6 := f6.ext x14
 replace f2 := f2.ext x14
 replace e904 := e904.trans x14
 replace e903 := e903.trans x14
 replace e902 := e902.trans x14
 replace e901 := e901.trans x14
 replace e900 := e900.trans x14
 replace e0 := e0.trans x14
 refine GoR.call rfl rfl (aOp_callFunc aFunc21 rfl) (cv_w1 (RA5.ext e905)) ?_ (by rintro _ _ ⟨q, _⟩; cases q)
 rintro v15 h15 ⟨q, x15⟩
 cases q
 refine ⟨_, rfl, ?_⟩
 replace f6 := f6.ext x15
 replace f2 := f2.ext x15
 replace e905 := e905.trans x15
 replace e904 := e904.trans x15
 replace e903 := e903.trans x15
 replace e902 := e902.trans x15
 replace e901 := e901.trans x15
 replace e900 := e900.trans x15
 replace e0 := e0.trans x15
 iterate 7 refine GoR.op rfl rfl rfl rfl ?_
 refine GoR.end ?_
 refine Go.seq noJ_ok ?_
 refine Go.region noJ_ok rfl ?_
 refine GoR.call rfl rfl (aOp_callFunc aFunc32 rfl) (sample_of) ?_ (by rintro _ _ ⟨sp6, se6, q, _, RA6, e906⟩; cases q)
 rintro v16 h16 ⟨sp6, se6, q, x16, RA6, e906⟩
 cases q
 refine ⟨_, rfl, ?_⟩
 have := e905.1
 have := e904.1
 have := e903.1
 have := e902.1
 have := e901.1
 have := e900.1
 have := e0.1
 replace f6 := f6.ext x16
 replace f2 := f2.ext x16
 replace e905 := e905.trans x16
 replace e904 := e904.trans x16
 replace e903 := e903.trans x16
 replace e902 := e902.trans x16
 replace e901 := e901.trans x16
 replace e900 := e900.trans x16
 replace e0 := e0.trans x16
 refine GoR.call rfl rfl (aOp_callFunc aFunc28 rfl) (cv_k1 (RA6.ext e906)) ?_ (by rintro _ _ ⟨q, _⟩; cases q)
 rintro v17 h17 ⟨q, x17⟩
 cases q
 refine ⟨_, rfl, ?_⟩
 replace f6 := f6.ext x17
 replace f2 := f2.ext x17
 replace e906 := e906.trans x17
 replace e905 := e905.trans x17
 replace e904 := e904.trans x17
 replace e903 := e903.trans x17
 replace e902 := e902.trans x17
 replace e901 := e901.trans x17
 replace e900 := e900.trans x17
 replace e0 := e0.trans x17
 iterate 5 refine GoR.op rfl rfl rfl rfl ?_
 refine GoR.end ?_
 refine Go.seq noJ_ok ?_
 refine Go.region noJ_ok rfl ?_
 refine GoR.call rfl rfl (aOp_callFunc aFunc35 rfl) (clash_ok) ?_ (by rintro _ _ ⟨sp7, se7, q, _, RA7, e907⟩; cases q)
 rintro v18 h18 ⟨sp7, se7, q, x18, RA7, e907⟩
 cases q
 refine ⟨_, rfl, ?_⟩
 have := e906.1
 have := e905.1
 have := e904.1
 have := e903.1
 have := e902.1
 have := e901.1
 have := e900.1
 have := e0.1
 replace f6 := f6.ext x18
 replace f2 := f2.ext x18
 replace e0 := e0.trans x18
 refine GoR.call rfl rfl (aOp_callFunc aFunc30 rfl) (cv_c1 (RA7.ext e907)) ?_ (by rintro _ _ ⟨q, _⟩; cases q)
 rintro v19 h19 ⟨q, x19⟩
 cases q
 refine ⟨_, rfl, ?_⟩
 replace f6 := f6.ext x19
 replace f2 := f2.ext x19
 replace e0 := e0.trans x19
 iterate 5 refine GoR.op rfl rfl rfl rfl ?_
 refine GoR.end ?_
 refine Go.seq noJ_ok ?_
 refine Go.drawnE plan14_0 ?_
 refine GoE.quiet rfl rfl (ld29 rfl f2 rfl) rfl ?_
 refine GoE.call rfl rfl (aOp_callFunc aFunc33 rfl) (span33_ok) (dropF_keep (show bit? 0 0 = false from rfl) rfl) ?_ (by rintro _ _ ⟨q, _⟩; cases q)
 rintro v20 h20 ⟨q, x20⟩
 cases q
 replace f6 := f6.ext x20
 replace f2 := f2.ext x20
 replace e0 := e0.trans x20
 refine ⟨(rck (h2 := h20) rfl (ld29 rfl f2 rfl) recheck_nil), _, rfl, ?_⟩
 refine GoE.quiet rfl rfl (aOp_eqlSpan spanT29 rfl rfl (r := true) rfl) rfl ?_
 iterate 2 refine GoE.quiet rfl rfl rfl rfl ?_
 refine GoE.quiet rfl rfl (aOp_eql rfl rfl (r := true) (decide_eq_true (by omega))) rfl ?_
 iterate 2 refine GoE.quiet rfl rfl rfl rfl ?_
 refine GoE.quiet rfl rfl (ld29 rfl f6 rfl) rfl ?_
 refine GoE.call rfl rfl (aOp_callFunc aFunc33 rfl) (span33_ok) (dropF_keep (show bit? 255 8 = false from rfl) (dropF_drop (show bit? 255 7 = true from rfl) (dropF_drop (show bit? 255 6 = true from rfl) (dropF_drop (show bit? 255 5 = true from rfl) (dropF_drop (show bit? 255 4 = true from rfl) (dropF_drop (show bit? 255 3 = true from rfl) (dropF_drop (show bit? 255 2 = true from rfl) (dropF_drop (show bit? 255 0 = true from rfl) rfl)))))))) ?_ (by rintro _ _ ⟨q, _⟩; cases q)
 rintro v21 h21 ⟨q, x21⟩
 cases q
 replace f6 := f6.ext x21
 replace e0 := e0.trans x21
 refine ⟨(rck (h2 := h21) rfl (ld29 rfl f6 rfl) recheck_nil), _, rfl, ?_⟩
 refine GoE.quiet rfl rfl (aOp_eqlSpan spanT29 rfl rfl (r := true) rfl) rfl ?_
 iterate 3 refine GoE.quiet rfl rfl rfl rfl ?_
 refine GoE.quiet rfl rfl (aOp_eql rfl rfl (r := true) (decide_eq_true (by omega))) rfl ?_
 iterate 3 refine GoE.quiet rfl rfl rfl rfl ?_
 refine GoE.quiet rfl rfl (aOp_eql rfl rfl (r := true) (decide_eq_true (by omega))) rfl ?_
 iterate 3 refine GoE.quiet rfl rfl rfl rfl ?_
 refine GoE.quiet rfl rfl (aOp_eql rfl rfl (r := true) (decide_eq_true (by omega))) rfl ?_
 iterate 3 refine GoE.quiet rfl rfl rfl rfl ?_
 refine GoE.quiet rfl rfl (aOp_eql rfl rfl (r := true) (decide_eq_true (by omega))) rfl ?_
 iterate 3 refine GoE.quiet rfl rfl rfl rfl ?_
 refine GoE.quiet rfl rfl (aOp_eql rfl rfl (r := true) (decide_eq_true (by omega))) rfl ?_
 iterate 3 refine GoE.quiet rfl rfl rfl rfl ?_
 refine GoE.quiet rfl rfl (aOp_eql rfl rfl (r := true) (decide_eq_true (by omega))) rfl ?_
 iterate 3 refine GoE.quiet rfl rfl rfl rfl ?_
 refine GoE.quiet rfl rfl (aOp_eql rfl rfl (r := true) (decide_eq_true (by omega))) rfl ?_
 iterate 3 refine GoE.quiet rfl rfl rfl rfl ?_
 refine GoE.quiet rfl rfl (aOp_eql rfl rfl (r := true) (decide_eq_true (by omega))) rfl ?_
 iterate 3 refine GoE.quiet rfl rfl rfl rfl ?_
 refine GoE.quiet rfl rfl (aOp_eql rfl rfl (r := true) (decide_eq_true (by omega))) rfl ?_
 iterate 3 refine GoE.quiet rfl rfl rfl rfl ?_
 refine GoE.quiet rfl rfl (aOp_eql rfl rfl (r := true) (decide_eq_true (by omega))) rfl ?_
 iterate 3 refine GoE.quiet rfl rfl rfl rfl ?_
 refine GoE.quiet rfl rfl (aOp_eql rfl rfl (r := true) (decide_eq_true (by omega))) rfl ?_
 iterate 3 refine GoE.quiet rfl rfl rfl rfl ?_
 refine GoE.quiet rfl rfl (aOp_eql rfl rfl (r := true) (decide_eq_true (by omega))) rfl ?_
 iterate 3 refine GoE.quiet rfl rfl rfl rfl ?_
 refine GoE.quiet rfl rfl (aOp_eql rfl rfl (r := true) (decide_eq_true (by omega))) rfl ?_
 iterate 3 refine GoE.quiet rfl rfl rfl rfl ?_
 refine GoE.quiet rfl rfl (aOp_eql rfl rfl (r := true) (decide_eq_true (by omega))) rfl ?_
 iterate 2 refine GoE.quiet rfl rfl rfl rfl ?_
 refine GoE.end rfl ?_
 exact Go.ret noJ_ok (ret_end (aResult_of Tryz.func14 rfl rfl) ⟨rfl, e0⟩)
end Go.Proofs.YtkcimfopboelaaaGreat

namespace Go.Proofs.YtkcimfopboelaaaGreat
open Go Go.AbsE
set_option linter.unusedSimpArgs false
set_option maxRecDepth 100000
set_option maxHeartbeats 0
set_option linter.unusedVariables false
theorem with41_ok {R : RoadV} {sp se : AVal} (e : EV) {h : AH} (A : RoadAt h R sp se) (hb2 : R.es.length ≤ 40) : Runs Tryz.prog 41 [.agg [sp, se], .agg e.cells] h (fun en h' => ∃ s, en = .ret (.agg [sp, s]) ∧ Ext h h' ∧ FreshS h.next h' 7 s ((R.es ++ [e]).map EV.cells) ∧ Ext h' h') := by
 obtain ⟨hs1, hc1⟩ := A.ps.scal
 obtain ⟨a, b, c, d, p, o, q⟩ := e
 unfold EV.cells
 dsimp only
 refine Runs.intro aFunc41 rfl rfl rfl rfl fun rest => ?_
 refine Go.seq noJ_ok (Go.region noJ_ok rfl ?_)
 refine GoR.box rfl rfl rfl rfl rfl rfl fun h1 x1 f1 => ?_
 refine GoR.box rfl rfl rfl rfl rfl rfl fun h2 x2 f2 => ?_
 refine GoR.alloc rfl rfl rfl zt25 rfl rfl fun h3 x3 f3 => ?_
 have a1 := x1.1
 have a2 := x2.1
 have a3 := x3.1
 have l1 := f1.1
 have l2 := f2.1
 have l3 := f3.1
 replace f1 := (f1.ext x2).ext x3
 replace f2 := f2.ext x3
 have x03 := (x1.trans x2).trans x3
 refine GoR.end (Go.seq noJ_ok (Go.drawnE plan41_0 ?_))
 refine GoE.quietX rfl rfl (aOpX_lit (ps := []) Tryz.underlying23 rfl sz62 zt62 rfl rfl rfl) rfl ?_
 refine GoE.quiet rfl rfl (fa25_1 rfl) rfl ?_
 refine GoE.quiet rfl rfl (ld23 rfl f1 rfl) rfl ?_
 refine GoE.quiet rfl rfl (ld62 rfl f2 rfl) rfl ?_
 refine GoE.quietX rfl rfl (aOpX_lit (ps := [(0, .agg [.int .i64 a, .int .i64 b, .int .i64 c, .int .i64 d, .int .i64 p, .int .i64 o, .int .i64 q])]) (cs := [.int .i64 a, .int .i64 b, .int .i64 c, .int .i64 d, .int .i64 p, .int .i64 o, .int .i64 q]) Tryz.underlying23 rfl sz62 zt62 rfl rfl rfl) rfl ?_
 have hm3 := A.es.ext x03
 refine GoE.copy (L := R.es.map EV.cells) rfl rfl Tryz.underlying23 Tryz.underlying23 sz62 by62 zt62 rfl rfl rfl rfl hm3 evs_seven (by rw [List.length_map]; omega)
  (dropF_keep (show bit? 7 5 = false from rfl) (dropF_keep (show bit? 7 4 = false from rfl) (dropF_drop (show bit? 7 2 = true from rfl) (dropF_drop (show bit? 7 1 = true from rfl) (dropF_drop (show bit? 7 0 = true from rfl) rfl))))) rfl rfl fun v4 h4 x4 c4 => ?_
 have f24 := f2.ext x4
 refine ⟨recheck_consX (h2 := h4) rfl (aOpX_lit (ps := [(0, .agg [.int .i64 a, .int .i64 b, .int .i64 c, .int .i64 d, .int .i64 p, .int .i64 o, .int .i64 q])]) (cs := [.int .i64 a, .int .i64 b, .int .i64 c, .int .i64 d, .int .i64 p, .int .i64 o, .int .i64 q]) Tryz.underlying23 rfl sz62 zt62 rfl rfl rfl) (by simp [sameA, sameAs, eqI_eq]) (recheck_cons (h2 := h4) rfl (ld62 rfl f24 rfl) (show sameA (.agg [AVal.int .i64 a, .int .i64 b, .int .i64 c, .int .i64 d, .int .i64 p, .int .i64 o, .int .i64 q]) (.agg [.int .i64 a, .int .i64 b, .int .i64 c, .int .i64 d, .int .i64 p, .int .i64 o, .int .i64 q]) = true by simp [sameA, sameAs, eqI_eq]) recheck_nil), ?_⟩
 refine GoE.copy1 (L := R.es.map EV.cells) rfl rfl Tryz.underlying23 Tryz.underlying23 sz62 by62 zt62 rfl rfl rfl rfl c4 evs_seven rfl rfl (by rw [List.length_map]; omega) x4.1 (dropF_drop (show bit? 63 5 = true from rfl) (dropF_drop (show bit? 63 4 = true from rfl) rfl)) rfl rfl fun b5 h5 n5 m5 o5 g5 => ?_
 refine ⟨recheck_nil, ?_⟩
 have a4 := x4.1
 have low : ∀ b, b < h3.next → h5.get b = h3.get b := fun b hb => by rw [o5 b hb, x4.2 b hb]
 have keep : ∀ {b o}, Has h3 b o → Has h5 b o := fun k => ⟨by have := k.1; omega, by rw [low _ k.1]; exact k.2⟩
 refine GoE.quiet rfl rfl (fa25_1 rfl) rfl ?_
 refine GoE.store rfl rfl rfl rfl (dropF_drop (show bit? 255 7 = true from rfl) rfl) rfl rfl (keep f1) rfl sz23 rfl rfl rfl fun h6 u6 => ?_
 refine ⟨recheck_nil, ?_⟩
 have n6 : h6.next = h5.next := u6.1
 refine GoE.end rfl (Go.seq noJ_ok (Go.region noJ_ok rfl ?_))
 refine GoR.op rfl rfl (ld25 rfl (u6.has (keep f1)) rfl) rfl ?_
 have hsc : scalars [sp, .gsl b5 0 0 ((R.es.map EV.cells).length + 1)] = true := scal_two hs1 rfl
 refine GoR.store rfl rfl rfl rfl rfl rfl ((keep f3).upd u6 (by omega)) rfl sz25 rfl hsc rfl fun h7 u7 => ?_
 have n7 : h7.next = h6.next := u7.1
 refine GoR.end (Go.ret noJ_ok (ret_end (aResult_of Tryz.func41 rfl (aResults_cell rfl (u7.has ((keep f3).upd u6 (by omega))) (inCells_agg ag25 sz25 rfl))) ?_))
 have x07 : Ext h h7 := ⟨by have := x03.1; omega, fun b hb => by rw [u7.2.2 b (by omega), u6.2.2 b (by omega), low b (by omega), x03.2 b hb]⟩
 have g7 := (g5.upd u6 (by have := f1.1; omega)).upd u7 (by omega)
 refine ⟨.gsl b5 0 0 ((R.es.map EV.cells).length + 1), rfl, x07, ?_, Ext.refl _⟩
 have hll : ∀ l, l ∈ R.es.map EV.cells ++ [[AVal.int .i64 a, .int .i64 b, .int .i64 c, .int .i64 d, .int .i64 p, .int .i64 o, .int .i64 q]] → l.length = 7 := fun l hl => by
  rcases List.mem_append.1 hl with q | q
  ·exact evs_seven l q
  ·rw [List.mem_singleton.1 q]; rfl
 have hmap : (R.es ++ [(⟨a, b, c, d, p, o, q⟩ : EV)]).map EV.cells = R.es.map EV.cells ++ [[AVal.int .i64 a, .int .i64 b, .int .i64 c, .int .i64 d, .int .i64 p, .int .i64 o, .int .i64 q]] := by rw [List.map_append]; rfl
 intro h8 n8 e8
 have hb5 : h.next ≤ b5 := by have := x03.1; omega
 show SliceOf h8 7 _ ((R.es ++ [(⟨a, b, c, d, p, o, q⟩ : EV)]).map EV.cells)
 rw [hmap]
 exact SliceOf.mk' rfl rfl (Has.fresh g7 hb5 n8 e8) (by simp) (fun i l hl => by rw [Nat.zero_add]; exact slice_flatten hll i l hl)
end Go.Proofs.YtkcimfopboelaaaGreat

namespace Go.Proofs.YtkcimfopboelaaaGreat
open Go Go.AbsE
set_option linter.unusedSimpArgs false
set_option maxHeartbeats 0
set_option linter.unusedVariables false
def RoadV.plus (R : RoadV) (e : EV) : RoadV := ⟨R.ps, R.es ++ [e]⟩
def Ft.on (f : Ft) (e : EV) (k : Int) : Ft := ⟨e.after f.x k, f.hs ++ [(e.after f.x k).height]⟩
theorem fateGo_plus {part : Int} {e : EV} {k : Int} : ∀ {l : List (EV × Int)} {x : Pc} {hs : List Int}, fateGo part (l ++ [(e, k)]) x hs = (fateGo part l x hs).bind fun f => if e.right part (e.after f.x k) then some (f.on e k) else none
 | [], x, hs => rfl
 | z :: l, x, hs => by
  show fateGo part (z :: (l ++ [(e, k)])) x hs = _
  unfold fateGo
  by_cases q : z.1.right part (z.1.after x z.2) = true
  ·rw [if_pos q, if_pos q]
   exact fateGo_plus
  ·rw [if_neg q, if_neg q]
   rfl
theorem fateV_plus {es : List EV} {e : EV} {k part : Int} {x : Pc} {ls : List Int} (hl : ls.length = es.length) : fateV (es ++ [e]) part x (ls ++ [k]) = (fateV es part x ls).bind fun f => if e.right part (e.after f.x k) then some (f.on e k) else none := by
 unfold fateV
 rw [List.zip_append hl.symm]
 exact fateGo_plus
theorem upto_one (k : Int) : upto k k = [k] := by
 unfold upto
 have : (k - k + 1).toNat = 1 := by omega
 rw [this]
 show [k + ((0 : Nat) : Int)] = [k]
 simp
theorem hauls_plus {e : EV} {k : Int} (hk : e.lo = k ∧ e.hi = k) : ∀ {es : List EV}, haulsV (es ++ [e]) = (haulsV es).map fun l => l ++ [k]
 | [] => by
  show (upto e.lo e.hi).flatMap _ = _
  rw [hk.1, hk.2, upto_one]
  rfl
 | e0 :: es => by
  show (upto e0.lo e0.hi).flatMap (fun k0 => (haulsV (es ++ [e])).map fun l => k0 :: l) = ((upto e0.lo e0.hi).flatMap fun k0 => (haulsV es).map fun l => k0 :: l).map fun l => l ++ [k]
  rw [hauls_plus hk, List.map_flatMap]
  refine congrArg (fun f => List.flatMap f _) (funext fun k0 => ?_)
  rw [List.map_map, List.map_map]
  rfl
structure EV.Plain (e : EV) (k : Int) : Prop where
 nl : e.kind ≠ 2
 one : e.lo = k ∧ e.hi = k
theorem fates_plain {es : List EV} {e : EV} {k part : Int} {p : PV} {ls : List Int} (he : e.Plain k) (hl : ls.length = es.length) : fatesV (es ++ [e]) part p (ls ++ [k]) = (fatesV es part p ls).map fun f => f.on e k := by
 unfold fatesV
 rw [List.map_filterMap]
 refine congrArg (fun f => List.filterMap f _) (funext fun x => ?_)
 rw [fateV_plus hl]
 cases fateV es part x ls with
 | none => rfl
 | some f =>
  show (if e.right part (e.after f.x k) = true then some (f.on e k) else none) = some (f.on e k)
  rw [if_pos]
  exact decide_eq_true fun q => absurd q he.nl
theorem plain_fates {R : RoadV} {e : EV} {k : Int} {ls : List Int} (he : e.Plain k) (hl : ls.length = R.es.length) : (R.plus e).fates (ls ++ [k]) = (R.fates ls).map fun l => l.map fun f => f.on e k := by
 unfold RoadV.fates RoadV.plus
 dsimp only
 refine List.ext_getElem? fun i => ?_
 rw [List.getElem?_map, List.getElem?_mapIdx, List.getElem?_mapIdx]
 cases R.ps[i]? with
 | none => rfl
 | some p => exact congrArg some (fates_plain he hl)
theorem isEmpty_map {α β : Type} (f : α → β) (l : List α) : (l.map f).isEmpty = l.isEmpty := by cases l <;> rfl
theorem plain_can {R : RoadV} {e : EV} {k : Int} {ls : List Int} (he : e.Plain k) (hl : ls.length = R.es.length) : (R.plus e).can (ls ++ [k]) = R.can ls := by
 unfold RoadV.can
 rw [plain_fates he hl, List.all_map]
 refine congrArg (fun f => List.all _ f) (funext fun l => ?_)
 show (!(l.map _).isEmpty) = _
 rw [isEmpty_map]
theorem plain_hs {R : RoadV} {e : EV} {k : Int} (he : e.Plain k) : (R.plus e).hs = R.hs.map fun l => l ++ [k] := by
 unfold RoadV.hs
 show (haulsV (R.es ++ [e])).filter _ = _
 rw [hauls_plus he.one, List.filter_map]
 refine congrArg (List.map _) (List.filter_congr fun l hl => ?_)
 exact plain_can he (hauls_len hl)
theorem plain_known {R : RoadV} {e : EV} {k : Int} (he : e.Plain k) : (R.plus e).known = R.known.map fun parts => parts.map fun l => l.map fun f => f.on e k := by
 unfold RoadV.known
 rw [plain_hs he, List.map_map, List.map_map]
 refine List.map_congr_left fun l hl => ?_
 exact plain_fates he (hauls_len (List.mem_filter.1 hl).1)
theorem plain_possible {R : RoadV} {e : EV} {k : Int} (he : e.Plain k) : (R.plus e).possible = R.possible := by
 unfold RoadV.possible
 rw [plain_hs he, isEmpty_map]
theorem always_map {k : List (List (List Ft))} {g : Ft → Ft} {s : Ft → Bool} : alwaysV (k.map fun parts => parts.map fun l => l.map g) s = alwaysV k (fun f => s (g f)) := by
 unfold alwaysV
 rw [List.all_map]
 refine congrArg (fun f => List.all _ f) (funext fun parts => ?_)
 show (parts.map _).all _ = _
 rw [List.all_map]
 refine congrArg (fun f => List.all _ f) (funext fun l => ?_)
 show (l.map _).all _ = _
 rw [List.all_map]
 rfl
theorem perhaps_map {k : List (List (List Ft))} {g : Ft → Ft} {s : Ft → Bool} : perhapsV (k.map fun parts => parts.map fun l => l.map g) s = perhapsV k (fun f => s (g f)) := by
 unfold perhapsV
 rw [List.any_map]
 refine congrArg (fun f => List.any _ f) (funext fun parts => ?_)
 show (parts.map _).all _ = _
 rw [List.all_map]
 refine congrArg (fun f => List.all _ f) (funext fun l => ?_)
 show (l.map _).any _ = _
 rw [List.any_map]
 rfl
theorem always_iff {R : RoadV} {s : Ft → Bool} : alwaysV R.known s = true ↔ ∀ i f, f ∈ atPart R.known i → s f = true := by
 unfold alwaysV
 simp only [List.all_eq_true]
 constructor
 ·intro h i f hf
  obtain ⟨parts, fs, h1, h2, h3⟩ := mem_atPart.1 hf
  exact h parts h1 fs (List.mem_of_getElem? h2) f h3
 ·intro h parts h1 fs h2 f h3
  obtain ⟨i, hi⟩ := List.getElem?_of_mem h2
  exact h i f (mem_atPart.2 ⟨parts, fs, h1, hi, h3⟩)
theorem always_imp {R : RoadV} {s t : Ft → Bool} (h : ∀ i f, f ∈ atPart R.known i → s f = true → t f = true) (k : alwaysV R.known s = true) : alwaysV R.known t = true := always_iff.2 fun i f hf => h i f hf (always_iff.1 k i f hf)
theorem always_congr {R : RoadV} {s t : Ft → Bool} (h : ∀ i f, f ∈ atPart R.known i → s f = t f) : alwaysV R.known s = alwaysV R.known t := by
 have h1 : alwaysV R.known s = true ↔ alwaysV R.known t = true := ⟨always_imp fun i f hf q => by rw [← h i f hf]; exact q, always_imp fun i f hf q => by rw [h i f hf]; exact q⟩
 cases q : alwaysV R.known t with
 | true => exact h1.2 q
 | false =>
  cases q2 : alwaysV R.known s with
  | false => rfl
  | true => rw [h1.1 q2] at q; cases q
theorem perhaps_imp {R : RoadV} {s t : Ft → Bool} (h : ∀ i f, f ∈ atPart R.known i → s f = true → t f = true) (k : perhapsV R.known s = true) : perhapsV R.known t = true := by
 unfold perhapsV at k ⊢
 simp only [List.any_eq_true, List.all_eq_true] at k ⊢
 obtain ⟨parts, h1, h2⟩ := k
 refine ⟨parts, h1, fun fs hfs => ?_⟩
 obtain ⟨f, h3, h4⟩ := h2 fs hfs
 obtain ⟨i, hi⟩ := List.getElem?_of_mem hfs
 exact ⟨f, h3, h i f (mem_atPart.2 ⟨parts, fs, h1, hi, h3⟩) h4⟩
theorem known_ne {R : RoadV} (h : R.possible = true) : R.known ≠ [] := by
 unfold RoadV.possible at h
 unfold RoadV.known
 intro q
 rw [List.map_eq_nil_iff] at q
 rw [q] at h
 cases h
theorem always_perhaps {R : RoadV} (h : R.possible = true) {s : Ft → Bool} (k : alwaysV R.known s = true) : perhapsV R.known s = true := by
 cases q : R.known with
 | nil => exact absurd q (known_ne h)
 | cons parts r =>
  have hp : parts ∈ R.known := by rw [q]; exact .head _
  rw [← q]
  unfold alwaysV at k
  unfold perhapsV
  simp only [List.any_eq_true, List.all_eq_true] at k ⊢
  refine ⟨parts, hp, fun fs hfs => ?_⟩
  cases q2 : fs with
  | nil => exact absurd q2 ((known_parts hp).2 fs hfs)
  | cons f r2 => exact ⟨f, .head _, k parts hp fs hfs f (by rw [q2]; exact .head _)⟩
theorem bears_less {x : Pc} {lo a b : Int} (hx : x.In lo) (h0 : 0 ≤ a) (hab : a ≤ b) (h : x.bears b = true) : x.bears a = true := by
 unfold Pc.bears Pc.pressed at h ⊢
 have h := of_decide_eq_true h
 dsimp only at h
 have := sinks_mono h0 hab hx.s.1
 exact decide_eq_true (by dsimp only; omega)
end Go.Proofs.YtkcimfopboelaaaGreat

namespace Go.Proofs.YtkcimfopboelaaaGreat
open Go Go.AbsE
set_option linter.unusedSimpArgs false
set_option maxRecDepth 100000
set_option maxHeartbeats 0
set_option linter.unusedVariables false
theorem bearsR_is {R : RoadV} (O : R.Ok) (hp : R.possible = true) {load : Int} (hl : 0 ≤ load ∧ load ≤ 60) : R.bearsR load = (bearsV R.known load, 0) := by
 unfold RoadV.bearsR
 rw [if_pos O, if_pos hl, if_pos hp]
theorem bearsR_no {R : RoadV} (O : R.Ok) (hp : R.possible = false) {load : Int} (hl : 0 ≤ load ∧ load ≤ 60) : R.bearsR load = (0, 10) := by
 unfold RoadV.bearsR
 rw [if_pos O, if_pos hl, if_neg (by rw [hp]; decide)]
theorem bearsV_two {k : List (List (List Ft))} {load : Int} : bearsV k load = 2 ↔ alwaysV k (fun f => f.x.bears load) = true := by
 unfold bearsV
 split
 ·rename_i q
  simp [q]
 ·rename_i q
  split <;> simp [q]
theorem pass_plain (l : Int) : (mkPass l l).Plain l := ⟨by show (0 : Int) ≠ 2; decide, rfl, rfl⟩
theorem same_two {a b : AVal} (ha : sameA a a = true) (hb : sameA b b = true) : sameA (.agg [a, b]) (.agg [a, b]) = true := by simp [sameA, sameAs, ha, hb]
theorem plus_ok {R : RoadV} (O : R.Ok) {e : EV} {k : Int} (he : e.Ok R.ps.length) (hp : e.lo = k ∧ e.hi = k) (hn : R.es.length ≠ 10) : (R.plus e).Ok := by
 refine ⟨O.np, ?_, O.p, fun x hx => ?_, ?_⟩
 ·show (R.es ++ [e]).length ≤ 10
  have := O.ne
  rw [List.length_append]
  show R.es.length + 1 ≤ 10
  omega
 ·rcases List.mem_append.1 hx with q | q
  ·exact O.e x q
  ·rw [List.mem_singleton.1 q]
   exact he
 ·show doubtsV (R.es ++ [e]) ≤ 4
  have hd : e.doubt = false := by
   unfold EV.doubt
   refine decide_eq_false fun ⟨q1, q2⟩ => q2 ?_
   have h1 := hp.1
   have h2 := hp.2
   unfold EV.lo at h1
   unfold EV.hi at h2
   rw [if_pos q1] at h1 h2
   rw [h1, h2]
  unfold doubtsV
  rw [List.filter_append, List.length_append]
  have : (List.filter EV.doubt [e]).length = 0 := by simp [hd]
  rw [this]
  exact O.d
theorem pass_okE {n l : Int} (hl : 0 ≤ l ∧ l ≤ 60) : (mkPass l l).Ok n := .inl ⟨rfl, hl.1, Int.le_refl _, hl.2, by show l - l ≤ 2; omega⟩
end Go.Proofs.YtkcimfopboelaaaGreat

namespace Go.Proofs.YtkcimfopboelaaaGreat
open Go Go.AbsE
set_option linter.unusedSimpArgs false
set_option maxRecDepth 100000
set_option maxHeartbeats 0
set_option linter.unusedVariables false
theorem bit_at (p i : Nat) : ((p : Int).fdiv (2 ^ i)) % 2 = if p.testBit i then 1 else 0 := by
 have h1 : (p : Int).fdiv (2 ^ i) = ((p / 2 ^ i : Nat) : Int) := by
  rw [Int.fdiv_eq_ediv_of_nonneg _ (Int.pow_nonneg (by decide))]
  simp
 rw [h1, Nat.testBit_eq_decide_div_mod_eq]
 by_cases q : p / 2 ^ i % 2 = 1
 ·rw [decide_eq_true q, if_pos rfl]
  omega
 ·rw [decide_eq_false q, if_neg (by decide)]
  omega
def always (R : RoadV) (load : Int) : Bool := alwaysV R.known fun f => f.x.bears load
def perhapsB (R : RoadV) (load : Int) : Bool := perhapsV R.known fun f => f.x.bears load
theorem bearsV_cases {R : RoadV} (hp : R.possible = true) {load : Int} : (bearsV R.known load = 2 ∧ always R load = true ∧ perhapsB R load = true) ∨ (bearsV R.known load = 1 ∧ always R load = false ∧ perhapsB R load = true) ∨ (bearsV R.known load = 0 ∧ always R load = false ∧ perhapsB R load = false) := by
 unfold bearsV always perhapsB
 cases q1 : alwaysV R.known fun f => f.x.bears load with
 | true => exact .inl ⟨rfl, rfl, always_perhaps hp q1⟩
 | false =>
  cases q2 : perhapsV R.known fun f => f.x.bears load with
  | true => exact .inr (.inl ⟨rfl, rfl, rfl⟩)
  | false => exact .inr (.inr ⟨rfl, rfl, rfl⟩)
theorem always_less {R : RoadV} (O : R.Ok) {a b : Int} (h0 : 0 ≤ a) (hab : a ≤ b) (h : always R b = true) : always R a = true :=
 always_imp (fun i f hf q => bears_less (known_small O hf).1 h0 hab q) h
theorem perhaps_less {R : RoadV} (O : R.Ok) {a b : Int} (h0 : 0 ≤ a) (hab : a ≤ b) (h : perhapsB R b = true) : perhapsB R a = true :=
 perhaps_imp (fun i f hf q => bears_less (known_small O hf).1 h0 hab q) h
theorem bearsV_less {R : RoadV} (O : R.Ok) (hp : R.possible = true) {a b : Int} (h0 : 0 ≤ a) (hab : a ≤ b) : bearsV R.known b ≤ bearsV R.known a := by
 rcases bearsV_cases hp (load := b) with ⟨b1, b2, b3⟩ | ⟨b1, b2, b3⟩ | ⟨b1, b2, b3⟩
 ·have h1 := always_less O h0 hab b2
  rcases bearsV_cases hp (load := a) with ⟨a1, a2, a3⟩ | ⟨a1, a2, a3⟩ | ⟨a1, a2, a3⟩
  ·omega
  ·rw [h1] at a2; cases a2
  ·rw [h1] at a2; cases a2
 ·have h1 := perhaps_less O h0 hab b3
  rcases bearsV_cases hp (load := a) with ⟨a1, a2, a3⟩ | ⟨a1, a2, a3⟩ | ⟨a1, a2, a3⟩
  ·omega
  ·omega
  ·rw [h1] at a3; cases a3
 ·rcases bearsV_cases hp (load := a) with ⟨a1, a2, a3⟩ | ⟨a1, a2, a3⟩ | ⟨a1, a2, a3⟩ <;> omega
theorem mostV_some {R : RoadV} (O : R.Ok) {m : Int} (h : mostV R.known = some m) : (0 ≤ m ∧ m ≤ 60) ∧ ∀ l, 0 ≤ l → l ≤ 60 → (always R l = true ↔ l ≤ m) := by
 have hm := mem_down (List.mem_of_find?_eq_some h)
 have hp : always R m = true := List.find?_some h
 refine ⟨hm, fun l l0 l1 => ⟨fun q => ?_, fun q => always_less O l0 q hp⟩⟩
 unfold mostV down at h
 rw [List.find?_map, Option.map_eq_some_iff] at h
 obtain ⟨k, hk, rfl⟩ := h
 rw [List.find?_range_eq_some] at hk
 obtain ⟨_, _, h3⟩ := hk
 by_cases hle : l ≤ ((60 : Nat) : Int) - k
 ·exact hle
 ·have := h3 (60 - l).toNat (by omega)
  have e : ((60 : Nat) : Int) - ((60 - l).toNat : Int) = l := by omega
  simp only [Function.comp, e] at this
  unfold always at q
  rw [q] at this
  cases this
theorem down_mem {n : Nat} {l : Int} (h : 0 ≤ l ∧ l ≤ n) : l ∈ down n := List.mem_map.2 ⟨(n - l).toNat, List.mem_range.2 (by omega), by omega⟩
theorem mostV_none {R : RoadV} (h : mostV R.known = none) : ∀ l, 0 ≤ l → l ≤ 60 → always R l = false := by
 unfold mostV at h
 rw [List.find?_eq_none] at h
 intro l l0 l1
 have := h l (down_mem ⟨l0, l1⟩)
 unfold always
 simpa using this
theorem mostR_is {R : RoadV} (O : R.Ok) (hp : R.possible = true) : R.mostR = match mostV R.known with | some l => (l, 0) | none => (0, 4) := by
 unfold RoadV.mostR
 rw [if_pos O, if_pos hp]
 cases mostV R.known <;> rfl
theorem mostR_no {R : RoadV} (O : R.Ok) (hp : R.possible = false) : R.mostR = (0, 10) := by
 unfold RoadV.mostR
 rw [if_pos O, if_neg (by rw [hp]; decide)]
theorem above_on {R : RoadV} (O : R.Ok) {f : Ft} {i : Nat} (hf : f ∈ atPart R.known i) (l : Int) : above R.es.length (f.on (mkPass l l) l) = f.x.bears l := by
 have h1 := (known_small O hf).2.1
 unfold above Ft.on Pc.bears
 dsimp only
 rw [List.getElem?_append_right (by omega), h1, Nat.sub_self]
 rfl
theorem pass_bits {R : RoadV} (O : R.Ok) (l : Int) : ((R.plus (mkPass l l)).perhaps.testBit R.es.length = !always R l) ∧ ((R.plus (mkPass l l)).surely.testBit R.es.length = !perhapsB R l) := by
 have hlen : (R.plus (mkPass l l)).es.length = R.es.length + 1 := by
  show (R.es ++ [mkPass l l]).length = _
  rw [List.length_append]
  rfl
 unfold RoadV.perhaps RoadV.surely
 rw [bitsV_test, bitsV_test, hlen, decide_eq_true (Nat.lt_succ_self _), Bool.true_and, Bool.true_and, plain_known (pass_plain l), always_map, perhaps_map]
 refine ⟨congrArg (!·) (always_congr fun i f hf => above_on O hf l), congrArg (!·) ?_⟩
 have h1 := perhaps_imp (R := R) (s := fun f => above R.es.length (f.on (mkPass l l) l)) (t := fun f => f.x.bears l) (fun i f hf q => by rw [← above_on O hf l]; exact q)
 have h2 := perhaps_imp (R := R) (t := fun f => above R.es.length (f.on (mkPass l l) l)) (s := fun f => f.x.bears l) (fun i f hf q => by rw [above_on O hf l]; exact q)
 unfold perhapsB
 cases q : perhapsV R.known fun f => f.x.bears l with
 | true => exact h2 q
 | false =>
  cases q2 : perhapsV R.known fun f => above R.es.length (f.on (mkPass l l) l) with
  | false => rfl
  | true => rw [h1 q2] at q; cases q
theorem belowR_is {R : RoadV} (O : R.Ok) (hp : R.possible = true) : R.belowR = ((R.surely, R.perhaps), 0) := by
 unfold RoadV.belowR
 rw [if_pos O, if_pos hp]
theorem law8 {R : RoadV} {sp se : AVal} {h : AH} (A : RoadAt h R sp se) (hb : R.ps.length < 9223372036854775808 ∧ R.es.length < 9223372036854775808) {w : Int} (hw : 0 ≤ w ∧ w < 256) : Runs Tryz.prog 8 [.agg [sp, se], .int .u8 w] h (fun en h' => en = .ret (.bool true) ∧ Ext h h') := by
 have hL := fun {h'} (e : Ext h h') => long13_ok (A.ext e) hb
 have hl2 := A.es.len
 rw [List.length_map] at hl2
 by_cases hs : R.ps.length ≤ 40 ∧ R.es.length ≤ 40
 ·rw [decide_eq_false (by simpa using hs)] at hL
  have hR := fun {h'} (e : Ext h h') => Road36_ok (A.ext e) hs.1 hs.2
  by_cases O : R.Ok
  ·rw [decide_eq_true O] at hR
   by_cases hn : R.es.length = 10
   ·rw [hn] at hl2
    have e0 : Ext h h := Ext.refl _
    refine Runs.intro aFunc8 rfl rfl rfl rfl fun rest => ?_
    refine Go.seq noJ_ok ?_
    refine Go.region noJ_ok rfl ?_
    refine GoR.box rfl rfl rfl rfl rfl rfl fun h0 x0 f0 => ?_
    replace e0 := e0.trans x0
    refine GoR.op rfl rfl rfl rfl ?_
    refine GoR.end ?_
    iterate 2 refine Go.seq noJ_ok ?_
    refine Go.region noJ_ok rfl ?_
    refine GoR.op rfl rfl (ld25 rfl f0 rfl) rfl ?_
    refine GoR.call rfl rfl (aOp_callFunc aFunc13 rfl) (hL e0) ?_ (by rintro _ _ ⟨q, _⟩; cases q)
    rintro v1 h1 ⟨q, x1⟩
    cases q
    refine ⟨_, rfl, ?_⟩
    replace f0 := f0.ext x1
    replace e0 := e0.trans x1
    refine GoR.op rfl rfl rfl rfl ?_
    refine GoR.op rfl rfl (ld25 rfl f0 rfl) rfl ?_
    refine GoR.call rfl rfl (aOp_callFunc aFunc36 rfl) (hR e0) ?_ (by rintro _ _ ⟨q, _⟩; cases q)
    rintro v2 h2 ⟨q, x2⟩
    cases q
    refine ⟨_, rfl, ?_⟩
    replace f0 := f0.ext x2
    replace e0 := e0.trans x2
    iterate 3 refine GoR.op rfl rfl rfl rfl ?_
    refine GoR.op rfl rfl (fa25_1 rfl) rfl ?_
    refine GoR.op rfl rfl (ld23 rfl f0 rfl) rfl ?_
    refine GoR.op rfl rfl (aOp_lenSlice Tryz.underlying23 rfl hl2) rfl ?_
    refine GoR.op rfl rfl (aOp_eql rfl rfl (r := true) (decide_eq_true (by omega))) rfl ?_
    refine GoR.op rfl rfl rfl rfl ?_
    refine GoR.end ?_
    refine Go.cond noJ_ok (b := true) rfl ?_
    refine Go.seq noJ_ok ?_
    refine Go.region noJ_ok rfl ?_
    refine GoR.call rfl rfl (aOp_callFunc aFunc14 rfl) (alive_ok) ?_ (by rintro _ _ ⟨q, _⟩; cases q)
    rintro v3 h3 ⟨q, x3⟩
    cases q
    refine ⟨_, rfl, ?_⟩
    replace e0 := e0.trans x3
    refine GoR.op rfl rfl rfl rfl ?_
    refine GoR.end ?_
    exact Go.ret noJ_ok (ret_end (aResult_of Tryz.func8 rfl rfl) ⟨rfl, e0⟩)
   ·obtain ⟨load, hr1, hl⟩ : ∃ load : Int, w.tmod 61 = load ∧ 0 ≤ load ∧ load ≤ 60 := ⟨_, rfl, by
     have h1 : w.tmod 61 = w % 61 := Int.tmod_eq_emod_of_nonneg hw.1
     rw [h1]
     omega⟩
    have hneq : decide ((R.es.length : Int) = 10) = false := decide_eq_false (by omega)
    obtain ⟨low, hlow, hl0⟩ : ∃ low : Int, max 0 (load - 1) = low ∧ 0 ≤ low ∧ low ≤ load := ⟨_, rfl, by omega⟩
    have hll : 0 ≤ low ∧ low ≤ 60 := by omega
    have hlow2 : (if (0 : Int) < load - 1 then load - 1 else 0) = low := by split <;> omega
    have hBe := fun {h'} (e : Ext h h') => Bears_ok (A.ext e) hs.1 hs.2 load
    have hLe := fun {h'} (e : Ext h h') => Bears_ok (A.ext e) hs.1 hs.2 low
    have hMo := fun {h'} (e : Ext h h') => Most_ok (A.ext e) hs.1 hs.2
    cases hp : R.possible with
    | false =>
     rw [bearsR_no O hp hl] at hBe
     rw [bearsR_no O hp hll] at hLe
     rw [mostR_no O hp] at hMo
     have e0 : Ext h h := Ext.refl _
     refine Runs.intro aFunc8 rfl rfl rfl rfl fun rest => ?_
     refine Go.seq noJ_ok ?_
     refine Go.region noJ_ok rfl ?_
     refine GoR.box rfl rfl rfl rfl rfl rfl fun h0 x0 f0 => ?_
     have := e0.1
     replace e0 := e0.trans x0
     have := f0.1
     refine GoR.op rfl rfl rfl rfl ?_
     refine GoR.end ?_
     iterate 2 refine Go.seq noJ_ok ?_
     refine Go.region noJ_ok rfl ?_
     refine GoR.op rfl rfl (ld25 rfl f0 rfl) rfl ?_
     refine GoR.call rfl rfl (aOp_callFunc aFunc13 rfl) (hL e0) ?_ (by rintro _ _ ⟨q, _⟩; cases q)
     rintro v1 h1 ⟨q, x1⟩
     cases q
     refine ⟨_, rfl, ?_⟩
     replace f0 := f0.ext x1
     replace e0 := e0.trans x1
     refine GoR.op rfl rfl rfl rfl ?_
     refine GoR.op rfl rfl (ld25 rfl f0 rfl) rfl ?_
     refine GoR.call rfl rfl (aOp_callFunc aFunc36 rfl) (hR e0) ?_ (by rintro _ _ ⟨q, _⟩; cases q)
     rintro v2 h2 ⟨q, x2⟩
     cases q
     refine ⟨_, rfl, ?_⟩
     replace f0 := f0.ext x2
     replace e0 := e0.trans x2
     iterate 3 refine GoR.op rfl rfl rfl rfl ?_
     refine GoR.op rfl rfl (fa25_1 rfl) rfl ?_
     refine GoR.op rfl rfl (ld23 rfl f0 rfl) rfl ?_
     refine GoR.op rfl rfl (aOp_lenSlice Tryz.underlying23 rfl hl2) rfl ?_
     refine GoR.op rfl rfl (aOp_eql rfl rfl hneq) rfl ?_
     refine GoR.op rfl rfl rfl rfl ?_
     refine GoR.end ?_
     refine Go.cond noJ_ok (b := false) rfl ?_
     refine Go.code noJ_ok ?_
     refine Go.seq noJ_ok ?_
     refine Go.region noJ_ok rfl ?_
     refine GoR.op rfl rfl rfl rfl ?_
     refine GoR.op rfl rfl (aOp_convU8 rfl Tryz.underlying5 Tryz.underlying3 hw) rfl ?_
     refine GoR.op rfl rfl (aOp_rem rfl rfl (by omega) hr1) rfl ?_
     refine GoR.op rfl rfl rfl rfl ?_
     refine GoR.end ?_
     refine Go.seq noJ_ok ?_
     refine Go.region noJ_ok rfl ?_
     refine GoR.op rfl rfl (ld25 rfl f0 rfl) rfl ?_
     refine GoR.op rfl rfl rfl rfl ?_
     refine GoR.call rfl rfl (aOp_callFunc aFunc19 rfl) (hBe e0) ?_ (by rintro _ _ ⟨q, _⟩; cases q)
     rintro v3 h3 ⟨q, x3⟩
     cases q
     refine ⟨_, rfl, ?_⟩
     replace f0 := f0.ext x3
     replace e0 := e0.trans x3
     iterate 5 refine GoR.op rfl rfl rfl rfl ?_
     refine GoR.end ?_
     refine Go.seq noJ_ok ?_
     refine Go.region noJ_ok rfl ?_
     refine GoR.op rfl rfl (ld25 rfl f0 rfl) rfl ?_
     refine GoR.op rfl rfl rfl rfl ?_
     refine GoR.op rfl rfl (aOp_sub rfl rfl (by constructor <;> omega) rfl) rfl ?_
     refine GoR.op rfl rfl (aOp_max2 rfl rfl hlow2) rfl ?_
     refine GoR.call rfl rfl (aOp_callFunc aFunc19 rfl) (hLe e0) ?_ (by rintro _ _ ⟨q, _⟩; cases q)
     rintro v4 h4 ⟨q, x4⟩
     cases q
     refine ⟨_, rfl, ?_⟩
     replace f0 := f0.ext x4
     replace e0 := e0.trans x4
     iterate 5 refine GoR.op rfl rfl rfl rfl ?_
     refine GoR.end ?_
     refine Go.seq noJ_ok ?_
     refine Go.region noJ_ok rfl ?_
     refine GoR.op rfl rfl (ld25 rfl f0 rfl) rfl ?_
     refine GoR.call rfl rfl (aOp_callFunc aFunc24 rfl) (hMo e0) ?_ (by rintro _ _ ⟨q, _⟩; cases q)
     rintro v5 h5 ⟨q, x5⟩
     cases q
     refine ⟨_, rfl, ?_⟩
     replace e0 := e0.trans x5
     iterate 5 refine GoR.op rfl rfl rfl rfl ?_
     refine GoR.end ?_
     iterate 2 refine Go.seq noJ_ok ?_
     refine Go.region noJ_ok rfl ?_
     iterate 2 refine GoR.op rfl rfl rfl rfl ?_
     refine GoR.op rfl rfl (aOp_neq rfl rfl (r := false) (decide_eq_true (by omega))) rfl ?_
     iterate 2 refine GoR.op rfl rfl rfl rfl ?_
     refine GoR.op rfl rfl (aOp_neq rfl rfl (r := true) (decide_eq_false (by omega))) rfl ?_
     refine GoR.op rfl rfl rfl rfl ?_
     refine GoR.end ?_
     refine Go.cond noJ_ok (b := true) rfl ?_
     refine Go.seq noJ_ok ?_
     refine Go.region noJ_ok rfl ?_
     iterate 2 refine GoR.op rfl rfl rfl rfl ?_
     refine GoR.op rfl rfl (aOp_eql rfl rfl (r := true) (decide_eq_true (by omega))) rfl ?_
     iterate 3 refine GoR.op rfl rfl rfl rfl ?_
     refine GoR.op rfl rfl (aOp_eql rfl rfl (r := true) (decide_eq_true (by omega))) rfl ?_
     iterate 3 refine GoR.op rfl rfl rfl rfl ?_
     refine GoR.op rfl rfl (aOp_eql rfl rfl (r := true) (decide_eq_true (by omega))) rfl ?_
     iterate 3 refine GoR.op rfl rfl rfl rfl ?_
     refine GoR.op rfl rfl (aOp_eql rfl rfl (r := true) (decide_eq_true (by omega))) rfl ?_
     iterate 3 refine GoR.op rfl rfl rfl rfl ?_
     refine GoR.op rfl rfl (aOp_eql rfl rfl (r := true) (decide_eq_true (by omega))) rfl ?_
     iterate 2 refine GoR.op rfl rfl rfl rfl ?_
     refine GoR.call rfl rfl (aOp_callFunc aFunc14 rfl) (alive_ok) ?_ (by rintro _ _ ⟨q, _⟩; cases q)
     rintro v6 h6 ⟨q, x6⟩
     cases q
     refine ⟨_, rfl, ?_⟩
     replace e0 := e0.trans x6
     iterate 2 refine GoR.op rfl rfl rfl rfl ?_
     refine GoR.end ?_
     exact Go.ret noJ_ok (ret_end (aResult_of Tryz.func8 rfl rfl) ⟨rfl, e0⟩)
    | true =>
     rw [bearsR_is O hp hl] at hBe
     rw [bearsR_is O hp hll] at hLe
     obtain ⟨mo, mc, hmo⟩ : ∃ a b, R.mostR = (a, b) := ⟨_, _, rfl⟩
     rw [hmo] at hMo
     rw [mostR_is O hp] at hmo
     dsimp only at hMo
     have hmono := bearsV_less O hp hl0.1 hl0.2
     have O' := plus_ok O (pass_okE (n := R.ps.length) hl) (pass_plain load).one hn
     have hpp : (R.plus (mkPass load load)).possible = true := by rw [plain_possible (pass_plain load)]; exact hp
     have hlen : (R.plus (mkPass load load)).es.length ≤ 40 := by have := O'.ne; omega
     have hBl := fun {h' s} (A' : RoadAt h' (R.plus (mkPass load load)) sp s) => Below_ok A' hs.1 hlen
     rw [belowR_is O' hpp] at hBl
     have hpc := fun {h9} => pass43_ok (a := load) (b := load) (h := h9)
     unfold mkPass EV.cells at hpc
     dsimp only at hpc
     have hsm := same_two A.ps.same A.es.same
     have hAt := fun {h1 : AH} {s : AVal} {lo : Nat} (F : FreshS lo h1 7 s ((R.es ++ [mkPass load load]).map EV.cells)) (e : Ext h h1) => (⟨A.ps.ext e, F.self⟩ : RoadAt h1 (R.plus (mkPass load load)) sp s)
     have h10 : R.es.length ≤ 64 := by omega
     obtain ⟨pb1, pb2⟩ := pass_bits O load
     have b1 := bit_at (R.plus (mkPass load load)).perhaps R.es.length
     have b2 := bit_at (R.plus (mkPass load load)).surely R.es.length
     rw [pb1] at b1
     rw [pb2] at b2
     obtain ⟨X, hX⟩ : ∃ X, always R load = X := ⟨_, rfl⟩
     obtain ⟨Y, hY⟩ : ∃ Y, perhapsB R load = Y := ⟨_, rfl⟩
     rw [hX] at b1
     rw [hY] at b2
     have hn2 : decide (bearsV R.known load = 2) = X := by
      rcases bearsV_cases hp (load := load) with ⟨q1, q2, q3⟩ | ⟨q1, q2, q3⟩ | ⟨q1, q2, q3⟩ <;> rw [q1, ← hX, q2] <;> rfl
     have hn0 : decide (bearsV R.known load = 0) = !Y := by
      rcases bearsV_cases hp (load := load) with ⟨q1, q2, q3⟩ | ⟨q1, q2, q3⟩ | ⟨q1, q2, q3⟩ <;> rw [q1, ← hY, q3] <;> rfl
     have hrange : 0 ≤ bearsV R.known load ∧ bearsV R.known load ≤ 2 := by
      rcases bearsV_cases hp (load := load) with ⟨q1, q2, q3⟩ | ⟨q1, q2, q3⟩ | ⟨q1, q2, q3⟩ <;> omega
     have d1 : decide ((if (!X) = true then (1 : Int) else 0) = 0) = X := by cases X <;> rfl
     have d2 : decide ((if (!Y) = true then (1 : Int) else 0) = 1) = !Y := by cases Y <;> rfl
     have e0 : Ext h h := Ext.refl _
     refine Runs.intro aFunc8 rfl rfl rfl rfl fun rest => ?_
     refine Go.seq noJ_ok ?_
     refine Go.region noJ_ok rfl ?_
     refine GoR.box rfl rfl rfl rfl rfl rfl fun h11 x11 f11 => ?_
     have := e0.1
     replace e0 := e0.trans x11
     have := f11.1
     refine GoR.op rfl rfl rfl rfl ?_
     refine GoR.end ?_
     iterate 2 refine Go.seq noJ_ok ?_
     refine Go.region noJ_ok rfl ?_
     refine GoR.op rfl rfl (ld25 rfl f11 rfl) rfl ?_
     refine GoR.call rfl rfl (aOp_callFunc aFunc13 rfl) (hL e0) ?_ (by rintro _ _ ⟨q, _⟩; cases q)
     rintro v12 h12 ⟨q, x12⟩
     cases q
     refine ⟨_, rfl, ?_⟩
     replace f11 := f11.ext x12
     replace e0 := e0.trans x12
     refine GoR.op rfl rfl rfl rfl ?_
     refine GoR.op rfl rfl (ld25 rfl f11 rfl) rfl ?_
     refine GoR.call rfl rfl (aOp_callFunc aFunc36 rfl) (hR e0) ?_ (by rintro _ _ ⟨q, _⟩; cases q)
     rintro v13 h13 ⟨q, x13⟩
     cases q
     refine ⟨_, rfl, ?_⟩
     replace f11 := f11.ext x13
     replace e0 := e0.trans x13
     iterate 3 refine GoR.op rfl rfl rfl rfl ?_
     refine GoR.op rfl rfl (fa25_1 rfl) rfl ?_
     refine GoR.op rfl rfl (ld23 rfl f11 rfl) rfl ?_
     refine GoR.op rfl rfl (aOp_lenSlice Tryz.underlying23 rfl hl2) rfl ?_
     refine GoR.op rfl rfl (aOp_eql rfl rfl hneq) rfl ?_
     refine GoR.op rfl rfl rfl rfl ?_
     refine GoR.end ?_
     refine Go.cond noJ_ok (b := false) rfl ?_
     refine Go.code noJ_ok ?_
     refine Go.seq noJ_ok ?_
     refine Go.region noJ_ok rfl ?_
     refine GoR.op rfl rfl rfl rfl ?_
     refine GoR.op rfl rfl (aOp_convU8 rfl Tryz.underlying5 Tryz.underlying3 hw) rfl ?_
     refine GoR.op rfl rfl (aOp_rem rfl rfl (by omega) hr1) rfl ?_
     refine GoR.op rfl rfl rfl rfl ?_
     refine GoR.end ?_
     refine Go.seq noJ_ok ?_
     refine Go.region noJ_ok rfl ?_
     refine GoR.op rfl rfl (ld25 rfl f11 rfl) rfl ?_
     refine GoR.op rfl rfl rfl rfl ?_
     refine GoR.call rfl rfl (aOp_callFunc aFunc19 rfl) (hBe e0) ?_ (by rintro _ _ ⟨q, _⟩; cases q)
     rintro v14 h14 ⟨q, x14⟩
     cases q
     refine ⟨_, rfl, ?_⟩
     replace f11 := f11.ext x14
     replace e0 := e0.trans x14
     iterate 5 refine GoR.op rfl rfl rfl rfl ?_
     refine GoR.end ?_
     refine Go.seq noJ_ok ?_
     refine Go.region noJ_ok rfl ?_
     refine GoR.op rfl rfl (ld25 rfl f11 rfl) rfl ?_
     refine GoR.op rfl rfl rfl rfl ?_
     refine GoR.op rfl rfl (aOp_sub rfl rfl (by constructor <;> omega) rfl) rfl ?_
     refine GoR.op rfl rfl (aOp_max2 rfl rfl hlow2) rfl ?_
     refine GoR.call rfl rfl (aOp_callFunc aFunc19 rfl) (hLe e0) ?_ (by rintro _ _ ⟨q, _⟩; cases q)
     rintro v15 h15 ⟨q, x15⟩
     cases q
     refine ⟨_, rfl, ?_⟩
     replace f11 := f11.ext x15
     replace e0 := e0.trans x15
     iterate 5 refine GoR.op rfl rfl rfl rfl ?_
     refine GoR.end ?_
     refine Go.seq noJ_ok ?_
     refine Go.region noJ_ok rfl ?_
     refine GoR.op rfl rfl (ld25 rfl f11 rfl) rfl ?_
     refine GoR.call rfl rfl (aOp_callFunc aFunc24 rfl) (hMo e0) ?_ (by rintro _ _ ⟨q, _⟩; cases q)
     rintro v16 h16 ⟨q, x16⟩
     cases q
     refine ⟨_, rfl, ?_⟩
     replace f11 := f11.ext x16
     replace e0 := e0.trans x16
     iterate 5 refine GoR.op rfl rfl rfl rfl ?_
     refine GoR.end ?_
     iterate 2 refine Go.seq noJ_ok ?_
     refine Go.region noJ_ok rfl ?_
     iterate 2 refine GoR.op rfl rfl rfl rfl ?_
     refine GoR.op rfl rfl (aOp_neq rfl rfl (r := false) (decide_eq_true (by omega))) rfl ?_
     iterate 2 refine GoR.op rfl rfl rfl rfl ?_
     refine GoR.op rfl rfl (aOp_neq rfl rfl (r := false) (decide_eq_true (by omega))) rfl ?_
     refine GoR.op rfl rfl rfl rfl ?_
     refine GoR.end ?_
     refine Go.cond noJ_ok (b := false) rfl ?_
     refine Go.code noJ_ok ?_
     refine Go.seq noJ_ok ?_
     refine Go.drawnE plan8_0 ?_
     refine GoE.quiet rfl rfl (ld25 rfl f11 rfl) rfl ?_
     iterate 2 refine GoE.quiet rfl rfl rfl rfl ?_
     refine GoE.call rfl rfl (aOp_callFunc aFunc43 rfl) (hpc) (dropF_drop (show bit? 6 2 = true from rfl) (dropF_drop (show bit? 6 1 = true from rfl) (dropF_keep (show bit? 6 0 = false from rfl) rfl))) ?_ (by rintro _ _ ⟨q, _⟩; cases q)
     rintro v17 h17 ⟨q, x17⟩
     cases q
     replace f11 := f11.ext x17
     replace e0 := e0.trans x17
     refine ⟨(rck (h2 := h17) rfl (ld25 rfl f11 rfl) recheck_nil), _, rfl, ?_⟩
     refine GoE.call rfl rfl (aOp_callFunc aFunc41 rfl) (with41_ok (mkPass load load) (A.ext e0) hs.2) (dropF_drop (show bit? 15 0 = true from rfl) rfl) ?_ (by rintro _ _ ⟨s, q, _, FS, e9⟩; cases q)
     rintro v18 h18 ⟨s, q, x18, FS, e9⟩
     cases q
     replace f11 := f11.ext x18
     replace e0 := e0.trans x18
     refine ⟨recheck_nil, _, rfl, ?_⟩
     refine GoE.call rfl rfl (aOp_callFunc aFunc21 rfl) (hBl (hAt FS e0)) rfl ?_ (by rintro _ _ ⟨q, _⟩; cases q)
     rintro v19 h19 ⟨q, x19⟩
     cases q
     replace f11 := f11.ext x19
     replace e0 := e0.trans x19
     refine ⟨recheck_nil, _, rfl, ?_⟩
     iterate 7 refine GoE.quiet rfl rfl rfl rfl ?_
     refine GoE.end rfl ?_
     refine Go.seq noJ_ok ?_
     refine Go.region noJ_ok rfl ?_
     refine GoR.op rfl rfl (fa25_1 rfl) rfl ?_
     refine GoR.op rfl rfl (ld23 rfl f11 rfl) rfl ?_
     refine GoR.op rfl rfl (aOp_lenSlice Tryz.underlying23 rfl hl2) rfl ?_
     refine GoR.op rfl rfl rfl rfl ?_
     refine GoR.end ?_
     iterate 2 refine Go.seq noJ_ok ?_
     refine Go.region noJ_ok rfl ?_
     refine GoR.op rfl rfl rfl rfl ?_
     refine GoR.op rfl rfl (aOp_neq rfl rfl (r := false) (decide_eq_true (by omega))) rfl ?_
     iterate 2 refine GoR.op rfl rfl rfl rfl ?_
     refine GoR.op rfl rfl (aOp_eql rfl rfl hn2) rfl ?_
     iterate 2 refine GoR.op rfl rfl rfl rfl ?_
     refine GoR.op rfl rfl (aOp_shr rfl rfl h10 rfl) rfl ?_
     refine GoR.op rfl rfl (aOp_and1 rfl rfl b1) rfl ?_
     refine GoR.op rfl rfl (aOp_eql rfl rfl d1) rfl ?_
     refine GoR.op rfl rfl (aOp_neqBool (r := false) rfl rfl Tryz.underlying4 (by simp)) rfl ?_
     iterate 3 refine GoR.op rfl rfl rfl rfl ?_
     refine GoR.op rfl rfl (aOp_eql rfl rfl hn0) rfl ?_
     iterate 2 refine GoR.op rfl rfl rfl rfl ?_
     refine GoR.op rfl rfl (aOp_shr rfl rfl h10 rfl) rfl ?_
     refine GoR.op rfl rfl (aOp_and1 rfl rfl b2) rfl ?_
     refine GoR.op rfl rfl (aOp_eql rfl rfl d2) rfl ?_
     refine GoR.op rfl rfl (aOp_neqBool (r := false) rfl rfl Tryz.underlying4 (by simp)) rfl ?_
     iterate 3 refine GoR.op rfl rfl rfl rfl ?_
     refine GoR.op rfl rfl (aOp_lss rfl rfl (r := false) (decide_eq_false (by omega))) rfl ?_
     iterate 3 refine GoR.op rfl rfl rfl rfl ?_
     refine GoR.op rfl rfl (aOp_gtr rfl rfl (r := false) (decide_eq_false (by omega))) rfl ?_
     iterate 4 refine GoR.op rfl rfl rfl rfl ?_
     refine GoR.op rfl rfl (aOp_lss rfl rfl (r := false) (decide_eq_false (by omega))) rfl ?_
     refine GoR.op rfl rfl rfl rfl ?_
     refine GoR.end ?_
     refine Go.cond noJ_ok (b := false) rfl ?_
     refine Go.code noJ_ok ?_
     iterate 2 refine Go.seq noJ_ok ?_
     refine Go.region noJ_ok rfl ?_
     cases q : mostV R.known with
     | some m =>
      rw [q] at hmo
      obtain ⟨rfl, rfl⟩ := Prod.mk.inj hmo
      obtain ⟨m1, m2⟩ := mostV_some O q
      have hle : decide (load ≤ m) = X := by
       have := m2 load hl.1 hl.2
       rw [hX] at this
       cases X with
       | true => exact decide_eq_true (this.1 rfl)
       | false => exact decide_eq_false fun k => by cases this.2 k
      have hBm := fun {h'} (e : Ext h h') => Bears_ok (A.ext e) hs.1 hs.2 m
      rw [bearsR_is O hp m1, bearsV_two.2 ((m2 m m1.1 m1.2).2 (Int.le_refl _))] at hBm
      by_cases h60 : m = 60
      ·subst h60
       refine GoR.op rfl rfl rfl rfl ?_
       refine GoR.op rfl rfl (aOp_neq rfl rfl (r := false) (decide_eq_true (by omega))) rfl ?_
       refine GoR.end ?_
       refine Go.cond noJ_ok (b := false) rfl ?_
       refine Go.code noJ_ok ?_
       iterate 2 refine Go.seq noJ_ok ?_
       refine Go.region noJ_ok rfl ?_
       refine GoR.op rfl rfl rfl rfl ?_
       refine GoR.op rfl rfl (aOp_lss rfl rfl (r := false) (decide_eq_false (by omega))) rfl ?_
       iterate 2 refine GoR.op rfl rfl rfl rfl ?_
       refine GoR.op rfl rfl (aOp_gtr rfl rfl (r := false) (decide_eq_false (by omega))) rfl ?_
       refine GoR.op rfl rfl rfl rfl ?_
       refine GoR.end ?_
       refine Go.cond noJ_ok (b := false) rfl ?_
       refine Go.code noJ_ok ?_
       refine Go.seq noJ_ok ?_
       refine Go.region noJ_ok rfl ?_
       refine GoR.op rfl rfl (ld25 rfl f11 rfl) rfl ?_
       refine GoR.op rfl rfl rfl rfl ?_
       refine GoR.call rfl rfl (aOp_callFunc aFunc19 rfl) (hBm e0) ?_ (by rintro _ _ ⟨q, _⟩; cases q)
       rintro v20 h20 ⟨q, x20⟩
       cases q
       refine ⟨_, rfl, ?_⟩
       replace e0 := e0.trans x20
       iterate 5 refine GoR.op rfl rfl rfl rfl ?_
       refine GoR.end ?_
       iterate 2 refine Go.seq noJ_ok ?_
       refine Go.region noJ_ok rfl ?_
       refine GoR.op rfl rfl rfl rfl ?_
       refine GoR.op rfl rfl (aOp_neq rfl rfl (r := false) (decide_eq_true (by omega))) rfl ?_
       iterate 2 refine GoR.op rfl rfl rfl rfl ?_
       refine GoR.op rfl rfl (aOp_neq rfl rfl (r := false) (decide_eq_true (by omega))) rfl ?_
       iterate 3 refine GoR.op rfl rfl rfl rfl ?_
       refine GoR.op rfl rfl (aOp_eql rfl rfl hn2) rfl ?_
       iterate 2 refine GoR.op rfl rfl rfl rfl ?_
       refine GoR.op rfl rfl (aOp_leq rfl rfl hle) rfl ?_
       refine GoR.op rfl rfl (aOp_neqBool (r := false) rfl rfl Tryz.underlying4 (by simp)) rfl ?_
       refine GoR.op rfl rfl rfl rfl ?_
       refine GoR.end ?_
       refine Go.cond noJ_ok (b := false) rfl ?_
       refine Go.code noJ_ok ?_
       iterate 2 refine Go.seq noJ_ok ?_
       refine Go.region noJ_ok rfl ?_
       refine GoR.op rfl rfl rfl rfl ?_
       refine GoR.op rfl rfl (aOp_eql rfl rfl (r := true) (decide_eq_true (by omega))) rfl ?_
       refine GoR.end ?_
       refine Go.cond noJ_ok (b := true) rfl ?_
       refine Go.seq noJ_ok ?_
       refine Go.region noJ_ok rfl ?_
       refine GoR.call rfl rfl (aOp_callFunc aFunc14 rfl) (alive_ok) ?_ (by rintro _ _ ⟨q, _⟩; cases q)
       rintro v21 h21 ⟨q, x21⟩
       cases q
       refine ⟨_, rfl, ?_⟩
       replace e0 := e0.trans x21
       refine GoR.op rfl rfl rfl rfl ?_
       refine GoR.end ?_
       exact Go.ret noJ_ok (ret_end (aResult_of Tryz.func8 rfl rfl) ⟨rfl, e0⟩)
      ·have hBn := fun {h'} (e : Ext h h') => Bears_ok (A.ext e) hs.1 hs.2 (m + 1)
       rw [bearsR_is O hp (load := m + 1) (by omega)] at hBn
       have hv : ¬ bearsV R.known (m + 1) = 2 := fun k => by
        have := (m2 (m + 1) (by omega) (by omega)).1 (bearsV_two.1 k)
        omega
       refine GoR.op rfl rfl rfl rfl ?_
       refine GoR.op rfl rfl (aOp_neq rfl rfl (r := false) (decide_eq_true (by omega))) rfl ?_
       refine GoR.end ?_
       refine Go.cond noJ_ok (b := false) rfl ?_
       refine Go.code noJ_ok ?_
       iterate 2 refine Go.seq noJ_ok ?_
       refine Go.region noJ_ok rfl ?_
       refine GoR.op rfl rfl rfl rfl ?_
       refine GoR.op rfl rfl (aOp_lss rfl rfl (r := false) (decide_eq_false (by omega))) rfl ?_
       iterate 2 refine GoR.op rfl rfl rfl rfl ?_
       refine GoR.op rfl rfl (aOp_gtr rfl rfl (r := false) (decide_eq_false (by omega))) rfl ?_
       refine GoR.op rfl rfl rfl rfl ?_
       refine GoR.end ?_
       refine Go.cond noJ_ok (b := false) rfl ?_
       refine Go.code noJ_ok ?_
       refine Go.seq noJ_ok ?_
       refine Go.region noJ_ok rfl ?_
       refine GoR.op rfl rfl (ld25 rfl f11 rfl) rfl ?_
       refine GoR.op rfl rfl rfl rfl ?_
       refine GoR.call rfl rfl (aOp_callFunc aFunc19 rfl) (hBm e0) ?_ (by rintro _ _ ⟨q, _⟩; cases q)
       rintro v61 h61 ⟨q, x61⟩
       cases q
       refine ⟨_, rfl, ?_⟩
       replace f11 := f11.ext x61
       replace e0 := e0.trans x61
       iterate 5 refine GoR.op rfl rfl rfl rfl ?_
       refine GoR.end ?_
       iterate 2 refine Go.seq noJ_ok ?_
       refine Go.region noJ_ok rfl ?_
       refine GoR.op rfl rfl rfl rfl ?_
       refine GoR.op rfl rfl (aOp_neq rfl rfl (r := false) (decide_eq_true (by omega))) rfl ?_
       iterate 2 refine GoR.op rfl rfl rfl rfl ?_
       refine GoR.op rfl rfl (aOp_neq rfl rfl (r := false) (decide_eq_true (by omega))) rfl ?_
       iterate 3 refine GoR.op rfl rfl rfl rfl ?_
       refine GoR.op rfl rfl (aOp_eql rfl rfl hn2) rfl ?_
       iterate 2 refine GoR.op rfl rfl rfl rfl ?_
       refine GoR.op rfl rfl (aOp_leq rfl rfl hle) rfl ?_
       refine GoR.op rfl rfl (aOp_neqBool (r := false) rfl rfl Tryz.underlying4 (by simp)) rfl ?_
       refine GoR.op rfl rfl rfl rfl ?_
       refine GoR.end ?_
       refine Go.cond noJ_ok (b := false) rfl ?_
       refine Go.code noJ_ok ?_
       iterate 2 refine Go.seq noJ_ok ?_
       refine Go.region noJ_ok rfl ?_
       refine GoR.op rfl rfl rfl rfl ?_
       refine GoR.op rfl rfl (aOp_eql rfl rfl (r := false) (decide_eq_false (by omega))) rfl ?_
       refine GoR.end ?_
       refine Go.cond noJ_ok (b := false) rfl ?_
       refine Go.code noJ_ok ?_
       refine Go.seq noJ_ok ?_
       refine Go.region noJ_ok rfl ?_
       refine GoR.op rfl rfl (ld25 rfl f11 rfl) rfl ?_
       refine GoR.op rfl rfl rfl rfl ?_
       refine GoR.op rfl rfl (aOp_add rfl rfl (by constructor <;> omega) rfl) rfl ?_
       refine GoR.call rfl rfl (aOp_callFunc aFunc19 rfl) (hBn e0) ?_ (by rintro _ _ ⟨q, _⟩; cases q)
       rintro v62 h62 ⟨q, x62⟩
       cases q
       refine ⟨_, rfl, ?_⟩
       replace e0 := e0.trans x62
       iterate 5 refine GoR.op rfl rfl rfl rfl ?_
       refine GoR.end ?_
       refine Go.seq noJ_ok ?_
       refine Go.region noJ_ok rfl ?_
       refine GoR.op rfl rfl rfl rfl ?_
       refine GoR.op rfl rfl (aOp_eql rfl rfl (r := true) (decide_eq_true (by omega))) rfl ?_
       iterate 2 refine GoR.op rfl rfl rfl rfl ?_
       refine GoR.op rfl rfl (aOp_neq rfl rfl (r := true) (decide_eq_false hv)) rfl ?_
       iterate 2 refine GoR.op rfl rfl rfl rfl ?_
       refine GoR.call rfl rfl (aOp_callFunc aFunc14 rfl) (alive_ok) ?_ (by rintro _ _ ⟨q, _⟩; cases q)
       rintro v63 h63 ⟨q, x63⟩
       cases q
       refine ⟨_, rfl, ?_⟩
       replace e0 := e0.trans x63
       iterate 2 refine GoR.op rfl rfl rfl rfl ?_
       refine GoR.end ?_
       exact Go.ret noJ_ok (ret_end (aResult_of Tryz.func8 rfl rfl) ⟨rfl, e0⟩)
     | none =>
      rw [q] at hmo
      obtain ⟨rfl, rfl⟩ := Prod.mk.inj hmo
      have m2 := mostV_none q
      have hBm := fun {h'} (e : Ext h h') => Bears_ok (A.ext e) hs.1 hs.2 0
      rw [bearsR_is O hp (load := 0) (by omega)] at hBm
      have hv : ¬ bearsV R.known 0 = 2 := fun k => by
       have := m2 0 (by omega) (by omega)
       rw [show always R 0 = true from bearsV_two.1 k] at this
       cases this
      have hv2 : ¬ bearsV R.known load = 2 := fun k => by
       have := m2 load hl.1 hl.2
       rw [show always R load = true from bearsV_two.1 k] at this
       cases this
      refine GoR.op rfl rfl rfl rfl ?_
      refine GoR.op rfl rfl (aOp_neq rfl rfl (r := true) (decide_eq_false (by omega))) rfl ?_
      refine GoR.end ?_
      refine Go.cond noJ_ok (b := true) rfl ?_
      refine Go.seq noJ_ok ?_
      refine Go.region noJ_ok rfl ?_
      refine GoR.op rfl rfl (ld25 rfl f11 rfl) rfl ?_
      refine GoR.call rfl rfl (aOp_callFunc aFunc19 rfl) (hBm e0) ?_ (by rintro _ _ ⟨q, _⟩; cases q)
      rintro v20 h20 ⟨q, x20⟩
      cases q
      refine ⟨_, rfl, ?_⟩
      replace e0 := e0.trans x20
      iterate 5 refine GoR.op rfl rfl rfl rfl ?_
      refine GoR.end ?_
      refine Go.seq noJ_ok ?_
      refine Go.region noJ_ok rfl ?_
      refine GoR.op rfl rfl rfl rfl ?_
      refine GoR.op rfl rfl (aOp_eql rfl rfl (r := true) (decide_eq_true (by omega))) rfl ?_
      iterate 2 refine GoR.op rfl rfl rfl rfl ?_
      refine GoR.op rfl rfl (aOp_eql rfl rfl (r := true) (decide_eq_true (by omega))) rfl ?_
      iterate 3 refine GoR.op rfl rfl rfl rfl ?_
      refine GoR.op rfl rfl (aOp_eql rfl rfl (r := true) (decide_eq_true (by omega))) rfl ?_
      iterate 3 refine GoR.op rfl rfl rfl rfl ?_
      refine GoR.op rfl rfl (aOp_neq rfl rfl (r := true) (decide_eq_false hv)) rfl ?_
      iterate 3 refine GoR.op rfl rfl rfl rfl ?_
      refine GoR.op rfl rfl (aOp_neq rfl rfl (r := true) (decide_eq_false hv2)) rfl ?_
      iterate 2 refine GoR.op rfl rfl rfl rfl ?_
      refine GoR.call rfl rfl (aOp_callFunc aFunc14 rfl) (alive_ok) ?_ (by rintro _ _ ⟨q, _⟩; cases q)
      rintro v21 h21 ⟨q, x21⟩
      cases q
      refine ⟨_, rfl, ?_⟩
      replace e0 := e0.trans x21
      iterate 2 refine GoR.op rfl rfl rfl rfl ?_
      refine GoR.end ?_
      exact Go.ret noJ_ok (ret_end (aResult_of Tryz.func8 rfl rfl) ⟨rfl, e0⟩)
  ·rw [decide_eq_false O] at hR
   have e0 : Ext h h := Ext.refl _
   refine Runs.intro aFunc8 rfl rfl rfl rfl fun rest => ?_
   refine Go.seq noJ_ok ?_
   refine Go.region noJ_ok rfl ?_
   refine GoR.box rfl rfl rfl rfl rfl rfl fun h0 x0 f0 => ?_
   replace e0 := e0.trans x0
   refine GoR.op rfl rfl rfl rfl ?_
   refine GoR.end ?_
   iterate 2 refine Go.seq noJ_ok ?_
   refine Go.region noJ_ok rfl ?_
   refine GoR.op rfl rfl (ld25 rfl f0 rfl) rfl ?_
   refine GoR.call rfl rfl (aOp_callFunc aFunc13 rfl) (hL e0) ?_ (by rintro _ _ ⟨q, _⟩; cases q)
   rintro v1 h1 ⟨q, x1⟩
   cases q
   refine ⟨_, rfl, ?_⟩
   replace f0 := f0.ext x1
   replace e0 := e0.trans x1
   refine GoR.op rfl rfl rfl rfl ?_
   refine GoR.op rfl rfl (ld25 rfl f0 rfl) rfl ?_
   refine GoR.call rfl rfl (aOp_callFunc aFunc36 rfl) (hR e0) ?_ (by rintro _ _ ⟨q, _⟩; cases q)
   rintro v2 h2 ⟨q, x2⟩
   cases q
   refine ⟨_, rfl, ?_⟩
   replace e0 := e0.trans x2
   iterate 3 refine GoR.op rfl rfl rfl rfl ?_
   iterate 4 refine GoR.skip rfl rfl rfl ?_
   refine GoR.op rfl rfl rfl rfl ?_
   refine GoR.end ?_
   refine Go.cond noJ_ok (b := true) rfl ?_
   refine Go.seq noJ_ok ?_
   refine Go.region noJ_ok rfl ?_
   refine GoR.call rfl rfl (aOp_callFunc aFunc14 rfl) (alive_ok) ?_ (by rintro _ _ ⟨q, _⟩; cases q)
   rintro v3 h3 ⟨q, x3⟩
   cases q
   refine ⟨_, rfl, ?_⟩
   replace e0 := e0.trans x3
   refine GoR.op rfl rfl rfl rfl ?_
   refine GoR.end ?_
   exact Go.ret noJ_ok (ret_end (aResult_of Tryz.func8 rfl rfl) ⟨rfl, e0⟩)
 ·rw [decide_eq_true (by simpa using hs)] at hL
  have e0 : Ext h h := Ext.refl _
  refine Runs.intro aFunc8 rfl rfl rfl rfl fun rest => ?_
  refine Go.seq noJ_ok ?_
  refine Go.region noJ_ok rfl ?_
  refine GoR.box rfl rfl rfl rfl rfl rfl fun h0 x0 f0 => ?_
  replace e0 := e0.trans x0
  refine GoR.op rfl rfl rfl rfl ?_
  refine GoR.end ?_
  iterate 2 refine Go.seq noJ_ok ?_
  refine Go.region noJ_ok rfl ?_
  refine GoR.op rfl rfl (ld25 rfl f0 rfl) rfl ?_
  refine GoR.call rfl rfl (aOp_callFunc aFunc13 rfl) (hL e0) ?_ (by rintro _ _ ⟨q, _⟩; cases q)
  rintro v1 h1 ⟨q, x1⟩
  cases q
  refine ⟨_, rfl, ?_⟩
  replace e0 := e0.trans x1
  refine GoR.op rfl rfl rfl rfl ?_
  iterate 3 refine GoR.skip rfl rfl rfl ?_
  iterate 2 refine GoR.op rfl rfl rfl rfl ?_
  iterate 4 refine GoR.skip rfl rfl rfl ?_
  refine GoR.op rfl rfl rfl rfl ?_
  refine GoR.end ?_
  refine Go.cond noJ_ok (b := true) rfl ?_
  refine Go.seq noJ_ok ?_
  refine Go.region noJ_ok rfl ?_
  refine GoR.call rfl rfl (aOp_callFunc aFunc14 rfl) (alive_ok) ?_ (by rintro _ _ ⟨q, _⟩; cases q)
  rintro v2 h2 ⟨q, x2⟩
  cases q
  refine ⟨_, rfl, ?_⟩
  replace e0 := e0.trans x2
  refine GoR.op rfl rfl rfl rfl ?_
  refine GoR.end ?_
  exact Go.ret noJ_ok (ret_end (aResult_of Tryz.func8 rfl rfl) ⟨rfl, e0⟩)
end Go.Proofs.YtkcimfopboelaaaGreat
