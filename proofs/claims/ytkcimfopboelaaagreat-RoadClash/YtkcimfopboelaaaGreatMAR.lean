import Derived.Test.YtkcimfopboelaaaGreatMAQ
import Derived.Laws.IdiomArrays
import Derived.Test.YtkcimfopboelaaaGreatRows
import Derived.WalkKit
import Derived.ProofKit
import Derived.OpenShut
import Derived.Carry
namespace Go.Proofs.YtkcimfopboelaaaGreat
open Go Go.AbsE Go.ChangeShapes Go.WideShapes Go.ChangeAt Go.RowKit
set_option linter.unusedSimpArgs false
set_option maxRecDepth 100000
set_option linter.unusedVariables false
theorem cells25 : Tryz.prog.cellsOf 25 = 2 := by kernel_rfl
theorem cells3 : Tryz.prog.cellsOf 3 = 1 := by kernel_rfl
theorem cells29 : Tryz.prog.cellsOf 29 = 2 := by kernel_rfl
theorem cells58 : Tryz.prog.cellsOf 58 = 7 := by kernel_rfl
theorem cells62 : Tryz.prog.cellsOf 62 = 7 := by kernel_rfl
theorem cells22 : Tryz.prog.cellsOf 22 = 1 := by kernel_rfl
theorem cells23 : Tryz.prog.cellsOf 23 = 1 := by kernel_rfl
theorem ctypes25 : Tryz.prog.cellTypes Tryz.prog.depth 25 = some [22, 23] := by kernel_rfl
theorem laidOut : laidOutB Tryz.prog = true := by kernel_rfl
def inI64 (n : Int) : Prop := -9223372036854775808 ≤ n ∧ n ≤ 9223372036854775807
theorem wf_in {n : Int} (h : (Lit.int .i64 n).wf = true) : inI64 n := by
 simp only [Lit.wf, Bool.and_eq_true, decide_eq_true_eq] at h
 have h1 : IntKind.i64.min = -9223372036854775808 := by decide
 have h2 : IntKind.i64.max = 9223372036854775807 := by decide
 rw [h1, h2] at h
 constructor <;> omega
variable {H : Type} {enc : TypeId × Value → H} {W : World} {base : Nat} {spare : Nat → Bool} {held : Bool}
theorem int_row {n : Nat} {cs : List Value} {x : DataW H × List MemPlace} (h : DataW.trod enc Tryz.prog W base spare held n 3 cs = some x) : ∃ a : Int, cs = [.int .i64 a] ∧ inI64 a := by
 obtain ⟨a, h1, _, h3⟩ := DataW.trod_int Tryz.underlying3 h
 exact ⟨a, h1, wf_in h3⟩
theorem span_row {n : Nat} {cs : List Value} {x : DataW H × List MemPlace} (h : DataW.trod enc Tryz.prog W base spare held n 29 cs = some x) : ∃ a b : Int, cs = [.int .i64 a, .int .i64 b] := by
 obtain ⟨y0, y1, k, _, hl, h0, h1⟩ := ChangeShapes.trod_struct2 Tryz.underlying29 h
 rw [cells29] at hl
 dsimp only at h0 h1
 rw [cells3] at h0 h1
 obtain ⟨a, ha, _⟩ := int_row h0
 obtain ⟨b, hb, _⟩ := int_row h1
 match cs, hl with
 | [c0, c1], _ =>
  simp at ha hb
  exact ⟨a, b, by rw [ha, hb]⟩
theorem list4 {α : Type} {l : List α} (h : l.length = 4) : ∃ c0 c1 c2 c3, l = [c0, c1, c2, c3] := by
 match l, h with
 | [c0, c1, c2, c3], _ => exact ⟨c0, c1, c2, c3, rfl⟩
theorem list5 {α : Type} {l : List α} (h : l.length = 5) : ∃ c0 c1 c2 c3 c4, l = [c0, c1, c2, c3, c4] := by
 match l, h with
 | [c0, c1, c2, c3, c4], _ => exact ⟨c0, c1, c2, c3, c4, rfl⟩
theorem list7 {α : Type} {l : List α} (h : l.length = 7) : ∃ c0 c1 c2 c3 c4 c5 c6, l = [c0, c1, c2, c3, c4, c5, c6] := by
 match l, h with
 | [c0, c1, c2, c3, c4, c5, c6], _ => exact ⟨c0, c1, c2, c3, c4, c5, c6, rfl⟩
theorem part_row {n : Nat} {cs : List Value} {x : DataW H × List MemPlace} (h : DataW.trod enc Tryz.prog W base spare held n 58 cs = some x) : ∃ r : List Int, r.length = 7 ∧ cs = r.map fun x => Value.int .i64 x := by
 obtain ⟨xs, m, _, _, hl, hlen, hfl⟩ := DataW.trod_struct Tryz.underlying58 h
 rw [cells58] at hl
 obtain ⟨c0, c1, c2, c3, c4, c5, c6, rfl⟩ := list7 hl
 obtain ⟨y0, y1, y2, y3, rfl⟩ := list4 hlen
 have t0 : DataW.trod enc Tryz.prog W base spare held m 29 [c0, c1] = some y0 := by
  have this : DataW.trod enc Tryz.prog W base spare held m 29 (([c0, c1, c2, c3, c4, c5, c6].drop 0).take (Tryz.prog.cellsOf 29)) = [y0, y1, y2, y3][0]? := hfl 0 _ rfl
  rw [cells29] at this;exact this
 have t1 : DataW.trod enc Tryz.prog W base spare held m 29 [c2, c3] = some y1 := by
  have this : DataW.trod enc Tryz.prog W base spare held m 29 (([c0, c1, c2, c3, c4, c5, c6].drop 2).take (Tryz.prog.cellsOf 29)) = [y0, y1, y2, y3][1]? := hfl 1 _ rfl
  rw [cells29] at this;exact this
 have t2 : DataW.trod enc Tryz.prog W base spare held m 29 [c4, c5] = some y2 := by
  have this : DataW.trod enc Tryz.prog W base spare held m 29 (([c0, c1, c2, c3, c4, c5, c6].drop 4).take (Tryz.prog.cellsOf 29)) = [y0, y1, y2, y3][2]? := hfl 2 _ rfl
  rw [cells29] at this;exact this
 have t3 : DataW.trod enc Tryz.prog W base spare held m 3 [c6] = some y3 := by
  have this : DataW.trod enc Tryz.prog W base spare held m 3 (([c0, c1, c2, c3, c4, c5, c6].drop 6).take (Tryz.prog.cellsOf 3)) = [y0, y1, y2, y3][3]? := hfl 3 _ rfl
  rw [cells3] at this;exact this
 obtain ⟨a0, a1, e0⟩ := span_row t0
 obtain ⟨a2, a3, e1⟩ := span_row t1
 obtain ⟨a4, a5, e2⟩ := span_row t2
 obtain ⟨a6, e3, _⟩ := int_row t3
 simp at e0 e1 e2 e3
 exact ⟨[a0, a1, a2, a3, a4, a5, a6], rfl, by rw [e0.1, e0.2, e1.1, e1.2, e2.1, e2.2, e3]; rfl⟩
theorem event_row {n : Nat} {cs : List Value} {x : DataW H × List MemPlace} (h : DataW.trod enc Tryz.prog W base spare held n 62 cs = some x) : ∃ r : List Int, r.length = 7 ∧ cs = r.map fun x => Value.int .i64 x := by
 obtain ⟨xs, m, _, _, hl, hlen, hfl⟩ := DataW.trod_struct Tryz.underlying62 h
 rw [cells62] at hl
 obtain ⟨c0, c1, c2, c3, c4, c5, c6, rfl⟩ := list7 hl
 obtain ⟨y0, y1, y2, y3, y4, rfl⟩ := list5 hlen
 have t0 : DataW.trod enc Tryz.prog W base spare held m 3 [c0] = some y0 := by
  have this : DataW.trod enc Tryz.prog W base spare held m 3 (([c0, c1, c2, c3, c4, c5, c6].drop 0).take (Tryz.prog.cellsOf 3)) = [y0, y1, y2, y3, y4][0]? := hfl 0 _ rfl
  rw [cells3] at this;exact this
 have t1 : DataW.trod enc Tryz.prog W base spare held m 29 [c1, c2] = some y1 := by
  have this : DataW.trod enc Tryz.prog W base spare held m 29 (([c0, c1, c2, c3, c4, c5, c6].drop 1).take (Tryz.prog.cellsOf 29)) = [y0, y1, y2, y3, y4][1]? := hfl 1 _ rfl
  rw [cells29] at this;exact this
 have t2 : DataW.trod enc Tryz.prog W base spare held m 3 [c3] = some y2 := by
  have this : DataW.trod enc Tryz.prog W base spare held m 3 (([c0, c1, c2, c3, c4, c5, c6].drop 3).take (Tryz.prog.cellsOf 3)) = [y0, y1, y2, y3, y4][2]? := hfl 2 _ rfl
  rw [cells3] at this;exact this
 have t3 : DataW.trod enc Tryz.prog W base spare held m 3 [c4] = some y3 := by
  have this : DataW.trod enc Tryz.prog W base spare held m 3 (([c0, c1, c2, c3, c4, c5, c6].drop 4).take (Tryz.prog.cellsOf 3)) = [y0, y1, y2, y3, y4][3]? := hfl 3 _ rfl
  rw [cells3] at this;exact this
 have t4 : DataW.trod enc Tryz.prog W base spare held m 29 [c5, c6] = some y4 := by
  have this : DataW.trod enc Tryz.prog W base spare held m 29 (([c0, c1, c2, c3, c4, c5, c6].drop 5).take (Tryz.prog.cellsOf 29)) = [y0, y1, y2, y3, y4][4]? := hfl 4 _ rfl
  rw [cells29] at this;exact this
 obtain ⟨a0, e0, _⟩ := int_row t0
 obtain ⟨a1, a2, e1⟩ := span_row t1
 obtain ⟨a3, e2, _⟩ := int_row t2
 obtain ⟨a4, e3, _⟩ := int_row t3
 obtain ⟨a5, a6, e4⟩ := span_row t4
 simp at e0 e1 e2 e3 e4
 exact ⟨[a0, a1, a2, a3, a4, a5, a6], rfl, by rw [e0, e1.1, e1.2, e2, e3, e4.1, e4.2]; rfl⟩
theorem slice_okw {t el : TypeId} {a : Addr} {len cap : Nat} {bs : Nat} (ht : Tryz.prog.underlying t = some (.slice el)) (h : Cell.okWide Tryz.prog W .any bs t (.slice (some a) len cap)) : a.spot = none ∧ ∃ C e fr, W.heap[a.block]? = some (.cells C e fr) := by
 unfold Cell.okWide at h
 rw [ht] at h
 dsimp only at h
 unfold Cell.ok at h
 rw [ht] at h
 dsimp only at h
 obtain ⟨_, _, _, h2, row, n, h3, _⟩ := h
 refine ⟨h2, ?_⟩
 unfold World.shape? at h3
 split at h3
 ·rename_i c e fr hq
  exact ⟨c, e, fr, hq⟩
 ·cases h3
theorem slice_cap {t el : TypeId} {a : Addr} {len cap : Nat} {bs : Nat} (ht : Tryz.prog.underlying t = some (.slice el)) (h : Cell.okWide Tryz.prog W .any bs t (.slice (some a) len cap)) : len < 9223372036854775808 := by
 unfold Cell.okWide at h
 rw [ht] at h
 dsimp only at h
 unfold Cell.ok at h
 rw [ht] at h
 dsimp only at h
 obtain ⟨h1, h2, _⟩ := h
 have : IntKind.i64.max = 9223372036854775807 := by decide
 rw [this] at h2
 omega
theorem rows_of {t el : TypeId} {sz fuel : Nat} {c : Value} {y : DataW H × List MemPlace} {bs : Nat} (ht : Tryz.prog.underlying t = some (.slice el)) (hsz : Tryz.prog.cellsOf el = sz)
  (hrow : ∀ {n : Nat} {cs : List Value} {x : DataW H × List MemPlace}, DataW.trod enc Tryz.prog W 0 (fun _ => true) true n el cs = some x → ∃ r : List Int, r.length = sz ∧ cs = r.map fun x => Value.int .i64 x)
  (h : DataW.trod enc Tryz.prog W 0 (fun _ => true) true fuel t [c] = some y) (hok : Cell.okWide Tryz.prog W .any bs t c) {e : Env} {hh : AH} (r : HR Tryz.prog (Base.all W) e hh W) :
  ∃ e' h' s, ∃ R : List (List Int), Env.le e e' ∧ HR Tryz.prog (Base.all W) e' h' W ∧ Ext hh h' ∧ VR e' s c ∧ (∀ l, l ∈ R → l.length = sz) ∧ SliceOf h' sz s (R.map fun l => l.map fun x => AVal.int .i64 x) ∧ R.length < 9223372036854775808 := by
 rcases Deep.open_slice ht h with ⟨hcs, _⟩ | ⟨a, len, cap, m, n, D, Pl, hcs, _, hl, _, hmm, _, hx⟩
 ·simp at hcs
  subst hcs;exact ⟨e, hh, .nilslice, [], Env.le_refl e, r, Ext.refl _, .nilslice, (fun _ q => by cases q), .nil, by decide⟩
 ·simp at hcs
  subst hcs
  obtain ⟨hs, C, el', fr, hB⟩ := slice_okw ht hok
  have hcap := slice_cap ht hok
  have hm : m = cap := by simpa using hmm
  have each : ∀ i, ∃ rr : List Int, i < len → rr.length = sz ∧ ∀ k n, rr[k]? = some n → W.cell? (a.add (i * sz + k)) = some (.int .i64 n) := by
   intro i
   by_cases hi : i < len
   ·obtain ⟨cs', h1, h2⟩ := hx i (by omega)
    obtain ⟨rr, hr1, hr2⟩ := hrow h2
    rw [hsz] at h1
    obtain ⟨_, hlen, hc⟩ := World.cells?_some h1
    refine ⟨rr, fun _ => ⟨hr1, fun k n hk => ?_⟩⟩
    have hkl := (List.getElem?_eq_some_iff.1 hk).1
    have := hc k (by omega)
    obtain ⟨B, off, spot⟩ := a
    dsimp only at hs
    subst hs;rw [addr_add, addr_add] at this;rw [addr_add, ← Nat.add_assoc, this, hr2, List.getElem?_map, hk]
    rfl
   ·exact ⟨[], fun q => absurd q hi⟩
  obtain ⟨f, hf⟩ := Classical.axiomOfChoice each
  obtain ⟨e', h', s, k1, k2, k3, k4, k5, _, b, o, rfl⟩ := r.openRowsC (fun x => AVal.int .i64 x) (fun x => Value.int .i64 x) (fun _ _ => .int _ _) (cap := cap) (len := len) (sz := sz) hB hs f hf
  exact ⟨e', h', _, (List.range len).map f, k1, k2, k3, k4, fun l hl => by
   obtain ⟨i, hi, rfl⟩ := List.mem_map.1 hl
   exact (hf i (List.mem_range.1 hi)).1, k5, by rw [List.length_map, List.length_range]; exact hcap⟩
def toP : List Int → PV
 | [a, b, c, d, e, f, g] => ⟨a, b, c, d, e, f, g⟩
 | _ => ⟨0, 0, 0, 0, 0, 0, 0⟩
def toE : List Int → EV
 | [a, b, c, d, e, f, g] => ⟨a, b, c, d, e, f, g⟩
 | _ => ⟨0, 0, 0, 0, 0, 0, 0⟩
theorem ps_eq {R : List (List Int)} (h : ∀ l, l ∈ R → l.length = 7) : (R.map fun l => l.map fun x => AVal.int .i64 x) = (R.map toP).map PV.cells := by
 rw [List.map_map];refine List.map_congr_left fun l hl => ?_
 match l, h l hl with
 | [a, b, c, d, e, f, g], _ => rfl
theorem es_eq {R : List (List Int)} (h : ∀ l, l ∈ R → l.length = 7) : (R.map fun l => l.map fun x => AVal.int .i64 x) = (R.map toE).map EV.cells := by
 rw [List.map_map];refine List.map_congr_left fun l hl => ?_
 match l, h l hl with
 | [a, b, c, d, e, f, g], _ => rfl
theorem array2 {α : Type} {cs : Array α} (h : cs.size = 2) : ∃ c0 c1, cs = #[c0, c1] := by
 obtain ⟨l⟩ := cs
 match l, h with
 | [c0, c1], _ => exact ⟨c0, c1, rfl⟩
theorem road_of {bs : Nat} {v : Value} {d : DataW H} {p : List MemPlace} (hv : Value.okWide Tryz.prog W .any bs 25 v) (h : DataW.Trod enc Tryz.prog W 0 (fun _ => true) true 25 v d p) {e : Env} {hh : AH} (r : HR Tryz.prog (Base.all W) e hh W) :
  ∃ e' h' R sp se, Env.le e e' ∧ HR Tryz.prog (Base.all W) e' h' W ∧ Ext hh h' ∧ VR e' (.agg [sp, se]) v ∧ RoadAt h' R sp se ∧ R.ps.length < 9223372036854775808 ∧ R.es.length < 9223372036854775808 := by
 have hv2 := hv
 obtain ⟨cs, rfl, hsz⟩ := okWide_struct Tryz.underlying25 hv
 obtain ⟨c0, c1, rfl⟩ := array2 (hsz.trans cells25)
 obtain ⟨fuel, hf⟩ := h
 obtain ⟨y0, y1, n, _, hl, t0, t1⟩ := ChangeShapes.trod_struct2 Tryz.underlying25 hf
 dsimp only at t0 t1
 rw [cells22] at t0;rw [cells23] at t1
 unfold Value.okWide at hv2
 rw [Tryz.underlying25] at hv2
 obtain ⟨cs, hcs, _, ts, hts, _, hrow⟩ := hv2
 injection hcs with hcs
 subst hcs;rw [ctypes25] at hts;cases hts
 obtain ⟨u0, hu0, ok0⟩ := hrow 0 c0 rfl
 obtain ⟨u1, hu1, ok1⟩ := hrow 1 c1 rfl
 cases hu0;cases hu1
 obtain ⟨ea, ha, s0, R0, a1, a2, a3, a4, a5, a6, a7⟩ := rows_of Tryz.underlying22 cells58 part_row t0 ok0 r
 obtain ⟨eb, hb, s1, R1, b1, b2, b3, b4, b5, b6, b7⟩ := rows_of Tryz.underlying23 cells62 event_row t1 ok1 a2
 rw [ps_eq a5] at a6;rw [es_eq b5] at b6;refine ⟨eb, hb, ⟨R0.map toP, R1.map toE⟩, s0, s1, Env.le_trans a1 b1, b2, a3.trans b3, ?_, ⟨a6.ext b3, b6⟩, by simpa using a7, by simpa using b7⟩;exact .agg (CS := [_, _]) (.cons (a4.mono b1) (.cons b4 .nil))
end Go.Proofs.YtkcimfopboelaaaGreat
