import Derived.Test.YtkhiagdmbajimaaMAT
import Derived.Test.YtkhiagdmbajimaaMAQ
import Derived.Laws.IdiomArrays
import Derived.Test.YtkhiagdmbajimaaRows
import Derived.WalkKit
import Derived.ProofKit
import Derived.OpenShut
import Derived.Carry
import Derived.Test.YtkhiagdmbajimaaMAS
namespace Go.Proofs.Ytkhiagdmbajimaa
open Go Go.AbsE Go.ChangeShapes Go.WideShapes Go.ChangeAt Go.RowKit
set_option linter.unusedSimpArgs false
set_option maxRecDepth 100000
set_option linter.unusedVariables false
theorem cells29 : Try.prog.cellsOf 29 = 4 := by kernel_rfl
theorem cells3 : Try.prog.cellsOf 3 = 1 := by kernel_rfl
theorem cells35 : Try.prog.cellsOf 35 = 2 := by kernel_rfl
theorem cells32 : Try.prog.cellsOf 32 = 2 := by kernel_rfl
theorem cells57 : Try.prog.cellsOf 57 = 3 := by kernel_rfl
theorem cells60 : Try.prog.cellsOf 60 = 4 := by kernel_rfl
theorem cells25 : Try.prog.cellsOf 25 = 1 := by kernel_rfl
theorem cells26 : Try.prog.cellsOf 26 = 1 := by kernel_rfl
theorem cells27 : Try.prog.cellsOf 27 = 1 := by kernel_rfl
theorem ctypes29 : Try.prog.cellTypes Try.prog.depth 29 = some [25, 26, 27, 26] := by kernel_rfl
theorem laidOut : laidOutB Try.prog = true := by kernel_rfl
def inI64 (n : Int) : Prop := -9223372036854775808 ≤ n ∧ n ≤ 9223372036854775807
theorem wf_in {n : Int} (h : (Lit.int .i64 n).wf = true) : inI64 n := by
 simp only [Lit.wf, Bool.and_eq_true, decide_eq_true_eq] at h
 have h1 : IntKind.i64.min = -9223372036854775808 := by decide
 have h2 : IntKind.i64.max = 9223372036854775807 := by decide
 rw [h1, h2] at h
 constructor <;> omega
variable {H : Type} {enc : TypeId × Value → H} {W : World} {base : Nat} {spare : Nat → Bool} {held : Bool}
theorem int_row {n : Nat} {cs : List Value} {x : DataW H × List MemPlace} (h : DataW.trod enc Try.prog W base spare held n 3 cs = some x) : ∃ a : Int, cs = [.int .i64 a] ∧ inI64 a := by
 obtain ⟨a, h1, _, h3⟩ := DataW.trod_int Try.underlying3 h
 exact ⟨a, h1, wf_in h3⟩
theorem span_row {n : Nat} {cs : List Value} {x : DataW H × List MemPlace} (h : DataW.trod enc Try.prog W base spare held n 35 cs = some x) : ∃ a b : Int, cs = [.int .i64 a, .int .i64 b] := by
 obtain ⟨y0, y1, k, _, hl, h0, h1⟩ := ChangeShapes.trod_struct2 Try.underlying35 h
 rw [cells35] at hl
 dsimp only at h0 h1
 rw [cells3] at h0 h1
 obtain ⟨a, ha, _⟩ := int_row h0
 obtain ⟨b, hb, _⟩ := int_row h1
 match cs, hl with
 | [c0, c1], _ =>
  simp at ha hb
  exact ⟨a, b, by rw [ha, hb]⟩
theorem list2 {α : Type} {l : List α} (h : l.length = 2) : ∃ c0 c1, l = [c0, c1] := by
 match l, h with
 | [c0, c1], _ => exact ⟨c0, c1, rfl⟩
theorem list3 {α : Type} {l : List α} (h : l.length = 3) : ∃ c0 c1 c2, l = [c0, c1, c2] := by
 match l, h with
 | [c0, c1, c2], _ => exact ⟨c0, c1, c2, rfl⟩
theorem list4 {α : Type} {l : List α} (h : l.length = 4) : ∃ c0 c1 c2 c3, l = [c0, c1, c2, c3] := by
 match l, h with
 | [c0, c1, c2, c3], _ => exact ⟨c0, c1, c2, c3, rfl⟩
theorem way_row {n : Nat} {cs : List Value} {x : DataW H × List MemPlace} (h : DataW.trod enc Try.prog W base spare held n 32 cs = some x) : ∃ r : List Int, r.length = 2 ∧ cs = r.map fun x => Value.int .i64 x := by
 obtain ⟨y0, y1, k, _, hl, h0, h1⟩ := ChangeShapes.trod_struct2 Try.underlying32 h
 rw [cells32] at hl
 dsimp only at h0 h1
 rw [cells3] at h0 h1
 obtain ⟨a, ha, _⟩ := int_row h0
 obtain ⟨b, hb, _⟩ := int_row h1
 match cs, hl with
 | [c0, c1], _ =>
  simp at ha hb
  exact ⟨[a, b], rfl, by rw [ha, hb]; rfl⟩
theorem bank_row {n : Nat} {cs : List Value} {x : DataW H × List MemPlace} (h : DataW.trod enc Try.prog W base spare held n 60 cs = some x) : ∃ r : List Int, r.length = 4 ∧ cs = r.map fun x => Value.int .i64 x := by
 obtain ⟨xs, m, _, _, hl, hlen, hfl⟩ := DataW.trod_struct Try.underlying60 h
 rw [cells60] at hl
 obtain ⟨c0, c1, c2, c3, rfl⟩ := list4 hl
 obtain ⟨y0, y1, rfl⟩ := list2 hlen
 have t0 : DataW.trod enc Try.prog W base spare held m 35 [c0, c1] = some y0 := by
  have this : DataW.trod enc Try.prog W base spare held m 35 (([c0, c1, c2, c3].drop 0).take (Try.prog.cellsOf 35)) = [y0, y1][0]? := hfl 0 _ rfl
  rw [cells35] at this;exact this
 have t1 : DataW.trod enc Try.prog W base spare held m 35 [c2, c3] = some y1 := by
  have this : DataW.trod enc Try.prog W base spare held m 35 (([c0, c1, c2, c3].drop 2).take (Try.prog.cellsOf 35)) = [y0, y1][1]? := hfl 1 _ rfl
  rw [cells35] at this;exact this
 obtain ⟨a0, a1, e0⟩ := span_row t0
 obtain ⟨a2, a3, e1⟩ := span_row t1
 simp at e0 e1
 exact ⟨[a0, a1, a2, a3], rfl, by rw [e0.1, e0.2, e1.1, e1.2]; rfl⟩
theorem right_row {n : Nat} {cs : List Value} {x : DataW H × List MemPlace} (h : DataW.trod enc Try.prog W base spare held n 57 cs = some x) : ∃ r : List Int, r.length = 3 ∧ cs = r.map fun x => Value.int .i64 x := by
 obtain ⟨xs, m, _, _, hl, hlen, hfl⟩ := DataW.trod_struct Try.underlying57 h
 rw [cells57] at hl
 obtain ⟨c0, c1, c2, rfl⟩ := list3 hl
 obtain ⟨y0, y1, y2, rfl⟩ := list3 hlen
 have t0 : DataW.trod enc Try.prog W base spare held m 3 [c0] = some y0 := by
  have this : DataW.trod enc Try.prog W base spare held m 3 (([c0, c1, c2].drop 0).take (Try.prog.cellsOf 3)) = [y0, y1, y2][0]? := hfl 0 _ rfl
  rw [cells3] at this;exact this
 have t1 : DataW.trod enc Try.prog W base spare held m 3 [c1] = some y1 := by
  have this : DataW.trod enc Try.prog W base spare held m 3 (([c0, c1, c2].drop 1).take (Try.prog.cellsOf 3)) = [y0, y1, y2][1]? := hfl 1 _ rfl
  rw [cells3] at this;exact this
 have t2 : DataW.trod enc Try.prog W base spare held m 3 [c2] = some y2 := by
  have this : DataW.trod enc Try.prog W base spare held m 3 (([c0, c1, c2].drop 2).take (Try.prog.cellsOf 3)) = [y0, y1, y2][2]? := hfl 2 _ rfl
  rw [cells3] at this;exact this
 obtain ⟨a0, e0, _⟩ := int_row t0
 obtain ⟨a1, e1, _⟩ := int_row t1
 obtain ⟨a2, e2, _⟩ := int_row t2
 simp at e0 e1 e2
 exact ⟨[a0, a1, a2], rfl, by rw [e0, e1, e2]; rfl⟩
theorem slice_okw {t el : TypeId} {a : Addr} {len cap : Nat} {bs : Nat} (ht : Try.prog.underlying t = some (.slice el)) (h : Cell.okWide Try.prog W .any bs t (.slice (some a) len cap)) : a.spot = none ∧ ∃ C e fr, W.heap[a.block]? = some (.cells C e fr) := by
 unfold Cell.okWide at h
 rw [ht] at h
 dsimp only at h
 unfold Cell.ok at h
 rw [ht] at h
 dsimp only at h
 obtain ⟨_, _, _, h2, row, n, h3, _⟩ := h
 refine ⟨h2, ?_⟩
 unfold World.shape? at h3
 split at h3
 ·rename_i c e fr hq
  exact ⟨c, e, fr, hq⟩
 ·cases h3
theorem slice_cap {t el : TypeId} {a : Addr} {len cap : Nat} {bs : Nat} (ht : Try.prog.underlying t = some (.slice el)) (h : Cell.okWide Try.prog W .any bs t (.slice (some a) len cap)) : len < 9223372036854775808 := by
 unfold Cell.okWide at h
 rw [ht] at h
 dsimp only at h
 unfold Cell.ok at h
 rw [ht] at h
 dsimp only at h
 obtain ⟨h1, h2, _⟩ := h
 have : IntKind.i64.max = 9223372036854775807 := by decide
 rw [this] at h2
 omega
theorem slice_le {t el : TypeId} {a : Addr} {len cap : Nat} {bs : Nat} (ht : Try.prog.underlying t = some (.slice el)) (h : Cell.okWide Try.prog W .any bs t (.slice (some a) len cap)) : len ≤ cap := by
 unfold Cell.okWide at h
 rw [ht] at h
 dsimp only at h
 unfold Cell.ok at h
 rw [ht] at h
 dsimp only at h
 exact h.1
theorem rows_of {t el : TypeId} {sz fuel : Nat} {c : Value} {y : DataW H × List MemPlace} {bs : Nat} (ht : Try.prog.underlying t = some (.slice el)) (hsz : Try.prog.cellsOf el = sz)
  (hrow : ∀ {n : Nat} {cs : List Value} {x : DataW H × List MemPlace}, DataW.trod enc Try.prog W 0 (fun _ => true) true n el cs = some x → ∃ r : List Int, r.length = sz ∧ cs = r.map fun x => Value.int .i64 x)
  (h : DataW.trod enc Try.prog W 0 (fun _ => true) true fuel t [c] = some y) (hok : Cell.okWide Try.prog W .any bs t c) {e : Env} {hh : AH} (r : HR Try.prog (Base.all W) e hh W) :
  ∃ e' h' s, ∃ R : List (List Int), Env.le e e' ∧ HR Try.prog (Base.all W) e' h' W ∧ Ext hh h' ∧ VR e' s c ∧ (∀ l, l ∈ R → l.length = sz) ∧ SliceOf h' sz s (R.map fun l => l.map fun x => AVal.int .i64 x) ∧ R.length < 9223372036854775808 ∧ CutS s R.length := by
 rcases Deep.open_slice ht h with ⟨hcs, _⟩ | ⟨a, len, cap, m, n, D, Pl, hcs, _, hl, _, hmm, _, hx⟩
 ·simp at hcs
  subst hcs;exact ⟨e, hh, .nilslice, [], Env.le_refl e, r, Ext.refl _, .nilslice, (fun _ q => by cases q), .nil, by decide, fun q => absurd rfl q⟩
 ·simp at hcs
  subst hcs
  obtain ⟨hs, C, el', fr, hB⟩ := slice_okw ht hok
  have hcap := slice_cap ht hok
  have hle := slice_le ht hok
  have hm : m = cap := by simpa using hmm
  have each : ∀ i, ∃ rr : List Int, i < len → rr.length = sz ∧ ∀ k n, rr[k]? = some n → W.cell? (a.add (i * sz + k)) = some (.int .i64 n) := by
   intro i
   by_cases hi : i < len
   ·obtain ⟨cs', h1, h2⟩ := hx i (by omega)
    obtain ⟨rr, hr1, hr2⟩ := hrow h2
    rw [hsz] at h1
    obtain ⟨_, hlen, hc⟩ := World.cells?_some h1
    refine ⟨rr, fun _ => ⟨hr1, fun k n hk => ?_⟩⟩
    have hkl := (List.getElem?_eq_some_iff.1 hk).1
    have := hc k (by omega)
    obtain ⟨B, off, spot⟩ := a
    dsimp only at hs
    subst hs;rw [addr_add, addr_add] at this;rw [addr_add, ← Nat.add_assoc, this, hr2, List.getElem?_map, hk]
    rfl
   ·exact ⟨[], fun q => absurd q hi⟩
  obtain ⟨f, hf⟩ := Classical.axiomOfChoice each
  obtain ⟨e', h', s, k1, k2, k3, k4, k5, _, b, o, rfl⟩ := r.openRowsC (fun x => AVal.int .i64 x) (fun x => Value.int .i64 x) (fun _ _ => .int _ _) (cap := cap) (len := len) (sz := sz) hB hs f hf
  exact ⟨e', h', _, (List.range len).map f, k1, k2, k3, k4, fun l hl => by
   obtain ⟨i, hi, rfl⟩ := List.mem_map.1 hl
   exact (hf i (List.mem_range.1 hi)).1, k5, by rw [List.length_map, List.length_range]; exact hcap, fun _ => ⟨b, o, cap, by rw [List.length_map, List.length_range], by rw [List.length_map, List.length_range]; exact hle⟩⟩
def toS : List Int → Int × Int
 | [a, b] => (a, b)
 | _ => (0, 0)
def toB : List Int → BkV
 | [a, b, c, d] => ⟨a, b, c, d⟩
 | _ => ⟨0, 0, 0, 0⟩
def toR : List Int → RtV
 | [a, b, c] => ⟨a, b, c⟩
 | _ => ⟨0, 0, 0⟩
theorem ss_eq {R : List (List Int)} (h : ∀ l, l ∈ R → l.length = 2) : (R.map fun l => l.map fun x => AVal.int .i64 x) = (R.map toS).map spC := by
 rw [List.map_map];refine List.map_congr_left fun l hl => ?_
 match l, h l hl with
 | [a, b], _ => rfl
theorem bs_eq {R : List (List Int)} (h : ∀ l, l ∈ R → l.length = 4) : (R.map fun l => l.map fun x => AVal.int .i64 x) = (R.map toB).map BkV.cells := by
 rw [List.map_map];refine List.map_congr_left fun l hl => ?_
 match l, h l hl with
 | [a, b, c, d], _ => rfl
theorem rs_eq {R : List (List Int)} (h : ∀ l, l ∈ R → l.length = 3) : (R.map fun l => l.map fun x => AVal.int .i64 x) = (R.map toR).map RtV.cells := by
 rw [List.map_map];refine List.map_congr_left fun l hl => ?_
 match l, h l hl with
 | [a, b, c], _ => rfl
theorem array4 {α : Type} {cs : Array α} (h : cs.size = 4) : ∃ c0 c1 c2 c3, cs = #[c0, c1, c2, c3] := by
 obtain ⟨l⟩ := cs
 match l, h with
 | [c0, c1, c2, c3], _ => exact ⟨c0, c1, c2, c3, rfl⟩
theorem drain_of {bs : Nat} {v : Value} {d : DataW H} {p : List MemPlace} (hv : Value.okWide Try.prog W .any bs 29 v) (h : DataW.Trod enc Try.prog W 0 (fun _ => true) true 29 v d p) {e : Env} {hh : AH} (r : HR Try.prog (Base.all W) e hh W) :
  ∃ e' h' D sb sd sr ss, Env.le e e' ∧ HR Try.prog (Base.all W) e' h' W ∧ Ext hh h' ∧ VR e' (.agg (dC sb sd sr ss)) v ∧ DrainAt h' D sb sd sr ss ∧ DrainL D ∧ CutS sb D.bs.length ∧ CutS sd D.ds.length ∧ CutS sr D.rs.length ∧ CutS ss D.ss.length := by
 have hv2 := hv
 obtain ⟨cs, rfl, hsz⟩ := okWide_struct Try.underlying29 hv
 obtain ⟨c0, c1, c2, c3, rfl⟩ := array4 (hsz.trans cells29)
 obtain ⟨fuel, hf⟩ := h
 obtain ⟨xs, n, _, _, hl, hlen, hfl⟩ := DataW.trod_struct Try.underlying29 hf
 obtain ⟨y0, y1, y2, y3, rfl⟩ := list4 hlen
 have t0 : DataW.trod enc Try.prog W 0 (fun _ => true) true n 25 [c0] = some y0 := by
  have this : DataW.trod enc Try.prog W 0 (fun _ => true) true n 25 (([c0, c1, c2, c3].drop 0).take (Try.prog.cellsOf 25)) = [y0, y1, y2, y3][0]? := hfl 0 _ rfl
  rw [cells25] at this;exact this
 have t1 : DataW.trod enc Try.prog W 0 (fun _ => true) true n 26 [c1] = some y1 := by
  have this : DataW.trod enc Try.prog W 0 (fun _ => true) true n 26 (([c0, c1, c2, c3].drop 1).take (Try.prog.cellsOf 26)) = [y0, y1, y2, y3][1]? := hfl 1 _ rfl
  rw [cells26] at this;exact this
 have t2 : DataW.trod enc Try.prog W 0 (fun _ => true) true n 27 [c2] = some y2 := by
  have this : DataW.trod enc Try.prog W 0 (fun _ => true) true n 27 (([c0, c1, c2, c3].drop 2).take (Try.prog.cellsOf 27)) = [y0, y1, y2, y3][2]? := hfl 2 _ rfl
  rw [cells27] at this;exact this
 have t3 : DataW.trod enc Try.prog W 0 (fun _ => true) true n 26 [c3] = some y3 := by
  have this : DataW.trod enc Try.prog W 0 (fun _ => true) true n 26 (([c0, c1, c2, c3].drop 3).take (Try.prog.cellsOf 26)) = [y0, y1, y2, y3][3]? := hfl 3 _ rfl
  rw [cells26] at this;exact this
 unfold Value.okWide at hv2
 rw [Try.underlying29] at hv2
 obtain ⟨cs, hcs, _, ts, hts, _, hrow⟩ := hv2
 injection hcs with hcs
 subst hcs;rw [ctypes29] at hts;cases hts
 obtain ⟨u0, hu0, ok0⟩ := hrow 0 c0 rfl
 obtain ⟨u1, hu1, ok1⟩ := hrow 1 c1 rfl
 obtain ⟨u2, hu2, ok2⟩ := hrow 2 c2 rfl
 obtain ⟨u3, hu3, ok3⟩ := hrow 3 c3 rfl
 cases hu0;cases hu1;cases hu2;cases hu3
 obtain ⟨ea, ha, s0, R0, a1, a2, a3, a4, a5, a6, a7, a8⟩ := rows_of Try.underlying25 cells60 bank_row t0 ok0 r
 obtain ⟨eb, hb, s1, R1, b1, b2, b3, b4, b5, b6, b7, b8⟩ := rows_of Try.underlying26 cells32 way_row t1 ok1 a2
 obtain ⟨ec, hc, s2, R2, g1, g2, g3, g4, g5, g6, g7, g8⟩ := rows_of Try.underlying27 cells57 right_row t2 ok2 b2
 obtain ⟨ed, hd, s3, R3, i1, i2, i3, i4, i5, i6, i7, i8⟩ := rows_of Try.underlying26 cells32 way_row t3 ok3 g2
 rw [bs_eq a5] at a6;rw [ss_eq b5] at b6;rw [rs_eq g5] at g6;rw [ss_eq i5] at i6;refine ⟨ed, hd, ⟨R0.map toB, R1.map toS, R2.map toR, R3.map toS⟩, s0, s1, s2, s3, Env.le_trans a1 (Env.le_trans b1 (Env.le_trans g1 i1)), i2, a3.trans (b3.trans (g3.trans i3)), ?_, ⟨((a6.ext b3).ext g3).ext i3, (b6.ext g3).ext i3, g6.ext i3, i6⟩, ⟨by simpa using a7, by simpa using b7, by simpa using g7, by simpa using i7⟩, by show CutS s0 (R0.map toB).length; rw [List.length_map]; exact a8, by show CutS s1 (R1.map toS).length; rw [List.length_map]; exact b8, by show CutS s2 (R2.map toR).length; rw [List.length_map]; exact g8, by show CutS s3 (R3.map toS).length; rw [List.length_map]; exact i8⟩;exact .agg (CS := [_, _, _, _]) (.cons (((a4.mono b1).mono g1).mono i1) (.cons ((b4.mono g1).mono i1) (.cons (g4.mono i1) (.cons i4 .nil))))
end Go.Proofs.Ytkhiagdmbajimaa

namespace Go.Proofs.Ytkhiagdmbajimaa
open Go Go.AbsE Go.ChangeShapes Go.WideShapes Go.ChangeAt Go.RowKit
set_option linter.unusedSimpArgs false
set_option maxRecDepth 100000
set_option linter.unusedVariables false
section
variable {H : Type} {enc : TypeId × Value → H} {W : World} {base : Nat} {spare : Nat → Bool} {held : Bool}
theorem cells93 : Try.prog.cellsOf 93 = 1 := by kernel_rfl
theorem wf_u16 {n : Int} (h : (Lit.int .u16 n).wf = true) : 0 ≤ n ∧ n < 65536 := by
 simp only [Lit.wf, Bool.and_eq_true, decide_eq_true_eq] at h
 have h1 : IntKind.u16.min = 0 := by decide
 have h2 : IntKind.u16.max = 65535 := by decide
 omega
theorem u16s_of {c : Value} {fuel : Nat} {y : DataW H × List MemPlace} {bs : Nat} (h : DataW.trod enc Try.prog W 0 (fun _ => true) true fuel 45 [c] = some y) (hok : Cell.okWide Try.prog W .any bs 45 c) {e : Env} {hh : AH} (r : HR Try.prog (Base.all W) e hh W) :
  ∃ e' h' s, ∃ R : List Int, Env.le e e' ∧ HR Try.prog (Base.all W) e' h' W ∧ Ext hh h' ∧ VR e' s c ∧ (∀ x, x ∈ R → 0 ≤ x ∧ x < 65536) ∧ R.length < 9223372036854775808 ∧ SliceOf h' 1 s (u16s R) := by
 rcases Deep.open_slice Try.underlying45 h with ⟨hcs, _⟩ | ⟨a, len, cap, m, n, D, Pl, hcs, _, hl, _, hmm, _, hx⟩
 ·simp at hcs
  subst hcs;exact ⟨e, hh, .nilslice, [], Env.le_refl e, r, Ext.refl _, .nilslice, (fun _ q => by cases q), (by decide), .nil⟩
 ·simp at hcs
  subst hcs
  obtain ⟨hs, C, el', fr, hB⟩ := slice_okw Try.underlying45 hok
  have hcap := slice_cap Try.underlying45 hok
  have hm : m = cap := by simpa using hmm
  have each : ∀ i, ∃ rr : Int, i < len → (0 ≤ rr ∧ rr < 65536) ∧ W.cell? (a.add (i * 1)) = some (.int .u16 rr) := by
   intro i
   by_cases hi : i < len
   ·obtain ⟨cs', h1, h2⟩ := hx i (by omega)
    obtain ⟨v, hv, _, hwf⟩ := DataW.trod_int Try.underlying93 h2
    rw [cells93] at h1
    obtain ⟨_, hlen, hc⟩ := World.cells?_some h1
    refine ⟨v, fun _ => ⟨wf_u16 hwf, ?_⟩⟩
    have := hc 0 (by omega)
    obtain ⟨B, off, spot⟩ := a
    dsimp only at hs
    subst hs;rw [addr_add, addr_add] at this;rw [addr_add, ← Nat.add_zero (off + i * 1), this, hv]
    rfl
   ·exact ⟨0, fun q => absurd q hi⟩
  obtain ⟨f, hf⟩ := Classical.axiomOfChoice each
  obtain ⟨e', h', s, k1, k2, k3, k4, k5, k6⟩ := r.openRowsG (fun x => AVal.int .u16 x) (fun x => Value.int .u16 x) (fun _ _ => .int _ _) (cap := cap) (len := len) (sz := 1) hB hs (fun i => [f i]) (fun i hi => ⟨rfl, fun k n hk => by
   match k, hk with
   | 0, hk =>
    cases hk
    exact (hf i hi).2⟩)
  refine ⟨e', h', s, (List.range len).map f, k1, k2, k3, k4, fun l hl => ?_, by simpa using hcap, ?_⟩
  ·obtain ⟨i, hi, rfl⟩ := List.mem_map.1 hl
   exact (hf i (List.mem_range.1 hi)).1
  ·rw [List.map_map] at k5
   unfold u16s
   rw [List.map_map];exact k5
end
end Go.Proofs.Ytkhiagdmbajimaa
