import Derived.Test.YteibheeleeengaaMAS
import Derived.Test.YteibheeleeengaaMAK
import Derived.Test.YteibheeleeengaaMAR
import Derived.Laws.IdiomArrays
import Derived.Test.YteibheeleeengaaRows
import Derived.WalkKit
import Derived.ProofKit
import Derived.OpenShut
import Derived.Carry
namespace Go.AbsE
open Go Go.RowKit
section
variable {P : Program}
theorem VRs.kinds {K : Type} {va : K → AVal} {vv : K → Value} (hvr : ∀ e x, VR e (va x) (vv x)) {e : Env} : ∀ l : List K, VRs e (l.map fun x => va x) (l.map fun x => vv x) := by
 intro l
 induction l with
 | nil => exact .nil
 | cons a l ih => exact .cons (hvr _ _) ih
theorem rowsG_eq {K : Type} {vv : K → Value} {C : List Value} {off sz : Nat} : ∀ (len : Nat) (f : Nat → List K), (∀ i, i < len → (f i).length = sz ∧ ∀ k n, (f i)[k]? = some n → C[off + i * sz + k]? = some (vv n)) →
  (C.drop off).take (len * sz) = (((List.range len).map f).flatten).map fun x => vv x := by
 intro len
 induction len with
 | zero => intro f _; simp
 | succ len ih =>
  intro f hf
  have h1 := ih f fun i hi => hf i (by omega)
  obtain ⟨l1, l2⟩ := hf len (by omega)
  rw [Nat.add_mul, Nat.one_mul, List.take_add, h1, List.range_succ, List.map_append, List.flatten_append, List.map_append]
  congr 1
  simp only [List.map_cons, List.map_nil, List.flatten_cons, List.flatten_nil, List.append_nil]
  rw [List.drop_drop]
  refine List.ext_getElem? fun k => ?_
  rw [List.getElem?_take, List.getElem?_drop, List.getElem?_map]
  by_cases hk : k < sz
  ·rw [if_pos hk]
   obtain ⟨n, hn⟩ : ∃ n, (f len)[k]? = some n := ⟨(f len)[k]'(by omega), by simp⟩
   rw [hn]
   exact l2 k n hn
  ·rw [if_neg hk]
   have : (f len)[k]? = none := by simp; omega
   rw [this]
   rfl
theorem HR.openRowsG {K : Type} (va : K → AVal) (vv : K → Value) (hvr : ∀ e x, VR e (va x) (vv x)) {e : Env} {h : AH} {W : World} (r : HR P (Base.all W) e h W) {a : Addr} {len cap sz : Nat} {C : Array Value} {el : TypeId} {fr : Nat × Nat} (hB : W.heap[a.block]? = some (.cells C el fr)) (hspot : a.spot = none) (f : Nat → List K)
  (hf : ∀ i, i < len → (f i).length = sz ∧ ∀ k n, (f i)[k]? = some n → W.cell? (a.add (i * sz + k)) = some (vv n)) :
  ∃ e' h' s, Env.le e e' ∧ HR P (Base.all W) e' h' W ∧ Ext h h' ∧ VR e' s (.slice (some a) len cap) ∧ SliceOf h' sz s (((List.range len).map f).map fun l => l.map fun x => va x) ∧ sameA s s = true := by
 obtain ⟨B, off, spot⟩ := a
 dsimp only at hB hspot
 subst hspot
 have hcell : ∀ i, i < len → (f i).length = sz ∧ ∀ k n, (f i)[k]? = some n → C.toList[off + i * sz + k]? = some (vv n) := fun i hi => by
  obtain ⟨h1, h2⟩ := hf i hi
  refine ⟨h1, fun k n hn => ?_⟩
  have := h2 k n hn
  have e1 := addr_add B off (i * sz + k)
  rw [e1] at this
  unfold World.cell? at this
  rw [hB] at this
  simp only [Option.isSome_none, Bool.false_eq_true, if_false] at this
  rw [Array.getElem?_toList, Nat.add_assoc]
  exact this
 have hrows := rowsG_eq len f hcell
 let R := (List.range len).map f
 have hRl : ∀ l, l ∈ R → l.length = sz := fun l hl => by
  obtain ⟨i, hi, rfl⟩ := List.mem_map.1 hl
  exact (hf i (List.mem_range.1 hi)).1
 have hRlen : R.length = len := by simp [R]
 have hlen : (C.toList.drop off).take (len * sz) = (R.flatten).map fun x => vv x := hrows
 have hfl : R.flatten.length = len * sz := by
  have : ∀ {L : List (List K)}, (∀ l, l ∈ L → l.length = sz) → L.flatten.length = L.length * sz := by
   intro L
   induction L with
   | nil => intro _; simp
   | cons a L ih => intro h; simp only [List.flatten_cons, List.length_append, h a (by simp), ih fun l q => h l (by simp [q]), List.length_cons, Nat.add_mul]; omega
  rw [this hRl, hRlen]
 by_cases h0 : len * sz = 0
 ·-- nothing of it is read
  obtain ⟨e', h', k1, k2, k3, k4, k5⟩ := r.openWin (B := B) (lo := 0) (PRE := []) (CS := []) (junk := C.toList) (el := el) (fr := fr) (cs := []) (by simpa using hB) rfl (fun _ => .nil)
  refine ⟨e', h', .slice h.next off len cap, k1, k2, k3, .slice k4, .mk rfl rfl k5.1 (by simp) (fun l hl => ?_) ?_, by simp [sameA]⟩
  ·obtain ⟨x, hx, rfl⟩ := List.mem_map.1 hl
   rw [List.length_map]
   exact hRl x hx
  ·have hnil : R.flatten = [] := List.eq_nil_of_length_eq_zero (by omega)
   unfold loadCells
   rw [k5.2]
   have e1 : ((R.map fun l => l.map fun x => va x).length * sz) = 0 := by rw [List.length_map, hRlen]; exact h0
   have e2 : (R.map fun l => l.map fun x => va x).flatten = [] := by rw [← List.map_flatten, hnil]; rfl
   show cond (Nat.ble 0 off) (slice? [] (off - 0) ((R.map fun l => l.map fun x => va x).length * sz)) none = some _
   rw [e1, e2, show Nat.ble 0 off = true from Nat.ble_eq_true_of_le (Nat.zero_le _)]
   simp [slice?]
 ·have hle : off + len * sz ≤ C.toList.length := by
   have : ((C.toList.drop off).take (len * sz)).length = len * sz := by rw [hlen, List.length_map, hfl]
   rw [List.length_take, List.length_drop] at this
   omega
  have hC : C = (C.toList.take off ++ ((R.flatten.map fun x => vv x) ++ C.toList.drop (off + len * sz))).toArray := by
   rw [← hlen]
   have : C.toList.take off ++ ((C.toList.drop off).take (len * sz) ++ C.toList.drop (off + len * sz)) = C.toList := by
    rw [← List.drop_drop, List.take_append_drop, List.take_append_drop]
   rw [this]
  obtain ⟨e', h', k1, k2, k3, k4, k5⟩ := r.openWin (B := B) (lo := off) (PRE := C.toList.take off) (CS := R.flatten.map fun x => vv x) (junk := C.toList.drop (off + len * sz)) (el := el) (fr := fr) (cs := R.flatten.map fun x => va x) (by rw [← hC]; exact hB) (by rw [List.length_take]; omega) (fun _ => VRs.kinds hvr _)
  refine ⟨e', h', .slice h.next off len cap, k1, k2, k3, .slice k4, .mk rfl rfl k5.1 (by simp) (fun l hl => ?_) ?_, by simp [sameA]⟩
  ·obtain ⟨x, hx, rfl⟩ := List.mem_map.1 hl
   rw [List.length_map]
   exact hRl x hx
  ·unfold loadCells
   rw [k5.2]
   have e1 : ((R.map fun l => l.map fun x => va x).length * sz) = len * sz := by rw [List.length_map, hRlen]
   have e2 : (R.map fun l => l.map fun x => va x).flatten = R.flatten.map fun x => va x := by rw [← List.map_flatten]
   show cond (Nat.ble off off) (slice? (R.flatten.map fun x => va x) (off - off) ((R.map fun l => l.map fun x => va x).length * sz)) none = some _
   rw [e1, e2, show Nat.ble off off = true from Nat.ble_eq_true_of_le (Nat.le_refl _), Nat.sub_self]
   exact slice_all (by rw [List.length_map, hfl])
end
end Go.AbsE

namespace Go.AbsE
open Go Go.RowKit
section
variable {P : Program}
theorem HR.openRowsC {K : Type} (va : K → AVal) (vv : K → Value) (hvr : ∀ e x, VR e (va x) (vv x)) {e : Env} {h : AH} {W : World} (r : HR P (Base.all W) e h W) {a : Addr} {len cap sz : Nat} {C : Array Value} {el : TypeId} {fr : Nat × Nat} (hB : W.heap[a.block]? = some (.cells C el fr)) (hspot : a.spot = none) (f : Nat → List K)
  (hf : ∀ i, i < len → (f i).length = sz ∧ ∀ k n, (f i)[k]? = some n → W.cell? (a.add (i * sz + k)) = some (vv n)) :
  ∃ e' h' s, Env.le e e' ∧ HR P (Base.all W) e' h' W ∧ Ext h h' ∧ VR e' s (.slice (some a) len cap) ∧ SliceOf h' sz s (((List.range len).map f).map fun l => l.map fun x => va x) ∧ sameA s s = true ∧ ∃ b o, s = .slice b o len cap := by
 obtain ⟨B, off, spot⟩ := a
 dsimp only at hB hspot
 subst hspot
 have hcell : ∀ i, i < len → (f i).length = sz ∧ ∀ k n, (f i)[k]? = some n → C.toList[off + i * sz + k]? = some (vv n) := fun i hi => by
  obtain ⟨h1, h2⟩ := hf i hi
  refine ⟨h1, fun k n hn => ?_⟩
  have := h2 k n hn
  have e1 := addr_add B off (i * sz + k)
  rw [e1] at this
  unfold World.cell? at this
  rw [hB] at this
  simp only [Option.isSome_none, Bool.false_eq_true, if_false] at this
  rw [Array.getElem?_toList, Nat.add_assoc]
  exact this
 have hrows := rowsG_eq len f hcell
 let R := (List.range len).map f
 have hRl : ∀ l, l ∈ R → l.length = sz := fun l hl => by
  obtain ⟨i, hi, rfl⟩ := List.mem_map.1 hl
  exact (hf i (List.mem_range.1 hi)).1
 have hRlen : R.length = len := by simp [R]
 have hlen : (C.toList.drop off).take (len * sz) = (R.flatten).map fun x => vv x := hrows
 have hfl : R.flatten.length = len * sz := by
  have : ∀ {L : List (List K)}, (∀ l, l ∈ L → l.length = sz) → L.flatten.length = L.length * sz := by
   intro L
   induction L with
   | nil => intro _; simp
   | cons a L ih => intro h; simp only [List.flatten_cons, List.length_append, h a (by simp), ih fun l q => h l (by simp [q]), List.length_cons, Nat.add_mul]; omega
  rw [this hRl, hRlen]
 by_cases h0 : len * sz = 0
 ·-- nothing of it is read
  obtain ⟨e', h', k1, k2, k3, k4, k5⟩ := r.openWin (B := B) (lo := 0) (PRE := []) (CS := []) (junk := C.toList) (el := el) (fr := fr) (cs := []) (by simpa using hB) rfl (fun _ => .nil)
  refine ⟨e', h', .slice h.next off len cap, k1, k2, k3, .slice k4, .mk rfl rfl k5.1 (by simp) (fun l hl => ?_) ?_, by simp [sameA], _, _, rfl⟩
  ·obtain ⟨x, hx, rfl⟩ := List.mem_map.1 hl
   rw [List.length_map]
   exact hRl x hx
  ·have hnil : R.flatten = [] := List.eq_nil_of_length_eq_zero (by omega)
   unfold loadCells
   rw [k5.2]
   have e1 : ((R.map fun l => l.map fun x => va x).length * sz) = 0 := by rw [List.length_map, hRlen]; exact h0
   have e2 : (R.map fun l => l.map fun x => va x).flatten = [] := by rw [← List.map_flatten, hnil]; rfl
   show cond (Nat.ble 0 off) (slice? [] (off - 0) ((R.map fun l => l.map fun x => va x).length * sz)) none = some _
   rw [e1, e2, show Nat.ble 0 off = true from Nat.ble_eq_true_of_le (Nat.zero_le _)]
   simp [slice?]
 ·have hle : off + len * sz ≤ C.toList.length := by
   have : ((C.toList.drop off).take (len * sz)).length = len * sz := by rw [hlen, List.length_map, hfl]
   rw [List.length_take, List.length_drop] at this
   omega
  have hC : C = (C.toList.take off ++ ((R.flatten.map fun x => vv x) ++ C.toList.drop (off + len * sz))).toArray := by
   rw [← hlen]
   have : C.toList.take off ++ ((C.toList.drop off).take (len * sz) ++ C.toList.drop (off + len * sz)) = C.toList := by
    rw [← List.drop_drop, List.take_append_drop, List.take_append_drop]
   rw [this]
  obtain ⟨e', h', k1, k2, k3, k4, k5⟩ := r.openWin (B := B) (lo := off) (PRE := C.toList.take off) (CS := R.flatten.map fun x => vv x) (junk := C.toList.drop (off + len * sz)) (el := el) (fr := fr) (cs := R.flatten.map fun x => va x) (by rw [← hC]; exact hB) (by rw [List.length_take]; omega) (fun _ => VRs.kinds hvr _)
  refine ⟨e', h', .slice h.next off len cap, k1, k2, k3, .slice k4, .mk rfl rfl k5.1 (by simp) (fun l hl => ?_) ?_, by simp [sameA], _, _, rfl⟩
  ·obtain ⟨x, hx, rfl⟩ := List.mem_map.1 hl
   rw [List.length_map]
   exact hRl x hx
  ·unfold loadCells
   rw [k5.2]
   have e1 : ((R.map fun l => l.map fun x => va x).length * sz) = len * sz := by rw [List.length_map, hRlen]
   have e2 : (R.map fun l => l.map fun x => va x).flatten = R.flatten.map fun x => va x := by rw [← List.map_flatten]
   show cond (Nat.ble off off) (slice? (R.flatten.map fun x => va x) (off - off) ((R.map fun l => l.map fun x => va x).length * sz)) none = some _
   rw [e1, e2, show Nat.ble off off = true from Nat.ble_eq_true_of_le (Nat.le_refl _), Nat.sub_self]
   exact slice_all (by rw [List.length_map, hfl])
end
end Go.AbsE

namespace Go.AbsE
open Go
set_option linter.unusedSimpArgs false
set_option linter.unusedVariables false
section
variable {P : Program} {h : AH} {dst : Option Tmp} {ty tt el : TypeId} {pos : String} {after : Array Edge} {guard : Option (Nat × Bool)} {x y : Operand}
def CutS (s : AVal) (n : Nat) : Prop := n ≠ 0 → ∃ b off cap, s = .slice b off n cap ∧ n ≤ cap
theorem SliceOf.take {sz b off n cap cap' i : Nat} {L : List (List AVal)} (k : SliceOf h sz (.slice b off n cap) L) (hL : L.length = n) (hi : i ≤ n) : SliceOf h sz (.slice b off i cap') (L.take i) := by
 cases k with
 | mk hs hn hb hl hz hc =>
  rw [show aSlElems (.slice b off n cap) = some (b, off, n) from rfl] at hs
  cases hs
  have hlen : (L.take i).length = i := by rw [List.length_take]; omega
  refine .mk (b := b) (off := off) (len := i) rfl rfl hb hlen (fun l hl => hz l (List.mem_of_mem_take hl)) ?_
  have hp := loadCells_part (k := 0) (m := i * sz) hc (by rw [Nat.zero_add]; exact Nat.mul_le_mul_right _ (by omega))
  rw [Nat.add_zero] at hp
  rw [hlen, hp]
  congr 1
  have e1 : (L.take i).flatten.length = i * sz := by
   rw [flatten_len (sz := sz) (fun l hl => hz l (List.mem_of_mem_take hl)), hlen]
  have e3 : L.flatten = (L.take i).flatten ++ (L.drop i).flatten := by rw [← List.flatten_append, List.take_append_drop]
  rw [List.drop_zero, e3, ← e1, List.take_left]
end
end Go.AbsE

namespace Go.Proofs.Yteibheeleeengaa
open Go Go.AbsE Go.ChangeShapes Go.WideShapes Go.ChangeAt Go.RowKit
set_option linter.unusedSimpArgs false
set_option maxRecDepth 100000
set_option linter.unusedVariables false
theorem cells28 : Try.prog.cellsOf 28 = 8 := by kernel_rfl
theorem cells3 : Try.prog.cellsOf 3 = 1 := by kernel_rfl
theorem cells23 : Try.prog.cellsOf 23 = 2 := by kernel_rfl
theorem cells45 : Try.prog.cellsOf 45 = 4 := by kernel_rfl
theorem cells53 : Try.prog.cellsOf 53 = 3 := by kernel_rfl
theorem cells24 : Try.prog.cellsOf 24 = 1 := by kernel_rfl
theorem cells25 : Try.prog.cellsOf 25 = 1 := by kernel_rfl
theorem cells26 : Try.prog.cellsOf 26 = 1 := by kernel_rfl
theorem ctypes28 : Try.prog.cellTypes Try.prog.depth 28 = some [3, 3, 3, 3, 24, 3, 25, 26] := by kernel_rfl
theorem laidOut : laidOutB Try.prog = true := by kernel_rfl
def inI64 (n : Int) : Prop := -9223372036854775808 ≤ n ∧ n ≤ 9223372036854775807
theorem wf_in {n : Int} (h : (Lit.int .i64 n).wf = true) : inI64 n := by
 simp only [Lit.wf, Bool.and_eq_true, decide_eq_true_eq] at h
 have h1 : IntKind.i64.min = -9223372036854775808 := by decide
 have h2 : IntKind.i64.max = 9223372036854775807 := by decide
 rw [h1, h2] at h
 constructor <;> omega
variable {H : Type} {enc : TypeId × Value → H} {W : World} {base : Nat} {spare : Nat → Bool} {held : Bool}
theorem int_row {n : Nat} {cs : List Value} {x : DataW H × List MemPlace} (h : DataW.trod enc Try.prog W base spare held n 3 cs = some x) : ∃ a : Int, cs = [.int .i64 a] ∧ inI64 a := by
 obtain ⟨a, h1, _, h3⟩ := DataW.trod_int Try.underlying3 h
 exact ⟨a, h1, wf_in h3⟩
theorem span_row {n : Nat} {cs : List Value} {x : DataW H × List MemPlace} (h : DataW.trod enc Try.prog W base spare held n 23 cs = some x) : ∃ a b : Int, cs = [.int .i64 a, .int .i64 b] := by
 obtain ⟨y0, y1, k, _, hl, h0, h1⟩ := ChangeShapes.trod_struct2 Try.underlying23 h
 rw [cells23] at hl
 dsimp only at h0 h1
 rw [cells3] at h0 h1
 obtain ⟨a, ha, _⟩ := int_row h0
 obtain ⟨b, hb, _⟩ := int_row h1
 match cs, hl with
 | [c0, c1], _ =>
  simp at ha hb
  exact ⟨a, b, by rw [ha, hb]⟩
theorem list2 {α : Type} {l : List α} (h : l.length = 2) : ∃ c0 c1, l = [c0, c1] := by
 match l, h with
 | [c0, c1], _ => exact ⟨c0, c1, rfl⟩
theorem list3 {α : Type} {l : List α} (h : l.length = 3) : ∃ c0 c1 c2, l = [c0, c1, c2] := by
 match l, h with
 | [c0, c1, c2], _ => exact ⟨c0, c1, c2, rfl⟩
theorem list4 {α : Type} {l : List α} (h : l.length = 4) : ∃ c0 c1 c2 c3, l = [c0, c1, c2, c3] := by
 match l, h with
 | [c0, c1, c2, c3], _ => exact ⟨c0, c1, c2, c3, rfl⟩
theorem list6 {α : Type} {l : List α} (h : l.length = 6) : ∃ c0 c1 c2 c3 c4 c5, l = [c0, c1, c2, c3, c4, c5] := by
 match l, h with
 | [c0, c1, c2, c3, c4, c5], _ => exact ⟨c0, c1, c2, c3, c4, c5, rfl⟩
theorem sp_row {n : Nat} {cs : List Value} {x : DataW H × List MemPlace} (h : DataW.trod enc Try.prog W base spare held n 23 cs = some x) : ∃ r : List Int, r.length = 2 ∧ cs = r.map fun x => Value.int .i64 x := by
 obtain ⟨a, b, rfl⟩ := span_row h
 exact ⟨[a, b], rfl, rfl⟩
theorem boat_row {n : Nat} {cs : List Value} {x : DataW H × List MemPlace} (h : DataW.trod enc Try.prog W base spare held n 45 cs = some x) : ∃ r : List Int, r.length = 4 ∧ cs = r.map fun x => Value.int .i64 x := by
 obtain ⟨xs, m, _, _, hl, hlen, hfl⟩ := DataW.trod_struct Try.underlying45 h
 rw [cells45] at hl
 obtain ⟨c0, c1, c2, c3, rfl⟩ := list4 hl
 obtain ⟨y0, y1, y2, rfl⟩ := list3 hlen
 have t0 : DataW.trod enc Try.prog W base spare held m 23 [c0, c1] = some y0 := by
  have this : DataW.trod enc Try.prog W base spare held m 23 (([c0, c1, c2, c3].drop 0).take (Try.prog.cellsOf 23)) = [y0, y1, y2][0]? := hfl 0 _ rfl
  rw [cells23] at this;exact this
 have t1 : DataW.trod enc Try.prog W base spare held m 3 [c2] = some y1 := by
  have this : DataW.trod enc Try.prog W base spare held m 3 (([c0, c1, c2, c3].drop 2).take (Try.prog.cellsOf 3)) = [y0, y1, y2][1]? := hfl 1 _ rfl
  rw [cells3] at this;exact this
 have t2 : DataW.trod enc Try.prog W base spare held m 3 [c3] = some y2 := by
  have this : DataW.trod enc Try.prog W base spare held m 3 (([c0, c1, c2, c3].drop 3).take (Try.prog.cellsOf 3)) = [y0, y1, y2][2]? := hfl 2 _ rfl
  rw [cells3] at this;exact this
 obtain ⟨a0, a1, e0⟩ := span_row t0
 obtain ⟨a2, e1, _⟩ := int_row t1
 obtain ⟨a3, e2, _⟩ := int_row t2
 simp at e0 e1 e2
 exact ⟨[a0, a1, a2, a3], rfl, by rw [e0.1, e0.2, e1, e2]; rfl⟩
theorem look_row {n : Nat} {cs : List Value} {x : DataW H × List MemPlace} (h : DataW.trod enc Try.prog W base spare held n 53 cs = some x) : ∃ r : List Int, r.length = 3 ∧ cs = r.map fun x => Value.int .i64 x := by
 obtain ⟨xs, m, _, _, hl, hlen, hfl⟩ := DataW.trod_struct Try.underlying53 h
 rw [cells53] at hl
 obtain ⟨c0, c1, c2, rfl⟩ := list3 hl
 obtain ⟨y0, y1, rfl⟩ := list2 hlen
 have t0 : DataW.trod enc Try.prog W base spare held m 3 [c0] = some y0 := by
  have this : DataW.trod enc Try.prog W base spare held m 3 (([c0, c1, c2].drop 0).take (Try.prog.cellsOf 3)) = [y0, y1][0]? := hfl 0 _ rfl
  rw [cells3] at this;exact this
 have t1 : DataW.trod enc Try.prog W base spare held m 23 [c1, c2] = some y1 := by
  have this : DataW.trod enc Try.prog W base spare held m 23 (([c0, c1, c2].drop 1).take (Try.prog.cellsOf 23)) = [y0, y1][1]? := hfl 1 _ rfl
  rw [cells23] at this;exact this
 obtain ⟨a0, e0, _⟩ := int_row t0
 obtain ⟨a1, a2, e1⟩ := span_row t1
 simp at e0 e1
 exact ⟨[a0, a1, a2], rfl, by rw [e0, e1.1, e1.2]; rfl⟩
theorem slice_okw {t el : TypeId} {a : Addr} {len cap : Nat} {bs : Nat} (ht : Try.prog.underlying t = some (.slice el)) (h : Cell.okWide Try.prog W .any bs t (.slice (some a) len cap)) : a.spot = none ∧ ∃ C e fr, W.heap[a.block]? = some (.cells C e fr) := by
 unfold Cell.okWide at h
 rw [ht] at h
 dsimp only at h
 unfold Cell.ok at h
 rw [ht] at h
 dsimp only at h
 obtain ⟨_, _, _, h2, row, n, h3, _⟩ := h
 refine ⟨h2, ?_⟩
 unfold World.shape? at h3
 split at h3
 ·rename_i c e fr hq
  exact ⟨c, e, fr, hq⟩
 ·cases h3
theorem slice_cap {t el : TypeId} {a : Addr} {len cap : Nat} {bs : Nat} (ht : Try.prog.underlying t = some (.slice el)) (h : Cell.okWide Try.prog W .any bs t (.slice (some a) len cap)) : len < 9223372036854775808 := by
 unfold Cell.okWide at h
 rw [ht] at h
 dsimp only at h
 unfold Cell.ok at h
 rw [ht] at h
 dsimp only at h
 obtain ⟨h1, h2, _⟩ := h
 have : IntKind.i64.max = 9223372036854775807 := by decide
 rw [this] at h2
 omega
theorem slice_le {t el : TypeId} {a : Addr} {len cap : Nat} {bs : Nat} (ht : Try.prog.underlying t = some (.slice el)) (h : Cell.okWide Try.prog W .any bs t (.slice (some a) len cap)) : len ≤ cap := by
 unfold Cell.okWide at h
 rw [ht] at h
 dsimp only at h
 unfold Cell.ok at h
 rw [ht] at h
 dsimp only at h
 exact h.1
theorem rows_of {t el : TypeId} {sz fuel : Nat} {c : Value} {y : DataW H × List MemPlace} {bs : Nat} (ht : Try.prog.underlying t = some (.slice el)) (hsz : Try.prog.cellsOf el = sz)
  (hrow : ∀ {n : Nat} {cs : List Value} {x : DataW H × List MemPlace}, DataW.trod enc Try.prog W 0 (fun _ => true) true n el cs = some x → ∃ r : List Int, r.length = sz ∧ cs = r.map fun x => Value.int .i64 x)
  (h : DataW.trod enc Try.prog W 0 (fun _ => true) true fuel t [c] = some y) (hok : Cell.okWide Try.prog W .any bs t c) {e : Env} {hh : AH} (r : HR Try.prog (Base.all W) e hh W) :
  ∃ e' h' s, ∃ R : List (List Int), Env.le e e' ∧ HR Try.prog (Base.all W) e' h' W ∧ Ext hh h' ∧ VR e' s c ∧ (∀ l, l ∈ R → l.length = sz) ∧ SliceOf h' sz s (R.map fun l => l.map fun x => AVal.int .i64 x) ∧ R.length < 9223372036854775808 ∧ CutS s R.length := by
 rcases Deep.open_slice ht h with ⟨hcs, _⟩ | ⟨a, len, cap, m, n, D, Pl, hcs, _, hl, _, hmm, _, hx⟩
 ·simp at hcs
  subst hcs;exact ⟨e, hh, .nilslice, [], Env.le_refl e, r, Ext.refl _, .nilslice, (fun _ q => by cases q), .nil, by decide, fun q => absurd rfl q⟩
 ·simp at hcs
  subst hcs
  obtain ⟨hs, C, el', fr, hB⟩ := slice_okw ht hok
  have hcap := slice_cap ht hok
  have hle := slice_le ht hok
  have hm : m = cap := by simpa using hmm
  have each : ∀ i, ∃ rr : List Int, i < len → rr.length = sz ∧ ∀ k n, rr[k]? = some n → W.cell? (a.add (i * sz + k)) = some (.int .i64 n) := by
   intro i
   by_cases hi : i < len
   ·obtain ⟨cs', h1, h2⟩ := hx i (by omega)
    obtain ⟨rr, hr1, hr2⟩ := hrow h2
    rw [hsz] at h1
    obtain ⟨_, hlen, hc⟩ := World.cells?_some h1
    refine ⟨rr, fun _ => ⟨hr1, fun k n hk => ?_⟩⟩
    have hkl := (List.getElem?_eq_some_iff.1 hk).1
    have := hc k (by omega)
    obtain ⟨B, off, spot⟩ := a
    dsimp only at hs
    subst hs;rw [addr_add, addr_add] at this;rw [addr_add, ← Nat.add_assoc, this, hr2, List.getElem?_map, hk]
    rfl
   ·exact ⟨[], fun q => absurd q hi⟩
  obtain ⟨f, hf⟩ := Classical.axiomOfChoice each
  obtain ⟨e', h', s, k1, k2, k3, k4, k5, _, b, o, rfl⟩ := r.openRowsC (fun x => AVal.int .i64 x) (fun x => Value.int .i64 x) (fun _ _ => .int _ _) (cap := cap) (len := len) (sz := sz) hB hs f hf
  exact ⟨e', h', _, (List.range len).map f, k1, k2, k3, k4, fun l hl => by
   obtain ⟨i, hi, rfl⟩ := List.mem_map.1 hl
   exact (hf i (List.mem_range.1 hi)).1, k5, by rw [List.length_map, List.length_range]; exact hcap, fun _ => ⟨b, o, cap, by rw [List.length_map, List.length_range], by rw [List.length_map, List.length_range]; exact hle⟩⟩
def toS : List Int → Int × Int
 | [a, b] => (a, b)
 | _ => (0, 0)
def toB : List Int → BV
 | [a, b, c, d] => ⟨a, b, c, d⟩
 | _ => ⟨0, 0, 0, 0⟩
def toL : List Int → LV
 | [a, b, c] => ⟨a, b, c⟩
 | _ => ⟨0, 0, 0⟩
theorem ss_eq {R : List (List Int)} (h : ∀ l, l ∈ R → l.length = 2) : (R.map fun l => l.map fun x => AVal.int .i64 x) = (R.map toS).map spC := by
 rw [List.map_map];refine List.map_congr_left fun l hl => ?_
 match l, h l hl with
 | [a, b], _ => rfl
theorem bs_eq {R : List (List Int)} (h : ∀ l, l ∈ R → l.length = 4) : (R.map fun l => l.map fun x => AVal.int .i64 x) = (R.map toB).map BV.cells := by
 rw [List.map_map];refine List.map_congr_left fun l hl => ?_
 match l, h l hl with
 | [a, b, c, d], _ => rfl
theorem ls_eq {R : List (List Int)} (h : ∀ l, l ∈ R → l.length = 3) : (R.map fun l => l.map fun x => AVal.int .i64 x) = (R.map toL).map LV.cells := by
 rw [List.map_map];refine List.map_congr_left fun l hl => ?_
 match l, h l hl with
 | [a, b, c], _ => rfl
theorem array8 {α : Type} {cs : Array α} (h : cs.size = 8) : ∃ c0 c1 c2 c3 c4 c5 c6 c7, cs = #[c0, c1, c2, c3, c4, c5, c6, c7] := by
 obtain ⟨l⟩ := cs
 match l, h with
 | [c0, c1, c2, c3, c4, c5, c6, c7], _ => exact ⟨c0, c1, c2, c3, c4, c5, c6, c7, rfl⟩
theorem cut_of {bs : Nat} {v : Value} {d : DataW H} {p : List MemPlace} (hv : Value.okWide Try.prog W .any bs 28 v) (h : DataW.Trod enc Try.prog W 0 (fun _ => true) true 28 v d p) {e : Env} {hh : AH} (r : HR Try.prog (Base.all W) e hh W) :
  ∃ e' h' C sr sb sl, Env.le e e' ∧ HR Try.prog (Base.all W) e' h' W ∧ Ext hh h' ∧ VR e' (.agg (C.cells sr sb sl)) v ∧ CutAt h' C sr sb sl ∧ C.rs.length < 9223372036854775808 ∧ C.bs.length < 9223372036854775808 ∧ C.ls.length < 9223372036854775808 ∧ CutS sl C.ls.length := by
 have hv2 := hv
 obtain ⟨cs, rfl, hsz⟩ := okWide_struct Try.underlying28 hv
 obtain ⟨c0, c1, c2, c3, c4, c5, c6, c7, rfl⟩ := array8 (hsz.trans cells28)
 obtain ⟨fuel, hf⟩ := h
 obtain ⟨xs, n, _, _, hl, hlen, hfl⟩ := DataW.trod_struct Try.underlying28 hf
 obtain ⟨y0, y1, y2, y3, y4, y5, rfl⟩ := list6 hlen
 have t0 : DataW.trod enc Try.prog W 0 (fun _ => true) true n 23 [c0, c1] = some y0 := by
  have this : DataW.trod enc Try.prog W 0 (fun _ => true) true n 23 (([c0, c1, c2, c3, c4, c5, c6, c7].drop 0).take (Try.prog.cellsOf 23)) = [y0, y1, y2, y3, y4, y5][0]? := hfl 0 _ rfl
  rw [cells23] at this;exact this
 have t1 : DataW.trod enc Try.prog W 0 (fun _ => true) true n 23 [c2, c3] = some y1 := by
  have this : DataW.trod enc Try.prog W 0 (fun _ => true) true n 23 (([c0, c1, c2, c3, c4, c5, c6, c7].drop 2).take (Try.prog.cellsOf 23)) = [y0, y1, y2, y3, y4, y5][1]? := hfl 1 _ rfl
  rw [cells23] at this;exact this
 have t2 : DataW.trod enc Try.prog W 0 (fun _ => true) true n 24 [c4] = some y2 := by
  have this : DataW.trod enc Try.prog W 0 (fun _ => true) true n 24 (([c0, c1, c2, c3, c4, c5, c6, c7].drop 4).take (Try.prog.cellsOf 24)) = [y0, y1, y2, y3, y4, y5][2]? := hfl 2 _ rfl
  rw [cells24] at this;exact this
 have t3 : DataW.trod enc Try.prog W 0 (fun _ => true) true n 3 [c5] = some y3 := by
  have this : DataW.trod enc Try.prog W 0 (fun _ => true) true n 3 (([c0, c1, c2, c3, c4, c5, c6, c7].drop 5).take (Try.prog.cellsOf 3)) = [y0, y1, y2, y3, y4, y5][3]? := hfl 3 _ rfl
  rw [cells3] at this;exact this
 have t4 : DataW.trod enc Try.prog W 0 (fun _ => true) true n 25 [c6] = some y4 := by
  have this : DataW.trod enc Try.prog W 0 (fun _ => true) true n 25 (([c0, c1, c2, c3, c4, c5, c6, c7].drop 6).take (Try.prog.cellsOf 25)) = [y0, y1, y2, y3, y4, y5][4]? := hfl 4 _ rfl
  rw [cells25] at this;exact this
 have t5 : DataW.trod enc Try.prog W 0 (fun _ => true) true n 26 [c7] = some y5 := by
  have this : DataW.trod enc Try.prog W 0 (fun _ => true) true n 26 (([c0, c1, c2, c3, c4, c5, c6, c7].drop 7).take (Try.prog.cellsOf 26)) = [y0, y1, y2, y3, y4, y5][5]? := hfl 5 _ rfl
  rw [cells26] at this;exact this
 unfold Value.okWide at hv2
 rw [Try.underlying28] at hv2
 obtain ⟨cs, hcs, _, ts, hts, _, hrow⟩ := hv2
 injection hcs with hcs
 subst hcs;rw [ctypes28] at hts;cases hts
 obtain ⟨u4, hu4, ok4⟩ := hrow 4 c4 rfl
 obtain ⟨u6, hu6, ok6⟩ := hrow 6 c6 rfl
 obtain ⟨u7, hu7, ok7⟩ := hrow 7 c7 rfl
 cases hu4;cases hu6;cases hu7
 obtain ⟨n0, n1, e0⟩ := span_row t0
 obtain ⟨n2, n3, e1⟩ := span_row t1
 obtain ⟨n5, e3, _⟩ := int_row t3
 simp at e0 e1 e3
 obtain ⟨rfl, rfl⟩ := e0
 obtain ⟨rfl, rfl⟩ := e1
 subst e3
 obtain ⟨ea, ha, s0, R0, a1, a2, a3, a4, a5, a6, a7, a8⟩ := rows_of Try.underlying24 cells23 sp_row t2 ok4 r
 obtain ⟨eb, hb, s1, R1, b1, b2, b3, b4, b5, b6, b7, b8⟩ := rows_of Try.underlying25 cells45 boat_row t4 ok6 a2
 obtain ⟨ec, hc, s2, R2, g1, g2, g3, g4, g5, g6, g7, g8⟩ := rows_of Try.underlying26 cells53 look_row t5 ok7 b2
 rw [ss_eq a5] at a6;rw [bs_eq b5] at b6;rw [ls_eq g5] at g6;refine ⟨ec, hc, ⟨n0, n1, n2, n3, R0.map toS, n5, R1.map toB, R2.map toL⟩, s0, s1, s2, Env.le_trans a1 (Env.le_trans b1 g1), g2, a3.trans (b3.trans g3), ?_, ⟨(a6.ext b3).ext g3, b6.ext g3, g6⟩, by simpa using a7, by simpa using b7, by simpa using g7, by show CutS s2 (R2.map toL).length; rw [List.length_map]; exact g8⟩;exact .agg (CS := [_, _, _, _, _, _, _, _]) (.cons (.int _ _) (.cons (.int _ _) (.cons (.int _ _) (.cons (.int _ _) (.cons ((a4.mono b1).mono g1) (.cons (.int _ _) (.cons (b4.mono g1) (.cons g4 .nil))))))))
end Go.Proofs.Yteibheeleeengaa

namespace Go.Proofs.Yteibheeleeengaa
open Go Go.AbsE Go.ChangeShapes Go.WideShapes Go.ChangeAt Go.RowKit
set_option linter.unusedSimpArgs false
set_option maxRecDepth 100000
set_option linter.unusedVariables false
section
variable {H : Type} {enc : TypeId × Value → H} {W : World} {base : Nat} {spare : Nat → Bool} {held : Bool}
theorem cells66 : Try.prog.cellsOf 66 = 1 := by kernel_rfl
theorem wf_u16 {n : Int} (h : (Lit.int .u16 n).wf = true) : 0 ≤ n ∧ n < 65536 := by
 simp only [Lit.wf, Bool.and_eq_true, decide_eq_true_eq] at h
 have h1 : IntKind.u16.min = 0 := by decide
 have h2 : IntKind.u16.max = 65535 := by decide
 omega
theorem u16s_of {c : Value} {fuel : Nat} {y : DataW H × List MemPlace} {bs : Nat} (h : DataW.trod enc Try.prog W 0 (fun _ => true) true fuel 29 [c] = some y) (hok : Cell.okWide Try.prog W .any bs 29 c) {e : Env} {hh : AH} (r : HR Try.prog (Base.all W) e hh W) :
  ∃ e' h' s, ∃ R : List Int, Env.le e e' ∧ HR Try.prog (Base.all W) e' h' W ∧ Ext hh h' ∧ VR e' s c ∧ (∀ x, x ∈ R → 0 ≤ x ∧ x < 65536) ∧ R.length < 9223372036854775808 ∧ SliceOf h' 1 s (u16s R) := by
 rcases Deep.open_slice Try.underlying29 h with ⟨hcs, _⟩ | ⟨a, len, cap, m, n, D, Pl, hcs, _, hl, _, hmm, _, hx⟩
 ·simp at hcs
  subst hcs;exact ⟨e, hh, .nilslice, [], Env.le_refl e, r, Ext.refl _, .nilslice, (fun _ q => by cases q), (by decide), .nil⟩
 ·simp at hcs
  subst hcs
  obtain ⟨hs, C, el', fr, hB⟩ := slice_okw Try.underlying29 hok
  have hcap := slice_cap Try.underlying29 hok
  have hm : m = cap := by simpa using hmm
  have each : ∀ i, ∃ rr : Int, i < len → (0 ≤ rr ∧ rr < 65536) ∧ W.cell? (a.add (i * 1)) = some (.int .u16 rr) := by
   intro i
   by_cases hi : i < len
   ·obtain ⟨cs', h1, h2⟩ := hx i (by omega)
    obtain ⟨v, hv, _, hwf⟩ := DataW.trod_int Try.underlying66 h2
    rw [cells66] at h1
    obtain ⟨_, hlen, hc⟩ := World.cells?_some h1
    refine ⟨v, fun _ => ⟨wf_u16 hwf, ?_⟩⟩
    have := hc 0 (by omega)
    obtain ⟨B, off, spot⟩ := a
    dsimp only at hs
    subst hs;rw [addr_add, addr_add] at this;rw [addr_add, ← Nat.add_zero (off + i * 1), this, hv]
    rfl
   ·exact ⟨0, fun q => absurd q hi⟩
  obtain ⟨f, hf⟩ := Classical.axiomOfChoice each
  obtain ⟨e', h', s, k1, k2, k3, k4, k5, k6⟩ := r.openRowsG (fun x => AVal.int .u16 x) (fun x => Value.int .u16 x) (fun _ _ => .int _ _) (cap := cap) (len := len) (sz := 1) hB hs (fun i => [f i]) (fun i hi => ⟨rfl, fun k n hk => by
   match k, hk with
   | 0, hk =>
    cases hk
    exact (hf i hi).2⟩)
  refine ⟨e', h', s, (List.range len).map f, k1, k2, k3, k4, fun l hl => ?_, by simpa using hcap, ?_⟩
  ·obtain ⟨i, hi, rfl⟩ := List.mem_map.1 hl
   exact (hf i (List.mem_range.1 hi)).1
  ·rw [List.map_map] at k5
   unfold u16s
   rw [List.map_map];exact k5
end
end Go.Proofs.Yteibheeleeengaa
