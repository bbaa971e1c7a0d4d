import Derived.Test.YtmdheijpnlonoaaMAH
import Derived.Deep.Slices
import Derived.Lib.SmallJoins
import Derived.Carry
import Derived.Test.YtmdheijpnlonoaaMAO
import Derived.Laws.IdiomArrays
import Derived.Test.YtmdheijpnlonoaaRows
import Derived.WalkKit
import Derived.ProofKit
import Derived.OpenShut
namespace Go.AbsE
open Go Go.RowKit
section
variable {P : Program}
theorem VRs.ints {e : Env} : ∀ l : List Int, VRs e (l.map fun x => AVal.int .i64 x) (l.map fun x => Value.int .i64 x) := by
  intro l
  induction l with
  | nil => exact .nil
  | cons a l ih => exact .cons (.int _ _) ih
theorem HR.openWin {e : Env} {h : AH} {W : World} (r : HR P (Base.all W) e h W) {B lo : Nat} {PRE CS junk : List Value} {el : TypeId} {fr : Nat × Nat} {cs : List AVal} (hB : W.heap[B]? = some (.cells (PRE ++ (CS ++ junk)).toArray el fr)) (hp : PRE.length = lo) (hv : ∀ e, VRs e cs CS) :
    ∃ e' h', Env.le e e' ∧ HR P (Base.all W) e' h' W ∧ Ext h h' ∧ e' h.next = some (B, 0) ∧ Has h' h.next (.win lo cs) := by
  obtain ⟨h', k⟩ := new_some h (.win lo cs)
  obtain ⟨_, x1, x2⟩ := new_ext k
  obtain ⟨n1, n2, n3⟩ := AH.get_new k
  have hle := Env.le_ext (x := (B, 0)) r.fresh
  have hlt := (Array.getElem?_eq_some_iff.1 hB).1
  refine ⟨e.ext h.next (B, 0), h', hle, ?_, x1, Env.ext_same _ _ _, x2⟩
  refine { dom := ?_, blk := ?_, inj := ?_, imm := ?_, os := r.os, tape := r.tape, output := r.output, size := r.size, old := r.old, young := r.young }
  · intro b' x kx
    rw [Env.ext_at] at kx
    by_cases hb' : b' = h.next
    · omega
    · rw [if_neg hb'] at kx; have := r.dom _ _ kx; omega
  · intro b' o' kx
    rw [n3] at kx
    by_cases hb' : b' = h.next
    · rw [if_pos hb'] at kx
      cases kx
      subst hb'
      exact ⟨B, 0, _, Env.ext_same _ _ _, (fun q => by cases q), hB, .win (hv _) hp⟩
    · rw [if_neg hb'] at kx
      obtain ⟨B', c', O', k1, k2, k3, k4⟩ := r.blk _ _ kx
      exact ⟨B', c', O', hle.1 _ _ k1, k2, k3, k4.mono hle⟩
  · intro b1 b2 B1 c1 c2 o1 o2 k1 k2 hro e1 e2
    rw [n3] at k1 k2
    rw [Env.ext_at] at e1 e2
    by_cases q1 : b1 = h.next
    · rw [if_pos q1] at k1; cases k1; cases hro
    · rw [if_neg q1] at k1 e1
      by_cases q2 : b2 = h.next
      · rw [if_pos q2] at e2
        cases e2
        obtain ⟨B', c', O', j1, j2, _, _⟩ := r.blk _ _ k1
        rw [e1] at j1
        cases j1
        exact absurd hlt (j2 hro)
      · rw [if_neg q2] at k2 e2
        exact r.inj _ _ _ _ _ _ _ k1 k2 hro e1 e2
  · intro B1 CS' hi
    obtain ⟨i1, i2⟩ := r.imm B1 CS' hi
    refine ⟨i1, fun b' o' c' kx hro ke => ?_⟩
    rw [n3] at kx
    rw [Env.ext_at] at ke
    by_cases q : b' = h.next
    · rw [if_pos q] at kx; cases kx; cases hro
    · rw [if_neg q] at kx ke; exact i2 b' o' c' kx hro ke
theorem rows_eq {C : List Value} {off sz : Nat} : ∀ (len : Nat) (f : Nat → List Int), (∀ i, i < len → (f i).length = sz ∧ ∀ k n, (f i)[k]? = some n → C[off + i * sz + k]? = some (.int .i64 n)) →
    (C.drop off).take (len * sz) = (((List.range len).map f).flatten).map fun x => Value.int .i64 x := by
  intro len
  induction len with
  | zero => intro f _; simp
  | succ len ih =>
    intro f hf
    have h1 := ih f fun i hi => hf i (by omega)
    obtain ⟨l1, l2⟩ := hf len (by omega)
    rw [Nat.add_mul, Nat.one_mul, List.take_add, h1, List.range_succ, List.map_append, List.flatten_append, List.map_append]
    congr 1
    simp only [List.map_cons, List.map_nil, List.flatten_cons, List.flatten_nil, List.append_nil]
    rw [List.drop_drop]
    refine List.ext_getElem? fun k => ?_
    rw [List.getElem?_take, List.getElem?_drop, List.getElem?_map]
    by_cases hk : k < sz
    · rw [if_pos hk]
      obtain ⟨n, hn⟩ : ∃ n, (f len)[k]? = some n := ⟨(f len)[k]'(by omega), by simp⟩
      rw [hn]
      exact l2 k n hn
    · rw [if_neg hk]
      have : (f len)[k]? = none := by simp; omega
      rw [this]
      rfl
theorem HR.openRows {e : Env} {h : AH} {W : World} (r : HR P (Base.all W) e h W) {a : Addr} {len cap sz : Nat} {C : Array Value} {el : TypeId} {fr : Nat × Nat} (hB : W.heap[a.block]? = some (.cells C el fr)) (hspot : a.spot = none) (f : Nat → List Int)
    (hf : ∀ i, i < len → (f i).length = sz ∧ ∀ k n, (f i)[k]? = some n → W.cell? (a.add (i * sz + k)) = some (.int .i64 n)) :
    ∃ e' h' s, Env.le e e' ∧ HR P (Base.all W) e' h' W ∧ Ext h h' ∧ VR e' s (.slice (some a) len cap) ∧ SliceOf h' sz s (((List.range len).map f).map fun l => l.map fun x => AVal.int .i64 x) ∧ sameA s s = true := by
  obtain ⟨B, off, spot⟩ := a
  dsimp only at hB hspot
  subst hspot
  have hcell : ∀ i, i < len → (f i).length = sz ∧ ∀ k n, (f i)[k]? = some n → C.toList[off + i * sz + k]? = some (.int .i64 n) := fun i hi => by
    obtain ⟨h1, h2⟩ := hf i hi
    refine ⟨h1, fun k n hn => ?_⟩
    have := h2 k n hn
    have e1 := addr_add B off (i * sz + k)
    rw [e1] at this
    unfold World.cell? at this
    rw [hB] at this
    simp only [Option.isSome_none, Bool.false_eq_true, if_false] at this
    rw [Array.getElem?_toList, Nat.add_assoc]
    exact this
  have hrows := rows_eq len f hcell
  let R := (List.range len).map f
  have hRl : ∀ l, l ∈ R → l.length = sz := fun l hl => by
    obtain ⟨i, hi, rfl⟩ := List.mem_map.1 hl
    exact (hf i (List.mem_range.1 hi)).1
  have hRlen : R.length = len := by simp [R]
  have hlen : (C.toList.drop off).take (len * sz) = (R.flatten).map fun x => Value.int .i64 x := hrows
  have hfl : R.flatten.length = len * sz := by
    have : ∀ {L : List (List Int)}, (∀ l, l ∈ L → l.length = sz) → L.flatten.length = L.length * sz := by
      intro L
      induction L with
      | nil => intro _; simp
      | cons a L ih => intro h; simp only [List.flatten_cons, List.length_append, h a (by simp), ih fun l q => h l (by simp [q]), List.length_cons, Nat.add_mul]; omega
    rw [this hRl, hRlen]
  by_cases h0 : len * sz = 0
  · -- nothing of it is read
    obtain ⟨e', h', k1, k2, k3, k4, k5⟩ := r.openWin (B := B) (lo := 0) (PRE := []) (CS := []) (junk := C.toList) (el := el) (fr := fr) (cs := []) (by simpa using hB) rfl (fun _ => .nil)
    refine ⟨e', h', .slice h.next off len cap, k1, k2, k3, .slice k4, .mk rfl rfl k5.1 (by simp) (fun l hl => ?_) ?_, by simp [sameA]⟩
    · obtain ⟨x, hx, rfl⟩ := List.mem_map.1 hl
      rw [List.length_map]
      exact hRl x hx
    · have hnil : R.flatten = [] := List.eq_nil_of_length_eq_zero (by omega)
      unfold loadCells
      rw [k5.2]
      have e1 : ((R.map fun l => l.map fun x => AVal.int .i64 x).length * sz) = 0 := by rw [List.length_map, hRlen]; exact h0
      have e2 : (R.map fun l => l.map fun x => AVal.int .i64 x).flatten = [] := by rw [← List.map_flatten, hnil]; rfl
      show cond (Nat.ble 0 off) (slice? [] (off - 0) ((R.map fun l => l.map fun x => AVal.int .i64 x).length * sz)) none = some _
      rw [e1, e2, show Nat.ble 0 off = true from Nat.ble_eq_true_of_le (Nat.zero_le _)]
      simp [slice?]
  · have hle : off + len * sz ≤ C.toList.length := by
      have : ((C.toList.drop off).take (len * sz)).length = len * sz := by rw [hlen, List.length_map, hfl]
      rw [List.length_take, List.length_drop] at this
      omega
    have hC : C = (C.toList.take off ++ ((R.flatten.map fun x => Value.int .i64 x) ++ C.toList.drop (off + len * sz))).toArray := by
      rw [← hlen]
      have : C.toList.take off ++ ((C.toList.drop off).take (len * sz) ++ C.toList.drop (off + len * sz)) = C.toList := by
        rw [← List.drop_drop, List.take_append_drop, List.take_append_drop]
      rw [this]
    obtain ⟨e', h', k1, k2, k3, k4, k5⟩ := r.openWin (B := B) (lo := off) (PRE := C.toList.take off) (CS := R.flatten.map fun x => Value.int .i64 x) (junk := C.toList.drop (off + len * sz)) (el := el) (fr := fr) (cs := R.flatten.map fun x => AVal.int .i64 x) (by rw [← hC]; exact hB) (by rw [List.length_take]; omega) (fun _ => VRs.ints _)
    refine ⟨e', h', .slice h.next off len cap, k1, k2, k3, .slice k4, .mk rfl rfl k5.1 (by simp) (fun l hl => ?_) ?_, by simp [sameA]⟩
    · obtain ⟨x, hx, rfl⟩ := List.mem_map.1 hl
      rw [List.length_map]
      exact hRl x hx
    · unfold loadCells
      rw [k5.2]
      have e1 : ((R.map fun l => l.map fun x => AVal.int .i64 x).length * sz) = len * sz := by rw [List.length_map, hRlen]
      have e2 : (R.map fun l => l.map fun x => AVal.int .i64 x).flatten = R.flatten.map fun x => AVal.int .i64 x := by rw [← List.map_flatten]
      show cond (Nat.ble off off) (slice? (R.flatten.map fun x => AVal.int .i64 x) (off - off) ((R.map fun l => l.map fun x => AVal.int .i64 x).length * sz)) none = some _
      rw [e1, e2, show Nat.ble off off = true from Nat.ble_eq_true_of_le (Nat.le_refl _), Nat.sub_self]
      exact slice_all (by rw [List.length_map, hfl])
end
end Go.AbsE

namespace Go.Proofs.Ytmdheijpnlonoaa
open Go Go.AbsE Go.ChangeShapes Go.WideShapes Go.ChangeAt Go.RowKit
set_option linter.unusedSimpArgs false
set_option maxRecDepth 100000
set_option linter.unusedVariables false
theorem cells27 : Try.prog.cellsOf 27 = 7 := by kernel_rfl
theorem cells3 : Try.prog.cellsOf 3 = 1 := by kernel_rfl
theorem cells63 : Try.prog.cellsOf 63 = 3 := by kernel_rfl
theorem cells59 : Try.prog.cellsOf 59 = 4 := by kernel_rfl
theorem cells30 : Try.prog.cellsOf 30 = 2 := by kernel_rfl
theorem cells22 : Try.prog.cellsOf 22 = 1 := by kernel_rfl
theorem cells23 : Try.prog.cellsOf 23 = 1 := by kernel_rfl
theorem cells24 : Try.prog.cellsOf 24 = 3 := by kernel_rfl
theorem cells25 : Try.prog.cellsOf 25 = 1 := by kernel_rfl
theorem ctypes27 : Try.prog.cellTypes Try.prog.depth 27 = some [22, 23, 3, 3, 3, 3, 25] := by kernel_rfl
theorem laidOut : laidOutB Try.prog = true := by kernel_rfl
def inI64 (n : Int) : Prop := -9223372036854775808 ≤ n ∧ n ≤ 9223372036854775807
theorem wf_in {n : Int} (h : (Lit.int .i64 n).wf = true) : inI64 n := by
  simp only [Lit.wf, Bool.and_eq_true, decide_eq_true_eq] at h
  have h1 : IntKind.i64.min = -9223372036854775808 := by decide
  have h2 : IntKind.i64.max = 9223372036854775807 := by decide
  rw [h1, h2] at h
  constructor <;> omega
variable {H : Type} {enc : TypeId × Value → H} {W : World} {base : Nat} {spare : Nat → Bool} {held : Bool}
theorem int_row {n : Nat} {cs : List Value} {x : DataW H × List MemPlace} (h : DataW.trod enc Try.prog W base spare held n 3 cs = some x) : ∃ a : Int, cs = [.int .i64 a] ∧ inI64 a := by
  obtain ⟨a, h1, _, h3⟩ := DataW.trod_int Try.underlying3 h
  exact ⟨a, h1, wf_in h3⟩
theorem span_row {n : Nat} {cs : List Value} {x : DataW H × List MemPlace} (h : DataW.trod enc Try.prog W base spare held n 30 cs = some x) : ∃ a b : Int, cs = [.int .i64 a, .int .i64 b] := by
  obtain ⟨y0, y1, k, _, hl, h0, h1⟩ := ChangeShapes.trod_struct2 Try.underlying30 h
  rw [cells30] at hl
  dsimp only at h0 h1
  rw [cells3] at h0 h1
  obtain ⟨a, ha, _⟩ := int_row h0
  obtain ⟨b, hb, _⟩ := int_row h1
  match cs, hl with
  | [c0, c1], _ =>
    simp at ha hb
    exact ⟨a, b, by rw [ha, hb]⟩
theorem rain_row {n : Nat} {cs : List Value} {x : DataW H × List MemPlace} (h : DataW.trod enc Try.prog W base spare held n 30 cs = some x) : ∃ r : List Int, r.length = 2 ∧ cs = r.map fun x => Value.int .i64 x := by
  obtain ⟨a, b, q⟩ := span_row h
  exact ⟨[a, b], rfl, q⟩
theorem hturf_row {n : Nat} {cs : List Value} {x : DataW H × List MemPlace} (h : DataW.trod enc Try.prog W base spare held n 63 cs = some x) : ∃ r : List Int, r.length = 3 ∧ cs = r.map fun x => Value.int .i64 x := by
  obtain ⟨y0, y1, k, _, hl, h0, h1⟩ := ChangeShapes.trod_struct2 Try.underlying63 h
  rw [cells63] at hl
  dsimp only at h0 h1
  rw [cells3] at h0
  rw [cells30] at h1
  obtain ⟨a, ha, _⟩ := int_row h0
  obtain ⟨b, c, hb⟩ := span_row h1
  match cs, hl with
  | [c0, c1, c2], _ =>
    simp at ha hb
    exact ⟨[a, b, c], rfl, by rw [ha, hb.1, hb.2]; rfl⟩
theorem look_row {n : Nat} {cs : List Value} {x : DataW H × List MemPlace} (h : DataW.trod enc Try.prog W base spare held n 59 cs = some x) : ∃ r : List Int, r.length = 4 ∧ cs = r.map fun x => Value.int .i64 x := by
  obtain ⟨xs, k, _, _, hl, _, hf⟩ := DataW.trod_struct Try.underlying59 h
  rw [cells59] at hl
  have h0 : DataW.trod enc Try.prog W base spare held k 3 ((cs.drop 0).take (Try.prog.cellsOf 3)) = xs[0]? := hf 0 _ rfl
  have h1 : DataW.trod enc Try.prog W base spare held k 3 ((cs.drop 1).take (Try.prog.cellsOf 3)) = xs[1]? := hf 1 _ rfl
  have h2 : DataW.trod enc Try.prog W base spare held k 30 ((cs.drop 2).take (Try.prog.cellsOf 30)) = xs[2]? := hf 2 _ rfl
  rw [cells3] at h0 h1
  rw [cells30] at h2
  have hx : xs.length = 3 := by assumption
  match xs, hx with
  | [x0, x1, x2], _ =>
    obtain ⟨a, ha, _⟩ := int_row (x := x0) h0
    obtain ⟨b, hb, _⟩ := int_row (x := x1) h1
    obtain ⟨d, e, hd⟩ := span_row (x := x2) h2
    match cs, hl with
    | [c0, c1, c2, c3], _ =>
      simp at ha hb hd
      exact ⟨[a, b, d, e], rfl, by rw [ha, hb, hd.1, hd.2]; rfl⟩
theorem slice_okw {t el : TypeId} {a : Addr} {len cap : Nat} {bs : Nat} (ht : Try.prog.underlying t = some (.slice el)) (h : Cell.okWide Try.prog W .any bs t (.slice (some a) len cap)) : a.spot = none ∧ ∃ C e fr, W.heap[a.block]? = some (.cells C e fr) := by
  unfold Cell.okWide at h
  rw [ht] at h
  dsimp only at h
  unfold Cell.ok at h
  rw [ht] at h
  dsimp only at h
  obtain ⟨_, _, _, h2, row, n, h3, _⟩ := h
  refine ⟨h2, ?_⟩
  unfold World.shape? at h3
  split at h3
  · rename_i c e fr hq
    exact ⟨c, e, fr, hq⟩
  · cases h3
theorem rows_of {t el : TypeId} {sz fuel : Nat} {c : Value} {y : DataW H × List MemPlace} {bs : Nat} (ht : Try.prog.underlying t = some (.slice el)) (hsz : Try.prog.cellsOf el = sz)
    (hrow : ∀ {n : Nat} {cs : List Value} {x : DataW H × List MemPlace}, DataW.trod enc Try.prog W 0 (fun _ => true) true n el cs = some x → ∃ r : List Int, r.length = sz ∧ cs = r.map fun x => Value.int .i64 x)
    (h : DataW.trod enc Try.prog W 0 (fun _ => true) true fuel t [c] = some y) (hok : Cell.okWide Try.prog W .any bs t c) {e : Env} {hh : AH} (r : HR Try.prog (Base.all W) e hh W) :
    ∃ e' h' s, ∃ R : List (List Int), Env.le e e' ∧ HR Try.prog (Base.all W) e' h' W ∧ Ext hh h' ∧ VR e' s c ∧ (∀ l, l ∈ R → l.length = sz) ∧ SliceOf h' sz s (R.map fun l => l.map fun x => AVal.int .i64 x) ∧ sameA s s = true := by
  rcases Deep.open_slice ht h with ⟨hcs, _⟩ | ⟨a, len, cap, m, n, D, Pl, hcs, _, hl, _, hmm, _, hx⟩
  · simp at hcs
    subst hcs
    exact ⟨e, hh, .nilslice, [], Env.le_refl e, r, Ext.refl _, .nilslice, (fun _ q => by cases q), .nil, rfl⟩
  · simp at hcs
    subst hcs
    obtain ⟨hs, C, el', fr, hB⟩ := slice_okw ht hok
    have hm : m = cap := by simpa using hmm
    have each : ∀ i, ∃ rr : List Int, i < len → rr.length = sz ∧ ∀ k n, rr[k]? = some n → W.cell? (a.add (i * sz + k)) = some (.int .i64 n) := by
      intro i
      by_cases hi : i < len
      · obtain ⟨cs', h1, h2⟩ := hx i (by omega)
        obtain ⟨rr, hr1, hr2⟩ := hrow h2
        rw [hsz] at h1
        obtain ⟨_, hlen, hc⟩ := World.cells?_some h1
        refine ⟨rr, fun _ => ⟨hr1, fun k n hk => ?_⟩⟩
        have hkl := (List.getElem?_eq_some_iff.1 hk).1
        have := hc k (by omega)
        obtain ⟨B, off, spot⟩ := a
        dsimp only at hs
        subst hs
        rw [addr_add, addr_add] at this
        rw [addr_add, ← Nat.add_assoc, this, hr2, List.getElem?_map, hk]
        rfl
      · exact ⟨[], fun q => absurd q hi⟩
    obtain ⟨f, hf⟩ := Classical.axiomOfChoice each
    obtain ⟨e', h', s, k1, k2, k3, k4, k5, k6⟩ := r.openRows (cap := cap) (len := len) hB hs f hf
    exact ⟨e', h', s, (List.range len).map f, k1, k2, k3, k4, fun l hl => by
      obtain ⟨i, hi, rfl⟩ := List.mem_map.1 hl
      exact (hf i (List.mem_range.1 hi)).1, k5, k6⟩
def toH : List Int → HTurf
  | [a, b, c] => ⟨a, b, c⟩
  | _ => ⟨0, 0, 0⟩
def toR : List Int → Int × Int
  | [a, b] => (a, b)
  | _ => (0, 0)
def toL : List Int → LookV
  | [a, b, c, d] => ⟨a, b, c, d⟩
  | _ => ⟨0, 0, 0, 0⟩
theorem hs_eq {R : List (List Int)} (h : ∀ l, l ∈ R → l.length = 3) : (R.map fun l => l.map fun x => AVal.int .i64 x) = (R.map toH).map HTurf.cells := by
  rw [List.map_map]
  refine List.map_congr_left fun l hl => ?_
  match l, h l hl with
  | [a, b, c], _ => rfl
theorem rs_eq {R : List (List Int)} (h : ∀ l, l ∈ R → l.length = 2) : (R.map fun l => l.map fun x => AVal.int .i64 x) = (R.map toR).map spC := by
  rw [List.map_map]
  refine List.map_congr_left fun l hl => ?_
  match l, h l hl with
  | [a, b], _ => rfl
theorem ls_eq {R : List (List Int)} (h : ∀ l, l ∈ R → l.length = 4) : (R.map fun l => l.map fun x => AVal.int .i64 x) = (R.map toL).map LookV.cells := by
  rw [List.map_map]
  refine List.map_congr_left fun l hl => ?_
  match l, h l hl with
  | [a, b, c, d], _ => rfl
theorem array7 {α : Type} {cs : Array α} (h : cs.size = 7) : ∃ c0 c1 c2 c3 c4 c5 c6, cs = #[c0, c1, c2, c3, c4, c5, c6] := by
  obtain ⟨l⟩ := cs
  match l, h with
  | [c0, c1, c2, c3, c4, c5, c6], _ => exact ⟨c0, c1, c2, c3, c4, c5, c6, rfl⟩
theorem list5 {α : Type} {l : List α} (h : l.length = 5) : ∃ c0 c1 c2 c3 c4, l = [c0, c1, c2, c3, c4] := by
  match l, h with
  | [c0, c1, c2, c3, c4], _ => exact ⟨c0, c1, c2, c3, c4, rfl⟩
theorem heap_of {bs : Nat} {v : Value} {d : DataW H} {p : List MemPlace} (hv : Value.okWide Try.prog W .any bs 27 v) (h : DataW.Trod enc Try.prog W 0 (fun _ => true) true 27 v d p) {e : Env} {hh : AH} (r : HR Try.prog (Base.all W) e hh W) :
    ∃ e' h' F hsl rsl lsl, Env.le e e' ∧ HR Try.prog (Base.all W) e' h' W ∧ Ext hh h' ∧ VR e' (.agg (FieldV.cells F hsl rsl lsl)) v ∧ FieldAt h' F hsl rsl lsl := by
  have hv2 := hv
  obtain ⟨cs, rfl, hsz⟩ := okWide_struct Try.underlying27 hv
  obtain ⟨c0, c1, c2, c3, c4, c5, c6, rfl⟩ := array7 (hsz.trans cells27)
  obtain ⟨fuel, hf⟩ := h
  obtain ⟨xs, n, _, _, hl, hlen, hfl⟩ := DataW.trod_struct Try.underlying27 hf
  obtain ⟨y0, y1, y2, y3, y4, rfl⟩ := list5 hlen
  have t0 : DataW.trod enc Try.prog W 0 (fun _ => true) true n 22 [c0] = some y0 := by
    have this : DataW.trod enc Try.prog W 0 (fun _ => true) true n 22 (([c0, c1, c2, c3, c4, c5, c6].drop 0).take (Try.prog.cellsOf 22)) = [y0, y1, y2, y3, y4][0]? := hfl 0 _ rfl
    rw [cells22] at this
    exact this
  have t1 : DataW.trod enc Try.prog W 0 (fun _ => true) true n 23 [c1] = some y1 := by
    have this : DataW.trod enc Try.prog W 0 (fun _ => true) true n 23 (([c0, c1, c2, c3, c4, c5, c6].drop 1).take (Try.prog.cellsOf 23)) = [y0, y1, y2, y3, y4][1]? := hfl 1 _ rfl
    rw [cells23] at this
    exact this
  have t2 : DataW.trod enc Try.prog W 0 (fun _ => true) true n 24 [c2, c3, c4] = some y2 := by
    have this : DataW.trod enc Try.prog W 0 (fun _ => true) true n 24 (([c0, c1, c2, c3, c4, c5, c6].drop 2).take (Try.prog.cellsOf 24)) = [y0, y1, y2, y3, y4][2]? := hfl 2 _ rfl
    rw [cells24] at this
    exact this
  have t3 : DataW.trod enc Try.prog W 0 (fun _ => true) true n 3 [c5] = some y3 := by
    have this : DataW.trod enc Try.prog W 0 (fun _ => true) true n 3 (([c0, c1, c2, c3, c4, c5, c6].drop 5).take (Try.prog.cellsOf 3)) = [y0, y1, y2, y3, y4][3]? := hfl 3 _ rfl
    rw [cells3] at this
    exact this
  have t4 : DataW.trod enc Try.prog W 0 (fun _ => true) true n 25 [c6] = some y4 := by
    have this : DataW.trod enc Try.prog W 0 (fun _ => true) true n 25 (([c0, c1, c2, c3, c4, c5, c6].drop 6).take (Try.prog.cellsOf 25)) = [y0, y1, y2, y3, y4][4]? := hfl 4 _ rfl
    rw [cells25] at this
    exact this
  obtain ⟨z0, z1, z2, n2, _, g0, g1, g2⟩ := trod_array3 Try.underlying24 cells3 t2
  obtain ⟨da, e2, _⟩ := int_row g0
  obtain ⟨db, e3, _⟩ := int_row g1
  obtain ⟨dc, e4, _⟩ := int_row g2
  obtain ⟨lim, e5, _⟩ := int_row t3
  simp at e2 e3 e4 e5
  subst e2 e3 e4 e5
  unfold Value.okWide at hv2
  rw [Try.underlying27] at hv2
  obtain ⟨cs, hcs, _, ts, hts, _, hrow⟩ := hv2
  injection hcs with hcs
  subst hcs
  rw [ctypes27] at hts
  cases hts
  obtain ⟨u0, hu0, ok0⟩ := hrow 0 c0 rfl
  obtain ⟨u1, hu1, ok1⟩ := hrow 1 c1 rfl
  obtain ⟨u6, hu6, ok6⟩ := hrow 6 c6 rfl
  cases hu0
  cases hu1
  cases hu6
  obtain ⟨ea, ha, s0, R0, a1, a2, a3, a4, a5, a6, a7⟩ := rows_of Try.underlying22 cells63 hturf_row t0 ok0 r
  obtain ⟨eb, hb, s1, R1, b1, b2, b3, b4, b5, b6, b7⟩ := rows_of Try.underlying23 cells30 rain_row t1 ok1 a2
  obtain ⟨ec, hc, s2, R2, k1, k2, k3, k4, k5, k6, k7⟩ := rows_of Try.underlying25 cells59 look_row t4 ok6 b2
  rw [hs_eq a5] at a6
  rw [rs_eq b5] at b6
  rw [ls_eq k5] at k6
  refine ⟨ec, hc, ⟨R0.map toH, R1.map toR, da, db, dc, lim, R2.map toL⟩, s0, s1, s2, Env.le_trans a1 (Env.le_trans b1 k1), k2, a3.trans (b3.trans k3), ?_, ⟨a6.ext (b3.trans k3), b6.ext k3, k6⟩⟩
  exact .agg (CS := [_, _, _, _, _, _, _]) (.cons (a4.mono (Env.le_trans b1 k1)) (.cons (b4.mono k1) (.cons (.int _ _) (.cons (.int _ _) (.cons (.int _ _) (.cons (.int _ _) (.cons k4 .nil)))))))
end Go.Proofs.Ytmdheijpnlonoaa
