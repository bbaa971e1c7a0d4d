import Derived.Test.YtmdheijpnlonoaaMAS
namespace Go.AbsE
open Go Go.RowKit
section
variable {P : Program}
theorem VRs.kinds {K : Type} {va : K → AVal} {vv : K → Value} (hvr : ∀ e x, VR e (va x) (vv x)) {e : Env} : ∀ l : List K, VRs e (l.map fun x => va x) (l.map fun x => vv x) := by
  intro l
  induction l with
  | nil => exact .nil
  | cons a l ih => exact .cons (hvr _ _) ih
theorem rowsG_eq {K : Type} {vv : K → Value} {C : List Value} {off sz : Nat} : ∀ (len : Nat) (f : Nat → List K), (∀ i, i < len → (f i).length = sz ∧ ∀ k n, (f i)[k]? = some n → C[off + i * sz + k]? = some (vv n)) →
    (C.drop off).take (len * sz) = (((List.range len).map f).flatten).map fun x => vv x := by
  intro len
  induction len with
  | zero => intro f _; simp
  | succ len ih =>
    intro f hf
    have h1 := ih f fun i hi => hf i (by omega)
    obtain ⟨l1, l2⟩ := hf len (by omega)
    rw [Nat.add_mul, Nat.one_mul, List.take_add, h1, List.range_succ, List.map_append, List.flatten_append, List.map_append]
    congr 1
    simp only [List.map_cons, List.map_nil, List.flatten_cons, List.flatten_nil, List.append_nil]
    rw [List.drop_drop]
    refine List.ext_getElem? fun k => ?_
    rw [List.getElem?_take, List.getElem?_drop, List.getElem?_map]
    by_cases hk : k < sz
    · rw [if_pos hk]
      obtain ⟨n, hn⟩ : ∃ n, (f len)[k]? = some n := ⟨(f len)[k]'(by omega), by simp⟩
      rw [hn]
      exact l2 k n hn
    · rw [if_neg hk]
      have : (f len)[k]? = none := by simp; omega
      rw [this]
      rfl
theorem HR.openRowsG {K : Type} (va : K → AVal) (vv : K → Value) (hvr : ∀ e x, VR e (va x) (vv x)) {e : Env} {h : AH} {W : World} (r : HR P (Base.all W) e h W) {a : Addr} {len cap sz : Nat} {C : Array Value} {el : TypeId} {fr : Nat × Nat} (hB : W.heap[a.block]? = some (.cells C el fr)) (hspot : a.spot = none) (f : Nat → List K)
    (hf : ∀ i, i < len → (f i).length = sz ∧ ∀ k n, (f i)[k]? = some n → W.cell? (a.add (i * sz + k)) = some (vv n)) :
    ∃ e' h' s, Env.le e e' ∧ HR P (Base.all W) e' h' W ∧ Ext h h' ∧ VR e' s (.slice (some a) len cap) ∧ SliceOf h' sz s (((List.range len).map f).map fun l => l.map fun x => va x) ∧ sameA s s = true := by
  obtain ⟨B, off, spot⟩ := a
  dsimp only at hB hspot
  subst hspot
  have hcell : ∀ i, i < len → (f i).length = sz ∧ ∀ k n, (f i)[k]? = some n → C.toList[off + i * sz + k]? = some (vv n) := fun i hi => by
    obtain ⟨h1, h2⟩ := hf i hi
    refine ⟨h1, fun k n hn => ?_⟩
    have := h2 k n hn
    have e1 := addr_add B off (i * sz + k)
    rw [e1] at this
    unfold World.cell? at this
    rw [hB] at this
    simp only [Option.isSome_none, Bool.false_eq_true, if_false] at this
    rw [Array.getElem?_toList, Nat.add_assoc]
    exact this
  have hrows := rowsG_eq len f hcell
  let R := (List.range len).map f
  have hRl : ∀ l, l ∈ R → l.length = sz := fun l hl => by
    obtain ⟨i, hi, rfl⟩ := List.mem_map.1 hl
    exact (hf i (List.mem_range.1 hi)).1
  have hRlen : R.length = len := by simp [R]
  have hlen : (C.toList.drop off).take (len * sz) = (R.flatten).map fun x => vv x := hrows
  have hfl : R.flatten.length = len * sz := by
    have : ∀ {L : List (List K)}, (∀ l, l ∈ L → l.length = sz) → L.flatten.length = L.length * sz := by
      intro L
      induction L with
      | nil => intro _; simp
      | cons a L ih => intro h; simp only [List.flatten_cons, List.length_append, h a (by simp), ih fun l q => h l (by simp [q]), List.length_cons, Nat.add_mul]; omega
    rw [this hRl, hRlen]
  by_cases h0 : len * sz = 0
  · -- nothing of it is read
    obtain ⟨e', h', k1, k2, k3, k4, k5⟩ := r.openWin (B := B) (lo := 0) (PRE := []) (CS := []) (junk := C.toList) (el := el) (fr := fr) (cs := []) (by simpa using hB) rfl (fun _ => .nil)
    refine ⟨e', h', .slice h.next off len cap, k1, k2, k3, .slice k4, .mk rfl rfl k5.1 (by simp) (fun l hl => ?_) ?_, by simp [sameA]⟩
    · obtain ⟨x, hx, rfl⟩ := List.mem_map.1 hl
      rw [List.length_map]
      exact hRl x hx
    · have hnil : R.flatten = [] := List.eq_nil_of_length_eq_zero (by omega)
      unfold loadCells
      rw [k5.2]
      have e1 : ((R.map fun l => l.map fun x => va x).length * sz) = 0 := by rw [List.length_map, hRlen]; exact h0
      have e2 : (R.map fun l => l.map fun x => va x).flatten = [] := by rw [← List.map_flatten, hnil]; rfl
      show cond (Nat.ble 0 off) (slice? [] (off - 0) ((R.map fun l => l.map fun x => va x).length * sz)) none = some _
      rw [e1, e2, show Nat.ble 0 off = true from Nat.ble_eq_true_of_le (Nat.zero_le _)]
      simp [slice?]
  · have hle : off + len * sz ≤ C.toList.length := by
      have : ((C.toList.drop off).take (len * sz)).length = len * sz := by rw [hlen, List.length_map, hfl]
      rw [List.length_take, List.length_drop] at this
      omega
    have hC : C = (C.toList.take off ++ ((R.flatten.map fun x => vv x) ++ C.toList.drop (off + len * sz))).toArray := by
      rw [← hlen]
      have : C.toList.take off ++ ((C.toList.drop off).take (len * sz) ++ C.toList.drop (off + len * sz)) = C.toList := by
        rw [← List.drop_drop, List.take_append_drop, List.take_append_drop]
      rw [this]
    obtain ⟨e', h', k1, k2, k3, k4, k5⟩ := r.openWin (B := B) (lo := off) (PRE := C.toList.take off) (CS := R.flatten.map fun x => vv x) (junk := C.toList.drop (off + len * sz)) (el := el) (fr := fr) (cs := R.flatten.map fun x => va x) (by rw [← hC]; exact hB) (by rw [List.length_take]; omega) (fun _ => VRs.kinds hvr _)
    refine ⟨e', h', .slice h.next off len cap, k1, k2, k3, .slice k4, .mk rfl rfl k5.1 (by simp) (fun l hl => ?_) ?_, by simp [sameA]⟩
    · obtain ⟨x, hx, rfl⟩ := List.mem_map.1 hl
      rw [List.length_map]
      exact hRl x hx
    · unfold loadCells
      rw [k5.2]
      have e1 : ((R.map fun l => l.map fun x => va x).length * sz) = len * sz := by rw [List.length_map, hRlen]
      have e2 : (R.map fun l => l.map fun x => va x).flatten = R.flatten.map fun x => va x := by rw [← List.map_flatten]
      show cond (Nat.ble off off) (slice? (R.flatten.map fun x => va x) (off - off) ((R.map fun l => l.map fun x => va x).length * sz)) none = some _
      rw [e1, e2, show Nat.ble off off = true from Nat.ble_eq_true_of_le (Nat.le_refl _), Nat.sub_self]
      exact slice_all (by rw [List.length_map, hfl])
end
end Go.AbsE
