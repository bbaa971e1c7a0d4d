import Derived.Test.YtidfcmjlfadieaaH
import Derived.Laws.Sem
set_option linter.unusedSimpArgs false
namespace Go.AbsE
open Go

section
variable {P : Program} {w0 : Base} {e : Env} {h : AH} {W : World}

inductive RunsAll (P : Program) (W : World) {α β : Type} (f : α → Sem β) : List α → List β → Prop
  | nil : RunsAll P W f [] []
  | cons {a b l m} (h : (f a).run P W = .ok b W) (hs : RunsAll P W f l m) : RunsAll P W f (a :: l) (b :: m)

theorem run_mapM {α β : Type} {f : α → Sem β} {l : List α} {m : List β} (hr : RunsAll P W f l m) : (l.mapM f).run P W = .ok m W := by
  induction hr with
  | nil => simp [run_pure']
  | cons h _ ih => simp [Sem.run_bind', h, ih, run_pure']

theorem run_mapMA {α β : Type} {f : α → Sem β} {l : Array α} {m : List β} (hr : RunsAll P W f l.toList m) : (l.mapM f).run P W = .ok m.toArray W := by
  rw [Array.mapM_eq_mapM_toList, map_eq_pure_bind, Sem.run_bind', run_mapM hr]
  rfl

/-! ### what is put together -/
theorem foldl_fill (off : Nat) : ∀ (vs : List Value) (k : Nat) (L : List Value), off + k + vs.length ≤ L.length →
    (vs.zipIdx k).foldl (fun (cs : Array Value) (x : Value × Nat) => cs.setIfInBounds (off + x.2) x.1) L.toArray = (spliced L (off + k) vs).toArray := by
  intro vs
  induction vs with
  | nil => intro k L _; simp [spliced_nil]
  | cons v vs ih =>
    intro k L hl
    simp at hl
    simp only [List.zipIdx_cons, List.foldl_cons]
    rw [show L.toArray.setIfInBounds (off + k) v = (L.set (off + k) v).toArray from by simp]
    rw [ih (k + 1) (L.set (off + k) v) (by simp; omega), show off + (k + 1) = off + k + 1 from rfl, spliced_cons L (off + k) v vs (by omega)]

theorem foldl_fillA (off : Nat) (V : Array Value) (L : List Value) (hl : off + V.size ≤ L.length) :
    V.zipIdx.foldl (fun cs (x : Value × Nat) => cs.setIfInBounds (off + x.2) x.1) L.toArray = (spliced L off V.toList).toArray := by
  have := foldl_fill off V.toList 0 L (by simpa using hl)
  rw [← Array.foldl_toList, Array.toList_zipIdx]
  exact this

inductive PRs (e : Env) : List (Nat × AVal) → List (Nat × Value) → Prop
  | nil : PRs e [] []
  | cons {i a v l m} (h : VR e a v) (hs : PRs e l m) : PRs e ((i, a) :: l) ((i, v) :: m)

theorem evParts_rel {n t T} (hT : TRel e n t T) : ∀ {l : List (Nat × Operand)} {m}, evParts t l = some m → PRs e m (l.map fun x => (x.1, opd T x.2)) := by
  intro l
  induction l with
  | nil => intro m k; simp [evParts] at k; subst k; exact .nil
  | cons x l ih =>
    intro m k
    obtain ⟨i, y⟩ := x
    simp only [evParts] at k
    split at k
    · rename_i v hv
      split at k
      · rename_i l' hl; cases k; exact .cons (ev_rel hT hv) (ih hl)
      · cases k
    · cases k

theorem fill_sim {place : Nat → Option (Nat × Nat)} : ∀ {ps : List (Nat × AVal)} {PS : List (Nat × Value)} {cells : List AVal} {CELLS : List Value} {cs : List AVal},
    PRs e ps PS → VRs e cells CELLS → aFillA place cells ps = some cs → ∃ CS, Instr.fill place CELLS.toArray PS = some CS.toArray ∧ VRs e cs CS := by
  intro ps
  induction ps with
  | nil => intro PS cells CELLS cs hp hc k; cases hp; simp [aFillA] at k; subst k; exact ⟨CELLS, rfl, hc⟩
  | cons x ps ih =>
    intro PS cells CELLS cs hp hc k
    cases hp with
    | cons hv hs =>
      rename_i i a v m
      simp only [aFillA] at k
      split at k
      · cases k
      · rename_i off size hpl
        cases hb : Nat.beq a.cells.length size with
        | false => rw [hb] at k; cases k
        | true =>
          rw [hb] at k
          simp only [cond_true] at k
          split at k
          · rename_i cs1 hsp
            have hlen := Nat.eq_of_beq_eq_true hb
            obtain ⟨j1, j2⟩ := hc.splice off hv.cells hsp
            have hsz : v.cells.size = size := by rw [← hlen, hv.cells.length]; simp
            simp at j2
            obtain ⟨CS, q1, q2⟩ := ih hs j1 k
            refine ⟨CS, ?_, q2⟩
            rw [Instr.fill, hpl]
            simp only []
            rw [if_neg (by simp [hsz]; omega)]
            have := foldl_fillA off v.cells CELLS (by omega)
            simp only [spliced] at this
            rw [this]
            exact q1
          · cases k

theorem places_run : ∀ {l : List Field} {m : List (Nat × Nat)}, placesT P l = some m → RunsAll P W (fun f : Field => do pure (f.offset, ← sizeOf f.type)) l m := by
  intro l
  induction l with
  | nil => intro m k; simp [placesT] at k; subst k; exact .nil
  | cons f l ih =>
    intro m k
    simp only [placesT] at k
    split at k
    · rename_i n hn
      split at k
      · rename_i l' hl
        cases k
        exact .cons (by simp [Sem.run_bind', run_sizeOf hn, run_pure']) (ih hl)
      · cases k
    · cases k

theorem map_parts (parts : Array (Nat × Operand)) (T : Array Value) : (parts.map fun (i, x) => (i, opd T x)).toList = parts.toList.map fun x => (x.1, opd T x.2) := by
  simp

theorem opBuild_sim (r : HR P w0 e h W) {n t T} (hT : TRel e n t T) {ty : TypeId} {parts : Array (Nat × Operand)} {x : ANext} (k : opBuild P t h ty parts = some x) :
    OpSim P w0 e h W ((do let a ← Instr.build ty (parts.map fun (i, x) => (i, opd T x)); pure (Next.value a)).run P W) x := by
  unfold opBuild at k
  split at k
  · rename_i z ps fields hz hps hu
    split at k
    · rename_i pl hpl
      split at k
      · rename_i cs hcs
        cases k
        obtain ⟨Z, hZ, hZr⟩ := zero_rel hz
        obtain ⟨CS, q1, q2⟩ := fill_sim (evParts_rel hT hps) (hZr e).cells hcs
        refine sim_pure r ?_ (.agg q2)
        simp only [Instr.build, Sem.run_bind', hZ, run_underlying hu, run_mapMA (places_run hpl)]
        rw [map_parts]
        have e1 : (fun i : Nat => (pl.toArray)[i]?) = (fun i : Nat => pl[i]?) := by funext i; simp
        rw [e1, show Z.cells = Z.cells.toList.toArray from by simp, q1]
        rfl
      · cases k
    · cases k
  · rename_i z ps len elem hz hps hu
    split at k
    · rename_i size hsz
      split at k
      · rename_i cs hcs
        cases k
        obtain ⟨Z, hZ, hZr⟩ := zero_rel hz
        obtain ⟨CS, q1, q2⟩ := fill_sim (evParts_rel hT hps) (hZr e).cells hcs
        refine sim_pure r ?_ (.agg q2)
        simp only [Instr.build, Sem.run_bind', hZ, run_underlying hu, run_sizeOf hsz]
        rw [map_parts]
        rw [show Z.cells = Z.cells.toList.toArray from by simp, q1]
        rfl
      · cases k
    · cases k
  · cases k

theorem repl_rel {z : List AVal} {Z : List Value} (hz : VRs e z Z) : ∀ n, VRs e (repl z n) (repl Z n)
  | 0 => .nil
  | n + 1 => hz.append (repl_rel hz n)

theorem repl_length {α : Type} (z : List α) : ∀ n, (repl z n).length = n * z.length
  | 0 => by simp [repl]
  | n + 1 => by simp [repl, repl_length z n, Nat.succ_mul]; omega

theorem repl_get {α : Type} (z : List α) : ∀ (n i : Nat), i < n * z.length → (repl z n)[i]? = z[i % z.length]?
  | 0, i, h => by simp at h
  | n + 1, i, h => by
    rw [repl, List.getElem?_append]
    by_cases hi : i < z.length
    · rw [if_pos hi, Nat.mod_eq_of_lt hi]
    · rw [if_neg hi, repl_get z n (i - z.length) (by rw [Nat.succ_mul] at h; omega)]
      congr 1
      exact (Nat.mod_eq_sub_mod (by omega)).symm

theorem range_repl (Z : Array Value) (n : Nat) : (Array.range (n * Z.size)).map (fun i => Z[i % Z.size]!) = (repl Z.toList n).toArray := by
  apply Array.ext_getElem?
  intro i
  by_cases hi : i < n * Z.size
  · have hz : 0 < Z.size := by
      apply Nat.pos_of_ne_zero
      intro h0
      simp [h0] at hi
    rw [show (repl Z.toList n).toArray[i]? = (repl Z.toList n)[i]? from by simp, repl_get _ _ _ (by rw [Array.length_toList]; exact hi)]
    have hm : i % Z.size < Z.size := Nat.mod_lt _ hz
    simp [hi, hm]
  · have h1 : ((Array.range (n * Z.size)).map (fun i => Z[i % Z.size]!)).size ≤ i := by simp; omega
    have h2 : (repl Z.toList n).toArray.size ≤ i := by simp [repl_length]; omega
    rw [Array.getElem?_eq_none h1, Array.getElem?_eq_none h2]

theorem opBuildSlice_sim (r : HR P w0 e h W) {n t T} (hT : TRel e n t T) {ty : TypeId} {len : Nat} {parts : Array (Nat × Operand)} {x : ANext} (k : opBuildSlice P t h ty len parts = some x) :
    OpSim P w0 e h W ((do let a ← Instr.buildSlice ty len (parts.map fun (i, x) => (i, opd T x)); pure (Next.value a)).run P W) x := by
  unfold opBuildSlice at k
  split at k
  · rename_i elem ps hu hps
    split at k
    · rename_i size z hsz hz
      cases hb1 : Nat.ble (len * size) 100000 with
      | false => rw [hb1] at k; cases k
      | true =>
        cases hb2 : Nat.beq z.cells.length size with
        | false => rw [hb1, hb2] at k; cases k
        | true =>
          rw [hb1, hb2] at k
          simp only [cond_true] at k
          have hle := Nat.le_of_ble_eq_true hb1
          have hlen := Nat.eq_of_beq_eq_true hb2
          split at k
          · rename_i cs hcs
            split at k
            · rename_i b h' kn
              cases k
              obtain ⟨Z, hZ, hZr⟩ := zero_rel hz
              have hsize : Z.cells.size = size := by rw [← hlen, (hZr e).cells.length]; simp
              obtain ⟨CS, q1, q2⟩ := fill_sim (evParts_rel hT hps) (repl_rel (hZr e).cells len) hcs
              obtain ⟨e', h1, h2, h3⟩ := new_cells r q2 kn
              refine sim_val (V := .slice (some ⟨W.heap.size, 0, none⟩) len len) ?_ h1 (.slice h2) h3
              simp only [Instr.buildSlice, Sem.run_bind', run_underlying hu, run_sizeOf hsz]
              rw [if_neg (by omega)]
              rw [map_parts]
              by_cases h0 : len * size = 0
              · have h5 : repl Z.cells.toList len = [] := List.eq_nil_of_length_eq_zero (by rw [repl_length]; simp [hsize, h0])
                rw [h5] at q1
                rw [if_pos h0]
                have h6 : ∀ f : Nat → Value, Array.map f (Array.range (len * size)) = ([] : List Value).toArray := fun f => by rw [h0]; simp
                simp only [Sem.run_bind', run_pure', h6, q1, run_newRow]
              · rw [if_neg h0]
                have h6 : Array.map (fun i => Z.cells[i % Z.cells.size]!) (Array.range (len * size)) = (repl Z.cells.toList len).toArray := by rw [← hsize]; exact range_repl Z.cells len
                simp only [Sem.run_bind', hZ, run_pure', h6, q1, run_newRow]
            · cases k
          · cases k
    · cases k
  · cases k

theorem opLit_sim (r : HR P w0 e h W) {n t T} (hT : TRel e n t T) {o : Oper} {x : ANext} (k : opLit P t h o = some x) :
    (∃ v, x = .val v h) ∧ OpSim P w0 e h W ((execOp (opd T) o).run P W) x := by
  obtain ⟨dst, op, type, pos, after, guard⟩ := o
  unfold opLit at k
  cases op <;> first | cases k | skip
  rename_i ty len parts
  simp only [] at k
  split at k
  · rename_i elem ps hu hps
    split at k
    · rename_i size z hsz hz
      cases hb1 : Nat.ble (len * size) 100000 with
      | false => rw [hb1] at k; cases k
      | true =>
        cases hb2 : Nat.beq z.cells.length size with
        | false => rw [hb1, hb2] at k; cases k
        | true =>
          rw [hb1, hb2] at k
          simp only [cond_true] at k
          have hle := Nat.le_of_ble_eq_true hb1
          have hlen := Nat.eq_of_beq_eq_true hb2
          split at k
          · rename_i cs hcs
            cases k
            obtain ⟨Z, hZ, hZr⟩ := zero_rel hz
            have hsize : Z.cells.size = size := by rw [← hlen, (hZr e).cells.length]; simp
            obtain ⟨CS, q1, q2⟩ := fill_sim (evParts_rel hT hps) (repl_rel (hZr e).cells len) hcs
            obtain ⟨h1, h3⟩ := r.newImm CS elem
            have h2 : VR ⟨e.loc, fun B => if B = W.heap.size then some CS else e.imm B⟩ (.lit len cs) (.slice (some ⟨W.heap.size, 0, none⟩) len len) :=
              .lit (CS := CS) (by show (if W.heap.size = W.heap.size then some CS else _) = some CS; rw [if_pos rfl]) (q2.mono h1)
            refine ⟨⟨_, rfl⟩, ?_⟩
            have hs : OpSim P w0 e h W ((do let a ← Instr.buildSlice ty len (parts.map fun (i, x) => (i, opd T x)); pure (Next.value a)).run P W) (.val (.lit len cs) h) := by
              refine sim_val (V := .slice (some ⟨W.heap.size, 0, none⟩) len len) ?_ h1 h2 h3
              simp only [Instr.buildSlice, Sem.run_bind', run_underlying hu, run_sizeOf hsz]
              rw [if_neg (by omega)]
              rw [map_parts]
              by_cases h0 : len * size = 0
              · have h5 : repl Z.cells.toList len = [] := List.eq_nil_of_length_eq_zero (by rw [repl_length]; simp [hsize, h0])
                rw [h5] at q1
                rw [if_pos h0]
                have h6 : ∀ f : Nat → Value, Array.map f (Array.range (len * size)) = ([] : List Value).toArray := fun f => by rw [h0]; simp
                simp only [Sem.run_bind', run_pure', h6, q1, run_newRow]
              · rw [if_neg h0]
                have h6 : Array.map (fun i => Z.cells[i % Z.cells.size]!) (Array.range (len * size)) = (repl Z.cells.toList len).toArray := by rw [← hsize]; exact range_repl Z.cells len
                simp only [Sem.run_bind', hZ, run_pure', h6, q1, run_newRow]
            exact hs
          · cases k
    · cases k
  · cases k

theorem opMakeSlice_sim (r : HR P w0 e h W) {n t T} (hT : TRel e n t T) {ty : TypeId} {l c : Operand} {x : ANext} (k : opMakeSlice P t h ty l c = some x) :
    OpSim P w0 e h W ((do let a ← Instr.makeSlice ty (opd T l) (opd T c); pure (Next.value a)).run P W) x := by
  unfold opMakeSlice at k
  split at k
  · rename_i elem l' c' hu hl hc
    split at k
    · rename_i size bytes z hsz hby hz
      cases hb0 : Nat.ble l' c' with
      | false => rw [hb0] at k; cases k
      | true =>
        cases hb1 : Nat.ble ((c' + 1) * (bytes + 1)) 1000000 with
        | false => rw [hb0, hb1] at k; cases k
        | true =>
          cases hb2 : Nat.beq z.cells.length size with
          | false => rw [hb0, hb1, hb2] at k; cases k
          | true =>
            rw [hb0, hb1, hb2] at k
            simp only [cond_true] at k
            split at k
            · rename_i b h' kn
              cases k
              have hlc := Nat.le_of_ble_eq_true hb0
              have hbd := Nat.le_of_ble_eq_true hb1
              have hlen := Nat.eq_of_beq_eq_true hb2
              obtain ⟨inf, hi1, hi2⟩ := run_bytesOf hby
              obtain ⟨Z, hZ, hZr⟩ := zero_rel hz
              have hsize : Z.cells.size = size := by rw [← hlen, (hZr e).cells.length]; simp
              have e1 := ev_rel hT hl
              have e2 := ev_rel hT hc
              generalize opd T l = L at e1
              generalize opd T c = C at e2
              cases e1; cases e2
              obtain ⟨e', h1, h2, h3⟩ := new_cells r (repl_rel (hZr e).cells c') kn
              refine sim_val (V := .slice (some ⟨W.heap.size, 0, none⟩) l' c') ?_ h1 (.slice h2) h3
              have hc1 : c' + 1 ≤ (c' + 1) * (bytes + 1) := Nat.le_mul_of_pos_right _ (by omega)
              have hcb : bytes * c' ≤ 1000000 := by
                have : bytes * c' ≤ (bytes + 1) * (c' + 1) := Nat.mul_le_mul (by omega) (by omega)
                rw [Nat.mul_comm (bytes + 1)] at this
                omega
              have w1 : IntKind.i64.wrap (Int.ofNat l') = (l' : Int) := IntWalk.i64_in _ ⟨by show _ ≤ (l' : Int); omega, by show (l' : Int) ≤ _; omega⟩
              have w2 : IntKind.i64.wrap (Int.ofNat c') = (c' : Int) := IntWalk.i64_in _ ⟨by show _ ≤ (c' : Int); omega, by show (c' : Int) ≤ _; omega⟩
              simp only [Instr.makeSlice, asInt, asIntOf, Sem.run_bind', run_underlying hu, run_pure', run_typeInfo hi1, hi2, w1, w2]
              have g1 : ¬ ((decide ((c' : Int) < 0) || decide ((bytes : Int) * c' > 2 ^ 48) || decide ((l' : Int) < 0) || decide ((l' : Int) > c')) = true) := by
                have h9 : ((bytes * c' : Nat) : Int) ≤ 1000000 := by omega
                rw [Int.natCast_mul] at h9
                simp only [Bool.or_eq_true, decide_eq_true_eq]
                omega
              rw [if_neg (by simpa using g1)]
              have hroom : ¬ (c' * bytes > roomBytes) := by unfold roomBytes; rw [Nat.mul_comm]; omega
              simp only [askRoom, Int.toNat_natCast, if_neg hroom, Sem.run_bind', run_pure', run_sizeOf hsz]
              by_cases h0 : c' * size = 0
              · have h5 : repl Z.cells.toList c' = [] := List.eq_nil_of_length_eq_zero (by rw [repl_length]; simp [hsize, h0])
                rw [h5]
                rw [if_pos h0]
                have h6 : ∀ f : Nat → Value, Array.map f (Array.range (c' * size)) = ([] : List Value).toArray := fun f => by rw [h0]; simp
                simp only [Sem.run_bind', run_pure', h6, run_newRow]
              · rw [if_neg h0]
                have h6 : Array.map (fun i => Z.cells[i % Z.cells.size]!) (Array.range (c' * size)) = (repl Z.cells.toList c').toArray := by rw [← hsize]; exact range_repl Z.cells c'
                simp only [Sem.run_bind', hZ, run_pure', h6, run_newRow]
            · cases k
    · cases k
  · cases k
end
end Go.AbsE
