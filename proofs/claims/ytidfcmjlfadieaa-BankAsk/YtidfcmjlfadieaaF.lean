import Derived.Test.YtidfcmjlfadieaaD
set_option linter.unusedSimpArgs false
namespace Go.AbsE
open Go

/-! ### types, operands -/
section
variable {P : Program} {W : World}
theorem run_underlying {t : TypeId} {d : TypeDesc} (h : P.underlying t = some d) : (underlying t).run P W = .ok d W := by
  simp [underlying, Sem.run_bind', program, Sem.run, h, run_pure']
theorem run_typeInfo {t : TypeId} {d : TypeInfo} (h : P.info? t = some d) : (typeInfo t).run P W = .ok d W := by
  simp [typeInfo, Sem.run_bind', program, Sem.run, h, run_pure']
theorem run_sizeOf {t : TypeId} {n : Nat} (h : sizeT P t = some n) : (sizeOf t).run P W = .ok n W := by
  unfold sizeT at h
  split at h
  · rename_i i hi; cases h; simp [sizeOf, Sem.run_bind', run_typeInfo hi, run_pure']
  · cases h
theorem run_bytesOf {t : TypeId} {n : Nat} (h : bytesT P t = some n) : ∃ i, P.info? t = some i ∧ i.bytes = n := by
  unfold bytesT at h
  split at h
  · rename_i i hi; cases h; exact ⟨i, hi, rfl⟩
  · cases h
theorem run_isAgg {t : TypeId} {b : Bool} (h : isAggT P t = some b) : (isAgg t).run P W = .ok b W := by
  unfold isAggT at h
  cases hu : P.underlying t with
  | none => rw [hu] at h; cases h
  | some d =>
    rw [hu] at h
    simp only [isAgg, Sem.run_bind', run_underlying hu]
    cases d <;> cases h <;> rfl
end

theorem absS_rel {e : Env} : ∀ {v : Value} {a : AVal}, absS v = some a → VR e a v := by
  intro v a h
  unfold absS at h
  split at h <;> cases h
  · exact .int _ _
  · exact .bool _
  · exact .str _
  · exact .nilptr
  · exact .nilslice
  · exact .nilmap
  · exact .nilfunc
  · exact .nilIface

theorem mapS_rel {e : Env} : ∀ {l : List Value} {m : List AVal}, mapO absS l = some m → VRs e m l := by
  intro l
  induction l with
  | nil => intro m h; simp [mapO] at h; subst h; exact .nil
  | cons v l ih =>
    intro m h
    simp only [mapO] at h
    split at h
    · rename_i b hb
      split at h
      · rename_i l' hl; cases h; exact .cons (absS_rel hb) (ih hl)
      · cases h
    · cases h

theorem absV_rel {e : Env} {v : Value} {a : AVal} (h : absV v = some a) : VR e a v := by
  unfold absV at h
  split at h
  · rename_i cs
    split at h
    · rename_i l hl; cases h; have := VR.agg (mapS_rel (e := e) hl); simpa using this
    · cases h
  · rename_i cs
    split at h
    · rename_i l hl; cases h; have := VR.tuple (mapS_rel (e := e) hl); simpa using this
    · cases h
  · split at h
    · rename_i t v a' ha; cases h; exact .iface (absS_rel ha)
    · cases h
  · cases h
  · rename_i hne
    cases h
    exact .func (F := []) (C := []) (fun l he => hne l he) .nil .nil
  · exact absS_rel h

def opd (T : Array Value) : Operand → Value
  | .tmp t => T.getD t undef
  | .const v => v
  | .global g => .pointer (some ⟨g, 0, none⟩)
  | .func f => .func (.func f) #[] #[]

theorem eval_opd (fr : Frame) : fr.eval = opd fr.tmps := by funext x; cases x <;> rfl

theorem ev_rel {e : Env} {n : Nat} {t : Tr AVal} {T : Array Value} (hT : TRel e n t T) {x : Operand} {a : AVal} (h : ev t x = some a) : VR e a (opd T x) := by
  cases x with
  | tmp i =>
    obtain ⟨V, h1, h2⟩ := hT.2.2 i a (by rw [← Tr.mkGet_eq]; exact h)
    simp only [opd, Array.getD_eq_getD_getElem?, h1]
    exact h2
  | const v => exact absV_rel h
  | global g => cases h
  | func f => cases h; exact .func (F := []) (C := []) (fun l he => by cases he) .nil .nil

theorem evs_rel {e : Env} {n : Nat} {t : Tr AVal} {T : Array Value} (hT : TRel e n t T) : ∀ {l : List Operand} {m : List AVal}, evs t l = some m → VRs e m (l.map (opd T)) := by
  intro l
  unfold evs
  induction l with
  | nil => intro m h; simp [mapO] at h; subst h; exact .nil
  | cons x l ih =>
    intro m h
    simp only [mapO] at h
    split at h
    · rename_i b hb
      split at h
      · rename_i l' hl; cases h; exact .cons (ev_rel hT hb) (ih hl)
      · cases h
    · cases h

theorem zero_rel {P : Program} {t : TypeId} {z : AVal} (h : zeroT P t = some z) : ∃ v, (∀ W, (zeroValue t).run P W = .ok v W) ∧ ∀ e, VR e z v := by
  unfold zeroT at h
  split at h
  · rename_i i hi
    split at h
    · rename_i v hv
      exact ⟨v, fun W => by simp [zeroValue, Sem.run_bind', run_typeInfo hi, hv, run_pure'], fun e => absV_rel h⟩
    · cases h
  · cases h

theorem VR.cells {e : Env} {a : AVal} {v : Value} (h : VR e a v) : VRs e a.cells v.cells.toList := by
  cases h with
  | agg h => simpa [AVal.cells, Value.cells] using h
  | int k n => exact .cons (.int k n) .nil
  | bool b => exact .cons (.bool b) .nil
  | str s => exact .cons (.str s) .nil
  | nilptr => exact .cons .nilptr .nil
  | ptr h => exact .cons (.ptr h) .nil
  | nilslice => exact .cons .nilslice .nil
  | slice h => exact .cons (.slice h) .nil
  | gsl h => exact .cons (.gsl h) .nil
  | nilmap => exact .cons .nilmap .nil
  | map h => exact .cons (.map h) .nil
  | nilfunc => exact .cons .nilfunc .nil
  | func a b c => exact .cons (.func a b c) .nil
  | yield h => exact .cons (.yield h) .nil
  | nilIface => exact .cons .nilIface .nil
  | iface h => exact .cons (.iface h) .nil
  | tuple h => exact .cons (.tuple h) .nil
  | lit hi h => exact .cons (.lit hi h) .nil

/-! ### loads and stores -/
section
variable {P : Program} {w0 : Base} {e : Env} {h : AH} {W : World}

theorem slice?_eq {α : Type} {l m : List α} {off n : Nat} (k : slice? l off n = some m) : m = (l.drop off).take n ∧ off + n ≤ l.length ∨ (n = 0 ∧ m = []) := by
  unfold slice? at k
  dsimp only at k
  cases hb : Nat.beq ((l.drop off).take n).length n with
  | false => rw [hb] at k; cases k
  | true =>
    rw [hb] at k
    have := Nat.eq_of_beq_eq_true hb
    rw [List.length_take, List.length_drop] at this
    cases k
    by_cases hn : n = 0
    · right; subst hn; simp
    · left; exact ⟨rfl, by omega⟩

theorem loadCells_sim (r : HR P w0 e h W) {b off n : Nat} {cs : List AVal} (k : loadCells h b off n = some cs) :
    ∃ B c CS, e b = some (B, c) ∧ VRs e cs CS ∧ CS.length = n ∧ (Go.loadCells ⟨B, off, none⟩ n).run P W = .ok CS.toArray W := by
  unfold loadCells at k
  split at k
  · rename_i g cs0 elem hb
    obtain ⟨B, c, O, k1, k2, k3, k4⟩ := r.blk _ _ hb
    cases k4 with
    | cells hv hg hc =>
      rename_i CS junk
      rcases slice?_eq k with ⟨rfl, hl⟩ | ⟨rfl, rfl⟩
      · have hlen := hv.length
        have hv2 := (hv.drop off).take n
        have e1 : ((CS ++ junk).drop off).take n = (CS.drop off).take n := by
          rw [List.drop_append_of_le_length (by omega), List.take_append_of_le_length (by simp; omega)]
        refine ⟨B, c, (CS.drop off).take n, k1, hv2, by simp; omega, ?_⟩
        rw [run_loadCells' k3 (by simp; omega), e1]
      · exact ⟨B, c, [], k1, .nil, rfl, by simp [Go.loadCells, loadCellsFrom, run_pure']⟩
  · rename_i lo cs0 hb
    obtain ⟨B, c, O, k1, k2, k3, k4⟩ := r.blk _ _ hb
    cases k4 with
    | win hv hp =>
      rename_i elem PRE CS junk fr
      cases hle : Nat.ble lo off with
      | false => rw [hle] at k; cases k
      | true =>
        rw [hle] at k
        have hle := Nat.le_of_ble_eq_true hle
        rcases slice?_eq k with ⟨rfl, hl⟩ | ⟨rfl, rfl⟩
        · have hlen := hv.length
          have hv2 := (hv.drop (off - lo)).take n
          have e1 : ((PRE ++ (CS ++ junk)).drop off).take n = (CS.drop (off - lo)).take n := by
            have : off = PRE.length + (off - lo) := by omega
            rw [this, ← List.drop_drop, List.drop_left, List.drop_append_of_le_length (by omega), List.take_append_of_le_length (by simp; omega)]
            congr 2
            omega
          refine ⟨B, c, (CS.drop (off - lo)).take n, k1, hv2, by simp; omega, ?_⟩
          rw [run_loadCells' k3 (by simp; omega), e1]
        · exact ⟨B, c, [], k1, .nil, rfl, by simp [Go.loadCells, loadCellsFrom, run_pure']⟩
  · cases k

theorem one_cell (r : HR P w0 e h W) {b off : Nat} {v : AVal} (k : loadCells h b off 1 = some [v]) :
    ∃ B c V, e b = some (B, c) ∧ VR e v V ∧ W.cell? ⟨B, off, none⟩ = some V := by
  unfold loadCells at k
  split at k
  · rename_i g cs0 elem hb
    obtain ⟨B, c, O, k1, k2, k3, k4⟩ := r.blk _ _ hb
    cases k4 with
    | cells hv hg hc =>
      rename_i CS junk
      rcases slice?_eq k with ⟨h1, hl⟩ | ⟨h1, _⟩
      · have hlt : off < cs0.length := by omega
        have h2 : cs0[off]? = some v := by
          have : ((cs0.drop off).take 1)[0]? = some v := by rw [← h1]; rfl
          simpa [List.getElem?_take, List.getElem?_drop] using this
        obtain ⟨V, h3, h4⟩ := hv.get off h2
        have hlt' : off < CS.length := by rw [← hv.length]; exact hlt
        exact ⟨B, c, V, k1, h4, by rw [cell_of_block k3, List.getElem?_toArray, List.getElem?_append_left hlt']; exact h3⟩
      · omega
  · rename_i lo cs0 hb
    obtain ⟨B, c, O, k1, k2, k3, k4⟩ := r.blk _ _ hb
    cases k4 with
    | win hv hp =>
      rename_i elem PRE CS junk fr
      cases hle : Nat.ble lo off with
      | false => rw [hle] at k; cases k
      | true =>
        rw [hle] at k
        have hle := Nat.le_of_ble_eq_true hle
        rcases slice?_eq k with ⟨h1, hl⟩ | ⟨h1, _⟩
        · have hlt : off - lo < cs0.length := by omega
          have h2 : cs0[off - lo]? = some v := by
            have : ((cs0.drop (off - lo)).take 1)[0]? = some v := by rw [← h1]; rfl
            simpa [List.getElem?_take, List.getElem?_drop] using this
          obtain ⟨V, h3, h4⟩ := hv.get (off - lo) h2
          have hlt' : off - lo < CS.length := by rw [← hv.length]; exact hlt
          refine ⟨B, c, V, k1, h4, ?_⟩
          rw [cell_of_block k3, List.getElem?_toArray, List.getElem?_append_right (by omega), hp, List.getElem?_append_left hlt']
          exact h3
        · omega
  · cases k

theorem loadVar_sim (r : HR P w0 e h W) {t : TypeId} {b off : Nat} {v : AVal} (k : loadVar P h t b off = some v) :
    ∃ B c V, e b = some (B, c) ∧ VR e v V ∧ (Go.loadVar t ⟨B, off, none⟩).run P W = .ok V W := by
  unfold loadVar at k
  split at k
  · rename_i ha
    split at k
    · rename_i n hn
      split at k
      · rename_i cs hcs
        cases k
        obtain ⟨B, c, CS, k1, k2, k3, k4⟩ := loadCells_sim r hcs
        refine ⟨B, c, _, k1, .agg k2, ?_⟩
        simp [Go.loadVar, Sem.run_bind', run_isAgg ha, run_sizeOf hn, k4, run_pure']
      · cases k
    · cases k
  · rename_i ha
    split at k
    · rename_i v' hv
      cases k
      obtain ⟨B, c, V, k1, k2, k3⟩ := one_cell r hv
      refine ⟨B, c, V, k1, k2, ?_⟩
      simp [Go.loadVar, Sem.run_bind', run_isAgg ha, load, Sem.run, k3]
    · cases k
  · cases k

theorem storeCells_sim (r : HR P w0 e h W) {b off : Nat} {vs : List AVal} {VS : List Value} (hv : VRs e vs VS) {h' : AH} (k : storeCells h b off vs = some h') :
    ∃ B c W', e b = some (B, c) ∧ HR P w0 e h' W' ∧ (Go.storeCells ⟨B, off, none⟩ VS).run P W = .ok () W' := by
  unfold storeCells at k
  split at k
  · rename_i g cs0 elem hb
    obtain ⟨B, c, O, k1, k2, k3, k4⟩ := r.blk _ _ hb
    cases k4 with
    | cells hcs hg hc =>
      rename_i CS junk
      cases hgr : g.isRo with
      | true => rw [hgr] at k; cases k
      | false =>
       cases hs : scalars vs with
       | false => rw [hgr, hs] at k; cases k
       | true =>
        rw [hgr, hs] at k
        simp only [cond_true, cond_false] at k
        split at k
        · rename_i cs1 hsp
          obtain ⟨j1, j2⟩ := hcs.splice off hv hsp
          have e1 : spliced (CS ++ junk) off VS = (CS.take off ++ VS ++ CS.drop (off + VS.length)) ++ junk := by
            unfold spliced
            rw [List.take_append_of_le_length (by omega), List.drop_append_of_le_length (by omega)]
            simp
          have hrun := run_storeCells (P := P) (B := B) (off := off) (el := elem) VS 0 (CS ++ junk) W (plain_of_scalars hv hs) k3 (by simp only [List.length_append]; omega)
          refine ⟨B, c, _, k1, ?_, hrun⟩
          have hlen : (CS.take off ++ VS ++ CS.drop (off + VS.length)).length = CS.length := by simp; omega
          refine r.set hb hgr k1 k ?_
          rw [show off + 0 = off from rfl, e1]
          refine .cells j1 hg (fun hgt => ?_)
          obtain ⟨size, s1, s2⟩ := hc hgt
          exact ⟨size, s1, by rw [← s2]; simp only [List.length_append] at hlen ⊢; omega⟩
        · cases k
  · cases k

theorem storeVar_sim (r : HR P w0 e h W) {t : TypeId} {b off : Nat} {v : AVal} {V : Value} (hv : VR e v V) {h' : AH} (k : storeVar P h t b off v = some h') :
    ∃ B c W', e b = some (B, c) ∧ HR P w0 e h' W' ∧ (Go.storeVar t ⟨B, off, none⟩ V).run P W = .ok () W' := by
  unfold storeVar at k
  split at k
  · rename_i n hn
    cases hb : Nat.beq v.cells.length n with
    | false => rw [hb] at k; cases k
    | true =>
      rw [hb] at k
      have hlen := Nat.eq_of_beq_eq_true hb
      obtain ⟨B, c, W', k1, k2, k3⟩ := storeCells_sim r hv.cells k
      refine ⟨B, c, W', k1, k2, ?_⟩
      have : V.cells.size = n := by rw [← hlen, hv.cells.length]; simp
      simp [Go.storeVar, Sem.run_bind', run_sizeOf hn, this, k3]
  · cases k

theorem partT_sim {t : TypeId} {cs : List AVal} {CS : List Value} {off : Nat} {v : AVal} (hv : VRs e cs CS) (k : partT P t cs off = some v) :
    ∃ V, VR e v V ∧ ∀ W, (part t CS.toArray off).run P W = .ok V W := by
  unfold partT at k
  split at k
  · rename_i ha
    split at k
    · rename_i n hn
      split at k
      · rename_i l hl
        cases k
        rcases slice?_eq hl with ⟨rfl, hle⟩ | ⟨rfl, rfl⟩
        · refine ⟨_, .agg ((hv.drop off).take n), fun W => ?_⟩
          simp [part, Sem.run_bind', run_isAgg ha, run_sizeOf hn, run_pure', List.extract_toArray, List.extract_eq_take_drop]
        · refine ⟨_, .agg .nil, fun W => ?_⟩
          simp [part, Sem.run_bind', run_isAgg ha, run_sizeOf hn, run_pure']
      · cases k
    · cases k
  · rename_i ha
    split at k
    · rename_i v' hv'
      cases k
      rcases slice?_eq hv' with ⟨h1, hle⟩ | ⟨h1, _⟩
      · have h2 : cs[off]? = some v := by
          have : ((cs.drop off).take 1)[0]? = some v := by rw [← h1]; rfl
          simpa [List.getElem?_take, List.getElem?_drop] using this
        obtain ⟨V, h3, h4⟩ := hv.get off h2
        refine ⟨V, h4, fun W => ?_⟩
        simp [part, Sem.run_bind', run_isAgg ha, h3, run_pure']
      · omega
    · cases k
  · cases k
end
end Go.AbsE
