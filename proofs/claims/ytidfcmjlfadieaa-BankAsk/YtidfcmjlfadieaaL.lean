import Derived.Test.YtidfcmjlfadieaaK
set_option linter.unusedSimpArgs false
namespace Go.AbsE
open Go

section
variable {P : Program} {w0 : Base} {e : Env} {h : AH} {W : World}

theorem firstCells_heap {size n : Nat} {S : Value} {NEW : Array Value} {s : AVal} {cs : List AVal} (r : HR P w0 e h W) (hs : VR e s S) (k : srcCells h size n s = some cs)
    (hn : (Builtin.firstCells size n S).run P W = .ok NEW W) : ∀ W', W'.heap = W.heap → (Builtin.firstCells size n S).run P W' = .ok NEW W' := by
  intro W' hW
  have r' : HR P w0 e h { W with drawn := W'.drawn } := r.drew _
  unfold srcCells at k
  have key : ∀ {B c off m : Nat} {CS : List Value}, (Go.loadCells ⟨B, off, none⟩ m).run P W = .ok CS.toArray W → (∃ b cs, e b = some (B, c) ∧ loadCells h b off m = some cs) →
      (Go.loadCells ⟨B, off, none⟩ m).run P W' = .ok CS.toArray W' := by
    rintro B c off m CS hr ⟨b, cs, hb, hl⟩
    unfold loadCells at hl
    split at hl
    · rename_i g cs0 elem hg
      obtain ⟨B', c', O, k1, k2, k3, k4⟩ := r.blk _ _ hg
      rw [k1] at hb; cases hb
      cases k4 with
      | cells hv _ _ =>
        rename_i C junk
        rcases slice?_eq hl with ⟨_, hle⟩ | ⟨rfl, _⟩
        · have q1 := run_loadCells' (P := P) (off := off) (n := m) k3 (by simp only [List.length_append]; have := hv.length; omega)
          have q2 := run_loadCells' (P := P) (W := W') (off := off) (n := m) (hW ▸ k3) (by simp only [List.length_append]; have := hv.length; omega)
          rw [q1] at hr
          rw [q2]
          injection hr with h1 h2
          rw [h1]
        · simp [Go.loadCells, loadCellsFrom, run_pure'] at hr ⊢
          exact hr
    · rename_i lo cs0 hg
      obtain ⟨B', c', O, k1, k2, k3, k4⟩ := r.blk _ _ hg
      rw [k1] at hb; cases hb
      cases k4 with
      | win hv hp =>
        rename_i elem PRE C junk fr
        cases hle : Nat.ble lo off with
        | false => rw [hle] at hl; cases hl
        | true =>
          rw [hle] at hl
          have hle := Nat.le_of_ble_eq_true hle
          rcases slice?_eq hl with ⟨_, hle2⟩ | ⟨rfl, _⟩
          · have q1 := run_loadCells' (P := P) (off := off) (n := m) k3 (by simp only [List.length_append]; have := hv.length; omega)
            have q2 := run_loadCells' (P := P) (W := W') (off := off) (n := m) (hW ▸ k3) (by simp only [List.length_append]; have := hv.length; omega)
            rw [q1] at hr
            rw [q2]
            injection hr with h1 h2
            rw [h1]
          · simp [Go.loadCells, loadCellsFrom, run_pure'] at hr ⊢
            exact hr
    · cases hl
  split at k
  · cases hs
    simp only [Builtin.firstCells, run_pure'] at hn ⊢
    injection hn with h1 h2
    rw [h1]
  · cases hs with
    | slice hb =>
      obtain ⟨B, c, CS, k1, k2, k3, k4⟩ := loadCells_sim r k
      rw [k1] at hb; cases hb
      simp only [Builtin.firstCells] at hn ⊢
      rw [k4] at hn; cases hn
      exact key k4 ⟨_, _, k1, k⟩
  · cases hs with
    | gsl hb =>
      obtain ⟨B, c, CS, k1, k2, k3, k4⟩ := loadCells_sim r k
      rw [k1] at hb; cases hb
      simp only [Builtin.firstCells] at hn ⊢
      rw [k4] at hn; cases hn
      exact key k4 ⟨_, _, k1, k⟩
  · cases hs with
    | lit hi hc =>
      obtain ⟨⟨el, h1⟩, _⟩ := r.imm _ _ hi
      have h3 := hc.length
      simp only [Builtin.firstCells] at hn ⊢
      rcases slice?_eq k with ⟨_, h2⟩ | ⟨h2, _⟩
      · have q1 := run_loadCells' (P := P) (off := 0) (n := n * size) h1 (by omega)
        have q2 := run_loadCells' (P := P) (W := W') (off := 0) (n := n * size) (hW ▸ h1) (by omega)
        rw [q1] at hn
        rw [q2]
        injection hn with g1 g2
        rw [g1]
      · rw [h2] at hn ⊢
        simp [Go.loadCells, loadCellsFrom, run_pure'] at hn ⊢
        exact hn
  · cases k

theorem run_lenOf {s : AVal} {n : Nat} (k : lenA s = some n) {S : Value} (hs : VR e s S) : (Builtin.lenOf S).run P W = .ok n W := by
  obtain ⟨base, cap, rfl⟩ := lenA_rel k hs
  rfl

theorem aAppend_sim (r : HR P w0 e h W) {t1 t2 ty : TypeId} {s x : AVal} {S X : Value} (hs : VR e s S) (hx : VR e x X) {y : ANext} (k : aAppend P h t1 t2 s x = some y) :
    OpSim P w0 e h W ((do let a ← Builtin.append_ #[t1, t2] ty #[S, X]; pure (Next.value a)).run P W) y := by
  unfold aAppend at k
  split at k
  · rename_i el el2 hu1 hu2
    split at k
    · rename_i size bytes z sl n hsz hby hz hsl hn
      split at k
      · cases k
      · rename_i new hnew
        cases b1 : Nat.blt ((sl + n + 300) * 2 * (bytes + 1)) 281474976710656 with
        | false => rw [b1] at k; cases k
        | true =>
        cases b2 : Nat.blt 0 size with
        | false => rw [b1, b2] at k; cases k
        | true =>
        cases b3 : Nat.beq z.cells.length size with
        | false => rw [b1, b2, b3] at k; cases k
        | true =>
        rw [b1, b2, b3] at k
        simp only [cond_true] at k
        have p1 := blt_true b1
        have p2 := blt_true b2
        have p3 := Nat.eq_of_beq_eq_true b3
        obtain ⟨inf, hi1, hi2⟩ := run_bytesOf hby
        obtain ⟨Z, hZ, hZr⟩ := zero_rel hz
        have hzs : Z.cells.size = size := by rw [← p3, (hZr e).cells.length]; simp
        obtain ⟨NEW, hN1, hN2⟩ := srcCells_sim r hnew hx
        have hNl : NEW.length = n * size := by rw [← hN1.length]; exact srcCells_len hnew r hn
        have hlenX := run_lenOf (P := P) (W := W) hn hx
        have hNh := firstCells_heap r hx hnew hN2
        -- what a growth comes to
        have grow : ∀ {base : Option Addr} {cap : Nat} {old : List AVal} {OLD : List Value} {h1 : AH}, HR P w0 e h1 W → S = .slice base sl cap → ¬ sl + n ≤ cap → VRs e old OLD → OLD.length = sl * size →
            (∀ W', W'.heap = W.heap → (Builtin.firstCells size sl (.slice base sl cap)).run P W' = .ok OLD.toArray W') →
            growNew h1 el (old ++ new) (sl + n) = some y →
            OpSim P w0 e h W ((do let a ← Builtin.append_ #[t1, t2] ty #[S, X]; pure (Next.value a)).run P W) y := by
          intro base cap old OLD h1 r1 hS hno hold holdl hof kg
          subst hS
          obtain ⟨newCap, g1, g2⟩ := run_append_grow (ty := ty) hu1 hu2 hsz hi1 hi2 hZ hlenX hNh hof hno p1
          obtain ⟨e', b, h', rfl, q1, q2, q3⟩ := growNew_sim (W := W) r1 hsz (hold.append hN1) (REST := (Builtin.zeroCells Z.cells (newCap - (sl + n))).toList) (newCap := newCap)
            (by simp only [List.length_append, holdl, hNl, zeroCells_length, hzs]; rw [← Nat.add_mul, ← Nat.add_mul]; congr 1; omega) kg (W.drawn + 1)
          refine ⟨e', _, _, .inl (by rw [Sem.run_bind', g2]; rfl), q1, .gsl q2, ?_⟩
          have : (OLD.toArray ++ NEW.toArray ++ Builtin.zeroCells Z.cells (newCap - (sl + n))) = (OLD ++ NEW ++ (Builtin.zeroCells Z.cells (newCap - (sl + n))).toList).toArray := by simp
          rw [this]; exact q3
        split at k
        · cases hs
          simp [lenA] at hsl
          subst hsl
          cases b4 : Nat.beq n 0 with
          | true =>
            rw [b4] at k
            cases k
            have := Nat.eq_of_beq_eq_true b4
            subst this
            refine sim_pure r (run_append_fit (W' := W) hu1 hu2 hsz hlenX hN2 (by omega) rfl) ?_
            exact .nilslice
          | false =>
            rw [b4] at k
            have hn0 : n ≠ 0 := fun q => by subst q; simp at b4
            refine grow (old := []) (OLD := []) r rfl (by omega) .nil (by simp) (fun W' _ => rfl) ?_
            simpa using k
        · rename_i b off len cap
          have hs0 := hs
          cases hs with
          | slice hb =>
            rename_i B c
            simp [lenA] at hsl
            subst hsl
            unfold appSlice at k
            cases b4 : Nat.ble (len + n) cap with
            | true =>
              rw [b4] at k
              simp only [cond_true] at k
              have p4 := Nat.le_of_ble_eq_true b4
              split at k
              · rename_i h' hst
                cases k
                obtain ⟨B', c', W', k1, k2, k3⟩ := storeCells_sim r hN1 hst
                rw [k1] at hb; cases hb
                refine sim_val (run_append_fit (W' := W') hu1 hu2 hsz hlenX hN2 p4 ?_) (Env.le_refl e) (.slice k1) k2
                simp only [addr_add]
                exact k3
              · cases k
            | false =>
              rw [b4] at k
              simp only [cond_false] at k
              have p4 : ¬ len + n ≤ cap := fun q => by rw [Nat.ble_eq_true_of_le q] at b4; cases b4
              split at k
              · rename_i old hold
                obtain ⟨OLD, o1, o2⟩ := srcCells_sim r hold hs0
                have ol : OLD.length = len * size := by rw [← o1.length]; exact srcCells_len hold r rfl
                exact grow r rfl p4 o1 ol (firstCells_heap r hs0 hold o2) k
              · cases k
        · rename_i b off i len
          have hs0 := hs
          cases hs with
          | gsl hb =>
            rename_i B c
            simp [lenA] at hsl
            subst hsl
            unfold appGsl at k
            split at k
            · rename_i cs el' hg
              cases b4 : Nat.beq off (i * size) with
              | false => rw [b4] at k; cases k
              | true =>
              cases b5 : eqSize P el' size with
              | false => rw [b4, b5] at k; cases k
              | true =>
              cases b6 : Nat.beq el' el with
              | false => rw [b4, b5, b6] at k; cases k
              | true =>
              rw [b4, b5, b6] at k
              simp only [cond_true] at k
              have p4 := Nat.eq_of_beq_eq_true b4
              have p6 := Nat.eq_of_beq_eq_true b6
              subst p6
              obtain ⟨B', c', O, k1, k2, k3, k4⟩ := r.blk _ _ hg
              rw [hb] at k1; cases k1
              cases k4 with
              | cells hcs hg0 hcap =>
                rename_i CS junk
                obtain ⟨size', z1, z2⟩ := hcap rfl
                rw [hsz] at z1; cases z1
                cases b7 : Nat.ble (off + (len + n) * size) cs.length with
                | true =>
                  rw [b7] at k
                  simp only [cond_true] at k
                  have p7 := Nat.le_of_ble_eq_true b7
                  have hcl : i + (len + n) ≤ c := by
                    have g1 : (i + (len + n)) * size ≤ c * size := by
                      have := hcs.length
                      rw [← z2, Nat.add_mul]; simp; omega
                    exact Nat.le_of_mul_le_mul_right g1 p2
                  split at k
                  · rename_i h' hst
                    cases k
                    obtain ⟨B', c', W', m1, m2, m3⟩ := storeCells_sim r hN1 hst
                    rw [hb] at m1; cases m1
                    refine sim_val (run_append_fit (W' := W') hu1 hu2 hsz hlenX hN2 (by omega) ?_) (Env.le_refl e) (.gsl hb) m2
                    simp only [addr_add]
                    exact m3
                  · cases k
                | false =>
                  rw [b7] at k
                  simp only [cond_false] at k
                  cases b8 : Nat.beq i 0 with
                  | false => rw [b8] at k; cases k
                  | true =>
                  cases b9 : scalars new with
                  | false => rw [b8, b9] at k; cases k
                  | true =>
                  rw [b8, b9] at k
                  simp only [cond_true] at k
                  have p8 := Nat.eq_of_beq_eq_true b8
                  subst p8
                  simp at p4
                  subst p4
                  have p7 : ¬ (len + n) * size ≤ cs.length := fun q => by rw [Nat.ble_eq_true_of_le (by omega)] at b7; cases b7
                  split at k
                  · rename_i old hold
                    split at k
                    · rename_i h1 hd
                      obtain ⟨OLD, o1, o2⟩ := srcCells_sim r hold hs0
                      have ol : OLD.length = len * size := by rw [← o1.length]; exact srcCells_len hold r rfl
                      by_cases hfit : len + n ≤ c
                      · -- there was room
                        unfold growNew at k
                        split at k
                        · rename_i b' h' kn
                          cases k
                          have hin : len * size ≤ cs.length ∧ OLD = CS.take (len * size) := by
                            simp only [srcCells, loadCells, hg] at hold
                            rcases slice?_eq hold with ⟨q1, q2⟩ | ⟨q1, q2⟩
                            · refine ⟨by omega, ?_⟩
                              have q3 := run_loadCells' (P := P) (off := 0) (n := len * size) k3 (by simp only [List.length_append]; have := hcs.length; omega)
                              have q4 : (Builtin.firstCells size len (.slice (some ⟨B, 0, none⟩) len (c - 0))).run P W = .ok OLD.toArray W := o2
                              simp only [Builtin.firstCells] at q4
                              rw [q3] at q4
                              injection q4 with q5 _
                              have q6 := congrArg Array.toList q5
                              simp at q6
                              rw [← q6, List.take_append_of_le_length (by rw [← hcs.length]; omega)]
                            · rw [q1]
                              refine ⟨by omega, ?_⟩
                              have : OLD.length = 0 := by rw [ol, q1]
                              simp [List.eq_nil_of_length_eq_zero this]
                          obtain ⟨hin1, hin2⟩ := hin
                          have hcl := hcs.length
                          have hroom : (len + n) * size ≤ (CS ++ junk).length := by rw [z2]; exact Nat.mul_le_mul_right _ hfit
                          have hrun := run_storeCells (P := P) (B := B) (off := len * size) (el := el') NEW 0 (CS ++ junk) W (plain_of_scalars hN1 b9) k3
                            (by rw [hNl]; rw [Nat.add_mul] at hroom; omega)
                          rw [show len * size + 0 = len * size from rfl] at hrun
                          have hsp : spliced (CS ++ junk) (len * size) NEW = (OLD ++ NEW) ++ (CS ++ junk).drop ((len + n) * size) := by
                            unfold spliced
                            rw [List.take_append_of_le_length (by omega), hin2, hNl, ← Nat.add_mul]
                          rw [hsp] at hrun
                          have hb2 : BR P (e.ext h.next (B, c)) c (.cells .grow (old ++ new) el') (.cells ((OLD ++ NEW) ++ (CS ++ junk).drop ((len + n) * size)).toArray el' (0, 0)) := by
                            refine .cells ((o1.append hN1).mono (Env.le_ext r.fresh)) (fun q => by cases q) (fun _ => ⟨size, hsz, ?_⟩)
                            simp only [List.length_append, List.length_drop, ol, hNl]
                            simp only [List.length_append] at hroom z2
                            rw [Nat.add_mul] at hroom ⊢
                            omega
                          obtain ⟨m1, m2, m3⟩ := r.move hg rfl hb hd kn hb2
                          subst m1
                          refine sim_val (run_append_fit (W' := _) hu1 hu2 hsz hlenX hN2 (by omega) ?_) m2 (.gsl (Env.ext_same _ _ _)) m3
                          simp only [addr_add, Nat.zero_add]
                          exact hrun
                        · cases k
                      · exact grow (r.drop hg hd) rfl (by omega) o1 ol (firstCells_heap r hs0 hold o2) k
                    · cases k
                  · cases k
            · cases k
        · rename_i m cs0
          have hs0 := hs
          cases hs with
          | lit hi hc =>
            rename_i CS0 B
            simp [lenA] at hsl
            subst hsl
            cases b4 : Nat.beq n 0 with
            | true =>
              rw [b4] at k
              cases k
              have hn0 := Nat.eq_of_beq_eq_true b4
              subst hn0
              have hN0 : NEW = [] := List.eq_nil_of_length_eq_zero (by rw [hNl]; simp)
              refine sim_pure r (run_append_fit (W' := W) (cap := m) (sl := m) (base := some ⟨B, 0, none⟩) hu1 hu2 hsz hlenX hN2 (by omega) ?_) ?_
              · subst hN0; simp [Go.storeCells, run_pure']
              · exact .lit hi hc
            | false =>
              rw [b4] at k
              simp only [cond_false] at k
              have p4 : ¬ m + n ≤ m := by
                intro q
                have : n = 0 := by omega
                subst this; simp at b4
              split at k
              · rename_i old hold
                obtain ⟨OLD, o1, o2⟩ := srcCells_sim r hold hs0
                have ol : OLD.length = m * size := by rw [← o1.length]; exact srcCells_len hold r rfl
                exact grow r rfl p4 o1 ol (firstCells_heap r hs0 hold o2) k
              · cases k
        · cases k
    · cases k
  · cases k
end
end Go.AbsE
