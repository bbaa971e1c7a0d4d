import Derived.Test.YtidfcmjlfadieaaF
set_option linter.unusedSimpArgs false
namespace Go.AbsE
open Go

/-! ### what an operation comes to, in both machines -/
def OpSim (P : Program) (w0 : Base) (e : Env) (h : AH) (W : World) (r : Result Next) : ANext → Prop
  | .val v h' => ∃ e' V W', (r = .ok (.value V) W' ∨ (r = .ok .skip W' ∧ V = undef)) ∧ Env.le e e' ∧ VR e' v V ∧ HR P w0 e' h' W'
  | .enter f args h' => h' = h ∧ ∃ A : List Value, r = .ok (.enter f A.toArray) W ∧ VRs e args A
  | .round l args h' => h' = h ∧ ∃ L c, ∃ A : List Value, e l = some (L, c) ∧ VRs e args A ∧ r = (Instr.yield L A.toArray).run P W
  | .defer d h' => h' = h ∧ ∃ D, r = .ok (.defer D) W ∧ DR e d D
  | .recover h' => h' = h ∧ r = .ok .recover W
  | .panic v h' => h' = h ∧ ∃ V, r = .halt (.panic V) W ∧ VR e v V

section
variable {P : Program} {w0 : Base} {e : Env} {h : AH} {W : World}

theorem sim_val {s : Sem Value} {v : AVal} {h' : AH} {e' : Env} {V : Value} {W' : World} (hs : s.run P W = .ok V W') (he : Env.le e e') (hv : VR e' v V) (hr : HR P w0 e' h' W') :
    OpSim P w0 e h W ((do let a ← s; pure (Next.value a)).run P W) (.val v h') :=
  ⟨e', V, W', .inl (by simp [Sem.run_bind', hs, run_pure']), he, hv, hr⟩

theorem sim_pure (r : HR P w0 e h W) {s : Sem Value} {v : AVal} {V : Value} (hs : s.run P W = .ok V W) (hv : VR e v V) :
    OpSim P w0 e h W ((do let a ← s; pure (Next.value a)).run P W) (.val v h) :=
  sim_val hs (Env.le_refl e) hv r

theorem sim_unit {s : Sem Unit} {h' : AH} {W' : World} (hs : s.run P W = .ok () W') (hr : HR P w0 e h' W') :
    OpSim P w0 e h W ((do s; pure Next.skip).run P W) (.val undefA h') :=
  ⟨e, undef, W', .inr ⟨by simp [Sem.run_bind', hs, run_pure'], rfl⟩, Env.le_refl e, .tuple .nil, hr⟩

theorem valO_some {o : Option AVal} {x : ANext} (k : valO h o = some x) : ∃ v, o = some v ∧ x = .val v h := by
  unfold valO at k
  split at k
  · cases k; exact ⟨_, rfl, rfl⟩
  · cases k

theorem new_cells (r : HR P w0 e h W) {cs : List AVal} {CS : List Value} (hv : VRs e cs CS) {el : TypeId} {b : Nat} {h' : AH} (k : h.new (.cells .plain cs el) = some (b, h')) :
    ∃ e', Env.le e e' ∧ e' b = some (W.heap.size, 0) ∧ HR P w0 e' h' (World.add W (.cells CS.toArray el (0, 0))) := by
  have hle := Env.le_ext (x := (W.heap.size, 0)) r.fresh
  have hb : BR P (e.ext h.next (W.heap.size, 0)) 0 (.cells .plain cs el) (.cells (CS ++ []).toArray el (0, 0)) :=
    .cells (hv.mono hle) (fun _ => rfl) (fun x => by cases x)
  rw [List.append_nil] at hb
  obtain ⟨h1, h2, h3⟩ := r.new k hb
  subst h1
  exact ⟨_, h2, Env.ext_same _ _ _, h3⟩

theorem run_newRow (el : TypeId) (C : Array Value) : (newRow el C).run P W = .ok ⟨W.heap.size, 0, none⟩ (World.add W (.cells C el (0, 0))) := by
  simp [newRow, newObj, Sem.run_bind', Sem.run, run_pure', World.add]

theorem opPick_sim (r : HR P w0 e h W) {n t T} (hT : TRel e n t T) {c a b : Operand} {x : ANext} (k : opPick t h c a b = some x) :
    OpSim P w0 e h W ((do pure (Next.value (if ← asBool (opd T c) then opd T a else opd T b)) : Sem Next).run P W) x := by
  unfold opPick at k
  split at k
  · rename_i q hq
    have h1 := ev_rel hT hq
    generalize opd T c = C at h1
    cases h1
    cases q with
    | true =>
      obtain ⟨v, hv, rfl⟩ := valO_some (show valO h (ev t a) = some x from k)
      exact ⟨e, _, W, .inl (by simp [asBool, Sem.run_bind', run_pure']), Env.le_refl e, ev_rel hT hv, r⟩
    | false =>
      obtain ⟨v, hv, rfl⟩ := valO_some (show valO h (ev t b) = some x from k)
      exact ⟨e, _, W, .inl (by simp [asBool, Sem.run_bind', run_pure']), Env.le_refl e, ev_rel hT hv, r⟩
  · cases k

theorem ptrTo_some {q : Option (Nat × AH)} {x : ANext} (k : ptrTo q = some x) : ∃ b h', q = some (b, h') ∧ x = .val (.ptr b 0) h' := by
  unfold ptrTo at k
  split at k
  · cases k; exact ⟨_, _, rfl, rfl⟩
  · cases k

theorem opAlloc_sim (r : HR P w0 e h W) {el : TypeId} {x : ANext} (k : opAlloc P h el = some x) :
    OpSim P w0 e h W ((do let a ← Instr.alloc el true (.tuple #[]); pure (Next.value a)).run P W) x := by
  unfold opAlloc at k
  split at k
  · rename_i z hz
    obtain ⟨b, h', kn, rfl⟩ := ptrTo_some k
    obtain ⟨v, hv, hr⟩ := zero_rel hz
    obtain ⟨e', h1, h2, h3⟩ := new_cells r (hr e).cells kn
    refine sim_val (V := .pointer (some ⟨W.heap.size, 0, none⟩)) ?_ h1 (.ptr h2) h3
    simp [Instr.alloc, Sem.run_bind', hv, newVar, run_newRow, run_pure']
  · cases k

theorem opBox_sim (r : HR P w0 e h W) {n t T} (hT : TRel e n t T) {el : TypeId} {y : Operand} {x : ANext} (k : opBox t h el y = some x) :
    OpSim P w0 e h W ((do let a ← Instr.box el (opd T y); pure (Next.value a)).run P W) x := by
  unfold opBox at k
  split at k
  · rename_i z hz
    obtain ⟨b, h', kn, rfl⟩ := ptrTo_some k
    obtain ⟨e', h1, h2, h3⟩ := new_cells r (ev_rel hT hz).cells kn
    refine sim_val (V := .pointer (some ⟨W.heap.size, 0, none⟩)) ?_ h1 (.ptr h2) h3
    simp [Instr.box, Sem.run_bind', newVar, run_newRow, run_pure']
  · cases k

theorem opLoad_sim (r : HR P w0 e h W) {n t T} (hT : TRel e n t T) {ty : TypeId} {a : Operand} {x : ANext} (k : opLoad P t h ty a = some x) :
    OpSim P w0 e h W ((do let a ← Instr.loadAt ty (opd T a); pure (Next.value a)).run P W) x := by
  unfold opLoad at k
  split at k
  · rename_i b off hq
    have h1 := ev_rel hT hq
    obtain ⟨v, hv, rfl⟩ := valO_some k
    obtain ⟨B, c, V, k1, k2, k3⟩ := loadVar_sim r hv
    generalize opd T a = C at h1
    cases h1 with
    | ptr hb =>
      rw [k1] at hb; cases hb
      exact sim_pure r (by simp [Instr.loadAt, Instr.sureAddr, Sem.run_bind', run_pure', k3]) k2
  · cases k

theorem opStore_sim (r : HR P w0 e h W) {n t T} (hT : TRel e n t T) {ty : TypeId} {a y : Operand} {x : ANext} (k : opStore P t h ty a y = some x) :
    OpSim P w0 e h W ((do Instr.storeAt ty (opd T a) (opd T y); pure Next.skip).run P W) x := by
  unfold opStore at k
  split at k
  · rename_i b off v hq hv
    split at k
    · rename_i h' hs
      cases k
      have h1 := ev_rel hT hq
      obtain ⟨B, c, W', k1, k2, k3⟩ := storeVar_sim r (ev_rel hT hv) hs
      generalize opd T a = C at h1
      cases h1 with
      | ptr hb =>
        rw [k1] at hb; cases hb
        exact sim_unit (by simp [Instr.storeAt, Instr.sureAddr, Sem.run_bind', run_pure', k3]) k2
    · cases k
  · cases k

theorem opFieldAddr_sim (r : HR P w0 e h W) {n t T} (hT : TRel e n t T) {s : TypeId} {y : Operand} {f : Nat} {x : ANext} (k : opFieldAddr P t h s y f = some x) :
    OpSim P w0 e h W ((do let a ← Instr.fieldAt s (opd T y) f; pure (Next.value a)).run P W) x := by
  unfold opFieldAddr at k
  split at k
  · rename_i fields b off hu hq
    split at k
    · rename_i fd hf
      split at k
      · rename_i m hm
        have h1 := ev_rel hT hq
        cases hz : Nat.beq m 0 with
        | true => rw [hz] at k; cases k
        | false =>
          rw [hz] at k
          cases k
          have hm0 : m ≠ 0 := fun he => by subst he; simp at hz
          generalize opd T y = C at h1
          cases h1 with
          | ptr hb =>
            refine sim_pure r ?_ (.ptr hb)
            simp [Instr.fieldAt, Instr.sureAddr, Sem.run_bind', run_pure', run_underlying hu, hf, fieldPlace, run_sizeOf hm, hm0, addr_add]
      · cases k
    · cases k
  · cases k

theorem opField_sim (r : HR P w0 e h W) {n t T} (hT : TRel e n t T) {s : TypeId} {y : Operand} {f : Nat} {x : ANext} (k : opField P t h s y f = some x) :
    OpSim P w0 e h W ((do let a ← Instr.field s (opd T y) f; pure (Next.value a)).run P W) x := by
  unfold opField at k
  split at k
  · rename_i fields cs hu hq
    split at k
    · rename_i fd hf
      obtain ⟨v, hv, rfl⟩ := valO_some k
      have h1 := ev_rel hT hq
      generalize opd T y = C at h1
      cases h1 with
      | agg hb =>
        obtain ⟨V, j1, j2⟩ := partT_sim (P := P) hb hv
        exact sim_pure r (by simp [Instr.field, asAgg, Sem.run_bind', run_pure', run_underlying hu, hf, j2]) j1
    · cases k
  · cases k

theorem opExtract_sim (r : HR P w0 e h W) {n t T} (hT : TRel e n t T) {y : Operand} {i : Nat} {x : ANext} (k : opExtract t h y i = some x) :
    OpSim P w0 e h W ((do let a ← Instr.extract (opd T y) i; pure (Next.value a)).run P W) x := by
  unfold opExtract at k
  split at k
  · rename_i vs hq
    obtain ⟨v, hv, rfl⟩ := valO_some k
    have h1 := ev_rel hT hq
    generalize opd T y = C at h1
    cases h1 with
    | tuple hb =>
      obtain ⟨V, j1, j2⟩ := hb.get i hv
      exact sim_pure r (by simp [Instr.extract, run_pure', j1]) j2
  · cases k

theorem slElems_rel {s : AVal} {b off len : Nat} (k : aSlElems s = some (b, off, len)) {S : Value} (hs : VR e s S) :
    ∃ B c cap, e b = some (B, c) ∧ S = .slice (some ⟨B, off, none⟩) len cap := by
  unfold aSlElems at k
  split at k
  · cases k; cases hs with | slice hb => exact ⟨_, _, _, hb, rfl⟩
  · cases k; cases hs with | gsl hb => exact ⟨_, _, _, hb, rfl⟩
  · cases k

theorem opIndexAddr_sim (r : HR P w0 e h W) {n t T} (hT : TRel e n t T) {ty : TypeId} {y i : Operand} {x : ANext} (k : opIndexAddr P t h ty y i = some x) :
    OpSim P w0 e h W ((do let a ← Instr.indexAt ty (opd T y) (opd T i); pure (Next.value a)).run P W) x := by
  unfold opIndexAddr at k
  split at k
  · rename_i len elem b off ik i' hu hq hi
    split at k
    · rename_i size hsz
      cases hlt : Nat.blt i' len with
      | false => rw [hlt] at k; cases k
      | true =>
        rw [hlt] at k
        cases k
        have hl : i' < len := by simp [Nat.blt] at hlt; omega
        have h1 := ev_rel hT hq
        have h2 := ev_rel hT hi
        generalize opd T y = C at h1
        generalize opd T i = D at h2
        cases h1 with
        | ptr hb =>
          cases h2
          refine sim_pure r ?_ (.ptr hb)
          simp [Instr.indexAt, Instr.sureAddr, asIntOf, Sem.run_bind', run_pure', run_underlying hu, run_sizeOf hsz, addr_add, hl]
    · cases k
  · rename_i elem s ik i' hu hq hi
    split at k
    · rename_i size b off len hsz hse
      cases hlt : Nat.blt i' len with
      | false => rw [hlt] at k; cases k
      | true =>
        rw [hlt] at k
        cases k
        have hl : i' < len := by simp [Nat.blt] at hlt; omega
        have h2 := ev_rel hT hi
        obtain ⟨B, c, cap, hb, h1⟩ := slElems_rel hse (ev_rel hT hq)
        generalize opd T i = D at h2
        rw [h1]
        cases h2
        refine sim_pure r ?_ (.ptr hb)
        simp [Instr.indexAt, asIntOf, Sem.run_bind', run_pure', run_underlying hu, run_sizeOf hsz, addr_add, hl]
    · cases k
  · cases k

theorem opMakeInterface_sim (r : HR P w0 e h W) {n t T} (hT : TRel e n t T) {ty : TypeId} {y : Operand} {x : ANext} (k : opMakeInterface P t h ty y = some x) :
    OpSim P w0 e h W ((do let a ← Instr.makeInterface ty (opd T y); pure (Next.value a)).run P W) x := by
  unfold opMakeInterface at k
  split at k
  · cases k
  · rename_i d v hne hu hq
    cases k
    refine sim_pure r ?_ (.iface (ev_rel hT hq))
    simp only [Instr.makeInterface, Sem.run_bind', run_underlying hu]
    cases d <;> first | rfl | exact absurd rfl (hne _)
  · cases k

theorem opMakeFunc_sim (r : HR P w0 e h W) {n t T} (hT : TRel e n t T) {fn : Fn} {first cap : Array Operand} {x : ANext} (k : opMakeFunc t h fn first cap = some x) :
    OpSim P w0 e h W ((do let a ← Instr.makeFunc fn (first.map (opd T)) (cap.map (opd T)); pure (Next.value a)).run P W) x := by
  unfold opMakeFunc at k
  split at k
  · cases k
  · rename_i hne
    split at k
    · rename_i f c hf hc
      cases k
      have h1 := evs_rel hT hf
      have h2 := evs_rel hT hc
      refine sim_pure r ?_ (.func (fun l he => hne l he) h1 h2)
      simp [Instr.makeFunc, run_pure', ← Array.toList_map]
    · cases k

theorem opMakeMap_sim (r : HR P w0 e h W) {ty : TypeId} {x : ANext} (k : opMakeMap h = some x) :
    OpSim P w0 e h W ((do let a ← Instr.makeMap ty none; pure (Next.value a)).run P W) x := by
  unfold opMakeMap at k
  split at k
  · rename_i b h' kn
    cases k
    have hb : BR P (e.ext h.next (W.heap.size, 0)) 0 (.map [] 0) (.map #[] 0) := BR.map (ES := []) .nil
    obtain ⟨h1, h2, h3⟩ := r.new kn hb
    subst h1
    refine sim_val (V := .map (some W.heap.size)) ?_ h2 (.map (Env.ext_same _ _ _)) h3
    simp [Instr.makeMap, newObj, Sem.run_bind', Sem.run, run_pure', World.add]
  · cases k

theorem okPair_rel (r : HR P w0 e h W) {commaOk ok : Bool} {v : AVal} {V : Value} (hv : VR e v V) {x : ANext} (k : okPair commaOk ok v h = some x) {s : Sem Value}
    (hs : s.run P W = .ok (if commaOk then .tuple #[V, .bool ok] else V) W) : OpSim P w0 e h W ((do let a ← s; pure (Next.value a)).run P W) x := by
  unfold okPair at k
  cases k
  cases commaOk with
  | true => exact sim_pure r hs (.tuple (.cons hv (.cons (.bool ok) .nil)))
  | false => exact sim_pure r hs hv

theorem opTypeAssert_sim (r : HR P w0 e h W) {n t T} (hT : TRel e n t T) {y : Operand} {xT as : TypeId} {commaOk : Bool} {x : ANext} (k : opTypeAssert P t h y as commaOk = some x) :
    OpSim P w0 e h W ((do let a ← Instr.typeAssert (opd T y) xT as commaOk; pure (Next.value a)).run P W) x := by
  unfold opTypeAssert at k
  split at k
  · cases k
  · rename_i d ty v hne hu hq
    have h1 := ev_rel hT hq
    generalize opd T y = C at h1
    cases h1 with
    | iface hv =>
      rename_i V
      cases hb : Nat.beq ty as with
      | true =>
        rw [hb] at k
        have := Nat.eq_of_beq_eq_true hb
        subst this
        refine okPair_rel r hv k ?_
        simp only [Instr.typeAssert, Sem.run_bind', run_underlying hu]
        cases d <;> first | exact absurd rfl (hne _) | (cases commaOk <;> simp [run_pure'])
      | false =>
        rw [hb] at k
        have hnt : ty ≠ as := Nat.ne_of_beq_eq_false hb
        simp only [cond_false, failPair] at k
        cases commaOk with
        | false => cases k
        | true =>
          simp only [cond_true] at k
          split at k
          · rename_i z hz
            obtain ⟨Z, hZ, hr⟩ := zero_rel hz
            refine okPair_rel r (hr e) k ?_
            simp only [Instr.typeAssert, Sem.run_bind', run_underlying hu]
            cases d <;> first | exact absurd rfl (hne _) | simp [Sem.run_bind', run_pure', hnt, hZ]
          · cases k
  · rename_i d hne hu hq
    have h1 := ev_rel hT hq
    generalize opd T y = C at h1
    cases h1
    simp only [failPair] at k
    cases commaOk with
    | false => cases k
    | true =>
      simp only [cond_true] at k
      split at k
      · rename_i z hz
        obtain ⟨Z, hZ, hr⟩ := zero_rel hz
        refine okPair_rel r (hr e) k ?_
        simp only [Instr.typeAssert, Sem.run_bind', run_underlying hu]
        cases d <;> first | exact absurd rfl (hne _) | simp [Sem.run_bind', run_pure', hZ]
      · cases k
  · cases k
end
end Go.AbsE
