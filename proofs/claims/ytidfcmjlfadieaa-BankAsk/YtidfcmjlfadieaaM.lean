import Derived.Test.YtidfcmjlfadieaaL
set_option linter.unusedSimpArgs false
namespace Go.AbsE
open Go

section
variable {P : Program} {w0 : Base} {e : Env} {h : AH} {W : World}

theorem run_getObj {r : Nat} {o : Obj} (hk : W.heap[r]? = some o) (hn : ∀ c el fr, o ≠ .cells c el fr) : (getObj r).run P W = .ok o W := by
  simp only [getObj, Sem.run, hk]

theorem run_setObj {r : Nat} {o o' : Obj} (hk : W.heap[r]? = some o) (hn : ∀ c el fr, o ≠ .cells c el fr) : (setObj r o').run P W = .ok () (World.upd W r o') := by
  simp only [setObj, Sem.run, hk]
  cases o <;> first | rfl | exact absurd rfl (hn _ _ _)

/-! ### builtins -/
theorem aBuiltin_sim (r : HR P w0 e h W) {b : Builtin} {argTypes : Array TypeId} {type : TypeId} {consts : Array Bool} {args : List AVal} {ARGS : List Value} (ha : VRs e args ARGS)
    {y : ANext} (k : aBuiltin P h b argTypes type consts args = some y) : OpSim P w0 e h W ((builtin b argTypes type consts ARGS.toArray).run P W) y := by
  unfold aBuiltin at k
  split at k
  · -- len
    split at k
    · rename_i x t rest hat
      cases ha with
      | cons hx hs =>
        cases hs
        rename_i X
        have h0 : argTypes[0]? = some t := by rw [← Array.getElem?_toList, hat]; rfl
        split at k
        · rename_i el hu
          split at k
          · rename_i n hn
            cases k
            obtain ⟨base, cap, rfl⟩ := lenA_rel hn hx
            refine sim_pure r ?_ (.int _ _)
            simp [Builtin.len_, h0, Sem.run_bind', run_underlying hu, run_pure', goInt]
          · cases k
        · rename_i n el hu
          cases k
          refine sim_pure r ?_ (.int _ _)
          simp [Builtin.len_, h0, Sem.run_bind', run_underlying hu, run_pure', goInt]
        · rename_i hu
          split at k
          · cases k
            cases hx
            refine sim_pure r ?_ (.int _ _)
            simp [Builtin.len_, h0, Sem.run_bind', run_underlying hu, run_pure', goInt]
          · cases k
        · rename_i kt et hu
          split at k
          · cases k
            cases hx
            refine sim_pure r ?_ (.int _ _)
            simp [Builtin.len_, h0, Sem.run_bind', run_underlying hu, run_pure', goInt]
          · rename_i b'
            split at k
            · rename_i es clock hg
              cases k
              cases hx with
              | map hb =>
                obtain ⟨B, c, O, k1, k2, k3, k4⟩ := r.blk _ _ hg
                rw [k1] at hb; cases hb
                cases k4 with
                | map hm =>
                  refine sim_pure r ?_ (.int _ _)
                  simp [Builtin.len_, h0, Sem.run_bind', run_underlying hu, run_getObj k3 (by intros; intro q; cases q), run_pure', goInt, hm.length]
            · cases k
          · cases k
        · cases k
    · cases k
  · -- append
    split at k
    · rename_i s x t1 t2 hat
      cases ha with
      | cons hs hr =>
        cases hr with
        | cons hx hr2 =>
          cases hr2
          have : argTypes = #[t1, t2] := by rw [← Array.toList_inj]; exact hat
          subst this
          exact aAppend_sim r hs hx k
    · cases k
  · -- copy
    split at k
    · rename_i d s t rest hat
      cases ha with
      | cons hd hr =>
        cases hr with
        | cons hs hr2 =>
          cases hr2
          rename_i D S
          have h0 : argTypes[0]? = some t := by rw [← Array.getElem?_toList, hat]; rfl
          split at k
          · rename_i el hu
            split at k
            · rename_i size dl sl hsz hdl hsl
              split at k
              · cases k
              · rename_i cs hcs
                obtain ⟨CS, q1, q2⟩ := srcCells_sim r hcs hs
                have q3 := run_lenOf (P := P) (W := W) hsl hs
                split at k
                · rename_i b' off len hse
                  split at k
                  · rename_i h' hst
                    cases k
                    obtain ⟨B, c, cap, m1, rfl⟩ := slElems_rel hse hd
                    obtain ⟨B', c', W', n1, n2, n3⟩ := storeCells_sim r q1 hst
                    rw [m1] at n1; cases n1
                    obtain ⟨base', cap', hD⟩ := lenA_rel hdl hd
                    injection hD with i1 i2 i3
                    subst i2
                    refine sim_val ?_ (Env.le_refl e) (.int _ _) n2
                    simp [Builtin.copy_, h0, Sem.run_bind', run_underlying hu, q3, run_sizeOf hsz, q2, n3, run_pure', goInt]
                  · cases k
                · split at k
                  · cases k
                    cases hd
                    simp [lenA] at hdl
                    subst hdl
                    refine sim_pure r ?_ (.int _ _)
                    simp at q2
                    simp [Builtin.copy_, h0, Sem.run_bind', run_underlying hu, q3, run_sizeOf hsz, q2, run_pure', goInt]
                  · cases k
            · cases k
          · cases k
    · cases k
  · cases k; exact ⟨rfl, rfl⟩
  · split at k
    · rename_i t v
      cases k
      cases ha with
      | cons hx hs =>
        cases hs
        cases hx with
        | iface hv =>
          refine ⟨rfl, _, ?_, .iface hv⟩
          simp [builtin, Instr.panic, Sem.run_bind', goPanic, Sem.run]
    · cases k
  · split at k
    · rename_i l hl
      have := grounds_rel ha hl
      subst this
      split at k
      · rename_i v hv
        obtain ⟨a, hva, rfl⟩ := valO_some k
        exact ⟨e, v, W, .inl (run_of_pureRun hv W), Env.le_refl e, absV_rel hva, r⟩
      · cases k
    · cases k
  · split at k
    · rename_i l hl
      have := grounds_rel ha hl
      subst this
      split at k
      · rename_i v hv
        obtain ⟨a, hva, rfl⟩ := valO_some k
        exact ⟨e, v, W, .inl (run_of_pureRun hv W), Env.le_refl e, absV_rel hva, r⟩
      · cases k
    · cases k
  · cases k

/-! ### calls -/
theorem aFunc_run {f : FuncId} {fn : Func} (k : aFunc P f = some fn) (A : Array Value) : (callFunc f A).run P W = .ok (.enter f A) W ∧ P.funcs[f]? = some fn ∧ ∃ c, fn.body = some c := by
  unfold aFunc at k
  split at k
  · rename_i fn' hf
    cases hn : fn'.name == "runtime.NumGoroutine" with
    | true => rw [hn] at k; cases k
    | false =>
      rw [hn] at k
      simp only [cond_false] at k
      split at k
      · rename_i c hc
        cases k
        refine ⟨?_, hf, c, hc⟩
        have hn' : ¬ fn.name = "runtime.NumGoroutine" := by simpa using hn
        simp [callFunc, Sem.run_bind', program, Sem.run, hf, hn', hc, run_pure']
      · cases k
  · cases k

theorem aEnter_sim {f : FuncId} {args : List AVal} {ARGS : List Value} (ha : VRs e args ARGS) {y : ANext} (k : aEnter P f args h = some y) {A : Array Value} (hA : A = ARGS.toArray) :
    OpSim P w0 e h W ((callFunc f A).run P W) y := by
  unfold aEnter at k
  split at k
  · rename_i fn hf
    cases k
    subst hA
    exact ⟨rfl, ARGS, (aFunc_run hf _).1, ha⟩
  · cases k

theorem findM_eq (name : String) : ∀ (l : List Method), findM name l = l.find? (·.name == name)
  | [] => rfl
  | m :: l => by
    simp only [findM, List.find?_cons]
    cases m.name == name with
    | true => rfl
    | false => exact findM_eq name l

theorem aFollow_sim : ∀ {path : List FieldStep} {t : TypeId} {x : AVal} {xt : TypeId} {y : AVal}, aFollow P path t x = some (xt, y) → ∀ {X : Value}, VR e x X →
    ∃ Y, VR e y Y ∧ (∀ W, (follow path t (.val X)).run P W = .ok (xt, .val Y) W) ∧ (∀ W, (followBlind path t (some X)).run P W = .ok (.ok (xt, some Y)) W) := by
  intro path
  induction path with
  | nil => intro t x xt y k X hx; simp [aFollow] at k; obtain ⟨rfl, rfl⟩ := k; exact ⟨X, hx, fun _ => rfl, fun _ => rfl⟩
  | cons s path ih =>
    intro t x xt y k X hx
    simp only [aFollow] at k
    split at k
    · rename_i fields cs hu
      split at k
      · rename_i f hf
        cases hd : s.deref with
        | true => rw [hd] at k; cases k
        | false =>
          rw [hd] at k
          simp only [cond_false] at k
          split at k
          · rename_i z hz
            cases hx with
            | agg hcs =>
              obtain ⟨Z, z1, z2⟩ := partT_sim (P := P) hcs hz
              obtain ⟨Y, y1, y2, y3⟩ := ih k z1
              refine ⟨Y, y1, fun W => ?_, fun W => ?_⟩
              · simp [follow, Sem.run_bind', run_underlying hu, hf, hd, z2, y2]
              · simp [followBlind, Sem.run_bind', run_underlying hu, hf, hd, z2, y3]
          · cases k
      · cases k
    · cases k

theorem aMethod_sim : ∀ {k : Nat} {t : TypeId} {v : AVal} {name : String} {f : FuncId} {rv : AVal}, aMethod P k t v name = some (f, rv) → ∀ {V : Value}, VR e v V → ∀ (d : Nat),
    ∃ RV, VR e rv RV ∧ (∀ W, (method (k + d) t V name).run P W = .ok (f, RV) W) ∧ (∀ W, (nilAhead (k + d) t V name).run P W = .ok (some false) W) := by
  intro k
  induction k with
  | zero => intro t v name f rv q; simp [aMethod] at q
  | succ k ih =>
    intro t v name f rv q V hv d
    have hkd : k + 1 + d = (k + d) + 1 := by omega
    rw [hkd]
    simp only [aMethod] at q
    split at q
    · cases q
    · rename_i i hi
      split at q
      · cases q
      · rename_i m hm
        rw [findM_eq] at hm
        have hm' : i.methods.find? (·.name == name) = some m := by rw [← Array.find?_toList]; exact hm
        split at q
        · cases q
        · rename_i xt x hfo
          obtain ⟨Y, y1, y2, y3⟩ := aFollow_sim hfo hv
          split at q
          · rename_i hfn
            split at q
            · rename_i t' v'
              cases y1 with
              | iface hv' =>
                obtain ⟨RV, r1, r2, r3⟩ := ih q hv' d
                refine ⟨RV, r1, fun W => ?_, fun W => ?_⟩
                · simp [method, Sem.run_bind', run_typeInfo hi, hm', y2, hfn, Place.get, run_pure', r2]
                · simp [nilAhead, Sem.run_bind', run_typeInfo hi, hm', y3, hfn, run_pure', r3]
            · cases q
          · rename_i f' ptr hfn
            split at q
            · rename_i el hu
              cases q
              refine ⟨Y, y1, fun W => ?_, fun W => ?_⟩
              · simp [method, Sem.run_bind', run_typeInfo hi, hm', y2, hfn, receiverAt, run_underlying hu, Place.get, run_pure']
              · simp [nilAhead, Sem.run_bind', run_typeInfo hi, hm', y3, hfn, run_pure']
            · cases q
            · rename_i d' hne hu
              cases q
              refine ⟨Y, y1, fun W => ?_, fun W => ?_⟩
              · simp only [method, Sem.run_bind', run_typeInfo hi, hm', y2, hfn, receiverAt, run_underlying hu]
                cases d' <;> first | rfl | exact absurd rfl (hne _)
              · simp only [nilAhead, Sem.run_bind', run_typeInfo hi, hm', y3, hfn, run_underlying hu]
                cases d' <;> first | rfl | exact absurd rfl (hne _)
            · cases q

theorem made_depth : 8 ≤ P.types.size + Made.depth := by unfold Made.depth; omega

theorem aInvokeIface_sim {recv : AVal} {name : String} {args : List AVal} {RECV : Value} {ARGS : List Value} (hr : VR e recv RECV) (ha : VRs e args ARGS) {y : ANext}
    (k : aInvokeIface P recv name args h = some y) {A : Array Value} (hA : A = ARGS.toArray) : OpSim P w0 e h W ((callMethod RECV name A).run P W) y := by
  unfold aInvokeIface at k
  split at k
  · rename_i t v
    split at k
    · rename_i f rv hm
      cases hr with
      | iface hv =>
        obtain ⟨RV, r1, r2, _⟩ := aMethod_sim hm hv (P.types.size + Made.depth - 8)
        have hd : 8 + (P.types.size + Made.depth - 8) = P.types.size + Made.depth := by have := made_depth (P := P); omega
        rw [hd] at r2
        have := aEnter_sim (w0 := w0) (W := W) (.cons r1 ha) k (A := #[RV] ++ A) (by rw [hA]; simp)
        simpa [callMethod, Sem.run_bind', program, Sem.run, r2] using this
    · cases k
  · cases k

theorem aInvoke_sim {fn : Fn} {cap args : List AVal} {CAP ARGS : List Value} (hf : ∀ l, fn ≠ .yield l) (hc : VRs e cap CAP) (ha : VRs e args ARGS) {y : ANext}
    (k : aInvoke P fn cap args h = some y) {A : Array Value} (hA : A = ARGS.toArray) : OpSim P w0 e h W ((invoke (.fn fn CAP.toArray) A).run P W) y := by
  subst hA
  unfold aInvoke at k
  split at k
  · rename_i f
    exact aEnter_sim (ha.append hc) k (by simp)
  · rename_i name
    split at k
    · rename_i recv rest
      cases ha with
      | cons h1 h2 =>
        have := aInvokeIface_sim (w0 := w0) (W := W) h1 h2 k rfl
        simpa [invoke] using this
    · cases k
  · rename_i t name
    split at k
    · rename_i recv rest
      cases ha with
      | cons h1 h2 =>
        split at k
        · rename_i ms hu
          have := aInvokeIface_sim (w0 := w0) (W := W) h1 h2 k rfl
          simpa [invoke, Sem.run_bind', run_underlying hu] using this
        · rename_i d hne hu
          have := aInvokeIface_sim (w0 := w0) (W := W) (.iface (t := t) h1) h2 k rfl
          simp only [invoke, Sem.run_bind', run_underlying hu] at *
          cases d <;> first | exact absurd rfl (hne _) | simpa [Sem.run_bind', run_underlying hu, run_pure'] using this
        · cases k
    · cases k
  · rename_i t path f pointer
    split at k
    · rename_i x rest
      cases ha with
      | cons h1 h2 =>
        split at k
        · rename_i xt yv hfo
          obtain ⟨Y, y1, y2, y3⟩ := aFollow_sim hfo h1
          split at k
          · rename_i el hu
            have := aEnter_sim (w0 := w0) (W := W) (.cons y1 h2) k rfl
            simpa [invoke, Sem.run_bind', receiverVia, y2, receiverAt, run_underlying hu, Place.get, run_pure'] using this
          · cases k
          · rename_i d hne hu
            have := aEnter_sim (w0 := w0) (W := W) (.cons y1 h2) k rfl
            simp only [invoke, receiverVia, Sem.run_bind', y2, receiverAt, run_underlying hu]
            cases d <;> first | exact absurd rfl (hne _) | simpa [Sem.run_bind', receiverVia, y2, receiverAt, run_underlying hu, Place.get, run_pure'] using this
          · cases k
        · cases k
    · cases k
  · cases k
end
end Go.AbsE
