import Derived.Test.YtidfcmjlfadieaaM
set_option linter.unusedSimpArgs false
namespace Go.AbsE
open Go

section
variable {P : Program} {w0 : Base} {e : Env} {h : AH} {W : World}

inductive Found (P : Program) (kt : TypeId) (K : Value) : List MapEntry → Nat → Option (Nat × Value) → Prop
  | nil (i) : Found P kt K [] i none
  | hit {en l i} (h : pureRun P (Op.equal kt K en.key) = some true) : Found P kt K (en :: l) i (some (i, en.val))
  | miss {en l i r} (h : pureRun P (Op.equal kt K en.key) = some false) (hs : Found P kt K l (i + 1) r) : Found P kt K (en :: l) i r

theorem asking_run {kt : TypeId} {K : Value} {l : List MapEntry} {i : Nat} {r : Option (Nat × Value)} (hf : Found P kt K l i r) : (Instr.findAsking kt K l i).run P W = .ok r W := by
  induction hf with
  | nil i => rfl
  | hit h => simp [Instr.findAsking, Sem.run_bind', run_of_pureRun h W, run_pure']
  | miss h _ ih => simp [Instr.findAsking, Sem.run_bind', run_of_pureRun h W, ih]

theorem equal_int {t : TypeId} {ik : IntKind} (hu : P.underlying t = some (.int ik)) (d : Nat) (k : IntKind) (a b : Int) : (Op.equalIn (d + 1) t (.int k a) (.int k b)).run P W = .ok (a == b) W := by
  unfold Op.equalIn; rw [Sem.run_bind', run_underlying hu]; simp [run_pure']
theorem equal_str {t : TypeId} (hu : P.underlying t = some .string) (d : Nat) (a b : ByteArray) : (Op.equalIn (d + 1) t (.string a) (.string b)).run P W = .ok (a == b) W := by
  unfold Op.equalIn; rw [Sem.run_bind', run_underlying hu]; rfl
theorem equal_bool {t : TypeId} (hu : P.underlying t = some .bool) (d : Nat) (a b : Bool) : (Op.equalIn (d + 1) t (.bool a) (.bool b)).run P W = .ok (a == b) W := by
  unfold Op.equalIn; rw [Sem.run_bind', run_underlying hu]; rfl

theorem now_eq {kt : TypeId} {kind : TypeDesc} (hu : P.underlying kt = some kind) {K K' : Value} {b b' : Bool} (h1 : pureRun P (Op.equal kt K K') = some b) (h2 : Instr.sameNow kind K K' = some b') : b' = b := by
  have hr := run_of_pureRun h1 (default : World)
  unfold Instr.sameNow at h2
  split at h2
  · rename_i ik k a k' b0
    split at h2
    · rename_i hk
      subst hk
      have q : (Op.equal kt (.int k a) (.int k b0)).run P default = .ok (a == b0) default := equal_int hu 9999 k a b0
      rw [q] at hr
      cases h2
      injection hr
    · cases h2
  · rename_i a b0
    have q : (Op.equal kt (.string a) (.string b0)).run P default = .ok (a == b0) default := equal_str hu 9999 a b0
    rw [q] at hr
    cases h2
    injection hr
  · rename_i a b0
    have q : (Op.equal kt (.bool a) (.bool b0)).run P default = .ok (a == b0) default := equal_bool hu 9999 a b0
    rw [q] at hr
    cases h2
    injection hr
  · cases h2

theorem now_run {kt : TypeId} {kind : TypeDesc} (hu : P.underlying kt = some kind) {K : Value} {l : List MapEntry} {i : Nat} {r r' : Option (Nat × Value)} (hf : Found P kt K l i r)
    (h2 : Instr.findNow kind K l i = some r') : r' = r := by
  induction hf with
  | nil i => simp [Instr.findNow] at h2; exact h2.symm
  | hit h =>
    simp only [Instr.findNow] at h2
    split at h2
    · cases h2; rfl
    · rename_i hn; have := now_eq hu h hn; cases this
    · cases h2
  | miss h _ ih =>
    simp only [Instr.findNow] at h2
    split at h2
    · rename_i hn; have := now_eq hu h hn; cases this
    · exact ih h2
    · cases h2

theorem findKey_run {kt : TypeId} {kind : TypeDesc} (hu : P.underlying kt = some kind) {K : Value} {l : List MapEntry} {r : Option (Nat × Value)} (hf : Found P kt K l 0 r) :
    (Instr.findKey kt K l).run P W = .ok r W := by
  unfold Instr.findKey
  rw [Sem.run_bind', run_underlying hu]
  simp only []
  split
  · rename_i r' hr'
    rw [now_run hu hf hr']; rfl
  · exact asking_run hf

theorem aMapFind_sim {kt : TypeId} {K : Value} : ∀ {es : List AMapE} {ES : List MapEntry} {res : Option AVal} (i : Nat), MRs e es ES → aMapFind P kt K es = some res →
    ∃ r, Found P kt K ES i r ∧ ((res = none ∧ r = none) ∨ ∃ v V j, res = some v ∧ r = some (j, V) ∧ VR e v V) := by
  intro es
  induction es with
  | nil => intro ES res i hm k; cases hm; simp [aMapFind] at k; subst k; exact ⟨none, .nil i, .inl ⟨rfl, rfl⟩⟩
  | cons a es ih =>
    intro ES res i hm k
    cases hm with
    | cons hv hs =>
      simp only [aMapFind] at k
      split at k
      · rename_i hq; cases k; exact ⟨_, .hit hq, .inr ⟨_, _, _, rfl, rfl, hv⟩⟩
      · rename_i hq
        obtain ⟨r, r1, r2⟩ := ih (i + 1) hs k
        exact ⟨r, .miss hq r1, r2⟩
      · cases k

theorem aMapSet_sim {kt : TypeId} {K : Value} {v : AVal} {V : Value} (hv : VR e v V) {clock : Nat} : ∀ {es es' : List AMapE} {ES : List MapEntry} {clock' : Nat} (i : Nat), MRs e es ES →
    aMapSet P kt K v clock es = some (es', clock') →
    ∃ r, Found P kt K ES i r ∧ ((r = none ∧ clock' = clock + 1 ∧ MRs e es' (ES ++ [{ key := K, val := V, born := clock }])) ∨
      ∃ j o en, r = some (i + j, o) ∧ clock' = clock ∧ ES[j]? = some en ∧ Instr.sameBits 10000 en.key K = true ∧ MRs e es' (ES.modify j fun x => { x with key := K, val := V })) := by
  intro es
  induction es with
  | nil =>
    intro es' ES clock' i hm k
    cases hm
    simp [aMapSet] at k
    obtain ⟨rfl, rfl⟩ := k
    exact ⟨none, .nil i, .inl ⟨rfl, rfl, .cons hv .nil⟩⟩
  | cons a es ih =>
    intro es' ES clock' i hm k
    cases hm with
    | cons hv0 hs =>
      rename_i key val V0 born m
      simp only [aMapSet] at k
      split at k
      · rename_i hq
        cases hb : Instr.sameBits 10000 key K with
        | false => rw [hb] at k; cases k
        | true =>
          rw [hb] at k
          cases k
          exact ⟨_, .hit hq, .inr ⟨0, _, _, rfl, rfl, rfl, hb, by simp; exact .cons hv hs⟩⟩
      · rename_i hq
        split at k
        · rename_i l c hl
          cases k
          obtain ⟨r, r1, r2⟩ := ih (i + 1) hs hl
          refine ⟨r, .miss hq r1, ?_⟩
          rcases r2 with ⟨h1, h2, h3⟩ | ⟨j, o, en, h1, h2, h3, h4, h5⟩
          · exact .inl ⟨h1, h2, .cons hv0 h3⟩
          · refine .inr ⟨j + 1, o, en, ?_, h2, by simpa using h3, h4, by simp; exact .cons hv0 h5⟩
            rw [h1]; congr 2; omega
        · cases k
      · cases k

theorem opLookup_sim (r : HR P w0 e h W) {n t T} (hT : TRel e n t T) {ty : TypeId} {y q : Operand} {commaOk : Bool} {x : ANext} (k : opLookup P t h ty y q commaOk = some x) :
    OpSim P w0 e h W ((do let a ← Instr.lookup ty (opd T y) (opd T q) commaOk; pure (Next.value a)).run P W) x := by
  unfold opLookup at k
  split at k
  · rename_i kt et b key hu hy hq
    split at k
    · rename_i es clock K z hg hK hz
      split at k
      · rename_i u hck
        have h1 := ev_rel hT hy
        have h2 := ground_rel (ev_rel hT hq) hK
        generalize opd T y = C at h1
        rw [h2]
        cases h1 with
        | map hb =>
          obtain ⟨B, c, O, k1, k2, k3, k4⟩ := r.blk _ _ hg
          rw [k1] at hb; cases hb
          cases k4 with
          | map hm =>
            rename_i ES
            obtain ⟨Z, hZ, hZr⟩ := zero_rel hz
            have hempty : es.isEmpty = ES.toArray.isEmpty := by
              cases hm <;> rfl
            rw [hempty] at hck
            have hkd : ∃ kind, P.underlying kt = some kind := by
              cases hk : P.underlying kt with
              | some kind => exact ⟨kind, rfl⟩
              | none =>
                exfalso
                have := run_of_pureRun hck (default : World)
                unfold Instr.checkKey at this
                rw [Sem.run_bind'] at this
                simp [underlying, Sem.run_bind', program, Sem.run, hk, stuck] at this
            obtain ⟨kind, hkd⟩ := hkd
            split at k
            · rename_i v hf
              obtain ⟨r', r1, r2⟩ := aMapFind_sim 0 hm hf
              rcases r2 with ⟨q1, _⟩ | ⟨v', V, j, q1, rfl, q3⟩
              · cases q1
              · cases q1
                refine okPair_rel r q3 k ?_
                simp only [Instr.lookup, Sem.run_bind', run_underlying hu, run_getObj k3 (by intros; intro q; cases q), run_pure', run_of_pureRun hck W, findKey_run hkd r1]
            · rename_i hf
              obtain ⟨r', r1, r2⟩ := aMapFind_sim 0 hm hf
              rcases r2 with ⟨_, rfl⟩ | ⟨v', V, j, q1, _, _⟩
              · refine okPair_rel r (hZr e) k ?_
                simp only [Instr.lookup, Sem.run_bind', run_underlying hu, run_getObj k3 (by intros; intro q; cases q), run_pure', run_of_pureRun hck W, findKey_run hkd r1, hZ]
              · cases q1
            · cases k
      · cases k
    · cases k
  · cases k

theorem opMapUpdate_sim (r : HR P w0 e h W) {n t T} (hT : TRel e n t T) {ty : TypeId} {y q s : Operand} {x : ANext} (k : opMapUpdate P t h ty y q s = some x) :
    OpSim P w0 e h W ((do Instr.mapUpdate ty (opd T y) (opd T q) (opd T s); pure Next.skip).run P W) x := by
  unfold opMapUpdate at k
  split at k
  · rename_i kt et b key v hu hy hq hs
    split at k
    · rename_i es clock K hg hK
      split at k
      · rename_i u hck
        split at k
        · rename_i es' clock' hset
          split at k
          · rename_i h' hh
            cases k
            have h1 := ev_rel hT hy
            have h2 := ground_rel (ev_rel hT hq) hK
            have h3 := ev_rel hT hs
            generalize opd T y = C at h1
            generalize opd T s = V at h3
            rw [h2]
            cases h1 with
            | map hb =>
              rename_i B0 c0
              obtain ⟨B, c, O, k1, k2, k3, k4⟩ := r.blk _ _ hg
              rw [k1] at hb; cases hb
              cases k4 with
              | map hm =>
                rename_i ES
                have hkd : ∃ kind, P.underlying kt = some kind := by
                  cases hk : P.underlying kt with
                  | some kind => exact ⟨kind, rfl⟩
                  | none =>
                    exfalso
                    have := run_of_pureRun hck (default : World)
                    unfold Instr.checkKey at this
                    rw [Sem.run_bind'] at this
                    simp [underlying, Sem.run_bind', program, Sem.run, hk, stuck] at this
                obtain ⟨kind, hkd⟩ := hkd
                obtain ⟨r', r1, r2⟩ := aMapSet_sim h3 0 hm hset
                have hnc : ∀ c el fr, (Obj.map ES.toArray clock) ≠ .cells c el fr := by intros; intro q; cases q
                rcases r2 with ⟨rfl, rfl, q3⟩ | ⟨j, o, en, rfl, rfl, q3, q4, q5⟩
                · refine sim_unit (W' := World.upd W B0 (.map (ES.toArray.push { key := K, val := V, born := clock }) (clock + 1))) ?_ ?_
                  · simp only [Instr.mapUpdate, Sem.run_bind', run_underlying hu, run_getObj k3 hnc, run_of_pureRun hck W, findKey_run hkd r1, run_setObj k3 hnc]
                  · refine r.set hg rfl k1 hh ?_
                    have : ES.toArray.push ({ key := K, val := V, born := clock } : MapEntry) = (ES ++ [({ key := K, val := V, born := clock } : MapEntry)]).toArray := by simp
                    rw [this]; exact .map q3
                · refine sim_unit (W' := World.upd W B0 (.map (ES.toArray.modify j fun x => { x with key := K, val := V }) clock')) ?_ ?_
                  · have hkey : ((ES.toArray[0 + j]?).map (·.key)).getD K = en.key := by simp [q3]
                    simp only [Instr.mapUpdate, Sem.run_bind', run_underlying hu, run_getObj k3 hnc, run_of_pureRun hck W, findKey_run hkd r1, Instr.keyThatStays, hkey, q4, if_true, run_pure', run_setObj k3 hnc]
                    simp
                  · refine r.set hg rfl k1 hh ?_
                    have : ES.toArray.modify j (fun x => { x with key := K, val := V }) = (ES.modify j fun x => { x with key := K, val := V }).toArray := by simp
                    rw [this]; exact .map q5
          · cases k
        · cases k
      · cases k
    · cases k
  · cases k

theorem opNilCheck_sim (r : HR P w0 e h W) {n t T} (hT : TRel e n t T) {y : Operand} {o : Oper} (ho : o.op = .nilCheck y) {x : ANext} (k : opNilCheck P t h y = some x) :
    OpSim P w0 e h W ((execOp (opd T) o).run P W) x := by
  unfold opNilCheck at k
  split at k
  · rename_i v hv
    have h1 := ev_rel hT hv
    cases hc : nilCheckOk P v with
    | false => rw [hc] at k; cases k
    | true =>
      rw [hc] at k
      cases k
      refine ⟨e, opd T y, W, .inl ?_, Env.le_refl e, h1, r⟩
      simp only [execOp, ho]
      generalize opd T y = C at h1
      unfold nilCheckOk at hc
      cases h1 with
      | func hf hfi hca =>
        rename_i fn first cap F CAP
        cases fn with
        | yield l => exact absurd rfl (hf l)
        | method name =>
          cases hfi with
          | nil => simp at hc
          | cons h2 h3 =>
            rename_i a b l m
            cases h2 with
            | iface hw =>
              simp only [] at hc
              split at hc
              · rename_i fr hm
                obtain ⟨f', rv⟩ := fr
                obtain ⟨RV, r1, r2, r3⟩ := aMethod_sim hm hw (P.types.size + Made.depth - 8)
                have hd : 8 + (P.types.size + Made.depth - 8) = P.types.size + Made.depth := by have := made_depth (P := P); omega
                rw [hd] at r3
                simp [Sem.run_bind', program, Sem.run, r3, run_pure']
              · cases hc
            | _ => simp at hc
        | func f => rfl
        | methodOf t n => rfl
        | via t p f q => rfl
      | nilptr => simp at hc
      | nilIface => simp at hc
      | nilfunc => simp at hc
      | yield hl => simp at hc
      | _ => rfl
  · cases k

theorem callWith_sim (r : HR P w0 e h W) {n t T} (hT : TRel e n t T) {c : Call} {type : TypeId} {args : List AVal} (ha : VRs e args (c.args.toList.map (opd T))) {x : ANext}
    (k : callWith P t h c.callee c.argTypes (c.args.map fun | .const _ => true | _ => false) type args = some x) :
    OpSim P w0 e h W ((do let d ← resolve (opd T) c type; invoke d.target d.args : Sem Next).run P W) x := by
  have hargs : c.args.map (opd T) = (c.args.toList.map (opd T)).toArray := by rw [← Array.toList_map, Array.toArray_toList]
  unfold callWith at k
  cases hcal : c.callee with
  | builtin b =>
    rw [hcal] at k
    simp only [] at k
    have := aBuiltin_sim (w0 := w0) r ha k
    simp only [resolve, hcal, run_pure', Sem.run_bind', invoke]
    rw [hargs]
    have hcs : (c.args.map fun x => match x with | .const _ => true | _ => false) = (c.args.map fun | .const _ => true | _ => false) := rfl
    exact this
  | invoke rc name =>
    rw [hcal] at k
    simp only [] at k
    split at k
    · rename_i recv hrv
      have := aInvokeIface_sim (w0 := w0) (W := W) (ev_rel hT hrv) ha k rfl
      simp only [resolve, hcal, run_pure', Sem.run_bind', invoke]
      rw [hargs]
      simpa [List.take_of_length_le] using this
    · cases k
  | value f =>
    rw [hcal] at k
    simp only [] at k
    split at k
    · rename_i fn first cap hf
      have h1 := ev_rel hT hf
      simp only [resolve, hcal, Sem.run_bind']
      generalize opd T f = C at h1
      cases h1 with
      | func hnf hfi hca =>
        have := aInvoke_sim (w0 := w0) (W := W) hnf hca (hfi.append ha) k rfl
        simp only [Deferred.ofValue, run_pure']
        rw [hargs]
        simpa using this
    · rename_i l hf
      cases k
      have h1 := ev_rel hT hf
      simp only [resolve, hcal, Sem.run_bind']
      generalize opd T f = C at h1
      cases h1 with
      | yield hl =>
        refine ⟨rfl, _, _, _, hl, ha, ?_⟩
        simp only [Deferred.ofValue, run_pure', invoke]
        rw [hargs]
        simp
    · cases k

theorem opDefer_sim (r : HR P w0 e h W) {n t T} (hT : TRel e n t T) {c : Call} {type : TypeId} {x : ANext} (k : opDefer t h c = some x) :
    OpSim P w0 e h W ((do pure (Next.defer (← resolve (opd T) c type)) : Sem Next).run P W) x := by
  have _ := r.size
  unfold opDefer at k
  split at k
  · cases k
  · rename_i args ha
    have ha := evs_rel hT ha
    have hargs : c.args.map (opd T) = (c.args.toList.map (opd T)).toArray := by rw [← Array.toList_map, Array.toArray_toList]
    split at k
    · rename_i f hcal
      split at k
      · rename_i fn first cap hf
        cases k
        have h1 := ev_rel hT hf
        simp only [resolve, hcal, Sem.run_bind']
        generalize opd T f = C at h1
        cases h1 with
        | func hnf hfi hca =>
          refine ⟨rfl, _, rfl, ?_⟩
          rw [hargs]
          have := DR.call (e := e) hnf hca (hfi.append ha)
          simpa using this
      · cases k
    · cases k

theorem opPanic_sim (r : HR P w0 e h W) {n t T} (hT : TRel e n t T) {y : Operand} {x : ANext} (k : opPanic t h y = some x) :
    OpSim P w0 e h W ((do let a ← Instr.panic (opd T y); pure (Next.value a)).run P W) x := by
  have _ := r.size
  unfold opPanic at k
  split at k
  · rename_i ty v hv
    cases k
    have h1 := ev_rel hT hv
    generalize opd T y = C at h1
    cases h1 with
    | iface hw =>
      refine ⟨rfl, _, ?_, .iface hw⟩
      simp [Instr.panic, Sem.run_bind', goPanic, Sem.run]
  · cases k

/-- **EVERY OPERATION.** -/
theorem aOp_sim (r : HR P w0 e h W) {n t T} (hT : TRel e n t T) {o : Oper} {x : ANext} (k : aOp P t h o = some x) : OpSim P w0 e h W ((execOp (opd T) o).run P W) x := by
  obtain ⟨dst, op, type, pos, after, guard⟩ := o
  unfold aOp prep at k
  cases op with
  | move y => obtain ⟨v, hv, rfl⟩ := valO_some k; exact ⟨e, _, W, .inl rfl, Env.le_refl e, ev_rel hT hv, r⟩
  | assign y => obtain ⟨v, hv, rfl⟩ := valO_some k; exact ⟨e, _, W, .inl rfl, Env.le_refl e, ev_rel hT hv, r⟩
  | pick c a b => exact opPick_sim r hT k
  | alloc el => exact opAlloc_sim r k
  | box el y => exact opBox_sim r hT k
  | build ty parts => exact opBuild_sim r hT k
  | buildSlice ty len parts => exact opBuildSlice_sim r hT k
  | load ty a => exact opLoad_sim r hT k
  | store ty a y => exact opStore_sim r hT k
  | nilCheck y => exact opNilCheck_sim r hT rfl k
  | binOp op ty y z yt => exact opBin_sim r hT k
  | unOp op xt y => exact opUn_sim r hT k
  | convert src dst y => exact opConvert_sim r hT k
  | makeInterface ty y => exact opMakeInterface_sim r hT k
  | makeFunc fn first cap => exact opMakeFunc_sim r hT k
  | makeMap ty rs => cases rs with | none => exact opMakeMap_sim r k | some _ => cases k
  | makeSlice ty l c => exact opMakeSlice_sim r hT k
  | slice ty y lo hi mx => cases mx with | none => exact opSlice_sim r hT k | some _ => cases k
  | fieldAddr s y f => exact opFieldAddr_sim r hT k
  | field s y f => exact opField_sim r hT k
  | indexAddr ty y i => exact opIndexAddr_sim r hT k
  | index ty y i => exact opIndex_sim r hT k
  | lookup ty y q ok => exact opLookup_sim r hT k
  | mapUpdate ty m q y => exact opMapUpdate_sim r hT k
  | typeAssert y xt as ok => exact opTypeAssert_sim r hT k
  | extract y i => exact opExtract_sim r hT k
  | call c =>
    change opCall P t h c type = some x at k
    unfold opCall at k
    split at k
    · cases k
    · rename_i args ha
      exact callWith_sim r hT (evs_rel hT ha) k
  | defer c => exact opDefer_sim r hT k
  | panic y => exact opPanic_sim r hT k
  | _ => cases k
end
end Go.AbsE
