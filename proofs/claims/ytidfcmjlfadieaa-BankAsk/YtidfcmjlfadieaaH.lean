import Derived.Test.YtidfcmjlfadieaaG
import Derived.IntWalk
set_option linter.unusedSimpArgs false
namespace Go.AbsE
open Go

/-! ### numbers -/
theorem wrap64_of (m : Nat) : wrap64 (Int.ofNat m) = cond (Nat.blt m 9223372036854775808) (Int.ofNat m) (IntKind.i64.wrap (.ofNat m)) := rfl
theorem wrap64_neg (m : Nat) : wrap64 (Int.negSucc m) = cond (Nat.blt m 9223372036854775808) (Int.negSucc m) (IntKind.i64.wrap (.negSucc m)) := rfl
theorem blt_true {m n : Nat} (h : Nat.blt m n = true) : m < n := by simp [Nat.blt] at h; omega
theorem wrap64_eq (n : Int) : wrap64 n = IntKind.i64.wrap n := by
  cases n with
  | ofNat m =>
    rw [wrap64_of]
    cases hb : Nat.blt m 9223372036854775808 with
    | false => rw [cond_false]
    | true =>
      have hb := blt_true hb
      rw [cond_true]
      have hc : Int.ofNat m = (m : Int) := rfl
      rw [hc]
      exact (IntWalk.i64_in _ ⟨by omega, by omega⟩).symm
  | negSucc m =>
    rw [wrap64_neg]
    cases hb : Nat.blt m 9223372036854775808 with
    | false => rw [cond_false]
    | true =>
      have hb := blt_true hb
      rw [cond_true, Int.negSucc_eq]
      exact (IntWalk.i64_in _ ⟨by omega, by omega⟩).symm

theorem addI_eq (a b : Int) : addI a b = IntKind.i64.wrap (a + b) := by
  cases a <;> cases b <;> (simp only [addI]; rw [wrap64_eq]) <;> rfl

theorem subI_eq (a b : Int) : subI a b = IntKind.i64.wrap (a - b) := by
  cases a with
  | negSucc m => simp only [subI]; rw [wrap64_eq]
  | ofNat m =>
    cases b with
    | negSucc n => simp only [subI]; rw [wrap64_eq]
    | ofNat n =>
      simp only [subI]
      cases hb : Nat.ble n m with
      | false => simp only [cond_false]; rw [wrap64_eq]
      | true =>
        simp only [cond_true]
        rw [wrap64_eq]
        have := Nat.le_of_ble_eq_true hb
        congr 1
        show ((m - n : Nat) : Int) = (m : Int) - n
        omega

theorem eqI_eq (a b : Int) : eqI a b = (a == b) := by
  rw [Bool.eq_iff_iff]
  cases a <;> cases b <;> simp [eqI]
  omega

theorem ltI_eq (a b : Int) : ltI a b = decide (a < b) := by
  rw [Bool.eq_iff_iff]
  cases a <;> cases b <;> simp [ltI, Nat.blt] <;> omega

section
variable {P : Program} {w0 : Base} {e : Env} {h : AH} {W : World}

theorem pureV (r : HR P w0 e h W) {s : Sem Value} {v : AVal} (k : (match pureRun P s with | some v => absV v | none => none) = some v) :
    ∃ V, s.run P W = .ok V W ∧ VR e v V := by
  have _ := r.size
  split at k
  · rename_i V hV
    exact ⟨V, run_of_pureRun hV W, absV_rel k⟩
  · cases k

/-- The operands may be tested against nil. -/
theorem guard_int (op : BinOp) (t : TypeId) (x y : Operand) (k k' : IntKind) (a b : Int) : (eqGuard op t x y (.int k a) (.int k' b)).run P W = .ok () W := by
  cases op <;> rfl
theorem guard_bool (op : BinOp) (t : TypeId) (x y : Operand) (a b : Bool) : (eqGuard op t x y (.bool a) (.bool b)).run P W = .ok () W := by
  cases op <;> rfl
theorem guard_str (op : BinOp) (t : TypeId) (x y : Operand) (a b : ByteArray) : (eqGuard op t x y (.string a) (.string b)).run P W = .ok () W := by
  cases op <;> rfl
theorem guard_nil_iface (op : BinOp) (t : TypeId) (x y : Operand) (ty : TypeId) (v : Value) : (eqGuard op t x y .nilIface (.iface ty v)).run P W = .ok () W := by
  cases op <;> rfl
theorem guard_iface_nil (op : BinOp) (t : TypeId) (x y : Operand) (ty : TypeId) (v : Value) : (eqGuard op t x y (.iface ty v) .nilIface).run P W = .ok () W := by
  cases op <;> rfl
theorem guard_nil_nil (op : BinOp) (t : TypeId) (x y : Operand) (h : (isConstO x || isConstO y) = true) : (eqGuard op t x y .nilIface .nilIface).run P W = .ok () W := by
  unfold eqGuard
  cases op <;> first | rfl | (cases x <;> cases y <;> first | rfl | (simp [isConstO] at h))
theorem guard_agg (op : BinOp) (t : TypeId) (x y : Operand) (a b : Array Value) (h : P.eqGuardType P.depth t = false) : (eqGuard op t x y (.agg a) (.agg b)).run P W = .ok () W := by
  unfold eqGuard
  cases op <;> first | rfl | simp [program, Sem.run, h]

theorem binI_sim (r : HR P w0 e h W) {op : BinOp} {t : TypeId} {a b : Int} {v : AVal} (k : binI P op t a b = some v) :
    ∃ V, (binOp op t (.int .i64 a) (.int .i64 b)).run P W = .ok V W ∧ VR e v V := by
  unfold binI at k
  split at k
  · cases k; refine ⟨_, ?_, .int _ _⟩; rw [addI_eq]; rfl
  · cases k; refine ⟨_, ?_, .int _ _⟩; rw [subI_eq]; rfl
  · cases k; refine ⟨_, ?_, .bool _⟩; rw [eqI_eq]; rfl
  · cases k; refine ⟨_, ?_, .bool _⟩; rw [eqI_eq]; rfl
  · cases k; refine ⟨_, ?_, .bool _⟩; rw [ltI_eq]; rfl
  · cases k; refine ⟨.bool (decide (a ≤ b)), rfl, ?_⟩
    rw [ltI_eq, show (!decide (b < a)) = decide (a ≤ b) from by rw [Bool.eq_iff_iff]; simp]; exact .bool _
  · cases k; refine ⟨_, ?_, .bool _⟩; rw [ltI_eq]; rfl
  · cases k; refine ⟨.bool (decide (a ≥ b)), rfl, ?_⟩
    rw [ltI_eq, show (!decide (a < b)) = decide (a ≥ b) from by rw [Bool.eq_iff_iff]; simp]; exact .bool _
  · exact pureV r k

mutual
theorem ground_rel {e : Env} : ∀ {a : AVal} {V : Value}, VR e a V → ∀ {v : Value}, a.ground = some v → V = v
  | _, _, .int _ _, v, k => by cases k; rfl
  | _, _, .bool _, v, k => by cases k; rfl
  | _, _, .str _, v, k => by cases k; rfl
  | _, _, .agg h, v, k => by
    simp only [AVal.ground] at k
    split at k
    · rename_i l hl; cases k; rw [grounds_rel h hl]
    · cases k
  | _, _, .tuple h, v, k => by
    simp only [AVal.ground] at k
    split at k
    · rename_i l hl; cases k; rw [grounds_rel h hl]
    · cases k
  | _, _, .nilptr, v, k => by cases k
  | _, _, .ptr _, v, k => by cases k
  | _, _, .nilslice, v, k => by cases k
  | _, _, .slice _, v, k => by cases k
  | _, _, .gsl _, v, k => by cases k
  | _, _, .nilmap, v, k => by cases k
  | _, _, .map _, v, k => by cases k
  | _, _, .nilfunc, v, k => by cases k
  | _, _, .func _ _ _, v, k => by cases k
  | _, _, .yield _, v, k => by cases k
  | _, _, .nilIface, v, k => by cases k
  | _, _, .iface _, v, k => by cases k
theorem grounds_rel {e : Env} : ∀ {l : List AVal} {M : List Value}, VRs e l M → ∀ {m : List Value}, grounds l = some m → M = m
  | _, _, .nil, m, k => by simp [grounds] at k; exact k.symm
  | _, _, .cons ha hl, m, k => by
    simp only [grounds] at k
    split at k
    · rename_i v hv
      split at k
      · rename_i l' hl'
        cases k
        rw [ground_rel ha hv, grounds_rel hl hl']
      · cases k
    · cases k
end

theorem eqOrNeq_sim {op : BinOp} {t : TypeId} {b : Bool} {A B : Value} {v : AVal} (k : eqOrNeq P op t b = some v)
    (hh : ∀ ms, P.underlying t = some (.interface ms) → (Op.equal t A B).run P W = .ok b W)
    (h1 : binOp .eql t A B = (do pure (.bool (← Op.equal t A B)))) (h2 : binOp .neq t A B = (do pure (.bool (!(← Op.equal t A B))))) :
    ∃ V, (binOp op t A B).run P W = .ok V W ∧ VR e v V := by
  unfold eqOrNeq at k
  split at k
  · rename_i ms hu
    have hr := hh ms hu
    split at k
    · cases k; exact ⟨.bool b, by rw [h1]; simp [Sem.run_bind', hr, run_pure'], .bool b⟩
    · cases k; exact ⟨.bool (!b), by rw [h2]; simp [Sem.run_bind', hr, run_pure'], .bool _⟩
    · cases k
  · cases k

theorem equal_nn {t : TypeId} {ms : Array (String × TypeId)} (hu : P.underlying t = some (.interface ms)) (d : Nat) : (Op.equalIn (d + 1) t .nilIface .nilIface).run P W = .ok true W := by
  unfold Op.equalIn; rw [Sem.run_bind', run_underlying hu]; rfl
theorem equal_ni {t : TypeId} {ms : Array (String × TypeId)} (hu : P.underlying t = some (.interface ms)) (d : Nat) (ty : TypeId) (v : Value) : (Op.equalIn (d + 1) t .nilIface (.iface ty v)).run P W = .ok false W := by
  unfold Op.equalIn; rw [Sem.run_bind', run_underlying hu]; rfl
theorem equal_in {t : TypeId} {ms : Array (String × TypeId)} (hu : P.underlying t = some (.interface ms)) (d : Nat) (ty : TypeId) (v : Value) : (Op.equalIn (d + 1) t (.iface ty v) .nilIface).run P W = .ok false W := by
  unfold Op.equalIn; rw [Sem.run_bind', run_underlying hu]; rfl

theorem binOther_sim (r : HR P w0 e h W) {op : BinOp} {t : TypeId} {x y : Operand} {a b v : AVal} {A B : Value} (ha : VR e a A) (hb : VR e b B)
    (k : binOther P op t (isConstO x || isConstO y) a b = some v) :
    (eqGuard op t x y A B).run P W = .ok () W ∧ ∃ V, (binOp op t A B).run P W = .ok V W ∧ VR e v V := by
  unfold binOther at k
  split at k
  · cases ha; cases hb
    cases hk : (isConstO x || isConstO y) with
    | false => rw [hk] at k; cases k
    | true =>
      rw [hk] at k
      refine ⟨guard_nil_nil op t x y hk, eqOrNeq_sim k (fun ms hu => ?_) rfl rfl⟩
      exact equal_nn hu 9999
  · cases ha
    cases hb with
    | iface hv =>
      refine ⟨guard_nil_iface .., eqOrNeq_sim k (fun ms hu => ?_) rfl rfl⟩
      exact equal_ni hu 9999 _ _
  · cases hb
    cases ha with
    | iface hv =>
      refine ⟨guard_iface_nil .., eqOrNeq_sim k (fun ms hu => ?_) rfl rfl⟩
      exact equal_in hu 9999 _ _
  · rename_i xs ys
    cases ha with
    | agg h1 =>
      cases hb with
      | agg h2 =>
        unfold binAgg at k
        split at k
        · rename_i X Y hX hY
          obtain rfl := grounds_rel h1 hX
          obtain rfl := grounds_rel h2 hY
          cases hg : P.eqGuardType P.depth t with
          | true => rw [hg] at k; cases k
          | false =>
            rw [hg] at k
            exact ⟨guard_agg op t x y _ _ hg, pureV r k⟩
        · cases k
  · cases ha; cases hb; exact ⟨guard_int .., pureV r k⟩
  · cases ha; cases hb; exact ⟨guard_bool .., pureV r k⟩
  · cases ha; cases hb; exact ⟨guard_str .., pureV r k⟩
  · cases k

theorem aBinOp_sim (r : HR P w0 e h W) {op : BinOp} {t : TypeId} {x y : Operand} {a b v : AVal} {A B : Value} (ha : VR e a A) (hb : VR e b B)
    (k : aBinOp P op t (isConstO x || isConstO y) a b = some v) :
    (eqGuard op t x y A B).run P W = .ok () W ∧ ∃ V, (binOp op t A B).run P W = .ok V W ∧ VR e v V := by
  unfold aBinOp at k
  split at k
  · split at k
    · split at k
      · split at k
        · cases ha; cases hb; exact ⟨guard_int .., binI_sim r k⟩
        · exact binOther_sim r ha hb k
      · cases k
    · exact binOther_sim r ha hb k
  · exact binOther_sim r ha hb k

theorem opBin_sim (r : HR P w0 e h W) {n t T} (hT : TRel e n t T) {op : BinOp} {ty : TypeId} {y z : Operand} {x : ANext} (k : opBin P t h op ty y z = some x) :
    OpSim P w0 e h W ((do let a ← (do eqGuard op ty y z (opd T y) (opd T z); binOp op ty (opd T y) (opd T z)); pure (Next.value a)).run P W) x := by
  unfold opBin at k
  split at k
  · rename_i a b ha hb
    obtain ⟨v, hv, rfl⟩ := valO_some k
    obtain ⟨h1, V, h2, h3⟩ := aBinOp_sim r (ev_rel hT ha) (ev_rel hT hb) hv
    exact sim_pure r (by simp [Sem.run_bind', h1, h2]) h3
  · cases k

theorem opUn_sim (r : HR P w0 e h W) {n t T} (hT : TRel e n t T) {op : UnOp} {y : Operand} {x : ANext} (k : opUn P t h op y = some x) :
    OpSim P w0 e h W ((do let a ← Op.unary op (opd T y); pure (Next.value a)).run P W) x := by
  unfold opUn at k
  split at k
  · rename_i b hb
    have h1 := ev_rel hT hb
    generalize opd T y = C at h1
    cases h1
    split at k
    · cases k; exact sim_pure r rfl (.bool _)
    · cases k
  · rename_i kk m hb
    have h1 := ev_rel hT hb
    generalize opd T y = C at h1
    cases h1
    split at k
    · rename_i V hV
      obtain ⟨v, hv, rfl⟩ := valO_some k
      exact sim_pure r (run_of_pureRun hV W) (absV_rel hv)
    · cases k
  · cases k

theorem opConvert_sim (r : HR P w0 e h W) {n t T} (hT : TRel e n t T) {src dst : TypeId} {y : Operand} {x : ANext} (k : opConvert P t h src dst y = some x) :
    OpSim P w0 e h W ((do let a ← convert src dst (opd T y); pure (Next.value a)).run P W) x := by
  unfold opConvert at k
  split at k
  · rename_i kk m hb
    have h1 := ev_rel hT hb
    generalize opd T y = C at h1
    cases h1
    split at k
    · rename_i V hV
      obtain ⟨v, hv, rfl⟩ := valO_some k
      exact sim_pure r (run_of_pureRun hV W) (absV_rel hv)
    · cases k
  · cases k

theorem opIndex_sim (r : HR P w0 e h W) {n t T} (hT : TRel e n t T) {ty : TypeId} {y i : Operand} {x : ANext} (k : opIndex P t h ty y i = some x) :
    OpSim P w0 e h W ((do let a ← Instr.index ty (opd T y) (opd T i); pure (Next.value a)).run P W) x := by
  unfold opIndex at k
  split at k
  · rename_i len elem cs ik i' hu hq hi
    split at k
    · rename_i size hsz
      cases hlt : Nat.blt i' len with
      | false => rw [hlt] at k; cases k
      | true =>
        rw [hlt] at k
        obtain ⟨v, hv, rfl⟩ := valO_some (show valO h (partT P elem cs (i' * size)) = some x from k)
        have hl := blt_true hlt
        have h1 := ev_rel hT hq
        have h2 := ev_rel hT hi
        generalize opd T y = C at h1
        generalize opd T i = D at h2
        cases h1 with
        | agg hb =>
          cases h2
          obtain ⟨V, j1, j2⟩ := partT_sim (P := P) hb hv
          refine sim_pure r ?_ j1
          simp [Instr.index, asIntOf, Sem.run_bind', run_pure', run_underlying hu, run_sizeOf hsz, hl, j2]
    · cases k
  · rename_i s kk m hu hq hi
    have h1 := ev_rel hT hq
    have h2 := ev_rel hT hi
    generalize opd T y = C at h1
    generalize opd T i = D at h2
    cases h1; cases h2
    split at k
    · rename_i V hV
      obtain ⟨v, hv, rfl⟩ := valO_some k
      exact sim_pure r (run_of_pureRun hV W) (absV_rel hv)
    · cases k
  · cases k
end
end Go.AbsE
