import Derived.Test.YtidfcmjlfadieaaN
set_option linter.unusedSimpArgs false
namespace Go.AbsE
open Go

/-! ### frames -/
inductive IR (e : Env) : AItem → Item → Prop
  | code (c) : IR e (.code c) (.code c)
  | inBlock (id) : IR e (.inBlock id) (.inBlock id)
  | inLoop (b) : IR e (.inLoop b) (.inLoop b)
  | inScope (b) : IR e (.inScope b) (.inScope b)
  | inRegion {all i rest} (h : rest = all.toList.drop i) : IR e (.inRegion all i rest) (.inRegion all (List.range' i (all.size - i)))
  | inRangeFunc {l L c} (h : e l = some (L, c)) : IR e (.inRangeFunc l) (.inRangeFunc L)
  | endRangeFunc {l L c} (h : e l = some (L, c)) : IR e (.endRangeFunc l) (.endRangeFunc L)
  | beginRound : IR e .beginRound .beginRound
inductive IRs (e : Env) : List AItem → List Item → Prop
  | nil : IRs e [] []
  | cons {a v l m} (h : IR e a v) (hs : IRs e l m) : IRs e (a :: l) (v :: m)

theorem IR.mono {e e' : Env} (he : Env.le e e') {a v} (h : IR e a v) : IR e' a v := by
  cases h with
  | code c => exact .code c
  | inBlock id => exact .inBlock id
  | inLoop b => exact .inLoop b
  | inScope b => exact .inScope b
  | inRegion h => exact .inRegion h
  | inRangeFunc h => exact .inRangeFunc (he.1 _ _ h)
  | endRangeFunc h => exact .endRangeFunc (he.1 _ _ h)
  | beginRound => exact .beginRound
theorem IRs.mono {e e' : Env} (he : Env.le e e') {a v} (h : IRs e a v) : IRs e' a v := by
  induction h with
  | nil => exact .nil
  | cons h _ ih => exact .cons (h.mono he) ih
theorem IRs.append {e : Env} {a d a' d'} (h : IRs e a d) (k : IRs e a' d') : IRs e (a ++ a') (d ++ d') := by
  induction h with
  | nil => exact k
  | cons h _ ih => exact .cons h ih

/-! ### single steps of a frame that runs -/
def Frame.w (b : Frame) (T : Array Value) (k : List Item) : Frame := { b with tmps := T, todo := k }

section
variable {P : Program} {b : Frame} (hb : b.mode = .run) {T : Array Value} {k : List Item} {cs : List Frame} {W : World}
include hb

theorem st_skip : step P (lone (Frame.w b T (.code .skip :: k)) cs W) = .next (lone (Frame.w b T k) cs W) := step_lone_go (by simp [stepG, stepG.exec, Frame.w, hb])
theorem st_label {l : Nat} : step P (lone (Frame.w b T (.code (.label l) :: k)) cs W) = .next (lone (Frame.w b T k) cs W) := step_lone_go (by simp [stepG, stepG.exec, Frame.w, hb])
theorem st_inBlock {id : Nat} : step P (lone (Frame.w b T (.inBlock id :: k)) cs W) = .next (lone (Frame.w b T k) cs W) := step_lone_go (by simp [stepG, stepG.exec, Frame.w, hb])
theorem st_inScope {c : Code} : step P (lone (Frame.w b T (.inScope c :: k)) cs W) = .next (lone (Frame.w b T k) cs W) := step_lone_go (by simp [stepG, stepG.exec, Frame.w, hb])
theorem st_seq {x y : Code} : step P (lone (Frame.w b T (.code (.seq x y) :: k)) cs W) = .next (lone (Frame.w b T (.code x :: .code y :: k)) cs W) := step_lone_go (by simp [stepG, stepG.exec, Frame.w, hb])
theorem st_block {id : Nat} {c : Code} : step P (lone (Frame.w b T (.code (.block id c) :: k)) cs W) = .next (lone (Frame.w b T (.code c :: .inBlock id :: k)) cs W) := step_lone_go (by simp [stepG, stepG.exec, Frame.w, hb])
theorem st_loop {c : Code} : step P (lone (Frame.w b T (.code (.loop c) :: k)) cs W) = .next (lone (Frame.w b T (.code c :: .inLoop c :: k)) cs W) := step_lone_go (by simp [stepG, stepG.exec, Frame.w, hb])
theorem st_inLoop {c : Code} : step P (lone (Frame.w b T (.inLoop c :: k)) cs W) = .next (lone (Frame.w b T (.code c :: .inLoop c :: k)) cs W) := step_lone_go (by simp [stepG, stepG.exec, Frame.w, hb])
theorem st_scope {c : Code} : step P (lone (Frame.w b T (.code (.scope c) :: k)) cs W) = .next (lone (Frame.w b T (.code c :: .inScope c :: k)) cs W) := step_lone_go (by simp [stepG, stepG.exec, Frame.w, hb])
theorem st_region {id : Nat} {ops : Array Oper} : step P (lone (Frame.w b T (.code (.region id ops false) :: k)) cs W) = .next (lone (Frame.w b T (.inRegion ops (List.range ops.size) :: k)) cs W) := step_lone_go (by simp [stepG, stepG.exec, Frame.w, hb])
theorem st_region_end {ops : Array Oper} : step P (lone (Frame.w b T (.inRegion ops [] :: k)) cs W) = .next (lone (Frame.w b T k) cs W) := step_lone_go (by simp [stepG, stepG.exec, Frame.w, hb])
theorem st_cond {c : Operand} {x y : Code} {t : Bool} (h : opd T c = .bool t) : step P (lone (Frame.w b T (.code (.cond c x y) :: k)) cs W) = .next (lone (Frame.w b T (.code (if t then x else y) :: k)) cs W) :=
  step_lone_go (by
    have he : (Frame.w b T (.code (.cond c x y) :: k)).eval c = .bool t := by rw [eval_opd]; exact h
    simp only [Frame.w, hb] at he
    simp [stepG, stepG.exec, Frame.w, hb, he])
theorem st_exit {id : Nat} {k' : List Item} (h : exitTo id k = some k') : step P (lone (Frame.w b T (.code (.exit id) :: k)) cs W) = .next (lone (Frame.w b T k') cs W) := step_lone_go (by simp [stepG, stepG.exec, Frame.w, hb, h])

theorem finish_w {ops : Array Oper} {i : Nat} {rest : List Nat} {v : Value} :
    (Frame.w b T (.inRegion ops (i :: rest) :: k)).finish v = Frame.w b (match (ops[i]?).bind (·.dst) with | some d => T.setIfInBounds d v | none => T) (.inRegion ops rest :: k) := by
  have _ := hb
  simp only [Frame.finish, Frame.w]
  cases (ops[i]?).bind (·.dst) <;> rfl

theorem st_op_skip {ops : Array Oper} {i : Nat} {rest : List Nat} {o : Oper} (ho : ops[i]? = some o) (hw : Region.wanted o (yielded ops T) = false) :
    step P (lone (Frame.w b T (.inRegion ops (i :: rest) :: k)) cs W) =
      .next (lone (Frame.w b (match o.dst with | some d => T.setIfInBounds d undef | none => T) (.inRegion ops rest :: k)) cs W) := by
  have hf := finish_w (b := b) hb (T := T) (k := k) (ops := ops) (i := i) (rest := rest) (v := undef)
  rw [ho] at hf
  simp only [Option.bind_some] at hf
  rw [← hf]
  refine step_lone_go ?_
  have h1 : (Frame.w b T (.inRegion ops (i :: rest) :: k)).mode = .run := hb
  simp [stepG, stepG.exec, Frame.w, hb, ho, hw]

/-- An operation is carried out by 'apply'. -/
theorem stG_op {ops : Array Oper} {i : Nat} {rest : List Nat} {o : Oper} (ho : ops[i]? = some o) (hw : Region.wanted o (yielded ops T) = true) (hd : b.roundOf = none ∨ ∀ c, o.op ≠ .defer c) :
    stepG P true { frame := Frame.w b T (.inRegion ops (i :: rest) :: k), callers := cs, status := .running, dying := none } W =
      stepG.apply P true (Frame.w b T (.inRegion ops (i :: rest) :: k)) cs none (execOp (opd T) o) W := by
  have he : (Frame.w b T (.inRegion ops (i :: rest) :: k)).eval = opd T := eval_opd _
  simp only [Frame.w, hb] at he
  have hr : (match b.roundOf, o.op with
      | some l, .defer c => stepG.apply P true (Frame.w b T (.inRegion ops (i :: rest) :: k)) cs none (do Instr.deferInRound l (← resolve (opd T) c o.type); pure .skip) W
      | _, _ => stepG.apply P true (Frame.w b T (.inRegion ops (i :: rest) :: k)) cs none (execOp (opd T) o) W) =
      stepG.apply P true (Frame.w b T (.inRegion ops (i :: rest) :: k)) cs none (execOp (opd T) o) W := by
    rcases hd with hd | hd
    · rw [hd]
    · cases hq : b.roundOf with
      | none => rfl
      | some l =>
        cases ho2 : o.op <;> first | rfl | exact absurd ho2 (hd _)
  rw [← hr]
  simp only [Frame.w]
  simp [stepG, stepG.exec, stepG.oper, Frame.oper?, hb, ho, hw, he]
  rfl

theorem st_value {ops : Array Oper} {i : Nat} {rest : List Nat} {o : Oper} (ho : ops[i]? = some o) (hw : Region.wanted o (yielded ops T) = true) {V : Value} {W' : World}
    (hr : (execOp (opd T) o).run P W = .ok (.value V) W' ∨ ((execOp (opd T) o).run P W = .ok .skip W' ∧ V = undef)) :
    step P (lone (Frame.w b T (.inRegion ops (i :: rest) :: k)) cs W) =
      .next (lone (Frame.w b (match o.dst with | some d => T.setIfInBounds d V | none => T) (.inRegion ops rest :: k)) cs W') := by
  have hf := finish_w (b := b) hb (T := T) (k := k) (ops := ops) (i := i) (rest := rest) (v := V)
  rw [ho] at hf
  simp only [Option.bind_some] at hf
  rw [← hf]
  refine step_lone_go ?_
  have hnd : ∀ c, o.op ≠ .defer c := by
    intro c hc
    have : (execOp (opd T) o) = (do pure (Next.defer (← resolve (opd T) c o.type)) : Sem Next) := by simp [execOp, hc]
    rw [this, Sem.run_bind'] at hr
    split at hr
    · rcases hr with hr | ⟨hr, _⟩ <;> · injection hr with h1 _; cases h1
    · rcases hr with hr | ⟨hr, _⟩ <;> cases hr
  rw [stG_op hb ho hw (.inr hnd)]
  rcases hr with hr | ⟨hr, rfl⟩ <;> simp [stepG.apply, hr]
end
end Go.AbsE
