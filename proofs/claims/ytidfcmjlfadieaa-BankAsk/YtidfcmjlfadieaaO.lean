import Derived.Test.YtidfcmjlfadieaaN
set_option linter.unusedSimpArgs false
namespace Go.AbsE
open Go

/-! An operation depends on its operands alone. -/
section
variable {P : Program} {t t' : Tr AVal} {h : AH}

theorem evs_congr : ∀ {l : List Operand}, (∀ x ∈ l, ev t x = ev t' x) → evs t l = evs t' l := by
  intro l
  induction l with
  | nil => intro _; rfl
  | cons x l ih =>
    intro hx
    have h1 := hx x (by simp)
    have h2 := ih (fun y hy => hx y (by simp [hy]))
    unfold evs at h2 ⊢
    simp only [mapO, h1, h2]

theorem evParts_congr : ∀ {l : List (Nat × Operand)}, (∀ x ∈ l.map (·.2), ev t x = ev t' x) → evParts t l = evParts t' l := by
  intro l
  induction l with
  | nil => intro _; rfl
  | cons x l ih =>
    intro hx
    obtain ⟨i, y⟩ := x
    have h1 := hx y (by simp)
    have h2 := ih (fun z hz => hx z (by simp only [List.map_cons, List.mem_cons]; exact .inr hz))
    simp only [evParts, h1, h2]

theorem evO_congr {x : Option Operand} (hx : ∀ y, x = some y → ev t y = ev t' y) : evO t x = evO t' x := by
  cases x with
  | none => rfl
  | some y => simp only [evO, hx y rfl]

theorem aOp_congr {o : Oper} (hx : ∀ x ∈ o.op.operands.toList, ev t x = ev t' x) : aOp P t h o = aOp P t' h o := by
  obtain ⟨dst, op, type, pos, after, guard⟩ := o
  dsimp only at hx
  unfold aOp prep
  cases op with
  | move y => have := hx y (by simp [Op.operands]); simp only [this]
  | assign y => have := hx y (by simp [Op.operands]); simp only [this]
  | pick c a b =>
    have h1 := hx c (by simp [Op.operands]); have h2 := hx a (by simp [Op.operands]); have h3 := hx b (by simp [Op.operands])
    simp only [opPick, h1, h2, h3]
  | alloc el => rfl
  | box el y => have := hx y (by simp [Op.operands]); simp only [opBox, this]
  | build ty parts =>
    have := evParts_congr (t := t) (t' := t') (l := parts.toList) (fun x q => hx x (by simpa [Op.operands] using q))
    simp only [opBuild, this]
  | buildSlice ty len parts =>
    have := evParts_congr (t := t) (t' := t') (l := parts.toList) (fun x q => hx x (by simpa [Op.operands] using q))
    simp only [opBuildSlice, this]
  | load ty a => have := hx a (by simp [Op.operands]); simp only [opLoad, this]
  | store ty a y => have h1 := hx a (by simp [Op.operands]); have h2 := hx y (by simp [Op.operands]); simp only [opStore, h1, h2]
  | nilCheck y => have := hx y (by simp [Op.operands]); simp only [opNilCheck, this]
  | binOp op ty y z yt => have h1 := hx y (by simp [Op.operands]); have h2 := hx z (by simp [Op.operands]); simp only [opBin, h1, h2]
  | unOp op xt y => have := hx y (by simp [Op.operands]); simp only [opUn, this]
  | convert src dst y => have := hx y (by simp [Op.operands]); simp only [opConvert, this]
  | makeInterface ty y => have := hx y (by simp [Op.operands]); simp only [opMakeInterface, this]
  | makeFunc fn first cap =>
    have h1 := evs_congr (t := t) (t' := t') (l := first.toList) (fun x q => hx x (by simp [Op.operands]; exact .inl (by simpa using q)))
    have h2 := evs_congr (t := t) (t' := t') (l := cap.toList) (fun x q => hx x (by simp [Op.operands]; exact .inr (by simpa using q)))
    simp only [opMakeFunc, h1, h2]
  | makeMap ty rs => cases rs <;> rfl
  | makeSlice ty l c => have h1 := hx l (by simp [Op.operands]); have h2 := hx c (by simp [Op.operands]); simp only [opMakeSlice, h1, h2]
  | slice ty y lo hi mx =>
    cases mx with
    | some _ => rfl
    | none =>
      have h1 := hx y (by simp [Op.operands])
      have h2 := evO_congr (t := t) (t' := t') (x := lo) (fun z q => hx z (by subst q; simp [Op.operands]))
      have h3 := evO_congr (t := t) (t' := t') (x := hi) (fun z q => hx z (by subst q; simp [Op.operands]))
      simp only [opSlice, h1, h2, h3]
  | fieldAddr s y f => have := hx y (by simp [Op.operands]); simp only [opFieldAddr, this]
  | field s y f => have := hx y (by simp [Op.operands]); simp only [opField, this]
  | indexAddr ty y i => have h1 := hx y (by simp [Op.operands]); have h2 := hx i (by simp [Op.operands]); simp only [opIndexAddr, h1, h2]
  | index ty y i => have h1 := hx y (by simp [Op.operands]); have h2 := hx i (by simp [Op.operands]); simp only [opIndex, h1, h2]
  | lookup ty y q ok => have h1 := hx y (by simp [Op.operands]); have h2 := hx q (by simp [Op.operands]); simp only [opLookup, h1, h2]
  | mapUpdate ty m q y =>
    have h1 := hx m (by simp [Op.operands]); have h2 := hx q (by simp [Op.operands]); have h3 := hx y (by simp [Op.operands])
    simp only [opMapUpdate, h1, h2, h3]
  | typeAssert y xt as ok => have := hx y (by simp [Op.operands]); simp only [opTypeAssert, this]
  | extract y i => have := hx y (by simp [Op.operands]); simp only [opExtract, this]
  | panic y => have := hx y (by simp [Op.operands]); simp only [opPanic, this]
  | call c =>
    have h1 := evs_congr (t := t) (t' := t') (l := c.args.toList) (fun x q => hx x (by simp [Op.operands, Call.operands]; exact .inr (by simpa using q)))
    have h2 : ∀ args, callWith P t h c.callee c.argTypes (c.args.map fun | .const _ => true | _ => false) type args = callWith P t' h c.callee c.argTypes (c.args.map fun | .const _ => true | _ => false) type args := by
      intro args
      unfold callWith
      cases hc : c.callee with
      | builtin b => rfl
      | invoke r name => have := hx r (by simp [Op.operands, Call.operands, hc]); simp only [this]
      | value f => have := hx f (by simp [Op.operands, Call.operands, hc]); simp only [this]
    simp only [opCall, h1]
    cases evs t' c.args.toList with
    | none => rfl
    | some args => exact h2 args
  | defer c =>
    have h1 := evs_congr (t := t) (t' := t') (l := c.args.toList) (fun x q => hx x (by simp [Op.operands, Call.operands]; exact .inr (by simpa using q)))
    simp only [opDefer, h1]
    cases hc : c.callee with
    | builtin b => rfl
    | invoke r name => rfl
    | value f => have := hx f (by simp [Op.operands, Call.operands, hc]); simp only [this]
  | _ => rfl
end
end Go.AbsE
