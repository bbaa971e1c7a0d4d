import Derived.Test.YtmimdgjehnhnoaaMAG
import Derived.Test.YtmimdgjehnhnoaaMAF
namespace Go.AbsE
open Go
set_option linter.unusedSimpArgs false
set_option maxRecDepth 100000
section
variable {P : Program} {t : Tr AVal} {h : AH} {dst : Option Tmp} {ty tt : TypeId} {pos : String} {after : Array Edge} {guard : Option (Nat × Bool)} {x y : Operand}
theorem aOp_orNat {ty2 : TypeId} {a b r : Nat} (hx : ev t x = some (.int .i64 (a : Nat))) (hy : ev t y = some (.int .i64 (b : Nat))) (ha : a < 2 ^ 63) (hb : b < 2 ^ 63) (hr : a ||| b = r) :
  aOp P t h ⟨dst, .binOp .or ty x y ty2, tt, pos, after, guard⟩ = some (.val (.int .i64 (r : Nat)) h) := by
 refine aOp_bin hx hy ?_
 have hr2 : r < 2 ^ 63 := by rw [← hr]; exact Nat.or_lt_two_pow ha hb
 have : pureRun P (binOp .or ty (.int .i64 (a : Nat)) (.int .i64 (b : Nat))) = some (.int .i64 (r : Nat)) := by
  show pureRun P (if IntKind.i64 ≠ IntKind.i64 then stuck "BinOp: operands of different kinds" else Op.intBits .or .i64 (a : Nat) (b : Nat)) = _
  rw [if_neg (fun h => h rfl)]
  show some (Value.int .i64 (IntKind.i64.wrap ((BitVec.ofInt 64 (a : Nat) ||| BitVec.ofInt 64 (b : Nat)).toNat : Int))) = _
  have h1 : (BitVec.ofInt 64 (a : Nat) ||| BitVec.ofInt 64 (b : Nat)).toNat = r := by
   rw [BitVec.ofInt_natCast, BitVec.ofInt_natCast, BitVec.toNat_or, BitVec.toNat_ofNat, BitVec.toNat_ofNat, Nat.mod_eq_of_lt (by omega), Nat.mod_eq_of_lt (by omega)]
   exact hr
  rw [h1, i64_small (by omega)]
 show (match pureRun P (binOp .or ty (.int .i64 (a : Nat)) (.int .i64 (b : Nat))) with | some v => absV v | none => none) = _
 rw [this]
 rfl
end
theorem scal_ints : ∀ l : List Int, scalars (i64s l) = true
 | [] => rfl
 | x :: l => by
  show cond (scalar (.int .i64 x)) (scalars (i64s l)) false = true
  rw [scal_ints l]
  rfl
theorem beq_len {α : Type} {l : List α} {n : Nat} (h : l.length = n) : Nat.beq l.length n = true := by rw [h]; exact Nat.beq_refl n
end Go.AbsE

set_option linter.unusedSimpArgs false
namespace Go.AbsE
open Go
section
variable {P : Program}
def vints (l : List Int) : Array Value := (l.map fun x => Value.int .i64 x).toArray
theorem vints_at {l : List Int} {i : Nat} {x : Int} (h : l[i]? = some x) : (vints l)[i]? = some (.int .i64 x) := by
 unfold vints
 simp [h]
theorem pr_eq_arr {t e : TypeId} {k : IntKind} {n : Nat} (h : P.underlying t = some (.array n e)) (he : P.underlying e = some (.int k)) (hs : sizeT P e = some 1) {d : Nat} {a b : List Int} (ha : a.length = n) (hb : b.length = n) :
  pureRun P (Op.equalIn (d + 2) t (.agg (vints a)) (.agg (vints b))) = some (decide (a = b)) := by
 unfold Op.equalIn
 rw [pureRun_bind, pr_underlying h]
 simp only [Option.bind_some, pureRun_bind, pr_sizeOf hs, Std.Legacy.Range.forIn_eq_forIn_range', Std.Legacy.Range.size, Nat.sub_zero, Nat.add_one_sub_one, Nat.div_one]
 have key : ∀ m s, s + m = n → pureRun P (forIn (List.range' s m) (none, ()) fun i __s => do
      let __do_lift ← part e (vints a) (i * 1)
      let __do_lift_1 ← part e (vints b) (i * 1)
      let __do_lift ← Op.equalIn (d + 1) e __do_lift __do_lift_1
      if (!__do_lift) = true then pure (ForInStep.done (some false, ()))
       else pure (ForInStep.yield ((none : Option Bool), ()))) = some (if a.drop s = b.drop s then (none, ()) else (some false, ())) := by
  intro m
  induction m with
  | zero =>
   intro s hs
   have h1 : a.drop s = [] := List.drop_of_length_le (by omega)
   have h2 : b.drop s = [] := List.drop_of_length_le (by omega)
   rw [h1, h2, if_pos rfl]
   rfl
  | succ m ih =>
   intro s hs
   have hsa : s < a.length := by omega
   have hsb : s < b.length := by omega
   have h1 : a.drop s = a[s] :: a.drop (s + 1) := List.drop_eq_getElem_cons hsa
   have h2 : b.drop s = b[s] :: b.drop (s + 1) := List.drop_eq_getElem_cons hsb
   have p1 : pureRun P (part e (vints a) (s * 1)) = some (.int .i64 a[s]) := pr_part_one he (by rw [Nat.mul_one]; exact vints_at (List.getElem?_eq_getElem hsa))
   have p2 : pureRun P (part e (vints b) (s * 1)) = some (.int .i64 b[s]) := pr_part_one he (by rw [Nat.mul_one]; exact vints_at (List.getElem?_eq_getElem hsb))
   have hr : List.range' s (m + 1) = s :: List.range' (s + 1) m := rfl
   rw [hr, List.forIn_cons, h1, h2]
   simp only [pureRun_bind, p1, p2, Option.bind_some, pr_eq_int he]
   by_cases q : a[s] = b[s]
   ·rw [beq_iff_eq.2 q]
    simp only [Bool.not_true, Bool.false_eq_true, if_false, pureRun_pure, Option.bind_some]
    rw [ih (s + 1) (by omega), q]
    simp only [List.cons.injEq, true_and]
   ·rw [beq_eq_false_iff_ne.2 q]
    simp only [Bool.not_false, if_true, pureRun_pure, Option.bind_some]
    rw [if_neg (fun z => q (by injection z))]
 have k0 := key n 0 (by omega)
 rw [k0]
 simp only [List.drop_zero]
 by_cases q : a = b
 ·rw [if_pos q, decide_eq_true q]; rfl
 ·rw [if_neg q, decide_eq_false q]; rfl
theorem pr_check_arr {t e : TypeId} {k : IntKind} {n : Nat} (h : P.underlying t = some (.array n e)) (he : P.underlying e = some (.int k)) (hs : sizeT P e = some 1) {d : Nat} {c : Bool} {a : List Int} (ha : a.length = n) :
  pureRun P (Instr.checkKey c (d + 2) t (.agg (vints a))) = some () := by
 unfold Instr.checkKey
 rw [pureRun_bind, pr_underlying h]
 simp only [Option.bind_some, pureRun_bind, pr_sizeOf hs, Std.Legacy.Range.forIn_eq_forIn_range', Std.Legacy.Range.size, Nat.sub_zero, Nat.add_one_sub_one, Nat.div_one]
 have key : ∀ m s, s + m = n → pureRun P (forIn (List.range' s m) PUnit.unit fun i __s => do
      let __do_lift ← sizeOf e
      let __do_lift ← part e (vints a) (i * __do_lift)
      Instr.checkKey c (d + 1) e __do_lift
      pure (ForInStep.yield PUnit.unit)) = some PUnit.unit := by
  intro m
  induction m with
  | zero => intro s _; rfl
  | succ m ih =>
   intro s hsm
   have hsa : s < a.length := by omega
   have p1 : pureRun P (part e (vints a) (s * 1)) = some (.int .i64 a[s]) := pr_part_one he (by rw [Nat.mul_one]; exact vints_at (List.getElem?_eq_getElem hsa))
   have hr : List.range' s (m + 1) = s :: List.range' (s + 1) m := rfl
   rw [hr, List.forIn_cons]
   simp only [pureRun_bind, pr_sizeOf hs, p1, Option.bind_some, pr_check_int he, pureRun_pure]
   exact ih (s + 1) (by omega)
 rw [key n 0 (by omega)]
 rfl
def FieldI (P : Program) (f : Field) (n : Nat) : Prop := f.name ≠ "_" ∧ ((n = 1 ∧ ∃ k, P.underlying f.type = some (.int k)) ∨ (sizeT P f.type = some n ∧ ∃ e k, P.underlying f.type = some (.array n e) ∧ P.underlying e = some (.int k) ∧ sizeT P e = some 1))
inductive FieldsI (P : Program) : Nat → List Field → Nat → Prop
 | nil (o : Nat) : FieldsI P o [] o
 | cons {o n N : Nat} {f : Field} {l : List Field} (h1 : FieldI P f n) (h2 : f.offset = o) (h3 : FieldsI P (o + n) l N) : FieldsI P o (f :: l) N
theorem FieldsI.le {o N : Nat} {l : List Field} (h : FieldsI P o l N) : o ≤ N := by
 induction h with
 | nil o => exact Nat.le_refl _
 | cons _ _ _ ih => omega
theorem vints_ext {a : List Int} {o n : Nat} : (vints a).extract o (o + n) = vints ((a.drop o).take n) := by
 unfold vints
 rw [List.extract_toArray, List.extract_eq_take_drop, ← List.map_drop, ← List.map_take]
 congr 3
 omega
theorem pr_eq_field {f : Field} {n o N : Nat} (F : FieldI P f n) {a b : List Int} (ha : a.length = N) (hb : b.length = N) (ho : o + n ≤ N) {d : Nat} :
  ((pureRun P (part f.type (vints a) o)).bind fun x => (pureRun P (part f.type (vints b) o)).bind fun y => pureRun P (Op.equalIn (d + 2) f.type x y)) = some (decide ((a.drop o).take n = (b.drop o).take n)) := by
 obtain ⟨_, ⟨rfl, k, hk⟩ | ⟨hs, e, k, h1, h2, h3⟩⟩ := F
 ·have hsa : o < a.length := by omega
  have hsb : o < b.length := by omega
  rw [pr_part_one hk (vints_at (List.getElem?_eq_getElem hsa)), pr_part_one hk (vints_at (List.getElem?_eq_getElem hsb))]
  simp only [Option.bind_some]
  rw [pr_eq_int hk, List.drop_eq_getElem_cons hsa, List.drop_eq_getElem_cons hsb, List.take_succ_cons, List.take_succ_cons, List.take_zero, List.take_zero]
  by_cases q : a[o] = b[o]
  ·rw [beq_iff_eq.2 q, q, decide_eq_true rfl]
  ·rw [beq_eq_false_iff_ne.2 q, decide_eq_false (fun z => q (by injection z))]
 ·rw [pr_part_array h1 hs, pr_part_array h1 hs]
  simp only [Option.bind_some]
  rw [vints_ext, vints_ext, pr_eq_arr h1 h2 h3 (by rw [List.length_take, List.length_drop]; omega) (by rw [List.length_take, List.length_drop]; omega)]
theorem pr_check_field {f : Field} {n o N : Nat} (F : FieldI P f n) {a : List Int} (ha : a.length = N) (ho : o + n ≤ N) {d : Nat} {c : Bool} :
  ((pureRun P (part f.type (vints a) o)).bind fun x => pureRun P (Instr.checkKey c (d + 2) f.type x)) = some () := by
 obtain ⟨_, ⟨rfl, k, hk⟩ | ⟨hs, e, k, h1, h2, h3⟩⟩ := F
 ·have hsa : o < a.length := by omega
  rw [pr_part_one hk (vints_at (List.getElem?_eq_getElem hsa))]
  simp only [Option.bind_some]
  exact pr_check_int hk
 ·rw [pr_part_array h1 hs]
  simp only [Option.bind_some]
  rw [vints_ext, pr_check_arr h1 h2 h3 (by rw [List.length_take, List.length_drop]; omega)]
structure KeyN (P : Program) (kt : TypeId) (N : Nat) : Prop where
 fs : ∃ fs : Array Field, P.underlying kt = some (.struct fs) ∧ FieldsI P 0 fs.toList N
 std : P.stoodInHeld kt = false
theorem pr_eq_keyN {kt : TypeId} {N : Nat} (K : KeyN P kt N) {a b : List Int} (ha : a.length = N) (hb : b.length = N) : pureRun P (Op.equal kt (.agg (vints a)) (.agg (vints b))) = some (decide (a = b)) := by
 obtain ⟨⟨fs, hu, hf⟩, hst⟩ := K
 show pureRun P (Op.equalIn (9999 + 1) kt _ _) = _
 unfold Op.equalIn
 rw [pureRun_bind, pr_underlying hu]
 simp only [Option.bind_some, pureRun_bind, pr_program, hst, Bool.false_eq_true, if_false, ← Array.forIn_toList]
 have key : ∀ (l : List Field) (o : Nat), FieldsI P o l N → pureRun P (forIn l (none, ()) fun f __s =>
      if f.name ≠ "_" then do
       let __do_lift ← part f.type (vints a) f.offset
       let __do_lift_1 ← part f.type (vints b) f.offset
       let __do_lift ← Op.equalIn 9999 f.type __do_lift __do_lift_1
       if (!__do_lift) = true then pure (ForInStep.done (some false, ()))
        else pure (ForInStep.yield ((none : Option Bool), ()))
      else pure (ForInStep.yield ((none : Option Bool), ()))) = some (if a.drop o = b.drop o then (none, ()) else (some false, ())) := by
  intro l o hl
  clear hf hu
  induction hl with
  | nil o =>
   rw [List.drop_of_length_le (by omega), List.drop_of_length_le (by omega), if_pos rfl]
   rfl
  | cons h1 h2 h3 ih =>
   rename_i o n N f l
   have hle := h3.le
   have e1 := pr_eq_field (d := 9997) h1 ha hb (by omega)
   rw [List.forIn_cons, if_pos h1.1]
   simp only [pureRun_bind]
   rw [h2]
   obtain ⟨x, hx⟩ : ∃ x, pureRun P (part f.type (vints a) o) = some x := by
    cases q : pureRun P (part f.type (vints a) o) with
    | none => rw [q] at e1; cases e1
    | some x => exact ⟨x, rfl⟩
   obtain ⟨y, hy⟩ : ∃ y, pureRun P (part f.type (vints b) o) = some y := by
    rw [hx] at e1
    cases q : pureRun P (part f.type (vints b) o) with
    | none => rw [q] at e1; cases e1
    | some x => exact ⟨x, rfl⟩
   rw [hx, hy] at e1
   simp only [Option.bind_some] at e1
   rw [hx, hy]
   simp only [Option.bind_some]
   rw [e1]
   have ha2 : a.drop o = (a.drop o).take n ++ a.drop (o + n) := by rw [← List.drop_drop, List.take_append_drop]
   have hb2 : b.drop o = (b.drop o).take n ++ b.drop (o + n) := by rw [← List.drop_drop, List.take_append_drop]
   have hla : ((a.drop o).take n).length = n := by rw [List.length_take, List.length_drop]; omega
   have hlb : ((b.drop o).take n).length = n := by rw [List.length_take, List.length_drop]; omega
   have iff : a.drop o = b.drop o ↔ (a.drop o).take n = (b.drop o).take n ∧ a.drop (o + n) = b.drop (o + n) := by
    constructor
    ·intro q
     refine ⟨by rw [q], ?_⟩
     rw [← List.drop_drop, ← List.drop_drop, q]
    ·rintro ⟨q1, q2⟩
     rw [ha2, hb2, q1, q2]
   by_cases q : (a.drop o).take n = (b.drop o).take n
   ·rw [decide_eq_true q]
    simp only [Option.bind_some, Bool.not_true, Bool.false_eq_true, if_false, pureRun_pure]
    rw [ih ha hb]
    by_cases q2 : a.drop (o + n) = b.drop (o + n)
    ·rw [if_pos q2, if_pos (iff.2 ⟨q, q2⟩)]
    ·rw [if_neg q2, if_neg (fun z => q2 (iff.1 z).2)]
   ·rw [decide_eq_false q]
    simp only [Option.bind_some, Bool.not_false, if_true, pureRun_pure]
    rw [if_neg (fun z => q (iff.1 z).1)]
 rw [key _ _ hf]
 simp only [List.drop_zero]
 by_cases q : a = b
 ·rw [if_pos q, decide_eq_true q]; rfl
 ·rw [if_neg q, decide_eq_false q]; rfl
theorem pr_check_keyN {kt : TypeId} {N : Nat} (K : KeyN P kt N) {a : List Int} (ha : a.length = N) {c : Bool} : pureRun P (Instr.checkKey c 10000 kt (.agg (vints a))) = some () := by
 obtain ⟨⟨fs, hu, hf⟩, hst⟩ := K
 show pureRun P (Instr.checkKey c (9999 + 1) kt _) = _
 unfold Instr.checkKey
 rw [pureRun_bind, pr_underlying hu]
 simp only [Option.bind_some, pureRun_bind, ← Array.forIn_toList]
 have key : ∀ (l : List Field) (o : Nat), FieldsI P o l N → pureRun P (forIn l PUnit.unit fun f __s =>
      if f.name ≠ "_" then do
       let __do_lift ← part f.type (vints a) f.offset
       Instr.checkKey c 9999 f.type __do_lift
       pure (ForInStep.yield PUnit.unit)
      else pure (ForInStep.yield PUnit.unit)) = some PUnit.unit := by
  intro l o hl
  clear hf hu
  induction hl with
  | nil o => rfl
  | cons h1 h2 h3 ih =>
   rename_i o n N f l
   have hle := h3.le
   have e1 := pr_check_field (d := 9997) (c := c) h1 ha (by omega)
   rw [List.forIn_cons, if_pos h1.1]
   simp only [pureRun_bind]
   rw [h2]
   obtain ⟨x, hx⟩ : ∃ x, pureRun P (part f.type (vints a) o) = some x := by
    cases q : pureRun P (part f.type (vints a) o) with
    | none => rw [q] at e1; cases e1
    | some x => exact ⟨x, rfl⟩
   rw [hx] at e1
   simp only [Option.bind_some] at e1
   rw [hx]
   simp only [Option.bind_some]
   rw [e1]
   simp only [Option.bind_some, pureRun_pure]
   exact ih ha
 rw [key _ _ hf]
 rfl
theorem sameBits_vints (l : List Int) : Instr.sameBits 10000 (.agg (vints l)) (.agg (vints l)) = true := by
 show Instr.sameBits (9999 + 1) (.agg _) (.agg _) = true
 unfold Instr.sameBits
 have : ∀ l : List Int, ((l.map fun x => Value.int .i64 x).zip (l.map fun x => Value.int .i64 x)).all (fun (x, y) => Instr.sameBits 9999 x y) = true := by
  intro l
  induction l with
  | nil => rfl
  | cons x l ih => simp only [List.map_cons, List.zip_cons_cons, List.all_cons, ih, Bool.and_true]; simp [Instr.sameBits]
 exact Bool.and_eq_true_iff.2 ⟨by simp, this l⟩
def MapN (es : List AMapE) (f : List (List Int × AVal)) : Prop := es.map (fun e => (e.key, e.val)) = f.map fun x => (Value.agg (vints x.1), x.2)
def LenN (N : Nat) (f : List (List Int × AVal)) : Prop := ∀ x, x ∈ f → x.1.length = N
noncomputable def findN (k : List Int) : List (List Int × AVal) → Option AVal
 | [] => none
 | x :: f => if k = x.1 then some x.2 else findN k f
noncomputable def setN (k : List Int) (v : AVal) : List (List Int × AVal) → List (List Int × AVal)
 | [] => [(k, v)]
 | x :: f => if k = x.1 then (k, v) :: f else x :: setN k v f
theorem findN_ok {kt : TypeId} {N : Nat} (K : KeyN P kt N) {k : List Int} (hk : k.length = N) : ∀ {es : List AMapE} {f : List (List Int × AVal)}, MapN es f → LenN N f → aMapFind P kt (Value.agg (vints k)) es = some (findN k f) := by
 intro es
 induction es with
 | nil =>
  intro f h _
  cases f with
  | nil => rfl
  | cons x f => cases h
 | cons e es ih =>
  intro f h h4
  cases f with
  | nil => cases h
  | cons x f =>
   simp only [MapN, List.map_cons, List.cons.injEq, Prod.mk.injEq] at h
   obtain ⟨⟨hk1, hv1⟩, h⟩ := h
   have hih := ih (f := f) h fun y hy => h4 y (by simp [hy])
   obtain ⟨x, v⟩ := x
   have hx4 := h4 (x, v) (by simp)
   unfold aMapFind findN
   dsimp only at hk1 hv1 hih ⊢
   rw [hk1, pr_eq_keyN K hk hx4]
   by_cases q : k = x
   ·rw [if_pos q, decide_eq_true q, hv1]
   ·rw [if_neg q, decide_eq_false q]; exact hih
theorem setN_ok {kt : TypeId} {N : Nat} (K : KeyN P kt N) {k : List Int} (hk : k.length = N) (v : AVal) (clock : Nat) : ∀ {es : List AMapE} {f : List (List Int × AVal)}, MapN es f → LenN N f → ∃ es' c', aMapSet P kt (Value.agg (vints k)) v clock es = some (es', c') ∧ MapN es' (setN k v f) := by
 intro es
 induction es with
 | nil =>
  intro f h _
  cases f with
  | nil => exact ⟨_, _, rfl, rfl⟩
  | cons x f => cases h
 | cons e es ih =>
  intro f h h4
  cases f with
  | nil => cases h
  | cons x f =>
   have h0 := h
   simp only [MapN, List.map_cons, List.cons.injEq, Prod.mk.injEq] at h
   obtain ⟨⟨hk1, hv1⟩, h⟩ := h
   obtain ⟨es', c', hih1, hih2⟩ := ih (f := f) h fun y hy => h4 y (by simp [hy])
   obtain ⟨x, w⟩ := x
   have hx4 := h4 (x, w) (by simp)
   unfold aMapSet setN
   dsimp only at hk1 hv1 hih1 hih2 ⊢
   rw [hk1, pr_eq_keyN K hk hx4]
   by_cases q : k = x
   ·rw [if_pos q, decide_eq_true q]
    cases q
    simp only [sameBits_vints, cond_true]
    exact ⟨_, _, rfl, by simp only [MapN, List.map_cons, List.cons.injEq]; exact ⟨trivial, h⟩⟩
   ·rw [if_neg q, decide_eq_false q]
    simp only [hih1]
    exact ⟨_, _, rfl, by simp only [MapN, List.map_cons, List.cons.injEq, Prod.mk.injEq]; exact ⟨⟨hk1, hv1⟩, hih2⟩⟩
theorem setN_mem {k : List Int} {v : AVal} : ∀ {f : List (List Int × AVal)} {x}, x ∈ setN k v f → x = (k, v) ∨ x ∈ f := by
 intro f
 induction f with
 | nil => intro x h; simp [setN] at h; exact .inl h
 | cons y f ih =>
  intro x h
  unfold setN at h
  split at h
  ·cases h with
   | head => exact .inl rfl
   | tail _ h => exact .inr (List.mem_cons_of_mem _ h)
  ·cases h with
   | head => exact .inr (by simp)
   | tail _ h => exact (ih h).imp id fun q => by simp [q]
theorem findN_mem {k : List Int} {v : AVal} : ∀ {f : List (List Int × AVal)}, findN k f = some v → (k, v) ∈ f := by
 intro f
 induction f with
 | nil => intro h; cases h
 | cons y f ih =>
  intro h
  unfold findN at h
  split at h
  ·rename_i q; cases h; rw [q]; simp
  ·simp [ih h]
theorem grounds_i64s : ∀ l : List Int, grounds (i64s l) = some (l.map fun x => Value.int .i64 x) := by
 intro l
 induction l with
 | nil => rfl
 | cons a l ih =>
  unfold i64s at ih ⊢
  simp only [List.map_cons, grounds, AVal.ground, ih]
theorem ground_vints (l : List Int) : (AVal.agg (i64s l)).ground = some (.agg (vints l)) := by
 simp only [AVal.ground, grounds_i64s]
 rfl
theorem aOp_lookupN {t : Tr AVal} {h : AH} {dst : Option Tmp} {tt : TypeId} {pos : String} {after : Array Edge} {guard : Option (Nat × Bool)} {ty kt vt : TypeId} {N : Nat} {x k : Operand} {commaOk : Bool} {b clock : Nat} {es : List AMapE} {f : List (List Int × AVal)} {key : List Int} {z : AVal}
  (K : KeyN P kt N) (hu : P.underlying ty = some (.map kt vt)) (hz : zeroT P vt = some z) (hx : ev t x = some (.map b)) (hk : ev t k = some (.agg (i64s key))) (h4 : key.length = N)
  (hb : Has h b (.map es clock)) (hm : MapN es f) (hf : LenN N f) :
  aOp P t h ⟨dst, .lookup ty x k commaOk, tt, pos, after, guard⟩ = some (.val (match findN key f with | some v => cond commaOk (.tuple [v, .bool true]) v | none => cond commaOk (.tuple [z, .bool false]) z) h) := by
 show opLookup P t h ty x k commaOk = _
 unfold opLookup
 rw [hu, hx, hk]
 dsimp only
 rw [hb.2, ground_vints, hz]
 dsimp only
 have hc : pureRun P (Instr.checkKey es.isEmpty 10000 kt (Value.agg (vints key))) = some () := by
  exact pr_check_keyN K h4
 rw [hc, findN_ok K h4 hm hf]
 cases findN key f with
 | none => rfl
 | some v => rfl
theorem aOp_mapUpdateN {t : Tr AVal} {h : AH} {dst : Option Tmp} {tt : TypeId} {pos : String} {after : Array Edge} {guard : Option (Nat × Bool)} {ty kt vt : TypeId} {N : Nat} {x k y : Operand} {b clock : Nat} {es : List AMapE} {f : List (List Int × AVal)} {key : List Int} {v : AVal}
  (K : KeyN P kt N) (hu : P.underlying ty = some (.map kt vt)) (hx : ev t x = some (.map b)) (hk : ev t k = some (.agg (i64s key))) (hy : ev t y = some v) (h4 : key.length = N)
  (hb : Has h b (.map es clock)) (hm : MapN es f) (hf : LenN N f) :
  ∃ es' c' h', aOp P t h ⟨dst, .mapUpdate ty x k y, tt, pos, after, guard⟩ = some (.val undefA h') ∧ Upd h b (.map es' c') h' ∧ MapN es' (setN key v f) ∧ LenN N (setN key v f) := by
 obtain ⟨es', c', q1, q2⟩ := setN_ok K h4 v clock hm hf
 obtain ⟨h', s1, s2⟩ := set_upd h b (.map es' c')
 refine ⟨es', c', h', ?_, s2, q2, fun x hx => (setN_mem hx).elim (fun e => by rw [e]; exact h4) (hf x)⟩
 show opMapUpdate P t h ty x k y = _
 unfold opMapUpdate
 rw [hu, hx, hk, hy]
 dsimp only
 rw [hb.2, ground_vints]
 dsimp only
 have hc : pureRun P (Instr.checkKey false 10000 kt (Value.agg (vints key))) = some () := by
  exact pr_check_keyN K h4
 rw [hc]
 dsimp only
 rw [q1]
 dsimp only
 rw [s1]
theorem GoR.mapUpdateN {J : Jump} {c : FC} {k : List AItem} {Q : AM → Prop} {all : Array Oper} {l : List Oper} {dst : Option Tmp} {tt : TypeId} {pos : String} {after : Array Edge} {guard : Option (Nat × Bool)} {rest : List Oper} {i : Nat} {t : Tr AVal} {h : AH} {ty kt vt : TypeId} {N : Nat} {x kx y : Operand} {b clock : Nat} {es : List AMapE} {f : List (List Int × AVal)} {key : List Int} {v : AVal}
  (hl : l = ⟨dst, .mapUpdate ty x kx y, tt, pos, after, guard⟩ :: rest) (hw : wantedA all t ⟨dst, .mapUpdate ty x kx y, tt, pos, after, guard⟩ = some true) (K : KeyN P kt N) (hu : P.underlying ty = some (.map kt vt)) (hd : dst = none)
  (hx : ev t x = some (.map b)) (hk : ev t kx = some (.agg (i64s key))) (hy : ev t y = some v) (h4 : key.length = N) (hb : Has h b (.map es clock)) (hm : MapN es f) (hf : LenN N f)
  (g : ∀ es' c' h1, Upd h b (.map es' c') h1 → MapN es' (setN key v f) → LenN N (setN key v f) → GoR P J c k Q (runOps P c.n all rest (i + 1) t h1)) : GoR P J c k Q (runOps P c.n all l i t h) := by
 obtain ⟨es', c', h1, q1, q2, q3, q4⟩ := aOp_mapUpdateN (dst := dst) (tt := tt) (pos := pos) (after := after) (guard := guard) K hu hx hk hy h4 hb hm hf
 refine GoR.op hl hw q1 ?_ (g es' c' h1 q2 q3 q4)
 unfold prepD
 rw [show (⟨dst, .mapUpdate ty x kx y, tt, pos, after, guard⟩ : Oper).dst = none from hd]
end
section
variable {P : Program} {t : Tr AVal} {h : AH} {dst : Option Tmp} {ty tt : TypeId} {pos : String} {after : Array Edge} {guard : Option (Nat × Bool)} {x y : Operand} {c : FC} {k : List AItem} {Q : AM → Prop} {J : Jump} {all : Array Oper} {pl rest : List DOp} {tf ta : Tr AVal} {facts left : List DFact} {i bef d : Nat} {l lrest : List Oper}
theorem GoE.copyIn {t1 t2 el eb : TypeId} {sz b off len cap n : Nat} {s : AVal} {cs cs' new : List AVal} {g0 : Kd} (hl : pl = ⟨i, bef, false, ⟨dst, .call ⟨.builtin .copy, #[x, y], #[t1, t2]⟩, tt, pos, after, guard⟩, false⟩ :: rest) (hw : wantedA all ta ⟨dst, .call ⟨.builtin .copy, #[x, y], #[t1, t2]⟩, tt, pos, after, guard⟩ = some true)
  (hu1 : P.underlying t1 = some (.slice el)) (hs : sizeT P el = some sz) (hx : ev ta x = some (.slice b off len cap)) (hy : ev ta y = some s) (hn : lenA s = some n) (hm : Nat.min n len = n)
  (hsrc : srcCells h sz n s = some new) (hb : Has h b (.cells g0 cs eb)) (hg : g0.isRo = false) (hns : scalars new = true) (hsp : splice cs off new = some cs') (hleft : dropF bef facts = left) (hd : dst = some d) (hdn : Nat.blt d c.n = true)
  (g : ∀ h1, Upd h b (.cells g0 cs' eb) h1 → recheck P h1 left = true ∧ GoE P c k Q all rest tf left (ta.put (pth d) (some (.int .i64 n))) h1) : GoE P c k Q all pl tf facts ta h := by
 obtain ⟨h1, q1, q2⟩ := aOp_copyIn (P := P) (dst := dst) (tt := tt) (pos := pos) (after := after) (guard := guard) (t2 := t2) hu1 hs hx hy hn hm hsrc hb hg hns hsp
 obtain ⟨g1, g2⟩ := g h1 q2
 exact GoE.noisy0 hl hw q1 hleft g1 (prepD_some hd hdn) g2
end
end Go.AbsE

set_option linter.unusedSimpArgs false
namespace Go.AbsE
open Go
inductive Cut (P : Program) (h : AH) (sz : Nat) : AVal → Nat → Prop
 | nil : Cut P h sz .nilslice 0
 | sl {b off n cap : Nat} (hle : n ≤ cap) : Cut P h sz (.slice b off n cap) n
 | gsl {b off i n : Nat} {cs : List AVal} {el : TypeId} (hb : Has h b (.cells .grow cs el)) (ho : off = i * sz) (hl : off + n * sz ≤ cs.length) (he : eqSize P el sz = true) : Cut P h sz (.gsl b off i n) n
theorem Cut.ext {P : Program} {h h' : AH} {sz n : Nat} {s : AVal} (k : Cut P h sz s n) (e : Ext h h') : Cut P h' sz s n := by
 cases k with
 | nil => exact .nil
 | sl hle => exact .sl hle
 | gsl hb ho hl he => exact .gsl (hb.ext e) ho hl he
theorem SliceOf.drop {h : AH} {sz b off i : Nat} {s s' : AVal} {L : List (List AVal)} (k : SliceOf h sz s L) (hs : aSlElems s = some (b, off, L.length)) (hs' : aSlElems s' = some (b, off + i * sz, L.length - i)) (hn' : lenA s' = some (L.length - i)) (hi : i ≤ L.length) : SliceOf h sz s' (L.drop i) := by
 cases k with
 | nil => simp [aSlElems] at hs
 | mk hs2 hn hb hl hz hc =>
  rw [hs] at hs2
  cases hs2
  refine .mk hs' hn' hb (by rw [List.length_drop]) (fun l hl => hz l (List.mem_of_mem_drop hl)) ?_
  have hp := loadCells_part (k := i * sz) (m := (L.length - i) * sz) hc (by rw [← Nat.add_mul, Nat.add_sub_cancel' hi]; exact Nat.le_refl _)
  rw [List.length_drop, hp]
  congr 1
  have e1 : (L.take i).flatten.length = i * sz := by
   rw [flatten_len (sz := sz) (fun l hl => hz l (List.mem_of_mem_take hl)), List.length_take, Nat.min_eq_left hi]
  have e2 : (L.drop i).flatten.length = (L.length - i) * sz := by
   rw [flatten_len (sz := sz) (fun l hl => hz l (List.mem_of_mem_drop hl)), List.length_drop]
  have e3 : L.flatten = (L.take i).flatten ++ (L.drop i).flatten := by rw [← List.flatten_append, List.take_append_drop]
  rw [e3, ← e1, List.drop_left, ← e2, List.take_length]
theorem grow_own {h : AH} {el : TypeId} {sz lo : Nat} {s : AVal} {n : Nat} {cs : List AVal} (k : Grow h el sz lo s n cs) {b : Nat} (hs : s = .gsl b 0 0 n) : lo ≤ b ∧ b < h.next := by
 rcases k.2 with ⟨rfl, _⟩ | ⟨_, b', h1, rfl, h3⟩
 ·cases hs
 ·cases hs; exact ⟨h1, h3.1⟩
theorem grow_extF {S : Nat → Prop} {h h' : AH} {el : TypeId} {sz lo : Nat} {s : AVal} {n : Nat} {cs : List AVal} (k : Grow h el sz lo s n cs) (e : ExtF S h h') (hS : ∀ b, S b → b < lo) : Grow h' el sz lo s n cs := by
 obtain ⟨k1, k2⟩ := k
 refine ⟨k1, ?_⟩
 rcases k2 with k2 | ⟨h0, b, h1, h2, h3⟩
 ·exact .inl k2
 ·exact .inr ⟨h0, b, h1, h2, h3.extF e (fun q => by have := hS b q; omega)⟩
theorem flat1 : ∀ l : List Int, (l.flatMap fun x => [AVal.int .i64 x]) = i64s l
 | [] => rfl
 | x :: l => by rw [List.flatMap_cons, flat1 l]; rfl
theorem flat_slice {α : Type} {f : α → List AVal} {sz : Nat} (hf : ∀ p, (f p).length = sz) {l : List α} {d : Nat} {p : List AVal} (h : (l.map f)[d]? = some p) : slice? (l.flatMap f) (d * sz) sz = some p := by
 have := slice_flatten (sz := sz) (L := l.map f) (fun x hx => by obtain ⟨q, _, rfl⟩ := List.mem_map.1 hx; exact hf q) d p h
 rwa [← List.flatMap_def] at this
theorem nums_sl {h : AH} {lo : Nat} {el : TypeId} {s : AVal} {l : List Int} {n : Nat} (hn : l.length = n) (G : Grow h el 1 lo s n (i64s l)) : SliceOf h 1 s (l.map fun x => [AVal.int .i64 x]) := by
 refine Grow.sliceOf (L := l.map fun x => [AVal.int .i64 x]) (cs := i64s l) (by rw [List.length_map, hn]; exact G) fun i v q => ?_
 rw [← flat1]
 exact flat_slice (f := fun x : Int => [AVal.int .i64 x]) (sz := 1) (fun _ => rfl) q
theorem lit_slice {h : AH} {b n : Nat} {g : Kd} {el : TypeId} {l : List Int} (hn : l.length = n) (f : Has h b (.cells g (i64s l) el)) : SliceOf h 1 (.slice b 0 n n) (l.map fun x => [AVal.int .i64 x]) := by
 refine SliceOf.mk' (len := n) rfl rfl f (by rw [List.length_map]; exact hn) fun i v q => ?_
 rw [← flat1, Nat.zero_add]
 exact flat_slice (f := fun x : Int => [AVal.int .i64 x]) (sz := 1) (fun _ => rfl) q
def CutAt (P : Program) (h : AH) (sz i : Nat) (s s' : AVal) : Prop := ∀ {t : Tr AVal} {dst : Option Tmp} {ty tt el : TypeId} {pos : String} {after : Array Edge} {guard : Option (Nat × Bool)} {x lo : Operand}, P.underlying ty = some (.slice el) → sizeT P el = some sz → ev t x = some s → ev t lo = some (.int .i64 (i : Nat)) →
 aOp P t h ⟨dst, .slice ty x (some lo) none none, tt, pos, after, guard⟩ = some (.val s' h)
theorem Cut.at {P : Program} {h : AH} {sz n i : Nat} {s : AVal} {L : List (List AVal)} (C : Cut P h sz s n) (S : SliceOf h sz s L) (hL : L.length = n) (hi : i < n) (h0 : 0 < sz) : ∃ s', CutAt P h sz i s s' ∧ SliceOf h sz s' (L.drop i) := by
 have hlo' : ∀ {t : Tr AVal} {lo : Operand}, ev t lo = some (.int .i64 (i : Nat)) → evO t (some lo) = some (some (.int .i64 (i : Nat))) := by
  intro t lo hlo
  show (match ev t lo with | some v => some (some v) | none => none) = _
  rw [hlo]
 cases C with
 | nil => omega
 | sl hle =>
  rename_i b off cap
  exact ⟨_, fun hu hs hx hlo => aOp_slice hu hs hx (hlo' hlo) rfl (cut_lo (by omega)) hle (by omega), S.drop (by rw [hL]; rfl) (by rw [hL]; rfl) (by rw [hL]; rfl) (by omega)⟩
 | gsl hb ho hl he =>
  rename_i b off j cs el2
  have key : ∀ s', (cond (Nat.beq i 0) (some (ANext.val (.gsl b off j n) h)) (cond (Nat.blt i n) (some (.val (.gsl b (off + i * sz) (j + i) (n - i)) h)) none)) = some (.val s' h) → CutAt P h sz i (.gsl b off j n) s' := by
   intro s' q t dst ty tt el pos after guard x lo hu hs hx hlo
   show opSlice P t h ty x (some lo) none = _
   unfold opSlice
   rw [hx, hlo' hlo, show evO t none = some none from rfl, hu]
   dsimp only
   rw [hs]
   show sliceOf P h sz (.gsl b off j n) (some (.int .i64 (i : Nat))) none = _
   unfold sliceOf
   simp only [cut_lo (n := n) (cap := n) (i := i) (by omega), hb.2]
   rw [show Nat.beq off (j * sz) = true by rw [ho]; exact Nat.beq_refl _, Nat.ble_eq_true_of_le hl, show Nat.blt 0 sz = true from Nat.ble_eq_true_of_le h0, he]
   exact q
  by_cases hi0 : i = 0
  ·subst hi0
   exact ⟨_, key _ rfl, S.drop (by rw [hL]; rfl) (by rw [hL]; simp [aSlElems]) (by rw [hL]; rfl) (by omega)⟩
  ·have h1 : Nat.beq i 0 = false := by
    cases q : Nat.beq i 0 with
    | false => rfl
    | true => exact absurd (Nat.eq_of_beq_eq_true q) hi0
   have h2 : Nat.blt i n = true := Nat.ble_eq_true_of_le hi
   exact ⟨_, key _ (by rw [h1, h2]; rfl), S.drop (by rw [hL]; rfl) (by rw [hL]; rfl) (by rw [hL]; rfl) (by omega)⟩
end Go.AbsE
namespace Go.AbsE
open Go
section
variable {P : Program} {c : FC} {k : List AItem} {t : Tr AVal} {h : AH} {Q : AM → Prop}
theorem gS {x y : Code} (g : Go P c (.code x :: .code y :: k) t h Q) : Go P c (.code (.seq x y) :: k) t h Q := Go.seq noJ_ok g
theorem gR {id : Nat} {ops : Array Oper} {l : List Oper} (hl : ops.toList = l) (g : GoR P noJ c k Q (runOps P c.n ops l 0 t h)) : Go P c (.code (.region id ops false) :: k) t h Q := Go.region noJ_ok hl g
theorem gE {J : Jump} {all : Array Oper} {i : Nat} (g : Go P c k t h Q) : GoR P J c k Q (runOps P c.n all [] i t h) := g
theorem np {v : AVal} {X : AH → Prop} : ∀ chain h', ¬ (AEnd.pan chain = .ret v ∧ X h') := by
 rintro _ _ ⟨q, _⟩
 cases q
theorem dt {p : Prop} [Decidable p] (h : p) : decide p = true := decide_eq_true h
theorem df {p : Prop} [Decidable p] (h : ¬ p) : decide p = false := decide_eq_false h
end
section
variable {P : Program} {t : Tr AVal} {h : AH} {dst : Option Tmp} {ty tt ty2 : TypeId} {pos : String} {after : Array Edge} {guard : Option (Nat × Bool)} {x y : Operand} {a b : Int} (hx : ev t x = some (.int .i64 a)) (hy : ev t y = some (.int .i64 b))
include hx hy
theorem aA (hi : -9223372036854775808 ≤ a + b ∧ a + b ≤ 9223372036854775807 := by omega) : aOp P t h ⟨dst, .binOp .add ty x y ty2, tt, pos, after, guard⟩ = some (.val (.int .i64 (a + b)) h) := aOp_add hx hy (by constructor <;> omega) rfl
theorem aS (hi : -9223372036854775808 ≤ a - b ∧ a - b ≤ 9223372036854775807 := by omega) : aOp P t h ⟨dst, .binOp .sub ty x y ty2, tt, pos, after, guard⟩ = some (.val (.int .i64 (a - b)) h) := aOp_sub hx hy (by constructor <;> omega) rfl
theorem kLT (q : a < b := by omega) : aOp P t h ⟨dst, .binOp .lss ty x y ty2, tt, pos, after, guard⟩ = some (.val (.bool true) h) := aOp_lss hx hy (decide_eq_true q)
theorem kLF (q : ¬ a < b := by omega) : aOp P t h ⟨dst, .binOp .lss ty x y ty2, tt, pos, after, guard⟩ = some (.val (.bool false) h) := aOp_lss hx hy (decide_eq_false q)
theorem kMT (q : a ≤ b := by omega) : aOp P t h ⟨dst, .binOp .leq ty x y ty2, tt, pos, after, guard⟩ = some (.val (.bool true) h) := aOp_leq hx hy (decide_eq_true q)
theorem kMF (q : ¬ a ≤ b := by omega) : aOp P t h ⟨dst, .binOp .leq ty x y ty2, tt, pos, after, guard⟩ = some (.val (.bool false) h) := aOp_leq hx hy (decide_eq_false q)
theorem kGT (q : b < a := by omega) : aOp P t h ⟨dst, .binOp .gtr ty x y ty2, tt, pos, after, guard⟩ = some (.val (.bool true) h) := aOp_gtr hx hy (decide_eq_true q)
theorem kGF (q : ¬ b < a := by omega) : aOp P t h ⟨dst, .binOp .gtr ty x y ty2, tt, pos, after, guard⟩ = some (.val (.bool false) h) := aOp_gtr hx hy (decide_eq_false q)
theorem kNT (q : b ≤ a := by omega) : aOp P t h ⟨dst, .binOp .geq ty x y ty2, tt, pos, after, guard⟩ = some (.val (.bool true) h) := aOp_geq hx hy (decide_eq_true q)
theorem kNF (q : ¬ b ≤ a := by omega) : aOp P t h ⟨dst, .binOp .geq ty x y ty2, tt, pos, after, guard⟩ = some (.val (.bool false) h) := aOp_geq hx hy (decide_eq_false q)
theorem kET (q : a = b := by omega) : aOp P t h ⟨dst, .binOp .eql ty x y ty2, tt, pos, after, guard⟩ = some (.val (.bool true) h) := aOp_eql hx hy (decide_eq_true q)
theorem kEF (q : ¬ a = b := by omega) : aOp P t h ⟨dst, .binOp .eql ty x y ty2, tt, pos, after, guard⟩ = some (.val (.bool false) h) := aOp_eql hx hy (decide_eq_false q)
theorem kXT (q : ¬ a = b := by omega) : aOp P t h ⟨dst, .binOp .neq ty x y ty2, tt, pos, after, guard⟩ = some (.val (.bool true) h) := aOp_neq hx hy (decide_eq_false q)
theorem kXF (q : a = b := by omega) : aOp P t h ⟨dst, .binOp .neq ty x y ty2, tt, pos, after, guard⟩ = some (.val (.bool false) h) := aOp_neq hx hy (decide_eq_true q)
end
theorem gW {P : Program} {f : FuncId} {n : Nat} {k : List AItem} {rest : List AFr} {t : Tr AVal} {h : AH} {R : AEnd → AH → Prop} {fn : Func} {l : List ResultVar} {vs : List AVal} (hf : P.funcs[f]? = some fn) (hl : fn.results.toList = l) (hv : aResults P h t l = some vs) (hR : R (.ret (oneOrTuple vs)) h) : Go P ⟨f, n, [], false, none, rest⟩ (.code .ret :: k) t h (Post P f rest R) := Go.ret noJ_ok (ret_end (aResult_of hf hl hv) hR)
theorem gO : type_of% @GoR.op := @GoR.op
theorem gP {P : Program} {J : Jump} {c : FC} {k : List AItem} {Q : AM → Prop} {all : Array Oper} {l : List Oper} {o : Oper} {rest : List Oper} {i : Nat} {t t' : Tr AVal} {h h' : AH} {v : AVal} (g : GoR P J c k Q (runOps P c.n all rest (i + 1) t' h')) (hl : l = o :: rest := by exact rfl) (hw : wantedA all t o = some true := by exact rfl)
  (hx : aOp P t h o = some (.val v h') := by exact rfl) (hd : (prepD c.n o).run t v = some t' := by exact rfl) : GoR P J c k Q (runOps P c.n all l i t h) := GoR.op hl hw hx hd g
theorem gQ : type_of% @GoE.quiet := @GoE.quiet
theorem gC {P : Program} : type_of% (@Go.cond P noJ noJ_ok) := @Go.cond P noJ noJ_ok
theorem gD {P : Program} : type_of% (@Go.code P noJ noJ_ok) := @Go.code P noJ noJ_ok
theorem gV {P : Program} : type_of% (@Go.ret P noJ noJ_ok) := @Go.ret P noJ noJ_ok
theorem dD {bef : Nat} {f : DFact} {l l' : List DFact} (b k : Nat) (q : dropF bef l = l') (hb : bit? b k = true := by rfl) (hf : bit? bef f.i = bit? b k := by rfl) : dropF bef (f :: l) = l' := dropF_drop (hf.trans hb) q
theorem dK {bef : Nat} {f : DFact} {l l' : List DFact} (b k : Nat) (q : dropF bef l = l') (hb : bit? b k = false := by rfl) (hf : bit? bef f.i = bit? b k := by rfl) : dropF bef (f :: l) = f :: l' := dropF_keep (hf.trans hb) q
theorem aCF : type_of% @aOp_callFunc := @aOp_callFunc
end Go.AbsE
