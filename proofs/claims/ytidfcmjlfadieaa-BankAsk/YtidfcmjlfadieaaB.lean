import Derived.Test.YtidfcmjlfadieaaA
import Derived.Defers
import Derived.Recover
set_option linter.unusedSimpArgs false
namespace Go.AbsE
open Go

/-! What an abstract state says of a true one. -/
/-- Where blocks truly are, and what their room is; and true blocks that are not in the abstract memory, and hold one thing for ever. -/
structure Env where
  loc : Nat → Option (Nat × Nat)
  imm : Nat → Option (List Value)
instance : CoeFun Env (fun _ => Nat → Option (Nat × Nat)) := ⟨Env.loc⟩
def Env.le (e e' : Env) : Prop := (∀ b x, e b = some x → e' b = some x) ∧ ∀ B x, e.imm B = some x → e'.imm B = some x
theorem Env.le_refl (e : Env) : Env.le e e := ⟨fun _ _ h => h, fun _ _ h => h⟩
theorem Env.le_trans {a b c : Env} (h : Env.le a b) (k : Env.le b c) : Env.le a c := ⟨fun _ _ x => k.1 _ _ (h.1 _ _ x), fun _ _ x => k.2 _ _ (h.2 _ _ x)⟩

mutual
inductive VR (e : Env) : AVal → Value → Prop
  | int (k n) : VR e (.int k n) (.int k n)
  | bool (b) : VR e (.bool b) (.bool b)
  | str (s) : VR e (.str s) (.string s)
  | nilptr : VR e .nilptr (.pointer none)
  | ptr {b off B c} (h : e b = some (B, c)) : VR e (.ptr b off) (.pointer (some ⟨B, off, none⟩))
  | nilslice : VR e .nilslice (.slice none 0 0)
  | slice {b off len cap B c} (h : e b = some (B, c)) : VR e (.slice b off len cap) (.slice (some ⟨B, off, none⟩) len cap)
  | gsl {b off i len B c} (h : e b = some (B, c)) : VR e (.gsl b off i len) (.slice (some ⟨B, off, none⟩) len (c - i))
  | nilmap : VR e .nilmap (.map none)
  | map {b B c} (h : e b = some (B, c)) : VR e (.map b) (.map (some B))
  | nilfunc : VR e .nilfunc .nilFunc
  | func {fn first cap F C} (hf : ∀ l, fn ≠ .yield l) (h1 : VRs e first F) (h2 : VRs e cap C) : VR e (.func fn first cap) (.func fn F.toArray C.toArray)
  | yield {l L c} (h : e l = some (L, c)) : VR e (.yield l) (.func (.yield L) #[] #[])
  | nilIface : VR e .nilIface .nilIface
  | iface {t v V} (h : VR e v V) : VR e (.iface t v) (.iface t V)
  | agg {cs CS} (h : VRs e cs CS) : VR e (.agg cs) (.agg CS.toArray)
  | tuple {cs CS} (h : VRs e cs CS) : VR e (.tuple cs) (.tuple CS.toArray)
  | lit {n cs CS B} (hi : e.imm B = some CS) (h : VRs e cs CS) : VR e (.lit n cs) (.slice (some ⟨B, 0, none⟩) n n)
inductive VRs (e : Env) : List AVal → List Value → Prop
  | nil : VRs e [] []
  | cons {a v l m} (h : VR e a v) (hs : VRs e l m) : VRs e (a :: l) (v :: m)
end

mutual
theorem VR.mono {e e' : Env} (he : Env.le e e') : ∀ {a v}, VR e a v → VR e' a v
  | _, _, .int k n => .int k n
  | _, _, .bool b => .bool b
  | _, _, .str s => .str s
  | _, _, .nilptr => .nilptr
  | _, _, .ptr h => .ptr (he.1 _ _ h)
  | _, _, .nilslice => .nilslice
  | _, _, .slice h => .slice (he.1 _ _ h)
  | _, _, .gsl h => .gsl (he.1 _ _ h)
  | _, _, .nilmap => .nilmap
  | _, _, .map h => .map (he.1 _ _ h)
  | _, _, .nilfunc => .nilfunc
  | _, _, .func hf h1 h2 => .func hf (VRs.mono he h1) (VRs.mono he h2)
  | _, _, .yield h => .yield (he.1 _ _ h)
  | _, _, .nilIface => .nilIface
  | _, _, .iface h => .iface (VR.mono he h)
  | _, _, .agg h => .agg (VRs.mono he h)
  | _, _, .tuple h => .tuple (VRs.mono he h)
  | _, _, .lit hi h => .lit (he.2 _ _ hi) (VRs.mono he h)
theorem VRs.mono {e e' : Env} (he : Env.le e e') : ∀ {l m}, VRs e l m → VRs e' l m
  | _, _, .nil => .nil
  | _, _, .cons h hs => .cons (VR.mono he h) (VRs.mono he hs)
end

namespace VRs
variable {e : Env}
theorem length : ∀ {l m}, VRs e l m → l.length = m.length
  | _, _, .nil => rfl
  | _, _, .cons _ hs => by simp [length hs]
theorem append : ∀ {l m l' m'}, VRs e l m → VRs e l' m' → VRs e (l ++ l') (m ++ m')
  | _, _, _, _, .nil, k => k
  | _, _, _, _, .cons h hs, k => .cons h (append hs k)
theorem take : ∀ {l m} (n : Nat), VRs e l m → VRs e (l.take n) (m.take n)
  | _, _, 0, _ => by simp; exact .nil
  | _, _, n + 1, .nil => by simp; exact .nil
  | _, _, n + 1, .cons h hs => by simp; exact .cons h (take n hs)
theorem drop : ∀ {l m} (n : Nat), VRs e l m → VRs e (l.drop n) (m.drop n)
  | _, _, 0, h => by simpa using h
  | _, _, n + 1, .nil => by simp; exact .nil
  | _, _, n + 1, .cons h hs => by simp; exact drop n hs
theorem get : ∀ {l m} (i : Nat) {a}, VRs e l m → l[i]? = some a → ∃ v, m[i]? = some v ∧ VR e a v
  | _, _, 0, _, .cons h hs, k => by simp at k; subst k; exact ⟨_, by simp, h⟩
  | _, _, i + 1, _, .cons h hs, k => by simp at k; obtain ⟨v, h1, h2⟩ := get i hs k; exact ⟨v, by simpa using h1, h2⟩
theorem splice : ∀ {l m} (n : Nat) {xs ys l'}, VRs e l m → VRs e xs ys → AbsE.splice l n xs = some l' →
    VRs e l' (m.take n ++ ys ++ m.drop (n + ys.length)) ∧ n + ys.length ≤ m.length
  | _, _, 0, [], _, l', h, .nil, k => by simp [AbsE.splice] at k; subst k; simpa using h
  | _, _, 0, _ :: _, _, l', .cons h hs, .cons h' hs', k => by
    simp only [AbsE.splice] at k
    split at k
    · rename_i r hr
      cases k
      obtain ⟨h1, h2⟩ := splice 0 hs hs' hr
      refine ⟨?_, by simp at h2 ⊢; omega⟩
      simp at h1 ⊢
      exact .cons h' h1
    · cases k
  | _, _, 0, _ :: _, _, l', .nil, _, k => by simp [AbsE.splice] at k
  | _, _, n + 1, _, ys, l', .cons h hs, h', k => by
    simp only [AbsE.splice] at k
    split at k
    · rename_i r hr
      cases k
      obtain ⟨h1, h2⟩ := splice n hs h' hr
      refine ⟨?_, by simp; omega⟩
      have e1 : n + 1 + ys.length = (n + ys.length) + 1 := Nat.add_right_comm n 1 _
      rw [e1]
      simp at h1 ⊢
      exact .cons h h1
    · cases k
  | _, _, n + 1, _, _, l', .nil, _, k => by simp [AbsE.splice] at k
end VRs

/-! ### ways through a tree -/
theorem mkP0 (p : Pth) : mkP 0 p = .a p := rfl
theorem mkP1 (p : Pth) : mkP 1 p = .b p := rfl
theorem mkP2 (p : Pth) : mkP 2 p = .c p := rfl
theorem mkP3 (p : Pth) : mkP 3 p = .d p := rfl
theorem mkP_inj {i j : Nat} (hi : i < 4) (hj : j < 4) {p q : Pth} (h : mkP i p = mkP j q) : i = j ∧ p = q := by
  have hi' : i = 0 ∨ i = 1 ∨ i = 2 ∨ i = 3 := by omega
  have hj' : j = 0 ∨ j = 1 ∨ j = 2 ∨ j = 3 := by omega
  rcases hi' with rfl | rfl | rfl | rfl <;> rcases hj' with rfl | rfl | rfl | rfl <;> simp only [mkP0, mkP1, mkP2, mkP3] at h <;> first | (injection h with h; exact ⟨rfl, h⟩) | cases h

theorem mkP_here {i : Nat} (hi : i < 4) {p : Pth} : mkP i p ≠ .here := by
  have hi' : i = 0 ∨ i = 1 ∨ i = 2 ∨ i = 3 := by omega
  rcases hi' with rfl | rfl | rfl | rfl <;> simp [mkP0, mkP1, mkP2, mkP3]

def unP : Pth → Nat
  | .here => 0
  | .a p => 4 * unP p + 1
  | .b p => 4 * unP p + 2
  | .c p => 4 * unP p + 3
  | .d p => 4 * unP p + 4
  | .nowhere => 0

theorem unP_mkP {i : Nat} (hi : i < 4) (p : Pth) : unP (mkP i p) = 4 * unP p + i + 1 := by
  have hi' : i = 0 ∨ i = 1 ∨ i = 2 ∨ i = 3 := by omega
  rcases hi' with rfl | rfl | rfl | rfl <;> rfl

theorem unP_pthF : ∀ (f n : Nat), n ≤ f → unP (pthF f n) = n := by
  intro f
  induction f with
  | zero => intro n hn; have : n = 0 := by omega
            subst this; rfl
  | succ f ih =>
    intro n hn
    cases n with
    | zero => rfl
    | succ m =>
      show unP (mkP (m % 4) (pthF f (m / 4))) = m + 1
      rw [unP_mkP (Nat.mod_lt _ (by omega)), ih (m / 4) (by omega)]
      omega

def Pth.ok : Pth → Prop
  | .here => True
  | .a p => p.ok
  | .b p => p.ok
  | .c p => p.ok
  | .d p => p.ok
  | .nowhere => False

theorem mkP_ok {i : Nat} (hi : i < 4) {p : Pth} (h : p.ok) : (mkP i p).ok := by
  have hi' : i = 0 ∨ i = 1 ∨ i = 2 ∨ i = 3 := by omega
  rcases hi' with rfl | rfl | rfl | rfl <;> exact h

theorem pthF_ok : ∀ (f n : Nat), (pthF f n).ok := by
  intro f
  induction f with
  | zero => intro n; exact trivial
  | succ f ih =>
    intro n
    cases n with
    | zero => exact trivial
    | succ n => exact mkP_ok (Nat.mod_lt _ (by omega)) (ih (n / 4))

theorem pth_ok' (n : Nat) : (pth n).ok := pthF_ok _ _

theorem pth_inj' {m n : Nat} (h : pth m = pth n) : m = n := by
  have h1 := unP_pthF m m (Nat.le_refl m)
  have h2 := unP_pthF n n (Nat.le_refl n)
  have h : pthF m m = pthF n n := h
  rw [← h1, ← h2, h]

theorem pth_ok {n : Nat} (_ : n < 10000000000) : (pth n).ok := pth_ok' n
theorem pth_inj {m n : Nat} (_ : m < 10000000000) (h : pth m = pth n) : m = n := pth_inj' h

namespace Tr
variable {α : Type}
theorem get_leaf (p : Pth) : (Tr.leaf : Tr α).get p = none := by cases p <;> rfl
theorem get_node (p : Pth) (x : Option α) (a b c d : Tr α) : (Tr.node x a b c d).get p =
    (match p with | .here => x | .a p => a.get p | .b p => b.get p | .c p => c.get p | .d p => d.get p | .nowhere => none) := by cases p <;> rfl
theorem put_leaf_a (p : Pth) (v : Option α) : (Tr.leaf : Tr α).put (.a p) v = .node none (Tr.leaf.put p v) .leaf .leaf .leaf := rfl
theorem put_node_a (p : Pth) (v x : Option α) (a b c d : Tr α) : (Tr.node x a b c d).put (.a p) v = .node x (a.put p v) b c d := rfl
theorem put_leaf_b (p : Pth) (v : Option α) : (Tr.leaf : Tr α).put (.b p) v = .node none .leaf (Tr.leaf.put p v) .leaf .leaf := rfl
theorem put_node_b (p : Pth) (v x : Option α) (a b c d : Tr α) : (Tr.node x a b c d).put (.b p) v = .node x a (b.put p v) c d := rfl
theorem put_leaf_c (p : Pth) (v : Option α) : (Tr.leaf : Tr α).put (.c p) v = .node none .leaf .leaf (Tr.leaf.put p v) .leaf := rfl
theorem put_node_c (p : Pth) (v x : Option α) (a b c d : Tr α) : (Tr.node x a b c d).put (.c p) v = .node x a b (c.put p v) d := rfl
theorem put_leaf_d (p : Pth) (v : Option α) : (Tr.leaf : Tr α).put (.d p) v = .node none .leaf .leaf .leaf (Tr.leaf.put p v) := rfl
theorem put_node_d (p : Pth) (v x : Option α) (a b c d : Tr α) : (Tr.node x a b c d).put (.d p) v = .node x a b c (d.put p v) := rfl
theorem put_leaf_here (v : Option α) : (Tr.leaf : Tr α).put .here v = .node v .leaf .leaf .leaf .leaf := rfl
theorem put_node_here (v x : Option α) (a b c d : Tr α) : (Tr.node x a b c d).put .here v = .node v a b c d := rfl
theorem mkGet_eq (p : Pth) (t : Tr α) : (mkGet p).run t = t.get p := by
  induction p generalizing t with
  | here => cases t <;> rfl
  | a p ih => cases t with | leaf => rfl | node x a b c d => exact ih a
  | b p ih => cases t with | leaf => rfl | node x a b c d => exact ih b
  | c p ih => cases t with | leaf => rfl | node x a b c d => exact ih c
  | d p ih => cases t with | leaf => rfl | node x a b c d => exact ih d
  | nowhere => rfl
theorem mkPut_eq (p : Pth) (t : Tr α) (v : α) : (mkPut p).run t v = t.put p (some v) := by
  induction p generalizing t with
  | here => cases t <;> rfl
  | a p ih => cases t with | leaf => exact congrArg (fun q => Tr.node none q .leaf .leaf .leaf) (ih .leaf) | node x a b c d => exact congrArg (fun q => Tr.node x q b c d) (ih a)
  | b p ih => cases t with | leaf => exact congrArg (fun q => Tr.node none .leaf q .leaf .leaf) (ih .leaf) | node x a b c d => exact congrArg (fun q => Tr.node x a q c d) (ih b)
  | c p ih => cases t with | leaf => exact congrArg (fun q => Tr.node none .leaf .leaf q .leaf) (ih .leaf) | node x a b c d => exact congrArg (fun q => Tr.node x a b q d) (ih c)
  | d p ih => cases t with | leaf => exact congrArg (fun q => Tr.node none .leaf .leaf .leaf q) (ih .leaf) | node x a b c d => exact congrArg (fun q => Tr.node x a b c q) (ih d)
  | nowhere => rfl
theorem get_nowhere (t : Tr α) : t.get .nowhere = none := rfl
theorem get_put (p q : Pth) (hp : p.ok) (t : Tr α) (v : Option α) : (t.put p v).get q = if p = q then v else t.get q := by
  induction p generalizing q t with
  | here => cases t <;> cases q <;> simp [put_leaf_here, put_node_here, get_node, get_leaf]
  | a p ih => cases t <;> cases q <;> simp [put_leaf_a, put_node_a, get_node, get_leaf, ih _ hp]
  | b p ih => cases t <;> cases q <;> simp [put_leaf_b, put_node_b, get_node, get_leaf, ih _ hp]
  | c p ih => cases t <;> cases q <;> simp [put_leaf_c, put_node_c, get_node, get_leaf, ih _ hp]
  | d p ih => cases t <;> cases q <;> simp [put_leaf_d, put_node_d, get_node, get_leaf, ih _ hp]
  | nowhere => exact hp.elim
end Tr
end Go.AbsE
