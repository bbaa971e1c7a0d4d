import Derived.Test.YtmimdgjehnhnoaaMAN
import Derived.Test.YtmimdgjehnhnoaaMAM
namespace Go.Proofs.Ytmimdgjehnhnoaa
open Go Go.AbsE
set_option linter.unusedSimpArgs false
set_option maxRecDepth 100000
set_option maxHeartbeats 0
set_option linter.unusedVariables false
structure Hv where
 sods : Int
 plans : List Pl
def none3 : Pl := ⟨-1, -1, -1⟩
def FootV.sodsAt (F : FootV) (i : Nat) : Int := match F.hs[i]? with | some x => x.sods | none => 0
noncomputable def FootV.goB (F : FootV) (st : List Int) (i : Nat) (nxt : List Int → Hv) (most : Hv) (p : Pl) : Hv :=
 open Classical in
 if most.sods = F.rest i then most else if fullB st F.men p = true ∨ ¬ F.Kept true i p then most
 else if most.sods < F.sodsAt i + (nxt (withV st p)).sods then ⟨F.sodsAt i + (nxt (withV st p)).sods, p :: (nxt (withV st p)).plans⟩ else most
noncomputable def FootV.reap (F : FootV) : Nat → List Int → Hv
 | 0, _ => ⟨0, []⟩
 | m + 1, st => (wholeL F.rs.length).foldl (F.goB st (F.hs.length - (m + 1)) (F.reap m)) ⟨(F.reap m st).sods, none3 :: (F.reap m st).plans⟩
theorem sodsAt_in {F : FootV} (O : F.Ok) (i : Nat) : 0 ≤ F.sodsAt i ∧ F.sodsAt i ≤ 500 := by
 unfold FootV.sodsAt
 split
 ·rename_i x hx
  have := O.h x (List.mem_of_getElem? hx)
  omega
 ·omega
theorem goB_fold {F : FootV} {st : List Int} {i : Nat} {nxt : List Int → Hv} (C : Hv → Prop) {b : Hv} (h0 : C b) (h1 : ∀ st' (p : Pl), C ⟨F.sodsAt i + (nxt st').sods, p :: (nxt st').plans⟩) : ∀ (L : List Pl), C (L.foldl (F.goB st i nxt) b) := by
 intro L
 induction L generalizing b with
 | nil => exact h0
 | cons p L ih =>
  rw [List.foldl_cons];refine ih ?_
  unfold FootV.goB
  split
  ·exact h0
  ·split
   ·exact h0
   ·split
    ·exact h1 _ _
    ·exact h0
theorem reap_in {F : FootV} (O : F.Ok) : ∀ (m : Nat) (st : List Int), (F.reap m st).plans.length = m ∧ 0 ≤ (F.reap m st).sods ∧ (F.reap m st).sods ≤ 500 * m
 | 0, st => ⟨rfl, by show (0 : Int) ≤ 0; omega, by show (0 : Int) ≤ _; omega⟩
 | m + 1, st => by
  have hs := sodsAt_in O (F.hs.length - (m + 1))
  refine goB_fold (fun x => x.plans.length = m + 1 ∧ 0 ≤ x.sods ∧ x.sods ≤ 500 * ((m + 1 : Nat) : Int)) ?_ (fun st' p => ?_) _
  ·have := reap_in O m st
   dsimp only
   rw [List.length_cons]
   omega
  ·have := reap_in O m st'
   dsimp only
   rw [List.length_cons]
   omega
theorem goB_stop {F : FootV} {st : List Int} {i : Nat} {nxt : List Int → Hv} {b : Hv} (h : b.sods = F.rest i) : ∀ L : List Pl, L.foldl (F.goB st i nxt) b = b
 | [] => rfl
 | p :: L => by
  rw [List.foldl_cons]
  have : F.goB st i nxt b p = b := by unfold FootV.goB; rw [if_pos h]
  rw [this];exact goB_stop h L
theorem addDay_none (st : List Int) : addDay st (-1) = st := by unfold addDay; rw [if_pos rfl]
theorem withV_none (st : List Int) : withV st none3 = st := by unfold withV none3; rw [addDay_none, addDay_none, addDay_none]
inductive PlsAt (X : Nat → Prop) (h : AH) : AVal → List Pl → Prop
 | nil : PlsAt X h .nilslice []
 | mk {b : Nat} {L : List Pl} (hb : ¬ X b) (f : Has h b (.cells .plain (L.flatMap Pl.cells) 27)) : PlsAt X h (.slice b 0 L.length L.length) L
theorem PlsAt.extF {X S : Nat → Prop} {h h' : AH} {s : AVal} {L : List Pl} (k : PlsAt X h s L) (e : ExtF S h h') (hS : ∀ b, S b → X b) : PlsAt X h' s L := by
 cases k with
 | nil => exact .nil
 | mk hb f => exact .mk hb (f.extF e (fun q => hb (hS _ q)))
theorem PlsAt.ext {X : Nat → Prop} {h h' : AH} {s : AVal} {L : List Pl} (k : PlsAt X h s L) (e : Ext h h') : PlsAt X h' s L := k.extF (S := fun _ => False) (.of e) (fun _ q => q.elim)
theorem PlsAt.mono {X Y : Nat → Prop} {h : AH} {s : AVal} {L : List Pl} (k : PlsAt X h s L) (hY : ∀ b, Y b → X b ∨ h.next ≤ b) : PlsAt Y h s L := by
 cases k with
 | nil => exact .nil
 | mk hb f => exact .mk (fun q => (hY _ q).elim hb (fun q => by have := f.1; omega)) f
theorem PlsAt.sl {X : Nat → Prop} {h : AH} {s : AVal} {L : List Pl} (k : PlsAt X h s L) : SliceOf h 3 s (L.map Pl.cells) := by
 cases k with
 | nil => exact .nil
 | mk hb f =>
  refine SliceOf.mk' (len := L.length) rfl rfl f (by rw [List.length_map]) fun i v q => ?_;rw [Nat.zero_add];exact flat_slice (f := Pl.cells) (sz := 3) (fun _ => rfl) q
theorem PlsAt.sc1 {X : Nat → Prop} {h : AH} {s : AVal} {L : List Pl} (k : PlsAt X h s L) : scalars s.cells = true := by cases k <;> rfl
theorem PlsAt.one {X : Nat → Prop} {h : AH} {s : AVal} {L : List Pl} (k : PlsAt X h s L) : s.cells.length.beq 1 = true := by cases k <;> rfl
theorem PlsAt.moved {h2 h' : AH} {m n : Nat} {s : AVal} {L : List Pl} (k : PlsAt (fun b => b < n) h2 s L) (le : h2.next ≤ h'.next) (same : ∀ b, b < h2.next → n ≤ b → h'.get b = h2.get b) (hm : m ≤ n) : PlsAt (fun b => b < m) h' s L := by
 cases k with
 | nil => exact .nil
 | mk hb f => exact .mk (fun q => hb (Nat.lt_of_lt_of_le q hm)) (f.keep le (same _ f.1 (Nat.le_of_not_lt hb)))
theorem PlsAt.spl {X : Nat → Prop} {h : AH} {s : AVal} {L : List Pl} (k : PlsAt X h s L) (x : AVal) : splice [x] 0 s.cells = some [s] := by cases k <;> rfl
theorem PlsAt.sc {X : Nat → Prop} {h : AH} {s : AVal} {L : List Pl} (k : PlsAt X h s L) (x : Int) : scalars (AVal.agg [.int .i64 x, s]).cells = true := by cases k <;> rfl
def MapOk (F : FootV) (X : Nat → Prop) (bm : Nat) (h : AH) : Prop := ∃ es clock f, Has h bm (.map es clock) ∧ MapN es f ∧ LenN 9 f ∧ ¬ X bm ∧
 ∀ k v, (k, v) ∈ f → ∃ (st : List Int) (i : Nat) (s : AVal), k = st ++ [(i : Int)] ∧ st.length = 8 ∧ v = .agg [.int .i64 (F.reap (F.hs.length - i) st).sods, s] ∧ PlsAt (fun b => X b ∨ b = bm) h s (F.reap (F.hs.length - i) st).plans
theorem MapOk.extF {F : FootV} {X S : Nat → Prop} {bm : Nat} {h h' : AH} (k : MapOk F X bm h) (e : ExtF S h h') (hS : ∀ b, S b → X b) : MapOk F X bm h' := by
 obtain ⟨es, clock, f, k1, k2, k3, k4, k5⟩ := k
 refine ⟨es, clock, f, k1.extF e (fun q => k4 (hS _ q)), k2, k3, k4, fun a v m => ?_⟩
 obtain ⟨st, i, s, q1, q2, q3, q4⟩ := k5 a v m
 exact ⟨st, i, s, q1, q2, q3, q4.extF e (fun b q => .inl (hS b q))⟩
theorem MapOk.ext {F : FootV} {X : Nat → Prop} {bm : Nat} {h h' : AH} (k : MapOk F X bm h) (e : Ext h h') : MapOk F X bm h' := k.extF (S := fun _ => False) (.of e) (fun _ q => q.elim)
theorem MapOk.mono {F : FootV} {X Y : Nat → Prop} {bm : Nat} {h : AH} (k : MapOk F X bm h) (hY : ∀ b, Y b → X b ∨ h.next ≤ b) : MapOk F Y bm h := by
 obtain ⟨es, clock, f, k1, k2, k3, k4, k5⟩ := k
 refine ⟨es, clock, f, k1, k2, k3, fun q => (hY _ q).elim k4 (fun q => by have := k1.1; omega), fun a v m => ?_⟩
 obtain ⟨st, i, s, q1, q2, q3, q4⟩ := k5 a v m
 exact ⟨st, i, s, q1, q2, q3, q4.mono (fun b q => q.elim (fun q => (hY b q).elim (fun q => .inl (.inl q)) .inr) (fun q => .inl (.inr q)))⟩
theorem MapOk.add {F : FootV} {X : Nat → Prop} {bm : Nat} {h : AH} (k : MapOk F X bm h) {c : Nat} (hc : h.next ≤ c) : MapOk F (fun b => X b ∨ b = c) bm h := k.mono fun b q => q.elim .inl (fun q => .inr (by rw [q]; exact hc))
theorem lt_add {X : Nat → Prop} {c m n : Nat} (hX : ∀ b, X b → b < m) (hm : m ≤ n) (hc : c < n) : ∀ b, X b ∨ b = c → b < n := fun b q => q.elim (fun q => Nat.lt_of_lt_of_le (hX b q) hm) (fun q => by rw [q]; exact hc)
theorem lt_le {X : Nat → Prop} {m n : Nat} (hX : ∀ b, X b → b < m) (hm : m ≤ n) : ∀ b, X b → b < n := fun b q => Nat.lt_of_lt_of_le (hX b q) hm
theorem snoc_inj {a b : List Int} {x y : Int} (h : a ++ [x] = b ++ [y]) : a = b ∧ x = y := by
 have := List.append_inj' h rfl
 exact ⟨this.1, by simpa using this.2⟩
theorem MapOk.find {F : FootV} {X : Nat → Prop} {h : AH} {f : List (List Int × AVal)} (k5 : ∀ k v, (k, v) ∈ f → ∃ (st : List Int) (i : Nat) (s : AVal), k = st ++ [(i : Int)] ∧ st.length = 8 ∧ v = .agg [.int .i64 (F.reap (F.hs.length - i) st).sods, s] ∧ PlsAt X h s (F.reap (F.hs.length - i) st).plans)
  {st : List Int} {i : Nat} {v : AVal} (q : findN (st ++ [(i : Int)]) f = some v) : ∃ s, v = .agg [.int .i64 (F.reap (F.hs.length - i) st).sods, s] ∧ PlsAt X h s (F.reap (F.hs.length - i) st).plans := by
 obtain ⟨st', i', s, q1, q2, q3, q4⟩ := k5 _ _ (findN_mem q)
 obtain ⟨r1, r2⟩ := snoc_inj q1
 have r2 : i = i' := by omega
 subst r1 r2;exact ⟨s, q3, q4⟩
theorem MapOk.new {F : FootV} {X : Nat → Prop} {bm : Nat} {h h' : AH} {es' : List AMapE} {c' : Nat} {f : List (List Int × AVal)} (k4 : ¬ X bm)
  (k5 : ∀ k v, (k, v) ∈ f → ∃ (st : List Int) (i : Nat) (s : AVal), k = st ++ [(i : Int)] ∧ st.length = 8 ∧ v = .agg [.int .i64 (F.reap (F.hs.length - i) st).sods, s] ∧ PlsAt (fun b => X b ∨ b = bm) h s (F.reap (F.hs.length - i) st).plans)
  {st : List Int} {i : Nat} {s : AVal} {R : Hv} (hR : F.reap (F.hs.length - i) st = R) (hst : st.length = 8) (hs : PlsAt (fun b => X b ∨ b = bm) h s R.plans)
  (u : Upd h bm (.map es' c') h') (hb : bm < h.next) (hm : MapN es' (setN (st ++ [(i : Int)]) (.agg [.int .i64 R.sods, s]) f)) (hl : LenN 9 (setN (st ++ [(i : Int)]) (.agg [.int .i64 R.sods, s]) f)) : MapOk F X bm h' := by
 subst hR
 have e : ExtF (fun b => b = bm) h h' := ⟨by rw [u.1]; exact Nat.le_refl _, fun b _ hn => u.2.2 b hn⟩
 refine ⟨es', c', _, ⟨by rw [u.1]; exact hb, u.2.1⟩, hm, hl, k4, fun k v m => ?_⟩
 rcases setN_mem m with q | q
 ·cases q;exact ⟨st, i, s, rfl, hst, rfl, hs.extF e (fun b q => .inr q)⟩
 ·obtain ⟨st', i', s', q1, q2, q3, q4⟩ := k5 k v q
  exact ⟨st', i', s', q1, q2, q3, q4.extF e (fun b q => .inr q)⟩
theorem PlsAt.mk' {X : Nat → Prop} {h : AH} {b n : Nat} {L : List Pl} (hn : L.length = n) (hb : ¬ X b) (f : Has h b (.cells .plain (L.flatMap Pl.cells) 27)) : PlsAt X h (.slice b 0 n n) L := by
 subst hn;exact .mk hb f
theorem PlsAt.sep {X : Nat → Prop} {h : AH} {s : AVal} {L : List Pl} (k : PlsAt X h s L) {c : Nat} {o : ABlk} (f : Has h c o) (ho : ∀ cs, o ≠ .cells .plain cs 27) : PlsAt (fun b => X b ∨ b = c) h s L := by
 cases k with
 | nil => exact .nil
 | mk hb g => exact .mk (fun q => q.elim hb (fun q => by subst q; have := g.2; rw [f.2] at this; exact ho _ (Option.some.inj this))) g
theorem MapOk.sep {F : FootV} {X : Nat → Prop} {bm : Nat} {h : AH} (k : MapOk F X bm h) {c : Nat} {o : ABlk} (f : Has h c o) (ho : ∀ cs, o ≠ .cells .plain cs 27) (hm : ∀ es cl, o ≠ .map es cl) : MapOk F (fun b => X b ∨ b = c) bm h := by
 obtain ⟨es, clock, g, k1, k2, k3, k4, k5⟩ := k
 refine ⟨es, clock, g, k1, k2, k3, fun q => q.elim k4 (fun q => by subst q; have := k1.2; rw [f.2] at this; exact hm _ _ (Option.some.inj this)), fun a v m => ?_⟩
 obtain ⟨st, i, s, q1, q2, q3, q4⟩ := k5 a v m
 exact ⟨st, i, s, q1, q2, q3, (q4.sep f ho).mono (fun b q => .inl (q.elim (fun q => q.elim (fun q => .inl (.inl q)) .inr) (fun q => .inl (.inr q))))⟩
theorem key138 : KeyN Try.prog 138 9 := by
 refine ⟨⟨_, Try.underlying138, .cons (n := 8) ⟨by decide, .inr ⟨by kernel_rfl, _, _, Try.underlying136, Try.underlying3, by kernel_rfl⟩⟩ rfl (.cons (n := 1) ⟨by decide, .inl ⟨rfl, _, Try.underlying3⟩⟩ rfl (.nil 9))⟩, by kernel_rfl⟩
theorem lookN_some {P : Program} {t : Tr AVal} {h : AH} {dst : Option Tmp} {tt : TypeId} {pos : String} {after : Array Edge} {guard : Option (Nat × Bool)} {ty kt vt : TypeId} {N : Nat} {x k : Operand} {b clock : Nat} {es : List AMapE} {f : List (List Int × AVal)} {key : List Int} {z v : AVal}
  (K : KeyN P kt N) (hu : P.underlying ty = some (.map kt vt)) (hz : zeroT P vt = some z) (hx : ev t x = some (.map b)) (hk : ev t k = some (.agg (i64s key))) (h4 : key.length = N)
  (hb : Has h b (.map es clock)) (hm : MapN es f) (hf : LenN N f) (hv : findN key f = some v) :
  aOp P t h ⟨dst, .lookup ty x k true, tt, pos, after, guard⟩ = some (.val (.tuple [v, .bool true]) h) := by
 rw [aOp_lookupN K hu hz hx hk h4 hb hm hf, hv]
 rfl
theorem lookN_none {P : Program} {t : Tr AVal} {h : AH} {dst : Option Tmp} {tt : TypeId} {pos : String} {after : Array Edge} {guard : Option (Nat × Bool)} {ty kt vt : TypeId} {N : Nat} {x k : Operand} {b clock : Nat} {es : List AMapE} {f : List (List Int × AVal)} {key : List Int} {z : AVal}
  (K : KeyN P kt N) (hu : P.underlying ty = some (.map kt vt)) (hz : zeroT P vt = some z) (hx : ev t x = some (.map b)) (hk : ev t k = some (.agg (i64s key))) (h4 : key.length = N)
  (hb : Has h b (.map es clock)) (hm : MapN es f) (hf : LenN N f) (hv : findN key f = none) :
  aOp P t h ⟨dst, .lookup ty x k true, tt, pos, after, guard⟩ = some (.val (.tuple [z, .bool false]) h) := by
 rw [aOp_lookupN K hu hz hx hk h4 hb hm hf, hv]
 rfl
structure RSt (F : FootV) (rsl hsl : AVal) (g h : AH) (bw bk bf bm b4 b5 ba bz bo : Nat) (X : Nat → Prop) (m i : Nat) (st : List Int) (lb : Nat) (x : Hv) (hh : AH) : Prop where
 eg : Ext g hh
 y0 : ExtF (fun b => b = bm) h hh
 f0 : Has hh bw (.cells .plain [rsl, .int .i64 F.men, .int .i64 F.l0, .int .i64 F.l1, .int .i64 F.l2, .int .i64 F.d0, .int .i64 F.d1, .int .i64 F.d2, hsl] 80)
 f1 : Has hh bk (.cells .plain [.map bm] 143)
 f2 : Has hh bf (.cells .plain [.func (.func 100) [] [.ptr bw 0, .ptr bk 0, .ptr bf 0]] 144)
 f3 : Has hh b4 (.cells .plain (i64s (st ++ [(i : Int)])) 138)
 f4 : Has hh b5 (.cells .plain [.int .i64 0, .nilslice] 111)
 fa : Has hh ba (.cells .plain [.int .i64 (F.rest i)] 3)
 fz : Has hh bz (.cells .plain [rsl, .int .i64 F.men, .int .i64 F.l0, .int .i64 F.l1, .int .i64 F.l2, .int .i64 F.d0, .int .i64 F.d1, .int .i64 F.d2, hsl] 80)
 fo : ∃ bp, Has hh bo (.cells .plain [.int .i64 x.sods, .slice bp 0 (m + 1) (m + 1)] 111) ∧ Has hh bp (.cells .plain (x.plans.flatMap Pl.cells) 27) ∧ h.next ≤ bp ∧ bp ≠ bo ∧ bp ≠ lb ∧ bp ≠ bm
 M : MapOk F (fun b => (X b ∨ b = bo) ∨ b = lb) bm hh
theorem RSt.keep {F : FootV} {rsl hsl : AVal} {g h : AH} {bw bk bf bm b4 b5 ba bz bo : Nat} {X : Nat → Prop} {m i : Nat} {st : List Int} {lb : Nat} {x : Hv} {h1 h2 : AH} (k : RSt F rsl hsl g h bw bk bf bm b4 b5 ba bz bo X m i st lb x h1)
  (hn : h2.next = h1.next) (he : ∀ b, b ≠ lb → h2.get b = h1.get b) (hl : g.next ≤ lb ∧ h.next ≤ lb ∧ bw ≠ lb ∧ bk ≠ lb ∧ bf ≠ lb ∧ b4 ≠ lb ∧ b5 ≠ lb ∧ ba ≠ lb ∧ bz ≠ lb ∧ bo ≠ lb) : RSt F rsl hsl g h bw bk bf bm b4 b5 ba bz bo X m i st lb x h2 := by
 have e : ExtF (fun b => b = lb) h1 h2 := ⟨by rw [hn]; exact Nat.le_refl _, fun b _ q => he b q⟩
 obtain ⟨l1, l2, l3, l4, l5, l6, l7, l8, l9, l10⟩ := hl
 obtain ⟨bp, p1, p2, p3, p4, p5, p6⟩ := k.fo
 exact ⟨e.low k.eg (fun b q => by rw [q]; exact l1), k.y0.trans (fun b q => .inr (by rw [q]; exact l2)) e, k.f0.extF e l3, k.f1.extF e l4, k.f2.extF e l5, k.f3.extF e l6, k.f4.extF e l7, k.fa.extF e l8, k.fz.extF e l9,
  ⟨bp, p1.extF e l10, p2.extF e p5, p3, p4, p5, p6⟩, k.M.extF e (fun b q => .inr q)⟩
noncomputable def opsQ100 : Array Oper := ((drawnOps Try.f100)[0]?).getD #[]
theorem befsQ100 : befs0 opsQ100 = [0, 0, 0, 6, 15, 31, 63, 0, 255] := by kernel_rfl
theorem sizeQ100 : opsQ100.size = 9 := by kernel_rfl
theorem plQ100a : planX opsQ100 [0, 0, 128, 134, 143, 159, 191, 0, 255] [0, 1, 7, 2, 3, 4, 5, 6, 8] = some (mkPlan opsQ100.toList [(0, 0, true, false), (1, 0, true, false), (7, 0, false, false), (2, 128, false, false), (3, 134, false, false), (4, 143, false, false), (5, 159, false, false), (6, 191, false, false), (8, 255, false, false)]) := by kernel_rfl
theorem plQ100b : planX opsQ100 [0, 0, 0, 134, 143, 159, 191, 4, 255] [0, 1, 2, 7, 3, 4, 5, 6, 8] = some (mkPlan opsQ100.toList [(0, 0, true, false), (1, 0, true, false), (2, 0, false, false), (7, 4, false, false), (3, 134, false, false), (4, 143, false, false), (5, 159, false, false), (6, 191, false, false), (8, 255, false, false)]) := by kernel_rfl
theorem plQ100c : planX opsQ100 [0, 0, 0, 6, 143, 159, 191, 14, 255] [0, 1, 2, 3, 7, 4, 5, 6, 8] = some (mkPlan opsQ100.toList [(0, 0, true, false), (1, 0, true, false), (2, 0, false, false), (3, 6, false, false), (7, 14, false, false), (4, 143, false, false), (5, 159, false, false), (6, 191, false, false), (8, 255, false, false)]) := by kernel_rfl
theorem plQ100d : planX opsQ100 [0, 0, 0, 6, 15, 159, 191, 31, 255] [0, 1, 2, 3, 4, 7, 5, 6, 8] = some (mkPlan opsQ100.toList [(0, 0, true, false), (1, 0, true, false), (2, 0, false, false), (3, 6, false, false), (4, 15, false, false), (7, 31, false, false), (5, 159, false, false), (6, 191, false, false), (8, 255, false, false)]) := by kernel_rfl
theorem plQ100e : planX opsQ100 [0, 0, 0, 6, 15, 31, 191, 63, 255] [0, 1, 2, 3, 4, 5, 7, 6, 8] = some (mkPlan opsQ100.toList [(0, 0, true, false), (1, 0, true, false), (2, 0, false, false), (3, 6, false, false), (4, 15, false, false), (5, 31, false, false), (7, 63, false, false), (6, 191, false, false), (8, 255, false, false)]) := by kernel_rfl
theorem plQ100f : planX opsQ100 [0, 0, 0, 6, 15, 31, 63, 127, 255] [0, 1, 2, 3, 4, 5, 6, 7, 8] = some (mkPlan opsQ100.toList [(0, 0, true, false), (1, 0, true, false), (2, 0, false, false), (3, 6, false, false), (4, 15, false, false), (5, 31, false, false), (6, 63, false, false), (7, 127, false, false), (8, 255, false, false)]) := by kernel_rfl
theorem altsQ100 {P : Program} {c : FC} {k : List AItem} {id : Nat} {t : Tr AVal} {h : AH} {Q : AM → Prop}
  (ga : ∀ pl, planX opsQ100 [0, 0, 128, 134, 143, 159, 191, 0, 255] [0, 1, 7, 2, 3, 4, 5, 6, 8] = some pl → GoE P c k Q opsQ100 pl (eraseT opsQ100.toList t) [] t h)
  (gb : ∀ pl, planX opsQ100 [0, 0, 0, 134, 143, 159, 191, 4, 255] [0, 1, 2, 7, 3, 4, 5, 6, 8] = some pl → GoE P c k Q opsQ100 pl (eraseT opsQ100.toList t) [] t h)
  (gc : ∀ pl, planX opsQ100 [0, 0, 0, 6, 143, 159, 191, 14, 255] [0, 1, 2, 3, 7, 4, 5, 6, 8] = some pl → GoE P c k Q opsQ100 pl (eraseT opsQ100.toList t) [] t h)
  (gd : ∀ pl, planX opsQ100 [0, 0, 0, 6, 15, 159, 191, 31, 255] [0, 1, 2, 3, 4, 7, 5, 6, 8] = some pl → GoE P c k Q opsQ100 pl (eraseT opsQ100.toList t) [] t h)
  (ge : ∀ pl, planX opsQ100 [0, 0, 0, 6, 15, 31, 191, 63, 255] [0, 1, 2, 3, 4, 5, 7, 6, 8] = some pl → GoE P c k Q opsQ100 pl (eraseT opsQ100.toList t) [] t h)
  (gf : ∀ pl, planX opsQ100 [0, 0, 0, 6, 15, 31, 63, 127, 255] [0, 1, 2, 3, 4, 5, 6, 7, 8] = some pl → GoE P c k Q opsQ100 pl (eraseT opsQ100.toList t) [] t h) :
  Go P c (.code (.region id opsQ100 true) :: k) t h Q := by
 refine Go.drawnX plQ100f fun s hv => ?_
 have hb := fun i k hi hk => VB.before hv befsQ100 i k (by rw [sizeQ100]; exact hi) hk
 have h3_1 := hb 3 1 (by decide) (by decide)
 have h3_2 := hb 3 2 (by decide) (by decide)
 have h4_0 := hb 4 0 (by decide) (by decide)
 have h4_1 := hb 4 1 (by decide) (by decide)
 have h4_2 := hb 4 2 (by decide) (by decide)
 have h4_3 := hb 4 3 (by decide) (by decide)
 have h5_0 := hb 5 0 (by decide) (by decide)
 have h5_1 := hb 5 1 (by decide) (by decide)
 have h5_2 := hb 5 2 (by decide) (by decide)
 have h5_3 := hb 5 3 (by decide) (by decide)
 have h5_4 := hb 5 4 (by decide) (by decide)
 have h6_0 := hb 6 0 (by decide) (by decide)
 have h6_1 := hb 6 1 (by decide) (by decide)
 have h6_2 := hb 6 2 (by decide) (by decide)
 have h6_3 := hb 6 3 (by decide) (by decide)
 have h6_4 := hb 6 4 (by decide) (by decide)
 have h6_5 := hb 6 5 (by decide) (by decide)
 have d2 := VB.apart hv befsQ100 7 2 (by rw [sizeQ100]; decide) (by decide)
 have d3 := VB.apart hv befsQ100 7 3 (by rw [sizeQ100]; decide) (by decide)
 have d4 := VB.apart hv befsQ100 7 4 (by rw [sizeQ100]; decide) (by decide)
 have d5 := VB.apart hv befsQ100 7 5 (by rw [sizeQ100]; decide) (by decide)
 have d6 := VB.apart hv befsQ100 7 6 (by rw [sizeQ100]; decide) (by decide)
 by_cases q2 : s.idxOf 7 < s.idxOf 2
 ·refine ⟨_, _, _, plQ100a, VB.alt hv befsQ100 sizeQ100 [(7, 2), (7, 3), (7, 4), (7, 5), (7, 6)] (by kernel_rfl) ?_, ga _ plQ100a⟩
  intro e he
  simp only [List.mem_cons, List.not_mem_nil, or_false] at he
  rcases he with rfl | rfl | rfl | rfl | rfl <;> dsimp only <;> omega
 by_cases q3 : s.idxOf 7 < s.idxOf 3
 ·refine ⟨_, _, _, plQ100b, VB.alt hv befsQ100 sizeQ100 [(7, 3), (7, 4), (7, 5), (7, 6), (2, 7)] (by kernel_rfl) ?_, gb _ plQ100b⟩
  intro e he
  simp only [List.mem_cons, List.not_mem_nil, or_false] at he
  rcases he with rfl | rfl | rfl | rfl | rfl <;> dsimp only <;> omega
 by_cases q4 : s.idxOf 7 < s.idxOf 4
 ·refine ⟨_, _, _, plQ100c, VB.alt hv befsQ100 sizeQ100 [(7, 4), (7, 5), (7, 6), (1, 7), (2, 7), (3, 7)] (by kernel_rfl) ?_, gc _ plQ100c⟩
  intro e he
  simp only [List.mem_cons, List.not_mem_nil, or_false] at he
  rcases he with rfl | rfl | rfl | rfl | rfl | rfl <;> dsimp only <;> omega
 by_cases q5 : s.idxOf 7 < s.idxOf 5
 ·refine ⟨_, _, _, plQ100d, VB.alt hv befsQ100 sizeQ100 [(7, 5), (7, 6), (0, 7), (1, 7), (2, 7), (3, 7), (4, 7)] (by kernel_rfl) ?_, gd _ plQ100d⟩
  intro e he
  simp only [List.mem_cons, List.not_mem_nil, or_false] at he
  rcases he with rfl | rfl | rfl | rfl | rfl | rfl | rfl <;> dsimp only <;> omega
 by_cases q6 : s.idxOf 7 < s.idxOf 6
 ·refine ⟨_, _, _, plQ100e, VB.alt hv befsQ100 sizeQ100 [(7, 6), (0, 7), (1, 7), (2, 7), (3, 7), (4, 7), (5, 7)] (by kernel_rfl) ?_, ge _ plQ100e⟩
  intro e he
  simp only [List.mem_cons, List.not_mem_nil, or_false] at he
  rcases he with rfl | rfl | rfl | rfl | rfl | rfl | rfl <;> dsimp only <;> omega
 refine ⟨_, _, _, plQ100f, VB.alt hv befsQ100 sizeQ100 [(0, 7), (1, 7), (2, 7), (3, 7), (4, 7), (5, 7), (6, 7)] (by kernel_rfl) ?_, gf _ plQ100f⟩
 intro e he
 simp only [List.mem_cons, List.not_mem_nil, or_false] at he
 rcases he with rfl | rfl | rfl | rfl | rfl | rfl | rfl <;> dsimp only <;> omega
noncomputable def opsR100 : Array Oper := ((drawnOps Try.f100)[2]?).getD #[]
theorem befsR100 : befs0 opsR100 = [0, 0, 0, 6, 15, 0, 0, 64, 0, 256, 960, 1984, 4032, 8191, 0, 32767] := by kernel_rfl
theorem sizeR100 : opsR100.size = 16 := by kernel_rfl
theorem plR100a : planX opsR100 [0, 0, 0, 16390, 16399, 0, 0, 64, 0, 256, 960, 1984, 4032, 24575, 0, 32767] [0, 1, 2, 5, 6, 7, 8, 9, 10, 11, 12, 14, 3, 4, 13, 15] = some (mkPlan opsR100.toList [(0, 0, true, false), (1, 0, true, false), (2, 0, true, false), (5, 0, true, false), (6, 0, true, false), (7, 64, true, false), (8, 0, true, false), (9, 256, true, false), (10, 960, true, false), (11, 1984, true, false), (12, 4032, true, false), (14, 0, false, false), (3, 16390, false, false), (4, 16399, false, false), (13, 24575, false, false), (15, 32767, false, false)]) := by kernel_rfl
theorem plR100b : planX opsR100 [0, 0, 0, 6, 16399, 0, 0, 64, 0, 256, 960, 1984, 4032, 24575, 14, 32767] [0, 1, 2, 5, 6, 7, 8, 9, 10, 11, 12, 3, 14, 4, 13, 15] = some (mkPlan opsR100.toList [(0, 0, true, false), (1, 0, true, false), (2, 0, true, false), (5, 0, true, false), (6, 0, true, false), (7, 64, true, false), (8, 0, true, false), (9, 256, true, false), (10, 960, true, false), (11, 1984, true, false), (12, 4032, true, false), (3, 6, false, false), (14, 14, false, false), (4, 16399, false, false), (13, 24575, false, false), (15, 32767, false, false)]) := by kernel_rfl
theorem plR100c : planX opsR100 [0, 0, 0, 6, 15, 0, 0, 64, 0, 256, 960, 1984, 4032, 24575, 31, 32767] [0, 1, 2, 5, 6, 7, 8, 9, 10, 11, 12, 3, 4, 14, 13, 15] = some (mkPlan opsR100.toList [(0, 0, true, false), (1, 0, true, false), (2, 0, true, false), (5, 0, true, false), (6, 0, true, false), (7, 64, true, false), (8, 0, true, false), (9, 256, true, false), (10, 960, true, false), (11, 1984, true, false), (12, 4032, true, false), (3, 6, false, false), (4, 15, false, false), (14, 31, false, false), (13, 24575, false, false), (15, 32767, false, false)]) := by kernel_rfl
theorem plR100d : planX opsR100 [0, 0, 0, 6, 15, 0, 0, 64, 0, 256, 960, 1984, 4032, 8191, 16383, 32767] [0, 1, 2, 5, 6, 7, 8, 9, 10, 11, 12, 3, 4, 13, 14, 15] = some (mkPlan opsR100.toList [(0, 0, true, false), (1, 0, true, false), (2, 0, true, false), (5, 0, true, false), (6, 0, true, false), (7, 64, true, false), (8, 0, true, false), (9, 256, true, false), (10, 960, true, false), (11, 1984, true, false), (12, 4032, true, false), (3, 6, false, false), (4, 15, false, false), (13, 8191, false, false), (14, 16383, false, false), (15, 32767, false, false)]) := by kernel_rfl
theorem altsR100 {P : Program} {c : FC} {k : List AItem} {id : Nat} {t : Tr AVal} {h : AH} {Q : AM → Prop}
  (ga : ∀ pl, planX opsR100 [0, 0, 0, 16390, 16399, 0, 0, 64, 0, 256, 960, 1984, 4032, 24575, 0, 32767] [0, 1, 2, 5, 6, 7, 8, 9, 10, 11, 12, 14, 3, 4, 13, 15] = some pl → GoE P c k Q opsR100 pl (eraseT opsR100.toList t) [] t h)
  (gb : ∀ pl, planX opsR100 [0, 0, 0, 6, 16399, 0, 0, 64, 0, 256, 960, 1984, 4032, 24575, 14, 32767] [0, 1, 2, 5, 6, 7, 8, 9, 10, 11, 12, 3, 14, 4, 13, 15] = some pl → GoE P c k Q opsR100 pl (eraseT opsR100.toList t) [] t h)
  (gc : ∀ pl, planX opsR100 [0, 0, 0, 6, 15, 0, 0, 64, 0, 256, 960, 1984, 4032, 24575, 31, 32767] [0, 1, 2, 5, 6, 7, 8, 9, 10, 11, 12, 3, 4, 14, 13, 15] = some pl → GoE P c k Q opsR100 pl (eraseT opsR100.toList t) [] t h)
  (gd : ∀ pl, planX opsR100 [0, 0, 0, 6, 15, 0, 0, 64, 0, 256, 960, 1984, 4032, 8191, 16383, 32767] [0, 1, 2, 5, 6, 7, 8, 9, 10, 11, 12, 3, 4, 13, 14, 15] = some pl → GoE P c k Q opsR100 pl (eraseT opsR100.toList t) [] t h) :
  Go P c (.code (.region id opsR100 true) :: k) t h Q := by
 refine Go.drawnX plR100d fun s hv => ?_
 have hb := fun i k hi hk => VB.before hv befsR100 i k (by rw [sizeR100]; exact hi) hk
 have h3_1 := hb 3 1 (by decide) (by decide)
 have h3_2 := hb 3 2 (by decide) (by decide)
 have h4_0 := hb 4 0 (by decide) (by decide)
 have h4_1 := hb 4 1 (by decide) (by decide)
 have h4_2 := hb 4 2 (by decide) (by decide)
 have h4_3 := hb 4 3 (by decide) (by decide)
 have h7_6 := hb 7 6 (by decide) (by decide)
 have h9_8 := hb 9 8 (by decide) (by decide)
 have h10_6 := hb 10 6 (by decide) (by decide)
 have h10_7 := hb 10 7 (by decide) (by decide)
 have h10_8 := hb 10 8 (by decide) (by decide)
 have h10_9 := hb 10 9 (by decide) (by decide)
 have h11_6 := hb 11 6 (by decide) (by decide)
 have h11_7 := hb 11 7 (by decide) (by decide)
 have h11_8 := hb 11 8 (by decide) (by decide)
 have h11_9 := hb 11 9 (by decide) (by decide)
 have h11_10 := hb 11 10 (by decide) (by decide)
 have h12_6 := hb 12 6 (by decide) (by decide)
 have h12_7 := hb 12 7 (by decide) (by decide)
 have h12_8 := hb 12 8 (by decide) (by decide)
 have h12_9 := hb 12 9 (by decide) (by decide)
 have h12_10 := hb 12 10 (by decide) (by decide)
 have h12_11 := hb 12 11 (by decide) (by decide)
 have h13_0 := hb 13 0 (by decide) (by decide)
 have h13_1 := hb 13 1 (by decide) (by decide)
 have h13_2 := hb 13 2 (by decide) (by decide)
 have h13_3 := hb 13 3 (by decide) (by decide)
 have h13_4 := hb 13 4 (by decide) (by decide)
 have h13_5 := hb 13 5 (by decide) (by decide)
 have h13_6 := hb 13 6 (by decide) (by decide)
 have h13_7 := hb 13 7 (by decide) (by decide)
 have h13_8 := hb 13 8 (by decide) (by decide)
 have h13_9 := hb 13 9 (by decide) (by decide)
 have h13_10 := hb 13 10 (by decide) (by decide)
 have h13_11 := hb 13 11 (by decide) (by decide)
 have h13_12 := hb 13 12 (by decide) (by decide)
 have d3 := VB.apart hv befsR100 14 3 (by rw [sizeR100]; decide) (by decide)
 have d4 := VB.apart hv befsR100 14 4 (by rw [sizeR100]; decide) (by decide)
 have d13 := VB.apart hv befsR100 14 13 (by rw [sizeR100]; decide) (by decide)
 by_cases q3 : s.idxOf 14 < s.idxOf 3
 ·refine ⟨_, _, _, plR100a, VB.alt hv befsR100 sizeR100 [(14, 3), (14, 4), (14, 13)] (by kernel_rfl) ?_, ga _ plR100a⟩
  intro e he
  simp only [List.mem_cons, List.not_mem_nil, or_false] at he
  rcases he with rfl | rfl | rfl <;> dsimp only <;> omega
 by_cases q4 : s.idxOf 14 < s.idxOf 4
 ·refine ⟨_, _, _, plR100b, VB.alt hv befsR100 sizeR100 [(14, 4), (14, 13), (1, 14), (2, 14), (3, 14)] (by kernel_rfl) ?_, gb _ plR100b⟩
  intro e he
  simp only [List.mem_cons, List.not_mem_nil, or_false] at he
  rcases he with rfl | rfl | rfl | rfl | rfl <;> dsimp only <;> omega
 by_cases q13 : s.idxOf 14 < s.idxOf 13
 ·refine ⟨_, _, _, plR100c, VB.alt hv befsR100 sizeR100 [(14, 13), (0, 14), (1, 14), (2, 14), (3, 14), (4, 14)] (by kernel_rfl) ?_, gc _ plR100c⟩
  intro e he
  simp only [List.mem_cons, List.not_mem_nil, or_false] at he
  rcases he with rfl | rfl | rfl | rfl | rfl | rfl <;> dsimp only <;> omega
 refine ⟨_, _, _, plR100d, VB.alt hv befsR100 sizeR100 [(0, 14), (1, 14), (2, 14), (3, 14), (4, 14), (5, 14), (6, 14), (7, 14), (8, 14), (9, 14), (10, 14), (11, 14), (12, 14), (13, 14)] (by kernel_rfl) ?_, gd _ plR100d⟩
 intro e he
 simp only [List.mem_cons, List.not_mem_nil, or_false] at he
 rcases he with rfl | rfl | rfl | rfl | rfl | rfl | rfl | rfl | rfl | rfl | rfl | rfl | rfl | rfl <;> dsimp only <;> omega
end Go.Proofs.Ytmimdgjehnhnoaa
