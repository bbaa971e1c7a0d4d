import Derived.Test.YteibheeleeengaaMAK
import Derived.Test.YteibheeleeengaaMAG
import Derived.Test.YteibheeleeengaaMAJ
import Derived.Test.YteibheeleeengaaMAF
import Derived.Test.YteibheeleeengaaMAH
set_option linter.unusedSimpArgs false
namespace Go.AbsE
open Go
section
variable {P : Program}
def esN (L : List (List Int × AVal)) : List AMapE := L.mapIdx fun i x => ⟨.agg (vints x.1), x.2, i⟩
theorem esN_app (L : List (List Int × AVal)) (x : List Int × AVal) : esN (L ++ [x]) = esN L ++ [⟨.agg (vints x.1), x.2, L.length⟩] := by unfold esN; rw [List.mapIdx_concat]
theorem esN_len (L : List (List Int × AVal)) : (esN L).length = L.length := by simp [esN]
theorem esN_at {L : List (List Int × AVal)} {en : AMapE} (h : en ∈ esN L) : ∃ i x, L[i]? = some x ∧ en = ⟨.agg (vints x.1), x.2, i⟩ := by
 unfold esN at h
 obtain ⟨i, hi, rfl⟩ := List.mem_mapIdx.1 h
 exact ⟨i, L[i], by simp [hi], rfl⟩
theorem esN_born {L : List (List Int × AVal)} : ∀ en, en ∈ esN L → en.born < L.length := by
 intro en h
 obtain ⟨i, x, hx, rfl⟩ := esN_at h
 exact (List.getElem?_eq_some_iff.1 hx).1
theorem esN_dist (L : List (List Int × AVal)) : (esN L).Pairwise fun a b => a.born ≠ b.born := by
 unfold esN
 rw [List.pairwise_iff_getElem]
 intro i j hi hj hij
 rw [List.getElem_mapIdx, List.getElem_mapIdx]
 dsimp only
 omega
theorem mapSetN_new {kt : TypeId} {N : Nat} (K : KeyN P kt N) {k : List Int} (hk : k.length = N) (v : AVal) (clock : Nat) : ∀ (es : List AMapE), (∀ e, e ∈ es → ∃ m, e.key = .agg (vints m) ∧ m.length = N ∧ k ≠ m) →
  aMapSet P kt (.agg (vints k)) v clock es = some (es ++ [⟨.agg (vints k), v, clock⟩], clock + 1)
 | [], _ => rfl
 | e :: es, h => by
  have ih := mapSetN_new K hk v clock es fun x hx => h x (List.mem_cons_of_mem _ hx)
  obtain ⟨m, hm, hml, hne⟩ := h e List.mem_cons_self
  unfold aMapSet
  rw [hm, pr_eq_keyN K hk hml, decide_eq_false hne, ih]
  rfl
theorem aOp_mapNewN {t : Tr AVal} {h : AH} {dst : Option Tmp} {tt : TypeId} {pos : String} {after : Array Edge} {guard : Option (Nat × Bool)} {ty kt vt : TypeId} {N : Nat} {x k y : Operand} {b : Nat} {L : List (List Int × AVal)} {key : List Int} {v : AVal}
  (K : KeyN P kt N) (hu : P.underlying ty = some (.map kt vt)) (hx : ev t x = some (.map b)) (hk : ev t k = some (.agg (i64s key))) (hy : ev t y = some v) (h4 : key.length = N)
  (hb : Has h b (.map (esN L) L.length)) (hl : ∀ x, x ∈ L → x.1.length = N ∧ key ≠ x.1) :
  ∃ h', aOp P t h ⟨dst, .mapUpdate ty x k y, tt, pos, after, guard⟩ = some (.val undefA h') ∧ Upd h b (.map (esN (L ++ [(key, v)])) (L ++ [(key, v)]).length) h' := by
 obtain ⟨h', s1, s2⟩ := set_upd h b (.map (esN (L ++ [(key, v)])) (L ++ [(key, v)]).length)
 refine ⟨h', ?_, s2⟩
 show opMapUpdate P t h ty x k y = _
 unfold opMapUpdate
 rw [hu, hx, hk, hy]
 dsimp only
 rw [hb.2, ground_vints]
 dsimp only
 rw [pr_check_keyN K h4]
 dsimp only
 rw [mapSetN_new K h4 v L.length (esN L) (fun e he => by
  obtain ⟨i, x, hx, rfl⟩ := esN_at he
  exact ⟨x.1, rfl, hl x (List.mem_of_getElem? hx)⟩)]
 rw [esN_app, List.length_append] at s1
 dsimp only
 show (match h.set b (some (ABlk.map (esN L ++ [⟨.agg (vints key), v, L.length⟩]) (L.length + 1))) with | some h => some (ANext.val undefA h) | none => none) = _
 rw [show h.set b (some (ABlk.map (esN L ++ [⟨.agg (vints key), v, L.length⟩]) (L.length + 1))) = some h' from s1]
theorem GoR.mapNewN {J : Jump} {c : FC} {k : List AItem} {Q : AM → Prop} {all : Array Oper} {l : List Oper} {dst : Option Tmp} {tt : TypeId} {pos : String} {after : Array Edge} {guard : Option (Nat × Bool)} {rest : List Oper} {i : Nat} {t : Tr AVal} {h : AH} {ty kt vt : TypeId} {N : Nat} {x kx y : Operand} {b : Nat} {L : List (List Int × AVal)} {key : List Int} {v : AVal}
  (hl : l = ⟨dst, .mapUpdate ty x kx y, tt, pos, after, guard⟩ :: rest) (hw : wantedA all t ⟨dst, .mapUpdate ty x kx y, tt, pos, after, guard⟩ = some true) (K : KeyN P kt N) (hu : P.underlying ty = some (.map kt vt)) (hd : dst = none)
  (hx : ev t x = some (.map b)) (hk : ev t kx = some (.agg (i64s key))) (hy : ev t y = some v) (h4 : key.length = N) (hb : Has h b (.map (esN L) L.length)) (hn : ∀ x, x ∈ L → x.1.length = N ∧ key ≠ x.1)
  (g : ∀ h1, Upd h b (.map (esN (L ++ [(key, v)])) (L ++ [(key, v)]).length) h1 → GoR P J c k Q (runOps P c.n all rest (i + 1) t h1)) : GoR P J c k Q (runOps P c.n all l i t h) := by
 obtain ⟨h1, q1, q2⟩ := aOp_mapNewN (dst := dst) (tt := tt) (pos := pos) (after := after) (guard := guard) K hu hx hk hy h4 hb hn
 refine GoR.op hl hw q1 ?_ (g h1 q2)
 unfold prepD
 rw [show (⟨dst, .mapUpdate ty x kx y, tt, pos, after, guard⟩ : Oper).dst = none from hd]
theorem absS_ints : ∀ l : List Int, mapO absS (l.map fun x => Value.int .i64 x) = some (l.map fun x => AVal.int .i64 x)
 | [] => rfl
 | x :: l => by simp only [List.map_cons, mapO, absS, absS_ints l]
theorem absV_vints (l : List Int) : absV (.agg (vints l)) = some (.agg (i64s l)) := by
 have := absS_ints l
 unfold absV vints i64s
 simp only [this]
theorem perm_pick {es vs rs : List AMapE} {en : AMapE} (hp : (vs ++ rs).Perm es) (hen : en ∈ es) (hnew : en.born ∉ vs.map AMapE.born) : ∃ ra rb, rs = ra ++ en :: rb ∧ ((vs ++ [en]) ++ (ra ++ rb)).Perm es := by
 have hmem : en ∈ rs := by
  rcases List.mem_append.1 (hp.mem_iff.2 hen) with q | q
  ·exact absurd (List.mem_map.2 ⟨en, q, rfl⟩) hnew
  ·exact q
 obtain ⟨ra, rb, rfl⟩ := List.append_of_mem hmem
 refine ⟨ra, rb, rfl, List.Perm.trans ?_ hp⟩
 simp only [List.append_assoc, List.singleton_append]
 exact List.Perm.append_left _ List.perm_middle.symm
theorem perm_over {es vs rs : List AMapE} (hp : (vs ++ rs).Perm es) (hd : es.Pairwise fun a b => a.born ≠ b.born) (hall : ∀ en, en ∈ es → en.born ∈ vs.map AMapE.born) : rs = [] := by
 have hdist : (vs ++ rs).Pairwise fun a b => a.born ≠ b.born := (hp.symm.pairwise_iff (fun h => h.symm)).1 hd
 cases rs with
 | nil => rfl
 | cons x rs =>
  exfalso
  have hx : x ∈ es := hp.mem_iff.1 (by simp)
  obtain ⟨y, hy, hyb⟩ := List.mem_map.1 (hall x hx)
  rw [List.pairwise_append] at hdist
  exact hdist.2.2 y hy x (by simp) hyb
end
end Go.AbsE

namespace Go.Proofs.Yteibheeleeengaa
open Go Go.AbsE
set_option linter.unusedSimpArgs false
set_option maxRecDepth 100000
set_option maxHeartbeats 0
set_option linter.unusedVariables false
theorem joinP_min (a b : Int) : (if b < a then b else a) = min a b := by split <;> omega
theorem joinP_max (a b : Int) : (if a < b then b else a) = max a b := by split <;> omega
theorem join_ok {L : List (Int × Int)} {s : AVal} {h : AH} (hs : SliceOf h 2 s (L.map spC)) (hL : L.length ≤ 100) : Runs Try.prog 65 [s] h (fun en h' => en = .ret (.agg (spC (joinL L))) ∧ Ext h h') := by
 have hl := hs.len
 rw [List.length_map] at hl
 have e0 : Ext h h := Ext.refl _
 refine Runs.intro aFunc65 rfl rfl rfl rfl fun rest => ?_;apply gS;refine gR rfl ?_;refine GoR.alloc rfl rfl rfl zt23 rfl rfl fun h0 x0 f0 => ?_;have := e0.1;replace e0 := e0.trans x0;have := f0.1;apply gE;apply gS;refine gR rfl ?_;refine gO rfl rfl (aOp_build zt23 hu23 pl23 rfl rfl) rfl ?_;refine GoR.alloc rfl rfl rfl zt23 rfl rfl fun h1 x1 f1 => ?_;have := e0.1;have := f0.1;replace f0 := f0.ext x1;replace e0 := e0.trans x1;have := f1.1;refine GoR.store rfl rfl rfl rfl rfl rfl f1 rfl sz23 rfl rfl rfl fun h2 u2 => ?_;replace f1 := u2.has f1;replace f0 := f0.upd u2 (by omega);replace e0 := e0.upd u2 (by omega);apply gE;iterate 2 apply gS
 refine gR rfl ?_;refine gP ?_;refine gO rfl rfl (aOp_lenSlice Try.underlying24 rfl (by assumption)) rfl ?_;refine gP ?_;apply gE;refine Go.block noJ_ok ?_;refine Go.loopKeep (fun i : Nat => [(2, .ptr h.next 0), (3, .ptr h0.next 0), (7, s), (8, .int .i64 L.length), (9, .int .i64 (i : Nat))]) (fun n i h' => n + i = L.length ∧ Ext h h' ∧ Has h' h.next (.cells .plain [.int .i64 0, .int .i64 0] 23) ∧ Has h' h0.next (.cells .plain (spC (joinL (L.take i))) 23)) (n := L.length) 0 ⟨rfl, rfl, rfl, rfl, rfl, trivial⟩ ⟨rfl, e0, f0, f1⟩ ?_
 have hlt := f0.1
 clear e0 f0 f1;rintro n i hc ⟨hn, e0, f0, f1⟩ again
 by_cases hi : i < L.length
 ·obtain ⟨p, hp⟩ : ∃ p, L[i]? = some p := ⟨L[i], by simp [hi]⟩
  obtain ⟨b, off, q1, q2⟩ := (hs.ext e0).at (i := i) (l := spC p) (by rw [List.getElem?_map, hp]; rfl)
  have hj : joinL (L.take (i + 1)) = joinP (joinL (L.take i)) p := by rw [List.take_add_one, hp]; simp [joinL]
  rw [List.length_map] at q1
  generalize hw : joinL (L.take i) = w at f1 hj
  unfold spC at f1 q2
  apply gS;refine gR rfl ?_;refine gO rfl rfl (kLT rfl rfl) rfl ?_;apply gE;apply gS;refine gC (b := true) rfl ?_;refine gD ?_;apply gS;refine Go.block noJ_ok ?_;apply gS;refine gR rfl ?_;refine gO rfl rfl (aOp_indexAddr (i := i) Try.underlying24 sz23 rfl (by assumption) rfl (Nat.ble_eq_true_of_le (by omega))) rfl ?_;refine gO rfl rfl (aOp_loadE ag23 sz23 rfl q2) rfl ?_;refine GoR.alloc rfl rfl rfl zt23 rfl rfl fun h3 x3 f3 => ?_;have := e0.1;have := f0.1;have := f1.1;replace f0 := f0.ext x3;replace f1 := f1.ext x3;replace e0 := e0.trans x3;have := f3.1;refine GoR.store rfl rfl rfl rfl rfl rfl f3 rfl sz23 rfl rfl rfl fun h4 u4 => ?_;replace f3 := u4.has f3;replace f0 := f0.upd u4 (by omega);replace f1 := f1.upd u4 (by omega);replace e0 := e0.upd u4 (by omega);apply gE;refine gR rfl ?_;refine gO rfl rfl (fa23_0 rfl) rfl ?_;refine gO rfl rfl (ld3 rfl f1 rfl) rfl ?_;refine gO rfl rfl (fa23_0 rfl) rfl ?_;refine gO rfl rfl (ld3 rfl f3 rfl) rfl ?_;refine gO rfl rfl (aOp_min2 rfl rfl (joinP_min w.1 p.1)) rfl ?_;refine gO rfl rfl (fa23_1 rfl) rfl ?_;refine gO rfl rfl (ld3 rfl f1 rfl) rfl ?_;refine gO rfl rfl (fa23_1 rfl) rfl ?_;refine gO rfl rfl (ld3 rfl f3 rfl) rfl ?_;refine gO rfl rfl (aOp_max2 rfl rfl (joinP_max w.2 p.2)) rfl ?_;refine gO rfl rfl (aOp_build zt23 hu23 pl23 rfl rfl) rfl ?_;refine GoR.store rfl rfl rfl rfl rfl rfl f1 rfl sz23 rfl rfl rfl fun h5 u5 => ?_;replace f0 := f0.upd u5 (by omega);replace f1 := u5.has f1;replace e0 := e0.upd u5 (by omega);apply gE;refine Go.inBlock noJ_ok ?_;refine gR rfl ?_;refine gO rfl rfl (aA rfl rfl) rfl ?_;refine gP ?_;apply gE;exact again (n - 1) (i + 1) _ _ (by omega) ⟨rfl, rfl, rfl, rfl, rfl, trivial⟩ ⟨by omega, e0, f0, by rw [hj]; exact f1⟩
 ·have ht : L.take i = L := List.take_of_length_le (by omega)
  rw [ht] at f1
  unfold spC at f1 ⊢
  apply gS;refine gR rfl ?_;refine gO rfl rfl (kLF rfl rfl) rfl ?_;apply gE;apply gS;refine gC (b := false) rfl ?_;refine gD ?_;apply gS;refine gR rfl ?_;refine gO rfl rfl (ld23 rfl f1 rfl) rfl ?_;refine GoR.store rfl rfl rfl rfl rfl rfl f0 rfl sz23 rfl rfl rfl fun h3 u3 => ?_;replace f0 := u3.has f0;replace e0 := e0.upd u3 (by omega);apply gE;exact gV (ret_end (aResult_of Try.func65 rfl (aResults_cell rfl f0 (inCells_agg ag23 sz23 rfl))) ⟨rfl, e0⟩)
theorem join_nil {h : AH} : Runs Try.prog 65 [.nilslice] h (fun en h' => en = .ret (.agg [.int .i64 9223372036854775807, .int .i64 (-9223372036854775808)]) ∧ Ext h h') := join_ok (L := []) .nil (by decide)
theorem joinP_right (a b c : Int × Int) : joinP (joinP a b) c = joinP (joinP a c) b := by
 unfold joinP; ext <;> dsimp only <;> omega
theorem foldl_perm {l m : List (Int × Int)} (h : l.Perm m) : ∀ a, l.foldl joinP a = m.foldl joinP a := by
 induction h with
 | nil => intro a; rfl
 | cons x _ ih => intro a; exact ih _
 | swap x y l => intro a; simp only [List.foldl_cons, joinP_right a y x]
 | trans _ _ i1 i2 => intro a; rw [i1, i2]
theorem joinL_perm {l m : List (Int × Int)} (h : l.Perm m) : joinL l = joinL m := foldl_perm h _
def InSp (p : Int × Int) : Prop := p.1 ≤ 9223372036854775807 ∧ -9223372036854775808 ≤ p.2
theorem joinP_in {a b : Int × Int} (ha : InSp a) (hb : InSp b) : InSp (joinP a b) := by
 unfold InSp joinP at *
 constructor <;> dsimp only <;> omega
theorem foldl_in {l : List (Int × Int)} : ∀ {a}, InSp a → (∀ p, p ∈ l → InSp p) → InSp (l.foldl joinP a) := by
 induction l with
 | nil => intro a h _; exact h
 | cons x l ih => intro a h k; exact ih (joinP_in h (k x (by simp))) fun p hp => k p (by simp [hp])
theorem topS_in : InSp topS := by unfold InSp topS; omega
theorem joinL_in {l : List (Int × Int)} (k : ∀ p, p ∈ l → InSp p) : InSp (joinL l) := foldl_in topS_in k
theorem joinL_two {a b : Int × Int} (ha : InSp a) : joinL [a, b] = joinP a b := by
 show joinP (joinP topS a) b = _
 have : joinP topS a = a := by
  unfold InSp at ha
  unfold joinP topS
  ext <;> dsimp only <;> omega
 rw [this]
theorem joinL_app (l : List (Int × Int)) (x : Int × Int) : joinL (l ++ [x]) = joinP (joinL l) x := by simp [joinL]
theorem sl2 {h : AH} {b : Nat} {a c : Int × Int} {el : TypeId} (f : Has h b (.cells .plain (spC a ++ spC c) el)) : SliceOf h 2 (.slice b 0 2 2) ([a, c].map spC) :=
 SliceOf.mk' rfl rfl f rfl (fun i l hl => by
  match i, hl with
  | 0, hl => cases hl; rfl
  | 1, hl => cases hl; rfl)
abbrev KV := List ((Int × Int) × List (Int × Int))
def crsC (c : List (Int × Int)) : List AVal := (c ++ List.replicate (9 - c.length) (0, 0)).flatMap spC
def entL (x : (Int × Int) × List (Int × Int)) : List Int × AVal := ([x.1.1, x.1.2], .agg (crsC x.2))
theorem crsC_ints (c : List (Int × Int)) : crsC c = i64s ((c ++ List.replicate (9 - c.length) (0, 0)).flatMap fun (p : Int × Int) => [p.1, p.2]) := by
 unfold crsC i64s
 rw [List.map_flatMap]
 rfl
theorem crsC_same (c : List (Int × Int)) : sameA (.agg (crsC c)) (.agg (crsC c)) = true := by
 rw [crsC_ints];exact same_ints _
theorem spC_flat_len : ∀ l : List (Int × Int), (l.flatMap spC).length = l.length * 2
 | [] => rfl
 | x :: l => by rw [List.flatMap_cons, List.length_append, spC_flat_len l, List.length_cons]; show 2 + _ = _; omega
theorem crsC_len {c : List (Int × Int)} (h : c.length ≤ 9) : (crsC c).length = 18 := by
 unfold crsC
 rw [spC_flat_len, List.length_append, List.length_replicate]
 omega
theorem ints_scal : ∀ l : List Int, scalars (i64s l) = true
 | [] => rfl
 | x :: l => ints_scal l
theorem crsC_scal (c : List (Int × Int)) : scalars (crsC c) = true := by
 rw [crsC_ints];exact ints_scal _
theorem splice_all {l v : List AVal} (h : v.length = l.length) : splice l 0 v = some v := by
 rw [splice_eq (by omega)]
 simp [h]
theorem crsC_at {c : List (Int × Int)} {d : Nat} {p : Int × Int} (h : c[d]? = some p) : slice? (crsC c) (d * 2) 2 = some (spC p) := by
 have hlt := (List.getElem?_eq_some_iff.1 h).1
 have hd : ((c ++ List.replicate (9 - c.length) (0, 0)).map spC)[d]? = some (spC p) := by
  rw [List.getElem?_map, List.getElem?_append_left hlt, h]
  rfl
 have := slice_flatten (sz := 2) (L := (c ++ List.replicate (9 - c.length) (0, 0)).map spC) (fun l hl => by obtain ⟨_, _, rfl⟩ := List.mem_map.1 hl; rfl) d (spC p) hd
 unfold crsC
 rwa [← List.flatMap_def] at this
structure KnownAt (K : KV) (n : Nat) (h : AH) (bm : Nat) : Prop where
 m : Has h bm (.map (esN (K.map entL)) K.length)
 len : ∀ x, x ∈ K → x.2.length = n
 fit : ∀ x, x ∈ K → InSp (x.1.1, x.1.1) ∧ ∀ p, p ∈ x.2 → InSp p
theorem KnownAt.ext {K : KV} {n : Nat} {h h' : AH} {bm : Nat} (k : KnownAt K n h bm) (e : Ext h h') : KnownAt K n h' bm := ⟨k.m.ext e, k.len, k.fit⟩
theorem mapB_has {h : AH} {b : Nat} {es : List AMapE} {c : Nat} (f : Has h b (.map es c)) : mapB h b = some (es, c) := by unfold mapB; rw [f.2]
theorem ent_at {K : KV} {en : AMapE} (hen : en ∈ esN (K.map entL)) : ∃ x, K[en.born]? = some x ∧ en.key = .agg (vints [x.1.1, x.1.2]) ∧ en.val = .agg (crsC x.2) ∧ x ∈ K := by
 obtain ⟨i, x, hx, rfl⟩ := esN_at hen
 rw [List.getElem?_map] at hx
 cases q : K[i]? with
 | none => rw [q] at hx; cases hx
 | some y =>
  rw [q] at hx;cases hx;exact ⟨y, rfl, rfl, rfl, List.mem_of_getElem? q⟩
theorem ent_kv {K : KV} : ∀ en, en ∈ esN (K.map entL) → ∃ kv, absV en.key = some kv := fun en hen => by
 obtain ⟨x, _, hk, _⟩ := ent_at hen
 exact ⟨_, by rw [hk]; exact absV_vints _⟩
def spanE (K : KV) (f : (Int × Int) × List (Int × Int) → Int × Int) (en : AMapE) : List (Int × Int) := match K[en.born]? with | some x => [f x] | none => []
theorem spanE_all (K : KV) (f : (Int × Int) × List (Int × Int) → Int × Int) : (esN (K.map entL)).flatMap (spanE K f) = K.map f := by
 have h1 : (esN (K.map entL)).map AMapE.born = List.range K.length := by
  unfold esN
  apply List.ext_getElem
  ·simp
  ·intro i h1 h2
   simp
 have h2 : (esN (K.map entL)).flatMap (spanE K f) = (List.range K.length).flatMap fun i => match K[i]? with | some x => [f x] | none => [] := by
  rw [← h1, List.flatMap_map]
  rfl
 rw [h2];clear h1 h2
 have : ∀ (K : KV) (n : Nat), n ≤ K.length → ((List.range n).flatMap fun i => match K[i]? with | some x => [f x] | none => []) = (K.take n).map f := by
  intro K n
  induction n with
  | zero => intro _; simp
  | succ n ih =>
   intro hn
   rw [List.range_succ, List.flatMap_append, ih (by omega), List.take_add_one, List.map_append]
   congr 1
   rw [List.flatMap_cons, List.flatMap_nil, List.append_nil, List.getElem?_eq_getElem (show n < K.length by omega)]
   rfl
 rw [this K K.length (Nat.le_refl _), List.take_length]
theorem spanE_in {K : KV} {f : (Int × Int) × List (Int × Int) → Int × Int} (hf : ∀ x, x ∈ K → InSp (f x)) {en : AMapE} {p : Int × Int} (hp : p ∈ spanE K f en) : InSp p := by
 unfold spanE at hp
 cases q : K[en.born]? with
 | none => rw [q] at hp; cases hp
 | some x =>
  rw [q] at hp
  cases List.mem_singleton.1 hp
  exact hf x (List.mem_of_getElem? q)
def atK (d : Nat) (x : (Int × Int) × List (Int × Int)) : Int × Int := (x.2[d]?).getD (0, 0)
def leakK (x : (Int × Int) × List (Int × Int)) : Int × Int := (x.1.1, x.1.1)
theorem atK_in {K : KV} {n : Nat} {h : AH} {bm : Nat} (k : KnownAt K n h bm) (d : Nat) : ∀ x, x ∈ K → InSp (atK d x) := fun x hx => by
 unfold atK
 cases q : x.2[d]? with
 | none => exact ⟨by decide, by decide⟩
 | some p => exact (k.fit x hx).2 p (List.mem_of_getElem? q)
theorem at_ok {K : KV} {n : Nat} {h : AH} {bm : Nat} (k : KnownAt K n h bm) {d : Nat} (hd : d < n) (hn : n ≤ 9) : Runs Try.prog 40 [.map bm, .int .i64 d] h (fun en h' => en = .ret (.agg (spC (joinL (K.map (atK d))))) ∧ Ext h h') := by
 rw [← spanE_all]
 have hborn := esN_born (L := K.map entL)
 have hdist := esN_dist (K.map entL)
 have hKm := k.m
 have hblt := hKm.1
 rw [List.length_map] at hborn
 have e0 : Ext h h := Ext.refl _
 refine Runs.intro aFunc40 rfl rfl rfl rfl fun rest => ?_;apply gS;refine gR rfl ?_;refine GoR.alloc rfl rfl rfl zt77 rfl rfl fun h0 x0 f0 => ?_;have := e0.1
 have := hKm.1
 replace hKm := hKm.ext x0;replace e0 := e0.trans x0;have := f0.1;apply gE;apply gS;refine gR rfl ?_;refine GoR.call rfl rfl (aCF aFunc65 rfl) (join_nil) ?_ np;rintro v1 h1 ⟨q, x1⟩;cases q;refine ⟨_, rfl, ?_⟩;replace f0 := f0.ext x1;replace hKm := hKm.ext x1;replace e0 := e0.trans x1;refine GoR.alloc rfl rfl rfl zt23 rfl rfl fun h2 x2 f2 => ?_;have := e0.1;have := f0.1
 have := hKm.1
 replace f0 := f0.ext x2;replace hKm := hKm.ext x2;replace e0 := e0.trans x2;have := f2.1;refine GoR.store rfl rfl rfl rfl rfl rfl f2 rfl sz23 rfl rfl rfl fun h3 u3 => ?_;replace f2 := u3.has f2;replace f0 := f0.upd u3 (by omega);replace hKm := hKm.upd u3 (by omega);replace e0 := e0.upd u3 (by omega);apply gE;iterate 2 apply gS
 refine gR rfl ?_;refine gP ?_;refine GoR.rangeM rfl rfl rfl Try.underlying72 rfl (mapB_has hKm) rfl rfl fun h5 x5 f5 => ?_
 have hn4 := e0.1
 have hl0 := f0.1
 have hl2 := f2.1
 have hn0 : h.next < h1.next := by omega
 replace f0 := f0.ext x5;replace f2 := f2.ext x5;replace e0 := e0.trans x5
 have hl5 := f5.1
 clear hKm
 have hKm := k.m
 apply gE;refine Go.block noJ_ok ?_
 refine Go.loopKeep (fun _ : List AMapE × List AMapE => [(1, .int .i64 d), (4, .ptr h.next 0), (5, .ptr h1.next 0), (10, .ptr h3.next 0)])
  (fun n vr h' => vr.2.length = n ∧ (vr.1 ++ vr.2).Perm (esN (K.map entL)) ∧ Ext h h' ∧ Has h' h.next (.cells .plain [.int .i64 0, .int .i64 0] 77) ∧ Has h' h1.next (.cells .plain (spC (joinL (vr.1.flatMap (spanE K (atK d))))) 23) ∧ Has h' h3.next (.iter bm K.length (vr.1.map AMapE.born) K.length)) (n := (esN (K.map entL)).length) ([], esN (K.map entL)) ⟨rfl, rfl, rfl, rfl, trivial⟩ ⟨rfl, .refl _, e0, f0, f2, f5⟩ ?_
 clear e0 f0 f2 f5;rintro nn ⟨vs, rs⟩ hh ⟨hn', hperm, e0, f0, f2, f5⟩ again
 dsimp only at hn' hperm f2 f5
 apply gS;refine Go.beginR rfl (Go.nextM rfl rfl f5 (mapB_has (hKm.ext e0)) hborn hborn ent_kv (fun hall => Go.inRegion noJ_ok ?_) (fun en kv hen hnew hk h6 u6 => Go.inRegion noJ_ok ?_))
 ·have hrs := perm_over hperm hdist hall
  subst hrs;rw [List.append_nil] at hperm
  have hj : joinL (vs.flatMap (spanE K (atK d))) = joinL ((esN (K.map entL)).flatMap (spanE K (atK d))) := joinL_perm (hperm.flatMap_right _)
  rw [hj] at f2
  unfold spC at f2 ⊢
  clear hKm;refine gP ?_;apply gE;apply gS;refine gC (b := false) rfl ?_;refine gD ?_;apply gS;refine gR rfl ?_;refine gO rfl rfl (ld23 rfl f2 rfl) rfl ?_;refine gO rfl rfl (aOp_build zt77 hu77 pl77 rfl rfl) rfl ?_;refine GoR.store rfl rfl rfl rfl rfl rfl f0 rfl sz77 rfl rfl rfl fun h6 u6 => ?_;replace f0 := u6.has f0;replace e0 := e0.upd u6 (by omega);apply gE;exact gV (ret_end (aResult_of Try.func40 rfl (aResults_cell rfl f0 (inCells_agg ag77 sz77 rfl))) ⟨rfl, e0⟩)
 ·obtain ⟨ra, rb, rfl, hperm2⟩ := perm_pick hperm hen hnew
  obtain ⟨x, q1, q2, q3, q5⟩ := ent_at hen
  replace f5 := u6.has f5;replace f0 := f0.upd u6 (by omega);replace f2 := f2.upd u6 (by omega);replace e0 := e0.upd u6 (by omega)
  have hspE : spanE K (atK d) en = [atK d x] := by unfold spanE; rw [q1]
  have hMe := mapB_has (hKm.ext e0)
  have hent : ∀ {t : Tr AVal} {dst : Option Tmp} {tt : TypeId} {pos : String} {after : Array Edge} {guard : Option (Nat × Bool)} {x : Operand}, ev t x = some (.ptr h3.next 0) → aOp Try.prog t h6 ⟨dst, .entry x, tt, pos, after, guard⟩ = some (.val (.tuple [kv, en.val]) h6) := fun hx => aOp_entry hx f5 hMe hen hdist hk
  have hl0 := f0.1
  have hl2 := f2.1
  have hl5 := f5.1
  have hKb := (hKm.ext e0).1
  clear hKm
  obtain ⟨acc, hacc⟩ : ∃ acc, joinL (vs.flatMap (spanE K (atK d))) = acc := ⟨_, rfl⟩
  have hin1 : InSp acc := by
   rw [← hacc]
   exact joinL_in fun p hp => by
    obtain ⟨en', _, hp'⟩ := List.mem_flatMap.1 hp
    exact spanE_in (atK_in k d) hp'
  have hjn : joinL ((vs ++ [en]).flatMap (spanE K (atK d))) = joinL [acc, atK d x] := by
   rw [List.flatMap_append, List.flatMap_cons, List.flatMap_nil, List.append_nil, hspE, joinL_app, hacc, joinL_two hin1]
  obtain ⟨p, hp⟩ : ∃ p, x.2[d]? = some p := ⟨x.2[d]'(by rw [k.len x q5]; exact hd), by simp⟩
  have hatK : atK d x = p := by unfold atK; rw [hp]; rfl
  have hcl := crsC_len (c := x.2) (by rw [k.len x q5]; exact hn)
  have hsm := crsC_same x.2
  have hca := crsC_at hp
  rw [hacc] at f2;rw [hatK] at hjn;rw [q3] at hent
  obtain ⟨cc, hcc⟩ : ∃ cc, crsC x.2 = cc := ⟨_, rfl⟩
  rw [hcc] at hent hcl hsm hca
  unfold spC at hca
  unfold spC at f2
  have hcs := crsC_scal x.2
  rw [hcc] at hcs
  have hs1 : Nat.beq (AVal.agg cc).cells.length 18 = true := by show Nat.beq cc.length 18 = true; rw [hcl]; rfl
  have hs3 : ∀ l : List AVal, l.length = 18 → splice l 0 (AVal.agg cc).cells = some cc := fun l hl => splice_all (by rw [hl]; exact hcl)
  have hInd : Nat.blt d 9 = true := Nat.ble_eq_true_of_le (by omega)
  have hca2 : slice? cc (0 + d * 2 + 0) 2 = some [.int .i64 p.1, .int .i64 p.2] := by simpa using hca
  have hjo := fun h (b : Nat) el f => join_ok (L := [acc, p]) (h := h) (sl2 (b := b) (el := el) f) (by simp)
  rw [← hjn] at hjo
  obtain ⟨res, hres⟩ : ∃ res, joinL ((vs ++ [en]).flatMap (spanE K (atK d))) = res := ⟨_, rfl⟩
  rw [hres] at hjo
  unfold spC at hjo
  refine gP ?_;apply gE;apply gS;refine gC (b := true) rfl ?_;refine gD ?_;refine Go.block noJ_ok ?_;apply gS;refine gR rfl ?_;refine gO rfl rfl (hent rfl) rfl ?_;refine gP ?_;refine GoR.alloc rfl rfl rfl zt99 rfl rfl fun h7 x7 f7 => ?_;have := e0.1;have := f5.1;have := f0.1;have := f2.1;replace f5 := f5.ext x7;replace f0 := f0.ext x7;replace f2 := f2.ext x7;replace e0 := e0.trans x7;have := f7.1;refine GoR.store rfl rfl rfl rfl rfl rfl f7 rfl sz99 hs1 hcs (hs3 _ rfl) fun h8 u8 => ?_;replace f7 := u8.has f7;replace f5 := f5.upd u8 (by omega);replace f0 := f0.upd u8 (by omega);replace f2 := f2.upd u8 (by omega);replace e0 := e0.upd u8 (by omega);apply gE;refine Go.drawnE plan40_0 ?_;refine gQ rfl rfl (ld23 rfl f2 rfl) rfl ?_;refine gQ rfl rfl rfl rfl ?_;refine gQ rfl rfl (aOp_indexAddrArr (i := d) Try.underlying99 sz77 rfl rfl hInd) rfl ?_;refine gQ rfl rfl (fa77_0 rfl) rfl ?_;refine gQ rfl rfl (ld23 rfl f7 hca2) rfl ?_;refine GoE.buildSl rfl rfl (ps := [(0, .agg [.int .i64 acc.1, .int .i64 acc.2]), (1, .agg [.int .i64 p.1, .int .i64 p.2])]) (cs := [.int .i64 acc.1, .int .i64 acc.2, .int .i64 p.1, .int .i64 p.2]) Try.underlying24 rfl sz23 zt23 rfl rfl rfl (dD 31 4 (dD 31 3 (dD 31 2 (dD 31 1 (dD 31 0 rfl))))) rfl fun h9 x9 f9 => ?_;have := e0.1;have := f7.1;have := f5.1;have := f0.1;have := f2.1;replace f7 := f7.ext x9;replace f5 := f5.ext x9;replace f0 := f0.ext x9;replace f2 := f2.ext x9;replace e0 := e0.trans x9;have := f9.1;refine ⟨recheck_nil, ?_⟩;refine GoE.call rfl rfl (aCF aFunc65 rfl) (hjo _ _ _ (by assumption)) rfl ?_ np;rintro v10 h10 ⟨q, x10⟩;cases q;replace f5 := f5.ext x10;replace f0 := f0.ext x10;replace f2 := f2.ext x10;replace e0 := e0.trans x10;refine ⟨recheck_nil, _, rfl, ?_⟩;refine GoE.store rfl rfl rfl rfl rfl rfl rfl f2 rfl sz23 rfl rfl rfl fun h11 u11 => ?_;replace f5 := f5.upd u11 (by omega);replace f0 := f0.upd u11 (by omega);replace f2 := u11.has f2;replace e0 := e0.upd u11 (by omega);refine ⟨recheck_nil, ?_⟩;refine GoE.end rfl ?_;refine Go.inBlock noJ_ok ?_;exact again (ra ++ rb).length (vs ++ [en], ra ++ rb) _ _ (by rw [← hn']; simp) ⟨rfl, rfl, rfl, rfl, trivial⟩ ⟨rfl, hperm2, e0, f0, by dsimp only; rw [hres]; exact f2, by dsimp only; rw [List.map_append]; exact f5⟩
theorem leak_ok {K : KV} {n : Nat} {h : AH} {bm : Nat} (k : KnownAt K n h bm) : Runs Try.prog 37 [.map bm] h (fun en h' => en = .ret (.agg (spC (joinL (K.map leakK)))) ∧ Ext h h') := by
 rw [← spanE_all]
 have hborn := esN_born (L := K.map entL)
 have hdist := esN_dist (K.map entL)
 have hKm := k.m
 have hblt := hKm.1
 rw [List.length_map] at hborn
 have e0 : Ext h h := Ext.refl _
 refine Runs.intro aFunc37 rfl rfl rfl rfl fun rest => ?_;apply gS;refine gR rfl ?_;refine GoR.alloc rfl rfl rfl zt23 rfl rfl fun h0 x0 f0 => ?_;have := e0.1
 have := hKm.1
 replace hKm := hKm.ext x0;replace e0 := e0.trans x0;have := f0.1;apply gE;apply gS;refine gR rfl ?_;refine GoR.call rfl rfl (aCF aFunc65 rfl) (join_nil) ?_ np;rintro v1 h1 ⟨q, x1⟩;cases q;refine ⟨_, rfl, ?_⟩;replace f0 := f0.ext x1;replace hKm := hKm.ext x1;replace e0 := e0.trans x1;refine GoR.alloc rfl rfl rfl zt23 rfl rfl fun h2 x2 f2 => ?_;have := e0.1;have := f0.1
 have := hKm.1
 replace f0 := f0.ext x2;replace hKm := hKm.ext x2;replace e0 := e0.trans x2;have := f2.1;refine GoR.store rfl rfl rfl rfl rfl rfl f2 rfl sz23 rfl rfl rfl fun h3 u3 => ?_;replace f2 := u3.has f2;replace f0 := f0.upd u3 (by omega);replace hKm := hKm.upd u3 (by omega);replace e0 := e0.upd u3 (by omega);apply gE;iterate 2 apply gS
 refine gR rfl ?_;refine gP ?_;refine GoR.rangeM rfl rfl rfl Try.underlying72 rfl (mapB_has hKm) rfl rfl fun h5 x5 f5 => ?_
 have hn4 := e0.1
 have hl0 := f0.1
 have hl2 := f2.1
 have hn0 : h.next < h1.next := by omega
 replace f0 := f0.ext x5;replace f2 := f2.ext x5;replace e0 := e0.trans x5
 have hl5 := f5.1
 clear hKm
 have hKm := k.m
 apply gE;refine Go.block noJ_ok ?_
 refine Go.loopKeep (fun _ : List AMapE × List AMapE => [(2, .ptr h.next 0), (3, .ptr h1.next 0), (7, .ptr h3.next 0)])
  (fun n vr h' => vr.2.length = n ∧ (vr.1 ++ vr.2).Perm (esN (K.map entL)) ∧ Ext h h' ∧ Has h' h.next (.cells .plain [.int .i64 0, .int .i64 0] 23) ∧ Has h' h1.next (.cells .plain (spC (joinL (vr.1.flatMap (spanE K leakK)))) 23) ∧ Has h' h3.next (.iter bm K.length (vr.1.map AMapE.born) K.length)) (n := (esN (K.map entL)).length) ([], esN (K.map entL)) ⟨rfl, rfl, rfl, trivial⟩ ⟨rfl, .refl _, e0, f0, f2, f5⟩ ?_
 clear e0 f0 f2 f5;rintro nn ⟨vs, rs⟩ hh ⟨hn', hperm, e0, f0, f2, f5⟩ again
 dsimp only at hn' hperm f2 f5
 apply gS;refine Go.beginR rfl (Go.nextM rfl rfl f5 (mapB_has (hKm.ext e0)) hborn hborn ent_kv (fun hall => Go.inRegion noJ_ok ?_) (fun en kv hen hnew hk h6 u6 => Go.inRegion noJ_ok ?_))
 ·have hrs := perm_over hperm hdist hall
  subst hrs;rw [List.append_nil] at hperm
  have hj : joinL (vs.flatMap (spanE K leakK)) = joinL ((esN (K.map entL)).flatMap (spanE K leakK)) := joinL_perm (hperm.flatMap_right _)
  rw [hj] at f2
  unfold spC at f2 ⊢
  clear hKm;refine gP ?_;apply gE;apply gS;refine gC (b := false) rfl ?_;refine gD ?_;apply gS;refine gR rfl ?_;refine gO rfl rfl (ld23 rfl f2 rfl) rfl ?_;refine GoR.store rfl rfl rfl rfl rfl rfl f0 rfl sz23 rfl rfl rfl fun h6 u6 => ?_;replace f0 := u6.has f0;replace e0 := e0.upd u6 (by omega);apply gE;exact gV (ret_end (aResult_of Try.func37 rfl (aResults_cell rfl f0 (inCells_agg ag23 sz23 rfl))) ⟨rfl, e0⟩)
 ·obtain ⟨ra, rb, rfl, hperm2⟩ := perm_pick hperm hen hnew
  obtain ⟨x, q1, q2, q3, q5⟩ := ent_at hen
  replace f5 := u6.has f5;replace f0 := f0.upd u6 (by omega);replace f2 := f2.upd u6 (by omega);replace e0 := e0.upd u6 (by omega)
  have hspE : spanE K leakK en = [leakK x] := by unfold spanE; rw [q1]
  have hMe := mapB_has (hKm.ext e0)
  have hent : ∀ {t : Tr AVal} {dst : Option Tmp} {tt : TypeId} {pos : String} {after : Array Edge} {guard : Option (Nat × Bool)} {x : Operand}, ev t x = some (.ptr h3.next 0) → aOp Try.prog t h6 ⟨dst, .entry x, tt, pos, after, guard⟩ = some (.val (.tuple [kv, en.val]) h6) := fun hx => aOp_entry hx f5 hMe hen hdist hk
  have hl0 := f0.1
  have hl2 := f2.1
  have hl5 := f5.1
  have hKb := (hKm.ext e0).1
  clear hKm
  obtain ⟨acc, hacc⟩ : ∃ acc, joinL (vs.flatMap (spanE K leakK)) = acc := ⟨_, rfl⟩
  have hin1 : InSp acc := by
   rw [← hacc]
   exact joinL_in fun p hp => by
    obtain ⟨en', _, hp'⟩ := List.mem_flatMap.1 hp
    exact spanE_in (fun x hx => (k.fit x hx).1) hp'
  have hjn : joinL ((vs ++ [en]).flatMap (spanE K leakK)) = joinL [acc, leakK x] := by
   rw [List.flatMap_append, List.flatMap_cons, List.flatMap_nil, List.append_nil, hspE, joinL_app, hacc, joinL_two hin1]
  rw [q2] at hk
  have hk2 : kv = .agg [.int .i64 x.1.1, .int .i64 x.1.2] := by
   have := absV_vints [x.1.1, x.1.2]
   rw [hk] at this;exact Option.some.inj this
  subst hk2
  have hlk : leakK x = (x.1.1, x.1.1) := rfl
  rw [hacc] at f2;rw [hlk] at hjn
  have hjo := fun h (b : Nat) el f => join_ok (L := [acc, (x.1.1, x.1.1)]) (h := h) (sl2 (b := b) (el := el) f) (by simp)
  rw [← hjn] at hjo
  obtain ⟨res, hres⟩ : ∃ res, joinL ((vs ++ [en]).flatMap (spanE K leakK)) = res := ⟨_, rfl⟩
  rw [hres] at hjo
  unfold spC at hjo
  unfold spC at f2
  have hon := fun h => one_ok (n := x.1.1) (h := h)
  unfold spC at hon
  refine gP ?_;apply gE;apply gS;refine gC (b := true) rfl ?_;refine gD ?_;refine Go.block noJ_ok ?_;apply gS;refine gR rfl ?_;refine gO rfl rfl (hent rfl) rfl ?_;refine gP ?_;refine GoR.alloc rfl rfl rfl zt102 rfl rfl fun h7 x7 f7 => ?_;have := e0.1;have := f5.1;have := f0.1;have := f2.1;replace f5 := f5.ext x7;replace f0 := f0.ext x7;replace f2 := f2.ext x7;replace e0 := e0.trans x7;have := f7.1;refine GoR.store rfl rfl rfl rfl rfl rfl f7 rfl sz102 rfl rfl rfl fun h8 u8 => ?_;replace f7 := u8.has f7;replace f5 := f5.upd u8 (by omega);replace f0 := f0.upd u8 (by omega);replace f2 := f2.upd u8 (by omega);replace e0 := e0.upd u8 (by omega);apply gE;refine Go.drawnE plan37_0 ?_;refine gQ rfl rfl (ld23 rfl f2 rfl) rfl ?_;refine gQ rfl rfl (fa102_0 rfl) rfl ?_;refine gQ rfl rfl (ld3 rfl f7 rfl) rfl ?_;refine GoE.call rfl rfl (aCF aFunc66 rfl) (hon _) (dD 6 2 (dD 6 1 (dK 6 0 rfl))) ?_ np;rintro v9 h9 ⟨q, x9⟩;cases q;replace f7 := f7.ext x9;replace f5 := f5.ext x9;replace f0 := f0.ext x9;replace f2 := f2.ext x9;replace e0 := e0.trans x9;refine ⟨(rck (h2 := h9) rfl (ld23 rfl f2 rfl) recheck_nil), _, rfl, ?_⟩;refine GoE.buildSl rfl rfl (ps := [(0, .agg [.int .i64 acc.1, .int .i64 acc.2]), (1, .agg [.int .i64 x.1.1, .int .i64 x.1.1])]) (cs := [.int .i64 acc.1, .int .i64 acc.2, .int .i64 x.1.1, .int .i64 x.1.1]) Try.underlying24 rfl sz23 zt23 rfl rfl rfl (dD 15 0 rfl) rfl fun h10 x10 f10 => ?_;have := e0.1;have := f7.1;have := f5.1;have := f0.1;have := f2.1;replace f7 := f7.ext x10;replace f5 := f5.ext x10;replace f0 := f0.ext x10;replace f2 := f2.ext x10;replace e0 := e0.trans x10;have := f10.1;refine ⟨recheck_nil, ?_⟩;refine GoE.call rfl rfl (aCF aFunc65 rfl) (hjo _ _ _ (by assumption)) rfl ?_ np;rintro v11 h11 ⟨q, x11⟩;cases q;replace f5 := f5.ext x11;replace f0 := f0.ext x11;replace f2 := f2.ext x11;replace e0 := e0.trans x11;refine ⟨recheck_nil, _, rfl, ?_⟩;refine GoE.store rfl rfl rfl rfl rfl rfl rfl f2 rfl sz23 rfl rfl rfl fun h12 u12 => ?_;replace f5 := f5.upd u12 (by omega);replace f0 := f0.upd u12 (by omega);replace f2 := u12.has f2;replace e0 := e0.upd u12 (by omega);refine ⟨recheck_nil, ?_⟩;refine GoE.end rfl ?_;refine Go.inBlock noJ_ok ?_;exact again (ra ++ rb).length (vs ++ [en], ra ++ rb) _ _ (by rw [← hn']; simp) ⟨rfl, rfl, rfl, trivial⟩ ⟨rfl, hperm2, e0, f0, by dsimp only; rw [hres]; exact f2, by dsimp only; rw [List.map_append]; exact f5⟩
end Go.Proofs.Yteibheeleeengaa

set_option linter.unusedSimpArgs false
namespace Go.AbsE
open Go
section
variable {P : Program} {t : Tr AVal} {h : AH} {dst : Option Tmp} {ty tt : TypeId} {pos : String} {after : Array Edge} {guard : Option (Nat × Bool)} {x y : Operand}
variable {c : FC} {k : List AItem} {Q : AM → Prop} {J : Jump} {all : Array Oper} {l lrest : List Oper} {i d : Nat}
end
end Go.AbsE

namespace Go.Proofs.Yteibheeleeengaa
open Go Go.AbsE
set_option linter.unusedSimpArgs false
set_option maxRecDepth 100000
set_option maxHeartbeats 0
set_option linter.unusedVariables false
theorem lk_len : ∀ L : List LV, (L.flatMap LV.cells).length = L.length * 3
 | [] => rfl
 | x :: L => by rw [List.flatMap_cons, List.length_append, lk_len L, List.length_cons, Nat.add_mul]; show 3 + _ = _; omega
theorem lk_take (L : List LV) (Z : List AVal) {i : Nat} (hi : i ≤ L.length) : (L.flatMap LV.cells ++ Z).take (i * 3) = (L.take i).flatMap LV.cells := by
 have h : L.flatMap LV.cells = (L.take i).flatMap LV.cells ++ (L.drop i).flatMap LV.cells := by rw [← List.flatMap_append, List.take_append_drop]
 have hl : ((L.take i).flatMap LV.cells).length = i * 3 := by rw [lk_len, List.length_take, Nat.min_eq_left hi]
 rw [h, List.append_assoc, ← hl, List.take_left']
 rfl
theorem lk_drop (L : List LV) (Z : List AVal) {i : Nat} (hi : i ≤ L.length) : (L.flatMap LV.cells ++ Z).drop (i * 3) = (L.drop i).flatMap LV.cells ++ Z := by
 have h : L.flatMap LV.cells = (L.take i).flatMap LV.cells ++ (L.drop i).flatMap LV.cells := by rw [← List.flatMap_append, List.take_append_drop]
 have hl : ((L.take i).flatMap LV.cells).length = i * 3 := by rw [lk_len, List.length_take, Nat.min_eq_left hi]
 rw [h, List.append_assoc, ← hl, List.drop_left']
 rfl
theorem lk_scal : ∀ L : List LV, scalars (L.flatMap LV.cells) = true
 | [] => rfl
 | x :: L => by
  have := lk_scal L
  show scalars ([AVal.int .i64 x.day, .int .i64 x.lo, .int .i64 x.hi] ++ L.flatMap LV.cells) = true
  show cond true (cond true (cond true (scalars (L.flatMap LV.cells)) false) false) false = true
  rw [this]
  rfl
theorem lk_src {h : AH} {b n off len cap : Nat} {g : Kd} {el : TypeId} (L : List LV) (Z : List AVal) (f : Has h b (.cells g (L.flatMap LV.cells ++ Z) el)) {i : Nat} (hi : i + n ≤ L.length) (ho : off = i * 3) : srcCells h 3 n (.slice b off len cap) = some (((L.drop i).take n).flatMap LV.cells) := by
 subst ho
 have h2 := lk_drop L Z (i := i) (by omega)
 have h3 := lk_take (L.drop i) Z (i := n) (by rw [List.length_drop]; omega)
 show AbsE.loadCells h b (i * 3) (n * 3) = _
 unfold AbsE.loadCells
 rw [f.2]
 show slice? (L.flatMap LV.cells ++ Z) (i * 3) (n * 3) = _
 unfold slice?
 dsimp only
 rw [h2, h3, lk_len, List.length_take, List.length_drop, Nat.min_eq_left (by omega)]
 simp
theorem lk_move (L : List LV) (Z : List AVal) {i : Nat} (hi : i < L.length) : ∃ Z', splice (L.flatMap LV.cells ++ Z) (i * 3) ((L.drop (i + 1)).flatMap LV.cells) = some ((L.eraseIdx i).flatMap LV.cells ++ Z') ∧ Z'.length = Z.length + 3 := by
 have hd : ((L.drop (i + 1)).flatMap LV.cells).length = (L.length - (i + 1)) * 3 := by rw [lk_len, List.length_drop]
 have hsum : i * 3 + (L.length - (i + 1)) * 3 = (L.length - 1) * 3 := by omega
 refine ⟨(L.flatMap LV.cells ++ Z).drop (i * 3 + ((L.drop (i + 1)).flatMap LV.cells).length), ?_, ?_⟩
 ·rw [splice_eq (by rw [hd, List.length_append, lk_len]; omega), lk_take L Z (by omega), ← List.flatMap_append, ← List.eraseIdx_eq_take_drop_succ]
 ·rw [List.length_drop, hd, List.length_append, lk_len]
  omega
theorem lk_put (L : List LV) (Z : List AVal) {m : Nat} (hL : L.length = m) {new : List AVal} (hn : new.length ≤ Z.length) : splice (L.flatMap LV.cells ++ Z) (m * 3) new = some (L.flatMap LV.cells ++ (new ++ Z.drop new.length)) := by
 subst hL;rw [splice_eq (by rw [List.length_append, lk_len]; omega), lk_take L Z (Nat.le_refl _), List.take_length, List.append_assoc]
 congr 3
 have := List.drop_append (l₁ := L.flatMap LV.cells) (l₂ := Z) (i := L.length * 3 + new.length)
 rw [this, lk_len, List.drop_eq_nil_of_le (by rw [lk_len]; omega), List.nil_append]
 congr 1
 omega
theorem delete94_ok {b n N i : Nat} (L : List LV) (Z : List AVal) (hL : L.length = n) (hi : i < n) (hN : n ≤ N) (hN5 : N ≤ 100) (hZ : Z.length = (N - n) * 3) (h : AH) (f : Has h b (.cells .plain (L.flatMap LV.cells ++ Z) 53)) :
  Runs Try.prog 94 [.slice b 0 n N, .int .i64 (i : Nat), .int .i64 ((i : Nat) + 1)] h (fun en h' => en = .ret (.slice b 0 (n - 1) N) ∧ ExtF (fun c => c = b) h h' ∧ ∃ Z', Z'.length = (N - (n - 1)) * 3 ∧ Has h' b (.cells .plain ((L.eraseIdx i).flatMap LV.cells ++ Z') 53)) := by
 have y0 : ExtF (fun c => c = b) h h := ExtF.of (Ext.refl _)
 have hfb := f.1
 obtain ⟨Z1, m1, m2⟩ := lk_move L Z (i := i) (by omega)
 by_cases hlast : i + 1 ≠ N
 ·have e0 : Ext h h := Ext.refl _
  refine Runs.intro aFunc94 rfl rfl rfl rfl fun rest => ?_;apply gS;refine gR rfl ?_;refine gP ?_;apply gE;apply gS;refine gR rfl ?_;iterate 4 refine gP ?_
  refine gO rfl rfl (aOp_lenSlice Try.underlying26 rfl (n := n) rfl) rfl ?_;refine gO rfl rfl (aOp_slice3 (l := i) (hh := i + 1) (m := n) Try.underlying26 sz53 rfl rfl rfl rfl (by omega) (by omega) (by omega) (by omega)) rfl ?_;apply gE;iterate 2 apply gS
  refine gR rfl ?_;iterate 2 refine gP ?_
  refine gO rfl rfl (kEF rfl rfl) rfl ?_;apply gE;refine gC (b := false) rfl ?_;refine gD ?_;apply gS;refine gR rfl ?_;refine gP ?_;refine gO rfl rfl (aOp_lenSlice Try.underlying26 rfl (n := n) rfl) rfl ?_;refine gP ?_;apply gE;apply gS;refine Go.drawnE plan94_0 ?_;iterate 2 refine gQ rfl rfl rfl rfl ?_
  refine gQ rfl rfl (aOp_slice Try.underlying26 sz53 rfl rfl rfl (cut_hi (i := i) (by omega)) hN (by omega)) rfl ?_;iterate 2 refine gQ rfl rfl rfl rfl ?_
  refine gQ rfl rfl (aOp_slice Try.underlying26 sz53 rfl rfl rfl (cut_lo (i := i + 1) (by omega)) hN hlast) rfl ?_;refine GoE.appendIn rfl rfl Try.underlying26 Try.underlying26 sz53 by53 zt53 rfl rfl rfl rfl (n := n - (i + 1)) (m := n - 1) (new := (L.drop (i + 1)).flatMap LV.cells) rfl (by rw [lk_src L Z f (i := i + 1) (n := n - (i + 1)) (by omega) (by omega), List.take_of_length_le (by rw [List.length_drop]; omega)]) (by omega) (by omega) (by omega) f rfl (lk_scal _) (by rw [Nat.zero_add, Nat.sub_zero]; exact m1) (dD 63 5 (dD 63 4 (dD 63 3 (dD 63 2 (dD 63 1 (dD 63 0 rfl)))))) rfl rfl fun h1 u1 => ?_;refine ⟨recheck_nil, ?_⟩;replace f := u1.has f;replace y0 := y0.upd u1 (.inl rfl);refine gQ rfl rfl rfl rfl ?_;refine GoE.end rfl ?_;apply gS;refine gR rfl ?_;iterate 2 refine gP ?_
  refine gO rfl rfl (aOp_lenSlice Try.underlying26 rfl (n := n - 1) rfl) rfl ?_;refine gP ?_;refine gO rfl rfl (aOp_slice Try.underlying26 sz53 rfl rfl rfl (cut_both (l := n - 1) (hh := n) (by omega) (by omega)) (by omega) (by omega)) rfl ?_;refine GoR.clear rfl rfl Try.underlying26 zt53 rfl (by omega) f rfl (by rw [show n - (n - 1) = 1 by omega]; rfl) (by rw [Nat.zero_add, show n - (n - 1) = 1 by omega]; exact lk_put _ _ (by rw [List.length_eraseIdx_of_lt (by omega)]; omega) (new := repl (AVal.agg [.int .i64 0, .int .i64 0, .int .i64 0]).cells 1) (by rw [m2]; show 3 ≤ _; omega)) fun h2 u2 => ?_;replace f := u2.has f;replace y0 := y0.upd u2 (.inl rfl);apply gE;apply gS;refine gR rfl ?_;iterate 2 refine gP ?_
  apply gE;exact gV (ret_end (aResult_of Try.func94 rfl rfl) ⟨rfl, y0, _, (by rw [List.length_append, List.length_drop, m2, hZ]; show 3 + (_ - 3) = _; omega), f⟩)
 ·have hlast : i + 1 = N := by omega
  subst hlast
  have e0 : Ext h h := Ext.refl _
  refine Runs.intro aFunc94 rfl rfl rfl rfl fun rest => ?_;apply gS;refine gR rfl ?_;refine gP ?_;apply gE;apply gS;refine gR rfl ?_;iterate 4 refine gP ?_
  refine gO rfl rfl (aOp_lenSlice Try.underlying26 rfl (n := n) rfl) rfl ?_;refine gO rfl rfl (aOp_slice3 (l := i) (hh := i + 1) (m := n) Try.underlying26 sz53 rfl rfl rfl rfl (by omega) (by omega) (by omega) (by omega)) rfl ?_;apply gE;iterate 2 apply gS
  refine gR rfl ?_;iterate 2 refine gP ?_
  refine gO rfl rfl (kEF rfl rfl) rfl ?_;apply gE;refine gC (b := false) rfl ?_;refine gD ?_;apply gS;refine gR rfl ?_;refine gP ?_;refine gO rfl rfl (aOp_lenSlice Try.underlying26 rfl (n := n) rfl) rfl ?_;refine gP ?_;apply gE;apply gS;refine Go.drawnE plan94_0 ?_;iterate 2 refine gQ rfl rfl rfl rfl ?_
  refine gQ rfl rfl (aOp_slice Try.underlying26 sz53 rfl rfl rfl (cut_hi (i := i) (by omega)) hN (by omega)) rfl ?_;iterate 2 refine gQ rfl rfl rfl rfl ?_
  refine gQ rfl rfl (aOp_sliceAll Try.underlying26 sz53 rfl rfl rfl (cut_lo (i := i + 1) (by omega)) hN) rfl ?_;refine GoE.appendIn rfl rfl Try.underlying26 Try.underlying26 sz53 by53 zt53 rfl rfl rfl rfl (n := n - (i + 1)) (m := n - 1) (new := (L.drop (i + 1)).flatMap LV.cells) rfl (by rw [lk_src L Z f (i := 0) (n := n - (i + 1)) (by omega) (by omega), show n - (i + 1) = 0 by omega, List.take_zero, List.drop_eq_nil_of_le (by omega)]) (by omega) (by omega) (by omega) f rfl (lk_scal _) (by rw [Nat.zero_add, Nat.sub_zero]; exact m1) (dD 63 5 (dD 63 4 (dD 63 3 (dD 63 2 (dD 63 1 (dD 63 0 rfl)))))) rfl rfl fun h1 u1 => ?_;refine ⟨recheck_nil, ?_⟩;replace f := u1.has f;replace y0 := y0.upd u1 (.inl rfl);refine gQ rfl rfl rfl rfl ?_;refine GoE.end rfl ?_;apply gS;refine gR rfl ?_;iterate 2 refine gP ?_
  refine gO rfl rfl (aOp_lenSlice Try.underlying26 rfl (n := n - 1) rfl) rfl ?_;refine gP ?_;refine gO rfl rfl (aOp_slice Try.underlying26 sz53 rfl rfl rfl (cut_both (l := n - 1) (hh := n) (by omega) (by omega)) (by omega) (by omega)) rfl ?_;refine GoR.clear rfl rfl Try.underlying26 zt53 rfl (by omega) f rfl (by rw [show n - (n - 1) = 1 by omega]; rfl) (by rw [Nat.zero_add, show n - (n - 1) = 1 by omega]; exact lk_put _ _ (by rw [List.length_eraseIdx_of_lt (by omega)]; omega) (new := repl (AVal.agg [.int .i64 0, .int .i64 0, .int .i64 0]).cells 1) (by rw [m2]; show 3 ≤ _; omega)) fun h2 u2 => ?_;replace f := u2.has f;replace y0 := y0.upd u2 (.inl rfl);apply gE;apply gS;refine gR rfl ?_;iterate 2 refine gP ?_
  apply gE;exact gV (ret_end (aResult_of Try.func94 rfl rfl) ⟨rfl, y0, _, (by rw [List.length_append, List.length_drop, m2, hZ]; show 3 + (_ - 3) = _; omega), f⟩)
theorem slice_flatten_app {sz : Nat} {L : List (List AVal)} {Z : List AVal} (hl : ∀ l, l ∈ L → l.length = sz) (i : Nat) (l : List AVal) (h : L[i]? = some l) : slice? (L.flatten ++ Z) (i * sz) sz = some l := by
 have h1 := slice_flatten hl i l h
 have h2 := slice?_val h1
 have h3 := slice?_len h1
 have hlt := (List.getElem?_eq_some_iff.1 h).1
 have hf : (i + 1) * sz ≤ L.flatten.length := by rw [flatten_len hl]; exact Nat.mul_le_mul_right _ hlt
 rw [Nat.add_mul, Nat.one_mul] at hf
 have : l = ((L.flatten ++ Z).drop (i * sz)).take sz := by
  rw [List.drop_append_of_le_length (by omega), List.take_append_of_le_length (by rw [List.length_drop]; omega)];exact h2
 unfold slice?
 dsimp only
 rw [← this, h3]
 simp
theorem bit_at (p i : Nat) : ((p : Int).fdiv (2 ^ i)) % 2 = if p.testBit i then 1 else 0 := by
 have h1 : (p : Int).fdiv (2 ^ i) = ((p / 2 ^ i : Nat) : Int) := by
  rw [Int.fdiv_eq_ediv_of_nonneg _ (Int.pow_nonneg (by decide))]
  simp
 rw [h1];rw [Nat.testBit_eq_decide_div_mod_eq]
 by_cases q : p / 2 ^ i % 2 = 1
 ·rw [decide_eq_true q, if_pos rfl]; omega
 ·rw [decide_eq_false q, if_neg (by decide)]; omega
theorem only_mem {s : Nat} : ∀ {k : Nat} {L : List LV} {x : LV}, x ∈ onlyV s k L → x ∈ L
 | _, [], _, h => h
 | k, y :: L, x, h => by
  unfold onlyV at h
  split at h
  ·rcases List.mem_cons.1 h with rfl | h
   ·exact List.mem_cons_self
   ·exact List.mem_cons_of_mem _ (only_mem h)
  ·exact List.mem_cons_of_mem _ (only_mem h)
theorem only_len {s : Nat} : ∀ {k : Nat} {L : List LV}, (onlyV s k L).length ≤ L.length
 | _, [] => Nat.le_refl _
 | k, y :: L => by
  have := only_len (s := s) (k := k + 1) (L := L)
  unfold onlyV
  split
  ·simp; omega
  ·simp; omega
def woAt (s : Nat) (L : List LV) (r : Nat) : List LV := L.take r ++ onlyV s r (L.drop r)
theorem woAt_len (s : Nat) (L : List LV) {r : Nat} (hr : r ≤ L.length) : r ≤ (woAt s L r).length ∧ (woAt s L r).length ≤ L.length := by
 have := only_len (s := s) (k := r) (L := L.drop r)
 rw [List.length_drop] at this
 unfold woAt
 rw [List.length_append, List.length_take, Nat.min_eq_left hr]
 omega
theorem woAt_succ (s : Nat) (L : List LV) {i : Nat} (hi : i < L.length) : woAt s L i = if s.testBit i = true then woAt s L (i + 1) else (woAt s L (i + 1)).eraseIdx i := by
 have hd : L.drop i = L[i] :: L.drop (i + 1) := List.drop_eq_getElem_cons hi
 have ht : L.take (i + 1) = L.take i ++ [L[i]] := by rw [List.take_add_one]; simp [hi]
 have hl : (L.take i).length = i := by rw [List.length_take]; omega
 unfold woAt
 rw [hd, ht]
 cases h : s.testBit i with
 | false =>
  rw [if_neg (by decide)]
  conv => lhs; unfold onlyV
  rw [h, if_neg (by decide), List.append_assoc, List.eraseIdx_append_of_length_le (by omega), hl, Nat.sub_self]
  rfl
 | true =>
  rw [if_pos rfl]
  conv => lhs; unfold onlyV
  rw [h, if_pos rfl, List.append_assoc]
  rfl
theorem only_ok {C : CutV} (hn5 : C.ls.length ≤ 5) (r b l : AVal) (out : Nat) (h : AH) (A : CutAt h C r b l) :
  Runs Try.prog 91 [.agg (C.cells r b l), .int .i64 (out : Nat)] h (fun en h' => ∃ s, en = .ret s ∧ Ext h h' ∧ FreshS h.next h' 3 s ((onlyV out 0 C.ls).map LV.cells)) := by
 have hl3 := A.ls.len
 rw [List.length_map] at hl3
 obtain ⟨N, hN⟩ : ∃ N, C.ls.length = N := ⟨_, rfl⟩
 rw [hN] at hl3 hn5
 unfold CutV.cells
 have e0 : Ext h h := Ext.refl _
 refine Runs.intro aFunc91 rfl rfl rfl rfl fun rest => ?_;apply gS;refine gR rfl ?_;refine GoR.box rfl rfl rfl rfl rfl rfl fun h0 x0 f0 => ?_;have := e0.1;replace e0 := e0.trans x0;have := f0.1;refine gP ?_;apply gE;apply gS;refine gR rfl ?_;refine gO rfl rfl (fa68_5 rfl) rfl ?_;refine gO rfl rfl (ld26 rfl f0 rfl) rfl ?_;refine gO rfl rfl (aOp_lenSlice Try.underlying26 rfl hl3) rfl ?_;refine GoR.makeSl rfl rfl rfl Try.underlying26 rfl rfl sz53 by53 zt53 rfl (Nat.ble_eq_true_of_le (by omega)) rfl rfl fun h1 x1 f1 => ?_;have := e0.1;have := f0.1;replace f0 := f0.ext x1;replace e0 := e0.trans x1;have := f1.1;refine gP ?_;apply gE;apply gS;refine gR rfl ?_;refine gP ?_;refine gO rfl rfl (fa68_5 rfl) rfl ?_;refine gO rfl rfl (ld26 rfl f0 rfl) rfl ?_
 have hsrc := (A.ls.ext e0).src
 rw [List.length_map, hN, ← List.flatMap_def] at hsrc;refine GoR.copyIn rfl rfl Try.underlying26 sz53 rfl rfl hl3 (Nat.min_self N) hsrc f1 rfl (lk_scal _) (splice_whole (by rw [lk_len, hN]; show (repl _ N).length = _; rw [repl_eq]; simp; rfl)) rfl fun h9 u9 => ?_
 have hb8 := f1.1
 replace f1 := u9.has f1;replace f0 := f0.upd u9 (by omega);replace e0 := e0.upd u9 (by omega);apply gE;iterate 2 apply gS
 refine gR rfl ?_;refine gP ?_;refine gO rfl rfl (aOp_lenSlice Try.underlying26 rfl (n := N) rfl) rfl ?_;refine gO rfl rfl (aS rfl rfl) rfl ?_;refine gP ?_;apply gE;refine Go.block noJ_ok ?_
 have hw0 : woAt out C.ls N = C.ls := by
  unfold woAt
  rw [← hN, List.take_length, List.drop_length]
  simp [onlyV]
 have hbn : h.next < h0.next := by assumption
 refine Go.loopKeep (fun r : Nat => [(1, .int .i64 (out : Nat)), (5, .slice h0.next 0 (woAt out C.ls r).length N), (6, .int .i64 ((r : Nat) - 1))])
  (fun m r h' => m = r ∧ r ≤ N ∧ Ext h h' ∧ ∃ Z, Z.length = (N - (woAt out C.ls r).length) * 3 ∧ Has h' h0.next (.cells .plain ((woAt out C.ls r).flatMap LV.cells ++ Z) 53))
  (n := N) N ⟨rfl, by rw [hw0, hN]; rfl, rfl, trivial⟩ ⟨rfl, Nat.le_refl _, e0, [], by rw [hw0, hN]; simp, by rw [hw0, List.append_nil]; exact f1⟩ ?_
 clear e0 f1 f0;rintro m r hh ⟨rfl, hr, e0, Z, hZ, f⟩ again
 by_cases hr0 : m = 0
 ·subst hr0
  have hws : woAt out C.ls 0 = onlyV out 0 C.ls := by unfold woAt; simp
  have hres : FreshS h.next hh 3 (.slice h0.next 0 (woAt out C.ls 0).length N) ((onlyV out 0 C.ls).map LV.cells) := fun h' hl he => by
   have f' : Has h' h0.next _ := ⟨Nat.lt_of_lt_of_le f.1 hl, by rw [he _ (by omega) f.1]; exact f.2⟩
   rw [hws] at f' ⊢;refine SliceOf.mk' (by rw [List.length_map]; rfl) (by rw [List.length_map]; rfl) f' rfl (fun i l hl => ?_);rw [Nat.zero_add, List.flatMap_def];exact slice_flatten_app (fun l hl => by obtain ⟨_, _, rfl⟩ := List.mem_map.1 hl; rfl) i l hl
  iterate 2 apply gS
  refine gR rfl ?_;refine gP ?_;refine gO rfl rfl (kNF rfl rfl) rfl ?_;apply gE;refine gC (b := false) rfl ?_;refine gD ?_;apply gS;refine gR rfl ?_;iterate 2 refine gP ?_
  apply gE;exact gV (ret_end (aResult_of Try.func91 rfl rfl) ⟨_, rfl, e0, hres⟩)
 ·obtain ⟨i, rfl⟩ : ∃ i, m = i + 1 := ⟨m - 1, by omega⟩
  have hv : ((i + 1 : Nat) : Int) - 1 = (i : Nat) := by omega
  rw [hv]
  have hwl := woAt_len out C.ls (r := i + 1) (by omega)
  have hsucc := woAt_succ out C.ls (i := i) (by omega)
  rw [hN] at hwl
  have hfn := f.1
  cases hb : out.testBit i with
  | true =>
   rw [hb, if_pos rfl] at hsucc
   have hne := bit_at out i
   rw [hb, if_pos rfl] at hne;iterate 2 apply gS
   refine gR rfl ?_;refine gP ?_;refine gO rfl rfl (kNT rfl rfl) rfl ?_;apply gE;refine gC (b := true) rfl ?_;refine gD ?_;apply gS;refine Go.block noJ_ok ?_;apply gS;refine gR rfl ?_;iterate 2 refine gP ?_
   refine gO rfl rfl (aOp_shr rfl rfl (by omega) rfl) rfl ?_;refine gO rfl rfl (aOp_and1 rfl rfl hne) rfl ?_;refine gO rfl rfl (kEF rfl rfl) rfl ?_;apply gE;refine gC (b := false) rfl ?_;refine gD ?_;refine Go.inBlock noJ_ok ?_;refine gR rfl ?_;refine gP ?_;refine gO rfl rfl (aS rfl rfl) rfl ?_;refine gP ?_;apply gE;exact again i i _ _ (by omega) ⟨rfl, by rw [hsucc]; rfl, rfl, trivial⟩ ⟨rfl, by omega, e0, Z, by rw [hsucc]; exact hZ, by rw [hsucc]; exact f⟩
  | false =>
   rw [hb, if_neg (by decide)] at hsucc
   have hne := bit_at out i
   rw [hb, if_neg (by decide)] at hne
   have hdel := delete94_ok (b := h0.next) (N := N) (i := i) (woAt out C.ls (i + 1)) Z rfl (by omega) (by omega) (by omega) hZ hh f
   rw [← hsucc] at hdel
   have hwi : (woAt out C.ls i).length = (woAt out C.ls (i + 1)).length - 1 := by rw [hsucc, List.length_eraseIdx_of_lt (by omega)]
   rw [← hwi] at hdel
   iterate 2 apply gS
   refine gR rfl ?_;refine gP ?_;refine gO rfl rfl (kNT rfl rfl) rfl ?_;apply gE;refine gC (b := true) rfl ?_;refine gD ?_;apply gS;refine Go.block noJ_ok ?_;apply gS;refine gR rfl ?_;iterate 2 refine gP ?_
   refine gO rfl rfl (aOp_shr rfl rfl (by omega) rfl) rfl ?_;refine gO rfl rfl (aOp_and1 rfl rfl hne) rfl ?_;refine gO rfl rfl (kET rfl rfl) rfl ?_;apply gE;refine gC (b := true) rfl ?_;refine gR rfl ?_;iterate 3 refine gP ?_
   refine gO rfl rfl (aA rfl rfl) rfl ?_;refine GoR.call rfl rfl (aCF aFunc94 rfl) hdel ?_ np;rintro v19 h19 ⟨q, y9, Z', hZ', f9⟩;cases q;refine ⟨_, rfl, ?_⟩
   have e9 := y9.low e0 (fun b q => by have : b = h0.next := q; omega)
   have hx := y9.1
   clear e0 f;refine gP ?_;apply gE;refine Go.inBlock noJ_ok ?_;refine gR rfl ?_;refine gP ?_;refine gO rfl rfl (aS rfl rfl) rfl ?_;refine gP ?_;apply gE;exact again i i _ _ (by omega) ⟨rfl, rfl, rfl, trivial⟩ ⟨rfl, by omega, e9, Z', hZ', f9⟩
end Go.Proofs.Yteibheeleeengaa

namespace Go.Proofs.Yteibheeleeengaa
open Go Go.AbsE
set_option linter.unusedSimpArgs false
set_option maxRecDepth 100000
set_option maxHeartbeats 0
set_option linter.unusedVariables false
def evC : EvV → AVal
 | .look s => .iface 138 (.agg (spC s))
 | .flow r k m => .iface 140 (.agg [.int .i64 r.1, .int .i64 r.2, .int .i64 k, .int .i64 m])
structure DaysAt (h : AH) (lo bD : Nat) (ss : List AVal) (E : List (List EvV)) : Prop where
 len : ss.length = E.length
 m : Has h bD (.cells .plain ss 126)
 lt : bD < lo
 gr : ∀ (i : Nat) s es, ss[i]? = some s → E[i]? = some es → Grow h 128 1 lo s es.length (es.map evC)
 ap : ∀ (i j b n m : Nat), ss[i]? = some (.gsl b 0 0 n) → ss[j]? = some (.gsl b 0 0 m) → i = j
theorem DaysAt.ext {h h' : AH} {lo bD : Nat} {ss : List AVal} {E : List (List EvV)} (k : DaysAt h lo bD ss E) (e : Ext h h') : DaysAt h' lo bD ss E := ⟨k.len, k.m.ext e, k.lt, fun i s es p q => (k.gr i s es p q).ext e, k.ap⟩
theorem DaysAt.put {h h1 h2 : AH} {lo bD : Nat} {ss : List AVal} {E : List (List EvV)} (k : DaysAt h lo bD ss E) {i : Nat} {s : AVal} {es : List EvV} (hs : ss[i]? = some s) (he : E[i]? = some es) {s' : AVal} {x : EvV} (hlo : lo ≤ h.next)
  (y : ExtF (fun b => s = .gsl b 0 0 es.length) h h1) (g : Grow h1 128 1 h.next s' (es.length + 1) (es.map evC ++ [evC x])) (u : Upd h1 bD (.cells .plain (ss.set i s') 126) h2) (hb : bD < h.next) : DaysAt h2 lo bD (ss.set i s') (E.set i (es ++ [x])) := by
 have hil := (List.getElem?_eq_some_iff.1 hs).1
 have hiE := (List.getElem?_eq_some_iff.1 he).1
 have hy := y.1
 have hu := u.1
 have hown : ∀ {j : Nat} {s2 : AVal} {es2 : List EvV} {b : Nat}, ss[j]? = some s2 → E[j]? = some es2 → s2 = .gsl b 0 0 es2.length → lo ≤ b ∧ b < h.next := fun p q z => grow_own (k.gr _ _ _ p q) z
 have hget : ∀ {j : Nat} {n m b : Nat}, j ≠ i → ss[j]? = some (.gsl b 0 0 n) → s = .gsl b 0 0 m → False := fun {j n m b} hji p q => hji (k.ap j i b n m p (by rw [hs, q]))
 refine ⟨by rw [List.length_set, List.length_set]; exact k.len, ?_, k.lt, ?_, ?_⟩
 ·exact u.has ⟨by omega, by
   rw [y.2 bD hb (fun z => by have := hown hs he z; have := k.lt; omega)]
   exact k.m.2⟩
 ·intro j s2 es2 p q
  by_cases hji : j = i
  ·subst hji;rw [List.getElem?_set_self hil] at p;rw [List.getElem?_set_self hiE] at q;cases p;cases q
   have g2 : Grow h2 128 1 h.next s' (es.length + 1) (es.map evC ++ [evC x]) := g.keep (by omega) fun b hb1 hb2 hb3 => u.2.2 b (by omega)
   rw [List.length_append, List.map_append];exact g2.low (by omega)
  ·rw [List.getElem?_set_ne (fun z => hji z.symm)] at p;rw [List.getElem?_set_ne (fun z => hji z.symm)] at q;refine (k.gr j s2 es2 p q).keep (by omega) fun b hb1 hb2 hb3 => ?_;rw [u.2.2 b (by have := k.lt; omega)];exact y.2 b hb2 fun z => hget hji (by rw [p, hb3]) z
 ·intro a c b n m p q
  have hnew : ∀ {n : Nat}, s' = AVal.gsl b 0 0 n → h.next ≤ b := fun {n} z => by
   rcases g.2 with ⟨w, _⟩ | ⟨_, b', w1, w2, _⟩
   ·rw [w] at z; cases z
   ·rw [w2] at z; cases z; exact w1
  have hold : ∀ {c n : Nat}, ss[c]? = some (AVal.gsl b 0 0 n) → b < h.next := fun {c n} z => by
   have hc := (List.getElem?_eq_some_iff.1 z).1
   obtain ⟨es2, he2⟩ : ∃ es2, E[c]? = some es2 := ⟨E[c]'(by rw [← k.len]; exact hc), by simp⟩
   rcases (k.gr _ _ _ z he2).2 with ⟨w, _⟩ | ⟨_, b', w1, w2, w3⟩
   ·cases w
   ·cases w2; exact w3.1
  by_cases ha : a = i
  ·by_cases hc : c = i
   ·omega
   ·subst ha;rw [List.getElem?_set_self hil] at p;rw [List.getElem?_set_ne (fun z => hc z.symm)] at q
    have := hnew (Option.some.inj p)
    have := hold q
    omega
  ·rw [List.getElem?_set_ne (fun z => ha z.symm)] at p
   by_cases hc : c = i
   ·subst hc;rw [List.getElem?_set_self hil] at q
    have := hnew (Option.some.inj q)
    have := hold p
    omega
   ·rw [List.getElem?_set_ne (fun z => hc z.symm)] at q;exact k.ap a c b n m p q
def lookE (L : List LV) (d : Nat) : List EvV := (L.filter fun l => decide (l.day = (d : Int))).map fun l => EvV.look (l.lo, l.hi)
def CutV.flowE (C : CutV) (k : Int) (j d : Nat) : List EvV := if d < j then (match C.rs[d]? with | some r => [.flow r k C.most] | none => []) else []
def CutV.dayL (C : CutV) (k : Int) (L : List LV) (j : Nat) : List (List EvV) := (List.range (C.rs.length + 1)).map fun d => lookE L d ++ C.flowE k j d
theorem day_get {C : CutV} {k : Int} {L : List LV} {j d : Nat} (hd : d < C.rs.length + 1) : (C.dayL k L j)[d]? = some (lookE L d ++ C.flowE k j d) := by
 unfold CutV.dayL
 rw [List.getElem?_map, List.getElem?_range hd]
 rfl
theorem look_more {L : List LV} {x : LV} {d : Nat} : lookE (L ++ [x]) d = lookE L d ++ (if x.day = (d : Int) then [.look (x.lo, x.hi)] else []) := by
 unfold lookE
 rw [List.filter_append, List.map_append]
 congr 1
 by_cases q : x.day = (d : Int)
 ·rw [if_pos q, List.filter_cons_of_pos (by simpa using q)]; rfl
 ·rw [if_neg q, List.filter_cons_of_neg (by simpa using q)]; rfl
theorem day_look {C : CutV} {k : Int} {L : List LV} {x : LV} {d : Nat} (hx : x.day = (d : Int)) (hd : d < C.rs.length + 1) : C.dayL k (L ++ [x]) 0 = (C.dayL k L 0).set d ((lookE L d ++ C.flowE k 0 d) ++ [.look (x.lo, x.hi)]) := by
 have hf : ∀ d, C.flowE k 0 d = [] := fun d => by unfold CutV.flowE; rw [if_neg (by omega)]
 apply List.ext_getElem?
 intro i
 by_cases hi : i < C.rs.length + 1
 ·rw [day_get hi, List.getElem?_set]
  by_cases hdi : d = i
  ·subst hdi;rw [if_pos rfl, if_pos (by unfold CutV.dayL; simp; omega), look_more, if_pos hx, hf, List.append_nil, List.append_nil]
  ·rw [if_neg hdi, day_get hi, look_more, if_neg (by omega), List.append_nil]
 ·rw [List.getElem?_eq_none (by unfold CutV.dayL; simp; omega), List.getElem?_eq_none (by rw [List.length_set]; unfold CutV.dayL; simp; omega)]
theorem day_flow {C : CutV} {k : Int} {L : List LV} {r : Int × Int} {j : Nat} (hr : C.rs[j]? = some r) : C.dayL k L (j + 1) = (C.dayL k L j).set j ((lookE L j ++ C.flowE k j j) ++ [.flow r k C.most]) := by
 have hj := (List.getElem?_eq_some_iff.1 hr).1
 apply List.ext_getElem?
 intro i
 by_cases hi : i < C.rs.length + 1
 ·rw [day_get hi, List.getElem?_set]
  by_cases hdi : j = i
  ·subst hdi;rw [if_pos rfl, if_pos (by unfold CutV.dayL; simp; omega)]
   have h1 : C.flowE k (j + 1) j = [.flow r k C.most] := by unfold CutV.flowE; rw [if_pos (by omega), hr]
   have h2 : C.flowE k j j = [] := by unfold CutV.flowE; rw [if_neg (by omega)]
   rw [h1, h2, List.append_nil]
  ·rw [if_neg hdi, day_get hi]
   have : C.flowE k (j + 1) i = C.flowE k j i := by
    unfold CutV.flowE
    by_cases q : i < j
    ·rw [if_pos q, if_pos (by omega)]
    ·rw [if_neg q, if_neg (by omega)]
   rw [this]
 ·rw [List.getElem?_eq_none (by unfold CutV.dayL; simp; omega), List.getElem?_eq_none (by rw [List.length_set]; unfold CutV.dayL; simp; omega)]
theorem day_all (C : CutV) (k : Int) (s : Nat) : C.dayL k (onlyV s 0 C.ls) C.rs.length = C.days k s := by
 unfold CutV.dayL CutV.days
 refine List.map_congr_left fun d hd => ?_
 have := List.mem_range.1 hd
 unfold CutV.evs
 show lookE _ d ++ C.flowE k C.rs.length d = _
 congr 1
 unfold CutV.flowE
 by_cases q : d < C.rs.length
 ·rw [if_pos q]
  rfl
 ·rw [if_neg q, List.getElem?_eq_none (by omega)]
theorem day_len (C : CutV) (k : Int) (L : List LV) (j : Nat) : (C.dayL k L j).length = C.rs.length + 1 := by unfold CutV.dayL; simp
theorem events_ok {C : CutV} (O : C.Ok) {r b l : AVal} {k : Int} {s : Nat} (h : AH) (A : CutAt h C r b l) :
  Runs Try.prog 86 [.agg (C.cells r b l), .agg [.int .i64 k, .int .i64 s]] h (fun en h' => ∃ bD ss lo, en = .ret (.slice bD 0 (C.rs.length + 1) (C.rs.length + 1)) ∧ Ext h h' ∧ h.next ≤ bD ∧ DaysAt h' lo bD ss (C.days k s)) := by
 have hl1 := A.rs.len
 rw [List.length_map] at hl1
 have hnl := O.nl
 have hnr := O.nr
 have hon := fun h A => only_ok (C := C) hnl r b l s h A
 have hsm := A.same
 obtain ⟨M, hM⟩ : ∃ M, onlyV s 0 C.ls = M := ⟨_, rfl⟩
 have hMl : M.length ≤ 5 := by rw [← hM]; exact Nat.le_trans only_len hnl
 have hMo : ∀ x, x ∈ M → x.Ok C.rs.length := fun x hx => O.l x (only_mem (hM ▸ hx))
 have hall := day_all C k s
 rw [hM] at hon hall
 have hlen : ∀ {h' v}, SliceOf h' 3 v (M.map LV.cells) → lenA v = some M.length := fun k => by have := k.len; rwa [List.length_map] at this
 unfold CutV.cells at hon hsm ⊢
 have e0 : Ext h h := Ext.refl _
 refine Runs.intro aFunc86 rfl rfl rfl rfl fun rest => ?_;apply gS;refine gR rfl ?_;refine GoR.box rfl rfl rfl rfl rfl rfl fun h0 x0 f0 => ?_;have := e0.1;replace e0 := e0.trans x0;have := f0.1;refine GoR.box rfl rfl rfl rfl rfl rfl fun h1 x1 f1 => ?_;have := e0.1;have := f0.1;replace f0 := f0.ext x1;replace e0 := e0.trans x1;have := f1.1;refine gP ?_;apply gE;apply gS;refine gR rfl ?_;refine gO rfl rfl (fa68_2 rfl) rfl ?_;refine gO rfl rfl (ld24 rfl f0 rfl) rfl ?_;refine gO rfl rfl (aOp_lenSlice Try.underlying24 rfl hl1) rfl ?_;refine gO rfl rfl (aA rfl rfl) rfl ?_;refine GoR.makeSl (n := C.rs.length + 1) rfl rfl rfl Try.underlying124 rfl rfl sz126 by126 zt126 rfl (Nat.ble_eq_true_of_le (by omega)) rfl rfl fun h2 x2 f2 => ?_;have := e0.1;have := f1.1;have := f0.1;replace f1 := f1.ext x2;replace f0 := f0.ext x2;replace e0 := e0.trans x2;have := f2.1;refine gP ?_;apply gE;iterate 2 apply gS
 refine gR rfl ?_;refine gO rfl rfl (ld68 rfl f0 rfl) rfl ?_;refine gO rfl rfl (fa102_1 rfl) rfl ?_;refine gO rfl rfl (ld3 rfl f1 rfl) rfl ?_;refine GoR.call rfl rfl (aCF aFunc91 rfl) (hon _ (A.ext e0)) ?_ (by rintro _ _ ⟨sl, q, _, _⟩; cases q);rintro v3 h3 ⟨sl, q, x3, f3⟩;cases q;refine ⟨_, rfl, ?_⟩;have := e0.1;replace f2 := f2.ext x3;replace f1 := f1.ext x3;replace f0 := f0.ext x3;replace e0 := e0.trans x3;refine gO rfl rfl (aOp_lenSlice Try.underlying26 rfl (hlen f3.self)) rfl ?_;refine gP ?_;apply gE;refine Go.block noJ_ok ?_;rw [repl_eq, show (List.replicate (C.rs.length + 1) AVal.nilslice.cells).flatten = List.replicate (C.rs.length + 1) AVal.nilslice from by simp [AVal.cells]] at f2
 have hb0 := f0.1
 have hb1 := f1.1
 have hb2 := f2.1
 have D0 : DaysAt h3 h3.next h1.next (List.replicate (C.rs.length + 1) AVal.nilslice) (C.dayL k [] 0) := by
  refine ⟨by rw [day_len, List.length_replicate], f2, by omega, fun i s es p q => ?_, fun i j b n m p q => ?_⟩
  ·have hi := (List.getElem?_eq_some_iff.1 p).1
   rw [List.length_replicate] at hi;rw [List.getElem?_replicate, if_pos hi] at p;cases p;rw [day_get hi] at q;cases q
   have : lookE [] i ++ C.flowE k 0 i = [] := by
    unfold CutV.flowE
    rw [if_neg (by omega)]
    rfl
   rw [this];exact Grow.nil _ _ _ _
  ·rw [List.getElem?_replicate] at p
   split at p <;> cases p
 refine Go.loopKeep (fun a : Nat × List AVal => [(2, .ptr h.next 0), (3, .ptr h0.next 0), (5, .slice h1.next 0 (C.rs.length + 1) (C.rs.length + 1)), (18, v3), (19, .int .i64 M.length), (20, .int .i64 (a.1 : Nat))])
  (fun m a h' => m + a.1 = M.length ∧ Ext h h' ∧ ExtF (fun b => b = h1.next) h3 h' ∧ Has h' h.next (.cells .plain [.int .i64 C.dl, .int .i64 C.dh, .int .i64 C.kl, .int .i64 C.kh, r, .int .i64 C.most, b, l] 68) ∧ Has h' h0.next (.cells .plain [.int .i64 k, .int .i64 s] 102) ∧ DaysAt h' h3.next h1.next a.2 (C.dayL k (M.take a.1) 0)) (n := M.length) (0, _) ⟨rfl, rfl, rfl, rfl, rfl, rfl, trivial⟩ ⟨rfl, e0, .of (Ext.refl _), f0, f1, D0⟩ ?_
 have S3 := f3
 clear e0 f0 f1 f2 D0 f3;rintro m ⟨i, ss⟩ h20 ⟨hm, e0, z3, f0, f1, D⟩ again
 dsimp only at hm D ⊢
 have hn0 := f0.1
 have hn1 := f1.1
 by_cases hi : i < M.length
 ·obtain ⟨x, hx⟩ : ∃ x, M[i]? = some x := ⟨M[i], by simp [hi]⟩
  have hxO := hMo x (List.mem_of_getElem? hx)
  have S20 := S3 h20 z3.1 fun b b1 b2 => z3.2 b b2 (by omega)
  have hxd := hxO.1
  obtain ⟨xd, xl, xh⟩ := x
  obtain ⟨d, hdd⟩ : ∃ d : Nat, xd = (d : Int) := ⟨xd.toNat, by dsimp only at hxd; omega⟩
  subst hdd
  dsimp only at hxd
  have hdn : d < C.rs.length + 1 := by omega
  obtain ⟨es, hes⟩ : ∃ es, lookE (M.take i) d ++ C.flowE k 0 d = es := ⟨_, rfl⟩
  have hE := day_get (C := C) (k := k) (L := M.take i) (j := 0) hdn
  rw [hes] at hE
  have hdl := D.len
  rw [day_len] at hdl
  obtain ⟨sd, hsd⟩ : ∃ sd, ss[d]? = some sd := ⟨ss[d]'(by omega), by simp⟩
  have G := D.gr d sd es hsd hE
  have hesl : es.length ≤ 50 := by
   rw [← hes]
   unfold lookE CutV.flowE
   rw [if_neg (by omega), List.append_nil, List.length_map];exact Nat.le_trans (List.length_filter_le _ _) (by rw [List.length_take]; omega)
  obtain ⟨bq, off, q1, q2⟩ := S20.at (i := i) (l := LV.cells ⟨(d : Nat), xl, xh⟩) (by rw [List.getElem?_map, hx]; rfl)
  rw [List.length_map] at q1
  unfold LV.cells at q2
  dsimp only at q2
  have e9 : Ext h20 h20 := Ext.refl _
  have f2 := D.m
  have hn2 := f2.1
  have hsame := grow_same G
  have hst1 : ∀ {h : AH} {lo m : Nat} {z : AVal} {cs : List AVal}, Grow h 128 1 lo z m cs → Nat.beq z.cells.length 1 = true := fun k => by rw [(grow_scal k).2]; rfl
  have hst2 : ∀ {h : AH} {lo m : Nat} {z : AVal} {cs : List AVal}, Grow h 128 1 lo z m cs → scalars z.cells = true := fun k => by rw [(grow_scal k).2]; exact (grow_scal k).1
  have hst3 : ∀ {h : AH} {lo m : Nat} {z : AVal} {cs : List AVal}, Grow h 128 1 lo z m cs → splice ss (0 + d * 1) z.cells = some (ss.set d z) := fun k => by rw [(grow_scal k).2, Nat.zero_add, Nat.mul_one]; exact splice_at (by omega)
  have hld : ss[0 + d * 1]? = some sd := by rw [Nat.zero_add, Nat.mul_one]; exact hsd
  apply gS;refine gR rfl ?_;refine gO rfl rfl (kLT rfl rfl) rfl ?_;apply gE;apply gS;refine gC (b := true) rfl ?_;refine gD ?_;apply gS;refine Go.block noJ_ok ?_;apply gS;refine gR rfl ?_;refine gO rfl rfl (aOp_indexAddr (i := i) Try.underlying26 sz53 rfl q1 rfl (Nat.ble_eq_true_of_le hi)) rfl ?_;refine gO rfl rfl (aOp_loadE ag53 sz53 rfl (q2.ext e9)) rfl ?_;refine GoR.alloc rfl rfl rfl zt53 rfl rfl fun h21 x21 f21 => ?_;have := e0.1;have := e9.1;have := f0.1;have := f1.1;have := f2.1;replace f0 := f0.ext x21;replace f1 := f1.ext x21;replace f2 := f2.ext x21;replace e0 := e0.trans x21;replace e9 := e9.trans x21;have := f21.1;refine GoR.store rfl rfl rfl rfl rfl rfl f21 rfl sz53 rfl rfl rfl fun h22 u22 => ?_;replace f21 := u22.has f21;replace f0 := f0.upd u22 (by omega);replace f1 := f1.upd u22 (by omega);replace f2 := f2.upd u22 (by omega);replace e0 := e0.upd u22 (by omega);replace e9 := e9.upd u22 (by omega);apply gE;refine Go.drawnE plan86_0 ?_;refine gQ rfl rfl rfl rfl ?_;refine gQ rfl rfl (fa53_0 rfl) rfl ?_;refine gQ rfl rfl (ld3 rfl f21 rfl) rfl ?_;refine gQ rfl rfl rfl rfl ?_;refine gQ rfl rfl (fa53_0 rfl) rfl ?_;refine gQ rfl rfl (ld3 rfl f21 rfl) rfl ?_;refine gQ rfl rfl (aOp_indexAddr (i := d) Try.underlying124 sz126 rfl (b := h1.next) (off := 0) rfl rfl (Nat.ble_eq_true_of_le hdn)) rfl ?_;refine gQ rfl rfl (ld126 rfl f2 hld) rfl ?_;refine gQ rfl rfl (fa53_1 rfl) rfl ?_;refine gQ rfl rfl (ld23 rfl f21 rfl) rfl ?_;refine gQ rfl rfl (aOp_build zt77 hu77 pl77 rfl rfl) rfl ?_;refine gQ rfl rfl (aOp_build zt138 hu138 pl138 rfl rfl) rfl ?_;refine gQ rfl rfl rfl rfl ?_;refine GoE.quietX rfl rfl (aOpX_lit (ps := [(0, .iface 138 (.agg [.int .i64 xl, .int .i64 xh]))]) (cs := [.iface 138 (.agg [.int .i64 xl, .int .i64 xh])]) Try.underlying126 rfl sz128 zt128 rfl rfl rfl) rfl ?_;refine GoE.append1L rfl rfl Try.underlying126 Try.underlying126 sz128 by128 zt128 rfl rfl rfl rfl rfl rfl (G.ext e9) (by omega) (dD 16376 13 (dD 16376 12 (dD 16376 11 (dD 16376 10 (dD 16376 9 (dD 16376 8 (dD 16376 7 (dD 16376 6 (dD 16376 5 (dD 16376 4 (dD 16376 3 (dK 16376 2 (dK 16376 1 (dK 16376 0 rfl)))))))))))))) rfl rfl fun s23 h23 y23 g23 => ?_;replace f21 := f21.extF y23 (fun q => by have := grow_own G q; omega);replace f0 := f0.extF y23 (fun q => by have := grow_own G q; omega);replace f1 := f1.extF y23 (fun q => by have := grow_own G q; omega);replace f2 := f2.extF y23 (fun q => by have := grow_own G q; omega);replace e0 := y23.low e0 (fun b q => by have := grow_own G q; omega);have := y23.1;refine ⟨(rck (h2 := h23) rfl (ld3 rfl f21 rfl) (rck (h2 := h23) rfl (fa53_0 rfl) (rck (h2 := h23) rfl (rfl) recheck_nil))), ?_⟩;refine gQ rfl rfl (aOp_indexAddr (i := d) Try.underlying124 sz126 rfl (b := h1.next) (off := 0) rfl rfl (Nat.ble_eq_true_of_le hdn)) rfl ?_;refine GoE.store rfl rfl rfl rfl (dD 65535 15 (dD 65535 2 (dD 65535 1 (dD 65535 0 rfl)))) rfl rfl f2 rfl sz126 (hst1 (by assumption)) (hst2 (by assumption)) (hst3 (by assumption)) fun h24 u24 => ?_;replace f0 := f0.upd u24 (by omega);replace f1 := f1.upd u24 (by omega);replace e0 := e0.upd u24 (by omega);refine ⟨recheck_nil, ?_⟩;refine GoE.end rfl ?_;refine Go.inBlock noJ_ok ?_;refine gR rfl ?_;refine gO rfl rfl (aA rfl rfl) rfl ?_;refine gP ?_;apply gE
  have k1 := e9.1
  have k2 := y23.1
  have k3 := u24.1
  have k4 := z3.1
  have D2 := (D.ext e9).put hsd hE (x := .look (xl, xh)) (by omega) y23 g23 u24 (by omega)
  refine again (m - 1) (i + 1, ss.set d s23) _ _ (by omega) ⟨rfl, rfl, rfl, rfl, rfl, rfl, trivial⟩ ⟨by dsimp only; omega, e0, ⟨by omega, fun b b1 b2 => by rw [u24.2.2 b b2, y23.2 b (by omega) (fun q => by have := grow_own G q; omega), e9.2 b (by omega), z3.2 b b1 b2]⟩, f0, f1, ?_⟩
  dsimp only
  rw [List.take_add_one, hx, Option.toList_some, day_look (x := ⟨(d : Nat), xl, xh⟩) rfl hdn, hes];exact D2
 ·have hii : i = M.length := by omega
  subst hii;rw [List.take_length] at D;clear again;apply gS;refine gR rfl ?_;refine gO rfl rfl (kLF rfl rfl) rfl ?_;apply gE;apply gS;refine gC (b := false) rfl ?_;refine gD ?_;iterate 2 apply gS
  refine gR rfl ?_;refine gO rfl rfl (fa68_2 rfl) rfl ?_;refine gO rfl rfl (ld24 rfl f0 rfl) rfl ?_;refine gO rfl rfl (aOp_lenSlice Try.underlying24 rfl hl1) rfl ?_;refine gP ?_;apply gE;refine Go.block noJ_ok ?_
  refine Go.loopKeep (fun a : Nat × List AVal => [(2, .ptr h.next 0), (3, .ptr h0.next 0), (5, .slice h1.next 0 (C.rs.length + 1) (C.rs.length + 1)), (42, r), (43, .int .i64 C.rs.length), (44, .int .i64 (a.1 : Nat))])
   (fun m a h' => m + a.1 = C.rs.length ∧ Ext h h' ∧ h20.next ≤ h'.next ∧ Has h' h.next (.cells .plain [.int .i64 C.dl, .int .i64 C.dh, .int .i64 C.kl, .int .i64 C.kh, r, .int .i64 C.most, b, l] 68) ∧ Has h' h0.next (.cells .plain [.int .i64 k, .int .i64 s] 102) ∧ DaysAt h' h3.next h1.next a.2 (C.dayL k M a.1)) (n := C.rs.length) (0, _) ⟨rfl, rfl, rfl, rfl, rfl, rfl, trivial⟩ ⟨rfl, e0, Nat.le_refl _, f0, f1, D⟩ ?_
  have hy3 := z3.1
  clear e0 f0 f1 D z3;rintro m ⟨i, ss⟩ h40 ⟨hm, e0, hle, f0, f1, D⟩ again
  dsimp only at hm D ⊢
  have hn0 := f0.1
  have hn1 := f1.1
  by_cases hi : i < C.rs.length
  ·obtain ⟨x, hx⟩ : ∃ x, C.rs[i]? = some x := ⟨C.rs[i], by simp [hi]⟩
   have hxO := O.r x (List.mem_of_getElem? hx)
   obtain ⟨x1, x2⟩ := x
   have hdn : i < C.rs.length + 1 := by omega
   obtain ⟨es, hes⟩ : ∃ es, lookE M i ++ C.flowE k i i = es := ⟨_, rfl⟩
   have hE := day_get (C := C) (k := k) (L := M) (j := i) hdn
   rw [hes] at hE
   have hdl := D.len
   rw [day_len] at hdl
   obtain ⟨sd, hsd⟩ : ∃ sd, ss[i]? = some sd := ⟨ss[i]'(by omega), by simp⟩
   have G := D.gr i sd es hsd hE
   have hesl : es.length ≤ 50 := by
    rw [← hes]
    unfold lookE CutV.flowE
    rw [if_neg (by omega), List.append_nil, List.length_map];exact Nat.le_trans (List.length_filter_le _ _) (by omega)
   obtain ⟨bq, off, q1, q2⟩ := (A.rs.ext e0).at (i := i) (l := spC (x1, x2)) (by rw [List.getElem?_map, hx]; rfl)
   rw [List.length_map] at q1
   unfold spC at q2
   dsimp only at q2
   have e9 : Ext h40 h40 := Ext.refl _
   have f2 := D.m
   have hn2 := f2.1
   have hsame := grow_same G
   have hst1 : ∀ {h : AH} {lo m : Nat} {z : AVal} {cs : List AVal}, Grow h 128 1 lo z m cs → Nat.beq z.cells.length 1 = true := fun k => by rw [(grow_scal k).2]; rfl
   have hst2 : ∀ {h : AH} {lo m : Nat} {z : AVal} {cs : List AVal}, Grow h 128 1 lo z m cs → scalars z.cells = true := fun k => by rw [(grow_scal k).2]; exact (grow_scal k).1
   have hst3 : ∀ {h : AH} {lo m : Nat} {z : AVal} {cs : List AVal}, Grow h 128 1 lo z m cs → splice ss (0 + i * 1) z.cells = some (ss.set i z) := fun k => by rw [(grow_scal k).2, Nat.zero_add, Nat.mul_one]; exact splice_at (by omega)
   have hld : ss[0 + i * 1]? = some sd := by rw [Nat.zero_add, Nat.mul_one]; exact hsd
   apply gS;refine gR rfl ?_;refine gO rfl rfl (kLT rfl rfl) rfl ?_;apply gE;apply gS;refine gC (b := true) rfl ?_;refine gD ?_;apply gS;refine Go.block noJ_ok ?_;apply gS;refine gR rfl ?_;refine gP ?_;refine gO rfl rfl (aOp_indexAddr (i := i) Try.underlying24 sz23 rfl q1 rfl (Nat.ble_eq_true_of_le hi)) rfl ?_;refine gO rfl rfl (aOp_loadE ag23 sz23 rfl (q2.ext e9)) rfl ?_;refine GoR.alloc rfl rfl rfl zt23 rfl rfl fun h41 x41 f41 => ?_;have := e0.1;have := e9.1;have := f0.1;have := f1.1;have := f2.1;replace f0 := f0.ext x41;replace f1 := f1.ext x41;replace f2 := f2.ext x41;replace e0 := e0.trans x41;replace e9 := e9.trans x41;have := f41.1;refine gP ?_;refine GoR.store rfl rfl rfl rfl rfl rfl f41 rfl sz23 rfl rfl rfl fun h42 u42 => ?_;replace f41 := u42.has f41;replace f0 := f0.upd u42 (by omega);replace f1 := f1.upd u42 (by omega);replace f2 := f2.upd u42 (by omega);replace e0 := e0.upd u42 (by omega);replace e9 := e9.upd u42 (by omega);apply gE;refine Go.drawnE plan86_1 ?_;iterate 4 refine gQ rfl rfl rfl rfl ?_
   refine gQ rfl rfl (aOp_indexAddr (i := i) Try.underlying124 sz126 rfl (b := h1.next) (off := 0) rfl rfl (Nat.ble_eq_true_of_le hdn)) rfl ?_;refine gQ rfl rfl (ld126 rfl f2 hld) rfl ?_;refine gQ rfl rfl (ld23 rfl f41 rfl) rfl ?_;refine gQ rfl rfl (fa102_0 rfl) rfl ?_;refine gQ rfl rfl (ld3 rfl f1 rfl) rfl ?_;refine gQ rfl rfl (fa68_3 rfl) rfl ?_;refine gQ rfl rfl (ld3 rfl f0 rfl) rfl ?_;refine gQ rfl rfl (aOp_build zt140 hu140 pl140 rfl rfl) rfl ?_;refine gQ rfl rfl rfl rfl ?_;refine GoE.quietX rfl rfl (aOpX_lit (ps := [(0, .iface 140 (.agg [.int .i64 x1, .int .i64 x2, .int .i64 k, .int .i64 C.most]))]) (cs := [.iface 140 (.agg [.int .i64 x1, .int .i64 x2, .int .i64 k, .int .i64 C.most])]) Try.underlying126 rfl sz128 zt128 rfl rfl rfl) rfl ?_;refine GoE.append1L rfl rfl Try.underlying126 Try.underlying126 sz128 by128 zt128 rfl rfl rfl rfl rfl rfl (G.ext e9) (by omega) (dD 16380 13 (dD 16380 12 (dD 16380 11 (dD 16380 10 (dD 16380 9 (dD 16380 8 (dD 16380 7 (dD 16380 6 (dD 16380 5 (dD 16380 4 (dD 16380 3 (dD 16380 2 (dK 16380 1 (dK 16380 0 rfl)))))))))))))) rfl rfl fun s43 h43 y43 g43 => ?_;replace f41 := f41.extF y43 (fun q => by have := grow_own G q; omega);replace f0 := f0.extF y43 (fun q => by have := grow_own G q; omega);replace f1 := f1.extF y43 (fun q => by have := grow_own G q; omega);replace f2 := f2.extF y43 (fun q => by have := grow_own G q; omega);replace e0 := y43.low e0 (fun b q => by have := grow_own G q; omega);have := y43.1;refine ⟨(rck (h2 := h43) rfl (rfl) (rck (h2 := h43) rfl (rfl) recheck_nil)), ?_⟩;refine gQ rfl rfl (aOp_indexAddr (i := i) Try.underlying124 sz126 rfl (b := h1.next) (off := 0) rfl rfl (Nat.ble_eq_true_of_le hdn)) rfl ?_;refine GoE.store rfl rfl rfl rfl (dD 65535 15 (dD 65535 1 (dD 65535 0 rfl))) rfl rfl f2 rfl sz126 (hst1 (by assumption)) (hst2 (by assumption)) (hst3 (by assumption)) fun h44 u44 => ?_;replace f0 := f0.upd u44 (by omega);replace f1 := f1.upd u44 (by omega);replace e0 := e0.upd u44 (by omega);refine ⟨recheck_nil, ?_⟩;refine GoE.end rfl ?_;refine Go.inBlock noJ_ok ?_;refine gR rfl ?_;refine gO rfl rfl (aA rfl rfl) rfl ?_;refine gP ?_;apply gE
   have k1 := e9.1
   have k2 := y43.1
   have k3 := u44.1
   have D2 := (D.ext e9).put hsd hE (x := .flow (x1, x2) k C.most) (by omega) y43 g43 u44 (by omega)
   refine again (m - 1) (i + 1, ss.set i s43) _ _ (by omega) ⟨rfl, rfl, rfl, rfl, rfl, rfl, trivial⟩ ⟨by dsimp only; omega, e0, by omega, f0, f1, ?_⟩
   dsimp only
   rw [day_flow hx, hes];exact D2
  ·have hii : i = C.rs.length := by omega
   subst hii;rw [hall] at D;apply gS;refine gR rfl ?_;refine gO rfl rfl (kLF rfl rfl) rfl ?_;apply gE;apply gS;refine gC (b := false) rfl ?_;refine gD ?_;apply gS;refine gR rfl ?_;iterate 2 refine gP ?_
   apply gE;exact gV (ret_end (aResult_of Try.func86 rfl rfl) ⟨h1.next, ss, h3.next, rfl, e0, by omega, D⟩)
end Go.Proofs.Yteibheeleeengaa
