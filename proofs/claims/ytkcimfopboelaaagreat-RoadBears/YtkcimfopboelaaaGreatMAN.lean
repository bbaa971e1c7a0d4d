import Derived.Test.YtkcimfopboelaaaGreatMAM
namespace Go.Proofs.YtkcimfopboelaaaGreat
open Go Go.AbsE
set_option linter.unusedSimpArgs false
set_option maxRecDepth 100000
set_option maxHeartbeats 0
set_option linter.unusedVariables false
theorem joinP_min (a b : Int) : (if b < a then b else a) = min a b := by split <;> omega
theorem joinP_max (a b : Int) : (if a < b then b else a) = max a b := by split <;> omega
theorem join_ok {L : List (Int × Int)} {s : AVal} {h : AH} (hs : SliceOf h 2 s (L.map spC)) (hL : L.length ≤ 100) : Runs Tryz.prog 101 [s] h (fun en h' => en = .ret (.agg (spC (joinL L))) ∧ Ext h h') := by
 have hl := hs.len
 rw [List.length_map] at hl
 have e0 : Ext h h := Ext.refl _
 refine Runs.intro aFunc101 rfl rfl rfl rfl fun rest => ?_
 refine Go.seq noJ_ok ?_
 refine Go.region noJ_ok rfl ?_
 refine GoR.alloc rfl rfl rfl zt29 rfl rfl fun h0 x0 f0 => ?_
 have := e0.1
 replace e0 := e0.trans x0
 have := f0.1
 refine GoR.end ?_
 refine Go.seq noJ_ok ?_
 refine Go.region noJ_ok rfl ?_
 refine GoR.op rfl rfl (aOp_build zt29 hu29 pl29 rfl rfl) rfl ?_
 refine GoR.alloc rfl rfl rfl zt29 rfl rfl fun h1 x1 f1 => ?_
 have := e0.1
 have := f0.1
 replace f0 := f0.ext x1
 replace e0 := e0.trans x1
 have := f1.1
 refine GoR.store rfl rfl rfl rfl rfl rfl f1 rfl sz29 rfl rfl rfl fun h2 u2 => ?_
 replace f1 := u2.has f1
 replace f0 := f0.upd u2 (by omega)
 replace e0 := e0.upd u2 (by omega)
 refine GoR.end ?_
 iterate 2 refine Go.seq noJ_ok ?_
 refine Go.region noJ_ok rfl ?_
 refine GoR.op rfl rfl rfl rfl ?_
 refine GoR.op rfl rfl (aOp_lenSlice Tryz.underlying147 rfl (by assumption)) rfl ?_
 refine GoR.op rfl rfl rfl rfl ?_
 refine GoR.end ?_
 refine Go.block noJ_ok ?_
 refine Go.loopKeep (fun i : Nat => [(2, .ptr h.next 0), (3, .ptr h0.next 0), (7, s), (8, .int .i64 L.length), (9, .int .i64 (i : Nat))]) (fun n i h' => n + i = L.length ∧ Ext h h' ∧ Has h' h.next (.cells .plain [.int .i64 0, .int .i64 0] 29) ∧ Has h' h0.next (.cells .plain (spC (joinL (L.take i))) 29)) (n := L.length) 0 ⟨rfl, rfl, rfl, rfl, rfl, trivial⟩ ⟨rfl, e0, f0, f1⟩ ?_
 have hlt := f0.1
 clear e0 f0 f1
 rintro n i hc ⟨hn, e0, f0, f1⟩ again
 by_cases hi : i < L.length
 ·obtain ⟨p, hp⟩ : ∃ p, L[i]? = some p := ⟨L[i], by simp [hi]⟩
  obtain ⟨b, off, q1, q2⟩ := (hs.ext e0).at (i := i) (l := spC p) (by rw [List.getElem?_map, hp]; rfl)
  have hj : joinL (L.take (i + 1)) = joinP (joinL (L.take i)) p := by rw [List.take_add_one, hp]; simp [joinL]
  rw [List.length_map] at q1
  generalize hw : joinL (L.take i) = w at f1 hj
  unfold spC at f1 q2
  refine Go.seq noJ_ok ?_
  refine Go.region noJ_ok rfl ?_
  refine GoR.op rfl rfl (aOp_lss rfl rfl (r := true) (decide_eq_true (by omega))) rfl ?_
  refine GoR.end ?_
  refine Go.seq noJ_ok ?_
  refine Go.cond noJ_ok (b := true) rfl ?_
  refine Go.code noJ_ok ?_
  refine Go.seq noJ_ok ?_
  refine Go.block noJ_ok ?_
  refine Go.seq noJ_ok ?_
  refine Go.region noJ_ok rfl ?_
  refine GoR.op rfl rfl (aOp_indexAddr (i := i) Tryz.underlying147 sz29 rfl (by assumption) rfl (Nat.ble_eq_true_of_le (by omega))) rfl ?_
  refine GoR.op rfl rfl (aOp_loadE ag29 sz29 rfl q2) rfl ?_
  refine GoR.alloc rfl rfl rfl zt29 rfl rfl fun h3 x3 f3 => ?_
  have := e0.1
  have := f0.1
  have := f1.1
  replace f0 := f0.ext x3
  replace f1 := f1.ext x3
  replace e0 := e0.trans x3
  have := f3.1
  refine GoR.store rfl rfl rfl rfl rfl rfl f3 rfl sz29 rfl rfl rfl fun h4 u4 => ?_
  replace f3 := u4.has f3
  replace f0 := f0.upd u4 (by omega)
  replace f1 := f1.upd u4 (by omega)
  replace e0 := e0.upd u4 (by omega)
  refine GoR.end ?_
  refine Go.region noJ_ok rfl ?_
  refine GoR.op rfl rfl (fa29_0 rfl) rfl ?_
  refine GoR.op rfl rfl (ld3 rfl f1 rfl) rfl ?_
  refine GoR.op rfl rfl (fa29_0 rfl) rfl ?_
  refine GoR.op rfl rfl (ld3 rfl f3 rfl) rfl ?_
  refine GoR.op rfl rfl (aOp_min2 rfl rfl (joinP_min w.1 p.1)) rfl ?_
  refine GoR.op rfl rfl (fa29_1 rfl) rfl ?_
  refine GoR.op rfl rfl (ld3 rfl f1 rfl) rfl ?_
  refine GoR.op rfl rfl (fa29_1 rfl) rfl ?_
  refine GoR.op rfl rfl (ld3 rfl f3 rfl) rfl ?_
  refine GoR.op rfl rfl (aOp_max2 rfl rfl (joinP_max w.2 p.2)) rfl ?_
  refine GoR.op rfl rfl (aOp_build zt29 hu29 pl29 rfl rfl) rfl ?_
  refine GoR.store rfl rfl rfl rfl rfl rfl f1 rfl sz29 rfl rfl rfl fun h5 u5 => ?_
  replace f0 := f0.upd u5 (by omega)
  replace f1 := u5.has f1
  replace e0 := e0.upd u5 (by omega)
  refine GoR.end ?_
  refine Go.inBlock noJ_ok ?_
  refine Go.region noJ_ok rfl ?_
  refine GoR.op rfl rfl (aOp_add rfl rfl (by constructor <;> omega) rfl) rfl ?_
  refine GoR.op rfl rfl rfl rfl ?_
  refine GoR.end ?_
  exact again (n - 1) (i + 1) _ _ (by omega) ⟨rfl, rfl, rfl, rfl, rfl, trivial⟩ ⟨by omega, e0, f0, by rw [hj]; exact f1⟩
 ·have ht : L.take i = L := List.take_of_length_le (by omega)
  rw [ht] at f1
  unfold spC at f1 ⊢
  refine Go.seq noJ_ok ?_
  refine Go.region noJ_ok rfl ?_
  refine GoR.op rfl rfl (aOp_lss rfl rfl (r := false) (decide_eq_false (by omega))) rfl ?_
  refine GoR.end ?_
  refine Go.seq noJ_ok ?_
  refine Go.cond noJ_ok (b := false) rfl ?_
  refine Go.code noJ_ok ?_
  refine Go.seq noJ_ok ?_
  refine Go.region noJ_ok rfl ?_
  refine GoR.op rfl rfl (ld29 rfl f1 rfl) rfl ?_
  refine GoR.store rfl rfl rfl rfl rfl rfl f0 rfl sz29 rfl rfl rfl fun h3 u3 => ?_
  replace f0 := u3.has f0
  replace e0 := e0.upd u3 (by omega)
  refine GoR.end ?_
  exact Go.ret noJ_ok (ret_end (aResult_of Tryz.func101 rfl (aResults_cell rfl f0 (inCells_agg ag29 sz29 rfl))) ⟨rfl, e0⟩)
theorem join_nil {h : AH} : Runs Tryz.prog 101 [.nilslice] h (fun en h' => en = .ret (.agg [.int .i64 9223372036854775807, .int .i64 (-9223372036854775808)]) ∧ Ext h h') := join_ok (L := []) .nil (by decide)
theorem joinP_right (a b c : Int × Int) : joinP (joinP a b) c = joinP (joinP a c) b := by
 unfold joinP; ext <;> dsimp only <;> omega
theorem foldl_perm {l m : List (Int × Int)} (h : l.Perm m) : ∀ a, l.foldl joinP a = m.foldl joinP a := by
 induction h with
 | nil => intro a; rfl
 | cons x _ ih => intro a; exact ih _
 | swap x y l => intro a; simp only [List.foldl_cons, joinP_right a y x]
 | trans _ _ i1 i2 => intro a; rw [i1, i2]
theorem joinL_perm {l m : List (Int × Int)} (h : l.Perm m) : joinL l = joinL m := foldl_perm h _
def InSp (p : Int × Int) : Prop := p.1 ≤ 9223372036854775807 ∧ -9223372036854775808 ≤ p.2
theorem joinP_in {a b : Int × Int} (ha : InSp a) (hb : InSp b) : InSp (joinP a b) := by
 unfold InSp joinP at *
 constructor <;> dsimp only <;> omega
theorem foldl_in {l : List (Int × Int)} : ∀ {a}, InSp a → (∀ p, p ∈ l → InSp p) → InSp (l.foldl joinP a) := by
 induction l with
 | nil => intro a h _; exact h
 | cons x l ih => intro a h k; exact ih (joinP_in h (k x (by simp))) fun p hp => k p (by simp [hp])
theorem noSp_in : InSp noSp := by unfold InSp noSp; omega
theorem joinL_in {l : List (Int × Int)} (k : ∀ p, p ∈ l → InSp p) : InSp (joinL l) := foldl_in noSp_in k
theorem joinL_two {a b : Int × Int} (ha : InSp a) : joinL [a, b] = joinP a b := by
 show joinP (joinP noSp a) b = _
 have : joinP noSp a = a := by
  unfold InSp at ha
  unfold joinP noSp
  ext <;> dsimp only <;> omega
 rw [this]
theorem joinL_app (l : List (Int × Int)) (x : Int × Int) : joinL (l ++ [x]) = joinP (joinL l) x := by simp [joinL]
theorem sl2 {h : AH} {b : Nat} {a c : Int × Int} {el : TypeId} (f : Has h b (.cells .plain (spC a ++ spC c) el)) : SliceOf h 2 (.slice b 0 2 2) ([a, c].map spC) :=
 SliceOf.mk' rfl rfl f rfl (fun i l hl => by
  match i, hl with
  | 0, hl => cases hl; rfl
  | 1, hl => cases hl; rfl)
theorem range_flat {α β : Type} (g : List α → List β) (K : List (List α)) : (List.range K.length).flatMap (fun i => g ((K[i]?).getD [])) = K.flatMap g := by
 have : K = (List.range K.length).map fun i => (K[i]?).getD [] := by
  apply List.ext_getElem
  ·simp
  ·intro i h1 h2
   simp [h1]
 conv => rhs; rw [this, List.flatMap_map]
theorem esN_flat {β : Type} {L : List (List Int × AVal)} {K : List (List (List Ft))} (hl : L.length = K.length) (g : List (List Ft) → List β) : (esN L).flatMap (fun en => g ((K[en.born]?).getD [])) = K.flatMap g := by
 have h1 : (esN L).map AMapE.born = List.range L.length := by
  unfold esN
  apply List.ext_getElem
  ·simp
  ·intro i h1 h2
   simp
 rw [← range_flat g K, ← hl, ← h1, List.flatMap_map]
structure KnownAt (R : RoadV) (h : AH) (lo bm : Nat) (L : List (List Int × AVal)) : Prop where
 keys : L.map (fun x => x.1) = R.hs.map keyL
 len : L.length = R.known.length
 m : Has h bm (.map (esN L) L.length)
 parts : ∀ (i : Nat) x fs, L[i]? = some x → R.known[i]? = some fs → ∃ sls : List AVal, sls.length = fs.length ∧ SliceOf h 1 x.2 (sls.map fun s => [s]) ∧ ∀ (k : Nat) sl f, sls[k]? = some sl → fs[k]? = some f → SliceOf h 14 sl (f.map Ft.cells)
theorem KnownAt.ext {R : RoadV} {h h' : AH} {lo bm : Nat} {L : List (List Int × AVal)} (k : KnownAt R h lo bm L) (e : Ext h h') : KnownAt R h' lo bm L :=
 ⟨k.keys, k.len, k.m.ext e, fun i x fs q1 q2 => by
  obtain ⟨sls, p1, p2, p3⟩ := k.parts i x fs q1 q2
  exact ⟨sls, p1, p2.ext e, fun k sl f q3 q4 => (p3 k sl f q3 q4).ext e⟩⟩
theorem grow_slice' {α : Type} {f : α → List AVal} {sz : Nat} {h : AH} {el : TypeId} {lo n : Nat} {s : AVal} {l : List α} (hf : ∀ p, p ∈ l → (f p).length = sz) (hn : l.length = n) (G : Grow h el sz lo s n (l.flatMap f)) : SliceOf h sz s (l.map f) := by
 subst hn
 refine Grow.sliceOf (L := l.map f) (by rw [List.length_map]; exact G) fun i v q => ?_
 have := slice_flatten (sz := sz) (L := l.map f) (fun x hx => by obtain ⟨q, hq, rfl⟩ := List.mem_map.1 hx; exact hf q hq) i v q
 rwa [← List.flatMap_def] at this
theorem KnownIn.at {R : RoadV} (O : R.Ok) {h : AH} {G : Nat → Prop} {lo bm : Nat} (k : KnownIn R h G lo bm R.hs) : ∃ L, KnownAt R h lo bm L := by
 obtain ⟨L, h1, h2, h3, h4⟩ := k
 have hlen : L.length = R.known.length := by
  have := congrArg List.length h1
  rw [List.length_map, List.length_map] at this
  unfold RoadV.known
  rw [List.length_map]
  exact this
 refine ⟨L, h1, hlen, h2, fun i x fs q1 q2 => ?_⟩
 unfold RoadV.known at q2
 rw [List.getElem?_map] at q2
 cases q : R.hs[i]? with
 | none => rw [q] at q2; cases q2
 | some l =>
  rw [q] at q2
  cases q2
  obtain ⟨sls, p1, p2, p3, p4⟩ := h4 i l x q q1
  refine ⟨sls, p1, grow_slice (f := fun s : AVal => [s]) (sz := 1) (fun _ => rfl) p1 (by rw [flat_one]; simpa using p2), fun k sl f q3 q4 => ?_⟩
  refine grow_slice' (fun f' hf' => ?_) rfl (p4 k sl f q3 q4).1
  unfold RoadV.fates at q4
  rw [List.getElem?_mapIdx] at q4
  cases q5 : R.ps[k]? with
  | none => rw [q5] at q4; cases q4
  | some p => rw [q5] at q4; cases q4; exact fates_fit O f' hf'
end Go.Proofs.YtkcimfopboelaaaGreat

namespace Go.Proofs.YtkcimfopboelaaaGreat
open Go Go.AbsE
set_option linter.unusedSimpArgs false
set_option maxRecDepth 100000
set_option maxHeartbeats 0
set_option linter.unusedVariables false
theorem mapB_has {h : AH} {b : Nat} {es : List AMapE} {c : Nat} (f : Has h b (.map es c)) : mapB h b = some (es, c) := by unfold mapB; rw [f.2]
theorem KnownAt.entry {R : RoadV} {h : AH} {lo bm : Nat} {L : List (List Int × AVal)} (K : KnownAt R h lo bm L) {en : AMapE} (hen : en ∈ esN L) : ∃ x fs, L[en.born]? = some x ∧ R.known[en.born]? = some fs ∧ en.key = .agg (vints x.1) ∧ en.val = x.2 ∧ fs ∈ R.known := by
 obtain ⟨i, x, hx, rfl⟩ := esN_at hen
 have hlt := (List.getElem?_eq_some_iff.1 hx).1
 obtain ⟨fs, hfs⟩ : ∃ fs, R.known[i]? = some fs := ⟨R.known[i]'(by have := K.len; omega), by simp⟩
 exact ⟨x, fs, hx, hfs, rfl, rfl, List.mem_of_getElem? hfs⟩
theorem KnownAt.kv {R : RoadV} {h : AH} {lo bm : Nat} {L : List (List Int × AVal)} (K : KnownAt R h lo bm L) : ∀ en, en ∈ esN L → ∃ kv, absV en.key = some kv := fun en hen => by
 obtain ⟨x, fs, _, _, hk, _⟩ := K.entry hen
 exact ⟨_, by rw [hk]; exact absV_vints _⟩
theorem known_fates {R : RoadV} {fs : List (List Ft)} (h : fs ∈ R.known) {k : Nat} {l : List Ft} (hl : fs[k]? = some l) : ∃ ls p, ls ∈ haulsV R.es ∧ R.can ls = true ∧ R.ps[k]? = some p ∧ l = fatesV R.es k p ls := by
 obtain ⟨ls, h1, h2, rfl⟩ := mem_known.1 h
 unfold RoadV.fates at hl
 rw [List.getElem?_mapIdx] at hl
 cases q : R.ps[k]? with
 | none => rw [q] at hl; cases hl
 | some p => rw [q] at hl; cases hl; exact ⟨ls, p, h1, h2, rfl, rfl⟩
theorem known_few {R : RoadV} (O : R.Ok) {fs : List (List Ft)} (h : fs ∈ R.known) {k : Nat} {l : List Ft} (hl : fs[k]? = some l) : l.length ≤ 27 := by
 obtain ⟨ls, p, _, _, hp, rfl⟩ := known_fates h hl
 exact fates_few (O.p p (List.mem_of_getElem? hp))
def spanE (R : RoadV) (part : Nat) (m : Ft → Int) (en : AMapE) : List (Int × Int) := (((R.known[en.born]?).getD [])[part]?.getD []).map fun f => (m f, m f)
theorem spread_ok {R : RoadV} (O : R.Ok) {h : AH} {lo bm : Nat} {L : List (List Int × AVal)} (K : KnownAt R h lo bm L) {part : Nat} (hpart : part < R.ps.length) {fid : FuncId} {caps : List AVal} {fn : Func} (hfid : aFunc Tryz.prog fid = some fn) (hsm : sameA (.func (.func fid) [] caps) (.func (.func fid) [] caps) = true) (m : Ft → Int)
  (hm : ∀ f, f ∈ atPart R.known part → I64 (m f))
  (hc : ∀ f h', f ∈ atPart R.known part → Ext h h' → Runs Tryz.prog fid ([.agg f.cells] ++ caps) h' (fun en h'' => en = .ret (.int .i64 (m f)) ∧ Ext h' h'')) :
  Runs Tryz.prog 53 [.map bm, .int .i64 part, .func (.func fid) [] caps] h (fun en h' => en = .ret (.agg (spC (spreadV R.known part m))) ∧ Ext h h') := by
 have hfl := esN_flat (K := R.known) K.len (fun parts => ((parts[part]?).getD []).map fun f => (m f, m f))
 have hsp : spreadV R.known part m = joinL ((esN L).flatMap (spanE R part m)) := by
  unfold spreadV atPart
  rw [List.map_flatMap]
  unfold spanE
  rw [hfl]
 have hin : ∀ en, en ∈ esN L → ∀ p, p ∈ spanE R part m en → InSp p := by
  intro en hen p hp
  obtain ⟨x, fs, q1, q2, q3, q4, q5⟩ := K.entry hen
  unfold spanE at hp
  rw [q2] at hp
  obtain ⟨f, hf, rfl⟩ := List.mem_map.1 hp
  have := hm f (mem_atPart.2 (by
   cases z : fs[part]? with
   | none => simp [z] at hf
   | some l => simp [z] at hf; exact ⟨fs, l, q5, z, hf⟩))
  exact ⟨this.2, this.1⟩
 have hborn := esN_born (L := L)
 have hdist := esN_dist L
 have hKm := K.m
 have hblt := hKm.1
 rw [hsp]
 have e0 : Ext h h := Ext.refl _
 refine Runs.intro aFunc53 rfl rfl rfl rfl fun rest => ?_
 refine Go.seq noJ_ok ?_
 refine Go.region noJ_ok rfl ?_
 refine GoR.alloc rfl rfl rfl zt29 rfl rfl fun h0 x0 f0 => ?_
 have := e0.1
 have := hKm.1
 replace hKm := hKm.ext x0
 replace e0 := e0.trans x0
 have := f0.1
 refine GoR.end ?_
 refine Go.seq noJ_ok ?_
 refine Go.region noJ_ok rfl ?_
 refine GoR.call rfl rfl (aOp_callFunc aFunc101 rfl) (join_nil) ?_ (by rintro _ _ ⟨q, _⟩; cases q)
 rintro v1 h1 ⟨q, x1⟩
 cases q
 refine ⟨_, rfl, ?_⟩
 replace f0 := f0.ext x1
 replace hKm := hKm.ext x1
 replace e0 := e0.trans x1
 refine GoR.alloc rfl rfl rfl zt29 rfl rfl fun h2 x2 f2 => ?_
 have := e0.1
 have := f0.1
 have := hKm.1
 replace f0 := f0.ext x2
 replace hKm := hKm.ext x2
 replace e0 := e0.trans x2
 have := f2.1
 refine GoR.store rfl rfl rfl rfl rfl rfl f2 rfl sz29 rfl rfl rfl fun h3 u3 => ?_
 replace f2 := u3.has f2
 replace f0 := f0.upd u3 (by omega)
 replace hKm := hKm.upd u3 (by omega)
 replace e0 := e0.upd u3 (by omega)
 refine GoR.end ?_
 iterate 2 refine Go.seq noJ_ok ?_
 refine Go.region noJ_ok rfl ?_
 refine GoR.op rfl rfl rfl rfl ?_
 refine GoR.rangeM rfl rfl rfl Tryz.underlying80 rfl (mapB_has hKm) rfl rfl fun h5 x5 f5 => ?_
 have hn4 := e0.1
 have hl0 := f0.1
 have hl2 := f2.1
 have hn0 : h.next < h1.next := by omega
 replace f0 := f0.ext x5
 replace f2 := f2.ext x5
 replace e0 := e0.trans x5
 clear hKm
 have hKm := K.m
 have hl5 := f5.1
 refine GoR.end ?_
 refine Go.block noJ_ok ?_
 refine Go.loopKeep (fun _ : List AMapE × List AMapE => [(1, .int .i64 part), (2, .func (.func fid) [] caps), (6, .ptr h.next 0), (7, .ptr h1.next 0), (14, .ptr h3.next 0)])
  (fun n vr h' => vr.2.length = n ∧ (vr.1 ++ vr.2).Perm (esN L) ∧ Ext h h' ∧ Has h' h.next (.cells .plain [.int .i64 0, .int .i64 0] 29) ∧ Has h' h1.next (.cells .plain (spC (joinL (vr.1.flatMap (spanE R part m)))) 29) ∧ Has h' h3.next (.iter bm L.length (vr.1.map AMapE.born) L.length)) (n := (esN L).length) ([], esN L) ⟨rfl, rfl, rfl, rfl, rfl, trivial⟩ ⟨rfl, .refl _, e0, f0, f2, f5⟩ ?_
 clear e0 f0 f2 f5
 rintro n ⟨vs, rs⟩ hh ⟨hn, hperm, e0, f0, f2, f5⟩ again
 dsimp only at hn hperm f2 f5
 refine Go.seq noJ_ok ?_
 refine Go.beginR rfl (Go.nextM rfl rfl f5 (mapB_has (hKm.ext e0)) hborn hborn K.kv (fun hall => Go.inRegion noJ_ok ?_) (fun en kv hen hnew hk h6 u6 => Go.inRegion noJ_ok ?_))
 ·have hrs := perm_over hperm hdist hall
  subst hrs
  rw [List.append_nil] at hperm
  have hj : joinL (vs.flatMap (spanE R part m)) = joinL ((esN L).flatMap (spanE R part m)) := joinL_perm (hperm.flatMap_right _)
  rw [hj] at f2
  unfold spC at f2 ⊢
  clear hKm
  refine GoR.op rfl rfl rfl rfl ?_
  refine GoR.end ?_
  refine Go.seq noJ_ok ?_
  refine Go.cond noJ_ok (b := false) rfl ?_
  refine Go.code noJ_ok ?_
  refine Go.seq noJ_ok ?_
  refine Go.region noJ_ok rfl ?_
  refine GoR.op rfl rfl (ld29 rfl f2 rfl) rfl ?_
  refine GoR.store rfl rfl rfl rfl rfl rfl f0 rfl sz29 rfl rfl rfl fun h6 u6 => ?_
  replace f0 := u6.has f0
  replace e0 := e0.upd u6 (by omega)
  refine GoR.end ?_
  exact Go.ret noJ_ok (ret_end (aResult_of Tryz.func53 rfl (aResults_cell rfl f0 (inCells_agg ag29 sz29 rfl))) ⟨rfl, e0⟩)
 ·obtain ⟨ra, rb, rfl, hperm2⟩ := perm_pick hperm hen hnew
  obtain ⟨x, fs, q1, q2, q3, q4, q5⟩ := K.entry hen
  replace f5 := u6.has f5
  replace f0 := f0.upd u6 (by omega)
  replace f2 := f2.upd u6 (by omega)
  replace e0 := e0.upd u6 (by omega)
  obtain ⟨sls, p1, p2, p3⟩ := K.parts en.born x fs q1 q2
  have hfsl : fs.length = R.ps.length := (known_parts q5).1
  obtain ⟨l, hl⟩ : ∃ l, fs[part]? = some l := ⟨fs[part]'(by omega), by simp⟩
  obtain ⟨sl, hsl⟩ : ∃ sl, sls[part]? = some sl := ⟨sls[part]'(by omega), by simp⟩
  have p4 := p3 part sl l hsl hl
  rw [← q4] at p2
  obtain ⟨b1, o1, r1, r2⟩ := (p2.ext e0).at (i := part) (l := [sl]) (by rw [List.getElem?_map, hsl]; rfl)
  rw [List.length_map, p1, hfsl] at r1
  have hfew := known_few O q5 hl
  have hll := p4.len
  rw [List.length_map] at hll
  have hspE : spanE R part m en = l.map fun f => (m f, m f) := by unfold spanE; rw [q2]; simp [hl]
  have hMe := mapB_has (hKm.ext e0)
  have hent : ∀ {t : Tr AVal} {dst : Option Tmp} {tt : TypeId} {pos : String} {after : Array Edge} {guard : Option (Nat × Bool)} {x : Operand}, ev t x = some (.ptr h3.next 0) → aOp Tryz.prog t h6 ⟨dst, .entry x, tt, pos, after, guard⟩ = some (.val (.tuple [kv, en.val]) h6) := fun hx => aOp_entry hx f5 hMe hen hdist hk
  have hl0 := f0.1
  have hl2 := f2.1
  have hl5 := f5.1
  have hKb := (hKm.ext e0).1
  clear hKm
  refine GoR.op rfl rfl rfl rfl ?_
  refine GoR.end ?_
  refine Go.seq noJ_ok ?_
  refine Go.cond noJ_ok (b := true) rfl ?_
  refine Go.code noJ_ok ?_
  refine Go.block noJ_ok ?_
  refine Go.seq noJ_ok ?_
  refine Go.region noJ_ok rfl ?_
  refine GoR.op rfl rfl (hent rfl) rfl ?_
  iterate 2 refine GoR.op rfl rfl rfl rfl ?_
  refine GoR.end ?_
  refine Go.seq noJ_ok ?_
  refine Go.region noJ_ok rfl ?_
  iterate 2 refine GoR.op rfl rfl rfl rfl ?_
  refine GoR.op rfl rfl (aOp_indexAddr (i := part) Tryz.underlying127 sz120 rfl (by assumption) rfl (Nat.ble_eq_true_of_le (by omega))) rfl ?_
  refine GoR.op rfl rfl (aOp_loadE1 (k := 0) ag120 rfl r2 rfl) rfl ?_
  refine GoR.op rfl rfl (aOp_lenSlice Tryz.underlying120 rfl (by assumption)) rfl ?_
  refine GoR.op rfl rfl rfl rfl ?_
  refine GoR.end ?_
  refine Go.block noJ_ok ?_
  refine Go.loopKeep (fun i : Nat => [(1, .int .i64 part), (2, .func (.func fid) [] caps), (6, .ptr h.next 0), (7, .ptr h1.next 0), (14, .ptr h3.next 0), (22, sl), (23, .int .i64 l.length), (24, .int .i64 (i : Nat))])
   (fun q i h' => q + i = l.length ∧ Ext h h' ∧ Has h' h.next (.cells .plain [.int .i64 0, .int .i64 0] 29) ∧ Has h' h1.next (.cells .plain (spC (joinL (vs.flatMap (spanE R part m) ++ (l.take i).map fun f => (m f, m f)))) 29) ∧ Has h' h3.next (.iter bm L.length (vs.map AMapE.born ++ [en.born]) L.length)) (n := l.length) 0 ⟨rfl, rfl, rfl, rfl, rfl, rfl, rfl, rfl, trivial⟩ ⟨rfl, e0, f0, by simpa using f2, f5⟩ ?_
  clear e0 f0 f2 f5
  rintro q i hc' ⟨hq, e0, f0, f2, f5⟩ again2
  obtain ⟨acc, hacc⟩ : ∃ acc, joinL (vs.flatMap (spanE R part m) ++ (l.take i).map fun f => (m f, m f)) = acc := ⟨_, rfl⟩
  rw [hacc] at f2
  have hce := e0.1
  by_cases hi : i < l.length
  ·obtain ⟨f, hf⟩ : ∃ f, l[i]? = some f := ⟨l[i], by simp [hi]⟩
   have hfm := List.mem_of_getElem? hf
   have hfa : f ∈ atPart R.known part := mem_atPart.2 ⟨fs, l, q5, hl, hfm⟩
   have p5 := p4.ext e0
   obtain ⟨b2, o2, r3, r4⟩ := p5.at (i := i) (l := f.cells) (by rw [List.getElem?_map, hf]; rfl)
   rw [List.length_map] at r3
   have hf14 : f.cells.length = 14 := by
    have := r4.2
    exact loadCells_len this
   have hfs := ft_scal f
   have hfsm : sameA (.agg f.cells) (.agg f.cells) = true := by
    have : f.cells = i64s ([f.x.height, f.x.stiff, f.x.rise, f.x.full] ++ (f.hs ++ List.replicate (10 - f.hs.length) 0)) := by
     unfold Ft.cells Pc.cells i64s
     simp
    rw [this]
    exact same_ints _
   have hmf := hm f hfa
   have hcf := fun h' e => hc f h' hfa e
   have hin1 : InSp acc := by
    rw [← hacc]
    refine joinL_in fun p hp => ?_
    rcases List.mem_append.1 hp with hp | hp
    ·obtain ⟨en', he', hp⟩ := List.mem_flatMap.1 hp
     exact hin en' (hperm.mem_iff.1 (by simp [he'])) p hp
    ·obtain ⟨f', hf', rfl⟩ := List.mem_map.1 hp
     have := hm f' (mem_atPart.2 ⟨fs, l, q5, hl, List.mem_of_mem_take hf'⟩)
     exact ⟨this.2, this.1⟩
   have hnx : joinL (vs.flatMap (spanE R part m) ++ (l.take (i + 1)).map fun f => (m f, m f)) = joinP acc (m f, m f) := by
    rw [List.take_add_one, hf, Option.toList_some, List.map_append, ← List.append_assoc]
    exact (joinL_app _ _).trans (by rw [hacc])
   have hsm2 : sameA (.agg (spC acc)) (.agg (spC acc)) = true := sameA_agg2 _ _
   unfold spC at f2 hsm2
   clear p5 hent
   refine Go.seq noJ_ok ?_
   refine Go.region noJ_ok rfl ?_
   refine GoR.op rfl rfl (aOp_lss rfl rfl (r := true) (decide_eq_true (by omega))) rfl ?_
   refine GoR.end ?_
   refine Go.seq noJ_ok ?_
   refine Go.cond noJ_ok (b := true) rfl ?_
   refine Go.code noJ_ok ?_
   refine Go.seq noJ_ok ?_
   refine Go.block noJ_ok ?_
   refine Go.seq noJ_ok ?_
   refine Go.region noJ_ok rfl ?_
   refine GoR.op rfl rfl (aOp_indexAddr (i := i) Tryz.underlying120 sz87 rfl (by assumption) rfl (Nat.ble_eq_true_of_le (by omega))) rfl ?_
   refine GoR.op rfl rfl (aOp_loadE ag87 sz87 rfl (r4.ext (Ext.refl _))) rfl ?_
   refine GoR.alloc rfl rfl rfl zt87 rfl rfl fun h7 x7 f7 => ?_
   have := e0.1
   have := f0.1
   have := f5.1
   have := f2.1
   replace f0 := f0.ext x7
   replace f5 := f5.ext x7
   replace f2 := f2.ext x7
   replace e0 := e0.trans x7
   have := f7.1
   refine GoR.store rfl rfl rfl rfl rfl rfl f7 rfl sz87 (beq_len hf14) hfs (splice_whole hf14.symm) fun h8 u8 => ?_
   replace f7 := u8.has f7
   replace f0 := f0.upd u8 (by omega)
   replace f5 := f5.upd u8 (by omega)
   replace f2 := f2.upd u8 (by omega)
   replace e0 := e0.upd u8 (by omega)
   refine GoR.end ?_
   refine Go.drawnE plan53_0 ?_
   refine GoE.quiet rfl rfl (ld29 rfl f2 rfl) rfl ?_
   refine GoE.quiet rfl rfl rfl rfl ?_
   refine GoE.quiet rfl rfl (ld87 rfl f7 (slice_all hf14)) rfl ?_
   refine GoE.call rfl rfl (aOp_callVal rfl hfid rfl) (hcf _ e0) (dropF_drop (show bit? 6 2 = true from rfl) (dropF_drop (show bit? 6 1 = true from rfl) (dropF_keep (show bit? 6 0 = false from rfl) rfl))) ?_ (by rintro _ _ ⟨q, _⟩; cases q)
   rintro v9 h9 ⟨q, x9⟩
   cases q
   replace f7 := f7.ext x9
   replace f0 := f0.ext x9
   replace f5 := f5.ext x9
   replace f2 := f2.ext x9
   replace e0 := e0.trans x9
   refine ⟨(rck (h2 := h9) rfl (ld29 rfl f2 rfl) recheck_nil), _, rfl, ?_⟩
   refine GoE.call rfl rfl (aOp_callFunc aFunc102 rfl) (one_ok) (dropF_keep (show bit? 14 0 = false from rfl) rfl) ?_ (by rintro _ _ ⟨q, _⟩; cases q)
   rintro v10 h10 ⟨q, x10⟩
   cases q
   replace f7 := f7.ext x10
   replace f0 := f0.ext x10
   replace f5 := f5.ext x10
   replace f2 := f2.ext x10
   replace e0 := e0.trans x10
   refine ⟨(rck (h2 := h10) rfl (ld29 rfl f2 rfl) recheck_nil), _, rfl, ?_⟩
   refine GoE.buildSl rfl rfl (ps := [(0, .agg [.int .i64 acc.1, .int .i64 acc.2]), (1, .agg (spC (m f, m f)))]) (cs := spC acc ++ spC (m f, m f)) Tryz.underlying147 rfl sz29 zt29 rfl rfl rfl (dropF_drop (show bit? 31 0 = true from rfl) rfl) rfl fun h11 x11 f11 => ?_
   have := e0.1
   have := f7.1
   have := f0.1
   have := f5.1
   have := f2.1
   replace f7 := f7.ext x11
   replace f0 := f0.ext x11
   replace f5 := f5.ext x11
   replace f2 := f2.ext x11
   replace e0 := e0.trans x11
   have := f11.1
   refine ⟨recheck_nil, ?_⟩
   refine GoE.call rfl rfl (aOp_callFunc aFunc101 rfl) (join_ok (L := [acc, (m f, m f)]) (sl2 (by assumption)) (by simp)) rfl ?_ (by rintro _ _ ⟨q, _⟩; cases q)
   rintro v12 h12 ⟨q, x12⟩
   cases q
   replace f0 := f0.ext x12
   replace f5 := f5.ext x12
   replace f2 := f2.ext x12
   replace e0 := e0.trans x12
   refine ⟨recheck_nil, _, rfl, ?_⟩
   refine GoE.store rfl rfl rfl rfl rfl rfl rfl f2 rfl sz29 rfl rfl rfl fun h13 u13 => ?_
   replace f0 := f0.upd u13 (by omega)
   replace f5 := f5.upd u13 (by omega)
   replace f2 := u13.has f2
   replace e0 := e0.upd u13 (by omega)
   refine ⟨recheck_nil, ?_⟩
   refine GoE.end rfl ?_
   refine Go.inBlock noJ_ok ?_
   refine Go.region noJ_ok rfl ?_
   refine GoR.op rfl rfl (aOp_add rfl rfl (by constructor <;> omega) rfl) rfl ?_
   refine GoR.op rfl rfl rfl rfl ?_
   refine GoR.end ?_
   rw [joinL_two hin1] at f2
   exact again2 (q - 1) (i + 1) _ _ (by omega) ⟨rfl, rfl, rfl, rfl, rfl, rfl, rfl, rfl, trivial⟩ ⟨by omega, e0, f0, by rw [hnx]; exact f2, f5⟩
  ·have hin1 : i = l.length := by omega
   subst hin1
   rw [List.take_length, ← hspE] at hacc
   have hnx : joinL ((vs ++ [en]).flatMap (spanE R part m)) = acc := by rw [List.flatMap_append, ← hacc]; simp
   clear hent
   refine Go.seq noJ_ok ?_
   refine Go.region noJ_ok rfl ?_
   refine GoR.op rfl rfl (aOp_lss rfl rfl (r := false) (decide_eq_false (by omega))) rfl ?_
   refine GoR.end ?_
   refine Go.seq noJ_ok ?_
   refine Go.cond noJ_ok (b := false) rfl ?_
   refine Go.code noJ_ok ?_
   refine Go.inBlock noJ_ok ?_
   exact again (n - 1) (vs ++ [en], ra ++ rb) _ _ (by simp at hn; omega) ⟨rfl, rfl, rfl, rfl, rfl, trivial⟩ ⟨by simp at hn ⊢; omega, hperm2, e0, f0, by dsimp only; rw [hnx]; exact f2, by simpa using f5⟩
end Go.Proofs.YtkcimfopboelaaaGreat

namespace Go.Proofs.YtkcimfopboelaaaGreat
open Go Go.AbsE
set_option linter.unusedSimpArgs false
set_option maxRecDepth 100000
set_option maxHeartbeats 0
set_option linter.unusedVariables false
theorem esN_map {β : Type} {L : List (List Int × AVal)} {K : List (List (List Ft))} (hl : L.length = K.length) (g : List (List Ft) → β) : (esN L).map (fun en => g ((K[en.born]?).getD [])) = K.map g := by
 have := esN_flat hl (fun parts => [g parts])
 rw [flat_one, flat_one] at this
 exact this
theorem all_map {α β : Type} {p : β → Bool} {f : α → β} (l : List α) : (l.map f).all p = l.all fun x => p (f x) := by rw [List.all_map]; rfl
theorem any_map {α β : Type} {p : β → Bool} {f : α → β} (l : List α) : (l.map f).any p = l.any fun x => p (f x) := by rw [List.any_map]; rfl
theorem fits_in {R : RoadV} {h : AH} {sl : AVal} {l : List Ft} (p : SliceOf h 14 sl (l.map Ft.cells)) {f : Ft} (hf : f ∈ l) : f.cells.length = 14 := by
 obtain ⟨i, hi⟩ := List.mem_iff_getElem?.1 hf
 obtain ⟨b2, o2, r3, r4⟩ := p.at (i := i) (l := f.cells) (by rw [List.getElem?_map, hi]; rfl)
 exact loadCells_len r4.2
theorem not142_ok {fid : FuncId} {caps : List AVal} {fn : Func} (hfid : aFunc Tryz.prog fid = some fn) {f : Ft} (hf14 : f.cells.length = 14) {b : Bool} {bs : Nat} {h : AH} (f0 : Has h bs (.cells .plain [.func (.func fid) [] caps] 135))
  (hc : ∀ h', Ext h h' → Runs Tryz.prog fid ([.agg f.cells] ++ caps) h' (fun en h'' => en = .ret (.bool b) ∧ Ext h' h'')) :
  Runs Tryz.prog 142 [.agg f.cells, .ptr bs 0] h (fun en h' => en = .ret (.bool (!b)) ∧ Ext h h') := by
 have hb := f0.1
 have e0 : Ext h h := Ext.refl _
 refine Runs.intro aFunc142 rfl rfl rfl rfl fun rest => ?_
 refine Go.seq noJ_ok ?_
 refine Go.region noJ_ok rfl ?_
 refine GoR.box rfl rfl rfl rfl rfl rfl fun h1 x1 f1 => ?_
 replace f0 := f0.ext x1
 replace e0 := e0.trans x1
 refine GoR.op rfl rfl rfl rfl ?_
 refine GoR.end ?_
 refine Go.seq noJ_ok ?_
 refine Go.region noJ_ok rfl ?_
 refine GoR.op rfl rfl (ld135 rfl f0 rfl) rfl ?_
 refine GoR.op rfl rfl (ld87 rfl f1 (slice_all hf14)) rfl ?_
 refine GoR.call rfl rfl (aOp_callVal rfl hfid rfl) (hc _ e0) ?_ (by rintro _ _ ⟨q, _⟩; cases q)
 rintro v2 h2 ⟨q, x2⟩
 cases q
 refine ⟨_, rfl, ?_⟩
 replace e0 := e0.trans x2
 iterate 2 refine GoR.op rfl rfl rfl rfl ?_
 refine GoR.end ?_
 exact Go.ret noJ_ok (ret_end (aResult_of Tryz.func142 rfl rfl) ⟨rfl, e0⟩)
def allE (R : RoadV) (s : Ft → Bool) (en : AMapE) : Bool := ((R.known[en.born]?).getD []).all fun fs => fs.all s
theorem allE_is {R : RoadV} {L : List (List Int × AVal)} (hl : L.length = R.known.length) (s : Ft → Bool) : alwaysV R.known s = (esN L).all (allE R s) := by
 have := esN_map hl (fun parts : List (List Ft) => parts.all fun fs => fs.all s)
 have h2 := congrArg (fun l => l.all id) this
 simp only [all_map, id] at h2
 exact h2.symm
theorem always_ok {R : RoadV} (O : R.Ok) {h : AH} {lo bm : Nat} {L : List (List Int × AVal)} (K : KnownAt R h lo bm L) {fid : FuncId} {caps : List AVal} {fn : Func} (hfid : aFunc Tryz.prog fid = some fn) (s : Ft → Bool)
  (hc : ∀ f i h', f ∈ atPart R.known i → Ext h h' → Runs Tryz.prog fid ([.agg f.cells] ++ caps) h' (fun en h'' => en = .ret (.bool (s f)) ∧ Ext h' h'')) :
  Runs Tryz.prog 105 [.map bm, .func (.func fid) [] caps] h (fun en h' => en = .ret (.bool (alwaysV R.known s)) ∧ Ext h h') := by
 have hal := allE_is (R := R) K.len s
 have hborn := esN_born (L := L)
 have hdist := esN_dist L
 have hKm := K.m
 have hblt := hKm.1
 have hnp := O.np
 rw [hal]
 have e0 : Ext h h := Ext.refl _
 refine Runs.intro aFunc105 rfl rfl rfl rfl fun rest => ?_
 refine Go.seq noJ_ok ?_
 refine Go.region noJ_ok rfl ?_
 refine GoR.box rfl rfl rfl rfl rfl rfl fun h0 x0 f0 => ?_
 have := e0.1
 have := hKm.1
 replace hKm := hKm.ext x0
 replace e0 := e0.trans x0
 have := f0.1
 refine GoR.op rfl rfl rfl rfl ?_
 refine GoR.end ?_
 refine Go.seq noJ_ok ?_
 refine Go.region noJ_ok rfl ?_
 iterate 2 refine GoR.op rfl rfl rfl rfl ?_
 refine GoR.end ?_
 iterate 2 refine Go.seq noJ_ok ?_
 refine Go.region noJ_ok rfl ?_
 refine GoR.op rfl rfl rfl rfl ?_
 refine GoR.rangeM rfl rfl rfl Tryz.underlying80 rfl (mapB_has hKm) rfl rfl fun h5 x5 f5 => ?_
 have hl0 := f0.1
 replace f0 := f0.ext x5
 replace e0 := e0.trans x5
 clear hKm
 have hKm := K.m
 have hl5 := f5.1
 refine GoR.end ?_
 refine Go.block noJ_ok ?_
 refine Go.loopKeep (fun _ : List AMapE × List AMapE => [(3, .ptr h.next 0), (5, .func (.func 142) [] [.ptr h.next 0]), (12, .ptr h0.next 0)])
  (fun n vr h' => vr.2.length = n ∧ (vr.1 ++ vr.2).Perm (esN L) ∧ Ext h h' ∧ Has h' h.next (.cells .plain [.func (.func fid) [] caps] 135) ∧ Has h' h0.next (.iter bm L.length (vr.1.map AMapE.born) L.length) ∧ vr.1.all (allE R s) = true) (n := (esN L).length) ([], esN L) ⟨rfl, rfl, rfl, trivial⟩ ⟨rfl, .refl _, e0, f0, f5, rfl⟩ ?_
 clear e0 f0 f5
 rintro n ⟨vs, rs⟩ hh ⟨hn, hperm, e0, f0, f5, hvs⟩ again
 dsimp only at hn hperm f5 hvs
 refine Go.seq noJ_ok ?_
 refine Go.beginR rfl (Go.nextM rfl rfl f5 (mapB_has (hKm.ext e0)) hborn hborn K.kv (fun hall => Go.inRegion noJ_ok ?_) (fun en kv hen hnew hk h6 u6 => Go.inRegion noJ_ok ?_))
 ·have hrs := perm_over hperm hdist hall
  subst hrs
  rw [List.append_nil] at hperm
  have hfin : (esN L).all (allE R s) = true := by
   rw [List.all_eq_true] at hvs ⊢
   exact fun x hx => hvs x (hperm.mem_iff.2 hx)
  rw [hfin]
  clear hKm
  refine GoR.op rfl rfl rfl rfl ?_
  refine GoR.end ?_
  refine Go.seq noJ_ok ?_
  refine Go.cond noJ_ok (b := false) rfl ?_
  refine Go.code noJ_ok ?_
  refine Go.seq noJ_ok ?_
  refine Go.region noJ_ok rfl ?_
  refine GoR.op rfl rfl rfl rfl ?_
  refine GoR.end ?_
  exact Go.ret noJ_ok (ret_end (aResult_of Tryz.func105 rfl rfl) ⟨rfl, e0⟩)
 ·obtain ⟨ra, rb, rfl, hperm2⟩ := perm_pick hperm hen hnew
  obtain ⟨x, fs, q1, q2, q3, q4, q5⟩ := K.entry hen
  replace f5 := u6.has f5
  replace f0 := f0.upd u6 (by omega)
  replace e0 := e0.upd u6 (by omega)
  obtain ⟨sls, p1, p2, p3⟩ := K.parts en.born x fs q1 q2
  rw [← q4] at p2
  have hfsl : fs.length = R.ps.length := (known_parts q5).1
  have hlv := (p2.ext e0).len
  rw [List.length_map] at hlv
  have hEn : allE R s en = fs.all fun fs => fs.all s := by unfold allE; rw [q2]; rfl
  have hMe := mapB_has (hKm.ext e0)
  have hent : ∀ {t : Tr AVal} {dst : Option Tmp} {tt : TypeId} {pos : String} {after : Array Edge} {guard : Option (Nat × Bool)} {x : Operand}, ev t x = some (.ptr h0.next 0) → aOp Tryz.prog t h6 ⟨dst, .entry x, tt, pos, after, guard⟩ = some (.val (.tuple [kv, en.val]) h6) := fun hx => aOp_entry hx f5 hMe hen hdist hk
  have hl0 := f0.1
  have hl5 := f5.1
  clear hKm
  refine GoR.op rfl rfl rfl rfl ?_
  refine GoR.end ?_
  refine Go.seq noJ_ok ?_
  refine Go.cond noJ_ok (b := true) rfl ?_
  refine Go.code noJ_ok ?_
  refine Go.block noJ_ok ?_
  refine Go.seq noJ_ok ?_
  refine Go.region noJ_ok rfl ?_
  refine GoR.op rfl rfl (hent rfl) rfl ?_
  iterate 2 refine GoR.op rfl rfl rfl rfl ?_
  refine GoR.end ?_
  refine Go.seq noJ_ok ?_
  refine Go.region noJ_ok rfl ?_
  refine GoR.op rfl rfl rfl rfl ?_
  refine GoR.op rfl rfl (aOp_lenSlice Tryz.underlying127 rfl (by assumption)) rfl ?_
  refine GoR.op rfl rfl rfl rfl ?_
  refine GoR.end ?_
  refine Go.block noJ_ok ?_
  refine Go.loopKeep (fun i : Nat => [(3, .ptr h.next 0), (5, .func (.func 142) [] [.ptr h.next 0]), (12, .ptr h0.next 0), (17, en.val), (18, .int .i64 sls.length), (19, .int .i64 (i : Nat))])
   (fun q i h' => q + i = sls.length ∧ Ext h h' ∧ Has h' h.next (.cells .plain [.func (.func fid) [] caps] 135) ∧ Has h' h0.next (.iter bm L.length (vs.map AMapE.born ++ [en.born]) L.length) ∧ ∀ l, l ∈ fs.take i → l.all s = true) (n := sls.length) 0 ⟨rfl, rfl, rfl, rfl, rfl, rfl, trivial⟩ ⟨rfl, e0, f0, f5, fun l q => by simp at q⟩ ?_
  clear e0 f0 f5 hent
  rintro q i hc' ⟨hq, e0, f0, f5, hok⟩ again2
  have hce := e0.1
  have hb0 := f0.1
  by_cases hi : i < sls.length
  ·obtain ⟨sl, hsl⟩ : ∃ sl, sls[i]? = some sl := ⟨sls[i], by simp [hi]⟩
   obtain ⟨l, hl⟩ : ∃ l, fs[i]? = some l := ⟨fs[i]'(by omega), by simp⟩
   have p4 := p3 i sl l hsl hl
   have hfew := known_few O q5 hl
   obtain ⟨b1, o1, r1, r2⟩ := (p2.ext e0).at (i := i) (l := [sl]) (by rw [List.getElem?_map, hsl]; rfl)
   rw [List.length_map] at r1
   have hco : ∀ (h9 : AH), Ext h h9 → Has h9 h.next (.cells .plain [.func (.func fid) [] caps] 135) → Runs Tryz.prog 143 [sl, .func (.func 142) [] [.ptr h.next 0]] h9 (fun en h' => en = .ret (.bool (l.any fun f => !s f)) ∧ Ext h9 h') := fun h9 e f => cont143_ok (caps := [.ptr h.next 0]) aFunc142 _ (p4.ext e) (by omega) fun x h' hx e' => not142_ok hfid (fits_in (R := R) p4 hx) (f.ext e') fun h'' e'' => hc x i h'' (mem_atPart.2 ⟨fs, l, q5, hl, hx⟩) ((e.trans e').trans e'')
   cases hb : l.all s with
   | false =>
    have hany : (l.any fun f => !s f) = true := by rw [← any_not] at hb; simpa using hb
    rw [hany] at hco
    have hfalse : (esN L).all (allE R s) = false := by
     rw [List.all_eq_false]
     refine ⟨en, hen, ?_⟩
     rw [hEn]
     intro z
     rw [List.all_eq_true] at z
     have := z l (List.mem_of_getElem? hl)
     rw [hb] at this
     cases this
    rw [hfalse]
    refine Go.seq noJ_ok ?_
    refine Go.region noJ_ok rfl ?_
    refine GoR.op rfl rfl (aOp_lss rfl rfl (r := true) (decide_eq_true (by omega))) rfl ?_
    refine GoR.end ?_
    refine Go.seq noJ_ok ?_
    refine Go.cond noJ_ok (b := true) rfl ?_
    refine Go.code noJ_ok ?_
    refine Go.seq noJ_ok ?_
    refine Go.block noJ_ok ?_
    refine Go.seq noJ_ok ?_
    refine Go.region noJ_ok rfl ?_
    refine GoR.op rfl rfl (aOp_indexAddr (i := i) Tryz.underlying127 sz120 rfl (by assumption) rfl (Nat.ble_eq_true_of_le (by omega))) rfl ?_
    refine GoR.op rfl rfl (aOp_loadE1 (k := 0) ag120 rfl r2 rfl) rfl ?_
    refine GoR.op rfl rfl rfl rfl ?_
    refine GoR.end ?_
    refine Go.seq noJ_ok ?_
    refine Go.region noJ_ok rfl ?_
    iterate 2 refine GoR.op rfl rfl rfl rfl ?_
    refine GoR.call rfl rfl (aOp_callFunc aFunc143 rfl) (hco _ e0 f0) ?_ (by rintro _ _ ⟨q, _⟩; cases q)
    rintro v7 h7 ⟨q, x7⟩
    cases q
    refine ⟨_, rfl, ?_⟩
    replace f0 := f0.ext x7
    replace f5 := f5.ext x7
    replace e0 := e0.trans x7
    refine GoR.end ?_
    refine Go.cond noJ_ok (b := true) rfl ?_
    refine Go.seq noJ_ok ?_
    refine Go.region noJ_ok rfl ?_
    refine GoR.op rfl rfl rfl rfl ?_
    refine GoR.end ?_
    exact Go.ret noJ_ok (ret_end (aResult_of Tryz.func105 rfl rfl) ⟨rfl, e0⟩)
   | true =>
    have hany : (l.any fun f => !s f) = false := by rw [← any_not] at hb; simpa using hb
    rw [hany] at hco
    refine Go.seq noJ_ok ?_
    refine Go.region noJ_ok rfl ?_
    refine GoR.op rfl rfl (aOp_lss rfl rfl (r := true) (decide_eq_true (by omega))) rfl ?_
    refine GoR.end ?_
    refine Go.seq noJ_ok ?_
    refine Go.cond noJ_ok (b := true) rfl ?_
    refine Go.code noJ_ok ?_
    refine Go.seq noJ_ok ?_
    refine Go.block noJ_ok ?_
    refine Go.seq noJ_ok ?_
    refine Go.region noJ_ok rfl ?_
    refine GoR.op rfl rfl (aOp_indexAddr (i := i) Tryz.underlying127 sz120 rfl (by assumption) rfl (Nat.ble_eq_true_of_le (by omega))) rfl ?_
    refine GoR.op rfl rfl (aOp_loadE1 (k := 0) ag120 rfl r2 rfl) rfl ?_
    refine GoR.op rfl rfl rfl rfl ?_
    refine GoR.end ?_
    refine Go.seq noJ_ok ?_
    refine Go.region noJ_ok rfl ?_
    iterate 2 refine GoR.op rfl rfl rfl rfl ?_
    refine GoR.call rfl rfl (aOp_callFunc aFunc143 rfl) (hco _ e0 f0) ?_ (by rintro _ _ ⟨q, _⟩; cases q)
    rintro v7 h7 ⟨q, x7⟩
    cases q
    refine ⟨_, rfl, ?_⟩
    replace f0 := f0.ext x7
    replace f5 := f5.ext x7
    replace e0 := e0.trans x7
    refine GoR.end ?_
    refine Go.cond noJ_ok (b := false) rfl ?_
    refine Go.code noJ_ok ?_
    refine Go.inBlock noJ_ok ?_
    refine Go.region noJ_ok rfl ?_
    refine GoR.op rfl rfl (aOp_add rfl rfl (by constructor <;> omega) rfl) rfl ?_
    refine GoR.op rfl rfl rfl rfl ?_
    refine GoR.end ?_
    refine again2 (q - 1) (i + 1) _ _ (by omega) ⟨rfl, rfl, rfl, rfl, rfl, rfl, trivial⟩ ⟨by omega, e0, f0, f5, fun l' hl' => ?_⟩
    rw [List.take_add_one, hl, Option.toList_some, List.mem_append, List.mem_singleton] at hl'
    rcases hl' with hl' | rfl
    ·exact hok l' hl'
    ·exact hb
  ·have hin1 : i = fs.length := by omega
   rw [hin1, List.take_length] at hok
   have hyes : allE R s en = true := by rw [hEn, List.all_eq_true]; exact hok
   refine Go.seq noJ_ok ?_
   refine Go.region noJ_ok rfl ?_
   refine GoR.op rfl rfl (aOp_lss rfl rfl (r := false) (decide_eq_false (by omega))) rfl ?_
   refine GoR.end ?_
   refine Go.seq noJ_ok ?_
   refine Go.cond noJ_ok (b := false) rfl ?_
   refine Go.code noJ_ok ?_
   refine Go.inBlock noJ_ok ?_
   exact again (n - 1) (vs ++ [en], ra ++ rb) _ _ (by simp at hn; omega) ⟨rfl, rfl, rfl, trivial⟩ ⟨by simp at hn ⊢; omega, hperm2, e0, f0, by simpa using f5, by dsimp only; rw [List.all_append, hvs]; simp [hyes]⟩
end Go.Proofs.YtkcimfopboelaaaGreat

namespace Go.Proofs.YtkcimfopboelaaaGreat
open Go Go.AbsE
set_option linter.unusedSimpArgs false
set_option maxRecDepth 100000
set_option maxHeartbeats 0
set_option linter.unusedVariables false
theorem never144_ok {fid : FuncId} {caps : List AVal} {fn : Func} (hfid : aFunc Tryz.prog fid = some fn) {sl : AVal} {l : List Ft} {s : Ft → Bool} {bs : Nat} {h : AH} (f0 : Has h bs (.cells .plain [.func (.func fid) [] caps] 135)) (hs : SliceOf h 14 sl (l.map Ft.cells)) (hn : l.length ≤ 27)
  (hc : ∀ f h', f ∈ l → Ext h h' → Runs Tryz.prog fid ([.agg f.cells] ++ caps) h' (fun en h'' => en = .ret (.bool (s f)) ∧ Ext h' h'')) :
  Runs Tryz.prog 144 [sl, .ptr bs 0] h (fun en h' => en = .ret (.bool (!l.any s)) ∧ Ext h h') := by
 have hb := f0.1
 have hco : ∀ (h9 : AH), Ext h h9 → Runs Tryz.prog 143 [sl, .func (.func fid) [] caps] h9 (fun en h' => en = .ret (.bool (l.any s)) ∧ Ext h9 h') := fun h9 e => cont143_ok hfid s (hs.ext e) (by omega) fun x h' hx e' => hc x h' hx (e.trans e')
 have e0 : Ext h h := Ext.refl _
 refine Runs.intro aFunc144 rfl rfl rfl rfl fun rest => ?_
 refine Go.seq noJ_ok ?_
 refine Go.region noJ_ok rfl ?_
 refine GoR.op rfl rfl rfl rfl ?_
 refine GoR.end ?_
 refine Go.seq noJ_ok ?_
 refine Go.region noJ_ok rfl ?_
 refine GoR.op rfl rfl rfl rfl ?_
 refine GoR.op rfl rfl (ld135 rfl f0 rfl) rfl ?_
 refine GoR.call rfl rfl (aOp_callFunc aFunc143 rfl) (hco _ e0) ?_ (by rintro _ _ ⟨q, _⟩; cases q)
 rintro v1 h1 ⟨q, x1⟩
 cases q
 refine ⟨_, rfl, ?_⟩
 replace e0 := e0.trans x1
 iterate 2 refine GoR.op rfl rfl rfl rfl ?_
 refine GoR.end ?_
 exact Go.ret noJ_ok (ret_end (aResult_of Tryz.func144 rfl rfl) ⟨rfl, e0⟩)
def anyE (R : RoadV) (s : Ft → Bool) (en : AMapE) : Bool := ((R.known[en.born]?).getD []).all fun fs => fs.any s
theorem anyE_is {R : RoadV} {L : List (List Int × AVal)} (hl : L.length = R.known.length) (s : Ft → Bool) : perhapsV R.known s = (esN L).any (anyE R s) := by
 have := esN_map hl (fun parts : List (List Ft) => parts.all fun fs => fs.any s)
 have h2 := congrArg (fun l => l.any id) this
 simp only [any_map, id] at h2
 exact h2.symm
theorem perhaps_ok {R : RoadV} (O : R.Ok) {h : AH} {lo bm : Nat} {L : List (List Int × AVal)} (K : KnownAt R h lo bm L) {fid : FuncId} {caps : List AVal} {fn : Func} (hfid : aFunc Tryz.prog fid = some fn) (s : Ft → Bool)
  (hc : ∀ f i h', f ∈ atPart R.known i → Ext h h' → Runs Tryz.prog fid ([.agg f.cells] ++ caps) h' (fun en h'' => en = .ret (.bool (s f)) ∧ Ext h' h'')) :
  Runs Tryz.prog 106 [.map bm, .func (.func fid) [] caps] h (fun en h' => en = .ret (.bool (perhapsV R.known s)) ∧ Ext h h') := by
 have hal := anyE_is (R := R) K.len s
 have hborn := esN_born (L := L)
 have hdist := esN_dist L
 have hKm := K.m
 have hblt := hKm.1
 have hnp := O.np
 rw [hal]
 have e0 : Ext h h := Ext.refl _
 refine Runs.intro aFunc106 rfl rfl rfl rfl fun rest => ?_
 refine Go.seq noJ_ok ?_
 refine Go.region noJ_ok rfl ?_
 refine GoR.box rfl rfl rfl rfl rfl rfl fun h0 x0 f0 => ?_
 have := e0.1
 have := hKm.1
 replace hKm := hKm.ext x0
 replace e0 := e0.trans x0
 have := f0.1
 refine GoR.op rfl rfl rfl rfl ?_
 refine GoR.end ?_
 refine Go.seq noJ_ok ?_
 refine Go.region noJ_ok rfl ?_
 iterate 2 refine GoR.op rfl rfl rfl rfl ?_
 refine GoR.end ?_
 iterate 2 refine Go.seq noJ_ok ?_
 refine Go.region noJ_ok rfl ?_
 refine GoR.op rfl rfl rfl rfl ?_
 refine GoR.rangeM rfl rfl rfl Tryz.underlying80 rfl (mapB_has hKm) rfl rfl fun h5 x5 f5 => ?_
 have hl0 := f0.1
 replace f0 := f0.ext x5
 replace e0 := e0.trans x5
 clear hKm
 have hKm := K.m
 have hl5 := f5.1
 refine GoR.end ?_
 refine Go.block noJ_ok ?_
 refine Go.loopKeep (fun _ : List AMapE × List AMapE => [(3, .ptr h.next 0), (5, .func (.func 144) [] [.ptr h.next 0]), (10, .ptr h0.next 0)])
  (fun n vr h' => vr.2.length = n ∧ (vr.1 ++ vr.2).Perm (esN L) ∧ Ext h h' ∧ Has h' h.next (.cells .plain [.func (.func fid) [] caps] 135) ∧ Has h' h0.next (.iter bm L.length (vr.1.map AMapE.born) L.length) ∧ vr.1.any (anyE R s) = false) (n := (esN L).length) ([], esN L) ⟨rfl, rfl, rfl, trivial⟩ ⟨rfl, .refl _, e0, f0, f5, rfl⟩ ?_
 clear e0 f0 f5
 rintro n ⟨vs, rs⟩ hh ⟨hn, hperm, e0, f0, f5, hvs⟩ again
 dsimp only at hn hperm f5 hvs
 refine Go.seq noJ_ok ?_
 refine Go.beginR rfl (Go.nextM rfl rfl f5 (mapB_has (hKm.ext e0)) hborn hborn K.kv (fun hall => Go.inRegion noJ_ok ?_) (fun en kv hen hnew hk h6 u6 => Go.inRegion noJ_ok ?_))
 ·have hrs := perm_over hperm hdist hall
  subst hrs
  rw [List.append_nil] at hperm
  have hfin : (esN L).any (anyE R s) = false := by
   rw [List.any_eq_false] at hvs ⊢
   exact fun x hx => hvs x (hperm.mem_iff.2 hx)
  rw [hfin]
  clear hKm
  refine GoR.op rfl rfl rfl rfl ?_
  refine GoR.end ?_
  refine Go.seq noJ_ok ?_
  refine Go.cond noJ_ok (b := false) rfl ?_
  refine Go.code noJ_ok ?_
  refine Go.seq noJ_ok ?_
  refine Go.region noJ_ok rfl ?_
  refine GoR.op rfl rfl rfl rfl ?_
  refine GoR.end ?_
  exact Go.ret noJ_ok (ret_end (aResult_of Tryz.func106 rfl rfl) ⟨rfl, e0⟩)
 ·obtain ⟨ra, rb, rfl, hperm2⟩ := perm_pick hperm hen hnew
  obtain ⟨x, fs, q1, q2, q3, q4, q5⟩ := K.entry hen
  replace f5 := u6.has f5
  replace f0 := f0.upd u6 (by omega)
  replace e0 := e0.upd u6 (by omega)
  obtain ⟨sls, p1, p2, p3⟩ := K.parts en.born x fs q1 q2
  rw [← q4] at p2
  have hfsl : fs.length = R.ps.length := (known_parts q5).1
  have hEn : anyE R s en = fs.all fun fs => fs.any s := by unfold anyE; rw [q2]; rfl
  have hMe := mapB_has (hKm.ext e0)
  have hent : ∀ {t : Tr AVal} {dst : Option Tmp} {tt : TypeId} {pos : String} {after : Array Edge} {guard : Option (Nat × Bool)} {x : Operand}, ev t x = some (.ptr h0.next 0) → aOp Tryz.prog t h6 ⟨dst, .entry x, tt, pos, after, guard⟩ = some (.val (.tuple [kv, en.val]) h6) := fun hx => aOp_entry hx f5 hMe hen hdist hk
  have hl0 := f0.1
  have hl5 := f5.1
  clear hKm
  have hsz : SliceOf h 1 en.val ((sls.zip fs).map fun x => [x.1]) := by
   have e : (sls.zip fs).map (fun x => [x.1]) = sls.map fun s => [s] := by
    conv => rhs; rw [← zip_fst p1, List.map_map]
    rfl
   rw [e]
   exact p2
  have hzl : (sls.zip fs).length ≤ 200 := by rw [List.length_zip, p1, Nat.min_self]; omega
  have hco : ∀ (h9 : AH), Ext h h9 → Has h9 h.next (.cells .plain [.func (.func fid) [] caps] 135) → Runs Tryz.prog 100 [en.val, .func (.func 144) [] [.ptr h.next 0]] h9 (fun en h' => en = .ret (.bool ((sls.zip fs).any fun x => !x.2.any s)) ∧ Ext h9 h') := fun h9 e f => cont100_ok (fun x : AVal × List Ft => x.1) (caps := [.ptr h.next 0]) aFunc144 (fun x => !x.2.any s) (hsz.ext e) hzl (fun x h' hx e' => by
   obtain ⟨k, hk⟩ := List.mem_iff_getElem?.1 hx
   obtain ⟨k1, k2⟩ := List.getElem?_zip_eq_some.1 hk
   exact never144_ok hfid (f.ext e') ((p3 k _ _ k1 k2).ext (e.trans e')) (known_few O q5 k2) fun f' h'' hf' e'' => hc f' k h'' (mem_atPart.2 ⟨fs, _, q5, k2, hf'⟩) ((e.trans e').trans e''))
  rw [zip_any (p := fun l : List Ft => !l.any s) p1] at hco
  cases hb : fs.all (fun l => l.any s) with
  | true =>
   have hany : (fs.any fun l => !l.any s) = false := by rw [← any_not] at hb; simpa using hb
   rw [hany] at hco
   have htrue : (esN L).any (anyE R s) = true := List.any_eq_true.2 ⟨en, hen, by rw [hEn]; exact hb⟩
   rw [htrue]
   refine GoR.op rfl rfl rfl rfl ?_
   refine GoR.end ?_
   refine Go.seq noJ_ok ?_
   refine Go.cond noJ_ok (b := true) rfl ?_
   refine Go.code noJ_ok ?_
   refine Go.block noJ_ok ?_
   refine Go.seq noJ_ok ?_
   refine Go.region noJ_ok rfl ?_
   refine GoR.op rfl rfl (hent rfl) rfl ?_
   iterate 2 refine GoR.op rfl rfl rfl rfl ?_
   refine GoR.end ?_
   refine Go.seq noJ_ok ?_
   refine Go.region noJ_ok rfl ?_
   iterate 2 refine GoR.op rfl rfl rfl rfl ?_
   refine GoR.call rfl rfl (aOp_callFunc aFunc100 rfl) (hco _ e0 f0) ?_ (by rintro _ _ ⟨q, _⟩; cases q)
   rintro v7 h7 ⟨q, x7⟩
   cases q
   refine ⟨_, rfl, ?_⟩
   replace f5 := f5.ext x7
   replace f0 := f0.ext x7
   replace e0 := e0.trans x7
   refine GoR.op rfl rfl rfl rfl ?_
   refine GoR.end ?_
   refine Go.cond noJ_ok (b := true) rfl ?_
   refine Go.seq noJ_ok ?_
   refine Go.region noJ_ok rfl ?_
   refine GoR.op rfl rfl rfl rfl ?_
   refine GoR.end ?_
   exact Go.ret noJ_ok (ret_end (aResult_of Tryz.func106 rfl rfl) ⟨rfl, e0⟩)
  | false =>
   have hany : (fs.any fun l => !l.any s) = true := by rw [← any_not] at hb; simpa using hb
   rw [hany] at hco
   refine GoR.op rfl rfl rfl rfl ?_
   refine GoR.end ?_
   refine Go.seq noJ_ok ?_
   refine Go.cond noJ_ok (b := true) rfl ?_
   refine Go.code noJ_ok ?_
   refine Go.block noJ_ok ?_
   refine Go.seq noJ_ok ?_
   refine Go.region noJ_ok rfl ?_
   refine GoR.op rfl rfl (hent rfl) rfl ?_
   iterate 2 refine GoR.op rfl rfl rfl rfl ?_
   refine GoR.end ?_
   refine Go.seq noJ_ok ?_
   refine Go.region noJ_ok rfl ?_
   iterate 2 refine GoR.op rfl rfl rfl rfl ?_
   refine GoR.call rfl rfl (aOp_callFunc aFunc100 rfl) (hco _ e0 f0) ?_ (by rintro _ _ ⟨q, _⟩; cases q)
   rintro v7 h7 ⟨q, x7⟩
   cases q
   refine ⟨_, rfl, ?_⟩
   replace f5 := f5.ext x7
   replace f0 := f0.ext x7
   replace e0 := e0.trans x7
   refine GoR.op rfl rfl rfl rfl ?_
   refine GoR.end ?_
   refine Go.cond noJ_ok (b := false) rfl ?_
   refine Go.code noJ_ok ?_
   refine Go.inBlock noJ_ok ?_
   exact again (n - 1) (vs ++ [en], ra ++ rb) _ _ (by simp at hn; omega) ⟨rfl, rfl, rfl, trivial⟩ ⟨by simp at hn ⊢; omega, hperm2, e0, f0, by simpa using f5, by dsimp only; rw [List.any_append, hvs]; simp [hEn, hb]⟩
theorem go_in {n : Int} {part : Int} : ∀ {zs : List (EV × Int)} {x : Pc} {hs : List Int} {f : Ft} {lo : Int}, (∀ z, z ∈ zs → z.1.Ok n ∧ z.1.lo ≤ z.2 ∧ z.2 ≤ z.1.hi) → x.In lo → fateGo part zs x hs = some f →
  f.x.In (lo + 60 * zs.length) ∧ ∀ v, v ∈ f.hs → v ∈ hs ∨ (-(lo + 60 * zs.length) ≤ v ∧ v ≤ 60)
 | [], x, hs, f, lo, _, hx, h => by
  unfold fateGo at h
  cases h
  exact ⟨by simpa using hx, fun v hv => .inl hv⟩
 | z :: r, x, hs, f, lo, hz, hx, h => by
  unfold fateGo at h
  split at h
  ·obtain ⟨z1, z2, z3⟩ := hz z List.mem_cons_self
   have hy := after_in z1 hx z2 z3
   obtain ⟨q1, q2⟩ := go_in (fun z' h' => hz z' (List.mem_cons_of_mem _ h')) hy h
   have e : lo + 60 + 60 * (r.length : Int) = lo + 60 * ((z :: r).length : Int) := by rw [List.length_cons]; omega
   rw [e] at q1 q2
   refine ⟨q1, fun v hv => ?_⟩
   rcases q2 v hv with q | q
   ·rcases List.mem_append.1 q with q | q
    ·exact .inl q
    ·rw [List.mem_singleton] at q
     have a := hy.h
     have b := hy.f
     rw [List.length_cons]
     exact .inr (by omega)
   ·exact .inr q
  ·cases h
theorem zip_ok {R : RoadV} (O : R.Ok) {ls : List Int} (hl : ls ∈ haulsV R.es) : ∀ z, z ∈ R.es.zip ls → z.1.Ok R.ps.length ∧ z.1.lo ≤ z.2 ∧ z.2 ≤ z.1.hi := by
 intro z hz
 obtain ⟨k, hk⟩ := List.mem_iff_getElem?.1 hz
 obtain ⟨k1, k2⟩ := List.getElem?_zip_eq_some.1 hk
 exact ⟨O.e _ (List.mem_of_getElem? k1), (mem_hauls.1 hl).2 k _ _ k1 k2⟩
theorem known_at {R : RoadV} {f : Ft} {i : Nat} (h : f ∈ atPart R.known i) : ∃ ls p x, ls ∈ haulsV R.es ∧ R.can ls = true ∧ R.ps[i]? = some p ∧ x ∈ p.pcs ∧ fateV R.es i x ls = some f := by
 obtain ⟨fs, l, h1, h2, h3⟩ := mem_atPart.1 h
 obtain ⟨ls, p, q1, q2, q3, rfl⟩ := known_fates h1 h2
 obtain ⟨x, q4, q5⟩ := mem_fates.1 h3
 exact ⟨ls, p, x, q1, q2, q3, q4, q5⟩
theorem fate_small {R : RoadV} (O : R.Ok) {ls : List Int} (hl : ls ∈ haulsV R.es) {i : Nat} {p : PV} (hp : R.ps[i]? = some p) {x : Pc} (hx : x ∈ p.pcs) {part : Int} {f : Ft} (hf : fateV R.es part x ls = some f) : f.x.In 600 ∧ f.hs.length = R.es.length ∧ ∀ v, v ∈ f.hs → -600 ≤ v ∧ v ≤ 60 := by
 obtain ⟨q1, q2⟩ := go_in (zip_ok O hl) (pcs_in (O.p p (List.mem_of_getElem? hp)) hx) hf
 have hlen := go_len hf
 rw [List.length_zip, hauls_len hl, Nat.min_self] at hlen
 rw [List.length_zip, hauls_len hl, Nat.min_self] at q1 q2
 have hne := O.ne
 refine ⟨⟨by have := q1.h; omega, q1.s, q1.r, q1.f⟩, by simpa using hlen, fun v hv => ?_⟩
 rcases q2 v hv with q | q
 ·simp at q
 ·omega
theorem known_small {R : RoadV} (O : R.Ok) {f : Ft} {i : Nat} (h : f ∈ atPart R.known i) : f.x.In 600 ∧ f.hs.length = R.es.length ∧ ∀ v, v ∈ f.hs → -600 ≤ v ∧ v ≤ 60 := by
 obtain ⟨ls, p, x, q1, q2, q3, q4, q5⟩ := known_at h
 exact fate_small O q1 q3 q4 q5
theorem known_in {R : RoadV} (O : R.Ok) {f : Ft} {i : Nat} (h : f ∈ atPart R.known i) : f.x.In 600 ∧ f.hs.length ≤ 10 := by
 obtain ⟨q1, q2, _⟩ := known_small O h
 exact ⟨q1, by rw [q2]; exact O.ne⟩
theorem bears103_ok {f : Ft} (h1 : f.x.In 600) (h2 : f.hs.length ≤ 10) {load : Int} (hl : 0 ≤ load ∧ load ≤ 60) {b : Nat} {h : AH} (f0 : Has h b (.cells .plain [.int .i64 load] 3)) : Runs Tryz.prog 103 [.agg f.cells, .ptr b 0] h (fun en h' => en = .ret (.bool (f.x.bears load)) ∧ Ext h h') := by
 have hbl := f0.1
 have := h1.h
 have := h1.f
 have hb := fun h => bears_ok (x := f.x) (load := load) (by omega) h1.s (by omega) (h := h)
 have hfc : f.cells = .int .i64 f.x.height :: .int .i64 f.x.stiff :: .int .i64 f.x.rise :: .int .i64 f.x.full :: i64s (padZ f.hs) := rfl
 unfold Pc.cells at hb
 rw [hfc]
 have e0 : Ext h h := Ext.refl _
 refine Runs.intro aFunc103 rfl rfl rfl rfl fun rest => ?_
 refine Go.seq noJ_ok ?_
 refine Go.region noJ_ok rfl ?_
 refine GoR.box rfl rfl rfl rfl rfl rfl fun h3 x3 f3 => ?_
 replace f0 := f0.ext x3
 replace e0 := e0.trans x3
 refine GoR.op rfl rfl rfl rfl ?_
 refine GoR.end ?_
 refine Go.seq noJ_ok ?_
 refine Go.region noJ_ok rfl ?_
 refine GoR.op rfl rfl (fa87_0 rfl) rfl ?_
 refine GoR.op rfl rfl (ld84 rfl f3 rfl) rfl ?_
 refine GoR.op rfl rfl (ld3 rfl f0 rfl) rfl ?_
 refine GoR.call rfl rfl (aOp_callFunc aFunc104 rfl) (hb _) ?_ (by rintro _ _ ⟨q, _⟩; cases q)
 rintro v4 h4 ⟨q, x4⟩
 cases q
 refine ⟨_, rfl, ?_⟩
 replace e0 := e0.trans x4
 refine GoR.op rfl rfl rfl rfl ?_
 refine GoR.end ?_
 exact Go.ret noJ_ok (ret_end (aResult_of Tryz.func103 rfl rfl) ⟨rfl, e0⟩)
theorem bears113_ok {f : Ft} (h1 : f.x.In 600) (h2 : f.hs.length ≤ 10) {load : Int} (hl : 0 ≤ load ∧ load ≤ 60) {b : Nat} {h : AH} (f0 : Has h b (.cells .plain [.int .i64 load] 3)) : Runs Tryz.prog 113 [.agg f.cells, .ptr b 0] h (fun en h' => en = .ret (.bool (f.x.bears load)) ∧ Ext h h') := by
 have hbl := f0.1
 have := h1.h
 have := h1.f
 have hb := fun h => bears_ok (x := f.x) (load := load) (by omega) h1.s (by omega) (h := h)
 have hfc : f.cells = .int .i64 f.x.height :: .int .i64 f.x.stiff :: .int .i64 f.x.rise :: .int .i64 f.x.full :: i64s (padZ f.hs) := rfl
 unfold Pc.cells at hb
 rw [hfc]
 have e0 : Ext h h := Ext.refl _
 refine Runs.intro aFunc113 rfl rfl rfl rfl fun rest => ?_
 refine Go.seq noJ_ok ?_
 refine Go.region noJ_ok rfl ?_
 refine GoR.box rfl rfl rfl rfl rfl rfl fun h3 x3 f3 => ?_
 replace f0 := f0.ext x3
 replace e0 := e0.trans x3
 refine GoR.op rfl rfl rfl rfl ?_
 refine GoR.end ?_
 refine Go.seq noJ_ok ?_
 refine Go.region noJ_ok rfl ?_
 refine GoR.op rfl rfl (fa87_0 rfl) rfl ?_
 refine GoR.op rfl rfl (ld84 rfl f3 rfl) rfl ?_
 refine GoR.op rfl rfl (ld3 rfl f0 rfl) rfl ?_
 refine GoR.call rfl rfl (aOp_callFunc aFunc104 rfl) (hb _) ?_ (by rintro _ _ ⟨q, _⟩; cases q)
 rintro v4 h4 ⟨q, x4⟩
 cases q
 refine ⟨_, rfl, ?_⟩
 replace e0 := e0.trans x4
 refine GoR.op rfl rfl rfl rfl ?_
 refine GoR.end ?_
 exact Go.ret noJ_ok (ret_end (aResult_of Tryz.func113 rfl rfl) ⟨rfl, e0⟩)
theorem bears67_ok {R : RoadV} (O : R.Ok) {h : AH} {lo bm : Nat} {L : List (List Int × AVal)} (K : KnownAt R h lo bm L) {load : Int} (hl : 0 ≤ load ∧ load ≤ 60) : Runs Tryz.prog 67 [.map bm, .int .i64 load] h (fun en h' => en = .ret (.int .i64 (bearsV R.known load)) ∧ Ext h h') := by
 have ha : ∀ {h9 : AH} {b : Nat}, Ext h h9 → Has h9 b (.cells .plain [.int .i64 load] 3) → Runs Tryz.prog 105 [.map bm, .func (.func 103) [] [.ptr b 0]] h9 (fun en h' => en = .ret (.bool (alwaysV R.known fun f => f.x.bears load)) ∧ Ext h9 h') := fun e f => always_ok O (K.ext e) aFunc103 _ fun f' i h' hf e' => bears103_ok (known_in O hf).1 (known_in O hf).2 hl (f.ext e')
 have hp : ∀ {h9 : AH} {b : Nat}, Ext h h9 → Has h9 b (.cells .plain [.int .i64 load] 3) → Runs Tryz.prog 106 [.map bm, .func (.func 103) [] [.ptr b 0]] h9 (fun en h' => en = .ret (.bool (perhapsV R.known fun f => f.x.bears load)) ∧ Ext h9 h') := fun e f => perhaps_ok O (K.ext e) aFunc103 _ fun f' i h' hf e' => bears103_ok (known_in O hf).1 (known_in O hf).2 hl (f.ext e')
 unfold bearsV
 cases c1 : alwaysV R.known fun f => f.x.bears load with
 | true =>
  rw [c1] at ha
  have e0 : Ext h h := Ext.refl _
  refine Runs.intro aFunc67 rfl rfl rfl rfl fun rest => ?_
  refine Go.seq noJ_ok ?_
  refine Go.region noJ_ok rfl ?_
  refine GoR.box rfl rfl rfl rfl rfl rfl fun h0 x0 f0 => ?_
  replace e0 := e0.trans x0
  refine GoR.op rfl rfl rfl rfl ?_
  refine GoR.end ?_
  refine Go.seq noJ_ok ?_
  refine Go.region noJ_ok rfl ?_
  iterate 2 refine GoR.op rfl rfl rfl rfl ?_
  refine GoR.end ?_
  refine Go.seq noJ_ok ?_
  refine Go.block noJ_ok ?_
  refine Go.seq noJ_ok ?_
  refine Go.region noJ_ok rfl ?_
  iterate 2 refine GoR.op rfl rfl rfl rfl ?_
  refine GoR.call rfl rfl (aOp_callFunc aFunc105 rfl) (ha e0 f0) ?_ (by rintro _ _ ⟨q, _⟩; cases q)
  rintro v1 h1 ⟨q, x1⟩
  cases q
  refine ⟨_, rfl, ?_⟩
  replace f0 := f0.ext x1
  replace e0 := e0.trans x1
  refine GoR.op rfl rfl rfl rfl ?_
  refine GoR.end ?_
  refine Go.cond noJ_ok (b := true) rfl ?_
  refine Go.seq noJ_ok ?_
  refine Go.region noJ_ok rfl ?_
  refine GoR.op rfl rfl rfl rfl ?_
  refine GoR.end ?_
  exact Go.ret noJ_ok (ret_end (aResult_of Tryz.func67 rfl rfl) ⟨rfl, e0⟩)
 | false =>
  rw [c1] at ha
  cases c2 : perhapsV R.known fun f => f.x.bears load with
  | true =>
   rw [c2] at hp
   have e0 : Ext h h := Ext.refl _
   refine Runs.intro aFunc67 rfl rfl rfl rfl fun rest => ?_
   refine Go.seq noJ_ok ?_
   refine Go.region noJ_ok rfl ?_
   refine GoR.box rfl rfl rfl rfl rfl rfl fun h0 x0 f0 => ?_
   replace e0 := e0.trans x0
   refine GoR.op rfl rfl rfl rfl ?_
   refine GoR.end ?_
   refine Go.seq noJ_ok ?_
   refine Go.region noJ_ok rfl ?_
   iterate 2 refine GoR.op rfl rfl rfl rfl ?_
   refine GoR.end ?_
   refine Go.seq noJ_ok ?_
   refine Go.block noJ_ok ?_
   refine Go.seq noJ_ok ?_
   refine Go.region noJ_ok rfl ?_
   iterate 2 refine GoR.op rfl rfl rfl rfl ?_
   refine GoR.call rfl rfl (aOp_callFunc aFunc105 rfl) (ha e0 f0) ?_ (by rintro _ _ ⟨q, _⟩; cases q)
   rintro v1 h1 ⟨q, x1⟩
   cases q
   refine ⟨_, rfl, ?_⟩
   replace f0 := f0.ext x1
   replace e0 := e0.trans x1
   refine GoR.op rfl rfl rfl rfl ?_
   refine GoR.end ?_
   refine Go.cond noJ_ok (b := false) rfl ?_
   refine Go.seq noJ_ok ?_
   refine Go.region noJ_ok rfl ?_
   iterate 2 refine GoR.op rfl rfl rfl rfl ?_
   refine GoR.call rfl rfl (aOp_callFunc aFunc106 rfl) (hp e0 f0) ?_ (by rintro _ _ ⟨q, _⟩; cases q)
   rintro v2 h2 ⟨q, x2⟩
   cases q
   refine ⟨_, rfl, ?_⟩
   replace f0 := f0.ext x2
   replace e0 := e0.trans x2
   refine GoR.op rfl rfl rfl rfl ?_
   refine GoR.end ?_
   refine Go.cond noJ_ok (b := true) rfl ?_
   refine Go.seq noJ_ok ?_
   refine Go.region noJ_ok rfl ?_
   refine GoR.op rfl rfl rfl rfl ?_
   refine GoR.end ?_
   exact Go.ret noJ_ok (ret_end (aResult_of Tryz.func67 rfl rfl) ⟨rfl, e0⟩)
  | false =>
   rw [c2] at hp
   have e0 : Ext h h := Ext.refl _
   refine Runs.intro aFunc67 rfl rfl rfl rfl fun rest => ?_
   refine Go.seq noJ_ok ?_
   refine Go.region noJ_ok rfl ?_
   refine GoR.box rfl rfl rfl rfl rfl rfl fun h0 x0 f0 => ?_
   replace e0 := e0.trans x0
   refine GoR.op rfl rfl rfl rfl ?_
   refine GoR.end ?_
   refine Go.seq noJ_ok ?_
   refine Go.region noJ_ok rfl ?_
   iterate 2 refine GoR.op rfl rfl rfl rfl ?_
   refine GoR.end ?_
   refine Go.seq noJ_ok ?_
   refine Go.block noJ_ok ?_
   refine Go.seq noJ_ok ?_
   refine Go.region noJ_ok rfl ?_
   iterate 2 refine GoR.op rfl rfl rfl rfl ?_
   refine GoR.call rfl rfl (aOp_callFunc aFunc105 rfl) (ha e0 f0) ?_ (by rintro _ _ ⟨q, _⟩; cases q)
   rintro v1 h1 ⟨q, x1⟩
   cases q
   refine ⟨_, rfl, ?_⟩
   replace f0 := f0.ext x1
   replace e0 := e0.trans x1
   refine GoR.op rfl rfl rfl rfl ?_
   refine GoR.end ?_
   refine Go.cond noJ_ok (b := false) rfl ?_
   refine Go.seq noJ_ok ?_
   refine Go.region noJ_ok rfl ?_
   iterate 2 refine GoR.op rfl rfl rfl rfl ?_
   refine GoR.call rfl rfl (aOp_callFunc aFunc106 rfl) (hp e0 f0) ?_ (by rintro _ _ ⟨q, _⟩; cases q)
   rintro v2 h2 ⟨q, x2⟩
   cases q
   refine ⟨_, rfl, ?_⟩
   replace e0 := e0.trans x2
   refine GoR.op rfl rfl rfl rfl ?_
   refine GoR.end ?_
   refine Go.cond noJ_ok (b := false) rfl ?_
   refine Go.code noJ_ok ?_
   refine Go.inBlock noJ_ok ?_
   refine Go.seq noJ_ok ?_
   refine Go.region noJ_ok rfl ?_
   refine GoR.op rfl rfl rfl rfl ?_
   refine GoR.end ?_
   exact Go.ret noJ_ok (ret_end (aResult_of Tryz.func67 rfl rfl) ⟨rfl, e0⟩)
end Go.Proofs.YtkcimfopboelaaaGreat

namespace Go.Proofs.YtkcimfopboelaaaGreat
open Go Go.AbsE
set_option linter.unusedSimpArgs false
set_option maxRecDepth 100000
set_option maxHeartbeats 0
set_option linter.unusedVariables false
def numsV (from_ step : Int) (n : Nat) : List Int := (List.range n).map fun k : Nat => from_ + k * step
structure NumsA (a b s : Int) (bf bt bs : Nat) (h : AH) : Prop where
 f : Has h bf (.cells .plain [.int .i64 a] 3)
 t : Has h bt (.cells .plain [.int .i64 b] 3)
 s : Has h bs (.cells .plain [.int .i64 s] 3)
theorem nums1_it {a b s : Int} (hs : s = 1 ∨ s = -1) (ha : -1000 ≤ a ∧ a ≤ 1000) (hb : -1000 ≤ b ∧ b ≤ 1000) {n : Nat} (hn : b + s = a + n * s) (bf bt bs : Nat) : IterV Tryz.prog 145 [] [.ptr bf 0, .ptr bt 0, .ptr bs 0] ((numsV a s n).map (.int .i64)) (NumsA a b s bf bt bs) := by
 intro y base J E h F hyc hys hA hbase T j0
 show Runs Tryz.prog 145 [y, .ptr bf 0, .ptr bt 0, .ptr bs 0] h _
 have hlen : ((numsV a s n).map (AVal.int .i64)).length = n := by simp [numsV]
 rw [hlen]
 have hat : ∀ {k : Nat}, k < n → ((numsV a s n).map (AVal.int .i64))[k]? = some (.int .i64 (a + k * s)) := fun hk => by
  unfold numsV
  rw [List.map_map, List.getElem?_map, List.getElem?_range hk]
  rfl
 have e0 : Ext h h := Ext.refl _
 obtain ⟨f0, f1, f2⟩ := hA h (ExtF.of e0)
 rcases hs with rfl | rfl
 ·refine Runs.intro aFunc145 rfl rfl rfl rfl fun rest => ?_
  refine Go.seq noJ_ok ?_
  refine Go.region noJ_ok rfl ?_
  refine GoR.op rfl rfl (ld3 rfl f0 rfl) rfl ?_
  refine GoR.op rfl rfl rfl rfl ?_
  refine GoR.end ?_
  refine Go.block noJ_ok ?_
  refine Go.loopKeep (fun a' : Nat × (Nat → Prop) => [(0, y), (1, .ptr bf 0), (2, .ptr bt 0), (3, .ptr bs 0), (5, .int .i64 (a + (a'.1 : Nat) * 1))]) (fun m a' h' => m + a'.1 = n ∧ ExtF F h h' ∧ (∀ b, a'.2 b → F b ∨ h.next ≤ b) ∧ J a'.1 h' a'.2) (n := n) (0, F) ⟨rfl, rfl, rfl, rfl, (by simp; rfl), trivial⟩ ⟨rfl, ExtF.of e0, fun b q => .inl q, j0⟩ ?_
  clear e0 f0 f1 f2
  rintro m ⟨k, G⟩ h1 ⟨hm, x1, hG, j1⟩ again
  dsimp only at hm hG j1 ⊢
  have e0 : Ext h1 h1 := Ext.refl _
  obtain ⟨f0, f1, f2⟩ := hA h1 x1
  have hx1 := x1.1
  by_cases hk : k < n
  ·obtain ⟨ax, a1, a2, a3⟩ := T.take (hat hk) j1
   iterate 2 refine Go.seq noJ_ok ?_
   refine Go.region noJ_ok rfl ?_
   refine GoR.op rfl rfl rfl rfl ?_
   refine GoR.op rfl rfl (ld3 rfl f1 rfl) rfl ?_
   refine GoR.op rfl rfl (ld3 rfl f2 rfl) rfl ?_
   refine GoR.op rfl rfl (aOp_add rfl rfl (by constructor <;> omega) rfl) rfl ?_
   refine GoR.op rfl rfl (aOp_neq rfl rfl (r := true) (decide_eq_false (by omega))) rfl ?_
   refine GoR.end ?_
   refine Go.cond noJ_ok (b := true) rfl ?_
   refine Go.code noJ_ok ?_
   refine Go.seq noJ_ok ?_
   refine Go.block noJ_ok ?_
   refine Go.seq noJ_ok ?_
   refine Go.region noJ_ok rfl ?_
   iterate 2 refine GoR.op rfl rfl rfl rfl ?_
   refine GoR.does rfl rfl (aOp_callY rfl rfl a1) a2 a3 ?_ (by rintro _ _ ⟨_, _, _, ⟨q, _⟩ | ⟨q, _⟩⟩ <;> cases q)
   rintro v h6 ⟨x6, G', hG', ⟨q, j6⟩ | ⟨q, e6⟩⟩
   ·cases q
    refine ⟨_, rfl, ?_⟩
    have y6 := x1.trans hG x6
    clear f0 f1 f2 e0
    obtain ⟨f0, f1, f2⟩ := hA h6 y6
    refine GoR.op rfl rfl rfl rfl ?_
    refine GoR.end ?_
    refine Go.cond noJ_ok (b := false) rfl ?_
    refine Go.code noJ_ok ?_
    refine Go.inBlock noJ_ok ?_
    refine Go.region noJ_ok rfl ?_
    refine GoR.op rfl rfl rfl rfl ?_
    refine GoR.op rfl rfl (ld3 rfl f2 rfl) rfl ?_
    refine GoR.op rfl rfl (aOp_add rfl rfl (by constructor <;> omega) rfl) rfl ?_
    refine GoR.op rfl rfl rfl rfl ?_
    refine GoR.end ?_
    exact again (m - 1) (k + 1, G') _ _ (by omega) ⟨rfl, rfl, rfl, rfl, (by show _ = some (AVal.int .i64 (a + ((k + 1 : Nat) : Int) * 1)); rw [show a + ((k + 1 : Nat) : Int) * 1 = a + (k : Nat) * 1 + 1 by omega]; rfl), trivial⟩ ⟨by dsimp only; omega, y6, own_next hG' hG hx1, j6⟩
   ·cases q
    refine ⟨_, rfl, ?_⟩
    clear f0 f1 f2 e0
    refine GoR.op rfl rfl rfl rfl ?_
    refine GoR.end ?_
    refine Go.cond noJ_ok (b := true) rfl ?_
    exact Go.ret noJ_ok (ret_end (aResult_of Tryz.func145 rfl rfl) ⟨rfl, x1.trans hG x6, G', own_next hG' hG hx1, .inr ⟨k, hk, e6⟩⟩)
  ·have hkn : k = n := by omega
   subst hkn
   iterate 2 refine Go.seq noJ_ok ?_
   refine Go.region noJ_ok rfl ?_
   refine GoR.op rfl rfl rfl rfl ?_
   refine GoR.op rfl rfl (ld3 rfl f1 rfl) rfl ?_
   refine GoR.op rfl rfl (ld3 rfl f2 rfl) rfl ?_
   refine GoR.op rfl rfl (aOp_add rfl rfl (by constructor <;> omega) rfl) rfl ?_
   refine GoR.op rfl rfl (aOp_neq rfl rfl (r := false) (decide_eq_true (by omega))) rfl ?_
   refine GoR.end ?_
   refine Go.cond noJ_ok (b := false) rfl ?_
   refine Go.code noJ_ok ?_
   exact Go.endL (FLeft.ret (v := .tuple []) (aResult_of Tryz.func145 rfl rfl) ⟨rfl, x1, G, hG, .inl j1⟩)
 ·refine Runs.intro aFunc145 rfl rfl rfl rfl fun rest => ?_
  refine Go.seq noJ_ok ?_
  refine Go.region noJ_ok rfl ?_
  refine GoR.op rfl rfl (ld3 rfl f0 rfl) rfl ?_
  refine GoR.op rfl rfl rfl rfl ?_
  refine GoR.end ?_
  refine Go.block noJ_ok ?_
  refine Go.loopKeep (fun a' : Nat × (Nat → Prop) => [(0, y), (1, .ptr bf 0), (2, .ptr bt 0), (3, .ptr bs 0), (5, .int .i64 (a + (a'.1 : Nat) * -1))]) (fun m a' h' => m + a'.1 = n ∧ ExtF F h h' ∧ (∀ b, a'.2 b → F b ∨ h.next ≤ b) ∧ J a'.1 h' a'.2) (n := n) (0, F) ⟨rfl, rfl, rfl, rfl, (by simp; rfl), trivial⟩ ⟨rfl, ExtF.of e0, fun b q => .inl q, j0⟩ ?_
  clear e0 f0 f1 f2
  rintro m ⟨k, G⟩ h1 ⟨hm, x1, hG, j1⟩ again
  dsimp only at hm hG j1 ⊢
  have e0 : Ext h1 h1 := Ext.refl _
  obtain ⟨f0, f1, f2⟩ := hA h1 x1
  have hx1 := x1.1
  by_cases hk : k < n
  ·obtain ⟨ax, a1, a2, a3⟩ := T.take (hat hk) j1
   iterate 2 refine Go.seq noJ_ok ?_
   refine Go.region noJ_ok rfl ?_
   refine GoR.op rfl rfl rfl rfl ?_
   refine GoR.op rfl rfl (ld3 rfl f1 rfl) rfl ?_
   refine GoR.op rfl rfl (ld3 rfl f2 rfl) rfl ?_
   refine GoR.op rfl rfl (aOp_add rfl rfl (by constructor <;> omega) rfl) rfl ?_
   refine GoR.op rfl rfl (aOp_neq rfl rfl (r := true) (decide_eq_false (by omega))) rfl ?_
   refine GoR.end ?_
   refine Go.cond noJ_ok (b := true) rfl ?_
   refine Go.code noJ_ok ?_
   refine Go.seq noJ_ok ?_
   refine Go.block noJ_ok ?_
   refine Go.seq noJ_ok ?_
   refine Go.region noJ_ok rfl ?_
   iterate 2 refine GoR.op rfl rfl rfl rfl ?_
   refine GoR.does rfl rfl (aOp_callY rfl rfl a1) a2 a3 ?_ (by rintro _ _ ⟨_, _, _, ⟨q, _⟩ | ⟨q, _⟩⟩ <;> cases q)
   rintro v h6 ⟨x6, G', hG', ⟨q, j6⟩ | ⟨q, e6⟩⟩
   ·cases q
    refine ⟨_, rfl, ?_⟩
    have y6 := x1.trans hG x6
    clear f0 f1 f2 e0
    obtain ⟨f0, f1, f2⟩ := hA h6 y6
    refine GoR.op rfl rfl rfl rfl ?_
    refine GoR.end ?_
    refine Go.cond noJ_ok (b := false) rfl ?_
    refine Go.code noJ_ok ?_
    refine Go.inBlock noJ_ok ?_
    refine Go.region noJ_ok rfl ?_
    refine GoR.op rfl rfl rfl rfl ?_
    refine GoR.op rfl rfl (ld3 rfl f2 rfl) rfl ?_
    refine GoR.op rfl rfl (aOp_add rfl rfl (by constructor <;> omega) rfl) rfl ?_
    refine GoR.op rfl rfl rfl rfl ?_
    refine GoR.end ?_
    exact again (m - 1) (k + 1, G') _ _ (by omega) ⟨rfl, rfl, rfl, rfl, (by show _ = some (AVal.int .i64 (a + ((k + 1 : Nat) : Int) * -1)); rw [show a + ((k + 1 : Nat) : Int) * -1 = a + (k : Nat) * -1 + -1 by omega]; rfl), trivial⟩ ⟨by dsimp only; omega, y6, own_next hG' hG hx1, j6⟩
   ·cases q
    refine ⟨_, rfl, ?_⟩
    clear f0 f1 f2 e0
    refine GoR.op rfl rfl rfl rfl ?_
    refine GoR.end ?_
    refine Go.cond noJ_ok (b := true) rfl ?_
    exact Go.ret noJ_ok (ret_end (aResult_of Tryz.func145 rfl rfl) ⟨rfl, x1.trans hG x6, G', own_next hG' hG hx1, .inr ⟨k, hk, e6⟩⟩)
  ·have hkn : k = n := by omega
   subst hkn
   iterate 2 refine Go.seq noJ_ok ?_
   refine Go.region noJ_ok rfl ?_
   refine GoR.op rfl rfl rfl rfl ?_
   refine GoR.op rfl rfl (ld3 rfl f1 rfl) rfl ?_
   refine GoR.op rfl rfl (ld3 rfl f2 rfl) rfl ?_
   refine GoR.op rfl rfl (aOp_add rfl rfl (by constructor <;> omega) rfl) rfl ?_
   refine GoR.op rfl rfl (aOp_neq rfl rfl (r := false) (decide_eq_true (by omega))) rfl ?_
   refine GoR.end ?_
   refine Go.cond noJ_ok (b := false) rfl ?_
   refine Go.code noJ_ok ?_
   exact Go.endL (FLeft.ret (v := .tuple []) (aResult_of Tryz.func145 rfl rfl) ⟨rfl, x1, G, hG, .inl j1⟩)
theorem numbers_ok {a b : Int} {h : AH} : Runs Tryz.prog 111 [.int .i64 a, .int .i64 b] h (fun en h' => ∃ bf bt bs, en = .ret (.func (.func 145) [] [.ptr bf 0, .ptr bt 0, .ptr bs 0]) ∧ Ext h h' ∧ NumsA a b (if b < a then -1 else 1) bf bt bs h' ∧ h.next ≤ bf ∧ h.next ≤ bt ∧ h.next ≤ bs) := by
 by_cases q : b < a
 ·rw [if_pos q]
  have e0 : Ext h h := Ext.refl _
  refine Runs.intro aFunc111 rfl rfl rfl rfl fun rest => ?_
  refine Go.seq noJ_ok ?_
  refine Go.region noJ_ok rfl ?_
  refine GoR.box rfl rfl rfl rfl rfl rfl fun h0 x0 f0 => ?_
  have := e0.1
  replace e0 := e0.trans x0
  have := f0.1
  refine GoR.box rfl rfl rfl rfl rfl rfl fun h1 x1 f1 => ?_
  have := e0.1
  have := f0.1
  replace f0 := f0.ext x1
  replace e0 := e0.trans x1
  have := f1.1
  refine GoR.op rfl rfl rfl rfl ?_
  refine GoR.end ?_
  refine Go.seq noJ_ok ?_
  refine Go.region noJ_ok rfl ?_
  refine GoR.alloc rfl rfl rfl zt3 rfl rfl fun h2 x2 f2 => ?_
  have := e0.1
  have := f1.1
  have := f0.1
  replace f1 := f1.ext x2
  replace f0 := f0.ext x2
  replace e0 := e0.trans x2
  have := f2.1
  refine GoR.store rfl rfl rfl rfl rfl rfl f2 rfl sz3 rfl rfl rfl fun h3 u3 => ?_
  replace f2 := u3.has f2
  replace f1 := f1.upd u3 (by omega)
  replace f0 := f0.upd u3 (by omega)
  replace e0 := e0.upd u3 (by omega)
  refine GoR.end ?_
  iterate 2 refine Go.seq noJ_ok ?_
  refine Go.region noJ_ok rfl ?_
  refine GoR.op rfl rfl (ld3 rfl f1 rfl) rfl ?_
  refine GoR.op rfl rfl (ld3 rfl f0 rfl) rfl ?_
  refine GoR.op rfl rfl (aOp_lss rfl rfl (r := true) (decide_eq_true (by omega))) rfl ?_
  refine GoR.end ?_
  refine Go.cond noJ_ok (b := true) rfl ?_
  refine Go.region noJ_ok rfl ?_
  refine GoR.store rfl rfl rfl rfl rfl rfl f2 rfl sz3 rfl rfl rfl fun h4 u4 => ?_
  replace f2 := u4.has f2
  replace f1 := f1.upd u4 (by omega)
  replace f0 := f0.upd u4 (by omega)
  replace e0 := e0.upd u4 (by omega)
  refine GoR.end ?_
  refine Go.seq noJ_ok ?_
  refine Go.region noJ_ok rfl ?_
  iterate 2 refine GoR.op rfl rfl rfl rfl ?_
  refine GoR.end ?_
  exact Go.ret noJ_ok (ret_end (aResult_of Tryz.func111 rfl rfl) ⟨_, _, _, rfl, e0, ⟨f0, f1, f2⟩, by omega, by omega, by omega⟩)
 ·rw [if_neg q]
  have e0 : Ext h h := Ext.refl _
  refine Runs.intro aFunc111 rfl rfl rfl rfl fun rest => ?_
  refine Go.seq noJ_ok ?_
  refine Go.region noJ_ok rfl ?_
  refine GoR.box rfl rfl rfl rfl rfl rfl fun h0 x0 f0 => ?_
  have := e0.1
  replace e0 := e0.trans x0
  have := f0.1
  refine GoR.box rfl rfl rfl rfl rfl rfl fun h1 x1 f1 => ?_
  have := e0.1
  have := f0.1
  replace f0 := f0.ext x1
  replace e0 := e0.trans x1
  have := f1.1
  refine GoR.op rfl rfl rfl rfl ?_
  refine GoR.end ?_
  refine Go.seq noJ_ok ?_
  refine Go.region noJ_ok rfl ?_
  refine GoR.alloc rfl rfl rfl zt3 rfl rfl fun h2 x2 f2 => ?_
  have := e0.1
  have := f1.1
  have := f0.1
  replace f1 := f1.ext x2
  replace f0 := f0.ext x2
  replace e0 := e0.trans x2
  have := f2.1
  refine GoR.store rfl rfl rfl rfl rfl rfl f2 rfl sz3 rfl rfl rfl fun h3 u3 => ?_
  replace f2 := u3.has f2
  replace f1 := f1.upd u3 (by omega)
  replace f0 := f0.upd u3 (by omega)
  replace e0 := e0.upd u3 (by omega)
  refine GoR.end ?_
  iterate 2 refine Go.seq noJ_ok ?_
  refine Go.region noJ_ok rfl ?_
  refine GoR.op rfl rfl (ld3 rfl f1 rfl) rfl ?_
  refine GoR.op rfl rfl (ld3 rfl f0 rfl) rfl ?_
  refine GoR.op rfl rfl (aOp_lss rfl rfl (r := false) (decide_eq_false (by omega))) rfl ?_
  refine GoR.end ?_
  refine Go.cond noJ_ok (b := false) rfl ?_
  refine Go.code noJ_ok ?_
  refine Go.seq noJ_ok ?_
  refine Go.region noJ_ok rfl ?_
  iterate 2 refine GoR.op rfl rfl rfl rfl ?_
  refine GoR.end ?_
  exact Go.ret noJ_ok (ret_end (aResult_of Tryz.func111 rfl rfl) ⟨_, _, _, rfl, e0, ⟨f0, f1, f2⟩, by omega, by omega, by omega⟩)
theorem first_ok {g : FuncId} {gf : Func} {first cap : List AVal} {L : List Int} {A : AH → Prop} (hg : aFunc Tryz.prog g = some gf) (it : IterV Tryz.prog g first cap (L.map (.int .i64)) A) {fid : FuncId} {caps : List AVal} {fn : Func} (hfid : aFunc Tryz.prog fid = some fn) (p : Int → Bool) {h : AH} (hA : ∀ h', Ext h h' → A h')
  (hc : ∀ x h', x ∈ L → Ext h h' → Runs Tryz.prog fid ([.int .i64 x] ++ caps) h' (fun en h'' => en = .ret (.bool (p x)) ∧ Ext h' h'')) :
  Runs Tryz.prog 110 [.func (.func g) first cap, .agg [.func (.func fid) [] caps]] h (fun en h' => en = .ret (.tuple [.int .i64 ((L.find? p).getD 0), .bool (L.find? p).isSome]) ∧ Ext h h') := by
 have e0 : Ext h h := Ext.refl _
 refine Runs.intro aFunc110 rfl rfl rfl rfl fun rest => ?_
 refine Go.seq noJ_ok ?_
 refine Go.region noJ_ok rfl ?_
 refine GoR.box rfl rfl rfl rfl rfl rfl fun h0 x0 f0 => ?_
 have := e0.1
 replace e0 := e0.trans x0
 have := f0.1
 refine GoR.alloc rfl rfl rfl zt3 rfl rfl fun h1 x1 f1 => ?_
 have := e0.1
 have := f0.1
 replace f0 := f0.ext x1
 replace e0 := e0.trans x1
 have := f1.1
 refine GoR.alloc rfl rfl rfl zt4 rfl rfl fun h2 x2 f2 => ?_
 have := e0.1
 have := f1.1
 have := f0.1
 replace f1 := f1.ext x2
 replace f0 := f0.ext x2
 replace e0 := e0.trans x2
 have := f2.1
 refine GoR.end ?_
 iterate 2 refine Go.seq noJ_ok ?_
 refine Go.region noJ_ok rfl ?_
 refine GoR.op rfl rfl rfl rfl ?_
 refine GoR.end ?_
 refine Go.block noJ_ok ?_
 have hb0 := f0.1
 have hb1 := f1.1
 have hb2 := f2.1
 have hx0 := e0.1
 have hn0 : h.next < h0.next := by omega
 have hn1 : h0.next < h1.next := by omega
 have eF : ∀ {hh}, ExtF (fun b => b = h0.next ∨ b = h1.next) h2 hh → Ext h hh := fun x => x.low e0 fun b q => by omega
 refine Go.rangeV (items := L.map (.int .i64)) (A := A) (fun b => b = h0.next ∨ b = h1.next) (fun j hh G => (∀ x, x ∈ L.take j → p x = false) ∧ Has hh h0.next (.cells .plain [.int .i64 0] 3) ∧ Has hh h1.next (.cells .plain [.bool false] 4) ∧ ∀ b, G b ↔ (b = h0.next ∨ b = h1.next))
  (fun c hh G => c = .ret ∧ ∃ x, L.find? p = some x ∧ Has hh h0.next (.cells .plain [.int .i64 x] 3) ∧ Has hh h1.next (.cells .plain [.bool true] 4) ∧ ∀ b, G b ↔ (b = h0.next ∨ b = h1.next))
  rfl hg Tryz.func110 it (fun h' x => hA h' (eF x)) ⟨fun x q => by simp at q, f1, f2, fun b => Iff.rfl⟩ ?_ ?_ ?_ ?_ ?_ ?_ ?_
 ·rintro k hh G b ⟨_, g1, g2, hG⟩ q
  rcases (hG b).1 q with rfl | rfl
  ·exact g1.1
  ·exact g2.1
 ·rintro c hh G b ⟨_, x, _, g1, g2, hG⟩ q
  rcases (hG b).1 q with rfl | rfl
  ·exact g1.1
  ·exact g2.1
 ·rintro k h4 h5 G ⟨q, g1, g2, hG⟩ hn hk
  exact ⟨q, g1.keep hn (hk _ g1.1 (.inr ((hG _).2 (.inl rfl)))), g2.keep hn (hk _ g2.1 (.inr ((hG _).2 (.inr rfl)))), hG⟩
 ·rintro c h4 h5 G ⟨q, x, hx, g1, g2, hG⟩ hn hk
  exact ⟨q, x, hx, g1.keep hn (hk _ g1.1 (.inr ((hG _).2 (.inl rfl)))), g2.keep hn (hk _ g2.1 (.inr ((hG _).2 (.inr rfl)))), hG⟩
 ·rintro j item hj
  refine ⟨_, rfl, ?_⟩
  rintro hh G lb r0 fr rest' Q' ⟨hno, g1, g2, hG⟩ x1 hsub hnl hlb fl hready contT contF
  obtain ⟨x, hx, rfl⟩ : ∃ x, L[j]? = some x ∧ AVal.int .i64 x = item := by
   rw [List.getElem?_map] at hj
   cases q : L[j]? with
   | none => rw [q] at hj; cases hj
   | some x => rw [q] at hj; exact ⟨x, rfl, Option.some.inj hj⟩
  have hxm := List.mem_of_getElem? hx
  have hx1 := x1.1
  have hfl := fl.1
  replace f0 := f0.extF x1 (by omega)
  have e8 := eF x1
  have hl0 : h0.next ≠ lb := by omega
  have hl1 : h1.next ≠ lb := by omega
  have y9 : ExtF (fun b => G b ∨ b = lb) hh hh := ExtF.of (Ext.refl _)
  clear e0 f1 f2
  refine Go.region noJ_ok rfl ?_
  refine GoR.op rfl rfl rfl rfl ?_
  refine GoR.end ?_
  refine Go.beginRound fl hready fun h15 u15 => ?_
  replace f0 := f0.upd u15 (by omega)
  replace g1 := g1.upd u15 hl0
  replace g2 := g2.upd u15 hl1
  replace fl := u15.has fl
  replace y9 := y9.upd u15 (.inl (.inr rfl))
  replace e8 := e8.upd u15 (by omega)
  have hcx := hc x h15 hxm e8
  have hb0' := f0.1
  have hb1' := g1.1
  have hb2' := g2.1
  have hbl' := fl.1
  cases hp : p x with
  | false =>
   rw [hp] at hcx
   clear e8
   have e0 : Ext h15 h15 := Ext.refl _
   obtain ⟨f1, hf1⟩ : ∃ f1, f1 = g1 := ⟨_, rfl⟩
   obtain ⟨f2, hf2⟩ : ∃ f2, f2 = g2 := ⟨_, rfl⟩
   clear hf1 hf2 g1 g2
   refine Go.block noJ_ok ?_
   refine Go.seq noJ_ok ?_
   refine Go.region noJ_ok rfl ?_
   refine GoR.op rfl rfl (fa145_0 rfl) rfl ?_
   refine GoR.op rfl rfl (ld68 rfl f0 rfl) rfl ?_
   refine GoR.op rfl rfl rfl rfl ?_
   refine GoR.call rfl rfl (aOp_callVal rfl hfid rfl) (hcx) ?_ (by rintro _ _ ⟨q, _⟩; cases q)
   rintro v16 h16 ⟨q, x16⟩
   cases q
   refine ⟨_, rfl, ?_⟩
   replace f0 := f0.ext x16
   replace fl := fl.ext x16
   replace f1 := f1.ext x16
   replace f2 := f2.ext x16
   replace e0 := e0.trans x16
   replace y9 := y9.ext x16
   refine GoR.end ?_
   refine Go.cond noJ_ok (b := false) rfl ?_
   refine Go.code noJ_ok ?_
   refine Go.inBlock noJ_ok ?_
   exact contT _ _ G ⟨take_no hx hp hno, f1, f2, hG⟩ (fun b q => .inl q) (y9) fl
  | true =>
   rw [hp] at hcx
   clear e8
   have e0 : Ext h15 h15 := Ext.refl _
   have hfind : L.find? p = some x := by
    rw [List.find?_eq_some_iff_getElem]
    have hlt := (List.getElem?_eq_some_iff.1 hx).1
    have hv := (List.getElem?_eq_some_iff.1 hx).2
    exact ⟨hp, j, hlt, hv, fun k hk => by rw [hno _ (List.mem_take_iff_getElem.2 ⟨k, by omega, rfl⟩)]; rfl⟩
   obtain ⟨f1, hf1⟩ : ∃ f1, f1 = g1 := ⟨_, rfl⟩
   obtain ⟨f2, hf2⟩ : ∃ f2, f2 = g2 := ⟨_, rfl⟩
   clear hf1 hf2 g1 g2
   refine Go.block noJ_ok ?_
   refine Go.seq noJ_ok ?_
   refine Go.region noJ_ok rfl ?_
   refine GoR.op rfl rfl (fa145_0 rfl) rfl ?_
   refine GoR.op rfl rfl (ld68 rfl f0 rfl) rfl ?_
   refine GoR.op rfl rfl rfl rfl ?_
   refine GoR.call rfl rfl (aOp_callVal rfl hfid rfl) (hcx) ?_ (by rintro _ _ ⟨q, _⟩; cases q)
   rintro v16 h16 ⟨q, x16⟩
   cases q
   refine ⟨_, rfl, ?_⟩
   replace fl := fl.ext x16
   replace f1 := f1.ext x16
   replace f2 := f2.ext x16
   replace y9 := y9.ext x16
   refine GoR.end ?_
   refine Go.cond noJ_ok (b := true) rfl ?_
   refine Go.seq noJ_ok ?_
   refine Go.region noJ_ok rfl ?_
   refine GoR.op rfl rfl rfl rfl ?_
   refine GoR.store rfl rfl rfl rfl rfl rfl f1 rfl sz3 rfl rfl rfl fun h17 u17 => ?_
   replace fl := fl.upd u17 (by omega)
   replace f1 := u17.has f1
   replace f2 := f2.upd u17 (by omega)
   clear e0
   refine GoR.store rfl rfl rfl rfl rfl rfl f2 rfl sz4 rfl rfl rfl fun h18 u18 => ?_
   replace fl := fl.upd u18 (by omega)
   replace f1 := f1.upd u18 (by omega)
   replace f2 := u18.has f2
   refine GoR.end ?_
   exact contF _ _ _ _ G (.inl rfl) ⟨rfl, x, hfind, f1, f2, hG⟩ (fun b q => .inl q) ((y9.upd u17 (.inl (.inl ((hG _).2 (.inl rfl))))).upd u18 (.inl (.inl ((hG _).2 (.inr rfl))))) fl
 ·rintro d h30 G x30 hGs hnd hd hdd ⟨hno, g1, g2, hG⟩
  rw [List.length_map, List.take_length] at hno
  have hnone : L.find? p = none := List.find?_eq_none.2 fun x hx => by rw [hno x hx]; simp
  rw [hnone]
  have e9 := eF x30
  have hx30 := x30.1
  clear e0 f0 f1 f2
  have d0 : h0.next ≠ d := fun z => hnd ((hG _).2 (.inl z.symm))
  have d1 : h1.next ≠ d := fun z => hnd ((hG _).2 (.inr z.symm))
  refine Go.inBlock noJ_ok ?_
  refine Go.seq noJ_ok ?_
  refine Go.region noJ_ok rfl ?_
  refine GoR.op rfl rfl (ld3 rfl g1 rfl) rfl ?_
  refine GoR.store rfl rfl rfl rfl rfl rfl g1 rfl sz3 rfl rfl rfl fun h31 u31 => ?_
  replace hdd := hdd.upd u31 (by omega)
  replace g1 := u31.has g1
  replace g2 := g2.upd u31 (by omega)
  replace e9 := e9.upd u31 (by omega)
  refine GoR.store rfl rfl rfl rfl rfl rfl g2 rfl sz4 rfl rfl rfl fun h32 u32 => ?_
  replace hdd := hdd.upd u32 (by omega)
  replace g1 := g1.upd u32 (by omega)
  replace g2 := u32.has g2
  replace e9 := e9.upd u32 (by omega)
  refine GoR.end ?_
  exact Go.retC hdd fun h9 u9 => ⟨aResult_of Tryz.func110 rfl (aResults_c rfl (g1.upd u9 d0) (inCells_one ag3 rfl) (aResults_c rfl (g2.upd u9 d1) (inCells_one ag4 rfl) rfl)), rfl, e9.upd u9 (by omega)⟩
 ·rintro c d h30 G x30 hGs hnd hd hdd ⟨rfl, x, hfind, g1, g2, hG⟩
  rw [hfind]
  have e9 := eF x30
  have hx30 := x30.1
  have d0 : h0.next ≠ d := fun z => hnd ((hG _).2 (.inl z.symm))
  have d1 : h1.next ≠ d := fun z => hnd ((hG _).2 (.inr z.symm))
  exact Go.retC hdd fun h9 u9 => ⟨aResult_of Tryz.func110 rfl (aResults_c rfl (g1.upd u9 d0) (inCells_one ag3 rfl) (aResults_c rfl (g2.upd u9 d1) (inCells_one ag4 rfl) rfl)), rfl, e9.upd u9 (by omega)⟩
end Go.Proofs.YtkcimfopboelaaaGreat
