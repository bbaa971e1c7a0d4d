import Derived.Test.YtobhkdgcciolmaaGreatMAM
import Derived.Test.YtobhkdgcciolmaaGreatMAI
import Derived.Test.YtobhkdgcciolmaaGreatMAJ
namespace Go.Proofs.YtobhkdgcciolmaaGreat
open Go Go.AbsE
set_option linter.unusedSimpArgs false
set_option maxRecDepth 100000
set_option maxHeartbeats 0
set_option linter.unusedVariables false
theorem mapB_has {h : AH} {b : Nat} {es : List AMapE} {c : Nat} (f : Has h b (.map es c)) : mapB h b = some (es, c) := by unfold mapB; rw [f.2]
theorem ent_at {C : ClampV} {K : List BT} {en : AMapE} (hen : en ∈ esN (K.map (entK C))) : ∃ b, K[en.born]? = some b ∧ en.key = .agg (vints (keyB b)) ∧ en.val = .agg (cellsG (C.aft b)) ∧ b ∈ K := by
 obtain ⟨i, x, hx, rfl⟩ := esN_at hen
 rw [List.getElem?_map] at hx
 cases q : K[i]? with
 | none => rw [q] at hx; cases hx
 | some y =>
  rw [q] at hx;cases hx;exact ⟨y, rfl, rfl, rfl, List.mem_of_getElem? q⟩
theorem ent_kv {C : ClampV} {K : List BT} : ∀ en, en ∈ esN (K.map (entK C)) → ∃ kv, absV en.key = some kv := fun en hen => by
 obtain ⟨x, _, hk, _⟩ := ent_at hen
 exact ⟨_, by rw [hk]; exact absV_vints _⟩
def spanE (K : List BT) (f : BT → Int × Int) (en : AMapE) : List (Int × Int) := match K[en.born]? with | some x => [f x] | none => []
theorem spanE_all (C : ClampV) (K : List BT) (f : BT → Int × Int) : (esN (K.map (entK C))).flatMap (spanE K f) = K.map f := by
 have h1 : (esN (K.map (entK C))).map AMapE.born = List.range K.length := by
  unfold esN
  apply List.ext_getElem
  ·simp
  ·intro i h1 h2
   simp
 have h2 : (esN (K.map (entK C))).flatMap (spanE K f) = (List.range K.length).flatMap fun i => match K[i]? with | some x => [f x] | none => [] := by
  rw [← h1, List.flatMap_map]
  rfl
 rw [h2];clear h1 h2
 have : ∀ (K : List BT) (n : Nat), n ≤ K.length → ((List.range n).flatMap fun i => match K[i]? with | some x => [f x] | none => []) = (K.take n).map f := by
  intro K n
  induction n with
  | zero => intro _; simp
  | succ n ih =>
   intro hn
   rw [List.range_succ, List.flatMap_append, ih (by omega), List.take_add_one, List.map_append]
   congr 1
   rw [List.flatMap_cons, List.flatMap_nil, List.append_nil, List.getElem?_eq_getElem (show n < K.length by omega)]
   rfl
 rw [this K K.length (Nat.le_refl _), List.take_length]
theorem joinL_app (l : List (Int × Int)) (x : Int × Int) : joinL (l ++ [x]) = joinP (joinL l) x := by unfold joinL; rw [List.foldl_append]; rfl
theorem joinL_perm {l m : List (Int × Int)} (h : l.Perm m) : joinL l = joinL m := joinL_mem fun _ => h.mem_iff
theorem spread_ok {C : ClampV} (O : C.Ok) {h : AH} {bm : Nat} (k : KnownAt C h bm) (f : BT → Int × Int) {W : FuncId} {fW : Func} (hfid : aFunc Tryz.prog W = some fW) {caps : List AVal} (hsm : sameA (.func (.func W) [] caps) (.func (.func W) [] caps) = true)
  (hc : ∀ b, b ∈ C.builds → ∀ h', Ext h h' → Runs Tryz.prog W ([.agg (builtC b), .agg (cellsG (C.aft b))] ++ caps) h' (fun en h'' => en = .ret (.agg (spC (f b))) ∧ Ext h' h'')) :
  Runs Tryz.prog 91 [.map bm, .func (.func W) [] caps] h (fun en h' => en = .ret (.agg (spC (joinL (C.builds.map f)))) ∧ Ext h h') := by
 have hj0 : joinL (C.builds.map f) = joinL ((knows C.builds).map f) := joinL_mem fun x => by simp only [List.mem_map, knows_mem]
 rw [hj0, ← spanE_all C]
 have hKm := k.m
 obtain ⟨K, hK⟩ : ∃ K, knows C.builds = K := ⟨_, rfl⟩
 have hKb : ∀ b, b ∈ K → b ∈ C.builds := fun b hb => knows_mem.1 (by rw [hK]; exact hb)
 rw [hK] at hKm ⊢
 have hborn := esN_born (L := K.map (entK C))
 have hdist := esN_dist (K.map (entK C))
 have hblt := hKm.1
 rw [List.length_map] at hborn hKm
 have hex := fun h => excluded_ok (h := h)
 unfold spC at hex
 have e0 : Ext h h := Ext.refl _
 refine Runs.intro aFunc91 rfl rfl rfl rfl fun rest => ?_;apply gS;refine gR rfl ?_;refine GoR.alloc rfl rfl rfl zt71 rfl rfl fun h0 x0 f0 => ?_;have := e0.1
 have := hKm.1
 replace hKm := hKm.ext x0;replace e0 := e0.trans x0;have := f0.1;apply gE;apply gS;refine gR rfl ?_;refine GoR.call rfl rfl (aCF aFunc125 rfl) (hex _) ?_ np;rintro v1 h1 ⟨q, x1⟩;cases q;refine ⟨_, rfl, ?_⟩;replace f0 := f0.ext x1;replace hKm := hKm.ext x1;replace e0 := e0.trans x1;refine GoR.alloc rfl rfl rfl zt71 rfl rfl fun h2 x2 f2 => ?_;have := e0.1;have := f0.1
 have := hKm.1
 replace f0 := f0.ext x2;replace hKm := hKm.ext x2;replace e0 := e0.trans x2;have := f2.1;refine GoR.store rfl rfl rfl rfl rfl rfl f2 rfl sz71 rfl rfl rfl fun h3 u3 => ?_;replace f2 := u3.has f2;replace f0 := f0.upd u3 (by omega);replace hKm := hKm.upd u3 (by omega);replace e0 := e0.upd u3 (by omega);apply gE;iterate 2 apply gS
 refine gR rfl ?_;refine gP ?_;refine GoR.rangeM rfl rfl rfl Tryz.underlying77 rfl (mapB_has hKm) rfl rfl fun h5 x5 f5 => ?_
 have hn4 := e0.1
 have hl0 := f0.1
 have hl2 := f2.1
 have hn0 : h.next < h1.next := by omega
 have hn1 : h1.next < h3.next := by omega
 replace f0 := f0.ext x5;replace f2 := f2.ext x5;replace e0 := e0.trans x5
 have hl5 := f5.1
 clear hKm
 have hKm := k.m
 rw [hK, List.length_map] at hKm;apply gE;refine Go.block noJ_ok ?_
 refine Go.loopKeep (fun _ : List AMapE × List AMapE => [(1, .func (.func W) [] caps), (4, .ptr h.next 0), (5, .ptr h1.next 0), (10, .ptr h3.next 0)])
  (fun n vr h' => vr.2.length = n ∧ (vr.1 ++ vr.2).Perm (esN (K.map (entK C))) ∧ Ext h h' ∧ Has h' h.next (.cells .plain [.int .i64 0, .int .i64 0] 71) ∧ Has h' h1.next (.cells .plain (spC (joinL (vr.1.flatMap (spanE K f)))) 71) ∧ Has h' h3.next (.iter bm K.length (vr.1.map AMapE.born) K.length)) (n := (esN (K.map (entK C))).length) ([], esN (K.map (entK C))) ⟨rfl, rfl, rfl, rfl, trivial⟩ ⟨rfl, .refl _, e0, f0, f2, f5⟩ ?_
 clear e0 f0 f2 f5;rintro nn ⟨vs, rs⟩ hh ⟨hn', hperm, e0, f0, f2, f5⟩ again
 dsimp only at hn' hperm f2 f5
 apply gS;refine Go.beginR rfl (Go.nextM rfl rfl f5 (mapB_has (hKm.ext e0)) hborn hborn ent_kv (fun hall => Go.inRegion noJ_ok ?_) (fun en kv hen hnew hk h6 u6 => Go.inRegion noJ_ok ?_))
 ·have hrs := perm_over hperm hdist hall
  subst hrs;rw [List.append_nil] at hperm
  have hj : joinL (vs.flatMap (spanE K f)) = joinL ((esN (K.map (entK C))).flatMap (spanE K f)) := joinL_perm (hperm.flatMap_right _)
  rw [hj] at f2
  unfold spC at f2 ⊢
  clear hKm;refine gP ?_;apply gE;apply gS;refine gC (b := false) rfl ?_;refine gD ?_;apply gS;refine gR rfl ?_;refine gO rfl rfl (ld71 rfl f2 rfl) rfl ?_;refine GoR.store rfl rfl rfl rfl rfl rfl f0 rfl sz71 rfl rfl rfl fun h6 u6 => ?_;replace f0 := u6.has f0;replace e0 := e0.upd u6 (by omega);apply gE;exact gV (ret_end (aResult_of Tryz.func91 rfl (aResults_cell rfl f0 (inCells_agg ag71 sz71 rfl))) ⟨rfl, e0⟩)
 ·obtain ⟨ra, rb, rfl, hperm2⟩ := perm_pick hperm hen hnew
  obtain ⟨x, q1, q2, q3, q5⟩ := ent_at hen
  replace f5 := u6.has f5;replace f0 := f0.upd u6 (by omega);replace f2 := f2.upd u6 (by omega);replace e0 := e0.upd u6 (by omega)
  have hspE : spanE K f en = [f x] := by unfold spanE; rw [q1]
  have hMe := mapB_has (hKm.ext e0)
  have hBB := (mem_builds.1 (hKb x q5)).2.1
  have hent : ∀ {t : Tr AVal} {dst : Option Tmp} {tt : TypeId} {pos : String} {after : Array Edge} {guard : Option (Nat × Bool)} {x : Operand}, ev t x = some (.ptr h3.next 0) → aOp Tryz.prog t h6 ⟨dst, .entry x, tt, pos, after, guard⟩ = some (.val (.tuple [kv, en.val]) h6) := fun hx => aOp_entry hx f5 hMe hen hdist hk
  have hl0 := f0.1
  have hl2 := f2.1
  have hl5 := f5.1
  have hKb2 := (hKm.ext e0).1
  clear hKm
  have hcx := fun h' e => hc x (hKb x q5) h' e
  obtain ⟨acc, hacc⟩ : ∃ acc, joinL (vs.flatMap (spanE K f)) = acc := ⟨_, rfl⟩
  have hjn : joinL ((vs ++ [en]).flatMap (spanE K f)) = joinP acc (f x) := by
   rw [List.flatMap_append, List.flatMap_cons, List.flatMap_nil, List.append_nil, hspE, joinL_app, hacc]
  rw [hacc] at f2;rw [q2] at hk
  have hk2 : kv = .agg (builtC x) := by
   have := absV_vints (keyB x)
   rw [hk] at this;exact Option.some.inj this
  subst hk2;rw [q3] at hent
  have hka := builtC_len (b := x) (by rw [hBB]; exact O.np.2)
  have hkb := builtC_same x
  have hkc := builtC_scal x
  have hsa : sameA (.agg (cellsG (C.aft x))) (.agg (cellsG (C.aft x))) = true := by unfold cellsG; simp [sameA, sameAs, eqI_eq]
  have hsb : scalars (cellsG (C.aft x)) = true := rfl
  have hsc : (cellsG (C.aft x)).length = 8 := rfl
  have hjo := fun h => join_ok (s := acc) (t := f x) (h := h)
  obtain ⟨cb, hcb⟩ : ∃ cb, builtC x = cb := ⟨_, rfl⟩
  obtain ⟨cs, hcs⟩ : ∃ cs, cellsG (C.aft x) = cs := ⟨_, rfl⟩
  rw [hcb] at hent hka hkb hkc hcx;rw [hcs] at hent hsa hsb hsc hcx
  rw [← hjn] at hjo
  obtain ⟨res, hres⟩ : ∃ res, joinL ((vs ++ [en]).flatMap (spanE K f)) = res := ⟨_, rfl⟩
  rw [hres] at hjo
  have hsl1 := slice_all hka
  have hsl2 := slice_all hsc
  obtain ⟨y, hy⟩ : ∃ y, f x = y := ⟨_, rfl⟩
  rw [hy] at hjo hcx
  unfold spC at hjo hcx f2
  refine gP ?_;apply gE;apply gS;refine gC (b := true) rfl ?_;refine gD ?_;refine Go.block noJ_ok ?_;apply gS;refine gR rfl ?_;refine gO rfl rfl (hent rfl) rfl ?_;iterate 2 refine gP ?_
  refine GoR.alloc rfl rfl rfl zt114 rfl rfl fun h7 x7 f7 => ?_;have := e0.1;have := f5.1;have := f0.1;have := f2.1;replace f5 := f5.ext x7;replace f0 := f0.ext x7;replace f2 := f2.ext x7;replace e0 := e0.trans x7;have := f7.1;refine GoR.alloc rfl rfl rfl zt116 rfl rfl fun h8 x8 f8 => ?_;have := e0.1;have := f7.1;have := f5.1;have := f0.1;have := f2.1;replace f7 := f7.ext x8;replace f5 := f5.ext x8;replace f0 := f0.ext x8;replace f2 := f2.ext x8;replace e0 := e0.trans x8;have := f8.1;refine GoR.store rfl rfl rfl rfl rfl rfl f7 rfl sz114 (beq_len hka) hkc (splice_whole hka.symm) fun h9 u9 => ?_;replace f8 := f8.upd u9 (by omega);replace f7 := u9.has f7;replace f5 := f5.upd u9 (by omega);replace f0 := f0.upd u9 (by omega);replace f2 := f2.upd u9 (by omega);replace e0 := e0.upd u9 (by omega);refine GoR.store rfl rfl rfl rfl rfl rfl f8 rfl sz116 (beq_len hsc) hsb (splice_whole hsc.symm) fun h10 u10 => ?_;replace f8 := u10.has f8;replace f7 := f7.upd u10 (by omega);replace f5 := f5.upd u10 (by omega);replace f0 := f0.upd u10 (by omega);replace f2 := f2.upd u10 (by omega);replace e0 := e0.upd u10 (by omega);apply gE;refine Go.drawnE plan91_0 ?_;refine gQ rfl rfl (ld71 rfl f2 rfl) rfl ?_;refine gQ rfl rfl rfl rfl ?_;refine gQ rfl rfl (ld114 rfl (by assumption) hsl1) rfl ?_;refine gQ rfl rfl (ld116 rfl (by assumption) hsl2) rfl ?_;refine GoE.call rfl rfl (aOp_callVal rfl hfid rfl) (hcx _ e0) (dD 14 3 (dD 14 2 (dD 14 1 (dK 14 0 rfl)))) ?_ np;rintro v11 h11 ⟨q, x11⟩;cases q;replace f5 := f5.ext x11;replace f0 := f0.ext x11;replace f2 := f2.ext x11;replace e0 := e0.trans x11;refine ⟨(rck (h2 := h11) rfl (ld71 rfl f2 rfl) recheck_nil), _, rfl, ?_⟩;refine GoE.call rfl rfl (aCF aFunc126 rfl) (hjo _) (dD 31 0 rfl) ?_ np;rintro v12 h12 ⟨q, x12⟩;cases q;replace f5 := f5.ext x12;replace f0 := f0.ext x12;replace f2 := f2.ext x12;replace e0 := e0.trans x12;refine ⟨recheck_nil, _, rfl, ?_⟩;refine GoE.store rfl rfl rfl rfl rfl rfl rfl f2 rfl sz71 rfl rfl rfl fun h13 u13 => ?_;replace f5 := f5.upd u13 (by omega);replace f0 := f0.upd u13 (by omega);replace f2 := u13.has f2;replace e0 := e0.upd u13 (by omega);refine ⟨recheck_nil, ?_⟩;refine GoE.end rfl ?_;refine Go.inBlock noJ_ok ?_;exact again (ra ++ rb).length (vs ++ [en], ra ++ rb) _ _ (by rw [← hn']; simp) ⟨rfl, rfl, rfl, rfl, trivial⟩ ⟨rfl, hperm2, e0, f0, by dsimp only; rw [hres]; exact f2, by dsimp only; rw [List.map_append]; exact f5⟩
theorem cellsG_same (g : Nat → Int × Int) : sameA (.agg (cellsG g)) (.agg (cellsG g)) = true := by unfold cellsG; simp [sameA, sameAs, eqI_eq]
theorem first92_ok {C : ClampV} (O : C.Ok) {b : BT} (hb : b ∈ C.builds) {i : Nat} (hi : i < C.ps.length) {bi : Nat} {g : Nat → Int × Int} {h : AH} (f : Has h bi (.cells .plain [.int .i64 i] 3)) : Runs Tryz.prog 92 [.agg (builtC b), .agg (cellsG g), .ptr bi 0] h (fun en h' => en = .ret (.agg (spC (firstV b i, firstV b i))) ∧ Ext h h') := by
 have hBB := builds_B O hb
 have hnp := O.np
 have hfi := fun h => first94_ok hBB.len (i := i) (by omega) (hBB.fs i) hBB.k (h := h)
 have hon := fun h => one_ok (n := firstV b i) (h := h)
 have hka := builtC_len hBB.len
 have hsl := slice_all hka
 obtain ⟨cb, hcb⟩ : ∃ cb, builtC b = cb := ⟨_, rfl⟩
 rw [hcb] at hfi hsl ⊢
 unfold spC at *
 unfold cellsG
 have f0 := f
 clear f
 have e0 : Ext h h := Ext.refl _
 refine Runs.intro aFunc92 rfl rfl rfl rfl fun rest => ?_;apply gS;refine gR rfl ?_;refine GoR.box rfl rfl rfl rfl rfl rfl fun h1 x1 f1 => ?_;have := e0.1;have := f0.1;replace f0 := f0.ext x1;replace e0 := e0.trans x1;have := f1.1;refine GoR.box rfl rfl rfl rfl rfl rfl fun h2 x2 f2 => ?_;have := e0.1;have := f1.1;have := f0.1;replace f1 := f1.ext x2;replace f0 := f0.ext x2;replace e0 := e0.trans x2;have := f2.1;refine GoR.alloc rfl rfl rfl zt71 rfl rfl fun h3 x3 f3 => ?_;have := e0.1;have := f2.1;have := f1.1;have := f0.1;replace f2 := f2.ext x3;replace f1 := f1.ext x3;replace f0 := f0.ext x3;replace e0 := e0.trans x3;have := f3.1;apply gE;apply gS;refine gR rfl ?_;refine gO rfl rfl (ld114 rfl (by assumption) hsl) rfl ?_;refine gO rfl rfl (ld3 rfl f0 rfl) rfl ?_;refine GoR.call rfl rfl (aCF aFunc94 rfl) (hfi _) ?_ np;rintro v4 h4 ⟨q, x4⟩;cases q;refine ⟨_, rfl, ?_⟩;replace f3 := f3.ext x4;replace e0 := e0.trans x4;refine GoR.call rfl rfl (aCF aFunc93 rfl) (hon _) ?_ np;rintro v5 h5 ⟨q, x5⟩;cases q;refine ⟨_, rfl, ?_⟩;replace f3 := f3.ext x5;replace e0 := e0.trans x5;refine GoR.store rfl rfl rfl rfl rfl rfl f3 rfl sz71 rfl rfl rfl fun h6 u6 => ?_;replace f3 := u6.has f3;replace e0 := e0.upd u6 (by omega);apply gE;exact gV (ret_end (aResult_of Tryz.func92 rfl (aResults_cell rfl f3 (inCells_agg ag71 sz71 rfl))) ⟨rfl, e0⟩)
theorem left95_ok {b : BT} {i : Nat} (hi : i < 4) {bi : Nat} {g : Nat → Int × Int} {h : AH} (f : Has h bi (.cells .plain [.int .i64 i] 3)) (hb : b.1.length ≤ 4) : Runs Tryz.prog 95 [.agg (builtC b), .agg (cellsG g), .ptr bi 0] h (fun en h' => en = .ret (.agg (spC (g i))) ∧ Ext h h') := by
 have hat := cellsG_at g hi
 obtain ⟨cb, hcb⟩ : ∃ cb, builtC b = cb := ⟨_, rfl⟩
 obtain ⟨cs, hcs⟩ : ∃ cs, cellsG g = cs := ⟨_, rfl⟩
 rw [hcs] at hat;rw [hcb, hcs]
 unfold spC at *
 have f0 := f
 clear f
 have e0 : Ext h h := Ext.refl _
 refine Runs.intro aFunc95 rfl rfl rfl rfl fun rest => ?_;apply gS;refine gR rfl ?_;refine GoR.box rfl rfl rfl rfl rfl rfl fun h1 x1 f1 => ?_;have := e0.1;have := f0.1;replace f0 := f0.ext x1;replace e0 := e0.trans x1;have := f1.1;refine GoR.box rfl rfl rfl rfl rfl rfl fun h2 x2 f2 => ?_;have := e0.1;have := f1.1;have := f0.1;replace f1 := f1.ext x2;replace f0 := f0.ext x2;replace e0 := e0.trans x2;have := f2.1;refine GoR.alloc rfl rfl rfl zt71 rfl rfl fun h3 x3 f3 => ?_;have := e0.1;have := f2.1;have := f1.1;have := f0.1;replace f2 := f2.ext x3;replace f1 := f1.ext x3;replace f0 := f0.ext x3;replace e0 := e0.trans x3;have := f3.1;apply gE;apply gS;refine gR rfl ?_;refine gO rfl rfl (ld3 rfl f0 rfl) rfl ?_;refine gO rfl rfl (aOp_indexAddrArr (i := i) Tryz.underlying116 sz71 rfl rfl (Nat.ble_eq_true_of_le (by omega))) rfl ?_;refine gO rfl rfl (ld71 rfl (by assumption) hat) rfl ?_;refine GoR.store rfl rfl rfl rfl rfl rfl f3 rfl sz71 rfl rfl rfl fun h4 u4 => ?_;replace f3 := u4.has f3;replace e0 := e0.upd u4 (by omega);apply gE;exact gV (ret_end (aResult_of Tryz.func95 rfl (aResults_cell rfl f3 (inCells_agg ag71 sz71 rfl))) ⟨rfl, e0⟩)
theorem sold96_ok {C : ClampV} (O : C.Ok) {b : BT} (hb : b ∈ C.builds) {i : Nat} (hi : i < C.ps.length) {bi : Nat} {h : AH} (f : Has h bi (.cells .plain [.int .i64 i] 3)) : Runs Tryz.prog 96 [.agg (builtC b), .agg (cellsG (C.aft b)), .ptr bi 0] h (fun en h' => en = .ret (.agg (spC (minusV (firstV b i, firstV b i) (C.aft b i)))) ∧ Ext h h') := by
 have hBB := builds_B O hb
 have hnp := O.np
 have hfi := fun h => first94_ok hBB.len (i := i) (by omega) (hBB.fs i) hBB.k (h := h)
 have hon := fun h => one_ok (n := firstV b i) (h := h)
 have hka := builtC_len hBB.len
 have hsl := slice_all hka
 have hat := cellsG_at (C.aft b) (i := i) (by omega)
 have haf := aft_is O hb hi
 have hmi := fun h => minus_ok (s := (firstV b i, firstV b i)) (t := C.aft b i) (by unfold Small; dsimp only; omega) (by unfold Small; omega) (h := h)
 have hkb := builtC_same b
 have hsa := cellsG_same (C.aft b)
 obtain ⟨cb, hcb⟩ : ∃ cb, builtC b = cb := ⟨_, rfl⟩
 obtain ⟨cs, hcs⟩ : ∃ cs, cellsG (C.aft b) = cs := ⟨_, rfl⟩
 rw [hcs] at hat hsa;rw [hcb] at hfi hsl hkb;rw [hcs, hcb]
 unfold spC at *
 have f0 := f
 clear f
 have e0 : Ext h h := Ext.refl _
 refine Runs.intro aFunc96 rfl rfl rfl rfl fun rest => ?_;apply gS;refine gR rfl ?_;refine GoR.box rfl rfl rfl rfl rfl rfl fun h1 x1 f1 => ?_;have := e0.1;have := f0.1;replace f0 := f0.ext x1;replace e0 := e0.trans x1;have := f1.1;refine GoR.box rfl rfl rfl rfl rfl rfl fun h2 x2 f2 => ?_;have := e0.1;have := f1.1;have := f0.1;replace f1 := f1.ext x2;replace f0 := f0.ext x2;replace e0 := e0.trans x2;have := f2.1;refine GoR.alloc rfl rfl rfl zt71 rfl rfl fun h3 x3 f3 => ?_;have := e0.1;have := f2.1;have := f1.1;have := f0.1;replace f2 := f2.ext x3;replace f1 := f1.ext x3;replace f0 := f0.ext x3;replace e0 := e0.trans x3;have := f3.1;apply gE;apply gS;refine Go.drawnE plan96_0 ?_;refine gQ rfl rfl (ld114 rfl (by assumption) hsl) rfl ?_;iterate 2 refine gQ rfl rfl (ld3 rfl f0 rfl) rfl ?_
 refine gQ rfl rfl (aOp_indexAddrArr (i := i) Tryz.underlying116 sz71 rfl rfl (Nat.ble_eq_true_of_le (by omega))) rfl ?_;refine gQ rfl rfl (ld71 rfl (by assumption) hat) rfl ?_;refine GoE.call rfl rfl (aCF aFunc94 rfl) (hfi _) (dK 3 6 (dK 3 5 (dK 3 4 (dD 3 1 (dD 3 0 rfl))))) ?_ np;rintro v4 h4 ⟨q, x4⟩;cases q;replace f3 := f3.ext x4;replace f2 := f2.ext x4;replace f1 := f1.ext x4;replace f0 := f0.ext x4;replace e0 := e0.trans x4;refine ⟨(rck (h2 := h4) rfl (ld71 rfl (by assumption) hat) (rck (h2 := h4) rfl (aOp_indexAddrArr (i := i) Tryz.underlying116 sz71 rfl rfl (Nat.ble_eq_true_of_le (by omega))) (rck (h2 := h4) rfl (ld3 rfl f0 rfl) recheck_nil))), _, rfl, ?_⟩;refine GoE.call rfl rfl (aCF aFunc93 rfl) (hon _) (dK 7 6 (dK 7 5 (dK 7 4 rfl))) ?_ np;rintro v5 h5 ⟨q, x5⟩;cases q;replace f3 := f3.ext x5;replace f2 := f2.ext x5;replace f1 := f1.ext x5;replace f0 := f0.ext x5;replace e0 := e0.trans x5;refine ⟨(rck (h2 := h5) rfl (ld71 rfl (by assumption) hat) (rck (h2 := h5) rfl (aOp_indexAddrArr (i := i) Tryz.underlying116 sz71 rfl rfl (Nat.ble_eq_true_of_le (by omega))) (rck (h2 := h5) rfl (ld3 rfl f0 rfl) recheck_nil))), _, rfl, ?_⟩;refine GoE.call rfl rfl (aCF aFunc97 rfl) (hmi _) (dD 127 6 (dD 127 5 (dD 127 4 rfl))) ?_ np;rintro v6 h6 ⟨q, x6⟩;cases q;replace f3 := f3.ext x6;replace e0 := e0.trans x6;refine ⟨recheck_nil, _, rfl, ?_⟩;refine GoE.store rfl rfl rfl rfl rfl rfl rfl f3 rfl sz71 rfl rfl rfl fun h7 u7 => ?_;replace f3 := u7.has f3;replace e0 := e0.upd u7 (by omega);refine ⟨recheck_nil, ?_⟩;refine GoE.end rfl ?_;exact gV (ret_end (aResult_of Tryz.func96 rfl (aResults_cell rfl f3 (inCells_agg ag71 sz71 rfl))) ⟨rfl, e0⟩)
theorem sumIn_app (s : Nat) (x : Int × Int) : ∀ (l : List (Int × Int)) (i : Nat), sumIn s i (l ++ [x]) = if s.testBit (i + l.length) = true then plusV (sumIn s i l) x else sumIn s i l
 | [], i => by
  unfold sumIn
  simp only [List.nil_append]
  unfold sumIn
  rw [List.length_nil, Nat.add_zero]
  split
  ·unfold plusV; simp
  ·rfl
 | y :: l, i => by
  have ih := sumIn_app s x l (i + 1)
  rw [List.cons_append];rw [sumIn, sumIn, ih, List.length_cons, show i + 1 + l.length = i + (l.length + 1) by omega]
  by_cases q1 : s.testBit i = true
  ·by_cases q2 : s.testBit (i + (l.length + 1)) = true
   ·simp only [if_pos q1, if_pos q2]
    unfold plusV
    ext <;> dsimp only <;> omega
   ·simp only [if_pos q1, if_neg q2]
  ·simp only [if_neg q1]
def stk (g : Nat → Int × Int) (n : Nat) : List (Int × Int) := (List.range n).map g
theorem stk_succ (g : Nat → Int × Int) (s n : Nat) : sumIn s 0 (stk g (n + 1)) = if s.testBit n = true then plusV (sumIn s 0 (stk g n)) (g n) else sumIn s 0 (stk g n) := by
 unfold stk
 rw [List.range_succ, List.map_append, List.map_singleton, sumIn_app, List.length_map, List.length_range, Nat.zero_add]
theorem stk_small {g : Nat → Int × Int} (hg : ∀ i, (-5000 ≤ (g i).1 ∧ (g i).1 ≤ 5000) ∧ (-5000 ≤ (g i).2 ∧ (g i).2 ≤ 5000)) (s : Nat) : ∀ n : Nat, (-(5000 * (n : Int)) ≤ (sumIn s 0 (stk g n)).1 ∧ (sumIn s 0 (stk g n)).1 ≤ 5000 * (n : Int)) ∧ (-(5000 * (n : Int)) ≤ (sumIn s 0 (stk g n)).2 ∧ (sumIn s 0 (stk g n)).2 ≤ 5000 * (n : Int))
 | 0 => by
  have h0 : sumIn s 0 (stk g 0) = (0, 0) := rfl
  rw [h0]
  dsimp only
  omega
 | n + 1 => by
  have ih := stk_small hg s n
  have := hg n
  rw [stk_succ]
  split
  ·unfold plusV; dsimp only; omega
  ·omega
theorem total98_ok {b : BT} (hb : b.1.length ≤ 4) {g : Nat → Int × Int} (hg : ∀ i, (-5000 ≤ (g i).1 ∧ (g i).1 ≤ 5000) ∧ (-5000 ≤ (g i).2 ∧ (g i).2 ≤ 5000)) {s : Nat} {bi : Nat} {h : AH} (f : Has h bi (.cells .plain [.int .i64 (s : Nat)] 3)) : Runs Tryz.prog 98 [.agg (builtC b), .agg (cellsG g), .ptr bi 0] h (fun en h' => en = .ret (.agg (spC (sumIn s 0 (stk g 4)))) ∧ Ext h h') := by
 have hon := fun h => one_ok (n := 0) (h := h)
 have hbi := f.1
 have hka := builtC_len hb
 obtain ⟨cb, hcb⟩ : ∃ cb, builtC b = cb := ⟨_, rfl⟩
 rw [hcb]
 have hsa := cellsG_same g
 have hlen : (cellsG g).length = 8 := rfl
 have hsl := slice_all hlen
 have hats := fun i (hi : i < 4) => cellsG_at g hi
 obtain ⟨cs, hcs⟩ : ∃ cs, cellsG g = cs := ⟨_, rfl⟩
 rw [hcs] at hsa hsl hats hlen ⊢
 unfold spC at hon
 have f0 := f
 clear f
 have e0 : Ext h h := Ext.refl _
 refine Runs.intro aFunc98 rfl rfl rfl rfl fun rest => ?_;apply gS;refine gR rfl ?_;refine GoR.box rfl rfl rfl rfl rfl rfl fun h1 x1 f1 => ?_;have := e0.1;have := f0.1;replace f0 := f0.ext x1;replace e0 := e0.trans x1;have := f1.1;refine GoR.box rfl rfl rfl rfl rfl rfl fun h2 x2 f2 => ?_;have := e0.1;have := f1.1;have := f0.1;replace f1 := f1.ext x2;replace f0 := f0.ext x2;replace e0 := e0.trans x2;have := f2.1;refine GoR.alloc rfl rfl rfl zt71 rfl rfl fun h3 x3 f3 => ?_;have := e0.1;have := f2.1;have := f1.1;have := f0.1;replace f2 := f2.ext x3;replace f1 := f1.ext x3;replace f0 := f0.ext x3;replace e0 := e0.trans x3;have := f3.1;apply gE;apply gS;refine gR rfl ?_;refine GoR.call rfl rfl (aCF aFunc93 rfl) (hon _) ?_ np;rintro v4 h4 ⟨q, x4⟩;cases q;refine ⟨_, rfl, ?_⟩;replace f3 := f3.ext x4;replace f2 := f2.ext x4;replace f1 := f1.ext x4;replace f0 := f0.ext x4;replace e0 := e0.trans x4;refine GoR.alloc rfl rfl rfl zt71 rfl rfl fun h5 x5 f5 => ?_;have := e0.1;have := f3.1;have := f2.1;have := f1.1;have := f0.1;replace f3 := f3.ext x5;replace f2 := f2.ext x5;replace f1 := f1.ext x5;replace f0 := f0.ext x5;replace e0 := e0.trans x5;have := f5.1;refine GoR.store rfl rfl rfl rfl rfl rfl f5 rfl sz71 rfl rfl rfl fun h6 u6 => ?_;replace f5 := u6.has f5;replace f3 := f3.upd u6 (by omega);replace f2 := f2.upd u6 (by omega);replace f1 := f1.upd u6 (by omega);replace f0 := f0.upd u6 (by omega);replace e0 := e0.upd u6 (by omega);apply gE;iterate 2 apply gS
 refine gR rfl ?_;refine gO rfl rfl (ld116 rfl (by assumption) hsl) rfl ?_;refine gP ?_;apply gE;refine Go.block noJ_ok ?_
 have hb2 := f3.1
 have hb4 := f5.1
 have hn2 : h2.next < h4.next := by omega
 have hn1 : h.next < h2.next := by omega
 refine Go.loopKeep (fun i : Nat => [(2, .ptr bi 0), (5, .ptr h2.next 0), (6, .ptr h4.next 0), (10, .agg cs), (11, .int .i64 (i : Nat))])
  (fun n i h' => n + i = 4 ∧ Ext h h' ∧ Has h' bi (.cells .plain [.int .i64 (s : Nat)] 3) ∧ Has h' h2.next (.cells .plain [.int .i64 0, .int .i64 0] 71) ∧ Has h' h4.next (.cells .plain (spC (sumIn s 0 (stk g i))) 71)) (n := 4) 0 ⟨rfl, rfl, rfl, rfl, rfl, trivial⟩ ⟨rfl, e0, f0, f3, f5⟩ ?_
 clear e0 f0 f1 f2 f3 f5;rintro n i hc ⟨hn, e0, f0, f3, f5⟩ again
 by_cases hi : i < 4
 ·have hat := hats i hi
  rw [Nat.zero_add] at hat
  have hin := fun h => in_ok (s := s) (i := i) (by omega) (h := h)
  have hsu := stk_succ g s i
  have hsm := stk_small hg s i
  have hgi := hg i
  have hpl := fun h => plus_ok (s := sumIn s 0 (stk g i)) (t := g i) (by unfold Small; omega) (by unfold Small; omega) (h := h)
  cases htb : s.testBit i with
  | true =>
   rw [if_pos htb] at hsu;rw [htb] at hin
   rw [← hsu] at hpl
   unfold spC at hpl hat f5
   apply gS;refine gR rfl ?_;refine gO rfl rfl (kLT rfl rfl) rfl ?_;apply gE;apply gS;refine gC (b := true) rfl ?_;refine gD ?_;apply gS;refine Go.block noJ_ok ?_;apply gS;refine gR rfl ?_;refine gP ?_;refine gO rfl rfl (aOp_indexArr (i := i) Tryz.underlying116 sz71 rfl rfl (Nat.ble_eq_true_of_le (by omega)) (partT_agg ag71 sz71 hat)) rfl ?_;refine GoR.alloc rfl rfl rfl zt71 rfl rfl fun h7 x7 f7 => ?_;have := e0.1;have := f0.1;have := f3.1;have := f5.1;replace f0 := f0.ext x7;replace f3 := f3.ext x7;replace f5 := f5.ext x7;replace e0 := e0.trans x7;have := f7.1;refine gP ?_;refine GoR.store rfl rfl rfl rfl rfl rfl f7 rfl sz71 rfl rfl rfl fun h8 u8 => ?_;replace f7 := u8.has f7;replace f0 := f0.upd u8 (by omega);replace f3 := f3.upd u8 (by omega);replace f5 := f5.upd u8 (by omega);replace e0 := e0.upd u8 (by omega);apply gE;apply gS;refine gR rfl ?_;refine gO rfl rfl (ld3 rfl f0 rfl) rfl ?_;refine gP ?_;refine GoR.call rfl rfl (aCF aFunc99 rfl) (hin _) ?_ np;rintro v9 h9 ⟨q, x9⟩;cases q;refine ⟨_, rfl, ?_⟩;replace f7 := f7.ext x9;replace f0 := f0.ext x9;replace f3 := f3.ext x9;replace f5 := f5.ext x9;replace e0 := e0.trans x9;apply gE;refine gC (b := true) rfl ?_;refine gR rfl ?_;refine gO rfl rfl (ld71 rfl f5 rfl) rfl ?_;refine gO rfl rfl (ld71 rfl f7 rfl) rfl ?_;refine GoR.call rfl rfl (aCF aFunc100 rfl) (hpl _) ?_ np;rintro v10 h10 ⟨q, x10⟩;cases q;refine ⟨_, rfl, ?_⟩;replace f7 := f7.ext x10;replace f0 := f0.ext x10;replace f3 := f3.ext x10;replace f5 := f5.ext x10;replace e0 := e0.trans x10;refine GoR.store rfl rfl rfl rfl rfl rfl f5 rfl sz71 rfl rfl rfl fun h11 u11 => ?_;replace f7 := f7.upd u11 (by omega);replace f0 := f0.upd u11 (by omega);replace f3 := f3.upd u11 (by omega);replace f5 := u11.has f5;replace e0 := e0.upd u11 (by omega);apply gE;refine Go.inBlock noJ_ok ?_;refine gR rfl ?_;refine gO rfl rfl (aA rfl rfl) rfl ?_;refine gP ?_;apply gE;exact again (n - 1) (i + 1) _ _ (by omega) ⟨rfl, rfl, rfl, rfl, rfl, trivial⟩ ⟨by omega, e0, f0, f3, f5⟩
  | false =>
   rw [if_neg (by rw [htb]; decide)] at hsu;rw [htb] at hin
   unfold spC at hat f5
   apply gS;refine gR rfl ?_;refine gO rfl rfl (kLT rfl rfl) rfl ?_;apply gE;apply gS;refine gC (b := true) rfl ?_;refine gD ?_;apply gS;refine Go.block noJ_ok ?_;apply gS;refine gR rfl ?_;refine gP ?_;refine gO rfl rfl (aOp_indexArr (i := i) Tryz.underlying116 sz71 rfl rfl (Nat.ble_eq_true_of_le (by omega)) (partT_agg ag71 sz71 hat)) rfl ?_;refine GoR.alloc rfl rfl rfl zt71 rfl rfl fun h7 x7 f7 => ?_;have := e0.1;have := f0.1;have := f3.1;have := f5.1;replace f0 := f0.ext x7;replace f3 := f3.ext x7;replace f5 := f5.ext x7;replace e0 := e0.trans x7;have := f7.1;refine gP ?_;refine GoR.store rfl rfl rfl rfl rfl rfl f7 rfl sz71 rfl rfl rfl fun h8 u8 => ?_;replace f0 := f0.upd u8 (by omega);replace f3 := f3.upd u8 (by omega);replace f5 := f5.upd u8 (by omega);replace e0 := e0.upd u8 (by omega);apply gE;apply gS;refine gR rfl ?_;refine gO rfl rfl (ld3 rfl f0 rfl) rfl ?_;refine gP ?_;refine GoR.call rfl rfl (aCF aFunc99 rfl) (hin _) ?_ np;rintro v9 h9 ⟨q, x9⟩;cases q;refine ⟨_, rfl, ?_⟩;replace f0 := f0.ext x9;replace f3 := f3.ext x9;replace f5 := f5.ext x9;replace e0 := e0.trans x9;apply gE;refine gC (b := false) rfl ?_;refine gD ?_;refine Go.inBlock noJ_ok ?_;refine gR rfl ?_;refine gO rfl rfl (aA rfl rfl) rfl ?_;refine gP ?_;apply gE;exact again (n - 1) (i + 1) _ _ (by omega) ⟨rfl, rfl, rfl, rfl, rfl, trivial⟩ ⟨by omega, e0, f0, f3, by rw [hsu]; exact f5⟩
 ·have hin : i = 4 := by omega
  subst hin
  unfold spC at f5 ⊢
  apply gS;refine gR rfl ?_;refine gO rfl rfl (kLF rfl rfl) rfl ?_;apply gE;apply gS;refine gC (b := false) rfl ?_;refine gD ?_;apply gS;refine gR rfl ?_;refine gO rfl rfl (ld71 rfl f5 rfl) rfl ?_;refine GoR.store rfl rfl rfl rfl rfl rfl f3 rfl sz71 rfl rfl rfl fun h7 u7 => ?_;replace f3 := u7.has f3;replace e0 := e0.upd u7 (by omega);apply gE;exact gV (ret_end (aResult_of Tryz.func98 rfl (aResults_cell rfl f3 (inCells_agg ag71 sz71 rfl))) ⟨rfl, e0⟩)
theorem KfirstD_ok {C : ClampV} (O : C.Ok) {h : AH} {bm : Nat} (k : KnownAt C h bm) {i : Nat} (hi : i < C.ps.length) : Runs Tryz.prog 49 [.map bm, .int .i64 i] h (fun en h' => en = .ret (.agg (spC (C.first i))) ∧ Ext h h') := by
 have hsp : ∀ {h2 bi}, Ext h h2 → Has h2 bi (.cells .plain [.int .i64 i] 3) → Runs Tryz.prog 91 [.map bm, .func (.func 92) [] [.ptr bi 0]] h2 (fun en h' => en = .ret (.agg (spC (C.first i))) ∧ Ext h2 h') := fun e f =>
  spread_ok O (k.ext e) (fun b => (firstV b i, firstV b i)) aFunc92 (by simp [sameA, sameAs, eqI_eq]) fun b hb h' e' => first92_ok O hb hi (f.ext e')
 unfold spC at hsp ⊢
 have e0 : Ext h h := Ext.refl _
 refine Runs.intro aFunc49 rfl rfl rfl rfl fun rest => ?_;apply gS;refine gR rfl ?_;refine GoR.box rfl rfl rfl rfl rfl rfl fun h0 x0 f0 => ?_;have := e0.1;replace e0 := e0.trans x0;have := f0.1;refine GoR.alloc rfl rfl rfl zt71 rfl rfl fun h1 x1 f1 => ?_;have := e0.1;have := f0.1;replace f0 := f0.ext x1;replace e0 := e0.trans x1;have := f1.1;apply gE;apply gS;refine gR rfl ?_;iterate 2 refine gP ?_
 refine GoR.call rfl rfl (aCF aFunc91 rfl) (hsp e0 (by assumption)) ?_ np;rintro v2 h2 ⟨q, x2⟩;cases q;refine ⟨_, rfl, ?_⟩;replace f1 := f1.ext x2;replace e0 := e0.trans x2;refine GoR.store rfl rfl rfl rfl rfl rfl f1 rfl sz71 rfl rfl rfl fun h3 u3 => ?_;replace f1 := u3.has f1;replace e0 := e0.upd u3 (by omega);apply gE;exact gV (ret_end (aResult_of Tryz.func49 rfl (aResults_cell rfl f1 (inCells_agg ag71 sz71 rfl))) ⟨rfl, e0⟩)
theorem Kleft_ok {C : ClampV} (O : C.Ok) {h : AH} {bm : Nat} (k : KnownAt C h bm) {i : Nat} (hi : i < C.ps.length) : Runs Tryz.prog 54 [.map bm, .int .i64 i] h (fun en h' => en = .ret (.agg (spC (C.left i))) ∧ Ext h h') := by
 have hnp := O.np
 have hsp : ∀ {h2 bi}, Ext h h2 → Has h2 bi (.cells .plain [.int .i64 i] 3) → Runs Tryz.prog 91 [.map bm, .func (.func 95) [] [.ptr bi 0]] h2 (fun en h' => en = .ret (.agg (spC (C.left i))) ∧ Ext h2 h') := fun e f =>
  spread_ok O (k.ext e) (fun b => C.aft b i) aFunc95 (by simp [sameA, sameAs, eqI_eq]) fun b hb h' e' => left95_ok (by omega) (f.ext e') (builds_B O hb).len
 unfold spC at hsp ⊢
 have e0 : Ext h h := Ext.refl _
 refine Runs.intro aFunc54 rfl rfl rfl rfl fun rest => ?_;apply gS;refine gR rfl ?_;refine GoR.box rfl rfl rfl rfl rfl rfl fun h0 x0 f0 => ?_;have := e0.1;replace e0 := e0.trans x0;have := f0.1;refine GoR.alloc rfl rfl rfl zt71 rfl rfl fun h1 x1 f1 => ?_;have := e0.1;have := f0.1;replace f0 := f0.ext x1;replace e0 := e0.trans x1;have := f1.1;apply gE;apply gS;refine gR rfl ?_;iterate 2 refine gP ?_
 refine GoR.call rfl rfl (aCF aFunc91 rfl) (hsp e0 (by assumption)) ?_ np;rintro v2 h2 ⟨q, x2⟩;cases q;refine ⟨_, rfl, ?_⟩;replace f1 := f1.ext x2;replace e0 := e0.trans x2;refine GoR.store rfl rfl rfl rfl rfl rfl f1 rfl sz71 rfl rfl rfl fun h3 u3 => ?_;replace f1 := u3.has f1;replace e0 := e0.upd u3 (by omega);apply gE;exact gV (ret_end (aResult_of Tryz.func54 rfl (aResults_cell rfl f1 (inCells_agg ag71 sz71 rfl))) ⟨rfl, e0⟩)
theorem Ksold_ok {C : ClampV} (O : C.Ok) {h : AH} {bm : Nat} (k : KnownAt C h bm) {i : Nat} (hi : i < C.ps.length) : Runs Tryz.prog 57 [.map bm, .int .i64 i] h (fun en h' => en = .ret (.agg (spC (C.sold i))) ∧ Ext h h') := by
 have hsp : ∀ {h2 bi}, Ext h h2 → Has h2 bi (.cells .plain [.int .i64 i] 3) → Runs Tryz.prog 91 [.map bm, .func (.func 96) [] [.ptr bi 0]] h2 (fun en h' => en = .ret (.agg (spC (C.sold i))) ∧ Ext h2 h') := fun e f =>
  spread_ok O (k.ext e) (fun b => minusV (firstV b i, firstV b i) (C.aft b i)) aFunc96 (by simp [sameA, sameAs, eqI_eq]) fun b hb h' e' => sold96_ok O hb hi (f.ext e')
 unfold spC at hsp ⊢
 have e0 : Ext h h := Ext.refl _
 refine Runs.intro aFunc57 rfl rfl rfl rfl fun rest => ?_;apply gS;refine gR rfl ?_;refine GoR.box rfl rfl rfl rfl rfl rfl fun h0 x0 f0 => ?_;have := e0.1;replace e0 := e0.trans x0;have := f0.1;refine GoR.alloc rfl rfl rfl zt71 rfl rfl fun h1 x1 f1 => ?_;have := e0.1;have := f0.1;replace f0 := f0.ext x1;replace e0 := e0.trans x1;have := f1.1;apply gE;apply gS;refine gR rfl ?_;iterate 2 refine gP ?_
 refine GoR.call rfl rfl (aCF aFunc91 rfl) (hsp e0 (by assumption)) ?_ np;rintro v2 h2 ⟨q, x2⟩;cases q;refine ⟨_, rfl, ?_⟩;replace f1 := f1.ext x2;replace e0 := e0.trans x2;refine GoR.store rfl rfl rfl rfl rfl rfl f1 rfl sz71 rfl rfl rfl fun h3 u3 => ?_;replace f1 := u3.has f1;replace e0 := e0.upd u3 (by omega);apply gE;exact gV (ret_end (aResult_of Tryz.func57 rfl (aResults_cell rfl f1 (inCells_agg ag71 sz71 rfl))) ⟨rfl, e0⟩)
theorem aft_in {C : ClampV} (O : C.Ok) {b : BT} (hb : b ∈ C.builds) (i : Nat) : (0 ≤ (C.aft b i).1 ∧ (C.aft b i).1 ≤ 5000) ∧ (0 ≤ (C.aft b i).2 ∧ (C.aft b i).2 ≤ 5000) := by
 by_cases q : i < C.ps.length
 ·have := aft_is O hb q
  omega
 ·unfold ClampV.aft
  rw [if_neg q]
  decide
theorem Ktotal_ok {C : ClampV} (O : C.Ok) {h : AH} {bm : Nat} (k : KnownAt C h bm) {s : Nat} : Runs Tryz.prog 59 [.map bm, .int .i64 (s : Nat)] h (fun en h' => en = .ret (.agg (spC (C.total s))) ∧ Ext h h') := by
 have hsp : ∀ {h2 bi}, Ext h h2 → Has h2 bi (.cells .plain [.int .i64 (s : Nat)] 3) → Runs Tryz.prog 91 [.map bm, .func (.func 98) [] [.ptr bi 0]] h2 (fun en h' => en = .ret (.agg (spC (C.total s))) ∧ Ext h2 h') := fun e f =>
  spread_ok O (k.ext e) (fun b => C.sumB s b) aFunc98 (by simp [sameA, sameAs, eqI_eq]) fun b hb h' e' => total98_ok (builds_B O hb).len (fun i => by have := aft_in O hb i; omega) (f.ext e')
 unfold spC at hsp ⊢
 have e0 : Ext h h := Ext.refl _
 refine Runs.intro aFunc59 rfl rfl rfl rfl fun rest => ?_;apply gS;refine gR rfl ?_;refine GoR.box rfl rfl rfl rfl rfl rfl fun h0 x0 f0 => ?_;have := e0.1;replace e0 := e0.trans x0;have := f0.1;refine GoR.alloc rfl rfl rfl zt71 rfl rfl fun h1 x1 f1 => ?_;have := e0.1;have := f0.1;replace f0 := f0.ext x1;replace e0 := e0.trans x1;have := f1.1;apply gE;apply gS;refine gR rfl ?_;iterate 2 refine gP ?_
 refine GoR.call rfl rfl (aCF aFunc91 rfl) (hsp e0 (by assumption)) ?_ np;rintro v2 h2 ⟨q, x2⟩;cases q;refine ⟨_, rfl, ?_⟩;replace f1 := f1.ext x2;replace e0 := e0.trans x2;refine GoR.store rfl rfl rfl rfl rfl rfl f1 rfl sz71 rfl rfl rfl fun h3 u3 => ?_;replace f1 := u3.has f1;replace e0 := e0.upd u3 (by omega);apply gE;exact gV (ret_end (aResult_of Tryz.func59 rfl (aResults_cell rfl f1 (inCells_agg ag71 sz71 rfl))) ⟨rfl, e0⟩)
end Go.Proofs.YtobhkdgcciolmaaGreat

set_option linter.unusedSimpArgs false
namespace Go.AbsE
open Go
section
variable {P : Program} {t : Tr AVal} {h : AH} {dst : Option Tmp} {ty tt : TypeId} {pos : String} {after : Array Edge} {guard : Option (Nat × Bool)} {x y : Operand}
theorem u64_small {n : Nat} (hn : n < 18446744073709551616) : IntKind.u64.wrap (n : Nat) = n := by
 have h1 : IntKind.u64.wrap (n : Nat) = (n : Int) % 18446744073709551616 := by rfl
 rw [h1]
 omega
theorem aOp_binU {op : BinOp} {ty2 : TypeId} {a b : Int} {k : IntKind} {r : AVal} (hx : ev t x = some (.int .u64 a)) (hy : ev t y = some (.int k b)) (hv : (match pureRun P (binOp op ty (.int .u64 a) (.int k b)) with | some v => absV v | none => none) = some r) :
  aOp P t h ⟨dst, .binOp op ty x y ty2, tt, pos, after, guard⟩ = some (.val r h) := by
 show opBin P t h op ty x y = _
 unfold opBin
 rw [hx, hy]
 dsimp only
 rw [show aBinOp P op ty (isConstO x || isConstO y) (.int .u64 a) (.int k b) = some r from hv]
 rfl
theorem aOp_andU {ty2 : TypeId} {a b r : Nat} (hx : ev t x = some (.int .u64 (a : Nat))) (hy : ev t y = some (.int .u64 (b : Nat))) (ha : a < 18446744073709551616) (hb : b < 18446744073709551616) (hr : a &&& b = r) :
  aOp P t h ⟨dst, .binOp .and ty x y ty2, tt, pos, after, guard⟩ = some (.val (.int .u64 (r : Nat)) h) := by
 refine aOp_binU hx hy ?_
 have : pureRun P (binOp .and ty (.int .u64 (a : Nat)) (.int .u64 (b : Nat))) = some (.int .u64 (r : Nat)) := by
  show pureRun P (if IntKind.u64 ≠ IntKind.u64 then stuck "BinOp: operands of different kinds" else Op.intBits .and .u64 (a : Nat) (b : Nat)) = _
  rw [if_neg (fun h => h rfl)]
  show some (Value.int .u64 (IntKind.u64.wrap ((BitVec.ofInt 64 (a : Nat) &&& BitVec.ofInt 64 (b : Nat)).toNat : Int))) = _
  have h1 : (BitVec.ofInt 64 (a : Nat) &&& BitVec.ofInt 64 (b : Nat)).toNat = r := by
   rw [BitVec.ofInt_natCast, BitVec.ofInt_natCast, BitVec.toNat_and, BitVec.toNat_ofNat, BitVec.toNat_ofNat, Nat.mod_eq_of_lt (by omega), Nat.mod_eq_of_lt (by omega)]
   exact hr
  have h2 : r ≤ a := by rw [← hr]; exact Nat.and_le_left
  rw [h1, u64_small (by omega)]
 rw [this]
 rfl
theorem aOp_addU {ty2 : TypeId} {a b r : Nat} (hx : ev t x = some (.int .u64 (a : Nat))) (hy : ev t y = some (.int .u64 (b : Nat))) (hb : a + b < 18446744073709551616) (hr : a + b = r) :
  aOp P t h ⟨dst, .binOp .add ty x y ty2, tt, pos, after, guard⟩ = some (.val (.int .u64 (r : Nat)) h) := by
 refine aOp_binU hx hy ?_
 have : pureRun P (binOp .add ty (.int .u64 (a : Nat)) (.int .u64 (b : Nat))) = some (.int .u64 (r : Nat)) := by
  show some (Value.int .u64 (IntKind.u64.wrap ((a : Int) + (b : Int)))) = _
  have : (a : Int) + (b : Int) = ((a + b : Nat) : Int) := by omega
  rw [this, u64_small hb, hr]
 rw [this]
 rfl
theorem aOp_shrU {ty2 : TypeId} {a r i : Nat} (hx : ev t x = some (.int .u64 (a : Nat))) (hy : ev t y = some (.int .u64 (i : Nat))) (hi : i ≤ 64) (hr : a / 2 ^ i = r) : aOp P t h ⟨dst, .binOp .shr ty x y ty2, tt, pos, after, guard⟩ = some (.val (.int .u64 (r : Nat)) h) := by
 refine aOp_binU hx hy ?_
 have : pureRun P (binOp .shr ty (.int .u64 (a : Nat)) (.int .u64 (i : Nat))) = some (.int .u64 (r : Nat)) := by
  show pureRun P (Op.shift .shr .u64 (a : Nat) .u64 (i : Nat)) = _
  unfold Op.shift
  rw [if_neg (by omega)]
  have : min ((i : Int)).toNat IntKind.u64.bits = i := by
   show min ((i : Int)).toNat 64 = i
   omega
  rw [this]
  show some (Value.int .u64 ((a : Int).fdiv (2 ^ i))) = _
  rw [show (a : Int).fdiv (2 ^ i) = ((a / 2 ^ i : Nat) : Int) by rw [Int.fdiv_eq_ediv_of_nonneg _ (Int.le_of_lt (Int.pow_pos (by omega)))]; simp, hr]
 rw [this]
 rfl
theorem aOp_convUI {src dt : TypeId} {sd : TypeDesc} {w : Nat} (hx : ev t x = some (.int .u64 (w : Nat))) (hs : P.underlying src = some sd) (hu : P.underlying dt = some (.int .i64)) (hw : w < 9223372036854775808) : aOp P t h ⟨dst, .convert src dt x, tt, pos, after, guard⟩ = some (.val (.int .i64 (w : Nat)) h) := by
 show opConvert P t h src dt x = _
 unfold opConvert
 rw [hx]
 have : pureRun P (convert src dt (.int .u64 (w : Nat))) = some (.int .i64 (w : Nat)) := by
  unfold convert
  rw [pureRun_bind, pr_underlying hs]
  simp only [Option.bind_some, pureRun_bind, pr_underlying hu]
  have := i64_small hw
  cases sd <;> (show pureRun P (Conv.intToInt .i64 (w : Nat)) = _; unfold Conv.intToInt; rw [this]; rfl)
 simp only [this]
 rfl
end
end Go.AbsE

set_option linter.unusedSimpArgs false
namespace Go.AbsE
open Go
section
variable {P : Program}
structure TakesV (P : Program) (base : Nat) (y : AVal) (items : List AVal) (J E : Nat → AH → (Nat → Prop) → Prop) : Prop where
 ltJ : ∀ {k h F b}, J k h F → F b → b < h.next
 keepJ : ∀ {k h F h'}, J k h F → h.next ≤ h'.next → (∀ b, b < h.next → (b < base ∨ F b) → h'.get b = h.get b) → J k h' F
 ltE : ∀ {k h F b}, E k h F → F b → b < h.next
 keepE : ∀ {k h F h'}, E k h F → h.next ≤ h'.next → (∀ b, b < h.next → (b < base ∨ F b) → h'.get b = h.get b) → E k h' F
 take : ∀ {k item h F}, items[k]? = some item → J k h F → ∃ x, callY P y [item] h = some x ∧ (∀ v h', x ≠ .val v h') ∧
  Does P x (fun en h' => ExtF F h h' ∧ ∃ F', (∀ b, F' b → F b ∨ h.next ≤ b) ∧ ((en = .ret (.bool true) ∧ J (k + 1) h' F') ∨ (en = .ret (.bool false) ∧ E k h' F')))
theorem TakesV.ext {base : Nat} {y : AVal} {items : List AVal} {J E : Nat → AH → (Nat → Prop) → Prop} (T : TakesV P base y items J E) {k : Nat} {h h' : AH} {F : Nat → Prop} (j : J k h F) (e : Ext h h') : J k h' F := T.keepJ j e.1 fun b hb _ => e.2 b hb
theorem TakesV.keep {base : Nat} {y : AVal} {items : List AVal} {J E : Nat → AH → (Nat → Prop) → Prop} (T : TakesV P base y items J E) {k : Nat} {h h' : AH} {F : Nat → Prop} (j : J k h F) (hn : h.next ≤ h'.next) (he : ∀ b, b < h.next → (b < base ∨ F b) → h'.get b = h.get b) : J k h' F := T.keepJ j hn he
theorem TakesV.shift {base : Nat} {y : AVal} {items sub : List AVal} {J E : Nat → AH → (Nat → Prop) → Prop} (T : TakesV P base y items J E) (o : Nat) (hs : ∀ (n : Nat) v, sub[n]? = some v → items[o + n]? = some v) :
  TakesV P base y sub (fun n => J (o + n)) (fun n => E (o + n)) where
 ltJ := fun j => T.ltJ j
 keepJ := fun j => T.keepJ j
 ltE := fun j => T.ltE j
 keepE := fun j => T.keepE j
 take := fun h j => T.take (hs _ _ h) j
def IterV (P : Program) (g : FuncId) (first cap : List AVal) (items : List AVal) (A : AH → Prop) : Prop :=
 ∀ (y : AVal) (base : Nat) (J E : Nat → AH → (Nat → Prop) → Prop) (h : AH) (F : Nat → Prop), y.cells = [y] → scalars [y] = true → (∀ h', ExtF F h h' → A h') → base ≤ h.next → TakesV P base y items J E → J 0 h F → Runs P g (first ++ [y] ++ cap) h (IterFR F J E items.length h)
theorem IterV.mono {g : FuncId} {first cap : List AVal} {items : List AVal} {A A' : AH → Prop} (k : IterV P g first cap items A) (hA : ∀ h, A' h → A h) : IterV P g first cap items A' :=
 fun y base J E h F hyc hys hA' => k y base J E h F hyc hys fun h' x => hA h' (hA' h' x)
theorem Go.rangeV {fn n : Nat} {ds : List ADef} {dk : Bool} {rst : List AFr} {k : List AItem} {Q : AM → Prop} {t : Tr AVal} {h : AH} {x : Operand} {params : Array Tmp} {assign body : Code} {g : FuncId} {gf fnr : Func} {first cap : List AVal}
  {items : List AVal} {A : AH → Prop} (F0 : Nat → Prop) (Inv : Nat → AH → (Nat → Prop) → Prop) (Fin : Code → AH → (Nat → Prop) → Prop)
  (hx : ev t x = some (.func (.func g) first cap)) (hg : aFunc P g = some gf) (hfn : P.funcs[fn]? = some fnr) (it : IterV P g first cap items A)
  (hA : ∀ h', ExtF F0 h h' → A h') (hI : Inv 0 h F0)
  (lI : ∀ k hh F b, Inv k hh F → F b → b < hh.next) (lF : ∀ c hh F b, Fin c hh F → F b → b < hh.next)
  (kI : ∀ k h1 h2 F, Inv k h1 F → h1.next ≤ h2.next → (∀ b, b < h1.next → (b < h.next ∨ F b) → h2.get b = h1.get b) → Inv k h2 F)
  (kF : ∀ c h1 h2 F, Fin c h1 F → h1.next ≤ h2.next → (∀ b, b < h1.next → (b < h.next ∨ F b) → h2.get b = h1.get b) → Fin c h2 F)
  (bd : ∀ (j : Nat) item, items[j]? = some item → ∃ t1, putArgs t n params.toList [item] = some t1 ∧ ∀ (hh : AH) (F : Nat → Prop) (lb : Nat) (r0 : ALoop) (fr : AFr) (rest : List AFr) (Q' : AM → Prop), Inv j hh F → ExtF F0 h hh → (∀ b, F b → F0 b ∨ h.next ≤ b) → ¬ F lb → h.next ≤ lb → Has hh lb (.loop r0) → r0.state = .ready →
   (∀ tt h' F', Inv (j + 1) h' F' → (∀ b, F' b → F b ∨ hh.next ≤ b) → ExtF (fun b => F b ∨ b = lb) hh h' → Has h' lb (.loop { r0 with state := .busy }) → Go P ⟨fn, n, [], false, some lb, fr :: rest⟩ [] tt h' Q') →
   (∀ c tt h' kk F', (c = .ret ∨ ∃ id, c = .exit id ∧ exitA id kk = none) → Fin c h' F' → (∀ b, F' b → F b ∨ hh.next ≤ b) → ExtF (fun b => F b ∨ b = lb) hh h' → Has h' lb (.loop { r0 with state := .busy }) → Go P ⟨fn, n, [], false, some lb, fr :: rest⟩ (.code c :: kk) tt h' Q') →
   Go P ⟨fn, n, [], false, some lb, fr :: rest⟩ [.code assign, .beginRound, .code body] t1 hh Q')
  (nx : ∀ d h3 F, ExtF F0 h h3 → (∀ b, F b → F0 b ∨ h.next ≤ b) → ¬ F d → h.next ≤ d → Has h3 d (.deferred (some [])) → Inv items.length h3 F → Go P ⟨fn, n, .collected d :: ds, dk, none, rst⟩ k t h3 Q)
  (fx : ∀ c d h3 F, ExtF F0 h h3 → (∀ b, F b → F0 b ∨ h.next ≤ b) → ¬ F d → h.next ≤ d → Has h3 d (.deferred (some [])) → Fin c h3 F → Go P ⟨fn, n, .collected d :: ds, dk, none, rst⟩ (.code c :: k) t h3 Q) :
  Go P ⟨fn, n, ds, dk, none, rst⟩ (.code (.rangeFunc x params assign body) :: k) t h Q := by
 refine Go.rangeFunc hx hg fun d lb h2 hd hlb e2 fd fl => ?_
 obtain ⟨r0, hr0, fl⟩ : ∃ r0 : ALoop, r0 = _ ∧ Has h2 lb (.loop r0) := ⟨_, rfl, fl⟩
 have n2 := e2.1
 have nl := fl.1
 have nd := fd.1
 have hF0 : ∀ b, F0 b → b < h.next := fun b q => lI _ _ _ _ hI q
 let Agree : AH → Prop := fun hh => h2.next ≤ hh.next ∧ ∀ b, b < h2.next → ¬ F0 b → b ≠ lb → hh.get b = h2.get b
 let Sub : (Nat → Prop) → Prop := fun F => ∀ b, F b → F0 b ∨ h2.next ≤ b
 let J : Nat → AH → (Nat → Prop) → Prop := fun j hh G => ∃ F, (∀ b, G b ↔ (F b ∨ b = lb)) ∧ Sub F ∧ Inv j hh F ∧ Agree hh ∧ Has hh lb (.loop r0)
 let E : Nat → AH → (Nat → Prop) → Prop := fun j hh G => ∃ F, (∀ b, G b ↔ (F b ∨ b = lb)) ∧ Sub F ∧ ∃ c, Fin c hh F ∧ Agree hh ∧ Has hh lb (.loop { r0 with state := .done, pending := some c })
 have hsub : ∀ {hh}, Agree hh → ExtF F0 h hh := fun {hh} a => ⟨by have := a.1; omega, fun b hb hn => by rw [a.2 b (by omega) hn (by omega), e2.2 b hb]⟩
 have hd' : ∀ {hh}, Agree hh → Has hh d (.deferred (some [])) := fun {hh} a => ⟨by have := a.1; omega, by rw [a.2 d nd (fun q => by have := hF0 d q; omega) (by omega)]; exact fd.2⟩
 have agU : ∀ {h1 h3 : AH} {o : ABlk}, Agree h1 → Upd h1 lb o h3 → Agree h3 := fun a u => ⟨by rw [u.1]; exact a.1, fun b hb h1 h2 => by rw [u.2.2 b h2]; exact a.2 b hb h1 h2⟩
 have low : ∀ {F}, Sub F → ∀ b, F b → F0 b ∨ h.next ≤ b := fun s b q => (s b q).elim .inl fun q => .inr (by omega)
 have nlb : ∀ {F}, Sub F → ¬ F lb := fun s q => (s lb q).elim (fun q => by have := hF0 _ q; omega) fun q => by omega
 have nd' : ∀ {F}, Sub F → ¬ F d := fun s q => (s d q).elim (fun q => by have := hF0 _ q; omega) fun q => by omega
 have tk : TakesV P h2.next (.yield lb) items J E := by
  refine ⟨?_, ?_, ?_, ?_, ?_⟩
  ·rintro j hh G b ⟨F, hG, s, i, a, f⟩ q
   rcases (hG b).1 q with q | rfl
   ·exact lI _ _ _ _ i q
   ·exact f.1
  ·rintro j hh G h' ⟨F, hG, s, i, a, f⟩ hn he
   have := a.1
   refine ⟨F, hG, s, kI _ _ _ _ i hn fun b hb q => he b hb (q.elim (fun q => .inl (by omega)) fun q => .inr ((hG b).2 (.inl q))), ⟨by omega, fun b hb h1 h2' => by rw [he b (by omega) (.inl hb)]; exact a.2 b hb h1 h2'⟩, ⟨by have := f.1; omega, by rw [he lb f.1 (.inr ((hG lb).2 (.inr rfl)))]; exact f.2⟩⟩
  ·rintro j hh G b ⟨F, hG, s, c, i, a, f⟩ q
   rcases (hG b).1 q with q | rfl
   ·exact lF _ _ _ _ i q
   ·exact f.1
  ·rintro j hh G h' ⟨F, hG, s, c, i, a, f⟩ hn he
   have := a.1
   refine ⟨F, hG, s, c, kF _ _ _ _ i hn fun b hb q => he b hb (q.elim (fun q => .inl (by omega)) fun q => .inr ((hG b).2 (.inl q))), ⟨by omega, fun b hb h1 h2' => by rw [he b (by omega) (.inl hb)]; exact a.2 b hb h1 h2'⟩, ⟨by have := f.1; omega, by rw [he lb f.1 (.inr ((hG lb).2 (.inr rfl)))]; exact f.2⟩⟩
  ·rintro j item hh G hit ⟨F, hG, s, i, a, f⟩
   obtain ⟨t1, p1, p2⟩ := bd j item hit
   refine ⟨_, rfl, (fun _ _ q => by cases q), ?_⟩
   subst hr0
   refine Does.round f p1 hfn fun fr rest Q' hr hpn => ?_
   have hGx : ∀ {h'}, ExtF (fun b => F b ∨ b = lb) hh h' → ExtF G hh h' := fun x' => ⟨x'.1, fun b hb hn => x'.2 b hb fun q => hn ((hG b).2 q)⟩
   have hlt2 : h2.next ≤ hh.next := a.1
   have ag : ∀ {h'}, ExtF (fun b => F b ∨ b = lb) hh h' → Agree h' := fun x' => ⟨by have := a.1; have := x'.1; omega, fun b hb h1 h2' => by
    rw [x'.2 b (by have := a.1; omega) (fun q => q.elim (fun q => (s b q).elim h1 fun q => by omega) h2')]
    exact a.2 b hb h1 h2'⟩
   have sub' : ∀ {F' : Nat → Prop}, (∀ b, F' b → F b ∨ hh.next ≤ b) → Sub F' := fun q b hb => (q b hb).elim (s b) fun q => .inr (by omega)
   have upx : ∀ {h' h''} {o : ABlk}, ExtF (fun b => F b ∨ b = lb) hh h' → Upd h' lb o h'' → ExtF (fun b => F b ∨ b = lb) hh h'' := fun x' u => ⟨by rw [u.1]; exact x'.1, fun b hb hn => by rw [u.2.2 b (fun q => hn (.inr q))]; exact x'.2 b hb hn⟩
   have own : ∀ {F' : Nat → Prop}, (∀ b, F' b → F b ∨ hh.next ≤ b) → ∀ b, (F' b ∨ b = lb) → G b ∨ hh.next ≤ b := fun q b z => z.elim (fun z => (q b z).elim (fun z => .inl ((hG b).2 (.inl z))) .inr) fun z => .inl ((hG b).2 (.inr z))
   refine p2 hh F lb _ fr rest Q' i (hsub a) (low s) (nlb s) (by omega) f rfl ?_ ?_
   ·intro tt h' F' i' so x' f'
    refine Go.roundEnd f' fun h'' u => ?_
    refine hr (.bool true) h'' ⟨hGx (upx x' u), fun b => F' b ∨ b = lb, own so, .inl ⟨rfl, F', fun b => Iff.rfl, sub' so, kI _ _ _ _ i' (by rw [u.1]; exact Nat.le_refl _) (fun b hb q => u.2.2 b (fun z => by subst z; exact q.elim (fun q => by omega) (nlb (sub' so)))), agU (ag x') u, u.has f'⟩⟩
   ·intro c tt h' kk F' hc i' so x' f'
    have fin : ∀ h'', Upd h' lb (.loop { state := .done, pending := some c, fn := fn, n := n, tmps := t, params := params.toList, assign := assign, body := body, defers := d }) h'' → ∃ fr', fr.finish (.bool false) = some fr' ∧ Reach P ⟨fr' :: rest, h''⟩ Q' := by
     intro h'' u
     exact hr (.bool false) h'' ⟨hGx (upx x' u), fun b => F' b ∨ b = lb, own so, .inr ⟨rfl, F', fun b => Iff.rfl, sub' so, c, kF _ _ _ _ i' (by rw [u.1]; exact Nat.le_refl _) (fun b hb q => u.2.2 b (fun z => by subst z; exact q.elim (fun q => by omega) (nlb (sub' so)))), agU (ag x') u, u.has f'⟩⟩
    rcases hc with rfl | ⟨id, rfl, hk⟩
    ·exact Go.roundRet f' fin
    ·exact Go.roundExit f' hk fin
 have ag2 : Agree h2 := ⟨Nat.le_refl _, fun _ _ _ _ => rfl⟩
 have s0 : Sub F0 := fun b q => .inl q
 have i2 : Inv 0 h2 F0 := kI _ _ _ _ hI n2 (fun b hb _ => e2.2 b hb)
 refine ⟨IterFR (fun b => F0 b ∨ b = lb) J E items.length h2, it (.yield lb) h2.next J E h2 (fun b => F0 b ∨ b = lb) rfl rfl (fun h' x => hA h' ⟨by have := x.1; omega, fun b hb hn => by rw [x.2 b (by omega) (fun q => q.elim hn (fun q => by omega)), e2.2 b hb]⟩) (Nat.le_refl _) tk ⟨F0, fun b => Iff.rfl, s0, i2, ag2, fl⟩, (fun chain h' q => by cases q.1), ?_⟩
 rintro v h' ⟨q, x', G, hGG, j | ⟨kk, hk, j⟩⟩
 ·obtain ⟨F, hG, s, i, a, f⟩ := j
  refine ⟨r0, f, by rw [hr0]; exact (fun q => by cases q), fun h3 u => ?_⟩
  have hp : r0.pending = none := by rw [hr0]
  rw [hp]
  exact nx d h3 F (hsub (agU a u)) (low s) (nd' s) (by omega) (hd' (agU a u)) (kI _ _ _ _ i (by rw [u.1]; exact Nat.le_refl _) (fun b hb q => u.2.2 b (fun z => by subst z; exact q.elim (fun q => by omega) (nlb s))))
 ·obtain ⟨F, hG, s, c, i, a, f⟩ := j
  refine ⟨_, f, (fun q => by cases q), fun h3 u => ?_⟩
  exact fx c d h3 F (hsub (agU a u)) (low s) (nd' s) (by omega) (hd' (agU a u)) (kF _ _ _ _ i (by rw [u.1]; exact Nat.le_refl _) (fun b hb q => u.2.2 b (fun z => by subst z; exact q.elim (fun q => by omega) (nlb s))))
end
end Go.AbsE
