import Derived.Test.YtkhiagdmbajimaaMAM
import Derived.Test.YtkhiagdmbajimaaMAJ
import Derived.Test.YtkhiagdmbajimaaMAG
import Derived.Test.YtkhiagdmbajimaaMAK
import Derived.Test.YtkhiagdmbajimaaMAF
namespace Go.Proofs.Ytkhiagdmbajimaa
open Go Go.AbsE
set_option linter.unusedSimpArgs false
set_option maxRecDepth 100000
set_option maxHeartbeats 0
set_option linter.unusedVariables false
abbrev KV := List (List Int × Nat)
theorem mapB_has {h : AH} {b : Nat} {es : List AMapE} {c : Nat} (f : Has h b (.map es c)) : mapB h b = some (es, c) := by unfold mapB; rw [f.2]
theorem ent_at {K : KV} {n : Nat} {b : AVal} {en : AMapE} (hen : en ∈ esN (K.map (entK n b))) : ∃ x, K[en.born]? = some x ∧ en.key = .agg (vints (lv5 x.1)) ∧ en.val = .agg [.slice x.2 0 n n, b] ∧ x ∈ K := by
 obtain ⟨i, x, hx, rfl⟩ := esN_at hen
 rw [List.getElem?_map] at hx
 cases q : K[i]? with
 | none => rw [q] at hx; cases hx
 | some y =>
  rw [q] at hx;cases hx;exact ⟨y, rfl, rfl, rfl, List.mem_of_getElem? q⟩
theorem ent_kv {K : KV} {n : Nat} {b : AVal} : ∀ en, en ∈ esN (K.map (entK n b)) → ∃ kv, absV en.key = some kv := fun en hen => by
 obtain ⟨x, _, hk, _⟩ := ent_at hen
 exact ⟨_, by rw [hk]; exact absV_vints _⟩
def imgE {β : Type} (K : KV) (f : List Int × Nat → β) (en : AMapE) : List β := match K[en.born]? with | some x => [f x] | none => []
theorem imgE_all {β : Type} (K : KV) (n : Nat) (b : AVal) (f : List Int × Nat → β) : (esN (K.map (entK n b))).flatMap (imgE K f) = K.map f := by
 have h1 : (esN (K.map (entK n b))).map AMapE.born = List.range K.length := by
  unfold esN
  apply List.ext_getElem
  ·simp
  ·intro i h1 h2
   simp
 have h2 : (esN (K.map (entK n b))).flatMap (imgE K f) = (List.range K.length).flatMap fun i => match K[i]? with | some x => [f x] | none => [] := by
  rw [← h1, List.flatMap_map]
  rfl
 rw [h2];clear h1 h2
 have : ∀ (K : KV) (n : Nat), n ≤ K.length → ((List.range n).flatMap fun i => match K[i]? with | some x => [f x] | none => []) = (K.take n).map f := by
  intro K n
  induction n with
  | zero => intro _; simp
  | succ n ih =>
   intro hn
   rw [List.range_succ, List.flatMap_append, ih (by omega), List.take_add_one, List.map_append]
   congr 1
   rw [List.flatMap_cons, List.flatMap_nil, List.append_nil, List.getElem?_eq_getElem (show n < K.length by omega)]
   rfl
 rw [this K K.length (Nat.le_refl _), List.take_length]
theorem imgE_in {β : Type} {K : KV} {f : List Int × Nat → β} {P : β → Prop} (hf : ∀ x, x ∈ K → P (f x)) {vs : List AMapE} {p : β} (hp : p ∈ vs.flatMap (imgE K f)) : P p := by
 obtain ⟨en, _, hp⟩ := List.mem_flatMap.1 hp
 unfold imgE at hp
 cases q : K[en.born]? with
 | none => rw [q] at hp; cases hp
 | some x =>
  rw [q] at hp
  cases List.mem_singleton.1 hp
  exact hf x (List.mem_of_getElem? q)
theorem places_ok {D : DrainV} {b : AVal} (hb : scalars [b] = true ∧ sameA b b = true) {KT : KV} {bm a : Nat} {h : AH} (K : KnownAt D h bm b KT) {fid : FuncId} {fn : Func} (hfid : aFunc Try.prog fid = some fn) (f : List Int × Nat → Nat) (hf : ∀ x, x ∈ KT → f x ≤ 10)
  (hc : ∀ x h', x ∈ KT → Ext h h' → Runs Try.prog fid [.agg [.slice x.2 0 D.bs.length D.bs.length, b], .int .i64 a] h' (fun en h'' => en = .ret (.int .i64 (f x : Nat)) ∧ Ext h' h'')) :
  Runs Try.prog 41 [.map bm, .int .i64 a, .func (.func fid) [] []] h (fun en h' => en = .ret (.int .i64 ((setV (KT.map f) : Nat) : Int)) ∧ Ext h h') := by
 rw [← imgE_all KT D.bs.length b f]
 have hborn := esN_born (L := KT.map (entK D.bs.length b))
 have hdist := esN_dist (KT.map (entK D.bs.length b))
 have hKm := K.m
 rw [List.length_map] at hborn
 have e0 : Ext h h := Ext.refl _
 refine Runs.intro aFunc41 rfl rfl rfl rfl fun rest => ?_;apply gS;refine gR rfl ?_;refine gP ?_;apply gE;apply gS;refine gR rfl ?_;refine gP ?_;apply gE;iterate 2 apply gS
 refine gR rfl ?_;refine gP ?_;refine GoR.rangeM rfl rfl rfl Try.underlying74 rfl (mapB_has hKm) rfl rfl fun h5 x5 f5 => ?_;replace e0 := e0.trans x5
 have hl5 := f5.1
 have hx5 := x5.1
 clear hKm
 have hKm := K.m
 apply gE;refine Go.block noJ_ok ?_
 refine Go.loopKeep (fun vr : List AMapE × List AMapE => [(1, .int .i64 a), (2, .func (.func fid) [] []), (7, .int .i64 ((setV (vr.1.flatMap (imgE KT f)) : Nat) : Int)), (11, .ptr h.next 0)])
  (fun n vr h' => vr.2.length = n ∧ (vr.1 ++ vr.2).Perm (esN (KT.map (entK D.bs.length b))) ∧ Ext h h' ∧ Has h' h.next (.iter bm KT.length (vr.1.map AMapE.born) KT.length)) (n := (esN (KT.map (entK D.bs.length b))).length) ([], esN (KT.map (entK D.bs.length b))) ⟨rfl, rfl, rfl, rfl, trivial⟩ ⟨rfl, .refl _, e0, f5⟩ ?_
 clear e0 f5;rintro nn ⟨vs, rs⟩ hh ⟨hn', hperm, e0, f5⟩ again
 dsimp only at hn' hperm f5 ⊢
 apply gS;refine Go.beginR rfl (Go.nextM rfl rfl f5 (mapB_has (hKm.ext e0)) hborn hborn ent_kv (fun hall => Go.inRegion noJ_ok ?_) (fun en kv hen hnew hk h6 u6 => Go.inRegion noJ_ok ?_))
 ·have hrs := perm_over hperm hdist hall
  subst hrs;rw [List.append_nil] at hperm;rw [set_perm (hperm.flatMap_right _)];clear hKm;refine gP ?_;apply gE;apply gS;refine gC (b := false) rfl ?_;refine gD ?_;apply gS;refine gR rfl ?_;iterate 2 refine gP ?_
  apply gE;exact gW Try.func41 rfl rfl ⟨rfl, e0⟩
 ·obtain ⟨ra, rb, rfl, hperm2⟩ := perm_pick hperm hen hnew
  obtain ⟨x, q1, q2, q3, q5⟩ := ent_at hen
  replace f5 := u6.has f5;replace e0 := e0.upd u6 (by omega)
  have hspE : imgE KT f en = [f x] := by unfold imgE; rw [q1]
  have hMe := mapB_has (hKm.ext e0)
  have hent : ∀ {t : Tr AVal} {dst : Option Tmp} {tt : TypeId} {pos : String} {after : Array Edge} {guard : Option (Nat × Bool)} {x : Operand}, ev t x = some (.ptr h.next 0) → aOp Try.prog t h6 ⟨dst, .entry x, tt, pos, after, guard⟩ = some (.val (.tuple [kv, en.val]) h6) := fun hx => aOp_entry hx f5 hMe hen hdist hk
  have hl5 := f5.1
  clear hKm;rw [q3] at hent
  have hfx := hf x q5
  have hlt : setV (vs.flatMap (imgE KT f)) < 2 ^ 11 := set_lt fun y hy => by
   have := imgE_in (P := fun y => y ≤ 10) hf hy
   omega
  have hsn : setV ((vs ++ [en]).flatMap (imgE KT f)) = setV (vs.flatMap (imgE KT f)) ||| 2 ^ f x := by rw [List.flatMap_append, List.flatMap_cons, List.flatMap_nil, List.append_nil, hspE, set_app]
  obtain ⟨acc, hacc⟩ : ∃ acc, setV (vs.flatMap (imgE KT f)) = acc := ⟨_, rfl⟩
  rw [hacc] at hlt hsn ⊢
  obtain ⟨w, hw⟩ : ∃ w, f x = w := ⟨_, rfl⟩
  have hcx := fun h' e => hc x h' q5 e
  rw [hw] at hcx hfx hsn
  have hpw : (1 : Int) * 2 ^ w = ((2 ^ w : Nat) : Int) := by simp
  have hpl : 2 ^ w ≤ 1024 := Nat.pow_le_pow_right (n := 2) (j := 10) (by omega) hfx
  obtain ⟨pw, hpw0⟩ : ∃ z, 2 ^ w = z := ⟨_, rfl⟩
  rw [hpw0] at hpw hpl hsn
  obtain ⟨acc2, hacc2⟩ : ∃ z, acc ||| pw = z := ⟨_, rfl⟩
  rw [hacc2] at hsn;refine gP ?_;apply gE;apply gS;refine gC (b := true) rfl ?_;refine gD ?_;refine Go.block noJ_ok ?_;apply gS;refine gR rfl ?_;refine gO rfl rfl (hent rfl) rfl ?_;refine gP ?_;refine GoR.alloc rfl rfl rfl zt79 rfl rfl fun h7 x7 f7 => ?_;have := e0.1;have := f5.1;replace f5 := f5.ext x7;replace e0 := e0.trans x7;have := f7.1;refine GoR.store rfl rfl rfl rfl rfl rfl f7 rfl sz79 rfl (scal2 rfl hb.1) rfl fun h8 u8 => ?_;replace f7 := u8.has f7;replace f5 := f5.upd u8 (by omega);replace e0 := e0.upd u8 (by omega);apply gE;refine gR rfl ?_;iterate 2 refine gP ?_
  refine gO rfl rfl (ld79 rfl f7 rfl) rfl ?_;refine gP ?_;refine GoR.call rfl rfl (aOp_callVal rfl hfid rfl) (hcx _ e0) ?_ np;rintro v9 h9 ⟨q, x9⟩;cases q;refine ⟨_, rfl, ?_⟩;replace f5 := f5.ext x9;replace e0 := e0.trans x9;refine gO rfl rfl (aOp_shl rfl rfl (i := w) (by omega) hpw (by omega)) rfl ?_;refine gO rfl rfl (aOp_orNat (a := acc) (b := pw) rfl rfl (by omega) (by omega) hacc2) rfl ?_;refine gP ?_;apply gE;refine Go.inBlock noJ_ok ?_;exact again (ra ++ rb).length (vs ++ [en], ra ++ rb) _ _ (by rw [← hn']; simp) ⟨rfl, rfl, by show _ = some (AVal.int .i64 ((setV ((vs ++ [en]).flatMap (imgE KT f)) : Nat) : Int)); rw [hsn]; rfl, rfl, trivial⟩ ⟨rfl, hperm2, e0, by dsimp only; rw [List.map_append]; exact f5⟩
theorem amount_ok {D : DrainV} {b : AVal} (hb : scalars [b] = true ∧ sameA b b = true) {KT : KV} {bm : Nat} {h : AH} (K : KnownAt D h bm b KT) {fid : FuncId} {fn : Func} (hfid : aFunc Try.prog fid = some fn) (caps : List AVal) (f : List Int × Nat → Int × Int)
  (hc : ∀ x h', x ∈ KT → Ext h h' → Runs Try.prog fid ([.agg [.slice x.2 0 D.bs.length D.bs.length, b]] ++ caps) h' (fun en h'' => en = .ret (.agg (spC (f x))) ∧ Ext h' h'')) :
  Runs Try.prog 47 [.map bm, .func (.func fid) [] caps] h (fun en h' => en = .ret (.agg (spC (joinL (KT.map f)))) ∧ Ext h h') := by
 rw [← imgE_all KT D.bs.length b f]
 have hborn := esN_born (L := KT.map (entK D.bs.length b))
 have hdist := esN_dist (KT.map (entK D.bs.length b))
 have hKm := K.m
 rw [List.length_map] at hborn
 have e0 : Ext h h := Ext.refl _
 refine Runs.intro aFunc47 rfl rfl rfl rfl fun rest => ?_;apply gS;refine gR rfl ?_;refine GoR.alloc rfl rfl rfl zt35 rfl rfl fun h0 x0 f0 => ?_;have := e0.1
 have := hKm.1
 replace hKm := hKm.ext x0;replace e0 := e0.trans x0;have := f0.1;apply gE;apply gS;refine gR rfl ?_;refine gO rfl rfl (aOp_build zt35 hu35 pl35 rfl rfl) rfl ?_;refine GoR.alloc rfl rfl rfl zt35 rfl rfl fun h1 x1 f1 => ?_;have := e0.1;have := f0.1
 have := hKm.1
 replace f0 := f0.ext x1;replace hKm := hKm.ext x1;replace e0 := e0.trans x1;have := f1.1;refine GoR.store rfl rfl rfl rfl rfl rfl f1 rfl sz35 rfl rfl rfl fun h2 u2 => ?_;replace f1 := u2.has f1;replace f0 := f0.upd u2 (by omega);replace hKm := hKm.upd u2 (by omega);replace e0 := e0.upd u2 (by omega);apply gE;iterate 2 apply gS
 refine gR rfl ?_;refine gP ?_;refine GoR.rangeM rfl rfl rfl Try.underlying74 rfl (mapB_has hKm) rfl rfl fun h5 x5 f5 => ?_
 have hl5 := f5.1
 have hx5 := x5.1
 clear hKm
 have hKm := K.m
 have hl0 := f0.1
 have hl1 := f1.1
 have hn0 : h.next < h0.next := by omega
 replace f0 := f0.ext x5;replace f1 := f1.ext x5;replace e0 := e0.trans x5
 have hu2 := u2.1
 apply gE;refine Go.block noJ_ok ?_
 refine Go.loopKeep (fun _ : List AMapE × List AMapE => [(1, .func (.func fid) [] caps), (4, .ptr h.next 0), (5, .ptr h0.next 0), (11, .ptr h2.next 0)])
  (fun n vr h' => vr.2.length = n ∧ (vr.1 ++ vr.2).Perm (esN (KT.map (entK D.bs.length b))) ∧ Ext h h' ∧ Has h' h.next (.cells .plain [.int .i64 0, .int .i64 0] 35) ∧ Has h' h0.next (.cells .plain (spC (joinL (vr.1.flatMap (imgE KT f)))) 35) ∧ Has h' h2.next (.iter bm KT.length (vr.1.map AMapE.born) KT.length)) (n := (esN (KT.map (entK D.bs.length b))).length) ([], esN (KT.map (entK D.bs.length b))) ⟨rfl, rfl, rfl, rfl, trivial⟩ ⟨rfl, .refl _, e0, f0, f1, f5⟩ ?_
 clear e0 f0 f1 f5;rintro nn ⟨vs, rs⟩ hh ⟨hn', hperm, e0, f0, f1, f5⟩ again
 dsimp only at hn' hperm f1 f5 ⊢
 apply gS;refine Go.beginR rfl (Go.nextM rfl rfl f5 (mapB_has (hKm.ext e0)) hborn hborn ent_kv (fun hall => Go.inRegion noJ_ok ?_) (fun en kv hen hnew hk h6 u6 => Go.inRegion noJ_ok ?_))
 ·have hrs := perm_over hperm hdist hall
  subst hrs;rw [List.append_nil] at hperm;rw [joinL_perm (hperm.flatMap_right _)] at f1
  unfold spC at f1 ⊢
  clear hKm;refine gP ?_;apply gE;apply gS;refine gC (b := false) rfl ?_;refine gD ?_;apply gS;refine gR rfl ?_;refine gO rfl rfl (ld35 rfl f1 rfl) rfl ?_;refine GoR.store rfl rfl rfl rfl rfl rfl f0 rfl sz35 rfl rfl rfl fun h6 u6 => ?_;replace f0 := u6.has f0;replace e0 := e0.upd u6 (by omega);apply gE;exact gV (ret_end (aResult_of Try.func47 rfl (aResults_cell rfl f0 (inCells_agg ag35 sz35 rfl))) ⟨rfl, e0⟩)
 ·obtain ⟨ra, rb, rfl, hperm2⟩ := perm_pick hperm hen hnew
  obtain ⟨x, q1, q2, q3, q5⟩ := ent_at hen
  replace f5 := u6.has f5;replace f0 := f0.upd u6 (by omega);replace f1 := f1.upd u6 (by omega);replace e0 := e0.upd u6 (by omega)
  have hspE : imgE KT f en = [f x] := by unfold imgE; rw [q1]
  have hMe := mapB_has (hKm.ext e0)
  have hent : ∀ {t : Tr AVal} {dst : Option Tmp} {tt : TypeId} {pos : String} {after : Array Edge} {guard : Option (Nat × Bool)} {x : Operand}, ev t x = some (.ptr h2.next 0) → aOp Try.prog t h6 ⟨dst, .entry x, tt, pos, after, guard⟩ = some (.val (.tuple [kv, en.val]) h6) := fun hx => aOp_entry hx f5 hMe hen hdist hk
  have hl0 := f0.1
  have hl1 := f1.1
  have hl5 := f5.1
  clear hKm;rw [q3] at hent
  have hjn : joinL ((vs ++ [en]).flatMap (imgE KT f)) = joinP (joinL (vs.flatMap (imgE KT f))) (f x) := by
   rw [List.flatMap_append, List.flatMap_cons, List.flatMap_nil, List.append_nil, hspE, joinL_app]
  obtain ⟨⟨u, v⟩, hacc⟩ : ∃ acc, joinL (vs.flatMap (imgE KT f)) = acc := ⟨_, rfl⟩
  obtain ⟨⟨p, q⟩, hw⟩ : ∃ w, f x = w := ⟨_, rfl⟩
  have hcx := fun h' e => hc x h' q5 e
  rw [hw] at hcx hjn;rw [hacc] at hjn f1
  unfold spC at hcx f1
  dsimp only at hcx f1
  refine gP ?_;apply gE;apply gS;refine gC (b := true) rfl ?_;refine gD ?_;refine Go.block noJ_ok ?_;apply gS;refine gR rfl ?_;refine gO rfl rfl (hent rfl) rfl ?_;refine gP ?_;refine GoR.alloc rfl rfl rfl zt79 rfl rfl fun h7 x7 f7 => ?_;have := e0.1;have := f5.1;have := f0.1;have := f1.1;replace f5 := f5.ext x7;replace f0 := f0.ext x7;replace f1 := f1.ext x7;replace e0 := e0.trans x7;have := f7.1;refine GoR.store rfl rfl rfl rfl rfl rfl f7 rfl sz79 rfl (scal2 rfl hb.1) rfl fun h8 u8 => ?_;replace f7 := u8.has f7;replace f5 := f5.upd u8 (by omega);replace f0 := f0.upd u8 (by omega);replace f1 := f1.upd u8 (by omega);replace e0 := e0.upd u8 (by omega);apply gE;apply gS;refine gR rfl ?_;refine gP ?_;refine gO rfl rfl (ld79 rfl f7 rfl) rfl ?_;refine GoR.call rfl rfl (aOp_callVal rfl hfid rfl) (hcx _ e0) ?_ np;rintro v9 h9 ⟨q, x9⟩;cases q;refine ⟨_, rfl, ?_⟩;replace f7 := f7.ext x9;replace f5 := f5.ext x9;replace f0 := f0.ext x9;replace f1 := f1.ext x9;replace e0 := e0.trans x9;refine GoR.alloc rfl rfl rfl zt35 rfl rfl fun h10 x10 f10 => ?_;have := e0.1;have := f7.1;have := f5.1;have := f0.1;have := f1.1;replace f5 := f5.ext x10;replace f0 := f0.ext x10;replace f1 := f1.ext x10;replace e0 := e0.trans x10;have := f10.1;refine GoR.store rfl rfl rfl rfl rfl rfl f10 rfl sz35 rfl rfl rfl fun h11 u11 => ?_;replace f10 := u11.has f10;replace f5 := f5.upd u11 (by omega);replace f0 := f0.upd u11 (by omega);replace f1 := f1.upd u11 (by omega);replace e0 := e0.upd u11 (by omega);apply gE;refine gR rfl ?_;refine gO rfl rfl (fa35_0 rfl) rfl ?_;refine gO rfl rfl (ld3 rfl f1 rfl) rfl ?_;refine gO rfl rfl (fa35_0 rfl) rfl ?_;refine gO rfl rfl (ld3 rfl f10 rfl) rfl ?_;refine gO rfl rfl (aOp_min2 rfl rfl (joinP_min u p)) rfl ?_;refine gO rfl rfl (fa35_1 rfl) rfl ?_;refine gO rfl rfl (ld3 rfl f1 rfl) rfl ?_;refine gO rfl rfl (fa35_1 rfl) rfl ?_;refine gO rfl rfl (ld3 rfl f10 rfl) rfl ?_;refine gO rfl rfl (aOp_max2 rfl rfl (joinP_max v q)) rfl ?_;refine gO rfl rfl (aOp_build zt35 hu35 pl35 rfl rfl) rfl ?_;refine GoR.store rfl rfl rfl rfl rfl rfl f1 rfl sz35 rfl rfl rfl fun h12 u12 => ?_;replace f5 := f5.upd u12 (by omega);replace f0 := f0.upd u12 (by omega);replace f1 := u12.has f1;replace e0 := e0.upd u12 (by omega);apply gE;refine Go.inBlock noJ_ok ?_;exact again (ra ++ rb).length (vs ++ [en], ra ++ rb) _ _ (by rw [← hn']; simp) ⟨rfl, rfl, rfl, rfl, trivial⟩ ⟨rfl, hperm2, e0, f0, by dsimp only; rw [hjn]; exact f1, by dsimp only; rw [List.map_append]; exact f5⟩
theorem mem_known {D : DrainV} {KT : KV} {st : Nat} (hK : KT.map (fun x => x.1) = D.learn st) {x : List Int × Nat} (hx : x ∈ KT) : x.1 ∈ levsV D.bs :=
 (List.mem_filter.1 (show x.1 ∈ D.learn st from hK ▸ List.mem_map.2 ⟨x, hx, rfl⟩)).1
theorem known_course {D : DrainV} (O : D.Ok) {KT : KV} {st bm : Nat} {b : AVal} {h : AH} (hK : KT.map (fun x => x.1) = D.learn st) (K : KnownAt D h bm b KT) (B : SliceOf h 4 b (D.bs.map BkV.cells)) {x : List Int × Nat} (hx : x ∈ KT) :
  CourseIn D h x.1 (D.course 0 x.1) (.slice x.2 0 D.bs.length D.bs.length) b :=
 ⟨course_down O (mem_known hK hx) 0, course_len D 0 x.1, lit_slice (by unfold ints; rw [List.length_map, course_len]) (K.sl x hx), B⟩
theorem straightC_ok {D : DrainV} (O : D.Ok) {l : List Int} {c : List Nat} {t b : AVal} {a to bf bt : Nat} {h : AH} (C : CourseIn D h l c t b) (ha : a < c.length) (hto : to < c.length) (f8 : Has h bf (.cells .plain [.int .i64 a] 3)) (f9 : Has h bt (.cells .plain [.int .i64 to] 3)) :
  Runs Try.prog 74 [.agg [t, b], .ptr bf 0, .ptr bt 0] h (fun en h' => en = .ret (.agg (spC (D.straight c a to))) ∧ Ext h h') := by
 have hst := fun h' e => straight_ok O (a := a) (to := to) (h := h') (C.ext e) ha hto
 have hsm := C.same
 obtain ⟨w, hW⟩ : ∃ w, D.straight c a to = w := ⟨_, rfl⟩
 rw [hW] at hst ⊢
 unfold spC at hst ⊢
 have e0 : Ext h h := Ext.refl _
 refine Runs.intro aFunc74 rfl rfl rfl rfl fun rest => ?_;apply gS;refine gR rfl ?_;refine GoR.box rfl rfl rfl rfl rfl rfl fun h10 x10 f10 => ?_;have := e0.1;have := f8.1;have := f9.1;replace f8 := f8.ext x10;replace f9 := f9.ext x10;replace e0 := e0.trans x10;have := f10.1;refine GoR.alloc rfl rfl rfl zt35 rfl rfl fun h11 x11 f11 => ?_;have := e0.1;have := f10.1;have := f8.1;have := f9.1;replace f10 := f10.ext x11;replace f8 := f8.ext x11;replace f9 := f9.ext x11;replace e0 := e0.trans x11;have := f11.1;apply gE;apply gS;refine gR rfl ?_;refine gO rfl rfl (ld79 rfl f10 rfl) rfl ?_;refine gO rfl rfl (ld3 rfl f8 rfl) rfl ?_;refine gO rfl rfl (ld3 rfl f9 rfl) rfl ?_;refine GoR.call rfl rfl (aCF aFunc75 rfl) (hst _ e0) ?_ np;rintro v12 h12 ⟨q, x12⟩;cases q;refine ⟨_, rfl, ?_⟩;replace f11 := f11.ext x12;replace e0 := e0.trans x12;refine GoR.store rfl rfl rfl rfl rfl rfl f11 rfl sz35 rfl rfl rfl fun h13 u13 => ?_;replace f11 := u13.has f11;replace e0 := e0.upd u13 (by omega);apply gE;exact gV (ret_end (aResult_of Try.func74 rfl (aResults_cell rfl f11 (inCells_agg ag35 sz35 rfl))) ⟨rfl, e0⟩)
theorem waterC_ok {D : DrainV} (O : D.Ok) {l : List Int} {c : List Nat} {t b : AVal} {a bf : Nat} {h : AH} (C : CourseIn D h l c t b) (ha : a < c.length) (f8 : Has h bf (.cells .plain [.int .i64 a] 3)) :
  Runs Try.prog 48 [.agg [t, b], .ptr bf 0] h (fun en h' => en = .ret (.agg (spC (D.water c a))) ∧ Ext h h') := by
 have hst := fun h' e => water_ok O (a := a) (h := h') (C.ext e) ha
 have hsm := C.same
 obtain ⟨w, hW⟩ : ∃ w, D.water c a = w := ⟨_, rfl⟩
 rw [hW] at hst ⊢
 unfold spC at hst ⊢
 have e0 : Ext h h := Ext.refl _
 refine Runs.intro aFunc48 rfl rfl rfl rfl fun rest => ?_;apply gS;refine gR rfl ?_;refine GoR.box rfl rfl rfl rfl rfl rfl fun h9 x9 f9 => ?_;have := e0.1;have := f8.1;replace f8 := f8.ext x9;replace e0 := e0.trans x9;have := f9.1;refine GoR.alloc rfl rfl rfl zt35 rfl rfl fun h10 x10 f10 => ?_;have := e0.1;have := f9.1;have := f8.1;replace f9 := f9.ext x10;replace f8 := f8.ext x10;replace e0 := e0.trans x10;have := f10.1;apply gE;apply gS;refine gR rfl ?_;refine gO rfl rfl (ld79 rfl f9 rfl) rfl ?_;refine gO rfl rfl (ld3 rfl f8 rfl) rfl ?_;refine GoR.call rfl rfl (aCF aFunc49 rfl) (hst _ e0) ?_ np;rintro v11 h11 ⟨q, x11⟩;cases q;refine ⟨_, rfl, ?_⟩;replace f10 := f10.ext x11;replace e0 := e0.trans x11;refine GoR.store rfl rfl rfl rfl rfl rfl f10 rfl sz35 rfl rfl rfl fun h12 u12 => ?_;replace f10 := u12.has f10;replace e0 := e0.upd u12 (by omega);apply gE;exact gV (ret_end (aResult_of Try.func48 rfl (aResults_cell rfl f10 (inCells_agg ag35 sz35 rfl))) ⟨rfl, e0⟩)
theorem flow_ok {D : DrainV} (O : D.Ok) {KT : KV} {bm : Nat} {b : AVal} {h : AH} (hK : KT.map (fun x => x.1) = D.truths) (K : KnownAt D h bm b KT) (B : SliceOf h 4 b (D.bs.map BkV.cells)) {a to : Nat} (ha : a < D.bs.length) (hto : to < D.bs.length) :
  Runs Try.prog 52 [.map bm, .int .i64 a, .int .i64 to] h (fun en h' => en = .ret (.agg (spC (D.flow a to))) ∧ Ext h h') := by
 have hfl : D.flow a to = joinL (KT.map fun x => D.straight (D.course 0 x.1) a to) := by
  unfold DrainV.flow
  rw [← hK, List.map_map]
  rfl
 rw [hfl]
 have ham := fun {h' : AH} {bf bt : Nat} (e : Ext h h') (f8 : Has h' bf (.cells .plain [.int .i64 a] 3)) (f9 : Has h' bt (.cells .plain [.int .i64 to] 3)) => amount_ok (D := D) (b := b) (h := h') ⟨B.scal.1, B.same⟩ (K.ext e) aFunc74 [.ptr bf 0, .ptr bt 0] (fun x => D.straight (D.course 0 x.1) a to)
  fun x h'' hx e' => straightC_ok O ((known_course O hK K B hx).ext (e.trans e')) (by rw [course_len]; omega) (by rw [course_len]; omega) (f8.ext e') (f9.ext e')
 obtain ⟨w, hW⟩ : ∃ w, joinL (KT.map fun x => D.straight (D.course 0 x.1) a to) = w := ⟨_, rfl⟩
 rw [hW] at ham ⊢
 unfold spC at ham ⊢
 have e0 : Ext h h := Ext.refl _
 refine Runs.intro aFunc52 rfl rfl rfl rfl fun rest => ?_;apply gS;refine gR rfl ?_;refine GoR.box rfl rfl rfl rfl rfl rfl fun h0 x0 f0 => ?_;have := e0.1;replace e0 := e0.trans x0;have := f0.1;refine GoR.box rfl rfl rfl rfl rfl rfl fun h1 x1 f1 => ?_;have := e0.1;have := f0.1;replace f0 := f0.ext x1;replace e0 := e0.trans x1;have := f1.1;refine GoR.alloc rfl rfl rfl zt35 rfl rfl fun h2 x2 f2 => ?_;have := e0.1;have := f1.1;have := f0.1;replace f1 := f1.ext x2;replace f0 := f0.ext x2;replace e0 := e0.trans x2;have := f2.1;apply gE;apply gS;refine gR rfl ?_;iterate 2 refine gP ?_
 refine GoR.call rfl rfl (aCF aFunc47 rfl) (ham e0 (by assumption) (by assumption)) ?_ np;rintro v3 h3 ⟨q, x3⟩;cases q;refine ⟨_, rfl, ?_⟩;replace f2 := f2.ext x3;replace e0 := e0.trans x3;refine GoR.store rfl rfl rfl rfl rfl rfl f2 rfl sz35 rfl rfl rfl fun h4 u4 => ?_;replace f2 := u4.has f2;replace e0 := e0.upd u4 (by omega);apply gE;exact gV (ret_end (aResult_of Try.func52 rfl (aResults_cell rfl f2 (inCells_agg ag35 sz35 rfl))) ⟨rfl, e0⟩)
theorem learn_e {D : DrainV} (O : D.Ok) {b d r s : AVal} {st : Nat} {h : AH} (A : DrainAt h D b d r s) :
  Runs Try.prog 70 [.agg (dC b d r s), .int .i64 st] h (fun en h' => ∃ (bm : Nat) (KT : KV), en = .ret (.map bm) ∧ KT.map (fun x => x.1) = D.learn st ∧ Ext h h' ∧ h.next ≤ bm ∧ KnownAt D h' bm b KT ∧ Ext h' h') :=
 (learn_ok O A).mono fun en h' ⟨bm, KT, q, hKT, x, hbm, K⟩ => ⟨bm, KT, q, hKT, x, hbm, K, Ext.refl h'⟩
theorem truths_ok {D : DrainV} (O : D.Ok) {b d r s : AVal} {h : AH} (A : DrainAt h D b d r s) : Runs Try.prog 40 [.agg (dC b d r s)] h (fun en h' => Ext h h' ∧ ((D.truths ≠ [] ∧ ∃ bm KT, en = .ret (.map bm) ∧ KT.map (fun x => x.1) = D.truths ∧ h.next ≤ bm ∧ KnownAt D h' bm b KT) ∨ (D.truths = [] ∧ en = .pan (refusal 10)))) := by
 have hns := O.ns
 have hl4 := A.ss.len
 rw [List.length_map] at hl4
 have hln := fun st h A => learn_e O (b := b) (d := d) (r := r) (s := s) (st := st) (h := h) A
 have hsm := A.same
 obtain ⟨n, hn⟩ : ∃ n, D.ss.length = n := ⟨_, rfl⟩
 obtain ⟨w, hw⟩ : ∃ w, 2 ^ n = w := ⟨_, rfl⟩
 have hw1 : 1 ≤ w ∧ w ≤ 32 := by
  rw [← hw]
  exact ⟨Nat.one_le_two_pow, Nat.pow_le_pow_right (n := 2) (by omega) (show n ≤ 5 by omega)⟩
 have hsh : (1 : Int) * 2 ^ n = ((w : Nat) : Int) := by rw [← hw]; simp
 have hall : ((D.all : Nat) : Int) = (w : Int) - 1 := by unfold DrainV.all; rw [hn, hw]; omega
 have hT : D.truths = D.learn D.all := rfl
 rw [hn] at hl4 hns
 have hln2 := hln D.all
 rw [hall, ← hT] at hln2
 unfold dC at hln2 hsm ⊢
 by_cases hTe : D.truths = []
 ·have hK0 : ∀ {KT : KV}, KT.map (fun x => x.1) = D.truths → (esN (KT.map (entK D.bs.length b))).length = 0 := fun {KT} k => by
   rw [hTe] at k;rw [List.map_eq_nil_iff.1 k]
   rfl
  have e0 : Ext h h := Ext.refl _
  refine Runs.intro aFunc40 rfl rfl rfl rfl fun rest => ?_;apply gS;refine gR rfl ?_;refine GoR.box rfl rfl rfl rfl rfl rfl fun h0 x0 f0 => ?_;replace e0 := e0.trans x0;refine gP ?_;apply gE;apply gS;refine Go.drawnE plan40_0 ?_;refine gQ rfl rfl (ld71 rfl f0 rfl) rfl ?_;refine gQ rfl rfl (fa71_3 rfl) rfl ?_;refine gQ rfl rfl (ld26 rfl f0 rfl) rfl ?_;refine gQ rfl rfl (aOp_lenSlice Try.underlying26 rfl hl4) rfl ?_;refine gQ rfl rfl (aOp_shl rfl rfl (i := n) (by omega) hsh (by omega)) rfl ?_;refine gQ rfl rfl (aS rfl rfl) rfl ?_;refine GoE.call rfl rfl (aCF aFunc70 rfl) (hln2 _ (A.ext e0)) (dD 63 5 (dD 63 4 (dD 63 3 (dD 63 2 (dD 63 1 (dD 63 0 rfl)))))) ?_ (by rintro _ _ ⟨bm, KT, q, hKT, _, hbm, KK, e7⟩; cases q);rintro v1 h1 ⟨bm, KT, q, hKT, x1, hbm, KK, e7⟩;cases q;replace e0 := e0.trans x1;refine ⟨recheck_nil, _, rfl, ?_⟩;refine gQ rfl rfl rfl rfl ?_;refine GoE.end rfl ?_;apply gS;refine gR rfl ?_;refine gP ?_;refine gO rfl rfl (aOp_lenMap Try.underlying74 rfl (KK.ext e7).m (hK0 hKT)) rfl ?_;refine gO rfl rfl (kET rfl rfl) rfl ?_;refine GoR.callP rfl rfl (aCF aFunc67 rfl) (refuse_yes _ _) (by rintro _ _ ⟨q, _⟩; cases q) ?_;rintro chain h2 ⟨q, x2⟩
  have q := AEnd.pan.inj q
  subst q;replace e0 := e0.trans x2;exact FLeft.pan (⟨e0, .inr ⟨hTe, rfl⟩⟩)
 ·have hlenp : ∃ q, D.truths.length = q + 1 := ⟨D.truths.length - 1, by have := List.length_pos_iff.2 hTe; omega⟩
  obtain ⟨q, hq⟩ := hlenp
  have hKp : ∀ {KT : KV}, KT.map (fun x => x.1) = D.truths → (esN (KT.map (entK D.bs.length b))).length = q + 1 := fun {KT} k => by
   rw [esN_len, List.length_map, ← hq, ← k, List.length_map]
  have e0 : Ext h h := Ext.refl _
  refine Runs.intro aFunc40 rfl rfl rfl rfl fun rest => ?_;apply gS;refine gR rfl ?_;refine GoR.box rfl rfl rfl rfl rfl rfl fun h0 x0 f0 => ?_;have := e0.1;replace e0 := e0.trans x0;have := f0.1;refine gP ?_;apply gE;apply gS;refine Go.drawnE plan40_0 ?_;refine gQ rfl rfl (ld71 rfl f0 rfl) rfl ?_;refine gQ rfl rfl (fa71_3 rfl) rfl ?_;refine gQ rfl rfl (ld26 rfl f0 rfl) rfl ?_;refine gQ rfl rfl (aOp_lenSlice Try.underlying26 rfl hl4) rfl ?_;refine gQ rfl rfl (aOp_shl rfl rfl (i := n) (by omega) hsh (by omega)) rfl ?_;refine gQ rfl rfl (aS rfl rfl) rfl ?_;refine GoE.call rfl rfl (aCF aFunc70 rfl) (hln2 _ (A.ext e0)) (dD 63 5 (dD 63 4 (dD 63 3 (dD 63 2 (dD 63 1 (dD 63 0 rfl)))))) ?_ (by rintro _ _ ⟨bm, KT, q, hKT, _, hbm, KK, e7⟩; cases q);rintro v1 h1 ⟨bm, KT, q, hKT, x1, hbm, KK, e7⟩;cases q;have := e0.1;have := f0.1;replace e0 := e0.trans x1;refine ⟨recheck_nil, _, rfl, ?_⟩;refine gQ rfl rfl rfl rfl ?_;refine GoE.end rfl ?_;apply gS;refine gR rfl ?_;refine gP ?_;refine gO rfl rfl (aOp_lenMap Try.underlying74 rfl (KK.ext e7).m (hKp hKT)) rfl ?_;refine gO rfl rfl (kEF rfl rfl) rfl ?_;refine GoR.call rfl rfl (aCF aFunc67 rfl) (refuse_no _ _) ?_ np;rintro v2 h2 ⟨q, x2⟩;cases q;refine ⟨_, rfl, ?_⟩;replace e7 := e7.trans x2;replace e0 := e0.trans x2;apply gE;apply gS;refine gR rfl ?_;iterate 2 refine gP ?_
  apply gE;exact gV (ret_end (aResult_of Try.func40 rfl rfl) ⟨e0, .inl ⟨hTe, bm, KT, rfl, hKT, by omega, KK.ext e7⟩⟩)
end Go.Proofs.Ytkhiagdmbajimaa

set_option linter.unusedSimpArgs false
namespace Go.AbsE
open Go
section
variable {P : Program} {t : Tr AVal} {h : AH} {dst : Option Tmp} {ty tt : TypeId} {pos : String} {after : Array Edge} {guard : Option (Nat × Bool)} {x y : Operand}
theorem u64_small {n : Nat} (hn : n < 18446744073709551616) : IntKind.u64.wrap (n : Nat) = n := by
 have h1 : IntKind.u64.wrap (n : Nat) = (n : Int) % 18446744073709551616 := by rfl
 rw [h1]
 omega
theorem aOp_binU {op : BinOp} {ty2 : TypeId} {a b : Int} {k : IntKind} {r : AVal} (hx : ev t x = some (.int .u64 a)) (hy : ev t y = some (.int k b)) (hv : (match pureRun P (binOp op ty (.int .u64 a) (.int k b)) with | some v => absV v | none => none) = some r) :
  aOp P t h ⟨dst, .binOp op ty x y ty2, tt, pos, after, guard⟩ = some (.val r h) := by
 show opBin P t h op ty x y = _
 unfold opBin
 rw [hx, hy]
 dsimp only
 rw [show aBinOp P op ty (isConstO x || isConstO y) (.int .u64 a) (.int k b) = some r from hv]
 rfl
theorem aOp_andU {ty2 : TypeId} {a b r : Nat} (hx : ev t x = some (.int .u64 (a : Nat))) (hy : ev t y = some (.int .u64 (b : Nat))) (ha : a < 18446744073709551616) (hb : b < 18446744073709551616) (hr : a &&& b = r) :
  aOp P t h ⟨dst, .binOp .and ty x y ty2, tt, pos, after, guard⟩ = some (.val (.int .u64 (r : Nat)) h) := by
 refine aOp_binU hx hy ?_
 have : pureRun P (binOp .and ty (.int .u64 (a : Nat)) (.int .u64 (b : Nat))) = some (.int .u64 (r : Nat)) := by
  show pureRun P (if IntKind.u64 ≠ IntKind.u64 then stuck "BinOp: operands of different kinds" else Op.intBits .and .u64 (a : Nat) (b : Nat)) = _
  rw [if_neg (fun h => h rfl)]
  show some (Value.int .u64 (IntKind.u64.wrap ((BitVec.ofInt 64 (a : Nat) &&& BitVec.ofInt 64 (b : Nat)).toNat : Int))) = _
  have h1 : (BitVec.ofInt 64 (a : Nat) &&& BitVec.ofInt 64 (b : Nat)).toNat = r := by
   rw [BitVec.ofInt_natCast, BitVec.ofInt_natCast, BitVec.toNat_and, BitVec.toNat_ofNat, BitVec.toNat_ofNat, Nat.mod_eq_of_lt (by omega), Nat.mod_eq_of_lt (by omega)]
   exact hr
  have h2 : r ≤ a := by rw [← hr]; exact Nat.and_le_left
  rw [h1, u64_small (by omega)]
 rw [this]
 rfl
theorem aOp_addU {ty2 : TypeId} {a b r : Nat} (hx : ev t x = some (.int .u64 (a : Nat))) (hy : ev t y = some (.int .u64 (b : Nat))) (hb : a + b < 18446744073709551616) (hr : a + b = r) :
  aOp P t h ⟨dst, .binOp .add ty x y ty2, tt, pos, after, guard⟩ = some (.val (.int .u64 (r : Nat)) h) := by
 refine aOp_binU hx hy ?_
 have : pureRun P (binOp .add ty (.int .u64 (a : Nat)) (.int .u64 (b : Nat))) = some (.int .u64 (r : Nat)) := by
  show some (Value.int .u64 (IntKind.u64.wrap ((a : Int) + (b : Int)))) = _
  have : (a : Int) + (b : Int) = ((a + b : Nat) : Int) := by omega
  rw [this, u64_small hb, hr]
 rw [this]
 rfl
theorem aOp_shrU {ty2 : TypeId} {a r i : Nat} (hx : ev t x = some (.int .u64 (a : Nat))) (hy : ev t y = some (.int .u64 (i : Nat))) (hi : i ≤ 64) (hr : a / 2 ^ i = r) : aOp P t h ⟨dst, .binOp .shr ty x y ty2, tt, pos, after, guard⟩ = some (.val (.int .u64 (r : Nat)) h) := by
 refine aOp_binU hx hy ?_
 have : pureRun P (binOp .shr ty (.int .u64 (a : Nat)) (.int .u64 (i : Nat))) = some (.int .u64 (r : Nat)) := by
  show pureRun P (Op.shift .shr .u64 (a : Nat) .u64 (i : Nat)) = _
  unfold Op.shift
  rw [if_neg (by omega)]
  have : min ((i : Int)).toNat IntKind.u64.bits = i := by
   show min ((i : Int)).toNat 64 = i
   omega
  rw [this]
  show some (Value.int .u64 ((a : Int).fdiv (2 ^ i))) = _
  rw [show (a : Int).fdiv (2 ^ i) = ((a / 2 ^ i : Nat) : Int) by rw [Int.fdiv_eq_ediv_of_nonneg _ (Int.le_of_lt (Int.pow_pos (by omega)))]; simp, hr]
 rw [this]
 rfl
theorem aOp_convUI {src dt : TypeId} {sd : TypeDesc} {w : Nat} (hx : ev t x = some (.int .u64 (w : Nat))) (hs : P.underlying src = some sd) (hu : P.underlying dt = some (.int .i64)) (hw : w < 9223372036854775808) : aOp P t h ⟨dst, .convert src dt x, tt, pos, after, guard⟩ = some (.val (.int .i64 (w : Nat)) h) := by
 show opConvert P t h src dt x = _
 unfold opConvert
 rw [hx]
 have : pureRun P (convert src dt (.int .u64 (w : Nat))) = some (.int .i64 (w : Nat)) := by
  unfold convert
  rw [pureRun_bind, pr_underlying hs]
  simp only [Option.bind_some, pureRun_bind, pr_underlying hu]
  have := i64_small hw
  cases sd <;> (show pureRun P (Conv.intToInt .i64 (w : Nat)) = _; unfold Conv.intToInt; rw [this]; rfl)
 simp only [this]
 rfl
end
end Go.AbsE

namespace Go.Proofs.Ytkhiagdmbajimaa
open Go Go.AbsE
set_option linter.unusedSimpArgs false
set_option maxRecDepth 100000
set_option maxHeartbeats 0
set_option linter.unusedVariables false
theorem idx100F_at {fid : FuncId} {first caps : List AVal} {fn : Func} (hfid : aFunc Try.prog fid = some fn) {s : AVal} {L : List (RtV)} (p : RtV → Bool) {h : AH} (hs : SliceOf h 3 s (L.map RtV.cells)) (hn : L.length ≤ 200)
  (hc : ∀ x h', x ∈ L → Ext h h' → Runs Try.prog fid (first ++ [.agg (RtV.cells x)] ++ caps) h' (fun en h'' => en = .ret (.bool (p x)) ∧ Ext h' h'')) :
  Runs Try.prog 100 [s, .func (.func fid) first caps] h (fun en h' => en = .ret (.int .i64 (match L.findIdx? p with | some i => (i : Int) | none => -1)) ∧ Ext h h') := by
 have hlen := hs.len
 rw [List.length_map] at hlen
 have e0 : Ext h h := Ext.refl _
 refine Runs.intro aFunc100 rfl rfl rfl rfl fun rest => ?_;apply gS;refine gR rfl ?_;refine gP ?_;apply gE;iterate 2 apply gS
 refine gR rfl ?_;refine gP ?_;refine gO rfl rfl (aOp_lenSlice Try.underlying27 rfl (by assumption)) rfl ?_;refine gP ?_;apply gE;refine Go.block noJ_ok ?_
 refine Go.loopKeep (fun i : Nat => [(0, s), (1, .func (.func fid) first caps), (7, .int .i64 L.length), (8, .int .i64 (i : Nat))])
  (fun m i h' => m + i = L.length ∧ Ext h h' ∧ ∀ x, x ∈ L.take i → p x = false) (n := L.length) 0 ⟨rfl, rfl, rfl, rfl, trivial⟩ ⟨rfl, e0, (by intro x hx; simp at hx)⟩ ?_
 clear e0;rintro m i h4 ⟨hm, e0, hp⟩ again
 by_cases hi' : i < L.length
 ·obtain ⟨x, hx⟩ : ∃ x, L[i]? = some x := ⟨L[i], by simp [hi']⟩
  have hmem := List.mem_of_getElem? hx
  obtain ⟨bq, off, q1, q2⟩ := hs.at (i := i) (l := RtV.cells x) (by rw [List.getElem?_map, hx]; rfl)
  rw [List.length_map] at q1
  have hcx := hc x h4 hmem e0
  cases hpx : p x with
  | true =>
   rw [hpx] at hcx
   have hany := idx_some hx hpx hp
   rw [hany];apply gS;refine gR rfl ?_;refine gO rfl rfl (kLT rfl rfl) rfl ?_;apply gE;apply gS;refine gC (b := true) rfl ?_;refine gD ?_;apply gS;refine Go.block noJ_ok ?_;apply gS;refine gR rfl ?_;iterate 2 refine gP ?_
   apply gE;apply gS;refine gR rfl ?_;iterate 3 refine gP ?_
   refine gO rfl rfl (aOp_indexAddr (i := i) Try.underlying27 sz57 rfl (by assumption) rfl (Nat.ble_eq_true_of_le (by omega))) rfl ?_;refine gO rfl rfl (aOp_loadE ag57 sz57 rfl (q2.ext e0)) rfl ?_;refine GoR.call rfl rfl (aOp_callVal rfl hfid rfl) (hcx) ?_ np;rintro v5 h5 ⟨q, x5⟩;cases q;refine ⟨_, rfl, ?_⟩;replace e0 := e0.trans x5;apply gE;refine gC (b := true) rfl ?_;apply gS;refine gR rfl ?_;iterate 2 refine gP ?_
   apply gE;exact gW Try.func100 rfl rfl ⟨rfl, e0⟩
  | false =>
   rw [hpx] at hcx;apply gS;refine gR rfl ?_;refine gO rfl rfl (kLT rfl rfl) rfl ?_;apply gE;apply gS;refine gC (b := true) rfl ?_;refine gD ?_;apply gS;refine Go.block noJ_ok ?_;apply gS;refine gR rfl ?_;iterate 2 refine gP ?_
   apply gE;apply gS;refine gR rfl ?_;iterate 3 refine gP ?_
   refine gO rfl rfl (aOp_indexAddr (i := i) Try.underlying27 sz57 rfl (by assumption) rfl (Nat.ble_eq_true_of_le (by omega))) rfl ?_;refine gO rfl rfl (aOp_loadE ag57 sz57 rfl (q2.ext e0)) rfl ?_;refine GoR.call rfl rfl (aOp_callVal rfl hfid rfl) (hcx) ?_ np;rintro v5 h5 ⟨q, x5⟩;cases q;refine ⟨_, rfl, ?_⟩;replace e0 := e0.trans x5;apply gE;refine gC (b := false) rfl ?_;refine gD ?_;refine Go.inBlock noJ_ok ?_;refine gR rfl ?_;refine gO rfl rfl (aA rfl rfl) rfl ?_;refine gP ?_;apply gE;exact again (m - 1) (i + 1) _ _ (by omega) ⟨rfl, rfl, rfl, rfl, trivial⟩ ⟨by omega, e0, take_no hx hpx hp⟩
 ·rw [List.take_of_length_le (by omega)] at hp;rw [List.findIdx?_eq_none_iff.2 hp];apply gS;refine gR rfl ?_;refine gO rfl rfl (kLF rfl rfl) rfl ?_;apply gE;apply gS;refine gC (b := false) rfl ?_;refine gD ?_;apply gS;refine gR rfl ?_;refine gP ?_;apply gE;exact gW Try.func100 rfl rfl ⟨rfl, e0⟩
theorem cont89F_ok {fid : FuncId} {first caps : List AVal} {fn : Func} (hfid : aFunc Try.prog fid = some fn) {s : AVal} {L : List (RtV)} (p : RtV → Bool) {h : AH} (hs : SliceOf h 3 s (L.map RtV.cells)) (hn : L.length ≤ 200)
  (hc : ∀ x h', x ∈ L → Ext h h' → Runs Try.prog fid (first ++ [.agg (RtV.cells x)] ++ caps) h' (fun en h'' => en = .ret (.bool (p x)) ∧ Ext h' h'')) :
  Runs Try.prog 89 [s, .func (.func fid) first caps] h (fun en h' => en = .ret (.bool (L.any p)) ∧ Ext h h') := by
 have e0 : Ext h h := Ext.refl _
 refine Runs.intro aFunc89 rfl rfl rfl rfl fun rest => ?_;apply gS;refine gR rfl ?_;refine gP ?_;apply gE;apply gS;refine gR rfl ?_;iterate 2 refine gP ?_
 refine GoR.call rfl rfl (aCF aFunc100 rfl) (idx100F_at hfid p hs hn hc) ?_ np;rintro v0 h0 ⟨q, x0⟩;cases q;refine ⟨_, rfl, ?_⟩;replace e0 := e0.trans x0;refine gO rfl rfl (aOp_geq rfl rfl (idx_any L p)) rfl ?_;refine gP ?_;apply gE;exact gW Try.func89 rfl rfl ⟨rfl, e0⟩
def crsJ (J : Nat → Nat → Bool) (n : Nat) (l : List Int) : List Nat := (List.range n).map fun a => lowV (J a) l n a
theorem crsJ_len (J : Nat → Nat → Bool) (n : Nat) (l : List Int) : (crsJ J n l).length = n := by unfold crsJ; simp
theorem nx_crsJ {J : Nat → Nat → Bool} {n : Nat} {l : List Int} {a : Nat} (ha : a < n) : nx (crsJ J n l) a = lowV (J a) l n a := by
 unfold nx crsJ
 rw [List.getElem?_map, List.getElem?_range ha]
 rfl
theorem crsJ_down {D : DrainV} (O : D.Ok) {l : List Int} (hl : l ∈ levsV D.bs) (J : Nat → Nat → Bool) : Down l (crsJ J D.bs.length l) where
 le a ha := by
  rw [crsJ_len] at ha ⊢;rw [nx_crsJ ha];exact low_le _ _ _ _
 lt a ha := by
  rw [crsJ_len] at ha ⊢;rw [nx_crsJ ha]
  intro q
  rcases (low_is (J a) l D.bs.length a).h with ⟨h, _⟩ | ⟨_, h, _⟩ <;> omega
 lo a ha := by
  rw [crsJ_len] at ha;exact levs_in O hl ha
theorem all_perm {α : Type} {l m : List α} (p : α → Bool) (h : l.Perm m) : l.all p = m.all p := by
 rw [Bool.eq_iff_iff, List.all_eq_true, List.all_eq_true];exact ⟨fun k x hx => k x (h.mem_iff.2 hx), fun k x hx => k x (h.mem_iff.1 hx)⟩
theorem any_perm {α : Type} {l m : List α} (p : α → Bool) (h : l.Perm m) : l.any p = m.any p := by
 rw [Bool.eq_iff_iff, List.any_eq_true, List.any_eq_true];exact ⟨fun ⟨x, hx, k⟩ => ⟨x, h.mem_iff.1 hx, k⟩, fun ⟨x, hx, k⟩ => ⟨x, h.mem_iff.2 hx, k⟩⟩
theorem keeps_ok {D : DrainV} (O : D.Ok) {b d r s iv : AVal} {J : Nat → Nat → Bool} {KT : KV} {st bm : Nat} {h : AH} (A : DrainAt h D b d r s) (JI : JoinI iv J h) (hK : KT.map (fun x => x.1) = D.learn st) (K : KnownAt D h bm b KT) :
  Runs Try.prog 76 [.agg (dC b d r s), .map bm, iv] h (fun en h' => en = .ret (.int .i64 (D.keeps (D.learn st) (crsJ J D.bs.length))) ∧ Ext h h') := by
 have hnb := O.nb
 have hnr := O.nr
 have hborn := esN_born (L := KT.map (entK D.bs.length b))
 have hdist := esN_dist (KT.map (entK D.bs.length b))
 have hKm := K.m
 rw [List.length_map] at hborn
 have hsm := A.same
 have hsm2 := JI.same
 have hsm3 := A.rs.same
 obtain ⟨fA, hfA⟩ : ∃ fA : List Int × Nat → Bool, fA = fun x => !(D.rs.any (D.can (crsJ J D.bs.length x.1))) := ⟨_, rfl⟩
 obtain ⟨fP, hfP⟩ : ∃ fP : List Int × Nat → Bool, fP = fun x => !(D.rs.any (D.must (crsJ J D.bs.length x.1))) := ⟨_, rfl⟩
 have hres : D.keeps (D.learn st) (crsJ J D.bs.length) = if (KT.map fA).all id = true then 2 else if (KT.map fP).any id = true then 1 else 0 := by
  unfold DrainV.keeps
  rw [← hK, List.all_map, List.any_map, List.all_map, List.any_map, hfA, hfP]
  rfl
 rw [hres, ← imgE_all KT D.bs.length b fA, ← imgE_all KT D.bs.length b fP]
 have hco := fun {l : List Int} (hl : l.length = D.bs.length) h' e => course_ok O (b := b) (d := d) (r := r) (s := s) (iv := iv) (J := J) hl (h := h') (A.ext e) (JI.ext e)
 unfold dC at *
 have e0 : Ext h h := Ext.refl _
 refine Runs.intro aFunc76 rfl rfl rfl rfl fun rest => ?_;apply gS;refine gR rfl ?_;refine GoR.box rfl rfl rfl rfl rfl rfl fun h0 x0 f0 => ?_;have := e0.1
 have := hKm.1
 replace hKm := hKm.ext x0;replace e0 := e0.trans x0;have := f0.1;refine gP ?_;apply gE;apply gS;refine gR rfl ?_;iterate 2 refine gP ?_
 apply gE;iterate 2 apply gS
 refine gR rfl ?_;refine gP ?_;refine GoR.rangeM rfl rfl rfl Try.underlying74 rfl (mapB_has hKm) rfl rfl fun h5 x5 f5 => ?_
 have hl0 := f0.1
 have hn0 : h.next < h0.next := by omega
 replace f0 := f0.ext x5;replace e0 := e0.trans x5
 have hl5 := f5.1
 have hx5 := x5.1
 clear hKm
 have hKm := K.m
 apply gE;refine Go.block noJ_ok ?_
 refine Go.loopKeep (fun vr : List AMapE × List AMapE => [(2, iv), (3, .ptr h.next 0), (7, .bool ((vr.1.flatMap (imgE KT fA)).all id)), (8, .bool ((vr.1.flatMap (imgE KT fP)).any id)), (12, .ptr h0.next 0)])
  (fun n vr h' => vr.2.length = n ∧ (vr.1 ++ vr.2).Perm (esN (KT.map (entK D.bs.length b))) ∧ Ext h h' ∧ Has h' h.next (.cells .plain [b, d, r, s] 71) ∧ Has h' h0.next (.iter bm KT.length (vr.1.map AMapE.born) KT.length)) (n := (esN (KT.map (entK D.bs.length b))).length) ([], esN (KT.map (entK D.bs.length b))) ⟨rfl, rfl, rfl, rfl, rfl, trivial⟩ ⟨rfl, .refl _, e0, f0, f5⟩ ?_
 clear e0 f0 f5;rintro nn ⟨vs, rs⟩ hh ⟨hn', hperm, e0, f0, f5⟩ again
 dsimp only at hn' hperm f5 ⊢
 apply gS;refine Go.beginR rfl (Go.nextM rfl rfl f5 (mapB_has (hKm.ext e0)) hborn hborn ent_kv (fun hall => Go.inRegion noJ_ok ?_) (fun en kv hen hnew hk h6 u6 => Go.inRegion noJ_ok ?_))
 ·have hrs := perm_over hperm hdist hall
  subst hrs;rw [List.append_nil] at hperm;rw [all_perm id (hperm.flatMap_right _), any_perm id (hperm.flatMap_right _)];clear hKm
  generalize ((esN (KT.map (entK D.bs.length b))).flatMap (imgE KT fA)).all id = v1
  generalize ((esN (KT.map (entK D.bs.length b))).flatMap (imgE KT fP)).any id = v2
  cases v1 with
  | true =>
   refine gP ?_;apply gE;apply gS;refine gC (b := false) rfl ?_;refine gD ?_;apply gS;refine Go.block noJ_ok ?_;apply gS;refine gR rfl ?_;iterate 2 refine gP ?_
   apply gE;refine gC (b := true) rfl ?_;apply gS;refine gR rfl ?_;refine gP ?_;apply gE;exact gW Try.func76 rfl rfl ⟨rfl, e0⟩
  | false =>
   cases v2 with
   | true =>
    refine gP ?_;apply gE;apply gS;refine gC (b := false) rfl ?_;refine gD ?_;apply gS;refine Go.block noJ_ok ?_;apply gS;refine gR rfl ?_;iterate 2 refine gP ?_
    apply gE;refine gC (b := false) rfl ?_;apply gS;refine gR rfl ?_;iterate 2 refine gP ?_
    apply gE;refine gC (b := true) rfl ?_;apply gS;refine gR rfl ?_;refine gP ?_;apply gE;exact gW Try.func76 rfl rfl ⟨rfl, e0⟩
   | false =>
    refine gP ?_;apply gE;apply gS;refine gC (b := false) rfl ?_;refine gD ?_;apply gS;refine Go.block noJ_ok ?_;apply gS;refine gR rfl ?_;iterate 2 refine gP ?_
    apply gE;refine gC (b := false) rfl ?_;apply gS;refine gR rfl ?_;iterate 2 refine gP ?_
    apply gE;refine gC (b := false) rfl ?_;refine gD ?_;refine Go.inBlock noJ_ok ?_;apply gS;refine gR rfl ?_;refine gP ?_;apply gE;exact gW Try.func76 rfl rfl ⟨rfl, e0⟩
 ·obtain ⟨ra, rb, rfl, hperm2⟩ := perm_pick hperm hen hnew
  obtain ⟨x, q1, q2, q3, q5⟩ := ent_at hen
  replace f5 := u6.has f5;replace f0 := f0.upd u6 (by omega);replace e0 := e0.upd u6 (by omega)
  have hA1 : (vs ++ [en]).flatMap (imgE KT fA) = vs.flatMap (imgE KT fA) ++ [fA x] := by
   rw [List.flatMap_append, List.flatMap_cons, List.flatMap_nil, List.append_nil]
   unfold imgE
   rw [q1]
  have hP1 : (vs ++ [en]).flatMap (imgE KT fP) = vs.flatMap (imgE KT fP) ++ [fP x] := by
   rw [List.flatMap_append, List.flatMap_cons, List.flatMap_nil, List.append_nil]
   unfold imgE
   rw [q1]
  have hA2 : ((vs ++ [en]).flatMap (imgE KT fA)).all id = ((vs.flatMap (imgE KT fA)).all id && fA x) := by rw [hA1, List.all_append]; simp
  have hP2 : ((vs ++ [en]).flatMap (imgE KT fP)).any id = ((vs.flatMap (imgE KT fP)).any id || fP x) := by rw [hP1, List.any_append]; simp
  have hMe := mapB_has (hKm.ext e0)
  have hent : ∀ {t : Tr AVal} {dst : Option Tmp} {tt : TypeId} {pos : String} {after : Array Edge} {guard : Option (Nat × Bool)} {x : Operand}, ev t x = some (.ptr h0.next 0) → aOp Try.prog t h6 ⟨dst, .entry x, tt, pos, after, guard⟩ = some (.val (.tuple [kv, en.val]) h6) := fun hx => aOp_entry hx f5 hMe hen hdist hk
  have hl5 := f5.1
  have hl0 := f0.1
  clear hKm;rw [q2] at hk
  have hk2 : kv = .agg (i64s (lv5 x.1)) := by
   have := absV_vints (lv5 x.1)
   rw [hk] at this;exact Option.some.inj this
  subst hk2
  have hmem := mem_known hK q5
  have hll := levs_len hmem
  have hl5' := lv5_len (l := x.1) (by omega)
  have hb5 : Nat.beq (AVal.agg (i64s (lv5 x.1))).cells.length 5 = true := beq_len (show (i64s (lv5 x.1)).length = 5 by rw [i64s_len, hl5'])
  have hs5 : ∀ z : List AVal, z.length = 5 → splice z 0 (AVal.agg (i64s (lv5 x.1))).cells = some (i64s (lv5 x.1)) := fun z hz => splice_whole (show z.length = (i64s (lv5 x.1)).length by rw [i64s_len, hl5', hz])
  have hsl : slice? (i64s (lv5 x.1)) 0 5 = some (i64s (lv5 x.1)) := slice_all (by rw [i64s_len, hl5'])
  have hcx := fun h' e => (hco hll h' e).mono fun en h'' ⟨t, q, xx, C⟩ => (⟨t, q, xx, C, Ext.refl h''⟩ : ∃ t, en = AEnd.ret (.agg [t, b]) ∧ Ext h' h'' ∧ CrsAt h'' h'.next (crsJ J D.bs.length x.1) t ∧ Ext h'' h'')
  have hci : ∀ {h' : AH} {lo : Nat} {tc : AVal}, Ext h h' → CrsAt h' lo (crsJ J D.bs.length x.1) tc → CourseIn D h' x.1 (crsJ J D.bs.length x.1) tc b := fun e C => ⟨crsJ_down O hmem J, crsJ_len _ _ _, C.sl, A.bs.ext e⟩
  obtain ⟨w1, hw1⟩ : ∃ w, D.rs.any (D.can (crsJ J D.bs.length x.1)) = w := ⟨_, rfl⟩
  obtain ⟨w2, hw2⟩ : ∃ w, D.rs.any (D.must (crsJ J D.bs.length x.1)) = w := ⟨_, rfl⟩
  have hcan : ∀ {h' : AH} {lo : Nat} {tc : AVal}, Ext h h' → CrsAt h' lo (crsJ J D.bs.length x.1) tc → Runs Try.prog 89 [r, .func (.func 93) [.agg [tc, b]] []] h' (fun en h'' => en = .ret (.bool w1) ∧ Ext h' h'') := fun e C => by
   rw [← hw1]
   exact cont89F_ok (first := [.agg [_, b]]) (caps := []) aFunc93 _ (A.rs.ext e) (by omega) fun r h'' hr e' => canBreak_ok O (O.r r hr) ((hci e C).ext e')
  have hmust : ∀ {h' : AH} {lo : Nat} {tc : AVal}, Ext h h' → CrsAt h' lo (crsJ J D.bs.length x.1) tc → Runs Try.prog 89 [r, .func (.func 94) [.agg [tc, b]] []] h' (fun en h'' => en = .ret (.bool w2) ∧ Ext h' h'') := fun e C => by
   rw [← hw2]
   exact cont89F_ok (first := [.agg [_, b]]) (caps := []) aFunc94 _ (A.rs.ext e) (by omega) fun r h'' hr e' => mustBreak_ok O (O.r r hr) ((hci e C).ext e')
  have hfAx : fA x = !w1 := by rw [hfA, ← hw1]
  have hfPx : fP x = !w2 := by rw [hfP, ← hw2]
  rw [hfAx] at hA2;rw [hfPx] at hP2
  have hbsc := A.bs.scal
  obtain ⟨v1, hv1⟩ : ∃ v, (vs.flatMap (imgE KT fA)).all id = v := ⟨_, rfl⟩
  obtain ⟨v2, hv2⟩ : ∃ v, (vs.flatMap (imgE KT fP)).any id = v := ⟨_, rfl⟩
  rw [hv1] at hA2 ⊢;rw [hv2] at hP2 ⊢
  cases v1 with
  | true =>
   cases v2 with
   | true =>
    refine gP ?_;apply gE;apply gS;refine gC (b := true) rfl ?_;refine gD ?_;refine Go.block noJ_ok ?_;apply gS;refine gR rfl ?_;refine gO rfl rfl (hent rfl) rfl ?_;refine gP ?_;refine GoR.alloc rfl rfl rfl zt99 rfl rfl fun h7 x7 f7 => ?_;have := e0.1;have := f5.1;have := f0.1;replace f5 := f5.ext x7;replace f0 := f0.ext x7;replace e0 := e0.trans x7;have := f7.1;refine GoR.store rfl rfl rfl rfl rfl rfl f7 rfl sz99 hb5 (scal_ints _) (hs5 _ rfl) fun h8 u8 => ?_;replace f7 := u8.has f7;replace f5 := f5.upd u8 (by omega);replace f0 := f0.upd u8 (by omega);replace e0 := e0.upd u8 (by omega);apply gE;apply gS;refine gR rfl ?_;refine gO rfl rfl (ld71 rfl f0 rfl) rfl ?_;refine gP ?_;refine gO rfl rfl (ld99 rfl (by assumption) hsl) rfl ?_;refine GoR.call rfl rfl (aCF aFunc91 rfl) (hcx _ e0) ?_ (by rintro _ _ ⟨tc, q, _, CC, e7⟩; cases q);rintro v9 h9 ⟨tc, q, x9, CC, e7⟩;cases q;refine ⟨_, rfl, ?_⟩;have := e0.1;replace f7 := f7.ext x9;replace f5 := f5.ext x9;replace f0 := f0.ext x9;replace e0 := e0.trans x9;refine GoR.alloc rfl rfl rfl zt79 rfl rfl fun h10 x10 f10 => ?_;have := e7.1;have := e0.1;have := f7.1;have := f5.1;have := f0.1;replace f7 := f7.ext x10;replace f5 := f5.ext x10;replace f0 := f0.ext x10;replace e7 := e7.trans x10;replace e0 := e0.trans x10;have := f10.1;refine GoR.store rfl rfl rfl rfl rfl rfl f10 rfl sz79 rfl (scal2 CC.sl.scal.1 hbsc.1) rfl fun h11 u11 => ?_;replace f10 := u11.has f10;replace f7 := f7.upd u11 (by omega);replace f5 := f5.upd u11 (by omega);replace f0 := f0.upd u11 (by omega);replace e7 := e7.upd u11 (by omega);replace e0 := e0.upd u11 (by omega);apply gE;apply gS;refine gR rfl ?_;iterate 2 refine gP ?_
    refine gO rfl rfl (fa71_2 rfl) rfl ?_;refine gO rfl rfl (ld27 rfl f0 rfl) rfl ?_;refine gO rfl rfl (ld79 rfl f10 rfl) rfl ?_;refine gP ?_;refine GoR.call rfl rfl (aCF aFunc89 rfl) (hcan e0 (CC.ext e7)) ?_ np;rintro v12 h12 ⟨q, x12⟩;cases q;refine ⟨_, rfl, ?_⟩;replace f10 := f10.ext x12;replace f7 := f7.ext x12;replace f5 := f5.ext x12;replace f0 := f0.ext x12;replace e7 := e7.trans x12;replace e0 := e0.trans x12;iterate 3 refine gP ?_
    apply gE;refine gR rfl ?_;iterate 2 refine gP ?_
    iterate 6 refine GoR.skip rfl rfl rfl ?_
    iterate 2 refine gP ?_
    apply gE;refine Go.inBlock noJ_ok ?_;exact again (ra ++ rb).length (vs ++ [en], ra ++ rb) _ _ (by rw [← hn']; simp) ⟨rfl, rfl, by show _ = some (AVal.bool (((vs ++ [en]).flatMap (imgE KT fA)).all id)); rw [hA2]; rfl, by show _ = some (AVal.bool (((vs ++ [en]).flatMap (imgE KT fP)).any id)); rw [hP2]; rfl, rfl, trivial⟩ ⟨rfl, hperm2, e0, f0, by dsimp only; rw [List.map_append]; exact f5⟩
   | false =>
    refine gP ?_;apply gE;apply gS;refine gC (b := true) rfl ?_;refine gD ?_;refine Go.block noJ_ok ?_;apply gS;refine gR rfl ?_;refine gO rfl rfl (hent rfl) rfl ?_;refine gP ?_;refine GoR.alloc rfl rfl rfl zt99 rfl rfl fun h7 x7 f7 => ?_;have := e0.1;have := f5.1;have := f0.1;replace f5 := f5.ext x7;replace f0 := f0.ext x7;replace e0 := e0.trans x7;have := f7.1;refine GoR.store rfl rfl rfl rfl rfl rfl f7 rfl sz99 hb5 (scal_ints _) (hs5 _ rfl) fun h8 u8 => ?_;replace f7 := u8.has f7;replace f5 := f5.upd u8 (by omega);replace f0 := f0.upd u8 (by omega);replace e0 := e0.upd u8 (by omega);apply gE;apply gS;refine gR rfl ?_;refine gO rfl rfl (ld71 rfl f0 rfl) rfl ?_;refine gP ?_;refine gO rfl rfl (ld99 rfl (by assumption) hsl) rfl ?_;refine GoR.call rfl rfl (aCF aFunc91 rfl) (hcx _ e0) ?_ (by rintro _ _ ⟨tc, q, _, CC, e7⟩; cases q);rintro v9 h9 ⟨tc, q, x9, CC, e7⟩;cases q;refine ⟨_, rfl, ?_⟩;have := e0.1;replace f7 := f7.ext x9;replace f5 := f5.ext x9;replace f0 := f0.ext x9;replace e0 := e0.trans x9;refine GoR.alloc rfl rfl rfl zt79 rfl rfl fun h10 x10 f10 => ?_;have := e7.1;have := e0.1;have := f7.1;have := f5.1;have := f0.1;replace f7 := f7.ext x10;replace f5 := f5.ext x10;replace f0 := f0.ext x10;replace e7 := e7.trans x10;replace e0 := e0.trans x10;have := f10.1;refine GoR.store rfl rfl rfl rfl rfl rfl f10 rfl sz79 rfl (scal2 CC.sl.scal.1 hbsc.1) rfl fun h11 u11 => ?_;replace f10 := u11.has f10;replace f7 := f7.upd u11 (by omega);replace f5 := f5.upd u11 (by omega);replace f0 := f0.upd u11 (by omega);replace e7 := e7.upd u11 (by omega);replace e0 := e0.upd u11 (by omega);apply gE;apply gS;refine gR rfl ?_;iterate 2 refine gP ?_
    refine gO rfl rfl (fa71_2 rfl) rfl ?_;refine gO rfl rfl (ld27 rfl f0 rfl) rfl ?_;refine gO rfl rfl (ld79 rfl f10 rfl) rfl ?_;refine gP ?_;refine GoR.call rfl rfl (aCF aFunc89 rfl) (hcan e0 (CC.ext e7)) ?_ np;rintro v12 h12 ⟨q, x12⟩;cases q;refine ⟨_, rfl, ?_⟩;replace f10 := f10.ext x12;replace f7 := f7.ext x12;replace f5 := f5.ext x12;replace f0 := f0.ext x12;replace e7 := e7.trans x12;replace e0 := e0.trans x12;iterate 3 refine gP ?_
    apply gE;refine gR rfl ?_;iterate 2 refine gP ?_
    refine gO rfl rfl (fa71_2 rfl) rfl ?_;refine gO rfl rfl (ld27 rfl f0 rfl) rfl ?_;refine gO rfl rfl (ld79 rfl f10 rfl) rfl ?_;refine gP ?_;refine GoR.call rfl rfl (aCF aFunc89 rfl) (hmust e0 (CC.ext e7)) ?_ np;rintro v13 h13 ⟨q, x13⟩;cases q;refine ⟨_, rfl, ?_⟩;replace f10 := f10.ext x13;replace f7 := f7.ext x13;replace f5 := f5.ext x13;replace f0 := f0.ext x13;replace e7 := e7.trans x13;replace e0 := e0.trans x13;iterate 3 refine gP ?_
    apply gE;refine Go.inBlock noJ_ok ?_;exact again (ra ++ rb).length (vs ++ [en], ra ++ rb) _ _ (by rw [← hn']; simp) ⟨rfl, rfl, by show _ = some (AVal.bool (((vs ++ [en]).flatMap (imgE KT fA)).all id)); rw [hA2]; rfl, by show _ = some (AVal.bool (((vs ++ [en]).flatMap (imgE KT fP)).any id)); rw [hP2]; rfl, rfl, trivial⟩ ⟨rfl, hperm2, e0, f0, by dsimp only; rw [List.map_append]; exact f5⟩
  | false =>
   cases v2 with
   | true =>
    refine gP ?_;apply gE;apply gS;refine gC (b := true) rfl ?_;refine gD ?_;refine Go.block noJ_ok ?_;apply gS;refine gR rfl ?_;refine gO rfl rfl (hent rfl) rfl ?_;refine gP ?_;refine GoR.alloc rfl rfl rfl zt99 rfl rfl fun h7 x7 f7 => ?_;have := e0.1;have := f5.1;have := f0.1;replace f5 := f5.ext x7;replace f0 := f0.ext x7;replace e0 := e0.trans x7;have := f7.1;refine GoR.store rfl rfl rfl rfl rfl rfl f7 rfl sz99 hb5 (scal_ints _) (hs5 _ rfl) fun h8 u8 => ?_;replace f7 := u8.has f7;replace f5 := f5.upd u8 (by omega);replace f0 := f0.upd u8 (by omega);replace e0 := e0.upd u8 (by omega);apply gE;apply gS;refine gR rfl ?_;refine gO rfl rfl (ld71 rfl f0 rfl) rfl ?_;refine gP ?_;refine gO rfl rfl (ld99 rfl (by assumption) hsl) rfl ?_;refine GoR.call rfl rfl (aCF aFunc91 rfl) (hcx _ e0) ?_ (by rintro _ _ ⟨tc, q, _, CC, e7⟩; cases q);rintro v9 h9 ⟨tc, q, x9, CC, e7⟩;cases q;refine ⟨_, rfl, ?_⟩;have := e0.1;replace f7 := f7.ext x9;replace f5 := f5.ext x9;replace f0 := f0.ext x9;replace e0 := e0.trans x9;refine GoR.alloc rfl rfl rfl zt79 rfl rfl fun h10 x10 f10 => ?_;have := e7.1;have := e0.1;have := f7.1;have := f5.1;have := f0.1;replace f7 := f7.ext x10;replace f5 := f5.ext x10;replace f0 := f0.ext x10;replace e7 := e7.trans x10;replace e0 := e0.trans x10;have := f10.1;refine GoR.store rfl rfl rfl rfl rfl rfl f10 rfl sz79 rfl (scal2 CC.sl.scal.1 hbsc.1) rfl fun h11 u11 => ?_;replace f10 := u11.has f10;replace f7 := f7.upd u11 (by omega);replace f5 := f5.upd u11 (by omega);replace f0 := f0.upd u11 (by omega);replace e7 := e7.upd u11 (by omega);replace e0 := e0.upd u11 (by omega);apply gE;apply gS;refine gR rfl ?_;iterate 2 refine gP ?_
    iterate 6 refine GoR.skip rfl rfl rfl ?_
    iterate 2 refine gP ?_
    apply gE;refine gR rfl ?_;iterate 2 refine gP ?_
    iterate 6 refine GoR.skip rfl rfl rfl ?_
    iterate 2 refine gP ?_
    apply gE;refine Go.inBlock noJ_ok ?_;exact again (ra ++ rb).length (vs ++ [en], ra ++ rb) _ _ (by rw [← hn']; simp) ⟨rfl, rfl, by show _ = some (AVal.bool (((vs ++ [en]).flatMap (imgE KT fA)).all id)); rw [hA2]; rfl, by show _ = some (AVal.bool (((vs ++ [en]).flatMap (imgE KT fP)).any id)); rw [hP2]; rfl, rfl, trivial⟩ ⟨rfl, hperm2, e0, f0, by dsimp only; rw [List.map_append]; exact f5⟩
   | false =>
    refine gP ?_;apply gE;apply gS;refine gC (b := true) rfl ?_;refine gD ?_;refine Go.block noJ_ok ?_;apply gS;refine gR rfl ?_;refine gO rfl rfl (hent rfl) rfl ?_;refine gP ?_;refine GoR.alloc rfl rfl rfl zt99 rfl rfl fun h7 x7 f7 => ?_;have := e0.1;have := f5.1;have := f0.1;replace f5 := f5.ext x7;replace f0 := f0.ext x7;replace e0 := e0.trans x7;have := f7.1;refine GoR.store rfl rfl rfl rfl rfl rfl f7 rfl sz99 hb5 (scal_ints _) (hs5 _ rfl) fun h8 u8 => ?_;replace f7 := u8.has f7;replace f5 := f5.upd u8 (by omega);replace f0 := f0.upd u8 (by omega);replace e0 := e0.upd u8 (by omega);apply gE;apply gS;refine gR rfl ?_;refine gO rfl rfl (ld71 rfl f0 rfl) rfl ?_;refine gP ?_;refine gO rfl rfl (ld99 rfl (by assumption) hsl) rfl ?_;refine GoR.call rfl rfl (aCF aFunc91 rfl) (hcx _ e0) ?_ (by rintro _ _ ⟨tc, q, _, CC, e7⟩; cases q);rintro v9 h9 ⟨tc, q, x9, CC, e7⟩;cases q;refine ⟨_, rfl, ?_⟩;have := e0.1;replace f7 := f7.ext x9;replace f5 := f5.ext x9;replace f0 := f0.ext x9;replace e0 := e0.trans x9;refine GoR.alloc rfl rfl rfl zt79 rfl rfl fun h10 x10 f10 => ?_;have := e7.1;have := e0.1;have := f7.1;have := f5.1;have := f0.1;replace f5 := f5.ext x10;replace f0 := f0.ext x10;replace e7 := e7.trans x10;replace e0 := e0.trans x10;have := f10.1;refine GoR.store rfl rfl rfl rfl rfl rfl f10 rfl sz79 rfl (scal2 CC.sl.scal.1 hbsc.1) rfl fun h11 u11 => ?_;replace f10 := u11.has f10;replace f5 := f5.upd u11 (by omega);replace f0 := f0.upd u11 (by omega);replace e7 := e7.upd u11 (by omega);replace e0 := e0.upd u11 (by omega);apply gE;apply gS;refine gR rfl ?_;iterate 2 refine gP ?_
    iterate 6 refine GoR.skip rfl rfl rfl ?_
    iterate 2 refine gP ?_
    apply gE;refine gR rfl ?_;iterate 2 refine gP ?_
    refine gO rfl rfl (fa71_2 rfl) rfl ?_;refine gO rfl rfl (ld27 rfl f0 rfl) rfl ?_;refine gO rfl rfl (ld79 rfl f10 rfl) rfl ?_;refine gP ?_;refine GoR.call rfl rfl (aCF aFunc89 rfl) (hmust e0 (CC.ext e7)) ?_ np;rintro v12 h12 ⟨q, x12⟩;cases q;refine ⟨_, rfl, ?_⟩;replace f5 := f5.ext x12;replace f0 := f0.ext x12;replace e0 := e0.trans x12;iterate 3 refine gP ?_
    apply gE;refine Go.inBlock noJ_ok ?_;exact again (ra ++ rb).length (vs ++ [en], ra ++ rb) _ _ (by rw [← hn']; simp) ⟨rfl, rfl, by show _ = some (AVal.bool (((vs ++ [en]).flatMap (imgE KT fA)).all id)); rw [hA2]; rfl, by show _ = some (AVal.bool (((vs ++ [en]).flatMap (imgE KT fP)).any id)); rw [hP2]; rfl, rfl, trivial⟩ ⟨rfl, hperm2, e0, f0, by dsimp only; rw [List.map_append]; exact f5⟩
end Go.Proofs.Ytkhiagdmbajimaa

namespace Go.Proofs.Ytkhiagdmbajimaa
open Go Go.AbsE
set_option linter.unusedSimpArgs false
set_option maxRecDepth 100000
set_option maxHeartbeats 0
set_option linter.unusedVariables false
def popc (n : Nat) : Nat := ((List.range 10).filter fun i => n.testBit i).length
def pop1 (n : Nat) : Nat := (n / 2 ^ 1 &&& 6148914691236517205) + (n &&& 6148914691236517205)
def pop2 (a : Nat) : Nat := (a / 2 ^ 2 &&& 3689348814741910323) + (a &&& 3689348814741910323)
def pop3 (b : Nat) : Nat := (b / 2 ^ 4 + b) &&& 1085102592571150095
def pop4 (k c : Nat) : Nat := c + c / 2 ^ k
theorem pop_all : ((List.range 1024).all fun n => (pop4 32 (pop4 16 (pop4 8 (pop3 (pop2 (pop1 n))))) &&& 127) == popc n) = true := by decide +kernel
theorem ones96_ok {n : Nat} (hn : n < 1024) {h : AH} : Runs Try.prog 96 [.int .u64 (n : Nat)] h (fun en h' => en = .ret (.int .i64 (popc n : Nat)) ∧ Ext h h') := by
 have hp := List.all_eq_true.1 pop_all n (List.mem_range.2 hn)
 simp only [beq_iff_eq] at hp
 have k1 : n / 2 ^ 1 &&& 6148914691236517205 ≤ n / 2 ^ 1 := Nat.and_le_left
 have k2 : n &&& 6148914691236517205 ≤ n := Nat.and_le_left
 obtain ⟨a, ha⟩ : ∃ a, pop1 n = a := ⟨_, rfl⟩
 have ka : a ≤ 2048 := by rw [← ha]; unfold pop1; omega
 have k3 : a / 2 ^ 2 &&& 3689348814741910323 ≤ a / 2 ^ 2 := Nat.and_le_left
 have k4 : a &&& 3689348814741910323 ≤ a := Nat.and_le_left
 obtain ⟨b, hb⟩ : ∃ b, pop2 a = b := ⟨_, rfl⟩
 have kb : b ≤ 4096 := by rw [← hb]; unfold pop2; omega
 have k5 : (b / 2 ^ 4 + b) &&& 1085102592571150095 ≤ b / 2 ^ 4 + b := Nat.and_le_left
 obtain ⟨c, hc⟩ : ∃ c, pop3 b = c := ⟨_, rfl⟩
 have kc : c ≤ 8192 := by rw [← hc]; unfold pop3; omega
 obtain ⟨d, hd⟩ : ∃ d, pop4 8 c = d := ⟨_, rfl⟩
 have kd : d ≤ 16384 := by rw [← hd]; unfold pop4; omega
 obtain ⟨e, he⟩ : ∃ e, pop4 16 d = e := ⟨_, rfl⟩
 have ke : e ≤ 32768 := by rw [← he]; unfold pop4; omega
 obtain ⟨f, hf⟩ : ∃ f, pop4 32 e = f := ⟨_, rfl⟩
 have kf : f ≤ 65536 := by rw [← hf]; unfold pop4; omega
 rw [ha, hb, hc, hd, he, hf] at hp
 have e0 : Ext h h := Ext.refl _
 refine Runs.intro aFunc96 rfl rfl rfl rfl fun rest => ?_;apply gS;refine gR rfl ?_;refine gP ?_;apply gE;apply gS;refine gR rfl ?_;refine gP ?_;refine gO rfl rfl (aOp_shrU rfl rfl (by decide) rfl) rfl ?_;refine gO rfl rfl (aOp_andU (a := n / 2 ^ 1) rfl rfl (by omega) (by decide) rfl) rfl ?_;refine gP ?_;refine gO rfl rfl (aOp_andU (a := n) rfl rfl (by omega) (by decide) rfl) rfl ?_;refine gO rfl rfl (aOp_addU (a := n / 2 ^ 1 &&& 6148914691236517205) (b := n &&& 6148914691236517205) rfl rfl (by omega) ha) rfl ?_;refine gP ?_;apply gE;apply gS;refine gR rfl ?_;refine gP ?_;refine gO rfl rfl (aOp_shrU rfl rfl (by decide) rfl) rfl ?_;refine gO rfl rfl (aOp_andU (a := a / 2 ^ 2) rfl rfl (by omega) (by decide) rfl) rfl ?_;refine gP ?_;refine gO rfl rfl (aOp_andU (a := a) rfl rfl (by omega) (by decide) rfl) rfl ?_;refine gO rfl rfl (aOp_addU (a := a / 2 ^ 2 &&& 3689348814741910323) (b := a &&& 3689348814741910323) rfl rfl (by omega) hb) rfl ?_;refine gP ?_;apply gE;apply gS;refine gR rfl ?_;refine gP ?_;refine gO rfl rfl (aOp_shrU rfl rfl (by decide) rfl) rfl ?_;refine gP ?_;refine gO rfl rfl (aOp_addU (a := b / 2 ^ 4) (b := b) rfl rfl (by omega) rfl) rfl ?_;refine gO rfl rfl (aOp_andU (a := b / 2 ^ 4 + b) rfl rfl (by omega) (by decide) hc) rfl ?_;refine gP ?_;apply gE;apply gS;refine gR rfl ?_;iterate 2 refine gP ?_
 refine gO rfl rfl (aOp_shrU rfl rfl (by decide) rfl) rfl ?_;refine gO rfl rfl (aOp_addU (a := c) (b := c / 2 ^ 8) rfl rfl (by omega) hd) rfl ?_;refine gP ?_;apply gE;apply gS;refine gR rfl ?_;iterate 2 refine gP ?_
 refine gO rfl rfl (aOp_shrU rfl rfl (by decide) rfl) rfl ?_;refine gO rfl rfl (aOp_addU (a := d) (b := d / 2 ^ 16) rfl rfl (by omega) he) rfl ?_;refine gP ?_;apply gE;apply gS;refine gR rfl ?_;iterate 2 refine gP ?_
 refine gO rfl rfl (aOp_shrU rfl rfl (by decide) rfl) rfl ?_;refine gO rfl rfl (aOp_addU (a := e) (b := e / 2 ^ 32) rfl rfl (by omega) hf) rfl ?_;refine gP ?_;apply gE;apply gS;refine gR rfl ?_;refine gP ?_;refine gO rfl rfl (aOp_convUI (w := f) rfl Try.underlying132 Try.underlying3 (by omega)) rfl ?_;refine gO rfl rfl (aOp_andNat (a := f) rfl rfl (by omega) (by decide) hp) rfl ?_;refine gP ?_;apply gE;exact gW Try.func96 rfl rfl ⟨rfl, e0⟩
theorem ones81_ok {n : Nat} (hn : n < 1024) {h : AH} : Runs Try.prog 81 [.int .u64 (n : Nat)] h (fun en h' => en = .ret (.int .i64 (popc n : Nat)) ∧ Ext h h') := by
 have e0 : Ext h h := Ext.refl _
 refine Runs.intro aFunc81 rfl rfl rfl rfl fun rest => ?_;apply gS;refine gR rfl ?_;refine gP ?_;apply gE;apply gS;refine gC (b := false) rfl ?_;refine gD ?_;apply gS;refine gR rfl ?_;refine gP ?_;refine GoR.call rfl rfl (aCF aFunc96 rfl) (ones96_ok hn) ?_ np;rintro v0 h0 ⟨q, x0⟩;cases q;refine ⟨_, rfl, ?_⟩;replace e0 := e0.trans x0;refine gP ?_;apply gE;exact gW Try.func81 rfl rfl ⟨rfl, e0⟩
def subB (m k : Nat) : List Nat := (List.range k).filter fun s => decide (popc s = m)
def subA (n m : Nat) : List Nat := (List.range m).flatMap fun j => subB j (2 ^ n)
def subs (n : Nat) : List Nat := subA n (n + 1)
theorem subB_succ (m k : Nat) : subB m (k + 1) = subB m k ++ (if popc k = m then [k] else []) := by
 unfold subB
 rw [List.range_succ, List.filter_append]
 congr 1
 by_cases q : popc k = m
 ·rw [if_pos q, List.filter_cons_of_pos (by simpa using q)]; rfl
 ·rw [if_neg q, List.filter_cons_of_neg (by simpa using q)]; rfl
theorem subA_succ (n m : Nat) : subA n (m + 1) = subA n m ++ subB m (2 ^ n) := by
 unfold subA
 rw [List.range_succ, List.flatMap_append, List.flatMap_cons, List.flatMap_nil, List.append_nil]
theorem popc_le (n : Nat) : popc n ≤ 10 := by
 unfold popc
 have := List.length_filter_le (fun i => n.testBit i) (List.range 10)
 rw [List.length_range] at this;exact this
def natsV (l : List Nat) : List AVal := l.map fun s => .int .i64 (s : Nat)
theorem subB_len (m k : Nat) : (subB m k).length ≤ k := by
 unfold subB
 have := List.length_filter_le (fun s => decide (popc s = m)) (List.range k)
 rw [List.length_range] at this;exact this
theorem subA_len (n m : Nat) : (subA n m).length ≤ m * 2 ^ n := by
 induction m with
 | zero => simp [subA]
 | succ m ih =>
  rw [subA_succ, List.length_append, Nat.add_mul, Nat.one_mul]
  have := subB_len m (2 ^ n)
  omega
theorem subsets_ok {n : Nat} (hn : n ≤ 7) {h : AH} : Runs Try.prog 78 [.int .i64 (n : Nat)] h (fun en h' => ∃ s, en = .ret s ∧ Ext h h' ∧ Grow h' 3 1 h.next s (subs n).length (natsV (subs n))) := by
 have hw : 2 ^ n ≤ 128 := Nat.pow_le_pow_right (n := 2) (by omega) (show n ≤ 7 by omega)
 obtain ⟨w, hww⟩ : ∃ w, 2 ^ n = w := ⟨_, rfl⟩
 have hsh : (1 : Int) * 2 ^ n = ((w : Nat) : Int) := by rw [← hww]; simp
 rw [hww] at hw
 have hAl : ∀ m, m ≤ n + 1 → (subA n m).length ≤ 1100 := fun m hm => by
  have := subA_len n m
  rw [hww] at this
  have h2 : m * w ≤ 8 * 128 := Nat.mul_le_mul (by omega) hw
  omega
 have e0 : Ext h h := Ext.refl _
 refine Runs.intro aFunc78 rfl rfl rfl rfl fun rest => ?_;apply gS;refine gR rfl ?_;refine gP ?_;apply gE;apply gS;refine gR rfl ?_;refine gP ?_;apply gE;iterate 2 apply gS
 refine gR rfl ?_;refine gP ?_;refine gO rfl rfl (aA rfl rfl) rfl ?_;refine gP ?_;apply gE;refine Go.block noJ_ok ?_
 refine Go.loopKeep (fun a : Nat × AVal => [(0, .int .i64 (n : Nat)), (3, a.2), (7, .int .i64 ((n : Int) + 1)), (8, .int .i64 (a.1 : Nat))])
  (fun m a h' => m + a.1 = n + 1 ∧ Ext h h' ∧ Grow h' 3 1 h.next a.2 (subA n a.1).length (natsV (subA n a.1))) (n := n + 1) (0, .nilslice) ⟨rfl, rfl, rfl, rfl, trivial⟩ ⟨rfl, e0, Grow.nil _ _ _ _⟩ ?_
 clear e0;rintro m ⟨i, sl⟩ h20 ⟨hm, e0, G⟩ again
 dsimp only at hm G ⊢
 by_cases hi : i < n + 1
 ·have hA0 := hAl i (by omega)
  have hs0 := subA_succ n i
  rw [hww] at hs0;apply gS;refine gR rfl ?_;refine gO rfl rfl (kLT rfl rfl) rfl ?_;apply gE;apply gS;refine gC (b := true) rfl ?_;refine gD ?_;apply gS;refine Go.block noJ_ok ?_;apply gS;refine gR rfl ?_;iterate 2 refine gP ?_
  apply gE;apply gS;refine gR rfl ?_;refine gP ?_;refine gO rfl rfl (aOp_shl rfl rfl (i := n) (by omega) hsh (by omega)) rfl ?_;refine gP ?_;apply gE;refine Go.block noJ_ok ?_
  refine Go.loopKeep (fun a : Nat × AVal => [(0, .int .i64 (n : Nat)), (3, a.2), (4, .int .i64 (i : Nat)), (7, .int .i64 ((n : Int) + 1)), (8, .int .i64 (i : Nat)), (12, .int .i64 (w : Nat)), (13, .int .i64 (a.1 : Nat))])
   (fun q a h' => q + a.1 = w ∧ Ext h h' ∧ Grow h' 3 1 h.next a.2 (subA n i ++ subB i a.1).length (natsV (subA n i ++ subB i a.1))) (n := w) (0, sl) ⟨rfl, rfl, rfl, rfl, rfl, rfl, rfl, trivial⟩ ⟨by simp, e0, by simpa [subB] using G⟩ ?_
  clear e0 G;rintro q ⟨k, s2⟩ h30 ⟨hq, e0, G⟩ again2
  dsimp only at hq G ⊢
  by_cases hk : k < w
  ·have hsb := subB_succ i k
   have hbl := subB_len i k
   have hpk := popc_le k
   have hk10 : k < 1024 := by omega
   have hlen : (subA n i ++ subB i k).length ≤ 1300 := by rw [List.length_append]; omega
   have e9 : Ext h30 h30 := Ext.refl _
   by_cases c2 : popc k = i
   ·rw [if_pos c2] at hsb
    have hnx : subA n i ++ subB i (k + 1) = (subA n i ++ subB i k) ++ [k] := by rw [hsb, List.append_assoc]
    have d2 : decide (((popc k : Nat) : Int) = (i : Nat)) = true := decide_eq_true (by omega)
    apply gS;refine gR rfl ?_;refine gO rfl rfl (kLT rfl rfl) rfl ?_;apply gE;apply gS;refine gC (b := true) rfl ?_;refine gD ?_;apply gS;refine Go.block noJ_ok ?_;apply gS;refine gR rfl ?_;iterate 2 refine gP ?_
    apply gE;apply gS;refine gR rfl ?_;refine gP ?_;refine gO rfl rfl (aOp_convU64 rfl Try.underlying3 Try.underlying114 (by omega)) rfl ?_;refine GoR.call rfl rfl (aCF aFunc81 rfl) (ones81_ok hk10) ?_ np;rintro v31 h31 ⟨q, x31⟩;cases q;refine ⟨_, rfl, ?_⟩;replace e0 := e0.trans x31;replace e9 := e9.trans x31;refine gP ?_;refine gO rfl rfl (aOp_eql rfl rfl d2) rfl ?_;apply gE;refine gC (b := true) rfl ?_;refine gR rfl ?_;iterate 2 refine gP ?_
    refine GoR.buildSl rfl rfl (ps := [(0, .int .i64 (k : Nat))]) (cs := [.int .i64 (k : Nat)]) Try.underlying47 rfl sz3 zt3 rfl rfl rfl rfl fun h32 x32 f32 => ?_;have := e0.1;have := e9.1;replace e0 := e0.trans x32;replace e9 := e9.trans x32;have := f32.1;refine GoR.append1F rfl rfl rfl Try.underlying47 Try.underlying47 sz3 by3 zt3 rfl rfl rfl rfl f32 rfl rfl (G.ext e9) (by omega) rfl rfl fun s33 h33 y33 g33 => ?_;have := f32.1;have := e0.1;have := e9.1;clear f32;replace e0 := y33.low e0 (fun b q => by have := (grow_own (G.ext e9) q).1; omega);clear e9;have := y33.1;refine gP ?_;apply gE;refine Go.inBlock noJ_ok ?_;refine gR rfl ?_;refine gO rfl rfl (aA rfl rfl) rfl ?_;refine gP ?_;apply gE
    have hh0 := e0.1
    refine again2 (q - 1) (k + 1, s33) _ _ (by omega) ⟨rfl, rfl, rfl, rfl, rfl, rfl, rfl, trivial⟩ ⟨by dsimp only; omega, e0, ?_⟩
    dsimp only
    rw [hnx, List.length_append (bs := [k])]
    have hnv : natsV ((subA n i ++ subB i k) ++ [k]) = natsV (subA n i ++ subB i k) ++ [.int .i64 (k : Nat)] := by unfold natsV; rw [List.map_append]; rfl
    rw [hnv];exact g33.low (by omega)
   ·rw [if_neg c2, List.append_nil] at hsb
    have d2 : decide (((popc k : Nat) : Int) = (i : Nat)) = false := decide_eq_false (by omega)
    apply gS;refine gR rfl ?_;refine gO rfl rfl (kLT rfl rfl) rfl ?_;apply gE;apply gS;refine gC (b := true) rfl ?_;refine gD ?_;apply gS;refine Go.block noJ_ok ?_;apply gS;refine gR rfl ?_;iterate 2 refine gP ?_
    apply gE;apply gS;refine gR rfl ?_;refine gP ?_;refine gO rfl rfl (aOp_convU64 rfl Try.underlying3 Try.underlying114 (by omega)) rfl ?_;refine GoR.call rfl rfl (aCF aFunc81 rfl) (ones81_ok hk10) ?_ np;rintro v31 h31 ⟨q, x31⟩;cases q;refine ⟨_, rfl, ?_⟩;replace e0 := e0.trans x31;replace e9 := e9.trans x31;refine gP ?_;refine gO rfl rfl (aOp_eql rfl rfl d2) rfl ?_;apply gE;refine gC (b := false) rfl ?_;refine gD ?_;refine Go.inBlock noJ_ok ?_;refine gR rfl ?_;refine gO rfl rfl (aA rfl rfl) rfl ?_;refine gP ?_;apply gE;exact again2 (q - 1) (k + 1, s2) _ _ (by omega) ⟨rfl, rfl, rfl, rfl, rfl, rfl, rfl, trivial⟩ ⟨by dsimp only; omega, e0, by dsimp only; rw [hsb]; exact G.ext e9⟩
  ·have hkw : k = w := by omega
   subst hkw
   rw [← hs0] at G
   apply gS;refine gR rfl ?_;refine gO rfl rfl (kLF rfl rfl) rfl ?_;apply gE;apply gS;refine gC (b := false) rfl ?_;refine gD ?_;refine Go.inBlock noJ_ok ?_;refine gR rfl ?_;refine gO rfl rfl (aA rfl rfl) rfl ?_;refine gP ?_;apply gE;exact again (m - 1) (i + 1, s2) _ _ (by omega) ⟨rfl, rfl, rfl, rfl, trivial⟩ ⟨by dsimp only; omega, e0, G⟩
 ·have hin : i = n + 1 := by omega
  subst hin;apply gS;refine gR rfl ?_;refine gO rfl rfl (kLF rfl rfl) rfl ?_;apply gE;apply gS;refine gC (b := false) rfl ?_;refine gD ?_;apply gS;refine gR rfl ?_;iterate 2 refine gP ?_
  apply gE;exact gV (ret_end (aResult_of Try.func78 rfl rfl) ⟨sl, rfl, e0, G⟩)
theorem subs_nodup {n : Nat} (hn : n ≤ 7) : (subs n).Nodup ∧ (subs n).length ≤ 128 := by
 have h : ∀ n, n < 8 → (subs n).Nodup ∧ (subs n).length ≤ 128 := by decide +kernel
 exact h n (by omega)
theorem nats_slice {h : AH} {lo : Nat} {s : AVal} {l : List Nat} (g : Grow h 3 1 lo s l.length (natsV l)) : SliceOf h 1 s (l.map fun n => [.int .i64 (n : Nat)]) := by
 refine Grow.sliceOf (L := l.map fun n : Nat => [AVal.int .i64 (n : Nat)]) (by rw [List.length_map]; exact g) fun i v q => ?_
 have := slice_flatten (sz := 1) (L := l.map fun n : Nat => [AVal.int .i64 (n : Nat)]) (fun x hx => by obtain ⟨_, _, rfl⟩ := List.mem_map.1 hx; rfl) i v q
 have hf : (l.map fun n : Nat => [AVal.int .i64 (n : Nat)]).flatten = natsV l := by
  clear g q this
  induction l with
  | nil => rfl
  | cons e l ih => rw [List.map_cons, List.flatten_cons, ih]; rfl
 rwa [hf] at this
theorem find_take {L : List Nat} {p : Nat → Bool} {i x : Nat} (hx : L[i]? = some x) (hp : p x = true) (hn : ∀ y, y ∈ L.take i → p y = false) : L.find? p = some x := by
 have h1 := List.getElem?_eq_some_iff.1 hx
 rw [← List.take_append_drop i L, List.find?_append, List.find?_eq_none.2 (fun y hy => by rw [hn y hy]; decide), Option.none_or, List.drop_eq_getElem_cons h1.1, h1.2, List.find?_cons_of_pos hp]
theorem find_no {L : List Nat} {p : Nat → Bool} (hn : ∀ y, y ∈ L → p y = false) : L.find? p = none := List.find?_eq_none.2 fun y hy => by rw [hn y hy]; decide
theorem first_ok {L : List Nat} {sl : AVal} (hL : L.length ≤ 1000) {fid : FuncId} {fn : Func} (hfid : aFunc Try.prog fid = some fn) (caps : List AVal) (p : Nat → Bool) {h : AH} (S : SliceOf h 1 sl (L.map fun n => [.int .i64 (n : Nat)])) (hcs : scalars [.func (.func fid) [] caps] = true)
  (hc : ∀ x h', x ∈ L → Ext h h' → Runs Try.prog fid ([.int .i64 (x : Nat)] ++ caps) h' (fun en h'' => en = .ret (.bool (p x)) ∧ Ext h' h'')) :
  Runs Try.prog 77 [sl, .agg [.func (.func fid) [] caps]] h (fun en h' => en = .ret (.tuple [.int .i64 (((L.find? p).getD 0 : Nat) : Int), .bool (L.find? p).isSome]) ∧ Ext h h') := by
 have hlen := S.len
 rw [List.length_map] at hlen
 have e0 : Ext h h := Ext.refl _
 refine Runs.intro aFunc77 rfl rfl rfl rfl fun rest => ?_;apply gS;refine gR rfl ?_;refine GoR.box rfl rfl rfl rfl rfl rfl fun h0 x0 f0 => ?_;have := e0.1;replace e0 := e0.trans x0;have := f0.1;iterate 2 refine gP ?_
 apply gE;iterate 2 apply gS
 refine gR rfl ?_;refine gP ?_;refine gO rfl rfl (aOp_lenSlice Try.underlying47 rfl hlen) rfl ?_;refine gP ?_;apply gE;refine Go.block noJ_ok ?_
 refine Go.loopKeep (fun i : Nat => [(3, .ptr h.next 0), (4, .int .i64 0), (8, sl), (9, .int .i64 L.length), (10, .int .i64 (i : Nat))])
  (fun m i h' => m + i = L.length ∧ Ext h h' ∧ Has h' h.next (.cells .plain [.func (.func fid) [] caps] 112) ∧ ∀ x, x ∈ L.take i → p x = false) (n := L.length) 0 ⟨rfl, rfl, rfl, rfl, rfl, trivial⟩ ⟨rfl, e0, f0, (by intro x hx; simp at hx)⟩ ?_
 clear e0 f0;rintro m i h4 ⟨hm, e0, f0, hp⟩ again
 by_cases hi : i < L.length
 ·obtain ⟨x, hx⟩ : ∃ x, L[i]? = some x := ⟨L[i], by simp [hi]⟩
  obtain ⟨bq, off, q1, q2⟩ := S.at (i := i) (l := [.int .i64 (x : Nat)]) (by rw [List.getElem?_map, hx]; rfl)
  rw [List.length_map] at q1
  have hcx := fun h' e => hc x h' (List.mem_of_getElem? hx) e
  cases hpx : p x with
  | true =>
   rw [hpx] at hcx;rw [find_take hx hpx hp, Option.getD_some, Option.isSome_some];apply gS;refine gR rfl ?_;refine gO rfl rfl (kLT rfl rfl) rfl ?_;apply gE;apply gS;refine gC (b := true) rfl ?_;refine gD ?_;apply gS;refine Go.block noJ_ok ?_;apply gS;refine gR rfl ?_;refine gO rfl rfl (aOp_indexAddr (i := i) Try.underlying47 sz3 rfl q1 rfl (Nat.ble_eq_true_of_le (by omega))) rfl ?_;refine gO rfl rfl ((aOp_loadE1 (k := 0) ag3 rfl (q2.ext e0) rfl)) rfl ?_;refine gP ?_;apply gE;apply gS;refine gR rfl ?_;refine gO rfl rfl (fa112_0 rfl) rfl ?_;refine gO rfl rfl (ld64 rfl f0 rfl) rfl ?_;refine gP ?_;refine GoR.call rfl rfl (aOp_callVal rfl hfid rfl) (hcx _ e0) ?_ np;rintro v5 h5 ⟨q, x5⟩;cases q;refine ⟨_, rfl, ?_⟩;replace f0 := f0.ext x5;replace e0 := e0.trans x5;apply gE;refine gC (b := true) rfl ?_;apply gS;refine gR rfl ?_;iterate 3 refine gP ?_
   apply gE;exact gW Try.func77 rfl rfl ⟨rfl, e0⟩
  | false =>
   rw [hpx] at hcx;apply gS;refine gR rfl ?_;refine gO rfl rfl (kLT rfl rfl) rfl ?_;apply gE;apply gS;refine gC (b := true) rfl ?_;refine gD ?_;apply gS;refine Go.block noJ_ok ?_;apply gS;refine gR rfl ?_;refine gO rfl rfl (aOp_indexAddr (i := i) Try.underlying47 sz3 rfl q1 rfl (Nat.ble_eq_true_of_le (by omega))) rfl ?_;refine gO rfl rfl ((aOp_loadE1 (k := 0) ag3 rfl (q2.ext e0) rfl)) rfl ?_;refine gP ?_;apply gE;apply gS;refine gR rfl ?_;refine gO rfl rfl (fa112_0 rfl) rfl ?_;refine gO rfl rfl (ld64 rfl f0 rfl) rfl ?_;refine gP ?_;refine GoR.call rfl rfl (aOp_callVal rfl hfid rfl) (hcx _ e0) ?_ np;rintro v5 h5 ⟨q, x5⟩;cases q;refine ⟨_, rfl, ?_⟩;replace f0 := f0.ext x5;replace e0 := e0.trans x5;apply gE;refine gC (b := false) rfl ?_;refine gD ?_;refine Go.inBlock noJ_ok ?_;refine gR rfl ?_;refine gO rfl rfl (aA rfl rfl) rfl ?_;refine gP ?_;apply gE;exact again (m - 1) (i + 1) _ _ (by omega) ⟨rfl, rfl, rfl, rfl, rfl, trivial⟩ ⟨by omega, e0, f0, take_no hx hpx hp⟩
 ·rw [List.take_of_length_le (by omega)] at hp;rw [find_no hp];apply gS;refine gR rfl ?_;refine gO rfl rfl (kLF rfl rfl) rfl ?_;apply gE;apply gS;refine gC (b := false) rfl ?_;refine gD ?_;apply gS;refine gR rfl ?_;iterate 3 refine gP ?_
  apply gE;exact gW Try.func77 rfl rfl ⟨rfl, e0⟩
end Go.Proofs.Ytkhiagdmbajimaa

namespace Go.Proofs.Ytkhiagdmbajimaa
open Go Go.AbsE
set_option linter.unusedSimpArgs false
set_option maxRecDepth 100000
set_option maxHeartbeats 0
set_option linter.unusedVariables false
theorem truths_yes {D : DrainV} (O : D.Ok) (hT : D.truths ≠ []) {b d r s : AVal} {h : AH} (A : DrainAt h D b d r s) : Runs Try.prog 40 [.agg (dC b d r s)] h (fun en h' => ∃ (bm : Nat) (KT : KV), en = .ret (.map bm) ∧ KT.map (fun x => x.1) = D.truths ∧ Ext h h' ∧ h.next ≤ bm ∧ KnownAt D h' bm b KT ∧ Ext h' h') :=
 (truths_ok O A).mono fun en h' ⟨e, k⟩ => by
  rcases k with ⟨_, bm, KT, q, hK, hb, K⟩ | ⟨q, _⟩
  ·exact ⟨bm, KT, q, hK, e, hb, K, Ext.refl h'⟩
  ·exact absurd q hT
theorem truths_no {D : DrainV} (O : D.Ok) (hT : D.truths = []) {b d r s : AVal} {h : AH} (A : DrainAt h D b d r s) : Runs Try.prog 40 [.agg (dC b d r s)] h (fun en h' => en = .pan (refusal 10) ∧ Ext h h') :=
 (truths_ok O A).mono fun en h' ⟨e, k⟩ => by
  rcases k with ⟨q, _⟩ | ⟨_, q⟩
  ·exact absurd hT q
  ·exact ⟨q, e⟩
def clashV (D : DrainV) : Option Nat := (subs D.ss.length).find? fun st => (D.learn st).isEmpty
theorem learnE_ok {D : DrainV} (O : D.Ok) {b d r s : AVal} {st bb : Nat} {h : AH} (A : DrainAt h D b d r s) (f8 : Has h bb (.cells .plain [b, d, r, s] 71)) :
  Runs Try.prog 82 [.int .i64 (st : Nat), .ptr bb 0] h (fun en h' => en = .ret (.bool (D.learn st).isEmpty) ∧ Ext h h') := by
 have hsm := A.same
 have hln := fun h A => learn_e O (b := b) (d := d) (r := r) (s := s) (st := st) (h := h) A
 obtain ⟨T, hT⟩ : ∃ T, D.learn st = T := ⟨_, rfl⟩
 rw [hT] at hln ⊢
 have hKl : ∀ {KT : KV}, KT.map (fun x => x.1) = T → (esN (KT.map (entK D.bs.length b))).length = T.length := fun {KT} k => by rw [esN_len, List.length_map, ← k, List.length_map]
 have hd : decide ((T.length : Int) = 0) = T.isEmpty := by cases T <;> simp; omega
 unfold dC at *
 have e0 : Ext h h := Ext.refl _
 refine Runs.intro aFunc82 rfl rfl rfl rfl fun rest => ?_;apply gS;refine gR rfl ?_;refine gP ?_;apply gE;apply gS;refine gR rfl ?_;refine gO rfl rfl (ld71 rfl f8 rfl) rfl ?_;refine gP ?_;refine GoR.call rfl rfl (aCF aFunc70 rfl) (hln _ (A.ext e0)) ?_ (by rintro _ _ ⟨bm, KT, q, hKT, _, hbm, KK, e7⟩; cases q);rintro v9 h9 ⟨bm, KT, q, hKT, x9, hbm, KK, e7⟩;cases q;refine ⟨_, rfl, ?_⟩;replace e0 := e0.trans x9;refine gO rfl rfl (aOp_lenMap Try.underlying74 rfl (KK.ext e7).m (hKl hKT)) rfl ?_;refine gO rfl rfl (aOp_eql rfl rfl hd) rfl ?_;refine gP ?_;apply gE;exact gW Try.func82 rfl rfl ⟨rfl, e0⟩
theorem clashB_ok {D : DrainV} (O : D.Ok) {b d r s : AVal} {h : AH} (A : DrainAt h D b d r s) : Runs Try.prog 60 [.agg (dC b d r s)] h (fun en h' => en = (match clashV D with | some st => .ret (.int .i64 ((st : Nat) : Int)) | none => .pan (refusal 4)) ∧ Ext h h') := by
 have hsm := A.same
 have hns := O.ns
 have hl4 := A.ss.len
 rw [List.length_map] at hl4
 have hsu := fun h => subsets_ok (n := D.ss.length) (by omega) (h := h)
 have hsl := (subs_nodup (n := D.ss.length) (by omega)).2
 have hfi := fun {h' : AH} {sl : AVal} {bb : Nat} (e : Ext h h') (f : Has h' bb (.cells .plain [b, d, r, s] 71)) {lo : Nat} (G : Grow h' 3 1 lo sl (subs D.ss.length).length (natsV (subs D.ss.length))) => first_ok (L := subs D.ss.length) (sl := sl) (h := h') (by omega) aFunc82 [.ptr bb 0] (fun st => (D.learn st).isEmpty) (nats_slice G) rfl fun x h'' hx e' => learnE_ok O ((A.ext e).ext e') (f.ext e')
 unfold dC at *
 cases q : clashV D with
 | none =>
  rw [show (subs D.ss.length).find? (fun st => (D.learn st).isEmpty) = none from q] at hfi
  simp only [Option.getD_none, Option.isSome_none] at hfi
  dsimp only
  have e0 : Ext h h := Ext.refl _
  refine Runs.intro aFunc60 rfl rfl rfl rfl fun rest => ?_;apply gS;refine gR rfl ?_;refine GoR.box rfl rfl rfl rfl rfl rfl fun h0 x0 f0 => ?_;replace e0 := e0.trans x0;refine gP ?_;apply gE;apply gS;refine gR rfl ?_;refine gO rfl rfl (fa71_3 rfl) rfl ?_;refine gO rfl rfl (ld26 rfl f0 rfl) rfl ?_;refine gO rfl rfl (aOp_lenSlice Try.underlying26 rfl hl4) rfl ?_;refine GoR.call rfl rfl (aCF aFunc78 rfl) (hsu _) ?_ (by rintro _ _ ⟨sl, q, _, G⟩; cases q);rintro v1 h1 ⟨sl, q, x1, G⟩;cases q;refine ⟨_, rfl, ?_⟩;replace f0 := f0.ext x1;replace e0 := e0.trans x1;refine gP ?_;refine gO rfl rfl (aOp_build zt112 hu112 pl112 rfl rfl) rfl ?_;refine GoR.call rfl rfl (aCF aFunc77 rfl) (hfi e0 (by assumption) G) ?_ np;rintro v2 h2 ⟨q, x2⟩;cases q;refine ⟨_, rfl, ?_⟩;replace f0 := f0.ext x2;replace e0 := e0.trans x2;iterate 5 refine gP ?_
  apply gE;apply gS;refine gR rfl ?_;iterate 2 refine gP ?_
  refine GoR.callP rfl rfl (aCF aFunc67 rfl) (refuse_yes _ _) (by rintro _ _ ⟨q, _⟩; cases q) ?_;rintro chain h3 ⟨q, x3⟩
  have q := AEnd.pan.inj q
  subst q;replace f0 := f0.ext x3;replace e0 := e0.trans x3;exact FLeft.pan (⟨rfl, e0⟩)
 | some st =>
  rw [show (subs D.ss.length).find? (fun st => (D.learn st).isEmpty) = some st from q] at hfi
  simp only [Option.getD_some, Option.isSome_some] at hfi
  dsimp only
  have e0 : Ext h h := Ext.refl _
  refine Runs.intro aFunc60 rfl rfl rfl rfl fun rest => ?_;apply gS;refine gR rfl ?_;refine GoR.box rfl rfl rfl rfl rfl rfl fun h0 x0 f0 => ?_;replace e0 := e0.trans x0;refine gP ?_;apply gE;apply gS;refine gR rfl ?_;refine gO rfl rfl (fa71_3 rfl) rfl ?_;refine gO rfl rfl (ld26 rfl f0 rfl) rfl ?_;refine gO rfl rfl (aOp_lenSlice Try.underlying26 rfl hl4) rfl ?_;refine GoR.call rfl rfl (aCF aFunc78 rfl) (hsu _) ?_ (by rintro _ _ ⟨sl, q, _, G⟩; cases q);rintro v1 h1 ⟨sl, q, x1, G⟩;cases q;refine ⟨_, rfl, ?_⟩;replace f0 := f0.ext x1;replace e0 := e0.trans x1;refine gP ?_;refine gO rfl rfl (aOp_build zt112 hu112 pl112 rfl rfl) rfl ?_;refine GoR.call rfl rfl (aCF aFunc77 rfl) (hfi e0 (by assumption) G) ?_ np;rintro v2 h2 ⟨q, x2⟩;cases q;refine ⟨_, rfl, ?_⟩;replace e0 := e0.trans x2;iterate 5 refine gP ?_
  apply gE;apply gS;refine gR rfl ?_;iterate 2 refine gP ?_
  refine GoR.call rfl rfl (aCF aFunc67 rfl) (refuse_no _ _) ?_ np;rintro v3 h3 ⟨q, x3⟩;cases q;refine ⟨_, rfl, ?_⟩;replace e0 := e0.trans x3;apply gE;apply gS;refine gR rfl ?_;iterate 2 refine gP ?_
  apply gE;exact gW Try.func60 rfl rfl ⟨rfl, e0⟩
theorem keepsR_ok {D : DrainV} (O : D.Ok) {b d r s : AVal} {st bb bk bm : Nat} {KT : KV} {h : AH} (A : DrainAt h D b d r s) (hK : KT.map (fun x => x.1) = D.truths) (K : KnownAt D h bm b KT) (f8 : Has h bb (.cells .plain [b, d, r, s] 71)) (f9 : Has h bk (.cells .plain [.map bm] 74)) :
  Runs Try.prog 79 [.int .i64 (st : Nat), .ptr bb 0, .ptr bk 0] h (fun en h' => en = .ret (.bool (decide (D.keeps D.truths (D.course st) = 2))) ∧ Ext h h') := by
 have hsm := A.same
 have hds := A.ds.scal
 have hdg := fun h A => dugOf_ok (D := D) (b := b) (d := d) (r := r) (s := s) (h := h) A
 have hkp := fun h' e => keeps_ok O (iv := restI d st) (h := h') (A.ext e) ((rest_join (s := st) A.ds (by have := O.nd; omega)).ext e) hK (K.ext e)
 have hJ : (fun l => crsJ (fun a c => (openV st 0 D.ds).any fun w => joinsV w a c) D.bs.length l) = D.course st := rfl
 have hT : D.learn D.all = D.truths := rfl
 obtain ⟨v, hv⟩ : ∃ v, D.keeps D.truths (D.course st) = v := ⟨_, rfl⟩
 unfold dC restI at *
 have e0 : Ext h h := Ext.refl _
 refine Runs.intro aFunc79 rfl rfl rfl rfl fun rest => ?_;apply gS;refine gR rfl ?_;refine gP ?_;apply gE;apply gS;refine Go.drawnE plan79_0 ?_;refine gQ rfl rfl (ld71 rfl f8 rfl) rfl ?_;refine gQ rfl rfl (ld74 rfl f9 rfl) rfl ?_;refine gQ rfl rfl (ld71 rfl f8 rfl) rfl ?_;refine gQ rfl rfl rfl rfl ?_;refine GoE.call rfl rfl (aCF aFunc80 rfl) (hdg _ (A.ext e0)) (dK 4 4 (dD 4 2 (dK 4 1 (dK 4 0 rfl)))) ?_ np;rintro v10 h10 ⟨q, x10⟩;cases q;replace f8 := f8.ext x10;replace f9 := f9.ext x10;replace e0 := e0.trans x10;refine ⟨(rck (h2 := h10) rfl (rfl) (rck (h2 := h10) rfl (ld74 rfl f9 rfl) (rck (h2 := h10) rfl (ld71 rfl f8 rfl) recheck_nil))), _, rfl, ?_⟩;refine gQ rfl rfl (aOp_build zt110 hu110 pl110 rfl rfl) rfl ?_;refine gQ rfl rfl rfl rfl ?_;refine GoE.call rfl rfl (aCF aFunc76 rfl) (hkp _ e0) (dD 127 6 (dD 127 5 (dD 127 4 (dD 127 1 (dD 127 0 rfl))))) ?_ np;rintro v11 h11 ⟨q, x11⟩;cases q;replace e0 := e0.trans x11;refine ⟨recheck_nil, _, rfl, ?_⟩;refine gQ rfl rfl (aOp_eql rfl rfl rfl) rfl ?_;refine gQ rfl rfl rfl rfl ?_;refine GoE.end rfl ?_;exact gW Try.func79 rfl rfl ⟨rfl, e0⟩
end Go.Proofs.Ytkhiagdmbajimaa

set_option linter.unusedSimpArgs false
namespace Go.AbsE
open Go
section
variable {P : Program} {t : Tr AVal} {h : AH} {dst : Option Tmp} {ty tt : TypeId} {pos : String} {after : Array Edge} {guard : Option (Nat × Bool)} {x y : Operand}
variable {c : FC} {k : List AItem} {Q : AM → Prop} {J : Jump} {all : Array Oper} {l lrest : List Oper} {i d : Nat}
end
end Go.AbsE
