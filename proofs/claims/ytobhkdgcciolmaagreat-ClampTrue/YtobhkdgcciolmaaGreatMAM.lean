import Derived.Test.YtobhkdgcciolmaaGreatMAL
import Derived.Test.YtobhkdgcciolmaaGreatMAJ
import Derived.Test.YtobhkdgcciolmaaGreatMAI
import Derived.Test.YtobhkdgcciolmaaGreatMAG
import Derived.Test.YtobhkdgcciolmaaGreatMAK
namespace Go.Proofs.YtobhkdgcciolmaaGreat
open Go Go.AbsE
set_option linter.unusedSimpArgs false
set_option maxRecDepth 100000
set_option maxHeartbeats 0
set_option linter.unusedVariables false
theorem from_cons (C : ClampV) (k : Int) (i : Nat) (p : PV) (ps : List PV) : C.from k i (p :: ps) = p.sizes.flatMap fun f => if hasB (C.canI i) (f * k) = true then (C.from k (i + 1) ps).map (f :: ·) else [] := rfl
def buildI (C : ClampV) (k : Int) (pre : List Int) (ps : List PV) : List (List AVal) := (C.from k pre.length ps).map fun l => [.agg (builtC (pre ++ l, k))]
def subI (C : ClampV) (k : Int) (pre : List Int) (ps : List PV) (f : Int) : List (List AVal) := if hasB (C.canI pre.length) (f * k) = true then buildI C k (pre ++ [f]) ps else []
theorem buildI_cons (C : ClampV) (k : Int) (pre : List Int) (p : PV) (ps : List PV) : buildI C k pre (p :: ps) = p.sizes.flatMap (subI C k pre ps) := by
 unfold buildI
 rw [from_cons, List.map_flatMap]
 congr 1
 funext f
 unfold subI
 split
 ·unfold buildI
  rw [List.map_map, List.length_append, List.length_singleton];apply List.map_congr_left
  intro l _
  simp
 ·rfl
def cntF {α β : Type} (g : α → List β) (L : List α) (j : Nat) : Nat := ((L.take j).flatMap g).length
theorem cntF_succ {α β : Type} {g : α → List β} {L : List α} {j : Nat} {x : α} (h : L[j]? = some x) : cntF g L (j + 1) = cntF g L j + (g x).length := by
 unfold cntF
 rw [List.take_add_one, h, Option.toList_some, List.flatMap_append, List.length_append]
 simp
theorem cntF_at {α β : Type} {g : α → List β} {L : List α} {j n : Nat} {x : α} {v : β} (h : L[j]? = some x) (hv : (g x)[n]? = some v) : (L.flatMap g)[cntF g L j + n]? = some v := by
 have e : L.flatMap g = (L.take j).flatMap g ++ (g x ++ (L.drop (j + 1)).flatMap g) := by
  have : L = L.take j ++ x :: L.drop (j + 1) := by rw [← drop_cons h, List.take_append_drop]
  conv => lhs; rw [this, List.flatMap_append, List.flatMap_cons]
 have hn := (List.getElem?_eq_some_iff.1 hv).1
 unfold cntF
 rw [e, List.getElem?_append_right (by omega), Nat.add_sub_cancel_left, List.getElem?_append_left hn];exact hv
theorem cntF_lt {α β : Type} {g : α → List β} {L : List α} {j n : Nat} {x : α} (h : L[j]? = some x) (hn : n < (g x).length) : cntF g L j + n < (L.flatMap g).length := (List.getElem?_eq_some_iff.1 (cntF_at h (List.getElem?_eq_getElem hn))).1
theorem cntF_all {α β : Type} (g : α → List β) (L : List α) : cntF g L L.length = (L.flatMap g).length := by unfold cntF; rw [List.take_length]
theorem padB_put {pre w : List Int} (hp : pre.length < 4) (hw : w = pre ∨ ∃ f, w = pre ++ [f]) (v : Int) : (padB w).set pre.length v = padB (pre ++ [v]) := by
 unfold padB
 rcases hw with rfl | ⟨f, rfl⟩
 ·rw [List.set_append_right _ _ (Nat.le_refl _), Nat.sub_self, List.append_assoc, show 4 - w.length = (4 - (w ++ [v]).length) + 1 by simp; omega, List.replicate_succ]
  simp
 ·rw [List.set_append_left _ _ (by simp), List.set_append_right _ _ (Nat.le_refl _), Nat.sub_self]
  simp
theorem builtC_put {pre w : List Int} (hp : pre.length < 4) (hw : w = pre ∨ ∃ f, w = pre ++ [f]) (k v : Int) : splice (builtC (w, k)) (0 + 0 + pre.length * 1) (AVal.int .i64 v).cells = some (builtC (pre ++ [v], k)) := by
 have hwl : w.length ≤ 4 := by
  rcases hw with rfl | ⟨f, rfl⟩
  ·omega
  ·rw [List.length_append, List.length_singleton]; omega
 have hl := builtC_len (b := (w, k)) hwl
 have hp' := padB_len hwl
 show splice _ _ [_] = _
 rw [splice_at (by rw [hl]; omega)]
 congr 1
 unfold builtC i64s
 dsimp only
 rw [show 0 + 0 + pre.length * 1 = pre.length by omega, ← List.map_set, List.set_append_left _ _ (by omega), padB_put hp hw]
structure BuildA (C : ClampV) (gp ge : AVal) (by' bk bc bu : Nat) (y : AVal) (h : AH) : Prop where
 f : Has h by' (.cells .plain (C.cells gp ge) 74)
 y : Has h bk (.cells .plain [y] 141)
 c : Has h bc (.cells .plain (cellsG C.canG) 116)
 u : Has h bu (.cells .plain [.func (.func 121) [] [.ptr by' 0, .ptr bk 0, .ptr bc 0, .ptr bu 0]] 142)
 A : YardAt h C gp ge
theorem build_ok {C : ClampV} (O : C.Ok) (gp ge : AVal) (by' bk bc bu : Nat) (y : AVal) (base : Nat) (k : Int) (hk : 1 ≤ k ∧ k ≤ 5) : ∀ (ps : List PV) (pre : List Int) (J E : Nat → AH → (Nat → Prop) → Prop) (h : AH) (F : Nat → Prop),
  C.ps.drop pre.length = ps → pre.length ≤ C.ps.length → (∀ i, 0 ≤ pre.getD i 0 ∧ pre.getD i 0 ≤ 1000) → (∀ h', ExtF F h h' → BuildA C gp ge by' bk bc bu y h') → base ≤ h.next → TakesN Tryz.prog base y (buildI C k pre ps) J E → J 0 h F →
  Runs Tryz.prog 121 [.agg (builtC (pre, k)), .int .i64 pre.length, .ptr by' 0, .ptr bk 0, .ptr bc 0, .ptr bu 0] h (fun en h' => ExtF F h h' ∧ ∃ F', (∀ b, F' b → F b ∨ h.next ≤ b) ∧ ((en = .ret (.bool true) ∧ J (buildI C k pre ps).length h' F') ∨ (en = .ret (.bool false) ∧ ∃ n, n < (buildI C k pre ps).length ∧ E n h' F')))
 | [], pre, J, E, h, F, hd, hle, hpre, hA, hb, T, j0 => by
  have hpl : pre.length = C.ps.length := by
   have := congrArg List.length hd
   simp at this
   omega
  have hnp := O.np
  obtain ⟨f0, f1, f2, f3, ga⟩ := hA h (ExtF.of (Ext.refl _))
  have hlen := ga.psl.len
  rw [List.length_map] at hlen
  have e0 : Ext h h := Ext.refl _
  have ka := builtC_len (b := (pre, k)) (by dsimp only; omega)
  have kb := builtC_same (pre, k)
  have kd : (buildI C k pre []).length = 1 := by simp [buildI, ClampV.from]
  have hit : (buildI C k pre [])[0]? = some [.agg (builtC (pre, k))] := by simp [buildI, ClampV.from]
  obtain ⟨cb, hcb⟩ : ∃ cb, builtC (pre, k) = cb := ⟨_, rfl⟩
  rw [hcb] at hit ka kb ⊢;rw [hpl]
  have hsl := slice_all ka
  refine Runs.intro aFunc121 rfl rfl rfl rfl fun rest => ?_;apply gS;refine gR rfl ?_;refine GoR.box rfl rfl rfl rfl rfl rfl fun h4 x4 f4 => ?_;have := e0.1;have := f0.1;have := f1.1;have := f2.1;have := f3.1;replace f0 := f0.ext x4;replace f1 := f1.ext x4;replace f2 := f2.ext x4;replace f3 := f3.ext x4;replace e0 := e0.trans x4;have := f4.1;refine GoR.box rfl rfl rfl rfl rfl rfl fun h5 x5 f5 => ?_;have := e0.1;have := f4.1;have := f0.1;have := f1.1;have := f2.1;have := f3.1;replace f4 := f4.ext x5;replace f0 := f0.ext x5;replace f1 := f1.ext x5;replace f2 := f2.ext x5;replace f3 := f3.ext x5;replace e0 := e0.trans x5;have := f5.1;refine GoR.alloc rfl rfl rfl zt4 rfl rfl fun h6 x6 f6 => ?_;have := e0.1;have := f5.1;have := f4.1;have := f0.1;have := f1.1;have := f2.1;have := f3.1;replace f5 := f5.ext x6;replace f4 := f4.ext x6;replace f0 := f0.ext x6;replace f1 := f1.ext x6;replace f2 := f2.ext x6;replace f3 := f3.ext x6;replace e0 := e0.trans x6;have := f6.1;apply gE;iterate 2 apply gS
  refine gR rfl ?_;refine gO rfl rfl (ld3 rfl f5 rfl) rfl ?_;refine gO rfl rfl (fa74_0 rfl) rfl ?_;refine gO rfl rfl (ld22 rfl f0 rfl) rfl ?_;refine gO rfl rfl (aOp_lenSlice Tryz.underlying22 rfl hlen) rfl ?_;refine gO rfl rfl (kET rfl rfl) rfl ?_;apply gE;refine gC (b := true) rfl ?_;apply gS;refine gR rfl ?_;refine gO rfl rfl (ld141 rfl f1 rfl) rfl ?_;refine gO rfl rfl (ld114 rfl (by assumption) hsl) rfl ?_
  obtain ⟨ax, a1, a2, a3⟩ := T.take hit (T.ext j0 e0)
  have hx3 := e0.1
  have hSl : ∀ b, F b → b < h.next := fun b q => T.ltJ j0 q
  have hb6 := f6.1
  have hbl : h.next < h5.next := by omega
  refine GoR.does rfl rfl (aOp_callY rfl rfl a1) a2 a3 ?_ (by rintro _ _ ⟨_, _, _, ⟨q, _⟩ | ⟨q, _⟩⟩ <;> cases q);rintro v h8 ⟨x8, F', hF', q8⟩
  have hx8 := x8.1
  replace f6 := f6.extF x8 (fun q => by have := hSl _ q; omega)
  have y0 : ExtF F h h8 := (ExtF.of e0).trans (fun _ q => .inl q) x8
  have hbF : ¬ F' h5.next := fun q => (hF' _ q).elim (fun q => by have := hSl _ q; omega) fun q => by omega
  clear e0 f0 f1 f2 f3 f4 f5
  have hG : ∀ b, F' b → F b ∨ h.next ≤ b := fun b q => (hF' b q).elim .inl fun q => .inr (by omega)
  rcases q8 with ⟨q, j8⟩ | ⟨q, e8⟩
  ·cases q;refine ⟨_, rfl, ?_⟩;refine GoR.store rfl rfl rfl rfl rfl rfl f6 rfl sz4 rfl rfl rfl fun h9 u9 => ?_;replace f6 := u9.has f6;replace y0 := y0.upd u9 (.inr (by omega));apply gE;exact gV (ret_end (aResult_of Tryz.func121 rfl (aResults_cell rfl f6 (inCells_one ag4 rfl))) ⟨y0, F', hG, .inl ⟨rfl, by rw [kd]; exact T.keep j8 (by rw [u9.1]; exact Nat.le_refl _) (fun b hb q => u9.2.2 b (fun z => by subst z; exact q.elim (fun q => by omega) hbF))⟩⟩)
  ·cases q;refine ⟨_, rfl, ?_⟩;refine GoR.store rfl rfl rfl rfl rfl rfl f6 rfl sz4 rfl rfl rfl fun h9 u9 => ?_;replace f6 := u9.has f6;replace y0 := y0.upd u9 (.inr (by omega));apply gE;exact gV (ret_end (aResult_of Tryz.func121 rfl (aResults_cell rfl f6 (inCells_one ag4 rfl))) ⟨y0, F', hG, .inr ⟨rfl, 0, by rw [kd]; omega, T.keepE e8 (by rw [u9.1]; exact Nat.le_refl _) (fun b hb q => u9.2.2 b (fun z => by subst z; exact q.elim (fun q => by omega) hbF))⟩⟩)
 | p :: ps, pre, J, E, h, F, hd, hle, hpre, hA, hb, T, j0 => by
  have hget : C.ps[pre.length]? = some p := by
   have := congrArg (fun l => l[0]?) hd
   simpa [List.getElem?_drop] using this
  have hlt := (List.getElem?_eq_some_iff.1 hget).1
  have hnp := O.np
  have hpO := O.p p (List.mem_of_getElem? hget)
  have hdrop : C.ps.drop (pre.length + 1) = ps := by
   have := congrArg (List.drop 1) hd
   simpa [List.drop_drop] using this
  obtain ⟨f0, f1, f2, f3, ga⟩ := hA h (ExtF.of (Ext.refl _))
  have hlen := ga.psl.len
  rw [List.length_map] at hlen
  have e0 : Ext h h := Ext.refl _
  have hSl : ∀ b, F b → b < h.next := fun b q => T.ltJ j0 q
  obtain ⟨bq, off, q1, q2⟩ := ga.psl.at (i := pre.length) (l := PV.cells p) (by rw [List.getElem?_map, hget]; rfl)
  rw [List.length_map] at q1
  have hit : buildI C k pre (p :: ps) = p.sizes.flatMap (subI C k pre ps) := buildI_cons C k pre p ps
  rw [hit] at T ⊢
  obtain ⟨g, hg⟩ : ∃ g, g = subI C k pre ps := ⟨_, rfl⟩
  rw [← hg] at T ⊢
  have hszk := fun h => sizes122_ok (p := p) (h := h)
  unfold PV.cells at q2 hszk
  refine Runs.intro aFunc121 rfl rfl rfl rfl fun rest => ?_;apply gS;refine gR rfl ?_;refine GoR.box rfl rfl rfl rfl rfl rfl fun h4 x4 f4 => ?_;have := e0.1;have := f0.1;have := f1.1;have := f2.1;have := f3.1;replace f0 := f0.ext x4;replace f1 := f1.ext x4;replace f2 := f2.ext x4;replace f3 := f3.ext x4;replace e0 := e0.trans x4;have := f4.1;refine GoR.box rfl rfl rfl rfl rfl rfl fun h5 x5 f5 => ?_;have := e0.1;have := f4.1;have := f0.1;have := f1.1;have := f2.1;have := f3.1;replace f4 := f4.ext x5;replace f0 := f0.ext x5;replace f1 := f1.ext x5;replace f2 := f2.ext x5;replace f3 := f3.ext x5;replace e0 := e0.trans x5;have := f5.1;refine GoR.alloc rfl rfl rfl zt4 rfl rfl fun h6 x6 f6 => ?_;have := e0.1;have := f5.1;have := f4.1;have := f0.1;have := f1.1;have := f2.1;have := f3.1;replace f5 := f5.ext x6;replace f4 := f4.ext x6;replace f0 := f0.ext x6;replace f1 := f1.ext x6;replace f2 := f2.ext x6;replace f3 := f3.ext x6;replace e0 := e0.trans x6;have := f6.1;apply gE;iterate 2 apply gS
  refine gR rfl ?_;refine gO rfl rfl (ld3 rfl f5 rfl) rfl ?_;refine gO rfl rfl (fa74_0 rfl) rfl ?_;refine gO rfl rfl (ld22 rfl f0 rfl) rfl ?_;refine gO rfl rfl (aOp_lenSlice Tryz.underlying22 rfl hlen) rfl ?_;refine gO rfl rfl (kEF rfl rfl) rfl ?_;apply gE;refine gC (b := false) rfl ?_;refine gD ?_;iterate 2 apply gS
  refine gR rfl ?_;refine gO rfl rfl (fa74_0 rfl) rfl ?_;refine gO rfl rfl (ld22 rfl f0 rfl) rfl ?_;refine gO rfl rfl (ld3 rfl f5 rfl) rfl ?_;refine gO rfl rfl (aOp_indexAddr (i := pre.length) Tryz.underlying22 sz58 rfl q1 rfl (Nat.ble_eq_true_of_le (by omega))) rfl ?_;refine gO rfl rfl (aOp_loadE ag58 sz58 rfl (q2.ext e0)) rfl ?_;refine GoR.call rfl rfl (aCF aFunc122 rfl) (hszk _) ?_ (by rintro _ _ ⟨bz, q, _, hbz, SA⟩; cases q);rintro v7 h7 ⟨bz, q, x7, hbz, SA⟩;cases q;refine ⟨_, rfl, ?_⟩;have := e0.1;replace f6 := f6.ext x7;replace f5 := f5.ext x7;replace f4 := f4.ext x7;replace f0 := f0.ext x7;replace f1 := f1.ext x7;replace f2 := f2.ext x7;replace f3 := f3.ext x7;replace e0 := e0.trans x7;apply gE;refine Go.block noJ_ok ?_
  obtain ⟨g0, g1, g2, g3, _⟩ := hA h (ExtF.of (Ext.refl _))
  have hy0 := g0.1
  have hy1 := g1.1
  have hy2 := g2.1
  have hy3 := g3.1
  clear g0 g1 g2 g3
  have hx7 := e0.1
  have hb4 := f4.1
  have hb5 := f5.1
  have hb6 := f6.1
  have hn4 : h.next < h4.next := by omega
  have hn5 : h4.next < h5.next := by omega
  have eF : ∀ {hh G}, (∀ b, G b → F b ∨ b = h.next ∨ b = h5.next ∨ h7.next ≤ b) → ExtF G h7 hh → ExtF F h hh := fun hG x => ⟨by have := x.1; omega, fun b hb hn => by
   rw [x.2 b (by omega) (fun q => (hG b q).elim hn fun q => by omega), e0.2 b hb]⟩
  have j7 := T.ext j0 e0
  clear e0 f0 f1 f2 f3 q2
  refine Go.rangeN (items := intI p.sizes) (A := SizesA p bz) (fun b => F b ∨ b = h.next ∨ b = h5.next)
   (fun j hh G => ∃ (G' : Nat → Prop) (w : List Int), (∀ b, G b ↔ (G' b ∨ b = h.next ∨ b = h5.next)) ∧ (∀ b, G' b → F b ∨ h7.next ≤ b) ∧ (w = pre ∨ ∃ f, w = pre ++ [f]) ∧ Has hh h.next (.cells .plain (builtC (w, k)) 114) ∧ Has hh h5.next (.cells .plain [.bool false] 4) ∧ J (cntF g p.sizes j) hh G')
   (fun c hh G => c = .ret ∧ ∃ G' : Nat → Prop, (∀ b, G b ↔ (G' b ∨ b = h.next ∨ b = h5.next)) ∧ (∀ b, G' b → F b ∨ h7.next ≤ b) ∧ Has hh h5.next (.cells .plain [.bool false] 4) ∧ ∃ n, n < (p.sizes.flatMap g).length ∧ E n hh G')
   rfl aFunc138 Tryz.func121 (sizes138_it hpO bz) (fun h' x => ⟨SA.f.extF x (fun q => q.elim (fun q => by have := hSl _ q; omega) fun q => by omega)⟩) ⟨F, pre, fun b => Iff.rfl, fun b q => .inl q, .inl rfl, f4, f6, j7⟩ ?_ ?_ ?_ ?_ ?_ ?_ ?_
  ·rintro j hh G b ⟨G', w, hG, hGs, hw, f4, f6, j1⟩ q
   rcases (hG b).1 q with q | rfl | rfl
   ·exact T.ltJ j1 q
   ·exact f4.1
   ·exact f6.1
  ·rintro c hh G b ⟨hc, G', hG, hGs, f6, n, hn, e1⟩ q
   rcases (hG b).1 q with q | rfl | rfl
   ·exact T.ltE e1 q
   ·have := f6.1; omega
   ·exact f6.1
  ·rintro j h8 h9 G ⟨G', w, hG, hGs, hw, f4, f6, j1⟩ hn hk;exact ⟨G', w, hG, hGs, hw, f4.keep hn (hk _ f4.1 (.inr ((hG _).2 (.inr (.inl rfl))))), f6.keep hn (hk _ f6.1 (.inr ((hG _).2 (.inr (.inr rfl))))), T.keep j1 hn fun b b1 b2 => hk b b1 (b2.elim (fun q => .inl (by omega)) fun q => .inr ((hG b).2 (.inl q)))⟩
  ·rintro c h8 h9 G ⟨hc, G', hG, hGs, f6, n, hn', e1⟩ hn hk;exact ⟨hc, G', hG, hGs, f6.keep hn (hk _ f6.1 (.inr ((hG _).2 (.inr (.inr rfl))))), n, hn', T.keepE e1 hn fun b b1 b2 => hk b b1 (b2.elim (fun q => .inl (by omega)) fun q => .inr ((hG b).2 (.inl q)))⟩
  ·rintro j item hj
   obtain ⟨f, hf, rfl⟩ : ∃ f, p.sizes[j]? = some f ∧ [AVal.int .i64 f] = item := by
    unfold intI at hj
    rw [List.getElem?_map] at hj
    cases q : p.sizes[j]? with
    | none => rw [q] at hj; cases hj
    | some x => rw [q] at hj; exact ⟨x, rfl, Option.some.inj hj⟩
   refine ⟨_, rfl, ?_⟩;rintro hh G lb r0 fr rest' Q' ⟨G', w, hG, hGs, hw, f4, f6, j1⟩ x1 hsub hnl hlb fl hready contT contF
   have hfs := sizes_in hpO (List.mem_of_getElem? hf)
   have hx1 := x1.1
   have hfl := fl.1
   replace f5 := f5.extF x1 (fun q => q.elim (fun q => by have := hSl _ q; omega) fun q => by omega)
   obtain ⟨f0, f1, f2, f3, ga⟩ := hA hh (eF (fun b q => q.elim .inl fun q => q.elim (fun q => .inr (.inl q)) fun q => .inr (.inr (.inl q))) x1)
   have hput := builtC_put (k := k) (v := f) (show pre.length < 4 by omega) hw
   have hlw : (pre ++ [f]).length ≤ 4 := by rw [List.length_append, List.length_singleton]; omega
   have hpre' : ∀ i, 0 ≤ (pre ++ [f]).getD i 0 ∧ (pre ++ [f]).getD i 0 ≤ 1000 := fun i => by
    rw [List.getD_eq_getElem?_getD]
    by_cases z : i < pre.length
    ·rw [List.getElem?_append_left z, ← List.getD_eq_getElem?_getD]; exact hpre i
    ·rw [List.getElem?_append_right (by omega)]
     by_cases z2 : i - pre.length = 0
     ·rw [z2]; show 0 ≤ f ∧ f ≤ 1000; omega
     ·rw [List.getElem?_eq_none (by simp; omega)]; decide
   have hfi := fun h => first94_ok (b := (pre ++ [f], k)) hlw (i := pre.length) (by omega) (hpre' _) (by dsimp only; omega) (h := h)
   have hfv : firstV (pre ++ [f], k) pre.length = f * k := by unfold firstV; dsimp only; rw [List.getD_eq_getElem?_getD, List.getElem?_append_right (Nat.le_refl _), Nat.sub_self]; rfl
   rw [hfv] at hfi
   have hka := builtC_len (b := (pre ++ [f], k)) hlw
   have hkb := builtC_same (pre ++ [f], k)
   have hca := cellsG_at C.canG (i := pre.length) (by omega)
   have hcv : C.canG pre.length = C.canI pre.length := by unfold ClampV.canG; rw [if_pos hlt]
   rw [hcv] at hca
   have hhs := fun h => has_ok (s := C.canI pre.length) (n := f * k) (h := h)
   obtain ⟨cw, hcw⟩ : ∃ cw, builtC (w, k) = cw := ⟨_, rfl⟩
   obtain ⟨cn, hcn⟩ : ∃ cn, builtC (pre ++ [f], k) = cn := ⟨_, rfl⟩
   obtain ⟨cc, hcc⟩ : ∃ cc, cellsG C.canG = cc := ⟨_, rfl⟩
   rw [hcw] at hput f4;rw [hcn] at hput hfi hka hkb;rw [hcc] at f2 hca
   have hsl := slice_all hka
   have y9 : ExtF (fun b => G b ∨ b = lb) hh hh := ExtF.of (Ext.refl _)
   have hb0 := f0.1
   have hb1 := f1.1
   have hb2 := f2.1
   have hb3 := f3.1
   refine gR rfl ?_;refine gP ?_;apply gE;refine Go.beginRound fl hready fun h41 u41 => ?_;replace f2 := f2.upd u41 (by omega);replace f3 := f3.upd u41 (by omega);replace f4 := f4.upd u41 (by omega);replace f5 := f5.upd u41 (by omega);replace f6 := f6.upd u41 (by omega);replace fl := u41.has fl;replace y9 := y9.upd u41 (.inl (.inr rfl))
   have hu41 := u41.1
   have hGl : ¬ G' lb := fun q => hnl ((hG _).2 (.inl q))
   have hGx : ¬ G' h.next := fun q => (hGs _ q).elim (fun q => by have := hSl _ q; omega) fun q => by omega
   have hG5 : ¬ G' h5.next := fun q => (hGs _ q).elim (fun q => by have := hSl _ q; omega) fun q => by omega
   have j41 : J (cntF g p.sizes j) h41 G' := T.keep j1 (by omega) fun b hb q => u41.2.2 b fun z => by rw [z] at q; exact q.elim (fun q => by omega) hGl
   have y8 : ExtF (fun b => b = h.next) h41 h41 := ExtF.of (Ext.refl _)
   have hgf : g f = subI C k pre ps f := by rw [hg]
   have hcs := cntF_succ (g := g) hf
   have hks : sameA (.func (.func 121) [] [.ptr by' 0, .ptr bk 0, .ptr bc 0, .ptr bu 0]) (.func (.func 121) [] [.ptr by' 0, .ptr bk 0, .ptr bc 0, .ptr bu 0]) = true := by simp [sameA, sameAs, eqI_eq]
   have hk41 : ∀ {h'}, ExtF (fun b => b = h.next) h41 h' → J (cntF g p.sizes j) h' G' := fun x => T.keep j41 x.1 fun b hb q => x.2 b hb fun z => by rw [z] at q; exact q.elim (fun q => by omega) hGx
   cases hhb : hasB (C.canI pre.length) (f * k) with
   | false =>
    rw [hhb] at hhs
    have hgn : (g f).length = 0 := by rw [hgf]; unfold subI; rw [if_neg (by rw [hhb]; decide)]; rfl
    rw [hgn] at hcs;refine Go.block noJ_ok ?_;apply gS;refine gR rfl ?_;refine gO rfl rfl (ld3 rfl f5 rfl) rfl ?_;refine gP ?_;refine gO rfl rfl (fa114_0 rfl) rfl ?_;refine gO rfl rfl (aOp_indexAddrArr (i := pre.length) Tryz.underlying112 sz3 rfl rfl (Nat.ble_eq_true_of_le (by omega))) rfl ?_;refine GoR.store rfl rfl rfl rfl rfl rfl f4 rfl sz3 rfl rfl hput fun h42 u42 => ?_;replace f2 := f2.upd u42 (by omega);replace f3 := f3.upd u42 (by omega);replace f4 := u42.has f4;replace f5 := f5.upd u42 (by omega);replace f6 := f6.upd u42 (by omega);replace fl := fl.upd u42 (by omega);replace y8 := y8.upd u42 (.inl rfl);apply gE;apply gS;refine Go.drawnE plan121_0 ?_;refine gQ rfl rfl (ld3 rfl f5 rfl) rfl ?_;refine gQ rfl rfl (aOp_indexAddrArr (i := pre.length) Tryz.underlying116 sz71 rfl rfl (Nat.ble_eq_true_of_le (by omega))) rfl ?_;refine gQ rfl rfl (ld71 rfl f2 hca) rfl ?_;refine gQ rfl rfl (ld114 rfl f4 hsl) rfl ?_;refine gQ rfl rfl (ld3 rfl f5 rfl) rfl ?_;refine GoE.call rfl rfl (aCF aFunc94 rfl) (hfi _) (dD 24 4 (dD 24 3 (dK 24 2 (dK 24 1 (dK 24 0 rfl))))) ?_ np;rintro v43 h43 ⟨q, x43⟩;cases q;replace f2 := f2.ext x43;replace f3 := f3.ext x43;replace f4 := f4.ext x43;replace f5 := f5.ext x43;replace f6 := f6.ext x43;replace fl := fl.ext x43;replace y8 := y8.ext x43
    have e0 := x43
    refine ⟨(rck (h2 := h43) rfl (ld71 rfl f2 hca) (rck (h2 := h43) rfl (aOp_indexAddrArr (i := pre.length) Tryz.underlying116 sz71 rfl rfl (Nat.ble_eq_true_of_le (by omega))) (rck (h2 := h43) rfl (ld3 rfl f5 rfl) recheck_nil))), _, rfl, ?_⟩;refine GoE.call rfl rfl (aCF aFunc123 rfl) (hhs _) (dD 63 2 (dD 63 1 (dD 63 0 rfl))) ?_ np;rintro v44 h44 ⟨q, x44⟩;cases q;replace f2 := f2.ext x44;replace f3 := f3.ext x44;replace f4 := f4.ext x44;replace f5 := f5.ext x44;replace f6 := f6.ext x44;replace fl := fl.ext x44;replace e0 := e0.trans x44;replace y8 := y8.ext x44;refine ⟨recheck_nil, _, rfl, ?_⟩;refine gQ rfl rfl rfl rfl ?_;iterate 6 refine GoE.skip rfl rfl rfl ?_
    refine gQ rfl rfl rfl rfl ?_;refine GoE.end rfl ?_;refine gC (b := false) rfl ?_;refine gD ?_;refine Go.inBlock noJ_ok ?_;exact contT _ _ G ⟨G', pre ++ [f], hG, hGs, .inr ⟨f, rfl⟩, by rw [hcn]; exact f4, f6, by rw [hcs]; exact hk41 y8⟩ (fun b q => .inl q) (y9.trans (fun b q => .inl (.inl ((hG b).2 (.inr (.inl q))))) y8) fl
   | true =>
    rw [hhb] at hhs;refine Go.block noJ_ok ?_;apply gS;refine gR rfl ?_;refine gO rfl rfl (ld3 rfl f5 rfl) rfl ?_;refine gP ?_;refine gO rfl rfl (fa114_0 rfl) rfl ?_;refine gO rfl rfl (aOp_indexAddrArr (i := pre.length) Tryz.underlying112 sz3 rfl rfl (Nat.ble_eq_true_of_le (by omega))) rfl ?_;refine GoR.store rfl rfl rfl rfl rfl rfl f4 rfl sz3 rfl rfl hput fun h42 u42 => ?_;replace f2 := f2.upd u42 (by omega);replace f3 := f3.upd u42 (by omega);replace f4 := u42.has f4;replace f5 := f5.upd u42 (by omega);replace f6 := f6.upd u42 (by omega);replace fl := fl.upd u42 (by omega);replace y8 := y8.upd u42 (.inl rfl);apply gE;apply gS;refine Go.drawnE plan121_0 ?_;refine gQ rfl rfl (ld3 rfl f5 rfl) rfl ?_;refine gQ rfl rfl (aOp_indexAddrArr (i := pre.length) Tryz.underlying116 sz71 rfl rfl (Nat.ble_eq_true_of_le (by omega))) rfl ?_;refine gQ rfl rfl (ld71 rfl f2 hca) rfl ?_;refine gQ rfl rfl (ld114 rfl f4 hsl) rfl ?_;refine gQ rfl rfl (ld3 rfl f5 rfl) rfl ?_;refine GoE.call rfl rfl (aCF aFunc94 rfl) (hfi _) (dD 24 4 (dD 24 3 (dK 24 2 (dK 24 1 (dK 24 0 rfl))))) ?_ np;rintro v43 h43 ⟨q, x43⟩;cases q;replace f2 := f2.ext x43;replace f3 := f3.ext x43;replace f4 := f4.ext x43;replace f5 := f5.ext x43;replace f6 := f6.ext x43;replace fl := fl.ext x43;replace y8 := y8.ext x43
    have e0 := x43
    refine ⟨(rck (h2 := h43) rfl (ld71 rfl f2 hca) (rck (h2 := h43) rfl (aOp_indexAddrArr (i := pre.length) Tryz.underlying116 sz71 rfl rfl (Nat.ble_eq_true_of_le (by omega))) (rck (h2 := h43) rfl (ld3 rfl f5 rfl) recheck_nil))), _, rfl, ?_⟩;refine GoE.call rfl rfl (aCF aFunc123 rfl) (hhs _) (dD 63 2 (dD 63 1 (dD 63 0 rfl))) ?_ np;rintro v44 h44 ⟨q, x44⟩;cases q;replace f3 := f3.ext x44;replace f4 := f4.ext x44;replace f5 := f5.ext x44;replace f6 := f6.ext x44;replace fl := fl.ext x44;replace y8 := y8.ext x44;refine ⟨recheck_nil, _, rfl, ?_⟩;refine gQ rfl rfl rfl rfl ?_;refine gQ rfl rfl (ld142 rfl f3 rfl) rfl ?_;refine gQ rfl rfl (ld114 rfl f4 hsl) rfl ?_;refine gQ rfl rfl (ld3 rfl f5 rfl) rfl ?_;refine gQ rfl rfl (aA rfl rfl) rfl ?_
    have hgb : g f = buildI C k (pre ++ [f]) ps := by rw [hgf]; unfold subI; rw [if_pos hhb]
    have hlc : (((pre ++ [f]).length : Nat) : Int) = (pre.length : Int) + 1 := by simp
    have hy8 := y8.1
    have hshift := T.shift (sub := buildI C k (pre ++ [f]) ps) (cntF g p.sizes j) (fun n v hv => cntF_at hf (by rw [hgb]; exact hv))
    have ih := build_ok O gp ge by' bk bc bu y base k hk ps (pre ++ [f]) (fun n => J (cntF g p.sizes j + n)) (fun n => E (cntF g p.sizes j + n)) h44 G' (by rw [List.length_append, List.length_singleton]; exact hdrop) (by rw [List.length_append, List.length_singleton]; omega) hpre'
     (fun h' x => hA h' ⟨by have := x.1; omega, fun b hb hn => by
      rw [x.2 b (by omega) (fun q => (hGs _ q).elim hn fun q => by omega), y8.2 b (by omega) (by omega), u41.2.2 b (by omega)]
      exact (eF (fun b q => q.elim .inl fun q => q.elim (fun q => .inr (.inl q)) fun q => .inr (.inr (.inl q))) x1).2 b hb hn⟩) (by omega) hshift (hk41 y8)
    rw [hcn, hlc, ← hgb] at ih;refine GoE.call rfl rfl (aOp_callVal rfl aFunc121 rfl) ih (dD 4095 11 (dD 4095 10 (dD 4095 9 (dD 4095 8 (dD 4095 7 rfl))))) ?_ (by rintro _ _ ⟨_, _, _, ⟨q, _⟩ | ⟨q, _⟩⟩ <;> cases q)
    have z8 : ExtF (fun b => G b ∨ b = lb) hh h44 := y9.trans (fun b q => .inl (.inl ((hG b).2 (.inr (.inl q))))) y8
    rintro v h45 ⟨x45, G'', hG'', q45⟩
    have hx45 := x45.1
    replace f4 := f4.extF x45 hGx;replace f6 := f6.extF x45 hG5;replace fl := fl.extF x45 hGl
    have z9 : ExtF (fun b => G b ∨ b = lb) hh h45 := z8.trans (fun b q => .inl (.inl ((hG b).2 (.inl q)))) x45
    have hGs' : ∀ b, G'' b → F b ∨ h7.next ≤ b := fun b q => (hG'' b q).elim (hGs b) fun q => .inr (by omega)
    have hGn : ∀ b, (G'' b ∨ b = h.next ∨ b = h5.next) → G b ∨ hh.next ≤ b := fun b q => q.elim (fun q => (hG'' b q).elim (fun q => .inl ((hG b).2 (.inl q))) fun q => .inr (by omega)) fun q => .inl ((hG b).2 (.inr q))
    clear f0 f1 f2 f3 f5 y8 y9 z8
    rcases q45 with ⟨q, j45⟩ | ⟨q, n, hn, e45⟩
    ·cases q;refine ⟨recheck_nil, _, rfl, ?_⟩;iterate 2 refine gQ rfl rfl rfl rfl ?_
     refine GoE.end rfl ?_;refine gC (b := false) rfl ?_;refine gD ?_;refine Go.inBlock noJ_ok ?_;exact contT _ _ (fun b => G'' b ∨ b = h.next ∨ b = h5.next) ⟨G'', pre ++ [f], fun b => Iff.rfl, hGs', .inr ⟨f, rfl⟩, by rw [hcn]; exact f4, f6, by rw [hcs]; exact j45⟩ hGn z9 fl
    ·cases q;refine ⟨recheck_nil, _, rfl, ?_⟩
     have hG5'' : ¬ G'' h5.next := fun q => (hG'' _ q).elim hG5 fun q => by omega
     have hlt2 := cntF_lt (n := n) hf hn
     iterate 2 refine gQ rfl rfl rfl rfl ?_
     refine GoE.end rfl ?_;refine gC (b := true) rfl ?_;apply gS;refine gR rfl ?_;refine GoR.store rfl rfl rfl rfl rfl rfl f6 rfl sz4 rfl rfl rfl fun h46 u46 => ?_;replace f6 := u46.has f6;replace fl := fl.upd u46 (by omega);apply gE;exact contF _ _ _ _ (fun b => G'' b ∨ b = h.next ∨ b = h5.next) (.inl rfl) ⟨rfl, G'', fun b => Iff.rfl, hGs', f6, _, hlt2, T.keepE e45 (by rw [u46.1]; exact Nat.le_refl _) (fun b hb q => u46.2.2 b (fun z => by rw [z] at q; exact q.elim (fun q => by omega) hG5''))⟩ hGn (z9.upd u46 (.inl (.inl ((hG _).2 (.inr (.inr rfl)))))) fl
  ·rintro d h30 G x30 hGs hnd hd hdd ⟨G', w, hG, hGs2, hw, f4, f6, j1⟩
   have hx30 := x30.1
   rw [intI_len, cntF_all] at j1
   have hG5 : ¬ G' h5.next := fun q => (hGs2 _ q).elim (fun q => by have := hSl _ q; omega) fun q => by omega
   have hGd : d ≠ h5.next := fun q => by omega
   have y0 : ExtF F h h30 := eF (fun b q => q.elim .inl fun q => q.elim (fun q => .inr (.inl q)) fun q => .inr (.inr (.inl q))) x30
   clear f5;refine Go.inBlock noJ_ok ?_;apply gS;refine gR rfl ?_;refine GoR.store rfl rfl rfl rfl rfl rfl f6 rfl sz4 rfl rfl rfl fun h31 u31 => ?_;replace hdd := hdd.upd u31 (by omega);replace f6 := u31.has f6;replace y0 := y0.upd u31 (.inr (by omega));apply gE
   have j31 := T.keep j1 (by rw [u31.1]; exact Nat.le_refl _) (fun b hb q => u31.2.2 b (fun z => by rw [z] at q; exact q.elim (fun q => by omega) hG5))
   have hGd' : ¬ G' d := fun q => hnd ((hG _).2 (.inl q))
   exact Go.retC hdd fun h9 u9 => ⟨aResult_of Tryz.func121 rfl (aResults_cell rfl (f6.upd u9 (fun q => hGd q.symm)) (inCells_one ag4 rfl)), y0.upd u9 (.inr (by omega)), G', fun b q => (hGs2 b q).elim .inl fun q => .inr (by omega), .inl ⟨rfl, T.keep j31 (by rw [u9.1]; exact Nat.le_refl _) (fun b hb q => u9.2.2 b (fun z => by rw [z] at q; exact q.elim (fun q => by omega) hGd'))⟩⟩
  ·rintro c d h30 G x30 hGs hnd hd hdd ⟨hc, G', hG, hGs2, f6, n, hn, e1⟩;subst hc
   have hx30 := x30.1
   have y0 : ExtF F h h30 := eF (fun b q => q.elim .inl fun q => q.elim (fun q => .inr (.inl q)) fun q => .inr (.inr (.inl q))) x30
   clear f5
   have hGd' : ¬ G' d := fun q => hnd ((hG _).2 (.inl q))
   have hGd : d ≠ h5.next := fun q => by omega
   exact Go.retC hdd fun h9 u9 => ⟨aResult_of Tryz.func121 rfl (aResults_cell rfl (f6.upd u9 (fun q => hGd q.symm)) (inCells_one ag4 rfl)), y0.upd u9 (.inr (by omega)), G', fun b q => (hGs2 b q).elim .inl fun q => .inr (by omega), .inr ⟨rfl, n, hn, T.keepE e1 (by rw [u9.1]; exact Nat.le_refl _) (fun b hb q => u9.2.2 b (fun z => by rw [z] at q; exact q.elim (fun q => by omega) hGd'))⟩⟩
structure BuildsA (C : ClampV) (gp ge : AVal) (by' bc : Nat) (h : AH) : Prop where
 f : Has h by' (.cells .plain (C.cells gp ge) 74)
 c : Has h bc (.cells .plain (cellsG C.canG) 116)
 A : YardAt h C gp ge
theorem builds89_ok {C : ClampV} (O : C.Ok) {gp ge : AVal} {h : AH} (A : YardAt h C gp ge) : Runs Tryz.prog 89 [.agg (C.cells gp ge)] h (fun en h' => ∃ by' bc, en = .ret (.func (.func 120) [] [.ptr by' 0, .ptr bc 0]) ∧ Ext h h' ∧ h.next ≤ by' ∧ h.next ≤ bc ∧ BuildsA C gp ge by' bc h') := by
 have hbe := fun h A => before_ok O (gp := gp) (ge := ge) (h := h) A
 have hsm := A.same
 unfold ClampV.cells at hbe hsm ⊢
 have e0 : Ext h h := Ext.refl _
 refine Runs.intro aFunc89 rfl rfl rfl rfl fun rest => ?_;apply gS;refine gR rfl ?_;refine GoR.box rfl rfl rfl rfl rfl rfl fun h0 x0 f0 => ?_;have := e0.1;replace e0 := e0.trans x0;have := f0.1;refine gP ?_;apply gE;apply gS;refine gR rfl ?_;refine gO rfl rfl (ld74 rfl f0 rfl) rfl ?_;refine GoR.call rfl rfl (aCF aFunc119 rfl) (hbe _ (A.ext e0)) ?_ np;rintro v1 h1 ⟨q, x1⟩;cases q;refine ⟨_, rfl, ?_⟩;replace f0 := f0.ext x1;replace e0 := e0.trans x1;refine GoR.alloc rfl rfl rfl zt116 rfl rfl fun h2 x2 f2 => ?_;have := e0.1;have := f0.1;replace f0 := f0.ext x2;replace e0 := e0.trans x2;have := f2.1;refine GoR.store rfl rfl rfl rfl rfl rfl f2 rfl sz116 rfl rfl rfl fun h3 u3 => ?_;replace f2 := u3.has f2;replace f0 := f0.upd u3 (by omega);replace e0 := e0.upd u3 (by omega);apply gE;apply gS;refine gR rfl ?_;iterate 2 refine gP ?_
 apply gE;exact gV (ret_end (aResult_of Tryz.func89 rfl rfl) ⟨_, _, rfl, e0, by omega, by omega, ⟨f0, f2, A.ext e0⟩⟩)
def buildsI (C : ClampV) : List (List AVal) := C.builds.map fun b => [.agg (builtC b)]
theorem buildsI_eq (C : ClampV) : buildsI C = (upto C.pl C.ph).flatMap fun k => buildI C k [] C.ps := by
 unfold buildsI ClampV.builds buildI
 rw [List.map_flatMap]
 congr 1
 funext k
 rw [List.map_map];apply List.map_congr_left
 intro l _
 rfl
theorem builds120_it {C : ClampV} (O : C.Ok) (gp ge : AVal) (by' bc : Nat) : IterN Tryz.prog 120 [] [.ptr by' 0, .ptr bc 0] (buildsI C) (BuildsA C gp ge by' bc) := by
 intro y base J E h F hyc hys hA hbase T j0
 show Runs Tryz.prog 120 [y, .ptr by' 0, .ptr bc 0] h _
 have hnp := O.np
 have hk := O.k
 have e0 : Ext h h := Ext.refl _
 have hSl : ∀ b, F b → b < h.next := fun b q => T.ltJ j0 q
 obtain ⟨f0, f1, ga⟩ := hA h (ExtF.of e0)
 have hpk : slice? (C.cells gp ge) (0 + 1) 2 = some [.int .i64 C.pl, .int .i64 C.ph] := rfl
 rw [buildsI_eq] at T ⊢
 obtain ⟨g, hg⟩ : ∃ g, g = fun k => buildI C k [] C.ps := ⟨_, rfl⟩
 rw [← hg] at T ⊢
 refine Runs.intro aFunc120 rfl rfl rfl rfl fun rest => ?_;apply gS;refine gR rfl ?_;refine GoR.box rfl rfl rfl rfl rfl rfl fun h2 x2 f2 => ?_;have := e0.1;have := f0.1;have := f1.1;replace f0 := f0.ext x2;replace f1 := f1.ext x2;replace e0 := e0.trans x2;have := f2.1;apply gE;apply gS;refine gR rfl ?_;refine GoR.alloc rfl rfl rfl zt142 rfl rfl fun h3 x3 f3 => ?_;have := e0.1;have := f2.1;have := f0.1;have := f1.1;replace f2 := f2.ext x3;replace f0 := f0.ext x3;replace e0 := e0.trans x3;have := f3.1;apply gE;apply gS;refine gR rfl ?_;refine gP ?_;refine GoR.store rfl rfl rfl rfl rfl rfl f3 rfl sz142 rfl rfl rfl fun h4 u4 => ?_;replace f3 := u4.has f3;replace f2 := f2.upd u4 (by omega);replace f0 := f0.upd u4 (by omega);replace e0 := e0.upd u4 (by omega);apply gE;apply gS;refine gR rfl ?_;refine gO rfl rfl (fa74_1 rfl) rfl ?_;refine gO rfl rfl (ld71 rfl f0 hpk) rfl ?_;refine gP ?_;apply gE;refine Go.block noJ_ok ?_;rw [hyc] at f2
 have hx4 := e0.1
 have hb2 := f2.1
 have hb3 := f3.1
 have hn2 : h.next < h2.next := by omega
 have hA2 : ∀ h', ExtF F h4 h' → BuildA C gp ge by' h.next bc h2.next y h' := fun h' x =>
  have z := hA h' ((ExtF.of e0).trans (fun _ q => .inl q) x)
  ⟨z.f, f2.extF x (fun q => by have := hSl _ q; omega), z.c, f3.extF x (fun q => by have := hSl _ q; omega), z.A⟩
 have j4 := T.ext j0 e0
 have e4 := e0
 clear e0 f0 f1 f2 f3
 refine Go.rangeN (items := intI (upto C.pl C.ph)) (A := fun _ => True) F (fun j hh G => J (cntF g (upto C.pl C.ph) j) hh G) (fun c hh G => c = .ret ∧ ∃ n, n < ((upto C.pl C.ph).flatMap g).length ∧ E n hh G)
  rfl aFunc124 Tryz.func120 (each124_it (a := C.pl) (b := C.ph) (by omega) (by omega)) (fun h' x => trivial) j4 (fun _ _ _ _ j q => T.ltJ j q) (fun _ _ _ _ j q => by obtain ⟨_, k, _, e⟩ := j; exact T.ltE e q) ?_ ?_ ?_ ?_ ?_
 ·rintro k h1 h3 G j hn hk;exact T.keepJ j hn fun b hb hq => hk b hb (hq.elim (fun q => .inl (by omega)) .inr)
 ·rintro c h1 h3 G ⟨q, k, hk, e⟩ hn hk';exact ⟨q, k, hk, T.keepE e hn fun b hb hq => hk' b hb (hq.elim (fun q => .inl (by omega)) .inr)⟩
 ·rintro j item hj
  obtain ⟨k, hkj, rfl⟩ : ∃ k, (upto C.pl C.ph)[j]? = some k ∧ [AVal.int .i64 k] = item := by
   unfold intI at hj
   rw [List.getElem?_map] at hj
   cases q : (upto C.pl C.ph)[j]? with
   | none => rw [q] at hj; cases hj
   | some x => rw [q] at hj; exact ⟨x, rfl, Option.some.inj hj⟩
  refine ⟨_, rfl, ?_⟩;rintro hh G lb r0 fr rest' Q' ij x1 hG hnl hlb fl hready contT contF
  have hkr := mem_upto.1 (List.mem_of_getElem? hkj)
  have hx1 := x1.1
  have hfl := fl.1
  have y9 : ExtF (fun b => G b ∨ b = lb) hh hh := ExtF.of (Ext.refl _)
  refine gR rfl ?_;refine gP ?_;apply gE;refine Go.beginRound fl hready fun h41 u41 => ?_;replace fl := u41.has fl;replace y9 := y9.upd u41 (.inl (.inr rfl))
  have hu41 := u41.1
  have hA3 : ∀ h', ExtF G h41 h' → BuildA C gp ge by' h.next bc h2.next y h' := fun h' x => hA2 h' ⟨by have := x.1; omega, fun b hb hn => by
   rw [x.2 b (by omega) (fun q => (hG b q).elim hn fun q => by omega), u41.2.2 b (by omega), x1.2 b hb hn]⟩
  have j41 : J (cntF g (upto C.pl C.ph) j) h41 G := T.keep ij (by omega) fun b hb q => u41.2.2 b fun z => by rw [z] at q; exact q.elim (fun q => by omega) hnl
  have hgk : g k = buildI C k [] C.ps := by rw [hg]
  have hcs := cntF_succ (g := g) hkj
  have hshift := T.shift (sub := buildI C k [] C.ps) (cntF g (upto C.pl C.ph) j) (fun n v hv => cntF_at hkj (by rw [hgk]; exact hv))
  have ih := build_ok O gp ge by' h.next bc h2.next y base k (by omega) C.ps [] (fun n => J (cntF g (upto C.pl C.ph) j + n)) (fun n => E (cntF g (upto C.pl C.ph) j + n)) h41 G rfl (by simp) (fun i => by simp) hA3 (by omega) hshift j41
  rw [← hgk] at ih
  have kb := builtC_same ([], k)
  have hpb : aFillA (fun i => some ([0, 4][i]?.getD 0, 1)) (repl [.int .i64 0, .int .i64 0, .int .i64 0, .int .i64 0, .int .i64 0] 1) [(1, .int .i64 k)] = some (builtC ([], k)) := rfl
  obtain ⟨_, _, _, f3, _⟩ := hA3 h41 (ExtF.of (Ext.refl _))
  have e0 : Ext h41 h41 := Ext.refl _
  refine Go.block noJ_ok ?_;apply gS;refine gR rfl ?_;refine gO rfl rfl (ld142 rfl f3 rfl) rfl ?_;refine gP ?_;refine gO rfl rfl (aOp_build (ps := [(1, .int .i64 k)]) (cs := builtC ([], k)) zt114 hu114 pl114 rfl rfl) rfl ?_;refine GoR.call rfl rfl (aOp_callVal rfl aFunc121 rfl) ih ?_ (by rintro _ _ ⟨_, _, _, ⟨q, _⟩ | ⟨q, _⟩⟩ <;> cases q);rintro v h45 ⟨x45, G'', hG'', q45⟩
  have hx45 := x45.1
  replace fl := fl.extF x45 hnl
  have z9 : ExtF (fun b => G b ∨ b = lb) hh h45 := y9.trans (fun b q => .inl (.inl q)) x45
  have hGn : ∀ b, G'' b → G b ∨ hh.next ≤ b := fun b q => (hG'' b q).elim .inl fun q => .inr (by omega)
  clear f3 y9 e0
  rcases q45 with ⟨q, j45⟩ | ⟨q, n, hn, e45⟩
  ·cases q;refine ⟨_, rfl, ?_⟩;refine gP ?_;apply gE;refine gC (b := false) rfl ?_;refine gD ?_;refine Go.inBlock noJ_ok ?_;exact contT _ _ G'' (by rw [hcs]; exact j45) hGn z9 fl
  ·cases q;refine ⟨_, rfl, ?_⟩
   have hlt2 := cntF_lt (n := n) hkj hn
   refine gP ?_;apply gE;refine gC (b := true) rfl ?_;exact contF _ _ _ _ G'' (.inl rfl) ⟨rfl, _, hlt2, e45⟩ hGn z9 fl
 ·rintro d h30 G x30 hGs hnd hd hdd j1
  have hx30 := x30.1
  rw [intI_len, cntF_all] at j1
  have y0 : ExtF F h h30 := (ExtF.of e4).trans (fun _ q => .inl q) x30
  refine Go.inBlock noJ_ok ?_;refine Go.endC hdd fun h9 u9 => ⟨aResult_of Tryz.func120 rfl rfl, rfl, y0.upd u9 (.inr (by omega)), G, fun b q => (hGs b q).elim .inl fun q => .inr (by omega), .inl ?_⟩;exact T.keepJ j1 (by rw [u9.1]; exact Nat.le_refl _) fun b hb hq => u9.2.2 b (fun z => by rw [z] at hq; exact hq.elim (fun q => by omega) hnd)
 ·rintro c d h30 G x30 hGs hnd hd hdd ⟨hc, n, hn, e1⟩;subst hc
  have hx30 := x30.1
  have y0 : ExtF F h h30 := (ExtF.of e4).trans (fun _ q => .inl q) x30
  refine Go.retC hdd fun h9 u9 => ⟨aResult_of Tryz.func120 rfl rfl, rfl, y0.upd u9 (.inr (by omega)), G, fun b q => (hGs b q).elim .inl fun q => .inr (by omega), .inr ⟨n, hn, ?_⟩⟩;exact T.keepE e1 (by rw [u9.1]; exact Nat.le_refl _) fun b hb hq => u9.2.2 b (fun z => by rw [z] at hq; exact hq.elim (fun q => by omega) hnd)
end Go.Proofs.YtobhkdgcciolmaaGreat

set_option linter.unusedSimpArgs false
namespace Go.AbsE
open Go
section
variable {P : Program}
theorem mapSetN_old {kt : TypeId} {N : Nat} (K : KeyN P kt N) {k : List Int} (hk : k.length = N) (v : AVal) (clock : Nat) : ∀ (es : List AMapE), (∀ e, e ∈ es → ∃ m, e.key = .agg (vints m) ∧ m.length = N ∧ (k = m → e.val = v)) → (∃ e, e ∈ es ∧ e.key = .agg (vints k)) →
  aMapSet P kt (.agg (vints k)) v clock es = some (es, clock)
 | [], _, h => by obtain ⟨e, q, _⟩ := h; cases q
 | e :: es, h, hex => by
  obtain ⟨m, hm, hml, hne⟩ := h e List.mem_cons_self
  unfold aMapSet
  rw [hm, pr_eq_keyN K hk hml]
  by_cases q : k = m
  ·rw [decide_eq_true q]
   subst q
   simp only [sameBits_vints, cond_true]
   have hv := hne rfl
   obtain ⟨ek, ev, eb⟩ := e
   dsimp only at hm hv
   subst hm; subst hv
   rfl
  ·rw [decide_eq_false q]
   have hex' : ∃ e, e ∈ es ∧ e.key = .agg (vints k) := by
    obtain ⟨e', q1, q2⟩ := hex
    rcases List.mem_cons.1 q1 with rfl | q1
    ·rw [hm] at q2
     exfalso
     apply q
     have q3 : vints m = vints k := by injection q2
     unfold vints at q3
     have q4 := congrArg Array.toList q3
     simp only [List.toList_toArray] at q4
     exact ((List.map_inj_right (fun x y z => by injection z)).1 q4).symm
    ·exact ⟨e', q1, q2⟩
   rw [mapSetN_old K hk v clock es (fun x hx => h x (List.mem_cons_of_mem _ hx)) hex']
theorem aOp_mapOldN {t : Tr AVal} {h : AH} {dst : Option Tmp} {tt : TypeId} {pos : String} {after : Array Edge} {guard : Option (Nat × Bool)} {ty kt vt : TypeId} {N : Nat} {x k y : Operand} {b : Nat} {L : List (List Int × AVal)} {key : List Int} {v : AVal}
  (K : KeyN P kt N) (hu : P.underlying ty = some (.map kt vt)) (hx : ev t x = some (.map b)) (hk : ev t k = some (.agg (i64s key))) (hy : ev t y = some v) (h4 : key.length = N)
  (hb : Has h b (.map (esN L) L.length)) (hl : ∀ x, x ∈ L → x.1.length = N ∧ (key = x.1 → x.2 = v)) (hex : ∃ x, x ∈ L ∧ x.1 = key) :
  ∃ h', aOp P t h ⟨dst, .mapUpdate ty x k y, tt, pos, after, guard⟩ = some (.val undefA h') ∧ Upd h b (.map (esN L) L.length) h' := by
 obtain ⟨h', s1, s2⟩ := set_upd h b (.map (esN L) L.length)
 refine ⟨h', ?_, s2⟩
 show opMapUpdate P t h ty x k y = _
 unfold opMapUpdate
 rw [hu, hx, hk, hy]
 dsimp only
 rw [hb.2, ground_vints]
 dsimp only
 rw [pr_check_keyN K h4]
 dsimp only
 rw [mapSetN_old K h4 v L.length (esN L) (fun e he => by
  obtain ⟨i, x, hx, rfl⟩ := esN_at he
  exact ⟨x.1, rfl, hl x (List.mem_of_getElem? hx)⟩) (by
  obtain ⟨x, hx, hxk⟩ := hex
  obtain ⟨i, hi⟩ := List.mem_iff_getElem?.1 hx
  refine ⟨⟨.agg (vints x.1), x.2, i⟩, ?_, by rw [hxk]⟩
  unfold esN
  exact List.mem_mapIdx.2 ⟨i, (List.getElem?_eq_some_iff.1 hi).1, by rw [(List.getElem?_eq_some_iff.1 hi).2]⟩)]
 dsimp only
 rw [s1]
section
variable {c : FC} {k : List AItem} {Q : AM → Prop} {all : Array Oper} {pl rest : List DOp} {tf ta : Tr AVal} {facts left : List DFact} {h : AH} {i bef : Nat} {dst : Option Tmp} {tt : TypeId} {pos : String} {after : Array Edge} {guard : Option (Nat × Bool)} {ty kt vt : TypeId} {N : Nat} {x kx y : Operand} {b : Nat} {L : List (List Int × AVal)} {key : List Int} {v : AVal}
theorem GoE.mapNewN (hl : pl = ⟨i, bef, false, ⟨dst, .mapUpdate ty x kx y, tt, pos, after, guard⟩, false⟩ :: rest) (hw : wantedA all ta ⟨dst, .mapUpdate ty x kx y, tt, pos, after, guard⟩ = some true)
  (K : KeyN P kt N) (hu : P.underlying ty = some (.map kt vt)) (hx : ev ta x = some (.map b)) (hk : ev ta kx = some (.agg (i64s key))) (hy : ev ta y = some v) (h4 : key.length = N)
  (hb : Has h b (.map (esN L) L.length)) (hn : ∀ x, x ∈ L → x.1.length = N ∧ key ≠ x.1) (hleft : dropF bef facts = left) (hd : dst = none)
  (g : ∀ h1, Upd h b (.map (esN (L ++ [(key, v)])) (L ++ [(key, v)]).length) h1 → recheck P h1 left = true ∧ GoE P c k Q all rest tf left ta h1) : GoE P c k Q all pl tf facts ta h := by
 obtain ⟨h1, q1, q2⟩ := aOp_mapNewN (dst := dst) (tt := tt) (pos := pos) (after := after) (guard := guard) K hu hx hk hy h4 hb hn
 obtain ⟨g1, g2⟩ := g h1 q2
 refine GoE.noisy hl hw q1 hleft g1 ?_ g2
 subst hd
 rfl
theorem GoE.mapOldN (hl : pl = ⟨i, bef, false, ⟨dst, .mapUpdate ty x kx y, tt, pos, after, guard⟩, false⟩ :: rest) (hw : wantedA all ta ⟨dst, .mapUpdate ty x kx y, tt, pos, after, guard⟩ = some true)
  (K : KeyN P kt N) (hu : P.underlying ty = some (.map kt vt)) (hx : ev ta x = some (.map b)) (hk : ev ta kx = some (.agg (i64s key))) (hy : ev ta y = some v) (h4 : key.length = N)
  (hb : Has h b (.map (esN L) L.length)) (hn : ∀ x, x ∈ L → x.1.length = N ∧ (key = x.1 → x.2 = v)) (hex : ∃ x, x ∈ L ∧ x.1 = key) (hleft : dropF bef facts = left) (hd : dst = none)
  (g : ∀ h1, Upd h b (.map (esN L) L.length) h1 → recheck P h1 left = true ∧ GoE P c k Q all rest tf left ta h1) : GoE P c k Q all pl tf facts ta h := by
 obtain ⟨h1, q1, q2⟩ := aOp_mapOldN (dst := dst) (tt := tt) (pos := pos) (after := after) (guard := guard) K hu hx hk hy h4 hb hn hex
 obtain ⟨g1, g2⟩ := g h1 q2
 refine GoE.noisy hl hw q1 hleft g1 ?_ g2
 subst hd
 rfl
end
end
end Go.AbsE

namespace Go.Proofs.YtobhkdgcciolmaaGreat
open Go Go.AbsE
set_option linter.unusedSimpArgs false
set_option linter.unusedVariables false
def ClampV.with (C : ClampV) (e : EV) : ClampV := { C with es := C.es ++ [e] }
theorem possible_iff {C : ClampV} : C.possible = true ↔ ∃ b, b ∈ C.builds := by
 unfold ClampV.possible
 cases q : C.builds with
 | nil => simp
 | cons a l => simp
theorem possible_not {C : ClampV} : C.possible = false ↔ ∀ b, b ∉ C.builds := by
 cases q : C.possible with
 | false =>
  refine ⟨fun _ b hb => ?_, fun _ => rfl⟩;rw [possible_iff.2 ⟨b, hb⟩] at q;cases q
 | true =>
  obtain ⟨b, hb⟩ := possible_iff.1 q
  exact ⟨fun z => Bool.noConfusion z, fun z => absurd hb (z b)⟩
theorem can_path {C : ClampV} (hf : ∀ e, e ∈ C.es → e.Fine) {j : Nat} {n : Int} : hasB (C.canI j) n = true ↔ ∃ y, (0 ≤ y ∧ y ≤ 5000) ∧ Path j C.es n y := by
 unfold ClampV.canI
 rw [(backE_iff hf (i := j) (S := (0, 5000)) (.inr (by decide))).2]
 simp only [hasB_iff]
theorem builds_iff {C : ClampV} (hf : ∀ e, e ∈ C.es → e.Fine) {b : BT} : b ∈ C.builds ↔ (C.pl ≤ b.2 ∧ b.2 ≤ C.ph) ∧ b.1.length = C.ps.length ∧ ∀ (j : Nat) p, C.ps[j]? = some p → b.1.getD j 0 ∈ p.sizes ∧ ∃ y, (0 ≤ y ∧ y ≤ 5000) ∧ Path j C.es (firstV b j) y := by
 rw [mem_builds]
 simp only [can_path hf]
theorem joinL_ex {l : List (Int × Int)} (hne : ∃ p, p ∈ l) (hin : ∀ p, p ∈ l → p.1 ≤ 9223372036854775807 ∧ -9223372036854775808 ≤ p.2) : (∃ p, p ∈ l ∧ (joinL l).1 = p.1) ∧ (∃ p, p ∈ l ∧ (joinL l).2 = p.2) := by
 constructor
 ·refine Classical.byContradiction fun hno => ?_
  have h1 : (joinL l).1 + 1 ≤ (joinL l).1 := joinL_lo (by
   obtain ⟨p, hp⟩ := hne
   have := (joinL_le hp).1
   have := (hin p hp).1
   have : (joinL l).1 ≠ p.1 := fun z => hno ⟨p, hp, z⟩
   unfold topS
   omega) fun p hp => by
   have := (joinL_le hp).1
   have : (joinL l).1 ≠ p.1 := fun z => hno ⟨p, hp, z⟩
   omega
  omega
 ·refine Classical.byContradiction fun hno => ?_
  have h1 : (joinL l).2 ≤ (joinL l).2 - 1 := joinL_hi (by
   obtain ⟨p, hp⟩ := hne
   have := (joinL_le hp).2
   have := (hin p hp).2
   have : (joinL l).2 ≠ p.2 := fun z => hno ⟨p, hp, z⟩
   unfold topS
   omega) fun p hp => by
   have := (joinL_le hp).2
   have : (joinL l).2 ≠ p.2 := fun z => hno ⟨p, hp, z⟩
   omega
  omega
theorem join_map_ex {C : ClampV} (hp : C.possible = true) {f : BT → Int × Int} (hin : ∀ b, b ∈ C.builds → (f b).1 ≤ 9223372036854775807 ∧ -9223372036854775808 ≤ (f b).2) : (∃ b, b ∈ C.builds ∧ (joinL (C.builds.map f)).1 = (f b).1) ∧ (∃ b, b ∈ C.builds ∧ (joinL (C.builds.map f)).2 = (f b).2) := by
 obtain ⟨b0, hb0⟩ := possible_iff.1 hp
 obtain ⟨⟨p, hp, e⟩, ⟨q, hq, e'⟩⟩ := joinL_ex (l := C.builds.map f) ⟨_, List.mem_map.2 ⟨b0, hb0, rfl⟩⟩ (fun p hp => by
  obtain ⟨b, hb, rfl⟩ := List.mem_map.1 hp
  exact hin b hb)
 obtain ⟨b, hb, rfl⟩ := List.mem_map.1 hp
 obtain ⟨b', hb', rfl⟩ := List.mem_map.1 hq
 exact ⟨⟨b, hb, e⟩, ⟨b', hb', e'⟩⟩
theorem join_map_le {C : ClampV} {f : BT → Int × Int} {b : BT} (hb : b ∈ C.builds) : (joinL (C.builds.map f)).1 ≤ (f b).1 ∧ (f b).2 ≤ (joinL (C.builds.map f)).2 := joinL_le (List.mem_map.2 ⟨b, hb, rfl⟩)
end Go.Proofs.YtobhkdgcciolmaaGreat

namespace Go.Proofs.YtobhkdgcciolmaaGreat
open Go Go.AbsE
set_option linter.unusedSimpArgs false
set_option maxRecDepth 100000
set_option maxHeartbeats 0
set_option linter.unusedVariables false
def keyB (b : BT) : List Int := padB b.1 ++ [b.2]
theorem keyB_len {b : BT} (h : b.1.length ≤ 4) : (keyB b).length = 5 := by unfold keyB; rw [List.length_append, padB_len h]; rfl
theorem keyB_inj {b c : BT} (h : b.1.length = c.1.length) (q : keyB b = keyB c) : b = c := by
 unfold keyB padB at q
 rw [List.append_assoc, List.append_assoc] at q
 obtain ⟨q1, q2⟩ := List.append_inj q h
 rw [h] at q2
 have q3 := List.append_cancel_left q2
 injection q3 with q4
 exact Prod.ext q1 q4
theorem key114 : KeyN Tryz.prog 114 5 where
 fs := ⟨_, Tryz.underlying114, .cons (n := 4) ⟨by decide, .inr ⟨sz112, _, _, Tryz.underlying112, Tryz.underlying3, sz3⟩⟩ rfl (.cons (n := 1) ⟨by decide, .inl ⟨rfl, _, Tryz.underlying3⟩⟩ rfl (.nil _))⟩
 std := by kernel_rfl
def addK (K : List BT) (b : BT) : List BT := if b ∈ K then K else K ++ [b]
def knows (bs : List BT) : List BT := bs.foldl addK []
theorem addK_mem {K : List BT} {b c : BT} : c ∈ addK K b ↔ c ∈ K ∨ c = b := by
 unfold addK
 split
 ·rename_i q
  exact ⟨.inl, fun h => h.elim id fun z => z ▸ q⟩
 ·rw [List.mem_append, List.mem_singleton]
theorem knows_mem {bs : List BT} {b : BT} : b ∈ knows bs ↔ b ∈ bs := by
 have key : ∀ (bs : List BT) (K : List BT), b ∈ bs.foldl addK K ↔ b ∈ K ∨ b ∈ bs := by
  intro bs
  induction bs with
  | nil => intro K; simp
  | cons x l ih =>
   intro K
   rw [List.foldl_cons, ih, addK_mem, List.mem_cons, or_assoc]
 rw [show knows bs = bs.foldl addK [] from rfl, key]
 simp
theorem knows_snoc {bs : List BT} {j : Nat} {b : BT} (h : bs[j]? = some b) : knows (bs.take (j + 1)) = addK (knows (bs.take j)) b := by
 unfold knows
 rw [List.take_add_one, h, Option.toList_some, List.foldl_append]
 rfl
def entK (C : ClampV) (b : BT) : List Int × AVal := (keyB b, .agg (cellsG (C.aft b)))
theorem builds_B {C : ClampV} (O : C.Ok) {b : BT} (hb : b ∈ C.builds) : BuildB C b := by
 obtain ⟨h1, h2, h3⟩ := mem_builds.1 hb
 have hnp := O.np
 have hk := O.k
 refine ⟨by omega, fun i => ?_, by omega, fun i hi => ?_⟩
 ·by_cases q : i < C.ps.length
  ·have := sizes_in (O.p _ (List.getElem_mem q)) (h3 i _ (List.getElem?_eq_getElem q)).1
   omega
  ·rw [List.getD_eq_getElem?_getD, List.getElem?_eq_none (by omega)]
   decide
 ·have := (aft_is O hb hi).1
  omega
structure KnownAt (C : ClampV) (h : AH) (bm : Nat) : Prop where
 m : Has h bm (.map (esN ((knows C.builds).map (entK C))) ((knows C.builds).map (entK C)).length)
theorem KnownAt.ext {C : ClampV} {h h' : AH} {bm : Nat} (k : KnownAt C h bm) (e : Ext h h') : KnownAt C h' bm := ⟨k.m.ext e⟩
theorem builds_at {C : ClampV} {j : Nat} {item : List AVal} (h : (buildsI C)[j]? = some item) : ∃ b, C.builds[j]? = some b ∧ [.agg (builtC b)] = item := by
 unfold buildsI at h
 rw [List.getElem?_map] at h
 cases q : C.builds[j]? with
 | none => rw [q] at h; cases h
 | some b => rw [q] at h; exact ⟨b, rfl, Option.some.inj h⟩
theorem known_nil {C : ClampV} : ((knows C.builds).map (entK C)).length = 0 ↔ C.possible = false := by
 rw [possible_not, List.length_map]
 constructor
 ·intro h b hb
  have := knows_mem.2 hb
  rw [List.length_eq_zero_iff.1 h] at this;cases this
 ·intro h
  cases q : knows C.builds with
  | nil => rfl
  | cons a l => exact absurd (knows_mem.1 (q ▸ List.mem_cons_self)) (h a)
theorem truths_ok {C : ClampV} (O : C.Ok) {gp ge : AVal} {h : AH} (A : YardAt h C gp ge) : Runs Tryz.prog 48 [.agg (C.cells gp ge)] h (fun en h' => Ext h h' ∧ ((C.possible = true ∧ ∃ bm, en = .ret (.map bm) ∧ h.next ≤ bm ∧ KnownAt C h' bm) ∨ (C.possible = false ∧ en = .pan (refusal 10)))) := by
 have hbu := fun h A => builds89_ok O (gp := gp) (ge := ge) (h := h) A
 have hsm := A.same
 have haf := fun b hb h A => after_ok O (b := b) (builds_B O hb) (gp := gp) (ge := ge) (h := h) A
 unfold ClampV.cells at hbu hsm haf ⊢
 have e0 : Ext h h := Ext.refl _
 refine Runs.intro aFunc48 rfl rfl rfl rfl fun rest => ?_;apply gS;refine gR rfl ?_;refine GoR.box rfl rfl rfl rfl rfl rfl fun h0 x0 f0 => ?_;have := e0.1;replace e0 := e0.trans x0;have := f0.1;refine gP ?_;apply gE;apply gS;refine gR rfl ?_;refine GoR.makeMap rfl rfl rfl rfl rfl fun h1 x1 f1 => ?_;have := e0.1;have := f0.1;replace f0 := f0.ext x1;replace e0 := e0.trans x1;have := f1.1;refine GoR.alloc rfl rfl rfl zt77 rfl rfl fun h2 x2 f2 => ?_;have := e0.1;have := f1.1;have := f0.1;replace f1 := f1.ext x2;replace f0 := f0.ext x2;replace e0 := e0.trans x2;have := f2.1;refine GoR.store rfl rfl rfl rfl rfl rfl f2 rfl sz77 rfl rfl rfl fun h3 u3 => ?_;replace f2 := u3.has f2;replace f1 := f1.upd u3 (by omega);replace f0 := f0.upd u3 (by omega);replace e0 := e0.upd u3 (by omega);apply gE;iterate 2 apply gS
 refine gR rfl ?_;refine gO rfl rfl (ld74 rfl f0 rfl) rfl ?_;refine GoR.call rfl rfl (aCF aFunc89 rfl) (hbu _ (A.ext e0)) ?_ (by rintro _ _ ⟨by', bc, q, _, hl1, hl2, BA⟩; cases q);rintro v4 h4 ⟨by', bc, q, x4, hl1, hl2, BA⟩;cases q;refine ⟨_, rfl, ?_⟩;have := e0.1;replace f2 := f2.ext x4;replace f1 := f1.ext x4;replace f0 := f0.ext x4;replace e0 := e0.trans x4;apply gE;refine Go.block noJ_ok ?_
 have hb0 := f0.1
 have hb1 := f1.1
 have hb2 := f2.1
 have hx0 := e0.1
 have hn1 : h.next < h0.next := by omega
 have hn2 : h0.next < h1.next := by omega
 have hn3 : h1.next < by' := by have := u3.1; have := u3.2.1; omega
 have hn4 : h1.next < bc := by have := u3.1; omega
 have eF : ∀ {hh}, ExtF (fun b => b = h0.next) h4 hh → Ext h hh := fun x => x.low e0 fun b q => by omega
 refine Go.rangeN (items := buildsI C) (A := BuildsA C gp ge by' bc) (fun b => b = h0.next)
  (fun j hh G => Has hh h0.next (.map (esN ((knows (C.builds.take j)).map (entK C))) ((knows (C.builds.take j)).map (entK C)).length) ∧ ∀ b, G b ↔ b = h0.next)
  (fun _ _ _ => False) rfl aFunc120 Tryz.func48 (builds120_it O gp ge by' bc) (fun h' x => ⟨BA.f.extF x (by omega), BA.c.extF x (by omega), A.ext (eF x)⟩) ⟨f1, fun b => Iff.rfl⟩ ?_ ?_ ?_ ?_ ?_ ?_ ?_
 ·rintro k hh G b ⟨g1, hG⟩ q
  rw [(hG b).1 q]
  exact g1.1
 ·rintro c hh G b q;exact q.elim
 ·rintro k h4' h5' G ⟨g1, hG⟩ hn hk;exact ⟨g1.keep hn (hk _ g1.1 (.inr ((hG _).2 rfl))), hG⟩
 ·rintro c h4' h5' G q;exact q.elim
 ·rintro j item hj
  obtain ⟨b, hbj, rfl⟩ := builds_at hj
  have hbm := List.mem_of_getElem? hbj
  have hBB := builds_B O hbm
  refine ⟨_, rfl, ?_⟩;rintro hh G lb r0 fr rest' Q' ⟨g1, hG⟩ x1 hsub hnl hlb fl hready contT contF
  have hx1 := x1.1
  have hfl := fl.1
  replace f0 := f0.extF x1 (by omega);replace f2 := f2.extF x1 (by omega)
  have GA := A.ext (eF x1)
  have hl0 : h0.next ≠ lb := by omega
  have y9 : ExtF (fun b => G b ∨ b = lb) hh hh := ExtF.of (Ext.refl _)
  have e9 : Ext hh hh := Ext.refl _
  have hka := builtC_len hBB.len
  have hkb := builtC_same b
  have hkc := builtC_scal b
  have haf' := haf b hbm
  have hks : builtC b = i64s (keyB b) := rfl
  obtain ⟨cb, hcb⟩ : ∃ cb, builtC b = cb := ⟨_, rfl⟩
  rw [hcb] at hka hkb hkc haf' hks ⊢
  have hsl := slice_all hka
  have hsame : sameA (.agg (cellsG (C.aft b))) (.agg (cellsG (C.aft b))) = true := by unfold cellsG; simp [sameA, sameAs, eqI_eq]
  obtain ⟨f1, hf1⟩ : ∃ f1, f1 = g1 := ⟨_, rfl⟩
  clear e0 hf1 g1 contF;refine gR rfl ?_;refine GoR.alloc rfl rfl rfl zt114 rfl rfl fun h5 x5 f5 => ?_;have := e9.1;have := fl.1;have := f0.1;have := f2.1;have := f1.1;replace fl := fl.ext x5;replace f0 := f0.ext x5;replace f2 := f2.ext x5;replace f1 := f1.ext x5;replace e9 := e9.trans x5;replace y9 := y9.ext x5;have := f5.1;refine GoR.store rfl rfl rfl rfl rfl rfl f5 rfl sz114 (beq_len hka) hkc (splice_whole hka.symm) fun h6 u6 => ?_;replace f5 := u6.has f5;replace fl := fl.upd u6 (by omega);replace f0 := f0.upd u6 (by omega);replace f2 := f2.upd u6 (by omega);replace f1 := f1.upd u6 (by omega);replace e9 := e9.upd u6 (by omega);replace y9 := y9.upd u6 (.inr (by omega));apply gE;refine Go.beginRound fl hready fun h15 u15 => ?_;replace f0 := f0.upd u15 (by omega);replace f1 := f1.upd u15 (by omega);replace f2 := f2.upd u15 (by omega);replace f5 := f5.upd u15 (by omega);replace fl := u15.has fl;replace y9 := y9.upd u15 (.inl (.inr rfl))
  have he9 := e9.1
  have hu15 := u15.1
  have GB := A.ext (eF ⟨by omega, fun b hb hn => by rw [u15.2.2 b (by omega), e9.2 b (by omega), x1.2 b hb hn]⟩ : Ext h h15)
  clear e9
  have e0 : Ext h15 h15 := Ext.refl _
  have hsn := knows_snoc hbj
  obtain ⟨K, hK⟩ : ∃ K, knows (C.builds.take j) = K := ⟨_, rfl⟩
  have hKm : ∀ c, c ∈ K → c ∈ C.builds := fun c hc => by
   rw [← hK] at hc
   exact List.mem_of_mem_take (knows_mem.1 hc)
  have hKl : ∀ c, c ∈ K → c.1.length = b.1.length := fun c hc => by rw [(mem_builds.1 (hKm c hc)).2.1, (mem_builds.1 hbm).2.1]
  rw [hK] at f1 hsn;refine Go.block noJ_ok ?_;refine Go.drawnE plan48_0 ?_;refine gQ rfl rfl (ld77 rfl f2 rfl) rfl ?_;refine gQ rfl rfl (ld114 rfl f5 hsl) rfl ?_;refine gQ rfl rfl (ld74 rfl f0 rfl) rfl ?_;refine gQ rfl rfl (ld114 rfl f5 hsl) rfl ?_;refine GoE.call rfl rfl (aCF aFunc90 rfl) (haf' _ (GB.ext e0)) (dD 12 3 (dD 12 2 (dK 12 1 (dK 12 0 rfl)))) ?_ np;rintro v16 h16 ⟨q, x16⟩;cases q;replace f2 := f2.ext x16;replace f5 := f5.ext x16;replace fl := fl.ext x16;replace f1 := f1.ext x16;replace y9 := y9.ext x16;refine ⟨(rck (h2 := h16) rfl (ld114 rfl f5 hsl) (rck (h2 := h16) rfl (ld77 rfl f2 rfl) recheck_nil)), _, rfl, ?_⟩
  by_cases hin : b ∈ K
  ·have hs2 : addK K b = K := by unfold addK; rw [if_pos hin]
   rw [hs2] at hsn;refine GoE.mapOldN rfl rfl key114 Tryz.underlying77 rfl (key := keyB b) (by rw [← hks]; rfl) rfl (keyB_len hBB.len) f1 ?_ ⟨entK C b, List.mem_map.2 ⟨b, hin, rfl⟩, rfl⟩ (dD 31 1 (dD 31 0 rfl)) rfl fun h17 u17 => ⟨recheck_nil, ?_⟩
   ·intro x hx
    obtain ⟨c, hc, rfl⟩ := List.mem_map.1 hx
    refine ⟨keyB_len (by rw [hKl c hc]; exact hBB.len), fun q => ?_⟩
    have := keyB_inj (hKl c hc).symm q
    subst this
    rfl
   ·have y10 := y9.upd u17 (.inl (.inl ((hG _).2 rfl)))
    replace f1 := u17.has f1;replace fl := fl.upd u17 (by omega);clear f0 f2 f5 e0 y9;refine GoE.end rfl ?_;refine Go.inBlock noJ_ok ?_;exact contT _ _ G ⟨by rw [hsn]; exact f1, hG⟩ (fun b q => .inl q) y10 fl
  ·have hs2 : addK K b = K ++ [b] := by unfold addK; rw [if_neg hin]
   rw [hs2] at hsn;refine GoE.mapNewN rfl rfl key114 Tryz.underlying77 rfl (key := keyB b) (by rw [← hks]; rfl) rfl (keyB_len hBB.len) f1 ?_ (dD 31 1 (dD 31 0 rfl)) rfl fun h17 u17 => ⟨recheck_nil, ?_⟩
   ·intro x hx
    obtain ⟨c, hc, rfl⟩ := List.mem_map.1 hx
    refine ⟨keyB_len (by rw [hKl c hc]; exact hBB.len), fun q => ?_⟩
    have := keyB_inj (hKl c hc).symm q
    subst this;exact hin hc
   ·have y10 := y9.upd u17 (.inl (.inl ((hG _).2 rfl)))
    replace f1 := u17.has f1;replace fl := fl.upd u17 (by omega);clear f0 f2 f5 e0 y9;refine GoE.end rfl ?_;refine Go.inBlock noJ_ok ?_;exact contT _ _ G ⟨by rw [hsn, List.map_append]; exact f1, hG⟩ (fun b q => .inl q) y10 fl
 ·rintro d h30 G x30 hGs hnd hd hdd ⟨g1, hG⟩
  have e9 := eF x30
  have hx30 := x30.1
  have hlq : (buildsI C).length = C.builds.length := by unfold buildsI; rw [List.length_map]
  rw [hlq, List.take_length] at g1;replace f2 := f2.extF x30 (by omega)
  have KK : KnownAt C h30 h0.next := ⟨g1⟩
  clear e0 f0 f1
  cases hp : C.possible with
  | true =>
   have hlen0 : decide (((esN ((knows C.builds).map (entK C))).length : Int) = 0) = false := decide_eq_false (by
    rw [esN_len]
    intro z
    have := known_nil.1 (by omega : ((knows C.builds).map (entK C)).length = 0)
    rw [hp] at this
    cases this)
   refine Go.inBlock noJ_ok ?_;apply gS;refine gR rfl ?_;refine gO rfl rfl (ld77 rfl f2 rfl) rfl ?_;refine gO rfl rfl (aOp_lenMap Tryz.underlying77 rfl g1 rfl) rfl ?_;refine gO rfl rfl (aOp_eql rfl rfl hlen0) rfl ?_;refine GoR.call rfl rfl (aCF aFunc85 rfl) (refuse_no _ _) ?_ np;rintro v31 h31 ⟨q, x31⟩;cases q;refine ⟨_, rfl, ?_⟩;replace hdd := hdd.ext x31;replace g1 := g1.ext x31;replace f2 := f2.ext x31;replace e9 := e9.trans x31;apply gE;apply gS;refine gR rfl ?_;refine gO rfl rfl (ld77 rfl f2 rfl) rfl ?_;refine gP ?_;apply gE;exact Go.retC hdd fun h9 u9 => ⟨aResult_of Tryz.func48 rfl rfl, e9.upd u9 (by omega), .inl ⟨rfl, h0.next, rfl, by omega, ⟨(KK.m.ext (by assumption)).upd u9 (by omega)⟩⟩⟩
  | false =>
   have hlen0 : decide (((esN ((knows C.builds).map (entK C))).length : Int) = 0) = true := decide_eq_true (by
    rw [esN_len, known_nil.2 hp]
    rfl)
   refine Go.inBlock noJ_ok ?_;apply gS;refine gR rfl ?_;refine gO rfl rfl (ld77 rfl f2 rfl) rfl ?_;refine gO rfl rfl (aOp_lenMap Tryz.underlying77 rfl g1 rfl) rfl ?_;refine gO rfl rfl (aOp_eql rfl rfl hlen0) rfl ?_;refine GoR.callP rfl rfl (aCF aFunc85 rfl) (refuse_ok true 10 _) (by rintro _ _ ⟨_, ⟨q, _⟩ | ⟨_, q⟩⟩ <;> cases q) ?_;rintro chain h9 ⟨rfl, ⟨q, _⟩ | ⟨_, q⟩⟩
   ·cases q
   have q := AEnd.pan.inj q
   subst q;exact FLeft.collected (fun q => by cases q) hdd fun h' u => FLeft.pan ⟨e9.upd u (by omega), .inr ⟨rfl, rfl⟩⟩
 ·rintro c d h30 G x30 hGs hnd hd hdd q;exact q.elim
end Go.Proofs.YtobhkdgcciolmaaGreat
