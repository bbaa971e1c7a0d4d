import Derived.Test.YtmimdgjehnhnoaaMAP
namespace Go.Proofs.Ytmimdgjehnhnoaa
open Go Go.AbsE
set_option linter.unusedSimpArgs false
set_option maxRecDepth 100000
set_option maxHeartbeats 0
set_option linter.unusedVariables false
theorem reap_ok {F : FootV} (O : F.Ok) {rsl hsl : AVal} {g : AH} (A : FootAt g F rsl hsl) {bw bk bf bm : Nat} (hbm : g.next ≤ bm) (hd : bw ≠ bm ∧ bk ≠ bm ∧ bf ≠ bm) : ∀ (m i : Nat), i + m = F.hs.length → ∀ (st : List Int) (h : AH) (X : Nat → Prop), st.length = 8 → (∀ y, y ∈ st → 0 ≤ y ∧ y ≤ 3 * (i : Int)) → Ext g h →
  Has h bw (.cells .plain (F.cells rsl hsl) 80) → Has h bk (.cells .plain [.map bm] 143) → Has h bf (.cells .plain [.func (.func 100) [] [.ptr bw 0, .ptr bk 0, .ptr bf 0]] 144) → MapOk F X bm h → (∀ b, X b → b < h.next) →
  Runs Try.prog 100 [.agg (i64s (st ++ [(i : Int)])), .ptr bw 0, .ptr bk 0, .ptr bf 0] h (fun en h' => ∃ sods s, en = .ret (.agg [.int .i64 sods, s]) ∧ ExtF (fun b => b = bm) h h' ∧ sods = (F.reap m st).sods ∧ PlsAt (fun b => X b ∨ b = bm) h' s (F.reap m st).plans ∧ MapOk F X bm h') := by
 intro m
 induction m with
 | zero =>
  intro i him st h X hst hsi eg f0 f1 f2 M hX
  have hnh := O.nh
  have hl1 := A.hs.len
  rw [List.length_map] at hl1
  have g9 := ros_len (i := (i : Int)) hst
  have gn := ros_next (i := (i : Int)) hst
  unfold FootV.cells at f0
  have e0 : Ext h h := Ext.refl _
  refine Runs.intro aFunc100 rfl rfl rfl rfl fun rest => ?_
  apply gS
  refine gR rfl ?_
  refine GoR.box rfl rfl rfl rfl rfl rfl fun h3 x3 f3 => ?_
  have := eg.1
  have := e0.1
  have := f0.1
  have := f1.1
  have := f2.1
  replace f0 := f0.ext x3
  replace f1 := f1.ext x3
  replace f2 := f2.ext x3
  replace eg := eg.trans x3
  replace e0 := e0.trans x3
  have := f3.1
  refine GoR.alloc rfl rfl rfl zt111 rfl rfl fun h4 x4 f4 => ?_
  have := eg.1
  have := e0.1
  have := f3.1
  have := f0.1
  have := f1.1
  have := f2.1
  replace f3 := f3.ext x4
  replace f0 := f0.ext x4
  replace f1 := f1.ext x4
  replace f2 := f2.ext x4
  replace eg := eg.trans x4
  replace e0 := e0.trans x4
  have := f4.1
  apply gE
  refine Go.scope noJ_ok ?_
  iterate 2 apply gS
  refine gR rfl ?_
  refine gO rfl rfl (fa138_1 rfl) rfl ?_
  refine gO rfl rfl (ld3 rfl f3 gn) rfl ?_
  refine gO rfl rfl (fa80_4 rfl) rfl ?_
  refine gO rfl rfl (ld24 rfl f0 rfl) rfl ?_
  refine gO rfl rfl (aOp_lenSlice Try.underlying24 rfl (by assumption)) rfl ?_
  refine gO rfl rfl (kET rfl rfl) rfl ?_
  apply gE
  refine gC (b := true) rfl ?_
  apply gS
  refine gR rfl ?_
  refine gO rfl rfl (aOp_build zt111 hu111 pl111 rfl rfl) rfl ?_
  refine GoR.store rfl rfl rfl rfl rfl rfl f4 rfl sz111 rfl rfl rfl fun h5 u5 => ?_
  replace f4 := u5.has f4
  replace f3 := f3.upd u5 (by omega)
  replace f0 := f0.upd u5 (by omega)
  replace f1 := f1.upd u5 (by omega)
  replace f2 := f2.upd u5 (by omega)
  replace eg := eg.upd u5 (by omega)
  replace e0 := e0.upd u5 (by omega)
  apply gE
  exact gV (ret_end (aResult_of Try.func100 rfl (aResults_c rfl f4 (inCells_agg ag111 sz111 rfl) rfl)) (⟨_, _, rfl, .of e0, rfl, .nil, M.ext e0⟩))
 | succ m ih =>
  intro i him st h X hst hsi eg f0 f1 f2 M hX
  have hnh := O.nh
  have hl1 := A.hs.len
  rw [List.length_map] at hl1
  obtain ⟨es, clock, f, k1, k2, k3, k4, k5⟩ := id M
  have hnx : F.hs.length - i = m + 1 := by omega
  have g9 := ros_len (i := (i : Int)) hst
  have gn := ros_next (i := (i : Int)) hst
  have gs := same_ints (st ++ [(i : Int)])
  unfold FootV.cells at f0
  obtain ⟨b0, b1, b2, hbm2⟩ := And.intro f0.1 (And.intro f1.1 (And.intro f2.1 k1.1))
  cases hfi : findN (st ++ [(i : Int)]) f with
  | some v =>
   obtain ⟨s, q1, q2⟩ := MapOk.find k5 hfi
   rw [hnx] at q1 q2
   subst q1
   obtain ⟨sods, hsods⟩ : ∃ x, (F.reap (m + 1) st).sods = x := ⟨_, rfl⟩
   rw [hsods] at hfi ⊢
   have e0 : Ext h h := Ext.refl _
   refine Runs.intro aFunc100 rfl rfl rfl rfl fun rest => ?_
   apply gS
   refine gR rfl ?_
   refine GoR.box rfl rfl rfl rfl rfl rfl fun h3 x3 f3 => ?_
   have := eg.1
   have := e0.1
   have := f0.1
   have := f1.1
   have := f2.1
   have := k1.1
   replace f0 := f0.ext x3
   replace f1 := f1.ext x3
   replace f2 := f2.ext x3
   replace k1 := k1.ext x3
   replace eg := eg.trans x3
   replace e0 := e0.trans x3
   have := f3.1
   refine GoR.alloc rfl rfl rfl zt111 rfl rfl fun h4 x4 f4 => ?_
   have := eg.1
   have := e0.1
   have := f3.1
   have := f0.1
   have := f1.1
   have := f2.1
   have := k1.1
   replace f3 := f3.ext x4
   replace f0 := f0.ext x4
   replace f1 := f1.ext x4
   replace f2 := f2.ext x4
   replace k1 := k1.ext x4
   replace eg := eg.trans x4
   replace e0 := e0.trans x4
   have := f4.1
   apply gE
   refine Go.scope noJ_ok ?_
   iterate 2 apply gS
   refine gR rfl ?_
   refine gO rfl rfl (fa138_1 rfl) rfl ?_
   refine gO rfl rfl (ld3 rfl f3 gn) rfl ?_
   refine gO rfl rfl (fa80_4 rfl) rfl ?_
   refine gO rfl rfl (ld24 rfl f0 rfl) rfl ?_
   refine gO rfl rfl (aOp_lenSlice Try.underlying24 rfl (by assumption)) rfl ?_
   refine gO rfl rfl (kEF rfl rfl) rfl ?_
   apply gE
   refine gC (b := false) rfl ?_
   refine gD ?_
   iterate 2 apply gS
   refine gR rfl ?_
   refine gO rfl rfl (ld143 rfl f1 rfl) rfl ?_
   refine gO rfl rfl (ld138 rfl f3 (slice_all g9)) rfl ?_
   refine gO rfl rfl (lookN_some key138 Try.underlying143 zt111 rfl rfl (by rw [List.length_append, hst]; rfl) (by assumption) k2 k3 hfi) rfl ?_
   iterate 3 refine gP ?_
   refine GoR.alloc rfl rfl rfl zt111 rfl rfl fun h5 x5 f5 => ?_
   have := eg.1
   have := e0.1
   have := f4.1
   have := f3.1
   have := f0.1
   have := f1.1
   have := f2.1
   have := k1.1
   replace f4 := f4.ext x5
   replace f3 := f3.ext x5
   replace f0 := f0.ext x5
   replace f1 := f1.ext x5
   replace f2 := f2.ext x5
   replace k1 := k1.ext x5
   replace eg := eg.trans x5
   replace e0 := e0.trans x5
   have := f5.1
   refine GoR.store rfl rfl rfl rfl rfl rfl f5 rfl sz111 rfl (q2.sc _) rfl fun h6 u6 => ?_
   replace f5 := u6.has f5
   replace f4 := f4.upd u6 (by omega)
   replace f3 := f3.upd u6 (by omega)
   replace f0 := f0.upd u6 (by omega)
   replace f1 := f1.upd u6 (by omega)
   replace f2 := f2.upd u6 (by omega)
   replace k1 := k1.upd u6 (by omega)
   replace eg := eg.upd u6 (by omega)
   replace e0 := e0.upd u6 (by omega)
   refine gP ?_
   apply gE
   apply gS
   refine gR rfl ?_
   refine gP ?_
   apply gE
   refine gC (b := true) rfl ?_
   apply gS
   refine gR rfl ?_
   refine gO rfl rfl (ld111 rfl f5 rfl) rfl ?_
   refine GoR.store rfl rfl rfl rfl rfl rfl f4 rfl sz111 rfl (q2.sc _) rfl fun h7 u7 => ?_
   replace f5 := f5.upd u7 (by omega)
   replace f4 := u7.has f4
   replace f3 := f3.upd u7 (by omega)
   replace f0 := f0.upd u7 (by omega)
   replace f1 := f1.upd u7 (by omega)
   replace f2 := f2.upd u7 (by omega)
   replace k1 := k1.upd u7 (by omega)
   replace eg := eg.upd u7 (by omega)
   replace e0 := e0.upd u7 (by omega)
   apply gE
   exact gV (ret_end (aResult_of Try.func100 rfl (aResults_c rfl f4 (inCells_agg ag111 sz111 rfl) rfl)) (⟨_, _, rfl, .of e0, rfl, q2.ext e0, M.ext e0⟩))
  | none =>
   have e0 : Ext h h := Ext.refl _
   have hwi : ∀ h, Runs Try.prog 96 [.agg (i64s (st ++ [(i : Int)])), .agg [.int .i64 (-1), .int .i64 (-1), .int .i64 (-1)]] h (fun en h' => en = .ret (.agg (i64s (st ++ [(i : Int) + 1]))) ∧ Ext h h') := fun h => by
    have := with_ok (st := st) (i := i) (p := none3) (h := h) hst ⟨.inl rfl, .inl rfl, .inl rfl⟩ (fun y q => by have := hsi y q; omega) (by omega)
    rwa [withV_none] at this
   have hre : ∀ (st' : List Int) (S X : Nat → Prop) (h : AH), st'.length = 8 → (∀ y, y ∈ st' → 0 ≤ y ∧ y ≤ 3 * ((i : Int) + 1)) → Ext g h → Has h bw (.cells .plain (F.cells rsl hsl) 80) → Has h bk (.cells .plain [.map bm] 143) → Has h bf (.cells .plain [.func (.func 100) [] [.ptr bw 0, .ptr bk 0, .ptr bf 0]] 144) → MapOk F X bm h → (∀ b, X b → b < h.next) →
     Runs Try.prog 100 [.agg (i64s (st' ++ [(i : Int) + 1])), .ptr bw 0, .ptr bk 0, .ptr bf 0] h (fun en h' => ∃ sods s, en = .ret (.agg [.int .i64 sods, s]) ∧ ExtF (fun b => b = bm) h h' ∧ sods = (F.reap m st').sods ∧ PlsAt (fun b => X b ∨ b = bm) h' s (F.reap m st').plans ∧ MapOk F X bm h' ∧ Ext h' h' ∧ ExtF S h' h') := fun st' S X h q1 q2 q3 q4 q5 q6 q7 q8 => by
    have := ih (i + 1) (by omega) st' h X q1 (fun y q => by have := q2 y q; omega) q3 q4 q5 q6 q7 q8
    rw [show ((i + 1 : Nat) : Int) = (i : Int) + 1 by omega] at this
    exact this.mono fun en h' ⟨a, b, c1, c2, c3, c4, c5⟩ => ⟨a, b, c1, c2, c3, c4, c5, Ext.refl _, ExtF.of (Ext.refl _)⟩
   refine Runs.intro aFunc100 rfl rfl rfl rfl fun rest => ?_
   apply gS
   refine gR rfl ?_
   refine GoR.box rfl rfl rfl rfl rfl rfl fun h3 x3 f3 => ?_
   have := eg.1
   have := e0.1
   have := f0.1
   have := f1.1
   have := f2.1
   have := k1.1
   replace f0 := f0.ext x3
   replace f1 := f1.ext x3
   replace f2 := f2.ext x3
   replace k1 := k1.ext x3
   replace eg := eg.trans x3
   replace e0 := e0.trans x3
   have := f3.1
   refine GoR.alloc rfl rfl rfl zt111 rfl rfl fun h4 x4 f4 => ?_
   have := eg.1
   have := e0.1
   have := f3.1
   have := f0.1
   have := f1.1
   have := f2.1
   have := k1.1
   replace f3 := f3.ext x4
   replace f0 := f0.ext x4
   replace f1 := f1.ext x4
   replace f2 := f2.ext x4
   replace k1 := k1.ext x4
   replace eg := eg.trans x4
   replace e0 := e0.trans x4
   have := f4.1
   apply gE
   refine Go.scope noJ_ok ?_
   iterate 2 apply gS
   refine gR rfl ?_
   refine gO rfl rfl (fa138_1 rfl) rfl ?_
   refine gO rfl rfl (ld3 rfl f3 gn) rfl ?_
   refine gO rfl rfl (fa80_4 rfl) rfl ?_
   refine gO rfl rfl (ld24 rfl f0 rfl) rfl ?_
   refine gO rfl rfl (aOp_lenSlice Try.underlying24 rfl (by assumption)) rfl ?_
   refine gO rfl rfl (kEF rfl rfl) rfl ?_
   apply gE
   refine gC (b := false) rfl ?_
   refine gD ?_
   iterate 2 apply gS
   refine gR rfl ?_
   refine gO rfl rfl (ld143 rfl f1 rfl) rfl ?_
   refine gO rfl rfl (ld138 rfl f3 (slice_all g9)) rfl ?_
   refine gO rfl rfl (lookN_none key138 Try.underlying143 zt111 rfl rfl (by rw [List.length_append, hst]; rfl) (by assumption) k2 k3 hfi) rfl ?_
   iterate 3 refine gP ?_
   refine GoR.alloc rfl rfl rfl zt111 rfl rfl fun h5 x5 f5 => ?_
   have := eg.1
   have := e0.1
   have := f4.1
   have := f3.1
   have := f0.1
   have := f1.1
   have := f2.1
   have := k1.1
   replace f4 := f4.ext x5
   replace f3 := f3.ext x5
   replace f0 := f0.ext x5
   replace f1 := f1.ext x5
   replace f2 := f2.ext x5
   replace k1 := k1.ext x5
   replace eg := eg.trans x5
   replace e0 := e0.trans x5
   have := f5.1
   refine GoR.store rfl rfl rfl rfl rfl rfl f5 rfl sz111 rfl rfl rfl fun h6 u6 => ?_
   replace f5 := u6.has f5
   replace f4 := f4.upd u6 (by omega)
   replace f3 := f3.upd u6 (by omega)
   replace f0 := f0.upd u6 (by omega)
   replace f1 := f1.upd u6 (by omega)
   replace f2 := f2.upd u6 (by omega)
   replace k1 := k1.upd u6 (by omega)
   replace eg := eg.upd u6 (by omega)
   replace e0 := e0.upd u6 (by omega)
   refine gP ?_
   apply gE
   apply gS
   refine gR rfl ?_
   refine gP ?_
   apply gE
   refine gC (b := false) rfl ?_
   refine gD ?_
   have y0 : ExtF (fun b => b = bm) h h6 := .of e0
   replace f3 : Has h6 h.next (.cells .plain (i64s (st ++ [(i : Int)])) 138) := f3
   have M6 := M.ext e0
   obtain ⟨R, hR⟩ : ∃ R, F.reap m st = R := ⟨_, rfl⟩
   have hRin := reap_in O m st
   have hre1 := hre st
   rw [hR] at hRin hre1
   have hsi1 : ∀ y, y ∈ st → 0 ≤ y ∧ y ≤ 3 * ((i : Int) + 1) := fun y q => by have := hsi y q; omega
   have n6 := eg.1
   have e6 : Ext h6 h6 := Ext.refl _
   replace f4 : Has h6 h3.next (.cells .plain [.int .i64 0, .nilslice] 111) := f4
   have n4 : h4.next < h6.next := f5.1
   clear e0 k1 f5
   refine Go.seq noJ_ok (Go.join (fun a : Nat × Nat => [(1, .ptr bw 0), (2, .ptr bk 0), (3, .ptr bf 0), (4, .ptr h.next 0), (5, .ptr h3.next 0), (8, .ptr a.1 0)])
    (fun a h' => Ext g h' ∧ ExtF (fun b => b = bm) h h' ∧ Has h' bw (.cells .plain [rsl, .int .i64 F.men, .int .i64 F.l0, .int .i64 F.l1, .int .i64 F.l2, .int .i64 F.d0, .int .i64 F.d1, .int .i64 F.d2, hsl] 80) ∧ Has h' bk (.cells .plain [.map bm] 143) ∧
     Has h' bf (.cells .plain [.func (.func 100) [] [.ptr bw 0, .ptr bk 0, .ptr bf 0]] 144) ∧ Has h' h.next (.cells .plain (i64s (st ++ [(i : Int)])) 138) ∧ Has h' h3.next (.cells .plain [.int .i64 0, .nilslice] 111) ∧
     Has h' a.1 (.cells .plain [.int .i64 R.sods, .slice a.2 0 (m + 1) (m + 1)] 111) ∧ Has h' a.2 (.cells .plain ((none3 :: R.plans).flatMap Pl.cells) 27) ∧ MapOk F (fun b => X b ∨ b = a.1) bm h' ∧ h4.next ≤ a.1 ∧ h4.next ≤ a.2 ∧ a.1 ≠ a.2) ?_ ?_)
   ·intro k' done
    refine altsQ100 ?_ ?_ ?_ ?_ ?_ ?_
    ·intro pl hpl
     rw [plQ100a] at hpl
     cases hpl
     refine gQ rfl rfl (ld144 rfl f2 rfl) rfl ?_
     refine gQ rfl rfl (ld138 rfl f3 (slice_all g9)) rfl ?_
     refine GoE.alloc rfl rfl zt111 (dK 0 1 (dK 0 0 rfl)) rfl rfl fun h7 x7 f7 => ?_
     have := eg.1
     have := e6.1
     have := f0.1
     have := f1.1
     have := f2.1
     have := f3.1
     have := f4.1
     replace f0 := f0.ext x7
     replace f1 := f1.ext x7
     replace f2 := f2.ext x7
     replace f3 := f3.ext x7
     replace f4 := f4.ext x7
     replace eg := eg.trans x7
     replace e6 := e6.trans x7
     replace y0 := y0.ext x7
     have := f7.1
     refine ⟨(rck (h2 := h7) rfl (ld138 rfl f3 (slice_all g9)) (rck (h2 := h7) rfl (ld144 rfl f2 rfl) recheck_nil)), ?_⟩
     refine GoE.call rfl rfl (aCF aFunc101 rfl) (noSteps_ok) (dK 128 1 (dK 128 0 rfl)) ?_ np
     rintro v8 h8 ⟨q, x8⟩
     cases q
     replace f7 := f7.ext x8
     replace f0 := f0.ext x8
     replace f1 := f1.ext x8
     replace f2 := f2.ext x8
     replace f3 := f3.ext x8
     replace f4 := f4.ext x8
     replace eg := eg.trans x8
     replace e6 := e6.trans x8
     replace y0 := y0.ext x8
     refine ⟨(rck (h2 := h8) rfl (ld138 rfl f3 (slice_all g9)) (rck (h2 := h8) rfl (ld144 rfl f2 rfl) recheck_nil)), _, rfl, ?_⟩
     refine GoE.call rfl rfl (aCF aFunc96 rfl) (hwi _) (dD 134 1 (dK 134 0 rfl)) ?_ np
     rintro v9 h9 ⟨q, x9⟩
     cases q
     replace f7 := f7.ext x9
     replace f0 := f0.ext x9
     replace f1 := f1.ext x9
     replace f2 := f2.ext x9
     replace f3 := f3.ext x9
     replace f4 := f4.ext x9
     replace eg := eg.trans x9
     replace e6 := e6.trans x9
     replace y0 := y0.ext x9
     refine ⟨(rck (h2 := h9) rfl (ld144 rfl f2 rfl) recheck_nil), _, rfl, ?_⟩
     refine GoE.call rfl rfl (aOp_callVal rfl aFunc100 rfl) (hre1 (fun b => b = h6.next) (fun b => X b ∨ b = h6.next) _ hst hsi1 eg f0 f1 f2 ((M6.add (Nat.le_refl _)).ext e6) (lt_add hX y0.1 f7.1)) (dD 143 0 rfl) ?_ (by rintro _ _ ⟨_, s, q, _, rfl, hs2, M2, e7, yo⟩; cases q)
     rintro v10 h10 ⟨_, s, q, y10, rfl, hs2, M2, e7, yo⟩
     cases q
     have := eg.1
     have := e6.1
     have := f7.1
     have := f0.1
     have := f1.1
     have := f2.1
     have := f3.1
     have := f4.1
     have := eg.1
     have := e6.1
     have := f7.1
     have := f0.1
     have := f1.1
     have := f2.1
     have := f3.1
     have := f4.1
     replace f7 := f7.extF y10 (fun q => by omega)
     replace f0 := f0.extF y10 (fun q => by omega)
     replace f1 := f1.extF y10 (fun q => by omega)
     replace f2 := f2.extF y10 (fun q => by omega)
     replace f3 := f3.extF y10 (fun q => by omega)
     replace f4 := f4.extF y10 (fun q => by omega)
     replace eg := y10.low eg (fun b q => by omega)
     clear e6
     replace y0 := y0.trans (fun b q => .inl q) y10
     have := y10.1
     refine ⟨recheck_nil, _, rfl, ?_⟩
     refine GoE.call rfl rfl (aCF aFunc101 rfl) (noSteps_ok) rfl ?_ np
     rintro v11 h11 ⟨q, x11⟩
     cases q
     replace f7 := f7.ext x11
     replace f0 := f0.ext x11
     replace f1 := f1.ext x11
     replace f2 := f2.ext x11
     replace f3 := f3.ext x11
     replace f4 := f4.ext x11
     replace e7 := e7.trans x11
     replace eg := eg.trans x11
     replace y10 := y10.ext x11
     replace yo := yo.ext x11
     replace y0 := y0.ext x11
     refine ⟨recheck_nil, _, rfl, ?_⟩
     refine GoE.call rfl rfl (aCF aFunc102 rfl) (after_ok (p := none3) (n := 0) (hs2.ext e7).sl (by omega) (by omega) (by omega)) rfl ?_ (by rintro _ _ ⟨bp, q, _, hbp, _⟩; cases q)
     rintro v12 h12 ⟨bp, q, x12, hbp, f12⟩
     cases q
     have := e7.1
     have := eg.1
     have := f7.1
     have := f0.1
     have := f1.1
     have := f2.1
     have := f3.1
     have := f4.1
     replace f7 := f7.ext x12
     replace f0 := f0.ext x12
     replace f1 := f1.ext x12
     replace f2 := f2.ext x12
     replace f3 := f3.ext x12
     replace f4 := f4.ext x12
     replace e7 := e7.trans x12
     replace eg := eg.trans x12
     replace y10 := y10.ext x12
     replace yo := yo.ext x12
     replace y0 := y0.ext x12
     refine ⟨recheck_nil, _, rfl, ?_⟩
     refine GoE.store rfl rfl rfl rfl rfl rfl rfl f7 rfl sz111 rfl rfl rfl fun h13 u13 => ?_
     replace f12 := f12.upd u13 (by omega)
     replace f7 := u13.has f7
     replace f0 := f0.upd u13 (by omega)
     replace f1 := f1.upd u13 (by omega)
     replace f2 := f2.upd u13 (by omega)
     replace f3 := f3.upd u13 (by omega)
     replace f4 := f4.upd u13 (by omega)
     clear e7
     replace eg := eg.upd u13 (by omega)
     replace yo := yo.upd u13 (.inl rfl)
     replace y0 := y0.upd u13 (.inr (by omega))
     refine ⟨recheck_nil, ?_⟩
     refine GoE.end rfl ?_
     rw [Int.zero_add, hRin.1] at f7
     exact done (h6.next, bp) _ _ ⟨rfl, rfl, rfl, rfl, rfl, rfl, trivial⟩ ⟨eg, y0, f0, f1, f2, f3, f4, f7, by assumption, M2.extF yo (fun _ q => .inr q), by dsimp only; omega, by dsimp only; omega, by dsimp only; omega⟩
    ·intro pl hpl
     rw [plQ100b] at hpl
     cases hpl
     refine gQ rfl rfl (ld144 rfl f2 rfl) rfl ?_
     refine gQ rfl rfl (ld138 rfl f3 (slice_all g9)) rfl ?_
     refine GoE.call rfl rfl (aCF aFunc101 rfl) (noSteps_ok) (dK 0 1 (dK 0 0 rfl)) ?_ np
     rintro v7 h7 ⟨q, x7⟩
     cases q
     replace f0 := f0.ext x7
     replace f1 := f1.ext x7
     replace f2 := f2.ext x7
     replace f3 := f3.ext x7
     replace f4 := f4.ext x7
     replace eg := eg.trans x7
     replace e6 := e6.trans x7
     replace y0 := y0.ext x7
     refine ⟨(rck (h2 := h7) rfl (ld138 rfl f3 (slice_all g9)) (rck (h2 := h7) rfl (ld144 rfl f2 rfl) recheck_nil)), _, rfl, ?_⟩
     refine GoE.alloc rfl rfl zt111 (dK 4 1 (dK 4 0 rfl)) rfl rfl fun h8 x8 f8 => ?_
     have := eg.1
     have := e6.1
     have := f0.1
     have := f1.1
     have := f2.1
     have := f3.1
     have := f4.1
     replace f0 := f0.ext x8
     replace f1 := f1.ext x8
     replace f2 := f2.ext x8
     replace f3 := f3.ext x8
     replace f4 := f4.ext x8
     replace eg := eg.trans x8
     replace e6 := e6.trans x8
     replace y0 := y0.ext x8
     have := f8.1
     refine ⟨(rck (h2 := h8) rfl (ld138 rfl f3 (slice_all g9)) (rck (h2 := h8) rfl (ld144 rfl f2 rfl) recheck_nil)), ?_⟩
     refine GoE.call rfl rfl (aCF aFunc96 rfl) (hwi _) (dD 134 1 (dK 134 0 rfl)) ?_ np
     rintro v9 h9 ⟨q, x9⟩
     cases q
     replace f8 := f8.ext x9
     replace f0 := f0.ext x9
     replace f1 := f1.ext x9
     replace f2 := f2.ext x9
     replace f3 := f3.ext x9
     replace f4 := f4.ext x9
     replace eg := eg.trans x9
     replace e6 := e6.trans x9
     replace y0 := y0.ext x9
     refine ⟨(rck (h2 := h9) rfl (ld144 rfl f2 rfl) recheck_nil), _, rfl, ?_⟩
     refine GoE.call rfl rfl (aOp_callVal rfl aFunc100 rfl) (hre1 (fun b => b = h7.next) (fun b => X b ∨ b = h7.next) _ hst hsi1 eg f0 f1 f2 ((M6.add (by have := y0.1; omega)).ext e6) (lt_add hX y0.1 f8.1)) (dD 143 0 rfl) ?_ (by rintro _ _ ⟨_, s, q, _, rfl, hs2, M2, e7, yo⟩; cases q)
     rintro v10 h10 ⟨_, s, q, y10, rfl, hs2, M2, e7, yo⟩
     cases q
     have := eg.1
     have := e6.1
     have := f8.1
     have := f0.1
     have := f1.1
     have := f2.1
     have := f3.1
     have := f4.1
     have := eg.1
     have := e6.1
     have := f8.1
     have := f0.1
     have := f1.1
     have := f2.1
     have := f3.1
     have := f4.1
     replace f8 := f8.extF y10 (fun q => by omega)
     replace f0 := f0.extF y10 (fun q => by omega)
     replace f1 := f1.extF y10 (fun q => by omega)
     replace f2 := f2.extF y10 (fun q => by omega)
     replace f3 := f3.extF y10 (fun q => by omega)
     replace f4 := f4.extF y10 (fun q => by omega)
     replace eg := y10.low eg (fun b q => by omega)
     clear e6
     replace y0 := y0.trans (fun b q => .inl q) y10
     have := y10.1
     refine ⟨recheck_nil, _, rfl, ?_⟩
     refine GoE.call rfl rfl (aCF aFunc101 rfl) (noSteps_ok) rfl ?_ np
     rintro v11 h11 ⟨q, x11⟩
     cases q
     replace f8 := f8.ext x11
     replace f0 := f0.ext x11
     replace f1 := f1.ext x11
     replace f2 := f2.ext x11
     replace f3 := f3.ext x11
     replace f4 := f4.ext x11
     replace e7 := e7.trans x11
     replace eg := eg.trans x11
     replace y10 := y10.ext x11
     replace yo := yo.ext x11
     replace y0 := y0.ext x11
     refine ⟨recheck_nil, _, rfl, ?_⟩
     refine GoE.call rfl rfl (aCF aFunc102 rfl) (after_ok (p := none3) (n := 0) (hs2.ext e7).sl (by omega) (by omega) (by omega)) rfl ?_ (by rintro _ _ ⟨bp, q, _, hbp, _⟩; cases q)
     rintro v12 h12 ⟨bp, q, x12, hbp, f12⟩
     cases q
     have := e7.1
     have := eg.1
     have := f8.1
     have := f0.1
     have := f1.1
     have := f2.1
     have := f3.1
     have := f4.1
     replace f8 := f8.ext x12
     replace f0 := f0.ext x12
     replace f1 := f1.ext x12
     replace f2 := f2.ext x12
     replace f3 := f3.ext x12
     replace f4 := f4.ext x12
     replace e7 := e7.trans x12
     replace eg := eg.trans x12
     replace y10 := y10.ext x12
     replace yo := yo.ext x12
     replace y0 := y0.ext x12
     refine ⟨recheck_nil, _, rfl, ?_⟩
     refine GoE.store rfl rfl rfl rfl rfl rfl rfl f8 rfl sz111 rfl rfl rfl fun h13 u13 => ?_
     replace f12 := f12.upd u13 (by omega)
     replace f8 := u13.has f8
     replace f0 := f0.upd u13 (by omega)
     replace f1 := f1.upd u13 (by omega)
     replace f2 := f2.upd u13 (by omega)
     replace f3 := f3.upd u13 (by omega)
     replace f4 := f4.upd u13 (by omega)
     clear e7
     replace eg := eg.upd u13 (by omega)
     replace yo := yo.upd u13 (.inl rfl)
     replace y0 := y0.upd u13 (.inr (by omega))
     refine ⟨recheck_nil, ?_⟩
     refine GoE.end rfl ?_
     rw [Int.zero_add, hRin.1] at f8
     exact done (h7.next, bp) _ _ ⟨rfl, rfl, rfl, rfl, rfl, rfl, trivial⟩ ⟨eg, y0, f0, f1, f2, f3, f4, f8, by assumption, M2.extF yo (fun _ q => .inr q), by dsimp only; omega, by dsimp only; omega, by dsimp only; omega⟩
    ·intro pl hpl
     rw [plQ100c] at hpl
     cases hpl
     refine gQ rfl rfl (ld144 rfl f2 rfl) rfl ?_
     refine gQ rfl rfl (ld138 rfl f3 (slice_all g9)) rfl ?_
     refine GoE.call rfl rfl (aCF aFunc101 rfl) (noSteps_ok) (dK 0 1 (dK 0 0 rfl)) ?_ np
     rintro v7 h7 ⟨q, x7⟩
     cases q
     replace f0 := f0.ext x7
     replace f1 := f1.ext x7
     replace f2 := f2.ext x7
     replace f3 := f3.ext x7
     replace f4 := f4.ext x7
     replace eg := eg.trans x7
     replace e6 := e6.trans x7
     replace y0 := y0.ext x7
     refine ⟨(rck (h2 := h7) rfl (ld138 rfl f3 (slice_all g9)) (rck (h2 := h7) rfl (ld144 rfl f2 rfl) recheck_nil)), _, rfl, ?_⟩
     refine GoE.call rfl rfl (aCF aFunc96 rfl) (hwi _) (dD 6 1 (dK 6 0 rfl)) ?_ np
     rintro v8 h8 ⟨q, x8⟩
     cases q
     replace f0 := f0.ext x8
     replace f1 := f1.ext x8
     replace f2 := f2.ext x8
     replace f3 := f3.ext x8
     replace f4 := f4.ext x8
     replace eg := eg.trans x8
     replace e6 := e6.trans x8
     replace y0 := y0.ext x8
     refine ⟨(rck (h2 := h8) rfl (ld144 rfl f2 rfl) recheck_nil), _, rfl, ?_⟩
     refine GoE.alloc rfl rfl zt111 (dK 14 0 rfl) rfl rfl fun h9 x9 f9 => ?_
     have := eg.1
     have := e6.1
     have := f0.1
     have := f1.1
     have := f2.1
     have := f3.1
     have := f4.1
     replace f0 := f0.ext x9
     replace f1 := f1.ext x9
     replace f2 := f2.ext x9
     replace f3 := f3.ext x9
     replace f4 := f4.ext x9
     replace eg := eg.trans x9
     replace e6 := e6.trans x9
     replace y0 := y0.ext x9
     have := f9.1
     refine ⟨(rck (h2 := h9) rfl (ld144 rfl f2 rfl) recheck_nil), ?_⟩
     refine GoE.call rfl rfl (aOp_callVal rfl aFunc100 rfl) (hre1 (fun b => b = h8.next) (fun b => X b ∨ b = h8.next) _ hst hsi1 eg f0 f1 f2 ((M6.add (by have := y0.1; omega)).ext e6) (lt_add hX y0.1 f9.1)) (dD 143 0 rfl) ?_ (by rintro _ _ ⟨_, s, q, _, rfl, hs2, M2, e7, yo⟩; cases q)
     rintro v10 h10 ⟨_, s, q, y10, rfl, hs2, M2, e7, yo⟩
     cases q
     have := eg.1
     have := e6.1
     have := f9.1
     have := f0.1
     have := f1.1
     have := f2.1
     have := f3.1
     have := f4.1
     have := eg.1
     have := e6.1
     have := f9.1
     have := f0.1
     have := f1.1
     have := f2.1
     have := f3.1
     have := f4.1
     replace f9 := f9.extF y10 (fun q => by omega)
     replace f0 := f0.extF y10 (fun q => by omega)
     replace f1 := f1.extF y10 (fun q => by omega)
     replace f2 := f2.extF y10 (fun q => by omega)
     replace f3 := f3.extF y10 (fun q => by omega)
     replace f4 := f4.extF y10 (fun q => by omega)
     replace eg := y10.low eg (fun b q => by omega)
     clear e6
     replace y0 := y0.trans (fun b q => .inl q) y10
     have := y10.1
     refine ⟨recheck_nil, _, rfl, ?_⟩
     refine GoE.call rfl rfl (aCF aFunc101 rfl) (noSteps_ok) rfl ?_ np
     rintro v11 h11 ⟨q, x11⟩
     cases q
     replace f9 := f9.ext x11
     replace f0 := f0.ext x11
     replace f1 := f1.ext x11
     replace f2 := f2.ext x11
     replace f3 := f3.ext x11
     replace f4 := f4.ext x11
     replace e7 := e7.trans x11
     replace eg := eg.trans x11
     replace y10 := y10.ext x11
     replace yo := yo.ext x11
     replace y0 := y0.ext x11
     refine ⟨recheck_nil, _, rfl, ?_⟩
     refine GoE.call rfl rfl (aCF aFunc102 rfl) (after_ok (p := none3) (n := 0) (hs2.ext e7).sl (by omega) (by omega) (by omega)) rfl ?_ (by rintro _ _ ⟨bp, q, _, hbp, _⟩; cases q)
     rintro v12 h12 ⟨bp, q, x12, hbp, f12⟩
     cases q
     have := e7.1
     have := eg.1
     have := f9.1
     have := f0.1
     have := f1.1
     have := f2.1
     have := f3.1
     have := f4.1
     replace f9 := f9.ext x12
     replace f0 := f0.ext x12
     replace f1 := f1.ext x12
     replace f2 := f2.ext x12
     replace f3 := f3.ext x12
     replace f4 := f4.ext x12
     replace e7 := e7.trans x12
     replace eg := eg.trans x12
     replace y10 := y10.ext x12
     replace yo := yo.ext x12
     replace y0 := y0.ext x12
     refine ⟨recheck_nil, _, rfl, ?_⟩
     refine GoE.store rfl rfl rfl rfl rfl rfl rfl f9 rfl sz111 rfl rfl rfl fun h13 u13 => ?_
     replace f12 := f12.upd u13 (by omega)
     replace f9 := u13.has f9
     replace f0 := f0.upd u13 (by omega)
     replace f1 := f1.upd u13 (by omega)
     replace f2 := f2.upd u13 (by omega)
     replace f3 := f3.upd u13 (by omega)
     replace f4 := f4.upd u13 (by omega)
     clear e7
     replace eg := eg.upd u13 (by omega)
     replace yo := yo.upd u13 (.inl rfl)
     replace y0 := y0.upd u13 (.inr (by omega))
     refine ⟨recheck_nil, ?_⟩
     refine GoE.end rfl ?_
     rw [Int.zero_add, hRin.1] at f9
     exact done (h8.next, bp) _ _ ⟨rfl, rfl, rfl, rfl, rfl, rfl, trivial⟩ ⟨eg, y0, f0, f1, f2, f3, f4, f9, by assumption, M2.extF yo (fun _ q => .inr q), by dsimp only; omega, by dsimp only; omega, by dsimp only; omega⟩
    ·intro pl hpl
     rw [plQ100d] at hpl
     cases hpl
     refine gQ rfl rfl (ld144 rfl f2 rfl) rfl ?_
     refine gQ rfl rfl (ld138 rfl f3 (slice_all g9)) rfl ?_
     refine GoE.call rfl rfl (aCF aFunc101 rfl) (noSteps_ok) (dK 0 1 (dK 0 0 rfl)) ?_ np
     rintro v7 h7 ⟨q, x7⟩
     cases q
     replace f0 := f0.ext x7
     replace f1 := f1.ext x7
     replace f2 := f2.ext x7
     replace f3 := f3.ext x7
     replace f4 := f4.ext x7
     replace eg := eg.trans x7
     replace e6 := e6.trans x7
     replace y0 := y0.ext x7
     refine ⟨(rck (h2 := h7) rfl (ld138 rfl f3 (slice_all g9)) (rck (h2 := h7) rfl (ld144 rfl f2 rfl) recheck_nil)), _, rfl, ?_⟩
     refine GoE.call rfl rfl (aCF aFunc96 rfl) (hwi _) (dD 6 1 (dK 6 0 rfl)) ?_ np
     rintro v8 h8 ⟨q, x8⟩
     cases q
     replace f0 := f0.ext x8
     replace f1 := f1.ext x8
     replace f2 := f2.ext x8
     replace f3 := f3.ext x8
     replace f4 := f4.ext x8
     replace eg := eg.trans x8
     replace e6 := e6.trans x8
     replace y0 := y0.ext x8
     refine ⟨(rck (h2 := h8) rfl (ld144 rfl f2 rfl) recheck_nil), _, rfl, ?_⟩
     refine GoE.call rfl rfl (aOp_callVal rfl aFunc100 rfl) (hre1 X X _ hst hsi1 eg f0 f1 f2 (M6.ext e6) (lt_le hX y0.1)) (dD 15 0 rfl) ?_ (by rintro _ _ ⟨_, s, q, _, rfl, hs2, M2, e7, yo⟩; cases q)
     rintro v9 h9 ⟨_, s, q, y9, rfl, hs2, M2, e7, yo⟩
     cases q
     have := eg.1
     have := e6.1
     have := f0.1
     have := f1.1
     have := f2.1
     have := f3.1
     have := f4.1
     have := eg.1
     have := e6.1
     have := f0.1
     have := f1.1
     have := f2.1
     have := f3.1
     have := f4.1
     replace f0 := f0.extF y9 (fun q => by omega)
     replace f1 := f1.extF y9 (fun q => by omega)
     replace f2 := f2.extF y9 (fun q => by omega)
     replace f3 := f3.extF y9 (fun q => by omega)
     replace f4 := f4.extF y9 (fun q => by omega)
     replace eg := y9.low eg (fun b q => by omega)
     clear e6
     replace y0 := y0.trans (fun b q => .inl q) y9
     have := y9.1
     refine ⟨recheck_nil, _, rfl, ?_⟩
     refine GoE.alloc rfl rfl zt111 rfl rfl rfl fun h10 x10 f10 => ?_
     have := e7.1
     have := eg.1
     have := f0.1
     have := f1.1
     have := f2.1
     have := f3.1
     have := f4.1
     replace f0 := f0.ext x10
     replace f1 := f1.ext x10
     replace f2 := f2.ext x10
     replace f3 := f3.ext x10
     replace f4 := f4.ext x10
     replace e7 := e7.trans x10
     replace eg := eg.trans x10
     replace y9 := y9.ext x10
     replace yo := yo.ext x10
     replace y0 := y0.ext x10
     have := f10.1
     refine ⟨recheck_nil, ?_⟩
     refine GoE.call rfl rfl (aCF aFunc101 rfl) (noSteps_ok) rfl ?_ np
     rintro v11 h11 ⟨q, x11⟩
     cases q
     replace f10 := f10.ext x11
     replace f0 := f0.ext x11
     replace f1 := f1.ext x11
     replace f2 := f2.ext x11
     replace f3 := f3.ext x11
     replace f4 := f4.ext x11
     replace e7 := e7.trans x11
     replace eg := eg.trans x11
     replace y9 := y9.ext x11
     replace yo := yo.ext x11
     replace y0 := y0.ext x11
     refine ⟨recheck_nil, _, rfl, ?_⟩
     refine GoE.call rfl rfl (aCF aFunc102 rfl) (after_ok (p := none3) (n := 0) (hs2.ext e7).sl (by omega) (by omega) (by omega)) rfl ?_ (by rintro _ _ ⟨bp, q, _, hbp, _⟩; cases q)
     rintro v12 h12 ⟨bp, q, x12, hbp, f12⟩
     cases q
     have := e7.1
     have := eg.1
     have := f10.1
     have := f0.1
     have := f1.1
     have := f2.1
     have := f3.1
     have := f4.1
     replace f10 := f10.ext x12
     replace f0 := f0.ext x12
     replace f1 := f1.ext x12
     replace f2 := f2.ext x12
     replace f3 := f3.ext x12
     replace f4 := f4.ext x12
     replace e7 := e7.trans x12
     replace eg := eg.trans x12
     replace y9 := y9.ext x12
     replace yo := yo.ext x12
     replace y0 := y0.ext x12
     refine ⟨recheck_nil, _, rfl, ?_⟩
     refine GoE.store rfl rfl rfl rfl rfl rfl rfl f10 rfl sz111 rfl rfl rfl fun h13 u13 => ?_
     replace f12 := f12.upd u13 (by omega)
     replace f10 := u13.has f10
     replace f0 := f0.upd u13 (by omega)
     replace f1 := f1.upd u13 (by omega)
     replace f2 := f2.upd u13 (by omega)
     replace f3 := f3.upd u13 (by omega)
     replace f4 := f4.upd u13 (by omega)
     replace e7 := e7.upd u13 (by omega)
     replace eg := eg.upd u13 (by omega)
     replace y9 := y9.upd u13 (.inr (by omega))
     replace yo := yo.upd u13 (.inr (by omega))
     replace y0 := y0.upd u13 (.inr (by omega))
     refine ⟨recheck_nil, ?_⟩
     refine GoE.end rfl ?_
     rw [Int.zero_add, hRin.1] at f10
     exact done (h9.next, bp) _ _ ⟨rfl, rfl, rfl, rfl, rfl, rfl, trivial⟩ ⟨eg, y0, f0, f1, f2, f3, f4, f10, by assumption, (M2.add (by dsimp only; omega)).ext e7, by dsimp only; omega, by dsimp only; omega, by dsimp only; omega⟩
    ·intro pl hpl
     rw [plQ100e] at hpl
     cases hpl
     refine gQ rfl rfl (ld144 rfl f2 rfl) rfl ?_
     refine gQ rfl rfl (ld138 rfl f3 (slice_all g9)) rfl ?_
     refine GoE.call rfl rfl (aCF aFunc101 rfl) (noSteps_ok) (dK 0 1 (dK 0 0 rfl)) ?_ np
     rintro v7 h7 ⟨q, x7⟩
     cases q
     replace f0 := f0.ext x7
     replace f1 := f1.ext x7
     replace f2 := f2.ext x7
     replace f3 := f3.ext x7
     replace f4 := f4.ext x7
     replace eg := eg.trans x7
     replace e6 := e6.trans x7
     replace y0 := y0.ext x7
     refine ⟨(rck (h2 := h7) rfl (ld138 rfl f3 (slice_all g9)) (rck (h2 := h7) rfl (ld144 rfl f2 rfl) recheck_nil)), _, rfl, ?_⟩
     refine GoE.call rfl rfl (aCF aFunc96 rfl) (hwi _) (dD 6 1 (dK 6 0 rfl)) ?_ np
     rintro v8 h8 ⟨q, x8⟩
     cases q
     replace f0 := f0.ext x8
     replace f1 := f1.ext x8
     replace f2 := f2.ext x8
     replace f3 := f3.ext x8
     replace f4 := f4.ext x8
     replace eg := eg.trans x8
     replace e6 := e6.trans x8
     replace y0 := y0.ext x8
     refine ⟨(rck (h2 := h8) rfl (ld144 rfl f2 rfl) recheck_nil), _, rfl, ?_⟩
     refine GoE.call rfl rfl (aOp_callVal rfl aFunc100 rfl) (hre1 X X _ hst hsi1 eg f0 f1 f2 (M6.ext e6) (lt_le hX y0.1)) (dD 15 0 rfl) ?_ (by rintro _ _ ⟨_, s, q, _, rfl, hs2, M2, e7, yo⟩; cases q)
     rintro v9 h9 ⟨_, s, q, y9, rfl, hs2, M2, e7, yo⟩
     cases q
     have := eg.1
     have := e6.1
     have := f0.1
     have := f1.1
     have := f2.1
     have := f3.1
     have := f4.1
     have := eg.1
     have := e6.1
     have := f0.1
     have := f1.1
     have := f2.1
     have := f3.1
     have := f4.1
     replace f0 := f0.extF y9 (fun q => by omega)
     replace f1 := f1.extF y9 (fun q => by omega)
     replace f2 := f2.extF y9 (fun q => by omega)
     replace f3 := f3.extF y9 (fun q => by omega)
     replace f4 := f4.extF y9 (fun q => by omega)
     replace eg := y9.low eg (fun b q => by omega)
     clear e6
     replace y0 := y0.trans (fun b q => .inl q) y9
     have := y9.1
     refine ⟨recheck_nil, _, rfl, ?_⟩
     refine GoE.call rfl rfl (aCF aFunc101 rfl) (noSteps_ok) rfl ?_ np
     rintro v10 h10 ⟨q, x10⟩
     cases q
     replace f0 := f0.ext x10
     replace f1 := f1.ext x10
     replace f2 := f2.ext x10
     replace f3 := f3.ext x10
     replace f4 := f4.ext x10
     replace e7 := e7.trans x10
     replace eg := eg.trans x10
     replace y9 := y9.ext x10
     replace yo := yo.ext x10
     replace y0 := y0.ext x10
     refine ⟨recheck_nil, _, rfl, ?_⟩
     refine GoE.alloc rfl rfl zt111 rfl rfl rfl fun h11 x11 f11 => ?_
     have := e7.1
     have := eg.1
     have := f0.1
     have := f1.1
     have := f2.1
     have := f3.1
     have := f4.1
     replace f0 := f0.ext x11
     replace f1 := f1.ext x11
     replace f2 := f2.ext x11
     replace f3 := f3.ext x11
     replace f4 := f4.ext x11
     replace e7 := e7.trans x11
     replace eg := eg.trans x11
     replace y9 := y9.ext x11
     replace yo := yo.ext x11
     replace y0 := y0.ext x11
     have := f11.1
     refine ⟨recheck_nil, ?_⟩
     refine GoE.call rfl rfl (aCF aFunc102 rfl) (after_ok (p := none3) (n := 0) (hs2.ext e7).sl (by omega) (by omega) (by omega)) rfl ?_ (by rintro _ _ ⟨bp, q, _, hbp, _⟩; cases q)
     rintro v12 h12 ⟨bp, q, x12, hbp, f12⟩
     cases q
     have := e7.1
     have := eg.1
     have := f11.1
     have := f0.1
     have := f1.1
     have := f2.1
     have := f3.1
     have := f4.1
     replace f11 := f11.ext x12
     replace f0 := f0.ext x12
     replace f1 := f1.ext x12
     replace f2 := f2.ext x12
     replace f3 := f3.ext x12
     replace f4 := f4.ext x12
     replace e7 := e7.trans x12
     replace eg := eg.trans x12
     replace y9 := y9.ext x12
     replace yo := yo.ext x12
     replace y0 := y0.ext x12
     refine ⟨recheck_nil, _, rfl, ?_⟩
     refine GoE.store rfl rfl rfl rfl rfl rfl rfl f11 rfl sz111 rfl rfl rfl fun h13 u13 => ?_
     replace f12 := f12.upd u13 (by omega)
     replace f11 := u13.has f11
     replace f0 := f0.upd u13 (by omega)
     replace f1 := f1.upd u13 (by omega)
     replace f2 := f2.upd u13 (by omega)
     replace f3 := f3.upd u13 (by omega)
     replace f4 := f4.upd u13 (by omega)
     replace e7 := e7.upd u13 (by omega)
     replace eg := eg.upd u13 (by omega)
     replace y9 := y9.upd u13 (.inr (by omega))
     replace yo := yo.upd u13 (.inr (by omega))
     replace y0 := y0.upd u13 (.inr (by omega))
     refine ⟨recheck_nil, ?_⟩
     refine GoE.end rfl ?_
     rw [Int.zero_add, hRin.1] at f11
     exact done (h10.next, bp) _ _ ⟨rfl, rfl, rfl, rfl, rfl, rfl, trivial⟩ ⟨eg, y0, f0, f1, f2, f3, f4, f11, by assumption, (M2.add (by dsimp only; omega)).ext e7, by dsimp only; omega, by dsimp only; omega, by dsimp only; omega⟩
    ·intro pl hpl
     rw [plQ100f] at hpl
     cases hpl
     refine gQ rfl rfl (ld144 rfl f2 rfl) rfl ?_
     refine gQ rfl rfl (ld138 rfl f3 (slice_all g9)) rfl ?_
     refine GoE.call rfl rfl (aCF aFunc101 rfl) (noSteps_ok) (dK 0 1 (dK 0 0 rfl)) ?_ np
     rintro v7 h7 ⟨q, x7⟩
     cases q
     replace f0 := f0.ext x7
     replace f1 := f1.ext x7
     replace f2 := f2.ext x7
     replace f3 := f3.ext x7
     replace f4 := f4.ext x7
     replace eg := eg.trans x7
     replace e6 := e6.trans x7
     replace y0 := y0.ext x7
     refine ⟨(rck (h2 := h7) rfl (ld138 rfl f3 (slice_all g9)) (rck (h2 := h7) rfl (ld144 rfl f2 rfl) recheck_nil)), _, rfl, ?_⟩
     refine GoE.call rfl rfl (aCF aFunc96 rfl) (hwi _) (dD 6 1 (dK 6 0 rfl)) ?_ np
     rintro v8 h8 ⟨q, x8⟩
     cases q
     replace f0 := f0.ext x8
     replace f1 := f1.ext x8
     replace f2 := f2.ext x8
     replace f3 := f3.ext x8
     replace f4 := f4.ext x8
     replace eg := eg.trans x8
     replace e6 := e6.trans x8
     replace y0 := y0.ext x8
     refine ⟨(rck (h2 := h8) rfl (ld144 rfl f2 rfl) recheck_nil), _, rfl, ?_⟩
     refine GoE.call rfl rfl (aOp_callVal rfl aFunc100 rfl) (hre1 X X _ hst hsi1 eg f0 f1 f2 (M6.ext e6) (lt_le hX y0.1)) (dD 15 0 rfl) ?_ (by rintro _ _ ⟨_, s, q, _, rfl, hs2, M2, e7, yo⟩; cases q)
     rintro v9 h9 ⟨_, s, q, y9, rfl, hs2, M2, e7, yo⟩
     cases q
     have := eg.1
     have := e6.1
     have := f0.1
     have := f1.1
     have := f2.1
     have := f3.1
     have := f4.1
     have := eg.1
     have := e6.1
     have := f0.1
     have := f1.1
     have := f2.1
     have := f3.1
     have := f4.1
     replace f0 := f0.extF y9 (fun q => by omega)
     replace f1 := f1.extF y9 (fun q => by omega)
     replace f2 := f2.extF y9 (fun q => by omega)
     replace f3 := f3.extF y9 (fun q => by omega)
     replace f4 := f4.extF y9 (fun q => by omega)
     replace eg := y9.low eg (fun b q => by omega)
     clear e6
     replace y0 := y0.trans (fun b q => .inl q) y9
     have := y9.1
     refine ⟨recheck_nil, _, rfl, ?_⟩
     refine GoE.call rfl rfl (aCF aFunc101 rfl) (noSteps_ok) rfl ?_ np
     rintro v10 h10 ⟨q, x10⟩
     cases q
     replace f0 := f0.ext x10
     replace f1 := f1.ext x10
     replace f2 := f2.ext x10
     replace f3 := f3.ext x10
     replace f4 := f4.ext x10
     replace e7 := e7.trans x10
     replace eg := eg.trans x10
     replace y9 := y9.ext x10
     replace yo := yo.ext x10
     replace y0 := y0.ext x10
     refine ⟨recheck_nil, _, rfl, ?_⟩
     refine GoE.call rfl rfl (aCF aFunc102 rfl) (after_ok (p := none3) (n := 0) (hs2.ext e7).sl (by omega) (by omega) (by omega)) rfl ?_ (by rintro _ _ ⟨bp, q, _, hbp, _⟩; cases q)
     rintro v11 h11 ⟨bp, q, x11, hbp, f11⟩
     cases q
     have := e7.1
     have := eg.1
     have := f0.1
     have := f1.1
     have := f2.1
     have := f3.1
     have := f4.1
     replace f0 := f0.ext x11
     replace f1 := f1.ext x11
     replace f2 := f2.ext x11
     replace f3 := f3.ext x11
     replace f4 := f4.ext x11
     replace e7 := e7.trans x11
     replace eg := eg.trans x11
     replace y9 := y9.ext x11
     replace yo := yo.ext x11
     replace y0 := y0.ext x11
     refine ⟨recheck_nil, _, rfl, ?_⟩
     refine GoE.alloc rfl rfl zt111 rfl rfl rfl fun h12 x12 f12 => ?_
     have := e7.1
     have := eg.1
     have := f11.1
     have := f0.1
     have := f1.1
     have := f2.1
     have := f3.1
     have := f4.1
     replace f11 := f11.ext x12
     replace f0 := f0.ext x12
     replace f1 := f1.ext x12
     replace f2 := f2.ext x12
     replace f3 := f3.ext x12
     replace f4 := f4.ext x12
     replace e7 := e7.trans x12
     replace eg := eg.trans x12
     replace y9 := y9.ext x12
     replace yo := yo.ext x12
     replace y0 := y0.ext x12
     have := f12.1
     refine ⟨recheck_nil, ?_⟩
     refine GoE.store rfl rfl rfl rfl rfl rfl rfl f12 rfl sz111 rfl rfl rfl fun h13 u13 => ?_
     replace f12 := u13.has f12
     replace f11 := f11.upd u13 (by omega)
     replace f0 := f0.upd u13 (by omega)
     replace f1 := f1.upd u13 (by omega)
     replace f2 := f2.upd u13 (by omega)
     replace f3 := f3.upd u13 (by omega)
     replace f4 := f4.upd u13 (by omega)
     replace e7 := e7.upd u13 (by omega)
     replace eg := eg.upd u13 (by omega)
     replace y9 := y9.upd u13 (.inr (by omega))
     replace yo := yo.upd u13 (.inr (by omega))
     replace y0 := y0.upd u13 (.inr (by omega))
     refine ⟨recheck_nil, ?_⟩
     refine GoE.end rfl ?_
     rw [Int.zero_add, hRin.1] at f12
     exact done (h11.next, bp) _ _ ⟨rfl, rfl, rfl, rfl, rfl, rfl, trivial⟩ ⟨eg, y0, f0, f1, f2, f3, f4, f12, by assumption, (M2.add (by dsimp only; omega)).ext e7, by dsimp only; omega, by dsimp only; omega, by dsimp only; omega⟩
   ·clear eg y0 f0 f1 f2 f3 f4 M6 e6
    rintro ⟨bo, bp⟩ h20 ⟨eg, y0, f0, f1, f2, f3, f4, fo, fp, M20, hbo, hbp, hop⟩
    dsimp only at fo fp hbo hbp hop ⊢
    have hlft := fun h A => left_ok O (rsl := rsl) (hsl := hsl) (h := h) A hst (i := i) (by omega)
    have hwh := fun h => whole91_ok (F := F) (rsl := rsl) (hsl := hsl) h
    unfold FootV.cells at hlft hwh
    have e8 : Ext h20 h20 := Ext.refl _
    have nq := y0.1
    have nbo20 := fo.1
    apply gS
    refine gR rfl ?_
    refine gO rfl rfl (ld80 rfl f0 rfl) rfl ?_
    refine gO rfl rfl (ld138 rfl f3 (slice_all g9)) rfl ?_
    refine GoR.call rfl rfl (aCF aFunc103 rfl) (hlft _ (A.ext eg)) ?_ np
    rintro v21 h21 ⟨q, x21⟩
    cases q
    refine ⟨_, rfl, ?_⟩
    replace f0 := f0.ext x21
    replace f1 := f1.ext x21
    replace f2 := f2.ext x21
    replace f3 := f3.ext x21
    replace f4 := f4.ext x21
    replace fo := fo.ext x21
    replace fp := fp.ext x21
    replace eg := eg.trans x21
    replace e8 := e8.trans x21
    replace y0 := y0.ext x21
    refine GoR.alloc rfl rfl rfl zt3 rfl rfl fun h22 x22 f22 => ?_
    have := eg.1
    have := e8.1
    have := f0.1
    have := f1.1
    have := f2.1
    have := f3.1
    have := f4.1
    have := fo.1
    have := fp.1
    replace f0 := f0.ext x22
    replace f1 := f1.ext x22
    replace f2 := f2.ext x22
    replace f3 := f3.ext x22
    replace f4 := f4.ext x22
    replace fo := fo.ext x22
    replace fp := fp.ext x22
    replace eg := eg.trans x22
    replace e8 := e8.trans x22
    replace y0 := y0.ext x22
    have := f22.1
    refine GoR.store rfl rfl rfl rfl rfl rfl f22 rfl sz3 rfl rfl rfl fun h23 u23 => ?_
    replace f22 := u23.has f22
    replace f0 := f0.upd u23 (by omega)
    replace f1 := f1.upd u23 (by omega)
    replace f2 := f2.upd u23 (by omega)
    replace f3 := f3.upd u23 (by omega)
    replace f4 := f4.upd u23 (by omega)
    replace fo := fo.upd u23 (by omega)
    replace fp := fp.upd u23 (by omega)
    replace eg := eg.upd u23 (by omega)
    replace e8 := e8.upd u23 (by omega)
    replace y0 := y0.upd u23 (.inr (by omega))
    apply gE
    apply gS
    refine Go.label noJ_ok ?_
    iterate 2 apply gS
    refine gR rfl ?_
    refine gO rfl rfl (ld80 rfl f0 rfl) rfl ?_
    refine GoR.call rfl rfl (aCF aFunc91 rfl) (hwh _) ?_ (by rintro _ _ ⟨bz, q, _, fz, hbz⟩; cases q)
    rintro v24 h24 ⟨bz, q, x24, fz, hbz⟩
    cases q
    refine ⟨_, rfl, ?_⟩
    have := eg.1
    have := e8.1
    replace f22 := f22.ext x24
    replace f0 := f0.ext x24
    replace f1 := f1.ext x24
    replace f2 := f2.ext x24
    replace f3 := f3.ext x24
    replace f4 := f4.ext x24
    replace fo := fo.ext x24
    replace fp := fp.ext x24
    replace eg := eg.trans x24
    replace e8 := e8.trans x24
    replace y0 := y0.ext x24
    apply gE
    refine Go.block noJ_ok ?_
    have n24 := eg.1
    have n8 := e8.1
    have n0 := y0.1
    have na := f22.1
    have hbzm : bz ≠ bm := by omega
    have hbzo : bz ≠ bo := by omega
    have nz := fz.1
    have M24 := M20.ext e8
    obtain ⟨ba, hba⟩ : ∃ b, b = h21.next := ⟨_, rfl⟩
    rw [← hba] at f22 na ⊢
    have hnr := O.nr
    have hF : F.reap (m + 1) st = (wholeL F.rs.length).foldl (F.goB st i (F.reap m)) ⟨R.sods, none3 :: R.plans⟩ := by
     show (wholeL F.rs.length).foldl (F.goB st (F.hs.length - (m + 1)) (F.reap m)) _ = _
     rw [show F.hs.length - (m + 1) = i by omega, hR]
    have hFi := reap_in O (m + 1) st
    rw [hF] at hFi ⊢
    have hlen : ∀ L' : List Pl, (L'.foldl (F.goB st i (F.reap m)) ⟨R.sods, none3 :: R.plans⟩).plans.length = m + 1 ∧ 0 ≤ (L'.foldl (F.goB st i (F.reap m)) ⟨R.sods, none3 :: R.plans⟩).sods ∧ (L'.foldl (F.goB st i (F.reap m)) ⟨R.sods, none3 :: R.plans⟩).sods ≤ 500 * ((m + 1 : Nat) : Int) := by
     have hsi := sodsAt_in O i
     refine goB_fold (fun x => x.plans.length = m + 1 ∧ 0 ≤ x.sods ∧ x.sods ≤ 500 * ((m + 1 : Nat) : Int)) ?_ (fun st' p => ?_)
     ·dsimp only
      rw [List.length_cons]
      omega
     ·have := reap_in O m st'
      dsimp only
      rw [List.length_cons]
      omega
    have hmem : ∀ (j : Nat) p, (wholeL F.rs.length)[j]? = some p → 0 ≤ p.a ∧ p.a < p.b ∧ p.b < p.c ∧ p.c < F.rs.length := fun j p q => whole_mem.1 (List.mem_of_getElem? q)
    have hord : ∀ (j : Nat) p, (wholeL F.rs.length)[j]? = some p → p.Ord F.rs.length := fun j p q => whole_ord (List.mem_of_getElem? q)
    obtain ⟨L, hL⟩ : ∃ L, wholeL F.rs.length = L := ⟨_, rfl⟩
    have hrl := A.rs.len
    rw [List.length_map] at hrl
    have hit := whole_itP O (hsl := hsl) hrl bz
    rw [hL] at hF hFi hmem hord hit ⊢
    obtain ⟨mo, hmo⟩ : ∃ mo : Nat → Hv, mo = fun j => (L.take j).foldl (F.goB st i (F.reap m)) ⟨R.sods, none3 :: R.plans⟩ := ⟨_, rfl⟩
    have hmi : ∀ j, (mo j).plans.length = m + 1 ∧ 0 ≤ (mo j).sods ∧ (mo j).sods ≤ 500 * ((m + 1 : Nat) : Int) := fun j => by rw [hmo]; exact hlen _
    have hm0 : mo 0 = ⟨R.sods, none3 :: R.plans⟩ := by rw [hmo]; rfl
    have hms : ∀ j p, L[j]? = some p → mo (j + 1) = F.goB st i (F.reap m) (mo j) p := fun j p q => by
     rw [hmo]
     dsimp only
     rw [List.take_add_one, q, Option.toList_some, List.foldl_append]
     rfl
    have hme : ∀ j, (mo j).sods = F.rest i → L.foldl (F.goB st i (F.reap m)) ⟨R.sods, none3 :: R.plans⟩ = mo j := fun j q => by
     rw [hmo] at q ⊢
     dsimp only at q ⊢
     conv => lhs; rw [← List.take_append_drop j L]
     rw [List.foldl_append]
     exact goB_stop q _
    have hml : L.foldl (F.goB st i (F.reap m)) ⟨R.sods, none3 :: R.plans⟩ = mo L.length := by rw [hmo]; dsimp only; rw [List.take_length]
    clear hlen
    obtain ⟨fin, hfin⟩ : ∃ fin, L.foldl (F.goB st i (F.reap m)) ⟨R.sods, none3 :: R.plans⟩ = fin := ⟨_, rfl⟩
    rw [hfin] at hFi hme hml ⊢
    have hfr : F.reap (F.hs.length - i) st = fin := by rw [hnx, hF, hfin]
    have hlb : ∀ lb, h24.next ≤ lb → g.next ≤ lb ∧ h.next ≤ lb ∧ bw ≠ lb ∧ bk ≠ lb ∧ bf ≠ lb ∧ h.next ≠ lb ∧ h3.next ≠ lb ∧ ba ≠ lb ∧ bz ≠ lb ∧ bo ≠ lb := fun lb q => by
     have := fo.1
     have := f4.1
     have := f3.1
     omega
    refine Go.rangeP (fun lb j hh => h24.next ≤ lb ∧ RSt F rsl hsl g h bw bk bf bm h.next h3.next ba bz bo X m i st lb (mo j) hh) (fun lb c hh => c = .exit 0 ∧ h24.next ≤ lb ∧ RSt F rsl hsl g h bw bk bf bm h.next h3.next ba bz bo X m i st lb fin hh) rfl aFunc119 rfl hit (fun lb j hh q => q.2.fz) ?_ ?_ ?_ ?_ ?_ ?_
    ·intro lb h2 q e
     have := fp.1
     refine ⟨q, eg.trans e, y0.ext e, f0.ext e, f1.ext e, f2.ext e, f3.ext e, f4.ext e, f22.ext e, fz.ext e, ⟨bp, ?_, ?_, by omega, Ne.symm hop, by omega, by omega⟩, (M24.add q).ext e⟩
     ·rw [hm0]
      exact fo.ext e
     ·rw [hm0]
      exact fp.ext e
    ·rintro lb j h1 h2 ⟨q, k⟩ q1 q2
     exact ⟨q, k.keep q1 q2 (hlb lb q)⟩
    ·rintro lb c h1 h2 ⟨q0, q, k⟩ q1 q2
     exact ⟨q0, q, k.keep q1 q2 (hlb lb q)⟩
    ·intro j item hj
     obtain ⟨p, hp, rfl⟩ : ∃ p, L[j]? = some p ∧ Pl.cells p = item := by
      rw [List.getElem?_map] at hj
      cases q : L[j]? with
      | none => rw [q] at hj; cases hj
      | some p => rw [q] at hj; exact ⟨p, rfl, Option.some.inj hj⟩
     refine ⟨_, rfl, ?_⟩
     rintro hh d lb r0 fr rest' Q' ⟨hlo, eg, y0, f0, f1, f2, f3, f4, fa, fz, ⟨bp, fo, fp, hbp1, hbp2, hbp3, hbp4⟩, M⟩ hd1 hd2 fl fd hready contT contF
     have hxi := hmi j
     have hpm := hmem j p hp
     have hpo := hord j p hp
     have hmsj := hms j p hp
     have hmej := hme j
     obtain ⟨x, hx⟩ : ∃ x, mo j = x := ⟨_, rfl⟩
     rw [hx] at fo fp hxi hmsj hmej
     have hbo4 := hlb lb hlo
     have e0 : Ext hh hh := Ext.refl _
     unfold Pl.cells
     have nlb := fl.1
     refine gR rfl ?_
     refine GoR.alloc rfl rfl rfl zt83 rfl rfl fun h25 x25 f25 => ?_
     have := eg.1
     have := e0.1
     have := f0.1
     have := f1.1
     have := f2.1
     have := f3.1
     have := f4.1
     have := fa.1
     have := fz.1
     have := fl.1
     have := fd.1
     have := fp.1
     have := fo.1
     replace f0 := f0.ext x25
     replace f1 := f1.ext x25
     replace f2 := f2.ext x25
     replace f3 := f3.ext x25
     replace f4 := f4.ext x25
     replace fa := fa.ext x25
     replace fz := fz.ext x25
     replace fl := fl.ext x25
     replace fd := fd.ext x25
     replace fp := fp.ext x25
     replace fo := fo.ext x25
     replace eg := eg.trans x25
     replace e0 := e0.trans x25
     replace y0 := y0.ext x25
     have := f25.1
     refine GoR.store rfl rfl rfl rfl rfl rfl f25 rfl sz83 rfl rfl rfl fun h26 u26 => ?_
     replace f25 := u26.has f25
     replace f0 := f0.upd u26 (by omega)
     replace f1 := f1.upd u26 (by omega)
     replace f2 := f2.upd u26 (by omega)
     replace f3 := f3.upd u26 (by omega)
     replace f4 := f4.upd u26 (by omega)
     replace fa := fa.upd u26 (by omega)
     replace fz := fz.upd u26 (by omega)
     replace fl := fl.upd u26 (by omega)
     replace fd := fd.upd u26 (by omega)
     replace fp := fp.upd u26 (by omega)
     replace fo := fo.upd u26 (by omega)
     replace eg := eg.upd u26 (by omega)
     replace e0 := e0.upd u26 (by omega)
     replace y0 := y0.upd u26 (.inr (by omega))
     apply gE
     refine Go.beginRound fl hready fun h30 u30 => ?_
     have n25 := f25.1
     have nnh := e0.1
     have M30 := (M.ext e0).extF (S := fun b => b = lb) (h' := h30) ⟨by rw [u30.1]; exact Nat.le_refl _, fun b _ q => u30.2.2 b q⟩ (fun b q => .inr q)
     replace f25 := f25.upd u30 (by omega)
     replace f0 := f0.upd u30 (by omega)
     replace f1 := f1.upd u30 (by omega)
     replace f2 := f2.upd u30 (by omega)
     replace f3 := f3.upd u30 (by omega)
     replace f4 := f4.upd u30 (by omega)
     replace fa := fa.upd u30 (by omega)
     replace fz := fz.upd u30 (by omega)
     replace fd := fd.upd u30 (by omega)
     replace fp := fp.upd u30 (by omega)
     replace fo := fo.upd u30 (by omega)
     replace fl := u30.has fl
     replace eg := eg.upd u30 (by omega)
     replace y0 := y0.upd u30 (.inr (by omega))
     have hx30 := u30.1
     have nbo := fo.1
     clear e0
     have e0 : Ext h30 h30 := Ext.refl _
     by_cases c1 : x.sods = F.rest i
     ·refine Go.block noJ_ok ?_
      apply gS
      refine Go.block noJ_ok ?_
      apply gS
      refine gR rfl ?_
      refine gO rfl rfl (fa111_0 rfl) rfl ?_
      refine gO rfl rfl (ld3 rfl fo rfl) rfl ?_
      refine gO rfl rfl (ld3 rfl fa rfl) rfl ?_
      refine gO rfl rfl (kET rfl rfl) rfl ?_
      refine gP ?_
      apply gE
      refine gC (b := true) rfl ?_
      rw [hmej c1] at contF
      exact contF _ _ _ _ (.inr ⟨0, rfl, rfl⟩) ⟨rfl, hlo, eg, y0, f0, f1, f2, f3, f4, fa, fz, ⟨bp, fo, fp, hbp1, hbp2, hbp3, hbp4⟩, M30.ext e0⟩ fl fd
     ·have hfu := fun h => full_ok (men := F.men) (h := h) hst (i := (i : Int)) (p := p) (by omega)
      have hke := fun h A => kept_ok O (rsl := rsl) (hsl := hsl) (h := h) A true (i := i) (by omega) p hpo
      have hwo := fun h => worst_ok (F := F) (rsl := rsl) (hsl := hsl) (h := h)
      have s1 := same_cells F A
      have s2 := same_truth F A true
      have s4 := same_plan p
      obtain ⟨tv, htv⟩ : ∃ tv, truthV true F rsl hsl = tv := ⟨_, rfl⟩
      rw [htv] at hke hwo s2
      unfold FootV.cells at hke hwo
      unfold Pl.cells at hfu hke
      have hsame : (fullB st F.men p = true ∨ ¬ F.Kept true i p) → mo (j + 1) = x := fun q => by
       rw [hmsj]
       unfold FootV.goB
       rw [if_neg c1, if_pos q]
      cases c2 : fullB st F.men p with
      | true =>
       rw [c2] at hfu
       rw [hsame (.inl c2)] at contT
       refine Go.block noJ_ok ?_
       apply gS
       refine Go.block noJ_ok ?_
       apply gS
       refine gR rfl ?_
       refine gO rfl rfl (fa111_0 rfl) rfl ?_
       refine gO rfl rfl (ld3 rfl fo rfl) rfl ?_
       refine gO rfl rfl (ld3 rfl fa rfl) rfl ?_
       refine gO rfl rfl (kEF rfl rfl) rfl ?_
       refine gP ?_
       apply gE
       refine gC (b := false) rfl ?_
       apply gS
       refine Go.drawnE plan100_1 ?_
       refine gQ rfl rfl (ld138 rfl f3 (slice_all g9)) rfl ?_
       refine gQ rfl rfl (ld83 rfl f25 rfl) rfl ?_
       refine gQ rfl rfl (fa80_1 rfl) rfl ?_
       refine gQ rfl rfl (ld3 rfl f0 rfl) rfl ?_
       refine GoE.call rfl rfl (aCF aFunc104 rfl) (hfu _) (dD 15 3 (dD 15 2 (dD 15 1 (dD 15 0 rfl)))) ?_ np
       rintro v31 h31 ⟨q, x31⟩
       cases q
       replace f25 := f25.ext x31
       replace f0 := f0.ext x31
       replace f1 := f1.ext x31
       replace f2 := f2.ext x31
       replace f3 := f3.ext x31
       replace f4 := f4.ext x31
       replace fa := fa.ext x31
       replace fz := fz.ext x31
       replace fd := fd.ext x31
       replace fp := fp.ext x31
       replace fo := fo.ext x31
       replace fl := fl.ext x31
       replace eg := eg.trans x31
       replace e0 := e0.trans x31
       replace y0 := y0.ext x31
       refine ⟨recheck_nil, _, rfl, ?_⟩
       refine gQ rfl rfl rfl rfl ?_
       iterate 8 refine GoE.skip rfl rfl rfl ?_
       iterate 2 refine gQ rfl rfl rfl rfl ?_
       refine GoE.end rfl ?_
       refine gC (b := true) rfl ?_
       refine gD ?_
       exact contT _ _ ⟨hlo, eg, y0, f0, f1, f2, f3, f4, fa, fz, ⟨bp, fo, fp, hbp1, hbp2, hbp3, hbp4⟩, M30.ext e0⟩ fl fd
      | false =>
       rw [c2] at hfu
       by_cases c3 : F.Kept true i p
       ·rw [decide_eq_true c3] at hke
        refine Go.block noJ_ok ?_
        apply gS
        refine Go.block noJ_ok ?_
        apply gS
        refine gR rfl ?_
        refine gO rfl rfl (fa111_0 rfl) rfl ?_
        refine gO rfl rfl (ld3 rfl fo rfl) rfl ?_
        refine gO rfl rfl (ld3 rfl fa rfl) rfl ?_
        refine gO rfl rfl (kEF rfl rfl) rfl ?_
        refine gP ?_
        apply gE
        refine gC (b := false) rfl ?_
        apply gS
        refine Go.drawnE plan100_1 ?_
        refine gQ rfl rfl (ld138 rfl f3 (slice_all g9)) rfl ?_
        refine gQ rfl rfl (ld83 rfl f25 rfl) rfl ?_
        refine gQ rfl rfl (fa80_1 rfl) rfl ?_
        refine gQ rfl rfl (ld3 rfl f0 rfl) rfl ?_
        refine GoE.call rfl rfl (aCF aFunc104 rfl) (hfu _) (dD 15 3 (dD 15 2 (dD 15 1 (dD 15 0 rfl)))) ?_ np
        rintro v31 h31 ⟨q, x31⟩
        cases q
        replace f25 := f25.ext x31
        replace f0 := f0.ext x31
        replace f1 := f1.ext x31
        replace f2 := f2.ext x31
        replace f3 := f3.ext x31
        replace f4 := f4.ext x31
        replace fa := fa.ext x31
        replace fz := fz.ext x31
        replace fd := fd.ext x31
        replace fp := fp.ext x31
        replace fo := fo.ext x31
        replace fl := fl.ext x31
        replace eg := eg.trans x31
        replace e0 := e0.trans x31
        replace y0 := y0.ext x31
        refine ⟨recheck_nil, _, rfl, ?_⟩
        refine gQ rfl rfl rfl rfl ?_
        iterate 2 refine gQ rfl rfl (ld80 rfl f0 rfl) rfl ?_
        refine gQ rfl rfl (fa138_1 rfl) rfl ?_
        refine gQ rfl rfl (ld3 rfl f3 gn) rfl ?_
        refine gQ rfl rfl (ld83 rfl f25 rfl) rfl ?_
        refine GoE.call rfl rfl (aCF aFunc58 rfl) (hwo _) (dK 191 11 (dK 191 10 (dK 191 9 (dD 191 7 (dK 191 6 (dD 191 5 rfl)))))) ?_ np
        rintro v32 h32 ⟨q, x32⟩
        cases q
        replace f25 := f25.ext x32
        replace f0 := f0.ext x32
        replace f1 := f1.ext x32
        replace f2 := f2.ext x32
        replace f3 := f3.ext x32
        replace f4 := f4.ext x32
        replace fa := fa.ext x32
        replace fz := fz.ext x32
        replace fd := fd.ext x32
        replace fp := fp.ext x32
        replace fo := fo.ext x32
        replace fl := fl.ext x32
        replace eg := eg.trans x32
        replace e0 := e0.trans x32
        replace y0 := y0.ext x32
        refine ⟨(rck (h2 := h32) rfl (ld83 rfl f25 rfl) (rck (h2 := h32) rfl (ld3 rfl f3 gn) (rck (h2 := h32) rfl (fa138_1 rfl) (rck (h2 := h32) rfl (ld80 rfl f0 rfl) recheck_nil)))), _, rfl, ?_⟩
        refine GoE.call rfl rfl (aCF aFunc87 rfl) (hke _ (A.ext eg)) (dD 4095 11 (dD 4095 10 (dD 4095 9 (dD 4095 6 rfl)))) ?_ np
        rintro v33 h33 ⟨q, x33⟩
        cases q
        replace f25 := f25.ext x33
        replace f0 := f0.ext x33
        replace f1 := f1.ext x33
        replace f2 := f2.ext x33
        replace f3 := f3.ext x33
        replace f4 := f4.ext x33
        replace fa := fa.ext x33
        replace fz := fz.ext x33
        replace fd := fd.ext x33
        replace fp := fp.ext x33
        replace fo := fo.ext x33
        replace fl := fl.ext x33
        replace eg := eg.trans x33
        replace e0 := e0.trans x33
        replace y0 := y0.ext x33
        refine ⟨recheck_nil, _, rfl, ?_⟩
        iterate 3 refine gQ rfl rfl rfl rfl ?_
        refine GoE.end rfl ?_
        refine gC (b := false) rfl ?_
        refine gD ?_
        refine Go.inBlock noJ_ok ?_
        obtain ⟨R2, hR2⟩ : ∃ R2, F.reap m (withV st p) = R2 := ⟨_, rfl⟩
        have hre2 := hre (withV st p)
        have hRi2 := reap_in O m (withV st p)
        rw [hR2] at hre2 hRi2
        have hwl : (withV st p).length = 8 := by rw [withV_len, hst]
        have hwi2 : ∀ y, y ∈ withV st p → 0 ≤ y ∧ y ≤ 3 * ((i : Int) + 1) := fun y q => by
         have := withV_in (p := p) (m := 3 * (i : Int)) hsi (by omega) y q
         omega
        have hwp := fun h => with_ok (h := h) hst (i := (i : Int)) (p := p) ⟨.inr (by omega), .inr (by omega), .inr (by omega)⟩ (fun y q => by have := hsi y q; omega) (by omega)
        unfold Pl.cells at hwp
        obtain ⟨y, hy⟩ : ∃ y, F.hs[i]? = some y := ⟨_, List.getElem?_eq_getElem (by omega)⟩
        obtain ⟨bs, off, q1, q2⟩ := A.hs.at (i := i) (l := HF.cells y) (by rw [List.getElem?_map, hy]; rfl)
        rw [List.length_map] at q1
        unfold HF.cells at q2
        have hya : F.sodsAt i = y.sods := by unfold FootV.sodsAt; rw [hy]
        have hyi := sodsAt_in O i
        rw [hya] at hyi
        have hX30 : ∀ b, (X b ∨ b = bo) ∨ b = lb → b < h30.next := fun b q => q.elim (fun q => q.elim (fun q => by have := hX b q; omega) (fun q => by have := fo.1; have := e0.1; omega)) (fun q => by omega)
        have n40 := e0.1
        have e6 := e0
        have s5 := A.hs.same
        refine Go.seq noJ_ok (Go.join (fun a : Nat × Nat => [(1, .ptr bw 0), (2, .ptr bk 0), (3, .ptr bf 0), (4, .ptr h.next 0), (5, .ptr h3.next 0), (8, .ptr bo 0), (9, .ptr ba 0), (11, .ptr a.1 0)])
         (fun a h' => Ext g h' ∧ ExtF (fun b => b = bm) h h' ∧ Has h' bw (.cells .plain [rsl, .int .i64 F.men, .int .i64 F.l0, .int .i64 F.l1, .int .i64 F.l2, .int .i64 F.d0, .int .i64 F.d1, .int .i64 F.d2, hsl] 80) ∧ Has h' bk (.cells .plain [.map bm] 143) ∧
          Has h' bf (.cells .plain [.func (.func 100) [] [.ptr bw 0, .ptr bk 0, .ptr bf 0]] 144) ∧ Has h' h.next (.cells .plain (i64s (st ++ [(i : Int)])) 138) ∧ Has h' h3.next (.cells .plain [.int .i64 0, .nilslice] 111) ∧ Has h' ba (.cells .plain [.int .i64 (F.rest i)] 3) ∧
          Has h' bz (.cells .plain [rsl, .int .i64 F.men, .int .i64 F.l0, .int .i64 F.l1, .int .i64 F.l2, .int .i64 F.d0, .int .i64 F.d1, .int .i64 F.d2, hsl] 80) ∧ Has h' bo (.cells .plain [.int .i64 x.sods, .slice bp 0 (m + 1) (m + 1)] 111) ∧ Has h' bp (.cells .plain (x.plans.flatMap Pl.cells) 27) ∧
          Has h' lb (.loop { r0 with state := .busy }) ∧ Has h' d (.deferred (some [])) ∧ Has h' a.1 (.cells .plain [.int .i64 (y.sods + R2.sods), .slice a.2 0 (m + 1) (m + 1)] 111) ∧ Has h' a.2 (.cells .plain ((p :: R2.plans).flatMap Pl.cells) 27) ∧
          MapOk F (fun b => ((X b ∨ b = bo) ∨ b = lb) ∨ b = a.1) bm h' ∧ h30.next ≤ a.1 ∧ h30.next ≤ a.2) ?_ ?_)
        ·intro k' done
         refine altsR100 ?_ ?_ ?_ ?_
         ·intro pl hpl
          rw [plR100a] at hpl
          cases hpl
          refine gQ rfl rfl (ld144 rfl f2 rfl) rfl ?_
          refine gQ rfl rfl (ld138 rfl f3 (slice_all g9)) rfl ?_
          iterate 2 refine gQ rfl rfl (ld83 rfl f25 rfl) rfl ?_
          refine gQ rfl rfl (fa80_4 rfl) rfl ?_
          refine gQ rfl rfl (ld24 rfl f0 rfl) rfl ?_
          refine gQ rfl rfl (fa138_1 rfl) rfl ?_
          refine gQ rfl rfl (ld3 rfl f3 gn) rfl ?_
          refine gQ rfl rfl (aOp_indexAddr (i := i) Try.underlying24 sz72 rfl (by assumption) rfl (Nat.ble_eq_true_of_le (by omega))) rfl ?_
          refine gQ rfl rfl (fa72_1 rfl) rfl ?_
          refine gQ rfl rfl (aOp_loadE1 (k := 2) ag3 rfl (q2.ext eg) rfl) rfl ?_
          refine GoE.alloc rfl rfl zt111 (dK 0 12 (dK 0 11 (dK 0 10 (dK 0 9 (dK 0 8 (dK 0 7 (dK 0 6 (dK 0 5 (dK 0 2 (dK 0 1 (dK 0 0 rfl))))))))))) rfl rfl fun h34 x34 f34 => ?_
          have := eg.1
          have := e0.1
          have := e6.1
          have := f25.1
          have := f0.1
          have := f1.1
          have := f2.1
          have := f3.1
          have := f4.1
          have := fa.1
          have := fz.1
          have := fd.1
          have := fp.1
          have := fo.1
          have := fl.1
          replace f25 := f25.ext x34
          replace f0 := f0.ext x34
          replace f1 := f1.ext x34
          replace f2 := f2.ext x34
          replace f3 := f3.ext x34
          replace f4 := f4.ext x34
          replace fa := fa.ext x34
          replace fz := fz.ext x34
          replace fd := fd.ext x34
          replace fp := fp.ext x34
          replace fo := fo.ext x34
          replace fl := fl.ext x34
          replace eg := eg.trans x34
          replace e0 := e0.trans x34
          replace e6 := e6.trans x34
          replace y0 := y0.ext x34
          have := f34.1
          refine ⟨(rck (h2 := h34) rfl (aOp_loadE1 (k := 2) ag3 rfl (q2.ext eg) rfl) (rck (h2 := h34) rfl (fa72_1 rfl) (rck (h2 := h34) rfl (aOp_indexAddr (i := i) Try.underlying24 sz72 rfl (by assumption) rfl (Nat.ble_eq_true_of_le (by omega))) (rck (h2 := h34) rfl (ld3 rfl f3 gn) (rck (h2 := h34) rfl (fa138_1 rfl) (rck (h2 := h34) rfl (ld24 rfl f0 rfl) (rck (h2 := h34) rfl (fa80_4 rfl) (rck (h2 := h34) rfl (ld83 rfl f25 rfl) (rck (h2 := h34) rfl (ld83 rfl f25 rfl) (rck (h2 := h34) rfl (ld138 rfl f3 (slice_all g9)) (rck (h2 := h34) rfl (ld144 rfl f2 rfl) recheck_nil))))))))))), ?_⟩
          refine GoE.call rfl rfl (aCF aFunc96 rfl) (hwp _) (dK 16390 12 (dK 16390 11 (dK 16390 10 (dK 16390 9 (dK 16390 8 (dK 16390 7 (dK 16390 6 (dK 16390 5 (dD 16390 2 (dD 16390 1 (dK 16390 0 rfl))))))))))) ?_ np
          rintro v35 h35 ⟨q, x35⟩
          cases q
          replace f34 := f34.ext x35
          replace f25 := f25.ext x35
          replace f0 := f0.ext x35
          replace f1 := f1.ext x35
          replace f2 := f2.ext x35
          replace f3 := f3.ext x35
          replace f4 := f4.ext x35
          replace fa := fa.ext x35
          replace fz := fz.ext x35
          replace fd := fd.ext x35
          replace fp := fp.ext x35
          replace fo := fo.ext x35
          replace fl := fl.ext x35
          replace eg := eg.trans x35
          replace e0 := e0.trans x35
          replace e6 := e6.trans x35
          replace y0 := y0.ext x35
          refine ⟨(rck (h2 := h35) rfl (aOp_loadE1 (k := 2) ag3 rfl (q2.ext eg) rfl) (rck (h2 := h35) rfl (fa72_1 rfl) (rck (h2 := h35) rfl (aOp_indexAddr (i := i) Try.underlying24 sz72 rfl (by assumption) rfl (Nat.ble_eq_true_of_le (by omega))) (rck (h2 := h35) rfl (ld3 rfl f3 gn) (rck (h2 := h35) rfl (fa138_1 rfl) (rck (h2 := h35) rfl (ld24 rfl f0 rfl) (rck (h2 := h35) rfl (fa80_4 rfl) (rck (h2 := h35) rfl (ld83 rfl f25 rfl) (rck (h2 := h35) rfl (ld144 rfl f2 rfl) recheck_nil))))))))), _, rfl, ?_⟩
          refine GoE.call rfl rfl (aOp_callVal rfl aFunc100 rfl) (hre2 (fun b => b = h33.next) (fun b => ((X b ∨ b = bo) ∨ b = lb) ∨ b = h33.next) _ hwl hwi2 eg f0 f1 f2 ((M30.add (by have := e6.1; omega)).ext e6) (lt_add hX30 e6.1 f34.1)) (dK 16399 12 (dK 16399 11 (dK 16399 10 (dK 16399 9 (dK 16399 8 (dK 16399 7 (dK 16399 6 (dK 16399 5 (dD 16399 0 rfl))))))))) ?_ (by rintro _ _ ⟨_, s, q, _, rfl, hs2, M2, e7, yo⟩; cases q)
          rintro v36 h36 ⟨_, s, q, y36, rfl, hs2, M2, e7, yo⟩
          cases q
          have := eg.1
          have := e0.1
          have := e6.1
          have := f34.1
          have := f25.1
          have := f0.1
          have := f1.1
          have := f2.1
          have := f3.1
          have := f4.1
          have := fa.1
          have := fz.1
          have := fd.1
          have := fp.1
          have := fo.1
          have := fl.1
          have := eg.1
          have := e0.1
          have := e6.1
          have := f34.1
          have := f25.1
          have := f0.1
          have := f1.1
          have := f2.1
          have := f3.1
          have := f4.1
          have := fa.1
          have := fz.1
          have := fd.1
          have := fp.1
          have := fo.1
          have := fl.1
          replace f34 := f34.extF y36 (fun q => by omega)
          replace f25 := f25.extF y36 (fun q => by omega)
          replace f0 := f0.extF y36 (fun q => by omega)
          replace f1 := f1.extF y36 (fun q => by omega)
          replace f2 := f2.extF y36 (fun q => by omega)
          replace f3 := f3.extF y36 (fun q => by omega)
          replace f4 := f4.extF y36 (fun q => by omega)
          replace fa := fa.extF y36 (fun q => by omega)
          replace fz := fz.extF y36 (fun q => by omega)
          replace fd := fd.extF y36 (fun q => by omega)
          replace fp := fp.extF y36 (fun q => by omega)
          replace fo := fo.extF y36 (fun q => by omega)
          replace fl := fl.extF y36 (fun q => by omega)
          replace eg := y36.low eg (fun b q => by omega)
          clear e0
          clear e6
          replace y0 := y0.trans (fun b q => .inl q) y36
          have := y36.1
          refine ⟨(rck (h2 := h36) rfl (aOp_loadE1 (k := 2) ag3 rfl (q2.ext eg) rfl) (rck (h2 := h36) rfl (fa72_1 rfl) (rck (h2 := h36) rfl (aOp_indexAddr (i := i) Try.underlying24 sz72 rfl (by assumption) rfl (Nat.ble_eq_true_of_le (by omega))) (rck (h2 := h36) rfl (ld3 rfl f3 gn) (rck (h2 := h36) rfl (fa138_1 rfl) (rck (h2 := h36) rfl (ld24 rfl f0 rfl) (rck (h2 := h36) rfl (fa80_4 rfl) (rck (h2 := h36) rfl (ld83 rfl f25 rfl) recheck_nil)))))))), _, rfl, ?_⟩
          refine GoE.call rfl rfl (aCF aFunc102 rfl) (after_ok (p := p) (n := y.sods) (hs2.ext e7).sl (by omega) (by omega) (by omega)) (dD 24575 12 (dD 24575 11 (dD 24575 10 (dD 24575 9 (dD 24575 8 (dD 24575 7 (dD 24575 6 (dD 24575 5 rfl)))))))) ?_ (by rintro _ _ ⟨bq, q, _, hbq, _⟩; cases q)
          rintro v37 h37 ⟨bq, q, x37, hbq, f37⟩
          cases q
          have := e7.1
          have := eg.1
          have := f34.1
          have := f25.1
          have := f0.1
          have := f1.1
          have := f2.1
          have := f3.1
          have := f4.1
          have := fa.1
          have := fz.1
          have := fd.1
          have := fp.1
          have := fo.1
          have := fl.1
          replace f34 := f34.ext x37
          replace f25 := f25.ext x37
          replace f0 := f0.ext x37
          replace f1 := f1.ext x37
          replace f2 := f2.ext x37
          replace f3 := f3.ext x37
          replace f4 := f4.ext x37
          replace fa := fa.ext x37
          replace fz := fz.ext x37
          replace fd := fd.ext x37
          replace fp := fp.ext x37
          replace fo := fo.ext x37
          replace fl := fl.ext x37
          replace e7 := e7.trans x37
          replace eg := eg.trans x37
          replace y36 := y36.ext x37
          replace yo := yo.ext x37
          replace y0 := y0.ext x37
          refine ⟨recheck_nil, _, rfl, ?_⟩
          refine GoE.store rfl rfl rfl rfl rfl rfl rfl f34 rfl sz111 rfl rfl rfl fun h38 u38 => ?_
          replace f37 := f37.upd u38 (by omega)
          replace f34 := u38.has f34
          replace f25 := f25.upd u38 (by omega)
          replace f0 := f0.upd u38 (by omega)
          replace f1 := f1.upd u38 (by omega)
          replace f2 := f2.upd u38 (by omega)
          replace f3 := f3.upd u38 (by omega)
          replace f4 := f4.upd u38 (by omega)
          replace fa := fa.upd u38 (by omega)
          replace fz := fz.upd u38 (by omega)
          replace fd := fd.upd u38 (by omega)
          replace fp := fp.upd u38 (by omega)
          replace fo := fo.upd u38 (by omega)
          replace fl := fl.upd u38 (by omega)
          clear e7
          replace eg := eg.upd u38 (by omega)
          replace yo := yo.upd u38 (.inl rfl)
          replace y0 := y0.upd u38 (.inr (by omega))
          refine ⟨recheck_nil, ?_⟩
          refine GoE.end rfl ?_
          rw [hRi2.1] at f34
          exact done (h33.next, bq) _ _ ⟨rfl, rfl, rfl, rfl, rfl, rfl, rfl, rfl, trivial⟩ ⟨eg, y0, f0, f1, f2, f3, f4, fa, fz, fo, fp, fl, fd, f34, by assumption, M2.extF yo (fun _ q => .inr q), by dsimp only; omega, by dsimp only; omega⟩
         ·intro pl hpl
          rw [plR100b] at hpl
          cases hpl
          refine gQ rfl rfl (ld144 rfl f2 rfl) rfl ?_
          refine gQ rfl rfl (ld138 rfl f3 (slice_all g9)) rfl ?_
          iterate 2 refine gQ rfl rfl (ld83 rfl f25 rfl) rfl ?_
          refine gQ rfl rfl (fa80_4 rfl) rfl ?_
          refine gQ rfl rfl (ld24 rfl f0 rfl) rfl ?_
          refine gQ rfl rfl (fa138_1 rfl) rfl ?_
          refine gQ rfl rfl (ld3 rfl f3 gn) rfl ?_
          refine gQ rfl rfl (aOp_indexAddr (i := i) Try.underlying24 sz72 rfl (by assumption) rfl (Nat.ble_eq_true_of_le (by omega))) rfl ?_
          refine gQ rfl rfl (fa72_1 rfl) rfl ?_
          refine gQ rfl rfl (aOp_loadE1 (k := 2) ag3 rfl (q2.ext eg) rfl) rfl ?_
          refine GoE.call rfl rfl (aCF aFunc96 rfl) (hwp _) (dK 6 12 (dK 6 11 (dK 6 10 (dK 6 9 (dK 6 8 (dK 6 7 (dK 6 6 (dK 6 5 (dD 6 2 (dD 6 1 (dK 6 0 rfl))))))))))) ?_ np
          rintro v34 h34 ⟨q, x34⟩
          cases q
          replace f25 := f25.ext x34
          replace f0 := f0.ext x34
          replace f1 := f1.ext x34
          replace f2 := f2.ext x34
          replace f3 := f3.ext x34
          replace f4 := f4.ext x34
          replace fa := fa.ext x34
          replace fz := fz.ext x34
          replace fd := fd.ext x34
          replace fp := fp.ext x34
          replace fo := fo.ext x34
          replace fl := fl.ext x34
          replace eg := eg.trans x34
          replace e0 := e0.trans x34
          replace e6 := e6.trans x34
          replace y0 := y0.ext x34
          refine ⟨(rck (h2 := h34) rfl (aOp_loadE1 (k := 2) ag3 rfl (q2.ext eg) rfl) (rck (h2 := h34) rfl (fa72_1 rfl) (rck (h2 := h34) rfl (aOp_indexAddr (i := i) Try.underlying24 sz72 rfl (by assumption) rfl (Nat.ble_eq_true_of_le (by omega))) (rck (h2 := h34) rfl (ld3 rfl f3 gn) (rck (h2 := h34) rfl (fa138_1 rfl) (rck (h2 := h34) rfl (ld24 rfl f0 rfl) (rck (h2 := h34) rfl (fa80_4 rfl) (rck (h2 := h34) rfl (ld83 rfl f25 rfl) (rck (h2 := h34) rfl (ld144 rfl f2 rfl) recheck_nil))))))))), _, rfl, ?_⟩
          refine GoE.alloc rfl rfl zt111 (dK 14 12 (dK 14 11 (dK 14 10 (dK 14 9 (dK 14 8 (dK 14 7 (dK 14 6 (dK 14 5 (dK 14 0 rfl))))))))) rfl rfl fun h35 x35 f35 => ?_
          have := eg.1
          have := e0.1
          have := e6.1
          have := f25.1
          have := f0.1
          have := f1.1
          have := f2.1
          have := f3.1
          have := f4.1
          have := fa.1
          have := fz.1
          have := fd.1
          have := fp.1
          have := fo.1
          have := fl.1
          replace f25 := f25.ext x35
          replace f0 := f0.ext x35
          replace f1 := f1.ext x35
          replace f2 := f2.ext x35
          replace f3 := f3.ext x35
          replace f4 := f4.ext x35
          replace fa := fa.ext x35
          replace fz := fz.ext x35
          replace fd := fd.ext x35
          replace fp := fp.ext x35
          replace fo := fo.ext x35
          replace fl := fl.ext x35
          replace eg := eg.trans x35
          replace e0 := e0.trans x35
          replace e6 := e6.trans x35
          replace y0 := y0.ext x35
          have := f35.1
          refine ⟨(rck (h2 := h35) rfl (aOp_loadE1 (k := 2) ag3 rfl (q2.ext eg) rfl) (rck (h2 := h35) rfl (fa72_1 rfl) (rck (h2 := h35) rfl (aOp_indexAddr (i := i) Try.underlying24 sz72 rfl (by assumption) rfl (Nat.ble_eq_true_of_le (by omega))) (rck (h2 := h35) rfl (ld3 rfl f3 gn) (rck (h2 := h35) rfl (fa138_1 rfl) (rck (h2 := h35) rfl (ld24 rfl f0 rfl) (rck (h2 := h35) rfl (fa80_4 rfl) (rck (h2 := h35) rfl (ld83 rfl f25 rfl) (rck (h2 := h35) rfl (ld144 rfl f2 rfl) recheck_nil))))))))), ?_⟩
          refine GoE.call rfl rfl (aOp_callVal rfl aFunc100 rfl) (hre2 (fun b => b = h34.next) (fun b => ((X b ∨ b = bo) ∨ b = lb) ∨ b = h34.next) _ hwl hwi2 eg f0 f1 f2 ((M30.add (by have := e6.1; omega)).ext e6) (lt_add hX30 e6.1 f35.1)) (dK 16399 12 (dK 16399 11 (dK 16399 10 (dK 16399 9 (dK 16399 8 (dK 16399 7 (dK 16399 6 (dK 16399 5 (dD 16399 0 rfl))))))))) ?_ (by rintro _ _ ⟨_, s, q, _, rfl, hs2, M2, e7, yo⟩; cases q)
          rintro v36 h36 ⟨_, s, q, y36, rfl, hs2, M2, e7, yo⟩
          cases q
          have := eg.1
          have := e0.1
          have := e6.1
          have := f35.1
          have := f25.1
          have := f0.1
          have := f1.1
          have := f2.1
          have := f3.1
          have := f4.1
          have := fa.1
          have := fz.1
          have := fd.1
          have := fp.1
          have := fo.1
          have := fl.1
          have := eg.1
          have := e0.1
          have := e6.1
          have := f35.1
          have := f25.1
          have := f0.1
          have := f1.1
          have := f2.1
          have := f3.1
          have := f4.1
          have := fa.1
          have := fz.1
          have := fd.1
          have := fp.1
          have := fo.1
          have := fl.1
          replace f35 := f35.extF y36 (fun q => by omega)
          replace f25 := f25.extF y36 (fun q => by omega)
          replace f0 := f0.extF y36 (fun q => by omega)
          replace f1 := f1.extF y36 (fun q => by omega)
          replace f2 := f2.extF y36 (fun q => by omega)
          replace f3 := f3.extF y36 (fun q => by omega)
          replace f4 := f4.extF y36 (fun q => by omega)
          replace fa := fa.extF y36 (fun q => by omega)
          replace fz := fz.extF y36 (fun q => by omega)
          replace fd := fd.extF y36 (fun q => by omega)
          replace fp := fp.extF y36 (fun q => by omega)
          replace fo := fo.extF y36 (fun q => by omega)
          replace fl := fl.extF y36 (fun q => by omega)
          replace eg := y36.low eg (fun b q => by omega)
          clear e0
          clear e6
          replace y0 := y0.trans (fun b q => .inl q) y36
          have := y36.1
          refine ⟨(rck (h2 := h36) rfl (aOp_loadE1 (k := 2) ag3 rfl (q2.ext eg) rfl) (rck (h2 := h36) rfl (fa72_1 rfl) (rck (h2 := h36) rfl (aOp_indexAddr (i := i) Try.underlying24 sz72 rfl (by assumption) rfl (Nat.ble_eq_true_of_le (by omega))) (rck (h2 := h36) rfl (ld3 rfl f3 gn) (rck (h2 := h36) rfl (fa138_1 rfl) (rck (h2 := h36) rfl (ld24 rfl f0 rfl) (rck (h2 := h36) rfl (fa80_4 rfl) (rck (h2 := h36) rfl (ld83 rfl f25 rfl) recheck_nil)))))))), _, rfl, ?_⟩
          refine GoE.call rfl rfl (aCF aFunc102 rfl) (after_ok (p := p) (n := y.sods) (hs2.ext e7).sl (by omega) (by omega) (by omega)) (dD 24575 12 (dD 24575 11 (dD 24575 10 (dD 24575 9 (dD 24575 8 (dD 24575 7 (dD 24575 6 (dD 24575 5 rfl)))))))) ?_ (by rintro _ _ ⟨bq, q, _, hbq, _⟩; cases q)
          rintro v37 h37 ⟨bq, q, x37, hbq, f37⟩
          cases q
          have := e7.1
          have := eg.1
          have := f35.1
          have := f25.1
          have := f0.1
          have := f1.1
          have := f2.1
          have := f3.1
          have := f4.1
          have := fa.1
          have := fz.1
          have := fd.1
          have := fp.1
          have := fo.1
          have := fl.1
          replace f35 := f35.ext x37
          replace f25 := f25.ext x37
          replace f0 := f0.ext x37
          replace f1 := f1.ext x37
          replace f2 := f2.ext x37
          replace f3 := f3.ext x37
          replace f4 := f4.ext x37
          replace fa := fa.ext x37
          replace fz := fz.ext x37
          replace fd := fd.ext x37
          replace fp := fp.ext x37
          replace fo := fo.ext x37
          replace fl := fl.ext x37
          replace e7 := e7.trans x37
          replace eg := eg.trans x37
          replace y36 := y36.ext x37
          replace yo := yo.ext x37
          replace y0 := y0.ext x37
          refine ⟨recheck_nil, _, rfl, ?_⟩
          refine GoE.store rfl rfl rfl rfl rfl rfl rfl f35 rfl sz111 rfl rfl rfl fun h38 u38 => ?_
          replace f37 := f37.upd u38 (by omega)
          replace f35 := u38.has f35
          replace f25 := f25.upd u38 (by omega)
          replace f0 := f0.upd u38 (by omega)
          replace f1 := f1.upd u38 (by omega)
          replace f2 := f2.upd u38 (by omega)
          replace f3 := f3.upd u38 (by omega)
          replace f4 := f4.upd u38 (by omega)
          replace fa := fa.upd u38 (by omega)
          replace fz := fz.upd u38 (by omega)
          replace fd := fd.upd u38 (by omega)
          replace fp := fp.upd u38 (by omega)
          replace fo := fo.upd u38 (by omega)
          replace fl := fl.upd u38 (by omega)
          clear e7
          replace eg := eg.upd u38 (by omega)
          replace yo := yo.upd u38 (.inl rfl)
          replace y0 := y0.upd u38 (.inr (by omega))
          refine ⟨recheck_nil, ?_⟩
          refine GoE.end rfl ?_
          rw [hRi2.1] at f35
          exact done (h34.next, bq) _ _ ⟨rfl, rfl, rfl, rfl, rfl, rfl, rfl, rfl, trivial⟩ ⟨eg, y0, f0, f1, f2, f3, f4, fa, fz, fo, fp, fl, fd, f35, by assumption, M2.extF yo (fun _ q => .inr q), by dsimp only; omega, by dsimp only; omega⟩
         ·intro pl hpl
          rw [plR100c] at hpl
          cases hpl
          refine gQ rfl rfl (ld144 rfl f2 rfl) rfl ?_
          refine gQ rfl rfl (ld138 rfl f3 (slice_all g9)) rfl ?_
          iterate 2 refine gQ rfl rfl (ld83 rfl f25 rfl) rfl ?_
          refine gQ rfl rfl (fa80_4 rfl) rfl ?_
          refine gQ rfl rfl (ld24 rfl f0 rfl) rfl ?_
          refine gQ rfl rfl (fa138_1 rfl) rfl ?_
          refine gQ rfl rfl (ld3 rfl f3 gn) rfl ?_
          refine gQ rfl rfl (aOp_indexAddr (i := i) Try.underlying24 sz72 rfl (by assumption) rfl (Nat.ble_eq_true_of_le (by omega))) rfl ?_
          refine gQ rfl rfl (fa72_1 rfl) rfl ?_
          refine gQ rfl rfl (aOp_loadE1 (k := 2) ag3 rfl (q2.ext eg) rfl) rfl ?_
          refine GoE.call rfl rfl (aCF aFunc96 rfl) (hwp _) (dK 6 12 (dK 6 11 (dK 6 10 (dK 6 9 (dK 6 8 (dK 6 7 (dK 6 6 (dK 6 5 (dD 6 2 (dD 6 1 (dK 6 0 rfl))))))))))) ?_ np
          rintro v34 h34 ⟨q, x34⟩
          cases q
          replace f25 := f25.ext x34
          replace f0 := f0.ext x34
          replace f1 := f1.ext x34
          replace f2 := f2.ext x34
          replace f3 := f3.ext x34
          replace f4 := f4.ext x34
          replace fa := fa.ext x34
          replace fz := fz.ext x34
          replace fd := fd.ext x34
          replace fp := fp.ext x34
          replace fo := fo.ext x34
          replace fl := fl.ext x34
          replace eg := eg.trans x34
          replace e0 := e0.trans x34
          replace e6 := e6.trans x34
          replace y0 := y0.ext x34
          refine ⟨(rck (h2 := h34) rfl (aOp_loadE1 (k := 2) ag3 rfl (q2.ext eg) rfl) (rck (h2 := h34) rfl (fa72_1 rfl) (rck (h2 := h34) rfl (aOp_indexAddr (i := i) Try.underlying24 sz72 rfl (by assumption) rfl (Nat.ble_eq_true_of_le (by omega))) (rck (h2 := h34) rfl (ld3 rfl f3 gn) (rck (h2 := h34) rfl (fa138_1 rfl) (rck (h2 := h34) rfl (ld24 rfl f0 rfl) (rck (h2 := h34) rfl (fa80_4 rfl) (rck (h2 := h34) rfl (ld83 rfl f25 rfl) (rck (h2 := h34) rfl (ld144 rfl f2 rfl) recheck_nil))))))))), _, rfl, ?_⟩
          refine GoE.call rfl rfl (aOp_callVal rfl aFunc100 rfl) (hre2 (fun b => (X b ∨ b = bo) ∨ b = lb) (fun b => (X b ∨ b = bo) ∨ b = lb) _ hwl hwi2 eg f0 f1 f2 (M30.ext e6) (lt_le hX30 e6.1)) (dK 15 12 (dK 15 11 (dK 15 10 (dK 15 9 (dK 15 8 (dK 15 7 (dK 15 6 (dK 15 5 (dD 15 0 rfl))))))))) ?_ (by rintro _ _ ⟨_, s, q, _, rfl, hs2, M2, e7, yo⟩; cases q)
          rintro v35 h35 ⟨_, s, q, y35, rfl, hs2, M2, e7, yo⟩
          cases q
          have := eg.1
          have := e0.1
          have := e6.1
          have := f25.1
          have := f0.1
          have := f1.1
          have := f2.1
          have := f3.1
          have := f4.1
          have := fa.1
          have := fz.1
          have := fd.1
          have := fp.1
          have := fo.1
          have := fl.1
          have := eg.1
          have := e0.1
          have := e6.1
          have := f25.1
          have := f0.1
          have := f1.1
          have := f2.1
          have := f3.1
          have := f4.1
          have := fa.1
          have := fz.1
          have := fd.1
          have := fp.1
          have := fo.1
          have := fl.1
          replace f25 := f25.extF y35 (fun q => by omega)
          replace f0 := f0.extF y35 (fun q => by omega)
          replace f1 := f1.extF y35 (fun q => by omega)
          replace f2 := f2.extF y35 (fun q => by omega)
          replace f3 := f3.extF y35 (fun q => by omega)
          replace f4 := f4.extF y35 (fun q => by omega)
          replace fa := fa.extF y35 (fun q => by omega)
          replace fz := fz.extF y35 (fun q => by omega)
          replace fd := fd.extF y35 (fun q => by omega)
          replace fp := fp.extF y35 (fun q => by omega)
          replace fo := fo.extF y35 (fun q => by omega)
          replace fl := fl.extF y35 (fun q => by omega)
          replace eg := y35.low eg (fun b q => by omega)
          clear e0
          clear e6
          replace y0 := y0.trans (fun b q => .inl q) y35
          have := y35.1
          refine ⟨(rck (h2 := h35) rfl (aOp_loadE1 (k := 2) ag3 rfl (q2.ext eg) rfl) (rck (h2 := h35) rfl (fa72_1 rfl) (rck (h2 := h35) rfl (aOp_indexAddr (i := i) Try.underlying24 sz72 rfl (by assumption) rfl (Nat.ble_eq_true_of_le (by omega))) (rck (h2 := h35) rfl (ld3 rfl f3 gn) (rck (h2 := h35) rfl (fa138_1 rfl) (rck (h2 := h35) rfl (ld24 rfl f0 rfl) (rck (h2 := h35) rfl (fa80_4 rfl) (rck (h2 := h35) rfl (ld83 rfl f25 rfl) recheck_nil)))))))), _, rfl, ?_⟩
          refine GoE.alloc rfl rfl zt111 (dK 31 12 (dK 31 11 (dK 31 10 (dK 31 9 (dK 31 8 (dK 31 7 (dK 31 6 (dK 31 5 rfl)))))))) rfl rfl fun h36 x36 f36 => ?_
          have := e7.1
          have := eg.1
          have := f25.1
          have := f0.1
          have := f1.1
          have := f2.1
          have := f3.1
          have := f4.1
          have := fa.1
          have := fz.1
          have := fd.1
          have := fp.1
          have := fo.1
          have := fl.1
          replace f25 := f25.ext x36
          replace f0 := f0.ext x36
          replace f1 := f1.ext x36
          replace f2 := f2.ext x36
          replace f3 := f3.ext x36
          replace f4 := f4.ext x36
          replace fa := fa.ext x36
          replace fz := fz.ext x36
          replace fd := fd.ext x36
          replace fp := fp.ext x36
          replace fo := fo.ext x36
          replace fl := fl.ext x36
          replace e7 := e7.trans x36
          replace eg := eg.trans x36
          replace y35 := y35.ext x36
          replace yo := yo.ext x36
          replace y0 := y0.ext x36
          have := f36.1
          refine ⟨(rck (h2 := h36) rfl (aOp_loadE1 (k := 2) ag3 rfl (q2.ext eg) rfl) (rck (h2 := h36) rfl (fa72_1 rfl) (rck (h2 := h36) rfl (aOp_indexAddr (i := i) Try.underlying24 sz72 rfl (by assumption) rfl (Nat.ble_eq_true_of_le (by omega))) (rck (h2 := h36) rfl (ld3 rfl f3 gn) (rck (h2 := h36) rfl (fa138_1 rfl) (rck (h2 := h36) rfl (ld24 rfl f0 rfl) (rck (h2 := h36) rfl (fa80_4 rfl) (rck (h2 := h36) rfl (ld83 rfl f25 rfl) recheck_nil)))))))), ?_⟩
          refine GoE.call rfl rfl (aCF aFunc102 rfl) (after_ok (p := p) (n := y.sods) (hs2.ext e7).sl (by omega) (by omega) (by omega)) (dD 24575 12 (dD 24575 11 (dD 24575 10 (dD 24575 9 (dD 24575 8 (dD 24575 7 (dD 24575 6 (dD 24575 5 rfl)))))))) ?_ (by rintro _ _ ⟨bq, q, _, hbq, _⟩; cases q)
          rintro v37 h37 ⟨bq, q, x37, hbq, f37⟩
          cases q
          have := e7.1
          have := eg.1
          have := f36.1
          have := f25.1
          have := f0.1
          have := f1.1
          have := f2.1
          have := f3.1
          have := f4.1
          have := fa.1
          have := fz.1
          have := fd.1
          have := fp.1
          have := fo.1
          have := fl.1
          replace f36 := f36.ext x37
          replace f25 := f25.ext x37
          replace f0 := f0.ext x37
          replace f1 := f1.ext x37
          replace f2 := f2.ext x37
          replace f3 := f3.ext x37
          replace f4 := f4.ext x37
          replace fa := fa.ext x37
          replace fz := fz.ext x37
          replace fd := fd.ext x37
          replace fp := fp.ext x37
          replace fo := fo.ext x37
          replace fl := fl.ext x37
          replace e7 := e7.trans x37
          replace eg := eg.trans x37
          replace y35 := y35.ext x37
          replace yo := yo.ext x37
          replace y0 := y0.ext x37
          refine ⟨recheck_nil, _, rfl, ?_⟩
          refine GoE.store rfl rfl rfl rfl rfl rfl rfl f36 rfl sz111 rfl rfl rfl fun h38 u38 => ?_
          replace f37 := f37.upd u38 (by omega)
          replace f36 := u38.has f36
          replace f25 := f25.upd u38 (by omega)
          replace f0 := f0.upd u38 (by omega)
          replace f1 := f1.upd u38 (by omega)
          replace f2 := f2.upd u38 (by omega)
          replace f3 := f3.upd u38 (by omega)
          replace f4 := f4.upd u38 (by omega)
          replace fa := fa.upd u38 (by omega)
          replace fz := fz.upd u38 (by omega)
          replace fd := fd.upd u38 (by omega)
          replace fp := fp.upd u38 (by omega)
          replace fo := fo.upd u38 (by omega)
          replace fl := fl.upd u38 (by omega)
          replace e7 := e7.upd u38 (by omega)
          replace eg := eg.upd u38 (by omega)
          replace y35 := y35.upd u38 (.inr (by omega))
          replace yo := yo.upd u38 (.inr (by omega))
          replace y0 := y0.upd u38 (.inr (by omega))
          refine ⟨recheck_nil, ?_⟩
          refine GoE.end rfl ?_
          rw [hRi2.1] at f36
          exact done (h35.next, bq) _ _ ⟨rfl, rfl, rfl, rfl, rfl, rfl, rfl, rfl, trivial⟩ ⟨eg, y0, f0, f1, f2, f3, f4, fa, fz, fo, fp, fl, fd, f36, by assumption, (M2.add (by dsimp only; omega)).ext e7, by dsimp only; omega, by dsimp only; omega⟩
         ·intro pl hpl
          rw [plR100d] at hpl
          cases hpl
          refine gQ rfl rfl (ld144 rfl f2 rfl) rfl ?_
          refine gQ rfl rfl (ld138 rfl f3 (slice_all g9)) rfl ?_
          iterate 2 refine gQ rfl rfl (ld83 rfl f25 rfl) rfl ?_
          refine gQ rfl rfl (fa80_4 rfl) rfl ?_
          refine gQ rfl rfl (ld24 rfl f0 rfl) rfl ?_
          refine gQ rfl rfl (fa138_1 rfl) rfl ?_
          refine gQ rfl rfl (ld3 rfl f3 gn) rfl ?_
          refine gQ rfl rfl (aOp_indexAddr (i := i) Try.underlying24 sz72 rfl (by assumption) rfl (Nat.ble_eq_true_of_le (by omega))) rfl ?_
          refine gQ rfl rfl (fa72_1 rfl) rfl ?_
          refine gQ rfl rfl (aOp_loadE1 (k := 2) ag3 rfl (q2.ext eg) rfl) rfl ?_
          refine GoE.call rfl rfl (aCF aFunc96 rfl) (hwp _) (dK 6 12 (dK 6 11 (dK 6 10 (dK 6 9 (dK 6 8 (dK 6 7 (dK 6 6 (dK 6 5 (dD 6 2 (dD 6 1 (dK 6 0 rfl))))))))))) ?_ np
          rintro v34 h34 ⟨q, x34⟩
          cases q
          replace f25 := f25.ext x34
          replace f0 := f0.ext x34
          replace f1 := f1.ext x34
          replace f2 := f2.ext x34
          replace f3 := f3.ext x34
          replace f4 := f4.ext x34
          replace fa := fa.ext x34
          replace fz := fz.ext x34
          replace fd := fd.ext x34
          replace fp := fp.ext x34
          replace fo := fo.ext x34
          replace fl := fl.ext x34
          replace eg := eg.trans x34
          replace e0 := e0.trans x34
          replace e6 := e6.trans x34
          replace y0 := y0.ext x34
          refine ⟨(rck (h2 := h34) rfl (aOp_loadE1 (k := 2) ag3 rfl (q2.ext eg) rfl) (rck (h2 := h34) rfl (fa72_1 rfl) (rck (h2 := h34) rfl (aOp_indexAddr (i := i) Try.underlying24 sz72 rfl (by assumption) rfl (Nat.ble_eq_true_of_le (by omega))) (rck (h2 := h34) rfl (ld3 rfl f3 gn) (rck (h2 := h34) rfl (fa138_1 rfl) (rck (h2 := h34) rfl (ld24 rfl f0 rfl) (rck (h2 := h34) rfl (fa80_4 rfl) (rck (h2 := h34) rfl (ld83 rfl f25 rfl) (rck (h2 := h34) rfl (ld144 rfl f2 rfl) recheck_nil))))))))), _, rfl, ?_⟩
          refine GoE.call rfl rfl (aOp_callVal rfl aFunc100 rfl) (hre2 (fun b => (X b ∨ b = bo) ∨ b = lb) (fun b => (X b ∨ b = bo) ∨ b = lb) _ hwl hwi2 eg f0 f1 f2 (M30.ext e6) (lt_le hX30 e6.1)) (dK 15 12 (dK 15 11 (dK 15 10 (dK 15 9 (dK 15 8 (dK 15 7 (dK 15 6 (dK 15 5 (dD 15 0 rfl))))))))) ?_ (by rintro _ _ ⟨_, s, q, _, rfl, hs2, M2, e7, yo⟩; cases q)
          rintro v35 h35 ⟨_, s, q, y35, rfl, hs2, M2, e7, yo⟩
          cases q
          have := eg.1
          have := e0.1
          have := e6.1
          have := f25.1
          have := f0.1
          have := f1.1
          have := f2.1
          have := f3.1
          have := f4.1
          have := fa.1
          have := fz.1
          have := fd.1
          have := fp.1
          have := fo.1
          have := fl.1
          have := eg.1
          have := e0.1
          have := e6.1
          have := f25.1
          have := f0.1
          have := f1.1
          have := f2.1
          have := f3.1
          have := f4.1
          have := fa.1
          have := fz.1
          have := fd.1
          have := fp.1
          have := fo.1
          have := fl.1
          replace f25 := f25.extF y35 (fun q => by omega)
          replace f0 := f0.extF y35 (fun q => by omega)
          replace f1 := f1.extF y35 (fun q => by omega)
          replace f2 := f2.extF y35 (fun q => by omega)
          replace f3 := f3.extF y35 (fun q => by omega)
          replace f4 := f4.extF y35 (fun q => by omega)
          replace fa := fa.extF y35 (fun q => by omega)
          replace fz := fz.extF y35 (fun q => by omega)
          replace fd := fd.extF y35 (fun q => by omega)
          replace fp := fp.extF y35 (fun q => by omega)
          replace fo := fo.extF y35 (fun q => by omega)
          replace fl := fl.extF y35 (fun q => by omega)
          replace eg := y35.low eg (fun b q => by omega)
          clear e0
          clear e6
          replace y0 := y0.trans (fun b q => .inl q) y35
          have := y35.1
          refine ⟨(rck (h2 := h35) rfl (aOp_loadE1 (k := 2) ag3 rfl (q2.ext eg) rfl) (rck (h2 := h35) rfl (fa72_1 rfl) (rck (h2 := h35) rfl (aOp_indexAddr (i := i) Try.underlying24 sz72 rfl (by assumption) rfl (Nat.ble_eq_true_of_le (by omega))) (rck (h2 := h35) rfl (ld3 rfl f3 gn) (rck (h2 := h35) rfl (fa138_1 rfl) (rck (h2 := h35) rfl (ld24 rfl f0 rfl) (rck (h2 := h35) rfl (fa80_4 rfl) (rck (h2 := h35) rfl (ld83 rfl f25 rfl) recheck_nil)))))))), _, rfl, ?_⟩
          refine GoE.call rfl rfl (aCF aFunc102 rfl) (after_ok (p := p) (n := y.sods) (hs2.ext e7).sl (by omega) (by omega) (by omega)) (dD 8191 12 (dD 8191 11 (dD 8191 10 (dD 8191 9 (dD 8191 8 (dD 8191 7 (dD 8191 6 (dD 8191 5 rfl)))))))) ?_ (by rintro _ _ ⟨bq, q, _, hbq, _⟩; cases q)
          rintro v36 h36 ⟨bq, q, x36, hbq, f36⟩
          cases q
          have := e7.1
          have := eg.1
          have := f25.1
          have := f0.1
          have := f1.1
          have := f2.1
          have := f3.1
          have := f4.1
          have := fa.1
          have := fz.1
          have := fd.1
          have := fp.1
          have := fo.1
          have := fl.1
          replace f25 := f25.ext x36
          replace f0 := f0.ext x36
          replace f1 := f1.ext x36
          replace f2 := f2.ext x36
          replace f3 := f3.ext x36
          replace f4 := f4.ext x36
          replace fa := fa.ext x36
          replace fz := fz.ext x36
          replace fd := fd.ext x36
          replace fp := fp.ext x36
          replace fo := fo.ext x36
          replace fl := fl.ext x36
          replace e7 := e7.trans x36
          replace eg := eg.trans x36
          replace y35 := y35.ext x36
          replace yo := yo.ext x36
          replace y0 := y0.ext x36
          refine ⟨recheck_nil, _, rfl, ?_⟩
          refine GoE.alloc rfl rfl zt111 rfl rfl rfl fun h37 x37 f37 => ?_
          have := e7.1
          have := eg.1
          have := f36.1
          have := f25.1
          have := f0.1
          have := f1.1
          have := f2.1
          have := f3.1
          have := f4.1
          have := fa.1
          have := fz.1
          have := fd.1
          have := fp.1
          have := fo.1
          have := fl.1
          replace f36 := f36.ext x37
          replace f25 := f25.ext x37
          replace f0 := f0.ext x37
          replace f1 := f1.ext x37
          replace f2 := f2.ext x37
          replace f3 := f3.ext x37
          replace f4 := f4.ext x37
          replace fa := fa.ext x37
          replace fz := fz.ext x37
          replace fd := fd.ext x37
          replace fp := fp.ext x37
          replace fo := fo.ext x37
          replace fl := fl.ext x37
          replace e7 := e7.trans x37
          replace eg := eg.trans x37
          replace y35 := y35.ext x37
          replace yo := yo.ext x37
          replace y0 := y0.ext x37
          have := f37.1
          refine ⟨recheck_nil, ?_⟩
          refine GoE.store rfl rfl rfl rfl rfl rfl rfl f37 rfl sz111 rfl rfl rfl fun h38 u38 => ?_
          replace f37 := u38.has f37
          replace f36 := f36.upd u38 (by omega)
          replace f25 := f25.upd u38 (by omega)
          replace f0 := f0.upd u38 (by omega)
          replace f1 := f1.upd u38 (by omega)
          replace f2 := f2.upd u38 (by omega)
          replace f3 := f3.upd u38 (by omega)
          replace f4 := f4.upd u38 (by omega)
          replace fa := fa.upd u38 (by omega)
          replace fz := fz.upd u38 (by omega)
          replace fd := fd.upd u38 (by omega)
          replace fp := fp.upd u38 (by omega)
          replace fo := fo.upd u38 (by omega)
          replace fl := fl.upd u38 (by omega)
          replace e7 := e7.upd u38 (by omega)
          replace eg := eg.upd u38 (by omega)
          replace y35 := y35.upd u38 (.inr (by omega))
          replace yo := yo.upd u38 (.inr (by omega))
          replace y0 := y0.upd u38 (.inr (by omega))
          refine ⟨recheck_nil, ?_⟩
          refine GoE.end rfl ?_
          rw [hRi2.1] at f37
          exact done (h36.next, bq) _ _ ⟨rfl, rfl, rfl, rfl, rfl, rfl, rfl, rfl, trivial⟩ ⟨eg, y0, f0, f1, f2, f3, f4, fa, fz, fo, fp, fl, fd, f37, by assumption, (M2.add (by dsimp only; omega)).ext e7, by dsimp only; omega, by dsimp only; omega⟩
        ·clear eg y0 f0 f1 f2 f3 f4 fa fz fo fp fl fd e0 e6 f25
         rintro ⟨b11, bq⟩ h40 ⟨eg, y0, f0, f1, f2, f3, f4, fa, fz, fo, fp, fl, fd, f11, fq, M40, hb11, hbq⟩
         dsimp only at f11 fq M40 hb11 hbq ⊢
         have e0 : Ext h40 h40 := Ext.refl _
         by_cases c4 : x.sods < y.sods + R2.sods
         ·have yo : ExtF (fun b => b = bo) h40 h40 := .of e0
          apply gS
          refine gR rfl ?_
          refine gO rfl rfl (fa111_0 rfl) rfl ?_
          refine gO rfl rfl (ld3 rfl f11 rfl) rfl ?_
          refine gO rfl rfl (fa111_0 rfl) rfl ?_
          refine gO rfl rfl (ld3 rfl fo rfl) rfl ?_
          refine gO rfl rfl (kGT rfl rfl) rfl ?_
          apply gE
          refine gC (b := true) rfl ?_
          refine gR rfl ?_
          refine gO rfl rfl (ld111 rfl f11 rfl) rfl ?_
          refine GoR.store rfl rfl rfl rfl rfl rfl fo rfl sz111 rfl rfl rfl fun h41 u41 => ?_
          replace f0 := f0.upd u41 (by omega)
          replace f1 := f1.upd u41 (by omega)
          replace f2 := f2.upd u41 (by omega)
          replace f3 := f3.upd u41 (by omega)
          replace f4 := f4.upd u41 (by omega)
          replace fa := fa.upd u41 (by omega)
          replace fz := fz.upd u41 (by omega)
          replace fo := u41.has fo
          replace fp := fp.upd u41 (by omega)
          replace fl := fl.upd u41 (by omega)
          replace fd := fd.upd u41 (by omega)
          replace fq := fq.upd u41 (by omega)
          replace eg := eg.upd u41 (by omega)
          clear e0
          replace y0 := y0.upd u41 (.inr (by omega))
          replace yo := yo.upd u41 (.inl rfl)
          apply gE
          refine Go.inBlock noJ_ok ?_
          have : mo (j + 1) = ⟨y.sods + R2.sods, p :: R2.plans⟩ := by
           rw [hmsj]
           unfold FootV.goB
           rw [if_neg c1, if_neg (by rw [c2]; simp [c3]), hR2, hya, if_pos c4]
          rw [this] at contT
          exact contT _ _ ⟨hlo, eg, y0, f0, f1, f2, f3, f4, fa, fz, ⟨bq, fo, fq, by omega, by omega, by omega, by omega⟩, (M40.extF yo (fun b q => .inl (.inl (.inr q)))).mono (fun b q => .inl (.inl q))⟩ fl fd
         ·apply gS
          refine gR rfl ?_
          refine gO rfl rfl (fa111_0 rfl) rfl ?_
          refine gO rfl rfl (ld3 rfl f11 rfl) rfl ?_
          refine gO rfl rfl (fa111_0 rfl) rfl ?_
          refine gO rfl rfl (ld3 rfl fo rfl) rfl ?_
          refine gO rfl rfl (kGF rfl rfl) rfl ?_
          apply gE
          refine gC (b := false) rfl ?_
          refine gD ?_
          refine Go.inBlock noJ_ok ?_
          have : mo (j + 1) = x := by
           rw [hmsj]
           unfold FootV.goB
           rw [if_neg c1, if_neg (by rw [c2]; simp [c3]), hR2, hya, if_neg c4]
          rw [this] at contT
          exact contT _ _ ⟨hlo, eg, y0, f0, f1, f2, f3, f4, fa, fz, ⟨bp, fo, fp, hbp1, hbp2, hbp3, hbp4⟩, (M40.mono (fun b q => .inl (.inl q))).ext e0⟩ fl fd
       ·rw [decide_eq_false c3] at hke
        rw [hsame (.inr c3)] at contT
        refine Go.block noJ_ok ?_
        apply gS
        refine Go.block noJ_ok ?_
        apply gS
        refine gR rfl ?_
        refine gO rfl rfl (fa111_0 rfl) rfl ?_
        refine gO rfl rfl (ld3 rfl fo rfl) rfl ?_
        refine gO rfl rfl (ld3 rfl fa rfl) rfl ?_
        refine gO rfl rfl (kEF rfl rfl) rfl ?_
        refine gP ?_
        apply gE
        refine gC (b := false) rfl ?_
        apply gS
        refine Go.drawnE plan100_1 ?_
        refine gQ rfl rfl (ld138 rfl f3 (slice_all g9)) rfl ?_
        refine gQ rfl rfl (ld83 rfl f25 rfl) rfl ?_
        refine gQ rfl rfl (fa80_1 rfl) rfl ?_
        refine gQ rfl rfl (ld3 rfl f0 rfl) rfl ?_
        refine GoE.call rfl rfl (aCF aFunc104 rfl) (hfu _) (dD 15 3 (dD 15 2 (dD 15 1 (dD 15 0 rfl)))) ?_ np
        rintro v31 h31 ⟨q, x31⟩
        cases q
        replace f25 := f25.ext x31
        replace f0 := f0.ext x31
        replace f1 := f1.ext x31
        replace f2 := f2.ext x31
        replace f3 := f3.ext x31
        replace f4 := f4.ext x31
        replace fa := fa.ext x31
        replace fz := fz.ext x31
        replace fd := fd.ext x31
        replace fp := fp.ext x31
        replace fo := fo.ext x31
        replace fl := fl.ext x31
        replace eg := eg.trans x31
        replace e0 := e0.trans x31
        replace y0 := y0.ext x31
        refine ⟨recheck_nil, _, rfl, ?_⟩
        refine gQ rfl rfl rfl rfl ?_
        iterate 2 refine gQ rfl rfl (ld80 rfl f0 rfl) rfl ?_
        refine gQ rfl rfl (fa138_1 rfl) rfl ?_
        refine gQ rfl rfl (ld3 rfl f3 gn) rfl ?_
        refine gQ rfl rfl (ld83 rfl f25 rfl) rfl ?_
        refine GoE.call rfl rfl (aCF aFunc58 rfl) (hwo _) (dK 191 11 (dK 191 10 (dK 191 9 (dD 191 7 (dK 191 6 (dD 191 5 rfl)))))) ?_ np
        rintro v32 h32 ⟨q, x32⟩
        cases q
        replace f25 := f25.ext x32
        replace f0 := f0.ext x32
        replace f1 := f1.ext x32
        replace f2 := f2.ext x32
        replace f3 := f3.ext x32
        replace f4 := f4.ext x32
        replace fa := fa.ext x32
        replace fz := fz.ext x32
        replace fd := fd.ext x32
        replace fp := fp.ext x32
        replace fo := fo.ext x32
        replace fl := fl.ext x32
        replace eg := eg.trans x32
        replace e0 := e0.trans x32
        replace y0 := y0.ext x32
        refine ⟨(rck (h2 := h32) rfl (ld83 rfl f25 rfl) (rck (h2 := h32) rfl (ld3 rfl f3 gn) (rck (h2 := h32) rfl (fa138_1 rfl) (rck (h2 := h32) rfl (ld80 rfl f0 rfl) recheck_nil)))), _, rfl, ?_⟩
        refine GoE.call rfl rfl (aCF aFunc87 rfl) (hke _ (A.ext eg)) (dD 4095 11 (dD 4095 10 (dD 4095 9 (dD 4095 6 rfl)))) ?_ np
        rintro v33 h33 ⟨q, x33⟩
        cases q
        replace f0 := f0.ext x33
        replace f1 := f1.ext x33
        replace f2 := f2.ext x33
        replace f3 := f3.ext x33
        replace f4 := f4.ext x33
        replace fa := fa.ext x33
        replace fz := fz.ext x33
        replace fd := fd.ext x33
        replace fp := fp.ext x33
        replace fo := fo.ext x33
        replace fl := fl.ext x33
        replace eg := eg.trans x33
        replace e0 := e0.trans x33
        replace y0 := y0.ext x33
        refine ⟨recheck_nil, _, rfl, ?_⟩
        iterate 3 refine gQ rfl rfl rfl rfl ?_
        refine GoE.end rfl ?_
        refine gC (b := true) rfl ?_
        refine gD ?_
        exact contT _ _ ⟨hlo, eg, y0, f0, f1, f2, f3, f4, fa, fz, ⟨bp, fo, fp, hbp1, hbp2, hbp3, hbp4⟩, M30.ext e0⟩ fl fd
    ·rintro d lb h3' hd1 hd2 hdd ⟨hlo, eg, y0, f0, f1, f2, f3, f4, fa, fz, ⟨bp, fo, fp, hbp1, hbp2, hbp3, hbp4⟩, M⟩
     rw [List.length_map, ← hml] at fo fp
     have e0 : Ext h3' h3' := Ext.refl _
     refine Go.inBlock noJ_ok ?_
     apply gS
     refine gR rfl ?_
     refine gO rfl rfl (ld143 rfl f1 rfl) rfl ?_
     refine gO rfl rfl (ld138 rfl f3 (slice_all g9)) rfl ?_
     refine gO rfl rfl (ld111 rfl fo rfl) rfl ?_
     obtain ⟨es2, clock2, f', k1, k2, k3, k4, k5⟩ := id M
     refine GoR.mapUpdateN rfl rfl key138 Try.underlying143 rfl rfl rfl rfl (by rw [List.length_append, hst]; rfl) k1 k2 k3 fun es3 c3 h41 u41 m4 l4 => ?_
     have hP : PlsAt (fun b => ((X b ∨ b = bo) ∨ b = lb) ∨ b = bm) h3' (.slice bp 0 (m + 1) (m + 1)) fin.plans := .mk' hFi.1 (fun q => q.elim (fun q => q.elim (fun q => q.elim (fun q => by have := hX _ q; omega) hbp2) hbp3) hbp4) fp
     have M41 := MapOk.new k4 k5 hfr hst hP u41 k1.1 m4 l4
     have nf4 := f4.1
     have nfd := hdd.1
     replace f4 := f4.upd u41 (by omega)
     replace fo := fo.upd u41 (by omega)
     replace fp := fp.upd u41 (by omega)
     replace hdd := hdd.upd u41 (by omega)
     replace y0 := y0.upd u41 (.inl rfl)
     have hx41 := u41.1
     have M42 := (M41.sep f4 (fun _ q => by cases q) (fun _ _ q => by cases q)).sep hdd (fun _ q => by cases q) (fun _ _ q => by cases q)
     clear e0
     have e0 : Ext h41 h41 := Ext.refl _
     have yo : ExtF (fun b => b = h3.next) h41 h41 := .of e0
     have hbp5 : bp ≠ h3.next := fun q => by
      subst q
      have := fp.2
      rw [f4.2] at this
      simp at this
     apply gE
     apply gS
     refine gR rfl ?_
     refine gO rfl rfl (ld111 rfl fo rfl) rfl ?_
     refine GoR.store rfl rfl rfl rfl rfl rfl f4 rfl sz111 rfl rfl rfl fun h42 u42 => ?_
     replace f4 := u42.has f4
     replace fo := fo.upd u42 (by omega)
     replace fp := fp.upd u42 (by omega)
     replace hdd := hdd.upd u42 (by omega)
     clear e0
     replace y0 := y0.upd u42 (.inr (by omega))
     replace yo := yo.upd u42 (.inl rfl)
     apply gE
     have hbpd : bp ≠ d := fun q => by
      subst q
      have := fp.2
      rw [hdd.2] at this
      cases this
     have hdn : h3.next ≠ d := fun q => by
      subst q
      have := f4.2
      rw [hdd.2] at this
      cases this
     exact Go.retC hdd fun h9 u9 => ⟨aResult_of Try.func100 rfl (aResults_c rfl (f4.upd u9 hdn) (inCells_agg ag111 sz111 rfl) rfl), fin.sods, _, rfl, y0.upd u9 (.inr (by omega)), rfl, .mk' hFi.1 (fun q => q.elim (fun q => by have := hX _ q; omega) hbp4) (fp.upd u9 hbpd),
      ((M42.extF yo (fun b q => .inl (.inr q))).extF (S := fun b => b = d) ⟨by rw [u9.1]; exact Nat.le_refl _, fun b _ q => u9.2.2 b q⟩ (fun b q => .inr q)).mono (fun b q => .inl (.inl (.inl (.inl (.inl q)))))⟩
    ·rintro c d lb h3' hd1 hd2 hdd ⟨rfl, hlo, eg, y0, f0, f1, f2, f3, f4, fa, fz, ⟨bp, fo, fp, hbp1, hbp2, hbp3, hbp4⟩, M⟩
     have e0 : Ext h3' h3' := Ext.refl _
     refine gD ?_
     apply gS
     refine gR rfl ?_
     refine gO rfl rfl (ld143 rfl f1 rfl) rfl ?_
     refine gO rfl rfl (ld138 rfl f3 (slice_all g9)) rfl ?_
     refine gO rfl rfl (ld111 rfl fo rfl) rfl ?_
     obtain ⟨es2, clock2, f', k1, k2, k3, k4, k5⟩ := id M
     refine GoR.mapUpdateN rfl rfl key138 Try.underlying143 rfl rfl rfl rfl (by rw [List.length_append, hst]; rfl) k1 k2 k3 fun es3 c3 h41 u41 m4 l4 => ?_
     have hP : PlsAt (fun b => ((X b ∨ b = bo) ∨ b = lb) ∨ b = bm) h3' (.slice bp 0 (m + 1) (m + 1)) fin.plans := .mk' hFi.1 (fun q => q.elim (fun q => q.elim (fun q => q.elim (fun q => by have := hX _ q; omega) hbp2) hbp3) hbp4) fp
     have M41 := MapOk.new k4 k5 hfr hst hP u41 k1.1 m4 l4
     have nf4 := f4.1
     have nfd := hdd.1
     replace f4 := f4.upd u41 (by omega)
     replace fo := fo.upd u41 (by omega)
     replace fp := fp.upd u41 (by omega)
     replace hdd := hdd.upd u41 (by omega)
     replace y0 := y0.upd u41 (.inl rfl)
     have hx41 := u41.1
     have M42 := (M41.sep f4 (fun _ q => by cases q) (fun _ _ q => by cases q)).sep hdd (fun _ q => by cases q) (fun _ _ q => by cases q)
     clear e0
     have e0 : Ext h41 h41 := Ext.refl _
     have yo : ExtF (fun b => b = h3.next) h41 h41 := .of e0
     have hbp5 : bp ≠ h3.next := fun q => by
      subst q
      have := fp.2
      rw [f4.2] at this
      simp at this
     apply gE
     apply gS
     refine gR rfl ?_
     refine gO rfl rfl (ld111 rfl fo rfl) rfl ?_
     refine GoR.store rfl rfl rfl rfl rfl rfl f4 rfl sz111 rfl rfl rfl fun h42 u42 => ?_
     replace f4 := u42.has f4
     replace fo := fo.upd u42 (by omega)
     replace fp := fp.upd u42 (by omega)
     replace hdd := hdd.upd u42 (by omega)
     clear e0
     replace y0 := y0.upd u42 (.inr (by omega))
     replace yo := yo.upd u42 (.inl rfl)
     apply gE
     have hbpd : bp ≠ d := fun q => by
      subst q
      have := fp.2
      rw [hdd.2] at this
      cases this
     have hdn : h3.next ≠ d := fun q => by
      subst q
      have := f4.2
      rw [hdd.2] at this
      cases this
     exact Go.retC hdd fun h9 u9 => ⟨aResult_of Try.func100 rfl (aResults_c rfl (f4.upd u9 hdn) (inCells_agg ag111 sz111 rfl) rfl), fin.sods, _, rfl, y0.upd u9 (.inr (by omega)), rfl, .mk' hFi.1 (fun q => q.elim (fun q => by have := hX _ q; omega) hbp4) (fp.upd u9 hbpd),
      ((M42.extF yo (fun b q => .inl (.inr q))).extF (S := fun b => b = d) ⟨by rw [u9.1]; exact Nat.le_refl _, fun b _ q => u9.2.2 b q⟩ (fun b q => .inr q)).mono (fun b q => .inl (.inl (.inl (.inl (.inl q)))))⟩
end Go.Proofs.Ytmimdgjehnhnoaa
