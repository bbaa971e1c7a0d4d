import Derived.Test.YtmdheijpnlonoaaMAR
import Derived.Test.YtmdheijpnlonoaaMAH
import Derived.Deep.Slices
import Derived.Lib.SmallJoins
import Derived.Carry
import Derived.Test.YtmdheijpnlonoaaMAO
import Derived.Laws.IdiomArrays
import Derived.Test.YtmdheijpnlonoaaRows
import Derived.WalkKit
import Derived.ProofKit
import Derived.OpenShut
namespace Go.Proofs.Ytmdheijpnlonoaa
open Go Go.AbsE
set_option linter.unusedSimpArgs false
set_option maxRecDepth 100000
set_option maxHeartbeats 0
set_option linter.unusedVariables false
theorem law4_long (F : FieldV) (hsl rsl lsl : AVal) (n1 n2 n3 : Nat) (hl1 : lenA hsl = some n1) (hl2 : lenA rsl = some n2) (hl3 : lenA lsl = some n3) (hr : decide (40 < n1 ∨ 40 < n2 ∨ 40 < n3) = true) (w : AVal) (h : AH) :
    Runs Try.prog 4 [.agg (F.cells hsl rsl lsl), w] h (fun en h' => en = .ret (.bool true) ∧ Ext h h') := by
  have hlo := long_ok F hsl rsl lsl n1 n2 n3 hl1 hl2 hl3 hr
  unfold FieldV.cells fieldC at hlo ⊢
  refine Runs.intro aFunc4 rfl rfl rfl rfl fun rest => ?_
  refine Go.seq noJ_ok ?_
  refine Go.region noJ_ok rfl ?_
  refine GoR.box rfl rfl rfl rfl rfl rfl fun h0 x0 f0 => ?_
  have e0 := x0
  have := f0.1
  refine GoR.op rfl rfl rfl rfl ?_
  refine GoR.end ?_
  iterate 2 refine Go.seq noJ_ok ?_
  refine Go.region noJ_ok rfl ?_
  refine GoR.op rfl rfl (ld27 rfl f0 rfl) rfl ?_
  refine GoR.call rfl rfl (aOp_callFunc aFunc22 rfl) (hlo _) ?_ (by rintro _ _ ⟨q, _⟩; cases q)
  rintro v1 h1 ⟨q, x1⟩
  cases q
  refine ⟨_, rfl, ?_⟩
  replace f0 := f0.ext x1
  replace e0 := e0.trans x1
  refine GoR.op rfl rfl rfl rfl ?_
  iterate 3 refine GoR.skip rfl rfl rfl ?_
  refine GoR.op rfl rfl rfl rfl ?_
  refine GoR.end ?_
  refine Go.cond noJ_ok (b := true) rfl ?_
  refine Go.seq noJ_ok ?_
  refine Go.region JA_ok rfl ?_
  refine GoR.jump JA_ok rfl rfl (aOp_callFunc aFunc21 rfl) (v := .bool true) rfl rfl ?_
  refine GoR.op rfl rfl rfl rfl ?_
  refine GoR.end ?_
  exact Go.ret noJ_ok (ret_end (aResult_of Try.func4 rfl rfl) ⟨rfl, e0⟩)
theorem law4_bad {F : FieldV} (hno : ¬ F.Ok) (hsl rsl lsl : AVal) (h : AH) (A : FieldAt h F hsl rsl lsl) (hb1 : F.hs.length ≤ 40) (hb2 : F.rs.length ≤ 40) (hb3 : F.looks.length ≤ 40) (w : AVal) :
    Runs Try.prog 4 [.agg (F.cells hsl rsl lsl), w] h (fun en h' => en = .ret (.bool true) ∧ Ext h h') := by
  have hl1 := A.hs.len
  have hl2 := A.rs.len
  have hl3 := A.ls.len
  rw [List.length_map] at hl1 hl2 hl3
  have hlo := long_ok F hsl rsl lsl _ _ _ hl1 hl2 hl3 (r := false) (decide_eq_false (by omega))
  have hhb := fun h A => heaps23_not hno hsl rsl lsl h A hb1 hb2 hb3
  unfold FieldV.cells fieldC at hlo hhb ⊢
  refine Runs.intro aFunc4 rfl rfl rfl rfl fun rest => ?_
  refine Go.seq noJ_ok ?_
  refine Go.region noJ_ok rfl ?_
  refine GoR.box rfl rfl rfl rfl rfl rfl fun h0 x0 f0 => ?_
  have e0 := x0
  have := f0.1
  refine GoR.op rfl rfl rfl rfl ?_
  refine GoR.end ?_
  iterate 2 refine Go.seq noJ_ok ?_
  refine Go.region noJ_ok rfl ?_
  refine GoR.op rfl rfl (ld27 rfl f0 rfl) rfl ?_
  refine GoR.call rfl rfl (aOp_callFunc aFunc22 rfl) (hlo _) ?_ (by rintro _ _ ⟨q, _⟩; cases q)
  rintro v1 h1 ⟨q, x1⟩
  cases q
  refine ⟨_, rfl, ?_⟩
  replace f0 := f0.ext x1
  replace e0 := e0.trans x1
  refine GoR.op rfl rfl rfl rfl ?_
  refine GoR.op rfl rfl (ld27 rfl f0 rfl) rfl ?_
  refine GoR.call rfl rfl (aOp_callFunc aFunc23 rfl) (hhb _ (A.ext e0)) ?_ (by rintro _ _ ⟨q, _⟩; cases q)
  rintro v2 h2 ⟨q, x2⟩
  cases q
  refine ⟨_, rfl, ?_⟩
  replace f0 := f0.ext x2
  replace e0 := e0.trans x2
  iterate 2 refine GoR.op rfl rfl rfl rfl ?_
  refine GoR.end ?_
  refine Go.cond noJ_ok (b := true) rfl ?_
  refine Go.seq noJ_ok ?_
  refine Go.region JA_ok rfl ?_
  refine GoR.jump JA_ok rfl rfl (aOp_callFunc aFunc21 rfl) (v := .bool true) rfl rfl ?_
  refine GoR.op rfl rfl rfl rfl ?_
  refine GoR.end ?_
  exact Go.ret noJ_ok (ret_end (aResult_of Try.func4 rfl rfl) ⟨rfl, e0⟩)
theorem same_cells (F : FieldV) {a b c : AVal} (h1 : sameA a a = true) (h2 : sameA b b = true) (h3 : sameA c c = true) : sameA (.agg [a, b, .int .i64 F.a, .int .i64 F.b, .int .i64 F.c, .int .i64 F.lim, c]) (.agg [a, b, .int .i64 F.a, .int .i64 F.b, .int .i64 F.c, .int .i64 F.lim, c]) = true := by
  simp only [sameA, sameAs, h1, h2, h3, eqI_eq, cond_true]
  simp
theorem same_tup {a b c : AVal} (h1 : sameA a a = true) (h2 : sameA b b = true) (h3 : sameA c c = true) : sameA (.tuple [a, b, c]) (.tuple [a, b, c]) = true := by
  simp only [sameA, sameAs, h1, h2, h3, cond_true]
theorem scal_cells (F : FieldV) {a b c : AVal} (h1 : scalars [a] = true) (h2 : scalars [b] = true) (h3 : scalars [c] = true) : scalars [a, b, .int .i64 F.a, .int .i64 F.b, .int .i64 F.c, .int .i64 F.lim, c] = true := by
  unfold scalars
  rw [scal_one h1]
  simp only [scalars, scal_one h2, scal_one h3, cond_true]
  rfl
theorem law4_ok {F : FieldV} (O : F.Ok) {bs : List Int} (hbs : ∀ x, x ∈ bs → 0 ≤ x ∧ x < 65536) (hlen : bs.length < 9223372036854775808) (hsl rsl lsl s : AVal) (h : AH) (hs : SliceOf h 1 s (u16s bs)) (hsc : scalars [s] = true) (hsc2 : s.cells = [s]) (A : FieldAt h F hsl rsl lsl) :
    Runs Try.prog 4 [.agg (F.cells hsl rsl lsl), s] h (fun en h' => en = .ret (.bool true) ∧ Ext h h') := by
  have hnh := O.nh
  have hnr := O.nr
  have hnl := O.nl
  have hl1 := A.hs.len
  have hl2 := A.rs.len
  have hl3 := A.ls.len
  rw [List.length_map] at hl1 hl2 hl3
  have hlo := long_ok F hsl rsl lsl _ _ _ hl1 hl2 hl3 (r := false) (decide_eq_false (by omega))
  have hhy := fun h A => heaps23_yes O hsl rsl lsl h A (by omega) (by omega) (by omega)
  have htr := fun ba bb hab hga hgb h1 eg fa fb => truly24_ok O hbs hlen s ba bb hab hs hga hgb hsl rsl lsl A h1 eg fa fb
  have hsm := cells_same A
  have hss := hs.same
  unfold FieldV.cells fieldC at hlo hhy htr hsm ⊢
  refine Runs.intro aFunc4 rfl rfl rfl rfl fun rest => ?_
  refine Go.seq noJ_ok ?_
  refine Go.region noJ_ok rfl ?_
  refine GoR.box rfl rfl rfl rfl rfl rfl fun h0 x0 f0 => ?_
  have e0 := x0
  have := f0.1
  refine GoR.op rfl rfl rfl rfl ?_
  refine GoR.end ?_
  iterate 2 refine Go.seq noJ_ok ?_
  refine Go.region noJ_ok rfl ?_
  refine GoR.op rfl rfl (ld27 rfl f0 rfl) rfl ?_
  refine GoR.call rfl rfl (aOp_callFunc aFunc22 rfl) (hlo _) ?_ (by rintro _ _ ⟨q, _⟩; cases q)
  rintro v1 h1 ⟨q, x1⟩
  cases q
  refine ⟨_, rfl, ?_⟩
  replace f0 := f0.ext x1
  replace e0 := e0.trans x1
  refine GoR.op rfl rfl rfl rfl ?_
  refine GoR.op rfl rfl (ld27 rfl f0 rfl) rfl ?_
  refine GoR.call rfl rfl (aOp_callFunc aFunc23 rfl) (hhy _ (A.ext e0)) ?_ (by rintro _ _ ⟨q, _⟩; cases q)
  rintro v2 h2 ⟨q, x2⟩
  cases q
  refine ⟨_, rfl, ?_⟩
  replace f0 := f0.ext x2
  replace e0 := e0.trans x2
  iterate 2 refine GoR.op rfl rfl rfl rfl ?_
  refine GoR.end ?_
  refine Go.cond noJ_ok (b := false) rfl ?_
  refine Go.code noJ_ok ?_
  refine Go.seq noJ_ok ?_
  have hx0 := e0.1
  have hx1 := f0.1
  refine Go.join (fun a : TrA => [(2, .ptr h.next 0), (5, .ptr a.bx 0), (6, a.sw), (7, a.sb)]) (fun a h' => Ext h h' ∧ Has h' h.next (.cells .plain [hsl, rsl, .int .i64 F.a, .int .i64 F.b, .int .i64 F.c, .int .i64 F.lim, lsl] 27) ∧ Has h' a.bx (.cells .plain [hsl, rsl, .int .i64 F.a, .int .i64 F.b, .int .i64 F.c, .int .i64 F.lim, a.sc] 27) ∧ TrM F a h') ?_ ?_
  · intro k' done
    refine alts43 ?_ ?_ ?_
    · intro pl hpl
      rw [pl43a] at hpl
      cases hpl
      refine GoE.quiet rfl rfl (ld27 rfl f0 rfl) rfl ?_
      refine GoE.quiet rfl rfl rfl rfl ?_
      refine GoE.alloc rfl rfl zt27 (dropF_keep (show bit? 0 1 = false from rfl) (dropF_keep (show bit? 0 0 = false from rfl) rfl)) rfl rfl fun h3 x3 f3 => ?_
      have := e0.1
      have := f0.1
      replace f0 := f0.ext x3
      replace e0 := e0.trans x3
      have := f3.1
      refine ⟨(recheck_cons (h2 := h3) rfl (rfl) (by first | rfl | exact sameA_int _ _ | exact sameA_bool _ | exact sameA_agg2 _ _ | assumption | (simp [sameA, sameAs, eqI_eq]; done)) (recheck_cons (h2 := h3) rfl (ld27 rfl f0 rfl) (by first | rfl | exact sameA_int _ _ | exact sameA_bool _ | exact sameA_agg2 _ _ | assumption | (simp [sameA, sameAs, eqI_eq]; done)) recheck_nil)), ?_⟩
      refine GoE.call rfl rfl (aOp_callFunc aFunc25 rfl) (draws25_ok s _ hsc hsc2) (dropF_drop (show bit? 258 1 = true from rfl) (dropF_keep (show bit? 258 0 = false from rfl) rfl)) ?_ (by rintro _ _ ⟨ba, bb, q, _, hba, hbb, hab, _, fb⟩; cases q)
      rintro v4 h4 ⟨ba, bb, q, x4, hba, hbb, hab, f4, fb⟩
      cases q
      have := e0.1
      replace f3 := f3.ext x4
      replace f0 := f0.ext x4
      replace e0 := e0.trans x4
      refine ⟨(recheck_cons (h2 := h4) rfl (ld27 rfl f0 rfl) (by first | rfl | exact sameA_int _ _ | exact sameA_bool _ | exact sameA_agg2 _ _ | assumption | (simp [sameA, sameAs, eqI_eq]; done)) recheck_nil), _, rfl, ?_⟩
      refine GoE.call rfl rfl (aOp_callFunc aFunc24 rfl) (htr ba bb hab (by omega) (by omega) _ (by assumption) (by assumption) (by assumption)) (dropF_drop (show bit? 263 0 = true from rfl) rfl) ?_ (by rintro _ _ ⟨sw, sb, sc, sls, fs, rl, ls, q, _, hfl, hfs, hrl, hrs, hn5, hlt, G1, G2, hsw, G3, G4⟩; cases q)
      rintro v5 h5 ⟨sw, sb, sc, sls, fs, rl, ls, q, y5, hfl, hfs, hrl, hrs, hn5, hlt, G1, G2, hsw, G3, G4⟩
      cases q
      iterate 2 have := e0.1
      have := f4.1
      have := fb.1
      have := f3.1
      have := f0.1
      first | replace f4 := f4.extF y5 (fun q => by omega) | clear f4
      first | replace fb := fb.extF y5 (fun q => by omega) | clear fb
      first | replace f3 := f3.extF y5 (fun q => by omega) | clear f3
      first | replace f0 := f0.extF y5 (fun q => by omega) | clear f0
      first | replace e0 := y5.low e0 (fun b q => by omega) | clear e0
      have := y5.1
      refine ⟨recheck_nil, _, rfl, ?_⟩
      have M : ∀ bx, TrM F ⟨bx, sc, sw, sb, sls, fs, rl, ls⟩ _ := fun bx => TrM.mk' (bx := bx) ⟨hfl, hfs, hrl, hrs, hn5, hlt⟩ hsw G1 G2 G3 G4
      have M0 := M 0
      have hm1 := M0.sc.same
      have hm2 := M0.sb.same
      have hm3 := M0.sw.same
      have hsm2 := same_cells F (A.hs.same) (A.rs.same) hm1
      have hsm3 := same_tup hsm2 hm3 hm2
      have hsc3 := scal_cells F A.hs.scal.1 A.rs.scal.1 M0.sc.scal.1
      have y9 : ExtF (fun b => b = h2.next) _ _ := .of (Ext.refl h5)
      iterate 4 refine GoE.quiet rfl rfl rfl rfl ?_
      refine GoE.store rfl rfl rfl rfl (dropF_keep (show bit? 319 7 = false from rfl) (dropF_keep (show bit? 319 6 = false from rfl) (dropF_drop (show bit? 319 5 = true from rfl) (dropF_drop (show bit? 319 4 = true from rfl) rfl)))) rfl rfl f3 rfl sz27 rfl hsc3 rfl fun h6 u6 => ?_
      replace fb := fb.upd u6 (by omega)
      replace f3 := u6.has f3
      replace f0 := f0.upd u6 (by omega)
      first | replace e0 := e0.upd u6 (by omega) | clear e0
      first | replace y5 := y5.upd u6 (by first | exact .inl rfl | exact .inl (.inl rfl) | exact .inl (.inr rfl) | exact .inl (by assumption) | exact .inr (by omega)) | skip
      first | replace y9 := y9.upd u6 (by first | exact .inl rfl | exact .inl (.inl rfl) | exact .inl (.inr rfl) | exact .inl (by assumption) | exact .inr (by omega)) | skip
      refine ⟨(recheck_cons (h2 := h6) rfl (rfl) (by first | rfl | exact sameA_int _ _ | exact sameA_bool _ | exact sameA_agg2 _ _ | assumption | (simp [sameA, sameAs, eqI_eq]; done)) (recheck_cons (h2 := h6) rfl (rfl) (by first | rfl | exact sameA_int _ _ | exact sameA_bool _ | exact sameA_agg2 _ _ | assumption | (simp [sameA, sameAs, eqI_eq]; done)) recheck_nil)), ?_⟩
      iterate 2 refine GoE.quiet rfl rfl rfl rfl ?_
      refine GoE.end rfl ?_
      exact done ⟨_, sc, sw, sb, sls, fs, rl, ls⟩ _ _ ⟨rfl, rfl, rfl, rfl, trivial⟩ ⟨e0, f0, by assumption, TrM.mk' ⟨hfl, hfs, hrl, hrs, hn5, hlt⟩ hsw (grow_extF G1 y9 (fun b q => by omega)) (grow_extF G2 y9 (fun b q => by omega)) (grow_extF G3 y9 (fun b q => by omega)) (fun k x w sl a b c => grow_extF (G4 k x w sl a b c) y9 (fun b q => by omega))⟩
    · intro pl hpl
      rw [pl43b] at hpl
      cases hpl
      refine GoE.quiet rfl rfl (ld27 rfl f0 rfl) rfl ?_
      refine GoE.quiet rfl rfl rfl rfl ?_
      refine GoE.call rfl rfl (aOp_callFunc aFunc25 rfl) (draws25_ok s _ hsc hsc2) (dropF_drop (show bit? 2 1 = true from rfl) (dropF_keep (show bit? 2 0 = false from rfl) rfl)) ?_ (by rintro _ _ ⟨ba, bb, q, _, hba, hbb, hab, _, fb⟩; cases q)
      rintro v3 h3 ⟨ba, bb, q, x3, hba, hbb, hab, f3, fb⟩
      cases q
      have := e0.1
      replace f0 := f0.ext x3
      replace e0 := e0.trans x3
      refine ⟨(recheck_cons (h2 := h3) rfl (ld27 rfl f0 rfl) (by first | rfl | exact sameA_int _ _ | exact sameA_bool _ | exact sameA_agg2 _ _ | assumption | (simp [sameA, sameAs, eqI_eq]; done)) recheck_nil), _, rfl, ?_⟩
      refine GoE.alloc rfl rfl zt27 (dropF_keep (show bit? 6 0 = false from rfl) rfl) rfl rfl fun h4 x4 f4 => ?_
      have := e0.1
      have := f3.1
      have := fb.1
      have := f0.1
      replace f3 := f3.ext x4
      replace fb := fb.ext x4
      replace f0 := f0.ext x4
      replace e0 := e0.trans x4
      have := f4.1
      refine ⟨(recheck_cons (h2 := h4) rfl (ld27 rfl f0 rfl) (by first | rfl | exact sameA_int _ _ | exact sameA_bool _ | exact sameA_agg2 _ _ | assumption | (simp [sameA, sameAs, eqI_eq]; done)) recheck_nil), ?_⟩
      refine GoE.call rfl rfl (aOp_callFunc aFunc24 rfl) (htr ba bb hab (by omega) (by omega) _ (by assumption) (by assumption) (by assumption)) (dropF_drop (show bit? 263 0 = true from rfl) rfl) ?_ (by rintro _ _ ⟨sw, sb, sc, sls, fs, rl, ls, q, _, hfl, hfs, hrl, hrs, hn5, hlt, G1, G2, hsw, G3, G4⟩; cases q)
      rintro v5 h5 ⟨sw, sb, sc, sls, fs, rl, ls, q, y5, hfl, hfs, hrl, hrs, hn5, hlt, G1, G2, hsw, G3, G4⟩
      cases q
      iterate 2 have := e0.1
      have := f4.1
      have := f3.1
      have := fb.1
      have := f0.1
      first | replace f4 := f4.extF y5 (fun q => by omega) | clear f4
      first | replace f3 := f3.extF y5 (fun q => by omega) | clear f3
      first | replace fb := fb.extF y5 (fun q => by omega) | clear fb
      first | replace f0 := f0.extF y5 (fun q => by omega) | clear f0
      first | replace e0 := y5.low e0 (fun b q => by omega) | clear e0
      have := y5.1
      refine ⟨recheck_nil, _, rfl, ?_⟩
      have M : ∀ bx, TrM F ⟨bx, sc, sw, sb, sls, fs, rl, ls⟩ _ := fun bx => TrM.mk' (bx := bx) ⟨hfl, hfs, hrl, hrs, hn5, hlt⟩ hsw G1 G2 G3 G4
      have M0 := M 0
      have hm1 := M0.sc.same
      have hm2 := M0.sb.same
      have hm3 := M0.sw.same
      have hsm2 := same_cells F (A.hs.same) (A.rs.same) hm1
      have hsm3 := same_tup hsm2 hm3 hm2
      have hsc3 := scal_cells F A.hs.scal.1 A.rs.scal.1 M0.sc.scal.1
      have y9 : ExtF (fun b => b = h3.next) _ _ := .of (Ext.refl h5)
      iterate 4 refine GoE.quiet rfl rfl rfl rfl ?_
      refine GoE.store rfl rfl rfl rfl (dropF_keep (show bit? 319 7 = false from rfl) (dropF_keep (show bit? 319 6 = false from rfl) (dropF_drop (show bit? 319 5 = true from rfl) (dropF_drop (show bit? 319 4 = true from rfl) rfl)))) rfl rfl f4 rfl sz27 rfl hsc3 rfl fun h6 u6 => ?_
      replace f4 := u6.has f4
      replace fb := fb.upd u6 (by omega)
      replace f0 := f0.upd u6 (by omega)
      first | replace e0 := e0.upd u6 (by omega) | clear e0
      first | replace y5 := y5.upd u6 (by first | exact .inl rfl | exact .inl (.inl rfl) | exact .inl (.inr rfl) | exact .inl (by assumption) | exact .inr (by omega)) | skip
      first | replace y9 := y9.upd u6 (by first | exact .inl rfl | exact .inl (.inl rfl) | exact .inl (.inr rfl) | exact .inl (by assumption) | exact .inr (by omega)) | skip
      refine ⟨(recheck_cons (h2 := h6) rfl (rfl) (by first | rfl | exact sameA_int _ _ | exact sameA_bool _ | exact sameA_agg2 _ _ | assumption | (simp [sameA, sameAs, eqI_eq]; done)) (recheck_cons (h2 := h6) rfl (rfl) (by first | rfl | exact sameA_int _ _ | exact sameA_bool _ | exact sameA_agg2 _ _ | assumption | (simp [sameA, sameAs, eqI_eq]; done)) recheck_nil)), ?_⟩
      iterate 2 refine GoE.quiet rfl rfl rfl rfl ?_
      refine GoE.end rfl ?_
      exact done ⟨_, sc, sw, sb, sls, fs, rl, ls⟩ _ _ ⟨rfl, rfl, rfl, rfl, trivial⟩ ⟨e0, f0, by assumption, TrM.mk' ⟨hfl, hfs, hrl, hrs, hn5, hlt⟩ hsw (grow_extF G1 y9 (fun b q => by omega)) (grow_extF G2 y9 (fun b q => by omega)) (grow_extF G3 y9 (fun b q => by omega)) (fun k x w sl a b c => grow_extF (G4 k x w sl a b c) y9 (fun b q => by omega))⟩
    · intro pl hpl
      rw [pl43c] at hpl
      cases hpl
      refine GoE.quiet rfl rfl (ld27 rfl f0 rfl) rfl ?_
      refine GoE.quiet rfl rfl rfl rfl ?_
      refine GoE.call rfl rfl (aOp_callFunc aFunc25 rfl) (draws25_ok s _ hsc hsc2) (dropF_drop (show bit? 2 1 = true from rfl) (dropF_keep (show bit? 2 0 = false from rfl) rfl)) ?_ (by rintro _ _ ⟨ba, bb, q, _, hba, hbb, hab, _, fb⟩; cases q)
      rintro v3 h3 ⟨ba, bb, q, x3, hba, hbb, hab, f3, fb⟩
      cases q
      have := e0.1
      replace f0 := f0.ext x3
      replace e0 := e0.trans x3
      refine ⟨(recheck_cons (h2 := h3) rfl (ld27 rfl f0 rfl) (by first | rfl | exact sameA_int _ _ | exact sameA_bool _ | exact sameA_agg2 _ _ | assumption | (simp [sameA, sameAs, eqI_eq]; done)) recheck_nil), _, rfl, ?_⟩
      refine GoE.call rfl rfl (aOp_callFunc aFunc24 rfl) (htr ba bb hab (by omega) (by omega) _ (by assumption) (by assumption) (by assumption)) (dropF_drop (show bit? 7 0 = true from rfl) rfl) ?_ (by rintro _ _ ⟨sw, sb, sc, sls, fs, rl, ls, q, _, hfl, hfs, hrl, hrs, hn5, hlt, G1, G2, hsw, G3, G4⟩; cases q)
      rintro v4 h4 ⟨sw, sb, sc, sls, fs, rl, ls, q, y4, hfl, hfs, hrl, hrs, hn5, hlt, G1, G2, hsw, G3, G4⟩
      cases q
      iterate 2 have := e0.1
      have := f3.1
      have := fb.1
      have := f0.1
      first | replace f3 := f3.extF y4 (fun q => by omega) | clear f3
      first | replace fb := fb.extF y4 (fun q => by omega) | clear fb
      first | replace f0 := f0.extF y4 (fun q => by omega) | clear f0
      first | replace e0 := y4.low e0 (fun b q => by omega) | clear e0
      have := y4.1
      refine ⟨recheck_nil, _, rfl, ?_⟩
      have M : ∀ bx, TrM F ⟨bx, sc, sw, sb, sls, fs, rl, ls⟩ _ := fun bx => TrM.mk' (bx := bx) ⟨hfl, hfs, hrl, hrs, hn5, hlt⟩ hsw G1 G2 G3 G4
      have M0 := M 0
      have hm1 := M0.sc.same
      have hm2 := M0.sb.same
      have hm3 := M0.sw.same
      have hsm2 := same_cells F (A.hs.same) (A.rs.same) hm1
      have hsm3 := same_tup hsm2 hm3 hm2
      have hsc3 := scal_cells F A.hs.scal.1 A.rs.scal.1 M0.sc.scal.1
      have e9 : Ext h4 h4 := Ext.refl _
      iterate 4 refine GoE.quiet rfl rfl rfl rfl ?_
      refine GoE.alloc rfl rfl zt27 (dropF_keep (show bit? 15 7 = false from rfl) (dropF_keep (show bit? 15 6 = false from rfl) (dropF_keep (show bit? 15 5 = false from rfl) (dropF_keep (show bit? 15 4 = false from rfl) rfl)))) rfl rfl fun h5 x5 f5 => ?_
      have := e0.1
      have := e9.1
      have := fb.1
      have := f0.1
      replace fb := fb.ext x5
      replace f0 := f0.ext x5
      replace e0 := e0.trans x5
      replace e9 := e9.trans x5
      replace y4 := y4.ext x5
      have := f5.1
      refine ⟨(recheck_cons (h2 := h5) rfl (rfl) (by first | rfl | exact sameA_int _ _ | exact sameA_bool _ | exact sameA_agg2 _ _ | assumption | (simp [sameA, sameAs, eqI_eq]; done)) (recheck_cons (h2 := h5) rfl (rfl) (by first | rfl | exact sameA_int _ _ | exact sameA_bool _ | exact sameA_agg2 _ _ | assumption | (simp [sameA, sameAs, eqI_eq]; done)) (recheck_cons (h2 := h5) rfl (rfl) (by first | rfl | exact sameA_int _ _ | exact sameA_bool _ | exact sameA_agg2 _ _ | assumption | (simp [sameA, sameAs, eqI_eq]; done)) (recheck_cons (h2 := h5) rfl (rfl) (by first | rfl | exact sameA_int _ _ | exact sameA_bool _ | exact sameA_agg2 _ _ | assumption | (simp [sameA, sameAs, eqI_eq]; done)) recheck_nil)))), ?_⟩
      refine GoE.store rfl rfl rfl rfl (dropF_keep (show bit? 319 7 = false from rfl) (dropF_keep (show bit? 319 6 = false from rfl) (dropF_drop (show bit? 319 5 = true from rfl) (dropF_drop (show bit? 319 4 = true from rfl) rfl)))) rfl rfl f5 rfl sz27 rfl hsc3 rfl fun h6 u6 => ?_
      replace f5 := u6.has f5
      replace fb := fb.upd u6 (by omega)
      replace f0 := f0.upd u6 (by omega)
      first | replace e0 := e0.upd u6 (by omega) | clear e0
      first | replace e9 := e9.upd u6 (by omega) | clear e9
      first | replace y4 := y4.upd u6 (by first | exact .inl rfl | exact .inl (.inl rfl) | exact .inl (.inr rfl) | exact .inl (by assumption) | exact .inr (by omega)) | skip
      refine ⟨(recheck_cons (h2 := h6) rfl (rfl) (by first | rfl | exact sameA_int _ _ | exact sameA_bool _ | exact sameA_agg2 _ _ | assumption | (simp [sameA, sameAs, eqI_eq]; done)) (recheck_cons (h2 := h6) rfl (rfl) (by first | rfl | exact sameA_int _ _ | exact sameA_bool _ | exact sameA_agg2 _ _ | assumption | (simp [sameA, sameAs, eqI_eq]; done)) recheck_nil)), ?_⟩
      iterate 2 refine GoE.quiet rfl rfl rfl rfl ?_
      refine GoE.end rfl ?_
      exact done ⟨_, sc, sw, sb, sls, fs, rl, ls⟩ _ _ ⟨rfl, rfl, rfl, rfl, trivial⟩ ⟨e0, f0, by assumption, (M _).ext e9⟩
  · clear e0 f0 hlo hhy htr
    rintro ⟨bx, sc, sw, sb, sls, fs, rl, ls⟩ h20 ⟨e0, f0, fx, M⟩
    dsimp only at fx ⊢
    have T := M.t
    dsimp only at T
    have OX := T.ok O
    have neX := T.ne O
    have cX := T.can O
    have A20 : ∀ h', Ext h20 h' → FieldAt h' (F.withL ls) hsl rsl sc := fun h' e => ⟨A.hs.ext (e0.trans e), A.rs.ext (e0.trans e), M.sc.ext e⟩
    have hF : ∀ h', Ext h20 h' → Runs Try.prog 18 [.agg [hsl, rsl, .int .i64 F.a, .int .i64 F.b, .int .i64 F.c, .int .i64 F.lim, sc]] h' (fun en h2 => en = .ret (.tuple [.int .i64 0, .int .i64 0, .int .i64 0]) ∧ Ext h' h2) := fun h' e => False_ok OX (few_none OX cX) hsl rsl sc h' (A20 h' e)
    have hC : ∀ h', Ext h20 h' → Runs Try.prog 19 [.agg [hsl, rsl, .int .i64 F.a, .int .i64 F.b, .int .i64 F.c, .int .i64 F.lim, sc]] h' (fun en h2 => en = .ret (.tuple [.int .i64 0, .int .i64 4]) ∧ Ext h' h2) := fun h' e => Clash_no OX cX hsl rsl sc h' (A20 h' e)
    obtain ⟨al, g, hA, hAl⟩ : ∃ al g : Int, (∀ h', Ext h20 h' → Runs Try.prog 26 [.agg [hsl, rsl, .int .i64 F.a, .int .i64 F.b, .int .i64 F.c, .int .i64 F.lim, sc]] h' (fun en h2 => en = .ret (.tuple [.int .i64 al, .int .i64 g]) ∧ Ext h' h2)) ∧ ((g = 0 ∧ ∃ d : Nat, al = d ∧ whenV (F.withL ls) (allHeaps (F.withL ls)) = some d) ∨ g = 4) := by
      cases q : whenV (F.withL ls) (allHeaps (F.withL ls)) with
      | none => exact ⟨0, 4, fun h' e => All_no OX hsl rsl sc (.inr ⟨neX, q, rfl⟩) h' (A20 h' e), .inr rfl⟩
      | some d => exact ⟨d, 0, fun h' e => All_yes OX neX hsl rsl sc q h' (A20 h' e), .inl ⟨rfl, d, rfl, rfl⟩⟩
    have hW : ∀ (i : Nat), i < F.hs.length → ∃ wh k : Int, (∀ h', Ext h20 h' → Runs Try.prog 16 [.agg [hsl, rsl, .int .i64 F.a, .int .i64 F.b, .int .i64 F.c, .int .i64 F.lim, sc], .int .i64 i] h' (fun en h2 => en = .ret (.tuple [.int .i64 wh, .int .i64 k]) ∧ Ext h' h2)) ∧ ((k = 0 ∧ ∃ d : Nat, wh = d ∧ whenV (F.withL ls) [(i : Nat)] = some d) ∨ (k = 4 ∧ g = 4)) := by
      intro i hi
      cases q : whenV (F.withL ls) [(i : Nat)] with
      | none =>
        refine ⟨0, 4, fun h' e => When_no OX hsl rsl sc i hi (.inr ⟨neX, q, rfl⟩) h' (A20 h' e), .inr ⟨rfl, ?_⟩⟩
        rcases hAl with ⟨_, d, _, hd⟩ | hg
        · obtain ⟨m, hm, _⟩ := when_all hd hi
          rw [hm] at q
          cases q
        · exact hg
      | some d => exact ⟨d, 0, fun h' e => When_yes OX neX hsl rsl sc i hi q h' (A20 h' e), .inl ⟨rfl, d, rfl, rfl⟩⟩
    have e5 : Ext h20 h20 := Ext.refl _
    refine Go.seq noJ_ok ?_
    refine Go.region noJ_ok rfl ?_
    refine GoR.op rfl rfl (ld27 rfl fx rfl) rfl ?_
    refine GoR.call rfl rfl (aOp_callFunc aFunc18 rfl) (hF _ e5) ?_ (by rintro _ _ ⟨q, _⟩; cases q)
    rintro v21 h21 ⟨q, x21⟩
    cases q
    refine ⟨_, rfl, ?_⟩
    replace f0 := f0.ext x21
    replace fx := fx.ext x21
    replace e0 := e0.trans x21
    replace e5 := e5.trans x21
    iterate 7 refine GoR.op rfl rfl rfl rfl ?_
    refine GoR.end ?_
    refine Go.seq noJ_ok ?_
    refine Go.region noJ_ok rfl ?_
    refine GoR.op rfl rfl (ld27 rfl fx rfl) rfl ?_
    refine GoR.call rfl rfl (aOp_callFunc aFunc19 rfl) (hC _ e5) ?_ (by rintro _ _ ⟨q, _⟩; cases q)
    rintro v22 h22 ⟨q, x22⟩
    cases q
    refine ⟨_, rfl, ?_⟩
    replace f0 := f0.ext x22
    replace fx := fx.ext x22
    replace e0 := e0.trans x22
    replace e5 := e5.trans x22
    iterate 5 refine GoR.op rfl rfl rfl rfl ?_
    refine GoR.end ?_
    refine Go.seq noJ_ok ?_
    refine Go.region noJ_ok rfl ?_
    refine GoR.op rfl rfl (ld27 rfl fx rfl) rfl ?_
    refine GoR.call rfl rfl (aOp_callFunc aFunc26 rfl) (hA _ e5) ?_ (by rintro _ _ ⟨q, _⟩; cases q)
    rintro v23 h23 ⟨q, x23⟩
    cases q
    refine ⟨_, rfl, ?_⟩
    replace f0 := f0.ext x23
    replace fx := fx.ext x23
    replace e0 := e0.trans x23
    replace e5 := e5.trans x23
    iterate 5 refine GoR.op rfl rfl rfl rfl ?_
    refine GoR.end ?_
    refine Go.seq noJ_ok (Go.join (fun _ : Unit => [(2, .ptr h.next 0), (5, .ptr bx 0), (6, sw), (7, sb), (13, .int .i64 al), (14, .int .i64 g)]) (fun _ h' => Ext h h' ∧ Ext h20 h' ∧ Has h' h.next (.cells .plain [hsl, rsl, .int .i64 F.a, .int .i64 F.b, .int .i64 F.c, .int .i64 F.lim, lsl] 27) ∧ Has h' bx (.cells .plain [hsl, rsl, .int .i64 F.a, .int .i64 F.b, .int .i64 F.c, .int .i64 F.lim, sc] 27)) ?_ ?_)
    · intro k' done
      rcases hAl with ⟨rfl, _⟩ | rfl
      · refine Go.seq noJ_ok ?_
        refine Go.region noJ_ok rfl ?_
        refine GoR.op rfl rfl rfl rfl ?_
        refine GoR.op rfl rfl (aOp_neq rfl rfl (r := false) (decide_eq_true (by omega))) rfl ?_
        iterate 2 refine GoR.op rfl rfl rfl rfl ?_
        refine GoR.op rfl rfl (aOp_neq rfl rfl (r := false) (decide_eq_true (by omega))) rfl ?_
        iterate 3 refine GoR.op rfl rfl rfl rfl ?_
        refine GoR.op rfl rfl (aOp_neq rfl rfl (r := false) (decide_eq_true (by omega))) rfl ?_
        iterate 3 refine GoR.op rfl rfl rfl rfl ?_
        refine GoR.op rfl rfl (aOp_neq rfl rfl (r := false) (decide_eq_true (by omega))) rfl ?_
        iterate 3 refine GoR.op rfl rfl rfl rfl ?_
        refine GoR.op rfl rfl (aOp_neq rfl rfl (r := false) (decide_eq_true (by omega))) rfl ?_
        refine GoR.op rfl rfl rfl rfl ?_
        iterate 2 refine GoR.skip rfl rfl rfl ?_
        iterate 2 refine GoR.op rfl rfl rfl rfl ?_
        refine GoR.end ?_
        refine Go.cond noJ_ok (b := false) rfl ?_
        refine Go.code noJ_ok ?_
        exact done () _ _ ⟨rfl, rfl, rfl, rfl, rfl, rfl, trivial⟩ ⟨e0, e5, f0, fx⟩
      · refine Go.seq noJ_ok ?_
        refine Go.region noJ_ok rfl ?_
        refine GoR.op rfl rfl rfl rfl ?_
        refine GoR.op rfl rfl (aOp_neq rfl rfl (r := false) (decide_eq_true (by omega))) rfl ?_
        iterate 2 refine GoR.op rfl rfl rfl rfl ?_
        refine GoR.op rfl rfl (aOp_neq rfl rfl (r := false) (decide_eq_true (by omega))) rfl ?_
        iterate 3 refine GoR.op rfl rfl rfl rfl ?_
        refine GoR.op rfl rfl (aOp_neq rfl rfl (r := false) (decide_eq_true (by omega))) rfl ?_
        iterate 3 refine GoR.op rfl rfl rfl rfl ?_
        refine GoR.op rfl rfl (aOp_neq rfl rfl (r := false) (decide_eq_true (by omega))) rfl ?_
        iterate 3 refine GoR.op rfl rfl rfl rfl ?_
        refine GoR.op rfl rfl (aOp_neq rfl rfl (r := true) (decide_eq_false (by omega))) rfl ?_
        iterate 2 refine GoR.op rfl rfl rfl rfl ?_
        refine GoR.op rfl rfl (aOp_neq rfl rfl (r := false) (decide_eq_true (by omega))) rfl ?_
        iterate 2 refine GoR.op rfl rfl rfl rfl ?_
        refine GoR.end ?_
        refine Go.cond noJ_ok (b := false) rfl ?_
        refine Go.code noJ_ok ?_
        exact done () _ _ ⟨rfl, rfl, rfl, rfl, rfl, rfl, trivial⟩ ⟨e0, e5, f0, fx⟩
    clear e0 e5 f0 fx
    rintro _ h30 ⟨e0, e5, f0, fx⟩
    have hTf := T.fl
    have hTr := T.rn
    have hMn := M.n
    dsimp only at hMn
    have hb1 := M.sb.len
    have hw1 := M.sw.len
    dsimp only at hb1 hw1
    rw [List.length_map] at hb1 hw1
    iterate 2 refine Go.seq noJ_ok ?_
    refine Go.region noJ_ok rfl ?_
    refine GoR.op rfl rfl rfl rfl ?_
    refine GoR.op rfl rfl (aOp_lenSlice Try.underlying50 rfl hb1) rfl ?_
    refine GoR.op rfl rfl rfl rfl ?_
    refine GoR.end ?_
    refine Go.block noJ_ok ?_
    refine Go.loopKeep (fun a : Nat => [(2, .ptr h.next 0), (5, .ptr bx 0), (6, sw), (13, .int .i64 al), (14, .int .i64 g), (83, sb), (84, .int .i64 rl.length), (85, .int .i64 (a : Nat))])
      (fun m a h' => m + a = rl.length ∧ Ext h h' ∧ Ext h20 h' ∧ Has h' h.next (.cells .plain [hsl, rsl, .int .i64 F.a, .int .i64 F.b, .int .i64 F.c, .int .i64 F.lim, lsl] 27) ∧ Has h' bx (.cells .plain [hsl, rsl, .int .i64 F.a, .int .i64 F.b, .int .i64 F.c, .int .i64 F.lim, sc] 27))
      (n := rl.length) 0 ⟨rfl, rfl, rfl, rfl, rfl, rfl, rfl, rfl, trivial⟩ ⟨rfl, e0, e5, f0, fx⟩ ?_
    clear e0 e5 f0 fx
    rintro m i h40 ⟨hm, e0, e5, f0, fx⟩ again
    by_cases hi : i < rl.length
    · obtain ⟨n, hn⟩ : ∃ n, rl[i]? = some n := ⟨rl[i], by simp [hi]⟩
      obtain ⟨r, hr⟩ : ∃ r, F.rs[i]? = some r := ⟨F.rs[i]'(by omega), by simp⟩
      have hrn := T.rain O hr hn
      obtain ⟨bq, off, q1, q2⟩ := M.sb.at (i := i) (l := [.int .i64 n]) (by rw [List.getElem?_map, hn]; rfl)
      obtain ⟨br, offr, r1, r2⟩ := A.rs.at (i := i) (l := spC r) (by rw [List.getElem?_map, hr]; rfl)
      rw [List.length_map] at q1 r1
      obtain ⟨ra, rb⟩ := r
      obtain ⟨wl, wh, hwr⟩ : ∃ wl wh, (F.withL ls).rain i = (wl, wh) := ⟨_, _, rfl⟩
      have hR : ∀ h', Ext h20 h' → Runs Try.prog 14 [.agg [hsl, rsl, .int .i64 F.a, .int .i64 F.b, .int .i64 F.c, .int .i64 F.lim, sc], .int .i64 i] h' (fun en h2 => en = .ret (.tuple [.agg [.int .i64 wl, .int .i64 wh], .int .i64 0]) ∧ Ext h' h2) := fun h' e => by
        have := Rain_yes OX neX hsl rsl sc i (show i < F.rs.length by omega) h' (A20 h' e)
        rw [hwr] at this
        exact this
      rw [hwr] at hrn
      dsimp only at hrn r2
      unfold spC at r2
      dsimp only at r2
      have hin := inside27_ok n wl wh (r := true) (decide_eq_true (by omega))
      refine Go.seq noJ_ok ?_
      refine Go.region noJ_ok rfl ?_
      refine GoR.op rfl rfl (aOp_lss rfl rfl (r := true) (decide_eq_true (by omega))) rfl ?_
      refine GoR.end ?_
      refine Go.seq noJ_ok ?_
      refine Go.cond noJ_ok (b := true) rfl ?_
      refine Go.code noJ_ok ?_
      refine Go.seq noJ_ok ?_
      refine Go.block noJ_ok ?_
      refine Go.seq noJ_ok ?_
      refine Go.region noJ_ok rfl ?_
      refine GoR.op rfl rfl rfl rfl ?_
      refine GoR.op rfl rfl (aOp_indexAddr Try.underlying50 sz3 rfl q1 rfl (Nat.ble_eq_true_of_le hi)) rfl ?_
      refine GoR.op rfl rfl (aOp_loadE1 (k := 0) ag3 rfl (q2.ext e5) rfl) rfl ?_
      iterate 2 refine GoR.op rfl rfl rfl rfl ?_
      refine GoR.end ?_
      refine Go.seq noJ_ok ?_
      refine Go.region noJ_ok rfl ?_
      refine GoR.op rfl rfl (ld27 rfl fx rfl) rfl ?_
      refine GoR.op rfl rfl rfl rfl ?_
      refine GoR.call rfl rfl (aOp_callFunc aFunc14 rfl) (hR _ e5) ?_ (by rintro _ _ ⟨q, _⟩; cases q)
      rintro v41 h41 ⟨q, x41⟩
      cases q
      refine ⟨_, rfl, ?_⟩
      replace f0 := f0.ext x41
      replace fx := fx.ext x41
      replace e0 := e0.trans x41
      replace e5 := e5.trans x41
      iterate 3 refine GoR.op rfl rfl rfl rfl ?_
      refine GoR.alloc rfl rfl rfl zt30 rfl rfl fun h42 x42 f42 => ?_
      have := e0.1
      have := e5.1
      have := f0.1
      have := fx.1
      replace f0 := f0.ext x42
      replace fx := fx.ext x42
      replace e0 := e0.trans x42
      replace e5 := e5.trans x42
      have := f42.1
      refine GoR.store rfl rfl rfl rfl rfl rfl f42 rfl sz30 rfl rfl rfl fun h43 u43 => ?_
      replace f42 := u43.has f42
      replace f0 := f0.upd u43 (by omega)
      replace fx := fx.upd u43 (by omega)
      first | replace e0 := e0.upd u43 (by omega) | clear e0
      first | replace e5 := e5.upd u43 (by omega) | clear e5
      refine GoR.op rfl rfl rfl rfl ?_
      refine GoR.end ?_
      refine Go.seq noJ_ok ?_
      refine Go.drawnE plan4_1 ?_
      refine GoE.quiet rfl rfl rfl rfl ?_
      refine GoE.quiet rfl rfl (aOp_neq rfl rfl (r := false) (decide_eq_true (by omega))) rfl ?_
      iterate 2 refine GoE.quiet rfl rfl rfl rfl ?_
      refine GoE.quiet rfl rfl (ld30 rfl f42 rfl) rfl ?_
      refine GoE.call rfl rfl (aOp_callFunc aFunc27 rfl) (hin _) (dropF_drop (show bit? 31 4 = true from rfl) (dropF_drop (show bit? 31 3 = true from rfl) (dropF_drop (show bit? 31 2 = true from rfl) (dropF_drop (show bit? 31 1 = true from rfl) (dropF_drop (show bit? 31 0 = true from rfl) rfl))))) ?_ (by rintro _ _ ⟨q, _⟩; cases q)
      rintro v44 h44 ⟨q, x44⟩
      cases q
      replace f42 := f42.ext x44
      replace f0 := f0.ext x44
      replace fx := fx.ext x44
      replace e0 := e0.trans x44
      replace e5 := e5.trans x44
      refine ⟨recheck_nil, _, rfl, ?_⟩
      iterate 3 refine GoE.quiet rfl rfl rfl rfl ?_
      refine GoE.quiet rfl rfl (fa30_0 rfl) rfl ?_
      refine GoE.quiet rfl rfl (ld3 rfl f42 rfl) rfl ?_
      refine GoE.quiet rfl rfl (fa27_1 rfl) rfl ?_
      refine GoE.quiet rfl rfl (ld23 rfl fx rfl) rfl ?_
      refine GoE.quiet rfl rfl rfl rfl ?_
      refine GoE.quiet rfl rfl (aOp_indexAddr Try.underlying23 sz30 rfl r1 rfl (Nat.ble_eq_true_of_le (by omega))) rfl ?_
      refine GoE.quiet rfl rfl (fa30_0 rfl) rfl ?_
      refine GoE.quiet rfl rfl (aOp_loadE1 (k := 0) ag3 rfl (r2.ext e0) rfl) rfl ?_
      refine GoE.quiet rfl rfl (aOp_lss rfl rfl (r := false) (decide_eq_false (by omega))) rfl ?_
      iterate 2 refine GoE.quiet rfl rfl rfl rfl ?_
      refine GoE.quiet rfl rfl (fa30_1 rfl) rfl ?_
      refine GoE.quiet rfl rfl (ld3 rfl f42 rfl) rfl ?_
      refine GoE.quiet rfl rfl (fa27_1 rfl) rfl ?_
      refine GoE.quiet rfl rfl (ld23 rfl fx rfl) rfl ?_
      refine GoE.quiet rfl rfl rfl rfl ?_
      refine GoE.quiet rfl rfl (aOp_indexAddr Try.underlying23 sz30 rfl r1 rfl (Nat.ble_eq_true_of_le (by omega))) rfl ?_
      refine GoE.quiet rfl rfl (fa30_1 rfl) rfl ?_
      refine GoE.quiet rfl rfl (aOp_loadE1 (k := 1) ag3 rfl (r2.ext e0) rfl) rfl ?_
      refine GoE.quiet rfl rfl (aOp_gtr rfl rfl (r := false) (decide_eq_false (by omega))) rfl ?_
      refine GoE.quiet rfl rfl rfl rfl ?_
      refine GoE.end rfl ?_
      refine Go.cond noJ_ok (b := false) rfl ?_
      refine Go.code noJ_ok ?_
      refine Go.inBlock noJ_ok ?_
      refine Go.region noJ_ok rfl ?_
      refine GoR.op rfl rfl (aOp_add rfl rfl (by constructor <;> omega) rfl) rfl ?_
      refine GoR.op rfl rfl rfl rfl ?_
      refine GoR.end ?_
      exact again (m - 1) (i + 1) _ _ (by omega) ⟨rfl, rfl, rfl, rfl, rfl, rfl, rfl, rfl, trivial⟩ ⟨by omega, e0, e5, f0, fx⟩
    · refine Go.seq noJ_ok ?_
      refine Go.region noJ_ok rfl ?_
      refine GoR.op rfl rfl (aOp_lss rfl rfl (r := false) (decide_eq_false (by omega))) rfl ?_
      refine GoR.end ?_
      refine Go.seq noJ_ok ?_
      refine Go.cond noJ_ok (b := false) rfl ?_
      refine Go.code noJ_ok ?_
      iterate 2 refine Go.seq noJ_ok ?_
      refine Go.region noJ_ok rfl ?_
      refine GoR.op rfl rfl rfl rfl ?_
      refine GoR.op rfl rfl (aOp_lenSlice Try.underlying49 rfl hw1) rfl ?_
      refine GoR.op rfl rfl rfl rfl ?_
      refine GoR.end ?_
      refine Go.block noJ_ok ?_
      clear again
      refine Go.loopKeep (fun a : Nat => [(2, .ptr h.next 0), (5, .ptr bx 0), (13, .int .i64 al), (14, .int .i64 g), (127, sw), (128, .int .i64 sls.length), (129, .int .i64 (a : Nat))])
        (fun m a h' => m + a = sls.length ∧ Ext h h' ∧ Ext h20 h' ∧ Has h' h.next (.cells .plain [hsl, rsl, .int .i64 F.a, .int .i64 F.b, .int .i64 F.c, .int .i64 F.lim, lsl] 27) ∧ Has h' bx (.cells .plain [hsl, rsl, .int .i64 F.a, .int .i64 F.b, .int .i64 F.c, .int .i64 F.lim, sc] 27))
        (n := sls.length) 0 ⟨rfl, rfl, rfl, rfl, rfl, rfl, rfl, trivial⟩ ⟨rfl, e0, e5, f0, fx⟩ ?_
      clear e0 e5 f0 fx hm
      rintro m i h50 ⟨hm, e0, e5, f0, fx⟩ again
      by_cases hi : i < sls.length
      · obtain ⟨sl, hsl'⟩ : ∃ n, sls[i]? = some n := ⟨sls[i], by simp [hi]⟩
        obtain ⟨x, hx⟩ : ∃ r, F.hs[i]? = some r := ⟨F.hs[i]'(by omega), by simp⟩
        obtain ⟨w, hw⟩ : ∃ r, fs[i]? = some r := ⟨fs[i]'(by omega), by simp⟩
        obtain ⟨wh, k, hWi, hk⟩ := hW i (by omega)
        have hwet := fun d n hn => T.wet O (i := i) (d := d) (n := n) hx hw hn
        have S := M.w i x w sl hx hw hsl'
        obtain ⟨L, hL⟩ : ∃ L, scan F.a F.b F.c x.p.toNat rl w = L := ⟨_, rfl⟩
        dsimp only at S
        rw [hL] at S hwet
        have hLl : L.length = rl.length := by rw [← hL, scan_len]
        have hLn := S.len
        rw [List.length_map] at hLn
        obtain ⟨bq, off, q1, q2⟩ := M.sw.at (i := i) (l := [sl]) (by dsimp only; rw [List.getElem?_map, hsl']; rfl)
        rw [List.length_map] at q1
        refine Go.seq noJ_ok ?_
        refine Go.region noJ_ok rfl ?_
        refine GoR.op rfl rfl (aOp_lss rfl rfl (r := true) (decide_eq_true (by omega))) rfl ?_
        refine GoR.end ?_
        refine Go.seq noJ_ok ?_
        refine Go.cond noJ_ok (b := true) rfl ?_
        refine Go.code noJ_ok ?_
        refine Go.seq noJ_ok ?_
        refine Go.block noJ_ok ?_
        refine Go.seq noJ_ok ?_
        refine Go.region noJ_ok rfl ?_
        refine GoR.op rfl rfl rfl rfl ?_
        refine GoR.op rfl rfl (aOp_indexAddr Try.underlying49 sz50 rfl q1 rfl (Nat.ble_eq_true_of_le hi)) rfl ?_
        refine GoR.op rfl rfl (aOp_loadE1 (k := 0) ag50 rfl (q2.ext e5) rfl) rfl ?_
        iterate 2 refine GoR.op rfl rfl rfl rfl ?_
        refine GoR.end ?_
        refine Go.seq noJ_ok ?_
        refine Go.region noJ_ok rfl ?_
        refine GoR.op rfl rfl (ld27 rfl fx rfl) rfl ?_
        refine GoR.op rfl rfl rfl rfl ?_
        refine GoR.call rfl rfl (aOp_callFunc aFunc16 rfl) (hWi _ e5) ?_ (by rintro _ _ ⟨q, _⟩; cases q)
        rintro v51 h51 ⟨q, x51⟩
        cases q
        refine ⟨_, rfl, ?_⟩
        replace f0 := f0.ext x51
        replace fx := fx.ext x51
        replace e0 := e0.trans x51
        replace e5 := e5.trans x51
        iterate 5 refine GoR.op rfl rfl rfl rfl ?_
        refine GoR.end ?_
        refine Go.seq noJ_ok (Go.join (fun _ : Unit => [(2, .ptr h.next 0), (5, .ptr bx 0), (13, .int .i64 al), (14, .int .i64 g), (19, .int .i64 (i : Nat)), (20, sl), (127, sw), (128, .int .i64 sls.length), (129, .int .i64 (i : Nat))]) (fun _ h' => Ext h h' ∧ Ext h20 h' ∧ Has h' h.next (.cells .plain [hsl, rsl, .int .i64 F.a, .int .i64 F.b, .int .i64 F.c, .int .i64 F.lim, lsl] 27) ∧ Has h' bx (.cells .plain [hsl, rsl, .int .i64 F.a, .int .i64 F.b, .int .i64 F.c, .int .i64 F.lim, sc] 27)) ?_ ?_)
        · intro k' done
          have one : ∀ d : Nat, d < F.rs.length → ((F.withL ls).wet (i : Nat) d).2 ≤ F.lim → ∃ n b o, n ≤ F.lim ∧ aSlElems sl = some (b, o, L.length) ∧ CellsAt h20 b (o + d * 1) 1 [.int .i64 n] := by
            intro d hd hle
            obtain ⟨n, hn⟩ : ∃ n, L[d]? = some n := ⟨L[d]'(by omega), by simp⟩
            have h1 := hwet d n hn
            obtain ⟨b, o, s1, s2⟩ := S.at (i := d) (l := [.int .i64 n]) (by rw [List.getElem?_map, hn]; rfl)
            rw [List.length_map] at s1
            exact ⟨n, b, o, by omega, s1, s2⟩
          have hll : (F.withL ls).lim = F.lim := rfl
          rcases hk with ⟨rfl, d, rfl, hd⟩ | ⟨rfl, rfl⟩
          · obtain ⟨d1, d2⟩ := when_sure hd
            have hd1 : d < F.rs.length := d1
            obtain ⟨n, b, o, hn, s1, s2⟩ := one d hd1 (d2 _ (by simp))
            rcases hAl with ⟨rfl, d', rfl, hd'⟩ | rfl
            · obtain ⟨d1', d2'⟩ := when_sure hd'
              have hd1' : d' < F.rs.length := d1'
              obtain ⟨n', b', o', hn', s1', s2'⟩ := one d' hd1' (d2' _ (List.mem_map.2 ⟨i, by simp; show i < F.hs.length; omega, rfl⟩))
              obtain ⟨m', hm', hm''⟩ := when_all hd' (i := i) (show i < F.hs.length by omega)
              rw [hd] at hm'
              cases hm'
              rw [s1] at s1'
              cases s1'
              refine Go.seq noJ_ok ?_
              refine Go.drawnE plan4_2 ?_
              refine GoE.quiet rfl rfl rfl rfl ?_
              refine GoE.quiet rfl rfl (aOp_eql rfl rfl (r := true) (decide_eq_true (by omega))) rfl ?_
              iterate 2 refine GoE.quiet rfl rfl rfl rfl ?_
              refine GoE.quiet rfl rfl (aOp_lss rfl rfl (r := false) (decide_eq_false (by omega))) rfl ?_
              iterate 3 refine GoE.quiet rfl rfl rfl rfl ?_
              refine GoE.quiet rfl rfl (aOp_lenSlice Try.underlying50 rfl hLn) rfl ?_
              refine GoE.quiet rfl rfl (aOp_geq rfl rfl (r := false) (decide_eq_false (by omega))) rfl ?_
              iterate 4 refine GoE.quiet rfl rfl rfl rfl ?_
              refine GoE.quiet rfl rfl (aOp_indexAddr Try.underlying50 sz3 rfl s1 rfl (Nat.ble_eq_true_of_le (by omega))) rfl ?_
              refine GoE.quiet rfl rfl (aOp_loadE1 (k := 0) ag3 rfl (s2.ext e5) rfl) rfl ?_
              refine GoE.quiet rfl rfl (fa27_3 rfl) rfl ?_
              refine GoE.quiet rfl rfl (ld3 rfl f0 rfl) rfl ?_
              refine GoE.quiet rfl rfl (aOp_gtr rfl rfl (r := false) (decide_eq_false (by omega))) rfl ?_
              iterate 4 refine GoE.quiet rfl rfl rfl rfl ?_
              refine GoE.quiet rfl rfl (aOp_neq rfl rfl (r := false) (decide_eq_true (by omega))) rfl ?_
              refine GoE.quiet rfl rfl rfl rfl ?_
              iterate 2 refine GoE.skip rfl rfl rfl ?_
              iterate 4 refine GoE.quiet rfl rfl rfl rfl ?_
              refine GoE.quiet rfl rfl (aOp_eql rfl rfl (r := true) (decide_eq_true (by omega))) rfl ?_
              iterate 2 refine GoE.quiet rfl rfl rfl rfl ?_
              refine GoE.quiet rfl rfl (aOp_lss rfl rfl (r := false) (decide_eq_false (by omega))) rfl ?_
              iterate 3 refine GoE.quiet rfl rfl rfl rfl ?_
              refine GoE.quiet rfl rfl (aOp_lenSlice Try.underlying50 rfl hLn) rfl ?_
              refine GoE.quiet rfl rfl (aOp_geq rfl rfl (r := false) (decide_eq_false (by omega))) rfl ?_
              iterate 4 refine GoE.quiet rfl rfl rfl rfl ?_
              refine GoE.quiet rfl rfl (aOp_indexAddr Try.underlying50 sz3 rfl s1 rfl (Nat.ble_eq_true_of_le (by omega))) rfl ?_
              refine GoE.quiet rfl rfl (aOp_loadE1 (k := 0) ag3 rfl (s2'.ext e5) rfl) rfl ?_
              refine GoE.quiet rfl rfl (fa27_3 rfl) rfl ?_
              refine GoE.quiet rfl rfl (ld3 rfl f0 rfl) rfl ?_
              refine GoE.quiet rfl rfl (aOp_gtr rfl rfl (r := false) (decide_eq_false (by omega))) rfl ?_
              iterate 3 refine GoE.quiet rfl rfl rfl rfl ?_
              refine GoE.quiet rfl rfl (aOp_neq rfl rfl (r := false) (decide_eq_true (by omega))) rfl ?_
              iterate 4 refine GoE.quiet rfl rfl rfl rfl ?_
              refine GoE.quiet rfl rfl (aOp_gtr rfl rfl (r := false) (decide_eq_false (by omega))) rfl ?_
              iterate 3 refine GoE.quiet rfl rfl rfl rfl ?_
              refine GoE.end rfl ?_
              refine Go.cond noJ_ok (b := false) rfl ?_
              refine Go.code noJ_ok ?_
              exact done () _ _ ⟨rfl, rfl, rfl, rfl, rfl, rfl, rfl, rfl, rfl, trivial⟩ ⟨e0, e5, f0, fx⟩
            · refine Go.seq noJ_ok ?_
              refine Go.drawnE plan4_2 ?_
              refine GoE.quiet rfl rfl rfl rfl ?_
              refine GoE.quiet rfl rfl (aOp_eql rfl rfl (r := true) (decide_eq_true (by omega))) rfl ?_
              iterate 2 refine GoE.quiet rfl rfl rfl rfl ?_
              refine GoE.quiet rfl rfl (aOp_lss rfl rfl (r := false) (decide_eq_false (by omega))) rfl ?_
              iterate 3 refine GoE.quiet rfl rfl rfl rfl ?_
              refine GoE.quiet rfl rfl (aOp_lenSlice Try.underlying50 rfl hLn) rfl ?_
              refine GoE.quiet rfl rfl (aOp_geq rfl rfl (r := false) (decide_eq_false (by omega))) rfl ?_
              iterate 4 refine GoE.quiet rfl rfl rfl rfl ?_
              refine GoE.quiet rfl rfl (aOp_indexAddr Try.underlying50 sz3 rfl s1 rfl (Nat.ble_eq_true_of_le (by omega))) rfl ?_
              refine GoE.quiet rfl rfl (aOp_loadE1 (k := 0) ag3 rfl (s2.ext e5) rfl) rfl ?_
              refine GoE.quiet rfl rfl (fa27_3 rfl) rfl ?_
              refine GoE.quiet rfl rfl (ld3 rfl f0 rfl) rfl ?_
              refine GoE.quiet rfl rfl (aOp_gtr rfl rfl (r := false) (decide_eq_false (by omega))) rfl ?_
              iterate 4 refine GoE.quiet rfl rfl rfl rfl ?_
              refine GoE.quiet rfl rfl (aOp_neq rfl rfl (r := false) (decide_eq_true (by omega))) rfl ?_
              refine GoE.quiet rfl rfl rfl rfl ?_
              iterate 2 refine GoE.skip rfl rfl rfl ?_
              iterate 4 refine GoE.quiet rfl rfl rfl rfl ?_
              refine GoE.quiet rfl rfl (aOp_eql rfl rfl (r := false) (decide_eq_false (by omega))) rfl ?_
              refine GoE.quiet rfl rfl rfl rfl ?_
              iterate 26 refine GoE.skip rfl rfl rfl ?_
              iterate 2 refine GoE.quiet rfl rfl rfl rfl ?_
              refine GoE.end rfl ?_
              refine Go.cond noJ_ok (b := false) rfl ?_
              refine Go.code noJ_ok ?_
              exact done () _ _ ⟨rfl, rfl, rfl, rfl, rfl, rfl, rfl, rfl, rfl, trivial⟩ ⟨e0, e5, f0, fx⟩
          · refine Go.seq noJ_ok ?_
            refine Go.drawnE plan4_2 ?_
            refine GoE.quiet rfl rfl rfl rfl ?_
            refine GoE.quiet rfl rfl (aOp_eql rfl rfl (r := false) (decide_eq_false (by omega))) rfl ?_
            refine GoE.quiet rfl rfl rfl rfl ?_
            iterate 17 refine GoE.skip rfl rfl rfl ?_
            iterate 3 refine GoE.quiet rfl rfl rfl rfl ?_
            refine GoE.quiet rfl rfl (aOp_neq rfl rfl (r := true) (decide_eq_false (by omega))) rfl ?_
            iterate 2 refine GoE.quiet rfl rfl rfl rfl ?_
            refine GoE.quiet rfl rfl (aOp_neq rfl rfl (r := false) (decide_eq_true (by omega))) rfl ?_
            iterate 4 refine GoE.quiet rfl rfl rfl rfl ?_
            refine GoE.quiet rfl rfl (aOp_eql rfl rfl (r := false) (decide_eq_false (by omega))) rfl ?_
            refine GoE.quiet rfl rfl rfl rfl ?_
            iterate 26 refine GoE.skip rfl rfl rfl ?_
            iterate 2 refine GoE.quiet rfl rfl rfl rfl ?_
            refine GoE.end rfl ?_
            refine Go.cond noJ_ok (b := false) rfl ?_
            refine Go.code noJ_ok ?_
            exact done () _ _ ⟨rfl, rfl, rfl, rfl, rfl, rfl, rfl, rfl, rfl, trivial⟩ ⟨e0, e5, f0, fx⟩
        clear e0 e5 f0 fx
        rintro _ h60 ⟨e0, e5, f0, fx⟩
        refine Go.seq noJ_ok ?_
        refine Go.region noJ_ok rfl ?_
        refine GoR.op rfl rfl rfl rfl ?_
        refine GoR.op rfl rfl (aOp_lenSlice Try.underlying50 rfl hLn) rfl ?_
        refine GoR.op rfl rfl rfl rfl ?_
        refine GoR.end ?_
        refine Go.block noJ_ok ?_
        refine Go.loopKeep (fun a : Nat => [(2, .ptr h.next 0), (5, .ptr bx 0), (13, .int .i64 al), (14, .int .i64 g), (19, .int .i64 (i : Nat)), (127, sw), (128, .int .i64 sls.length), (129, .int .i64 (i : Nat)), (201, sl), (202, .int .i64 L.length), (203, .int .i64 (a : Nat))])
          (fun m a h' => m + a = L.length ∧ Ext h h' ∧ Ext h20 h' ∧ Has h' h.next (.cells .plain [hsl, rsl, .int .i64 F.a, .int .i64 F.b, .int .i64 F.c, .int .i64 F.lim, lsl] 27) ∧ Has h' bx (.cells .plain [hsl, rsl, .int .i64 F.a, .int .i64 F.b, .int .i64 F.c, .int .i64 F.lim, sc] 27))
          (n := L.length) 0 ⟨rfl, rfl, rfl, rfl, rfl, rfl, rfl, rfl, rfl, rfl, rfl, trivial⟩ ⟨rfl, e0, e5, f0, fx⟩ ?_
        clear e0 e5 f0 fx
        rintro m2 d h70 ⟨hm2, e0, e5, f0, fx⟩ again2
        by_cases hd : d < L.length
        · obtain ⟨n, hn⟩ : ∃ n, L[d]? = some n := ⟨L[d], by simp [hd]⟩
          have h1 := hwet d n hn
          obtain ⟨bd, od, s1, s2⟩ := S.at (i := d) (l := [.int .i64 n]) (by rw [List.getElem?_map, hn]; rfl)
          rw [List.length_map] at s1
          obtain ⟨wl, wh2, hwr⟩ : ∃ wl wh, (F.withL ls).wet (i : Nat) d = (wl, wh) := ⟨_, _, rfl⟩
          obtain ⟨dr, hdr⟩ : ∃ dr, dryV F.lim (wl, wh2) = dr := ⟨_, rfl⟩
          have hWd : ∀ h', Ext h20 h' → Runs Try.prog 13 [.agg [hsl, rsl, .int .i64 F.a, .int .i64 F.b, .int .i64 F.c, .int .i64 F.lim, sc], .int .i64 i, .int .i64 d] h' (fun en h2 => en = .ret (.tuple [.agg [.int .i64 wl, .int .i64 wh2], .int .i64 0]) ∧ Ext h' h2) := fun h' e => by
            have := Wet_yes OX neX hsl rsl sc i (show i < F.hs.length by omega) d (show d < F.rs.length by omega) h' (A20 h' e)
            rw [hwr] at this
            exact this
          have hDd : ∀ h', Ext h20 h' → Runs Try.prog 15 [.agg [hsl, rsl, .int .i64 F.a, .int .i64 F.b, .int .i64 F.c, .int .i64 F.lim, sc], .int .i64 i, .int .i64 d] h' (fun en h2 => en = .ret (.tuple [.int .i64 dr, .int .i64 0]) ∧ Ext h' h2) := fun h' e => by
            have := Dry_yes OX neX hsl rsl sc i (show i < F.hs.length by omega) d (show d < F.rs.length by omega) h' (A20 h' e)
            rw [hwr, show dryV (F.withL ls).lim (wl, wh2) = dr from hdr] at this
            exact this
          rw [hwr] at h1
          dsimp only at h1
          have hin := inside27_ok n wl wh2 (r := true) (decide_eq_true (by omega))
          unfold dryV at hdr
          dsimp only at hdr
          by_cases z1 : wh2 ≤ F.lim
          · rw [if_pos z1] at hdr
            subst hdr
            refine Go.seq noJ_ok ?_
            refine Go.region noJ_ok rfl ?_
            refine GoR.op rfl rfl (aOp_lss rfl rfl (r := true) (decide_eq_true (by omega))) rfl ?_
            refine GoR.end ?_
            refine Go.seq noJ_ok ?_
            refine Go.cond noJ_ok (b := true) rfl ?_
            refine Go.code noJ_ok ?_
            refine Go.seq noJ_ok ?_
            refine Go.block noJ_ok ?_
            refine Go.seq noJ_ok ?_
            refine Go.region noJ_ok rfl ?_
            refine GoR.op rfl rfl rfl rfl ?_
            refine GoR.op rfl rfl (aOp_indexAddr Try.underlying50 sz3 rfl s1 rfl (Nat.ble_eq_true_of_le hd)) rfl ?_
            refine GoR.op rfl rfl (aOp_loadE1 (k := 0) ag3 rfl (s2.ext e5) rfl) rfl ?_
            iterate 2 refine GoR.op rfl rfl rfl rfl ?_
            refine GoR.end ?_
            refine Go.seq noJ_ok ?_
            refine Go.region noJ_ok rfl ?_
            refine GoR.op rfl rfl (ld27 rfl fx rfl) rfl ?_
            iterate 2 refine GoR.op rfl rfl rfl rfl ?_
            refine GoR.call rfl rfl (aOp_callFunc aFunc13 rfl) (hWd _ e5) ?_ (by rintro _ _ ⟨q, _⟩; cases q)
            rintro v71 h71 ⟨q, x71⟩
            cases q
            refine ⟨_, rfl, ?_⟩
            replace f0 := f0.ext x71
            replace fx := fx.ext x71
            replace e0 := e0.trans x71
            replace e5 := e5.trans x71
            iterate 3 refine GoR.op rfl rfl rfl rfl ?_
            refine GoR.alloc rfl rfl rfl zt30 rfl rfl fun h72 x72 f72 => ?_
            have := e0.1
            have := e5.1
            have := f0.1
            have := fx.1
            replace f0 := f0.ext x72
            replace fx := fx.ext x72
            replace e0 := e0.trans x72
            replace e5 := e5.trans x72
            have := f72.1
            refine GoR.store rfl rfl rfl rfl rfl rfl f72 rfl sz30 rfl rfl rfl fun h73 u73 => ?_
            replace f72 := u73.has f72
            replace f0 := f0.upd u73 (by omega)
            replace fx := fx.upd u73 (by omega)
            first | replace e0 := e0.upd u73 (by omega) | clear e0
            first | replace e5 := e5.upd u73 (by omega) | clear e5
            refine GoR.op rfl rfl rfl rfl ?_
            refine GoR.end ?_
            refine Go.seq noJ_ok ?_
            refine Go.region noJ_ok rfl ?_
            refine GoR.op rfl rfl (ld27 rfl fx rfl) rfl ?_
            iterate 2 refine GoR.op rfl rfl rfl rfl ?_
            refine GoR.call rfl rfl (aOp_callFunc aFunc15 rfl) (hDd _ e5) ?_ (by rintro _ _ ⟨q, _⟩; cases q)
            rintro v74 h74 ⟨q, x74⟩
            cases q
            refine ⟨_, rfl, ?_⟩
            replace f72 := f72.ext x74
            replace f0 := f0.ext x74
            replace fx := fx.ext x74
            replace e0 := e0.trans x74
            replace e5 := e5.trans x74
            iterate 5 refine GoR.op rfl rfl rfl rfl ?_
            refine GoR.end ?_
            refine Go.seq noJ_ok ?_
            refine Go.region noJ_ok rfl ?_
            refine GoR.op rfl rfl rfl rfl ?_
            refine GoR.op rfl rfl (aOp_neq rfl rfl (r := false) (decide_eq_true (by omega))) rfl ?_
            iterate 2 refine GoR.op rfl rfl rfl rfl ?_
            refine GoR.op rfl rfl (aOp_neq rfl rfl (r := false) (decide_eq_true (by omega))) rfl ?_
            iterate 3 refine GoR.op rfl rfl rfl rfl ?_
            refine GoR.op rfl rfl (ld30 rfl f72 rfl) rfl ?_
            refine GoR.call rfl rfl (aOp_callFunc aFunc27 rfl) (hin _) ?_ (by rintro _ _ ⟨q, _⟩; cases q)
            rintro v75 h75 ⟨q, x75⟩
            cases q
            refine ⟨_, rfl, ?_⟩
            replace f72 := f72.ext x75
            replace f0 := f0.ext x75
            replace fx := fx.ext x75
            replace e0 := e0.trans x75
            replace e5 := e5.trans x75
            iterate 4 refine GoR.op rfl rfl rfl rfl ?_
            refine GoR.op rfl rfl (aOp_eql rfl rfl (r := true) (decide_eq_true (by omega))) rfl ?_
            iterate 2 refine GoR.op rfl rfl rfl rfl ?_
            refine GoR.op rfl rfl (fa27_3 rfl) rfl ?_
            refine GoR.op rfl rfl (ld3 rfl f0 rfl) rfl ?_
            refine GoR.op rfl rfl (aOp_gtr rfl rfl (r := false) (decide_eq_false (by omega))) rfl ?_
            iterate 4 refine GoR.op rfl rfl rfl rfl ?_
            refine GoR.op rfl rfl (aOp_eql rfl rfl (r := false) (decide_eq_false (by omega))) rfl ?_
            refine GoR.op rfl rfl rfl rfl ?_
            iterate 4 refine GoR.skip rfl rfl rfl ?_
            iterate 2 refine GoR.op rfl rfl rfl rfl ?_
            refine GoR.end ?_
            refine Go.cond noJ_ok (b := false) rfl ?_
            refine Go.code noJ_ok ?_
            refine Go.inBlock noJ_ok ?_
            refine Go.region noJ_ok rfl ?_
            refine GoR.op rfl rfl (aOp_add rfl rfl (by constructor <;> omega) rfl) rfl ?_
            refine GoR.op rfl rfl rfl rfl ?_
            refine GoR.end ?_
            exact again2 (m2 - 1) (d + 1) _ _ (by omega) ⟨rfl, rfl, rfl, rfl, rfl, rfl, rfl, rfl, rfl, rfl, rfl, trivial⟩ ⟨by omega, e0, e5, f0, fx⟩
          · rw [if_neg z1] at hdr
            by_cases z2 : F.lim < wl
            · rw [if_pos z2] at hdr
              subst hdr
              refine Go.seq noJ_ok ?_
              refine Go.region noJ_ok rfl ?_
              refine GoR.op rfl rfl (aOp_lss rfl rfl (r := true) (decide_eq_true (by omega))) rfl ?_
              refine GoR.end ?_
              refine Go.seq noJ_ok ?_
              refine Go.cond noJ_ok (b := true) rfl ?_
              refine Go.code noJ_ok ?_
              refine Go.seq noJ_ok ?_
              refine Go.block noJ_ok ?_
              refine Go.seq noJ_ok ?_
              refine Go.region noJ_ok rfl ?_
              refine GoR.op rfl rfl rfl rfl ?_
              refine GoR.op rfl rfl (aOp_indexAddr Try.underlying50 sz3 rfl s1 rfl (Nat.ble_eq_true_of_le hd)) rfl ?_
              refine GoR.op rfl rfl (aOp_loadE1 (k := 0) ag3 rfl (s2.ext e5) rfl) rfl ?_
              iterate 2 refine GoR.op rfl rfl rfl rfl ?_
              refine GoR.end ?_
              refine Go.seq noJ_ok ?_
              refine Go.region noJ_ok rfl ?_
              refine GoR.op rfl rfl (ld27 rfl fx rfl) rfl ?_
              iterate 2 refine GoR.op rfl rfl rfl rfl ?_
              refine GoR.call rfl rfl (aOp_callFunc aFunc13 rfl) (hWd _ e5) ?_ (by rintro _ _ ⟨q, _⟩; cases q)
              rintro v71 h71 ⟨q, x71⟩
              cases q
              refine ⟨_, rfl, ?_⟩
              replace f0 := f0.ext x71
              replace fx := fx.ext x71
              replace e0 := e0.trans x71
              replace e5 := e5.trans x71
              iterate 3 refine GoR.op rfl rfl rfl rfl ?_
              refine GoR.alloc rfl rfl rfl zt30 rfl rfl fun h72 x72 f72 => ?_
              have := e0.1
              have := e5.1
              have := f0.1
              have := fx.1
              replace f0 := f0.ext x72
              replace fx := fx.ext x72
              replace e0 := e0.trans x72
              replace e5 := e5.trans x72
              have := f72.1
              refine GoR.store rfl rfl rfl rfl rfl rfl f72 rfl sz30 rfl rfl rfl fun h73 u73 => ?_
              replace f72 := u73.has f72
              replace f0 := f0.upd u73 (by omega)
              replace fx := fx.upd u73 (by omega)
              first | replace e0 := e0.upd u73 (by omega) | clear e0
              first | replace e5 := e5.upd u73 (by omega) | clear e5
              refine GoR.op rfl rfl rfl rfl ?_
              refine GoR.end ?_
              refine Go.seq noJ_ok ?_
              refine Go.region noJ_ok rfl ?_
              refine GoR.op rfl rfl (ld27 rfl fx rfl) rfl ?_
              iterate 2 refine GoR.op rfl rfl rfl rfl ?_
              refine GoR.call rfl rfl (aOp_callFunc aFunc15 rfl) (hDd _ e5) ?_ (by rintro _ _ ⟨q, _⟩; cases q)
              rintro v74 h74 ⟨q, x74⟩
              cases q
              refine ⟨_, rfl, ?_⟩
              replace f72 := f72.ext x74
              replace f0 := f0.ext x74
              replace fx := fx.ext x74
              replace e0 := e0.trans x74
              replace e5 := e5.trans x74
              iterate 5 refine GoR.op rfl rfl rfl rfl ?_
              refine GoR.end ?_
              refine Go.seq noJ_ok ?_
              refine Go.region noJ_ok rfl ?_
              refine GoR.op rfl rfl rfl rfl ?_
              refine GoR.op rfl rfl (aOp_neq rfl rfl (r := false) (decide_eq_true (by omega))) rfl ?_
              iterate 2 refine GoR.op rfl rfl rfl rfl ?_
              refine GoR.op rfl rfl (aOp_neq rfl rfl (r := false) (decide_eq_true (by omega))) rfl ?_
              iterate 3 refine GoR.op rfl rfl rfl rfl ?_
              refine GoR.op rfl rfl (ld30 rfl f72 rfl) rfl ?_
              refine GoR.call rfl rfl (aOp_callFunc aFunc27 rfl) (hin _) ?_ (by rintro _ _ ⟨q, _⟩; cases q)
              rintro v75 h75 ⟨q, x75⟩
              cases q
              refine ⟨_, rfl, ?_⟩
              replace f72 := f72.ext x75
              replace f0 := f0.ext x75
              replace fx := fx.ext x75
              replace e0 := e0.trans x75
              replace e5 := e5.trans x75
              iterate 4 refine GoR.op rfl rfl rfl rfl ?_
              refine GoR.op rfl rfl (aOp_eql rfl rfl (r := false) (decide_eq_false (by omega))) rfl ?_
              refine GoR.op rfl rfl rfl rfl ?_
              iterate 4 refine GoR.skip rfl rfl rfl ?_
              iterate 4 refine GoR.op rfl rfl rfl rfl ?_
              refine GoR.op rfl rfl (aOp_eql rfl rfl (r := true) (decide_eq_true (by omega))) rfl ?_
              iterate 2 refine GoR.op rfl rfl rfl rfl ?_
              refine GoR.op rfl rfl (fa27_3 rfl) rfl ?_
              refine GoR.op rfl rfl (ld3 rfl f0 rfl) rfl ?_
              refine GoR.op rfl rfl (aOp_leq rfl rfl (r := false) (decide_eq_false (by omega))) rfl ?_
              iterate 2 refine GoR.op rfl rfl rfl rfl ?_
              refine GoR.end ?_
              refine Go.cond noJ_ok (b := false) rfl ?_
              refine Go.code noJ_ok ?_
              refine Go.inBlock noJ_ok ?_
              refine Go.region noJ_ok rfl ?_
              refine GoR.op rfl rfl (aOp_add rfl rfl (by constructor <;> omega) rfl) rfl ?_
              refine GoR.op rfl rfl rfl rfl ?_
              refine GoR.end ?_
              exact again2 (m2 - 1) (d + 1) _ _ (by omega) ⟨rfl, rfl, rfl, rfl, rfl, rfl, rfl, rfl, rfl, rfl, rfl, trivial⟩ ⟨by omega, e0, e5, f0, fx⟩
            · rw [if_neg z2] at hdr
              subst hdr
              refine Go.seq noJ_ok ?_
              refine Go.region noJ_ok rfl ?_
              refine GoR.op rfl rfl (aOp_lss rfl rfl (r := true) (decide_eq_true (by omega))) rfl ?_
              refine GoR.end ?_
              refine Go.seq noJ_ok ?_
              refine Go.cond noJ_ok (b := true) rfl ?_
              refine Go.code noJ_ok ?_
              refine Go.seq noJ_ok ?_
              refine Go.block noJ_ok ?_
              refine Go.seq noJ_ok ?_
              refine Go.region noJ_ok rfl ?_
              refine GoR.op rfl rfl rfl rfl ?_
              refine GoR.op rfl rfl (aOp_indexAddr Try.underlying50 sz3 rfl s1 rfl (Nat.ble_eq_true_of_le hd)) rfl ?_
              refine GoR.op rfl rfl (aOp_loadE1 (k := 0) ag3 rfl (s2.ext e5) rfl) rfl ?_
              iterate 2 refine GoR.op rfl rfl rfl rfl ?_
              refine GoR.end ?_
              refine Go.seq noJ_ok ?_
              refine Go.region noJ_ok rfl ?_
              refine GoR.op rfl rfl (ld27 rfl fx rfl) rfl ?_
              iterate 2 refine GoR.op rfl rfl rfl rfl ?_
              refine GoR.call rfl rfl (aOp_callFunc aFunc13 rfl) (hWd _ e5) ?_ (by rintro _ _ ⟨q, _⟩; cases q)
              rintro v71 h71 ⟨q, x71⟩
              cases q
              refine ⟨_, rfl, ?_⟩
              replace f0 := f0.ext x71
              replace fx := fx.ext x71
              replace e0 := e0.trans x71
              replace e5 := e5.trans x71
              iterate 3 refine GoR.op rfl rfl rfl rfl ?_
              refine GoR.alloc rfl rfl rfl zt30 rfl rfl fun h72 x72 f72 => ?_
              have := e0.1
              have := e5.1
              have := f0.1
              have := fx.1
              replace f0 := f0.ext x72
              replace fx := fx.ext x72
              replace e0 := e0.trans x72
              replace e5 := e5.trans x72
              have := f72.1
              refine GoR.store rfl rfl rfl rfl rfl rfl f72 rfl sz30 rfl rfl rfl fun h73 u73 => ?_
              replace f72 := u73.has f72
              replace f0 := f0.upd u73 (by omega)
              replace fx := fx.upd u73 (by omega)
              first | replace e0 := e0.upd u73 (by omega) | clear e0
              first | replace e5 := e5.upd u73 (by omega) | clear e5
              refine GoR.op rfl rfl rfl rfl ?_
              refine GoR.end ?_
              refine Go.seq noJ_ok ?_
              refine Go.region noJ_ok rfl ?_
              refine GoR.op rfl rfl (ld27 rfl fx rfl) rfl ?_
              iterate 2 refine GoR.op rfl rfl rfl rfl ?_
              refine GoR.call rfl rfl (aOp_callFunc aFunc15 rfl) (hDd _ e5) ?_ (by rintro _ _ ⟨q, _⟩; cases q)
              rintro v74 h74 ⟨q, x74⟩
              cases q
              refine ⟨_, rfl, ?_⟩
              replace f72 := f72.ext x74
              replace f0 := f0.ext x74
              replace fx := fx.ext x74
              replace e0 := e0.trans x74
              replace e5 := e5.trans x74
              iterate 5 refine GoR.op rfl rfl rfl rfl ?_
              refine GoR.end ?_
              refine Go.seq noJ_ok ?_
              refine Go.region noJ_ok rfl ?_
              refine GoR.op rfl rfl rfl rfl ?_
              refine GoR.op rfl rfl (aOp_neq rfl rfl (r := false) (decide_eq_true (by omega))) rfl ?_
              iterate 2 refine GoR.op rfl rfl rfl rfl ?_
              refine GoR.op rfl rfl (aOp_neq rfl rfl (r := false) (decide_eq_true (by omega))) rfl ?_
              iterate 3 refine GoR.op rfl rfl rfl rfl ?_
              refine GoR.op rfl rfl (ld30 rfl f72 rfl) rfl ?_
              refine GoR.call rfl rfl (aOp_callFunc aFunc27 rfl) (hin _) ?_ (by rintro _ _ ⟨q, _⟩; cases q)
              rintro v75 h75 ⟨q, x75⟩
              cases q
              refine ⟨_, rfl, ?_⟩
              replace f72 := f72.ext x75
              replace f0 := f0.ext x75
              replace fx := fx.ext x75
              replace e0 := e0.trans x75
              replace e5 := e5.trans x75
              iterate 4 refine GoR.op rfl rfl rfl rfl ?_
              refine GoR.op rfl rfl (aOp_eql rfl rfl (r := false) (decide_eq_false (by omega))) rfl ?_
              refine GoR.op rfl rfl rfl rfl ?_
              iterate 4 refine GoR.skip rfl rfl rfl ?_
              iterate 4 refine GoR.op rfl rfl rfl rfl ?_
              refine GoR.op rfl rfl (aOp_eql rfl rfl (r := false) (decide_eq_false (by omega))) rfl ?_
              refine GoR.op rfl rfl rfl rfl ?_
              iterate 4 refine GoR.skip rfl rfl rfl ?_
              iterate 2 refine GoR.op rfl rfl rfl rfl ?_
              refine GoR.end ?_
              refine Go.cond noJ_ok (b := false) rfl ?_
              refine Go.code noJ_ok ?_
              refine Go.inBlock noJ_ok ?_
              refine Go.region noJ_ok rfl ?_
              refine GoR.op rfl rfl (aOp_add rfl rfl (by constructor <;> omega) rfl) rfl ?_
              refine GoR.op rfl rfl rfl rfl ?_
              refine GoR.end ?_
              exact again2 (m2 - 1) (d + 1) _ _ (by omega) ⟨rfl, rfl, rfl, rfl, rfl, rfl, rfl, rfl, rfl, rfl, rfl, trivial⟩ ⟨by omega, e0, e5, f0, fx⟩
        · refine Go.seq noJ_ok ?_
          refine Go.region noJ_ok rfl ?_
          refine GoR.op rfl rfl (aOp_lss rfl rfl (r := false) (decide_eq_false (by omega))) rfl ?_
          refine GoR.end ?_
          refine Go.seq noJ_ok ?_
          refine Go.cond noJ_ok (b := false) rfl ?_
          refine Go.code noJ_ok ?_
          refine Go.inBlock noJ_ok ?_
          refine Go.region noJ_ok rfl ?_
          refine GoR.op rfl rfl (aOp_add rfl rfl (by constructor <;> omega) rfl) rfl ?_
          refine GoR.op rfl rfl rfl rfl ?_
          refine GoR.end ?_
          exact again (m - 1) (i + 1) _ _ (by omega) ⟨rfl, rfl, rfl, rfl, rfl, rfl, rfl, trivial⟩ ⟨by omega, e0, e5, f0, fx⟩
      · refine Go.seq noJ_ok ?_
        refine Go.region noJ_ok rfl ?_
        refine GoR.op rfl rfl (aOp_lss rfl rfl (r := false) (decide_eq_false (by omega))) rfl ?_
        refine GoR.end ?_
        refine Go.seq noJ_ok ?_
        refine Go.cond noJ_ok (b := false) rfl ?_
        refine Go.code noJ_ok ?_
        refine Go.seq noJ_ok ?_
        refine Go.region JA_ok rfl ?_
        refine GoR.jump JA_ok rfl rfl (aOp_callFunc aFunc21 rfl) (v := .bool true) rfl rfl ?_
        refine GoR.op rfl rfl rfl rfl ?_
        refine GoR.end ?_
        exact Go.ret noJ_ok (ret_end (aResult_of Try.func4 rfl rfl) ⟨rfl, e0⟩)
end Go.Proofs.Ytmdheijpnlonoaa

namespace Go.AbsE
open Go Go.RowKit
section
variable {P : Program}
theorem VRs.ints {e : Env} : ∀ l : List Int, VRs e (l.map fun x => AVal.int .i64 x) (l.map fun x => Value.int .i64 x) := by
  intro l
  induction l with
  | nil => exact .nil
  | cons a l ih => exact .cons (.int _ _) ih
theorem HR.openWin {e : Env} {h : AH} {W : World} (r : HR P (Base.all W) e h W) {B lo : Nat} {PRE CS junk : List Value} {el : TypeId} {fr : Nat × Nat} {cs : List AVal} (hB : W.heap[B]? = some (.cells (PRE ++ (CS ++ junk)).toArray el fr)) (hp : PRE.length = lo) (hv : ∀ e, VRs e cs CS) :
    ∃ e' h', Env.le e e' ∧ HR P (Base.all W) e' h' W ∧ Ext h h' ∧ e' h.next = some (B, 0) ∧ Has h' h.next (.win lo cs) := by
  obtain ⟨h', k⟩ := new_some h (.win lo cs)
  obtain ⟨_, x1, x2⟩ := new_ext k
  obtain ⟨n1, n2, n3⟩ := AH.get_new k
  have hle := Env.le_ext (x := (B, 0)) r.fresh
  have hlt := (Array.getElem?_eq_some_iff.1 hB).1
  refine ⟨e.ext h.next (B, 0), h', hle, ?_, x1, Env.ext_same _ _ _, x2⟩
  refine { dom := ?_, blk := ?_, inj := ?_, imm := ?_, os := r.os, tape := r.tape, output := r.output, size := r.size, old := r.old, young := r.young }
  · intro b' x kx
    rw [Env.ext_at] at kx
    by_cases hb' : b' = h.next
    · omega
    · rw [if_neg hb'] at kx; have := r.dom _ _ kx; omega
  · intro b' o' kx
    rw [n3] at kx
    by_cases hb' : b' = h.next
    · rw [if_pos hb'] at kx
      cases kx
      subst hb'
      exact ⟨B, 0, _, Env.ext_same _ _ _, (fun q => by cases q), hB, .win (hv _) hp⟩
    · rw [if_neg hb'] at kx
      obtain ⟨B', c', O', k1, k2, k3, k4⟩ := r.blk _ _ kx
      exact ⟨B', c', O', hle.1 _ _ k1, k2, k3, k4.mono hle⟩
  · intro b1 b2 B1 c1 c2 o1 o2 k1 k2 hro e1 e2
    rw [n3] at k1 k2
    rw [Env.ext_at] at e1 e2
    by_cases q1 : b1 = h.next
    · rw [if_pos q1] at k1; cases k1; cases hro
    · rw [if_neg q1] at k1 e1
      by_cases q2 : b2 = h.next
      · rw [if_pos q2] at e2
        cases e2
        obtain ⟨B', c', O', j1, j2, _, _⟩ := r.blk _ _ k1
        rw [e1] at j1
        cases j1
        exact absurd hlt (j2 hro)
      · rw [if_neg q2] at k2 e2
        exact r.inj _ _ _ _ _ _ _ k1 k2 hro e1 e2
  · intro B1 CS' hi
    obtain ⟨i1, i2⟩ := r.imm B1 CS' hi
    refine ⟨i1, fun b' o' c' kx hro ke => ?_⟩
    rw [n3] at kx
    rw [Env.ext_at] at ke
    by_cases q : b' = h.next
    · rw [if_pos q] at kx; cases kx; cases hro
    · rw [if_neg q] at kx ke; exact i2 b' o' c' kx hro ke
theorem rows_eq {C : List Value} {off sz : Nat} : ∀ (len : Nat) (f : Nat → List Int), (∀ i, i < len → (f i).length = sz ∧ ∀ k n, (f i)[k]? = some n → C[off + i * sz + k]? = some (.int .i64 n)) →
    (C.drop off).take (len * sz) = (((List.range len).map f).flatten).map fun x => Value.int .i64 x := by
  intro len
  induction len with
  | zero => intro f _; simp
  | succ len ih =>
    intro f hf
    have h1 := ih f fun i hi => hf i (by omega)
    obtain ⟨l1, l2⟩ := hf len (by omega)
    rw [Nat.add_mul, Nat.one_mul, List.take_add, h1, List.range_succ, List.map_append, List.flatten_append, List.map_append]
    congr 1
    simp only [List.map_cons, List.map_nil, List.flatten_cons, List.flatten_nil, List.append_nil]
    rw [List.drop_drop]
    refine List.ext_getElem? fun k => ?_
    rw [List.getElem?_take, List.getElem?_drop, List.getElem?_map]
    by_cases hk : k < sz
    · rw [if_pos hk]
      obtain ⟨n, hn⟩ : ∃ n, (f len)[k]? = some n := ⟨(f len)[k]'(by omega), by simp⟩
      rw [hn]
      exact l2 k n hn
    · rw [if_neg hk]
      have : (f len)[k]? = none := by simp; omega
      rw [this]
      rfl
theorem HR.openRows {e : Env} {h : AH} {W : World} (r : HR P (Base.all W) e h W) {a : Addr} {len cap sz : Nat} {C : Array Value} {el : TypeId} {fr : Nat × Nat} (hB : W.heap[a.block]? = some (.cells C el fr)) (hspot : a.spot = none) (f : Nat → List Int)
    (hf : ∀ i, i < len → (f i).length = sz ∧ ∀ k n, (f i)[k]? = some n → W.cell? (a.add (i * sz + k)) = some (.int .i64 n)) :
    ∃ e' h' s, Env.le e e' ∧ HR P (Base.all W) e' h' W ∧ Ext h h' ∧ VR e' s (.slice (some a) len cap) ∧ SliceOf h' sz s (((List.range len).map f).map fun l => l.map fun x => AVal.int .i64 x) ∧ sameA s s = true := by
  obtain ⟨B, off, spot⟩ := a
  dsimp only at hB hspot
  subst hspot
  have hcell : ∀ i, i < len → (f i).length = sz ∧ ∀ k n, (f i)[k]? = some n → C.toList[off + i * sz + k]? = some (.int .i64 n) := fun i hi => by
    obtain ⟨h1, h2⟩ := hf i hi
    refine ⟨h1, fun k n hn => ?_⟩
    have := h2 k n hn
    have e1 := addr_add B off (i * sz + k)
    rw [e1] at this
    unfold World.cell? at this
    rw [hB] at this
    simp only [Option.isSome_none, Bool.false_eq_true, if_false] at this
    rw [Array.getElem?_toList, Nat.add_assoc]
    exact this
  have hrows := rows_eq len f hcell
  let R := (List.range len).map f
  have hRl : ∀ l, l ∈ R → l.length = sz := fun l hl => by
    obtain ⟨i, hi, rfl⟩ := List.mem_map.1 hl
    exact (hf i (List.mem_range.1 hi)).1
  have hRlen : R.length = len := by simp [R]
  have hlen : (C.toList.drop off).take (len * sz) = (R.flatten).map fun x => Value.int .i64 x := hrows
  have hfl : R.flatten.length = len * sz := by
    have : ∀ {L : List (List Int)}, (∀ l, l ∈ L → l.length = sz) → L.flatten.length = L.length * sz := by
      intro L
      induction L with
      | nil => intro _; simp
      | cons a L ih => intro h; simp only [List.flatten_cons, List.length_append, h a (by simp), ih fun l q => h l (by simp [q]), List.length_cons, Nat.add_mul]; omega
    rw [this hRl, hRlen]
  by_cases h0 : len * sz = 0
  · -- nothing of it is read
    obtain ⟨e', h', k1, k2, k3, k4, k5⟩ := r.openWin (B := B) (lo := 0) (PRE := []) (CS := []) (junk := C.toList) (el := el) (fr := fr) (cs := []) (by simpa using hB) rfl (fun _ => .nil)
    refine ⟨e', h', .slice h.next off len cap, k1, k2, k3, .slice k4, .mk rfl rfl k5.1 (by simp) (fun l hl => ?_) ?_, by simp [sameA]⟩
    · obtain ⟨x, hx, rfl⟩ := List.mem_map.1 hl
      rw [List.length_map]
      exact hRl x hx
    · have hnil : R.flatten = [] := List.eq_nil_of_length_eq_zero (by omega)
      unfold loadCells
      rw [k5.2]
      have e1 : ((R.map fun l => l.map fun x => AVal.int .i64 x).length * sz) = 0 := by rw [List.length_map, hRlen]; exact h0
      have e2 : (R.map fun l => l.map fun x => AVal.int .i64 x).flatten = [] := by rw [← List.map_flatten, hnil]; rfl
      show cond (Nat.ble 0 off) (slice? [] (off - 0) ((R.map fun l => l.map fun x => AVal.int .i64 x).length * sz)) none = some _
      rw [e1, e2, show Nat.ble 0 off = true from Nat.ble_eq_true_of_le (Nat.zero_le _)]
      simp [slice?]
  · have hle : off + len * sz ≤ C.toList.length := by
      have : ((C.toList.drop off).take (len * sz)).length = len * sz := by rw [hlen, List.length_map, hfl]
      rw [List.length_take, List.length_drop] at this
      omega
    have hC : C = (C.toList.take off ++ ((R.flatten.map fun x => Value.int .i64 x) ++ C.toList.drop (off + len * sz))).toArray := by
      rw [← hlen]
      have : C.toList.take off ++ ((C.toList.drop off).take (len * sz) ++ C.toList.drop (off + len * sz)) = C.toList := by
        rw [← List.drop_drop, List.take_append_drop, List.take_append_drop]
      rw [this]
    obtain ⟨e', h', k1, k2, k3, k4, k5⟩ := r.openWin (B := B) (lo := off) (PRE := C.toList.take off) (CS := R.flatten.map fun x => Value.int .i64 x) (junk := C.toList.drop (off + len * sz)) (el := el) (fr := fr) (cs := R.flatten.map fun x => AVal.int .i64 x) (by rw [← hC]; exact hB) (by rw [List.length_take]; omega) (fun _ => VRs.ints _)
    refine ⟨e', h', .slice h.next off len cap, k1, k2, k3, .slice k4, .mk rfl rfl k5.1 (by simp) (fun l hl => ?_) ?_, by simp [sameA]⟩
    · obtain ⟨x, hx, rfl⟩ := List.mem_map.1 hl
      rw [List.length_map]
      exact hRl x hx
    · unfold loadCells
      rw [k5.2]
      have e1 : ((R.map fun l => l.map fun x => AVal.int .i64 x).length * sz) = len * sz := by rw [List.length_map, hRlen]
      have e2 : (R.map fun l => l.map fun x => AVal.int .i64 x).flatten = R.flatten.map fun x => AVal.int .i64 x := by rw [← List.map_flatten]
      show cond (Nat.ble off off) (slice? (R.flatten.map fun x => AVal.int .i64 x) (off - off) ((R.map fun l => l.map fun x => AVal.int .i64 x).length * sz)) none = some _
      rw [e1, e2, show Nat.ble off off = true from Nat.ble_eq_true_of_le (Nat.le_refl _), Nat.sub_self]
      exact slice_all (by rw [List.length_map, hfl])
end
end Go.AbsE

namespace Go.Proofs.Ytmdheijpnlonoaa
open Go Go.AbsE Go.ChangeShapes Go.WideShapes Go.ChangeAt Go.RowKit
set_option linter.unusedSimpArgs false
set_option maxRecDepth 100000
set_option linter.unusedVariables false
theorem cells27 : Try.prog.cellsOf 27 = 7 := by kernel_rfl
theorem cells3 : Try.prog.cellsOf 3 = 1 := by kernel_rfl
theorem cells63 : Try.prog.cellsOf 63 = 3 := by kernel_rfl
theorem cells59 : Try.prog.cellsOf 59 = 4 := by kernel_rfl
theorem cells30 : Try.prog.cellsOf 30 = 2 := by kernel_rfl
theorem cells22 : Try.prog.cellsOf 22 = 1 := by kernel_rfl
theorem cells23 : Try.prog.cellsOf 23 = 1 := by kernel_rfl
theorem cells24 : Try.prog.cellsOf 24 = 3 := by kernel_rfl
theorem cells25 : Try.prog.cellsOf 25 = 1 := by kernel_rfl
theorem ctypes27 : Try.prog.cellTypes Try.prog.depth 27 = some [22, 23, 3, 3, 3, 3, 25] := by kernel_rfl
theorem laidOut : laidOutB Try.prog = true := by kernel_rfl
def inI64 (n : Int) : Prop := -9223372036854775808 ≤ n ∧ n ≤ 9223372036854775807
theorem wf_in {n : Int} (h : (Lit.int .i64 n).wf = true) : inI64 n := by
  simp only [Lit.wf, Bool.and_eq_true, decide_eq_true_eq] at h
  have h1 : IntKind.i64.min = -9223372036854775808 := by decide
  have h2 : IntKind.i64.max = 9223372036854775807 := by decide
  rw [h1, h2] at h
  constructor <;> omega
variable {H : Type} {enc : TypeId × Value → H} {W : World} {base : Nat} {spare : Nat → Bool} {held : Bool}
theorem int_row {n : Nat} {cs : List Value} {x : DataW H × List MemPlace} (h : DataW.trod enc Try.prog W base spare held n 3 cs = some x) : ∃ a : Int, cs = [.int .i64 a] ∧ inI64 a := by
  obtain ⟨a, h1, _, h3⟩ := DataW.trod_int Try.underlying3 h
  exact ⟨a, h1, wf_in h3⟩
theorem span_row {n : Nat} {cs : List Value} {x : DataW H × List MemPlace} (h : DataW.trod enc Try.prog W base spare held n 30 cs = some x) : ∃ a b : Int, cs = [.int .i64 a, .int .i64 b] := by
  obtain ⟨y0, y1, k, _, hl, h0, h1⟩ := ChangeShapes.trod_struct2 Try.underlying30 h
  rw [cells30] at hl
  dsimp only at h0 h1
  rw [cells3] at h0 h1
  obtain ⟨a, ha, _⟩ := int_row h0
  obtain ⟨b, hb, _⟩ := int_row h1
  match cs, hl with
  | [c0, c1], _ =>
    simp at ha hb
    exact ⟨a, b, by rw [ha, hb]⟩
theorem rain_row {n : Nat} {cs : List Value} {x : DataW H × List MemPlace} (h : DataW.trod enc Try.prog W base spare held n 30 cs = some x) : ∃ r : List Int, r.length = 2 ∧ cs = r.map fun x => Value.int .i64 x := by
  obtain ⟨a, b, q⟩ := span_row h
  exact ⟨[a, b], rfl, q⟩
theorem hturf_row {n : Nat} {cs : List Value} {x : DataW H × List MemPlace} (h : DataW.trod enc Try.prog W base spare held n 63 cs = some x) : ∃ r : List Int, r.length = 3 ∧ cs = r.map fun x => Value.int .i64 x := by
  obtain ⟨y0, y1, k, _, hl, h0, h1⟩ := ChangeShapes.trod_struct2 Try.underlying63 h
  rw [cells63] at hl
  dsimp only at h0 h1
  rw [cells3] at h0
  rw [cells30] at h1
  obtain ⟨a, ha, _⟩ := int_row h0
  obtain ⟨b, c, hb⟩ := span_row h1
  match cs, hl with
  | [c0, c1, c2], _ =>
    simp at ha hb
    exact ⟨[a, b, c], rfl, by rw [ha, hb.1, hb.2]; rfl⟩
theorem look_row {n : Nat} {cs : List Value} {x : DataW H × List MemPlace} (h : DataW.trod enc Try.prog W base spare held n 59 cs = some x) : ∃ r : List Int, r.length = 4 ∧ cs = r.map fun x => Value.int .i64 x := by
  obtain ⟨xs, k, _, _, hl, _, hf⟩ := DataW.trod_struct Try.underlying59 h
  rw [cells59] at hl
  have h0 : DataW.trod enc Try.prog W base spare held k 3 ((cs.drop 0).take (Try.prog.cellsOf 3)) = xs[0]? := hf 0 _ rfl
  have h1 : DataW.trod enc Try.prog W base spare held k 3 ((cs.drop 1).take (Try.prog.cellsOf 3)) = xs[1]? := hf 1 _ rfl
  have h2 : DataW.trod enc Try.prog W base spare held k 30 ((cs.drop 2).take (Try.prog.cellsOf 30)) = xs[2]? := hf 2 _ rfl
  rw [cells3] at h0 h1
  rw [cells30] at h2
  have hx : xs.length = 3 := by assumption
  match xs, hx with
  | [x0, x1, x2], _ =>
    obtain ⟨a, ha, _⟩ := int_row (x := x0) h0
    obtain ⟨b, hb, _⟩ := int_row (x := x1) h1
    obtain ⟨d, e, hd⟩ := span_row (x := x2) h2
    match cs, hl with
    | [c0, c1, c2, c3], _ =>
      simp at ha hb hd
      exact ⟨[a, b, d, e], rfl, by rw [ha, hb, hd.1, hd.2]; rfl⟩
theorem slice_okw {t el : TypeId} {a : Addr} {len cap : Nat} {bs : Nat} (ht : Try.prog.underlying t = some (.slice el)) (h : Cell.okWide Try.prog W .any bs t (.slice (some a) len cap)) : a.spot = none ∧ ∃ C e fr, W.heap[a.block]? = some (.cells C e fr) := by
  unfold Cell.okWide at h
  rw [ht] at h
  dsimp only at h
  unfold Cell.ok at h
  rw [ht] at h
  dsimp only at h
  obtain ⟨_, _, _, h2, row, n, h3, _⟩ := h
  refine ⟨h2, ?_⟩
  unfold World.shape? at h3
  split at h3
  · rename_i c e fr hq
    exact ⟨c, e, fr, hq⟩
  · cases h3
theorem rows_of {t el : TypeId} {sz fuel : Nat} {c : Value} {y : DataW H × List MemPlace} {bs : Nat} (ht : Try.prog.underlying t = some (.slice el)) (hsz : Try.prog.cellsOf el = sz)
    (hrow : ∀ {n : Nat} {cs : List Value} {x : DataW H × List MemPlace}, DataW.trod enc Try.prog W 0 (fun _ => true) true n el cs = some x → ∃ r : List Int, r.length = sz ∧ cs = r.map fun x => Value.int .i64 x)
    (h : DataW.trod enc Try.prog W 0 (fun _ => true) true fuel t [c] = some y) (hok : Cell.okWide Try.prog W .any bs t c) {e : Env} {hh : AH} (r : HR Try.prog (Base.all W) e hh W) :
    ∃ e' h' s, ∃ R : List (List Int), Env.le e e' ∧ HR Try.prog (Base.all W) e' h' W ∧ Ext hh h' ∧ VR e' s c ∧ (∀ l, l ∈ R → l.length = sz) ∧ SliceOf h' sz s (R.map fun l => l.map fun x => AVal.int .i64 x) ∧ sameA s s = true := by
  rcases Deep.open_slice ht h with ⟨hcs, _⟩ | ⟨a, len, cap, m, n, D, Pl, hcs, _, hl, _, hmm, _, hx⟩
  · simp at hcs
    subst hcs
    exact ⟨e, hh, .nilslice, [], Env.le_refl e, r, Ext.refl _, .nilslice, (fun _ q => by cases q), .nil, rfl⟩
  · simp at hcs
    subst hcs
    obtain ⟨hs, C, el', fr, hB⟩ := slice_okw ht hok
    have hm : m = cap := by simpa using hmm
    have each : ∀ i, ∃ rr : List Int, i < len → rr.length = sz ∧ ∀ k n, rr[k]? = some n → W.cell? (a.add (i * sz + k)) = some (.int .i64 n) := by
      intro i
      by_cases hi : i < len
      · obtain ⟨cs', h1, h2⟩ := hx i (by omega)
        obtain ⟨rr, hr1, hr2⟩ := hrow h2
        rw [hsz] at h1
        obtain ⟨_, hlen, hc⟩ := World.cells?_some h1
        refine ⟨rr, fun _ => ⟨hr1, fun k n hk => ?_⟩⟩
        have hkl := (List.getElem?_eq_some_iff.1 hk).1
        have := hc k (by omega)
        obtain ⟨B, off, spot⟩ := a
        dsimp only at hs
        subst hs
        rw [addr_add, addr_add] at this
        rw [addr_add, ← Nat.add_assoc, this, hr2, List.getElem?_map, hk]
        rfl
      · exact ⟨[], fun q => absurd q hi⟩
    obtain ⟨f, hf⟩ := Classical.axiomOfChoice each
    obtain ⟨e', h', s, k1, k2, k3, k4, k5, k6⟩ := r.openRows (cap := cap) (len := len) hB hs f hf
    exact ⟨e', h', s, (List.range len).map f, k1, k2, k3, k4, fun l hl => by
      obtain ⟨i, hi, rfl⟩ := List.mem_map.1 hl
      exact (hf i (List.mem_range.1 hi)).1, k5, k6⟩
def toH : List Int → HTurf
  | [a, b, c] => ⟨a, b, c⟩
  | _ => ⟨0, 0, 0⟩
def toR : List Int → Int × Int
  | [a, b] => (a, b)
  | _ => (0, 0)
def toL : List Int → LookV
  | [a, b, c, d] => ⟨a, b, c, d⟩
  | _ => ⟨0, 0, 0, 0⟩
theorem hs_eq {R : List (List Int)} (h : ∀ l, l ∈ R → l.length = 3) : (R.map fun l => l.map fun x => AVal.int .i64 x) = (R.map toH).map HTurf.cells := by
  rw [List.map_map]
  refine List.map_congr_left fun l hl => ?_
  match l, h l hl with
  | [a, b, c], _ => rfl
theorem rs_eq {R : List (List Int)} (h : ∀ l, l ∈ R → l.length = 2) : (R.map fun l => l.map fun x => AVal.int .i64 x) = (R.map toR).map spC := by
  rw [List.map_map]
  refine List.map_congr_left fun l hl => ?_
  match l, h l hl with
  | [a, b], _ => rfl
theorem ls_eq {R : List (List Int)} (h : ∀ l, l ∈ R → l.length = 4) : (R.map fun l => l.map fun x => AVal.int .i64 x) = (R.map toL).map LookV.cells := by
  rw [List.map_map]
  refine List.map_congr_left fun l hl => ?_
  match l, h l hl with
  | [a, b, c, d], _ => rfl
theorem array7 {α : Type} {cs : Array α} (h : cs.size = 7) : ∃ c0 c1 c2 c3 c4 c5 c6, cs = #[c0, c1, c2, c3, c4, c5, c6] := by
  obtain ⟨l⟩ := cs
  match l, h with
  | [c0, c1, c2, c3, c4, c5, c6], _ => exact ⟨c0, c1, c2, c3, c4, c5, c6, rfl⟩
theorem list5 {α : Type} {l : List α} (h : l.length = 5) : ∃ c0 c1 c2 c3 c4, l = [c0, c1, c2, c3, c4] := by
  match l, h with
  | [c0, c1, c2, c3, c4], _ => exact ⟨c0, c1, c2, c3, c4, rfl⟩
theorem heap_of {bs : Nat} {v : Value} {d : DataW H} {p : List MemPlace} (hv : Value.okWide Try.prog W .any bs 27 v) (h : DataW.Trod enc Try.prog W 0 (fun _ => true) true 27 v d p) {e : Env} {hh : AH} (r : HR Try.prog (Base.all W) e hh W) :
    ∃ e' h' F hsl rsl lsl, Env.le e e' ∧ HR Try.prog (Base.all W) e' h' W ∧ Ext hh h' ∧ VR e' (.agg (FieldV.cells F hsl rsl lsl)) v ∧ FieldAt h' F hsl rsl lsl := by
  have hv2 := hv
  obtain ⟨cs, rfl, hsz⟩ := okWide_struct Try.underlying27 hv
  obtain ⟨c0, c1, c2, c3, c4, c5, c6, rfl⟩ := array7 (hsz.trans cells27)
  obtain ⟨fuel, hf⟩ := h
  obtain ⟨xs, n, _, _, hl, hlen, hfl⟩ := DataW.trod_struct Try.underlying27 hf
  obtain ⟨y0, y1, y2, y3, y4, rfl⟩ := list5 hlen
  have t0 : DataW.trod enc Try.prog W 0 (fun _ => true) true n 22 [c0] = some y0 := by
    have this : DataW.trod enc Try.prog W 0 (fun _ => true) true n 22 (([c0, c1, c2, c3, c4, c5, c6].drop 0).take (Try.prog.cellsOf 22)) = [y0, y1, y2, y3, y4][0]? := hfl 0 _ rfl
    rw [cells22] at this
    exact this
  have t1 : DataW.trod enc Try.prog W 0 (fun _ => true) true n 23 [c1] = some y1 := by
    have this : DataW.trod enc Try.prog W 0 (fun _ => true) true n 23 (([c0, c1, c2, c3, c4, c5, c6].drop 1).take (Try.prog.cellsOf 23)) = [y0, y1, y2, y3, y4][1]? := hfl 1 _ rfl
    rw [cells23] at this
    exact this
  have t2 : DataW.trod enc Try.prog W 0 (fun _ => true) true n 24 [c2, c3, c4] = some y2 := by
    have this : DataW.trod enc Try.prog W 0 (fun _ => true) true n 24 (([c0, c1, c2, c3, c4, c5, c6].drop 2).take (Try.prog.cellsOf 24)) = [y0, y1, y2, y3, y4][2]? := hfl 2 _ rfl
    rw [cells24] at this
    exact this
  have t3 : DataW.trod enc Try.prog W 0 (fun _ => true) true n 3 [c5] = some y3 := by
    have this : DataW.trod enc Try.prog W 0 (fun _ => true) true n 3 (([c0, c1, c2, c3, c4, c5, c6].drop 5).take (Try.prog.cellsOf 3)) = [y0, y1, y2, y3, y4][3]? := hfl 3 _ rfl
    rw [cells3] at this
    exact this
  have t4 : DataW.trod enc Try.prog W 0 (fun _ => true) true n 25 [c6] = some y4 := by
    have this : DataW.trod enc Try.prog W 0 (fun _ => true) true n 25 (([c0, c1, c2, c3, c4, c5, c6].drop 6).take (Try.prog.cellsOf 25)) = [y0, y1, y2, y3, y4][4]? := hfl 4 _ rfl
    rw [cells25] at this
    exact this
  obtain ⟨z0, z1, z2, n2, _, g0, g1, g2⟩ := trod_array3 Try.underlying24 cells3 t2
  obtain ⟨da, e2, _⟩ := int_row g0
  obtain ⟨db, e3, _⟩ := int_row g1
  obtain ⟨dc, e4, _⟩ := int_row g2
  obtain ⟨lim, e5, _⟩ := int_row t3
  simp at e2 e3 e4 e5
  subst e2 e3 e4 e5
  unfold Value.okWide at hv2
  rw [Try.underlying27] at hv2
  obtain ⟨cs, hcs, _, ts, hts, _, hrow⟩ := hv2
  injection hcs with hcs
  subst hcs
  rw [ctypes27] at hts
  cases hts
  obtain ⟨u0, hu0, ok0⟩ := hrow 0 c0 rfl
  obtain ⟨u1, hu1, ok1⟩ := hrow 1 c1 rfl
  obtain ⟨u6, hu6, ok6⟩ := hrow 6 c6 rfl
  cases hu0
  cases hu1
  cases hu6
  obtain ⟨ea, ha, s0, R0, a1, a2, a3, a4, a5, a6, a7⟩ := rows_of Try.underlying22 cells63 hturf_row t0 ok0 r
  obtain ⟨eb, hb, s1, R1, b1, b2, b3, b4, b5, b6, b7⟩ := rows_of Try.underlying23 cells30 rain_row t1 ok1 a2
  obtain ⟨ec, hc, s2, R2, k1, k2, k3, k4, k5, k6, k7⟩ := rows_of Try.underlying25 cells59 look_row t4 ok6 b2
  rw [hs_eq a5] at a6
  rw [rs_eq b5] at b6
  rw [ls_eq k5] at k6
  refine ⟨ec, hc, ⟨R0.map toH, R1.map toR, da, db, dc, lim, R2.map toL⟩, s0, s1, s2, Env.le_trans a1 (Env.le_trans b1 k1), k2, a3.trans (b3.trans k3), ?_, ⟨a6.ext (b3.trans k3), b6.ext k3, k6⟩⟩
  exact .agg (CS := [_, _, _, _, _, _, _]) (.cons (a4.mono (Env.le_trans b1 k1)) (.cons (b4.mono k1) (.cons (.int _ _) (.cons (.int _ _) (.cons (.int _ _) (.cons (.int _ _) (.cons k4 .nil)))))))
end Go.Proofs.Ytmdheijpnlonoaa
