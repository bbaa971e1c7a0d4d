import Derived.Test.YtmdheijpnlonoaaMAS
namespace Go.Proofs.Ytmdheijpnlonoaa
open Go Go.AbsE
set_option linter.unusedSimpArgs false
set_option maxRecDepth 100000
set_option maxHeartbeats 0
set_option linter.unusedVariables false
theorem law5_long (F : FieldV) (hsl rsl lsl : AVal) (n1 n2 n3 : Nat) (hl1 : lenA hsl = some n1) (hl2 : lenA rsl = some n2) (hl3 : lenA lsl = some n3) (hr : decide (40 < n1 ∨ 40 < n2 ∨ 40 < n3) = true) (w o : Int) (h : AH) :
    Runs Try.prog 5 [.agg (F.cells hsl rsl lsl), .int .u8 w, .int .u8 o] h (fun en h' => en = .ret (.bool true) ∧ Ext h h') := by
  have hlo := long_ok F hsl rsl lsl n1 n2 n3 hl1 hl2 hl3 hr
  unfold FieldV.cells fieldC at hlo ⊢
  refine Runs.intro aFunc5 rfl rfl rfl rfl fun rest => ?_
  refine Go.seq noJ_ok ?_
  refine Go.region noJ_ok rfl ?_
  refine GoR.box rfl rfl rfl rfl rfl rfl fun h0 x0 f0 => ?_
  have e0 := x0
  have := f0.1
  refine GoR.op rfl rfl rfl rfl ?_
  refine GoR.end ?_
  iterate 2 refine Go.seq noJ_ok ?_
  refine Go.region noJ_ok rfl ?_
  refine GoR.op rfl rfl (ld27 rfl f0 rfl) rfl ?_
  refine GoR.call rfl rfl (aOp_callFunc aFunc22 rfl) (hlo _) ?_ (by rintro _ _ ⟨q, _⟩; cases q)
  rintro v1 h1 ⟨q, x1⟩
  cases q
  refine ⟨_, rfl, ?_⟩
  replace f0 := f0.ext x1
  replace e0 := e0.trans x1
  refine GoR.end ?_
  refine Go.cond noJ_ok (b := true) rfl ?_
  refine Go.seq noJ_ok ?_
  refine Go.region JA_ok rfl ?_
  refine GoR.jump JA_ok rfl rfl (aOp_callFunc aFunc21 rfl) (v := .bool true) rfl rfl ?_
  refine GoR.op rfl rfl rfl rfl ?_
  refine GoR.end ?_
  exact Go.ret noJ_ok (ret_end (aResult_of Try.func5 rfl rfl) ⟨rfl, e0⟩)
theorem h5_not {F : FieldV} (hno : ¬ F.Ok) (hsl rsl lsl : AVal) (h : AH) (A : FieldAt h F hsl rsl lsl) (hb1 : F.hs.length ≤ 40) (hb2 : F.rs.length ≤ 40) (hb3 : F.looks.length ≤ 40) :
    Runs Try.prog 23 [.agg (F.cells hsl rsl lsl)] h (fun en h' => en = .ret (.bool false) ∧ Ext h h') :=
  (heaps23_is F hsl rsl lsl h A hb1 hb2 hb3).mono fun en h' ⟨r, q, k, e⟩ => by
    cases r with
    | true => exact absurd (k.1 rfl) hno
    | false => exact ⟨q, e⟩
theorem h5_yes {F : FieldV} (O : F.Ok) (hsl rsl lsl : AVal) (h : AH) (A : FieldAt h F hsl rsl lsl) (hb1 : F.hs.length ≤ 40) (hb2 : F.rs.length ≤ 40) (hb3 : F.looks.length ≤ 40) :
    Runs Try.prog 23 [.agg (F.cells hsl rsl lsl)] h (fun en h' => en = .ret (.bool true) ∧ Ext h h') :=
  (heaps23_is F hsl rsl lsl h A hb1 hb2 hb3).mono fun en h' ⟨r, q, k, e⟩ => by
    cases r with
    | false => exact absurd (k.2 O) (by decide)
    | true => exact ⟨q, e⟩
theorem law5_bad {F : FieldV} (hno : ¬ F.Ok) (hsl rsl lsl : AVal) (h : AH) (A : FieldAt h F hsl rsl lsl) (hb1 : F.hs.length ≤ 40) (hb2 : F.rs.length ≤ 40) (hb3 : F.looks.length ≤ 40) (w o : Int) :
    Runs Try.prog 5 [.agg (F.cells hsl rsl lsl), .int .u8 w, .int .u8 o] h (fun en h' => en = .ret (.bool true) ∧ Ext h h') := by
  obtain ⟨fs30, hu30, pl30⟩ := flds30
  have hl1 := A.hs.len
  have hl2 := A.rs.len
  have hl3 := A.ls.len
  rw [List.length_map] at hl1 hl2 hl3
  have hlo := long_ok F hsl rsl lsl _ _ _ hl1 hl2 hl3 (r := false) (decide_eq_false (by omega))
  have hwb := fun h A => Wet_bad hno hb1 hb2 hb3 hsl rsl lsl 0 0 h A
  have hab := fun h A => All_bad hno hb1 hb2 hb3 hsl rsl lsl h A
  have hhb := fun h A => h5_not hno hsl rsl lsl h A hb1 hb2 hb3
  unfold FieldV.cells fieldC at hlo hwb hab hhb ⊢
  refine Runs.intro aFunc5 rfl rfl rfl rfl fun rest => ?_
  refine Go.seq noJ_ok ?_
  refine Go.region noJ_ok rfl ?_
  refine GoR.box rfl rfl rfl rfl rfl rfl fun h0 x0 f0 => ?_
  have e0 := x0
  have := f0.1
  refine GoR.op rfl rfl rfl rfl ?_
  refine GoR.end ?_
  iterate 2 refine Go.seq noJ_ok ?_
  refine Go.region noJ_ok rfl ?_
  refine GoR.op rfl rfl (ld27 rfl f0 rfl) rfl ?_
  refine GoR.call rfl rfl (aOp_callFunc aFunc22 rfl) (hlo _) ?_ (by rintro _ _ ⟨q, _⟩; cases q)
  rintro v1 h1 ⟨q, x1⟩
  cases q
  refine ⟨_, rfl, ?_⟩
  replace f0 := f0.ext x1
  replace e0 := e0.trans x1
  refine GoR.end ?_
  refine Go.cond noJ_ok (b := false) rfl ?_
  refine Go.code noJ_ok ?_
  iterate 2 refine Go.seq noJ_ok ?_
  refine Go.region noJ_ok rfl ?_
  refine GoR.op rfl rfl (ld27 rfl f0 rfl) rfl ?_
  refine GoR.call rfl rfl (aOp_callFunc aFunc23 rfl) (hhb _ (A.ext e0)) ?_ (by rintro _ _ ⟨q, _⟩; cases q)
  rintro v2 h2 ⟨q, x2⟩
  cases q
  refine ⟨_, rfl, ?_⟩
  replace f0 := f0.ext x2
  replace e0 := e0.trans x2
  refine GoR.op rfl rfl rfl rfl ?_
  refine GoR.end ?_
  refine Go.cond noJ_ok (b := true) rfl ?_
  refine Go.seq noJ_ok ?_
  refine Go.region noJ_ok rfl ?_
  refine GoR.op rfl rfl (ld27 rfl f0 rfl) rfl ?_
  refine GoR.call rfl rfl (aOp_callFunc aFunc13 rfl) (hwb _ (A.ext e0)) ?_ (by rintro _ _ ⟨q, _⟩; cases q)
  rintro v3 h3 ⟨q, x3⟩
  cases q
  refine ⟨_, rfl, ?_⟩
  replace f0 := f0.ext x3
  replace e0 := e0.trans x3
  iterate 3 refine GoR.op rfl rfl rfl rfl ?_
  refine GoR.alloc rfl rfl rfl zt30 rfl rfl fun h4 x4 f4 => ?_
  have := e0.1
  have := f0.1
  replace f0 := f0.ext x4
  replace e0 := e0.trans x4
  have := f4.1
  refine GoR.store rfl rfl rfl rfl rfl rfl f4 rfl sz30 rfl rfl rfl fun h5 u5 => ?_
  replace f4 := u5.has f4
  replace f0 := f0.upd u5 (by omega)
  first | replace e0 := e0.upd u5 (by omega) | clear e0
  refine GoR.op rfl rfl rfl rfl ?_
  refine GoR.end ?_
  refine Go.seq noJ_ok ?_
  refine Go.region noJ_ok rfl ?_
  refine GoR.op rfl rfl (ld27 rfl f0 rfl) rfl ?_
  refine GoR.call rfl rfl (aOp_callFunc aFunc26 rfl) (hab _ (A.ext e0)) ?_ (by rintro _ _ ⟨q, _⟩; cases q)
  rintro v6 h6 ⟨q, x6⟩
  cases q
  refine ⟨_, rfl, ?_⟩
  replace f4 := f4.ext x6
  replace f0 := f0.ext x6
  replace e0 := e0.trans x6
  iterate 5 refine GoR.op rfl rfl rfl rfl ?_
  refine GoR.end ?_
  refine Go.seq noJ_ok ?_
  refine Go.region JA_ok rfl ?_
  refine GoR.op rfl rfl rfl rfl ?_
  refine GoR.op rfl rfl (aOp_eql rfl rfl (r := true) (decide_eq_true (by omega))) rfl ?_
  iterate 3 refine GoR.op rfl rfl rfl rfl ?_
  refine GoR.op rfl rfl (aOp_eql rfl rfl (r := true) (decide_eq_true (by omega))) rfl ?_
  iterate 2 refine GoR.op rfl rfl rfl rfl ?_
  refine GoR.op rfl rfl (ld30 rfl f4 rfl) rfl ?_
  refine GoR.op rfl rfl (aOp_build (ps := []) (cs := [.int .i64 0, .int .i64 0]) zt30 hu30 pl30 rfl rfl) rfl ?_
  refine GoR.op rfl rfl (aOp_eqlSpan spanT rfl rfl (r := true) rfl) rfl ?_
  iterate 3 refine GoR.op rfl rfl rfl rfl ?_
  refine GoR.op rfl rfl (aOp_eql rfl rfl (r := true) (decide_eq_true (by omega))) rfl ?_
  iterate 2 refine GoR.op rfl rfl rfl rfl ?_
  refine GoR.jump JA_ok rfl rfl (aOp_callFunc aFunc21 rfl) (v := .bool true) rfl rfl ?_
  iterate 2 refine GoR.op rfl rfl rfl rfl ?_
  refine GoR.end ?_
  exact Go.ret noJ_ok (ret_end (aResult_of Try.func5 rfl rfl) ⟨rfl, e0⟩)
theorem law5_none {F : FieldV} (O : F.Ok) (he : F.ents = []) (hsl rsl lsl : AVal) (h : AH) (A : FieldAt h F hsl rsl lsl) {w o : Int} (hw : 0 ≤ w ∧ w < 256) (ho : 0 ≤ o ∧ o < 256) :
    Runs Try.prog 5 [.agg (F.cells hsl rsl lsl), .int .u8 w, .int .u8 o] h (fun en h' => en = .ret (.bool true) ∧ Ext h h') := by
  obtain ⟨fs30, hu30, pl30⟩ := flds30
  have hnh := O.nh
  have hnr := O.nr
  have hnl := O.nl
  have hl1 := A.hs.len
  have hl2 := A.rs.len
  have hl3 := A.ls.len
  rw [List.length_map] at hl1 hl2 hl3
  have hlo := long_ok F hsl rsl lsl _ _ _ hl1 hl2 hl3 (r := false) (decide_eq_false (by omega))
  obtain ⟨i, hi⟩ : ∃ i, w.toNat % F.hs.length = i := ⟨_, rfl⟩
  obtain ⟨d, hd⟩ : ∃ d, o.toNat % F.rs.length = d := ⟨_, rfl⟩
  have hi1 : w.tmod (F.hs.length : Nat) = (i : Nat) := by
    rw [← hi]
    obtain ⟨w', rfl⟩ := Int.eq_ofNat_of_zero_le hw.1
    rfl
  have hd1 : o.tmod (F.rs.length : Nat) = (d : Nat) := by
    rw [← hd]
    obtain ⟨w', rfl⟩ := Int.eq_ofNat_of_zero_le ho.1
    rfl
  have hi2 : i < F.hs.length := by rw [← hi]; exact Nat.mod_lt _ (by omega)
  have hd2 : d < F.rs.length := by rw [← hd]; exact Nat.mod_lt _ (by omega)
  have hhy := fun h A => h5_yes O hsl rsl lsl h A (by omega) (by omega) (by omega)
  have hwr := fun h A => Wet_range O hsl rsl lsl (F.hs.length : Nat) (by omega) 0 h A
  have hrr := fun h A => Rain_range O hsl rsl lsl (F.rs.length : Nat) (by omega) h A
  have hdr := fun h A => Dry_range O hsl rsl lsl 0 (by omega) (-1) (by omega) h A
  have hur := fun h A => Doubt_range O hsl rsl lsl (-1) (by omega) h A
  have hnw := fun h A => When_range O hsl rsl lsl (-1) (by omega) h A
  have hcB : F.canB = false := by
    cases q : F.canB with
    | false => rfl
    | true => exact absurd he ((canB_ents O).1 q)
  obtain ⟨q, R2⟩ := clash_ex O hcB
  have hcy := fun h A => Clash_yes O hcB R2 hsl rsl lsl h A
  have hwn := fun h A => Wet_no O he hsl rsl lsl i d hi2 hd2 h A
  have hrn := fun h A => Rain_no O he hsl rsl lsl d hd2 h A
  unfold FieldV.cells fieldC at hlo hhy hwr hrr hdr hur hnw hcy hwn hrn ⊢
  refine Runs.intro aFunc5 rfl rfl rfl rfl fun rest => ?_
  refine Go.seq noJ_ok ?_
  refine Go.region noJ_ok rfl ?_
  refine GoR.box rfl rfl rfl rfl rfl rfl fun h0 x0 f0 => ?_
  have e0 := x0
  have := f0.1
  refine GoR.op rfl rfl rfl rfl ?_
  refine GoR.end ?_
  iterate 2 refine Go.seq noJ_ok ?_
  refine Go.region noJ_ok rfl ?_
  refine GoR.op rfl rfl (ld27 rfl f0 rfl) rfl ?_
  refine GoR.call rfl rfl (aOp_callFunc aFunc22 rfl) (hlo _) ?_ (by rintro _ _ ⟨q, _⟩; cases q)
  rintro v1 h1 ⟨q, x1⟩
  cases q
  refine ⟨_, rfl, ?_⟩
  replace f0 := f0.ext x1
  replace e0 := e0.trans x1
  refine GoR.end ?_
  refine Go.cond noJ_ok (b := false) rfl ?_
  refine Go.code noJ_ok ?_
  iterate 2 refine Go.seq noJ_ok ?_
  refine Go.region noJ_ok rfl ?_
  refine GoR.op rfl rfl (ld27 rfl f0 rfl) rfl ?_
  refine GoR.call rfl rfl (aOp_callFunc aFunc23 rfl) (hhy _ (A.ext e0)) ?_ (by rintro _ _ ⟨q, _⟩; cases q)
  rintro v2 h2 ⟨q, x2⟩
  cases q
  refine ⟨_, rfl, ?_⟩
  replace f0 := f0.ext x2
  replace e0 := e0.trans x2
  refine GoR.op rfl rfl rfl rfl ?_
  refine GoR.end ?_
  refine Go.cond noJ_ok (b := false) rfl ?_
  refine Go.code noJ_ok ?_
  refine Go.seq noJ_ok ?_
  refine Go.drawnE plan5_0 ?_
  refine GoE.quiet rfl rfl rfl rfl ?_
  refine GoE.quiet rfl rfl (aOp_convU8 rfl Try.underlying5 Try.underlying3 hw) rfl ?_
  refine GoE.quiet rfl rfl (fa27_0 rfl) rfl ?_
  refine GoE.quiet rfl rfl (ld22 rfl f0 rfl) rfl ?_
  refine GoE.quiet rfl rfl (aOp_lenSlice Try.underlying22 rfl hl1) rfl ?_
  refine GoE.quiet rfl rfl (aOp_rem rfl rfl (by omega) hi1) rfl ?_
  refine GoE.quiet rfl rfl rfl rfl ?_
  refine GoE.quiet rfl rfl (aOp_convU8 rfl Try.underlying5 Try.underlying3 ho) rfl ?_
  refine GoE.quiet rfl rfl (fa27_1 rfl) rfl ?_
  refine GoE.quiet rfl rfl (ld23 rfl f0 rfl) rfl ?_
  refine GoE.quiet rfl rfl (aOp_lenSlice Try.underlying23 rfl hl2) rfl ?_
  refine GoE.quiet rfl rfl (aOp_rem rfl rfl (by omega) hd1) rfl ?_
  iterate 2 refine GoE.quiet rfl rfl rfl rfl ?_
  refine GoE.end rfl ?_
  refine Go.seq noJ_ok ?_
  refine Go.region noJ_ok rfl ?_
  refine GoR.op rfl rfl (ld27 rfl f0 rfl) rfl ?_
  iterate 2 refine GoR.op rfl rfl rfl rfl ?_
  refine GoR.call rfl rfl (aOp_callFunc aFunc13 rfl) (hwn _ (A.ext e0)) ?_ (by rintro _ _ ⟨q, _⟩; cases q)
  rintro v3 h3 ⟨q, x3⟩
  cases q
  refine ⟨_, rfl, ?_⟩
  replace f0 := f0.ext x3
  replace e0 := e0.trans x3
  iterate 3 refine GoR.op rfl rfl rfl rfl ?_
  refine GoR.alloc rfl rfl rfl zt30 rfl rfl fun h4 x4 f4 => ?_
  have := e0.1
  have := f0.1
  replace f0 := f0.ext x4
  replace e0 := e0.trans x4
  have := f4.1
  refine GoR.store rfl rfl rfl rfl rfl rfl f4 rfl sz30 rfl rfl rfl fun h5 u5 => ?_
  replace f4 := u5.has f4
  replace f0 := f0.upd u5 (by omega)
  first | replace e0 := e0.upd u5 (by omega) | clear e0
  refine GoR.op rfl rfl rfl rfl ?_
  refine GoR.end ?_
  refine Go.seq noJ_ok ?_
  refine Go.region noJ_ok rfl ?_
  refine GoR.op rfl rfl (ld27 rfl f0 rfl) rfl ?_
  refine GoR.op rfl rfl rfl rfl ?_
  refine GoR.call rfl rfl (aOp_callFunc aFunc14 rfl) (hrn _ (A.ext e0)) ?_ (by rintro _ _ ⟨q, _⟩; cases q)
  rintro v6 h6 ⟨q, x6⟩
  cases q
  refine ⟨_, rfl, ?_⟩
  replace f4 := f4.ext x6
  replace f0 := f0.ext x6
  replace e0 := e0.trans x6
  iterate 3 refine GoR.op rfl rfl rfl rfl ?_
  refine GoR.alloc rfl rfl rfl zt30 rfl rfl fun h7 x7 f7 => ?_
  have := e0.1
  have := f4.1
  have := f0.1
  replace f4 := f4.ext x7
  replace f0 := f0.ext x7
  replace e0 := e0.trans x7
  have := f7.1
  refine GoR.store rfl rfl rfl rfl rfl rfl f7 rfl sz30 rfl rfl rfl fun h8 u8 => ?_
  replace f7 := u8.has f7
  replace f4 := f4.upd u8 (by omega)
  replace f0 := f0.upd u8 (by omega)
  first | replace e0 := e0.upd u8 (by omega) | clear e0
  refine GoR.op rfl rfl rfl rfl ?_
  refine GoR.end ?_
  refine Go.seq noJ_ok ?_
  refine Go.region noJ_ok rfl ?_
  refine GoR.op rfl rfl (ld27 rfl f0 rfl) rfl ?_
  refine GoR.op rfl rfl (fa27_0 rfl) rfl ?_
  refine GoR.op rfl rfl (ld22 rfl f0 rfl) rfl ?_
  refine GoR.op rfl rfl (aOp_lenSlice Try.underlying22 rfl hl1) rfl ?_
  refine GoR.call rfl rfl (aOp_callFunc aFunc13 rfl) (hwr _ (A.ext e0)) ?_ (by rintro _ _ ⟨q, _⟩; cases q)
  rintro v9 h9 ⟨q, x9⟩
  cases q
  refine ⟨_, rfl, ?_⟩
  replace f7 := f7.ext x9
  replace f4 := f4.ext x9
  replace f0 := f0.ext x9
  replace e0 := e0.trans x9
  iterate 3 refine GoR.op rfl rfl rfl rfl ?_
  refine GoR.alloc rfl rfl rfl zt30 rfl rfl fun h10 x10 f10 => ?_
  have := e0.1
  have := f7.1
  have := f4.1
  have := f0.1
  replace f7 := f7.ext x10
  replace f4 := f4.ext x10
  replace f0 := f0.ext x10
  replace e0 := e0.trans x10
  have := f10.1
  refine GoR.store rfl rfl rfl rfl rfl rfl f10 rfl sz30 rfl rfl rfl fun h11 u11 => ?_
  replace f10 := u11.has f10
  replace f7 := f7.upd u11 (by omega)
  replace f4 := f4.upd u11 (by omega)
  replace f0 := f0.upd u11 (by omega)
  first | replace e0 := e0.upd u11 (by omega) | clear e0
  refine GoR.op rfl rfl rfl rfl ?_
  refine GoR.end ?_
  refine Go.seq noJ_ok ?_
  refine Go.region noJ_ok rfl ?_
  refine GoR.op rfl rfl (ld27 rfl f0 rfl) rfl ?_
  refine GoR.op rfl rfl (fa27_1 rfl) rfl ?_
  refine GoR.op rfl rfl (ld23 rfl f0 rfl) rfl ?_
  refine GoR.op rfl rfl (aOp_lenSlice Try.underlying23 rfl hl2) rfl ?_
  refine GoR.call rfl rfl (aOp_callFunc aFunc14 rfl) (hrr _ (A.ext e0)) ?_ (by rintro _ _ ⟨q, _⟩; cases q)
  rintro v12 h12 ⟨q, x12⟩
  cases q
  refine ⟨_, rfl, ?_⟩
  replace f10 := f10.ext x12
  replace f7 := f7.ext x12
  replace f4 := f4.ext x12
  replace f0 := f0.ext x12
  replace e0 := e0.trans x12
  iterate 3 refine GoR.op rfl rfl rfl rfl ?_
  refine GoR.alloc rfl rfl rfl zt30 rfl rfl fun h13 x13 f13 => ?_
  have := e0.1
  have := f10.1
  have := f7.1
  have := f4.1
  have := f0.1
  replace f10 := f10.ext x13
  replace f7 := f7.ext x13
  replace f4 := f4.ext x13
  replace f0 := f0.ext x13
  replace e0 := e0.trans x13
  have := f13.1
  refine GoR.store rfl rfl rfl rfl rfl rfl f13 rfl sz30 rfl rfl rfl fun h14 u14 => ?_
  replace f13 := u14.has f13
  replace f10 := f10.upd u14 (by omega)
  replace f7 := f7.upd u14 (by omega)
  replace f4 := f4.upd u14 (by omega)
  replace f0 := f0.upd u14 (by omega)
  first | replace e0 := e0.upd u14 (by omega) | clear e0
  refine GoR.op rfl rfl rfl rfl ?_
  refine GoR.end ?_
  refine Go.seq noJ_ok ?_
  refine Go.region noJ_ok rfl ?_
  refine GoR.op rfl rfl (ld27 rfl f0 rfl) rfl ?_
  refine GoR.call rfl rfl (aOp_callFunc aFunc15 rfl) (hdr _ (A.ext e0)) ?_ (by rintro _ _ ⟨q, _⟩; cases q)
  rintro v15 h15 ⟨q, x15⟩
  cases q
  refine ⟨_, rfl, ?_⟩
  replace f13 := f13.ext x15
  replace f10 := f10.ext x15
  replace f7 := f7.ext x15
  replace f4 := f4.ext x15
  replace f0 := f0.ext x15
  replace e0 := e0.trans x15
  iterate 5 refine GoR.op rfl rfl rfl rfl ?_
  refine GoR.end ?_
  refine Go.seq noJ_ok ?_
  refine Go.region noJ_ok rfl ?_
  refine GoR.op rfl rfl (ld27 rfl f0 rfl) rfl ?_
  refine GoR.call rfl rfl (aOp_callFunc aFunc17 rfl) (hur _ (A.ext e0)) ?_ (by rintro _ _ ⟨q, _⟩; cases q)
  rintro v16 h16 ⟨q, x16⟩
  cases q
  refine ⟨_, rfl, ?_⟩
  replace f13 := f13.ext x16
  replace f10 := f10.ext x16
  replace f7 := f7.ext x16
  replace f4 := f4.ext x16
  replace f0 := f0.ext x16
  replace e0 := e0.trans x16
  iterate 7 refine GoR.op rfl rfl rfl rfl ?_
  refine GoR.end ?_
  refine Go.seq noJ_ok ?_
  refine Go.region noJ_ok rfl ?_
  refine GoR.op rfl rfl (ld27 rfl f0 rfl) rfl ?_
  refine GoR.call rfl rfl (aOp_callFunc aFunc16 rfl) (hnw _ (A.ext e0)) ?_ (by rintro _ _ ⟨q, _⟩; cases q)
  rintro v17 h17 ⟨q, x17⟩
  cases q
  refine ⟨_, rfl, ?_⟩
  replace f13 := f13.ext x17
  replace f10 := f10.ext x17
  replace f7 := f7.ext x17
  replace f4 := f4.ext x17
  replace f0 := f0.ext x17
  replace e0 := e0.trans x17
  iterate 5 refine GoR.op rfl rfl rfl rfl ?_
  refine GoR.end ?_
  refine Go.seq noJ_ok ?_
  refine Go.region noJ_ok rfl ?_
  refine GoR.op rfl rfl (ld27 rfl f0 rfl) rfl ?_
  refine GoR.call rfl rfl (aOp_callFunc aFunc19 rfl) (hcy _ (A.ext e0)) ?_ (by rintro _ _ ⟨q, _⟩; cases q)
  rintro v18 h18 ⟨q, x18⟩
  cases q
  refine ⟨_, rfl, ?_⟩
  replace f13 := f13.ext x18
  replace f10 := f10.ext x18
  replace f7 := f7.ext x18
  replace f4 := f4.ext x18
  replace f0 := f0.ext x18
  replace e0 := e0.trans x18
  iterate 5 refine GoR.op rfl rfl rfl rfl ?_
  refine GoR.end ?_
  iterate 2 refine Go.seq noJ_ok ?_
  refine Go.region noJ_ok rfl ?_
  refine GoR.op rfl rfl rfl rfl ?_
  refine GoR.op rfl rfl (aOp_neq rfl rfl (r := false) (decide_eq_true (by omega))) rfl ?_
  iterate 3 refine GoR.op rfl rfl rfl rfl ?_
  refine GoR.op rfl rfl (aOp_neq rfl rfl (r := false) (decide_eq_true (by omega))) rfl ?_
  iterate 4 refine GoR.op rfl rfl rfl rfl ?_
  refine GoR.op rfl rfl (aOp_neq rfl rfl (r := false) (decide_eq_true (by omega))) rfl ?_
  iterate 4 refine GoR.op rfl rfl rfl rfl ?_
  refine GoR.op rfl rfl (aOp_neq rfl rfl (r := false) (decide_eq_true (by omega))) rfl ?_
  iterate 4 refine GoR.op rfl rfl rfl rfl ?_
  refine GoR.op rfl rfl (aOp_neq rfl rfl (r := false) (decide_eq_true (by omega))) rfl ?_
  iterate 4 refine GoR.op rfl rfl rfl rfl ?_
  refine GoR.op rfl rfl (aOp_neq rfl rfl (r := false) (decide_eq_true (by omega))) rfl ?_
  iterate 3 refine GoR.op rfl rfl rfl rfl ?_
  refine GoR.op rfl rfl (aOp_eql rfl rfl (r := false) (decide_eq_false (by omega))) rfl ?_
  refine GoR.op rfl rfl rfl rfl ?_
  refine GoR.op rfl rfl (aOp_eql rfl rfl (r := false) (decide_eq_false (by omega))) rfl ?_
  refine GoR.op rfl rfl (aOp_neqBool rfl rfl Try.underlying4 rfl) rfl ?_
  refine GoR.op rfl rfl rfl rfl ?_
  refine GoR.end ?_
  refine Go.cond noJ_ok (b := false) rfl ?_
  refine Go.code noJ_ok ?_
  iterate 2 refine Go.seq noJ_ok ?_
  refine Go.region noJ_ok rfl ?_
  refine GoR.op rfl rfl rfl rfl ?_
  refine GoR.op rfl rfl (aOp_neq rfl rfl (r := true) (decide_eq_false (by omega))) rfl ?_
  refine GoR.end ?_
  refine Go.cond noJ_ok (b := true) rfl ?_
  refine Go.seq noJ_ok ?_
  refine Go.region JA_ok rfl ?_
  refine GoR.op rfl rfl rfl rfl ?_
  refine GoR.op rfl rfl (aOp_eql rfl rfl (r := true) (decide_eq_true (by omega))) rfl ?_
  refine GoR.op rfl rfl rfl rfl ?_
  refine GoR.op rfl rfl (ld30 rfl f4 rfl) rfl ?_
  refine GoR.op rfl rfl (aOp_build (ps := []) (cs := [.int .i64 0, .int .i64 0]) zt30 hu30 pl30 rfl rfl) rfl ?_
  refine GoR.op rfl rfl (aOp_eqlSpan spanT rfl rfl (r := true) rfl) rfl ?_
  iterate 2 refine GoR.op rfl rfl rfl rfl ?_
  refine GoR.op rfl rfl (ld30 rfl f7 rfl) rfl ?_
  refine GoR.op rfl rfl (aOp_build (ps := []) (cs := [.int .i64 0, .int .i64 0]) zt30 hu30 pl30 rfl rfl) rfl ?_
  refine GoR.op rfl rfl (aOp_eqlSpan spanT rfl rfl (r := true) rfl) rfl ?_
  iterate 2 refine GoR.op rfl rfl rfl rfl ?_
  refine GoR.jump JA_ok rfl rfl (aOp_callFunc aFunc21 rfl) (v := .bool true) rfl rfl ?_
  iterate 2 refine GoR.op rfl rfl rfl rfl ?_
  refine GoR.end ?_
  exact Go.ret noJ_ok (ret_end (aResult_of Try.func5 rfl rfl) ⟨rfl, e0⟩)
theorem law5_some {F : FieldV} (O : F.Ok) (hne : F.ents ≠ []) (hsl rsl lsl : AVal) (h : AH) (A : FieldAt h F hsl rsl lsl) {w o : Int} (hw : 0 ≤ w ∧ w < 256) (ho : 0 ≤ o ∧ o < 256) :
    Runs Try.prog 5 [.agg (F.cells hsl rsl lsl), .int .u8 w, .int .u8 o] h (fun en h' => en = .ret (.bool true) ∧ Ext h h') := by
  obtain ⟨fs30, hu30, pl30⟩ := flds30
  have hnh := O.nh
  have hnr := O.nr
  have hnl := O.nl
  have hl1 := A.hs.len
  have hl2 := A.rs.len
  have hl3 := A.ls.len
  rw [List.length_map] at hl1 hl2 hl3
  have hlo := long_ok F hsl rsl lsl _ _ _ hl1 hl2 hl3 (r := false) (decide_eq_false (by omega))
  obtain ⟨i, hi⟩ : ∃ i, w.toNat % F.hs.length = i := ⟨_, rfl⟩
  obtain ⟨d, hd⟩ : ∃ d, o.toNat % F.rs.length = d := ⟨_, rfl⟩
  have hi1 : w.tmod (F.hs.length : Nat) = (i : Nat) := by
    rw [← hi]
    obtain ⟨w', rfl⟩ := Int.eq_ofNat_of_zero_le hw.1
    rfl
  have hd1 : o.tmod (F.rs.length : Nat) = (d : Nat) := by
    rw [← hd]
    obtain ⟨w', rfl⟩ := Int.eq_ofNat_of_zero_le ho.1
    rfl
  have hi2 : i < F.hs.length := by rw [← hi]; exact Nat.mod_lt _ (by omega)
  have hd2 : d < F.rs.length := by rw [← hd]; exact Nat.mod_lt _ (by omega)
  have hhy := fun h A => h5_yes O hsl rsl lsl h A (by omega) (by omega) (by omega)
  have hwr := fun h A => Wet_range O hsl rsl lsl (F.hs.length : Nat) (by omega) 0 h A
  have hrr := fun h A => Rain_range O hsl rsl lsl (F.rs.length : Nat) (by omega) h A
  have hdr := fun h A => Dry_range O hsl rsl lsl 0 (by omega) (-1) (by omega) h A
  have hur := fun h A => Doubt_range O hsl rsl lsl (-1) (by omega) h A
  have hnw := fun h A => When_range O hsl rsl lsl (-1) (by omega) h A
  have hcB : F.canB = true := (canB_ents O).2 hne
  have hcy := fun h A => Clash_no O hcB hsl rsl lsl h A
  have hwn := fun h A => Wet_yes O hne hsl rsl lsl i hi2 d hd2 h A
  have hrn := fun h A => Rain_yes O hne hsl rsl lsl d hd2 h A
  obtain ⟨rr, hrd⟩ : ∃ rr, F.rs[d]? = some rr := ⟨F.rs[d], by simp⟩
  obtain ⟨wet, hwet⟩ : ∃ wet, F.wet (i : Nat) d = wet := ⟨_, rfl⟩
  obtain ⟨rain, hrain⟩ : ∃ rain, F.rain d = rain := ⟨_, rfl⟩
  have hwe := wet_ends O hne hi2 hd2
  have hwg := wet_good O hne hi2 hd2
  have hre := rain_ends O hne hd2
  rw [hwet] at hwe hwn hwg
  rw [hrain] at hre hrn
  obtain ⟨wlo, whi⟩ := wet
  obtain ⟨rlo, rhi⟩ := rain
  unfold Good at hwg
  dsimp only at hwg hwe hre
  obtain ⟨bq, off, q1, q2⟩ := A.rs.at (i := d) (l := spC rr) (by rw [List.getElem?_map, hrd]; rfl)
  rw [List.length_map] at q1
  have hrk := O.r rr (List.mem_of_getElem? hrd)
  obtain ⟨r1, r2⟩ := rr
  unfold spC at q2 hwn hrn
  dsimp only at q2 hwn hrn hrk
  have q3 := fun h' (e : Ext h h') => q2.ext e
  unfold FieldV.cells fieldC at hlo hhy hwr hrr hdr hur hnw hcy hwn hrn ⊢
  refine Runs.intro aFunc5 rfl rfl rfl rfl fun rest => ?_
  refine Go.seq noJ_ok ?_
  refine Go.region noJ_ok rfl ?_
  refine GoR.box rfl rfl rfl rfl rfl rfl fun h0 x0 f0 => ?_
  have e0 := x0
  have := f0.1
  refine GoR.op rfl rfl rfl rfl ?_
  refine GoR.end ?_
  iterate 2 refine Go.seq noJ_ok ?_
  refine Go.region noJ_ok rfl ?_
  refine GoR.op rfl rfl (ld27 rfl f0 rfl) rfl ?_
  refine GoR.call rfl rfl (aOp_callFunc aFunc22 rfl) (hlo _) ?_ (by rintro _ _ ⟨q, _⟩; cases q)
  rintro v1 h1 ⟨q, x1⟩
  cases q
  refine ⟨_, rfl, ?_⟩
  replace f0 := f0.ext x1
  replace e0 := e0.trans x1
  refine GoR.end ?_
  refine Go.cond noJ_ok (b := false) rfl ?_
  refine Go.code noJ_ok ?_
  iterate 2 refine Go.seq noJ_ok ?_
  refine Go.region noJ_ok rfl ?_
  refine GoR.op rfl rfl (ld27 rfl f0 rfl) rfl ?_
  refine GoR.call rfl rfl (aOp_callFunc aFunc23 rfl) (hhy _ (A.ext e0)) ?_ (by rintro _ _ ⟨q, _⟩; cases q)
  rintro v2 h2 ⟨q, x2⟩
  cases q
  refine ⟨_, rfl, ?_⟩
  replace f0 := f0.ext x2
  replace e0 := e0.trans x2
  refine GoR.op rfl rfl rfl rfl ?_
  refine GoR.end ?_
  refine Go.cond noJ_ok (b := false) rfl ?_
  refine Go.code noJ_ok ?_
  refine Go.seq noJ_ok ?_
  refine Go.drawnE plan5_0 ?_
  refine GoE.quiet rfl rfl rfl rfl ?_
  refine GoE.quiet rfl rfl (aOp_convU8 rfl Try.underlying5 Try.underlying3 hw) rfl ?_
  refine GoE.quiet rfl rfl (fa27_0 rfl) rfl ?_
  refine GoE.quiet rfl rfl (ld22 rfl f0 rfl) rfl ?_
  refine GoE.quiet rfl rfl (aOp_lenSlice Try.underlying22 rfl hl1) rfl ?_
  refine GoE.quiet rfl rfl (aOp_rem rfl rfl (by omega) hi1) rfl ?_
  refine GoE.quiet rfl rfl rfl rfl ?_
  refine GoE.quiet rfl rfl (aOp_convU8 rfl Try.underlying5 Try.underlying3 ho) rfl ?_
  refine GoE.quiet rfl rfl (fa27_1 rfl) rfl ?_
  refine GoE.quiet rfl rfl (ld23 rfl f0 rfl) rfl ?_
  refine GoE.quiet rfl rfl (aOp_lenSlice Try.underlying23 rfl hl2) rfl ?_
  refine GoE.quiet rfl rfl (aOp_rem rfl rfl (by omega) hd1) rfl ?_
  iterate 2 refine GoE.quiet rfl rfl rfl rfl ?_
  refine GoE.end rfl ?_
  refine Go.seq noJ_ok ?_
  refine Go.region noJ_ok rfl ?_
  refine GoR.op rfl rfl (ld27 rfl f0 rfl) rfl ?_
  iterate 2 refine GoR.op rfl rfl rfl rfl ?_
  refine GoR.call rfl rfl (aOp_callFunc aFunc13 rfl) (hwn _ (A.ext e0)) ?_ (by rintro _ _ ⟨q, _⟩; cases q)
  rintro v3 h3 ⟨q, x3⟩
  cases q
  refine ⟨_, rfl, ?_⟩
  replace f0 := f0.ext x3
  replace e0 := e0.trans x3
  iterate 3 refine GoR.op rfl rfl rfl rfl ?_
  refine GoR.alloc rfl rfl rfl zt30 rfl rfl fun h4 x4 f4 => ?_
  have := e0.1
  have := f0.1
  replace f0 := f0.ext x4
  replace e0 := e0.trans x4
  have := f4.1
  refine GoR.store rfl rfl rfl rfl rfl rfl f4 rfl sz30 rfl rfl rfl fun h5 u5 => ?_
  replace f4 := u5.has f4
  replace f0 := f0.upd u5 (by omega)
  first | replace e0 := e0.upd u5 (by omega) | clear e0
  refine GoR.op rfl rfl rfl rfl ?_
  refine GoR.end ?_
  refine Go.seq noJ_ok ?_
  refine Go.region noJ_ok rfl ?_
  refine GoR.op rfl rfl (ld27 rfl f0 rfl) rfl ?_
  refine GoR.op rfl rfl rfl rfl ?_
  refine GoR.call rfl rfl (aOp_callFunc aFunc14 rfl) (hrn _ (A.ext e0)) ?_ (by rintro _ _ ⟨q, _⟩; cases q)
  rintro v6 h6 ⟨q, x6⟩
  cases q
  refine ⟨_, rfl, ?_⟩
  replace f4 := f4.ext x6
  replace f0 := f0.ext x6
  replace e0 := e0.trans x6
  iterate 3 refine GoR.op rfl rfl rfl rfl ?_
  refine GoR.alloc rfl rfl rfl zt30 rfl rfl fun h7 x7 f7 => ?_
  have := e0.1
  have := f4.1
  have := f0.1
  replace f4 := f4.ext x7
  replace f0 := f0.ext x7
  replace e0 := e0.trans x7
  have := f7.1
  refine GoR.store rfl rfl rfl rfl rfl rfl f7 rfl sz30 rfl rfl rfl fun h8 u8 => ?_
  replace f7 := u8.has f7
  replace f4 := f4.upd u8 (by omega)
  replace f0 := f0.upd u8 (by omega)
  first | replace e0 := e0.upd u8 (by omega) | clear e0
  refine GoR.op rfl rfl rfl rfl ?_
  refine GoR.end ?_
  refine Go.seq noJ_ok ?_
  refine Go.region noJ_ok rfl ?_
  refine GoR.op rfl rfl (ld27 rfl f0 rfl) rfl ?_
  refine GoR.op rfl rfl (fa27_0 rfl) rfl ?_
  refine GoR.op rfl rfl (ld22 rfl f0 rfl) rfl ?_
  refine GoR.op rfl rfl (aOp_lenSlice Try.underlying22 rfl hl1) rfl ?_
  refine GoR.call rfl rfl (aOp_callFunc aFunc13 rfl) (hwr _ (A.ext e0)) ?_ (by rintro _ _ ⟨q, _⟩; cases q)
  rintro v9 h9 ⟨q, x9⟩
  cases q
  refine ⟨_, rfl, ?_⟩
  replace f7 := f7.ext x9
  replace f4 := f4.ext x9
  replace f0 := f0.ext x9
  replace e0 := e0.trans x9
  iterate 3 refine GoR.op rfl rfl rfl rfl ?_
  refine GoR.alloc rfl rfl rfl zt30 rfl rfl fun h10 x10 f10 => ?_
  have := e0.1
  have := f7.1
  have := f4.1
  have := f0.1
  replace f7 := f7.ext x10
  replace f4 := f4.ext x10
  replace f0 := f0.ext x10
  replace e0 := e0.trans x10
  have := f10.1
  refine GoR.store rfl rfl rfl rfl rfl rfl f10 rfl sz30 rfl rfl rfl fun h11 u11 => ?_
  replace f10 := u11.has f10
  replace f7 := f7.upd u11 (by omega)
  replace f4 := f4.upd u11 (by omega)
  replace f0 := f0.upd u11 (by omega)
  first | replace e0 := e0.upd u11 (by omega) | clear e0
  refine GoR.op rfl rfl rfl rfl ?_
  refine GoR.end ?_
  refine Go.seq noJ_ok ?_
  refine Go.region noJ_ok rfl ?_
  refine GoR.op rfl rfl (ld27 rfl f0 rfl) rfl ?_
  refine GoR.op rfl rfl (fa27_1 rfl) rfl ?_
  refine GoR.op rfl rfl (ld23 rfl f0 rfl) rfl ?_
  refine GoR.op rfl rfl (aOp_lenSlice Try.underlying23 rfl hl2) rfl ?_
  refine GoR.call rfl rfl (aOp_callFunc aFunc14 rfl) (hrr _ (A.ext e0)) ?_ (by rintro _ _ ⟨q, _⟩; cases q)
  rintro v12 h12 ⟨q, x12⟩
  cases q
  refine ⟨_, rfl, ?_⟩
  replace f10 := f10.ext x12
  replace f7 := f7.ext x12
  replace f4 := f4.ext x12
  replace f0 := f0.ext x12
  replace e0 := e0.trans x12
  iterate 3 refine GoR.op rfl rfl rfl rfl ?_
  refine GoR.alloc rfl rfl rfl zt30 rfl rfl fun h13 x13 f13 => ?_
  have := e0.1
  have := f10.1
  have := f7.1
  have := f4.1
  have := f0.1
  replace f10 := f10.ext x13
  replace f7 := f7.ext x13
  replace f4 := f4.ext x13
  replace f0 := f0.ext x13
  replace e0 := e0.trans x13
  have := f13.1
  refine GoR.store rfl rfl rfl rfl rfl rfl f13 rfl sz30 rfl rfl rfl fun h14 u14 => ?_
  replace f13 := u14.has f13
  replace f10 := f10.upd u14 (by omega)
  replace f7 := f7.upd u14 (by omega)
  replace f4 := f4.upd u14 (by omega)
  replace f0 := f0.upd u14 (by omega)
  first | replace e0 := e0.upd u14 (by omega) | clear e0
  refine GoR.op rfl rfl rfl rfl ?_
  refine GoR.end ?_
  refine Go.seq noJ_ok ?_
  refine Go.region noJ_ok rfl ?_
  refine GoR.op rfl rfl (ld27 rfl f0 rfl) rfl ?_
  refine GoR.call rfl rfl (aOp_callFunc aFunc15 rfl) (hdr _ (A.ext e0)) ?_ (by rintro _ _ ⟨q, _⟩; cases q)
  rintro v15 h15 ⟨q, x15⟩
  cases q
  refine ⟨_, rfl, ?_⟩
  replace f13 := f13.ext x15
  replace f10 := f10.ext x15
  replace f7 := f7.ext x15
  replace f4 := f4.ext x15
  replace f0 := f0.ext x15
  replace e0 := e0.trans x15
  iterate 5 refine GoR.op rfl rfl rfl rfl ?_
  refine GoR.end ?_
  refine Go.seq noJ_ok ?_
  refine Go.region noJ_ok rfl ?_
  refine GoR.op rfl rfl (ld27 rfl f0 rfl) rfl ?_
  refine GoR.call rfl rfl (aOp_callFunc aFunc17 rfl) (hur _ (A.ext e0)) ?_ (by rintro _ _ ⟨q, _⟩; cases q)
  rintro v16 h16 ⟨q, x16⟩
  cases q
  refine ⟨_, rfl, ?_⟩
  replace f13 := f13.ext x16
  replace f10 := f10.ext x16
  replace f7 := f7.ext x16
  replace f4 := f4.ext x16
  replace f0 := f0.ext x16
  replace e0 := e0.trans x16
  iterate 7 refine GoR.op rfl rfl rfl rfl ?_
  refine GoR.end ?_
  refine Go.seq noJ_ok ?_
  refine Go.region noJ_ok rfl ?_
  refine GoR.op rfl rfl (ld27 rfl f0 rfl) rfl ?_
  refine GoR.call rfl rfl (aOp_callFunc aFunc16 rfl) (hnw _ (A.ext e0)) ?_ (by rintro _ _ ⟨q, _⟩; cases q)
  rintro v17 h17 ⟨q, x17⟩
  cases q
  refine ⟨_, rfl, ?_⟩
  replace f13 := f13.ext x17
  replace f10 := f10.ext x17
  replace f7 := f7.ext x17
  replace f4 := f4.ext x17
  replace f0 := f0.ext x17
  replace e0 := e0.trans x17
  iterate 5 refine GoR.op rfl rfl rfl rfl ?_
  refine GoR.end ?_
  refine Go.seq noJ_ok ?_
  refine Go.region noJ_ok rfl ?_
  refine GoR.op rfl rfl (ld27 rfl f0 rfl) rfl ?_
  refine GoR.call rfl rfl (aOp_callFunc aFunc19 rfl) (hcy _ (A.ext e0)) ?_ (by rintro _ _ ⟨q, _⟩; cases q)
  rintro v18 h18 ⟨q, x18⟩
  cases q
  refine ⟨_, rfl, ?_⟩
  replace f13 := f13.ext x18
  replace f10 := f10.ext x18
  replace f7 := f7.ext x18
  replace f4 := f4.ext x18
  replace f0 := f0.ext x18
  replace e0 := e0.trans x18
  iterate 5 refine GoR.op rfl rfl rfl rfl ?_
  refine GoR.end ?_
  iterate 2 refine Go.seq noJ_ok ?_
  refine Go.region noJ_ok rfl ?_
  refine GoR.op rfl rfl rfl rfl ?_
  refine GoR.op rfl rfl (aOp_neq rfl rfl (r := false) (decide_eq_true (by omega))) rfl ?_
  iterate 3 refine GoR.op rfl rfl rfl rfl ?_
  refine GoR.op rfl rfl (aOp_neq rfl rfl (r := false) (decide_eq_true (by omega))) rfl ?_
  iterate 4 refine GoR.op rfl rfl rfl rfl ?_
  refine GoR.op rfl rfl (aOp_neq rfl rfl (r := false) (decide_eq_true (by omega))) rfl ?_
  iterate 4 refine GoR.op rfl rfl rfl rfl ?_
  refine GoR.op rfl rfl (aOp_neq rfl rfl (r := false) (decide_eq_true (by omega))) rfl ?_
  iterate 4 refine GoR.op rfl rfl rfl rfl ?_
  refine GoR.op rfl rfl (aOp_neq rfl rfl (r := false) (decide_eq_true (by omega))) rfl ?_
  iterate 4 refine GoR.op rfl rfl rfl rfl ?_
  refine GoR.op rfl rfl (aOp_neq rfl rfl (r := false) (decide_eq_true (by omega))) rfl ?_
  iterate 3 refine GoR.op rfl rfl rfl rfl ?_
  refine GoR.op rfl rfl (aOp_eql rfl rfl (r := true) (decide_eq_true (by omega))) rfl ?_
  refine GoR.op rfl rfl rfl rfl ?_
  refine GoR.op rfl rfl (aOp_eql rfl rfl (r := true) (decide_eq_true (by omega))) rfl ?_
  refine GoR.op rfl rfl (aOp_neqBool rfl rfl Try.underlying4 rfl) rfl ?_
  refine GoR.op rfl rfl rfl rfl ?_
  refine GoR.end ?_
  refine Go.cond noJ_ok (b := false) rfl ?_
  refine Go.code noJ_ok ?_
  iterate 2 refine Go.seq noJ_ok ?_
  refine Go.region noJ_ok rfl ?_
  refine GoR.op rfl rfl rfl rfl ?_
  refine GoR.op rfl rfl (aOp_neq rfl rfl (r := false) (decide_eq_true (by omega))) rfl ?_
  refine GoR.end ?_
  refine Go.cond noJ_ok (b := false) rfl ?_
  refine Go.code noJ_ok ?_
  iterate 2 refine Go.seq noJ_ok ?_
  refine Go.region noJ_ok rfl ?_
  refine GoR.op rfl rfl (fa27_1 rfl) rfl ?_
  refine GoR.op rfl rfl (ld23 rfl f0 rfl) rfl ?_
  refine GoR.op rfl rfl rfl rfl ?_
  refine GoR.op rfl rfl (aOp_indexAddr Try.underlying23 sz30 rfl q1 rfl (Nat.ble_eq_true_of_le hd2)) rfl ?_
  refine GoR.op rfl rfl (fa30_0 rfl) rfl ?_
  refine GoR.op rfl rfl (aOp_loadE1 (k := 0) ag3 rfl (q3 _ e0) rfl) rfl ?_
  refine GoR.op rfl rfl rfl rfl ?_
  refine GoR.end ?_
  refine Go.block noJ_ok ?_
  obtain ⟨hs1, hc1⟩ := A.hs.scal
  obtain ⟨hs2, hc2⟩ := A.rs.scal
  obtain ⟨hs3, hc3⟩ := A.ls.scal
  have hsc : scalars [hsl, rsl, .int .i64 F.a, .int .i64 F.b, .int .i64 F.c, .int .i64 F.lim, lsl] = true := by
    unfold scalars
    rw [scal_one hs1]
    simp only [scalars, scal_one hs2, scal_one hs3, cond_true]
    rfl
  have m0 := f0.1
  have m4 := f4.1
  have m7 := f7.1
  refine Go.loopKeep (fun a : Int => [(3, .ptr h.next 0), (11, .int .i64 (i : Nat)), (12, .int .i64 (d : Nat)), (13, .ptr h3.next 0), (15, .ptr h6.next 0), (30, .int .i64 a)])
    (fun m a h' => (m : Int) = r2 + 1 - a ∧ r1 ≤ a ∧ Ext h h' ∧ Has h' h.next (.cells .plain [hsl, rsl, .int .i64 F.a, .int .i64 F.b, .int .i64 F.c, .int .i64 F.lim, lsl] 27) ∧ Has h' h3.next (.cells .plain [.int .i64 wlo, .int .i64 whi] 30) ∧ Has h' h6.next (.cells .plain [.int .i64 rlo, .int .i64 rhi] 30))
    (n := (r2 - r1 + 1).toNat) r1 ⟨rfl, rfl, rfl, rfl, rfl, rfl, trivial⟩ ⟨by omega, Int.le_refl _, e0, f0, f4, f7⟩ ?_
  clear e0 f0 f4 f7 f10 f13
  rintro m cv h20 ⟨hm, hc1', e0, f0, f4, f7⟩ again
  by_cases hk : cv ≤ r2
  · have hc2' : cv ≤ r2 := hk
    have OX := withR_ok (d := d) (c := cv) O (by omega)
    have hXents := withR_ents O hrd hc1' hc2' OX
    have hq3 := q3
    iterate 2 refine Go.seq noJ_ok ?_
    refine Go.region noJ_ok rfl ?_
    refine GoR.op rfl rfl rfl rfl ?_
    refine GoR.op rfl rfl (fa27_1 rfl) rfl ?_
    refine GoR.op rfl rfl (ld23 rfl f0 rfl) rfl ?_
    refine GoR.op rfl rfl rfl rfl ?_
    refine GoR.op rfl rfl (aOp_indexAddr Try.underlying23 sz30 rfl q1 rfl (Nat.ble_eq_true_of_le hd2)) rfl ?_
    refine GoR.op rfl rfl (fa30_1 rfl) rfl ?_
    refine GoR.op rfl rfl (aOp_loadE1 (k := 1) ag3 rfl (q3 _ e0) rfl) rfl ?_
    refine GoR.op rfl rfl (aOp_leq rfl rfl (r := true) (decide_eq_true (by omega))) rfl ?_
    refine GoR.end ?_
    refine Go.cond noJ_ok (b := true) rfl ?_
    refine Go.code noJ_ok ?_
    refine Go.seq noJ_ok ?_
    refine Go.block noJ_ok ?_
    refine Go.seq noJ_ok ?_
    refine Go.region noJ_ok rfl ?_
    refine GoR.op rfl rfl (ld27 rfl f0 rfl) rfl ?_
    refine GoR.alloc rfl rfl rfl zt27 rfl rfl fun h21 x21 f21 => ?_
    have := e0.1
    have := f0.1
    have := f4.1
    have := f7.1
    replace f0 := f0.ext x21
    replace f4 := f4.ext x21
    replace f7 := f7.ext x21
    replace e0 := e0.trans x21
    have := f21.1
    refine GoR.store rfl rfl rfl rfl rfl rfl f21 rfl sz27 rfl hsc rfl fun h22 u22 => ?_
    replace f21 := u22.has f21
    replace f0 := f0.upd u22 (by omega)
    replace f4 := f4.upd u22 (by omega)
    replace f7 := f7.upd u22 (by omega)
    first | replace e0 := e0.upd u22 (by omega) | clear e0
    refine GoR.end ?_
    refine Go.seq noJ_ok ?_
    refine Go.region noJ_ok rfl ?_
    refine GoR.buildSl rfl rfl (ps := []) (cs := []) Try.underlying23 rfl sz30 zt30 rfl rfl rfl rfl fun h23 x23 f23 => ?_
    have := e0.1
    have := f21.1
    have := f0.1
    have := f4.1
    have := f7.1
    replace f21 := f21.ext x23
    replace f0 := f0.ext x23
    replace f4 := f4.ext x23
    replace f7 := f7.ext x23
    replace e0 := e0.trans x23
    have := f23.1
    refine GoR.op rfl rfl (fa27_1 rfl) rfl ?_
    refine GoR.op rfl rfl (ld23 rfl f0 rfl) rfl ?_
    refine GoR.appendNew rfl rfl Try.underlying23 Try.underlying23 sz30 by30 zt30 rfl rfl rfl f23 rfl (A.rs.ext e0) (by rw [List.length_map]; omega) (by rw [List.length_map]; omega) rfl rfl fun h25 x25 f25 => ?_
    rw [← List.flatMap_def] at f25
    rw [List.length_map]
    have hx25 := x25.1
    have hb25 := f25.1
    replace f0 := f0.ext x25
    replace f4 := f4.ext x25
    replace f7 := f7.ext x25
    replace f21 := f21.ext x25
    have m20 := e0.1
    replace e0 := e0.trans x25
    have hsp : splice (F.rs.flatMap spC) (0 + d * 2) (AVal.agg [.int .i64 cv, .int .i64 cv]).cells = some ((F.rs.set d (cv, cv)).flatMap spC) := splice_two (v := (cv, cv)) hd2
    clear f23 x25
    have hrl : (F.rs.set d (cv, cv)).length = F.rs.length := List.length_set
    have hXA : ∀ h', Ext h h' → Has h' h23.next (.cells .grow ((F.rs.set d (cv, cv)).flatMap spC) 30) → FieldAt h' (F.withR d cv) hsl (.gsl h23.next 0 0 F.rs.length) lsl := fun h' e f => by
      refine ⟨A.hs.ext e, ?_, A.ls.ext e⟩
      show SliceOf h' 2 _ ((F.rs.set d (cv, cv)).map spC)
      refine SliceOf.mk' (by rw [List.length_map, hrl]; rfl) (by rw [List.length_map, hrl]; rfl) f rfl (fun i l hl => ?_)
      rw [Nat.zero_add, List.flatMap_def]
      exact slice_flatten (fun l hl => by obtain ⟨_, _, rfl⟩ := List.mem_map.1 hl; rfl) i l hl
    have hXc : (F.withR d cv).cells hsl (.gsl h23.next 0 0 F.rs.length) lsl = [hsl, .gsl h23.next 0 0 F.rs.length, .int .i64 F.a, .int .i64 F.b, .int .i64 F.c, .int .i64 F.lim, lsl] := rfl
    have hXd : d < (F.withR d cv).rs.length := by show d < (F.rs.set d (cv, cv)).length; rw [hrl]; exact hd2
    have hin27 := fun r hr h => inside27_ok cv rlo rhi (r := r) hr h
    by_cases hXe : ∃ l, F.fell l ∧ atD l d = cv
    · have hXne := hXents.2 hXe
      have hXr := withR_rain O hrd hc1' hc2' OX hXne
      obtain ⟨l, hl1', hl2'⟩ := hXe
      have hcb := hre.1 l hl1'
      rw [hl2'] at hcb
      have hra := fun h' A => Rain_yes OX hXne hsl (.gsl h23.next 0 0 F.rs.length) lsl d hXd h' A
      rw [hXr, hXc] at hra
      unfold spC at hra
      dsimp only at hra
      have hne' : (!(cv == cv && cv == cv)) = false := by simp
      refine GoR.op rfl rfl (fa27_1 rfl) rfl ?_
      refine GoR.store rfl rfl rfl rfl rfl rfl f21 rfl sz23 rfl rfl rfl fun h26 u26 => ?_
      replace f25 := f25.upd u26 (by omega)
      replace f0 := f0.upd u26 (by omega)
      replace f4 := f4.upd u26 (by omega)
      replace f7 := f7.upd u26 (by omega)
      replace f21 := u26.has f21
      first | replace e0 := e0.upd u26 (by omega) | clear e0
      refine GoR.end ?_
      refine Go.seq noJ_ok ?_
      refine Go.drawnE plan5_1 ?_
      refine GoE.quiet rfl rfl (fa27_1 rfl) rfl ?_
      refine GoE.quiet rfl rfl (ld23 rfl f21 rfl) rfl ?_
      iterate 3 refine GoE.quiet rfl rfl rfl rfl ?_
      refine GoE.call rfl rfl (aOp_callFunc aFunc11 rfl) (span11_ok cv cv _) (dropF_drop (show bit? 24 4 = true from rfl) (dropF_drop (show bit? 24 3 = true from rfl) (dropF_keep (show bit? 24 2 = false from rfl) (dropF_keep (show bit? 24 1 = false from rfl) (dropF_keep (show bit? 24 0 = false from rfl) rfl))))) ?_ (by rintro _ _ ⟨q, _⟩; cases q)
      rintro v27 h27 ⟨q, x27⟩
      cases q
      replace f25 := f25.ext x27
      replace f0 := f0.ext x27
      replace f4 := f4.ext x27
      replace f7 := f7.ext x27
      replace f21 := f21.ext x27
      replace e0 := e0.trans x27
      refine ⟨(recheck_cons (h2 := h27) rfl (rfl) (by first | rfl | exact sameA_int _ _ | exact sameA_bool _ | exact sameA_agg2 _ _ | assumption | (simp [sameA, sameAs, eqI_eq]; done)) (recheck_cons (h2 := h27) rfl (ld23 rfl f21 rfl) (by first | rfl | exact sameA_int _ _ | exact sameA_bool _ | exact sameA_agg2 _ _ | assumption | (simp [sameA, sameAs, eqI_eq]; done)) (recheck_cons (h2 := h27) rfl (fa27_1 rfl) (by first | rfl | exact sameA_int _ _ | exact sameA_bool _ | exact sameA_agg2 _ _ | assumption | (simp [sameA, sameAs, eqI_eq]; done)) recheck_nil))), _, rfl, ?_⟩
      refine GoE.quiet rfl rfl (aOp_indexAddr Try.underlying23 sz30 rfl (b := h23.next) (off := 0) rfl rfl (Nat.ble_eq_true_of_le hd2)) rfl ?_
      refine GoE.store rfl rfl rfl rfl (dropF_drop (show bit? 127 6 = true from rfl) (dropF_drop (show bit? 127 2 = true from rfl) (dropF_drop (show bit? 127 1 = true from rfl) (dropF_drop (show bit? 127 0 = true from rfl) rfl)))) rfl rfl f25 rfl sz30 rfl rfl hsp fun h28 u28 => ?_
      replace f25 := u28.has f25
      replace f0 := f0.upd u28 (by omega)
      replace f4 := f4.upd u28 (by omega)
      replace f7 := f7.upd u28 (by omega)
      replace f21 := f21.upd u28 (by omega)
      first | replace e0 := e0.upd u28 (by omega) | clear e0
      refine ⟨recheck_nil, ?_⟩
      refine GoE.end rfl ?_
      refine Go.seq noJ_ok ?_
      refine Go.region noJ_ok rfl ?_
      refine GoR.op rfl rfl (ld27 rfl f21 rfl) rfl ?_
      refine GoR.op rfl rfl rfl rfl ?_
      refine GoR.call rfl rfl (aOp_callFunc aFunc14 rfl) (hra _ (hXA _ e0 f25)) ?_ (by rintro _ _ ⟨q, _⟩; cases q)
      rintro v29 h29 ⟨q, x29⟩
      cases q
      refine ⟨_, rfl, ?_⟩
      replace f25 := f25.ext x29
      replace f0 := f0.ext x29
      replace f4 := f4.ext x29
      replace f7 := f7.ext x29
      replace f21 := f21.ext x29
      replace e0 := e0.trans x29
      iterate 3 refine GoR.op rfl rfl rfl rfl ?_
      refine GoR.alloc rfl rfl rfl zt30 rfl rfl fun h30 x30 f30 => ?_
      have := e0.1
      have := f25.1
      have := f0.1
      have := f4.1
      have := f7.1
      have := f21.1
      replace f25 := f25.ext x30
      replace f0 := f0.ext x30
      replace f4 := f4.ext x30
      replace f7 := f7.ext x30
      replace f21 := f21.ext x30
      replace e0 := e0.trans x30
      have := f30.1
      refine GoR.store rfl rfl rfl rfl rfl rfl f30 rfl sz30 rfl rfl rfl fun h31 u31 => ?_
      replace f30 := u31.has f30
      replace f25 := f25.upd u31 (by omega)
      replace f0 := f0.upd u31 (by omega)
      replace f4 := f4.upd u31 (by omega)
      replace f7 := f7.upd u31 (by omega)
      replace f21 := f21.upd u31 (by omega)
      first | replace e0 := e0.upd u31 (by omega) | clear e0
      refine GoR.op rfl rfl rfl rfl ?_
      refine GoR.end ?_
      refine Go.seq noJ_ok ?_
      refine Go.drawnE plan5_2 ?_
      refine GoE.quiet rfl rfl rfl rfl ?_
      refine GoE.quiet rfl rfl (aOp_neq rfl rfl (r := false) (decide_eq_true (by omega))) rfl ?_
      refine GoE.quiet rfl rfl rfl rfl ?_
      iterate 2 refine GoE.skip rfl rfl rfl ?_
      iterate 3 refine GoE.quiet rfl rfl rfl rfl ?_
      refine GoE.quiet rfl rfl (aOp_eql rfl rfl (r := true) (decide_eq_true (by omega))) rfl ?_
      iterate 2 refine GoE.quiet rfl rfl rfl rfl ?_
      refine GoE.quiet rfl rfl (ld30 rfl f7 rfl) rfl ?_
      refine GoE.call rfl rfl (aOp_callFunc aFunc27 rfl) (hin27 true (decide_eq_true hcb) _) (dropF_drop (show bit? 4095 11 = true from rfl) (dropF_drop (show bit? 4095 10 = true from rfl) (dropF_drop (show bit? 4095 9 = true from rfl) (dropF_drop (show bit? 4095 8 = true from rfl) (dropF_drop (show bit? 4095 7 = true from rfl) (dropF_drop (show bit? 4095 6 = true from rfl) (dropF_drop (show bit? 4095 5 = true from rfl) (dropF_drop (show bit? 4095 2 = true from rfl) (dropF_drop (show bit? 4095 1 = true from rfl) (dropF_drop (show bit? 4095 0 = true from rfl) rfl)))))))))) ?_ (by rintro _ _ ⟨q, _⟩; cases q)
      rintro v32 h32 ⟨q, x32⟩
      cases q
      replace f30 := f30.ext x32
      replace f25 := f25.ext x32
      replace f0 := f0.ext x32
      replace f4 := f4.ext x32
      replace f7 := f7.ext x32
      replace f21 := f21.ext x32
      replace e0 := e0.trans x32
      refine ⟨recheck_nil, _, rfl, ?_⟩
      iterate 2 refine GoE.quiet rfl rfl rfl rfl ?_
      refine GoE.quiet rfl rfl (ld30 rfl f30 rfl) rfl ?_
      iterate 2 refine GoE.quiet rfl rfl rfl rfl ?_
      refine GoE.call rfl rfl (aOp_callFunc aFunc11 rfl) (span11_ok cv cv _) (dropF_drop (show bit? 229375 17 = true from rfl) (dropF_drop (show bit? 229375 16 = true from rfl) (dropF_keep (show bit? 229375 15 = false from rfl) (dropF_drop (show bit? 229375 14 = true from rfl) (dropF_drop (show bit? 229375 13 = true from rfl) rfl))))) ?_ (by rintro _ _ ⟨q, _⟩; cases q)
      rintro v33 h33 ⟨q, x33⟩
      cases q
      replace f30 := f30.ext x33
      replace f25 := f25.ext x33
      replace f0 := f0.ext x33
      replace f4 := f4.ext x33
      replace f7 := f7.ext x33
      replace f21 := f21.ext x33
      replace e0 := e0.trans x33
      refine ⟨(recheck_cons (h2 := h33) rfl (ld30 rfl f30 rfl) (by first | rfl | exact sameA_int _ _ | exact sameA_bool _ | exact sameA_agg2 _ _ | assumption | (simp [sameA, sameAs, eqI_eq]; done)) recheck_nil), _, rfl, ?_⟩
      refine GoE.quiet rfl rfl (aOp_neqSpan spanT rfl rfl hne') rfl ?_
      iterate 5 refine GoE.quiet rfl rfl rfl rfl ?_
      refine GoE.quiet rfl rfl (aOp_neq rfl rfl (r := false) (decide_eq_true (by omega))) rfl ?_
      refine GoE.quiet rfl rfl rfl rfl ?_
      iterate 10 refine GoE.skip rfl rfl rfl ?_
      iterate 2 refine GoE.quiet rfl rfl rfl rfl ?_
      refine GoE.end rfl ?_
      refine Go.cond noJ_ok (b := false) rfl ?_
      refine Go.code noJ_ok ?_
      refine Go.inBlock noJ_ok ?_
      refine Go.region noJ_ok rfl ?_
      refine GoR.op rfl rfl rfl rfl ?_
      refine GoR.op rfl rfl (aOp_add rfl rfl (by constructor <;> omega) rfl) rfl ?_
      refine GoR.op rfl rfl rfl rfl ?_
      refine GoR.end ?_
      exact again (m - 1) (cv + 1) _ _ (by omega) ⟨rfl, rfl, rfl, rfl, rfl, rfl, trivial⟩ ⟨by omega, by omega, e0, f0, f4, f7⟩
    · have hXn : (F.withR d cv).ents = [] := by
        cases z : (F.withR d cv).ents with
        | nil => rfl
        | cons x xs => exact absurd (hXents.1 (by rw [z]; simp)) hXe
      have hne1 : cv ≠ rlo := fun q => by
        obtain ⟨l, z1, z2⟩ := hre.2.1
        exact hXe ⟨l, z1, by omega⟩
      have hne2 : cv ≠ rhi := fun q => by
        obtain ⟨l, z1, z2⟩ := hre.2.2
        exact hXe ⟨l, z1, by omega⟩
      have hra := fun h' A => Rain_no OX hXn hsl (.gsl h23.next 0 0 F.rs.length) lsl d hXd h' A
      rw [hXc] at hra
      refine GoR.op rfl rfl (fa27_1 rfl) rfl ?_
      refine GoR.store rfl rfl rfl rfl rfl rfl f21 rfl sz23 rfl rfl rfl fun h26 u26 => ?_
      replace f25 := f25.upd u26 (by omega)
      replace f0 := f0.upd u26 (by omega)
      replace f4 := f4.upd u26 (by omega)
      replace f7 := f7.upd u26 (by omega)
      replace f21 := u26.has f21
      first | replace e0 := e0.upd u26 (by omega) | clear e0
      refine GoR.end ?_
      refine Go.seq noJ_ok ?_
      refine Go.drawnE plan5_1 ?_
      refine GoE.quiet rfl rfl (fa27_1 rfl) rfl ?_
      refine GoE.quiet rfl rfl (ld23 rfl f21 rfl) rfl ?_
      iterate 3 refine GoE.quiet rfl rfl rfl rfl ?_
      refine GoE.call rfl rfl (aOp_callFunc aFunc11 rfl) (span11_ok cv cv _) (dropF_drop (show bit? 24 4 = true from rfl) (dropF_drop (show bit? 24 3 = true from rfl) (dropF_keep (show bit? 24 2 = false from rfl) (dropF_keep (show bit? 24 1 = false from rfl) (dropF_keep (show bit? 24 0 = false from rfl) rfl))))) ?_ (by rintro _ _ ⟨q, _⟩; cases q)
      rintro v27 h27 ⟨q, x27⟩
      cases q
      replace f25 := f25.ext x27
      replace f0 := f0.ext x27
      replace f4 := f4.ext x27
      replace f7 := f7.ext x27
      replace f21 := f21.ext x27
      replace e0 := e0.trans x27
      refine ⟨(recheck_cons (h2 := h27) rfl (rfl) (by first | rfl | exact sameA_int _ _ | exact sameA_bool _ | exact sameA_agg2 _ _ | assumption | (simp [sameA, sameAs, eqI_eq]; done)) (recheck_cons (h2 := h27) rfl (ld23 rfl f21 rfl) (by first | rfl | exact sameA_int _ _ | exact sameA_bool _ | exact sameA_agg2 _ _ | assumption | (simp [sameA, sameAs, eqI_eq]; done)) (recheck_cons (h2 := h27) rfl (fa27_1 rfl) (by first | rfl | exact sameA_int _ _ | exact sameA_bool _ | exact sameA_agg2 _ _ | assumption | (simp [sameA, sameAs, eqI_eq]; done)) recheck_nil))), _, rfl, ?_⟩
      refine GoE.quiet rfl rfl (aOp_indexAddr Try.underlying23 sz30 rfl (b := h23.next) (off := 0) rfl rfl (Nat.ble_eq_true_of_le hd2)) rfl ?_
      refine GoE.store rfl rfl rfl rfl (dropF_drop (show bit? 127 6 = true from rfl) (dropF_drop (show bit? 127 2 = true from rfl) (dropF_drop (show bit? 127 1 = true from rfl) (dropF_drop (show bit? 127 0 = true from rfl) rfl)))) rfl rfl f25 rfl sz30 rfl rfl hsp fun h28 u28 => ?_
      replace f25 := u28.has f25
      replace f0 := f0.upd u28 (by omega)
      replace f4 := f4.upd u28 (by omega)
      replace f7 := f7.upd u28 (by omega)
      replace f21 := f21.upd u28 (by omega)
      first | replace e0 := e0.upd u28 (by omega) | clear e0
      refine ⟨recheck_nil, ?_⟩
      refine GoE.end rfl ?_
      refine Go.seq noJ_ok ?_
      refine Go.region noJ_ok rfl ?_
      refine GoR.op rfl rfl (ld27 rfl f21 rfl) rfl ?_
      refine GoR.op rfl rfl rfl rfl ?_
      refine GoR.call rfl rfl (aOp_callFunc aFunc14 rfl) (hra _ (hXA _ e0 f25)) ?_ (by rintro _ _ ⟨q, _⟩; cases q)
      rintro v29 h29 ⟨q, x29⟩
      cases q
      refine ⟨_, rfl, ?_⟩
      replace f25 := f25.ext x29
      replace f0 := f0.ext x29
      replace f4 := f4.ext x29
      replace f7 := f7.ext x29
      replace f21 := f21.ext x29
      replace e0 := e0.trans x29
      iterate 3 refine GoR.op rfl rfl rfl rfl ?_
      refine GoR.alloc rfl rfl rfl zt30 rfl rfl fun h30 x30 f30 => ?_
      have := e0.1
      have := f25.1
      have := f0.1
      have := f4.1
      have := f7.1
      have := f21.1
      replace f25 := f25.ext x30
      replace f0 := f0.ext x30
      replace f4 := f4.ext x30
      replace f7 := f7.ext x30
      replace f21 := f21.ext x30
      replace e0 := e0.trans x30
      have := f30.1
      refine GoR.store rfl rfl rfl rfl rfl rfl f30 rfl sz30 rfl rfl rfl fun h31 u31 => ?_
      replace f30 := u31.has f30
      replace f25 := f25.upd u31 (by omega)
      replace f0 := f0.upd u31 (by omega)
      replace f4 := f4.upd u31 (by omega)
      replace f7 := f7.upd u31 (by omega)
      replace f21 := f21.upd u31 (by omega)
      first | replace e0 := e0.upd u31 (by omega) | clear e0
      refine GoR.op rfl rfl rfl rfl ?_
      refine GoR.end ?_
      refine Go.seq noJ_ok ?_
      refine Go.drawnE plan5_2 ?_
      refine GoE.quiet rfl rfl rfl rfl ?_
      refine GoE.quiet rfl rfl (aOp_neq rfl rfl (r := true) (decide_eq_false (by omega))) rfl ?_
      iterate 2 refine GoE.quiet rfl rfl rfl rfl ?_
      refine GoE.quiet rfl rfl (aOp_neq rfl rfl (r := false) (decide_eq_true (by omega))) rfl ?_
      iterate 3 refine GoE.quiet rfl rfl rfl rfl ?_
      refine GoE.quiet rfl rfl (aOp_eql rfl rfl (r := false) (decide_eq_false (by omega))) rfl ?_
      refine GoE.quiet rfl rfl rfl rfl ?_
      iterate 11 refine GoE.skip rfl rfl rfl ?_
      iterate 4 refine GoE.quiet rfl rfl rfl rfl ?_
      refine GoE.quiet rfl rfl (aOp_neq rfl rfl (r := true) (decide_eq_false (by omega))) rfl ?_
      iterate 2 refine GoE.quiet rfl rfl rfl rfl ?_
      refine GoE.quiet rfl rfl (fa30_0 rfl) rfl ?_
      refine GoE.quiet rfl rfl (ld3 rfl f7 rfl) rfl ?_
      refine GoE.quiet rfl rfl (aOp_eql rfl rfl (r := false) (decide_eq_false (by omega))) rfl ?_
      iterate 2 refine GoE.quiet rfl rfl rfl rfl ?_
      refine GoE.quiet rfl rfl (fa30_1 rfl) rfl ?_
      refine GoE.quiet rfl rfl (ld3 rfl f7 rfl) rfl ?_
      refine GoE.quiet rfl rfl (aOp_eql rfl rfl (r := false) (decide_eq_false (by omega))) rfl ?_
      iterate 3 refine GoE.quiet rfl rfl rfl rfl ?_
      refine GoE.end rfl ?_
      refine Go.cond noJ_ok (b := false) rfl ?_
      refine Go.code noJ_ok ?_
      refine Go.inBlock noJ_ok ?_
      refine Go.region noJ_ok rfl ?_
      refine GoR.op rfl rfl rfl rfl ?_
      refine GoR.op rfl rfl (aOp_add rfl rfl (by constructor <;> omega) rfl) rfl ?_
      refine GoR.op rfl rfl rfl rfl ?_
      refine GoR.end ?_
      exact again (m - 1) (cv + 1) _ _ (by omega) ⟨rfl, rfl, rfl, rfl, rfl, rfl, trivial⟩ ⟨by omega, by omega, e0, f0, f4, f7⟩
  · clear again
    by_cases hn5 : F.looks.length = 5
    · iterate 2 refine Go.seq noJ_ok ?_
      refine Go.region noJ_ok rfl ?_
      refine GoR.op rfl rfl rfl rfl ?_
      refine GoR.op rfl rfl (fa27_1 rfl) rfl ?_
      refine GoR.op rfl rfl (ld23 rfl f0 rfl) rfl ?_
      refine GoR.op rfl rfl rfl rfl ?_
      refine GoR.op rfl rfl (aOp_indexAddr Try.underlying23 sz30 rfl q1 rfl (Nat.ble_eq_true_of_le hd2)) rfl ?_
      refine GoR.op rfl rfl (fa30_1 rfl) rfl ?_
      refine GoR.op rfl rfl (aOp_loadE1 (k := 1) ag3 rfl (q3 _ e0) rfl) rfl ?_
      refine GoR.op rfl rfl (aOp_leq rfl rfl (r := false) (decide_eq_false (by omega))) rfl ?_
      refine GoR.end ?_
      refine Go.cond noJ_ok (b := false) rfl ?_
      refine Go.code noJ_ok ?_
      iterate 2 refine Go.seq noJ_ok ?_
      refine Go.region noJ_ok rfl ?_
      refine GoR.op rfl rfl (fa27_4 rfl) rfl ?_
      refine GoR.op rfl rfl (ld25 rfl f0 rfl) rfl ?_
      refine GoR.op rfl rfl (aOp_lenSlice Try.underlying25 rfl hl3) rfl ?_
      refine GoR.op rfl rfl (aOp_eql rfl rfl (r := true) (decide_eq_true (by omega))) rfl ?_
      refine GoR.end ?_
      refine Go.cond noJ_ok (b := true) rfl ?_
      refine Go.seq noJ_ok ?_
      refine Go.region JA_ok rfl ?_
      refine GoR.jump JA_ok rfl rfl (aOp_callFunc aFunc21 rfl) (v := .bool true) rfl rfl ?_
      refine GoR.op rfl rfl rfl rfl ?_
      refine GoR.end ?_
      exact Go.ret noJ_ok (ret_end (aResult_of Try.func5 rfl rfl) ⟨rfl, e0⟩)
    · iterate 2 refine Go.seq noJ_ok ?_
      refine Go.region noJ_ok rfl ?_
      refine GoR.op rfl rfl rfl rfl ?_
      refine GoR.op rfl rfl (fa27_1 rfl) rfl ?_
      refine GoR.op rfl rfl (ld23 rfl f0 rfl) rfl ?_
      refine GoR.op rfl rfl rfl rfl ?_
      refine GoR.op rfl rfl (aOp_indexAddr Try.underlying23 sz30 rfl q1 rfl (Nat.ble_eq_true_of_le hd2)) rfl ?_
      refine GoR.op rfl rfl (fa30_1 rfl) rfl ?_
      refine GoR.op rfl rfl (aOp_loadE1 (k := 1) ag3 rfl (q3 _ e0) rfl) rfl ?_
      refine GoR.op rfl rfl (aOp_leq rfl rfl (r := false) (decide_eq_false (by omega))) rfl ?_
      refine GoR.end ?_
      refine Go.cond noJ_ok (b := false) rfl ?_
      refine Go.code noJ_ok ?_
      iterate 2 refine Go.seq noJ_ok ?_
      refine Go.region noJ_ok rfl ?_
      refine GoR.op rfl rfl (fa27_4 rfl) rfl ?_
      refine GoR.op rfl rfl (ld25 rfl f0 rfl) rfl ?_
      refine GoR.op rfl rfl (aOp_lenSlice Try.underlying25 rfl hl3) rfl ?_
      refine GoR.op rfl rfl (aOp_eql rfl rfl (r := false) (decide_eq_false (by omega))) rfl ?_
      refine GoR.end ?_
      refine Go.cond noJ_ok (b := false) rfl ?_
      refine Go.code noJ_ok ?_
      iterate 2 refine Go.seq noJ_ok ?_
      refine Go.region noJ_ok rfl ?_
      refine GoR.op rfl rfl (fa30_0 rfl) rfl ?_
      refine GoR.op rfl rfl (ld3 rfl f4 rfl) rfl ?_
      refine GoR.op rfl rfl (aOp_sub rfl rfl (by constructor <;> omega) rfl) rfl ?_
      refine GoR.op rfl rfl (fa30_0 rfl) rfl ?_
      refine GoR.op rfl rfl (ld3 rfl f4 rfl) rfl ?_
      refine GoR.op rfl rfl (fa30_1 rfl) rfl ?_
      refine GoR.op rfl rfl (ld3 rfl f4 rfl) rfl ?_
      refine GoR.op rfl rfl (fa30_1 rfl) rfl ?_
      refine GoR.op rfl rfl (ld3 rfl f4 rfl) rfl ?_
      refine GoR.op rfl rfl (aOp_add rfl rfl (by constructor <;> omega) rfl) rfl ?_
      refine GoR.buildSl rfl rfl (ps := [(0, .int .i64 (wlo - 1)), (1, .int .i64 wlo), (2, .int .i64 whi), (3, .int .i64 (whi + 1))]) (cs := [.int .i64 (wlo - 1), .int .i64 wlo, .int .i64 whi, .int .i64 (whi + 1)]) Try.underlying50 rfl sz3 zt3 rfl rfl rfl rfl fun h21 x21 f21 => ?_
      have := e0.1
      have := f0.1
      have := f4.1
      have := f7.1
      replace f0 := f0.ext x21
      replace f4 := f4.ext x21
      replace f7 := f7.ext x21
      replace e0 := e0.trans x21
      have := f21.1
      refine GoR.op rfl rfl (aOp_lenSlice Try.underlying50 rfl (n := 4) rfl) rfl ?_
      refine GoR.op rfl rfl rfl rfl ?_
      refine GoR.end ?_
      refine Go.block noJ_ok ?_
      have m20 := f21.1
      have l4 := f4.1
      have l0 := f0.1
      refine Go.loopKeep (fun k : Nat => [(3, .ptr h.next 0), (11, .int .i64 (i : Nat)), (12, .int .i64 (d : Nat)), (13, .ptr h3.next 0), (275, .slice h20.next 0 4 4), (276, .int .i64 (4 : Nat)), (277, .int .i64 (k : Nat))]) (fun m k h' => m + k = 4 ∧ Ext h h' ∧ Has h' h.next (.cells .plain [hsl, rsl, .int .i64 F.a, .int .i64 F.b, .int .i64 F.c, .int .i64 F.lim, lsl] 27) ∧ Has h' h3.next (.cells .plain [.int .i64 wlo, .int .i64 whi] 30) ∧ Has h' h20.next (.cells .plain [.int .i64 (wlo - 1), .int .i64 wlo, .int .i64 whi, .int .i64 (whi + 1)] 3)) (n := 4) 0 ⟨rfl, rfl, rfl, rfl, rfl, rfl, rfl, trivial⟩ ⟨rfl, e0, f0, f4, f21⟩ ?_
      clear e0 f0 f4 f7 f21
      rintro m2 k h30 ⟨hm2, e0, f0, f4, f21⟩ again
      by_cases hk : k < 4
      · obtain ⟨cv, hcv, hld⟩ : ∃ cv, ((k = 0 ∧ cv = wlo - 1) ∨ (k = 1 ∧ cv = wlo) ∨ (k = 2 ∧ cv = whi) ∨ (k = 3 ∧ cv = whi + 1)) ∧ [AVal.int .i64 (wlo - 1), .int .i64 wlo, .int .i64 whi, .int .i64 (whi + 1)][0 + k * 1]? = some (.int .i64 cv) := by
          have : k = 0 ∨ k = 1 ∨ k = 2 ∨ k = 3 := by omega
          rcases this with rfl | rfl | rfl | rfl
          · exact ⟨_, .inl ⟨rfl, rfl⟩, rfl⟩
          · exact ⟨_, .inr (.inl ⟨rfl, rfl⟩), rfl⟩
          · exact ⟨_, .inr (.inr (.inl ⟨rfl, rfl⟩)), rfl⟩
          · exact ⟨_, .inr (.inr (.inr ⟨rfl, rfl⟩)), rfl⟩
        by_cases hin : 0 ≤ cv ∧ cv ≤ 100
        · have OY := withV_ok (i := i) (d := d) (c := cv) O hi2 hd2 hin (by omega)
          have hYe := withV_ents O hi2 OY (d := d) (c := cv)
          have hwi := fun h' A => with28_ok (F := F) hsl rsl lsl ⟨(i : Nat), (d : Nat), cv, cv⟩ (by omega) h' A
          have hYA : ∀ s h', Ext h h' → SliceOf h' 4 s ((F.looks ++ [(⟨(i : Nat), (d : Nat), cv, cv⟩ : LookV)]).map LookV.cells) → FieldAt h' (F.withV i d cv) hsl rsl s := fun s h' e hs => ⟨A.hs.ext e, A.rs.ext e, hs⟩
          obtain ⟨a, b, er, hab, hWY⟩ : ∃ a b er : Int, ((F.val i d cv ∧ a = cv ∧ b = cv ∧ er = 0) ∨ (¬ F.val i d cv ∧ a = 0 ∧ b = 0 ∧ er = 10)) ∧ ∀ s h', FieldAt h' (F.withV i d cv) hsl rsl s →
              Runs Try.prog 13 [.agg [hsl, rsl, .int .i64 F.a, .int .i64 F.b, .int .i64 F.c, .int .i64 F.lim, s], .int .i64 (i : Nat), .int .i64 (d : Nat)] h' (fun en h2 => en = .ret (.tuple [.agg [.int .i64 a, .int .i64 b], .int .i64 er]) ∧ Ext h' h2) := by
            by_cases hval : F.val i d cv
            · refine ⟨cv, cv, 0, .inl ⟨hval, rfl, rfl, rfl⟩, fun s h' AY => ?_⟩
              have := Wet_yes OY (hYe.2 hval) hsl rsl s i hi2 d hd2 h' AY
              rw [withV_wet O hi2 hd2 OY (hYe.2 hval)] at this
              exact this
            · have hY0 : (F.withV i d cv).ents = [] := by
                cases z : (F.withV i d cv).ents with
                | nil => rfl
                | cons x xs => exact absurd (hYe.1 (by rw [z]; simp)) hval
              exact ⟨0, 0, 10, .inr ⟨hval, rfl, rfl, rfl⟩, fun s h' AY => Wet_no OY hY0 hsl rsl s i d hi2 hd2 h' AY⟩
          have hsm := cells_same A
          unfold FieldV.cells fieldC at hwi hsm
          unfold LookV.cells at hwi
          dsimp only at hwi
          have hin27 := fun r hr h => inside27_ok cv wlo whi (r := r) hr h
          refine Go.seq noJ_ok ?_
          refine Go.region noJ_ok rfl ?_
          refine GoR.op rfl rfl (aOp_lss rfl rfl (r := true) (decide_eq_true (by omega))) rfl ?_
          refine GoR.end ?_
          refine Go.seq noJ_ok ?_
          refine Go.cond noJ_ok (b := true) rfl ?_
          refine Go.code noJ_ok ?_
          refine Go.seq noJ_ok ?_
          refine Go.block noJ_ok ?_
          refine Go.seq noJ_ok ?_
          refine Go.region noJ_ok rfl ?_
          refine GoR.op rfl rfl (aOp_indexAddr Try.underlying50 sz3 rfl (b := h20.next) (off := 0) rfl rfl (Nat.ble_eq_true_of_le hk)) rfl ?_
          refine GoR.op rfl rfl (ld3 rfl f21 hld) rfl ?_
          refine GoR.op rfl rfl rfl rfl ?_
          refine GoR.end ?_
          iterate 2 refine Go.seq noJ_ok ?_
          refine Go.region noJ_ok rfl ?_
          refine GoR.op rfl rfl rfl rfl ?_
          refine GoR.op rfl rfl (aOp_lss rfl rfl (r := false) (decide_eq_false (by omega))) rfl ?_
          iterate 2 refine GoR.op rfl rfl rfl rfl ?_
          refine GoR.op rfl rfl (aOp_gtr rfl rfl (r := false) (decide_eq_false (by omega))) rfl ?_
          refine GoR.op rfl rfl rfl rfl ?_
          refine GoR.end ?_
          refine Go.cond noJ_ok (b := false) rfl ?_
          refine Go.code noJ_ok ?_
          refine Go.seq noJ_ok ?_
          refine Go.join (fun bb : Nat => [(3, .ptr h.next 0), (11, .int .i64 (i : Nat)), (12, .int .i64 (d : Nat)), (13, .ptr h3.next 0), (35, .int .i64 cv), (36, .ptr bb 0), (37, .int .i64 er), (275, .slice h20.next 0 4 4), (276, .int .i64 (4 : Nat)), (277, .int .i64 (k : Nat))]) (fun bb h' => Ext h h' ∧ Has h' h.next (.cells .plain [hsl, rsl, .int .i64 F.a, .int .i64 F.b, .int .i64 F.c, .int .i64 F.lim, lsl] 27) ∧ Has h' h3.next (.cells .plain [.int .i64 wlo, .int .i64 whi] 30) ∧ Has h' h20.next (.cells .plain [.int .i64 (wlo - 1), .int .i64 wlo, .int .i64 whi, .int .i64 (whi + 1)] 3) ∧ Has h' bb (.cells .plain [.int .i64 a, .int .i64 b] 30)) ?_ ?_
          · intro k' done
            refine alts35 ?_ ?_ ?_ ?_
            · intro pl hpl
              rw [pl35a] at hpl
              cases hpl
              refine GoE.quiet rfl rfl (ld27 rfl f0 rfl) rfl ?_
              iterate 6 refine GoE.quiet rfl rfl rfl rfl ?_
              refine GoE.alloc rfl rfl zt30 (dropF_keep (show bit? 0 8 = false from rfl) (dropF_keep (show bit? 0 7 = false from rfl) (dropF_keep (show bit? 0 4 = false from rfl) (dropF_keep (show bit? 0 3 = false from rfl) (dropF_keep (show bit? 0 2 = false from rfl) (dropF_keep (show bit? 0 1 = false from rfl) (dropF_keep (show bit? 0 0 = false from rfl) rfl))))))) rfl rfl fun h31 x31 f31 => ?_
              have := e0.1
              have := f0.1
              have := f4.1
              have := f21.1
              replace f0 := f0.ext x31
              replace f4 := f4.ext x31
              replace f21 := f21.ext x31
              replace e0 := e0.trans x31
              have := f31.1
              refine ⟨(recheck_cons (h2 := h31) rfl (rfl) (by first | rfl | exact sameA_int _ _ | exact sameA_bool _ | exact sameA_agg2 _ _ | assumption | (simp [sameA, sameAs, eqI_eq]; done)) (recheck_cons (h2 := h31) rfl (rfl) (by first | rfl | exact sameA_int _ _ | exact sameA_bool _ | exact sameA_agg2 _ _ | assumption | (simp [sameA, sameAs, eqI_eq]; done)) (recheck_cons (h2 := h31) rfl (rfl) (by first | rfl | exact sameA_int _ _ | exact sameA_bool _ | exact sameA_agg2 _ _ | assumption | (simp [sameA, sameAs, eqI_eq]; done)) (recheck_cons (h2 := h31) rfl (rfl) (by first | rfl | exact sameA_int _ _ | exact sameA_bool _ | exact sameA_agg2 _ _ | assumption | (simp [sameA, sameAs, eqI_eq]; done)) (recheck_cons (h2 := h31) rfl (rfl) (by first | rfl | exact sameA_int _ _ | exact sameA_bool _ | exact sameA_agg2 _ _ | assumption | (simp [sameA, sameAs, eqI_eq]; done)) (recheck_cons (h2 := h31) rfl (rfl) (by first | rfl | exact sameA_int _ _ | exact sameA_bool _ | exact sameA_agg2 _ _ | assumption | (simp [sameA, sameAs, eqI_eq]; done)) (recheck_cons (h2 := h31) rfl (ld27 rfl f0 rfl) (by first | rfl | exact sameA_int _ _ | exact sameA_bool _ | exact sameA_agg2 _ _ | assumption | (simp [sameA, sameAs, eqI_eq]; done)) recheck_nil))))))), ?_⟩
              refine GoE.call rfl rfl (aOp_callFunc aFunc29 rfl) (look29_ok (i : Nat) (d : Nat) cv cv _) (dropF_keep (show bit? 8222 8 = false from rfl) (dropF_keep (show bit? 8222 7 = false from rfl) (dropF_drop (show bit? 8222 4 = true from rfl) (dropF_drop (show bit? 8222 3 = true from rfl) (dropF_drop (show bit? 8222 2 = true from rfl) (dropF_drop (show bit? 8222 1 = true from rfl) (dropF_keep (show bit? 8222 0 = false from rfl) rfl))))))) ?_ (by rintro _ _ ⟨q, _⟩; cases q)
              rintro v32 h32 ⟨q, x32⟩
              cases q
              replace f31 := f31.ext x32
              replace f0 := f0.ext x32
              replace f4 := f4.ext x32
              replace f21 := f21.ext x32
              replace e0 := e0.trans x32
              refine ⟨(recheck_cons (h2 := h32) rfl (rfl) (by first | rfl | exact sameA_int _ _ | exact sameA_bool _ | exact sameA_agg2 _ _ | assumption | (simp [sameA, sameAs, eqI_eq]; done)) (recheck_cons (h2 := h32) rfl (rfl) (by first | rfl | exact sameA_int _ _ | exact sameA_bool _ | exact sameA_agg2 _ _ | assumption | (simp [sameA, sameAs, eqI_eq]; done)) (recheck_cons (h2 := h32) rfl (ld27 rfl f0 rfl) (by first | rfl | exact sameA_int _ _ | exact sameA_bool _ | exact sameA_agg2 _ _ | assumption | (simp [sameA, sameAs, eqI_eq]; done)) recheck_nil))), _, rfl, ?_⟩
              refine GoE.call rfl rfl (aOp_callFunc aFunc28 rfl) (hwi _ (A.ext e0)) (dropF_keep (show bit? 8255 8 = false from rfl) (dropF_keep (show bit? 8255 7 = false from rfl) (dropF_drop (show bit? 8255 0 = true from rfl) rfl))) ?_ (by rintro _ _ ⟨s, q, _, hss⟩; cases q)
              rintro v33 h33 ⟨s, q, x33, hss⟩
              cases q
              have := e0.1
              replace f31 := f31.ext x33
              replace f0 := f0.ext x33
              replace f4 := f4.ext x33
              replace f21 := f21.ext x33
              replace e0 := e0.trans x33
              refine ⟨(recheck_cons (h2 := h33) rfl (rfl) (by first | rfl | exact sameA_int _ _ | exact sameA_bool _ | exact sameA_agg2 _ _ | assumption | (simp [sameA, sameAs, eqI_eq]; done)) (recheck_cons (h2 := h33) rfl (rfl) (by first | rfl | exact sameA_int _ _ | exact sameA_bool _ | exact sameA_agg2 _ _ | assumption | (simp [sameA, sameAs, eqI_eq]; done)) recheck_nil)), _, rfl, ?_⟩
              refine GoE.call rfl rfl (aOp_callFunc aFunc13 rfl) (hWY _ _ (hYA _ _ e0 hss)) (dropF_drop (show bit? 8703 8 = true from rfl) (dropF_drop (show bit? 8703 7 = true from rfl) rfl)) ?_ (by rintro _ _ ⟨q, _⟩; cases q)
              rintro v34 h34 ⟨q, x34⟩
              cases q
              replace f31 := f31.ext x34
              replace f0 := f0.ext x34
              replace f4 := f4.ext x34
              replace f21 := f21.ext x34
              replace e0 := e0.trans x34
              refine ⟨recheck_nil, _, rfl, ?_⟩
              iterate 3 refine GoE.quiet rfl rfl rfl rfl ?_
              refine GoE.store rfl rfl rfl rfl (dropF_keep (show bit? 12287 12 = false from rfl) (dropF_drop (show bit? 12287 11 = true from rfl) (dropF_drop (show bit? 12287 10 = true from rfl) rfl))) rfl rfl f31 rfl sz30 rfl rfl rfl fun h35 u35 => ?_
              replace f31 := u35.has f31
              replace f0 := f0.upd u35 (by omega)
              replace f4 := f4.upd u35 (by omega)
              replace f21 := f21.upd u35 (by omega)
              first | replace e0 := e0.upd u35 (by omega) | clear e0
              refine ⟨(recheck_cons (h2 := h35) rfl (rfl) (by first | rfl | exact sameA_int _ _ | exact sameA_bool _ | exact sameA_agg2 _ _ | assumption | (simp [sameA, sameAs, eqI_eq]; done)) recheck_nil), ?_⟩
              refine GoE.quiet rfl rfl rfl rfl ?_
              refine GoE.end rfl ?_
              exact done _ _ _ ⟨rfl, rfl, rfl, rfl, rfl, rfl, rfl, rfl, rfl, rfl, trivial⟩ ⟨e0, f0, f4, f21, by assumption⟩
            · intro pl hpl
              rw [pl35b] at hpl
              cases hpl
              refine GoE.quiet rfl rfl (ld27 rfl f0 rfl) rfl ?_
              iterate 6 refine GoE.quiet rfl rfl rfl rfl ?_
              refine GoE.call rfl rfl (aOp_callFunc aFunc29 rfl) (look29_ok (i : Nat) (d : Nat) cv cv _) (dropF_keep (show bit? 30 8 = false from rfl) (dropF_keep (show bit? 30 7 = false from rfl) (dropF_drop (show bit? 30 4 = true from rfl) (dropF_drop (show bit? 30 3 = true from rfl) (dropF_drop (show bit? 30 2 = true from rfl) (dropF_drop (show bit? 30 1 = true from rfl) (dropF_keep (show bit? 30 0 = false from rfl) rfl))))))) ?_ (by rintro _ _ ⟨q, _⟩; cases q)
              rintro v31 h31 ⟨q, x31⟩
              cases q
              replace f0 := f0.ext x31
              replace f4 := f4.ext x31
              replace f21 := f21.ext x31
              replace e0 := e0.trans x31
              refine ⟨(recheck_cons (h2 := h31) rfl (rfl) (by first | rfl | exact sameA_int _ _ | exact sameA_bool _ | exact sameA_agg2 _ _ | assumption | (simp [sameA, sameAs, eqI_eq]; done)) (recheck_cons (h2 := h31) rfl (rfl) (by first | rfl | exact sameA_int _ _ | exact sameA_bool _ | exact sameA_agg2 _ _ | assumption | (simp [sameA, sameAs, eqI_eq]; done)) (recheck_cons (h2 := h31) rfl (ld27 rfl f0 rfl) (by first | rfl | exact sameA_int _ _ | exact sameA_bool _ | exact sameA_agg2 _ _ | assumption | (simp [sameA, sameAs, eqI_eq]; done)) recheck_nil))), _, rfl, ?_⟩
              refine GoE.alloc rfl rfl zt30 (dropF_keep (show bit? 32 8 = false from rfl) (dropF_keep (show bit? 32 7 = false from rfl) (dropF_keep (show bit? 32 0 = false from rfl) rfl))) rfl rfl fun h32 x32 f32 => ?_
              have := e0.1
              have := f0.1
              have := f4.1
              have := f21.1
              replace f0 := f0.ext x32
              replace f4 := f4.ext x32
              replace f21 := f21.ext x32
              replace e0 := e0.trans x32
              have := f32.1
              refine ⟨(recheck_cons (h2 := h32) rfl (rfl) (by first | rfl | exact sameA_int _ _ | exact sameA_bool _ | exact sameA_agg2 _ _ | assumption | (simp [sameA, sameAs, eqI_eq]; done)) (recheck_cons (h2 := h32) rfl (rfl) (by first | rfl | exact sameA_int _ _ | exact sameA_bool _ | exact sameA_agg2 _ _ | assumption | (simp [sameA, sameAs, eqI_eq]; done)) (recheck_cons (h2 := h32) rfl (ld27 rfl f0 rfl) (by first | rfl | exact sameA_int _ _ | exact sameA_bool _ | exact sameA_agg2 _ _ | assumption | (simp [sameA, sameAs, eqI_eq]; done)) recheck_nil))), ?_⟩
              refine GoE.call rfl rfl (aOp_callFunc aFunc28 rfl) (hwi _ (A.ext e0)) (dropF_keep (show bit? 8255 8 = false from rfl) (dropF_keep (show bit? 8255 7 = false from rfl) (dropF_drop (show bit? 8255 0 = true from rfl) rfl))) ?_ (by rintro _ _ ⟨s, q, _, hss⟩; cases q)
              rintro v33 h33 ⟨s, q, x33, hss⟩
              cases q
              have := e0.1
              replace f32 := f32.ext x33
              replace f0 := f0.ext x33
              replace f4 := f4.ext x33
              replace f21 := f21.ext x33
              replace e0 := e0.trans x33
              refine ⟨(recheck_cons (h2 := h33) rfl (rfl) (by first | rfl | exact sameA_int _ _ | exact sameA_bool _ | exact sameA_agg2 _ _ | assumption | (simp [sameA, sameAs, eqI_eq]; done)) (recheck_cons (h2 := h33) rfl (rfl) (by first | rfl | exact sameA_int _ _ | exact sameA_bool _ | exact sameA_agg2 _ _ | assumption | (simp [sameA, sameAs, eqI_eq]; done)) recheck_nil)), _, rfl, ?_⟩
              refine GoE.call rfl rfl (aOp_callFunc aFunc13 rfl) (hWY _ _ (hYA _ _ e0 hss)) (dropF_drop (show bit? 8703 8 = true from rfl) (dropF_drop (show bit? 8703 7 = true from rfl) rfl)) ?_ (by rintro _ _ ⟨q, _⟩; cases q)
              rintro v34 h34 ⟨q, x34⟩
              cases q
              replace f32 := f32.ext x34
              replace f0 := f0.ext x34
              replace f4 := f4.ext x34
              replace f21 := f21.ext x34
              replace e0 := e0.trans x34
              refine ⟨recheck_nil, _, rfl, ?_⟩
              iterate 3 refine GoE.quiet rfl rfl rfl rfl ?_
              refine GoE.store rfl rfl rfl rfl (dropF_keep (show bit? 12287 12 = false from rfl) (dropF_drop (show bit? 12287 11 = true from rfl) (dropF_drop (show bit? 12287 10 = true from rfl) rfl))) rfl rfl f32 rfl sz30 rfl rfl rfl fun h35 u35 => ?_
              replace f32 := u35.has f32
              replace f0 := f0.upd u35 (by omega)
              replace f4 := f4.upd u35 (by omega)
              replace f21 := f21.upd u35 (by omega)
              first | replace e0 := e0.upd u35 (by omega) | clear e0
              refine ⟨(recheck_cons (h2 := h35) rfl (rfl) (by first | rfl | exact sameA_int _ _ | exact sameA_bool _ | exact sameA_agg2 _ _ | assumption | (simp [sameA, sameAs, eqI_eq]; done)) recheck_nil), ?_⟩
              refine GoE.quiet rfl rfl rfl rfl ?_
              refine GoE.end rfl ?_
              exact done _ _ _ ⟨rfl, rfl, rfl, rfl, rfl, rfl, rfl, rfl, rfl, rfl, trivial⟩ ⟨e0, f0, f4, f21, by assumption⟩
            · intro pl hpl
              rw [pl35c] at hpl
              cases hpl
              refine GoE.quiet rfl rfl (ld27 rfl f0 rfl) rfl ?_
              iterate 6 refine GoE.quiet rfl rfl rfl rfl ?_
              refine GoE.call rfl rfl (aOp_callFunc aFunc29 rfl) (look29_ok (i : Nat) (d : Nat) cv cv _) (dropF_keep (show bit? 30 8 = false from rfl) (dropF_keep (show bit? 30 7 = false from rfl) (dropF_drop (show bit? 30 4 = true from rfl) (dropF_drop (show bit? 30 3 = true from rfl) (dropF_drop (show bit? 30 2 = true from rfl) (dropF_drop (show bit? 30 1 = true from rfl) (dropF_keep (show bit? 30 0 = false from rfl) rfl))))))) ?_ (by rintro _ _ ⟨q, _⟩; cases q)
              rintro v31 h31 ⟨q, x31⟩
              cases q
              replace f0 := f0.ext x31
              replace f4 := f4.ext x31
              replace f21 := f21.ext x31
              replace e0 := e0.trans x31
              refine ⟨(recheck_cons (h2 := h31) rfl (rfl) (by first | rfl | exact sameA_int _ _ | exact sameA_bool _ | exact sameA_agg2 _ _ | assumption | (simp [sameA, sameAs, eqI_eq]; done)) (recheck_cons (h2 := h31) rfl (rfl) (by first | rfl | exact sameA_int _ _ | exact sameA_bool _ | exact sameA_agg2 _ _ | assumption | (simp [sameA, sameAs, eqI_eq]; done)) (recheck_cons (h2 := h31) rfl (ld27 rfl f0 rfl) (by first | rfl | exact sameA_int _ _ | exact sameA_bool _ | exact sameA_agg2 _ _ | assumption | (simp [sameA, sameAs, eqI_eq]; done)) recheck_nil))), _, rfl, ?_⟩
              refine GoE.call rfl rfl (aOp_callFunc aFunc28 rfl) (hwi _ (A.ext e0)) (dropF_keep (show bit? 63 8 = false from rfl) (dropF_keep (show bit? 63 7 = false from rfl) (dropF_drop (show bit? 63 0 = true from rfl) rfl))) ?_ (by rintro _ _ ⟨s, q, _, hss⟩; cases q)
              rintro v32 h32 ⟨s, q, x32, hss⟩
              cases q
              have := e0.1
              replace f0 := f0.ext x32
              replace f4 := f4.ext x32
              replace f21 := f21.ext x32
              replace e0 := e0.trans x32
              refine ⟨(recheck_cons (h2 := h32) rfl (rfl) (by first | rfl | exact sameA_int _ _ | exact sameA_bool _ | exact sameA_agg2 _ _ | assumption | (simp [sameA, sameAs, eqI_eq]; done)) (recheck_cons (h2 := h32) rfl (rfl) (by first | rfl | exact sameA_int _ _ | exact sameA_bool _ | exact sameA_agg2 _ _ | assumption | (simp [sameA, sameAs, eqI_eq]; done)) recheck_nil)), _, rfl, ?_⟩
              refine GoE.alloc rfl rfl zt30 (dropF_keep (show bit? 96 8 = false from rfl) (dropF_keep (show bit? 96 7 = false from rfl) rfl)) rfl rfl fun h33 x33 f33 => ?_
              have := e0.1
              have := f0.1
              have := f4.1
              have := f21.1
              replace f0 := f0.ext x33
              replace f4 := f4.ext x33
              replace f21 := f21.ext x33
              replace e0 := e0.trans x33
              have := f33.1
              refine ⟨(recheck_cons (h2 := h33) rfl (rfl) (by first | rfl | exact sameA_int _ _ | exact sameA_bool _ | exact sameA_agg2 _ _ | assumption | (simp [sameA, sameAs, eqI_eq]; done)) (recheck_cons (h2 := h33) rfl (rfl) (by first | rfl | exact sameA_int _ _ | exact sameA_bool _ | exact sameA_agg2 _ _ | assumption | (simp [sameA, sameAs, eqI_eq]; done)) recheck_nil)), ?_⟩
              refine GoE.call rfl rfl (aOp_callFunc aFunc13 rfl) (hWY _ _ (hYA _ _ e0 (hss.ext x33))) (dropF_drop (show bit? 8703 8 = true from rfl) (dropF_drop (show bit? 8703 7 = true from rfl) rfl)) ?_ (by rintro _ _ ⟨q, _⟩; cases q)
              rintro v34 h34 ⟨q, x34⟩
              cases q
              replace f33 := f33.ext x34
              replace f0 := f0.ext x34
              replace f4 := f4.ext x34
              replace f21 := f21.ext x34
              replace e0 := e0.trans x34
              refine ⟨recheck_nil, _, rfl, ?_⟩
              iterate 3 refine GoE.quiet rfl rfl rfl rfl ?_
              refine GoE.store rfl rfl rfl rfl (dropF_keep (show bit? 12287 12 = false from rfl) (dropF_drop (show bit? 12287 11 = true from rfl) (dropF_drop (show bit? 12287 10 = true from rfl) rfl))) rfl rfl f33 rfl sz30 rfl rfl rfl fun h35 u35 => ?_
              replace f33 := u35.has f33
              replace f0 := f0.upd u35 (by omega)
              replace f4 := f4.upd u35 (by omega)
              replace f21 := f21.upd u35 (by omega)
              first | replace e0 := e0.upd u35 (by omega) | clear e0
              refine ⟨(recheck_cons (h2 := h35) rfl (rfl) (by first | rfl | exact sameA_int _ _ | exact sameA_bool _ | exact sameA_agg2 _ _ | assumption | (simp [sameA, sameAs, eqI_eq]; done)) recheck_nil), ?_⟩
              refine GoE.quiet rfl rfl rfl rfl ?_
              refine GoE.end rfl ?_
              exact done _ _ _ ⟨rfl, rfl, rfl, rfl, rfl, rfl, rfl, rfl, rfl, rfl, trivial⟩ ⟨e0, f0, f4, f21, by assumption⟩
            · intro pl hpl
              rw [pl35d] at hpl
              cases hpl
              refine GoE.quiet rfl rfl (ld27 rfl f0 rfl) rfl ?_
              iterate 6 refine GoE.quiet rfl rfl rfl rfl ?_
              refine GoE.call rfl rfl (aOp_callFunc aFunc29 rfl) (look29_ok (i : Nat) (d : Nat) cv cv _) (dropF_keep (show bit? 30 8 = false from rfl) (dropF_keep (show bit? 30 7 = false from rfl) (dropF_drop (show bit? 30 4 = true from rfl) (dropF_drop (show bit? 30 3 = true from rfl) (dropF_drop (show bit? 30 2 = true from rfl) (dropF_drop (show bit? 30 1 = true from rfl) (dropF_keep (show bit? 30 0 = false from rfl) rfl))))))) ?_ (by rintro _ _ ⟨q, _⟩; cases q)
              rintro v31 h31 ⟨q, x31⟩
              cases q
              replace f0 := f0.ext x31
              replace f4 := f4.ext x31
              replace f21 := f21.ext x31
              replace e0 := e0.trans x31
              refine ⟨(recheck_cons (h2 := h31) rfl (rfl) (by first | rfl | exact sameA_int _ _ | exact sameA_bool _ | exact sameA_agg2 _ _ | assumption | (simp [sameA, sameAs, eqI_eq]; done)) (recheck_cons (h2 := h31) rfl (rfl) (by first | rfl | exact sameA_int _ _ | exact sameA_bool _ | exact sameA_agg2 _ _ | assumption | (simp [sameA, sameAs, eqI_eq]; done)) (recheck_cons (h2 := h31) rfl (ld27 rfl f0 rfl) (by first | rfl | exact sameA_int _ _ | exact sameA_bool _ | exact sameA_agg2 _ _ | assumption | (simp [sameA, sameAs, eqI_eq]; done)) recheck_nil))), _, rfl, ?_⟩
              refine GoE.call rfl rfl (aOp_callFunc aFunc28 rfl) (hwi _ (A.ext e0)) (dropF_keep (show bit? 63 8 = false from rfl) (dropF_keep (show bit? 63 7 = false from rfl) (dropF_drop (show bit? 63 0 = true from rfl) rfl))) ?_ (by rintro _ _ ⟨s, q, _, hss⟩; cases q)
              rintro v32 h32 ⟨s, q, x32, hss⟩
              cases q
              have := e0.1
              replace f0 := f0.ext x32
              replace f4 := f4.ext x32
              replace f21 := f21.ext x32
              replace e0 := e0.trans x32
              refine ⟨(recheck_cons (h2 := h32) rfl (rfl) (by first | rfl | exact sameA_int _ _ | exact sameA_bool _ | exact sameA_agg2 _ _ | assumption | (simp [sameA, sameAs, eqI_eq]; done)) (recheck_cons (h2 := h32) rfl (rfl) (by first | rfl | exact sameA_int _ _ | exact sameA_bool _ | exact sameA_agg2 _ _ | assumption | (simp [sameA, sameAs, eqI_eq]; done)) recheck_nil)), _, rfl, ?_⟩
              refine GoE.call rfl rfl (aOp_callFunc aFunc13 rfl) (hWY _ _ (hYA _ _ e0 hss)) (dropF_drop (show bit? 511 8 = true from rfl) (dropF_drop (show bit? 511 7 = true from rfl) rfl)) ?_ (by rintro _ _ ⟨q, _⟩; cases q)
              rintro v33 h33 ⟨q, x33⟩
              cases q
              replace f0 := f0.ext x33
              replace f4 := f4.ext x33
              replace f21 := f21.ext x33
              replace e0 := e0.trans x33
              refine ⟨recheck_nil, _, rfl, ?_⟩
              iterate 3 refine GoE.quiet rfl rfl rfl rfl ?_
              refine GoE.alloc rfl rfl zt30 (dropF_keep (show bit? 608 12 = false from rfl) (dropF_keep (show bit? 608 11 = false from rfl) (dropF_keep (show bit? 608 10 = false from rfl) rfl))) rfl rfl fun h34 x34 f34 => ?_
              have := e0.1
              have := f0.1
              have := f4.1
              have := f21.1
              replace f0 := f0.ext x34
              replace f4 := f4.ext x34
              replace f21 := f21.ext x34
              replace e0 := e0.trans x34
              have := f34.1
              refine ⟨(recheck_cons (h2 := h34) rfl (rfl) (by first | rfl | exact sameA_int _ _ | exact sameA_bool _ | exact sameA_agg2 _ _ | assumption | (simp [sameA, sameAs, eqI_eq]; done)) (recheck_cons (h2 := h34) rfl (rfl) (by first | rfl | exact sameA_int _ _ | exact sameA_bool _ | exact sameA_agg2 _ _ | assumption | (simp [sameA, sameAs, eqI_eq]; done)) (recheck_cons (h2 := h34) rfl (rfl) (by first | rfl | exact sameA_int _ _ | exact sameA_bool _ | exact sameA_agg2 _ _ | assumption | (simp [sameA, sameAs, eqI_eq]; done)) recheck_nil))), ?_⟩
              refine GoE.store rfl rfl rfl rfl (dropF_keep (show bit? 12287 12 = false from rfl) (dropF_drop (show bit? 12287 11 = true from rfl) (dropF_drop (show bit? 12287 10 = true from rfl) rfl))) rfl rfl f34 rfl sz30 rfl rfl rfl fun h35 u35 => ?_
              replace f34 := u35.has f34
              replace f0 := f0.upd u35 (by omega)
              replace f4 := f4.upd u35 (by omega)
              replace f21 := f21.upd u35 (by omega)
              first | replace e0 := e0.upd u35 (by omega) | clear e0
              refine ⟨(recheck_cons (h2 := h35) rfl (rfl) (by first | rfl | exact sameA_int _ _ | exact sameA_bool _ | exact sameA_agg2 _ _ | assumption | (simp [sameA, sameAs, eqI_eq]; done)) recheck_nil), ?_⟩
              refine GoE.quiet rfl rfl rfl rfl ?_
              refine GoE.end rfl ?_
              exact done _ _ _ ⟨rfl, rfl, rfl, rfl, rfl, rfl, rfl, rfl, rfl, rfl, trivial⟩ ⟨e0, f0, f4, f21, by assumption⟩
          clear e0 f0 f4 f21
          rintro bb h70 ⟨e0, f0, f4, f21, fb⟩
          rcases hab with ⟨hval, rfl, rfl, rfl⟩ | ⟨hval, rfl, rfl, rfl⟩
          · have hcb := hwe.1 _ hval
            have hne' : (!(b == b && b == b)) = false := by simp
            refine Go.seq noJ_ok ?_
            refine Go.drawnE plan5_4 ?_
            refine GoE.quiet rfl rfl rfl rfl ?_
            refine GoE.quiet rfl rfl (aOp_neq rfl rfl (r := false) (decide_eq_true (by omega))) rfl ?_
            refine GoE.quiet rfl rfl rfl rfl ?_
            iterate 2 refine GoE.skip rfl rfl rfl ?_
            iterate 3 refine GoE.quiet rfl rfl rfl rfl ?_
            refine GoE.quiet rfl rfl (aOp_eql rfl rfl (r := true) (decide_eq_true (by omega))) rfl ?_
            refine GoE.quiet rfl rfl rfl rfl ?_
            refine GoE.quiet rfl rfl (ld30 rfl f4 rfl) rfl ?_
            refine GoE.call rfl rfl (aOp_callFunc aFunc27 rfl) (hin27 true (decide_eq_true hcb) _) (dropF_drop (show bit? 1663 10 = true from rfl) (dropF_drop (show bit? 1663 9 = true from rfl) (dropF_keep (show bit? 1663 8 = false from rfl) (dropF_keep (show bit? 1663 7 = false from rfl) (dropF_drop (show bit? 1663 6 = true from rfl) (dropF_drop (show bit? 1663 5 = true from rfl) (dropF_drop (show bit? 1663 2 = true from rfl) (dropF_drop (show bit? 1663 1 = true from rfl) (dropF_drop (show bit? 1663 0 = true from rfl) rfl))))))))) ?_ (by rintro _ _ ⟨q, _⟩; cases q)
            rintro v71 h71 ⟨q, x71⟩
            cases q
            replace f0 := f0.ext x71
            replace f4 := f4.ext x71
            replace f21 := f21.ext x71
            replace fb := fb.ext x71
            replace e0 := e0.trans x71
            refine ⟨(recheck_cons (h2 := h71) rfl (aOp_eql rfl rfl (r := true) (decide_eq_true (by omega))) (by first | rfl | exact sameA_int _ _ | exact sameA_bool _ | exact sameA_agg2 _ _ | assumption | (simp [sameA, sameAs, eqI_eq]; done)) (recheck_cons (h2 := h71) rfl (rfl) (by first | rfl | exact sameA_int _ _ | exact sameA_bool _ | exact sameA_agg2 _ _ | assumption | (simp [sameA, sameAs, eqI_eq]; done)) recheck_nil)), _, rfl, ?_⟩
            refine GoE.quiet rfl rfl (aOp_neqBool rfl rfl Try.underlying4 rfl) rfl ?_
            iterate 3 refine GoE.quiet rfl rfl rfl rfl ?_
            refine GoE.quiet rfl rfl (aOp_eql rfl rfl (r := true) (decide_eq_true (by omega))) rfl ?_
            refine GoE.quiet rfl rfl rfl rfl ?_
            refine GoE.quiet rfl rfl (ld30 rfl fb rfl) rfl ?_
            iterate 2 refine GoE.quiet rfl rfl rfl rfl ?_
            refine GoE.call rfl rfl (aOp_callFunc aFunc11 rfl) (span11_ok b b _) (dropF_drop (show bit? 1835007 20 = true from rfl) (dropF_drop (show bit? 1835007 19 = true from rfl) (dropF_keep (show bit? 1835007 18 = false from rfl) (dropF_drop (show bit? 1835007 17 = true from rfl) (dropF_drop (show bit? 1835007 16 = true from rfl) (dropF_drop (show bit? 1835007 15 = true from rfl) (dropF_drop (show bit? 1835007 14 = true from rfl) (dropF_drop (show bit? 1835007 13 = true from rfl) (dropF_drop (show bit? 1835007 12 = true from rfl) (dropF_drop (show bit? 1835007 8 = true from rfl) (dropF_drop (show bit? 1835007 7 = true from rfl) rfl))))))))))) ?_ (by rintro _ _ ⟨q, _⟩; cases q)
            rintro v72 h72 ⟨q, x72⟩
            cases q
            replace f0 := f0.ext x72
            replace f4 := f4.ext x72
            replace f21 := f21.ext x72
            replace fb := fb.ext x72
            replace e0 := e0.trans x72
            refine ⟨(recheck_cons (h2 := h72) rfl (ld30 rfl fb rfl) (by first | rfl | exact sameA_int _ _ | exact sameA_bool _ | exact sameA_agg2 _ _ | assumption | (simp [sameA, sameAs, eqI_eq]; done)) recheck_nil), _, rfl, ?_⟩
            refine GoE.quiet rfl rfl (aOp_neqSpan spanT rfl rfl hne') rfl ?_
            iterate 2 refine GoE.quiet rfl rfl rfl rfl ?_
            refine GoE.end rfl ?_
            refine Go.cond noJ_ok (b := false) rfl ?_
            refine Go.code noJ_ok ?_
            refine Go.inBlock noJ_ok ?_
            refine Go.region noJ_ok rfl ?_
            refine GoR.op rfl rfl (aOp_add rfl rfl (by constructor <;> omega) rfl) rfl ?_
            refine GoR.op rfl rfl rfl rfl ?_
            refine GoR.end ?_
            exact again (m2 - 1) (k + 1) _ _ (by omega) ⟨rfl, rfl, rfl, rfl, rfl, rfl, rfl, trivial⟩ ⟨by omega, e0, f0, f4, f21⟩
          · have hno : ¬ (wlo ≤ cv ∧ cv ≤ whi) := by
              rintro ⟨z1, z2⟩
              rcases hcv with ⟨_, q⟩ | ⟨_, q⟩ | ⟨_, q⟩ | ⟨_, q⟩
              · omega
              · rw [q] at hval; exact hval hwe.2.1
              · rw [q] at hval; exact hval hwe.2.2
              · omega
            refine Go.seq noJ_ok ?_
            refine Go.drawnE plan5_4 ?_
            refine GoE.quiet rfl rfl rfl rfl ?_
            refine GoE.quiet rfl rfl (aOp_neq rfl rfl (r := true) (decide_eq_false (by omega))) rfl ?_
            iterate 2 refine GoE.quiet rfl rfl rfl rfl ?_
            refine GoE.quiet rfl rfl (aOp_neq rfl rfl (r := false) (decide_eq_true (by omega))) rfl ?_
            iterate 3 refine GoE.quiet rfl rfl rfl rfl ?_
            refine GoE.quiet rfl rfl (aOp_eql rfl rfl (r := false) (decide_eq_false (by omega))) rfl ?_
            refine GoE.quiet rfl rfl rfl rfl ?_
            refine GoE.quiet rfl rfl (ld30 rfl f4 rfl) rfl ?_
            refine GoE.call rfl rfl (aOp_callFunc aFunc27 rfl) (hin27 false (decide_eq_false hno) _) (dropF_drop (show bit? 1663 10 = true from rfl) (dropF_drop (show bit? 1663 9 = true from rfl) (dropF_keep (show bit? 1663 8 = false from rfl) (dropF_keep (show bit? 1663 7 = false from rfl) (dropF_drop (show bit? 1663 6 = true from rfl) (dropF_drop (show bit? 1663 5 = true from rfl) (dropF_drop (show bit? 1663 4 = true from rfl) (dropF_drop (show bit? 1663 3 = true from rfl) (dropF_drop (show bit? 1663 2 = true from rfl) (dropF_drop (show bit? 1663 1 = true from rfl) (dropF_drop (show bit? 1663 0 = true from rfl) rfl))))))))))) ?_ (by rintro _ _ ⟨q, _⟩; cases q)
            rintro v71 h71 ⟨q, x71⟩
            cases q
            replace f0 := f0.ext x71
            replace f4 := f4.ext x71
            replace f21 := f21.ext x71
            replace fb := fb.ext x71
            replace e0 := e0.trans x71
            refine ⟨(recheck_cons (h2 := h71) rfl (aOp_eql rfl rfl (r := false) (decide_eq_false (by omega))) (by first | rfl | exact sameA_int _ _ | exact sameA_bool _ | exact sameA_agg2 _ _ | assumption | (simp [sameA, sameAs, eqI_eq]; done)) (recheck_cons (h2 := h71) rfl (rfl) (by first | rfl | exact sameA_int _ _ | exact sameA_bool _ | exact sameA_agg2 _ _ | assumption | (simp [sameA, sameAs, eqI_eq]; done)) recheck_nil)), _, rfl, ?_⟩
            refine GoE.quiet rfl rfl (aOp_neqBool rfl rfl Try.underlying4 rfl) rfl ?_
            iterate 3 refine GoE.quiet rfl rfl rfl rfl ?_
            refine GoE.quiet rfl rfl (aOp_eql rfl rfl (r := false) (decide_eq_false (by omega))) rfl ?_
            refine GoE.quiet rfl rfl rfl rfl ?_
            iterate 5 refine GoE.skip rfl rfl rfl ?_
            iterate 2 refine GoE.quiet rfl rfl rfl rfl ?_
            refine GoE.end rfl ?_
            refine Go.cond noJ_ok (b := false) rfl ?_
            refine Go.code noJ_ok ?_
            refine Go.inBlock noJ_ok ?_
            refine Go.region noJ_ok rfl ?_
            refine GoR.op rfl rfl (aOp_add rfl rfl (by constructor <;> omega) rfl) rfl ?_
            refine GoR.op rfl rfl rfl rfl ?_
            refine GoR.end ?_
            exact again (m2 - 1) (k + 1) _ _ (by omega) ⟨rfl, rfl, rfl, rfl, rfl, rfl, rfl, trivial⟩ ⟨by omega, e0, f0, f4, f21⟩
        · by_cases hneg : cv < 0
          · refine Go.seq noJ_ok ?_
            refine Go.region noJ_ok rfl ?_
            refine GoR.op rfl rfl (aOp_lss rfl rfl (r := true) (decide_eq_true (by omega))) rfl ?_
            refine GoR.end ?_
            refine Go.seq noJ_ok ?_
            refine Go.cond noJ_ok (b := true) rfl ?_
            refine Go.code noJ_ok ?_
            refine Go.seq noJ_ok ?_
            refine Go.block noJ_ok ?_
            refine Go.seq noJ_ok ?_
            refine Go.region noJ_ok rfl ?_
            refine GoR.op rfl rfl (aOp_indexAddr Try.underlying50 sz3 rfl (b := h20.next) (off := 0) rfl rfl (Nat.ble_eq_true_of_le hk)) rfl ?_
            refine GoR.op rfl rfl (ld3 rfl f21 hld) rfl ?_
            refine GoR.op rfl rfl rfl rfl ?_
            refine GoR.end ?_
            iterate 2 refine Go.seq noJ_ok ?_
            refine Go.region noJ_ok rfl ?_
            refine GoR.op rfl rfl rfl rfl ?_
            refine GoR.op rfl rfl (aOp_lss rfl rfl (r := true) (decide_eq_true (by omega))) rfl ?_
            refine GoR.op rfl rfl rfl rfl ?_
            iterate 2 refine GoR.skip rfl rfl rfl ?_
            refine GoR.op rfl rfl rfl rfl ?_
            refine GoR.end ?_
            refine Go.cond noJ_ok (b := true) rfl ?_
            refine Go.code noJ_ok ?_
            refine Go.region noJ_ok rfl ?_
            refine GoR.op rfl rfl (aOp_add rfl rfl (by constructor <;> omega) rfl) rfl ?_
            refine GoR.op rfl rfl rfl rfl ?_
            refine GoR.end ?_
            exact again (m2 - 1) (k + 1) _ _ (by omega) ⟨rfl, rfl, rfl, rfl, rfl, rfl, rfl, trivial⟩ ⟨by omega, e0, f0, f4, f21⟩
          · refine Go.seq noJ_ok ?_
            refine Go.region noJ_ok rfl ?_
            refine GoR.op rfl rfl (aOp_lss rfl rfl (r := true) (decide_eq_true (by omega))) rfl ?_
            refine GoR.end ?_
            refine Go.seq noJ_ok ?_
            refine Go.cond noJ_ok (b := true) rfl ?_
            refine Go.code noJ_ok ?_
            refine Go.seq noJ_ok ?_
            refine Go.block noJ_ok ?_
            refine Go.seq noJ_ok ?_
            refine Go.region noJ_ok rfl ?_
            refine GoR.op rfl rfl (aOp_indexAddr Try.underlying50 sz3 rfl (b := h20.next) (off := 0) rfl rfl (Nat.ble_eq_true_of_le hk)) rfl ?_
            refine GoR.op rfl rfl (ld3 rfl f21 hld) rfl ?_
            refine GoR.op rfl rfl rfl rfl ?_
            refine GoR.end ?_
            iterate 2 refine Go.seq noJ_ok ?_
            refine Go.region noJ_ok rfl ?_
            refine GoR.op rfl rfl rfl rfl ?_
            refine GoR.op rfl rfl (aOp_lss rfl rfl (r := false) (decide_eq_false (by omega))) rfl ?_
            iterate 2 refine GoR.op rfl rfl rfl rfl ?_
            refine GoR.op rfl rfl (aOp_gtr rfl rfl (r := true) (decide_eq_true (by omega))) rfl ?_
            refine GoR.op rfl rfl rfl rfl ?_
            refine GoR.end ?_
            refine Go.cond noJ_ok (b := true) rfl ?_
            refine Go.code noJ_ok ?_
            refine Go.region noJ_ok rfl ?_
            refine GoR.op rfl rfl (aOp_add rfl rfl (by constructor <;> omega) rfl) rfl ?_
            refine GoR.op rfl rfl rfl rfl ?_
            refine GoR.end ?_
            exact again (m2 - 1) (k + 1) _ _ (by omega) ⟨rfl, rfl, rfl, rfl, rfl, rfl, rfl, trivial⟩ ⟨by omega, e0, f0, f4, f21⟩
      · refine Go.seq noJ_ok ?_
        refine Go.region noJ_ok rfl ?_
        refine GoR.op rfl rfl (aOp_lss rfl rfl (r := false) (decide_eq_false (by omega))) rfl ?_
        refine GoR.end ?_
        refine Go.seq noJ_ok ?_
        refine Go.cond noJ_ok (b := false) rfl ?_
        refine Go.code noJ_ok ?_
        refine Go.seq noJ_ok ?_
        refine Go.region JA_ok rfl ?_
        refine GoR.jump JA_ok rfl rfl (aOp_callFunc aFunc21 rfl) (v := .bool true) rfl rfl ?_
        refine GoR.op rfl rfl rfl rfl ?_
        refine GoR.end ?_
        exact Go.ret noJ_ok (ret_end (aResult_of Try.func5 rfl rfl) ⟨rfl, e0⟩)
end Go.Proofs.Ytmdheijpnlonoaa
