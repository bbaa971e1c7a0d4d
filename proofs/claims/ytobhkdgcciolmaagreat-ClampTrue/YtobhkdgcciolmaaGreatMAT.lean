import Derived.Test.YtobhkdgcciolmaaGreatMAS
import Derived.Test.YtobhkdgcciolmaaGreatMAR
import Derived.Test.YtobhkdgcciolmaaGreatMAI
namespace Go.Proofs.YtobhkdgcciolmaaGreat
open Go Go.AbsE
set_option linter.unusedSimpArgs false
set_option maxRecDepth 100000
set_option maxHeartbeats 0
set_option linter.unusedVariables false
noncomputable def opsE5 : Array Oper := ((drawnOps Tryz.f5)[0]?).getD #[]
theorem befsE5 : befs0 opsE5 = [0, 0, 2, 7, 15, 31, 31, 31, 31, 0, 575, 1663, 3839, 8191] := by kernel_rfl
theorem sizeE5 : opsE5.size = 14 := by kernel_rfl
theorem plE5_2_3_9 : planX opsE5 [0, 0, 2, 7, 15, 31, 31, 31, 31, 15, 575, 1663, 3839, 8191] [0, 1, 2, 3, 4, 5, 6, 7, 8, 9, 10, 11, 12, 13] = some (mkPlan opsE5.toList [(0, 0, true, false), (1, 0, true, false), (2, 2, false, false), (3, 7, false, false), (4, 15, true, false), (5, 31, true, false), (6, 31, true, false), (7, 31, true, false), (8, 31, true, false), (9, 15, false, false), (10, 575, false, false), (11, 1663, true, false), (12, 3839, true, false), (13, 8191, true, false)]) := by kernel_rfl
theorem plE5_2_9_3 : planX opsE5 [0, 0, 2, 519, 527, 543, 543, 543, 543, 6, 575, 1663, 3839, 8191] [0, 1, 2, 9, 3, 4, 5, 6, 7, 8, 10, 11, 12, 13] = some (mkPlan opsE5.toList [(0, 0, true, false), (1, 0, true, false), (2, 2, false, false), (9, 6, false, false), (3, 519, false, false), (4, 527, true, false), (5, 543, true, false), (6, 543, true, false), (7, 543, true, false), (8, 543, true, false), (10, 575, false, false), (11, 1663, true, false), (12, 3839, true, false), (13, 8191, true, false)]) := by kernel_rfl
theorem plE5_9_2_3 : planX opsE5 [0, 0, 514, 519, 527, 543, 543, 543, 543, 0, 575, 1663, 3839, 8191] [0, 1, 9, 2, 3, 4, 5, 6, 7, 8, 10, 11, 12, 13] = some (mkPlan opsE5.toList [(0, 0, true, false), (1, 0, true, false), (9, 0, false, false), (2, 514, false, false), (3, 519, false, false), (4, 527, true, false), (5, 543, true, false), (6, 543, true, false), (7, 543, true, false), (8, 543, true, false), (10, 575, false, false), (11, 1663, true, false), (12, 3839, true, false), (13, 8191, true, false)]) := by kernel_rfl
theorem altsE5 {P : Program} {c : FC} {k : List AItem} {id : Nat} {t : Tr AVal} {h : AH} {Q : AM → Prop}
  (g2_3_9 : ∀ pl, planX opsE5 [0, 0, 2, 7, 15, 31, 31, 31, 31, 15, 575, 1663, 3839, 8191] [0, 1, 2, 3, 4, 5, 6, 7, 8, 9, 10, 11, 12, 13] = some pl → GoE P c k Q opsE5 pl (eraseT opsE5.toList t) [] t h)
  (g2_9_3 : ∀ pl, planX opsE5 [0, 0, 2, 519, 527, 543, 543, 543, 543, 6, 575, 1663, 3839, 8191] [0, 1, 2, 9, 3, 4, 5, 6, 7, 8, 10, 11, 12, 13] = some pl → GoE P c k Q opsE5 pl (eraseT opsE5.toList t) [] t h)
  (g9_2_3 : ∀ pl, planX opsE5 [0, 0, 514, 519, 527, 543, 543, 543, 543, 0, 575, 1663, 3839, 8191] [0, 1, 9, 2, 3, 4, 5, 6, 7, 8, 10, 11, 12, 13] = some pl → GoE P c k Q opsE5 pl (eraseT opsE5.toList t) [] t h) :
  Go P c (.code (.region id opsE5 true) :: k) t h Q := by
 refine Go.drawnX plE5_9_2_3 fun s hv => ?_
 have hb := fun i k hi hk => VB.before hv befsE5 i k (by rw [sizeE5]; exact hi) hk
 have h2_1 := hb 2 1 (by decide) (by decide)
 have h3_0 := hb 3 0 (by decide) (by decide)
 have h3_1 := hb 3 1 (by decide) (by decide)
 have h3_2 := hb 3 2 (by decide) (by decide)
 have h4_0 := hb 4 0 (by decide) (by decide)
 have h4_1 := hb 4 1 (by decide) (by decide)
 have h4_2 := hb 4 2 (by decide) (by decide)
 have h4_3 := hb 4 3 (by decide) (by decide)
 have h5_0 := hb 5 0 (by decide) (by decide)
 have h5_1 := hb 5 1 (by decide) (by decide)
 have h5_2 := hb 5 2 (by decide) (by decide)
 have h5_3 := hb 5 3 (by decide) (by decide)
 have h5_4 := hb 5 4 (by decide) (by decide)
 have h6_0 := hb 6 0 (by decide) (by decide)
 have h6_1 := hb 6 1 (by decide) (by decide)
 have h6_2 := hb 6 2 (by decide) (by decide)
 have h6_3 := hb 6 3 (by decide) (by decide)
 have h6_4 := hb 6 4 (by decide) (by decide)
 have h7_0 := hb 7 0 (by decide) (by decide)
 have h7_1 := hb 7 1 (by decide) (by decide)
 have h7_2 := hb 7 2 (by decide) (by decide)
 have h7_3 := hb 7 3 (by decide) (by decide)
 have h7_4 := hb 7 4 (by decide) (by decide)
 have h8_0 := hb 8 0 (by decide) (by decide)
 have h8_1 := hb 8 1 (by decide) (by decide)
 have h8_2 := hb 8 2 (by decide) (by decide)
 have h8_3 := hb 8 3 (by decide) (by decide)
 have h8_4 := hb 8 4 (by decide) (by decide)
 have d9_2 := VB.apart hv befsE5 9 2 (by rw [sizeE5]; decide) (by decide)
 have d9_3 := VB.apart hv befsE5 9 3 (by rw [sizeE5]; decide) (by decide)
 by_cases q9_2 : s.idxOf 9 < s.idxOf 2
 ·refine ⟨_, _, _, plE5_9_2_3, VB.alt hv befsE5 sizeE5 [(9, 2), (9, 3), (9, 4), (9, 5), (9, 6), (9, 7), (9, 8)] (by kernel_rfl) ?_, g9_2_3 _ plE5_9_2_3⟩
  intro e he
  simp only [List.mem_cons, List.not_mem_nil, or_false] at he
  rcases he with rfl | rfl | rfl | rfl | rfl | rfl | rfl <;> dsimp only <;> omega
 ·by_cases q9_3 : s.idxOf 9 < s.idxOf 3
  ·refine ⟨_, _, _, plE5_2_9_3, VB.alt hv befsE5 sizeE5 [(9, 3), (9, 4), (9, 5), (9, 6), (9, 7), (9, 8), (1, 9), (2, 9)] (by kernel_rfl) ?_, g2_9_3 _ plE5_2_9_3⟩
   intro e he
   simp only [List.mem_cons, List.not_mem_nil, or_false] at he
   rcases he with rfl | rfl | rfl | rfl | rfl | rfl | rfl | rfl <;> dsimp only <;> omega
  ·refine ⟨_, _, _, plE5_2_3_9, VB.alt hv befsE5 sizeE5 [(0, 9), (1, 9), (2, 9), (3, 9)] (by kernel_rfl) ?_, g2_3_9 _ plE5_2_3_9⟩
   intro e he
   simp only [List.mem_cons, List.not_mem_nil, or_false] at he
   rcases he with rfl | rfl | rfl | rfl <;> dsimp only <;> omega
theorem sumTo_lt {f : Nat → Int} : ∀ {n : Nat}, (∀ i, i < n → 0 ≤ f i ∧ f i ≤ 5000) → 0 ≤ sumTo f n ∧ sumTo f n ≤ 5000 * (n : Int)
 | 0, _ => by
  unfold sumTo
  omega
 | n + 1, h => by
  have := sumTo_lt (n := n) fun i hi => h i (by omega)
  have := h n (by omega)
  unfold sumTo
  omega
theorem sumS_lt {s : Nat} {f : Nat → Int} : ∀ {n : Nat}, (∀ i, i < n → 0 ≤ f i ∧ f i ≤ 5000) → 0 ≤ sumS s f n ∧ sumS s f n ≤ 5000 * (n : Int)
 | 0, _ => by
  unfold sumS
  omega
 | n + 1, h => by
  have := sumS_lt (s := s) (n := n) fun i hi => h i (by omega)
  have := h n (by omega)
  unfold sumS
  split <;> omega
theorem law5_bad {C : ClampV} {p e qv : AVal} {h : AH} (A : ClampAt h C p e) (hb : C.ps.length < 9223372036854775808 ∧ C.es.length < 9223372036854775808) {w2 : Int} (O : ¬ C.Ok) : Runs Tryz.prog 5 [.agg (C.cells p e), qv, .int .u16 w2] h (fun en h' => en = .ret (.bool true) ∧ Ext h h') := by
 have hL := fun {h'} (e : Ext h h') => long29_ok (A.ext e) hb.1 hb.2
 by_cases hs : C.ps.length ≤ 40 ∧ C.es.length ≤ 40
 ·rw [decide_eq_false (by omega)] at hL
  have hR := fun {h'} (e : Ext h h') => Clamp30_ok (A.ext e) ⟨hs.1, hs.2⟩
  rw [decide_eq_false O] at hR
  unfold ClampV.cells at *
  have e0 : Ext h h := Ext.refl _
  refine Runs.intro aFunc5 rfl rfl rfl rfl fun rest => ?_;apply gS;refine gR rfl ?_;refine GoR.box rfl rfl rfl rfl rfl rfl fun h0 x0 f0 => ?_;replace e0 := e0.trans x0;refine gP ?_;apply gE;iterate 2 apply gS
  refine gR rfl ?_;refine gO rfl rfl (ld27 rfl f0 rfl) rfl ?_;refine GoR.call rfl rfl (aCF aFunc29 rfl) (hL e0) ?_ np;rintro v1 h1 ⟨q, x1⟩;cases q;refine ⟨_, rfl, ?_⟩;replace f0 := f0.ext x1;replace e0 := e0.trans x1;refine gP ?_;refine gO rfl rfl (ld27 rfl f0 rfl) rfl ?_;refine GoR.call rfl rfl (aCF aFunc30 rfl) (hR e0) ?_ np;rintro v2 h2 ⟨q, x2⟩;cases q;refine ⟨_, rfl, ?_⟩;replace e0 := e0.trans x2;iterate 2 refine gP ?_
  apply gE;refine gC (b := true) rfl ?_;apply gS;refine gR rfl ?_;refine GoR.call rfl rfl (aCF aFunc12 rfl) (alive_ok) ?_ np;rintro v3 h3 ⟨q, x3⟩;cases q;refine ⟨_, rfl, ?_⟩;replace e0 := e0.trans x3;refine gP ?_;apply gE;exact gW Tryz.func5 rfl rfl ⟨rfl, e0⟩
 ·rw [decide_eq_true (by omega)] at hL
  unfold ClampV.cells at *
  have e0 : Ext h h := Ext.refl _
  refine Runs.intro aFunc5 rfl rfl rfl rfl fun rest => ?_;apply gS;refine gR rfl ?_;refine GoR.box rfl rfl rfl rfl rfl rfl fun h0 x0 f0 => ?_;replace e0 := e0.trans x0;refine gP ?_;apply gE;iterate 2 apply gS
  refine gR rfl ?_;refine gO rfl rfl (ld27 rfl f0 rfl) rfl ?_;refine GoR.call rfl rfl (aCF aFunc29 rfl) (hL e0) ?_ np;rintro v1 h1 ⟨q, x1⟩;cases q;refine ⟨_, rfl, ?_⟩;replace e0 := e0.trans x1;refine gP ?_;iterate 3 refine GoR.skip rfl rfl rfl ?_
  refine gP ?_;apply gE;refine gC (b := true) rfl ?_;apply gS;refine gR rfl ?_;refine GoR.call rfl rfl (aCF aFunc12 rfl) (alive_ok) ?_ np;rintro v2 h2 ⟨q, x2⟩;cases q;refine ⟨_, rfl, ?_⟩;replace e0 := e0.trans x2;refine gP ?_;apply gE;exact gW Tryz.func5 rfl rfl ⟨rfl, e0⟩
def TK (C : ClampV) (h : AH) (ew sb sl : AVal) : Prop := ∃ (E : List EV) (b : BT) (lv : Nat → Int), Truth C { C with es := E } b lv ∧ SliceOf h 4 ew (E.map EV.cells) ∧ SliceOf h 1 sb ((List.range C.ps.length).map fun j => [.int .i64 (firstV b j)]) ∧ SliceOf h 1 sl ((List.range C.ps.length).map fun j => [.int .i64 (lv j)])
theorem law5_ok {C : ClampV} {p e qv : AVal} {h : AH} (A : ClampAt h C p e) (O : C.Ok) {w : Nat} (hw : w < 65536) {bs : List Int} (hbs : ∀ x, x ∈ bs → 0 ≤ x ∧ x < 65536) (hlen : bs.length < 9223372036854775808) (Q : SliceOf h 1 qv (u16s bs)) : Runs Tryz.prog 5 [.agg (C.cells p e), qv, .int .u16 (w : Nat)] h (fun en h' => en = .ret (.bool true) ∧ Ext h h') := by
 have hnp := O.np
 have hne := O.ne
 have B : ClampB C := O.B
 have hL := fun {h'} (e : Ext h h') => long29_ok (A.ext e) (by omega) (by omega)
 rw [decide_eq_false (by omega)] at hL
 have hR := fun {h'} (e : Ext h h') => Clamp30_ok (A.ext e) B
 rw [decide_eq_true O] at hR
 have hsm := A.same
 have hsq := Q.same
 have hqs := Q.scal
 have hpsm := A.ps.same
 have hdr := fun h => draws32_ok qv h hqs.1 hqs.2
 have htr : ∀ {ba bb : Nat} {h1 : AH} (e1 : Ext h h1) (h1' : h.next ≤ ba) (h2' : h.next ≤ bb) (hab : ba ≠ bb) (fa : Has h1 ba (.cells .plain [.int .i64 0] 3)) (fb : Has h1 bb (.cells .plain [qv] 41)), Runs Tryz.prog 31 [.agg (C.cells p e), .func (.func 82) [] [.ptr ba 0, .ptr bb 0]] h1 (fun en h' => ∃ (ew sb sl : AVal) (fl : Bool), en = .ret (.tuple [.agg (C.cells p ew), sb, sl, .bool fl]) ∧ ExtF (fun b => b = ba) h1 h' ∧ (fl = true → ∀ h2, ExtF (fun b => b < h1.next) h' h2 → TK C h2 ew sb sl) ∧ ExtF (fun b => b < h1.next) h' h' ∧ sameA (.tuple [.agg (C.cells p ew), sb, sl, .bool fl]) (.tuple [.agg (C.cells p ew), sb, sl, .bool fl]) = true ∧ sameA (.agg (C.cells p ew)) (.agg (C.cells p ew)) = true ∧ sameA sb sb = true ∧ sameA sl sl = true ∧ scalars (C.cells p ew) = true) := fun e1 h1' h2' hab fa fb =>
  (truly31_ok O hbs hlen A e1 h1' h2' hab Q fa fb).mono fun en h' ⟨y, k⟩ => by
   rcases k with ⟨ew, q, hs, hes⟩ | ⟨ew, sb, sl, E, b, lv, q, T, tt⟩
   ·exact ⟨ew, _, _, _, q, y, (fun w => by cases w), .of (Ext.refl _), by unfold ClampV.cells; simp [sameA, sameAs, eqI_eq, hpsm, hes], by unfold ClampV.cells; simp [sameA, sameAs, eqI_eq, hpsm, hes], rfl, rfl, hs⟩
   ·obtain ⟨t1, t2, t3⟩ := tt h' (.of (Ext.refl _))
    exact ⟨ew, sb, sl, true, q, y, fun _ h2 z => ⟨E, b, lv, T, tt h2 z⟩, .of (Ext.refl _), by unfold ClampV.cells; simp [sameA, sameAs, eqI_eq, hpsm, t1.same, t2.same, t3.same], by unfold ClampV.cells; simp [sameA, sameAs, eqI_eq, hpsm, t1.same], t2.same, t3.same, scal_app (a := [p, .int .i64 C.pl, .int .i64 C.ph]) (scal_app (a := [p]) A.ps.scal.1 rfl) t1.scal.1⟩
 unfold ClampV.cells at *
 have e0 : Ext h h := Ext.refl _
 refine Runs.intro aFunc5 rfl rfl rfl rfl fun rest => ?_;apply gS;refine gR rfl ?_;refine GoR.box rfl rfl rfl rfl rfl rfl fun h0 x0 f0 => ?_;have := e0.1;replace e0 := e0.trans x0;have := f0.1;refine gP ?_;apply gE;iterate 2 apply gS
 refine gR rfl ?_;refine gO rfl rfl (ld27 rfl f0 rfl) rfl ?_;refine GoR.call rfl rfl (aCF aFunc29 rfl) (hL e0) ?_ np;rintro v1 h1 ⟨q, x1⟩;cases q;refine ⟨_, rfl, ?_⟩;replace f0 := f0.ext x1;replace e0 := e0.trans x1;refine gP ?_;refine gO rfl rfl (ld27 rfl f0 rfl) rfl ?_;refine GoR.call rfl rfl (aCF aFunc30 rfl) (hR e0) ?_ np;rintro v2 h2 ⟨q, x2⟩;cases q;refine ⟨_, rfl, ?_⟩;replace f0 := f0.ext x2;replace e0 := e0.trans x2;iterate 2 refine gP ?_
 apply gE;refine gC (b := false) rfl ?_;refine gD ?_;refine Go.seq noJ_ok (Go.join (fun a : Nat × AVal × AVal × Bool => [(2, .int .u16 (w : Nat)), (7, .ptr a.1 0), (8, a.2.1), (9, a.2.2.1), (10, .bool a.2.2.2)]) (fun a h' => Ext h h' ∧ ∃ ew, Has h' a.1 (.cells .plain [p, .int .i64 C.pl, .int .i64 C.ph, ew] 27) ∧ (a.2.2.2 = true → TK C h' ew a.2.1 a.2.2.1)) ?_ ?_)
 ·intro k' done
  refine altsE5 ?_ ?_ ?_
  ·intro pl hpl
   rw [plE5_2_3_9] at hpl;cases hpl;refine gQ rfl rfl (ld27 rfl f0 rfl) rfl ?_;refine gQ rfl rfl rfl rfl ?_;refine GoE.call rfl rfl (aCF aFunc32 rfl) (hdr _) (dD 2 1 (dK 2 0 rfl)) ?_ (by rintro _ _ ⟨ba, bb, q, _, hba, hbb, hab, fa, fb⟩; cases q);rintro v3 h3 ⟨ba, bb, q, x3, hba, hbb, hab, fa, fb⟩;cases q;have := e0.1;have := f0.1;replace f0 := f0.ext x3;replace e0 := e0.trans x3;refine ⟨(rck (h2 := h3) rfl (ld27 rfl f0 rfl) recheck_nil), _, rfl, ?_⟩;refine GoE.call rfl rfl (aCF aFunc31 rfl) (htr e0 (by omega) (by omega) hab (by assumption) (by assumption)) (dD 7 0 rfl) ?_ (by rintro _ _ ⟨ew, sb, sl, fl, q, _, T1, y31, hs0, hs1, hs2, hs3, hs4⟩; cases q);rintro v4 h4 ⟨ew, sb, sl, fl, q, y4, T1, y31, hs0, hs1, hs2, hs3, hs4⟩;cases q;have := e0.1;have := fa.1;have := fb.1;have := f0.1;have := e0.1;have := fa.1;have := fb.1;have := f0.1;clear fa;replace fb := fb.extF y4 (fun q => by omega);replace f0 := f0.extF y4 (fun q => by omega);replace e0 := y4.low e0 (fun b q => by omega);have := y4.1;refine ⟨recheck_nil, _, rfl, ?_⟩;iterate 5 refine gQ rfl rfl rfl rfl ?_
   refine GoE.alloc rfl rfl zt27 (dK 15 8 (dK 15 7 (dK 15 6 (dK 15 5 (dK 15 4 rfl))))) rfl rfl fun h5 x5 f5 => ?_;have := e0.1;have := fb.1;have := f0.1;replace fb := fb.ext x5;replace f0 := f0.ext x5;replace e0 := e0.trans x5;replace y4 := y4.ext x5;replace y31 := y31.ext x5;have := f5.1;refine ⟨(rck (h2 := h5) rfl (rfl) (rck (h2 := h5) rfl (rfl) (rck (h2 := h5) rfl (rfl) (rck (h2 := h5) rfl (rfl) (rck (h2 := h5) rfl (rfl) recheck_nil))))), ?_⟩;refine GoE.store rfl rfl rfl rfl (dK 575 8 (dK 575 7 (dK 575 6 (dD 575 5 (dD 575 4 rfl))))) rfl rfl f5 rfl sz27 rfl hs4 rfl fun h6 u6 => ?_;replace f5 := u6.has f5;replace fb := fb.upd u6 (by omega);replace f0 := f0.upd u6 (by omega);replace e0 := e0.upd u6 (by omega);replace y4 := y4.upd u6 (.inr (by omega));replace y31 := y31.upd u6 (.inr (by omega));refine ⟨(rck (h2 := h6) rfl (rfl) (rck (h2 := h6) rfl (rfl) (rck (h2 := h6) rfl (rfl) recheck_nil))), ?_⟩;iterate 3 refine gQ rfl rfl rfl rfl ?_
   refine GoE.end rfl ?_;exact done ⟨_, _, _, _⟩ _ _ ⟨rfl, rfl, rfl, rfl, rfl, trivial⟩ ⟨e0, _, by assumption, fun q => T1 q _ y31⟩
  ·intro pl hpl
   rw [plE5_2_9_3] at hpl;cases hpl;refine gQ rfl rfl (ld27 rfl f0 rfl) rfl ?_;refine gQ rfl rfl rfl rfl ?_;refine GoE.call rfl rfl (aCF aFunc32 rfl) (hdr _) (dD 2 1 (dK 2 0 rfl)) ?_ (by rintro _ _ ⟨ba, bb, q, _, hba, hbb, hab, fa, fb⟩; cases q);rintro v3 h3 ⟨ba, bb, q, x3, hba, hbb, hab, fa, fb⟩;cases q;have := e0.1;have := f0.1;replace f0 := f0.ext x3;replace e0 := e0.trans x3;refine ⟨(rck (h2 := h3) rfl (ld27 rfl f0 rfl) recheck_nil), _, rfl, ?_⟩;refine GoE.alloc rfl rfl zt27 (dK 6 0 rfl) rfl rfl fun h4 x4 f4 => ?_;have := e0.1;have := fa.1;have := fb.1;have := f0.1;replace fa := fa.ext x4;replace fb := fb.ext x4;replace f0 := f0.ext x4;replace e0 := e0.trans x4;have := f4.1;refine ⟨(rck (h2 := h4) rfl (ld27 rfl f0 rfl) recheck_nil), ?_⟩;refine GoE.call rfl rfl (aCF aFunc31 rfl) (htr e0 (by omega) (by omega) hab (by assumption) (by assumption)) (dD 519 0 rfl) ?_ (by rintro _ _ ⟨ew, sb, sl, fl, q, _, T1, y31, hs0, hs1, hs2, hs3, hs4⟩; cases q);rintro v5 h5 ⟨ew, sb, sl, fl, q, y5, T1, y31, hs0, hs1, hs2, hs3, hs4⟩;cases q;have := e0.1;have := f4.1;have := fa.1;have := fb.1;have := f0.1;have := e0.1;have := f4.1;have := fa.1;have := fb.1;have := f0.1;replace f4 := f4.extF y5 (fun q => by omega);clear fa;replace fb := fb.extF y5 (fun q => by omega);replace f0 := f0.extF y5 (fun q => by omega);replace e0 := y5.low e0 (fun b q => by omega);have := y5.1;refine ⟨recheck_nil, _, rfl, ?_⟩;iterate 5 refine gQ rfl rfl rfl rfl ?_
   refine GoE.store rfl rfl rfl rfl (dK 575 8 (dK 575 7 (dK 575 6 (dD 575 5 (dD 575 4 rfl))))) rfl rfl f4 rfl sz27 rfl hs4 rfl fun h6 u6 => ?_;replace f4 := u6.has f4;replace fb := fb.upd u6 (by omega);replace f0 := f0.upd u6 (by omega);replace e0 := e0.upd u6 (by omega);replace y31 := y31.upd u6 (.inl (by assumption));refine ⟨(rck (h2 := h6) rfl (rfl) (rck (h2 := h6) rfl (rfl) (rck (h2 := h6) rfl (rfl) recheck_nil))), ?_⟩;iterate 3 refine gQ rfl rfl rfl rfl ?_
   refine GoE.end rfl ?_;exact done ⟨_, _, _, _⟩ _ _ ⟨rfl, rfl, rfl, rfl, rfl, trivial⟩ ⟨e0, _, by assumption, fun q => T1 q _ y31⟩
  ·intro pl hpl
   rw [plE5_9_2_3] at hpl;cases hpl;refine gQ rfl rfl (ld27 rfl f0 rfl) rfl ?_;refine gQ rfl rfl rfl rfl ?_;refine GoE.alloc rfl rfl zt27 (dK 0 1 (dK 0 0 rfl)) rfl rfl fun h3 x3 f3 => ?_;have := e0.1;have := f0.1;replace f0 := f0.ext x3;replace e0 := e0.trans x3;have := f3.1;refine ⟨(rck (h2 := h3) rfl (rfl) (rck (h2 := h3) rfl (ld27 rfl f0 rfl) recheck_nil)), ?_⟩;refine GoE.call rfl rfl (aCF aFunc32 rfl) (hdr _) (dD 514 1 (dK 514 0 rfl)) ?_ (by rintro _ _ ⟨ba, bb, q, _, hba, hbb, hab, fa, fb⟩; cases q);rintro v4 h4 ⟨ba, bb, q, x4, hba, hbb, hab, fa, fb⟩;cases q;have := e0.1;have := f3.1;have := f0.1;replace f3 := f3.ext x4;replace f0 := f0.ext x4;replace e0 := e0.trans x4;refine ⟨(rck (h2 := h4) rfl (ld27 rfl f0 rfl) recheck_nil), _, rfl, ?_⟩;refine GoE.call rfl rfl (aCF aFunc31 rfl) (htr e0 (by omega) (by omega) hab (by assumption) (by assumption)) (dD 519 0 rfl) ?_ (by rintro _ _ ⟨ew, sb, sl, fl, q, _, T1, y31, hs0, hs1, hs2, hs3, hs4⟩; cases q);rintro v5 h5 ⟨ew, sb, sl, fl, q, y5, T1, y31, hs0, hs1, hs2, hs3, hs4⟩;cases q;have := e0.1;have := fa.1;have := fb.1;have := f3.1;have := f0.1;have := e0.1;have := fa.1;have := fb.1;have := f3.1;have := f0.1;clear fa;replace fb := fb.extF y5 (fun q => by omega);replace f3 := f3.extF y5 (fun q => by omega);replace f0 := f0.extF y5 (fun q => by omega);replace e0 := y5.low e0 (fun b q => by omega);have := y5.1;refine ⟨recheck_nil, _, rfl, ?_⟩;iterate 5 refine gQ rfl rfl rfl rfl ?_
   refine GoE.store rfl rfl rfl rfl (dK 575 8 (dK 575 7 (dK 575 6 (dD 575 5 (dD 575 4 rfl))))) rfl rfl f3 rfl sz27 rfl hs4 rfl fun h6 u6 => ?_;replace fb := fb.upd u6 (by omega);replace f3 := u6.has f3;replace f0 := f0.upd u6 (by omega);replace e0 := e0.upd u6 (by omega);replace y31 := y31.upd u6 (.inl (by assumption));refine ⟨(rck (h2 := h6) rfl (rfl) (rck (h2 := h6) rfl (rfl) (rck (h2 := h6) rfl (rfl) recheck_nil))), ?_⟩;iterate 3 refine gQ rfl rfl rfl rfl ?_
   refine GoE.end rfl ?_;exact done ⟨_, _, _, _⟩ _ _ ⟨rfl, rfl, rfl, rfl, rfl, trivial⟩ ⟨e0, _, by assumption, fun q => T1 q _ y31⟩
 rintro ⟨bx, sb, sl, fl⟩ h9 ⟨e0, ew, f0, J⟩
 dsimp only at f0 J ⊢
 cases fl with
 | false =>
  iterate 2 apply gS
  refine gR rfl ?_;iterate 2 refine gP ?_
  apply gE;refine gC (b := true) rfl ?_;apply gS;refine gR rfl ?_;refine GoR.call rfl rfl (aCF aFunc12 rfl) (alive_ok) ?_ np;rintro v10 h10 ⟨q, x10⟩;cases q;refine ⟨_, rfl, ?_⟩;replace f0 := f0.ext x10;replace e0 := e0.trans x10;refine gP ?_;apply gE;exact gW Tryz.func5 rfl rfl ⟨rfl, e0⟩
 | true =>
  obtain ⟨E, b, lv, T, S1, S2, S3⟩ := J rfl
  have hbx := f0.1
  obtain ⟨X, hX⟩ : ∃ X, ({ C with es := E } : ClampV) = X := ⟨_, rfl⟩
  have hXp : X.ps = C.ps := by rw [← hX]
  have hXes : X.es = E := by rw [← hX]
  have hXl : X.ps.length = C.ps.length := by rw [hXp]
  have hXc : X.cells p ew = [p, .int .i64 C.pl, .int .i64 C.ph, ew] := by rw [← hX]; rfl
  rw [hX] at T
  have OX := T.ok
  have hpX := T.possible
  have AX : ∀ {h'}, Ext h h' → Ext h9 h' → ClampAt h' X p ew := fun e e1 => ⟨by rw [hXp]; exact A.ps.ext e, by rw [hXes]; exact S1.ext e1⟩
  have e1 : Ext h9 h9 := Ext.refl _
  obtain ⟨n, hn⟩ : ∃ n, w % 20001 = n := ⟨_, rfl⟩
  have hnl : n < 20001 := by rw [← hn]; exact Nat.mod_lt _ (by omega)
  have hCl := fun {h'} (e : Ext h h') (e1 : Ext h9 h') => Clash_ok (AX e e1) OX.B
  have hAl := fun {h'} (e : Ext h h') (e1 : Ext h9 h') => All_ok (AX e e1) OX.B
  have hEm := fun {h'} (e : Ext h h') (e1 : Ext h9 h') => Empty_ok (AX e e1) OX.B
  have hSh := fun {h'} (e : Ext h h') (e1 : Ext h9 h') => Share_ok (AX e e1) OX.B (n : Nat)
  have hBu := fun {h'} (j : Nat) (e : Ext h h') (e1 : Ext h9 h') => Built_ok (AX e e1) OX.B (j : Nat)
  have hHa := fun {h'} (j : Nat) (e : Ext h h') (e1 : Ext h9 h') => Has_ok (AX e e1) OX.B (j : Nat)
  have hSo := fun {h'} (j : Nat) (e : Ext h h') (e1 : Ext h9 h') => Sold_ok (AX e e1) OX.B (j : Nat)
  have hEn := fun {h'} (j : Nat) (m : Int) (e : Ext h h') (e1 : Ext h9 h') => Enough_ok (AX e e1) OX.B (j : Nat) m
  rw [clashR_is OX, if_pos hpX] at hCl;rw [allR_is OX, ClampV.tr_yes hpX] at hAl;rw [emptyR_is OX, ClampV.tr_yes hpX] at hEm
  obtain ⟨q, cc, hsh, hql, hcc⟩ : ∃ (q : Nat) (cc : Int), X.shareR (n : Nat) = ((q : Int), cc) ∧ q < 2 ^ C.ps.length ∧ ((cc = 0 ∧ ((n : Nat) : Int) ≤ (X.total q).1) ∨ cc = 4) := by
   have hin := total_in OX hpX X.all
   by_cases hnt : ((n : Nat) : Int) ≤ (X.total X.all).1
   ·obtain ⟨q, z1, z2, z3, z4, z5, _⟩ := share_ex OX hpX (n := (n : Nat)) (by omega) hnt
    refine ⟨q, 0, z1, ?_, .inl ⟨rfl, z5⟩⟩
    have : X.all < 2 ^ C.ps.length := by
     unfold ClampV.all
     rw [hXl]
     have := Nat.two_pow_pos C.ps.length
     omega
    omega
   ·exact ⟨0, 4, share_more OX hpX (by omega), Nat.two_pow_pos _, .inr rfl⟩
  rw [hsh] at hSh
  obtain ⟨hgl, hlow⟩ := gone_low OX hpX
  rw [hXl] at hlow
  have h2i : 2 ^ C.ps.length ≤ 2 ^ 4 := Nat.pow_le_pow_right (by decide) hnp.2
  have hgo : X.gone < 2 ^ C.ps.length := by rw [← hXl]; exact bitsV_lt _ _
  have hshr : ∀ {z : Nat}, z < 2 ^ C.ps.length → ((z : Nat) : Int).fdiv (2 ^ C.ps.length) = 0 := fun {z} hz => by
   rw [Int.fdiv_eq_ediv_of_nonneg _ (Int.pow_nonneg (by omega))];refine Int.ediv_eq_zero_of_lt (by omega) ?_
   exact_mod_cast hz
  have hr1 := hshr hlow
  have hr2 := hshr hql
  have hlsb := S2.len
  rw [List.length_map, List.length_range] at hlsb
  have hta := T.all
  have hts := T.some q
  rw [hXl] at hta hts
  obtain ⟨AL, hAL⟩ : ∃ a, X.total X.all = a := ⟨_, rfl⟩
  rw [hAL] at hAl hta
  obtain ⟨go, hgoe⟩ : ∃ a, X.gone = a := ⟨_, rfl⟩
  obtain ⟨lo, hloe⟩ : ∃ a, X.low = a := ⟨_, rfl⟩
  rw [hgoe, hloe] at hgl hEm;rw [hgoe] at hgo;rw [hloe] at hlow hr1
  unfold spC at *
  rw [hXc] at *
  dsimp only at hCl hAl hEm hSh
  iterate 2 apply gS
  refine gR rfl ?_;iterate 2 refine gP ?_
  apply gE;refine gC (b := false) rfl ?_;refine gD ?_;apply gS;refine gR rfl ?_;refine gP ?_;refine gO rfl rfl (aOp_convU16 rfl Tryz.underlying42 Tryz.underlying3 (by omega)) rfl ?_;refine gO rfl rfl (aOp_rem (r := ((n : Nat) : Int)) rfl rfl (by omega) (by rw [← hn]; rfl)) rfl ?_;refine gP ?_;apply gE;apply gS;refine gR rfl ?_;refine gO rfl rfl (ld27 rfl f0 rfl) rfl ?_;refine GoR.call rfl rfl (aCF aFunc27 rfl) (hCl e0 e1) ?_ np;rintro v10 h10 ⟨q, x10⟩;cases q;refine ⟨_, rfl, ?_⟩;replace f0 := f0.ext x10;replace e0 := e0.trans x10;replace e1 := e1.trans x10;iterate 5 refine gP ?_
  apply gE;apply gS;refine gR rfl ?_;refine gO rfl rfl (ld27 rfl f0 rfl) rfl ?_;refine GoR.call rfl rfl (aCF aFunc19 rfl) (hAl e0 e1) ?_ np;rintro v11 h11 ⟨q, x11⟩;cases q;refine ⟨_, rfl, ?_⟩;replace f0 := f0.ext x11;replace e0 := e0.trans x11;replace e1 := e1.trans x11;iterate 3 refine gP ?_
  refine GoR.alloc rfl rfl rfl zt24 rfl rfl fun h12 x12 f12 => ?_;have := e0.1;have := e1.1;have := f0.1;replace f0 := f0.ext x12;replace e0 := e0.trans x12;replace e1 := e1.trans x12;have := f12.1;refine GoR.store rfl rfl rfl rfl rfl rfl f12 rfl sz24 rfl rfl rfl fun h13 u13 => ?_;replace f12 := u13.has f12;replace f0 := f0.upd u13 (by omega);replace e0 := e0.upd u13 (by omega);replace e1 := e1.upd u13 (by omega);refine gP ?_;apply gE;apply gS;refine gR rfl ?_;refine gO rfl rfl (ld27 rfl f0 rfl) rfl ?_;refine GoR.call rfl rfl (aCF aFunc23 rfl) (hEm e0 e1) ?_ np;rintro v14 h14 ⟨q, x14⟩;cases q;refine ⟨_, rfl, ?_⟩;replace f12 := f12.ext x14;replace f0 := f0.ext x14;replace e0 := e0.trans x14;replace e1 := e1.trans x14;iterate 7 refine gP ?_
  apply gE;apply gS;refine gR rfl ?_;refine gO rfl rfl (ld27 rfl f0 rfl) rfl ?_;refine gP ?_;refine GoR.call rfl rfl (aCF aFunc25 rfl) (hSh e0 e1) ?_ np;rintro v15 h15 ⟨q, x15⟩;cases q;refine ⟨_, rfl, ?_⟩;replace f12 := f12.ext x15;replace f0 := f0.ext x15;replace e0 := e0.trans x15;replace e1 := e1.trans x15;iterate 5 refine gP ?_
  apply gE;apply gS;refine Go.join (fun _ : Unit => [(7, .ptr bx 0), (8, sb), (9, sl), (11, .int .i64 (n : Nat)), (14, .ptr h11.next 0), (16, .int .i64 (go : Nat)), (17, .int .i64 (lo : Nat)), (19, .int .i64 (q : Nat)), (20, .int .i64 cc)]) (fun _ h' => Ext h h' ∧ Ext h9 h' ∧ Has h' bx (.cells .plain [p, .int .i64 C.pl, .int .i64 C.ph, ew] 27) ∧ Has h' h11.next (.cells .plain [.int .i64 AL.1, .int .i64 AL.2] 24)) ?_ ?_
  ·intro k' done
   rcases hcc with ⟨rfl, _⟩ | rfl
   ·apply gS;refine gR rfl ?_;refine gP ?_;refine gO rfl rfl (kXF rfl rfl) rfl ?_;iterate 2 refine gP ?_
    refine gO rfl rfl (kXF rfl rfl) rfl ?_;iterate 3 refine gP ?_
    refine gO rfl rfl (kXF rfl rfl) rfl ?_;iterate 4 refine gP ?_
    refine gO rfl rfl (aOp_andNot rfl rfl (by omega) hgl) rfl ?_;refine gO rfl rfl (kXF rfl rfl) rfl ?_;iterate 4 refine gP ?_
    refine gO rfl rfl (aOp_lenSlice Tryz.underlying44 rfl hlsb) rfl ?_;refine gO rfl rfl (aOp_shr rfl rfl (by omega) hr1) rfl ?_;refine gO rfl rfl (kXF rfl rfl) rfl ?_;iterate 3 refine gP ?_
    refine gO rfl rfl (kXF rfl rfl) rfl ?_;refine gP ?_;iterate 2 refine GoR.skip rfl rfl rfl ?_
    iterate 4 refine gP ?_
    refine gO rfl rfl (kLF rfl rfl) rfl ?_;iterate 4 refine gP ?_
    refine gO rfl rfl (aOp_lenSlice Tryz.underlying44 rfl hlsb) rfl ?_;refine gO rfl rfl (aOp_shr rfl rfl (by omega) hr2) rfl ?_;refine gO rfl rfl (kXF rfl rfl) rfl ?_;refine gP ?_;apply gE;refine gC (b := false) rfl ?_;refine gD ?_;exact done () _ _ ⟨rfl, rfl, rfl, rfl, rfl, rfl, rfl, rfl, rfl, trivial⟩ ⟨e0, e1, f0, f12⟩
   ·apply gS;refine gR rfl ?_;refine gP ?_;refine gO rfl rfl (kXF rfl rfl) rfl ?_;iterate 2 refine gP ?_
    refine gO rfl rfl (kXF rfl rfl) rfl ?_;iterate 3 refine gP ?_
    refine gO rfl rfl (kXF rfl rfl) rfl ?_;iterate 4 refine gP ?_
    refine gO rfl rfl (aOp_andNot rfl rfl (by omega) hgl) rfl ?_;refine gO rfl rfl (kXF rfl rfl) rfl ?_;iterate 4 refine gP ?_
    refine gO rfl rfl (aOp_lenSlice Tryz.underlying44 rfl hlsb) rfl ?_;refine gO rfl rfl (aOp_shr rfl rfl (by omega) hr1) rfl ?_;refine gO rfl rfl (kXF rfl rfl) rfl ?_;iterate 3 refine gP ?_
    refine gO rfl rfl (kXT rfl rfl) rfl ?_;iterate 2 refine gP ?_
    refine gO rfl rfl (kXF rfl rfl) rfl ?_;iterate 4 refine gP ?_
    refine gO rfl rfl (kLF rfl rfl) rfl ?_;iterate 4 refine gP ?_
    refine gO rfl rfl (aOp_lenSlice Tryz.underlying44 rfl hlsb) rfl ?_;refine gO rfl rfl (aOp_shr rfl rfl (by omega) hr2) rfl ?_;refine gO rfl rfl (kXF rfl rfl) rfl ?_;refine gP ?_;apply gE;refine gC (b := false) rfl ?_;refine gD ?_;exact done () _ _ ⟨rfl, rfl, rfl, rfl, rfl, rfl, rfl, rfl, rfl, trivial⟩ ⟨e0, e1, f0, f12⟩
  clear e0 e1 f0 f12;rintro _ h40 ⟨e0, e1, f0, fA⟩;apply gS;refine gR rfl ?_;iterate 2 refine gP ?_
  apply gE;iterate 2 apply gS
  refine gR rfl ?_;refine gP ?_;refine gO rfl rfl (aOp_lenSlice Tryz.underlying44 rfl hlsb) rfl ?_;refine gP ?_;apply gE;refine Go.block noJ_ok ?_;refine Go.loopKeep (fun j : Nat => [(7, .ptr bx 0), (8, sb), (9, sl), (11, .int .i64 (n : Nat)), (14, .ptr h11.next 0), (16, .int .i64 (go : Nat)), (17, .int .i64 (lo : Nat)), (19, .int .i64 (q : Nat)), (20, .int .i64 cc), (21, .int .i64 (sumTo lv j)), (22, .int .i64 (sumS q lv j)), (121, sb), (122, .int .i64 C.ps.length), (123, .int .i64 (j : Nat))]) (fun m j h' => m + j = C.ps.length ∧ Ext h h' ∧ Ext h9 h' ∧ Has h' bx (.cells .plain [p, .int .i64 C.pl, .int .i64 C.ph, ew] 27) ∧ Has h' h11.next (.cells .plain [.int .i64 AL.1, .int .i64 AL.2] 24)) (n := C.ps.length) 0 ⟨rfl, rfl, rfl, rfl, rfl, rfl, rfl, rfl, rfl, rfl, rfl, rfl, rfl, rfl, trivial⟩ ⟨rfl, e0, e1, f0, fA⟩ ?_;clear e0 e1 f0 fA;rintro m j h50 ⟨hm, e0, e1, f0, fA⟩ again
  by_cases hj : j < C.ps.length
  ·have hjX : j < X.ps.length := by omega
   obtain ⟨⟨i1, i2⟩, ⟨i3, i4⟩, ⟨i5, i6⟩⟩ := T.each hjX
   obtain ⟨t1, t2, t3, t4, t5⟩ := T.path j hjX
   have hB := fun {h'} (e : Ext h h') (e1 : Ext h9 h') => hBu (h' := h') j e e1
   have hH := fun {h'} (e : Ext h h') (e1 : Ext h9 h') => hHa (h' := h') j e e1
   have hS := fun {h'} (e : Ext h h') (e1 : Ext h9 h') => hSo (h' := h') j e e1
   rw [builtR_is OX hjX, ClampV.tr_yes hpX] at hB;rw [hasR_is OX hjX, ClampV.tr_yes hpX] at hH;rw [soldR_is OX hjX, ClampV.tr_yes hpX] at hS
   have hgb : X.gone.testBit j = decide ((X.left j).2 = 0) := by unfold ClampV.gone; rw [bitsV_test, decide_eq_true hjX, Bool.true_and]
   have hlb : X.low.testBit j = decide ((X.left j).1 = 0) := by unfold ClampV.low; rw [bitsV_test, decide_eq_true hjX, Bool.true_and]
   have hgi := bit_int X.gone j
   have hli := bit_int X.low j
   rw [hgb, hgoe, decide_eq_decide] at hgi;rw [hlb, hloe, decide_eq_decide] at hli
   have hbit : decide (((q : Nat) : Int).fdiv (2 ^ j) % 2 = 1) = q.testBit j := bit_int q j
   have i0 := (left_in OX hpX j).1
   obtain ⟨F1, hF1⟩ : ∃ a, X.first j = a := ⟨_, rfl⟩
   obtain ⟨L1, hL1⟩ : ∃ a, X.left j = a := ⟨_, rfl⟩
   obtain ⟨D1, hD1⟩ : ∃ a, X.sold j = a := ⟨_, rfl⟩
   obtain ⟨y, hy⟩ : ∃ a, lv j = a := ⟨_, rfl⟩
   obtain ⟨z, hz⟩ : ∃ a, firstV b j = a := ⟨_, rfl⟩
   obtain ⟨bz, oz, p1, p2⟩ := (S2.ext e1).at (i := j) (l := [.int .i64 z]) (by rw [List.getElem?_map, List.getElem?_range hj, ← hz]; rfl)
   obtain ⟨by', oy, p3, p4⟩ := (S3.ext e1).at (i := j) (l := [.int .i64 y]) (by rw [List.getElem?_map, List.getElem?_range hj, ← hy]; rfl)
   rw [List.length_map, List.length_range] at p1 p3;rw [hF1] at hB i1 i2;rw [hL1] at hH i3 i4 hgi hli i0;rw [hD1] at hS i5 i6;rw [hy] at i3 i4 i5 i6 t2 t3;rw [hz] at i1 i2 i5 i6 t3 t4 t5
   obtain ⟨mm, hmm⟩ : ∃ a, ((n : Nat) : Int).tmod (z + 2) = a := ⟨_, rfl⟩
   have hm1 : 0 ≤ mm := by rw [← hmm]; exact Int.tmod_nonneg _ (by omega)
   have hm2 : mm < z + 2 := by rw [← hmm]; exact Int.tmod_lt_of_pos _ (by omega)
   have hE := fun {h'} (e : Ext h h') (e1 : Ext h9 h') => hEn (h' := h') j mm e e1
   rw [enoughR_is OX hjX (by omega), ClampV.tr_yes hpX, hL1] at hE
   obtain ⟨rv, hrv⟩ : ∃ a, reachV L1 mm = a := ⟨_, rfl⟩
   rw [hrv] at hE
   unfold reachV at hrv
   have hN1 := fun {h9 : AH} => inside33_is (h := h9) (n := z) (lo := F1.1) (hi := F1.2) (dt (by omega))
   have hN2 := fun {h9 : AH} => inside33_is (h := h9) (n := y) (lo := L1.1) (hi := L1.2) (dt (by omega))
   have hN3 := fun {h9 : AH} => inside33_is (h := h9) (n := z - y) (lo := D1.1) (hi := D1.2) (dt (by omega))
   have e2 : Ext h50 h50 := Ext.refl _
   dsimp only at hB hH hS hE
   have hW := fun i (hi : i < j) => (T.path i (by omega))
   have c1 := sumTo_lt (f := lv) (n := j) fun i hi => by have := hW i hi; omega
   have c2 := sumS_lt (s := q) (f := lv) (n := j) fun i hi => by have := hW i hi; omega
   obtain ⟨gq, hgq⟩ : ∃ a, decide (mm ≤ y) = a := ⟨_, rfl⟩
   apply gS;refine gR rfl ?_;refine gO rfl rfl (kLT rfl rfl) rfl ?_;apply gE;apply gS;refine gC (b := true) rfl ?_;refine gD ?_;apply gS;refine Go.block noJ_ok ?_;apply gS;refine gR rfl ?_;refine gP ?_;refine gO rfl rfl (aOp_indexAddr (i := j) Tryz.underlying44 sz3 rfl p1 rfl (Nat.ble_eq_true_of_le hj)) rfl ?_;refine gO rfl rfl (aOp_loadE1 (k := 0) ag3 rfl (p2.ext e2) rfl) rfl ?_;iterate 2 refine gP ?_
   apply gE;apply gS;refine gR rfl ?_;refine gO rfl rfl (ld27 rfl f0 rfl) rfl ?_;refine gP ?_;refine GoR.call rfl rfl (aCF aFunc13 rfl) (hB e0 e1) ?_ np;rintro v51 h51 ⟨q, x51⟩;cases q;refine ⟨_, rfl, ?_⟩;replace f0 := f0.ext x51;replace fA := fA.ext x51;replace e0 := e0.trans x51;replace e1 := e1.trans x51;replace e2 := e2.trans x51;iterate 3 refine gP ?_
   refine GoR.alloc rfl rfl rfl zt24 rfl rfl fun h52 x52 f52 => ?_;have := e0.1;have := e1.1;have := e2.1;have := f0.1
   have := fA.1
   replace f0 := f0.ext x52;replace fA := fA.ext x52;replace e0 := e0.trans x52;replace e1 := e1.trans x52;replace e2 := e2.trans x52;have := f52.1;refine GoR.store rfl rfl rfl rfl rfl rfl f52 rfl sz24 rfl rfl rfl fun h53 u53 => ?_;replace f52 := u53.has f52;replace f0 := f0.upd u53 (by omega);replace fA := fA.upd u53 (by omega);replace e0 := e0.upd u53 (by omega);replace e1 := e1.upd u53 (by omega);replace e2 := e2.upd u53 (by omega);refine gP ?_;apply gE;apply gS;refine gR rfl ?_;refine gO rfl rfl (ld27 rfl f0 rfl) rfl ?_;refine gP ?_;refine GoR.call rfl rfl (aCF aFunc15 rfl) (hH e0 e1) ?_ np;rintro v54 h54 ⟨q, x54⟩;cases q;refine ⟨_, rfl, ?_⟩;replace f52 := f52.ext x54;replace f0 := f0.ext x54;replace fA := fA.ext x54;replace e0 := e0.trans x54;replace e1 := e1.trans x54;replace e2 := e2.trans x54;iterate 3 refine gP ?_
   refine GoR.alloc rfl rfl rfl zt24 rfl rfl fun h55 x55 f55 => ?_;have := e0.1;have := e1.1;have := e2.1;have := f52.1;have := f0.1
   have := fA.1
   replace f52 := f52.ext x55;replace f0 := f0.ext x55;replace fA := fA.ext x55;replace e0 := e0.trans x55;replace e1 := e1.trans x55;replace e2 := e2.trans x55;have := f55.1;refine GoR.store rfl rfl rfl rfl rfl rfl f55 rfl sz24 rfl rfl rfl fun h56 u56 => ?_;replace f55 := u56.has f55;replace f52 := f52.upd u56 (by omega);replace f0 := f0.upd u56 (by omega);replace fA := fA.upd u56 (by omega);replace e0 := e0.upd u56 (by omega);replace e1 := e1.upd u56 (by omega);replace e2 := e2.upd u56 (by omega);refine gP ?_;apply gE;apply gS;refine gR rfl ?_;refine gO rfl rfl (ld27 rfl f0 rfl) rfl ?_;refine gP ?_;refine GoR.call rfl rfl (aCF aFunc17 rfl) (hS e0 e1) ?_ np;rintro v57 h57 ⟨q, x57⟩;cases q;refine ⟨_, rfl, ?_⟩;replace f55 := f55.ext x57;replace f52 := f52.ext x57;replace f0 := f0.ext x57;replace fA := fA.ext x57;replace e0 := e0.trans x57;replace e1 := e1.trans x57;replace e2 := e2.trans x57;iterate 3 refine gP ?_
   refine GoR.alloc rfl rfl rfl zt24 rfl rfl fun h58 x58 f58 => ?_;have := e0.1;have := e1.1;have := e2.1;have := f55.1;have := f52.1;have := f0.1
   have := fA.1
   replace f55 := f55.ext x58;replace f52 := f52.ext x58;replace f0 := f0.ext x58;replace fA := fA.ext x58;replace e0 := e0.trans x58;replace e1 := e1.trans x58;replace e2 := e2.trans x58;have := f58.1;refine GoR.store rfl rfl rfl rfl rfl rfl f58 rfl sz24 rfl rfl rfl fun h59 u59 => ?_;replace f58 := u59.has f58;replace f55 := f55.upd u59 (by omega);replace f52 := f52.upd u59 (by omega);replace f0 := f0.upd u59 (by omega);replace fA := fA.upd u59 (by omega);replace e0 := e0.upd u59 (by omega);replace e1 := e1.upd u59 (by omega);replace e2 := e2.upd u59 (by omega);refine gP ?_;apply gE;apply gS;refine Go.drawnE plan5_1 ?_;refine gQ rfl rfl (ld27 rfl f0 rfl) rfl ?_;iterate 3 refine gQ rfl rfl rfl rfl ?_
   refine gQ rfl rfl (aA rfl rfl) rfl ?_;refine gQ rfl rfl (aOp_rem rfl rfl (by omega) hmm) rfl ?_;refine GoE.call rfl rfl (aCF aFunc21 rfl) (hE e0 e1) (dD 63 5 (dD 63 4 (dD 63 3 (dD 63 2 (dD 63 1 (dD 63 0 rfl)))))) ?_ np;rintro v60 h60 ⟨q, x60⟩;cases q;replace f58 := f58.ext x60;replace f55 := f55.ext x60;replace f52 := f52.ext x60;replace f0 := f0.ext x60;replace fA := fA.ext x60;replace e0 := e0.trans x60;replace e1 := e1.trans x60;replace e2 := e2.trans x60;refine ⟨recheck_nil, _, rfl, ?_⟩;iterate 5 refine gQ rfl rfl rfl rfl ?_
   refine GoE.end rfl ?_;iterate 2 apply gS
   refine Go.drawnE plan5_2 ?_;refine gQ rfl rfl rfl rfl ?_;refine gQ rfl rfl (kXF rfl rfl) rfl ?_;iterate 2 refine gQ rfl rfl rfl rfl ?_
   refine gQ rfl rfl (kXF rfl rfl) rfl ?_;iterate 3 refine gQ rfl rfl rfl rfl ?_
   refine gQ rfl rfl (kXF rfl rfl) rfl ?_;iterate 3 refine gQ rfl rfl rfl rfl ?_
   refine gQ rfl rfl (kXF rfl rfl) rfl ?_;iterate 3 refine gQ rfl rfl rfl rfl ?_
   refine gQ rfl rfl (ld24 rfl f52 rfl) rfl ?_;refine GoE.call rfl rfl (aCF aFunc33 rfl) (hN1) (dD 131071 16 (dD 131071 15 (dD 131071 14 (dD 131071 13 (dD 131071 12 (dD 131071 11 (dD 131071 10 (dD 131071 9 (dD 131071 8 (dD 131071 7 (dD 131071 6 (dD 131071 5 (dD 131071 4 (dD 131071 3 (dD 131071 2 (dD 131071 1 (dD 131071 0 rfl))))))))))))))))) ?_ np;rintro v61 h61 ⟨q, x61⟩;cases q;replace f58 := f58.ext x61;replace f55 := f55.ext x61;replace f0 := f0.ext x61;replace fA := fA.ext x61;replace e0 := e0.trans x61;replace e1 := e1.trans x61;replace e2 := e2.trans x61;refine ⟨recheck_nil, _, rfl, ?_⟩;iterate 5 refine gQ rfl rfl rfl rfl ?_
   refine gQ rfl rfl (aOp_indexAddr (i := j) Tryz.underlying44 sz3 rfl p3 rfl (Nat.ble_eq_true_of_le hj)) rfl ?_;refine gQ rfl rfl (aOp_loadE1 (k := 0) ag3 rfl (p4.ext e2) rfl) rfl ?_;refine gQ rfl rfl (ld24 rfl f55 rfl) rfl ?_;refine GoE.call rfl rfl (aCF aFunc33 rfl) (hN2) (dD 67108863 25 (dD 67108863 24 (dD 67108863 23 (dD 67108863 22 (dD 67108863 21 (dD 67108863 20 (dD 67108863 19 (dD 67108863 18 rfl)))))))) ?_ np;rintro v62 h62 ⟨q, x62⟩;cases q;replace f58 := f58.ext x62;replace f0 := f0.ext x62;replace fA := fA.ext x62;replace e0 := e0.trans x62;replace e1 := e1.trans x62;replace e2 := e2.trans x62;refine ⟨recheck_nil, _, rfl, ?_⟩;iterate 6 refine gQ rfl rfl rfl rfl ?_
   refine gQ rfl rfl (aOp_indexAddr (i := j) Tryz.underlying44 sz3 rfl p3 rfl (Nat.ble_eq_true_of_le hj)) rfl ?_;refine gQ rfl rfl (aOp_loadE1 (k := 0) ag3 rfl (p4.ext e2) rfl) rfl ?_;refine gQ rfl rfl (aS rfl rfl) rfl ?_;refine gQ rfl rfl (ld24 rfl f58 rfl) rfl ?_;refine GoE.call rfl rfl (aCF aFunc33 rfl) (hN3) (dD 137438953471 36 (dD 137438953471 35 (dD 137438953471 34 (dD 137438953471 33 (dD 137438953471 32 (dD 137438953471 31 (dD 137438953471 30 (dD 137438953471 29 (dD 137438953471 28 (dD 137438953471 27 rfl)))))))))) ?_ np;rintro v63 h63 ⟨q, x63⟩;cases q;replace f0 := f0.ext x63;replace fA := fA.ext x63;replace e0 := e0.trans x63;replace e1 := e1.trans x63;replace e2 := e2.trans x63;refine ⟨recheck_nil, _, rfl, ?_⟩;iterate 2 refine gQ rfl rfl rfl rfl ?_
   refine GoE.end rfl ?_;refine gC (b := false) rfl ?_;refine gD ?_;apply gS;refine Go.drawnE plan5_3 ?_;iterate 2 refine gQ rfl rfl rfl rfl ?_
   refine gQ rfl rfl (aOp_indexAddr (i := j) Tryz.underlying44 sz3 rfl p3 rfl (Nat.ble_eq_true_of_le hj)) rfl ?_;refine gQ rfl rfl (aOp_loadE1 (k := 0) ag3 rfl (p4.ext e2) rfl) rfl ?_;iterate 2 refine gQ rfl rfl rfl rfl ?_
   refine gQ rfl rfl (aA rfl rfl) rfl ?_;refine gQ rfl rfl (aOp_rem rfl rfl (by omega) hmm) rfl ?_;refine gQ rfl rfl (aOp_geq rfl rfl hgq) rfl ?_;refine gQ rfl rfl rfl rfl ?_;refine GoE.end rfl ?_;apply gS;refine Go.join (fun _ : Unit => [(7, .ptr bx 0), (8, sb), (9, sl), (11, .int .i64 (n : Nat)), (14, .ptr h11.next 0), (16, .int .i64 (go : Nat)), (17, .int .i64 (lo : Nat)), (19, .int .i64 (q : Nat)), (20, .int .i64 cc), (21, .int .i64 (sumTo lv j)), (22, .int .i64 (sumS q lv j)), (121, sb), (122, .int .i64 C.ps.length), (123, .int .i64 (j : Nat)), (23, .int .i64 (j : Nat))]) (fun _ h' => Ext h h' ∧ Ext h9 h' ∧ Has h' bx (.cells .plain [p, .int .i64 C.pl, .int .i64 C.ph, ew] 27) ∧ Has h' h11.next (.cells .plain [.int .i64 AL.1, .int .i64 AL.2] 24)) ?_ ?_
   ·intro k' done
    have e2' := e2
    by_cases r2 : mm ≤ L1.1
    ·rw [if_pos r2] at hrv;subst hrv;rw [decide_eq_true (by omega)] at hgq;subst hgq
     by_cases y0 : y = 0
     ·have hl0 : ((lo : Nat) : Int).fdiv (2 ^ j) % 2 = 1 := hli.2 (by omega)
      apply gS;refine gR rfl ?_;refine gP ?_;refine gO rfl rfl (kET rfl rfl) rfl ?_;iterate 6 refine gP ?_
      refine gO rfl rfl (kEF rfl rfl) rfl ?_;refine gP ?_;refine GoR.skip rfl rfl rfl ?_;iterate 5 refine gP ?_
      refine gO rfl rfl (aOp_indexAddr (i := j) Tryz.underlying44 sz3 rfl p3 rfl (Nat.ble_eq_true_of_le hj)) rfl ?_;refine gO rfl rfl (aOp_loadE1 (k := 0) ag3 rfl (p4.ext e2) rfl) rfl ?_;refine gO rfl rfl (kET rfl rfl) rfl ?_;iterate 3 refine gP ?_
      refine gO rfl rfl (aOp_shr rfl rfl (by omega) rfl) rfl ?_;refine gO rfl rfl (aOp_and1 rfl rfl hl0) rfl ?_;refine gO rfl rfl (kEF rfl rfl) rfl ?_;iterate 5 refine gP ?_
      refine gO rfl rfl (aOp_indexAddr (i := j) Tryz.underlying44 sz3 rfl p3 rfl (Nat.ble_eq_true_of_le hj)) rfl ?_;refine gO rfl rfl (aOp_loadE1 (k := 0) ag3 rfl (p4.ext e2) rfl) rfl ?_;refine gO rfl rfl (kGF rfl rfl) rfl ?_;refine gP ?_;iterate 5 refine GoR.skip rfl rfl rfl ?_
      iterate 2 refine gP ?_
      apply gE;refine gC (b := false) rfl ?_;refine gD ?_;exact done () _ _ ⟨rfl, rfl, rfl, rfl, rfl, rfl, rfl, rfl, rfl, rfl, rfl, rfl, rfl, rfl, rfl, trivial⟩ ⟨e0, e1, f0, fA⟩
     ·have hg0 : ((go : Nat) : Int).fdiv (2 ^ j) % 2 = 0 := by
       have := fun w => hgi.1 w
       have : ¬ ((go : Nat) : Int).fdiv (2 ^ j) % 2 = 1 := fun w => by have := hgi.1 w; omega
       have := Int.emod_two_eq (((go : Nat) : Int).fdiv (2 ^ j))
       omega
      apply gS;refine gR rfl ?_;refine gP ?_;refine gO rfl rfl (kET rfl rfl) rfl ?_;iterate 6 refine gP ?_
      refine gO rfl rfl (kEF rfl rfl) rfl ?_;refine gP ?_;refine GoR.skip rfl rfl rfl ?_;iterate 5 refine gP ?_
      refine gO rfl rfl (aOp_indexAddr (i := j) Tryz.underlying44 sz3 rfl p3 rfl (Nat.ble_eq_true_of_le hj)) rfl ?_;refine gO rfl rfl (aOp_loadE1 (k := 0) ag3 rfl (p4.ext e2) rfl) rfl ?_;refine gO rfl rfl (kEF rfl rfl) rfl ?_;refine gP ?_;iterate 5 refine GoR.skip rfl rfl rfl ?_
      iterate 5 refine gP ?_
      refine gO rfl rfl (aOp_indexAddr (i := j) Tryz.underlying44 sz3 rfl p3 rfl (Nat.ble_eq_true_of_le hj)) rfl ?_;refine gO rfl rfl (aOp_loadE1 (k := 0) ag3 rfl (p4.ext e2) rfl) rfl ?_;refine gO rfl rfl (kGT rfl rfl) rfl ?_;iterate 3 refine gP ?_
      refine gO rfl rfl (aOp_shr rfl rfl (by omega) rfl) rfl ?_;refine gO rfl rfl (aOp_and1 rfl rfl hg0) rfl ?_;refine gO rfl rfl (kEF rfl rfl) rfl ?_;iterate 2 refine gP ?_
      apply gE;refine gC (b := false) rfl ?_;refine gD ?_;exact done () _ _ ⟨rfl, rfl, rfl, rfl, rfl, rfl, rfl, rfl, rfl, rfl, rfl, rfl, rfl, rfl, rfl, trivial⟩ ⟨e0, e1, f0, fA⟩
    ·rw [if_neg r2] at hrv
     by_cases r1 : mm ≤ L1.2
     ·rw [if_pos r1] at hrv;subst hrv
      by_cases y0 : y = 0
      ·have hl0 : ((lo : Nat) : Int).fdiv (2 ^ j) % 2 = 1 := hli.2 (by omega)
       apply gS;refine gR rfl ?_;refine gP ?_;refine gO rfl rfl (kEF rfl rfl) rfl ?_;refine gP ?_;iterate 2 refine GoR.skip rfl rfl rfl ?_
       iterate 3 refine gP ?_
       refine gO rfl rfl (kEF rfl rfl) rfl ?_;refine gP ?_;refine GoR.skip rfl rfl rfl ?_;iterate 5 refine gP ?_
       refine gO rfl rfl (aOp_indexAddr (i := j) Tryz.underlying44 sz3 rfl p3 rfl (Nat.ble_eq_true_of_le hj)) rfl ?_;refine gO rfl rfl (aOp_loadE1 (k := 0) ag3 rfl (p4.ext e2) rfl) rfl ?_;refine gO rfl rfl (kET rfl rfl) rfl ?_;iterate 3 refine gP ?_
       refine gO rfl rfl (aOp_shr rfl rfl (by omega) rfl) rfl ?_;refine gO rfl rfl (aOp_and1 rfl rfl hl0) rfl ?_;refine gO rfl rfl (kEF rfl rfl) rfl ?_;iterate 5 refine gP ?_
       refine gO rfl rfl (aOp_indexAddr (i := j) Tryz.underlying44 sz3 rfl p3 rfl (Nat.ble_eq_true_of_le hj)) rfl ?_;refine gO rfl rfl (aOp_loadE1 (k := 0) ag3 rfl (p4.ext e2) rfl) rfl ?_;refine gO rfl rfl (kGF rfl rfl) rfl ?_;refine gP ?_;iterate 5 refine GoR.skip rfl rfl rfl ?_
       iterate 2 refine gP ?_
       apply gE;refine gC (b := false) rfl ?_;refine gD ?_;exact done () _ _ ⟨rfl, rfl, rfl, rfl, rfl, rfl, rfl, rfl, rfl, rfl, rfl, rfl, rfl, rfl, rfl, trivial⟩ ⟨e0, e1, f0, fA⟩
      ·have hg0 : ((go : Nat) : Int).fdiv (2 ^ j) % 2 = 0 := by
        have := fun w => hgi.1 w
        have : ¬ ((go : Nat) : Int).fdiv (2 ^ j) % 2 = 1 := fun w => by have := hgi.1 w; omega
        have := Int.emod_two_eq (((go : Nat) : Int).fdiv (2 ^ j))
        omega
       apply gS;refine gR rfl ?_;refine gP ?_;refine gO rfl rfl (kEF rfl rfl) rfl ?_;refine gP ?_;iterate 2 refine GoR.skip rfl rfl rfl ?_
       iterate 3 refine gP ?_
       refine gO rfl rfl (kEF rfl rfl) rfl ?_;refine gP ?_;refine GoR.skip rfl rfl rfl ?_;iterate 5 refine gP ?_
       refine gO rfl rfl (aOp_indexAddr (i := j) Tryz.underlying44 sz3 rfl p3 rfl (Nat.ble_eq_true_of_le hj)) rfl ?_;refine gO rfl rfl (aOp_loadE1 (k := 0) ag3 rfl (p4.ext e2) rfl) rfl ?_;refine gO rfl rfl (kEF rfl rfl) rfl ?_;refine gP ?_;iterate 5 refine GoR.skip rfl rfl rfl ?_
       iterate 5 refine gP ?_
       refine gO rfl rfl (aOp_indexAddr (i := j) Tryz.underlying44 sz3 rfl p3 rfl (Nat.ble_eq_true_of_le hj)) rfl ?_;refine gO rfl rfl (aOp_loadE1 (k := 0) ag3 rfl (p4.ext e2) rfl) rfl ?_;refine gO rfl rfl (kGT rfl rfl) rfl ?_;iterate 3 refine gP ?_
       refine gO rfl rfl (aOp_shr rfl rfl (by omega) rfl) rfl ?_;refine gO rfl rfl (aOp_and1 rfl rfl hg0) rfl ?_;refine gO rfl rfl (kEF rfl rfl) rfl ?_;iterate 2 refine gP ?_
       apply gE;refine gC (b := false) rfl ?_;refine gD ?_;exact done () _ _ ⟨rfl, rfl, rfl, rfl, rfl, rfl, rfl, rfl, rfl, rfl, rfl, rfl, rfl, rfl, rfl, trivial⟩ ⟨e0, e1, f0, fA⟩
     ·rw [if_neg r1] at hrv;subst hrv;rw [decide_eq_false (by omega)] at hgq;subst hgq
      by_cases y0 : y = 0
      ·have hl0 : ((lo : Nat) : Int).fdiv (2 ^ j) % 2 = 1 := hli.2 (by omega)
       apply gS;refine gR rfl ?_;refine gP ?_;refine gO rfl rfl (kEF rfl rfl) rfl ?_;refine gP ?_;iterate 2 refine GoR.skip rfl rfl rfl ?_
       iterate 3 refine gP ?_
       refine gO rfl rfl (kET rfl rfl) rfl ?_;iterate 7 refine gP ?_
       refine gO rfl rfl (aOp_indexAddr (i := j) Tryz.underlying44 sz3 rfl p3 rfl (Nat.ble_eq_true_of_le hj)) rfl ?_;refine gO rfl rfl (aOp_loadE1 (k := 0) ag3 rfl (p4.ext e2) rfl) rfl ?_;refine gO rfl rfl (kET rfl rfl) rfl ?_;iterate 3 refine gP ?_
       refine gO rfl rfl (aOp_shr rfl rfl (by omega) rfl) rfl ?_;refine gO rfl rfl (aOp_and1 rfl rfl hl0) rfl ?_;refine gO rfl rfl (kEF rfl rfl) rfl ?_;iterate 5 refine gP ?_
       refine gO rfl rfl (aOp_indexAddr (i := j) Tryz.underlying44 sz3 rfl p3 rfl (Nat.ble_eq_true_of_le hj)) rfl ?_;refine gO rfl rfl (aOp_loadE1 (k := 0) ag3 rfl (p4.ext e2) rfl) rfl ?_;refine gO rfl rfl (kGF rfl rfl) rfl ?_;refine gP ?_;iterate 5 refine GoR.skip rfl rfl rfl ?_
       iterate 2 refine gP ?_
       apply gE;refine gC (b := false) rfl ?_;refine gD ?_;exact done () _ _ ⟨rfl, rfl, rfl, rfl, rfl, rfl, rfl, rfl, rfl, rfl, rfl, rfl, rfl, rfl, rfl, trivial⟩ ⟨e0, e1, f0, fA⟩
      ·have hg0 : ((go : Nat) : Int).fdiv (2 ^ j) % 2 = 0 := by
        have := fun w => hgi.1 w
        have : ¬ ((go : Nat) : Int).fdiv (2 ^ j) % 2 = 1 := fun w => by have := hgi.1 w; omega
        have := Int.emod_two_eq (((go : Nat) : Int).fdiv (2 ^ j))
        omega
       apply gS;refine gR rfl ?_;refine gP ?_;refine gO rfl rfl (kEF rfl rfl) rfl ?_;refine gP ?_;iterate 2 refine GoR.skip rfl rfl rfl ?_
       iterate 3 refine gP ?_
       refine gO rfl rfl (kET rfl rfl) rfl ?_;iterate 7 refine gP ?_
       refine gO rfl rfl (aOp_indexAddr (i := j) Tryz.underlying44 sz3 rfl p3 rfl (Nat.ble_eq_true_of_le hj)) rfl ?_;refine gO rfl rfl (aOp_loadE1 (k := 0) ag3 rfl (p4.ext e2) rfl) rfl ?_;refine gO rfl rfl (kEF rfl rfl) rfl ?_;refine gP ?_;iterate 5 refine GoR.skip rfl rfl rfl ?_
       iterate 5 refine gP ?_
       refine gO rfl rfl (aOp_indexAddr (i := j) Tryz.underlying44 sz3 rfl p3 rfl (Nat.ble_eq_true_of_le hj)) rfl ?_;refine gO rfl rfl (aOp_loadE1 (k := 0) ag3 rfl (p4.ext e2) rfl) rfl ?_;refine gO rfl rfl (kGT rfl rfl) rfl ?_;iterate 3 refine gP ?_
       refine gO rfl rfl (aOp_shr rfl rfl (by omega) rfl) rfl ?_;refine gO rfl rfl (aOp_and1 rfl rfl hg0) rfl ?_;refine gO rfl rfl (kEF rfl rfl) rfl ?_;iterate 2 refine gP ?_
       apply gE;refine gC (b := false) rfl ?_;refine gD ?_;exact done () _ _ ⟨rfl, rfl, rfl, rfl, rfl, rfl, rfl, rfl, rfl, rfl, rfl, rfl, rfl, rfl, rfl, trivial⟩ ⟨e0, e1, f0, fA⟩
   clear e0 e1 f0 fA;rintro _ h60 ⟨e0, e1, f0, fA⟩
   obtain ⟨bw, ow, p5, p6⟩ := (S3.ext e1).at (i := j) (l := [.int .i64 y]) (by rw [List.getElem?_map, List.getElem?_range hj, ← hy]; rfl)
   rw [List.length_map, List.length_range] at p5
   have e3 : Ext h60 h60 := Ext.refl _
   have hIX := fun (x : Unit) => p5
   have again2 := again (m - 1) (j + 1)
   unfold sumTo sumS at again2
   rw [hy] at again2
   cases hb : q.testBit j with
   | true =>
    rw [hb] at hbit again2;apply gS;refine gR rfl ?_;iterate 3 refine gP ?_
    refine gO rfl rfl (aOp_indexAddr (i := j) Tryz.underlying44 sz3 rfl p5 rfl (Nat.ble_eq_true_of_le hj)) rfl ?_;refine gO rfl rfl (aOp_loadE1 (k := 0) ag3 rfl p6 rfl) rfl ?_;refine gO rfl rfl (aA rfl rfl) rfl ?_;refine gP ?_;apply gE;apply gS;refine gR rfl ?_;iterate 2 refine gP ?_
    refine gO rfl rfl (aOp_shr rfl rfl (by omega) rfl) rfl ?_;refine gO rfl rfl (aOp_and1 rfl rfl rfl) rfl ?_;refine gO rfl rfl (aOp_eql rfl rfl hbit) rfl ?_;apply gE;refine gC (b := true) rfl ?_;refine gR rfl ?_;iterate 3 refine gP ?_
    refine gO rfl rfl (aOp_indexAddr (i := j) Tryz.underlying44 sz3 rfl p5 rfl (Nat.ble_eq_true_of_le hj)) rfl ?_;refine gO rfl rfl (aOp_loadE1 (k := 0) ag3 rfl p6 rfl) rfl ?_;refine gO rfl rfl (aA rfl rfl) rfl ?_;refine gP ?_;apply gE;refine Go.inBlock noJ_ok ?_;refine gR rfl ?_;refine gO rfl rfl (aA rfl rfl) rfl ?_;refine gP ?_;apply gE;exact again2 _ _ (by omega) ⟨rfl, rfl, rfl, rfl, rfl, rfl, rfl, rfl, rfl, rfl, rfl, rfl, rfl, rfl, trivial⟩ ⟨by omega, e0, e1, f0, fA⟩
   | false =>
    rw [hb] at hbit again2;apply gS;refine gR rfl ?_;iterate 3 refine gP ?_
    refine gO rfl rfl (aOp_indexAddr (i := j) Tryz.underlying44 sz3 rfl p5 rfl (Nat.ble_eq_true_of_le hj)) rfl ?_;refine gO rfl rfl (aOp_loadE1 (k := 0) ag3 rfl p6 rfl) rfl ?_;refine gO rfl rfl (aA rfl rfl) rfl ?_;refine gP ?_;apply gE;apply gS;refine gR rfl ?_;iterate 2 refine gP ?_
    refine gO rfl rfl (aOp_shr rfl rfl (by omega) rfl) rfl ?_;refine gO rfl rfl (aOp_and1 rfl rfl rfl) rfl ?_;refine gO rfl rfl (aOp_eql rfl rfl hbit) rfl ?_;apply gE;refine gC (b := false) rfl ?_;refine gD ?_;refine Go.inBlock noJ_ok ?_;refine gR rfl ?_;refine gO rfl rfl (aA rfl rfl) rfl ?_;refine gP ?_;apply gE;exact again2 _ _ (by omega) ⟨rfl, rfl, rfl, rfl, rfl, rfl, rfl, rfl, rfl, rfl, rfl, rfl, rfl, rfl, trivial⟩ ⟨by omega, e0, e1, f0, fA⟩
  ·have hjn : j = C.ps.length := by omega
   subst hjn;clear again
   obtain ⟨su, hsu⟩ : ∃ a, sumTo lv C.ps.length = a := ⟨_, rfl⟩
   obtain ⟨so, hso⟩ : ∃ a, sumS q lv C.ps.length = a := ⟨_, rfl⟩
   rw [hsu] at hta;rw [hso] at hts;rw [hsu, hso]
   have hN4 := fun {h9 : AH} => inside33_is (h := h9) (n := su) (lo := AL.1) (hi := AL.2) (decide_eq_true hta)
   rcases hcc with ⟨rfl, hcc⟩ | rfl
   ·have hso2 : ((n : Nat) : Int) ≤ so := by omega
    apply gS;refine gR rfl ?_;refine gO rfl rfl (kLF rfl rfl) rfl ?_;apply gE;apply gS;refine gC (b := false) rfl ?_;refine gD ?_;apply gS;refine gR rfl ?_;refine gP ?_;refine gO rfl rfl (ld24 rfl fA rfl) rfl ?_;refine GoR.call rfl rfl (aCF aFunc33 rfl) (hN4) ?_ np;rintro v51 h51 ⟨q, x51⟩;cases q;refine ⟨_, rfl, ?_⟩;replace fA := fA.ext x51;replace e0 := e0.trans x51;iterate 2 refine gP ?_
    refine gO rfl rfl (kXF rfl rfl) rfl ?_;iterate 3 refine gP ?_
    refine gO rfl rfl (kNT rfl rfl) rfl ?_;iterate 3 refine gP ?_
    refine GoR.call rfl rfl (aCF aFunc12 rfl) (alive_ok) ?_ np;rintro v52 h52 ⟨q, x52⟩;cases q;refine ⟨_, rfl, ?_⟩;replace fA := fA.ext x52;replace e0 := e0.trans x52;iterate 2 refine gP ?_
    apply gE;exact gW Tryz.func5 rfl rfl ⟨rfl, e0⟩
   ·apply gS;refine gR rfl ?_;refine gO rfl rfl (kLF rfl rfl) rfl ?_;apply gE;apply gS;refine gC (b := false) rfl ?_;refine gD ?_;apply gS;refine gR rfl ?_;refine gP ?_;refine gO rfl rfl (ld24 rfl fA rfl) rfl ?_;refine GoR.call rfl rfl (aCF aFunc33 rfl) (hN4) ?_ np;rintro v51 h51 ⟨q, x51⟩;cases q;refine ⟨_, rfl, ?_⟩;replace fA := fA.ext x51;replace e0 := e0.trans x51;iterate 2 refine gP ?_
    refine gO rfl rfl (kXT rfl rfl) rfl ?_;refine gP ?_;iterate 3 refine GoR.skip rfl rfl rfl ?_
    iterate 3 refine gP ?_
    refine GoR.call rfl rfl (aCF aFunc12 rfl) (alive_ok) ?_ np;rintro v52 h52 ⟨q, x52⟩;cases q;refine ⟨_, rfl, ?_⟩;replace fA := fA.ext x52;replace e0 := e0.trans x52;iterate 2 refine gP ?_
    apply gE;exact gW Tryz.func5 rfl rfl ⟨rfl, e0⟩
theorem law5 {C : ClampV} {p e qv : AVal} {h : AH} (A : ClampAt h C p e) (hb : C.ps.length < 9223372036854775808 ∧ C.es.length < 9223372036854775808) {w2 : Int} (h2 : 0 ≤ w2 ∧ w2 < 65536) {bs : List Int} (hbs : ∀ x, x ∈ bs → 0 ≤ x ∧ x < 65536) (hlen : bs.length < 9223372036854775808) (Q : SliceOf h 1 qv (u16s bs)) : Runs Tryz.prog 5 [.agg (C.cells p e), qv, .int .u16 w2] h (fun en h' => en = .ret (.bool true) ∧ Ext h h') := by
 by_cases O : C.Ok
 ·have := law5_ok A O (w := w2.toNat) (by omega) hbs hlen Q
  rw [Int.toNat_of_nonneg h2.1] at this;exact this
 ·exact law5_bad A hb O
end Go.Proofs.YtobhkdgcciolmaaGreat

namespace Go.Proofs.YtobhkdgcciolmaaGreat
open Go Go.AbsE Go.ChangeShapes Go.WideShapes Go.ChangeAt Go.RowKit
set_option linter.unusedSimpArgs false
set_option maxRecDepth 100000
set_option linter.unusedVariables false
section
variable {H : Type} {enc : TypeId × Value → H} {W : World} {base : Nat} {spare : Nat → Bool} {held : Bool}
theorem cells42 : Tryz.prog.cellsOf 42 = 1 := by kernel_rfl
theorem wf_u16 {n : Int} (h : (Lit.int .u16 n).wf = true) : 0 ≤ n ∧ n < 65536 := by
 simp only [Lit.wf, Bool.and_eq_true, decide_eq_true_eq] at h
 have h1 : IntKind.u16.min = 0 := by decide
 have h2 : IntKind.u16.max = 65535 := by decide
 omega
theorem u16s_of {c : Value} {fuel : Nat} {y : DataW H × List MemPlace} {bs : Nat} (h : DataW.trod enc Tryz.prog W 0 (fun _ => true) true fuel 41 [c] = some y) (hok : Cell.okWide Tryz.prog W .any bs 41 c) {e : Env} {hh : AH} (r : HR Tryz.prog (Base.all W) e hh W) :
  ∃ e' h' s, ∃ R : List Int, Env.le e e' ∧ HR Tryz.prog (Base.all W) e' h' W ∧ Ext hh h' ∧ VR e' s c ∧ (∀ x, x ∈ R → 0 ≤ x ∧ x < 65536) ∧ R.length < 9223372036854775808 ∧ SliceOf h' 1 s (u16s R) := by
 rcases Deep.open_slice Tryz.underlying41 h with ⟨hcs, _⟩ | ⟨a, len, cap, m, n, D, Pl, hcs, _, hl, _, hmm, _, hx⟩
 ·simp at hcs
  subst hcs;exact ⟨e, hh, .nilslice, [], Env.le_refl e, r, Ext.refl _, .nilslice, (fun _ q => by cases q), (by decide), .nil⟩
 ·simp at hcs
  subst hcs
  obtain ⟨hs, C, el', fr, hB⟩ := slice_okw Tryz.underlying41 hok
  have hcap := slice_cap Tryz.underlying41 hok
  have hm : m = cap := by simpa using hmm
  have each : ∀ i, ∃ rr : Int, i < len → (0 ≤ rr ∧ rr < 65536) ∧ W.cell? (a.add (i * 1)) = some (.int .u16 rr) := by
   intro i
   by_cases hi : i < len
   ·obtain ⟨cs', h1, h2⟩ := hx i (by omega)
    obtain ⟨v, hv, _, hwf⟩ := DataW.trod_int Tryz.underlying42 h2
    rw [cells42] at h1
    obtain ⟨_, hlen, hc⟩ := World.cells?_some h1
    refine ⟨v, fun _ => ⟨wf_u16 hwf, ?_⟩⟩
    have := hc 0 (by omega)
    obtain ⟨B, off, spot⟩ := a
    dsimp only at hs
    subst hs;rw [addr_add, addr_add] at this;rw [addr_add, ← Nat.add_zero (off + i * 1), this, hv]
    rfl
   ·exact ⟨0, fun q => absurd q hi⟩
  obtain ⟨f, hf⟩ := Classical.axiomOfChoice each
  obtain ⟨e', h', s, k1, k2, k3, k4, k5, k6⟩ := r.openRowsG (fun x => AVal.int .u16 x) (fun x => Value.int .u16 x) (fun _ _ => .int _ _) (cap := cap) (len := len) (sz := 1) hB hs (fun i => [f i]) (fun i hi => ⟨rfl, fun k n hk => by
   match k, hk with
   | 0, hk =>
    cases hk
    exact (hf i hi).2⟩)
  refine ⟨e', h', s, (List.range len).map f, k1, k2, k3, k4, fun l hl => ?_, by simpa using hcap, ?_⟩
  ·obtain ⟨i, hi, rfl⟩ := List.mem_map.1 hl
   exact (hf i (List.mem_range.1 hi)).1
  ·rw [List.map_map] at k5
   unfold u16s
   rw [List.map_map];exact k5
end
end Go.Proofs.YtobhkdgcciolmaaGreat
