/- CutTrue: for all arguments the program answers so that the statement is true. A truth by remainders gives a leak, a depth of each day and looks that are right (truly13_ok); this is a truth of the cut with these looks (truth_in), so nothing clashes and leak and depths are within what is returned; what a boat needs lies within its span, so it floats on each day on which it surely does, and on none on which it never does (sure_in, hsure); so too on the day that is returned. -/
import Derived.Test.YteibheeleeengaaMAS
import Derived.Test.YteibheeleeengaaMAT
namespace Go.Proofs.Yteibheeleeengaa.cutTrue
open Go.ChangeShapes Go.WideShapes Go.ChangeAt Go.RowKit Go.AbsE
set_option linter.unusedSimpArgs false
set_option linter.unusedVariables false
theorem own : ownKnob Try.prog.godebug = none := by kernel_rfl
set_option maxRecDepth 100000 in
theorem lifted (os : Os) (started : os.Started) (H : Type) (enc : TypeId × Value → H) :
  ReturnsInHanded {} Try.checked os 3 .any (Rows.cutTrueSpec.pre6 enc Try.prog Try.f3 Rows.cutTrueRow.domain false) (Rows.cutTrueSpec.post enc Try.prog Try.f3 false true false false) := by
 refine returnsInHanded_of_change (C := Try.checked) own started (by kernel_rfl) Try.func3
  (ChangeSpec.witness6 (enc := enc) (C := Try.checked) false ⟨#[], #[.agg #[.int .i64 0, .int .i64 0, .int .i64 0, .int .i64 0, .slice none 0 0, .int .i64 0, .slice none 0 0, .slice none 0 0], .int .u8 0, .int .u8 0, .slice none 0 0], []⟩ 3 (by kernel_rfl) (by kernel_rfl) (by kernel_rfl) (by kernel_rfl)) ?_
 intro W base args ds gs before hval0 hW hcnd _
 have hval : ∀ (j : Nat) t v, Try.f3.params[j]? = some t → args[j]? = some v → Value.okWide Try.prog W .any base t v := hval0
 have hW' := hW
 obtain ⟨p, q, hA0, hV, rfl, hfz, hnd⟩ := hW
 have hA : DataW.TrodAll enc Try.prog W 0 (fun _ => true) true Try.f3.params.toList args.toList ds p := hA0
 rw [Try.params3] at hA hval
 obtain ⟨v0, vs0, d0, ds0, p0, q0, hargs, rfl, rfl, h0, r0⟩ := trodAll_cons hA
 obtain ⟨v1, vs1, d1, ds1, p1, q1, rfl, rfl, rfl, h1, r1⟩ := trodAll_cons r0
 obtain ⟨v2, vs2, d2, ds2, p2, q2, rfl, rfl, rfl, h2, r2⟩ := trodAll_cons r1
 obtain ⟨v3, vs3, d3, ds3, p3, q3, rfl, rfl, rfl, h3, r3⟩ := trodAll_cons r2
 obtain ⟨rfl, rfl, rfl⟩ := trodAll_nil r3
 obtain rfl : args = #[v0, v1, v2, v3] := by cases args; simp_all
 obtain ⟨rfl, rfl⟩ := trodVars_none hV
 obtain ⟨a1, rfl, rfl, rfl, w1⟩ := open_int Try.underlying5 (hval 1 5 v1 rfl rfl) h1
 obtain ⟨a2, rfl, rfl, rfl, w2⟩ := open_int Try.underlying5 (hval 2 5 v2 rfl rfl) h2
 clear hA0 hval0
 simp only [List.append_nil] at hW'
 obtain ⟨e', h', F, rsl, bsl, lsl, le1, hr, _, hv, B, L1, L2, L3, L4⟩ := cut_of (hval 0 28 v0 rfl rfl) h0 (HR.start Try.prog W)
 have hb1 : 0 ≤ a1 ∧ a1 < 256 := by
  simp only [Lit.wf, Bool.and_eq_true, decide_eq_true_eq] at w1
  have k1 : IntKind.u8.min = 0 := by decide
  have k2 : IntKind.u8.max = 255 := by decide
  omega
 have hb2 : 0 ≤ a2 ∧ a2 < 256 := by
  simp only [Lit.wf, Bool.and_eq_true, decide_eq_true_eq] at w2
  have k1 : IntKind.u8.min = 0 := by decide
  have k2 : IntKind.u8.max = 255 := by decide
  omega
 have hok := hval 3 29 v3 rfl rfl
 have hok2 : Cell.okWide Try.prog W .any base 29 v3 := by
  unfold Value.okWide at hok
  rw [Try.underlying29] at hok
  exact hok
 have hcs1 : v3.cells.toList = [v3] := by
  have hok3 := hok2
  unfold Cell.okWide at hok3
  rw [Try.underlying29] at hok3
  dsimp only at hok3
  unfold Cell.ok at hok3
  rw [Try.underlying29] at hok3
  cases v3 <;> first | rfl | exact hok3.elim
 have hx1 := h3
 obtain ⟨fuel, hf⟩ := hx1
 rw [hcs1] at hf
 obtain ⟨e2, hh2, s, R, le2, hr2, x2, hv2', hR1, hR2, hR3⟩ := u16s_of hf hok2 hr
 refine ((law3 (B.ext x2) ⟨L1, L2, L3⟩ hb1 hb2 hR1 hR2 hR3).calls (fun _ _ q => by cases q.1) hr2 (.cons (hv.mono le2) (.cons (.int _ _) (.cons (.int _ _) (.cons (hv2') .nil))))).mono ?_
 rintro e W' ⟨v, hh3, e2, V, ⟨hR, _⟩, rfl, hV2, hHR⟩
 have hR := AEnd.ret.inj hR
 subst hR
 cases hV2
 have hg := hHR.grown
 obtain ⟨s1, s2, s3, s4, s5, _⟩ := hHR.isStill
 have hbelow : Below W.heap.size W W' := ⟨s1, s2, s3, s4, s5⟩
 have hlt0 : ∀ x ∈ p0, x.block < W.heap.size := fun x hx => hW'.lt x (by simp [hx])
 have hlt3 : ∀ x ∈ p3, x.block < W.heap.size := fun x hx => hW'.lt x (by simp [hx])
 exact ⟨_, rfl, post_of_same (pa := p0 ++ ([] ++ ([] ++ (p3)))) (pv := []) hW' (fun _ _ _ => (trodAll_cons_mk (shut_bool Try.underlying4 _) trodAll_mk0))
  (fun sp hsp => trodAll_mk4 (WideElems.Trod_stays laidOut (by kernel_rfl) (of_decide_eq_true (by kernel_rfl)) h0 (fun x hx => hbelow.same (hlt0 x hx)) (fun x hx => hsp x (by simp [hx]))) (shut_int Try.underlying5 w1) (shut_int Try.underlying5 w2) (WideElems.Trod_stays laidOut (by kernel_rfl) (of_decide_eq_true (by kernel_rfl)) h3 (fun x hx => hbelow.same (hlt3 x hx)) (fun x hx => hsp x (by simp [hx])))) (fun _ _ => rfl) (by simp)
  (hg.frame _) hg.2.1 (ok_one (by kernel_rfl) rfl (okWide_bool_mk Try.underlying4 _))⟩
theorem over : Rows.cutTrueRow.holds Try.pinned (OpenSpec.ofChange Rows.cutTrueSpec) :=
 OpenClaim.holds_of_wide 3 Try.f3 rfl rfl rfl rfl rfl rfl rfl ⟨rfl, rfl, rfl, rfl, rfl⟩ rfl rfl rfl rfl rfl (by kernel_rfl) Try.func3 (by kernel_rfl)
  (of_decide_eq_true (by kernel_rfl)) (by unfold Func.isWrapper; first | (rw [if_pos (by decide +kernel)]; kernel_rfl) | (rw [if_neg (by decide +kernel)]; exact ⟨rfl, rfl⟩))
  (fun os started H enc _ => lifted os started H enc)
theorem proved : Rows.CutTrueSaid :=
 over
end Go.Proofs.Yteibheeleeengaa.cutTrue
