/- of a clamp with right counts whatever the sizes, the sods of a foot and of each sale truly were nothing clashes, and what was built, is left, was sold, is empty, is enough and is shared lies within what is returned, for all clamps, truths by remainders, and sods -/
import Derived.Test.YtobhkdgcciolmaaGreatMAT
import Derived.Test.YtobhkdgcciolmaaGreatMAR
namespace Go.Proofs.YtobhkdgcciolmaaGreat.clampTrue
open Go.ChangeShapes Go.WideShapes Go.ChangeAt Go.RowKit Go.AbsE
set_option linter.unusedSimpArgs false
set_option linter.unusedVariables false
theorem own : ownKnob Tryz.prog.godebug = none := by kernel_rfl
set_option maxRecDepth 100000 in
theorem lifted (os : Os) (started : os.Started) (H : Type) (enc : TypeId × Value → H) :
  ReturnsInHanded {} Tryz.checked os 5 .any (Rows.clampTrueSpec.pre6 enc Tryz.prog Tryz.f5 Rows.clampTrueRow.domain false) (Rows.clampTrueSpec.post enc Tryz.prog Tryz.f5 false true false false) := by
 refine returnsInHanded_of_change (C := Tryz.checked) own started (by kernel_rfl) Tryz.func5
  (ChangeSpec.witness6 (enc := enc) (C := Tryz.checked) false ⟨#[], #[.agg #[.slice none 0 0, .int .i64 0, .int .i64 0, .slice none 0 0], .slice none 0 0, .int .u16 0], []⟩ 5 (by kernel_rfl) (by kernel_rfl) (by kernel_rfl) (by kernel_rfl)) ?_
 intro W base args ds gs before hval0 hW hcnd _
 have hval : ∀ (j : Nat) t v, Tryz.f5.params[j]? = some t → args[j]? = some v → Value.okWide Tryz.prog W .any base t v := hval0
 have hW' := hW
 obtain ⟨p, q, hA0, hV, rfl, hfz, hnd⟩ := hW
 have hA : DataW.TrodAll enc Tryz.prog W 0 (fun _ => true) true Tryz.f5.params.toList args.toList ds p := hA0
 rw [Tryz.params5] at hA hval
 obtain ⟨v0, vs0, d0, ds0, p0, q0, hargs, rfl, rfl, h0, r0⟩ := trodAll_cons hA
 obtain ⟨v1, vs1, d1, ds1, p1, q1, rfl, rfl, rfl, h1, r1⟩ := trodAll_cons r0
 obtain ⟨v2, vs2, d2, ds2, p2, q2, rfl, rfl, rfl, h2, r2⟩ := trodAll_cons r1
 obtain ⟨rfl, rfl, rfl⟩ := trodAll_nil r2
 obtain rfl : args = #[v0, v1, v2] := by cases args; simp_all
 obtain ⟨rfl, rfl⟩ := trodVars_none hV
 obtain ⟨a2, rfl, rfl, rfl, w2⟩ := open_int Tryz.underlying42 (hval 2 42 v2 rfl rfl) h2
 clear hA0 hval0
 simp only [List.append_nil] at hW'
 obtain ⟨e', h', F, psl, esl, le1, hr, _, hv, B, L1, L2, L3⟩ := clamp_of (hval 0 27 v0 rfl rfl) h0 (HR.start Tryz.prog W)
 have hb2 : 0 ≤ a2 ∧ a2 < 65536 := by
  simp only [Lit.wf, Bool.and_eq_true, decide_eq_true_eq] at w2
  have k1 : IntKind.u16.min = 0 := by decide
  have k2 : IntKind.u16.max = 65535 := by decide
  omega
 have hok := hval 1 41 v1 rfl rfl
 have hok2 : Cell.okWide Tryz.prog W .any base 41 v1 := by
  unfold Value.okWide at hok
  rw [Tryz.underlying41] at hok
  exact hok
 have hcs1 : v1.cells.toList = [v1] := by
  have hok3 := hok2
  unfold Cell.okWide at hok3
  rw [Tryz.underlying41] at hok3
  dsimp only at hok3
  unfold Cell.ok at hok3
  rw [Tryz.underlying41] at hok3
  cases v1 <;> first | rfl | exact hok3.elim
 have hx1 := h1
 obtain ⟨fuel, hf⟩ := hx1
 rw [hcs1] at hf
 obtain ⟨e2, hh2, s, R, le2, hr2, x2, hv2', hR1, hR2, hR3⟩ := u16s_of hf hok2 hr
 refine ((law5 (B.ext x2) ⟨L1, L2⟩ hb2 hR1 hR2 hR3).calls (fun _ _ q => by cases q.1) hr2 (.cons (hv.mono le2) (.cons (hv2') (.cons (.int _ _) .nil)))).mono ?_
 rintro e W' ⟨v, hh3, e2, V, ⟨hR, _⟩, rfl, hV2, hHR⟩
 have hR := AEnd.ret.inj hR
 subst hR
 cases hV2
 have hg := hHR.grown
 obtain ⟨s1, s2, s3, s4, s5, _⟩ := hHR.isStill
 have hbelow : Below W.heap.size W W' := ⟨s1, s2, s3, s4, s5⟩
 have hlt0 : ∀ x ∈ p0, x.block < W.heap.size := fun x hx => hW'.lt x (by simp [hx])
 have hlt1 : ∀ x ∈ p1, x.block < W.heap.size := fun x hx => hW'.lt x (by simp [hx])
 exact ⟨_, rfl, post_of_same (pa := p0 ++ (p1 ++ ([]))) (pv := []) hW' (fun _ _ _ => (trodAll_cons_mk (shut_bool Tryz.underlying4 _) trodAll_mk0))
  (fun sp hsp => trodAll_mk3 (WideElems.Trod_stays laidOut (by kernel_rfl) (of_decide_eq_true (by kernel_rfl)) h0 (fun x hx => hbelow.same (hlt0 x hx)) (fun x hx => hsp x (by simp [hx]))) (WideElems.Trod_stays laidOut (by kernel_rfl) (of_decide_eq_true (by kernel_rfl)) h1 (fun x hx => hbelow.same (hlt1 x hx)) (fun x hx => hsp x (by simp [hx]))) (shut_int Tryz.underlying42 w2)) (fun _ _ => rfl) (by simp)
  (hg.frame _) hg.2.1 (ok_one (by kernel_rfl) rfl (okWide_bool_mk Tryz.underlying4 _))⟩
theorem over : Rows.clampTrueRow.holds Tryz.pinned (OpenSpec.ofChange Rows.clampTrueSpec) :=
 OpenClaim.holds_of_wide 5 Tryz.f5 rfl rfl rfl rfl rfl rfl rfl ⟨rfl, rfl, rfl, rfl, rfl⟩ rfl rfl rfl rfl rfl (by kernel_rfl) Tryz.func5 (by kernel_rfl)
  (of_decide_eq_true (by kernel_rfl)) (by unfold Func.isWrapper; first | (rw [if_pos (by decide +kernel)]; kernel_rfl) | (rw [if_neg (by decide +kernel)]; exact ⟨rfl, rfl⟩))
  (fun os started H enc _ => lifted os started H enc)
theorem proved : Rows.ClampTrueSaid :=
 over
end Go.Proofs.YtobhkdgcciolmaaGreat.clampTrue
