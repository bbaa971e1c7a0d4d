/- DrainTrue: for all arguments the program answers so that the statement is true. A truth by remainders gives levels, yields and what was seen rightly (truly24_ok); these levels are a truth of the drains with what was seen (saw_truth), so nothing clashes (saw_clash), and the next bank, the end, the water and the flow are among what is returned (nexts_in, ends_in, waters_in, flow_in); with the drains stopped no right is broken (brk_stopped, by stop_ex); and each bank comes to just one end, so the water of all ends is that of all yields (sum_out). -/
import Derived.Test.YtkhiagdmbajimaaMAT
import Derived.Test.YtkhiagdmbajimaaMAU
namespace Go.Proofs.Ytkhiagdmbajimaa.drainTrue
open Go.ChangeShapes Go.WideShapes Go.ChangeAt Go.RowKit Go.AbsE
set_option linter.unusedSimpArgs false
set_option linter.unusedVariables false
theorem own : ownKnob Try.prog.godebug = none := by kernel_rfl
set_option maxRecDepth 100000 in
theorem lifted (os : Os) (started : os.Started) (H : Type) (enc : TypeId × Value → H) :
  ReturnsInHanded {} Try.checked os 4 .any (Rows.drainTrueSpec.pre6 enc Try.prog Try.f4 Rows.drainTrueRow.domain false) (Rows.drainTrueSpec.post enc Try.prog Try.f4 false true false false) := by
 refine returnsInHanded_of_change (C := Try.checked) own started (by kernel_rfl) Try.func4
  (ChangeSpec.witness6 (enc := enc) (C := Try.checked) false ⟨#[], #[.agg #[.slice none 0 0, .slice none 0 0, .slice none 0 0, .slice none 0 0], .slice none 0 0], []⟩ 4 (by kernel_rfl) (by kernel_rfl) (by kernel_rfl) (by kernel_rfl)) ?_
 intro W base args ds gs before hval0 hW hcnd _
 have hval : ∀ (j : Nat) t v, Try.f4.params[j]? = some t → args[j]? = some v → Value.okWide Try.prog W .any base t v := hval0
 have hW' := hW
 obtain ⟨p, q, hA0, hV, rfl, hfz, hnd⟩ := hW
 have hA : DataW.TrodAll enc Try.prog W 0 (fun _ => true) true Try.f4.params.toList args.toList ds p := hA0
 rw [Try.params4] at hA hval
 obtain ⟨v0, vs0, d0, ds0, p0, q0, hargs, rfl, rfl, h0, r0⟩ := trodAll_cons hA
 obtain ⟨v1, vs1, d1, ds1, p1, q1, rfl, rfl, rfl, h1, r1⟩ := trodAll_cons r0
 obtain ⟨rfl, rfl, rfl⟩ := trodAll_nil r1
 obtain rfl : args = #[v0, v1] := by cases args; simp_all
 obtain ⟨rfl, rfl⟩ := trodVars_none hV
 clear hA0 hval0
 simp only [List.append_nil] at hW'
 obtain ⟨e', h', F, rsl, bsl, lsl, msl, le1, hr, _, hv, B, L, C1, C2, C3, C4⟩ := drain_of (hval 0 29 v0 rfl rfl) h0 (HR.start Try.prog W)
 have hok := hval 1 45 v1 rfl rfl
 have hok2 : Cell.okWide Try.prog W .any base 45 v1 := by
  unfold Value.okWide at hok
  rw [Try.underlying45] at hok
  exact hok
 have hcs1 : v1.cells.toList = [v1] := by
  have hok3 := hok2
  unfold Cell.okWide at hok3
  rw [Try.underlying45] at hok3
  dsimp only at hok3
  unfold Cell.ok at hok3
  rw [Try.underlying45] at hok3
  cases v1 <;> first | rfl | exact hok3.elim
 have hx1 := h1
 obtain ⟨fuel, hf⟩ := hx1
 rw [hcs1] at hf
 obtain ⟨e2, hh2, s, R, le2, hr2, x2, hv2', hR1, hR2, hR3⟩ := u16s_of hf hok2 hr
 refine ((law4 (B.ext x2) L hR1 hR2 hR3).calls (fun _ _ q => by cases q.1) hr2 (.cons (hv.mono le2) (.cons (hv2') .nil))).mono ?_
 rintro e W' ⟨v, hh3, e2, V, ⟨hR, _⟩, rfl, hV2, hHR⟩
 have hR := AEnd.ret.inj hR
 subst hR
 cases hV2
 have hg := hHR.grown
 obtain ⟨s1, s2, s3, s4, s5, _⟩ := hHR.isStill
 have hbelow : Below W.heap.size W W' := ⟨s1, s2, s3, s4, s5⟩
 have hlt0 : ∀ x ∈ p0, x.block < W.heap.size := fun x hx => hW'.lt x (by simp [hx])
 have hlt1 : ∀ x ∈ p1, x.block < W.heap.size := fun x hx => hW'.lt x (by simp [hx])
 exact ⟨_, rfl, post_of_same (pa := p0 ++ (p1)) (pv := []) hW' (fun _ _ _ => (trodAll_cons_mk (shut_bool Try.underlying4 _) trodAll_mk0))
  (fun sp hsp => trodAll_mk2 (WideElems.Trod_stays laidOut (by kernel_rfl) (of_decide_eq_true (by kernel_rfl)) h0 (fun x hx => hbelow.same (hlt0 x hx)) (fun x hx => hsp x (by simp [hx]))) (WideElems.Trod_stays laidOut (by kernel_rfl) (of_decide_eq_true (by kernel_rfl)) h1 (fun x hx => hbelow.same (hlt1 x hx)) (fun x hx => hsp x (by simp [hx])))) (fun _ _ => rfl) (by simp)
  (hg.frame _) hg.2.1 (ok_one (by kernel_rfl) rfl (okWide_bool_mk Try.underlying4 _))⟩
theorem over : Rows.drainTrueRow.holds Try.pinned (OpenSpec.ofChange Rows.drainTrueSpec) :=
 OpenClaim.holds_of_wide 4 Try.f4 rfl rfl rfl rfl rfl rfl rfl ⟨rfl, rfl, rfl, rfl, rfl⟩ rfl rfl rfl rfl rfl (by kernel_rfl) Try.func4 (by kernel_rfl)
  (of_decide_eq_true (by kernel_rfl)) (by unfold Func.isWrapper; first | (rw [if_pos (by decide +kernel)]; kernel_rfl) | (rw [if_neg (by decide +kernel)]; exact ⟨rfl, rfl⟩))
  (fun os started H enc _ => lifted os started H enc)
theorem proved : Rows.DrainTrueSaid :=
 over
end Go.Proofs.Ytkhiagdmbajimaa.drainTrue
