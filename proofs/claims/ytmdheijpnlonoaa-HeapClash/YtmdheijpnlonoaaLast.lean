/- The law HeapClash of bogworkslaw03 returns true for all heaps and any number, and changes nothing that it was handed: what False and Clash return are the least sets of looks without which there is a truth, and with which alone there is none; no condition. -/
import Derived.Test.YtmdheijpnlonoaaMAS
import Derived.Test.YtmdheijpnlonoaaMAT
namespace Go.Proofs.Ytmdheijpnlonoaa.heapClash
open Go.ChangeShapes Go.WideShapes Go.ChangeAt Go.RowKit Go.AbsE
set_option linter.unusedSimpArgs false
set_option linter.unusedVariables false

theorem own : ownKnob Try.prog.godebug = none := by kernel_rfl

/-- The walk, for whatever heaps. -/
theorem walk {h : AH} {F : FieldV} {hsl rsl lsl : AVal} (A : FieldAt h F hsl rsl lsl) {w : Int} (hw : 0 ≤ w ∧ w < 256) :
    Runs Try.prog 8 [.agg (F.cells hsl rsl lsl), .int .u8 w] h (fun en h' => en = .ret (.bool true) ∧ Ext h h') := by
  have h1 := A.hs.len
  have h2 := A.rs.len
  have h3 := A.ls.len
  rw [List.length_map] at h1 h2 h3
  obtain ⟨n, rfl⟩ := Int.eq_ofNat_of_zero_le hw.1
  by_cases hl : F.hs.length ≤ 40 ∧ F.rs.length ≤ 40 ∧ F.looks.length ≤ 40
  · by_cases O : F.Ok
    · cases hc : F.canB with
      | true => exact law8_free O hc hsl rsl lsl h A (by omega)
      | false => exact law8_cl O hc hsl rsl lsl h A (by omega)
    · exact law8_bad O hsl rsl lsl h A hl.1 hl.2.1 hl.2.2 n
  · exact law8_long F hsl rsl lsl _ _ _ h1 h2 h3 (decide_eq_true (by omega)) n h

set_option maxRecDepth 100000 in
theorem lifted (os : Os) (started : os.Started) (H : Type) (enc : TypeId × Value → H) :
    ReturnsInHanded {} Try.checked os 8 .any (Rows.heapClashSpec.pre6 enc Try.prog Try.f8 Rows.heapClashRow.domain false) (Rows.heapClashSpec.post enc Try.prog Try.f8 false true false false) := by
  refine returnsInHanded_of_change (C := Try.checked) own started (by kernel_rfl) Try.func8
    (ChangeSpec.witness6 (enc := enc) (C := Try.checked) false ⟨#[], #[.agg #[.slice none 0 0, .slice none 0 0, .int .i64 0, .int .i64 0, .int .i64 0, .int .i64 0, .slice none 0 0], .int .u8 0], []⟩ 8 (by kernel_rfl) (by kernel_rfl) (by kernel_rfl) (by kernel_rfl)) ?_
  intro W base args ds gs before hval0 hW hcnd _
  have hval : ∀ (j : Nat) t v, Try.f8.params[j]? = some t → args[j]? = some v → Value.okWide Try.prog W .any base t v := hval0
  have hW' := hW
  obtain ⟨p, q, hA0, hV, rfl, hfz, hnd⟩ := hW
  have hA : DataW.TrodAll enc Try.prog W 0 (fun _ => true) true Try.f8.params.toList args.toList ds p := hA0
  rw [Try.params8] at hA hval
  obtain ⟨v0, vs0, d0, ds0, p0, q0, hargs, rfl, rfl, h0, r0⟩ := trodAll_cons hA
  obtain ⟨v1, vs1, d1, ds1, p1, q1, rfl, rfl, rfl, h1, r1⟩ := trodAll_cons r0
  obtain ⟨rfl, rfl, rfl⟩ := trodAll_nil r1
  obtain rfl : args = #[v0, v1] := by cases args; simp_all
  obtain ⟨rfl, rfl⟩ := trodVars_none hV
  obtain ⟨a1, rfl, rfl, rfl, w1⟩ := open_int Try.underlying5 (hval 1 5 v1 rfl rfl) h1
  clear hA0 hval0
  simp only [List.append_nil] at hW'
  obtain ⟨e', h', F, hsl, rsl, lsl, _, hr, _, hv, B⟩ := heap_of (hval 0 27 v0 rfl rfl) h0 (HR.start Try.prog W)
  have hw : 0 ≤ a1 ∧ a1 < 256 := by
    simp only [Lit.wf, Bool.and_eq_true, decide_eq_true_eq] at w1
    have k1 : IntKind.u8.min = 0 := by decide
    have k2 : IntKind.u8.max = 255 := by decide
    omega
  refine ((walk B hw).calls (fun _ _ q => by cases q.1) hr (.cons hv (.cons (.int _ _) .nil))).mono ?_
  rintro e W' ⟨v, h3, e2, V, ⟨hR, _⟩, rfl, hV2, hHR⟩
  have hR := AEnd.ret.inj hR
  subst hR
  cases hV2
  have hg := hHR.grown
  obtain ⟨s1, s2, s3, s4, s5, _⟩ := hHR.isStill
  have hbelow : Below W.heap.size W W' := ⟨s1, s2, s3, s4, s5⟩
  have hlt : ∀ x ∈ p0, x.block < W.heap.size := fun x hx => by simpa using hW'.lt x hx
  exact ⟨_, rfl, post_of_same (pa := p0 ++ []) (pv := []) hW' (fun _ _ _ => (trodAll_cons_mk (shut_bool Try.underlying4 _) trodAll_mk0))
    (fun sp hsp => trodAll_mk2 (WideElems.Trod_stays laidOut (by kernel_rfl) (of_decide_eq_true (by kernel_rfl)) h0 (fun x hx => hbelow.same (hlt x hx)) (fun x hx => hsp x hx)) (shut_int Try.underlying5 w1)) (fun _ _ => rfl) (by simp)
    (hg.frame _) hg.2.1 (ok_one (by kernel_rfl) rfl (okWide_bool_mk Try.underlying4 _))⟩

theorem over : Rows.heapClashRow.holds Try.pinned (OpenSpec.ofChange Rows.heapClashSpec) :=
  OpenClaim.holds_of_wide 8 Try.f8 rfl rfl rfl rfl rfl rfl rfl ⟨rfl, rfl, rfl, rfl, rfl⟩ rfl rfl rfl rfl rfl (by kernel_rfl) Try.func8 (by kernel_rfl)
    (of_decide_eq_true (by kernel_rfl)) (by unfold Func.isWrapper; first | (rw [if_pos (by decide +kernel)]; kernel_rfl) | (rw [if_neg (by decide +kernel)]; exact ⟨rfl, rfl⟩))
    (fun os started H enc _ => lifted os started H enc)

/-- THE STATEMENT -/
theorem proved : Rows.HeapClashSaid :=
  over
end Go.Proofs.Ytmdheijpnlonoaa.heapClash
