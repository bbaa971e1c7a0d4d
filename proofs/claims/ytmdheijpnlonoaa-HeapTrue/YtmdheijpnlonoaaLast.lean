/- Proved for all heaps and all numbers by which a truth is drawn: the law HeapTrue returns true, and what it was handed reads as before; no conditions. -/
import Derived.Test.YtmdheijpnlonoaaMAS
import Derived.Test.YtmdheijpnlonoaaMAT
namespace Go.Proofs.Ytmdheijpnlonoaa
open Go Go.AbsE Go.ChangeShapes Go.WideShapes Go.ChangeAt Go.RowKit
set_option linter.unusedSimpArgs false
set_option maxRecDepth 100000
set_option linter.unusedVariables false
section
variable {H : Type} {enc : TypeId × Value → H} {W : World} {base : Nat} {spare : Nat → Bool} {held : Bool}
theorem cells93 : Try.prog.cellsOf 93 = 1 := by kernel_rfl
theorem wf_u16 {n : Int} (h : (Lit.int .u16 n).wf = true) : 0 ≤ n ∧ n < 65536 := by
  simp only [Lit.wf, Bool.and_eq_true, decide_eq_true_eq] at h
  have h1 : IntKind.u16.min = 0 := by decide
  have h2 : IntKind.u16.max = 65535 := by decide
  omega
theorem slice_cap {t el : TypeId} {a : Addr} {len cap : Nat} {bs : Nat} (ht : Try.prog.underlying t = some (.slice el)) (h : Cell.okWide Try.prog W .any bs t (.slice (some a) len cap)) : len < 9223372036854775808 := by
  unfold Cell.okWide at h
  rw [ht] at h
  dsimp only at h
  unfold Cell.ok at h
  rw [ht] at h
  dsimp only at h
  obtain ⟨h1, h2, _⟩ := h
  have : IntKind.i64.max = 9223372036854775807 := by decide
  rw [this] at h2
  omega
theorem u16s_of {c : Value} {fuel : Nat} {y : DataW H × List MemPlace} {bs : Nat} (h : DataW.trod enc Try.prog W 0 (fun _ => true) true fuel 47 [c] = some y) (hok : Cell.okWide Try.prog W .any bs 47 c) {e : Env} {hh : AH} (r : HR Try.prog (Base.all W) e hh W) :
    ∃ e' h' s, ∃ R : List Int, Env.le e e' ∧ HR Try.prog (Base.all W) e' h' W ∧ Ext hh h' ∧ VR e' s c ∧ (∀ x, x ∈ R → 0 ≤ x ∧ x < 65536) ∧ R.length < 9223372036854775808 ∧ SliceOf h' 1 s (u16s R) := by
  rcases Deep.open_slice Try.underlying47 h with ⟨hcs, _⟩ | ⟨a, len, cap, m, n, D, Pl, hcs, _, hl, _, hmm, _, hx⟩
  · simp at hcs
    subst hcs
    exact ⟨e, hh, .nilslice, [], Env.le_refl e, r, Ext.refl _, .nilslice, (fun _ q => by cases q), (by decide), .nil⟩
  · simp at hcs
    subst hcs
    obtain ⟨hs, C, el', fr, hB⟩ := slice_okw Try.underlying47 hok
    have hcap := slice_cap Try.underlying47 hok
    have hm : m = cap := by simpa using hmm
    have each : ∀ i, ∃ rr : Int, i < len → (0 ≤ rr ∧ rr < 65536) ∧ W.cell? (a.add (i * 1)) = some (.int .u16 rr) := by
      intro i
      by_cases hi : i < len
      · obtain ⟨cs', h1, h2⟩ := hx i (by omega)
        obtain ⟨v, hv, _, hwf⟩ := DataW.trod_int Try.underlying93 h2
        rw [cells93] at h1
        obtain ⟨_, hlen, hc⟩ := World.cells?_some h1
        refine ⟨v, fun _ => ⟨wf_u16 hwf, ?_⟩⟩
        have := hc 0 (by omega)
        obtain ⟨B, off, spot⟩ := a
        dsimp only at hs
        subst hs
        rw [addr_add, addr_add] at this
        rw [addr_add, ← Nat.add_zero (off + i * 1), this, hv]
        rfl
      · exact ⟨0, fun q => absurd q hi⟩
    obtain ⟨f, hf⟩ := Classical.axiomOfChoice each
    obtain ⟨e', h', s, k1, k2, k3, k4, k5, k6⟩ := r.openRowsG (fun x => AVal.int .u16 x) (fun x => Value.int .u16 x) (fun _ _ => .int _ _) (cap := cap) (len := len) (sz := 1) hB hs (fun i => [f i]) (fun i hi => ⟨rfl, fun k n hk => by
      match k, hk with
      | 0, hk =>
        cases hk
        exact (hf i hi).2⟩)
    refine ⟨e', h', s, (List.range len).map f, k1, k2, k3, k4, fun l hl => ?_, by simpa using hcap, ?_⟩
    · obtain ⟨i, hi, rfl⟩ := List.mem_map.1 hl
      exact (hf i (List.mem_range.1 hi)).1
    · rw [List.map_map] at k5
      unfold u16s
      rw [List.map_map]
      exact k5
end
end Go.Proofs.Ytmdheijpnlonoaa
namespace Go.Proofs.Ytmdheijpnlonoaa.heapTrue
open Go.ChangeShapes Go.WideShapes Go.ChangeAt Go.RowKit Go.AbsE
set_option linter.unusedSimpArgs false
set_option linter.unusedVariables false
theorem own : ownKnob Try.prog.godebug = none := by kernel_rfl
theorem walk {h : AH} {F : FieldV} {hsl rsl lsl : AVal} (A : FieldAt h F hsl rsl lsl) {bs : List Int} (hbs : ∀ x, x ∈ bs → 0 ≤ x ∧ x < 65536) (hlen : bs.length < 9223372036854775808) {s : AVal} (hs : SliceOf h 1 s (u16s bs)) :
    Runs Try.prog 4 [.agg (F.cells hsl rsl lsl), s] h (fun en h' => en = .ret (.bool true) ∧ Ext h h') := by
  have h1 := A.hs.len
  have h2 := A.rs.len
  have h3 := A.ls.len
  rw [List.length_map] at h1 h2 h3
  by_cases hl : F.hs.length ≤ 40 ∧ F.rs.length ≤ 40 ∧ F.looks.length ≤ 40
  · by_cases O : F.Ok
    · exact law4_ok O hbs hlen hsl rsl lsl s h hs hs.scal.1 hs.scal.2 A
    · exact law4_bad O hsl rsl lsl h A hl.1 hl.2.1 hl.2.2 s
  · exact law4_long F hsl rsl lsl _ _ _ h1 h2 h3 (decide_eq_true (by omega)) s h
set_option maxRecDepth 100000 in
theorem lifted (os : Os) (started : os.Started) (H : Type) (enc : TypeId × Value → H) :
    ReturnsInHanded {} Try.checked os 4 .any (Rows.heapTrueSpec.pre6 enc Try.prog Try.f4 Rows.heapTrueRow.domain false) (Rows.heapTrueSpec.post enc Try.prog Try.f4 false true false false) := by
  refine returnsInHanded_of_change (C := Try.checked) own started (by kernel_rfl) Try.func4
    (ChangeSpec.witness6 (enc := enc) (C := Try.checked) false ⟨#[], #[.agg #[.slice none 0 0, .slice none 0 0, .int .i64 0, .int .i64 0, .int .i64 0, .int .i64 0, .slice none 0 0], .slice none 0 0], []⟩ 4 (by kernel_rfl) (by kernel_rfl) (by kernel_rfl) (by kernel_rfl)) ?_
  intro W base args ds gs before hval0 hW hcnd _
  have hval : ∀ (j : Nat) t v, Try.f4.params[j]? = some t → args[j]? = some v → Value.okWide Try.prog W .any base t v := hval0
  have hW' := hW
  obtain ⟨p, q, hA0, hV, rfl, hfz, hnd⟩ := hW
  have hA : DataW.TrodAll enc Try.prog W 0 (fun _ => true) true Try.f4.params.toList args.toList ds p := hA0
  rw [Try.params4] at hA hval
  obtain ⟨v0, vs0, d0, ds0, p0, q0, hargs, rfl, rfl, h0, r0⟩ := trodAll_cons hA
  obtain ⟨v1, vs1, d1, ds1, p1, q1, rfl, rfl, rfl, h1, r1⟩ := trodAll_cons r0
  obtain ⟨rfl, rfl, rfl⟩ := trodAll_nil r1
  obtain rfl : args = #[v0, v1] := by cases args; simp_all
  obtain ⟨rfl, rfl⟩ := trodVars_none hV
  clear hA0 hval0
  simp only [List.append_nil] at hW'
  obtain ⟨e', h', F, hsl, rsl, lsl, le1, hr, _, hv, B⟩ := heap_of (hval 0 27 v0 rfl rfl) h0 (HR.start Try.prog W)
  have hok := hval 1 47 v1 rfl rfl
  have hok2 : Cell.okWide Try.prog W .any base 47 v1 := by
    unfold Value.okWide at hok
    rw [Try.underlying47] at hok
    exact hok
  have hcs1 : v1.cells.toList = [v1] := by
    have hok3 := hok2
    unfold Cell.okWide at hok3
    rw [Try.underlying47] at hok3
    dsimp only at hok3
    unfold Cell.ok at hok3
    rw [Try.underlying47] at hok3
    cases v1 <;> first | rfl | exact hok3.elim
  have hx1 := h1
  obtain ⟨fuel, hf⟩ := hx1
  rw [hcs1] at hf
  obtain ⟨e2, h2, s, R, le2, hr2, x2, hv2', hR1, hR2, hR3⟩ := u16s_of hf hok2 hr
  refine ((walk (B.ext x2) hR1 hR2 hR3).calls (fun _ _ q => by cases q.1) hr2 (.cons (hv.mono le2) (.cons hv2' .nil))).mono ?_
  rintro e W' ⟨v, h3, e2, V, ⟨hR, _⟩, rfl, hV2, hHR⟩
  have hR := AEnd.ret.inj hR
  subst hR
  cases hV2
  have hg := hHR.grown
  obtain ⟨s1, s2, s3, s4, s5, _⟩ := hHR.isStill
  have hbelow : Below W.heap.size W W' := ⟨s1, s2, s3, s4, s5⟩
  have hlt : ∀ x ∈ p0, x.block < W.heap.size := fun x hx => hW'.lt x (by simp [hx])
  have hlt1 : ∀ x ∈ p1, x.block < W.heap.size := fun x hx => hW'.lt x (by simp [hx])
  exact ⟨_, rfl, post_of_same (pa := p0 ++ p1) (pv := []) hW' (fun _ _ _ => (trodAll_cons_mk (shut_bool Try.underlying4 _) trodAll_mk0))
    (fun sp hsp => trodAll_mk2 (WideElems.Trod_stays laidOut (by kernel_rfl) (of_decide_eq_true (by kernel_rfl)) h0 (fun x hx => hbelow.same (hlt x hx)) (fun x hx => hsp x (by simp [hx]))) (WideElems.Trod_stays laidOut (by kernel_rfl) (of_decide_eq_true (by kernel_rfl)) h1 (fun x hx => hbelow.same (hlt1 x hx)) (fun x hx => hsp x (by simp [hx])))) (fun _ _ => rfl) (by simp)
    (hg.frame _) hg.2.1 (ok_one (by kernel_rfl) rfl (okWide_bool_mk Try.underlying4 _))⟩
theorem over : Rows.heapTrueRow.holds Try.pinned (OpenSpec.ofChange Rows.heapTrueSpec) :=
  OpenClaim.holds_of_wide 4 Try.f4 rfl rfl rfl rfl rfl rfl rfl ⟨rfl, rfl, rfl, rfl, rfl⟩ rfl rfl rfl rfl rfl (by kernel_rfl) Try.func4 (by kernel_rfl)
    (of_decide_eq_true (by kernel_rfl)) (by unfold Func.isWrapper; first | (rw [if_pos (by decide +kernel)]; kernel_rfl) | (rw [if_neg (by decide +kernel)]; exact ⟨rfl, rfl⟩))
    (fun os started H enc _ => lifted os started H enc)
theorem proved : Rows.HeapTrueSaid :=
  over
end Go.Proofs.Ytmdheijpnlonoaa.heapTrue
