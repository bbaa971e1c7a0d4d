import Derived.Test.YtmdheijpnlonoaaMAO
namespace Go.Proofs.Ytmdheijpnlonoaa
open Go Go.AbsE
set_option linter.unusedSimpArgs false
set_option maxRecDepth 100000
set_option maxHeartbeats 0
set_option linter.unusedVariables false
structure FewR (of : Nat) (p : Nat → Bool) (r : Nat) : Prop where
  lt : r < 2 ^ of
  suits : p r = true
  least : ∀ s, s < 2 ^ of → p s = true → popc r < popc s ∨ (popc r = popc s ∧ r ≤ s)
theorem popc_le : ∀ of, of < 6 → ∀ r, r < 2 ^ of → popc r ≤ of := by decide
theorem popc_le5 (r : Nat) : popc r ≤ 5 := by
  unfold popc
  exact Nat.le_trans (List.length_filter_le _ _) (by simp)
theorem fewest49_ok {of : Nat} {p : Nat → Bool} {r : Nat} (h5 : of ≤ 5) (R : FewR of p r) {g : FuncId} {gf : Func} {caps : List AVal} (hfid : aFunc Try.prog g = some gf) (h : AH)
    (hc : ∀ s h', s < 2 ^ of → Ext h h' → Runs Try.prog g ([.int .i64 (s : Nat)] ++ caps) h' (fun en h'' => en = .ret (.bool (p s)) ∧ Ext h' h'')) :
    Runs Try.prog 49 [.int .i64 (of : Nat), .func (.func g) [] caps] h (fun en h' => en = .ret (.int .i64 (r : Nat)) ∧ Ext h h') := by
  have h32 : 2 ^ of ≤ 32 := Nat.pow_le_pow_right (by omega) h5
  have hrp := popc_le of (by omega) r R.lt
  have hRl := R.lt
  have hRs := R.suits
  have e0 : Ext h h := Ext.refl _
  obtain ⟨top, htop⟩ : ∃ top, 2 ^ of = top := ⟨_, rfl⟩
  have hshl : (1 : Int) * 2 ^ of = (top : Nat) := by rw [Int.one_mul, ← htop]; push_cast; rfl
  have hRm := R.least
  rw [htop] at h32 hRl hc hRm
  clear R
  refine Runs.intro aFunc49 rfl rfl rfl rfl fun rest => ?_
  refine Go.seq noJ_ok ?_
  refine Go.region noJ_ok rfl ?_
  refine GoR.op rfl rfl rfl rfl ?_
  refine GoR.end ?_
  iterate 2 refine Go.seq noJ_ok ?_
  refine Go.region noJ_ok rfl ?_
  refine GoR.op rfl rfl rfl rfl ?_
  refine GoR.op rfl rfl (aOp_add rfl rfl (by constructor <;> omega) rfl) rfl ?_
  refine GoR.op rfl rfl rfl rfl ?_
  refine GoR.end ?_
  refine Go.block noJ_ok ?_
  refine Go.loopKeep (fun m : Nat => [(0, .int .i64 (of : Nat)), (1, .func (.func g) [] caps), (8, .int .i64 ((of : Nat) + 1)), (9, .int .i64 (m : Nat))])
    (fun k m h' => k + m = of + 1 ∧ Ext h h' ∧ m ≤ popc r) (n := of + 1) 0 ⟨rfl, rfl, rfl, rfl, trivial⟩ ⟨rfl, e0, Nat.zero_le _⟩ ?_
  clear e0
  rintro k m h1' ⟨hk, e0, hm⟩ again
  refine Go.seq noJ_ok ?_
  refine Go.region noJ_ok rfl ?_
  refine GoR.op rfl rfl (aOp_lss rfl rfl (r := true) (decide_eq_true (by omega))) rfl ?_
  refine GoR.end ?_
  refine Go.seq noJ_ok ?_
  refine Go.cond noJ_ok (b := true) rfl ?_
  refine Go.code noJ_ok ?_
  refine Go.seq noJ_ok ?_
  refine Go.block noJ_ok ?_
  refine Go.seq noJ_ok ?_
  refine Go.region noJ_ok rfl ?_
  iterate 2 refine GoR.op rfl rfl rfl rfl ?_
  refine GoR.end ?_
  refine Go.seq noJ_ok ?_
  refine Go.region noJ_ok rfl ?_
  refine GoR.op rfl rfl rfl rfl ?_
  refine GoR.op rfl rfl (aOp_shl rfl rfl (by omega) hshl (by omega)) rfl ?_
  refine GoR.op rfl rfl rfl rfl ?_
  refine GoR.end ?_
  refine Go.block noJ_ok ?_
  refine Go.loopKeep (fun s : Nat => [(0, .int .i64 (of : Nat)), (1, .func (.func g) [] caps), (5, .int .i64 (m : Nat)), (8, .int .i64 ((of : Nat) + 1)), (9, .int .i64 (m : Nat)), (13, .int .i64 (top : Nat)), (14, .int .i64 (s : Nat))])
    (fun k s h' => k + s = top ∧ Ext h h' ∧ (popc r = m → s ≤ r)) (n := top) 0 ⟨rfl, rfl, rfl, rfl, rfl, rfl, rfl, trivial⟩ ⟨rfl, e0, fun _ => Nat.zero_le _⟩ ?_
  clear e0
  rintro k2 s h2' ⟨hk2, e0, hs⟩ again2
  by_cases hst : s < top
  · have hsc := popc_le5 s
    have hones := ones53_ok s (by omega)
    have hcs := fun h' => hc s h' hst
    by_cases hpm : popc s = m
    · have heq : decide ((popc s : Int) = (m : Nat)) = true := decide_eq_true (by omega)
      cases hps : p s with
      | true =>
        have hl := hRm s hst hps
        have hsr : s = r := by omega
        rw [hps] at hcs
        subst hsr
        refine Go.seq noJ_ok ?_
        refine Go.region noJ_ok rfl ?_
        refine GoR.op rfl rfl (aOp_lss rfl rfl (r := true) (decide_eq_true (by omega))) rfl ?_
        refine GoR.end ?_
        refine Go.seq noJ_ok ?_
        refine Go.cond noJ_ok (b := true) rfl ?_
        refine Go.code noJ_ok ?_
        refine Go.seq noJ_ok ?_
        refine Go.block noJ_ok ?_
        refine Go.seq noJ_ok ?_
        refine Go.region noJ_ok rfl ?_
        iterate 2 refine GoR.op rfl rfl rfl rfl ?_
        refine GoR.end ?_
        refine Go.seq noJ_ok ?_
        refine Go.region noJ_ok rfl ?_
        refine GoR.op rfl rfl rfl rfl ?_
        refine GoR.op rfl rfl (aOp_convU64 rfl Try.underlying3 Try.underlying88 (by omega)) rfl ?_
        refine GoR.call rfl rfl (aOp_callFunc aFunc53 rfl) (hones _) ?_ (by rintro _ _ ⟨q, _⟩; cases q)
        rintro v33 h33 ⟨q, x33⟩
        cases q
        refine ⟨_, rfl, ?_⟩
        replace e0 := e0.trans x33
        refine GoR.op rfl rfl rfl rfl ?_
        refine GoR.op rfl rfl (aOp_eql rfl rfl heq) rfl ?_
        iterate 3 refine GoR.op rfl rfl rfl rfl ?_
        refine GoR.call rfl rfl (aOp_callVal rfl hfid rfl) (hcs _ e0) ?_ (by rintro _ _ ⟨q, _⟩; cases q)
        rintro v34 h34 ⟨q, x34⟩
        cases q
        refine ⟨_, rfl, ?_⟩
        replace e0 := e0.trans x34
        refine GoR.op rfl rfl rfl rfl ?_
        refine GoR.end ?_
        refine Go.cond noJ_ok (b := true) rfl ?_
        refine Go.seq noJ_ok ?_
        refine Go.region noJ_ok rfl ?_
        iterate 2 refine GoR.op rfl rfl rfl rfl ?_
        refine GoR.end ?_
        exact Go.ret noJ_ok (ret_end (aResult_of Try.func49 rfl rfl) ⟨rfl, e0⟩)
      | false =>
        rw [hps] at hcs
        have hne : s ≠ r := by
          intro q
          rw [q, hRs] at hps
          cases hps
        refine Go.seq noJ_ok ?_
        refine Go.region noJ_ok rfl ?_
        refine GoR.op rfl rfl (aOp_lss rfl rfl (r := true) (decide_eq_true (by omega))) rfl ?_
        refine GoR.end ?_
        refine Go.seq noJ_ok ?_
        refine Go.cond noJ_ok (b := true) rfl ?_
        refine Go.code noJ_ok ?_
        refine Go.seq noJ_ok ?_
        refine Go.block noJ_ok ?_
        refine Go.seq noJ_ok ?_
        refine Go.region noJ_ok rfl ?_
        iterate 2 refine GoR.op rfl rfl rfl rfl ?_
        refine GoR.end ?_
        refine Go.seq noJ_ok ?_
        refine Go.region noJ_ok rfl ?_
        refine GoR.op rfl rfl rfl rfl ?_
        refine GoR.op rfl rfl (aOp_convU64 rfl Try.underlying3 Try.underlying88 (by omega)) rfl ?_
        refine GoR.call rfl rfl (aOp_callFunc aFunc53 rfl) (hones _) ?_ (by rintro _ _ ⟨q, _⟩; cases q)
        rintro v33 h33 ⟨q, x33⟩
        cases q
        refine ⟨_, rfl, ?_⟩
        replace e0 := e0.trans x33
        refine GoR.op rfl rfl rfl rfl ?_
        refine GoR.op rfl rfl (aOp_eql rfl rfl heq) rfl ?_
        iterate 3 refine GoR.op rfl rfl rfl rfl ?_
        refine GoR.call rfl rfl (aOp_callVal rfl hfid rfl) (hcs _ e0) ?_ (by rintro _ _ ⟨q, _⟩; cases q)
        rintro v34 h34 ⟨q, x34⟩
        cases q
        refine ⟨_, rfl, ?_⟩
        replace e0 := e0.trans x34
        refine GoR.op rfl rfl rfl rfl ?_
        refine GoR.end ?_
        refine Go.cond noJ_ok (b := false) rfl ?_
        refine Go.code noJ_ok ?_
        refine Go.inBlock noJ_ok ?_
        refine Go.region noJ_ok rfl ?_
        refine GoR.op rfl rfl (aOp_add rfl rfl (by constructor <;> omega) rfl) rfl ?_
        refine GoR.op rfl rfl rfl rfl ?_
        refine GoR.end ?_
        exact again2 (k2 - 1) (s + 1) _ _ (by omega) ⟨rfl, rfl, rfl, rfl, rfl, rfl, rfl, trivial⟩ ⟨by omega, e0, by omega⟩
    · have heq : decide ((popc s : Int) = (m : Nat)) = false := decide_eq_false (by omega)
      have hne : popc r = m → s ≠ r := by
        intro q q2
        subst q2
        exact hpm q
      refine Go.seq noJ_ok ?_
      refine Go.region noJ_ok rfl ?_
      refine GoR.op rfl rfl (aOp_lss rfl rfl (r := true) (decide_eq_true (by omega))) rfl ?_
      refine GoR.end ?_
      refine Go.seq noJ_ok ?_
      refine Go.cond noJ_ok (b := true) rfl ?_
      refine Go.code noJ_ok ?_
      refine Go.seq noJ_ok ?_
      refine Go.block noJ_ok ?_
      refine Go.seq noJ_ok ?_
      refine Go.region noJ_ok rfl ?_
      iterate 2 refine GoR.op rfl rfl rfl rfl ?_
      refine GoR.end ?_
      refine Go.seq noJ_ok ?_
      refine Go.region noJ_ok rfl ?_
      refine GoR.op rfl rfl rfl rfl ?_
      refine GoR.op rfl rfl (aOp_convU64 rfl Try.underlying3 Try.underlying88 (by omega)) rfl ?_
      refine GoR.call rfl rfl (aOp_callFunc aFunc53 rfl) (hones _) ?_ (by rintro _ _ ⟨q, _⟩; cases q)
      rintro v33 h33 ⟨q, x33⟩
      cases q
      refine ⟨_, rfl, ?_⟩
      replace e0 := e0.trans x33
      refine GoR.op rfl rfl rfl rfl ?_
      refine GoR.op rfl rfl (aOp_eql rfl rfl heq) rfl ?_
      refine GoR.op rfl rfl rfl rfl ?_
      iterate 3 refine GoR.skip rfl rfl rfl ?_
      refine GoR.op rfl rfl rfl rfl ?_
      refine GoR.end ?_
      refine Go.cond noJ_ok (b := false) rfl ?_
      refine Go.code noJ_ok ?_
      refine Go.inBlock noJ_ok ?_
      refine Go.region noJ_ok rfl ?_
      refine GoR.op rfl rfl (aOp_add rfl rfl (by constructor <;> omega) rfl) rfl ?_
      refine GoR.op rfl rfl rfl rfl ?_
      refine GoR.end ?_
      exact again2 (k2 - 1) (s + 1) _ _ (by omega) ⟨rfl, rfl, rfl, rfl, rfl, rfl, rfl, trivial⟩ ⟨by omega, e0, by omega⟩
  · have hmr : m < popc r := by
      rcases Nat.lt_or_ge m (popc r) with q | q
      · exact q
      · have := hs (by omega)
        omega
    refine Go.seq noJ_ok ?_
    refine Go.region noJ_ok rfl ?_
    refine GoR.op rfl rfl (aOp_lss rfl rfl (r := false) (decide_eq_false (by omega))) rfl ?_
    refine GoR.end ?_
    refine Go.seq noJ_ok ?_
    refine Go.cond noJ_ok (b := false) rfl ?_
    refine Go.code noJ_ok ?_
    refine Go.inBlock noJ_ok ?_
    refine Go.region noJ_ok rfl ?_
    refine GoR.op rfl rfl (aOp_add rfl rfl (by constructor <;> omega) rfl) rfl ?_
    refine GoR.op rfl rfl rfl rfl ?_
    refine GoR.end ?_
    exact again (k - 1) (m + 1) _ _ (by omega) ⟨rfl, rfl, rfl, rfl, trivial⟩ ⟨by omega, e0, by omega⟩
end Go.Proofs.Ytmdheijpnlonoaa

namespace Go.Proofs.Ytmdheijpnlonoaa
open Go Go.AbsE
set_option linter.unusedSimpArgs false
set_option maxRecDepth 100000
set_option maxHeartbeats 0
set_option linter.unusedVariables false
theorem FieldV.Ok.withL {F : FieldV} (O : F.Ok) {L : List LookV} (hm : ∀ l, l ∈ L → l ∈ F.looks) (hl : L.length ≤ 5) : (F.withL L).Ok := ⟨O.nh, O.h, O.nr, O.r, O.d, O.lim, hl, fun l h => O.l l (hm l h)⟩
theorem wo_ok {F : FieldV} (O : F.Ok) (out : Int) : (F.withL (wo out 0 F.looks)).Ok := O.withL (fun l h => wo_mem h) (Nat.le_trans wo_len O.nl)
def FieldV.canWo (F : FieldV) (out : Int) : Bool := (F.withL (wo out 0 F.looks)).canB
theorem cells_same {F : FieldV} {hsl rsl lsl : AVal} {h : AH} (A : FieldAt h F hsl rsl lsl) : sameA (.agg (F.cells hsl rsl lsl)) (.agg (F.cells hsl rsl lsl)) = true := by
  unfold FieldV.cells fieldC
  simp [sameA, sameAs, eqI_eq, A.hs.same, A.rs.same, A.ls.same]
theorem canWo_ok {F : FieldV} (O : F.Ok) (hsl rsl lsl : AVal) (s : Nat) (bf : Nat) (h : AH) (A : FieldAt h F hsl rsl lsl) (f0 : Has h bf (.cells .plain (F.cells hsl rsl lsl) 74)) :
    Runs Try.prog 50 [.int .i64 (s : Nat), .ptr bf 0] h (fun en h' => en = .ret (.bool (F.canWo (s : Nat))) ∧ Ext h h') := by
  have hsm := cells_same A
  have hwo := fun h A => without52_ok (F := F) O.nl hsl rsl lsl (s : Nat) h A
  have hpo := fun s2 h A hL => poss51_ok (F := F) (L := wo (s : Nat) 0 F.looks) (wo_ok O (s : Nat)) hsl rsl lsl s2 h A hL
  have hres : (F.withL (wo (s : Nat) 0 F.looks)).canB = F.canWo (s : Nat) := rfl
  rw [hres] at hpo
  have e0 : Ext h h := Ext.refl _
  unfold FieldV.cells fieldC at f0 hwo hpo hsm
  refine Runs.intro aFunc50 rfl rfl rfl rfl fun rest => ?_
  refine Go.seq noJ_ok ?_
  refine Go.region noJ_ok rfl ?_
  refine GoR.op rfl rfl rfl rfl ?_
  refine GoR.end ?_
  refine Go.seq noJ_ok ?_
  refine Go.drawnE plan50_0 ?_
  iterate 2 refine GoE.quiet rfl rfl (ld74 rfl f0 rfl) rfl ?_
  refine GoE.quiet rfl rfl rfl rfl ?_
  refine GoE.call rfl rfl (aOp_callFunc aFunc52 rfl) (hwo _ (A.ext e0)) (dropF_drop (show bit? 6 2 = true from rfl) (dropF_drop (show bit? 6 1 = true from rfl) (dropF_keep (show bit? 6 0 = false from rfl) rfl))) ?_ (by rintro _ _ ⟨sl, q, _, hsl2⟩; cases q)
  rintro v1 h1 ⟨sl, q, x1, hsl2⟩
  cases q
  have := e0.1
  replace f0 := f0.ext x1
  replace e0 := e0.trans x1
  refine ⟨(recheck_cons (h2 := h1) rfl (ld74 rfl f0 rfl) (by first | rfl | exact sameA_int _ _ | exact sameA_bool _ | exact sameA_agg2 _ _ | assumption | (simp [sameA, sameAs, eqI_eq]; done)) recheck_nil), _, rfl, ?_⟩
  refine GoE.call rfl rfl (aOp_callFunc aFunc51 rfl) (hpo _ _ (A.ext e0) hsl2) (dropF_drop (show bit? 15 0 = true from rfl) rfl) ?_ (by rintro _ _ ⟨q, _⟩; cases q)
  rintro v2 h2 ⟨q, x2⟩
  cases q
  replace f0 := f0.ext x2
  replace e0 := e0.trans x2
  refine ⟨recheck_nil, _, rfl, ?_⟩
  refine GoE.quiet rfl rfl rfl rfl ?_
  refine GoE.end rfl ?_
  exact Go.ret noJ_ok (ret_end (aResult_of Try.func50 rfl rfl) ⟨rfl, e0⟩)
theorem falseB_ok {F : FieldV} (O : F.Ok) {r : Nat} (R : FewR F.looks.length (fun s => F.canWo (s : Nat)) r) (hsl rsl lsl : AVal) (b1 b2 : Nat) (h : AH) (A : FieldAt h F hsl rsl lsl) (f1 : Has h b1 (.cells .plain [.int .i64 0] 3)) (f2 : Has h b2 (.cells .plain [.int .i64 0] 3)) (hb12 : b1 ≠ b2) :
    Runs Try.prog 48 [.agg (F.cells hsl rsl lsl), .ptr b1 0, .ptr b2 0] h (fun en h' => en = .ret (.tuple []) ∧ ExtF (fun b => b = b1 ∨ b = b2) h h' ∧ Has h' b1 (.cells .plain [.int .i64 (r : Nat)] 3) ∧ Has h' b2 (.cells .plain [.int .i64 (popc r : Nat)] 3)) := by
  have hl3 := A.ls.len
  rw [List.length_map] at hl3
  have hnl := O.nl
  have h32 : 2 ^ F.looks.length ≤ 32 := Nat.pow_le_pow_right (by omega) hnl
  have hr32 := R.lt
  have hones := ones53_ok r (by omega)
  have hfw := fun (bf : Nat) h (A : FieldAt h F hsl rsl lsl) (f0 : Has h bf (.cells .plain (F.cells hsl rsl lsl) 74)) => fewest49_ok (of := F.looks.length) hnl R (g := 50) (caps := [.ptr bf 0]) aFunc50 h (fun s h' hs e => canWo_ok O hsl rsl lsl s bf h' (A.ext e) (f0.ext e))
  have y0 : ExtF (fun b => b = b1 ∨ b = b2) h h := ExtF.of (Ext.refl _)
  have hbr1 := f1.1
  have hbr2 := f2.1
  unfold FieldV.cells fieldC at hfw ⊢
  refine Runs.intro aFunc48 rfl rfl rfl rfl fun rest => ?_
  refine Go.seq noJ_ok ?_
  refine Go.region noJ_ok rfl ?_
  refine GoR.box rfl rfl rfl rfl rfl rfl fun h33 x33 f33 => ?_
  have := f1.1
  have := f2.1
  replace f1 := f1.ext x33
  replace f2 := f2.ext x33
  replace y0 := y0.ext x33
  have e0 := x33
  have := f33.1
  refine GoR.end ?_
  refine Go.seq noJ_ok ?_
  refine Go.region noJ_ok rfl ?_
  refine GoR.op rfl rfl (fa74_4 rfl) rfl ?_
  refine GoR.op rfl rfl (ld25 rfl f33 rfl) rfl ?_
  refine GoR.op rfl rfl (aOp_lenSlice Try.underlying25 rfl hl3) rfl ?_
  refine GoR.op rfl rfl rfl rfl ?_
  refine GoR.call rfl rfl (aOp_callFunc aFunc49 rfl) (hfw _ _ (A.ext e0) (by assumption)) ?_ (by rintro _ _ ⟨q, _⟩; cases q)
  rintro v34 h34 ⟨q, x34⟩
  cases q
  refine ⟨_, rfl, ?_⟩
  replace f33 := f33.ext x34
  replace f1 := f1.ext x34
  replace f2 := f2.ext x34
  replace e0 := e0.trans x34
  replace y0 := y0.ext x34
  refine GoR.store rfl rfl rfl rfl rfl rfl f1 rfl sz3 rfl rfl rfl fun h35 u35 => ?_
  replace f33 := f33.upd u35 (by omega)
  replace f1 := u35.has f1
  replace f2 := f2.upd u35 (by omega)
  first | replace e0 := e0.upd u35 (by omega) | clear e0
  first | replace y0 := y0.upd u35 (by first | exact .inl rfl | exact .inl (.inl rfl) | exact .inl (.inr rfl) | exact .inl (by assumption) | exact .inr (by omega)) | skip
  refine GoR.end ?_
  refine Go.region noJ_ok rfl ?_
  refine GoR.op rfl rfl (ld3 rfl f1 rfl) rfl ?_
  refine GoR.op rfl rfl (aOp_convU64 rfl Try.underlying3 Try.underlying88 (by omega)) rfl ?_
  refine GoR.call rfl rfl (aOp_callFunc aFunc53 rfl) (hones _) ?_ (by rintro _ _ ⟨q, _⟩; cases q)
  rintro v36 h36 ⟨q, x36⟩
  cases q
  refine ⟨_, rfl, ?_⟩
  replace f33 := f33.ext x36
  replace f1 := f1.ext x36
  replace f2 := f2.ext x36
  replace y0 := y0.ext x36
  have e0 := x36
  refine GoR.store rfl rfl rfl rfl rfl rfl f2 rfl sz3 rfl rfl rfl fun h37 u37 => ?_
  replace f33 := f33.upd u37 (by omega)
  replace f1 := f1.upd u37 (by omega)
  replace f2 := u37.has f2
  first | replace e0 := e0.upd u37 (by omega) | clear e0
  first | replace y0 := y0.upd u37 (by first | exact .inl rfl | exact .inl (.inl rfl) | exact .inl (.inr rfl) | exact .inl (by assumption) | exact .inr (by omega)) | skip
  refine GoR.end ?_
  exact Go.endL (FLeft.ret (v := .tuple []) (aResult_of Try.func48 rfl rfl) ⟨rfl, y0, f1, f2⟩)
theorem False_ok {F : FieldV} (O : F.Ok) {r : Nat} (R : FewR F.looks.length (fun s => F.canWo (s : Nat)) r) (hsl rsl lsl : AVal) (h : AH) (A : FieldAt h F hsl rsl lsl) :
    Runs Try.prog 18 [.agg (F.cells hsl rsl lsl)] h (fun en h' => en = .ret (.tuple [.int .i64 (popc r : Nat), .int .i64 (r : Nat), .int .i64 0]) ∧ Ext h h') := by
  have hB := falseB_ok O R hsl rsl lsl
  have hat := attempt_does O hsl rsl lsl
  unfold FieldV.cells fieldC at hat hB ⊢
  refine Runs.intro aFunc18 rfl rfl rfl rfl fun rest => ?_
  refine Go.seq noJ_ok ?_
  refine Go.region noJ_ok rfl ?_
  refine GoR.box rfl rfl rfl rfl rfl rfl fun h0 x0 f0 => ?_
  have e0 := x0
  have := f0.1
  refine GoR.alloc rfl rfl rfl zt3 rfl rfl fun h1 x1 f1 => ?_
  have := e0.1
  have := f0.1
  replace f0 := f0.ext x1
  replace e0 := e0.trans x1
  have := f1.1
  refine GoR.alloc rfl rfl rfl zt3 rfl rfl fun h2 x2 f2 => ?_
  have := e0.1
  have := f1.1
  have := f0.1
  replace f1 := f1.ext x2
  replace f0 := f0.ext x2
  replace e0 := e0.trans x2
  have := f2.1
  refine GoR.op rfl rfl rfl rfl ?_
  refine GoR.end ?_
  refine Go.seq noJ_ok ?_
  refine Go.region noJ_ok rfl ?_
  refine GoR.op rfl rfl (ld27 rfl f0 rfl) rfl ?_
  refine GoR.op rfl rfl rfl rfl ?_
  have hS : ∀ b, (fun b => b = h1.next ∨ b = h0.next) b → b < h2.next := fun b q => by have := f1.1; have := f2.1; omega
  have hn12 : ¬ h1.next = h0.next := by omega
  refine GoR.call rfl rfl (aOp_callFunc aFunc34 rfl) (hat _ (A.ext e0) 48 _ aFunc48 _ (fun b => b = h1.next ∨ b = h0.next) hS (fun h' => Has h' h1.next (.cells .plain [.int .i64 (r : Nat)] 3) ∧ Has h' h0.next (.cells .plain [.int .i64 (popc r : Nat)] 3)) (fun h4 h' le same t => ⟨t.1.keep le (same _ (hS _ (.inl rfl))), t.2.keep le (same _ (hS _ (.inr rfl)))⟩) (fun h' e => hB _ _ h' ((A.ext e0).ext e) (f2.ext e) (f1.ext e) hn12)) ?_ (by rintro _ _ ⟨q, _⟩; cases q)
  rintro v9 h9 ⟨q, y9, f8, f9⟩
  cases q
  refine ⟨_, rfl, ?_⟩
  have e9 := y9.low e0 (fun b q => by have : b = h1.next ∨ b = h0.next := q; omega)
  clear e0 y9 f1 f2 f0
  refine GoR.op rfl rfl rfl rfl ?_
  refine GoR.end ?_
  refine Go.seq noJ_ok ?_
  refine Go.drawnE plan18_0 ?_
  refine GoE.quiet rfl rfl (ld3 rfl f9 rfl) rfl ?_
  refine GoE.quiet rfl rfl (ld3 rfl f8 rfl) rfl ?_
  refine GoE.quiet rfl rfl rfl rfl ?_
  refine GoE.store rfl rfl rfl rfl (dropF_keep (show bit? 1 2 = false from rfl) (dropF_keep (show bit? 1 1 = false from rfl) (dropF_drop (show bit? 1 0 = true from rfl) rfl))) rfl rfl f9 rfl sz3 rfl rfl rfl fun h10 u10 => ?_
  replace f8 := f8.upd u10 (by omega)
  replace f9 := u10.has f9
  first | replace e9 := e9.upd u10 (by omega) | clear e9
  refine ⟨(recheck_cons (h2 := h10) rfl (rfl) (by first | rfl | exact sameA_int _ _ | exact sameA_bool _ | exact sameA_agg2 _ _ | assumption | (simp [sameA, sameAs, eqI_eq]; done)) (recheck_cons (h2 := h10) rfl (ld3 rfl f8 rfl) (by first | rfl | exact sameA_int _ _ | exact sameA_bool _ | exact sameA_agg2 _ _ | assumption | (simp [sameA, sameAs, eqI_eq]; done)) recheck_nil)), ?_⟩
  refine GoE.store rfl rfl rfl rfl (dropF_keep (show bit? 11 2 = false from rfl) (dropF_drop (show bit? 11 1 = true from rfl) rfl)) rfl rfl f8 rfl sz3 rfl rfl rfl fun h11 u11 => ?_
  replace f8 := u11.has f8
  replace f9 := f9.upd u11 (by omega)
  first | replace e9 := e9.upd u11 (by omega) | clear e9
  refine ⟨(recheck_cons (h2 := h11) rfl (rfl) (by first | rfl | exact sameA_int _ _ | exact sameA_bool _ | exact sameA_agg2 _ _ | assumption | (simp [sameA, sameAs, eqI_eq]; done)) recheck_nil), ?_⟩
  refine GoE.quiet rfl rfl rfl rfl ?_
  refine GoE.end rfl ?_
  exact Go.ret noJ_ok (ret_end (aResult_of Try.func18 rfl (aResults_cellC rfl f9 (inCells_one ag3 rfl) (aResults_cellC rfl f8 (inCells_one ag3 rfl) rfl))) ⟨rfl, e9⟩)
theorem clashB_no {F : FieldV} (O : F.Ok) (hc : F.canB = true) (hsl rsl lsl : AVal) (b1 : Nat) (h : AH) (A : FieldAt h F hsl rsl lsl) (f1 : Has h b1 (.cells .plain [.int .i64 0] 3)) :
    Runs Try.prog 54 [.agg (F.cells hsl rsl lsl), .ptr b1 0] h (fun en h' => en = .pan (refusal 4) ∧ Ext h h') := by
  have hwl : F.withL F.looks = F := rfl
  have hpo := fun h A hL => poss51_ok (F := F) (L := F.looks) O hsl rsl lsl lsl h A hL
  rw [hwl, hc] at hpo
  unfold FieldV.cells fieldC at hpo ⊢
  refine Runs.intro aFunc54 rfl rfl rfl rfl fun rest => ?_
  refine Go.seq noJ_ok ?_
  refine Go.region noJ_ok rfl ?_
  refine GoR.box rfl rfl rfl rfl rfl rfl fun h2 x2 f2 => ?_
  have := f1.1
  replace f1 := f1.ext x2
  have e0 := x2
  have := f2.1
  refine GoR.end ?_
  refine Go.seq noJ_ok ?_
  refine Go.region noJ_ok rfl ?_
  refine GoR.op rfl rfl (ld74 rfl f2 rfl) rfl ?_
  refine GoR.op rfl rfl (fa74_4 rfl) rfl ?_
  refine GoR.op rfl rfl (ld25 rfl f2 rfl) rfl ?_
  refine GoR.call rfl rfl (aOp_callFunc aFunc51 rfl) (hpo _ (A.ext e0) (A.ls.ext e0)) ?_ (by rintro _ _ ⟨q, _⟩; cases q)
  rintro v3 h3 ⟨q, x3⟩
  cases q
  refine ⟨_, rfl, ?_⟩
  replace f2 := f2.ext x3
  replace f1 := f1.ext x3
  replace e0 := e0.trans x3
  refine GoR.callP rfl rfl (aOp_callFunc aFunc55 rfl) (refuse_ok true 4 _) (by rintro _ _ ⟨_, ⟨q, _⟩ | ⟨_, q⟩⟩ <;> cases q) ?_
  rintro chain h9 ⟨rfl, ⟨q, _⟩ | ⟨_, q⟩⟩
  · cases q
  have q := AEnd.pan.inj q
  subst q
  exact FLeft.pan ⟨rfl, e0⟩
theorem Clash_no {F : FieldV} (O : F.Ok) (hc : F.canB = true) (hsl rsl lsl : AVal) (h : AH) (A : FieldAt h F hsl rsl lsl) :
    Runs Try.prog 19 [.agg (F.cells hsl rsl lsl)] h (fun en h' => en = .ret (.tuple [.int .i64 0, .int .i64 4]) ∧ Ext h h') := by
  have hat := attempt_gives O hsl rsl lsl
  have hB := clashB_no O hc hsl rsl lsl
  unfold FieldV.cells fieldC at hat hB ⊢
  refine Runs.intro aFunc19 rfl rfl rfl rfl fun rest => ?_
  refine Go.seq noJ_ok ?_
  refine Go.region noJ_ok rfl ?_
  refine GoR.box rfl rfl rfl rfl rfl rfl fun h0 x0 f0 => ?_
  have e0 := x0
  have := f0.1
  refine GoR.alloc rfl rfl rfl zt3 rfl rfl fun h1 x1 f1 => ?_
  have := e0.1
  have := f0.1
  replace f0 := f0.ext x1
  replace e0 := e0.trans x1
  have := f1.1
  refine GoR.op rfl rfl rfl rfl ?_
  refine GoR.end ?_
  refine Go.seq noJ_ok ?_
  refine Go.region noJ_ok rfl ?_
  refine GoR.op rfl rfl (ld27 rfl f0 rfl) rfl ?_
  refine GoR.op rfl rfl rfl rfl ?_
  refine GoR.call rfl rfl (aOp_callFunc aFunc34 rfl) (hat _ (A.ext e0) 54 _ aFunc54 _ 4 (fun h' e => hB _ h' ((A.ext e0).ext e) (f1.ext e))) ?_ (by rintro _ _ ⟨q, _⟩; cases q)
  rintro v2 h2 ⟨q, x2⟩
  cases q
  refine ⟨_, rfl, ?_⟩
  replace f1 := f1.ext x2
  replace f0 := f0.ext x2
  replace e0 := e0.trans x2
  refine GoR.op rfl rfl rfl rfl ?_
  refine GoR.end ?_
  refine Go.seq noJ_ok ?_
  refine Go.region noJ_ok rfl ?_
  refine GoR.op rfl rfl (ld3 rfl f1 rfl) rfl ?_
  refine GoR.op rfl rfl rfl rfl ?_
  refine GoR.store rfl rfl rfl rfl rfl rfl f1 rfl sz3 rfl rfl rfl fun h3 u3 => ?_
  replace f1 := u3.has f1
  replace f0 := f0.upd u3 (by omega)
  first | replace e0 := e0.upd u3 (by omega) | clear e0
  refine GoR.op rfl rfl rfl rfl ?_
  refine GoR.end ?_
  exact Go.ret noJ_ok (ret_end (aResult_of Try.func19 rfl (aResults_cellC rfl f1 (inCells_one ag3 rfl) rfl)) ⟨rfl, e0⟩)
theorem canB_iff (F : FieldV) : F.canB = true ↔ ∃ l, F.fell l := by
  unfold FieldV.canB FieldV.fell
  rw [List.any_eq_true]
  constructor
  · rintro ⟨l, hl, k⟩
    exact ⟨l, hl, fun T hT => List.all_eq_true.1 k T hT⟩
  · rintro ⟨l, hl, k⟩
    exact ⟨l, hl, List.all_eq_true.2 k⟩
theorem canB_ents {F : FieldV} (O : F.Ok) : F.canB = true ↔ F.ents ≠ [] := by
  rw [canB_iff]
  exact ⟨fun ⟨l, hl⟩ => fell_ne O hl, ne_fell⟩
end Go.Proofs.Ytmdheijpnlonoaa

namespace Go.Proofs.Ytmdheijpnlonoaa
open Go Go.AbsE
set_option linter.unusedSimpArgs false
set_option maxRecDepth 100000
set_option maxHeartbeats 0
set_option linter.unusedVariables false
def FieldV.rain (F : FieldV) (d : Nat) : Int × Int := joinL (F.ents.map fun x => ((x.2.1[d]?).getD 0, (x.2.1[d]?).getD 0))
theorem rain_at {F : FieldV} (O : F.Ok) {h : AH} {bm : Nat} (f : Has h bm (.map (esOf F.ents) F.ents.length)) (d : Nat) (hd : d < 6) :
    Runs Try.prog 41 [.map bm, .int .i64 d] h (fun en h' => en = .ret (.agg (spC (F.rain d))) ∧ Ext h h') := by
  have := rain_ok (known_at O f) d hd
  have hw : (esOf F.ents).map (rainM (decEn F.ents) d) = F.ents.map fun x => ((x.2.1[d]?).getD 0, (x.2.1[d]?).getD 0) := by
    refine esOf_map _ _ _ fun k x hx => ?_
    unfold rainM decEn
    dsimp only
    rw [hx]
    rfl
  rw [hw] at this
  exact this
theorem rainB_ok {F : FieldV} (O : F.Ok) (hne : F.ents ≠ []) (hsl rsl lsl : AVal) (d : Nat) (hd : d < F.rs.length) (bd br : Nat) (h : AH) (A : FieldAt h F hsl rsl lsl)
    (f1 : Has h bd (.cells .plain [.int .i64 d] 3)) (f2 : Has h br (.cells .plain [.int .i64 0, .int .i64 0] 30)) (hbd : bd ≠ br) :
    Runs Try.prog 40 [.agg (F.cells hsl rsl lsl), .ptr bd 0, .ptr br 0] h (fun en h' => en = .ret (.tuple []) ∧ ExtF (fun b => b = br) h h' ∧ Has h' br (.cells .plain (spC (F.rain d)) 30)) := by
  have hl2 := A.rs.len
  rw [List.length_map] at hl2
  have hnr := O.nr
  have htr := truths_yes O hne hsl rsl lsl
  have hn2 := fun h => needDay_ok (F := F) hsl rsl lsl hl2 hnr.2 d hd h
  unfold FieldV.cells fieldC at htr hn2 ⊢
  have y0 : ExtF (fun b => b = br) h h := ExtF.of (Ext.refl _)
  have hbr := f2.1
  refine Runs.intro aFunc40 rfl rfl rfl rfl fun rest => ?_
  refine Go.seq noJ_ok ?_
  refine Go.region noJ_ok rfl ?_
  refine GoR.box rfl rfl rfl rfl rfl rfl fun h3 x3 f3 => ?_
  have := f1.1
  have := f2.1
  replace f1 := f1.ext x3
  replace f2 := f2.ext x3
  replace y0 := y0.ext x3
  have e0 := x3
  have := f3.1
  refine GoR.end ?_
  refine Go.seq noJ_ok ?_
  refine Go.region noJ_ok rfl ?_
  refine GoR.op rfl rfl (ld74 rfl f3 rfl) rfl ?_
  refine GoR.op rfl rfl (ld3 rfl f1 rfl) rfl ?_
  refine GoR.call rfl rfl (aOp_callFunc aFunc37 rfl) (hn2 _) ?_ (by rintro _ _ ⟨q, _⟩; cases q)
  rintro v4 h4 ⟨q, x4⟩
  cases q
  refine ⟨_, rfl, ?_⟩
  replace f3 := f3.ext x4
  replace f1 := f1.ext x4
  replace f2 := f2.ext x4
  replace e0 := e0.trans x4
  replace y0 := y0.ext x4
  refine GoR.end ?_
  refine Go.drawnE plan40_0 ?_
  refine GoE.quiet rfl rfl (ld74 rfl f3 rfl) rfl ?_
  refine GoE.quiet rfl rfl (ld3 rfl f1 rfl) rfl ?_
  refine GoE.call rfl rfl (aOp_callFunc aFunc38 rfl) (htr _ (A.ext e0)) (dropF_keep (show bit? 1 2 = false from rfl) (dropF_drop (show bit? 1 0 = true from rfl) rfl)) ?_ (by rintro _ _ ⟨bm, q, _, hbm, f70⟩; cases q)
  rintro v5 h5 ⟨bm, q, x5, hbm, f70⟩
  cases q
  have := e0.1
  replace f3 := f3.ext x5
  replace f1 := f1.ext x5
  replace f2 := f2.ext x5
  replace e0 := e0.trans x5
  replace y0 := y0.ext x5
  refine ⟨(recheck_cons (h2 := h5) rfl (ld3 rfl f1 rfl) (by first | rfl | exact sameA_int _ _ | exact sameA_bool _ | exact sameA_agg2 _ _ | assumption | (simp [sameA, sameAs, eqI_eq]; done)) recheck_nil), _, rfl, ?_⟩
  refine GoE.call rfl rfl (aOp_callFunc aFunc41 rfl) (rain_at O f70 d (by omega)) (dropF_drop (show bit? 7 2 = true from rfl) rfl) ?_ (by rintro _ _ ⟨q, _⟩; cases q)
  rintro v71 h71 ⟨q, x71⟩
  cases q
  replace f70 := f70.ext x71
  replace f3 := f3.ext x71
  replace f1 := f1.ext x71
  replace f2 := f2.ext x71
  replace e0 := e0.trans x71
  replace y0 := y0.ext x71
  refine ⟨recheck_nil, _, rfl, ?_⟩
  refine GoE.store rfl rfl rfl rfl rfl rfl rfl f2 rfl sz30 rfl rfl rfl fun h72 u72 => ?_
  replace f70 := f70.upd u72 (by omega)
  replace f3 := f3.upd u72 (by omega)
  replace f1 := f1.upd u72 (by omega)
  replace f2 := u72.has f2
  first | replace e0 := e0.upd u72 (by omega) | clear e0
  first | replace y0 := y0.upd u72 (by first | exact .inl rfl | exact .inl (.inl rfl) | exact .inl (.inr rfl) | exact .inl (by assumption) | exact .inr (by omega)) | skip
  refine ⟨recheck_nil, ?_⟩
  refine GoE.end rfl ?_
  exact Go.endL (FLeft.ret (v := .tuple []) (aResult_of Try.func40 rfl rfl) ⟨rfl, y0, f2⟩)
theorem Rain_yes {F : FieldV} (O : F.Ok) (hne : F.ents ≠ []) (hsl rsl lsl : AVal) (d : Nat) (hd : d < F.rs.length) (h : AH) (A : FieldAt h F hsl rsl lsl) :
    Runs Try.prog 14 [.agg (F.cells hsl rsl lsl), .int .i64 d] h (fun en h' => en = .ret (.tuple [.agg (spC (F.rain d)), .int .i64 0]) ∧ Ext h h') := by
  have hB := rainB_ok O hne hsl rsl lsl d hd
  have hat := attempt_does O hsl rsl lsl
  unfold FieldV.cells fieldC at hat hB ⊢
  refine Runs.intro aFunc14 rfl rfl rfl rfl fun rest => ?_
  refine Go.seq noJ_ok ?_
  refine Go.region noJ_ok rfl ?_
  refine GoR.box rfl rfl rfl rfl rfl rfl fun h0 x0 f0 => ?_
  have e0 := x0
  have := f0.1
  refine GoR.box rfl rfl rfl rfl rfl rfl fun h1 x1 f1 => ?_
  have := e0.1
  have := f0.1
  replace f0 := f0.ext x1
  replace e0 := e0.trans x1
  have := f1.1
  refine GoR.alloc rfl rfl rfl zt30 rfl rfl fun h2 x2 f2 => ?_
  have := e0.1
  have := f1.1
  have := f0.1
  replace f1 := f1.ext x2
  replace f0 := f0.ext x2
  replace e0 := e0.trans x2
  have := f2.1
  refine GoR.op rfl rfl rfl rfl ?_
  refine GoR.end ?_
  refine Go.seq noJ_ok ?_
  refine Go.region noJ_ok rfl ?_
  refine GoR.op rfl rfl (ld27 rfl f0 rfl) rfl ?_
  refine GoR.op rfl rfl rfl rfl ?_
  have hS : ∀ b, (fun b => b = h1.next) b → b < h2.next := fun b q => by have : b = h1.next := q; have := f2.1; omega
  refine GoR.call rfl rfl (aOp_callFunc aFunc34 rfl) (hat _ (A.ext e0) 40 _ aFunc40 _ (fun b => b = h1.next) hS (fun h' => Has h' h1.next (.cells .plain (spC (F.rain d)) 30)) (fun h4 h' le same t => t.keep le (same _ (hS _ rfl))) (fun h' e => hB _ _ h' ((A.ext e0).ext e) (f1.ext e) (f2.ext e) (by omega))) ?_ (by rintro _ _ ⟨q, _⟩; cases q)
  rintro v9 h9 ⟨q, y9, f9⟩
  cases q
  refine ⟨_, rfl, ?_⟩
  have e9 := y9.low e0 (fun b q => by have : b = h1.next := q; omega)
  clear e0 y9 f2
  refine GoR.op rfl rfl rfl rfl ?_
  refine GoR.end ?_
  refine Go.seq noJ_ok ?_
  refine Go.region noJ_ok rfl ?_
  refine GoR.op rfl rfl (ld30 rfl f9 rfl) rfl ?_
  refine GoR.op rfl rfl rfl rfl ?_
  refine GoR.store rfl rfl rfl rfl rfl rfl f9 rfl sz30 rfl rfl rfl fun h10 u10 => ?_
  replace f9 := u10.has f9
  first | replace e9 := e9.upd u10 (by omega) | clear e9
  refine GoR.op rfl rfl rfl rfl ?_
  refine GoR.end ?_
  exact Go.ret noJ_ok (ret_end (aResult_of Try.func14 rfl (aResults_cellC rfl f9 (inCells_agg ag30 sz30 rfl) rfl)) ⟨rfl, e9⟩)
end Go.Proofs.Ytmdheijpnlonoaa
