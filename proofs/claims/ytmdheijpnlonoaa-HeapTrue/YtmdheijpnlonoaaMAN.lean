import Derived.Test.YtmdheijpnlonoaaMAM
import Derived.Test.YtmdheijpnlonoaaMAJ
import Derived.Test.YtmdheijpnlonoaaChecked
import Derived.KernelRfl
namespace Go.Proofs.Ytmdheijpnlonoaa
open Go Go.AbsE
set_option linter.unusedSimpArgs false
set_option maxRecDepth 100000
set_option maxHeartbeats 0
set_option linter.unusedVariables false
theorem by3 : bytesT Try.prog 3 = some 8 := by kernel_rfl
def whenV (F : FieldV) (L : List Int) : Option Nat := (List.range F.rs.length).find? fun d => L.all fun i => F.sure i d
theorem find_some {p : Nat → Bool} {n d : Nat} (hd : d < n) (hp : p d = true) (h : ∀ k, k < d → p k = false) : (List.range n).find? p = some d := by
  rw [List.find?_range_eq_some]
  exact ⟨hp, by simpa using hd, fun j hj => by rw [h j hj]; rfl⟩
theorem find_none {p : Nat → Bool} {n : Nat} (h : ∀ k, k < n → p k = false) : (List.range n).find? p = none := by
  rw [List.find?_eq_none]
  intro k hk
  rw [h k (by simpa using hk)]
  simp
theorem when_no {F : FieldV} (O : F.Ok) (he : F.ents = []) (hsl rsl lsl s : AVal) (h : AH) (A : FieldAt h F hsl rsl lsl) : Runs Try.prog 45 [.agg (F.cells hsl rsl lsl), s] h (fun en h' => en = .pan (refusal 10) ∧ Ext h h') := by
  have htr := truths_no O he hsl rsl lsl
  unfold FieldV.cells fieldC at htr ⊢
  refine Runs.intro aFunc45 rfl rfl rfl rfl fun rest => ?_
  refine Go.seq noJ_ok ?_
  refine Go.region noJ_ok rfl ?_
  refine GoR.box rfl rfl rfl rfl rfl rfl fun h0 x0 f0 => ?_
  have e0 := x0
  have := f0.1
  refine GoR.op rfl rfl rfl rfl ?_
  refine GoR.end ?_
  refine Go.seq noJ_ok ?_
  refine Go.region noJ_ok rfl ?_
  refine GoR.op rfl rfl (ld74 rfl f0 rfl) rfl ?_
  refine GoR.callP rfl rfl (aOp_callFunc aFunc38 rfl) (htr _ (A.ext e0)) (by rintro _ _ ⟨q, _⟩; cases q) ?_
  rintro chain h' ⟨q, x⟩
  have q := AEnd.pan.inj q
  subst q
  exact FLeft.pan ⟨rfl, e0.trans x⟩
theorem when_ok {F : FieldV} (O : F.Ok) (hne : F.ents ≠ []) (hsl rsl lsl s : AVal) (L : List Int) (h : AH) (A : FieldAt h F hsl rsl lsl) (hs : SliceOf h 1 s (L.map fun x => [AVal.int .i64 x])) (hL : L.length ≤ 100) :
    Runs Try.prog 45 [.agg (F.cells hsl rsl lsl), s] h (fun en h' => Ext h h' ∧ ((∃ d, whenV F L = some d ∧ en = .ret (.int .i64 (d : Nat))) ∨ (whenV F L = none ∧ en = .pan (refusal 4)))) := by
  have htr := truths_yes O hne hsl rsl lsl
  have hns := fun {bf bk bd bm d : Nat} (hd : d < 6) {h : AH} (W : WhenA F hsl rsl lsl bf bk bd bm d h) (i : Int) => notSure_ok O hsl rsl lsl A.hs.same A.rs.same A.ls.same hd W i
  have h2 := A.rs.len
  rw [List.length_map] at h2
  have hn6 := O.nr.2
  obtain ⟨n, hn⟩ : ∃ n, F.rs.length = n := ⟨_, rfl⟩
  rw [hn] at h2 hn6
  unfold whenV
  rw [hn]
  unfold FieldV.cells fieldC at htr ⊢
  refine Runs.intro aFunc45 rfl rfl rfl rfl fun rest => ?_
  refine Go.seq noJ_ok ?_
  refine Go.region noJ_ok rfl ?_
  refine GoR.box rfl rfl rfl rfl rfl rfl fun h3 x3 f3 => ?_
  have e0 := x3
  have := f3.1
  refine GoR.op rfl rfl rfl rfl ?_
  refine GoR.end ?_
  refine Go.seq noJ_ok ?_
  refine Go.region noJ_ok rfl ?_
  refine GoR.op rfl rfl (ld74 rfl f3 rfl) rfl ?_
  refine GoR.call rfl rfl (aOp_callFunc aFunc38 rfl) (htr _ (A.ext e0)) ?_ (by rintro _ _ ⟨bm, q, _, hbm, f70⟩; cases q)
  rintro v4 h4 ⟨bm, q, x4, hbm, f70⟩
  cases q
  refine ⟨_, rfl, ?_⟩
  replace f3 := f3.ext x4
  replace e0 := e0.trans x4
  refine GoR.alloc rfl rfl rfl zt77 rfl rfl fun h71 x71 f71 => ?_
  have := e0.1
  have := f70.1
  have := f3.1
  replace f70 := f70.ext x71
  replace f3 := f3.ext x71
  replace e0 := e0.trans x71
  have := f71.1
  refine GoR.store rfl rfl rfl rfl rfl rfl f71 rfl sz77 rfl rfl rfl fun h72 u72 => ?_
  replace f71 := u72.has f71
  replace f70 := f70.upd u72 (by omega)
  replace f3 := f3.upd u72 (by omega)
  replace e0 := e0.upd u72 (by omega)
  refine GoR.end ?_
  iterate 2 refine Go.seq noJ_ok ?_
  refine Go.region noJ_ok rfl ?_
  refine GoR.op rfl rfl (fa74_1 rfl) rfl ?_
  refine GoR.op rfl rfl (ld23 rfl f3 rfl) rfl ?_
  refine GoR.op rfl rfl (aOp_lenSlice Try.underlying23 rfl h2) rfl ?_
  refine GoR.op rfl rfl rfl rfl ?_
  refine GoR.end ?_
  refine Go.block noJ_ok ?_
  refine Go.loopKeep (fun d : Nat => [(1, s), (2, .ptr h.next 0), (5, .ptr h4.next 0), (12, .int .i64 n), (13, .int .i64 (d : Nat))])
    (fun m d h' => m + d = n ∧ Ext h h' ∧ Has h' h.next (.cells .plain [hsl, rsl, .int .i64 F.a, .int .i64 F.b, .int .i64 F.c, .int .i64 F.lim, lsl] 74) ∧ Has h' h4.next (.cells .plain [.map bm] 77) ∧ Has h' bm (.map (esOf F.ents) F.ents.length) ∧ ∀ k, k < d → (L.all fun i => F.sure i k) = false)
    (n := n) 0 ⟨rfl, rfl, rfl, rfl, rfl, trivial⟩ ⟨rfl, e0, f3, f71, f70, fun k hk => by omega⟩ ?_
  clear e0 f3 f71 f70
  rintro m d hh ⟨hm, e0, f0, f1, f2, hbefore⟩ again
  by_cases hd : d < n
  · have hcn : ∀ h' bd, Ext h h' → WhenA F hsl rsl lsl h.next h4.next bd bm d h' → Runs Try.prog 80 [s, .func (.func 79) [] [.ptr h.next 0, .ptr h4.next 0, .ptr bd 0]] h' (fun en h'' => en = .ret (.bool (!(L.all fun i => F.sure i d))) ∧ Ext h' h'') := fun h' bd e W => by
      have := cont80_ok aFunc79 s L (fun i => !F.sure i d) h' (hs.ext e) hL (caps := [.ptr h.next 0, .ptr h4.next 0, .ptr bd 0]) (fun x h'' hx e' => hns (by omega) (W.ext e') x)
      rw [show (L.any fun i => !F.sure i d) = !(L.all fun i => F.sure i d) by rw [List.not_all_eq_any_not]] at this
      exact this
    cases hq : L.all fun i => F.sure i d with
    | true =>
      rw [hq] at hcn
      have hf := find_some (p := fun d => L.all fun i => F.sure i d) hd hq hbefore
      refine Go.seq noJ_ok ?_
      refine Go.region noJ_ok rfl ?_
      refine GoR.op rfl rfl (aOp_lss rfl rfl (r := true) (decide_eq_true (by omega))) rfl ?_
      refine GoR.end ?_
      refine Go.seq noJ_ok ?_
      refine Go.cond noJ_ok (b := true) rfl ?_
      refine Go.code noJ_ok ?_
      refine Go.seq noJ_ok ?_
      refine Go.block noJ_ok ?_
      refine Go.seq noJ_ok ?_
      refine Go.region noJ_ok rfl ?_
      refine GoR.op rfl rfl rfl rfl ?_
      refine GoR.alloc rfl rfl rfl zt3 rfl rfl fun h73 x73 f73 => ?_
      have := e0.1
      have := f0.1
      have := f1.1
      have := f2.1
      replace f0 := f0.ext x73
      replace f1 := f1.ext x73
      replace f2 := f2.ext x73
      replace e0 := e0.trans x73
      have := f73.1
      refine GoR.store rfl rfl rfl rfl rfl rfl f73 rfl sz3 rfl rfl rfl fun h74 u74 => ?_
      replace f73 := u74.has f73
      replace f0 := f0.upd u74 (by omega)
      replace f1 := f1.upd u74 (by omega)
      replace f2 := f2.upd u74 (by omega)
      replace e0 := e0.upd u74 (by omega)
      refine GoR.end ?_
      refine Go.seq noJ_ok ?_
      refine Go.region noJ_ok rfl ?_
      iterate 2 refine GoR.op rfl rfl rfl rfl ?_
      refine GoR.end ?_
      refine Go.seq noJ_ok ?_
      refine Go.region noJ_ok rfl ?_
      iterate 2 refine GoR.op rfl rfl rfl rfl ?_
      refine GoR.call rfl rfl (aOp_callFunc aFunc80 rfl) (hcn _ _ e0 ⟨f0, f1, by assumption, f2⟩) ?_ (by rintro _ _ ⟨q, _⟩; cases q)
      rintro v75 h75 ⟨q, x75⟩
      cases q
      refine ⟨_, rfl, ?_⟩
      replace f73 := f73.ext x75
      replace f0 := f0.ext x75
      replace f1 := f1.ext x75
      replace f2 := f2.ext x75
      replace e0 := e0.trans x75
      refine GoR.op rfl rfl rfl rfl ?_
      refine GoR.end ?_
      refine Go.cond noJ_ok (b := true) rfl ?_
      refine Go.seq noJ_ok ?_
      refine Go.region noJ_ok rfl ?_
      refine GoR.op rfl rfl (ld3 rfl f73 rfl) rfl ?_
      refine GoR.op rfl rfl rfl rfl ?_
      refine GoR.end ?_
      exact Go.ret noJ_ok (ret_end (aResult_of Try.func45 rfl rfl) ⟨e0, .inl ⟨d, hf, rfl⟩⟩)
    | false =>
      rw [hq] at hcn
      refine Go.seq noJ_ok ?_
      refine Go.region noJ_ok rfl ?_
      refine GoR.op rfl rfl (aOp_lss rfl rfl (r := true) (decide_eq_true (by omega))) rfl ?_
      refine GoR.end ?_
      refine Go.seq noJ_ok ?_
      refine Go.cond noJ_ok (b := true) rfl ?_
      refine Go.code noJ_ok ?_
      refine Go.seq noJ_ok ?_
      refine Go.block noJ_ok ?_
      refine Go.seq noJ_ok ?_
      refine Go.region noJ_ok rfl ?_
      refine GoR.op rfl rfl rfl rfl ?_
      refine GoR.alloc rfl rfl rfl zt3 rfl rfl fun h73 x73 f73 => ?_
      have := e0.1
      have := f0.1
      have := f1.1
      have := f2.1
      replace f0 := f0.ext x73
      replace f1 := f1.ext x73
      replace f2 := f2.ext x73
      replace e0 := e0.trans x73
      have := f73.1
      refine GoR.store rfl rfl rfl rfl rfl rfl f73 rfl sz3 rfl rfl rfl fun h74 u74 => ?_
      replace f73 := u74.has f73
      replace f0 := f0.upd u74 (by omega)
      replace f1 := f1.upd u74 (by omega)
      replace f2 := f2.upd u74 (by omega)
      replace e0 := e0.upd u74 (by omega)
      refine GoR.end ?_
      refine Go.seq noJ_ok ?_
      refine Go.region noJ_ok rfl ?_
      iterate 2 refine GoR.op rfl rfl rfl rfl ?_
      refine GoR.end ?_
      refine Go.seq noJ_ok ?_
      refine Go.region noJ_ok rfl ?_
      iterate 2 refine GoR.op rfl rfl rfl rfl ?_
      refine GoR.call rfl rfl (aOp_callFunc aFunc80 rfl) (hcn _ _ e0 ⟨f0, f1, by assumption, f2⟩) ?_ (by rintro _ _ ⟨q, _⟩; cases q)
      rintro v75 h75 ⟨q, x75⟩
      cases q
      refine ⟨_, rfl, ?_⟩
      replace f73 := f73.ext x75
      replace f0 := f0.ext x75
      replace f1 := f1.ext x75
      replace f2 := f2.ext x75
      replace e0 := e0.trans x75
      refine GoR.op rfl rfl rfl rfl ?_
      refine GoR.end ?_
      refine Go.cond noJ_ok (b := false) rfl ?_
      refine Go.code noJ_ok ?_
      refine Go.inBlock noJ_ok ?_
      refine Go.region noJ_ok rfl ?_
      refine GoR.op rfl rfl (aOp_add rfl rfl (by constructor <;> omega) rfl) rfl ?_
      refine GoR.op rfl rfl rfl rfl ?_
      refine GoR.end ?_
      exact again (m - 1) (d + 1) _ _ (by omega) ⟨rfl, rfl, rfl, rfl, rfl, trivial⟩ ⟨by omega, e0, f0, f1, f2, fun k hk => by
        by_cases hkd : k < d
        · exact hbefore k hkd
        · have : k = d := by omega
          subst this
          exact hq⟩
  · have hdn : d = n := by omega
    subst hdn
    have hf := find_none (p := fun d => L.all fun i => F.sure i d) hbefore
    refine Go.seq noJ_ok ?_
    refine Go.region noJ_ok rfl ?_
    refine GoR.op rfl rfl (aOp_lss rfl rfl (r := false) (decide_eq_false (by omega))) rfl ?_
    refine GoR.end ?_
    refine Go.seq noJ_ok ?_
    refine Go.cond noJ_ok (b := false) rfl ?_
    refine Go.code noJ_ok ?_
    refine Go.region noJ_ok rfl ?_
    refine GoR.op rfl rfl rfl rfl ?_
    exact GoR.panic rfl rfl rfl (FLeft.pan ⟨e0, .inr ⟨hf, rfl⟩⟩)
theorem heaps_ok {F : FieldV} (O : F.Ok) (hsl rsl lsl : AVal) (h : AH) (A : FieldAt h F hsl rsl lsl) :
    Runs Try.prog 63 [.agg (F.cells hsl rsl lsl)] h (fun en h' => ∃ s cs, AEnd.ret s = en ∧ Ext h h' ∧ Grow h' 3 1 h.next s F.hs.length cs ∧ cs = (List.range F.hs.length).map fun i : Nat => AVal.int .i64 i) := by
  have h1 := A.hs.len
  rw [List.length_map] at h1
  have hnh := O.nh
  unfold FieldV.cells fieldC
  refine Runs.intro aFunc63 rfl rfl rfl rfl fun rest => ?_
  refine Go.seq noJ_ok ?_
  refine Go.region noJ_ok rfl ?_
  refine GoR.box rfl rfl rfl rfl rfl rfl fun h2 x2 f2 => ?_
  have e0 := x2
  have := f2.1
  refine GoR.op rfl rfl rfl rfl ?_
  refine GoR.end ?_
  refine Go.seq noJ_ok ?_
  refine Go.region noJ_ok rfl ?_
  refine GoR.op rfl rfl rfl rfl ?_
  refine GoR.end ?_
  iterate 2 refine Go.seq noJ_ok ?_
  refine Go.region noJ_ok rfl ?_
  refine GoR.op rfl rfl (fa74_0 rfl) rfl ?_
  refine GoR.op rfl rfl (ld22 rfl f2 rfl) rfl ?_
  refine GoR.op rfl rfl (aOp_lenSlice Try.underlying22 rfl h1) rfl ?_
  refine GoR.op rfl rfl rfl rfl ?_
  refine GoR.end ?_
  refine Go.block noJ_ok ?_
  refine Go.loopKeep (fun a : Nat × AVal => [(3, a.2), (7, .int .i64 F.hs.length), (8, .int .i64 (a.1 : Nat))])
    (fun m a h' => m + a.1 = F.hs.length ∧ Ext h h' ∧ Grow h' 3 1 h.next a.2 a.1 ((List.range a.1).map fun i : Nat => AVal.int .i64 i)) (n := F.hs.length) (0, .nilslice) ⟨rfl, rfl, rfl, trivial⟩ ⟨rfl, e0, Grow.nil _ _ _ _⟩ ?_
  clear e0
  rintro m ⟨i, s⟩ hh ⟨hm, e0, G⟩ again
  dsimp only at hm G ⊢
  by_cases hi : i < F.hs.length
  · have e1 : Ext hh hh := Ext.refl _
    refine Go.seq noJ_ok ?_
    refine Go.region noJ_ok rfl ?_
    refine GoR.op rfl rfl (aOp_lss rfl rfl (r := true) (decide_eq_true (by omega))) rfl ?_
    refine GoR.end ?_
    refine Go.seq noJ_ok ?_
    refine Go.cond noJ_ok (b := true) rfl ?_
    refine Go.code noJ_ok ?_
    refine Go.seq noJ_ok ?_
    refine Go.block noJ_ok ?_
    refine Go.seq noJ_ok ?_
    refine Go.region noJ_ok rfl ?_
    iterate 2 refine GoR.op rfl rfl rfl rfl ?_
    refine GoR.end ?_
    refine Go.region noJ_ok rfl ?_
    iterate 2 refine GoR.op rfl rfl rfl rfl ?_
    refine GoR.buildSl rfl rfl (ps := [(0, .int .i64 i)]) (cs := [.int .i64 i]) Try.underlying50 rfl sz3 zt3 rfl rfl rfl rfl fun h3 x3 f3 => ?_
    have := e0.1
    have := e1.1
    replace e0 := e0.trans x3
    replace e1 := e1.trans x3
    have := f3.1
    have he3 := e0.1
    have G' := G.ext e1
    refine GoR.append1F (lo := h.next) (s := s) rfl rfl rfl Try.underlying50 Try.underlying50 sz3 by3 zt3 rfl rfl rfl rfl f3 rfl rfl G' (by omega) rfl rfl fun s6 h59 y59 g59 => ?_
    have e5 : Ext h h59 := y59.low e0 (fun b q => (grow_own G' q).1)
    clear e0 e1 f3 y59
    have e0 := e5
    refine GoR.op rfl rfl rfl rfl ?_
    refine GoR.end ?_
    refine Go.inBlock noJ_ok ?_
    refine Go.region noJ_ok rfl ?_
    refine GoR.op rfl rfl (aOp_add rfl rfl (by constructor <;> omega) rfl) rfl ?_
    refine GoR.op rfl rfl rfl rfl ?_
    refine GoR.end ?_
    exact again (m - 1) (i + 1, s6) _ _ (by omega) ⟨rfl, rfl, rfl, trivial⟩ ⟨by dsimp only; omega, e5, by rw [List.range_succ, List.map_append]; exact g59.low (by omega)⟩
  · have hin : i = F.hs.length := by omega
    subst hin
    refine Go.seq noJ_ok ?_
    refine Go.region noJ_ok rfl ?_
    refine GoR.op rfl rfl (aOp_lss rfl rfl (r := false) (decide_eq_false (by omega))) rfl ?_
    refine GoR.end ?_
    refine Go.seq noJ_ok ?_
    refine Go.cond noJ_ok (b := false) rfl ?_
    refine Go.code noJ_ok ?_
    refine Go.seq noJ_ok ?_
    refine Go.region noJ_ok rfl ?_
    iterate 2 refine GoR.op rfl rfl rfl rfl ?_
    refine GoR.end ?_
    exact Go.ret noJ_ok (ret_end (aResult_of Try.func63 rfl rfl) ⟨s, _, rfl, e0, G, rfl⟩)
end Go.Proofs.Ytmdheijpnlonoaa

namespace Go.Proofs.Ytmdheijpnlonoaa
open Go Go.AbsE
set_option linter.unusedSimpArgs false
set_option maxRecDepth 100000
set_option maxHeartbeats 0
set_option linter.unusedVariables false
theorem needHeap_ok {F : FieldV} (hsl rsl lsl : AVal) (h1 : lenA hsl = some F.hs.length) (hn : F.hs.length ≤ 3) (i : Nat) (hi : i < F.hs.length) (h : AH) : Runs Try.prog 36 [.agg (F.cells hsl rsl lsl), .int .i64 i] h (fun en h' => en = .ret (.tuple []) ∧ Ext h h') := by
  unfold FieldV.cells fieldC
  refine Runs.intro aFunc36 rfl rfl rfl rfl fun rest => ?_
  refine Go.seq noJ_ok ?_
  refine Go.region noJ_ok rfl ?_
  refine GoR.box rfl rfl rfl rfl rfl rfl fun h2 x2 f2 => ?_
  have e0 := x2
  have := f2.1
  refine GoR.end ?_
  refine Go.region noJ_ok rfl ?_
  refine GoR.op rfl rfl rfl rfl ?_
  refine GoR.op rfl rfl (fa74_0 rfl) rfl ?_
  refine GoR.op rfl rfl (ld22 rfl f2 rfl) rfl ?_
  refine GoR.op rfl rfl (aOp_lenSlice Try.underlying22 rfl h1) rfl ?_
  refine GoR.op rfl rfl (aOp_sub rfl rfl (by constructor <;> omega) rfl) rfl ?_
  refine GoR.call rfl rfl (aOp_callFunc aFunc66 rfl) (inside_ok i 0 (F.hs.length - 1) (r := true) (by simp; omega) _) ?_ (by rintro _ _ ⟨q, _⟩; cases q)
  rintro v3 h3 ⟨q, x3⟩
  cases q
  refine ⟨_, rfl, ?_⟩
  replace f2 := f2.ext x3
  replace e0 := e0.trans x3
  refine GoR.op rfl rfl rfl rfl ?_
  refine GoR.call rfl rfl (aOp_callFunc aFunc55 rfl) (refuse_no 2 _) ?_ (by rintro _ _ ⟨q, _⟩; cases q)
  rintro v4 h4 ⟨q, x4⟩
  cases q
  refine ⟨_, rfl, ?_⟩
  replace f2 := f2.ext x4
  replace e0 := e0.trans x4
  refine GoR.end ?_
  exact Go.endL (FLeft.ret (v := .tuple []) (aResult_of Try.func36 rfl rfl) ⟨rfl, e0⟩)
theorem needDay_ok {F : FieldV} (hsl rsl lsl : AVal) (h1 : lenA rsl = some F.rs.length) (hn : F.rs.length ≤ 6) (i : Nat) (hi : i < F.rs.length) (h : AH) : Runs Try.prog 37 [.agg (F.cells hsl rsl lsl), .int .i64 i] h (fun en h' => en = .ret (.tuple []) ∧ Ext h h') := by
  unfold FieldV.cells fieldC
  refine Runs.intro aFunc37 rfl rfl rfl rfl fun rest => ?_
  refine Go.seq noJ_ok ?_
  refine Go.region noJ_ok rfl ?_
  refine GoR.box rfl rfl rfl rfl rfl rfl fun h2 x2 f2 => ?_
  have e0 := x2
  have := f2.1
  refine GoR.end ?_
  refine Go.region noJ_ok rfl ?_
  refine GoR.op rfl rfl rfl rfl ?_
  refine GoR.op rfl rfl (fa74_1 rfl) rfl ?_
  refine GoR.op rfl rfl (ld23 rfl f2 rfl) rfl ?_
  refine GoR.op rfl rfl (aOp_lenSlice Try.underlying23 rfl h1) rfl ?_
  refine GoR.op rfl rfl (aOp_sub rfl rfl (by constructor <;> omega) rfl) rfl ?_
  refine GoR.call rfl rfl (aOp_callFunc aFunc66 rfl) (inside_ok i 0 (F.rs.length - 1) (r := true) (by simp; omega) _) ?_ (by rintro _ _ ⟨q, _⟩; cases q)
  rintro v3 h3 ⟨q, x3⟩
  cases q
  refine ⟨_, rfl, ?_⟩
  replace f2 := f2.ext x3
  replace e0 := e0.trans x3
  refine GoR.op rfl rfl rfl rfl ?_
  refine GoR.call rfl rfl (aOp_callFunc aFunc55 rfl) (refuse_no 2 _) ?_ (by rintro _ _ ⟨q, _⟩; cases q)
  rintro v4 h4 ⟨q, x4⟩
  cases q
  refine ⟨_, rfl, ?_⟩
  replace f2 := f2.ext x4
  replace e0 := e0.trans x4
  refine GoR.end ?_
  exact Go.endL (FLeft.ret (v := .tuple []) (aResult_of Try.func37 rfl rfl) ⟨rfl, e0⟩)
theorem wetB_ok {F : FieldV} (O : F.Ok) (hne : F.ents ≠ []) (hsl rsl lsl : AVal) (i d : Nat) (hi : i < F.hs.length) (hd : d < F.rs.length) (bi bd br : Nat) (h : AH) (A : FieldAt h F hsl rsl lsl)
    (f0 : Has h bi (.cells .plain [.int .i64 i] 3)) (f1 : Has h bd (.cells .plain [.int .i64 d] 3)) (f2 : Has h br (.cells .plain [.int .i64 0, .int .i64 0] 30)) (hbi : bi ≠ br) (hbd : bd ≠ br) :
    Runs Try.prog 35 [.agg (F.cells hsl rsl lsl), .ptr bi 0, .ptr bd 0, .ptr br 0] h (fun en h' => en = .ret (.tuple []) ∧ ExtF (fun b => b = br) h h' ∧ Has h' br (.cells .plain (spC (F.wet (i : Nat) d)) 30)) := by
  have hl1 := A.hs.len
  have hl2 := A.rs.len
  rw [List.length_map] at hl1 hl2
  have hnh := O.nh
  have hnr := O.nr
  have htr := truths_yes O hne hsl rsl lsl
  have hn1 := fun h => needHeap_ok (F := F) hsl rsl lsl hl1 hnh.2 i hi h
  have hn2 := fun h => needDay_ok (F := F) hsl rsl lsl hl2 hnr.2 d hd h
  unfold FieldV.cells fieldC at htr hn1 hn2 ⊢
  have y0 : ExtF (fun b => b = br) h h := ExtF.of (Ext.refl _)
  have hbr := f2.1
  have AX : ∀ h', ExtF (fun b => b = br) h h' → Ext h h' → FieldAt h' F hsl rsl lsl := fun h' _ e => A.ext e
  refine Runs.intro aFunc35 rfl rfl rfl rfl fun rest => ?_
  refine Go.seq noJ_ok ?_
  refine Go.region noJ_ok rfl ?_
  refine GoR.box rfl rfl rfl rfl rfl rfl fun h3 x3 f3 => ?_
  have := f0.1
  have := f1.1
  have := f2.1
  replace f0 := f0.ext x3
  replace f1 := f1.ext x3
  replace f2 := f2.ext x3
  replace y0 := y0.ext x3
  have e0 := x3
  have := f3.1
  refine GoR.end ?_
  refine Go.seq noJ_ok ?_
  refine Go.region noJ_ok rfl ?_
  refine GoR.op rfl rfl (ld74 rfl f3 rfl) rfl ?_
  refine GoR.op rfl rfl (ld3 rfl f0 rfl) rfl ?_
  refine GoR.call rfl rfl (aOp_callFunc aFunc36 rfl) (hn1 _) ?_ (by rintro _ _ ⟨q, _⟩; cases q)
  rintro v4 h4 ⟨q, x4⟩
  cases q
  refine ⟨_, rfl, ?_⟩
  replace f3 := f3.ext x4
  replace f0 := f0.ext x4
  replace f1 := f1.ext x4
  replace f2 := f2.ext x4
  replace e0 := e0.trans x4
  replace y0 := y0.ext x4
  refine GoR.end ?_
  refine Go.seq noJ_ok ?_
  refine Go.region noJ_ok rfl ?_
  refine GoR.op rfl rfl (ld74 rfl f3 rfl) rfl ?_
  refine GoR.op rfl rfl (ld3 rfl f1 rfl) rfl ?_
  refine GoR.call rfl rfl (aOp_callFunc aFunc37 rfl) (hn2 _) ?_ (by rintro _ _ ⟨q, _⟩; cases q)
  rintro v5 h5 ⟨q, x5⟩
  cases q
  refine ⟨_, rfl, ?_⟩
  replace f3 := f3.ext x5
  replace f0 := f0.ext x5
  replace f1 := f1.ext x5
  replace f2 := f2.ext x5
  replace e0 := e0.trans x5
  replace y0 := y0.ext x5
  refine GoR.end ?_
  refine Go.drawnE plan35_0 ?_
  refine GoE.quiet rfl rfl (ld74 rfl f3 rfl) rfl ?_
  refine GoE.quiet rfl rfl (ld3 rfl f0 rfl) rfl ?_
  refine GoE.quiet rfl rfl (ld3 rfl f1 rfl) rfl ?_
  refine GoE.call rfl rfl (aOp_callFunc aFunc38 rfl) (htr _ (A.ext e0)) (dropF_keep (show bit? 1 3 = false from rfl) (dropF_keep (show bit? 1 2 = false from rfl) (dropF_drop (show bit? 1 0 = true from rfl) rfl))) ?_ (by rintro _ _ ⟨bm, q, _, hbm, f70⟩; cases q)
  rintro v6 h6 ⟨bm, q, x6, hbm, f70⟩
  cases q
  have := e0.1
  replace f3 := f3.ext x6
  replace f0 := f0.ext x6
  replace f1 := f1.ext x6
  replace f2 := f2.ext x6
  replace e0 := e0.trans x6
  replace y0 := y0.ext x6
  refine ⟨(recheck_cons (h2 := h6) rfl (ld3 rfl f1 rfl) (by first | rfl | exact sameA_int _ _ | exact sameA_bool _ | exact sameA_agg2 _ _ | assumption | (simp [sameA, sameAs, eqI_eq]; done)) (recheck_cons (h2 := h6) rfl (ld3 rfl f0 rfl) (by first | rfl | exact sameA_int _ _ | exact sameA_bool _ | exact sameA_agg2 _ _ | assumption | (simp [sameA, sameAs, eqI_eq]; done)) recheck_nil)), _, rfl, ?_⟩
  refine GoE.call rfl rfl (aOp_callFunc aFunc39 rfl) (wet_at O f70 (i : Nat) d (by omega)) (dropF_drop (show bit? 15 3 = true from rfl) (dropF_drop (show bit? 15 2 = true from rfl) rfl)) ?_ (by rintro _ _ ⟨q, _⟩; cases q)
  rintro v71 h71 ⟨q, x71⟩
  cases q
  replace f70 := f70.ext x71
  replace f3 := f3.ext x71
  replace f0 := f0.ext x71
  replace f1 := f1.ext x71
  replace f2 := f2.ext x71
  replace e0 := e0.trans x71
  replace y0 := y0.ext x71
  refine ⟨recheck_nil, _, rfl, ?_⟩
  refine GoE.store rfl rfl rfl rfl rfl rfl rfl f2 rfl sz30 rfl rfl rfl fun h72 u72 => ?_
  replace f70 := f70.upd u72 (by omega)
  replace f3 := f3.upd u72 (by omega)
  replace f0 := f0.upd u72 (by omega)
  replace f1 := f1.upd u72 (by omega)
  replace f2 := u72.has f2
  first | replace e0 := e0.upd u72 (by omega) | clear e0
  replace y0 := y0.upd u72 (by first | exact .inl rfl | exact .inl (.inl rfl) | exact .inl (.inr rfl) | exact .inl (by assumption) | exact .inr (by omega))
  refine ⟨recheck_nil, ?_⟩
  refine GoE.end rfl ?_
  exact Go.endL (FLeft.ret (v := .tuple []) (aResult_of Try.func35 rfl rfl) ⟨rfl, y0, f2⟩)
theorem aResults_cellC {t : Tr AVal} {h : AH} {x : Tmp} {ty : TypeId} {b off : Nat} {g : Kd} {cs l : List AVal} {el : TypeId} {v : AVal} {r : List ResultVar} (hx : t.get (pth x) = some (.ptr b off)) (hb : Has h b (.cells g cs el)) (hv : inCells Try.prog ty cs off = some v) (hr : aResults Try.prog h t r = some l) : aResults Try.prog h t (.cell x ty :: r) = some (v :: l) := by
  simp only [aResults, hx, loadVar_cells hb hv, hr]
theorem attempt_gives {F : FieldV} (O : F.Ok) (hsl rsl lsl : AVal) (h : AH) (A : FieldAt h F hsl rsl lsl) (W : FuncId) (fW : Func) (hfid : aFunc Try.prog W = some fW) (caps : List AVal) (code : Int)
    (hbody : ∀ h', Ext h h' → Runs Try.prog W ([.agg (F.cells hsl rsl lsl)] ++ caps) h' (fun en h'' => en = .pan (refusal code) ∧ Ext h' h'')) :
    Runs Try.prog 34 [.agg (F.cells hsl rsl lsl), .func (.func W) [] caps] h (fun en h' => en = .ret (.int .i64 code) ∧ Ext h h') :=
  (attempt_ok O hsl rsl lsl h A W fW hfid caps (fun _ => False) (fun _ q => q.elim) (fun c _ => c = code) fun h' e => (hbody h' e).mono fun en h'' ⟨q, x⟩ => ⟨ExtF.of x, .inr ⟨code, q, rfl⟩⟩).mono
    fun en h' ⟨c, h2, q, hc, x, _, _⟩ => ⟨by rw [q, hc], x.1, fun b hb => x.2 b hb id⟩
theorem attempt_does {F : FieldV} (O : F.Ok) (hsl rsl lsl : AVal) (h : AH) (A : FieldAt h F hsl rsl lsl) (W : FuncId) (fW : Func) (hfid : aFunc Try.prog W = some fW) (caps : List AVal) (S : Nat → Prop) (hS : ∀ b, S b → b < h.next) (T : AH → Prop)
    (hT : ∀ h2 h', h2.next ≤ h'.next → (∀ b, b < h.next → h'.get b = h2.get b) → T h2 → T h')
    (hbody : ∀ h', Ext h h' → Runs Try.prog W ([.agg (F.cells hsl rsl lsl)] ++ caps) h' (fun en h'' => en = .ret (.tuple []) ∧ ExtF S h' h'' ∧ T h'')) :
    Runs Try.prog 34 [.agg (F.cells hsl rsl lsl), .func (.func W) [] caps] h (fun en h' => en = .ret (.int .i64 0) ∧ ExtF S h h' ∧ T h') :=
  (attempt_ok O hsl rsl lsl h A W fW hfid caps S hS (fun c h' => c = 0 ∧ T h') fun h' e => (hbody h' e).mono fun en h'' ⟨q, x, t⟩ => ⟨x, .inl ⟨q, rfl, t⟩⟩).mono
    fun en h' ⟨c, h2, q, ⟨hc, t⟩, x, le, same⟩ => ⟨by rw [q, hc], x, hT h2 h' le same t⟩
end Go.Proofs.Ytmdheijpnlonoaa

namespace Go.Proofs.Ytmdheijpnlonoaa
open Go Go.AbsE
set_option linter.unusedSimpArgs false
set_option maxRecDepth 100000
set_option maxHeartbeats 0
set_option linter.unusedVariables false
theorem Runs.flip' {P : Program} {f : FuncId} {args : List AVal} {h : AH} {R : AEnd → AH → Prop} (k : Runs P f args h R) : Runs P f args h R := k
theorem Wet_yes {F : FieldV} (O : F.Ok) (hne : F.ents ≠ []) (hsl rsl lsl : AVal) (i : Nat) (hi : i < F.hs.length) (d : Nat) (hd : d < F.rs.length) (h : AH) (A : FieldAt h F hsl rsl lsl) :
    Runs Try.prog 13 [.agg (F.cells hsl rsl lsl), .int .i64 i, .int .i64 d] h (fun en h' => en = .ret (.tuple [.agg (spC (F.wet (i : Nat) d)), .int .i64 0]) ∧ Ext h h') := by
  have hB := wetB_ok O hne hsl rsl lsl i d hi hd
  have hat := attempt_does O hsl rsl lsl
  unfold FieldV.cells fieldC at hat hB ⊢
  refine Runs.intro aFunc13 rfl rfl rfl rfl fun rest => ?_
  refine Go.seq noJ_ok ?_
  refine Go.region noJ_ok rfl ?_
  refine GoR.box rfl rfl rfl rfl rfl rfl fun h0 x0 f0 => ?_
  have e0 := x0
  have := f0.1
  refine GoR.box rfl rfl rfl rfl rfl rfl fun h1 x1 f1 => ?_
  have := e0.1
  have := f0.1
  replace f0 := f0.ext x1
  replace e0 := e0.trans x1
  have := f1.1
  refine GoR.box rfl rfl rfl rfl rfl rfl fun h2 x2 f2 => ?_
  have := e0.1
  have := f1.1
  have := f0.1
  replace f1 := f1.ext x2
  replace f0 := f0.ext x2
  replace e0 := e0.trans x2
  have := f2.1
  refine GoR.alloc rfl rfl rfl zt30 rfl rfl fun h3 x3 f3 => ?_
  have := e0.1
  have := f2.1
  have := f1.1
  have := f0.1
  replace f2 := f2.ext x3
  replace f1 := f1.ext x3
  replace f0 := f0.ext x3
  replace e0 := e0.trans x3
  have := f3.1
  refine GoR.op rfl rfl rfl rfl ?_
  refine GoR.end ?_
  refine Go.seq noJ_ok ?_
  refine Go.region noJ_ok rfl ?_
  refine GoR.op rfl rfl (ld27 rfl f0 rfl) rfl ?_
  refine GoR.op rfl rfl rfl rfl ?_
  have hS : ∀ b, (fun b => b = h2.next) b → b < h3.next := fun b q => by omega
  refine GoR.call rfl rfl (aOp_callFunc aFunc34 rfl) (hat _ (A.ext e0) 35 _ aFunc35 _ (fun b => b = h2.next) hS (fun h' => Has h' h2.next (.cells .plain (spC (F.wet (i : Nat) d)) 30)) (fun h4 h' le same t => t.keep le (same _ (by assumption))) (fun h' e => hB _ _ _ h' ((A.ext e0).ext e) (f1.ext e) (f2.ext e) (f3.ext e) (by omega) (by omega))) ?_ (by rintro _ _ ⟨q, _⟩; cases q)
  rintro v9 h9 ⟨q, y9, f9⟩
  cases q
  refine ⟨_, rfl, ?_⟩
  have e9 := y9.low e0 (fun b q => by omega)
  clear e0 y9
  refine GoR.op rfl rfl rfl rfl ?_
  refine GoR.end ?_
  refine Go.seq noJ_ok ?_
  refine Go.region noJ_ok rfl ?_
  refine GoR.op rfl rfl (ld30 rfl f9 rfl) rfl ?_
  refine GoR.op rfl rfl rfl rfl ?_
  refine GoR.store rfl rfl rfl rfl rfl rfl f9 rfl sz30 rfl rfl rfl fun h10 u10 => ?_
  replace f9 := u10.has f9
  first | replace e9 := e9.upd u10 (by omega) | clear e9
  refine GoR.op rfl rfl rfl rfl ?_
  refine GoR.end ?_
  exact Go.ret noJ_ok (ret_end (aResult_of Try.func13 rfl (aResults_cellC rfl f9 (inCells_agg ag30 sz30 rfl) rfl)) ⟨rfl, e9⟩)
theorem dryB_ok {F : FieldV} (O : F.Ok) (hne : F.ents ≠ []) (hsl rsl lsl : AVal) (i : Nat) (hi : i < F.hs.length) (d : Nat) (hd : d < F.rs.length) (bi bd br : Nat) (h : AH) (A : FieldAt h F hsl rsl lsl) (f0 : Has h bi (.cells .plain [.int .i64 i] 3)) (f1 : Has h bd (.cells .plain [.int .i64 d] 3)) (f2 : Has h br (.cells .plain [.int .i64 0] 3)) (hbi : bi ≠ br) (hbd : bd ≠ br) :
    Runs Try.prog 42 [.agg (F.cells hsl rsl lsl), .ptr bi 0, .ptr bd 0, .ptr br 0] h (fun en h' => en = .ret (.tuple []) ∧ ExtF (fun b => b = br) h h' ∧ Has h' br (.cells .plain [.int .i64 (dryV F.lim (F.wet (i : Nat) d))] 3)) := by
  have hl1 := A.hs.len
  have hl2 := A.rs.len
  rw [List.length_map] at hl1 hl2
  have hnh := O.nh
  have hnr := O.nr
  have htr := truths_yes O hne hsl rsl lsl
  have hdry := dry_ok F hsl rsl lsl (F.wet (i : Nat) d)
  have hn1 := fun h => needHeap_ok (F := F) hsl rsl lsl hl1 hnh.2 i hi h
  have hn2 := fun h => needDay_ok (F := F) hsl rsl lsl hl2 hnr.2 d hd h
  have hsm : sameA (.agg (F.cells hsl rsl lsl)) (.agg (F.cells hsl rsl lsl)) = true := by
    unfold FieldV.cells fieldC
    simp [sameA, sameAs, eqI_eq, A.hs.same, A.rs.same, A.ls.same]
  unfold FieldV.cells fieldC at htr hn1 hn2 hsm hdry ⊢
  have y0 : ExtF (fun b => b = br) h h := ExtF.of (Ext.refl _)
  have hbr := f2.1
  refine Runs.intro aFunc42 rfl rfl rfl rfl fun rest => ?_
  refine Go.seq noJ_ok ?_
  refine Go.region noJ_ok rfl ?_
  refine GoR.box rfl rfl rfl rfl rfl rfl fun h3 x3 f3 => ?_
  have := f0.1
  have := f1.1
  have := f2.1
  replace f0 := f0.ext x3
  replace f1 := f1.ext x3
  replace f2 := f2.ext x3
  replace y0 := y0.ext x3
  have e0 := x3
  have := f3.1
  refine GoR.end ?_
  refine Go.seq noJ_ok ?_
  refine Go.region noJ_ok rfl ?_
  refine GoR.op rfl rfl (ld74 rfl f3 rfl) rfl ?_
  refine GoR.op rfl rfl (ld3 rfl f0 rfl) rfl ?_
  refine GoR.call rfl rfl (aOp_callFunc aFunc36 rfl) (hn1 _) ?_ (by rintro _ _ ⟨q, _⟩; cases q)
  rintro v4 h4 ⟨q, x4⟩
  cases q
  refine ⟨_, rfl, ?_⟩
  replace f3 := f3.ext x4
  replace f0 := f0.ext x4
  replace f1 := f1.ext x4
  replace f2 := f2.ext x4
  replace e0 := e0.trans x4
  replace y0 := y0.ext x4
  refine GoR.end ?_
  refine Go.seq noJ_ok ?_
  refine Go.region noJ_ok rfl ?_
  refine GoR.op rfl rfl (ld74 rfl f3 rfl) rfl ?_
  refine GoR.op rfl rfl (ld3 rfl f1 rfl) rfl ?_
  refine GoR.call rfl rfl (aOp_callFunc aFunc37 rfl) (hn2 _) ?_ (by rintro _ _ ⟨q, _⟩; cases q)
  rintro v5 h5 ⟨q, x5⟩
  cases q
  refine ⟨_, rfl, ?_⟩
  replace f3 := f3.ext x5
  replace f0 := f0.ext x5
  replace f1 := f1.ext x5
  replace f2 := f2.ext x5
  replace e0 := e0.trans x5
  replace y0 := y0.ext x5
  refine GoR.end ?_
  refine Go.drawnE plan42_0 ?_
  iterate 2 refine GoE.quiet rfl rfl (ld74 rfl f3 rfl) rfl ?_
  refine GoE.quiet rfl rfl (ld3 rfl f0 rfl) rfl ?_
  refine GoE.quiet rfl rfl (ld3 rfl f1 rfl) rfl ?_
  refine GoE.call rfl rfl (aOp_callFunc aFunc38 rfl) (htr _ (A.ext e0)) (dropF_keep (show bit? 2 4 = false from rfl) (dropF_keep (show bit? 2 3 = false from rfl) (dropF_drop (show bit? 2 1 = true from rfl) (dropF_keep (show bit? 2 0 = false from rfl) rfl)))) ?_ (by rintro _ _ ⟨bm, q, _, hbm, f70⟩; cases q)
  rintro v6 h6 ⟨bm, q, x6, hbm, f70⟩
  cases q
  have := e0.1
  replace f3 := f3.ext x6
  replace f0 := f0.ext x6
  replace f1 := f1.ext x6
  replace f2 := f2.ext x6
  replace e0 := e0.trans x6
  replace y0 := y0.ext x6
  refine ⟨(recheck_cons (h2 := h6) rfl (ld3 rfl f1 rfl) (by first | rfl | exact sameA_int _ _ | exact sameA_bool _ | exact sameA_agg2 _ _ | assumption | (simp [sameA, sameAs, eqI_eq]; done)) (recheck_cons (h2 := h6) rfl (ld3 rfl f0 rfl) (by first | rfl | exact sameA_int _ _ | exact sameA_bool _ | exact sameA_agg2 _ _ | assumption | (simp [sameA, sameAs, eqI_eq]; done)) (recheck_cons (h2 := h6) rfl (ld74 rfl f3 rfl) (by first | rfl | exact sameA_int _ _ | exact sameA_bool _ | exact sameA_agg2 _ _ | assumption | (simp [sameA, sameAs, eqI_eq]; done)) recheck_nil))), _, rfl, ?_⟩
  refine GoE.call rfl rfl (aOp_callFunc aFunc39 rfl) (wet_at O f70 (i : Nat) d (by omega)) (dropF_drop (show bit? 30 4 = true from rfl) (dropF_drop (show bit? 30 3 = true from rfl) (dropF_keep (show bit? 30 0 = false from rfl) rfl))) ?_ (by rintro _ _ ⟨q, _⟩; cases q)
  rintro v71 h71 ⟨q, x71⟩
  cases q
  replace f70 := f70.ext x71
  replace f3 := f3.ext x71
  replace f0 := f0.ext x71
  replace f1 := f1.ext x71
  replace f2 := f2.ext x71
  replace e0 := e0.trans x71
  replace y0 := y0.ext x71
  refine ⟨(recheck_cons (h2 := h71) rfl (ld74 rfl f3 rfl) (by first | rfl | exact sameA_int _ _ | exact sameA_bool _ | exact sameA_agg2 _ _ | assumption | (simp [sameA, sameAs, eqI_eq]; done)) recheck_nil), _, rfl, ?_⟩
  refine GoE.call rfl rfl (aOp_callFunc aFunc43 rfl) (hdry _) (dropF_drop (show bit? 63 0 = true from rfl) rfl) ?_ (by rintro _ _ ⟨q, _⟩; cases q)
  rintro v72 h72 ⟨q, x72⟩
  cases q
  replace f70 := f70.ext x72
  replace f3 := f3.ext x72
  replace f0 := f0.ext x72
  replace f1 := f1.ext x72
  replace f2 := f2.ext x72
  replace e0 := e0.trans x72
  replace y0 := y0.ext x72
  refine ⟨recheck_nil, _, rfl, ?_⟩
  refine GoE.store rfl rfl rfl rfl rfl rfl rfl f2 rfl sz3 rfl rfl rfl fun h73 u73 => ?_
  replace f70 := f70.upd u73 (by omega)
  replace f3 := f3.upd u73 (by omega)
  replace f0 := f0.upd u73 (by omega)
  replace f1 := f1.upd u73 (by omega)
  replace f2 := u73.has f2
  first | replace e0 := e0.upd u73 (by omega) | clear e0
  replace y0 := y0.upd u73 (by first | exact .inl rfl | exact .inl (.inl rfl) | exact .inl (.inr rfl) | exact .inl (by assumption) | exact .inr (by omega))
  refine ⟨recheck_nil, ?_⟩
  refine GoE.end rfl ?_
  exact Go.endL (FLeft.ret (v := .tuple []) (aResult_of Try.func42 rfl rfl) ⟨rfl, y0, f2⟩)
theorem Dry_yes {F : FieldV} (O : F.Ok) (hne : F.ents ≠ []) (hsl rsl lsl : AVal) (i : Nat) (hi : i < F.hs.length) (d : Nat) (hd : d < F.rs.length) (h : AH) (A : FieldAt h F hsl rsl lsl) :
    Runs Try.prog 15 [.agg (F.cells hsl rsl lsl), .int .i64 i, .int .i64 d] h (fun en h' => en = .ret (.tuple [.int .i64 (dryV F.lim (F.wet (i : Nat) d)), .int .i64 0]) ∧ Ext h h') := by
  have hB := dryB_ok O hne hsl rsl lsl i hi d hd
  have hat := attempt_does O hsl rsl lsl
  unfold FieldV.cells fieldC at hat hB ⊢
  refine Runs.intro aFunc15 rfl rfl rfl rfl fun rest => ?_
  refine Go.seq noJ_ok ?_
  refine Go.region noJ_ok rfl ?_
  refine GoR.box rfl rfl rfl rfl rfl rfl fun h0 x0 f0 => ?_
  have e0 := x0
  have := f0.1
  refine GoR.box rfl rfl rfl rfl rfl rfl fun h1 x1 f1 => ?_
  have := e0.1
  have := f0.1
  replace f0 := f0.ext x1
  replace e0 := e0.trans x1
  have := f1.1
  refine GoR.box rfl rfl rfl rfl rfl rfl fun h2 x2 f2 => ?_
  have := e0.1
  have := f1.1
  have := f0.1
  replace f1 := f1.ext x2
  replace f0 := f0.ext x2
  replace e0 := e0.trans x2
  have := f2.1
  refine GoR.alloc rfl rfl rfl zt3 rfl rfl fun h3 x3 f3 => ?_
  have := e0.1
  have := f2.1
  have := f1.1
  have := f0.1
  replace f2 := f2.ext x3
  replace f1 := f1.ext x3
  replace f0 := f0.ext x3
  replace e0 := e0.trans x3
  have := f3.1
  refine GoR.op rfl rfl rfl rfl ?_
  refine GoR.end ?_
  refine Go.seq noJ_ok ?_
  refine Go.region noJ_ok rfl ?_
  refine GoR.op rfl rfl (ld27 rfl f0 rfl) rfl ?_
  refine GoR.op rfl rfl rfl rfl ?_
  have hS : ∀ b, (fun b => b = h2.next) b → b < h3.next := fun b q => by omega
  refine GoR.call rfl rfl (aOp_callFunc aFunc34 rfl) (hat _ (A.ext e0) 42 _ aFunc42 _ (fun b => b = h2.next) hS (fun h' => Has h' h2.next (.cells .plain [.int .i64 (dryV F.lim (F.wet (i : Nat) d))] 3)) (fun h4 h' le same t => t.keep le (same _ (by assumption))) (fun h' e => hB _ _ _ h' ((A.ext e0).ext e) (f1.ext e) (f2.ext e) (f3.ext e) (by omega) (by omega))) ?_ (by rintro _ _ ⟨q, _⟩; cases q)
  rintro v9 h9 ⟨q, y9, f9⟩
  cases q
  refine ⟨_, rfl, ?_⟩
  have e9 := y9.low e0 (fun b q => by omega)
  clear e0 y9
  refine GoR.op rfl rfl rfl rfl ?_
  refine GoR.end ?_
  refine Go.seq noJ_ok ?_
  refine Go.region noJ_ok rfl ?_
  refine GoR.op rfl rfl (ld3 rfl f9 rfl) rfl ?_
  refine GoR.op rfl rfl rfl rfl ?_
  refine GoR.store rfl rfl rfl rfl rfl rfl f9 rfl sz3 rfl rfl rfl fun h10 u10 => ?_
  replace f9 := u10.has f9
  first | replace e9 := e9.upd u10 (by omega) | clear e9
  refine GoR.op rfl rfl rfl rfl ?_
  refine GoR.end ?_
  exact Go.ret noJ_ok (ret_end (aResult_of Try.func15 rfl (aResults_cellC rfl f9 (inCells_one ag3 rfl) rfl)) ⟨rfl, e9⟩)
theorem when_some {F : FieldV} (O : F.Ok) (hne : F.ents ≠ []) (hsl rsl lsl s : AVal) (L : List Int) {d : Nat} (hd : whenV F L = some d) (h : AH) (A : FieldAt h F hsl rsl lsl) (hs : SliceOf h 1 s (L.map fun x => [AVal.int .i64 x])) (hL : L.length ≤ 100) :
    Runs Try.prog 45 [.agg (F.cells hsl rsl lsl), s] h (fun en h' => en = .ret (.int .i64 (d : Nat)) ∧ Ext h h') :=
  (when_ok O hne hsl rsl lsl s L h A hs hL).mono fun en h' ⟨e, k⟩ => by
    rcases k with ⟨d', q, q2⟩ | ⟨q, _⟩
    · rw [hd] at q
      cases q
      exact ⟨q2, e⟩
    · rw [hd] at q
      cases q
theorem when_none {F : FieldV} (O : F.Ok) (hne : F.ents ≠ []) (hsl rsl lsl s : AVal) (L : List Int) (hd : whenV F L = none) (h : AH) (A : FieldAt h F hsl rsl lsl) (hs : SliceOf h 1 s (L.map fun x => [AVal.int .i64 x])) (hL : L.length ≤ 100) :
    Runs Try.prog 45 [.agg (F.cells hsl rsl lsl), s] h (fun en h' => en = .pan (refusal 4) ∧ Ext h h') :=
  (when_ok O hne hsl rsl lsl s L h A hs hL).mono fun en h' ⟨e, k⟩ => by
    rcases k with ⟨d', q, q2⟩ | ⟨_, q⟩
    · rw [hd] at q
      cases q
    · exact ⟨q, e⟩
theorem one_slice {h : AH} {b : Nat} {x : Int} {el : TypeId} (f : Has h b (.cells .plain [.int .i64 x] el)) : SliceOf h 1 (.slice b 0 1 1) ([x].map fun x => [AVal.int .i64 x]) :=
  SliceOf.mk' rfl rfl f rfl (fun i l hl => by
    match i, hl with
    | 0, hl => cases hl; rfl)
def gives (F : FieldV) (L : List Int) (c : Int) : Prop := (F.ents = [] ∧ c = 10) ∨ (F.ents ≠ [] ∧ whenV F L = none ∧ c = 4)
theorem when_gives {F : FieldV} (O : F.Ok) (hsl rsl lsl s : AVal) (L : List Int) {c : Int} (hc : gives F L c) (h : AH) (A : FieldAt h F hsl rsl lsl) (hs : SliceOf h 1 s (L.map fun x => [AVal.int .i64 x])) (hL : L.length ≤ 100) :
    Runs Try.prog 45 [.agg (F.cells hsl rsl lsl), s] h (fun en h' => en = .pan (refusal c) ∧ Ext h h') := by
  rcases hc with ⟨he, rfl⟩ | ⟨hne, hw, rfl⟩
  · exact when_no O he hsl rsl lsl s h A
  · exact when_none O hne hsl rsl lsl s L hw h A hs hL
theorem whenB_no {F : FieldV} (O : F.Ok) (hsl rsl lsl : AVal) (i : Nat) (hi : i < F.hs.length) {c : Int} (hc : gives F [(i : Nat)] c) (bi br : Nat) (h : AH) (A : FieldAt h F hsl rsl lsl) (f0 : Has h bi (.cells .plain [.int .i64 i] 3)) :
    Runs Try.prog 44 [.agg (F.cells hsl rsl lsl), .ptr bi 0, .ptr br 0] h (fun en h' => en = .pan (refusal c) ∧ Ext h h') := by
  have hl1 := A.hs.len
  have hl2 := A.rs.len
  rw [List.length_map] at hl1 hl2
  have hnh := O.nh
  have hnr := O.nr
  have hwh := fun s h A hs => when_gives O hsl rsl lsl s [((i : Nat) : Int)] hc h A hs (by simp)
  have hn1 := fun h => needHeap_ok (F := F) hsl rsl lsl hl1 hnh.2 i hi h
  unfold FieldV.cells fieldC at hwh hn1 ⊢
  refine Runs.intro aFunc44 rfl rfl rfl rfl fun rest => ?_
  refine Go.seq noJ_ok ?_
  refine Go.region noJ_ok rfl ?_
  refine GoR.box rfl rfl rfl rfl rfl rfl fun h1 x1 f1 => ?_
  have := f0.1
  replace f0 := f0.ext x1
  have e0 := x1
  have := f1.1
  refine GoR.end ?_
  refine Go.seq noJ_ok ?_
  refine Go.region noJ_ok rfl ?_
  refine GoR.op rfl rfl (ld74 rfl f1 rfl) rfl ?_
  refine GoR.op rfl rfl (ld3 rfl f0 rfl) rfl ?_
  refine GoR.call rfl rfl (aOp_callFunc aFunc36 rfl) (hn1 _) ?_ (by rintro _ _ ⟨q, _⟩; cases q)
  rintro v2 h2 ⟨q, x2⟩
  cases q
  refine ⟨_, rfl, ?_⟩
  replace f1 := f1.ext x2
  replace f0 := f0.ext x2
  replace e0 := e0.trans x2
  refine GoR.end ?_
  refine Go.region noJ_ok rfl ?_
  refine GoR.op rfl rfl (ld74 rfl f1 rfl) rfl ?_
  refine GoR.op rfl rfl (ld3 rfl f0 rfl) rfl ?_
  refine GoR.buildSl rfl rfl (ps := [(0, .int .i64 i)]) (cs := [.int .i64 i]) Try.underlying50 rfl sz3 zt3 rfl rfl rfl rfl fun h3 x3 f3 => ?_
  have := e0.1
  have := f1.1
  have := f0.1
  replace f1 := f1.ext x3
  replace f0 := f0.ext x3
  replace e0 := e0.trans x3
  have := f3.1
  refine GoR.callP rfl rfl (aOp_callFunc aFunc45 rfl) (hwh _ _ (A.ext e0) (one_slice (by assumption))) (by rintro _ _ ⟨q, _⟩; cases q) ?_
  rintro chain h' ⟨q, x⟩
  have q := AEnd.pan.inj q
  subst q
  exact FLeft.pan ⟨rfl, e0.trans x⟩
theorem whenB_ok {F : FieldV} (O : F.Ok) (hne : F.ents ≠ []) (hsl rsl lsl : AVal) (i : Nat) (hi : i < F.hs.length) {d : Nat} (hd : whenV F [(i : Nat)] = some d) (bi br : Nat) (h : AH) (A : FieldAt h F hsl rsl lsl) (f0 : Has h bi (.cells .plain [.int .i64 i] 3)) (f1 : Has h br (.cells .plain [.int .i64 0] 3)) (hbi : bi ≠ br) :
    Runs Try.prog 44 [.agg (F.cells hsl rsl lsl), .ptr bi 0, .ptr br 0] h (fun en h' => en = .ret (.tuple []) ∧ ExtF (fun b => b = br) h h' ∧ Has h' br (.cells .plain [.int .i64 (d : Nat)] 3)) := by
  have hl1 := A.hs.len
  have hl2 := A.rs.len
  rw [List.length_map] at hl1 hl2
  have hnh := O.nh
  have hnr := O.nr
  have hwh := fun s h A hs => when_some O hne hsl rsl lsl s [((i : Nat) : Int)] hd h A hs (by simp)
  have hn1 := fun h => needHeap_ok (F := F) hsl rsl lsl hl1 hnh.2 i hi h
  unfold FieldV.cells fieldC at hwh hn1 ⊢
  have y0 : ExtF (fun b => b = br) h h := ExtF.of (Ext.refl _)
  have hbr := f1.1
  refine Runs.intro aFunc44 rfl rfl rfl rfl fun rest => ?_
  refine Go.seq noJ_ok ?_
  refine Go.region noJ_ok rfl ?_
  refine GoR.box rfl rfl rfl rfl rfl rfl fun h2 x2 f2 => ?_
  have := f0.1
  have := f1.1
  replace f0 := f0.ext x2
  replace f1 := f1.ext x2
  replace y0 := y0.ext x2
  have e0 := x2
  have := f2.1
  refine GoR.end ?_
  refine Go.seq noJ_ok ?_
  refine Go.region noJ_ok rfl ?_
  refine GoR.op rfl rfl (ld74 rfl f2 rfl) rfl ?_
  refine GoR.op rfl rfl (ld3 rfl f0 rfl) rfl ?_
  refine GoR.call rfl rfl (aOp_callFunc aFunc36 rfl) (hn1 _) ?_ (by rintro _ _ ⟨q, _⟩; cases q)
  rintro v3 h3 ⟨q, x3⟩
  cases q
  refine ⟨_, rfl, ?_⟩
  replace f2 := f2.ext x3
  replace f0 := f0.ext x3
  replace f1 := f1.ext x3
  replace e0 := e0.trans x3
  replace y0 := y0.ext x3
  refine GoR.end ?_
  refine Go.region noJ_ok rfl ?_
  refine GoR.op rfl rfl (ld74 rfl f2 rfl) rfl ?_
  refine GoR.op rfl rfl (ld3 rfl f0 rfl) rfl ?_
  refine GoR.buildSl rfl rfl (ps := [(0, .int .i64 i)]) (cs := [.int .i64 i]) Try.underlying50 rfl sz3 zt3 rfl rfl rfl rfl fun h4 x4 f4 => ?_
  have := e0.1
  have := f2.1
  have := f0.1
  have := f1.1
  replace f2 := f2.ext x4
  replace f0 := f0.ext x4
  replace f1 := f1.ext x4
  replace e0 := e0.trans x4
  replace y0 := y0.ext x4
  have := f4.1
  refine GoR.call rfl rfl (aOp_callFunc aFunc45 rfl) (hwh _ _ (A.ext e0) (one_slice (by assumption))) ?_ (by rintro _ _ ⟨q, _⟩; cases q)
  rintro v5 h5 ⟨q, x5⟩
  cases q
  refine ⟨_, rfl, ?_⟩
  replace f4 := f4.ext x5
  replace f2 := f2.ext x5
  replace f0 := f0.ext x5
  replace f1 := f1.ext x5
  replace e0 := e0.trans x5
  replace y0 := y0.ext x5
  refine GoR.store rfl rfl rfl rfl rfl rfl f1 rfl sz3 rfl rfl rfl fun h6 u6 => ?_
  replace f4 := f4.upd u6 (by omega)
  replace f2 := f2.upd u6 (by omega)
  replace f0 := f0.upd u6 (by omega)
  replace f1 := u6.has f1
  first | replace e0 := e0.upd u6 (by omega) | clear e0
  replace y0 := y0.upd u6 (by first | exact .inl rfl | exact .inl (.inl rfl) | exact .inl (.inr rfl) | exact .inl (by assumption) | exact .inr (by omega))
  refine GoR.end ?_
  exact Go.endL (FLeft.ret (v := .tuple []) (aResult_of Try.func44 rfl rfl) ⟨rfl, y0, f1⟩)
theorem When_no {F : FieldV} (O : F.Ok) (hsl rsl lsl : AVal) (i : Nat) (hi : i < F.hs.length) {c : Int} (hc : gives F [(i : Nat)] c) (h : AH) (A : FieldAt h F hsl rsl lsl) :
    Runs Try.prog 16 [.agg (F.cells hsl rsl lsl), .int .i64 i] h (fun en h' => en = .ret (.tuple [.int .i64 0, .int .i64 c]) ∧ Ext h h') := by
  have hat := attempt_gives O hsl rsl lsl
  have hB := whenB_no O hsl rsl lsl i hi hc
  unfold FieldV.cells fieldC at hat hB ⊢
  refine Runs.intro aFunc16 rfl rfl rfl rfl fun rest => ?_
  refine Go.seq noJ_ok ?_
  refine Go.region noJ_ok rfl ?_
  refine GoR.box rfl rfl rfl rfl rfl rfl fun h0 x0 f0 => ?_
  have e0 := x0
  have := f0.1
  refine GoR.box rfl rfl rfl rfl rfl rfl fun h1 x1 f1 => ?_
  have := e0.1
  have := f0.1
  replace f0 := f0.ext x1
  replace e0 := e0.trans x1
  have := f1.1
  refine GoR.alloc rfl rfl rfl zt3 rfl rfl fun h2 x2 f2 => ?_
  have := e0.1
  have := f1.1
  have := f0.1
  replace f1 := f1.ext x2
  replace f0 := f0.ext x2
  replace e0 := e0.trans x2
  have := f2.1
  refine GoR.op rfl rfl rfl rfl ?_
  refine GoR.end ?_
  refine Go.seq noJ_ok ?_
  refine Go.region noJ_ok rfl ?_
  refine GoR.op rfl rfl (ld27 rfl f0 rfl) rfl ?_
  refine GoR.op rfl rfl rfl rfl ?_
  refine GoR.call rfl rfl (aOp_callFunc aFunc34 rfl) (hat _ (A.ext e0) 44 _ aFunc44 _ c (fun h' e => hB _ _ h' ((A.ext e0).ext e) (f1.ext e))) ?_ (by rintro _ _ ⟨q, _⟩; cases q)
  rintro v3 h3 ⟨q, x3⟩
  cases q
  refine ⟨_, rfl, ?_⟩
  replace f2 := f2.ext x3
  replace f1 := f1.ext x3
  replace f0 := f0.ext x3
  replace e0 := e0.trans x3
  refine GoR.op rfl rfl rfl rfl ?_
  refine GoR.end ?_
  refine Go.seq noJ_ok ?_
  refine Go.region noJ_ok rfl ?_
  refine GoR.op rfl rfl (ld3 rfl f2 rfl) rfl ?_
  refine GoR.op rfl rfl rfl rfl ?_
  refine GoR.store rfl rfl rfl rfl rfl rfl f2 rfl sz3 rfl rfl rfl fun h4 u4 => ?_
  replace f2 := u4.has f2
  replace f1 := f1.upd u4 (by omega)
  replace f0 := f0.upd u4 (by omega)
  first | replace e0 := e0.upd u4 (by omega) | clear e0
  refine GoR.op rfl rfl rfl rfl ?_
  refine GoR.end ?_
  exact Go.ret noJ_ok (ret_end (aResult_of Try.func16 rfl (aResults_cellC rfl f2 (inCells_one ag3 rfl) rfl)) ⟨rfl, e0⟩)
theorem When_yes {F : FieldV} (O : F.Ok) (hne : F.ents ≠ []) (hsl rsl lsl : AVal) (i : Nat) (hi : i < F.hs.length) {d : Nat} (hd : whenV F [(i : Nat)] = some d) (h : AH) (A : FieldAt h F hsl rsl lsl) :
    Runs Try.prog 16 [.agg (F.cells hsl rsl lsl), .int .i64 i] h (fun en h' => en = .ret (.tuple [.int .i64 (d : Nat), .int .i64 0]) ∧ Ext h h') := by
  have hB := whenB_ok O hne hsl rsl lsl i hi hd
  have hat := attempt_does O hsl rsl lsl
  unfold FieldV.cells fieldC at hat hB ⊢
  refine Runs.intro aFunc16 rfl rfl rfl rfl fun rest => ?_
  refine Go.seq noJ_ok ?_
  refine Go.region noJ_ok rfl ?_
  refine GoR.box rfl rfl rfl rfl rfl rfl fun h0 x0 f0 => ?_
  have e0 := x0
  have := f0.1
  refine GoR.box rfl rfl rfl rfl rfl rfl fun h1 x1 f1 => ?_
  have := e0.1
  have := f0.1
  replace f0 := f0.ext x1
  replace e0 := e0.trans x1
  have := f1.1
  refine GoR.alloc rfl rfl rfl zt3 rfl rfl fun h2 x2 f2 => ?_
  have := e0.1
  have := f1.1
  have := f0.1
  replace f1 := f1.ext x2
  replace f0 := f0.ext x2
  replace e0 := e0.trans x2
  have := f2.1
  refine GoR.op rfl rfl rfl rfl ?_
  refine GoR.end ?_
  refine Go.seq noJ_ok ?_
  refine Go.region noJ_ok rfl ?_
  refine GoR.op rfl rfl (ld27 rfl f0 rfl) rfl ?_
  refine GoR.op rfl rfl rfl rfl ?_
  have hS : ∀ b, (fun b => b = h1.next) b → b < h2.next := fun b q => by omega
  refine GoR.call rfl rfl (aOp_callFunc aFunc34 rfl) (hat _ (A.ext e0) 44 _ aFunc44 _ (fun b => b = h1.next) hS (fun h' => Has h' h1.next (.cells .plain [.int .i64 (d : Nat)] 3)) (fun h4 h' le same t => t.keep le (same _ (by assumption))) (fun h' e => hB _ _ h' ((A.ext e0).ext e) (f1.ext e) (f2.ext e) (by omega))) ?_ (by rintro _ _ ⟨q, _⟩; cases q)
  rintro v9 h9 ⟨q, y9, f9⟩
  cases q
  refine ⟨_, rfl, ?_⟩
  have e9 := y9.low e0 (fun b q => by omega)
  clear e0 y9
  refine GoR.op rfl rfl rfl rfl ?_
  refine GoR.end ?_
  refine Go.seq noJ_ok ?_
  refine Go.region noJ_ok rfl ?_
  refine GoR.op rfl rfl (ld3 rfl f9 rfl) rfl ?_
  refine GoR.op rfl rfl rfl rfl ?_
  refine GoR.store rfl rfl rfl rfl rfl rfl f9 rfl sz3 rfl rfl rfl fun h10 u10 => ?_
  replace f9 := u10.has f9
  first | replace e9 := e9.upd u10 (by omega) | clear e9
  refine GoR.op rfl rfl rfl rfl ?_
  refine GoR.end ?_
  exact Go.ret noJ_ok (ret_end (aResult_of Try.func16 rfl (aResults_cellC rfl f9 (inCells_one ag3 rfl) rfl)) ⟨rfl, e9⟩)
theorem flat_one : ∀ l : List Int, (l.flatMap fun x => [AVal.int .i64 x]) = l.map (.int .i64)
  | [] => rfl
  | x :: l => by rw [List.flatMap_cons, flat_one l]; rfl
def allHeaps (F : FieldV) : List Int := (List.range F.hs.length).map fun i : Nat => (i : Int)
theorem all_slice {F : FieldV} {h : AH} {lo : Nat} {s : AVal} {cs : List AVal} (G : Grow h 3 1 lo s F.hs.length cs) (hcs : cs = (List.range F.hs.length).map fun i : Nat => AVal.int .i64 i) : SliceOf h 1 s ((allHeaps F).map fun x => [AVal.int .i64 x]) := by
  refine Grow.sliceOf (L := (allHeaps F).map fun x => [AVal.int .i64 x]) (cs := cs) (by simpa [allHeaps] using G) fun i l q => ?_
  have : cs = (allHeaps F).flatMap fun x => [AVal.int .i64 x] := by
    rw [hcs, flat_one]
    unfold allHeaps
    rw [List.map_map]
    rfl
  rw [this]
  exact flat_slice (f := fun x : Int => [AVal.int .i64 x]) (sz := 1) (fun _ => rfl) q
theorem allB_no {F : FieldV} (O : F.Ok) (hsl rsl lsl : AVal) {c : Int} (hc : gives F (allHeaps F) c) (br : Nat) (h : AH) (A : FieldAt h F hsl rsl lsl) :
    Runs Try.prog 62 [.agg (F.cells hsl rsl lsl), .ptr br 0] h (fun en h' => en = .pan (refusal c) ∧ Ext h h') := by
  have hl1 := A.hs.len
  have hl2 := A.rs.len
  rw [List.length_map] at hl1 hl2
  have hnh := O.nh
  have hnr := O.nr
  have hsm : sameA (.agg (F.cells hsl rsl lsl)) (.agg (F.cells hsl rsl lsl)) = true := by
    unfold FieldV.cells fieldC
    simp [sameA, sameAs, eqI_eq, A.hs.same, A.rs.same, A.ls.same]
  have hwh := fun s h A hs => when_gives O hsl rsl lsl s (allHeaps F) hc h A hs (by simp [allHeaps]; omega)
  have hhe := fun h A => heaps_ok O hsl rsl lsl h A
  unfold FieldV.cells fieldC at hwh hhe hsm ⊢
  refine Runs.intro aFunc62 rfl rfl rfl rfl fun rest => ?_
  refine Go.seq noJ_ok ?_
  refine Go.region noJ_ok rfl ?_
  refine GoR.box rfl rfl rfl rfl rfl rfl fun h0 x0 f0 => ?_
  have e0 := x0
  have := f0.1
  refine GoR.end ?_
  refine Go.drawnE plan62_0 ?_
  iterate 2 refine GoE.quiet rfl rfl (ld74 rfl f0 rfl) rfl ?_
  refine GoE.call rfl rfl (aOp_callFunc aFunc63 rfl) (Runs.flip' (hhe _ (A.ext e0))) (dropF_drop (show bit? 2 1 = true from rfl) (dropF_keep (show bit? 2 0 = false from rfl) rfl)) ?_ (by rintro _ _ ⟨s, cs, q, _, G, hcs⟩; cases q)
  rintro v1 h1 ⟨s, cs, q, x1, G, hcs⟩
  cases q
  have := e0.1
  replace f0 := f0.ext x1
  replace e0 := e0.trans x1
  refine ⟨(recheck_cons (h2 := h1) rfl (ld74 rfl f0 rfl) (by first | rfl | exact sameA_int _ _ | exact sameA_bool _ | exact sameA_agg2 _ _ | assumption | (simp [sameA, sameAs, eqI_eq]; done)) recheck_nil), _, rfl, ?_⟩
  refine GoE.callP rfl rfl (aOp_callFunc aFunc45 rfl) (hwh _ _ (A.ext e0) (all_slice G hcs)) rfl (by rintro _ _ ⟨q, _⟩; cases q) ?_
  rintro chain h' ⟨q, x⟩
  have q := AEnd.pan.inj q
  subst q
  exact FLeft.pan ⟨rfl, e0.trans x⟩
theorem allBody_ok {F : FieldV} (O : F.Ok) (hne : F.ents ≠ []) (hsl rsl lsl : AVal) {d : Nat} (hd : whenV F (allHeaps F) = some d) (br : Nat) (h : AH) (A : FieldAt h F hsl rsl lsl) (f1 : Has h br (.cells .plain [.int .i64 0] 3)) :
    Runs Try.prog 62 [.agg (F.cells hsl rsl lsl), .ptr br 0] h (fun en h' => en = .ret (.tuple []) ∧ ExtF (fun b => b = br) h h' ∧ Has h' br (.cells .plain [.int .i64 (d : Nat)] 3)) := by
  have hl1 := A.hs.len
  have hl2 := A.rs.len
  rw [List.length_map] at hl1 hl2
  have hnh := O.nh
  have hnr := O.nr
  have hsm : sameA (.agg (F.cells hsl rsl lsl)) (.agg (F.cells hsl rsl lsl)) = true := by
    unfold FieldV.cells fieldC
    simp [sameA, sameAs, eqI_eq, A.hs.same, A.rs.same, A.ls.same]
  have hwh := fun s h A hs => when_some O hne hsl rsl lsl s (allHeaps F) hd h A hs (by simp [allHeaps]; omega)
  have hhe := fun h A => heaps_ok O hsl rsl lsl h A
  unfold FieldV.cells fieldC at hwh hhe hsm ⊢
  have y0 : ExtF (fun b => b = br) h h := ExtF.of (Ext.refl _)
  have hbr := f1.1
  refine Runs.intro aFunc62 rfl rfl rfl rfl fun rest => ?_
  refine Go.seq noJ_ok ?_
  refine Go.region noJ_ok rfl ?_
  refine GoR.box rfl rfl rfl rfl rfl rfl fun h2 x2 f2 => ?_
  have := f1.1
  replace f1 := f1.ext x2
  replace y0 := y0.ext x2
  have e0 := x2
  have := f2.1
  refine GoR.end ?_
  refine Go.drawnE plan62_0 ?_
  iterate 2 refine GoE.quiet rfl rfl (ld74 rfl f2 rfl) rfl ?_
  refine GoE.call rfl rfl (aOp_callFunc aFunc63 rfl) (Runs.flip' (hhe _ (A.ext e0))) (dropF_drop (show bit? 2 1 = true from rfl) (dropF_keep (show bit? 2 0 = false from rfl) rfl)) ?_ (by rintro _ _ ⟨s, cs, q, _, G, hcs⟩; cases q)
  rintro v3 h3 ⟨s, cs, q, x3, G, hcs⟩
  cases q
  have := e0.1
  replace f2 := f2.ext x3
  replace f1 := f1.ext x3
  replace e0 := e0.trans x3
  replace y0 := y0.ext x3
  refine ⟨(recheck_cons (h2 := h3) rfl (ld74 rfl f2 rfl) (by first | rfl | exact sameA_int _ _ | exact sameA_bool _ | exact sameA_agg2 _ _ | assumption | (simp [sameA, sameAs, eqI_eq]; done)) recheck_nil), _, rfl, ?_⟩
  refine GoE.call rfl rfl (aOp_callFunc aFunc45 rfl) (hwh _ _ (A.ext e0) (all_slice G hcs)) (dropF_drop (show bit? 7 0 = true from rfl) rfl) ?_ (by rintro _ _ ⟨q, _⟩; cases q)
  rintro v4 h4 ⟨q, x4⟩
  cases q
  replace f2 := f2.ext x4
  replace f1 := f1.ext x4
  replace e0 := e0.trans x4
  replace y0 := y0.ext x4
  refine ⟨recheck_nil, _, rfl, ?_⟩
  refine GoE.store rfl rfl rfl rfl rfl rfl rfl f1 rfl sz3 rfl rfl rfl fun h5 u5 => ?_
  replace f2 := f2.upd u5 (by omega)
  replace f1 := u5.has f1
  first | replace e0 := e0.upd u5 (by omega) | clear e0
  replace y0 := y0.upd u5 (by first | exact .inl rfl | exact .inl (.inl rfl) | exact .inl (.inr rfl) | exact .inl (by assumption) | exact .inr (by omega))
  refine ⟨recheck_nil, ?_⟩
  refine GoE.end rfl ?_
  exact Go.endL (FLeft.ret (v := .tuple []) (aResult_of Try.func62 rfl rfl) ⟨rfl, y0, f1⟩)
theorem All_no {F : FieldV} (O : F.Ok) (hsl rsl lsl : AVal) {c : Int} (hc : gives F (allHeaps F) c) (h : AH) (A : FieldAt h F hsl rsl lsl) :
    Runs Try.prog 26 [.agg (F.cells hsl rsl lsl)] h (fun en h' => en = .ret (.tuple [.int .i64 0, .int .i64 c]) ∧ Ext h h') := by
  have hat := attempt_gives O hsl rsl lsl
  have hB := allB_no O hsl rsl lsl hc
  unfold FieldV.cells fieldC at hat hB ⊢
  refine Runs.intro aFunc26 rfl rfl rfl rfl fun rest => ?_
  refine Go.seq noJ_ok ?_
  refine Go.region noJ_ok rfl ?_
  refine GoR.box rfl rfl rfl rfl rfl rfl fun h0 x0 f0 => ?_
  have e0 := x0
  have := f0.1
  refine GoR.alloc rfl rfl rfl zt3 rfl rfl fun h1 x1 f1 => ?_
  have := e0.1
  have := f0.1
  replace f0 := f0.ext x1
  replace e0 := e0.trans x1
  have := f1.1
  refine GoR.op rfl rfl rfl rfl ?_
  refine GoR.end ?_
  refine Go.seq noJ_ok ?_
  refine Go.region noJ_ok rfl ?_
  refine GoR.op rfl rfl (ld27 rfl f0 rfl) rfl ?_
  refine GoR.op rfl rfl rfl rfl ?_
  refine GoR.call rfl rfl (aOp_callFunc aFunc34 rfl) (hat _ (A.ext e0) 62 _ aFunc62 _ c (fun h' e => hB _ h' ((A.ext e0).ext e))) ?_ (by rintro _ _ ⟨q, _⟩; cases q)
  rintro v2 h2 ⟨q, x2⟩
  cases q
  refine ⟨_, rfl, ?_⟩
  replace f1 := f1.ext x2
  replace f0 := f0.ext x2
  replace e0 := e0.trans x2
  refine GoR.op rfl rfl rfl rfl ?_
  refine GoR.end ?_
  refine Go.seq noJ_ok ?_
  refine Go.region noJ_ok rfl ?_
  refine GoR.op rfl rfl (ld3 rfl f1 rfl) rfl ?_
  refine GoR.op rfl rfl rfl rfl ?_
  refine GoR.store rfl rfl rfl rfl rfl rfl f1 rfl sz3 rfl rfl rfl fun h3 u3 => ?_
  replace f1 := u3.has f1
  replace f0 := f0.upd u3 (by omega)
  first | replace e0 := e0.upd u3 (by omega) | clear e0
  refine GoR.op rfl rfl rfl rfl ?_
  refine GoR.end ?_
  exact Go.ret noJ_ok (ret_end (aResult_of Try.func26 rfl (aResults_cellC rfl f1 (inCells_one ag3 rfl) rfl)) ⟨rfl, e0⟩)
theorem All_yes {F : FieldV} (O : F.Ok) (hne : F.ents ≠ []) (hsl rsl lsl : AVal) {d : Nat} (hd : whenV F (allHeaps F) = some d) (h : AH) (A : FieldAt h F hsl rsl lsl) :
    Runs Try.prog 26 [.agg (F.cells hsl rsl lsl)] h (fun en h' => en = .ret (.tuple [.int .i64 (d : Nat), .int .i64 0]) ∧ Ext h h') := by
  have hB := allBody_ok O hne hsl rsl lsl hd
  have hat := attempt_does O hsl rsl lsl
  unfold FieldV.cells fieldC at hat hB ⊢
  refine Runs.intro aFunc26 rfl rfl rfl rfl fun rest => ?_
  refine Go.seq noJ_ok ?_
  refine Go.region noJ_ok rfl ?_
  refine GoR.box rfl rfl rfl rfl rfl rfl fun h0 x0 f0 => ?_
  have e0 := x0
  have := f0.1
  refine GoR.alloc rfl rfl rfl zt3 rfl rfl fun h1 x1 f1 => ?_
  have := e0.1
  have := f0.1
  replace f0 := f0.ext x1
  replace e0 := e0.trans x1
  have := f1.1
  refine GoR.op rfl rfl rfl rfl ?_
  refine GoR.end ?_
  refine Go.seq noJ_ok ?_
  refine Go.region noJ_ok rfl ?_
  refine GoR.op rfl rfl (ld27 rfl f0 rfl) rfl ?_
  refine GoR.op rfl rfl rfl rfl ?_
  have hS : ∀ b, (fun b => b = h0.next) b → b < h1.next := fun b q => by omega
  refine GoR.call rfl rfl (aOp_callFunc aFunc34 rfl) (hat _ (A.ext e0) 62 _ aFunc62 _ (fun b => b = h0.next) hS (fun h' => Has h' h0.next (.cells .plain [.int .i64 (d : Nat)] 3)) (fun h4 h' le same t => t.keep le (same _ (by assumption))) (fun h' e => hB _ h' ((A.ext e0).ext e) (f1.ext e))) ?_ (by rintro _ _ ⟨q, _⟩; cases q)
  rintro v9 h9 ⟨q, y9, f9⟩
  cases q
  refine ⟨_, rfl, ?_⟩
  have e9 := y9.low e0 (fun b q => by omega)
  clear e0 y9
  refine GoR.op rfl rfl rfl rfl ?_
  refine GoR.end ?_
  refine Go.seq noJ_ok ?_
  refine Go.region noJ_ok rfl ?_
  refine GoR.op rfl rfl (ld3 rfl f9 rfl) rfl ?_
  refine GoR.op rfl rfl rfl rfl ?_
  refine GoR.store rfl rfl rfl rfl rfl rfl f9 rfl sz3 rfl rfl rfl fun h10 u10 => ?_
  replace f9 := u10.has f9
  first | replace e9 := e9.upd u10 (by omega) | clear e9
  refine GoR.op rfl rfl rfl rfl ?_
  refine GoR.end ?_
  exact Go.ret noJ_ok (ret_end (aResult_of Try.func26 rfl (aResults_cellC rfl f9 (inCells_one ag3 rfl) rfl)) ⟨rfl, e9⟩)
end Go.Proofs.Ytmdheijpnlonoaa

namespace Go.Proofs.Ytmdheijpnlonoaa
open Go Go.AbsE
set_option linter.unusedSimpArgs false
set_option maxRecDepth 100000
set_option maxHeartbeats 0
set_option linter.unusedVariables false
theorem in57_ok (n a b : Int) {r : Bool} (hr : decide (a ≤ n ∧ n ≤ b) = r) (h : AH) : Runs Try.prog 57 [.int .i64 n, .int .i64 a, .int .i64 b] h (fun en h' => en = .ret (.bool r) ∧ Ext h h') := by
  have e0 : Ext h h := Ext.refl _
  by_cases h1 : a ≤ n
  · by_cases h2 : n ≤ b
    · have : r = true := by rw [← hr]; simp; omega
      subst this
      refine Runs.intro aFunc57 rfl rfl rfl rfl fun rest => ?_
      refine Go.seq noJ_ok ?_
      refine Go.region noJ_ok rfl ?_
      refine GoR.op rfl rfl rfl rfl ?_
      refine GoR.end ?_
      refine Go.seq noJ_ok ?_
      refine Go.region noJ_ok rfl ?_
      iterate 2 refine GoR.op rfl rfl rfl rfl ?_
      refine GoR.op rfl rfl (aOp_leq rfl rfl (r := true) (decide_eq_true (by omega))) rfl ?_
      iterate 3 refine GoR.op rfl rfl rfl rfl ?_
      refine GoR.op rfl rfl (aOp_leq rfl rfl (r := true) (decide_eq_true (by omega))) rfl ?_
      iterate 2 refine GoR.op rfl rfl rfl rfl ?_
      refine GoR.end ?_
      exact Go.ret noJ_ok (ret_end (aResult_of Try.func57 rfl rfl) ⟨rfl, e0⟩)
    · have : r = false := by rw [← hr]; simp; omega
      subst this
      refine Runs.intro aFunc57 rfl rfl rfl rfl fun rest => ?_
      refine Go.seq noJ_ok ?_
      refine Go.region noJ_ok rfl ?_
      refine GoR.op rfl rfl rfl rfl ?_
      refine GoR.end ?_
      refine Go.seq noJ_ok ?_
      refine Go.region noJ_ok rfl ?_
      iterate 2 refine GoR.op rfl rfl rfl rfl ?_
      refine GoR.op rfl rfl (aOp_leq rfl rfl (r := true) (decide_eq_true (by omega))) rfl ?_
      iterate 3 refine GoR.op rfl rfl rfl rfl ?_
      refine GoR.op rfl rfl (aOp_leq rfl rfl (r := false) (decide_eq_false (by omega))) rfl ?_
      iterate 2 refine GoR.op rfl rfl rfl rfl ?_
      refine GoR.end ?_
      exact Go.ret noJ_ok (ret_end (aResult_of Try.func57 rfl rfl) ⟨rfl, e0⟩)
  · have : r = false := by rw [← hr]; simp; omega
    subst this
    refine Runs.intro aFunc57 rfl rfl rfl rfl fun rest => ?_
    refine Go.seq noJ_ok ?_
    refine Go.region noJ_ok rfl ?_
    refine GoR.op rfl rfl rfl rfl ?_
    refine GoR.end ?_
    refine Go.seq noJ_ok ?_
    refine Go.region noJ_ok rfl ?_
    iterate 2 refine GoR.op rfl rfl rfl rfl ?_
    refine GoR.op rfl rfl (aOp_leq rfl rfl (r := false) (decide_eq_false (by omega))) rfl ?_
    refine GoR.op rfl rfl rfl rfl ?_
    iterate 3 refine GoR.skip rfl rfl rfl ?_
    iterate 2 refine GoR.op rfl rfl rfl rfl ?_
    refine GoR.end ?_
    exact Go.ret noJ_ok (ret_end (aResult_of Try.func57 rfl rfl) ⟨rfl, e0⟩)
theorem span58_ok (lo hi a b : Int) {r : Bool} (hr : decide (0 ≤ lo ∧ lo ≤ hi ∧ hi ≤ a ∧ hi - lo ≤ b) = r) (ha : a ≤ 1000) (h : AH) : Runs Try.prog 58 [.agg [.int .i64 lo, .int .i64 hi], .int .i64 a, .int .i64 b] h (fun en h' => en = .ret (.bool r) ∧ Ext h h') := by
  by_cases h1 : 0 ≤ lo
  · by_cases h2 : lo ≤ hi
    · by_cases h3 : hi ≤ a
      · by_cases h4 : hi - lo ≤ b
        · have : r = true := by rw [← hr]; simp; omega
          subst this
          refine Runs.intro aFunc58 rfl rfl rfl rfl fun rest => ?_
          refine Go.seq noJ_ok ?_
          refine Go.region noJ_ok rfl ?_
          refine GoR.box rfl rfl rfl rfl rfl rfl fun h5 x5 f5 => ?_
          have e0 := x5
          have := f5.1
          refine GoR.op rfl rfl rfl rfl ?_
          refine GoR.end ?_
          refine Go.seq noJ_ok ?_
          refine Go.region noJ_ok rfl ?_
          refine GoR.op rfl rfl (fa30_0 rfl) rfl ?_
          refine GoR.op rfl rfl (ld3 rfl f5 rfl) rfl ?_
          refine GoR.op rfl rfl (aOp_leq rfl rfl (r := true) (decide_eq_true (by omega))) rfl ?_
          refine GoR.op rfl rfl rfl rfl ?_
          refine GoR.op rfl rfl (fa30_0 rfl) rfl ?_
          refine GoR.op rfl rfl (ld3 rfl f5 rfl) rfl ?_
          refine GoR.op rfl rfl (fa30_1 rfl) rfl ?_
          refine GoR.op rfl rfl (ld3 rfl f5 rfl) rfl ?_
          refine GoR.op rfl rfl (aOp_leq rfl rfl (r := true) (decide_eq_true (by omega))) rfl ?_
          iterate 2 refine GoR.op rfl rfl rfl rfl ?_
          refine GoR.op rfl rfl (fa30_1 rfl) rfl ?_
          refine GoR.op rfl rfl (ld3 rfl f5 rfl) rfl ?_
          refine GoR.op rfl rfl rfl rfl ?_
          refine GoR.op rfl rfl (aOp_leq rfl rfl (r := true) (decide_eq_true (by omega))) rfl ?_
          iterate 2 refine GoR.op rfl rfl rfl rfl ?_
          refine GoR.op rfl rfl (fa30_1 rfl) rfl ?_
          refine GoR.op rfl rfl (ld3 rfl f5 rfl) rfl ?_
          refine GoR.op rfl rfl (fa30_0 rfl) rfl ?_
          refine GoR.op rfl rfl (ld3 rfl f5 rfl) rfl ?_
          refine GoR.op rfl rfl (aOp_sub rfl rfl (by constructor <;> omega) rfl) rfl ?_
          refine GoR.op rfl rfl rfl rfl ?_
          refine GoR.op rfl rfl (aOp_leq rfl rfl (r := true) (decide_eq_true (by omega))) rfl ?_
          iterate 2 refine GoR.op rfl rfl rfl rfl ?_
          refine GoR.end ?_
          exact Go.ret noJ_ok (ret_end (aResult_of Try.func58 rfl rfl) ⟨rfl, e0⟩)
        · have : r = false := by rw [← hr]; simp; omega
          subst this
          refine Runs.intro aFunc58 rfl rfl rfl rfl fun rest => ?_
          refine Go.seq noJ_ok ?_
          refine Go.region noJ_ok rfl ?_
          refine GoR.box rfl rfl rfl rfl rfl rfl fun h5 x5 f5 => ?_
          have e0 := x5
          have := f5.1
          refine GoR.op rfl rfl rfl rfl ?_
          refine GoR.end ?_
          refine Go.seq noJ_ok ?_
          refine Go.region noJ_ok rfl ?_
          refine GoR.op rfl rfl (fa30_0 rfl) rfl ?_
          refine GoR.op rfl rfl (ld3 rfl f5 rfl) rfl ?_
          refine GoR.op rfl rfl (aOp_leq rfl rfl (r := true) (decide_eq_true (by omega))) rfl ?_
          refine GoR.op rfl rfl rfl rfl ?_
          refine GoR.op rfl rfl (fa30_0 rfl) rfl ?_
          refine GoR.op rfl rfl (ld3 rfl f5 rfl) rfl ?_
          refine GoR.op rfl rfl (fa30_1 rfl) rfl ?_
          refine GoR.op rfl rfl (ld3 rfl f5 rfl) rfl ?_
          refine GoR.op rfl rfl (aOp_leq rfl rfl (r := true) (decide_eq_true (by omega))) rfl ?_
          iterate 2 refine GoR.op rfl rfl rfl rfl ?_
          refine GoR.op rfl rfl (fa30_1 rfl) rfl ?_
          refine GoR.op rfl rfl (ld3 rfl f5 rfl) rfl ?_
          refine GoR.op rfl rfl rfl rfl ?_
          refine GoR.op rfl rfl (aOp_leq rfl rfl (r := true) (decide_eq_true (by omega))) rfl ?_
          iterate 2 refine GoR.op rfl rfl rfl rfl ?_
          refine GoR.op rfl rfl (fa30_1 rfl) rfl ?_
          refine GoR.op rfl rfl (ld3 rfl f5 rfl) rfl ?_
          refine GoR.op rfl rfl (fa30_0 rfl) rfl ?_
          refine GoR.op rfl rfl (ld3 rfl f5 rfl) rfl ?_
          refine GoR.op rfl rfl (aOp_sub rfl rfl (by constructor <;> omega) rfl) rfl ?_
          refine GoR.op rfl rfl rfl rfl ?_
          refine GoR.op rfl rfl (aOp_leq rfl rfl (r := false) (decide_eq_false (by omega))) rfl ?_
          iterate 2 refine GoR.op rfl rfl rfl rfl ?_
          refine GoR.end ?_
          exact Go.ret noJ_ok (ret_end (aResult_of Try.func58 rfl rfl) ⟨rfl, e0⟩)
      · have : r = false := by rw [← hr]; simp; omega
        subst this
        refine Runs.intro aFunc58 rfl rfl rfl rfl fun rest => ?_
        refine Go.seq noJ_ok ?_
        refine Go.region noJ_ok rfl ?_
        refine GoR.box rfl rfl rfl rfl rfl rfl fun h4 x4 f4 => ?_
        have e0 := x4
        have := f4.1
        refine GoR.op rfl rfl rfl rfl ?_
        refine GoR.end ?_
        refine Go.seq noJ_ok ?_
        refine Go.region noJ_ok rfl ?_
        refine GoR.op rfl rfl (fa30_0 rfl) rfl ?_
        refine GoR.op rfl rfl (ld3 rfl f4 rfl) rfl ?_
        refine GoR.op rfl rfl (aOp_leq rfl rfl (r := true) (decide_eq_true (by omega))) rfl ?_
        refine GoR.op rfl rfl rfl rfl ?_
        refine GoR.op rfl rfl (fa30_0 rfl) rfl ?_
        refine GoR.op rfl rfl (ld3 rfl f4 rfl) rfl ?_
        refine GoR.op rfl rfl (fa30_1 rfl) rfl ?_
        refine GoR.op rfl rfl (ld3 rfl f4 rfl) rfl ?_
        refine GoR.op rfl rfl (aOp_leq rfl rfl (r := true) (decide_eq_true (by omega))) rfl ?_
        iterate 2 refine GoR.op rfl rfl rfl rfl ?_
        refine GoR.op rfl rfl (fa30_1 rfl) rfl ?_
        refine GoR.op rfl rfl (ld3 rfl f4 rfl) rfl ?_
        refine GoR.op rfl rfl rfl rfl ?_
        refine GoR.op rfl rfl (aOp_leq rfl rfl (r := false) (decide_eq_false (by omega))) rfl ?_
        iterate 2 refine GoR.op rfl rfl rfl rfl ?_
        iterate 7 refine GoR.skip rfl rfl rfl ?_
        iterate 2 refine GoR.op rfl rfl rfl rfl ?_
        refine GoR.end ?_
        exact Go.ret noJ_ok (ret_end (aResult_of Try.func58 rfl rfl) ⟨rfl, e0⟩)
    · have : r = false := by rw [← hr]; simp; omega
      subst this
      refine Runs.intro aFunc58 rfl rfl rfl rfl fun rest => ?_
      refine Go.seq noJ_ok ?_
      refine Go.region noJ_ok rfl ?_
      refine GoR.box rfl rfl rfl rfl rfl rfl fun h3 x3 f3 => ?_
      have e0 := x3
      have := f3.1
      refine GoR.op rfl rfl rfl rfl ?_
      refine GoR.end ?_
      refine Go.seq noJ_ok ?_
      refine Go.region noJ_ok rfl ?_
      refine GoR.op rfl rfl (fa30_0 rfl) rfl ?_
      refine GoR.op rfl rfl (ld3 rfl f3 rfl) rfl ?_
      refine GoR.op rfl rfl (aOp_leq rfl rfl (r := true) (decide_eq_true (by omega))) rfl ?_
      refine GoR.op rfl rfl rfl rfl ?_
      refine GoR.op rfl rfl (fa30_0 rfl) rfl ?_
      refine GoR.op rfl rfl (ld3 rfl f3 rfl) rfl ?_
      refine GoR.op rfl rfl (fa30_1 rfl) rfl ?_
      refine GoR.op rfl rfl (ld3 rfl f3 rfl) rfl ?_
      refine GoR.op rfl rfl (aOp_leq rfl rfl (r := false) (decide_eq_false (by omega))) rfl ?_
      iterate 2 refine GoR.op rfl rfl rfl rfl ?_
      iterate 4 refine GoR.skip rfl rfl rfl ?_
      iterate 2 refine GoR.op rfl rfl rfl rfl ?_
      iterate 7 refine GoR.skip rfl rfl rfl ?_
      iterate 2 refine GoR.op rfl rfl rfl rfl ?_
      refine GoR.end ?_
      exact Go.ret noJ_ok (ret_end (aResult_of Try.func58 rfl rfl) ⟨rfl, e0⟩)
  · have : r = false := by rw [← hr]; simp; omega
    subst this
    refine Runs.intro aFunc58 rfl rfl rfl rfl fun rest => ?_
    refine Go.seq noJ_ok ?_
    refine Go.region noJ_ok rfl ?_
    refine GoR.box rfl rfl rfl rfl rfl rfl fun h2 x2 f2 => ?_
    have e0 := x2
    have := f2.1
    refine GoR.op rfl rfl rfl rfl ?_
    refine GoR.end ?_
    refine Go.seq noJ_ok ?_
    refine Go.region noJ_ok rfl ?_
    refine GoR.op rfl rfl (fa30_0 rfl) rfl ?_
    refine GoR.op rfl rfl (ld3 rfl f2 rfl) rfl ?_
    refine GoR.op rfl rfl (aOp_leq rfl rfl (r := false) (decide_eq_false (by omega))) rfl ?_
    refine GoR.op rfl rfl rfl rfl ?_
    iterate 5 refine GoR.skip rfl rfl rfl ?_
    iterate 2 refine GoR.op rfl rfl rfl rfl ?_
    iterate 4 refine GoR.skip rfl rfl rfl ?_
    iterate 2 refine GoR.op rfl rfl rfl rfl ?_
    iterate 7 refine GoR.skip rfl rfl rfl ?_
    iterate 2 refine GoR.op rfl rfl rfl rfl ?_
    refine GoR.end ?_
    exact Go.ret noJ_ok (ret_end (aResult_of Try.func58 rfl rfl) ⟨rfl, e0⟩)
theorem heap59_ok {F : FieldV} (hsl rsl lsl : AVal) (h1 : lenA hsl = some F.hs.length) (hn : F.hs.length ≤ 100) (n : Int) {r : Bool} (hr : decide (0 ≤ n ∧ n < F.hs.length) = r) (h : AH) : Runs Try.prog 59 [.agg (F.cells hsl rsl lsl), .int .i64 n] h (fun en h' => en = .ret (.bool r) ∧ Ext h h') := by
  have hr' : decide (0 ≤ n ∧ n ≤ (F.hs.length : Int) - 1) = r := by
    rw [← hr]
    exact decide_eq_decide.2 ⟨fun ⟨a, b⟩ => ⟨a, by omega⟩, fun ⟨a, b⟩ => ⟨a, by omega⟩⟩
  unfold FieldV.cells fieldC
  refine Runs.intro aFunc59 rfl rfl rfl rfl fun rest => ?_
  refine Go.seq noJ_ok ?_
  refine Go.region noJ_ok rfl ?_
  refine GoR.box rfl rfl rfl rfl rfl rfl fun h2 x2 f2 => ?_
  have e0 := x2
  have := f2.1
  refine GoR.op rfl rfl rfl rfl ?_
  refine GoR.end ?_
  refine Go.seq noJ_ok ?_
  refine Go.region noJ_ok rfl ?_
  refine GoR.op rfl rfl rfl rfl ?_
  refine GoR.op rfl rfl (fa27_0 rfl) rfl ?_
  refine GoR.op rfl rfl (ld22 rfl f2 rfl) rfl ?_
  refine GoR.op rfl rfl (aOp_lenSlice Try.underlying22 rfl h1) rfl ?_
  refine GoR.op rfl rfl (aOp_sub rfl rfl (by constructor <;> omega) rfl) rfl ?_
  refine GoR.call rfl rfl (aOp_callFunc aFunc57 rfl) (in57_ok n 0 (F.hs.length - 1) hr' _) ?_ (by rintro _ _ ⟨q, _⟩; cases q)
  rintro v3 h3 ⟨q, x3⟩
  cases q
  refine ⟨_, rfl, ?_⟩
  replace f2 := f2.ext x3
  replace e0 := e0.trans x3
  refine GoR.op rfl rfl rfl rfl ?_
  refine GoR.end ?_
  exact Go.ret noJ_ok (ret_end (aResult_of Try.func59 rfl rfl) ⟨rfl, e0⟩)
theorem day60_ok {F : FieldV} (hsl rsl lsl : AVal) (h1 : lenA rsl = some F.rs.length) (hn : F.rs.length ≤ 100) (n : Int) {r : Bool} (hr : decide (0 ≤ n ∧ n < F.rs.length) = r) (h : AH) : Runs Try.prog 60 [.agg (F.cells hsl rsl lsl), .int .i64 n] h (fun en h' => en = .ret (.bool r) ∧ Ext h h') := by
  have hr' : decide (0 ≤ n ∧ n ≤ (F.rs.length : Int) - 1) = r := by
    rw [← hr]
    exact decide_eq_decide.2 ⟨fun ⟨a, b⟩ => ⟨a, by omega⟩, fun ⟨a, b⟩ => ⟨a, by omega⟩⟩
  unfold FieldV.cells fieldC
  refine Runs.intro aFunc60 rfl rfl rfl rfl fun rest => ?_
  refine Go.seq noJ_ok ?_
  refine Go.region noJ_ok rfl ?_
  refine GoR.box rfl rfl rfl rfl rfl rfl fun h2 x2 f2 => ?_
  have e0 := x2
  have := f2.1
  refine GoR.op rfl rfl rfl rfl ?_
  refine GoR.end ?_
  refine Go.seq noJ_ok ?_
  refine Go.region noJ_ok rfl ?_
  refine GoR.op rfl rfl rfl rfl ?_
  refine GoR.op rfl rfl (fa27_1 rfl) rfl ?_
  refine GoR.op rfl rfl (ld23 rfl f2 rfl) rfl ?_
  refine GoR.op rfl rfl (aOp_lenSlice Try.underlying23 rfl h1) rfl ?_
  refine GoR.op rfl rfl (aOp_sub rfl rfl (by constructor <;> omega) rfl) rfl ?_
  refine GoR.call rfl rfl (aOp_callFunc aFunc57 rfl) (in57_ok n 0 (F.rs.length - 1) hr' _) ?_ (by rintro _ _ ⟨q, _⟩; cases q)
  rintro v3 h3 ⟨q, x3⟩
  cases q
  refine ⟨_, rfl, ?_⟩
  replace f2 := f2.ext x3
  replace e0 := e0.trans x3
  refine GoR.op rfl rfl rfl rfl ?_
  refine GoR.end ?_
  exact Go.ret noJ_ok (ret_end (aResult_of Try.func60 rfl rfl) ⟨rfl, e0⟩)
theorem take_all {α : Type} {P : α → Prop} {l : List α} {i : Nat} {x : α} (hx : l[i]? = some x) (h : ∀ y, y ∈ l.take i → P y) (hp : P x) : ∀ y, y ∈ l.take (i + 1) → P y := by
  intro y hy
  rw [List.take_add_one, hx, Option.toList_some] at hy
  rcases List.mem_append.1 hy with hy | hy
  · exact h y hy
  · rw [List.mem_singleton] at hy
    rw [hy]
    exact hp
def HOk (x : HTurf) : Prop := 0 ≤ x.p ∧ x.p ≤ 2 ∧ 0 ≤ x.lo ∧ x.lo ≤ x.hi ∧ x.hi ≤ 100 ∧ x.hi - x.lo ≤ 5
def ROk (r : Int × Int) : Prop := 0 ≤ r.1 ∧ r.1 ≤ r.2 ∧ r.2 ≤ 10 ∧ r.2 - r.1 ≤ 3
def LOk (F : FieldV) (l : LookV) : Prop := 0 ≤ l.heap ∧ l.heap < F.hs.length ∧ 0 ≤ l.day ∧ l.day < F.rs.length ∧ 0 ≤ l.lo ∧ l.lo ≤ l.hi ∧ l.hi ≤ 100
end Go.Proofs.Ytmdheijpnlonoaa

namespace Go.Proofs.Ytmdheijpnlonoaa
open Go Go.AbsE
set_option linter.unusedSimpArgs false
noncomputable def toInts : List AVal → Option (List Int)
  | [] => some []
  | .int .i64 n :: l => match toInts l with | some r => some (n :: r) | none => none
  | _ => none
noncomputable def toSps : List AVal → Option (List (Int × Int))
  | [] => some []
  | .int .i64 a :: .int .i64 b :: l => match toSps l with | some r => some ((a, b) :: r) | none => none
  | _ => none
noncomputable def intIn (n : Int) : Bool := match n with | .ofNat m => Nat.ble m 9223372036854775807 | .negSucc m => Nat.ble m 9223372036854775807
noncomputable def allB {α : Type} (f : α → Bool) : List α → Bool
  | [] => true
  | a :: l => cond (f a) (allB f l) false
noncomputable def decE (en : AMapE) : Option (Int × List Int × List (Int × Int)) :=
  match absV en.key, en.val with
  | some (.agg (.int .i64 k :: l)), .agg cs => match toInts l, toSps cs with
    | some fs, some vs => cond (Nat.beq fs.length 6) (cond (Nat.beq vs.length 6) (cond (allB intIn fs) (cond (allB (fun p => cond (intIn p.1) (intIn p.2) false) vs) (some (k, fs, vs)) none) none) none) none
    | _, _ => none
  | _, _ => none
noncomputable def decF (en : AMapE) : Int × List Int × List (Int × Int) := (decE en).getD default
noncomputable def freshB (n : Nat) : List AMapE → Bool
  | [] => true
  | e :: l => cond (Nat.beq e.born n) false (freshB n l)
noncomputable def goodM (clock : Nat) : List AMapE → Bool
  | [] => true
  | e :: l => cond (Nat.blt e.born clock) (cond (freshB e.born l) (cond (decE e).isSome (goodM clock l) false) false) false
noncomputable def jwRun (f : FuncId) (args : List AVal) (h : AH) : Option AVal :=
  cond (Nat.beq f 39)
    (match args with
      | [.map b, .int .i64 hp, .int .i64 (.ofNat d)] => match mapB h b with
        | some (es, clock) => cond (goodM clock es) (cond (Nat.blt d 6) (cond (Nat.blt b h.next) (some (.agg (spC (joinL (es.map (wetM decF hp d)))))) none) none) none
        | none => none
      | _ => none)
    (cond (Nat.beq f 41)
      (match args with
        | [.map b, .int .i64 (.ofNat d)] => match mapB h b with
          | some (es, clock) => cond (goodM clock es) (cond (Nat.blt d 6) (cond (Nat.blt b h.next) (some (.agg (spC (joinL (es.map (rainM decF d)))))) none) none) none
          | none => none
        | _ => none) none)
noncomputable def JW : Jump := ⟨jwRun⟩
theorem toInts_ok : ∀ {l : List AVal} {r : List Int}, toInts l = some r → l = r.map (.int .i64)
  | [], r, h => by cases h; rfl
  | a :: l, r, h => by
    unfold toInts at h
    split at h
    · rename_i heq; cases heq
    · rename_i n l' heq
      cases heq
      split at h
      · rename_i r' hr
        cases h
        rw [toInts_ok hr]; rfl
      · cases h
    · cases h
theorem toSps_ok : ∀ (n : Nat) {l : List AVal} {r : List (Int × Int)}, l.length ≤ n → toSps l = some r → l = r.flatMap spC
  | 0, l, r, hn, h => by
    have : l = [] := List.eq_nil_of_length_eq_zero (by omega)
    subst this
    cases h; rfl
  | n + 1, l, r, hn, h => by
    unfold toSps at h
    split at h
    · cases h; rfl
    · rename_i a b l'
      split at h
      · rename_i r' hr
        cases h
        rw [toSps_ok n (by simp at hn; omega) hr]; rfl
      · cases h
    · cases h
theorem intIn_ok {n : Int} (h : intIn n = true) : I64 n := by
  unfold intIn at h
  unfold I64
  split at h
  · have := Nat.le_of_ble_eq_true h
    simp only [Int.ofNat_eq_natCast]
    omega
  · have := Nat.le_of_ble_eq_true h
    omega
theorem allB_ok {α : Type} {f : α → Bool} : ∀ {l : List α}, allB f l = true → ∀ a, a ∈ l → f a = true
  | [], _, a, h => by cases h
  | x :: l, h, a, ha => by
    unfold allB at h
    cases hx : f x with
    | false => rw [hx] at h; cases h
    | true =>
      rw [hx] at h
      rcases List.mem_cons.1 ha with rfl | ha
      · exact hx
      · exact allB_ok h a ha
theorem decE_ok {en : AMapE} {x : Int × List Int × List (Int × Int)} (h : decE en = some x) : EntryIs en x.1 x.2.1 x.2.2 ∧ (∀ n, n ∈ x.2.1 → I64 n) ∧ ∀ p, p ∈ x.2.2 → InSp p := by
  unfold decE at h
  split at h
  · rename_i k l cs hk hv
    split at h
    · rename_i fs vs h1 h2
      cases a1 : Nat.beq fs.length 6 <;> rw [a1] at h <;> first | (cases h; done) | skip
      cases a2 : Nat.beq vs.length 6 <;> rw [a2] at h <;> first | (cases h; done) | skip
      cases a3 : allB intIn fs <;> rw [a3] at h <;> first | (cases h; done) | skip
      cases a4 : allB (fun p : Int × Int => cond (intIn p.1) (intIn p.2) false) vs <;> rw [a4] at h <;> first | (cases h; done) | skip
      cases h
      refine ⟨⟨by rw [hk, toInts_ok h1], by rw [hv, toSps_ok _ (Nat.le_refl _) h2], Nat.eq_of_beq_eq_true a1, Nat.eq_of_beq_eq_true a2⟩, fun n hn => intIn_ok (allB_ok a3 n hn), fun p hp => ?_⟩
      have := allB_ok a4 p hp
      cases q : intIn p.1 with
      | false => rw [q] at this; cases this
      | true =>
        rw [q] at this
        exact ⟨(intIn_ok q).2, (intIn_ok this).1⟩
    · cases h
  · cases h
theorem freshB_ok {n : Nat} : ∀ {l : List AMapE}, freshB n l = true → ∀ a, a ∈ l → n ≠ a.born
  | [], _, a, h => by cases h
  | x :: l, h, a, ha => by
    unfold freshB at h
    cases hx : Nat.beq x.born n with
    | true => rw [hx] at h; cases h
    | false =>
      rw [hx] at h
      rcases List.mem_cons.1 ha with rfl | ha
      · exact fun q => by rw [q, Nat.beq_refl] at hx; cases hx
      · exact freshB_ok h a ha
theorem goodM_ok {clock : Nat} : ∀ {l : List AMapE}, goodM clock l = true → (∀ en, en ∈ l → en.born < clock ∧ (decE en).isSome = true) ∧ l.Pairwise fun a b => a.born ≠ b.born
  | [], _ => ⟨fun _ h => (by cases h), List.Pairwise.nil⟩
  | x :: l, h => by
    unfold goodM at h
    cases a1 : Nat.blt x.born clock <;> rw [a1] at h <;> first | (cases h; done) | skip
    cases a2 : freshB x.born l <;> rw [a2] at h <;> first | (cases h; done) | skip
    cases a3 : (decE x).isSome <;> rw [a3] at h <;> first | (cases h; done) | skip
    obtain ⟨q1, q2⟩ := goodM_ok h
    refine ⟨fun en hen => ?_, List.pairwise_cons.2 ⟨fun b hb => freshB_ok a2 b hb, q2⟩⟩
    rcases List.mem_cons.1 hen with rfl | hen
    · exact ⟨blt_true a1, a3⟩
    · exact q1 en hen
theorem known_of {h : AH} {b clock : Nat} {es : List AMapE} (hb : b < h.next) (hm : mapB h b = some (es, clock)) (hg : goodM clock es = true) : Known h b es clock decF := by
  obtain ⟨q1, q2⟩ := goodM_ok hg
  have hd : ∀ en, en ∈ es → decE en = some (decF en) := fun en hen => by
    have := (q1 en hen).2
    unfold decF
    cases q : decE en with
    | none => rw [q] at this; cases this
    | some x => rfl
  exact ⟨⟨hb, hm, fun en hen => (q1 en hen).1, q2⟩, fun en hen => (decE_ok (hd en hen)).1, fun en hen => (decE_ok (hd en hen)).2.1, fun en hen => (decE_ok (hd en hen)).2.2⟩
noncomputable def oneMap (n b : Nat) (es : List AMapE) (clock : Nat) : AH := ⟨Tr.leaf.put (pth b) (some (.romap es clock)), n⟩
theorem oneMap_get {n b : Nat} {es : List AMapE} {clock : Nat} (b' : Nat) : (oneMap n b es clock).get b' = if b = b' then some (.romap es clock) else none := by
  show (Tr.put _ _ _).get (pth b') = _
  rw [Tr.get_put _ _ (pth_ok' _)]
  by_cases h : b = b'
  · rw [if_pos h, if_pos (by rw [h])]
  · rw [if_neg h, if_neg (fun q => h (pth_inj' q)), Tr.get_leaf]
theorem JW_ok : JOk Try.prog JW := by
  refine JOk.ofRuns fun f args h v hv => ?_
  change jwRun f args h = some v at hv
  unfold jwRun at hv
  have key : ∀ {b es clock}, mapB h b = some (es, clock) → goodM clock es = true → b < h.next → Known (oneMap h.next b es clock) b es clock decF ∧ (∀ b' o, (oneMap h.next b es clock).get b' = some o → ∃ es' c, o = .romap es' c ∧ mapB h b' = some (es', c)) := by
    intro b es clock h1 h2 h3
    refine ⟨known_of (by exact h3) (by unfold mapB; rw [oneMap_get, if_pos rfl]) h2, fun b' o q => ?_⟩
    rw [oneMap_get] at q
    by_cases hb : b = b'
    · rw [if_pos hb] at q
      cases q
      subst hb
      exact ⟨es, clock, rfl, h1⟩
    · rw [if_neg hb] at q; cases q
  cases a1 : Nat.beq f 39 with
  | true =>
    rw [a1, cond_true] at hv
    have := Nat.eq_of_beq_eq_true a1
    subst this
    split at hv
    · rename_i b hp d
      split at hv
      · rename_i es clock hm
        cases b1 : goodM clock es <;> rw [b1] at hv <;> first | (cases hv; done) | skip
        cases b2 : Nat.blt d 6 <;> rw [b2] at hv <;> first | (cases hv; done) | skip
        cases b3 : Nat.blt b h.next <;> rw [b3] at hv <;> first | (cases hv; done) | skip
        cases hv
        obtain ⟨k1, k2⟩ := key hm b1 (blt_true b3)
        exact ⟨rfl, oneMap h.next b es clock, rfl, k2, (wet_ok k1 hp d (blt_true b2)).mono fun en h' q => q.1⟩
      · cases hv
    · cases hv
  | false =>
    rw [a1, cond_false] at hv
    cases a2 : Nat.beq f 41 with
    | false => rw [a2] at hv; cases hv
    | true =>
      rw [a2, cond_true] at hv
      have := Nat.eq_of_beq_eq_true a2
      subst this
      split at hv
      · rename_i b d
        split at hv
        · rename_i es clock hm
          cases b1 : goodM clock es <;> rw [b1] at hv <;> first | (cases hv; done) | skip
          cases b2 : Nat.blt d 6 <;> rw [b2] at hv <;> first | (cases hv; done) | skip
          cases b3 : Nat.blt b h.next <;> rw [b3] at hv <;> first | (cases hv; done) | skip
          cases hv
          obtain ⟨k1, k2⟩ := key hm b1 (blt_true b3)
          exact ⟨rfl, oneMap h.next b es clock, rfl, k2, (rain_ok k1 d (blt_true b2)).mono fun en h' q => q.1⟩
        · cases hv
      · cases hv
end Go.Proofs.Ytmdheijpnlonoaa

/- Calls that a run makes, each by a run of its own. -/
namespace Go.Proofs.Ytmdheijpnlonoaa
open Go Go.AbsE
set_option linter.unusedSimpArgs false
noncomputable def entA1 : Go.AbsE.Ent := ⟨13, (.agg ((.slice 0 0 2 2) :: (.slice 1 0 3 3) :: (.int .i64 (Int.ofNat 3)) :: (.int .i64 (Int.ofNat 5)) :: (.int .i64 (Int.ofNat 8)) :: (.int .i64 (Int.ofNat 20)) :: .nilslice :: [])) :: (.int .i64 (Int.ofNat 0)) :: (.int .i64 (Int.ofNat 2)) :: [], ((.int .i64 (Int.ofNat 0)) :: (.int .i64 (Int.ofNat 30)) :: (.int .i64 (Int.ofNat 31)) :: (.int .i64 (Int.ofNat 2)) :: (.int .i64 (Int.ofNat 30)) :: (.int .i64 (Int.ofNat 30)) :: [], 63) :: ((.int .i64 (Int.ofNat 0)) :: (.int .i64 (Int.ofNat 0)) :: (.int .i64 (Int.ofNat 0)) :: (.int .i64 (Int.ofNat 1)) :: (.int .i64 (Int.ofNat 0)) :: (.int .i64 (Int.ofNat 0)) :: [], 30) :: [], (.tuple ((.agg ((.int .i64 (Int.ofNat 21)) :: (.int .i64 (Int.ofNat 26)) :: [])) :: (.int .i64 (Int.ofNat 0)) :: []))⟩
theorem entA1Ok : EntOk Try.prog entA1 := entRun_ok JW_ok (fuel := 1000000) (by kernel_rfl)
noncomputable def entA2 : Go.AbsE.Ent := ⟨14, (.agg ((.slice 0 0 2 2) :: (.slice 1 0 3 3) :: (.int .i64 (Int.ofNat 3)) :: (.int .i64 (Int.ofNat 5)) :: (.int .i64 (Int.ofNat 8)) :: (.int .i64 (Int.ofNat 20)) :: (.slice 2 0 1 1) :: [])) :: (.int .i64 (Int.ofNat 1)) :: [], ((.int .i64 (Int.ofNat 0)) :: (.int .i64 (Int.ofNat 30)) :: (.int .i64 (Int.ofNat 31)) :: (.int .i64 (Int.ofNat 2)) :: (.int .i64 (Int.ofNat 30)) :: (.int .i64 (Int.ofNat 30)) :: [], 63) :: ((.int .i64 (Int.ofNat 0)) :: (.int .i64 (Int.ofNat 0)) :: (.int .i64 (Int.ofNat 0)) :: (.int .i64 (Int.ofNat 1)) :: (.int .i64 (Int.ofNat 0)) :: (.int .i64 (Int.ofNat 0)) :: [], 30) :: ((.int .i64 (Int.ofNat 1)) :: (.int .i64 (Int.ofNat 1)) :: (.int .i64 (Int.ofNat 20)) :: (.int .i64 (Int.ofNat 25)) :: [], 59) :: [], (.tuple ((.agg ((.int .i64 (Int.ofNat 1)) :: (.int .i64 (Int.ofNat 1)) :: [])) :: (.int .i64 (Int.ofNat 0)) :: []))⟩
theorem entA2Ok : EntOk Try.prog entA2 := entRun_ok JW_ok (fuel := 1000000) (by kernel_rfl)
noncomputable def entA3 : Go.AbsE.Ent := ⟨15, (.agg ((.slice 0 0 2 2) :: (.slice 1 0 3 3) :: (.int .i64 (Int.ofNat 3)) :: (.int .i64 (Int.ofNat 5)) :: (.int .i64 (Int.ofNat 8)) :: (.int .i64 (Int.ofNat 20)) :: .nilslice :: [])) :: (.int .i64 (Int.ofNat 1)) :: (.int .i64 (Int.ofNat 1)) :: [], ((.int .i64 (Int.ofNat 0)) :: (.int .i64 (Int.ofNat 30)) :: (.int .i64 (Int.ofNat 31)) :: (.int .i64 (Int.ofNat 2)) :: (.int .i64 (Int.ofNat 30)) :: (.int .i64 (Int.ofNat 30)) :: [], 63) :: ((.int .i64 (Int.ofNat 0)) :: (.int .i64 (Int.ofNat 0)) :: (.int .i64 (Int.ofNat 0)) :: (.int .i64 (Int.ofNat 1)) :: (.int .i64 (Int.ofNat 0)) :: (.int .i64 (Int.ofNat 0)) :: [], 30) :: [], (.tuple ((.int .i64 (Int.ofNat 1)) :: (.int .i64 (Int.ofNat 0)) :: []))⟩
theorem entA3Ok : EntOk Try.prog entA3 := entRun_ok JW_ok (fuel := 1000000) (by kernel_rfl)
noncomputable def entA4 : Go.AbsE.Ent := ⟨16, (.agg ((.slice 0 0 2 2) :: (.slice 1 0 3 3) :: (.int .i64 (Int.ofNat 3)) :: (.int .i64 (Int.ofNat 5)) :: (.int .i64 (Int.ofNat 8)) :: (.int .i64 (Int.ofNat 20)) :: .nilslice :: [])) :: (.int .i64 (Int.ofNat 1)) :: [], ((.int .i64 (Int.ofNat 0)) :: (.int .i64 (Int.ofNat 30)) :: (.int .i64 (Int.ofNat 31)) :: (.int .i64 (Int.ofNat 2)) :: (.int .i64 (Int.ofNat 30)) :: (.int .i64 (Int.ofNat 30)) :: [], 63) :: ((.int .i64 (Int.ofNat 0)) :: (.int .i64 (Int.ofNat 0)) :: (.int .i64 (Int.ofNat 0)) :: (.int .i64 (Int.ofNat 1)) :: (.int .i64 (Int.ofNat 0)) :: (.int .i64 (Int.ofNat 0)) :: [], 30) :: [], (.tuple ((.int .i64 (Int.ofNat 2)) :: (.int .i64 (Int.ofNat 0)) :: []))⟩
theorem entA4Ok : EntOk Try.prog entA4 := entRun_ok JW_ok (fuel := 1000000) (by kernel_rfl)
noncomputable def entA5 : Go.AbsE.Ent := ⟨26, (.agg ((.slice 0 0 2 2) :: (.slice 1 0 3 3) :: (.int .i64 (Int.ofNat 3)) :: (.int .i64 (Int.ofNat 5)) :: (.int .i64 (Int.ofNat 8)) :: (.int .i64 (Int.ofNat 20)) :: .nilslice :: [])) :: [], ((.int .i64 (Int.ofNat 0)) :: (.int .i64 (Int.ofNat 30)) :: (.int .i64 (Int.ofNat 31)) :: (.int .i64 (Int.ofNat 2)) :: (.int .i64 (Int.ofNat 30)) :: (.int .i64 (Int.ofNat 30)) :: [], 63) :: ((.int .i64 (Int.ofNat 0)) :: (.int .i64 (Int.ofNat 0)) :: (.int .i64 (Int.ofNat 0)) :: (.int .i64 (Int.ofNat 1)) :: (.int .i64 (Int.ofNat 0)) :: (.int .i64 (Int.ofNat 0)) :: [], 30) :: [], (.tuple ((.int .i64 (Int.ofNat 0)) :: (.int .i64 (Int.ofNat 4)) :: []))⟩
theorem entA5Ok : EntOk Try.prog entA5 := entRun_ok JW_ok (fuel := 1000000) (by kernel_rfl)
noncomputable def entA6 : Go.AbsE.Ent := ⟨17, (.agg ((.slice 0 0 2 2) :: (.slice 1 0 3 3) :: (.int .i64 (Int.ofNat 3)) :: (.int .i64 (Int.ofNat 5)) :: (.int .i64 (Int.ofNat 8)) :: (.int .i64 (Int.ofNat 20)) :: .nilslice :: [])) :: (.int .i64 (Int.ofNat 2)) :: [], ((.int .i64 (Int.ofNat 0)) :: (.int .i64 (Int.ofNat 30)) :: (.int .i64 (Int.ofNat 31)) :: (.int .i64 (Int.ofNat 2)) :: (.int .i64 (Int.ofNat 30)) :: (.int .i64 (Int.ofNat 30)) :: [], 63) :: ((.int .i64 (Int.ofNat 0)) :: (.int .i64 (Int.ofNat 0)) :: (.int .i64 (Int.ofNat 0)) :: (.int .i64 (Int.ofNat 1)) :: (.int .i64 (Int.ofNat 0)) :: (.int .i64 (Int.ofNat 0)) :: [], 30) :: [], (.tuple ((.int .i64 (Int.ofNat 1)) :: (.int .i64 (Int.ofNat 9)) :: (.int .i64 (Int.ofNat 0)) :: []))⟩
theorem entA6Ok : EntOk Try.prog entA6 := entRun_ok JW_ok (fuel := 1000000) (by kernel_rfl)
noncomputable def entA7 : Go.AbsE.Ent := ⟨18, (.agg ((.slice 0 0 2 2) :: (.slice 1 0 3 3) :: (.int .i64 (Int.ofNat 3)) :: (.int .i64 (Int.ofNat 5)) :: (.int .i64 (Int.ofNat 8)) :: (.int .i64 (Int.ofNat 20)) :: (.slice 2 0 2 2) :: [])) :: [], ((.int .i64 (Int.ofNat 0)) :: (.int .i64 (Int.ofNat 30)) :: (.int .i64 (Int.ofNat 31)) :: (.int .i64 (Int.ofNat 2)) :: (.int .i64 (Int.ofNat 30)) :: (.int .i64 (Int.ofNat 30)) :: [], 63) :: ((.int .i64 (Int.ofNat 0)) :: (.int .i64 (Int.ofNat 0)) :: (.int .i64 (Int.ofNat 0)) :: (.int .i64 (Int.ofNat 1)) :: (.int .i64 (Int.ofNat 0)) :: (.int .i64 (Int.ofNat 0)) :: [], 30) :: ((.int .i64 (Int.ofNat 1)) :: (.int .i64 (Int.ofNat 1)) :: (.int .i64 (Int.ofNat 20)) :: (.int .i64 (Int.ofNat 25)) :: (.int .i64 (Int.ofNat 0)) :: (.int .i64 (Int.ofNat 2)) :: (.int .i64 (Int.ofNat 21)) :: (.int .i64 (Int.ofNat 22)) :: [], 59) :: [], (.tuple ((.int .i64 (Int.ofNat 1)) :: (.int .i64 (Int.ofNat 1)) :: (.int .i64 (Int.ofNat 0)) :: []))⟩
theorem entA7Ok : EntOk Try.prog entA7 := entRun_ok JW_ok (fuel := 1000000) (by kernel_rfl)
end Go.Proofs.Ytmdheijpnlonoaa

/- Calls that a run makes, each by a run of its own. -/
namespace Go.Proofs.Ytmdheijpnlonoaa
open Go Go.AbsE
set_option linter.unusedSimpArgs false
noncomputable def entA8 : Go.AbsE.Ent := ⟨19, (.agg ((.slice 0 0 2 2) :: (.slice 1 0 3 3) :: (.int .i64 (Int.ofNat 3)) :: (.int .i64 (Int.ofNat 5)) :: (.int .i64 (Int.ofNat 8)) :: (.int .i64 (Int.ofNat 20)) :: (.slice 2 0 2 2) :: [])) :: [], ((.int .i64 (Int.ofNat 0)) :: (.int .i64 (Int.ofNat 30)) :: (.int .i64 (Int.ofNat 31)) :: (.int .i64 (Int.ofNat 2)) :: (.int .i64 (Int.ofNat 30)) :: (.int .i64 (Int.ofNat 30)) :: [], 63) :: ((.int .i64 (Int.ofNat 0)) :: (.int .i64 (Int.ofNat 0)) :: (.int .i64 (Int.ofNat 0)) :: (.int .i64 (Int.ofNat 1)) :: (.int .i64 (Int.ofNat 0)) :: (.int .i64 (Int.ofNat 0)) :: [], 30) :: ((.int .i64 (Int.ofNat 1)) :: (.int .i64 (Int.ofNat 1)) :: (.int .i64 (Int.ofNat 20)) :: (.int .i64 (Int.ofNat 25)) :: (.int .i64 (Int.ofNat 0)) :: (.int .i64 (Int.ofNat 2)) :: (.int .i64 (Int.ofNat 21)) :: (.int .i64 (Int.ofNat 22)) :: [], 59) :: [], (.tuple ((.int .i64 (Int.ofNat 3)) :: (.int .i64 (Int.ofNat 0)) :: []))⟩
theorem entA8Ok : EntOk Try.prog entA8 := entRun_ok JW_ok (fuel := 1000000) (by kernel_rfl)
end Go.Proofs.Ytmdheijpnlonoaa
