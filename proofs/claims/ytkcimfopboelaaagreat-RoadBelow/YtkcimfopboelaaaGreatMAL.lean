import Derived.Test.YtkcimfopboelaaaGreatMAK
import Derived.Test.YtkcimfopboelaaaGreatMAG
import Derived.Test.YtkcimfopboelaaaGreatMAH
namespace Go.Proofs.YtkcimfopboelaaaGreat
open Go Go.AbsE
set_option linter.unusedSimpArgs false
set_option maxRecDepth 100000
set_option maxHeartbeats 0
set_option linter.unusedVariables false
def cntM {α β : Type} (g : α → Option β) (L : List α) (j : Nat) : Nat := ((L.take j).filterMap g).length
theorem cntM_succ {α β : Type} {g : α → Option β} {L : List α} {j : Nat} {x : α} (h : L[j]? = some x) : cntM g L (j + 1) = cntM g L j + (g x).toList.length := by
 unfold cntM
 rw [List.take_add_one, h, Option.toList_some, List.filterMap_append, List.length_append]
 cases q : g x <;> simp [List.filterMap_cons, q]
theorem cntM_at {α β : Type} {g : α → Option β} {L : List α} {j : Nat} {x : α} {f : β} (h : L[j]? = some x) (hg : g x = some f) : (L.filterMap g)[cntM g L j]? = some f := by
 have e : L.filterMap g = (L.take j).filterMap g ++ f :: (L.drop (j + 1)).filterMap g := by
  have : L = L.take j ++ x :: L.drop (j + 1) := by rw [← drop_at h, List.take_append_drop]
  conv => lhs; rw [this, List.filterMap_append, List.filterMap_cons, hg]
 unfold cntM
 rw [e, List.getElem?_append_right (Nat.le_refl _), Nat.sub_self]
 rfl
theorem cntM_lt {α β : Type} {g : α → Option β} {L : List α} {j : Nat} {x : α} {f : β} (h : L[j]? = some x) (hg : g x = some f) : cntM g L j < (L.filterMap g).length := (List.getElem?_eq_some_iff.1 (cntM_at h hg)).1
theorem cntM_all {α β : Type} (g : α → Option β) (L : List α) : cntM g L L.length = (L.filterMap g).length := by unfold cntM; rw [List.take_length]
theorem go_len {part : Int} : ∀ {zs : List (EV × Int)} {x : Pc} {hs : List Int} {f : Ft}, fateGo part zs x hs = some f → f.hs.length = hs.length + zs.length
 | [], x, hs, f, h => by
  unfold fateGo at h
  cases h
  rfl
 | z :: r, x, hs, f, h => by
  unfold fateGo at h
  split at h
  ·have := go_len h
   rw [this, List.length_append, List.length_cons]
   simp
   omega
  ·cases h
theorem fate_len {es : List EV} {part : Int} {x : Pc} {w : List Int} {f : Ft} (h : fateV es part x w = some f) : f.hs.length ≤ es.length := by
 have := go_len h
 rw [List.length_zip] at this
 simp at this
 omega
structure FatesA (R : RoadV) (lo : Nat) (gp ge : AVal) (part : Int) (w : List Int) (n : Int) (bg bp bh : Nat) (h : AH) : Prop where
 g : Has h bg (.cells .plain [gp, ge] 77)
 p : Has h bp (.cells .plain [.int .i64 part] 3)
 w : Has h bh (.cells .plain (haulC w n) 126)
 A : GroundAt h R lo gp ge
theorem fates1_it {R : RoadV} (O : R.Ok) {lo : Nat} {gp ge : AVal} {part : Nat} {p : PV} (hp : R.ps[part]? = some p) {w : List Int} (hw : w.length = 10) (hl : LoadsOk R.es w) (n : Int) (bg bp bh : Nat) :
  IterF Tryz.prog 137 [] [.ptr bg 0, .ptr bp 0, .ptr bh 0] ((fatesV R.es part p w).map Ft.cells) (FatesA R lo gp ge part w n bg bp bh) := by
 intro y base J E h F hyc hys hA hb T j0
 show Runs Tryz.prog 137 [y, .ptr bg 0, .ptr bp 0, .ptr bh 0] h _
 rw [List.length_map]
 have hpO := O.p p (List.mem_of_getElem? hp)
 have hplt := (List.getElem?_eq_some_iff.1 hp).1
 have hnp := O.np
 have hne := O.ne
 have e0 : Ext h h := Ext.refl _
 obtain ⟨f0, f1, f2, ga⟩ := hA h (ExtF.of e0)
 obtain ⟨bq, off, q1, q2⟩ := ga.psl.at (i := part) (l := PV.cells p) (by rw [List.getElem?_map, hp]; rfl)
 rw [List.length_map] at q1;refine Runs.intro aFunc137 rfl rfl rfl rfl fun rest => ?_;apply gS;refine gR rfl ?_;refine GoR.box rfl rfl rfl rfl rfl rfl fun h3 x3 f3 => ?_;have := e0.1;have := f0.1;have := f1.1;have := f2.1;replace f0 := f0.ext x3;replace f1 := f1.ext x3;replace f2 := f2.ext x3;replace e0 := e0.trans x3;have := f3.1;apply gE;apply gS;refine gR rfl ?_;refine gO rfl rfl (fa77_0 rfl) rfl ?_;refine gO rfl rfl (ld74 rfl f0 rfl) rfl ?_;refine gO rfl rfl (ld3 rfl f1 rfl) rfl ?_;refine gO rfl rfl (aOp_indexAddr (i := part) Tryz.underlying74 sz157 rfl (by assumption) rfl (Nat.ble_eq_true_of_le (by omega))) rfl ?_;refine gO rfl rfl (aOp_loadE ag157 sz157 rfl (q2.ext e0)) rfl ?_;refine gP ?_;apply gE;refine Go.block noJ_ok ?_;rw [hyc] at f3
 have hSl : ∀ b, F b → b < h.next := fun b q => T.ltJ j0 q
 have hA2 : ∀ h', ExtF F h3 h' → FatesA R lo gp ge part w n bg bp bh h' := fun h' x => hA h' (ExtF.trans (.of e0) (fun _ q => .inl q) x)
 have hlen0 : (fatesV R.es part p w).length = (p.pcs.filterMap fun x => fateV R.es part x w).length := rfl
 obtain ⟨g, hg⟩ : ∃ g, g = fun x => fateV R.es part x w := ⟨_, rfl⟩
 have hF : fatesV R.es part p w = p.pcs.filterMap g := by rw [hg]; rfl
 rw [hF] at T ⊢;refine Go.rangeF (items := p.pcs.map Pc.cells) (A := fun _ => True) F (fun j hh G => J (cntM g p.pcs j) hh G) (fun c hh G => c = .ret ∧ ∃ k, k < (p.pcs.filterMap g).length ∧ E k hh G) rfl aFunc138 Tryz.func137 (pieces_it hpO) (fun h' x => trivial) (T.ext j0 e0) (fun _ _ _ _ j q => T.ltJ j q) (fun _ _ _ _ j q => by obtain ⟨_, k, _, e⟩ := j; exact T.ltE e q) ?_ ?_ ?_ ?_ ?_
 ·rintro k h1 h3 G j hn hk;exact T.keepJ j hn fun b hb hq => hk b hb (hq.elim (fun q => .inl (by omega)) .inr)
 ·rintro c h1 h3 G ⟨q, k, hk, e⟩ hn hk';exact ⟨q, k, hk, T.keepE e hn fun b hb hq => hk' b hb (hq.elim (fun q => .inl (by omega)) .inr)⟩
 ·rintro j item hj;refine ⟨_, rfl, ?_⟩;rintro hh G lb r0 fr rest' Q' ij x1 hG hnl hlb fl hready contT contF
  have hht : h.next < h3.next := by assumption
  have hnS : ¬ F h.next := fun q => Nat.lt_irrefl _ (hSl _ q)
  have hnG : ¬ G h.next := fun q => (hG _ q).elim hnS fun q => by omega
  obtain ⟨x, hx, rfl⟩ : ∃ x, p.pcs[j]? = some x ∧ Pc.cells x = item := by
   rw [List.getElem?_map] at hj
   cases q : p.pcs[j]? with
   | none => rw [q] at hj; cases hj
   | some x => rw [q] at hj; exact ⟨x, rfl, Option.some.inj hj⟩
  have hbN := f3.1
  obtain ⟨f0', f1', f2', ga'⟩ := hA2 hh x1
  replace f3 := f3.extF x1 hnS
  have hxi := pcs_in hpO (List.mem_of_getElem? hx)
  have hx1 := x1.1
  have hb0 := f0'.1
  have hb1 := f1'.1
  have hb2 := f2'.1
  have hb3 := f3.1
  have hbl := fl.1
  have hh2 := e0.1
  clear f0 f1 f2 e0 ga q2
  have e0 : Ext hh hh := Ext.refl _
  unfold Pc.cells
  refine gR rfl ?_;refine GoR.alloc rfl rfl rfl zt84 rfl rfl fun h4 x4 f4 => ?_;have := e0.1;have := fl.1
  have := f0'.1
  have := f1'.1
  have := f2'.1
  have := f3.1;replace fl := fl.ext x4;replace f0' := f0'.ext x4;replace f1' := f1'.ext x4;replace f2' := f2'.ext x4;replace f3 := f3.ext x4;replace e0 := e0.trans x4;have := f4.1;refine GoR.store rfl rfl rfl rfl rfl rfl f4 rfl sz84 rfl rfl rfl fun h5 u5 => ?_;replace f4 := u5.has f4;replace fl := fl.upd u5 (by omega);replace f0' := f0'.upd u5 (by omega);replace f1' := f1'.upd u5 (by omega);replace f2' := f2'.upd u5 (by omega);replace f3 := f3.upd u5 (by omega);replace e0 := e0.upd u5 (by omega);apply gE;refine Go.beginRound fl hready fun h15 u15 => ?_
  have g0 := f0'.upd u15 (by omega)
  have g1 := f1'.upd u15 (by omega)
  have g2 := f2'.upd u15 (by omega)
  have g3 := f3.upd u15 (by omega)
  have g4 := f4.upd u15 (by omega)
  have g5 := u15.has fl
  have hn5 : hh.next ≤ h15.next := by rw [u15.1]; exact e0.1
  have hs5 : ∀ b, b < hh.next → b ≠ lb → h15.get b = hh.get b := fun b hb hne => by rw [u15.2.2 b hne, e0.2 b hb]
  have HA : GroundAt h15 R lo gp ge := (hA2 h15 ⟨by omega, fun b hb hnS' => by rw [hs5 b (by omega) (by omega), x1.2 b hb hnS']⟩).A
  clear e0 f0' f1' f2' f3 f4 fl ga'
  have e0 : Ext h15 h15 := Ext.refl _
  have hJ' : ∀ h9, Ext h15 h9 → J (cntM g p.pcs j) h9 G := fun h9 x9 => T.keepJ ij (by have := x9.1; omega) fun b hb hq => by
   rw [x9.2 b (by omega), hs5 b (by omega) (fun z => by subst z; exact hq.elim (fun q => by omega) hnl)]
  have hX' : ∀ h9, Ext h15 h9 → ExtF (fun b => G b ∨ b = lb) hh h9 := fun h9 x9 => ⟨by have := x9.1; omega, fun b hb hnn => by rw [x9.2 b (by omega), hs5 b hb fun q => hnn (.inr q)]⟩
  obtain ⟨f0, hf0⟩ : ∃ f0, f0 = g0 := ⟨_, rfl⟩
  obtain ⟨f1, hf1⟩ : ∃ f1, f1 = g1 := ⟨_, rfl⟩
  obtain ⟨f2, hf2⟩ : ∃ f2, f2 = g2 := ⟨_, rfl⟩
  obtain ⟨f3, hf3⟩ : ∃ f3, f3 = g3 := ⟨_, rfl⟩
  obtain ⟨f4, hf4⟩ : ∃ f4, f4 = g4 := ⟨_, rfl⟩
  obtain ⟨f5, hf5⟩ : ∃ f5, f5 = g5 := ⟨_, rfl⟩
  clear hf0 hf1 hf2 hf3 hf4 hf5 g0 g1 g2 g3 g4 g5
  have hfate := fun h A => fate_ok O (h := h) (lo := lo) (gp := gp) (ge := ge) A (part := part) hxi hw hl (n := n)
  have hhl : (haulC w n).length = 11 := by simp [haulC, i64s, hw]
  have hxc : x.cells = [.int .i64 x.height, .int .i64 x.stiff, .int .i64 x.rise, .int .i64 x.full] := rfl
  obtain ⟨r, hr⟩ : ∃ r, fateV R.es part x w = r := ⟨_, rfl⟩
  have hgx : g x = r := by rw [hg]; exact hr
  rw [hxc, hr] at hfate
  have hft : ((r.getD zeroFt).cells).length = 14 := by
   cases r with
   | none => rfl
   | some f =>
    refine ft_len ?_
    show f.hs.length ≤ 10
    have := fate_len hr
    omega
  have hfs := ft_scal (r.getD zeroFt)
  cases r with
  | none =>
   have hfc : (Option.getD none zeroFt : Ft).cells = zeroFt.cells := rfl
   refine Go.block noJ_ok ?_;apply gS;refine gR rfl ?_;refine gO rfl rfl (ld77 rfl f0 rfl) rfl ?_;refine gO rfl rfl (ld3 rfl f1 rfl) rfl ?_;refine gO rfl rfl (ld84 rfl f4 rfl) rfl ?_;refine gO rfl rfl (ld126 rfl f2 (slice_all hhl)) rfl ?_;refine GoR.call rfl rfl (aCF aFunc139 rfl) (hfate _ (HA.ext e0)) ?_ np;rintro v16 h16 ⟨q, x16⟩;cases q;refine ⟨_, rfl, ?_⟩;replace f0 := f0.ext x16;replace f1 := f1.ext x16;replace f2 := f2.ext x16;replace f3 := f3.ext x16;replace f4 := f4.ext x16;replace f5 := f5.ext x16;replace e0 := e0.trans x16;iterate 3 refine gP ?_
   refine GoR.alloc rfl rfl rfl zt87 rfl rfl fun h17 x17 f17 => ?_;have := e0.1;have := f0.1;have := f1.1;have := f2.1;have := f3.1;have := f4.1;have := f5.1;replace f0 := f0.ext x17;replace f1 := f1.ext x17;replace f2 := f2.ext x17;replace f3 := f3.ext x17;replace f4 := f4.ext x17;replace f5 := f5.ext x17;replace e0 := e0.trans x17;have := f17.1;refine GoR.store rfl rfl rfl rfl rfl rfl f17 rfl sz87 rfl rfl rfl fun h18 u18 => ?_;replace f17 := u18.has f17;replace f0 := f0.upd u18 (by omega);replace f1 := f1.upd u18 (by omega);replace f2 := f2.upd u18 (by omega);replace f3 := f3.upd u18 (by omega);replace f4 := f4.upd u18 (by omega);replace f5 := f5.upd u18 (by omega);replace e0 := e0.upd u18 (by omega);refine gP ?_;apply gE;apply gS;refine gR rfl ?_;iterate 2 refine gP ?_
   iterate 4 refine GoR.skip rfl rfl rfl ?_
   refine gP ?_;apply gE;refine gC (b := false) rfl ?_;refine gD ?_;refine Go.inBlock noJ_ok ?_;exact contT _ _ G (by rw [cntM_succ hx, hgx]; exact hJ' _ e0) (fun b q => .inl q) (hX' _ e0) f5
  | some f =>
   refine Go.block noJ_ok ?_;apply gS;refine gR rfl ?_;refine gO rfl rfl (ld77 rfl f0 rfl) rfl ?_;refine gO rfl rfl (ld3 rfl f1 rfl) rfl ?_;refine gO rfl rfl (ld84 rfl f4 rfl) rfl ?_;refine gO rfl rfl (ld126 rfl f2 (slice_all hhl)) rfl ?_;refine GoR.call rfl rfl (aCF aFunc139 rfl) (hfate _ (HA.ext e0)) ?_ np;rintro v16 h16 ⟨q, x16⟩;cases q;refine ⟨_, rfl, ?_⟩;replace f0 := f0.ext x16;replace f1 := f1.ext x16;replace f2 := f2.ext x16;replace f3 := f3.ext x16;replace f4 := f4.ext x16;replace f5 := f5.ext x16;replace e0 := e0.trans x16;iterate 3 refine gP ?_
   refine GoR.alloc rfl rfl rfl zt87 rfl rfl fun h17 x17 f17 => ?_;have := e0.1;have := f0.1;have := f1.1;have := f2.1;have := f3.1;have := f4.1;have := f5.1;replace f3 := f3.ext x17;replace f5 := f5.ext x17;replace e0 := e0.trans x17;have := f17.1;refine GoR.store rfl rfl rfl rfl rfl rfl f17 rfl sz87 (beq_len hft) hfs (splice_whole hft.symm) fun h18 u18 => ?_;replace f17 := u18.has f17;replace f3 := f3.upd u18 (by omega);replace f5 := f5.upd u18 (by omega);replace e0 := e0.upd u18 (by omega);refine gP ?_;apply gE;apply gS;refine gR rfl ?_;iterate 2 refine gP ?_
   refine gO rfl rfl (ld135 rfl f3 rfl) rfl ?_;refine gO rfl rfl (ld87 rfl f17 (slice_all hft)) rfl ?_
   obtain ⟨ax, a1, a2, a3⟩ := T.take (by rw [List.getElem?_map, cntM_at hx hgx]; rfl) (hJ' _ e0)
   have hn18 := e0.1
   refine GoR.does rfl rfl (aOp_callY rfl rfl a1) a2 a3 ?_ (by rintro _ _ ⟨_, _, _, ⟨q, _⟩ | ⟨q, _⟩⟩ <;> cases q);rintro v h8 ⟨x8, G', hG', ⟨q, j8⟩ | ⟨q, e8⟩⟩
   ·cases q;refine ⟨_, rfl, ?_⟩;iterate 2 refine gP ?_
    apply gE;refine gC (b := false) rfl ?_;refine gD ?_;refine Go.inBlock noJ_ok ?_;exact contT _ _ G' (by rw [cntM_succ hx, hgx]; exact j8) (fun b q => (hG' b q).elim .inl fun q => .inr (by omega)) ((hX' _ e0).trans (fun _ q => .inl (.inl q)) x8) (f5.extF x8 hnl)
   ·cases q;refine ⟨_, rfl, ?_⟩;iterate 2 refine gP ?_
    apply gE;refine gC (b := true) rfl ?_;exact contF _ _ _ _ G' (.inl rfl) ⟨rfl, _, cntM_lt hx hgx, e8⟩ (fun b q => (hG' b q).elim .inl fun q => .inr (by omega)) ((hX' _ e0).trans (fun _ q => .inl (.inl q)) x8) (f5.extF x8 hnl)
 ·intro d h30 G x30 hG hnd hd hdd ij
  have hx30 := x30.1
  have hh2 := e0.1
  refine Go.inBlock noJ_ok ?_;refine Go.endC hdd fun h9 u9 => ⟨aResult_of Tryz.func137 rfl rfl, rfl, ⟨by rw [u9.1]; omega, fun b hb hnn => by rw [u9.2.2 b (by omega), x30.2 b (by omega) hnn, e0.2 b hb]⟩, G, fun b q => (hG b q).elim .inl fun q => .inr (by omega), .inl ?_⟩;rw [List.length_map, cntM_all] at ij;exact T.keepJ ij (by rw [u9.1]; exact Nat.le_refl _) fun b hb hq => u9.2.2 b (fun z => by subst z; exact hq.elim (fun q => by omega) hnd)
 ·rintro c d h30 G x30 hG hnd hd hdd ⟨rfl, k, hk, e⟩
  have hx30 := x30.1
  have hh2 := e0.1
  refine Go.retC hdd fun h9 u9 => ⟨aResult_of Tryz.func137 rfl rfl, rfl, ⟨by rw [u9.1]; omega, fun b hb hnn => by rw [u9.2.2 b (by omega), x30.2 b (by omega) hnn, e0.2 b hb]⟩, G, fun b q => (hG b q).elim .inl fun q => .inr (by omega), .inr ⟨k, hk, ?_⟩⟩;exact T.keepE e (by rw [u9.1]; exact Nat.le_refl _) fun b hb hq => u9.2.2 b (fun z => by subst z; exact hq.elim (fun q => by omega) hnd)
end Go.Proofs.YtkcimfopboelaaaGreat

namespace Go.Proofs.YtkcimfopboelaaaGreat
open Go Go.AbsE
set_option linter.unusedSimpArgs false
set_option maxRecDepth 100000
set_option maxHeartbeats 0
set_option linter.unusedVariables false
theorem fill1 {n : Nat} {z cs : List AVal} (hz : z.length = n) (hc : cs.length = n) : aFillA (fun i => some (i * n, n)) (repl z 1) [(0, .agg cs)] = some cs := by
 subst hc
 have hr : repl z 1 = z := by show z ++ [] = z; rw [List.append_nil]
 rw [hr]
 show (match some (0 * cs.length, cs.length) with | some (off, size) => cond (Nat.beq (AVal.agg cs).cells.length size) (match splice z off (AVal.agg cs).cells with | some cs => some cs | none => none) none | none => none) = some cs
 rw [cells_agg]
 simp only [Nat.zero_mul, splice_whole hz, Nat.beq_refl, cond_true]
theorem append136_ok {g : FuncId} {gf : Func} {first cap : List AVal} {L : List Ft} {A : AH → Prop} (hg : aFunc Tryz.prog g = some gf) (it : IterF Tryz.prog g first cap (L.map Ft.cells) A) (hft : ∀ f, f ∈ L → f.cells.length = 14) (hL : L.length ≤ 1000) {h : AH} (hA : ∀ h', Ext h h' → A h') :
  Runs Tryz.prog 136 [.nilslice, .func (.func g) first cap] h (fun en h' => ∃ s, en = .ret s ∧ Ext h h' ∧ Grow h' 87 14 h.next s L.length (L.flatMap Ft.cells)) := by
 have e0 : Ext h h := Ext.refl _
 refine Runs.intro aFunc136 rfl rfl rfl rfl fun rest => ?_;apply gS;refine gR rfl ?_;refine GoR.box rfl rfl rfl rfl rfl rfl fun h0 x0 f0 => ?_;have := e0.1;replace e0 := e0.trans x0;have := f0.1;refine gP ?_;apply gE;iterate 2 apply gS
 refine gR rfl ?_;refine gP ?_;apply gE;refine Go.block noJ_ok ?_
 have hb0 := f0.1
 have hx0 := e0.1
 obtain ⟨F0, hF0⟩ : ∃ F0 : Nat → Prop, F0 = fun b => b = h.next := ⟨_, rfl⟩
 have eF : ∀ {hh}, ExtF F0 h0 hh → Ext h hh := fun x => x.low e0 fun b q => by rw [hF0] at q; omega
 refine Go.rangeF (items := L.map Ft.cells) (A := A) F0 (fun j hh G => ∃ s, Has hh h.next (.cells .plain [s] 120) ∧ Grow hh 87 14 h0.next s j ((L.take j).flatMap Ft.cells) ∧ ∀ b, G b ↔ (b = h.next ∨ s = .gsl b 0 0 j)) (fun c hh G => False)
  rfl hg Tryz.func136 it (fun h' x => hA _ (eF x)) ⟨.nilslice, f0, Grow.nil _ _ _ _, fun b => by rw [hF0]; simp⟩ ?_ (fun _ _ _ _ q => q.elim) ?_ (fun _ _ _ _ q => q.elim) ?_ ?_ (fun _ _ _ _ _ _ _ _ _ q => q.elim)
 ·rintro k hh G b ⟨s, f, gr, hG⟩ q
  rcases (hG b).1 q with rfl | q
  ·exact f.1
  ·exact (grow_own gr q).2
 ·rintro k h1 h2 G ⟨s, f, gr, hG⟩ hn hk;refine ⟨s, f.keep hn (hk _ f.1 (.inr ((hG _).2 (.inl rfl)))), gr.keep hn (fun b b1 b2 q => hk b b2 (.inr ((hG b).2 (.inr q)))), hG⟩
 ·rintro j item hj;refine ⟨_, rfl, ?_⟩;rintro hh G lb r0 fr rest' Q' ⟨s, fs, gr, hG⟩ x1 hsub hnl hlb fl hready contT contF
  obtain ⟨x, hx, rfl⟩ : ∃ x, L[j]? = some x ∧ Ft.cells x = item := by
   rw [List.getElem?_map] at hj
   cases q : L[j]? with
   | none => rw [q] at hj; cases hj
   | some x => rw [q] at hj; exact ⟨x, rfl, Option.some.inj hj⟩
  have hxc := hft x (List.mem_of_getElem? hx)
  have hxs := ft_scal x
  have hjl := (List.getElem?_eq_some_iff.1 hj).1
  rw [List.length_map] at hjl
  have hnx := take_flat Ft.cells hx
  have hx1 := x1.1
  have hfb := fs.1
  have hfl := fl.1
  have hne : h.next ≠ lb := by omega
  have hgs := grow_scal gr
  have y9 : ExtF (fun b => G b ∨ b = lb) hh hh := ExtF.of (Ext.refl _)
  have e9 : Ext hh hh := Ext.refl _
  clear e0 f0;refine gR rfl ?_;refine GoR.alloc rfl rfl rfl zt87 rfl rfl fun h2 x2 f2 => ?_;have := e9.1;have := fs.1;have := fl.1;replace fs := fs.ext x2;replace fl := fl.ext x2;replace e9 := e9.trans x2;replace y9 := y9.ext x2;have := f2.1;refine GoR.store rfl rfl rfl rfl rfl rfl f2 rfl sz87 (beq_len hxc) hxs (splice_whole hxc.symm) fun h3 u3 => ?_;replace f2 := u3.has f2;replace fs := fs.upd u3 (by omega);replace fl := fl.upd u3 (by omega);replace e9 := e9.upd u3 (by omega);replace y9 := y9.upd u3 (.inr (by omega));apply gE;refine Go.beginRound fl hready fun h15 u15 => ?_;replace fs := fs.upd u15 hne;replace f2 := f2.upd u15 (by omega);replace fl := u15.has fl
  have z9 : ExtF (fun b => G b ∨ b = lb) hh h15 := y9.upd u15 (.inl (.inr rfl))
  have hz9 := z9.1
  have hn15 : h15.next = h3.next := u15.1
  have gr' : Grow h15 87 14 h0.next s j ((L.take j).flatMap Ft.cells) := gr.keep hz9 fun b b1 b2 q => by
   rw [u15.2.2 b (fun z => hnl (by subst z; exact (hG b).2 (.inr q))), e9.2 b b2]
  clear e9 y9
  have e9 : Ext h15 h15 := Ext.refl _
  refine Go.block noJ_ok ?_;refine gR rfl ?_;refine gO rfl rfl (ld120 rfl fs rfl) rfl ?_;refine gO rfl rfl (ld87 rfl f2 (slice_all hxc)) rfl ?_;refine GoR.buildSl rfl rfl (ps := [(0, .agg x.cells)]) (cs := x.cells) Tryz.underlying120 rfl sz87 zt87 rfl rfl (fill1 rfl hxc) rfl fun h16 x16 f16 => ?_;have := e9.1;have := fs.1;have := f2.1;have := fl.1;replace fs := fs.ext x16;replace fl := fl.ext x16;replace e9 := e9.trans x16;have := f16.1
  have G16 := gr'.ext e9
  have he9 := e9.1
  refine GoR.append1F rfl rfl rfl Tryz.underlying120 Tryz.underlying120 sz87 by87 zt87 rfl rfl rfl rfl f16 (beq_len hxc) hxs G16 (by omega) rfl rfl fun s17 h17 y17 g17 => ?_
  have hy17 := y17.1
  have z17 : ExtF (fun b => G b ∨ b = lb) hh h17 := (z9.ext e9).trans (fun b q => .inl (.inl ((hG b).2 (.inr q)))) y17
  replace fs := fs.extF y17 (fun q => by have := (grow_own G16 q).1; omega);replace fl := fl.extF y17 (fun q => hnl ((hG _).2 (.inr q)))
  have hs17 := grow_scal g17
  clear f16 f2 e9;refine GoR.store rfl rfl rfl rfl rfl rfl fs rfl sz120 (by rw [hs17.2]; rfl) (by rw [hs17.2]; exact hs17.1) (by rw [hs17.2]; rfl) fun h18 u18 => ?_;replace fs := u18.has fs;replace fl := fl.upd u18 (by omega);apply gE;refine Go.inBlock noJ_ok ?_;refine contT _ _ (fun b => b = h.next ∨ s17 = .gsl b 0 0 (j + 1)) ⟨s17, fs, ?_, fun b => Iff.rfl⟩ ?_ ?_ fl
  ·rw [hnx];refine (g17.low (by omega)).keep (by rw [u18.1]; exact Nat.le_refl _) fun b b1 b2 q => u18.2.2 b (fun z => ?_)
   have := (grow_own g17 q).1
   omega
  ·rintro b (q | q)
   ·exact .inl ((hG b).2 (.inl q))
   ·have := (grow_own g17 q).1
    exact .inr (by omega)
  ·exact z17.upd u18 (.inl (.inl ((hG _).2 (.inl rfl))))
 ·rintro d h3 G x3 hG hnd hd hdd ⟨s, fs, gr, hG'⟩;rw [List.length_map, List.take_length] at gr
  have e9 := eF x3
  have hx3 := x3.1
  clear e0 f0;refine Go.inBlock noJ_ok ?_;apply gS;refine gR rfl ?_;refine gO rfl rfl (ld120 rfl fs rfl) rfl ?_;refine gP ?_;apply gE;exact Go.retC hdd fun h9 u9 => ⟨aResult_of Tryz.func136 rfl rfl, _, rfl, e9.upd u9 (by omega), (gr.low (by omega)).keep (by rw [u9.1]; exact Nat.le_refl _) fun b b1 b2 q => u9.2.2 b (fun z => hnd (by subst z; exact (hG' _).2 (.inr (by rw [← List.length_map (f := Ft.cells)] at q; exact q))))⟩
theorem collect_ok {g : FuncId} {gf : Func} {first cap : List AVal} {L : List Ft} {A : AH → Prop} (hg : aFunc Tryz.prog g = some gf) (it : IterF Tryz.prog g first cap (L.map Ft.cells) A) (hft : ∀ f, f ∈ L → f.cells.length = 14) (hL : L.length ≤ 1000) {h : AH} (hA : ∀ h', Ext h h' → A h') :
  Runs Tryz.prog 98 [.func (.func g) first cap] h (fun en h' => ∃ s, en = .ret s ∧ Ext h h' ∧ Grow h' 87 14 h.next s L.length (L.flatMap Ft.cells)) := by
 have e0 : Ext h h := Ext.refl _
 refine Runs.intro aFunc98 rfl rfl rfl rfl fun rest => ?_;apply gS;refine gR rfl ?_;refine gP ?_;apply gE;apply gS;refine gR rfl ?_;refine gP ?_;refine GoR.call rfl rfl (aCF aFunc136 rfl) (append136_ok hg it hft hL hA) ?_ (by rintro _ _ ⟨s, q, _, _⟩; cases q);rintro v0 h0 ⟨s, q, x0, f0⟩;cases q;refine ⟨_, rfl, ?_⟩;replace e0 := e0.trans x0;refine gP ?_;apply gE;exact gV (ret_end (aResult_of Tryz.func98 rfl rfl) ⟨_, rfl, e0, (by assumption)⟩)
end Go.Proofs.YtkcimfopboelaaaGreat

namespace Go.Proofs.YtkcimfopboelaaaGreat
open Go Go.AbsE
set_option linter.unusedSimpArgs false
set_option maxRecDepth 100000
set_option maxHeartbeats 0
set_option linter.unusedVariables false
theorem haulC_len {w : List Int} (hw : w.length = 10) (n : Int) : (haulC w n).length = 11 := by simp [haulC, i64s, hw]
theorem haulC_scal (w : List Int) (n : Int) : scalars (haulC w n) = true := by
 have : haulC w n = i64s (w ++ [n]) := by simp [haulC, i64s]
 rw [this];exact scal_ints _
theorem haulC_ints (w : List Int) (n : Int) : haulC w n = i64s (w ++ [n]) := by simp [haulC, i64s]
theorem fates_ok {R : RoadV} {lo : Nat} {gp ge : AVal} {part : Int} {w : List Int} {n : Int} {h : AH} (A : GroundAt h R lo gp ge) :
  Runs Tryz.prog 99 [.agg [gp, ge], .int .i64 part, .agg (haulC w n)] h (fun en h' => ∃ bg bp bh, en = .ret (.func (.func 137) [] [.ptr bg 0, .ptr bp 0, .ptr bh 0]) ∧ Ext h h' ∧ FatesA R lo gp ge part w n bg bp bh h' ∧ h.next ≤ bg ∧ h.next ≤ bp ∧ h.next ≤ bh) := by
 have e0 : Ext h h := Ext.refl _
 refine Runs.intro aFunc99 rfl rfl rfl rfl fun rest => ?_;apply gS;refine gR rfl ?_;refine GoR.box rfl rfl rfl rfl rfl rfl fun h0 x0 f0 => ?_;have := e0.1;replace e0 := e0.trans x0;have := f0.1;refine GoR.box rfl rfl rfl rfl rfl rfl fun h1 x1 f1 => ?_;have := e0.1;have := f0.1;replace f0 := f0.ext x1;replace e0 := e0.trans x1;have := f1.1;refine GoR.box rfl rfl rfl rfl rfl rfl fun h2 x2 f2 => ?_;have := e0.1;have := f1.1;have := f0.1;replace f1 := f1.ext x2;replace f0 := f0.ext x2;replace e0 := e0.trans x2;have := f2.1;refine gP ?_;apply gE;apply gS;refine gR rfl ?_;iterate 2 refine gP ?_
 apply gE;exact gV (ret_end (aResult_of Tryz.func99 rfl rfl) ⟨_, _, _, rfl, e0, ⟨f0, f1, f2, A.ext e0⟩, by omega, by omega, by omega⟩)
theorem fates_fit {R : RoadV} (O : R.Ok) {part : Int} {p : PV} {w : List Int} : ∀ f, f ∈ fatesV R.es part p w → f.cells.length = 14 := by
 intro f hf
 obtain ⟨x, _, hx⟩ := mem_fates.1 hf
 have := fate_len hx
 have := O.ne
 exact ft_len (by omega)
theorem pcs_len (p : PV) (hp : p.Ok) : p.pcs.length ≤ 27 := by
 rw [pcs_is]
 obtain ⟨o1, o2, o3, o4⟩ := hp
 have h1 : ∀ a n, (pcB p a n).length = n * (p.rh - p.rl + 1).toNat := by
  intro a n
  induction n with
  | zero => simp [pcB]
  | succ n ih => rw [pcB_succ, ih, Nat.succ_mul]
 have h2 : ∀ n, (pcA p n).length = n * ((p.sh - p.sl + 1).toNat * (p.rh - p.rl + 1).toNat) := by
  intro n
  induction n with
  | zero => simp [pcA]
  | succ n ih => rw [pcA_succ, ih, h1, Nat.succ_mul]
 rw [h2]
 have a1 : (p.hh - p.hl + 1).toNat ≤ 3 := by omega
 have a2 : (p.sh - p.sl + 1).toNat ≤ 3 := by omega
 have a3 : (p.rh - p.rl + 1).toNat ≤ 3 := by omega
 calc (p.hh - p.hl + 1).toNat * ((p.sh - p.sl + 1).toNat * (p.rh - p.rl + 1).toNat) ≤ 3 * (3 * 3) := Nat.mul_le_mul a1 (Nat.mul_le_mul a2 a3)
  _ = 27 := rfl
theorem fates_few {R : RoadV} {part : Int} {p : PV} (hp : p.Ok) {w : List Int} : (fatesV R.es part p w).length ≤ 27 := by
 have h1 := List.length_filterMap_le (fun x => fateV R.es part x w) p.pcs
 have h2 := pcs_len p hp
 unfold fatesV
 omega
theorem can_ok {R : RoadV} (O : R.Ok) {lo : Nat} {gp ge : AVal} {part : Nat} {p : PV} (hp : R.ps[part]? = some p) {w : List Int} (hw : w.length = 10) (hl : LoadsOk R.es w) {n : Int} {h : AH} (A : GroundAt h R lo gp ge) :
  Runs Tryz.prog 146 [.agg [gp, ge], .int .i64 part, .agg (haulC w n)] h (fun en h' => en = .ret (.bool (!(fatesV R.es part p w).isEmpty)) ∧ Ext h h') := by
 have hhl := haulC_len hw n
 have e0 : Ext h h := Ext.refl _
 refine Runs.intro aFunc146 rfl rfl rfl rfl fun rest => ?_;apply gS;refine gR rfl ?_;refine GoR.box rfl rfl rfl rfl rfl rfl fun h0 x0 f0 => ?_;have := e0.1;replace e0 := e0.trans x0;have := f0.1;refine GoR.box rfl rfl rfl rfl rfl rfl fun h1 x1 f1 => ?_;have := e0.1;have := f0.1;replace f0 := f0.ext x1;replace e0 := e0.trans x1;have := f1.1;refine GoR.alloc rfl rfl rfl zt4 rfl rfl fun h2 x2 f2 => ?_;have := e0.1;have := f1.1;have := f0.1;replace f1 := f1.ext x2;replace f0 := f0.ext x2;replace e0 := e0.trans x2;have := f2.1;apply gE;iterate 2 apply gS
 refine gR rfl ?_;refine gO rfl rfl (ld77 rfl f0 rfl) rfl ?_;refine gP ?_;refine gO rfl rfl (ld126 rfl f1 (slice_all hhl)) rfl ?_;refine GoR.call rfl rfl (aCF aFunc99 rfl) (fates_ok (A.ext e0)) ?_ (by rintro _ _ ⟨bg, bp, bh, q, _, FA, l1, l2, l3⟩; cases q);rintro v3 h3 ⟨bg, bp, bh, q, x3, FA, l1, l2, l3⟩;cases q;refine ⟨_, rfl, ?_⟩;have := e0.1;replace f2 := f2.ext x3;replace f1 := f1.ext x3;replace f0 := f0.ext x3;replace e0 := e0.trans x3;apply gE;refine Go.block noJ_ok ?_
 have hb2 := f2.1
 have hx0 := e0.1
 have hf0 := f0.1
 have hf1 := f1.1
 refine Go.rangeF (items := (fatesV R.es part p w).map Ft.cells) (A := FatesA R lo gp ge part w n bg bp bh) (fun b => b = h1.next) (fun j hh G => j = 0 ∧ Has hh h1.next (.cells .plain [.bool false] 4) ∧ ∀ b, G b ↔ b = h1.next) (fun c hh G => c = .ret ∧ (fatesV R.es part p w).isEmpty = false ∧ Has hh h1.next (.cells .plain [.bool true] 4) ∧ ∀ b, G b ↔ b = h1.next)
  rfl aFunc137 Tryz.func146 (fates1_it O hp hw hl n bg bp bh) ?_ ⟨rfl, f2, fun b => Iff.rfl⟩ ?_ ?_ ?_ ?_ ?_ ?_ ?_
 ·intro h' x
  refine ⟨FA.g.extF x (by omega), FA.p.extF x (by omega), FA.w.extF x (by omega), ?_⟩;exact A.ext (x.low e0 fun b q => by omega)
 ·rintro k hh G b ⟨_, f, hG⟩ q
  rw [(hG b).1 q]
  exact f.1
 ·rintro c hh G b ⟨_, _, f, hG⟩ q
  rw [(hG b).1 q]
  exact f.1
 ·rintro k h4 h5 G ⟨q, f, hG⟩ hn hk;exact ⟨q, f.keep hn (hk _ f.1 (.inr ((hG _).2 rfl))), hG⟩
 ·rintro c h4 h5 G ⟨q, z, f, hG⟩ hn hk;exact ⟨q, z, f.keep hn (hk _ f.1 (.inr ((hG _).2 rfl))), hG⟩
 ·rintro j item hj;refine ⟨_, rfl, ?_⟩;rintro hh G lb r0 fr rest' Q' ⟨rfl, f2', hG⟩ x1 hsub hnl hlb fl hready contT contF
  have hjl := (List.getElem?_eq_some_iff.1 hj).1
  rw [List.length_map] at hjl
  have hne : (fatesV R.es part p w).isEmpty = false := by
   cases q : fatesV R.es part p w with
   | nil => rw [q] at hjl; simp at hjl
   | cons a b => rfl
  have hx1 := x1.1
  have hfl := fl.1
  have hlne : h1.next ≠ lb := by omega
  have y9 : ExtF (fun b => G b ∨ b = lb) hh hh := ExtF.of (Ext.refl _)
  clear e0 f0 f1 f2;refine gD ?_;refine Go.beginRound fl hready fun h15 u15 => ?_;replace f2' := f2'.upd u15 hlne;replace fl := u15.has fl;replace y9 := y9.upd u15 (.inl (.inr rfl));refine Go.block noJ_ok ?_;apply gS;refine gR rfl ?_;refine GoR.store rfl rfl rfl rfl rfl rfl f2' rfl sz4 rfl rfl rfl fun h16 u16 => ?_;replace f2' := u16.has f2';replace fl := fl.upd u16 (by omega);apply gE;exact contF _ _ _ _ G (.inl rfl) ⟨rfl, hne, f2', hG⟩ (fun b q => .inl q) (y9.upd u16 (.inl (.inl ((hG _).2 rfl)))) fl
 ·rintro d h30 G x30 hG hnd hd hdd ⟨hz, f, _⟩;rw [List.length_map] at hz
  have hnil : fatesV R.es part p w = [] := List.length_eq_zero_iff.1 hz
  rw [hnil]
  have e9 := x30.low e0 fun b q => by omega
  have hx30 := x30.1
  clear e0 f0 f1 f2;refine Go.inBlock noJ_ok ?_;apply gS;refine gR rfl ?_;refine GoR.store rfl rfl rfl rfl rfl rfl f rfl sz4 rfl rfl rfl fun h31 u31 => ?_;replace hdd := hdd.upd u31 (by omega);replace f := u31.has f;replace e9 := e9.upd u31 (by omega);apply gE;refine Go.retC hdd fun h9 u9 => ⟨aResult_of Tryz.func146 rfl (aResults_cell rfl (f.upd u9 (by omega)) (inCells_one ag4 rfl)), rfl, e9.upd u9 (by omega)⟩
 ·rintro c d h30 G x30 hG hnd hd hdd ⟨rfl, hz, f, hG'⟩
  have e9 := x30.low e0 fun b q => by omega
  have hx30 := x30.1
  have : d ≠ h1.next := fun z => hnd (by rw [z]; exact (hG' _).2 rfl)
  rw [hz];refine Go.retC hdd fun h9 u9 => ⟨aResult_of Tryz.func146 rfl (aResults_cell rfl (f.upd u9 (fun z => this z.symm)) (inCells_one ag4 rfl)), rfl, e9.upd u9 (by omega)⟩
end Go.Proofs.YtkcimfopboelaaaGreat

namespace Go.Proofs.YtkcimfopboelaaaGreat
open Go Go.AbsE
set_option linter.unusedSimpArgs false
set_option maxRecDepth 100000
set_option maxHeartbeats 0
set_option linter.unusedVariables false
theorem padZ_len {l : List Int} (h : l.length ≤ 10) : (padZ l).length = 10 := by unfold padZ; rw [List.length_append, List.length_replicate]; omega
theorem padZ_put {pre : List Int} (h : pre.length < 10) (v : Int) : (padZ pre).set pre.length v = padZ (pre ++ [v]) := by
 unfold padZ
 rw [List.set_append_right _ _ (Nat.le_refl _), Nat.sub_self, List.append_assoc, show 10 - pre.length = (10 - (pre ++ [v]).length) + 1 by simp; omega, List.replicate_succ]
 simp
theorem with_ok {pre : List Int} (hp : pre.length < 10) {v : Int} {h : AH} : Runs Tryz.prog 135 [.agg (haulC (padZ pre) pre.length), .int .i64 v] h (fun en h' => en = .ret (.agg (haulC (padZ (pre ++ [v])) ((pre ++ [v]).length : Nat))) ∧ Ext h h') := by
 have hl := padZ_len (l := pre) (by omega)
 have hl2 := padZ_len (l := pre ++ [v]) (by simp; omega)
 have ka := haulC_len hl (pre.length : Int)
 have hln : (haulC (padZ pre) (pre.length : Int))[10]? = some (.int .i64 (pre.length : Nat)) := by
  rw [haulC_ints]
  unfold i64s
  rw [List.getElem?_map, List.getElem?_append_right (by omega), hl]
  rfl
 have hs1 : splice (haulC (padZ pre) (pre.length : Int)) (0 + 0 + pre.length * 1) (AVal.int .i64 v).cells = some (haulC (padZ (pre ++ [v])) (pre.length : Int)) := by
  show splice _ _ [_] = _
  rw [splice_at (by rw [ka]; omega)]
  congr 1
  rw [haulC_ints, haulC_ints, ← padZ_put hp]
  unfold i64s
  rw [show 0 + 0 + pre.length * 1 = pre.length by omega, ← List.map_set, List.set_append_left _ _ (by omega)]
 have hln2 : (haulC (padZ (pre ++ [v])) (pre.length : Int))[10]? = some (.int .i64 (pre.length : Nat)) := by
  rw [haulC_ints]
  unfold i64s
  rw [List.getElem?_map, List.getElem?_append_right (by omega), hl2]
  rfl
 have kb := haulC_len hl2 (pre.length : Int)
 have hs2 : splice (haulC (padZ (pre ++ [v])) (pre.length : Int)) (0 + 10) (AVal.int .i64 ((pre.length : Int) + 1)).cells = some (haulC (padZ (pre ++ [v])) ((pre ++ [v]).length : Nat)) := by
  show splice _ _ [_] = _
  rw [splice_at (by rw [kb]; omega)]
  congr 1
  rw [haulC_ints, haulC_ints]
  unfold i64s
  rw [← List.map_set, List.set_append_right _ _ (by omega), hl2]
  simp
 have kc := haulC_len hl2 (((pre ++ [v]).length : Nat) : Int)
 have hsc := haulC_scal (padZ (pre ++ [v])) (((pre ++ [v]).length : Nat) : Int)
 have e0 : Ext h h := Ext.refl _
 refine Runs.intro aFunc135 rfl rfl rfl rfl fun rest => ?_;apply gS;refine gR rfl ?_;refine GoR.box rfl rfl rfl rfl rfl rfl fun h0 x0 f0 => ?_;have := e0.1;replace e0 := e0.trans x0;have := f0.1;refine GoR.alloc rfl rfl rfl zt126 rfl rfl fun h1 x1 f1 => ?_;have := e0.1;have := f0.1;replace f0 := f0.ext x1;replace e0 := e0.trans x1;have := f1.1;apply gE;apply gS;refine gR rfl ?_;refine gO rfl rfl (fa126_1 rfl) rfl ?_;refine gO rfl rfl (ld3 rfl f0 hln) rfl ?_;refine gP ?_;refine gO rfl rfl (fa126_0 rfl) rfl ?_;refine gO rfl rfl (aOp_indexAddrArr (i := pre.length) Tryz.underlying85 sz3 rfl rfl (Nat.ble_eq_true_of_le (by omega))) rfl ?_;refine GoR.store rfl rfl rfl rfl rfl rfl f0 rfl sz3 rfl rfl hs1 fun h2 u2 => ?_;replace f1 := f1.upd u2 (by omega);replace f0 := u2.has f0;replace e0 := e0.upd u2 (by omega);apply gE;apply gS;refine gR rfl ?_;refine gO rfl rfl (fa126_1 rfl) rfl ?_;refine gO rfl rfl (ld3 rfl f0 hln2) rfl ?_;refine gO rfl rfl (aA rfl rfl) rfl ?_;refine gO rfl rfl (fa126_1 rfl) rfl ?_;refine GoR.store rfl rfl rfl rfl rfl rfl f0 rfl sz3 rfl rfl hs2 fun h3 u3 => ?_;replace f1 := f1.upd u3 (by omega);replace f0 := u3.has f0;replace e0 := e0.upd u3 (by omega);apply gE;apply gS;refine gR rfl ?_;refine gO rfl rfl (ld126 rfl f0 (slice_all kc)) rfl ?_;refine GoR.store rfl rfl rfl rfl rfl rfl f1 rfl sz126 (beq_len kc) hsc (splice_whole kc.symm) fun h4 u4 => ?_;replace f1 := u4.has f1;replace e0 := e0.upd u4 (by omega);apply gE;exact gV (ret_end (aResult_of Tryz.func135 rfl (aResults_c rfl f1 (inCells_agg ag126 sz126 (slice_all kc)) rfl)) ⟨rfl, e0⟩)
def haulI (pre : List Int) (es : List EV) : List (List AVal) := (haulsV es).map fun l => haulC (padZ (pre ++ l)) ((pre ++ l).length : Nat)
theorem haulI_cons (pre : List Int) (e : EV) (es : List EV) : haulI pre (e :: es) = (List.range (e.hi - e.lo + 1).toNat).flatMap fun k : Nat => haulI (pre ++ [e.lo + k]) es := by
 unfold haulI
 rw [haulsV, List.map_flatMap]
 unfold upto
 rw [List.flatMap_map]
 congr 1
 funext k
 rw [List.map_map];apply List.map_congr_left
 intro l _
 simp
theorem flat_at {α : Type} {f : Nat → List α} {c : Nat} (hc : ∀ k, (f k).length = c) : ∀ (W : Nat), ((List.range W).flatMap f).length = W * c ∧ ∀ {k n : Nat} {v : α}, k < W → (f k)[n]? = some v → ((List.range W).flatMap f)[k * c + n]? = some v
 | 0 => ⟨by simp, fun h => by omega⟩
 | W + 1 => by
  obtain ⟨h1, h2⟩ := flat_at hc W
  rw [List.range_succ, List.flatMap_append];refine ⟨by rw [List.length_append, h1]; simp [hc, Nat.succ_mul], fun {k n v} hk hv => ?_⟩
  have hn : n < c := by
   have := (List.getElem?_eq_some_iff.1 hv).1
   rw [hc] at this;exact this
  by_cases hkW : k < W
  ·have hlt : k * c + n < W * c := by
    have := Nat.mul_le_mul_right c (show k + 1 ≤ W by omega)
    rw [Nat.succ_mul] at this
    omega
   rw [List.getElem?_append_left (by omega)];exact h2 hkW hv
  ·have : k = W := by omega
   subst this;rw [List.getElem?_append_right (by omega), h1, Nat.add_sub_cancel_left]
   simpa using hv
structure CarryA (R : RoadV) (lo : Nat) (gp ge : AVal) (bf bk bu : Nat) (y : AVal) (h : AH) : Prop where
 f : Has h bf (.cells .plain [gp, ge] 77)
 y : Has h bk (.cells .plain [y] 167)
 u : Has h bu (.cells .plain [.func (.func 134) [] [.ptr bf 0, .ptr bk 0, .ptr bu 0]] 167)
 A : GroundAt h R lo gp ge
theorem carry_ok {R : RoadV} (O : R.Ok) (lo : Nat) (gp ge : AVal) (bf bk bu : Nat) (y : AVal) (base : Nat) : ∀ (es : List EV) (pre : List Int) (J E : Nat → AH → (Nat → Prop) → Prop) (h : AH) (F : Nat → Prop),
  R.es.drop pre.length = es → pre.length ≤ R.es.length → (∀ h', ExtF F h h' → CarryA R lo gp ge bf bk bu y h') → base ≤ h.next → Takes Tryz.prog base y (haulI pre es) J E → J 0 h F →
  Runs Tryz.prog 134 [.agg (haulC (padZ pre) pre.length), .ptr bf 0, .ptr bk 0, .ptr bu 0] h (fun en h' => ExtF F h h' ∧ ∃ F', (∀ b, F' b → F b ∨ h.next ≤ b) ∧ ((en = .ret (.bool true) ∧ J (haulI pre es).length h' F') ∨ (en = .ret (.bool false) ∧ ∃ k, k < (haulI pre es).length ∧ E k h' F')))
 | [], pre, J, E, h, F, hd, hle, hA, hb, T, j0 => by
  have hpl : pre.length = R.es.length := by
   have := congrArg List.length hd
   simp at this
   omega
  have hne := O.ne
  obtain ⟨f0, f1, f2, ga⟩ := hA h (ExtF.of (Ext.refl _))
  have hlen := ga.esl.len
  rw [List.length_map] at hlen
  have e0 : Ext h h := Ext.refl _
  have hl := padZ_len (l := pre) (by omega)
  have ka := haulC_len hl (pre.length : Int)
  have hln : (haulC (padZ pre) (pre.length : Int))[10]? = some (.int .i64 (pre.length : Nat)) := by
   rw [haulC_ints]
   unfold i64s
   rw [List.getElem?_map, List.getElem?_append_right (by omega), hl]
   rfl
  have kd : (haulI pre []).length = 1 := by simp [haulI, haulsV]
  have hit : (haulI pre [])[0]? = some (haulC (padZ pre) (pre.length : Nat)) := by simp [haulI, haulsV]
  refine Runs.intro aFunc134 rfl rfl rfl rfl fun rest => ?_;apply gS;refine gR rfl ?_;refine GoR.box rfl rfl rfl rfl rfl rfl fun h3 x3 f3 => ?_;have := e0.1;have := f0.1;have := f1.1;have := f2.1;replace f0 := f0.ext x3;replace f1 := f1.ext x3;replace f2 := f2.ext x3;replace e0 := e0.trans x3;have := f3.1;refine gP ?_;apply gE;iterate 2 apply gS
  refine gR rfl ?_;refine gO rfl rfl (fa126_1 rfl) rfl ?_;refine gO rfl rfl (ld3 rfl f3 hln) rfl ?_;refine gO rfl rfl (fa77_1 rfl) rfl ?_;refine gO rfl rfl (ld75 rfl f0 rfl) rfl ?_;refine gO rfl rfl (aOp_lenSlice Tryz.underlying75 rfl (by assumption)) rfl ?_;refine gO rfl rfl (kET rfl rfl) rfl ?_;apply gE;refine gC (b := true) rfl ?_;apply gS;refine gR rfl ?_;refine gO rfl rfl (ld167 rfl f1 rfl) rfl ?_;refine gO rfl rfl (ld126 rfl f3 (slice_all ka)) rfl ?_
  obtain ⟨ax, a1, a2, a3⟩ := T.take hit (T.ext j0 e0)
  have hx3 := e0.1
  refine GoR.does rfl rfl (aOp_callY rfl rfl a1) a2 a3 ?_ (by rintro _ _ ⟨_, _, _, ⟨q, _⟩ | ⟨q, _⟩⟩ <;> cases q);rintro v h8 ⟨x8, F', hF', ⟨q, j8⟩ | ⟨q, e8⟩⟩
  ·cases q;refine ⟨_, rfl, ?_⟩;refine gP ?_;apply gE;exact gV (ret_end (aResult_of Tryz.func134 rfl rfl) ⟨(ExtF.of e0).trans (fun _ q => .inl q) x8, F', fun b q => (hF' b q).elim .inl fun q => .inr (by omega), .inl ⟨rfl, by rw [kd]; exact j8⟩⟩)
  ·cases q;refine ⟨_, rfl, ?_⟩;refine gP ?_;apply gE;exact gV (ret_end (aResult_of Tryz.func134 rfl rfl) ⟨(ExtF.of e0).trans (fun _ q => .inl q) x8, F', fun b q => (hF' b q).elim .inl fun q => .inr (by omega), .inr ⟨rfl, 0, by rw [kd]; omega, e8⟩⟩)
 | e :: es, pre, J, E, h, F, hd, hle, hA, hb, T, j0 => by
  have hget : R.es[pre.length]? = some e := by
   have := congrArg (fun l => l[0]?) hd
   simpa [List.getElem?_drop] using this
  have hlt := (List.getElem?_eq_some_iff.1 hget).1
  have hne := O.ne
  have heO := O.e e (List.mem_of_getElem? hget)
  have hdrop : R.es.drop (pre.length + 1) = es := by
   have := congrArg (List.drop 1) hd
   simpa [List.drop_drop] using this
  obtain ⟨f0, f1, f2, ga⟩ := hA h (ExtF.of (Ext.refl _))
  have hlen := ga.esl.len
  rw [List.length_map] at hlen
  have e0 : Ext h h := Ext.refl _
  have hSl : ∀ b, F b → b < h.next := fun b q => T.ltJ j0 q
  have hl := padZ_len (l := pre) (by omega)
  have ka := haulC_len hl (pre.length : Int)
  have hln : (haulC (padZ pre) (pre.length : Int))[10]? = some (.int .i64 (pre.length : Nat)) := by
   rw [haulC_ints]
   unfold i64s
   rw [List.getElem?_map, List.getElem?_append_right (by omega), hl]
   rfl
  obtain ⟨W, hW⟩ : ∃ W, (e.hi - e.lo + 1).toNat = W := ⟨_, rfl⟩
  obtain ⟨c0, hc0⟩ : ∃ c0, (haulsV es).length = c0 := ⟨_, rfl⟩
  have hc : ∀ k : Nat, (haulI (pre ++ [e.lo + k]) es).length = c0 := fun k => by unfold haulI; rw [List.length_map]; exact hc0
  have hfl := flat_at hc W
  have hit : haulI pre (e :: es) = (List.range W).flatMap fun k : Nat => haulI (pre ++ [e.lo + k]) es := by rw [haulI_cons, hW]
  rw [hit] at T ⊢;rw [hfl.1]
  have hbf := f0.1
  have hbk := f1.1
  have hbu := f2.1
  obtain ⟨bq, off, q1, q2⟩ := ga.esl.at (i := pre.length) (l := [evC e]) (by rw [List.getElem?_map, hget]; rfl)
  rw [List.length_map] at q1
  have hlo : 0 ≤ e.lo ∧ e.hi ≤ 60 ∧ e.hi ≤ e.lo + 2 ∧ e.lo ≤ e.hi := by
   unfold EV.lo EV.hi
   split <;> rcases heO with q | q | q <;> omega
  have k1 := fun h => loads_at heO h
  obtain ⟨ev, hev⟩ : ∃ ev, evC e = ev := ⟨_, rfl⟩
  rw [hev] at k1 q2;refine Runs.intro aFunc134 rfl rfl rfl rfl fun rest => ?_;apply gS;refine gR rfl ?_;refine GoR.box rfl rfl rfl rfl rfl rfl fun h3 x3 f3 => ?_;have := e0.1;have := f0.1;have := f1.1;have := f2.1;replace f0 := f0.ext x3;replace f1 := f1.ext x3;replace f2 := f2.ext x3;replace e0 := e0.trans x3;have := f3.1;refine gP ?_;apply gE;iterate 2 apply gS
  refine gR rfl ?_;refine gO rfl rfl (fa126_1 rfl) rfl ?_;refine gO rfl rfl (ld3 rfl f3 hln) rfl ?_;refine gO rfl rfl (fa77_1 rfl) rfl ?_;refine gO rfl rfl (ld75 rfl f0 rfl) rfl ?_;refine gO rfl rfl (aOp_lenSlice Tryz.underlying75 rfl (by assumption)) rfl ?_;refine gO rfl rfl (kEF rfl rfl) rfl ?_;apply gE;refine gC (b := false) rfl ?_;refine gD ?_;apply gS;refine gR rfl ?_;refine gO rfl rfl (fa77_1 rfl) rfl ?_;refine gO rfl rfl (ld75 rfl f0 rfl) rfl ?_;refine gO rfl rfl (fa126_1 rfl) rfl ?_;refine gO rfl rfl (ld3 rfl f3 hln) rfl ?_;refine gO rfl rfl (aOp_indexAddr (i := pre.length) Tryz.underlying75 sz169 rfl (by assumption) rfl (Nat.ble_eq_true_of_le (by omega))) rfl ?_;refine gO rfl rfl ((aOp_loadE1 (k := 0) ag169 rfl (q2.ext e0) rfl)) rfl ?_
  obtain ⟨ff, fargs, k1, k2⟩ := k1 h3
  refine GoR.call rfl rfl (aOp_invoke rfl rfl (k1)) (k2) ?_ np;rintro _ h4 ⟨q, x4⟩;cases q;refine ⟨_, rfl, ?_⟩;replace f3 := f3.ext x4;replace f0 := f0.ext x4;replace f1 := f1.ext x4;replace f2 := f2.ext x4;replace e0 := e0.trans x4;refine GoR.alloc rfl rfl rfl zt29 rfl rfl fun h5 x5 f5 => ?_;have := e0.1;have := f3.1;have := f0.1;have := f1.1;have := f2.1;replace f3 := f3.ext x5;replace f0 := f0.ext x5;replace f1 := f1.ext x5;replace f2 := f2.ext x5;replace e0 := e0.trans x5;have := f5.1;refine GoR.store rfl rfl rfl rfl rfl rfl f5 rfl sz29 rfl rfl rfl fun h6 u6 => ?_;replace f5 := u6.has f5;replace f3 := f3.upd u6 (by omega);replace f0 := f0.upd u6 (by omega);replace f1 := f1.upd u6 (by omega);replace f2 := f2.upd u6 (by omega);replace e0 := e0.upd u6 (by omega);apply gE;iterate 2 apply gS
  refine gR rfl ?_;refine gO rfl rfl (fa29_0 rfl) rfl ?_;refine gO rfl rfl (ld3 rfl f5 rfl) rfl ?_;refine gP ?_;apply gE;refine Go.block noJ_ok ?_
  have hx4 := e0.1
  have hb3 := f3.1
  have hb5 := f5.1
  have hn4 : h.next < h4.next := by omega
  refine Go.loopKeep (fun a : Nat × (Nat → Prop) => [(1, .ptr bf 0), (2, .ptr bk 0), (3, .ptr bu 0), (4, .ptr h.next 0), (6, .ptr h4.next 0), (7, .int .i64 (e.lo + (a.1 : Nat)))])
   (fun m a h' => m + a.1 = W ∧ ExtF F h h' ∧ (∀ b, a.2 b → F b ∨ h.next ≤ b) ∧ ¬ a.2 h.next ∧ ¬ a.2 h4.next ∧ Has h' h.next (.cells .plain (haulC (padZ pre) pre.length) 126) ∧ Has h' h4.next (.cells .plain [.int .i64 e.lo, .int .i64 e.hi] 29) ∧ J (a.1 * c0) h' a.2) (n := W) (0, F)
   ⟨rfl, rfl, rfl, rfl, rfl, (by simp; rfl), trivial⟩ ⟨rfl, ExtF.of e0, fun b q => .inl q, fun q => by have := hSl _ q; omega, fun q => by have := hSl _ q; omega, f3, f5, (by rw [Nat.zero_mul]; exact T.ext j0 e0)⟩ ?_
  clear e0 f0 f1 f2 f3 f5 q2 ga;rintro m ⟨k, G⟩ h8 ⟨hm, y1, hG, hnG, hnG4, f3, f5, j8⟩ again
  dsimp only at hm hG hnG hnG4 j8 ⊢
  obtain ⟨f0, f1, f2, ga⟩ := hA h8 y1
  have e0 : Ext h8 h8 := Ext.refl _
  have hy1 := y1.1
  have hb3 := f3.1
  have hb5 := f5.1
  by_cases hk : k < W
  ·have hnf := fun (n : Nat) (v : List AVal) (hv : (haulI (pre ++ [e.lo + (k : Int)]) es)[n]? = some v) => hfl.2 hk hv
   have kb := haulC_len (padZ_len (l := pre ++ [e.lo + (k : Int)]) (by simp; omega)) (((pre ++ [e.lo + (k : Int)]).length : Nat) : Int)
   have ks : sameA (.agg (haulC (padZ pre) (pre.length : Int))) (.agg (haulC (padZ pre) (pre.length : Int))) = true := by rw [haulC_ints]; exact same_ints _
   have kt : sameA (.func (.func 134) [] [.ptr bf 0, .ptr bk 0, .ptr bu 0]) (.func (.func 134) [] [.ptr bf 0, .ptr bk 0, .ptr bu 0]) = true := by simp [sameA, sameAs, eqI_eq]
   iterate 2 apply gS
   refine gR rfl ?_;refine gP ?_;refine gO rfl rfl (fa29_1 rfl) rfl ?_;refine gO rfl rfl (ld3 rfl f5 rfl) rfl ?_;refine gO rfl rfl (kMT rfl rfl) rfl ?_;apply gE;refine gC (b := true) rfl ?_;refine gD ?_;apply gS;refine Go.block noJ_ok ?_;apply gS;refine Go.drawnE plan134_0 ?_;refine gQ rfl rfl (ld167 rfl f2 rfl) rfl ?_;refine gQ rfl rfl (ld126 rfl f3 (slice_all ka)) rfl ?_;refine gQ rfl rfl rfl rfl ?_;refine GoE.call rfl rfl (aCF aFunc135 rfl) (with_ok (by omega)) (dD 6 2 (dD 6 1 (dK 6 0 rfl))) ?_ np;rintro v9 h9 ⟨q, x9⟩;cases q;replace f3 := f3.ext x9;replace f5 := f5.ext x9;replace f2 := f2.ext x9;replace e0 := e0.trans x9;replace y1 := y1.ext x9;refine ⟨(rck (h2 := h9) rfl (ld167 rfl f2 rfl) recheck_nil), _, rfl, ?_⟩
   have hhx9 := e0.1
   have hshift := T.shift (sub := haulI (pre ++ [e.lo + (k : Int)]) es) (k * c0) hnf
   have ih := carry_ok O lo gp ge bf bk bu y base es (pre ++ [e.lo + (k : Int)]) (fun n => J (k * c0 + n)) (fun n => E (k * c0 + n)) h9 G (by rw [List.length_append, List.length_singleton]; exact hdrop) (by simp; omega)
    (fun h' x => hA h' (y1.trans hG x)) (by omega) hshift (T.ext j8 e0)
   rw [hc k] at ih;refine GoE.call rfl rfl (aOp_callVal rfl aFunc134 rfl) ih (dD 15 0 rfl) ?_ (by rintro _ _ ⟨_, _, _, ⟨q, _⟩ | ⟨q, _⟩⟩ <;> cases q);rintro v h11 ⟨x11, G', hG', ⟨q, j11⟩ | ⟨q, n, hn, e11⟩⟩
   ·cases q;refine ⟨recheck_nil, _, rfl, ?_⟩
    have hx11 := x11.1
    replace f3 := f3.extF x11 hnG;replace f5 := f5.extF x11 hnG4;clear f0 f1 f2 e0;refine gQ rfl rfl rfl rfl ?_;refine GoE.end rfl ?_;refine gC (b := false) rfl ?_;refine gD ?_;refine Go.inBlock noJ_ok ?_;refine gR rfl ?_;refine gP ?_;refine gO rfl rfl (aA rfl rfl) rfl ?_;refine gP ?_;apply gE;exact again (m - 1) (k + 1, G') _ _ (by omega) ⟨rfl, rfl, rfl, rfl, rfl, (by simp [Int.add_assoc]; rfl), trivial⟩ ⟨by dsimp only; omega, y1.trans hG x11, fun b q => (hG' b q).elim (hG b) fun q => .inr (by omega), fun q => (hG' _ q).elim hnG fun q => by omega, fun q => (hG' _ q).elim hnG4 fun q => by omega, f3, f5, by dsimp only; rw [Nat.succ_mul]; exact j11⟩
   ·cases q;refine ⟨recheck_nil, _, rfl, ?_⟩
    have hx11 := x11.1
    have hlt2 : k * c0 + n < W * c0 := by
     have := Nat.mul_le_mul_right c0 (show k + 1 ≤ W by omega)
     rw [Nat.succ_mul] at this
     omega
    clear f0 f1 f2 f3 f5 e0;refine gQ rfl rfl rfl rfl ?_;refine GoE.end rfl ?_;refine gC (b := true) rfl ?_;apply gS;refine gR rfl ?_;refine gP ?_;apply gE;exact gV (ret_end (aResult_of Tryz.func134 rfl rfl) ⟨y1.trans hG x11, G', fun b q => (hG' b q).elim (hG b) fun q => .inr (by omega), .inr ⟨rfl, _, hlt2, e11⟩⟩)
  ·have hkW : k = W := by omega
   subst hkW;clear e0;iterate 2 apply gS
   refine gR rfl ?_;refine gP ?_;refine gO rfl rfl (fa29_1 rfl) rfl ?_;refine gO rfl rfl (ld3 rfl f5 rfl) rfl ?_;refine gO rfl rfl (kMF rfl rfl) rfl ?_;apply gE;refine gC (b := false) rfl ?_;refine gD ?_;apply gS;refine gR rfl ?_;refine gP ?_;apply gE;exact gV (ret_end (aResult_of Tryz.func134 rfl rfl) ⟨y1, G, hG, .inl ⟨rfl, j8⟩⟩)
structure HaulsA (R : RoadV) (lo : Nat) (gp ge : AVal) (bf : Nat) (h : AH) : Prop where
 f : Has h bf (.cells .plain [gp, ge] 77)
 A : GroundAt h R lo gp ge
theorem hauls1_it {R : RoadV} (O : R.Ok) (lo : Nat) (gp ge : AVal) (bf : Nat) : IterF Tryz.prog 133 [] [.ptr bf 0] (haulI [] R.es) (HaulsA R lo gp ge bf) := by
 intro y base J E h F hyc hys hA hb T j0
 show Runs Tryz.prog 133 [y, .ptr bf 0] h _
 have e0 : Ext h h := Ext.refl _
 have hSl : ∀ b, F b → b < h.next := fun b q => T.ltJ j0 q
 obtain ⟨f0, ga⟩ := hA h (ExtF.of e0)
 have hbf := f0.1
 refine Runs.intro aFunc133 rfl rfl rfl rfl fun rest => ?_;apply gS;refine gR rfl ?_;refine GoR.box rfl rfl rfl rfl rfl rfl fun h1 x1 f1 => ?_;have := e0.1;have := f0.1;replace f0 := f0.ext x1;replace e0 := e0.trans x1;have := f1.1;apply gE;apply gS;refine gR rfl ?_;refine GoR.alloc rfl rfl rfl zt167 rfl rfl fun h2 x2 f2 => ?_;have := e0.1;have := f1.1;have := f0.1;replace f1 := f1.ext x2;replace e0 := e0.trans x2;have := f2.1;apply gE;apply gS;refine gR rfl ?_;refine gP ?_;refine GoR.store rfl rfl rfl rfl rfl rfl f2 rfl sz167 rfl rfl rfl fun h3 u3 => ?_;replace f2 := u3.has f2;replace f1 := f1.upd u3 (by omega);replace e0 := e0.upd u3 (by omega);apply gE;refine gR rfl ?_;refine gO rfl rfl (ld167 rfl f2 rfl) rfl ?_;refine gO rfl rfl (aOp_build (ps := []) (cs := haulC (padZ []) (([] : List Int).length : Nat)) zt126 hu126 pl126 rfl rfl) rfl ?_;rw [hyc] at f1
 have hb1 := f1.1
 have hb2 := f2.1
 have hx := e0.1
 have ih := carry_ok O lo gp ge bf h.next h1.next y base R.es [] J E h3 F rfl (by simp) (fun h' x => by
  have z := hA h' ((ExtF.of e0).trans (fun _ q => .inl q) x)
  exact ⟨z.f, f1.extF x (fun q => by have := hSl _ q; omega), f2.extF x (fun q => by have := hSl _ q; omega), z.A⟩) (by omega) T (T.ext j0 e0)
 refine GoR.call rfl rfl (aOp_callVal rfl aFunc134 rfl) ih ?_ (by rintro _ _ ⟨_, _, _, ⟨q, _⟩ | ⟨q, _⟩⟩ <;> cases q);rintro v h11 ⟨x11, G', hG', ⟨q, j11⟩ | ⟨q, n, hn, e11⟩⟩
 ·cases q;refine ⟨_, rfl, ?_⟩;apply gE;exact Go.endL (FLeft.ret (v := .tuple []) (aResult_of Tryz.func133 rfl rfl) ⟨rfl, (ExtF.of e0).trans (fun _ q => .inl q) x11, G', fun b q => (hG' b q).elim .inl fun q => .inr (by omega), .inl j11⟩)
 ·cases q;refine ⟨_, rfl, ?_⟩;apply gE;exact Go.endL (FLeft.ret (v := .tuple []) (aResult_of Tryz.func133 rfl rfl) ⟨rfl, (ExtF.of e0).trans (fun _ q => .inl q) x11, G', fun b q => (hG' b q).elim .inl fun q => .inr (by omega), .inr ⟨n, hn, e11⟩⟩)
theorem hauls_ok {R : RoadV} {lo : Nat} {gp ge : AVal} {h : AH} (A : GroundAt h R lo gp ge) : Runs Tryz.prog 97 [.agg [gp, ge]] h (fun en h' => ∃ bf, en = .ret (.func (.func 133) [] [.ptr bf 0]) ∧ Ext h h' ∧ HaulsA R lo gp ge bf h' ∧ h.next ≤ bf) := by
 have e0 : Ext h h := Ext.refl _
 refine Runs.intro aFunc97 rfl rfl rfl rfl fun rest => ?_;apply gS;refine gR rfl ?_;refine GoR.box rfl rfl rfl rfl rfl rfl fun h0 x0 f0 => ?_;have := e0.1;replace e0 := e0.trans x0;have := f0.1;refine gP ?_;apply gE;apply gS;refine gR rfl ?_;iterate 2 refine gP ?_
 apply gE;exact gV (ret_end (aResult_of Tryz.func97 rfl rfl) ⟨_, rfl, e0, ⟨f0, A.ext e0⟩, by omega⟩)
end Go.Proofs.YtkcimfopboelaaaGreat

namespace Go.Proofs.YtkcimfopboelaaaGreat
open Go Go.AbsE
set_option linter.unusedSimpArgs false
set_option maxRecDepth 100000
set_option maxHeartbeats 0
set_option linter.unusedVariables false
theorem zip_pad {es : List EV} {l : List Int} (h : l.length = es.length) : es.zip (padZ l) = es.zip l := by
 unfold padZ
 have : es.zip (l ++ List.replicate (10 - l.length) 0) = (es ++ []).zip (l ++ List.replicate (10 - l.length) 0) := by rw [List.append_nil]
 rw [this, List.zip_append h.symm]
 simp
theorem fates_pad {es : List EV} {l : List Int} (h : l.length = es.length) (i : Int) (p : PV) : fatesV es i p (padZ l) = fatesV es i p l := by
 unfold fatesV fateV
 rw [zip_pad h]
theorem loads_pad {R : RoadV} (O : R.Ok) {l : List Int} (h : l ∈ haulsV R.es) : LoadsOk R.es (padZ l) := by
 obtain ⟨h1, h2⟩ := mem_hauls.1 h
 intro i e k he hk
 have hlt := (List.getElem?_eq_some_iff.1 he).1
 unfold padZ at hk
 rw [List.getElem?_append_left (by omega)] at hk;exact h2 i e k he hk
theorem haul_at {es : List EV} {j : Nat} {item : List AVal} (h : (haulI [] es)[j]? = some item) : ∃ l, (haulsV es)[j]? = some l ∧ haulC (padZ l) (l.length : Nat) = item := by
 unfold haulI at h
 rw [List.getElem?_map] at h
 cases q : (haulsV es)[j]? with
 | none => rw [q] at h; cases h
 | some l => rw [q] at h; exact ⟨l, rfl, Option.some.inj h⟩
theorem can_take {R : RoadV} {l : List Int} {i : Nat} : (∀ k p, k < i → R.ps[k]? = some p → (fatesV R.es k p l).isEmpty = false) → i = R.ps.length → R.can l = true := by
 intro h hi
 refine can_iff.2 fun k p hp => ?_
 have := h k p (by rw [hi]; exact (List.getElem?_eq_some_iff.1 hp).1) hp
 cases q : fatesV R.es k p l with
 | nil => rw [q] at this; cases this
 | cons f r => exact ⟨f, List.mem_cons_self⟩
theorem can_not {R : RoadV} {l : List Int} {i : Nat} {p : PV} (hp : R.ps[i]? = some p) (h : (fatesV R.es i p l).isEmpty = true) : R.can l = false := by
 cases q : R.can l with
 | false => rfl
 | true =>
  obtain ⟨f, hf⟩ := can_iff.1 q i p hp
  cases q2 : fatesV R.es i p l with
  | nil => rw [q2] at hf; simp at hf
  | cons a b => rw [q2] at h; cases h
theorem possible_iff {R : RoadV} : R.possible = (haulsV R.es).any R.can := by
 unfold RoadV.possible RoadV.hs
 induction haulsV R.es with
 | nil => rfl
 | cons a l ih =>
  rw [List.filter_cons, List.any_cons]
  cases q : R.can a with
  | true => rfl
  | false => simpa using ih
theorem possible_ok {R : RoadV} (O : R.Ok) {lo : Nat} {gp ge : AVal} {h : AH} (A : GroundAt h R lo gp ge) : Runs Tryz.prog 120 [.agg [gp, ge]] h (fun en h' => en = .ret (.bool R.possible) ∧ Ext h h') := by
 have hnp := O.np
 have hne := O.ne
 have hlenP := A.psl.len
 rw [List.length_map] at hlenP
 have e0 : Ext h h := Ext.refl _
 refine Runs.intro aFunc120 rfl rfl rfl rfl fun rest => ?_;apply gS;refine gR rfl ?_;refine GoR.box rfl rfl rfl rfl rfl rfl fun h0 x0 f0 => ?_;have := e0.1;replace e0 := e0.trans x0;have := f0.1;refine gP ?_;apply gE;refine Go.scope noJ_ok ?_;apply gS;refine gR rfl ?_;refine GoR.alloc rfl rfl rfl zt4 rfl rfl fun h1 x1 f1 => ?_;have := e0.1;have := f0.1;replace f0 := f0.ext x1;replace e0 := e0.trans x1;have := f1.1;refine GoR.store rfl rfl rfl rfl rfl rfl f1 rfl sz4 rfl rfl rfl fun h2 u2 => ?_;replace f1 := u2.has f1;replace f0 := f0.upd u2 (by omega);replace e0 := e0.upd u2 (by omega);apply gE;apply gS;refine Go.label noJ_ok ?_;iterate 2 apply gS
 refine gR rfl ?_;refine gO rfl rfl (ld77 rfl f0 rfl) rfl ?_;refine GoR.call rfl rfl (aCF aFunc97 rfl) (hauls_ok (A.ext e0)) ?_ (by rintro _ _ ⟨bf, q, _, HA, l1⟩; cases q);rintro v3 h3 ⟨bf, q, x3, HA, l1⟩;cases q;refine ⟨_, rfl, ?_⟩;have := e0.1;replace f1 := f1.ext x3;replace f0 := f0.ext x3;replace e0 := e0.trans x3;apply gE;refine Go.block noJ_ok ?_
 have hb0 := f0.1
 have hb1 := f1.1
 have hx0 := e0.1
 have hn1 : h.next < h0.next := by omega
 have hu2 := u2.1
 have eF : ∀ {hh}, ExtF (fun b => b = h0.next) h3 hh → Ext h hh := fun x => x.low e0 fun b q => by omega
 have g0 := f0
 refine Go.rangeF (items := haulI [] R.es) (A := HaulsA R lo gp ge bf) (fun b => b = h0.next) (fun j hh G => ((haulsV R.es).take j).any R.can = false ∧ Has hh h0.next (.cells .plain [.bool false] 4) ∧ ∀ b, G b ↔ b = h0.next) (fun c hh G => c = .exit 0 ∧ R.possible = true ∧ Has hh h0.next (.cells .plain [.bool true] 4) ∧ ∀ b, G b ↔ b = h0.next)
  rfl aFunc133 Tryz.func120 (hauls1_it O lo gp ge bf) ?_ ⟨rfl, f1, fun b => Iff.rfl⟩ ?_ ?_ ?_ ?_ ?_ ?_ ?_
 ·intro h' x
  exact ⟨HA.f.extF x (by omega), A.ext (eF x)⟩
 ·rintro k hh G b ⟨_, f, hG⟩ q
  rw [(hG b).1 q]
  exact f.1
 ·rintro c hh G b ⟨_, _, f, hG⟩ q
  rw [(hG b).1 q]
  exact f.1
 ·rintro k h4 h5 G ⟨q, f, hG⟩ hn hk;exact ⟨q, f.keep hn (hk _ f.1 (.inr ((hG _).2 rfl))), hG⟩
 ·rintro c h4 h5 G ⟨q, z, f, hG⟩ hn hk;exact ⟨q, z, f.keep hn (hk _ f.1 (.inr ((hG _).2 rfl))), hG⟩
 ·rintro j item hj;refine ⟨_, rfl, ?_⟩;rintro hh G lb r0 fr rest' Q' ⟨hno, f2, hG⟩ x1 hsub hnl hlb fl hready contT contF
  obtain ⟨l, hl, rfl⟩ := haul_at hj
  have hlm := List.mem_of_getElem? hl
  have hll := hauls_len hlm
  have hw := padZ_len (l := l) (by omega)
  have ka := haulC_len hw (l.length : Int)
  have kb := haulC_scal (padZ l) (l.length : Int)
  have hnx : ((haulsV R.es).take (j + 1)).any R.can = R.can l := by
   rw [List.take_add_one, hl, Option.toList_some, List.any_append, hno]
   simp
  have hx1 := x1.1
  have hfl := fl.1
  replace f0 := f0.extF x1 (by omega)
  have GA := A.ext (eF x1)
  have y9 : ExtF (fun b => G b ∨ b = lb) hh hh := ExtF.of (Ext.refl _)
  have e9 : Ext hh hh := Ext.refl _
  clear e0 f1;refine gR rfl ?_;refine GoR.alloc rfl rfl rfl zt126 rfl rfl fun h4 x4 f4 => ?_;have := e9.1;have := f2.1;have := fl.1;have := f0.1;replace f2 := f2.ext x4;replace fl := fl.ext x4;replace f0 := f0.ext x4;replace y9 := y9.ext x4;have := f4.1;refine GoR.store rfl rfl rfl rfl rfl rfl f4 rfl sz126 (beq_len ka) kb (splice_whole ka.symm) fun h5 u5 => ?_;replace f4 := u5.has f4;replace f2 := f2.upd u5 (by omega);replace fl := fl.upd u5 (by omega);replace f0 := f0.upd u5 (by omega);replace y9 := y9.upd u5 (.inr (by omega));apply gE;refine Go.beginRound fl hready fun h15 u15 => ?_;replace f0 := f0.upd u15 (by omega);replace f2 := f2.upd u15 (by omega);replace f4 := f4.upd u15 (by omega);replace fl := u15.has fl;replace y9 := y9.upd u15 (.inl (.inr rfl))
  have hy9 := y9.1
  have GB : GroundAt h15 R lo gp ge := A.ext (eF (x1.trans (fun b q => by rcases q with q | q; exact .inl ((hG b).1 q); exact .inr (by omega)) y9))
  clear e9
  have e0 : Ext h15 h15 := Ext.refl _
  refine Go.block noJ_ok ?_;iterate 2 apply gS
  refine gR rfl ?_;refine gO rfl rfl (fa77_0 rfl) rfl ?_;refine gO rfl rfl (ld74 rfl f0 rfl) rfl ?_;refine gO rfl rfl (aOp_lenSlice Tryz.underlying74 rfl (by assumption)) rfl ?_;refine gP ?_;apply gE;refine Go.block noJ_ok ?_
  have hb4 := f4.1
  have hb2 := f2.1
  have hbl := fl.1
  have hb0' := f0.1
  refine Go.loopKeep (fun i : Nat => [(1, .ptr h.next 0), (3, .ptr h0.next 0), (4, .ptr hh.next 0), (11, .int .i64 R.ps.length), (12, .int .i64 (i : Nat))])
   (fun m i h' => m + i = R.ps.length ∧ (∀ k p, k < i → R.ps[k]? = some p → (fatesV R.es k p l).isEmpty = false) ∧ Ext h15 h' ∧ Has h' h.next (.cells .plain [gp, ge] 77) ∧ Has h' h0.next (.cells .plain [.bool false] 4) ∧ Has h' hh.next (.cells .plain (haulC (padZ l) l.length) 126) ∧ Has h' lb (.loop { r0 with state := .busy }))
   (n := R.ps.length) 0 ⟨rfl, rfl, rfl, rfl, rfl, trivial⟩ ⟨rfl, fun k p q => by omega, e0, f0, f2, f4, fl⟩ ?_
  clear e0 f0 f2 f4 fl;rintro m i hc ⟨hm, hk, e0, f0, f2, f4, fl⟩ again
  have hce := e0.1
  by_cases hi : i < R.ps.length
  ·obtain ⟨p, hp⟩ : ∃ p, R.ps[i]? = some p := ⟨R.ps[i], by simp [hi]⟩
   have hcan := fun h A => can_ok O (lo := lo) (gp := gp) (ge := ge) hp hw (loads_pad O hlm) (n := (l.length : Int)) (h := h) A
   rw [fates_pad hll] at hcan
   cases hem : (fatesV R.es i p l).isEmpty with
   | true =>
    rw [hem] at hcan;apply gS;refine gR rfl ?_;refine gO rfl rfl (kLT rfl rfl) rfl ?_;apply gE;apply gS;refine gC (b := true) rfl ?_;refine gD ?_;apply gS;refine Go.block noJ_ok ?_;apply gS;refine gR rfl ?_;iterate 2 refine gP ?_
    apply gE;apply gS;refine gR rfl ?_;refine gO rfl rfl (ld77 rfl f0 rfl) rfl ?_;refine gP ?_;refine gO rfl rfl (ld126 rfl f4 (slice_all ka)) rfl ?_;refine GoR.call rfl rfl (aCF aFunc146 rfl) (hcan _ (GB.ext e0)) ?_ np;rintro v16 h16 ⟨q, x16⟩;cases q;refine ⟨_, rfl, ?_⟩;replace f0 := f0.ext x16;replace f2 := f2.ext x16;replace f4 := f4.ext x16;replace fl := fl.ext x16;replace e0 := e0.trans x16;refine gP ?_;apply gE;refine gC (b := true) rfl ?_;refine gD ?_;exact contT _ _ G ⟨by rw [hnx, can_not hp hem], f2, hG⟩ (fun b q => .inl q) (y9.ext e0) fl
   | false =>
    rw [hem] at hcan;apply gS;refine gR rfl ?_;refine gO rfl rfl (kLT rfl rfl) rfl ?_;apply gE;apply gS;refine gC (b := true) rfl ?_;refine gD ?_;apply gS;refine Go.block noJ_ok ?_;apply gS;refine gR rfl ?_;iterate 2 refine gP ?_
    apply gE;apply gS;refine gR rfl ?_;refine gO rfl rfl (ld77 rfl f0 rfl) rfl ?_;refine gP ?_;refine gO rfl rfl (ld126 rfl f4 (slice_all ka)) rfl ?_;refine GoR.call rfl rfl (aCF aFunc146 rfl) (hcan _ (GB.ext e0)) ?_ np;rintro v16 h16 ⟨q, x16⟩;cases q;refine ⟨_, rfl, ?_⟩;replace f0 := f0.ext x16;replace f2 := f2.ext x16;replace f4 := f4.ext x16;replace fl := fl.ext x16;replace e0 := e0.trans x16;refine gP ?_;apply gE;refine gC (b := false) rfl ?_;refine gD ?_;refine Go.inBlock noJ_ok ?_;refine gR rfl ?_;refine gO rfl rfl (aA rfl rfl) rfl ?_;refine gP ?_;apply gE
    exact again (m - 1) (i + 1) _ _ (by omega) ⟨rfl, rfl, rfl, rfl, rfl, trivial⟩ ⟨by omega, fun k p' q hp' => by
     by_cases z : k = i
     ·subst z; rw [hp] at hp'; cases hp'; exact hem
     ·exact hk k p' (by omega) hp', e0, f0, f2, f4, fl⟩
  ·have hcan := can_take hk (by omega)
   have hpos : R.possible = true := by rw [possible_iff]; exact List.any_eq_true.2 ⟨l, hlm, hcan⟩
   have z9 := y9.ext e0
   apply gS;refine gR rfl ?_;refine gO rfl rfl (kLF rfl rfl) rfl ?_;apply gE;apply gS;refine gC (b := false) rfl ?_;refine gD ?_;apply gS;refine gR rfl ?_;refine GoR.store rfl rfl rfl rfl rfl rfl f2 rfl sz4 rfl rfl rfl fun h16 u16 => ?_;replace f2 := u16.has f2;replace fl := fl.upd u16 (by omega);clear e0;apply gE;exact contF _ _ _ _ G (.inr ⟨0, rfl, rfl⟩) ⟨rfl, hpos, f2, hG⟩ (fun b q => .inl q) (z9.upd u16 (.inl (.inl ((hG _).2 rfl)))) fl
 ·rintro d h30 G x30 hG hnd hd hdd ⟨hno, f, _⟩
  have e9 := eF x30
  have hx30 := x30.1
  have hz : R.possible = false := by
   have hlq : (haulI [] R.es).length = (haulsV R.es).length := by simp [haulI]
   rw [hlq, List.take_length] at hno;rw [possible_iff];exact hno
  rw [hz];clear e0 f0 f1;refine Go.inBlock noJ_ok ?_;apply gS;refine gR rfl ?_;refine gO rfl rfl (ld4 rfl f rfl) rfl ?_;refine gP ?_;apply gE;exact Go.retC hdd fun h9 u9 => ⟨aResult_of Tryz.func120 rfl rfl, rfl, e9.upd u9 (by omega)⟩
 ·rintro c d h30 G x30 hG hnd hd hdd ⟨rfl, hz, f, hG'⟩
  have e9 := eF x30
  have hx30 := x30.1
  rw [hz];clear e0 f0 f1;refine gD ?_;apply gS;refine gR rfl ?_;refine gO rfl rfl (ld4 rfl f rfl) rfl ?_;refine gP ?_;apply gE;exact Go.retC hdd fun h9 u9 => ⟨aResult_of Tryz.func120 rfl rfl, rfl, e9.upd u9 (by omega)⟩
end Go.Proofs.YtkcimfopboelaaaGreat

set_option linter.unusedSimpArgs false
namespace Go.AbsE
open Go
section
variable {P : Program}
end
end Go.AbsE

set_option linter.unusedSimpArgs false
namespace Go.AbsE
open Go
section
variable {P : Program}
def esN (L : List (List Int × AVal)) : List AMapE := L.mapIdx fun i x => ⟨.agg (vints x.1), x.2, i⟩
theorem esN_app (L : List (List Int × AVal)) (x : List Int × AVal) : esN (L ++ [x]) = esN L ++ [⟨.agg (vints x.1), x.2, L.length⟩] := by unfold esN; rw [List.mapIdx_concat]
theorem esN_len (L : List (List Int × AVal)) : (esN L).length = L.length := by simp [esN]
theorem esN_at {L : List (List Int × AVal)} {en : AMapE} (h : en ∈ esN L) : ∃ i x, L[i]? = some x ∧ en = ⟨.agg (vints x.1), x.2, i⟩ := by
 unfold esN at h
 obtain ⟨i, hi, rfl⟩ := List.mem_mapIdx.1 h
 exact ⟨i, L[i], by simp [hi], rfl⟩
theorem esN_born {L : List (List Int × AVal)} : ∀ en, en ∈ esN L → en.born < L.length := by
 intro en h
 obtain ⟨i, x, hx, rfl⟩ := esN_at h
 exact (List.getElem?_eq_some_iff.1 hx).1
theorem esN_dist (L : List (List Int × AVal)) : (esN L).Pairwise fun a b => a.born ≠ b.born := by
 unfold esN
 rw [List.pairwise_iff_getElem]
 intro i j hi hj hij
 rw [List.getElem_mapIdx, List.getElem_mapIdx]
 dsimp only
 omega
theorem mapSetN_new {kt : TypeId} {N : Nat} (K : KeyN P kt N) {k : List Int} (hk : k.length = N) (v : AVal) (clock : Nat) : ∀ (es : List AMapE), (∀ e, e ∈ es → ∃ m, e.key = .agg (vints m) ∧ m.length = N ∧ k ≠ m) →
  aMapSet P kt (.agg (vints k)) v clock es = some (es ++ [⟨.agg (vints k), v, clock⟩], clock + 1)
 | [], _ => rfl
 | e :: es, h => by
  have ih := mapSetN_new K hk v clock es fun x hx => h x (List.mem_cons_of_mem _ hx)
  obtain ⟨m, hm, hml, hne⟩ := h e List.mem_cons_self
  unfold aMapSet
  rw [hm, pr_eq_keyN K hk hml, decide_eq_false hne, ih]
  rfl
theorem aOp_mapNewN {t : Tr AVal} {h : AH} {dst : Option Tmp} {tt : TypeId} {pos : String} {after : Array Edge} {guard : Option (Nat × Bool)} {ty kt vt : TypeId} {N : Nat} {x k y : Operand} {b : Nat} {L : List (List Int × AVal)} {key : List Int} {v : AVal}
  (K : KeyN P kt N) (hu : P.underlying ty = some (.map kt vt)) (hx : ev t x = some (.map b)) (hk : ev t k = some (.agg (i64s key))) (hy : ev t y = some v) (h4 : key.length = N)
  (hb : Has h b (.map (esN L) L.length)) (hl : ∀ x, x ∈ L → x.1.length = N ∧ key ≠ x.1) :
  ∃ h', aOp P t h ⟨dst, .mapUpdate ty x k y, tt, pos, after, guard⟩ = some (.val undefA h') ∧ Upd h b (.map (esN (L ++ [(key, v)])) (L ++ [(key, v)]).length) h' := by
 obtain ⟨h', s1, s2⟩ := set_upd h b (.map (esN (L ++ [(key, v)])) (L ++ [(key, v)]).length)
 refine ⟨h', ?_, s2⟩
 show opMapUpdate P t h ty x k y = _
 unfold opMapUpdate
 rw [hu, hx, hk, hy]
 dsimp only
 rw [hb.2, ground_vints]
 dsimp only
 rw [pr_check_keyN K h4]
 dsimp only
 rw [mapSetN_new K h4 v L.length (esN L) (fun e he => by
  obtain ⟨i, x, hx, rfl⟩ := esN_at he
  exact ⟨x.1, rfl, hl x (List.mem_of_getElem? hx)⟩)]
 rw [esN_app, List.length_append] at s1
 dsimp only
 show (match h.set b (some (ABlk.map (esN L ++ [⟨.agg (vints key), v, L.length⟩]) (L.length + 1))) with | some h => some (ANext.val undefA h) | none => none) = _
 rw [show h.set b (some (ABlk.map (esN L ++ [⟨.agg (vints key), v, L.length⟩]) (L.length + 1))) = some h' from s1]
theorem GoR.mapNewN {J : Jump} {c : FC} {k : List AItem} {Q : AM → Prop} {all : Array Oper} {l : List Oper} {dst : Option Tmp} {tt : TypeId} {pos : String} {after : Array Edge} {guard : Option (Nat × Bool)} {rest : List Oper} {i : Nat} {t : Tr AVal} {h : AH} {ty kt vt : TypeId} {N : Nat} {x kx y : Operand} {b : Nat} {L : List (List Int × AVal)} {key : List Int} {v : AVal}
  (hl : l = ⟨dst, .mapUpdate ty x kx y, tt, pos, after, guard⟩ :: rest) (hw : wantedA all t ⟨dst, .mapUpdate ty x kx y, tt, pos, after, guard⟩ = some true) (K : KeyN P kt N) (hu : P.underlying ty = some (.map kt vt)) (hd : dst = none)
  (hx : ev t x = some (.map b)) (hk : ev t kx = some (.agg (i64s key))) (hy : ev t y = some v) (h4 : key.length = N) (hb : Has h b (.map (esN L) L.length)) (hn : ∀ x, x ∈ L → x.1.length = N ∧ key ≠ x.1)
  (g : ∀ h1, Upd h b (.map (esN (L ++ [(key, v)])) (L ++ [(key, v)]).length) h1 → GoR P J c k Q (runOps P c.n all rest (i + 1) t h1)) : GoR P J c k Q (runOps P c.n all l i t h) := by
 obtain ⟨h1, q1, q2⟩ := aOp_mapNewN (dst := dst) (tt := tt) (pos := pos) (after := after) (guard := guard) K hu hx hk hy h4 hb hn
 refine GoR.op hl hw q1 ?_ (g h1 q2)
 unfold prepD
 rw [show (⟨dst, .mapUpdate ty x kx y, tt, pos, after, guard⟩ : Oper).dst = none from hd]
theorem absS_ints : ∀ l : List Int, mapO absS (l.map fun x => Value.int .i64 x) = some (l.map fun x => AVal.int .i64 x)
 | [] => rfl
 | x :: l => by simp only [List.map_cons, mapO, absS, absS_ints l]
theorem absV_vints (l : List Int) : absV (.agg (vints l)) = some (.agg (i64s l)) := by
 have := absS_ints l
 unfold absV vints i64s
 simp only [this]
theorem perm_pick {es vs rs : List AMapE} {en : AMapE} (hp : (vs ++ rs).Perm es) (hen : en ∈ es) (hnew : en.born ∉ vs.map AMapE.born) : ∃ ra rb, rs = ra ++ en :: rb ∧ ((vs ++ [en]) ++ (ra ++ rb)).Perm es := by
 have hmem : en ∈ rs := by
  rcases List.mem_append.1 (hp.mem_iff.2 hen) with q | q
  ·exact absurd (List.mem_map.2 ⟨en, q, rfl⟩) hnew
  ·exact q
 obtain ⟨ra, rb, rfl⟩ := List.append_of_mem hmem
 refine ⟨ra, rb, rfl, List.Perm.trans ?_ hp⟩
 simp only [List.append_assoc, List.singleton_append]
 exact List.Perm.append_left _ List.perm_middle.symm
theorem perm_over {es vs rs : List AMapE} (hp : (vs ++ rs).Perm es) (hd : es.Pairwise fun a b => a.born ≠ b.born) (hall : ∀ en, en ∈ es → en.born ∈ vs.map AMapE.born) : rs = [] := by
 have hdist : (vs ++ rs).Pairwise fun a b => a.born ≠ b.born := (hp.symm.pairwise_iff (fun h => h.symm)).1 hd
 cases rs with
 | nil => rfl
 | cons x rs =>
  exfalso
  have hx : x ∈ es := hp.mem_iff.1 (by simp)
  obtain ⟨y, hy, hyb⟩ := List.mem_map.1 (hall x hx)
  rw [List.pairwise_append] at hdist
  exact hdist.2.2 y hy x (by simp) hyb
end
end Go.AbsE
