import Derived.Test.YtobhkdgcciolmaaMAJ
import Derived.Test.YtobhkdgcciolmaaMAI
import Derived.Test.YtobhkdgcciolmaaMAG
namespace Go.Proofs.Ytobhkdgcciolmaa
open Go Go.AbsE
set_option linter.unusedSimpArgs false
set_option maxRecDepth 100000
set_option maxHeartbeats 0
set_option linter.unusedVariables false
def evA (e : EV) : List AVal := [.int .i64 e.lo, .int .i64 e.hi, .int .i64 e.cl]
theorem flatten_at {α : Type} {f : α → List AVal} {sz : Nat} (hf : ∀ p, (f p).length = sz) {l : List α} : ∀ i v, (l.map f)[i]? = some v → slice? (l.flatMap f) (i * sz) sz = some v := fun i v q => flat_slice (f := f) (sz := sz) hf q
theorem grow_slice {α : Type} {f : α → List AVal} {sz : Nat} (hf : ∀ p, (f p).length = sz) {h : AH} {el : TypeId} {lo n : Nat} {s : AVal} {l : List α} (hn : l.length = n) (G : Grow h el sz lo s n (l.flatMap f)) : SliceOf h sz s (l.map f) := by
 subst hn;exact Grow.sliceOf (L := l.map f) (by rw [List.length_map]; exact G) (flatten_at hf)
theorem take_flat {α β : Type} {L : List α} {i : Nat} {x : α} (f : α → List β) (hx : L[i]? = some x) : (L.take (i + 1)).flatMap f = (L.take i).flatMap f ++ f x := by
 rw [List.take_add_one, hx, Option.toList_some, List.flatMap_append]
 simp
def evC (e : EV) : AVal := if e.kind = 0 then .iface 121 (.agg (evA e)) else .iface 112 (.agg (evA e))
theorem read_ok {e : EV} {h : AH} : Runs Try.prog 68 [.agg e.cells] h (fun en h' => en = .ret (evC e) ∧ Ext h h') := by
 unfold EV.cells
 by_cases k : e.kind = 0
 ·have hv : evC e = .iface 121 (.agg (evA e)) := if_pos k
  rw [hv]
  unfold evA
  have e0 : Ext h h := Ext.refl _
  refine Runs.intro aFunc68 rfl rfl rfl rfl fun rest => ?_;apply gS;refine gR rfl ?_;refine GoR.box rfl rfl rfl rfl rfl rfl fun h0 x0 f0 => ?_;have := e0.1;replace e0 := e0.trans x0;have := f0.1;refine gP ?_;apply gE;apply gS;refine gR rfl ?_;refine gO rfl rfl (fa55_2 rfl) rfl ?_;refine gO rfl rfl (ld23 rfl f0 rfl) rfl ?_;refine gO rfl rfl (aOp_build zt41 hu41 pl41 rfl rfl) rfl ?_;refine gO rfl rfl (fa55_1 rfl) rfl ?_;refine gO rfl rfl (ld3 rfl f0 rfl) rfl ?_;refine gO rfl rfl (aOp_build zt110 hu110 pl110 rfl rfl) rfl ?_;refine GoR.alloc rfl rfl rfl zt110 rfl rfl fun h1 x1 f1 => ?_;have := e0.1;have := f0.1;replace f0 := f0.ext x1;replace e0 := e0.trans x1;have := f1.1;refine GoR.store rfl rfl rfl rfl rfl rfl f1 rfl sz110 rfl rfl rfl fun h2 u2 => ?_;replace f1 := u2.has f1;replace f0 := f0.upd u2 (by omega);replace e0 := e0.upd u2 (by omega);apply gE;iterate 2 apply gS
  refine gR rfl ?_;refine gO rfl rfl (fa55_0 rfl) rfl ?_;refine gO rfl rfl (ld3 rfl f0 rfl) rfl ?_;refine gO rfl rfl (kET rfl rfl) rfl ?_;apply gE;refine gC (b := true) rfl ?_;apply gS;refine gR rfl ?_;refine gO rfl rfl (ld110 rfl f1 rfl) rfl ?_;refine gO rfl rfl (aOp_build zt121 hu121 pl121 rfl rfl) rfl ?_;iterate 2 refine gP ?_
  apply gE;exact gW Try.func68 rfl rfl ⟨rfl, e0⟩
 ·have hv : evC e = .iface 112 (.agg (evA e)) := if_neg k
  rw [hv]
  unfold evA
  have e0 : Ext h h := Ext.refl _
  refine Runs.intro aFunc68 rfl rfl rfl rfl fun rest => ?_;apply gS;refine gR rfl ?_;refine GoR.box rfl rfl rfl rfl rfl rfl fun h0 x0 f0 => ?_;have := e0.1;replace e0 := e0.trans x0;have := f0.1;refine gP ?_;apply gE;apply gS;refine gR rfl ?_;refine gO rfl rfl (fa55_2 rfl) rfl ?_;refine gO rfl rfl (ld23 rfl f0 rfl) rfl ?_;refine gO rfl rfl (aOp_build zt41 hu41 pl41 rfl rfl) rfl ?_;refine gO rfl rfl (fa55_1 rfl) rfl ?_;refine gO rfl rfl (ld3 rfl f0 rfl) rfl ?_;refine gO rfl rfl (aOp_build zt110 hu110 pl110 rfl rfl) rfl ?_;refine GoR.alloc rfl rfl rfl zt110 rfl rfl fun h1 x1 f1 => ?_;have := e0.1;have := f0.1;replace f0 := f0.ext x1;replace e0 := e0.trans x1;have := f1.1;refine GoR.store rfl rfl rfl rfl rfl rfl f1 rfl sz110 rfl rfl rfl fun h2 u2 => ?_;replace f1 := u2.has f1;replace f0 := f0.upd u2 (by omega);replace e0 := e0.upd u2 (by omega);apply gE;iterate 2 apply gS
  refine gR rfl ?_;refine gO rfl rfl (fa55_0 rfl) rfl ?_;refine gO rfl rfl (ld3 rfl f0 rfl) rfl ?_;refine gO rfl rfl (kEF rfl rfl) rfl ?_;apply gE;refine gC (b := false) rfl ?_;refine gD ?_;apply gS;refine gR rfl ?_;refine gO rfl rfl (ld110 rfl f1 rfl) rfl ?_;refine gO rfl rfl (aOp_build zt112 hu112 pl112 rfl rfl) rfl ?_;iterate 2 refine gP ?_
  apply gE;exact gW Try.func68 rfl rfl ⟨rfl, e0⟩
theorem evC_scal (e : EV) : scalars [evC e] = true ∧ (evC e).cells = [evC e] ∧ sameA (evC e) (evC e) = true := by
 unfold evC evA
 split
 ·exact ⟨rfl, rfl, by simp [sameA, sameAs, eqI_eq]⟩
 ·exact ⟨rfl, rfl, by simp [sameA, sameAs, eqI_eq]⟩
theorem eventsOf_ok {s : AVal} {L : List EV} {h : AH} (hs : SliceOf h 4 s (L.map EV.cells)) (hn : L.length ≤ 100) :
  Runs Try.prog 39 [s] h (fun en h' => ∃ r, en = .ret r ∧ Ext h h' ∧ Grow h' 97 1 h.next r L.length (L.flatMap fun e => [evC e])) := by
 have hlen := hs.len
 rw [List.length_map] at hlen
 have e0 : Ext h h := Ext.refl _
 refine Runs.intro aFunc39 rfl rfl rfl rfl fun rest => ?_;apply gS;refine gR rfl ?_;refine gP ?_;apply gE;apply gS;refine gR rfl ?_;refine gP ?_;apply gE;iterate 2 apply gS
 refine gR rfl ?_;refine gP ?_;refine gO rfl rfl (aOp_lenSlice Try.underlying28 rfl (by assumption)) rfl ?_;refine gP ?_;apply gE;refine Go.block noJ_ok ?_
 refine Go.loopKeep (fun a : Nat × AVal => [(3, a.2), (6, s), (7, .int .i64 L.length), (8, .int .i64 (a.1 : Nat))])
  (fun m a h' => m + a.1 = L.length ∧ Ext h h' ∧ Grow h' 97 1 h.next a.2 a.1 ((L.take a.1).flatMap fun e => [evC e])) (n := L.length) (0, .nilslice) ⟨rfl, rfl, rfl, rfl, trivial⟩ ⟨rfl, e0, Grow.nil _ _ _ _⟩ ?_
 clear e0;rintro m ⟨i, r⟩ h4 ⟨hm, e0, G⟩ again
 dsimp only at hm G ⊢
 have e9 : Ext h4 h4 := Ext.refl _
 by_cases hi' : i < L.length
 ·obtain ⟨x, hx⟩ : ∃ x, L[i]? = some x := ⟨L[i], by simp [hi']⟩
  obtain ⟨bq, off, q1, q2⟩ := hs.at (i := i) (l := EV.cells x) (by rw [List.getElem?_map, hx]; rfl)
  rw [List.length_map] at q1
  have hnx := take_flat (fun e => [evC e]) hx
  have hrd := fun h => read_ok (e := x) (h := h)
  unfold EV.cells at q2 hrd
  by_cases k0 : x.kind = 0
  ·have hv : evC x = .iface 121 (.agg [.int .i64 x.lo, .int .i64 x.hi, .int .i64 x.cl]) := if_pos k0
   rw [hv] at hnx hrd;apply gS;refine gR rfl ?_;refine gO rfl rfl (kLT rfl rfl) rfl ?_;apply gE;apply gS;refine gC (b := true) rfl ?_;refine gD ?_;apply gS;refine Go.block noJ_ok ?_;apply gS;refine gR rfl ?_;refine gO rfl rfl (aOp_indexAddr (i := i) Try.underlying28 sz55 rfl (by assumption) rfl (Nat.ble_eq_true_of_le (by omega))) rfl ?_;refine gO rfl rfl (aOp_loadE ag55 sz55 rfl (q2.ext (by assumption))) rfl ?_;refine GoR.alloc rfl rfl rfl zt55 rfl rfl fun h5 x5 f5 => ?_;have := e0.1;have := e9.1;replace e0 := e0.trans x5;replace e9 := e9.trans x5;have := f5.1;refine GoR.store rfl rfl rfl rfl rfl rfl f5 rfl sz55 rfl rfl rfl fun h6 u6 => ?_;replace f5 := u6.has f5;replace e0 := e0.upd u6 (by omega);replace e9 := e9.upd u6 (by omega);apply gE;refine gR rfl ?_;refine gP ?_;refine gO rfl rfl (ld55 rfl f5 rfl) rfl ?_;refine GoR.call rfl rfl (aCF aFunc68 rfl) (hrd _) ?_ np;rintro v7 h7 ⟨q, x7⟩;cases q;refine ⟨_, rfl, ?_⟩;replace f5 := f5.ext x7;replace e0 := e0.trans x7;replace e9 := e9.trans x7;refine GoR.buildSl rfl rfl (ps := [(0, .iface 121 (.agg [.int .i64 x.lo, .int .i64 x.hi, .int .i64 x.cl]))]) (cs := [.iface 121 (.agg [.int .i64 x.lo, .int .i64 x.hi, .int .i64 x.cl])]) Try.underlying42 rfl sz97 zt97 rfl rfl rfl rfl fun h8 x8 f8 => ?_;have := e0.1;have := e9.1;have := f5.1;replace f5 := f5.ext x8;replace e0 := e0.trans x8;replace e9 := e9.trans x8;have := f8.1;refine GoR.append1F rfl rfl rfl Try.underlying42 Try.underlying42 sz97 by97 zt97 rfl rfl rfl rfl f8 rfl rfl (G.ext e9) (by omega) rfl rfl fun s9 h9 y9 g9 => ?_;have := f8.1;have := f5.1;have := e0.1;have := e9.1;clear f8;clear f5;replace e0 := y9.low e0 (fun b q => by have := (grow_own (G.ext e9) q).1; omega);clear e9;have := y9.1;refine gP ?_;apply gE;refine Go.inBlock noJ_ok ?_;refine gR rfl ?_;refine gO rfl rfl (aA rfl rfl) rfl ?_;refine gP ?_;apply gE;exact again (m - 1) (i + 1, s9) _ _ (by omega) ⟨rfl, rfl, rfl, rfl, trivial⟩ ⟨by dsimp only; omega, e0, by dsimp only; rw [hnx]; exact g9.low (by have := e0.1; omega)⟩
  ·have hv : evC x = .iface 112 (.agg [.int .i64 x.lo, .int .i64 x.hi, .int .i64 x.cl]) := if_neg k0
   rw [hv] at hnx hrd;apply gS;refine gR rfl ?_;refine gO rfl rfl (kLT rfl rfl) rfl ?_;apply gE;apply gS;refine gC (b := true) rfl ?_;refine gD ?_;apply gS;refine Go.block noJ_ok ?_;apply gS;refine gR rfl ?_;refine gO rfl rfl (aOp_indexAddr (i := i) Try.underlying28 sz55 rfl (by assumption) rfl (Nat.ble_eq_true_of_le (by omega))) rfl ?_;refine gO rfl rfl (aOp_loadE ag55 sz55 rfl (q2.ext (by assumption))) rfl ?_;refine GoR.alloc rfl rfl rfl zt55 rfl rfl fun h5 x5 f5 => ?_;have := e0.1;have := e9.1;replace e0 := e0.trans x5;replace e9 := e9.trans x5;have := f5.1;refine GoR.store rfl rfl rfl rfl rfl rfl f5 rfl sz55 rfl rfl rfl fun h6 u6 => ?_;replace f5 := u6.has f5;replace e0 := e0.upd u6 (by omega);replace e9 := e9.upd u6 (by omega);apply gE;refine gR rfl ?_;refine gP ?_;refine gO rfl rfl (ld55 rfl f5 rfl) rfl ?_;refine GoR.call rfl rfl (aCF aFunc68 rfl) (hrd _) ?_ np;rintro v7 h7 ⟨q, x7⟩;cases q;refine ⟨_, rfl, ?_⟩;replace f5 := f5.ext x7;replace e0 := e0.trans x7;replace e9 := e9.trans x7;refine GoR.buildSl rfl rfl (ps := [(0, .iface 112 (.agg [.int .i64 x.lo, .int .i64 x.hi, .int .i64 x.cl]))]) (cs := [.iface 112 (.agg [.int .i64 x.lo, .int .i64 x.hi, .int .i64 x.cl])]) Try.underlying42 rfl sz97 zt97 rfl rfl rfl rfl fun h8 x8 f8 => ?_;have := e0.1;have := e9.1;have := f5.1;replace f5 := f5.ext x8;replace e0 := e0.trans x8;replace e9 := e9.trans x8;have := f8.1;refine GoR.append1F rfl rfl rfl Try.underlying42 Try.underlying42 sz97 by97 zt97 rfl rfl rfl rfl f8 rfl rfl (G.ext e9) (by omega) rfl rfl fun s9 h9 y9 g9 => ?_;have := f8.1;have := f5.1;have := e0.1;have := e9.1;clear f8;clear f5;replace e0 := y9.low e0 (fun b q => by have := (grow_own (G.ext e9) q).1; omega);clear e9;have := y9.1;refine gP ?_;apply gE;refine Go.inBlock noJ_ok ?_;refine gR rfl ?_;refine gO rfl rfl (aA rfl rfl) rfl ?_;refine gP ?_;apply gE;exact again (m - 1) (i + 1, s9) _ _ (by omega) ⟨rfl, rfl, rfl, rfl, trivial⟩ ⟨by dsimp only; omega, e0, by dsimp only; rw [hnx]; exact g9.low (by have := e0.1; omega)⟩
 ·have hin : i = L.length := by omega
  rw [hin, List.take_length] at G;apply gS;refine gR rfl ?_;refine gO rfl rfl (kLF rfl rfl) rfl ?_;apply gE;apply gS;refine gC (b := false) rfl ?_;refine gD ?_;apply gS;refine gR rfl ?_;iterate 2 refine gP ?_
  apply gE;exact gV (ret_end (aResult_of Try.func39 rfl rfl) ⟨_, rfl, e0, G⟩)
structure YardAt (h : AH) (C : ClampV) (gp ge : AVal) : Prop where
 psl : SliceOf h 6 gp (C.ps.map PV.cells)
 esl : SliceOf h 1 ge (C.es.map fun e => [evC e])
theorem YardAt.ext {h h' : AH} {C : ClampV} {gp ge : AVal} (k : YardAt h C gp ge) (e : Ext h h') : YardAt h' C gp ge := ⟨k.psl.ext e, k.esl.ext e⟩
theorem YardAt.same {h : AH} {C : ClampV} {p e : AVal} (A : YardAt h C p e) : sameA (.agg (C.cells p e)) (.agg (C.cells p e)) = true := by
 unfold ClampV.cells
 simp [sameA, sameAs, eqI_eq, A.psl.same, A.esl.same]
theorem grow_scal {h : AH} {el : TypeId} {sz lo : Nat} {s : AVal} {n : Nat} {cs : List AVal} (k : Grow h el sz lo s n cs) : scalars [s] = true ∧ s.cells = [s] := by
 rcases k.2 with ⟨rfl, _⟩ | ⟨_, b, _, rfl, _⟩
 ·exact ⟨rfl, rfl⟩
 ·exact ⟨rfl, rfl⟩
theorem cells_agg (l : List AVal) : (AVal.agg l).cells = l := rfl
def refusal (code : Int) : List AEntry := [⟨.iface 62 (.int .i64 code), false⟩]
theorem refuse_ok (b : Bool) (code : Int) (h : AH) : Runs Try.prog 37 [.bool b, .int .i64 code] h (fun en h' => h' = h ∧ ((b = false ∧ en = .ret (.tuple [])) ∨ (b = true ∧ en = .pan (refusal code)))) := by
 refine Runs.intro aFunc37 rfl rfl rfl rfl fun rest => ?_;refine Go.seq noJ_ok (gR rfl ?_);refine gP ?_
 cases b with
 | false =>
  refine GoR.end (gC (b := false) rfl (gD (Go.endL (FLeft.ret (v := .tuple []) ?_ ⟨rfl, .inl ⟨rfl, rfl⟩⟩))));exact aResult_of Try.func37 rfl rfl
 | true =>
  refine GoR.end (gC (b := true) rfl (gR rfl ?_));refine gP ?_;refine gP ?_;refine GoR.panic rfl rfl rfl (FLeft.pan ⟨rfl, .inr ⟨rfl, rfl⟩⟩)
theorem attempt_pan {rest : List AFr} {t : Tr AVal} {h : AH} {b : Nat} {c0 code : Int} {R : AEnd → AH → Prop} (ht : t.get (pth 4) = some (.ptr b 0)) (hb : Has h b (.cells .plain [.int .i64 c0] 24))
  (hR : ∀ h', h.next ≤ h'.next → (∀ x, x < h.next → x ≠ b → h'.get x = h.get x) → R (.ret (.int .i64 code)) h') :
  FLeft Try.prog ⟨15, 21, [.call (.func 36) [.ptr b 0] []], false, none, rest⟩ (.panicking (refusal code)) t h (Post Try.prog 15 rest R) := by
 refine FLeft.defer (fun q => by cases q) aFunc36 rfl rfl rfl rfl fun todo => ?_;refine Go.seq noJ_ok (gR rfl ?_);refine GoR.recover1 rfl rfl rfl rfl rfl ?_
 have y0 : ExtF (fun x => x = b) h h := ExtF.of (Ext.refl _)
 apply gE;refine Go.block noJ_ok ?_;apply gS;refine gR rfl ?_;refine gP ?_;apply gE;refine gC (b := false) rfl ?_;apply gS;refine gR rfl ?_;iterate 3 refine gP ?_
 apply gE;refine gC (b := true) rfl ?_;apply gS;refine gR rfl ?_;refine gP ?_;apply gE;refine gR rfl ?_;refine gP ?_;refine GoR.store rfl rfl rfl rfl rfl rfl hb rfl sz24 rfl rfl rfl fun h0 u0 => ?_;replace hb := u0.has hb;replace y0 := y0.upd u0 (.inl rfl);apply gE;refine Go.inBlock noJ_ok ?_;refine Go.endL ?_;refine FLeft.settle (v := .tuple []) (aResult_of Try.func36 rfl rfl) ?_;exact FLeft.ret (v := .int .i64 code) (aResult_of Try.func15 rfl (aResults_cell ht hb (inCells_one ag24 rfl))) (hR _ y0.1 fun x hx hn => y0.2 x hx hn) todo
theorem attempt_ret {rest : List AFr} {t : Tr AVal} {h : AH} {b : Nat} {code : Int} {R : AEnd → AH → Prop} (ht : t.get (pth 4) = some (.ptr b 0)) (hb : Has h b (.cells .plain [.int .i64 code] 24)) (hR : R (.ret (.int .i64 code)) h) :
  FLeft Try.prog ⟨15, 21, [.call (.func 36) [.ptr b 0] []], false, none, rest⟩ .returning t h (Post Try.prog 15 rest R) := by
 refine FLeft.defer (fun q => by cases q) aFunc36 rfl rfl rfl rfl fun todo => ?_;refine Go.seq noJ_ok (gR rfl ?_);refine GoR.recover0 rfl rfl rfl rfl rfl ?_;apply gE;refine Go.block noJ_ok ?_;apply gS;refine gR rfl ?_;refine gP ?_;apply gE;refine gC (b := true) rfl ?_;refine gR rfl ?_;refine gP ?_;apply gE;refine Go.inBlock noJ_ok ?_;refine Go.endL ?_;refine FLeft.settle (v := .tuple []) (aResult_of Try.func36 rfl rfl) ?_;exact FLeft.ret (v := .int .i64 code) (aResult_of Try.func15 rfl (aResults_cell ht hb (inCells_one ag24 rfl))) hR todo
theorem refuse_no (code : Int) (h : AH) : Runs Try.prog 37 [.bool false, .int .i64 code] h (fun en h' => en = .ret (.tuple []) ∧ Ext h h') :=
 (refuse_ok false code h).mono fun en h' k => by
  rcases k with ⟨rfl, ⟨_, q⟩ | ⟨q, _⟩⟩
  ·exact ⟨q, Ext.refl _⟩
  ·cases q
theorem refuse_yes (code : Int) (h : AH) : Runs Try.prog 37 [.bool true, .int .i64 code] h (fun en h' => en = .pan (refusal code) ∧ Ext h h') :=
 (refuse_ok true code h).mono fun en h' k => by
  rcases k with ⟨rfl, ⟨q, _⟩ | ⟨_, q⟩⟩
  ·cases q
  ·exact ⟨q, Ext.refl _⟩
theorem attempt_ok {C : ClampV} (O : C.Ok) (psl esl : AVal) (h : AH) (A : ClampAt h C psl esl) (W : FuncId) (fW : Func) (hfid : aFunc Try.prog W = some fW) (caps : List AVal) (hsm : sameA (.func (.func W) [] caps) (.func (.func W) [] caps) = true) (S : Nat → Prop) (hS : ∀ b, S b → b < h.next) (T : Int → AH → Prop)
  (hbody : ∀ h' gp ge, Ext h h' → YardAt h' C gp ge → Runs Try.prog W ([.agg (C.cells gp ge)] ++ caps) h' (fun en h'' => ExtF S h' h'' ∧ ((en = .ret (.tuple []) ∧ T 0 h'') ∨ ∃ code, en = .pan (refusal code) ∧ T code h''))) :
  Runs Try.prog 15 [.agg (C.cells psl esl), .func (.func W) [] caps] h (fun en h' => ∃ code h2, en = .ret (.int .i64 code) ∧ T code h2 ∧ ExtF S h h' ∧ h2.next ≤ h'.next ∧ ∀ b, b < h.next → h'.get b = h2.get b) := by
 have hv := fun h A => valid_yes O (p := psl) (e := esl) (h := h) A
 have hne := O.ne
 have s1 := A.es.same
 have s2 := A.ps.same
 unfold ClampV.cells at hv hbody ⊢
 have e0 : Ext h h := Ext.refl _
 refine Runs.intro aFunc15 rfl rfl rfl rfl fun rest => ?_;apply gS;refine gR rfl ?_;refine GoR.box rfl rfl rfl rfl rfl rfl fun h0 x0 f0 => ?_;have := e0.1;replace e0 := e0.trans x0;have := f0.1;refine GoR.alloc rfl rfl rfl zt24 rfl rfl fun h1 x1 f1 => ?_;have := e0.1;have := f0.1;replace f0 := f0.ext x1;replace e0 := e0.trans x1;have := f1.1;apply gE;apply gS;refine gR rfl ?_;refine gP ?_
 have hx0 := x0.1
 have hx1 := x1.1
 refine GoR.defer rfl rfl rfl rfl ?_;apply gE;apply gS;refine gR rfl ?_;refine gO rfl rfl (ld30 rfl f0 rfl) rfl ?_;refine GoR.call rfl rfl (aCF aFunc38 rfl) (hv _ (A.ext e0)) ?_ np;rintro v2 h2 ⟨q, x2⟩;cases q;refine ⟨_, rfl, ?_⟩;replace f1 := f1.ext x2;replace f0 := f0.ext x2;replace e0 := e0.trans x2;refine gP ?_;refine GoR.call rfl rfl (aCF aFunc37 rfl) (refuse_no 1 _) ?_ np;rintro v3 h3 ⟨q, x3⟩;cases q;refine ⟨_, rfl, ?_⟩;replace f1 := f1.ext x3;replace f0 := f0.ext x3;replace e0 := e0.trans x3;apply gE;apply gS;refine Go.drawnE plan15_0 ?_;refine gQ rfl rfl rfl rfl ?_;refine gQ rfl rfl (fa30_0 rfl) rfl ?_;refine gQ rfl rfl (ld27 rfl f0 rfl) rfl ?_;refine gQ rfl rfl (fa30_1 rfl) rfl ?_;refine gQ rfl rfl (ld23 rfl f0 rfl) rfl ?_;refine gQ rfl rfl (aOp_build zt41 hu41 pl41 rfl rfl) rfl ?_;refine gQ rfl rfl (fa30_2 rfl) rfl ?_;refine gQ rfl rfl (ld28 rfl f0 rfl) rfl ?_;refine GoE.call rfl rfl (aCF aFunc39 rfl) (eventsOf_ok (A.es.ext e0) (by omega)) (dD 192 7 (dD 192 6 (dK 192 5 (dK 192 4 (dK 192 3 (dK 192 2 (dK 192 1 (dK 192 0 rfl)))))))) ?_ (by rintro _ _ ⟨ge, q, _, g5⟩; cases q);rintro v4 h4 ⟨ge, q, x4, g5⟩;cases q;have := e0.1;have := f1.1;have := f0.1;replace f1 := f1.ext x4;replace f0 := f0.ext x4;replace e0 := e0.trans x4;refine ⟨(rck (h2 := h4) rfl (aOp_build zt41 hu41 pl41 rfl rfl) (rck (h2 := h4) rfl (ld23 rfl f0 rfl) (rck (h2 := h4) rfl (fa30_1 rfl) (rck (h2 := h4) rfl (ld27 rfl f0 rfl) (rck (h2 := h4) rfl (fa30_0 rfl) (rck (h2 := h4) rfl (rfl) recheck_nil)))))), _, rfl, ?_⟩
 have he5 := e0.1
 have l1 := A.ps.scal.2
 have l2 := (grow_scal g5).2
 have K : YardAt h4 C psl v4 := ⟨A.ps.ext e0, grow_slice (f := fun e => [evC e]) (sz := 1) (fun _ => rfl) rfl g5⟩
 refine gQ rfl rfl (aOp_build (ps := [(0, psl), (1, .agg [.int .i64 C.pl, .int .i64 C.ph]), (2, v4)]) (cs := [psl, .int .i64 C.pl, .int .i64 C.ph, v4]) zt44 hu44 pl44 rfl (by simp [aFillA, l1, l2, cells_agg, splice])) rfl ?_
 have nf1 := f1.1
 have hnS : ¬ S h0.next := fun q => by have := hS _ q; omega
 refine GoE.callP rfl rfl (aOp_callVal rfl hfid rfl) (hbody h4 psl v4 e0 K) (dD 1023 9 (dD 1023 5 (dD 1023 4 (dD 1023 3 (dD 1023 2 (dD 1023 1 (dD 1023 0 rfl))))))) ?_ ?_
 ·rintro v h6 ⟨x6, ⟨q, t6⟩ | ⟨code, q, _⟩⟩
  ·cases q;refine ⟨?_, _, rfl, ?_⟩
   ·exact recheck_nil
   have hx6 := x6.1
   replace f1 := f1.extF x6 hnS
   have y9 : ExtF S h h6 := (ExtF.of e0).trans (fun _ q => .inl q) x6
   clear e0 f0;refine GoE.end rfl ?_;apply gS;refine gR rfl ?_;refine GoR.store rfl rfl rfl rfl rfl rfl f1 rfl sz24 rfl rfl rfl fun h7 u7 => ?_;replace f1 := u7.has f1;replace y9 := y9.upd u7 (.inr (by omega));apply gE;exact Go.retL (attempt_ret rfl f1 ⟨0, h6, rfl, t6, y9, by rw [u7.1]; exact Nat.le_refl _, fun b hb => u7.2.2 b (by omega)⟩)
  ·cases q
 ·rintro chain h6 ⟨x6, ⟨q, _⟩ | ⟨code, q, t6⟩⟩
  ·cases q
  have q := AEnd.pan.inj q
  subst q
  have hx6 := x6.1
  refine attempt_pan rfl (f1.extF x6 hnS) fun h' n1 n2 => ⟨code, h6, rfl, t6, ⟨by omega, fun b hb hbS => by rw [n2 b (by omega) (by omega), x6.2 b (by omega) hbS, e0.2 b hb]⟩, n1, fun b hlt => n2 b (by omega) (by omega)⟩
theorem attempt_bad {C : ClampV} (hno : ¬ C.Ok) (B : ClampB C) (psl esl : AVal) (h : AH) (A : ClampAt h C psl esl) (W : FuncId) (caps : List AVal) :
  Runs Try.prog 15 [.agg (C.cells psl esl), .func (.func W) [] caps] h (fun en h' => en = .ret (.int .i64 1) ∧ Ext h h') := by
 have hB := B
 have hv := fun h A => valid_no hno B (p := psl) (e := esl) (h := h) A
 unfold ClampV.cells at hv ⊢
 have e0 : Ext h h := Ext.refl _
 refine Runs.intro aFunc15 rfl rfl rfl rfl fun rest => ?_;apply gS;refine gR rfl ?_;refine GoR.box rfl rfl rfl rfl rfl rfl fun h0 x0 f0 => ?_;replace e0 := e0.trans x0;refine GoR.alloc rfl rfl rfl zt24 rfl rfl fun h1 x1 f1 => ?_;replace f0 := f0.ext x1;replace e0 := e0.trans x1;apply gE;apply gS;refine gR rfl ?_;refine gP ?_
 have hx0 := x0.1
 have hx1 := x1.1
 refine GoR.defer rfl rfl rfl rfl ?_;apply gE;apply gS;refine gR rfl ?_;refine gO rfl rfl (ld30 rfl f0 rfl) rfl ?_;refine GoR.call rfl rfl (aCF aFunc38 rfl) (hv _ (A.ext e0)) ?_ np;rintro v2 h2 ⟨q, x2⟩;cases q;refine ⟨_, rfl, ?_⟩;replace f1 := f1.ext x2;replace e0 := e0.trans x2;refine gP ?_;refine GoR.callP rfl rfl (aCF aFunc37 rfl) (refuse_ok true 1 _) (by rintro _ _ ⟨_, ⟨q, _⟩ | ⟨_, q⟩⟩ <;> cases q) ?_;rintro chain h9 ⟨rfl, ⟨q, _⟩ | ⟨_, q⟩⟩
 ·cases q
 have q := AEnd.pan.inj q
 subst q
 have hx9 := e0.1
 refine attempt_pan rfl f1 fun h' n1 n2 => ⟨rfl, ?_, fun b hb => by rw [n2 b (by omega) (by omega), e0.2 b hb]⟩
 omega
theorem needSods_ok {n : Int} {h : AH} : Runs Try.prog 28 [.int .i64 n] h (fun en h' => en = (if 0 ≤ n ∧ n ≤ 20000 then .ret (.tuple []) else .pan (refusal 2)) ∧ Ext h h') := by
 by_cases hq : 0 ≤ n ∧ n ≤ 20000
 ·rw [if_pos hq]
  have e0 : Ext h h := Ext.refl _
  refine Runs.intro aFunc28 rfl rfl rfl rfl fun rest => ?_;refine gR rfl ?_;refine gP ?_;refine GoR.call rfl rfl (aCF aFunc40 rfl) (inside_is (r := true) (decide_eq_true hq)) ?_ np;rintro v0 h0 ⟨q, x0⟩;cases q;refine ⟨_, rfl, ?_⟩;replace e0 := e0.trans x0;refine gP ?_;refine GoR.call rfl rfl (aCF aFunc37 rfl) (refuse_no _ _) ?_ np;rintro v1 h1 ⟨q, x1⟩;cases q;refine ⟨_, rfl, ?_⟩;replace e0 := e0.trans x1;apply gE;exact Go.endL (FLeft.ret (v := .tuple []) (aResult_of Try.func28 rfl rfl) ⟨rfl, e0⟩)
 ·rw [if_neg hq]
  have e0 : Ext h h := Ext.refl _
  refine Runs.intro aFunc28 rfl rfl rfl rfl fun rest => ?_;refine gR rfl ?_;refine gP ?_;refine GoR.call rfl rfl (aCF aFunc40 rfl) (inside_is (r := false) (decide_eq_false hq)) ?_ np;rintro v0 h0 ⟨q, x0⟩;cases q;refine ⟨_, rfl, ?_⟩;replace e0 := e0.trans x0;refine gP ?_;refine GoR.callP rfl rfl (aCF aFunc37 rfl) (refuse_yes _ _) (by rintro _ _ ⟨q, _⟩; cases q) ?_;rintro chain h1 ⟨q, x1⟩
  have q := AEnd.pan.inj q
  subst q;replace e0 := e0.trans x1;exact FLeft.pan (⟨rfl, e0⟩)
theorem needClamp_ok {C : ClampV} {gp ge : AVal} {n : Int} {h : AH} (A : YardAt h C gp ge) (hl : C.ps.length ≤ 40) : Runs Try.prog 17 [.agg (C.cells gp ge), .int .i64 n] h (fun en h' => en = (if 0 ≤ n ∧ n < (C.ps.length : Int) then .ret (.tuple []) else .pan (refusal 2)) ∧ Ext h h') := by
 have hl1 := A.psl.len
 rw [List.length_map] at hl1
 unfold ClampV.cells
 by_cases hq : 0 ≤ n ∧ n < (C.ps.length : Int)
 ·rw [if_pos hq]
  have e0 : Ext h h := Ext.refl _
  refine Runs.intro aFunc17 rfl rfl rfl rfl fun rest => ?_;apply gS;refine gR rfl ?_;refine GoR.box rfl rfl rfl rfl rfl rfl fun h0 x0 f0 => ?_;replace e0 := e0.trans x0;apply gE;refine gR rfl ?_;refine gP ?_;refine gO rfl rfl (fa44_0 rfl) rfl ?_;refine gO rfl rfl (ld27 rfl f0 rfl) rfl ?_;refine gO rfl rfl (aOp_lenSlice Try.underlying27 rfl hl1) rfl ?_;refine gO rfl rfl (aS rfl rfl) rfl ?_;refine GoR.call rfl rfl (aCF aFunc40 rfl) (inside_is (r := true) (dt (by omega))) ?_ np;rintro v1 h1 ⟨q, x1⟩;cases q;refine ⟨_, rfl, ?_⟩;replace e0 := e0.trans x1;refine gP ?_;refine GoR.call rfl rfl (aCF aFunc37 rfl) (refuse_no _ _) ?_ np;rintro v2 h2 ⟨q, x2⟩;cases q;refine ⟨_, rfl, ?_⟩;replace e0 := e0.trans x2;apply gE;exact Go.endL (FLeft.ret (v := .tuple []) (aResult_of Try.func17 rfl rfl) ⟨rfl, e0⟩)
 ·rw [if_neg hq]
  have e0 : Ext h h := Ext.refl _
  refine Runs.intro aFunc17 rfl rfl rfl rfl fun rest => ?_;apply gS;refine gR rfl ?_;refine GoR.box rfl rfl rfl rfl rfl rfl fun h0 x0 f0 => ?_;replace e0 := e0.trans x0;apply gE;refine gR rfl ?_;refine gP ?_;refine gO rfl rfl (fa44_0 rfl) rfl ?_;refine gO rfl rfl (ld27 rfl f0 rfl) rfl ?_;refine gO rfl rfl (aOp_lenSlice Try.underlying27 rfl hl1) rfl ?_;refine gO rfl rfl (aS rfl rfl) rfl ?_;refine GoR.call rfl rfl (aCF aFunc40 rfl) (inside_is (r := false) (df (by omega))) ?_ np;rintro v1 h1 ⟨q, x1⟩;cases q;refine ⟨_, rfl, ?_⟩;replace e0 := e0.trans x1;refine gP ?_;refine GoR.callP rfl rfl (aCF aFunc37 rfl) (refuse_yes _ _) (by rintro _ _ ⟨q, _⟩; cases q) ?_;rintro chain h2 ⟨q, x2⟩
  have q := AEnd.pan.inj q
  subst q;replace e0 := e0.trans x2;exact FLeft.pan (⟨rfl, e0⟩)
end Go.Proofs.Ytobhkdgcciolmaa

namespace Go.Proofs.Ytobhkdgcciolmaa
open Go Go.AbsE
set_option linter.unusedSimpArgs false
set_option linter.unusedVariables false
def EV.Fine (e : EV) : Prop := 0 ≤ e.lo ∧ e.lo ≤ e.hi
theorem EV.Ok.fine {n : Nat} {e : EV} (h : e.Ok n) : e.Fine := ⟨h.2.1.2.1, h.2.1.1⟩
def EV.step (e : EV) (x y : Int) : Prop := if e.kind = 0 then x - e.hi ≤ y ∧ y ≤ x - e.lo ∧ 0 ≤ y else y = x ∧ e.lo ≤ x ∧ x ≤ e.hi
def Path (i : Nat) : List EV → Int → Int → Prop
 | [], x, y => x = y
 | e :: es, x, y => if e.cl = (i : Int) then ∃ z, e.step x z ∧ Path i es z y else Path i es x y
theorem hasB_iff {s : Int × Int} {n : Int} : hasB s n = true ↔ s.1 ≤ n ∧ n ≤ s.2 := by unfold hasB; rw [decide_eq_true_eq]
def Sp (s : Int × Int) : Prop := s.1 > s.2 ∨ 0 ≤ s.1
theorem back_iff {e : EV} (f : e.Fine) {S : Int × Int} (hS : Sp S) : Sp (e.back S) ∧ ∀ x, hasB (e.back S) x = true ↔ ∃ y, hasB S y = true ∧ e.step x y := by
 obtain ⟨f1, f2⟩ := f
 simp only [hasB_iff]
 unfold EV.back EV.step
 by_cases k : e.kind = 0
 ·simp only [if_pos k]
  by_cases q : S.1 > S.2
  ·rw [if_pos q];refine ⟨.inl q, fun x => ⟨fun h => by omega, ?_⟩⟩;rintro ⟨y, h1, h2⟩
   omega
  ·rw [if_neg q]
   have h0 : 0 ≤ S.1 := hS.elim (fun z => absurd z q) id
   unfold plusV
   refine ⟨.inr (by dsimp only; omega), fun x => ⟨fun h => ⟨max S.1 (x - e.hi), ?_⟩, ?_⟩⟩
   ·dsimp only at h; omega
   ·rintro ⟨y, h1, h2⟩
    dsimp only
    omega
 ·simp only [if_neg k]
  unfold meetV
  refine ⟨.inr (by dsimp only; omega), fun x => ⟨fun h => ⟨x, ?_⟩, ?_⟩⟩
  ·dsimp only at h; omega
  ·rintro ⟨y, h1, h2⟩
   dsimp only
   omega
theorem backE_iff {i : Nat} : ∀ {es : List EV}, (∀ e, e ∈ es → e.Fine) → ∀ {S : Int × Int}, Sp S → Sp (backE i es S) ∧ ∀ x, hasB (backE i es S) x = true ↔ ∃ y, hasB S y = true ∧ Path i es x y
 | [], _, S, hS => ⟨hS, fun x => ⟨fun h => ⟨x, h, rfl⟩, fun ⟨y, h1, h2⟩ => by cases h2; exact h1⟩⟩
 | e :: es, hf, S, hS => by
  obtain ⟨h1, h2⟩ := backE_iff (i := i) (fun e he => hf e (List.mem_cons_of_mem _ he)) hS (es := es)
  have hb : backE i (e :: es) S = (if e.cl = (i : Int) then e.back (backE i es S) else backE i es S) := rfl
  rw [hb]
  unfold Path
  by_cases q : e.cl = (i : Int)
  ·simp only [if_pos q]
   obtain ⟨g1, g2⟩ := back_iff (hf e List.mem_cons_self) h1
   refine ⟨g1, fun x => ?_⟩;rw [g2]
   constructor
   ·rintro ⟨z, hz, st⟩
    obtain ⟨y, hy, p⟩ := (h2 z).1 hz
    exact ⟨y, hy, z, st, p⟩
   ·rintro ⟨y, hy, z, st, p⟩;exact ⟨z, (h2 z).2 ⟨y, hy, p⟩, st⟩
  ·simp only [if_neg q]
   exact ⟨h1, h2⟩
theorem fwd_iff {e : EV} (f : e.Fine) {s : Int × Int} (h0 : s.1 ≤ s.2) (h1 : 0 ≤ s.1) (hex : ∃ x y, hasB s x = true ∧ e.step x y) : (e.fwd s).1 ≤ (e.fwd s).2 ∧ 0 ≤ (e.fwd s).1 ∧ ∀ y, hasB (e.fwd s) y = true ↔ ∃ x, hasB s x = true ∧ e.step x y := by
 obtain ⟨f1, f2⟩ := f
 obtain ⟨a, b, ha, hb⟩ := hex
 simp only [hasB_iff] at *
 unfold EV.fwd
 unfold EV.step at *
 by_cases k : e.kind = 0
 ·simp only [if_pos k] at *
  unfold minusV
  refine ⟨by dsimp only; omega, by dsimp only; omega, fun y => ⟨fun h => ⟨max s.1 (y + e.lo), ?_⟩, ?_⟩⟩
  ·dsimp only at h; omega
  ·rintro ⟨x, h1, h2⟩
   dsimp only
   omega
 ·simp only [if_neg k] at *
  unfold meetV
  refine ⟨by dsimp only; omega, by dsimp only; omega, fun y => ⟨fun h => ⟨y, ?_⟩, ?_⟩⟩
  ·dsimp only at h; omega
  ·rintro ⟨x, h1, h2⟩
   dsimp only
   omega
theorem fwdE_iff {i : Nat} : ∀ {es : List EV}, (∀ e, e ∈ es → e.Fine) → ∀ {s : Int × Int}, s.1 ≤ s.2 → 0 ≤ s.1 → (∃ x y, hasB s x = true ∧ Path i es x y) →
  (fwdE i es s).1 ≤ (fwdE i es s).2 ∧ 0 ≤ (fwdE i es s).1 ∧ ∀ y, hasB (fwdE i es s) y = true ↔ ∃ x, hasB s x = true ∧ Path i es x y
 | [], _, s, h0, h1, _ => ⟨h0, h1, fun y => ⟨fun h => ⟨y, h, rfl⟩, fun ⟨x, q1, q2⟩ => by cases q2; exact q1⟩⟩
 | e :: es, hf, s, h0, h1, ⟨a, b, ha, hp⟩ => by
  have hfs := fun e he => hf e (List.mem_cons_of_mem _ he)
  have hb : fwdE i (e :: es) s = fwdE i es (if e.cl = (i : Int) then e.fwd s else s) := rfl
  rw [hb]
  unfold Path at hp ⊢
  by_cases q : e.cl = (i : Int)
  ·simp only [if_pos q] at *
   obtain ⟨z, st, p⟩ := hp
   obtain ⟨g1, g2, g3⟩ := fwd_iff (hf e List.mem_cons_self) h0 h1 ⟨a, z, ha, st⟩
   obtain ⟨k1, k2, k3⟩ := fwdE_iff hfs g1 g2 ⟨z, b, (g3 z).2 ⟨a, ha, st⟩, p⟩
   refine ⟨k1, k2, fun y => ?_⟩;rw [k3]
   constructor
   ·rintro ⟨w, hw, pw⟩
    obtain ⟨x, hx, sx⟩ := (g3 w).1 hw
    exact ⟨x, hx, w, sx, pw⟩
   ·rintro ⟨x, hx, w, sx, pw⟩;exact ⟨w, (g3 w).2 ⟨x, hx, sx⟩, pw⟩
  ·simp only [if_neg q] at *
   exact fwdE_iff hfs h0 h1 ⟨a, b, ha, hp⟩
theorem path_le {i : Nat} : ∀ {es : List EV}, (∀ e, e ∈ es → e.Fine) → ∀ {x y : Int}, 0 ≤ x → Path i es x y → 0 ≤ y ∧ y ≤ x
 | [], _, x, y, h, p => by cases p; omega
 | e :: es, hf, x, y, h, p => by
  have hfs := fun e he => hf e (List.mem_cons_of_mem _ he)
  obtain ⟨f1, f2⟩ := hf e List.mem_cons_self
  unfold Path at p
  split at p
  ·obtain ⟨z, st, p⟩ := p
   unfold EV.step at st
   split at st
   ·have := path_le hfs (by omega) p; omega
   ·have := path_le hfs (by omega) p; omega
  ·exact path_le hfs h p
theorem ClampV.Ok.fine {C : ClampV} (O : C.Ok) : ∀ e, e ∈ C.es → e.Fine := fun e he => (O.e e he).fine
theorem mem_sizes {p : PV} {f : Int} : f ∈ p.sizes ↔ ∃ l w h, (p.ll ≤ l ∧ l ≤ p.lh) ∧ (p.wl ≤ w ∧ w ≤ p.wh) ∧ (p.hl ≤ h ∧ h ≤ p.hh) ∧ f = l * w * h := by
 unfold PV.sizes
 simp only [List.mem_flatMap, List.mem_map, mem_upto]
 constructor
 ·rintro ⟨l, hl, w, hw, h, hh, rfl⟩; exact ⟨l, w, h, hl, hw, hh, rfl⟩
 ·rintro ⟨l, w, h, hl, hw, hh, rfl⟩; exact ⟨l, hl, w, hw, h, hh, rfl⟩
theorem mul_in {a b A B : Int} (h1 : 1 ≤ a ∧ a ≤ A) (h2 : 1 ≤ b ∧ b ≤ B) : 1 ≤ a * b ∧ a * b ≤ A * B :=
 ⟨by have := Int.mul_le_mul h1.1 h2.1 (by omega) (by omega); omega, Int.mul_le_mul h1.2 h2.2 (by omega) (by omega)⟩
theorem sizes_in {p : PV} (O : p.Ok) {f : Int} (h : f ∈ p.sizes) : 1 ≤ f ∧ f ≤ 1000 := by
 obtain ⟨l, w, hh, h1, h2, h3, rfl⟩ := mem_sizes.1 h
 obtain ⟨⟨o1, _⟩, ⟨o2, _⟩, ⟨o3, _⟩⟩ := O
 have a := mul_in (a := l) (b := w) (A := 10) (B := 10) (by omega) (by omega)
 have b := mul_in (a := l * w) (b := hh) (A := 10 * 10) (B := 10) a (by omega)
 omega
theorem mem_from {C : ClampV} {k : Int} : ∀ {ps : List PV} {i : Nat} {fs : List Int}, fs ∈ C.from k i ps ↔ fs.length = ps.length ∧ ∀ (j : Nat) p, ps[j]? = some p → fs.getD j 0 ∈ p.sizes ∧ hasB (C.canI (i + j)) (fs.getD j 0 * k) = true
 | [], i, fs => by
  unfold ClampV.from
  rw [List.mem_singleton]
  constructor
  ·rintro rfl; exact ⟨rfl, fun j p h => by simp at h⟩
  ·rintro ⟨h, _⟩; exact List.length_eq_zero_iff.1 h
 | p :: ps, i, fs => by
  unfold ClampV.from
  rw [List.mem_flatMap]
  constructor
  ·rintro ⟨f, hf, h⟩
   split at h
   ·rename_i hb
    obtain ⟨gs, hg, rfl⟩ := List.mem_map.1 h
    obtain ⟨h1, h2⟩ := mem_from.1 hg
    refine ⟨by simp [h1], fun j q hj => ?_⟩
    cases j with
    | zero => cases hj; exact ⟨hf, hb⟩
    | succ j =>
     have := h2 j q hj
     rw [show i + (j + 1) = i + 1 + j by omega];exact this
   ·cases h
  ·rintro ⟨h1, h2⟩
   cases fs with
   | nil => cases h1
   | cons f gs =>
    have h0 := h2 0 p rfl
    have h02 : hasB (C.canI i) (f * k) = true := h0.2
    refine ⟨f, h0.1, ?_⟩;rw [if_pos h02];refine List.mem_map.2 ⟨gs, mem_from.2 ⟨by simpa using h1, fun j q hj => ?_⟩, rfl⟩
    have := h2 (j + 1) q hj
    rw [show i + (j + 1) = i + 1 + j by omega] at this;exact this
theorem mem_builds {C : ClampV} {b : BT} : b ∈ C.builds ↔ (C.pl ≤ b.2 ∧ b.2 ≤ C.ph) ∧ b.1.length = C.ps.length ∧ ∀ (j : Nat) p, C.ps[j]? = some p → b.1.getD j 0 ∈ p.sizes ∧ hasB (C.canI j) (firstV b j) = true := by
 unfold ClampV.builds
 rw [List.mem_flatMap]
 constructor
 ·rintro ⟨k, hk, h⟩
  obtain ⟨fs, hf, rfl⟩ := List.mem_map.1 h
  obtain ⟨h1, h2⟩ := mem_from.1 hf
  refine ⟨mem_upto.1 hk, h1, fun j p hj => ?_⟩
  have := h2 j p hj
  rw [Nat.zero_add] at this;exact this
 ·rintro ⟨h1, h2, h3⟩;refine ⟨b.2, mem_upto.2 h1, List.mem_map.2 ⟨b.1, mem_from.2 ⟨h2, fun j p hj => ?_⟩, rfl⟩⟩;rw [Nat.zero_add];exact h3 j p hj
theorem aft_is {C : ClampV} (O : C.Ok) {b : BT} (hb : b ∈ C.builds) {i : Nat} (hi : i < C.ps.length) : (1 ≤ firstV b i ∧ firstV b i ≤ 5000) ∧ (C.aft b i).1 ≤ (C.aft b i).2 ∧ 0 ≤ (C.aft b i).1 ∧ (C.aft b i).2 ≤ firstV b i ∧ ∀ y, hasB (C.aft b i) y = true ↔ Path i C.es (firstV b i) y := by
 obtain ⟨h1, h2, h3⟩ := mem_builds.1 hb
 obtain ⟨h4, h5⟩ := h3 i _ (List.getElem?_eq_getElem hi)
 have h6 := sizes_in (O.p _ (List.getElem_mem hi)) h4
 have hk := O.k
 have h7 : 1 ≤ firstV b i ∧ firstV b i ≤ 5000 := by
  have := mul_in (a := b.1.getD i 0) (b := b.2) (A := 1000) (B := 5) h6 (by omega)
  unfold firstV
  omega
 obtain ⟨y, hy, p⟩ := ((backE_iff O.fine (i := i) (S := (0, 5000)) (.inr (by decide))).2 _).1 h5
 have hm : C.aft b i = fwdE i C.es (firstV b i, firstV b i) := by unfold ClampV.aft; rw [if_pos hi]
 obtain ⟨g1, g2, g3⟩ := fwdE_iff O.fine (i := i) (s := (firstV b i, firstV b i)) (Int.le_refl _) (by dsimp only; omega) ⟨_, y, hasB_iff.2 ⟨Int.le_refl _, Int.le_refl _⟩, p⟩
 rw [← hm] at g1 g2 g3
 have g4 : ∀ y, hasB (C.aft b i) y = true ↔ Path i C.es (firstV b i) y := fun y => by
  rw [g3]
  constructor
  ·rintro ⟨x, hx, px⟩
   have hx' := hasB_iff.1 hx
   dsimp only at hx'
   have : x = firstV b i := by omega
   rw [← this]; exact px
  ·intro p; exact ⟨_, hasB_iff.2 ⟨Int.le_refl _, Int.le_refl _⟩, p⟩
 refine ⟨h7, g1, g2, ?_, g4⟩
 have := path_le O.fine (by omega) ((g4 _).1 (hasB_iff.2 ⟨g1, Int.le_refl _⟩))
 exact this.2
end Go.Proofs.Ytobhkdgcciolmaa

namespace Go.Proofs.Ytobhkdgcciolmaa
open Go Go.AbsE
set_option linter.unusedSimpArgs false
set_option maxRecDepth 100000
set_option maxHeartbeats 0
set_option linter.unusedVariables false
theorem whose157_ok {a b c : Int} {h : AH} : Runs Try.prog 112 [.agg [.int .i64 a, .int .i64 b, .int .i64 c]] h (fun en h' => en = .ret (.int .i64 c) ∧ Ext h h') := by
 have e0 : Ext h h := Ext.refl _
 refine Runs.intro aFunc112 rfl rfl rfl rfl fun rest => ?_;apply gS;refine gR rfl ?_;refine GoR.box rfl rfl rfl rfl rfl rfl fun h0 x0 f0 => ?_;replace e0 := e0.trans x0;refine gP ?_;apply gE;apply gS;refine gR rfl ?_;refine gO rfl rfl (fa110_1 rfl) rfl ?_;refine gO rfl rfl (ld3 rfl f0 rfl) rfl ?_;refine gP ?_;apply gE;exact gW Try.func112 rfl rfl ⟨rfl, e0⟩
theorem whose_at (e : EV) (h : AH) : ∃ f args, aInvokeIface Try.prog (evC e) "bogworks/clamp.whose" [] h = some (.enter f args h) ∧ Runs Try.prog f args h (fun en h' => en = .ret (.int .i64 e.cl) ∧ Ext h h') := by
 unfold evC evA
 by_cases k0 : e.kind = 0
 ·rw [if_pos k0];exact ⟨112, [.agg [.int .i64 e.lo, .int .i64 e.hi, .int .i64 e.cl]], by kernel_rfl, whose157_ok⟩
 ·rw [if_neg k0];exact ⟨112, [.agg [.int .i64 e.lo, .int .i64 e.hi, .int .i64 e.cl]], by kernel_rfl, whose157_ok⟩
theorem countBack_ok {a b c : Int} {s : Int × Int} {h : AH} : Runs Try.prog 113 [.agg [.int .i64 a, .int .i64 b, .int .i64 c], .agg (spC s)] h (fun en h' => en = .ret (.agg (spC (meetV s (a, b)))) ∧ Ext h h') := by
 have hm := fun h => meet_ok (s := s) (t := (a, b)) (h := h)
 unfold spC at *
 have e0 : Ext h h := Ext.refl _
 refine Runs.intro aFunc113 rfl rfl rfl rfl fun rest => ?_;apply gS;refine gR rfl ?_;refine GoR.box rfl rfl rfl rfl rfl rfl fun h0 x0 f0 => ?_;have := e0.1;replace e0 := e0.trans x0;have := f0.1;refine GoR.box rfl rfl rfl rfl rfl rfl fun h1 x1 f1 => ?_;have := e0.1;have := f0.1;replace f0 := f0.ext x1;replace e0 := e0.trans x1;have := f1.1;refine GoR.alloc rfl rfl rfl zt41 rfl rfl fun h2 x2 f2 => ?_;have := e0.1;have := f1.1;have := f0.1;replace f1 := f1.ext x2;replace f0 := f0.ext x2;replace e0 := e0.trans x2;have := f2.1;apply gE;apply gS;refine gR rfl ?_;refine gO rfl rfl (ld41 rfl f1 rfl) rfl ?_;refine gO rfl rfl (fa112_0 rfl) rfl ?_;refine gO rfl rfl (fa110_0 rfl) rfl ?_;refine gO rfl rfl (ld41 rfl f0 rfl) rfl ?_;refine GoR.call rfl rfl (aCF aFunc115 rfl) (hm _) ?_ np;rintro v3 h3 ⟨q, x3⟩;cases q;refine ⟨_, rfl, ?_⟩;replace f2 := f2.ext x3;replace e0 := e0.trans x3;refine GoR.store rfl rfl rfl rfl rfl rfl f2 rfl sz41 rfl rfl rfl fun h4 u4 => ?_;replace f2 := u4.has f2;replace e0 := e0.upd u4 (by omega);apply gE;exact gV (ret_end (aResult_of Try.func113 rfl (aResults_cell rfl f2 (inCells_agg ag41 sz41 rfl))) ⟨rfl, e0⟩)
theorem countForward_ok {a b c : Int} {s : Int × Int} {h : AH} : Runs Try.prog 114 [.agg [.int .i64 a, .int .i64 b, .int .i64 c], .agg (spC s)] h (fun en h' => en = .ret (.agg (spC (meetV s (a, b)))) ∧ Ext h h') := by
 have hm := fun h => meet_ok (s := s) (t := (a, b)) (h := h)
 unfold spC at *
 have e0 : Ext h h := Ext.refl _
 refine Runs.intro aFunc114 rfl rfl rfl rfl fun rest => ?_;apply gS;refine gR rfl ?_;refine GoR.box rfl rfl rfl rfl rfl rfl fun h0 x0 f0 => ?_;have := e0.1;replace e0 := e0.trans x0;have := f0.1;refine GoR.box rfl rfl rfl rfl rfl rfl fun h1 x1 f1 => ?_;have := e0.1;have := f0.1;replace f0 := f0.ext x1;replace e0 := e0.trans x1;have := f1.1;refine GoR.alloc rfl rfl rfl zt41 rfl rfl fun h2 x2 f2 => ?_;have := e0.1;have := f1.1;have := f0.1;replace f1 := f1.ext x2;replace f0 := f0.ext x2;replace e0 := e0.trans x2;have := f2.1;apply gE;apply gS;refine gR rfl ?_;refine gO rfl rfl (ld41 rfl f1 rfl) rfl ?_;refine gO rfl rfl (fa112_0 rfl) rfl ?_;refine gO rfl rfl (fa110_0 rfl) rfl ?_;refine gO rfl rfl (ld41 rfl f0 rfl) rfl ?_;refine GoR.call rfl rfl (aCF aFunc115 rfl) (hm _) ?_ np;rintro v3 h3 ⟨q, x3⟩;cases q;refine ⟨_, rfl, ?_⟩;replace f2 := f2.ext x3;replace e0 := e0.trans x3;refine GoR.store rfl rfl rfl rfl rfl rfl f2 rfl sz41 rfl rfl rfl fun h4 u4 => ?_;replace f2 := u4.has f2;replace e0 := e0.upd u4 (by omega);apply gE;exact gV (ret_end (aResult_of Try.func114 rfl (aResults_cell rfl f2 (inCells_agg ag41 sz41 rfl))) ⟨rfl, e0⟩)
theorem saleForward_ok {a b c : Int} {s : Int × Int} (hs : Small s) (ht : Small (a, b)) {h : AH} : Runs Try.prog 117 [.agg [.int .i64 a, .int .i64 b, .int .i64 c], .agg (spC s)] h (fun en h' => en = .ret (.agg (spC (minusV s (a, b)))) ∧ Ext h h') := by
 have hm := fun h => minus_ok (s := s) (t := (a, b)) hs ht (h := h)
 unfold spC at *
 have e0 : Ext h h := Ext.refl _
 refine Runs.intro aFunc117 rfl rfl rfl rfl fun rest => ?_;apply gS;refine gR rfl ?_;refine GoR.box rfl rfl rfl rfl rfl rfl fun h0 x0 f0 => ?_;have := e0.1;replace e0 := e0.trans x0;have := f0.1;refine GoR.box rfl rfl rfl rfl rfl rfl fun h1 x1 f1 => ?_;have := e0.1;have := f0.1;replace f0 := f0.ext x1;replace e0 := e0.trans x1;have := f1.1;refine GoR.alloc rfl rfl rfl zt41 rfl rfl fun h2 x2 f2 => ?_;have := e0.1;have := f1.1;have := f0.1;replace f1 := f1.ext x2;replace f0 := f0.ext x2;replace e0 := e0.trans x2;have := f2.1;apply gE;apply gS;refine gR rfl ?_;refine gO rfl rfl (ld41 rfl f1 rfl) rfl ?_;refine gO rfl rfl (fa121_0 rfl) rfl ?_;refine gO rfl rfl (fa110_0 rfl) rfl ?_;refine gO rfl rfl (ld41 rfl f0 rfl) rfl ?_;refine GoR.call rfl rfl (aCF aFunc49 rfl) (hm _) ?_ np;rintro v3 h3 ⟨q, x3⟩;cases q;refine ⟨_, rfl, ?_⟩;replace f2 := f2.ext x3;replace e0 := e0.trans x3;refine GoR.store rfl rfl rfl rfl rfl rfl f2 rfl sz41 rfl rfl rfl fun h4 u4 => ?_;replace f2 := u4.has f2;replace e0 := e0.upd u4 (by omega);apply gE;exact gV (ret_end (aResult_of Try.func117 rfl (aResults_cell rfl f2 (inCells_agg ag41 sz41 rfl))) ⟨rfl, e0⟩)
theorem saleBack_ok {a b c : Int} {s : Int × Int} (hs : Small s) (ht : Small (a, b)) {h : AH} : Runs Try.prog 116 [.agg [.int .i64 a, .int .i64 b, .int .i64 c], .agg (spC s)] h (fun en h' => en = .ret (.agg (spC (if s.1 > s.2 then s else plusV s (a, b)))) ∧ Ext h h') := by
 have hm := fun h => plus_ok (s := s) (t := (a, b)) hs ht (h := h)
 have hn := fun h => none_ok (s := s) (h := h)
 by_cases q : s.1 > s.2
 ·rw [if_pos q];rw [decide_eq_true q] at hn
  unfold spC at *
  have e0 : Ext h h := Ext.refl _
  refine Runs.intro aFunc116 rfl rfl rfl rfl fun rest => ?_;apply gS;refine gR rfl ?_;refine GoR.box rfl rfl rfl rfl rfl rfl fun h0 x0 f0 => ?_;have := e0.1;replace e0 := e0.trans x0;have := f0.1;refine GoR.box rfl rfl rfl rfl rfl rfl fun h1 x1 f1 => ?_;have := e0.1;have := f0.1;replace f0 := f0.ext x1;replace e0 := e0.trans x1;have := f1.1;refine GoR.alloc rfl rfl rfl zt41 rfl rfl fun h2 x2 f2 => ?_;have := e0.1;have := f1.1;have := f0.1;replace f1 := f1.ext x2;replace e0 := e0.trans x2;have := f2.1;apply gE;iterate 2 apply gS
  refine gR rfl ?_;refine gO rfl rfl (ld41 rfl f1 rfl) rfl ?_;refine GoR.call rfl rfl (aCF aFunc118 rfl) (hn _) ?_ np;rintro v3 h3 ⟨q, x3⟩;cases q;refine ⟨_, rfl, ?_⟩;replace f2 := f2.ext x3;replace f1 := f1.ext x3;replace e0 := e0.trans x3;apply gE;refine gC (b := true) rfl ?_;apply gS;refine gR rfl ?_;refine gO rfl rfl (ld41 rfl f1 rfl) rfl ?_;refine GoR.store rfl rfl rfl rfl rfl rfl f2 rfl sz41 rfl rfl rfl fun h4 u4 => ?_;replace f2 := u4.has f2;replace e0 := e0.upd u4 (by omega);apply gE;exact gV (ret_end (aResult_of Try.func116 rfl (aResults_cell rfl f2 (inCells_agg ag41 sz41 rfl))) ⟨rfl, e0⟩)
 ·rw [if_neg q];rw [decide_eq_false q] at hn
  unfold spC at *
  have e0 : Ext h h := Ext.refl _
  refine Runs.intro aFunc116 rfl rfl rfl rfl fun rest => ?_;apply gS;refine gR rfl ?_;refine GoR.box rfl rfl rfl rfl rfl rfl fun h0 x0 f0 => ?_;have := e0.1;replace e0 := e0.trans x0;have := f0.1;refine GoR.box rfl rfl rfl rfl rfl rfl fun h1 x1 f1 => ?_;have := e0.1;have := f0.1;replace f0 := f0.ext x1;replace e0 := e0.trans x1;have := f1.1;refine GoR.alloc rfl rfl rfl zt41 rfl rfl fun h2 x2 f2 => ?_;have := e0.1;have := f1.1;have := f0.1;replace f1 := f1.ext x2;replace f0 := f0.ext x2;replace e0 := e0.trans x2;have := f2.1;apply gE;iterate 2 apply gS
  refine gR rfl ?_;refine gO rfl rfl (ld41 rfl f1 rfl) rfl ?_;refine GoR.call rfl rfl (aCF aFunc118 rfl) (hn _) ?_ np;rintro v3 h3 ⟨q, x3⟩;cases q;refine ⟨_, rfl, ?_⟩;replace f2 := f2.ext x3;replace f1 := f1.ext x3;replace f0 := f0.ext x3;replace e0 := e0.trans x3;apply gE;refine gC (b := false) rfl ?_;refine gD ?_;apply gS;refine gR rfl ?_;refine gO rfl rfl (ld41 rfl f1 rfl) rfl ?_;refine gO rfl rfl (fa121_0 rfl) rfl ?_;refine gO rfl rfl (fa110_0 rfl) rfl ?_;refine gO rfl rfl (ld41 rfl f0 rfl) rfl ?_;refine GoR.call rfl rfl (aCF aFunc83 rfl) (hm _) ?_ np;rintro v4 h4 ⟨q, x4⟩;cases q;refine ⟨_, rfl, ?_⟩;replace f2 := f2.ext x4;replace e0 := e0.trans x4;refine GoR.store rfl rfl rfl rfl rfl rfl f2 rfl sz41 rfl rfl rfl fun h5 u5 => ?_;replace f2 := u5.has f2;replace e0 := e0.upd u5 (by omega);apply gE;exact gV (ret_end (aResult_of Try.func116 rfl (aResults_cell rfl f2 (inCells_agg ag41 sz41 rfl))) ⟨rfl, e0⟩)
theorem back_at {n : Nat} {e : EV} (he : e.Ok n) {s : Int × Int} (hs : Small s) (h : AH) : ∃ f args, aInvokeIface Try.prog (evC e) "bogworks/clamp.back" [.agg (spC s)] h = some (.enter f args h) ∧ Runs Try.prog f args h (fun en h' => en = .ret (.agg (spC (e.back s))) ∧ Ext h h') := by
 unfold evC evA EV.back
 by_cases k0 : e.kind = 0
 ·rw [if_pos k0, if_pos k0]
  have ht : Small (e.lo, e.hi) := by unfold Small; have := he.2.1; dsimp only; omega
  exact ⟨116, [.agg [.int .i64 e.lo, .int .i64 e.hi, .int .i64 e.cl], .agg (spC s)], by kernel_rfl, saleBack_ok hs ht⟩
 ·rw [if_neg k0, if_neg k0];exact ⟨113, [.agg [.int .i64 e.lo, .int .i64 e.hi, .int .i64 e.cl], .agg (spC s)], by kernel_rfl, countBack_ok⟩
theorem forward_at {n : Nat} {e : EV} (he : e.Ok n) {s : Int × Int} (hs : Small s) (h : AH) : ∃ f args, aInvokeIface Try.prog (evC e) "bogworks/clamp.forward" [.agg (spC s)] h = some (.enter f args h) ∧ Runs Try.prog f args h (fun en h' => en = .ret (.agg (spC (e.fwd s))) ∧ Ext h h') := by
 unfold evC evA EV.fwd
 by_cases k0 : e.kind = 0
 ·rw [if_pos k0, if_pos k0]
  have ht : Small (e.lo, e.hi) := by unfold Small; have := he.2.1; dsimp only; omega
  exact ⟨117, [.agg [.int .i64 e.lo, .int .i64 e.hi, .int .i64 e.cl], .agg (spC s)], by kernel_rfl, saleForward_ok hs ht⟩
 ·rw [if_neg k0, if_neg k0];exact ⟨114, [.agg [.int .i64 e.lo, .int .i64 e.hi, .int .i64 e.cl], .agg (spC s)], by kernel_rfl, countForward_ok⟩
theorem own_next {F G G' : Nat → Prop} {h h1 : AH} (a : ∀ b, G' b → G b ∨ h1.next ≤ b) (c : ∀ b, G b → F b ∨ h.next ≤ b) (hn : h.next ≤ h1.next) : ∀ b, G' b → F b ∨ h.next ≤ b := fun b q => (a b q).elim (c b) fun q => .inr (by omega)
def intI (l : List Int) : List (List AVal) := l.map fun n => [.int .i64 n]
theorem intI_at {l : List Int} {k : Nat} {n : Int} (h : l[k]? = some n) : (intI l)[k]? = some [.int .i64 n] := by unfold intI; rw [List.getElem?_map, h]; rfl
theorem intI_len (l : List Int) : (intI l).length = l.length := by unfold intI; rw [List.length_map]
theorem each124_it {a b : Int} (ha : -1000 ≤ a ∧ a ≤ 1000) (hb : -1000 ≤ b ∧ b ≤ 1000) : IterN Try.prog 74 [.agg (spC (a, b))] [] (intI (upto a b)) (fun _ => True) := by
 intro y base J E h F hyc hys hA hbase T j0
 show Runs Try.prog 74 [.agg (spC (a, b)), y] h _
 obtain ⟨n, hn⟩ : ∃ n, (b - a + 1).toNat = n := ⟨_, rfl⟩
 have hlen : (intI (upto a b)).length = n := by rw [intI_len]; simp [upto, hn]
 rw [hlen]
 have hat : ∀ {k : Nat}, k < n → (intI (upto a b))[k]? = some [.int .i64 (a + k)] := fun hk => by
  refine intI_at ?_
  unfold upto
  rw [hn, List.getElem?_map, List.getElem?_range hk]
  rfl
 have hSl : ∀ b, F b → b < h.next := fun b q => T.ltJ j0 q
 have hnS : ¬ F h.next := fun q => Nat.lt_irrefl _ (hSl _ q)
 unfold spC
 have e0 : Ext h h := Ext.refl _
 refine Runs.intro aFunc74 rfl rfl rfl rfl fun rest => ?_;apply gS;refine gR rfl ?_;refine GoR.box rfl rfl rfl rfl rfl rfl fun h0 x0 f0 => ?_;have := e0.1;replace e0 := e0.trans x0;have := f0.1;apply gE;apply gS;refine gR rfl ?_;refine gO rfl rfl (fa41_0 rfl) rfl ?_;refine gO rfl rfl (fa23_0 rfl) rfl ?_;refine gO rfl rfl (ld3 rfl f0 rfl) rfl ?_;refine gP ?_;apply gE;refine Go.block noJ_ok ?_
 have hlt := f0.1
 refine Go.loopKeep (fun a' : Nat × (Nat → Prop) => [(1, y), (2, .ptr h.next 0), (4, .int .i64 (a + (a'.1 : Nat)))]) (fun m a' h' => m + a'.1 = n ∧ ExtF F h h' ∧ (∀ b, a'.2 b → F b ∨ h.next ≤ b) ∧ ¬ a'.2 h.next ∧ Has h' h.next (.cells .plain [.int .i64 a, .int .i64 b] 41) ∧ J a'.1 h' a'.2) (n := n) (0, F) ⟨rfl, rfl, (by simp; rfl), trivial⟩ ⟨rfl, ExtF.of e0, fun b q => .inl q, hnS, f0, T.ext j0 e0⟩ ?_;clear e0 f0;rintro m ⟨k, G⟩ h1 ⟨hm, x1, hG, hnG, f0, j1⟩ again
 dsimp only at hm hG hnG j1 ⊢
 have e0 : Ext h1 h1 := Ext.refl _
 have hx1 := x1.1
 by_cases hk : k < n
 ·obtain ⟨ax, a1, a2, a3⟩ := T.take (hat hk) j1
  have hb0 := f0.1
  iterate 2 apply gS
  refine gR rfl ?_;refine gP ?_;refine gO rfl rfl (fa41_0 rfl) rfl ?_;refine gO rfl rfl (fa23_1 rfl) rfl ?_;refine gO rfl rfl (ld3 rfl f0 rfl) rfl ?_;refine gO rfl rfl (kMT rfl rfl) rfl ?_;apply gE;refine gC (b := true) rfl ?_;refine gD ?_;apply gS;refine Go.block noJ_ok ?_;apply gS;refine gR rfl ?_;iterate 2 refine gP ?_
  refine GoR.does rfl rfl (aOp_callY rfl rfl a1) a2 a3 ?_ (by rintro _ _ ⟨_, _, _, ⟨q, _⟩ | ⟨q, _⟩⟩ <;> cases q);rintro v h6 ⟨x6, G', hG', ⟨q, j6⟩ | ⟨q, e6⟩⟩
  ·cases q;refine ⟨_, rfl, ?_⟩
   have y6 := x1.trans hG x6
   replace f0 := f0.extF x6 hnG;clear e0;refine gP ?_;apply gE;refine gC (b := false) rfl ?_;refine gD ?_;refine Go.inBlock noJ_ok ?_;refine gR rfl ?_;refine gP ?_;refine gO rfl rfl (aA rfl rfl) rfl ?_;refine gP ?_;apply gE;exact again (m - 1) (k + 1, G') _ _ (by omega) ⟨rfl, rfl, (by show _ = some (AVal.int .i64 (a + ((k + 1 : Nat) : Int))); rw [show a + ((k + 1 : Nat) : Int) = a + (k : Nat) + 1 by omega]; rfl), trivial⟩ ⟨by dsimp only; omega, y6, own_next hG' hG hx1, fun q => (hG' _ q).elim hnG fun q => by omega, f0, j6⟩
  ·cases q;refine ⟨_, rfl, ?_⟩;clear f0 e0;refine gP ?_;apply gE;refine gC (b := true) rfl ?_;exact gV (ret_end (aResult_of Try.func74 rfl rfl) ⟨rfl, x1.trans hG x6, G', own_next hG' hG hx1, .inr ⟨k, hk, e6⟩⟩)
 ·have hkn : k = n := by omega
  subst hkn;iterate 2 apply gS
  refine gR rfl ?_;refine gP ?_;refine gO rfl rfl (fa41_0 rfl) rfl ?_;refine gO rfl rfl (fa23_1 rfl) rfl ?_;refine gO rfl rfl (ld3 rfl f0 rfl) rfl ?_;refine gO rfl rfl (kMF rfl rfl) rfl ?_;apply gE;refine gC (b := false) rfl ?_;refine gD ?_;exact Go.endL (FLeft.ret (v := .tuple []) (aResult_of Try.func74 rfl rfl) ⟨rfl, x1, G, hG, .inl j1⟩)
theorem back137_ok {s : AVal} (hs : scalars [s] = true ∧ s.cells = [s]) {h : AH} : Runs Try.prog 92 [s] h (fun en h' => ∃ bb, en = .ret (.func (.func 96) [] [.ptr bb 0]) ∧ Ext h h' ∧ h.next ≤ bb ∧ Has h' bb (.cells .plain [s] 42)) := by
 obtain ⟨hs1, hs2⟩ := hs
 have e0 : Ext h h := Ext.refl _
 refine Runs.intro aFunc92 rfl rfl rfl rfl fun rest => ?_;apply gS;refine gR rfl ?_;refine GoR.box rfl rfl rfl rfl rfl rfl fun h0 x0 f0 => ?_;replace e0 := e0.trans x0;refine gP ?_;apply gE;apply gS;refine gR rfl ?_;iterate 2 refine gP ?_
 apply gE;exact gV (ret_end (aResult_of Try.func92 rfl rfl) ⟨_, rfl, e0, Nat.le_refl _, by rw [hs2] at f0; exact f0⟩)
def backI (vs : List AVal) : List (List AVal) := (List.range vs.length).map fun k : Nat => [.int .i64 ((vs.length - 1 - k : Nat) : Int), (vs[vs.length - 1 - k]?).getD .nilslice]
theorem backI_len (vs : List AVal) : (backI vs).length = vs.length := by unfold backI; simp
theorem backI_at {vs : List AVal} {k i : Nat} (hk : k + i + 1 = vs.length) {v : AVal} (hv : vs[i]? = some v) : (backI vs)[k]? = some [.int .i64 (i : Int), v] := by
 unfold backI
 rw [List.getElem?_map, List.getElem?_range (by omega), Option.map_some, show vs.length - 1 - k = i by omega, hv]
 rfl
theorem back141_it {s : AVal} {vs : List AVal} (hn : vs.length ≤ 100) (bb : Nat) : IterN Try.prog 96 [] [.ptr bb 0] (backI vs) (fun h => Has h bb (.cells .plain [s] 42) ∧ SliceOf h 1 s (vs.map fun v => [v])) := by
 intro y base J E h F hyc hys hA hbase T j0
 show Runs Try.prog 96 [y, .ptr bb 0] h _
 rw [backI_len]
 have e0 : Ext h h := Ext.refl _
 obtain ⟨f0, S0⟩ := hA h (ExtF.of e0)
 have hl0 := S0.len
 rw [List.length_map] at hl0;refine Runs.intro aFunc96 rfl rfl rfl rfl fun rest => ?_;apply gS;refine gR rfl ?_;refine gO rfl rfl (ld42 rfl f0 rfl) rfl ?_;refine gO rfl rfl (aOp_lenSlice Try.underlying42 rfl hl0) rfl ?_;refine gO rfl rfl (aS rfl rfl) rfl ?_;refine gP ?_;apply gE;refine Go.block noJ_ok ?_;refine Go.loopKeep (fun a' : Nat × (Nat → Prop) => [(0, y), (1, .ptr bb 0), (3, .int .i64 ((vs.length : Int) - 1 - (a'.1 : Nat)))]) (fun m a' h' => m + a'.1 = vs.length ∧ ExtF F h h' ∧ (∀ b, a'.2 b → F b ∨ h.next ≤ b) ∧ J a'.1 h' a'.2) (n := vs.length) (0, F) ⟨rfl, rfl, (by show _ = some (AVal.int .i64 ((vs.length : Int) - 1 - ((0 : Nat) : Int))); rw [show (vs.length : Int) - 1 - ((0 : Nat) : Int) = (vs.length : Int) - 1 by omega]; rfl), trivial⟩ ⟨rfl, ExtF.of e0, fun b q => .inl q, j0⟩ ?_;clear e0 f0 S0;rintro m ⟨k, G⟩ h1 ⟨hm, x1, hG, j1⟩ again
 dsimp only at hm hG j1 ⊢
 have e0 : Ext h1 h1 := Ext.refl _
 obtain ⟨f0, S0⟩ := hA h1 x1
 have hx1 := x1.1
 by_cases hk : k < vs.length
 ·obtain ⟨i, hi⟩ : ∃ i : Nat, k + i + 1 = vs.length := ⟨vs.length - 1 - k, by omega⟩
  have hii : (vs.length : Int) - 1 - (k : Nat) = (i : Nat) := by omega
  obtain ⟨v, hv⟩ : ∃ v, vs[i]? = some v := ⟨vs[i]'(by omega), by simp⟩
  obtain ⟨ax, a1, a2, a3⟩ := T.take (backI_at hi hv) j1
  obtain ⟨bq, off, q1, q2⟩ := S0.at (i := i) (l := [v]) (by rw [List.getElem?_map, hv]; rfl)
  rw [List.length_map] at q1;rw [hii];iterate 2 apply gS
  refine gR rfl ?_;refine gP ?_;refine gO rfl rfl (kNT rfl rfl) rfl ?_;apply gE;refine gC (b := true) rfl ?_;refine gD ?_;apply gS;refine Go.block noJ_ok ?_;apply gS;refine gR rfl ?_;iterate 2 refine gP ?_
  refine gO rfl rfl (ld42 rfl f0 rfl) rfl ?_;refine gP ?_;refine gO rfl rfl (aOp_indexAddr (i := i) Try.underlying42 sz97 rfl q1 rfl (Nat.ble_eq_true_of_le (by omega))) rfl ?_;refine gO rfl rfl ((aOp_loadE1 (k := 0) ag97 rfl q2 rfl)) rfl ?_;refine GoR.does rfl rfl (aOp_callY rfl rfl a1) a2 a3 ?_ (by rintro _ _ ⟨_, _, _, ⟨q, _⟩ | ⟨q, _⟩⟩ <;> cases q);rintro v h6 ⟨x6, G', hG', ⟨q, j6⟩ | ⟨q, e6⟩⟩
  ·cases q;refine ⟨_, rfl, ?_⟩
   have y6 := x1.trans hG x6
   clear f0 S0 e0 q2;refine gP ?_;apply gE;refine gC (b := false) rfl ?_;refine gD ?_;refine Go.inBlock noJ_ok ?_;refine gR rfl ?_;refine gP ?_;refine gO rfl rfl (aS rfl rfl) rfl ?_;refine gP ?_;apply gE;exact again (m - 1) (k + 1, G') _ _ (by omega) ⟨rfl, rfl, (by show _ = some (AVal.int .i64 ((vs.length : Int) - 1 - ((k + 1 : Nat) : Int))); rw [show (vs.length : Int) - 1 - ((k + 1 : Nat) : Int) = (i : Nat) - 1 by omega]; rfl), trivial⟩ ⟨by dsimp only; omega, y6, own_next hG' hG hx1, j6⟩
  ·cases q;refine ⟨_, rfl, ?_⟩;clear f0 S0 e0 q2;refine gP ?_;apply gE;refine gC (b := true) rfl ?_;exact gV (ret_end (aResult_of Try.func96 rfl rfl) ⟨rfl, x1.trans hG x6, G', own_next hG' hG hx1, .inr ⟨k, hk, e6⟩⟩)
 ·have hkn : k = vs.length := by omega
  subst hkn;rw [show (vs.length : Int) - 1 - (vs.length : Nat) = -1 by omega];iterate 2 apply gS
  refine gR rfl ?_;refine gP ?_;refine gO rfl rfl (aOp_geq rfl rfl (r := false) rfl) rfl ?_;apply gE;refine gC (b := false) rfl ?_;refine gD ?_;exact Go.endL (FLeft.ret (v := .tuple []) (aResult_of Try.func96 rfl rfl) ⟨rfl, x1, G, hG, .inl j1⟩)
theorem fm_at {α : Type} {f : Nat → List α} {N m i : Nat} {x : α} (hm : m < N) (hx : (f m)[i]? = some x) : ((List.range N).flatMap f)[((List.range m).flatMap f).length + i]? = some x := by
 have h1 : List.range N = List.range m ++ (m :: (List.range (N - (m + 1))).map (· + (m + 1))) := by
  have : N = m + (1 + (N - (m + 1))) := by omega
  conv => lhs; rw [this, List.range_add, List.range_add]
  simp only [List.map_append, List.map_map]
  congr 1
  simp only [List.range_one, List.map_cons, List.map_nil, List.cons_append, List.nil_append, Nat.add_zero]
  congr 1
  refine List.map_congr_left fun k _ => ?_
  simp only [Function.comp_apply]
  omega
 have hi := (List.getElem?_eq_some_iff.1 hx).1
 rw [h1, List.flatMap_append, List.flatMap_cons, List.getElem?_append_right (by omega), Nat.add_sub_cancel_left, List.getElem?_append_left hi];exact hx
theorem fm_succ {α : Type} (f : Nat → List α) (m : Nat) : ((List.range (m + 1)).flatMap f).length = ((List.range m).flatMap f).length + (f m).length := by
 rw [List.range_succ, List.flatMap_append, List.length_append]
 simp
def szC (p : PV) (a b n : Nat) : List Int := (List.range n).map fun c : Nat => (p.ll + a) * (p.wl + b) * (p.hl + c)
def szB (p : PV) (a n : Nat) : List Int := (List.range n).flatMap fun b => szC p a b (p.hh - p.hl + 1).toNat
def szA (p : PV) (n : Nat) : List Int := (List.range n).flatMap fun a => szB p a (p.wh - p.wl + 1).toNat
theorem sizes_is (p : PV) : p.sizes = szA p (p.lh - p.ll + 1).toNat := by
 unfold PV.sizes upto szA szB szC
 simp only [List.flatMap_map, List.map_map]
 rfl
theorem szA_succ (p : PV) (n : Nat) : (szA p (n + 1)).length = (szA p n).length + (szB p n (p.wh - p.wl + 1).toNat).length := fm_succ _ _
theorem szB_succ (p : PV) (a n : Nat) : (szB p a (n + 1)).length = (szB p a n).length + (p.hh - p.hl + 1).toNat := by
 unfold szB
 rw [fm_succ]
 congr 1
 simp [szC]
theorem sizes_at {p : PV} {a b c A : Nat} (ha : a < A) (hb : b < (p.wh - p.wl + 1).toNat) (hc : c < (p.hh - p.hl + 1).toNat) : (szA p A)[(szA p a).length + ((szB p a b).length + c)]? = some ((p.ll + a) * (p.wl + b) * (p.hl + c)) := by
 refine fm_at ha ?_;refine fm_at hb ?_
 unfold szC
 rw [List.getElem?_map, List.getElem?_range hc]
 rfl
structure SizesA (p : PV) (bb : Nat) (h : AH) : Prop where
 f : Has h bb (.cells .plain p.cells 52)
theorem sizes122_ok {p : PV} {h : AH} : Runs Try.prog 72 [.agg p.cells] h (fun en h' => ∃ bb, en = .ret (.func (.func 93) [] [.ptr bb 0]) ∧ Ext h h' ∧ h.next ≤ bb ∧ SizesA p bb h') := by
 unfold PV.cells
 have e0 : Ext h h := Ext.refl _
 refine Runs.intro aFunc72 rfl rfl rfl rfl fun rest => ?_;apply gS;refine gR rfl ?_;refine GoR.box rfl rfl rfl rfl rfl rfl fun h0 x0 f0 => ?_;replace e0 := e0.trans x0;refine gP ?_;apply gE;apply gS;refine gR rfl ?_;iterate 2 refine gP ?_
 apply gE;exact gV (ret_end (aResult_of Try.func72 rfl rfl) ⟨_, rfl, e0, Nat.le_refl _, ⟨f0⟩⟩)
theorem sizes138_it {p : PV} (hp : p.Ok) (bb : Nat) : IterN Try.prog 93 [] [.ptr bb 0] (intI p.sizes) (SizesA p bb) := by
 intro y base J E h F hyc hys hA hbase T j0
 show Runs Try.prog 93 [y, .ptr bb 0] h _
 rw [intI_len];rw [sizes_is] at *
 obtain ⟨o1, o2, o3⟩ := hp
 unfold FeetOk at o1 o2 o3
 obtain ⟨A, hAn⟩ : ∃ A, (p.lh - p.ll + 1).toNat = A := ⟨_, rfl⟩
 obtain ⟨B, hBn⟩ : ∃ B, (p.wh - p.wl + 1).toNat = B := ⟨_, rfl⟩
 obtain ⟨C, hCn⟩ : ∃ C, (p.hh - p.hl + 1).toNat = C := ⟨_, rfl⟩
 have hat : ∀ {a b c : Nat}, a < A → b < B → c < C → _ := fun ha hb hc => sizes_at (p := p) (A := A) ha (hBn ▸ hb) (hCn ▸ hc)
 have hsA : ∀ a, (szA p (a + 1)).length = (szA p a).length + (szB p a B).length := fun a => hBn ▸ szA_succ p a
 have hsB : ∀ a b, (szB p a (b + 1)).length = (szB p a b).length + C := fun a b => hCn ▸ szB_succ p a b
 rw [hAn] at T ⊢
 have hF : ∀ {h' : AH}, ExtF F h h' → Has h' bb (.cells .plain [.int .i64 p.ll, .int .i64 p.lh, .int .i64 p.wl, .int .i64 p.wh, .int .i64 p.hl, .int .i64 p.hh] 52) := fun x => (hA _ x).f
 have e0 : Ext h h := Ext.refl _
 have f0 := hF (ExtF.of e0)
 refine Runs.intro aFunc93 rfl rfl rfl rfl fun rest => ?_;apply gS;refine gR rfl ?_;refine gO rfl rfl (fa52_0 rfl) rfl ?_;refine gO rfl rfl (fa23_0 rfl) rfl ?_;refine gO rfl rfl (ld3 rfl f0 rfl) rfl ?_;refine gP ?_;apply gE;refine Go.block noJ_ok ?_;refine Go.loopKeep (fun a : Nat × (Nat → Prop) => [(0, y), (1, .ptr bb 0), (3, .int .i64 (p.ll + (a.1 : Nat)))]) (fun m a h' => m + a.1 = A ∧ ExtF F h h' ∧ (∀ b, a.2 b → F b ∨ h.next ≤ b) ∧ J (szA p a.1).length h' a.2) (n := A) (0, F) ⟨rfl, rfl, (by simp; rfl), trivial⟩ ⟨rfl, ExtF.of e0, fun b q => .inl q, T.ext j0 e0⟩ ?_;clear e0 f0;rintro m ⟨a, G⟩ h1 ⟨hm, x1, hG, j1⟩ again
 dsimp only at hm hG j1 ⊢
 have e0 : Ext h1 h1 := Ext.refl _
 have f0 := hF x1
 by_cases ha : a < A
 ·iterate 2 apply gS
  refine gR rfl ?_;refine gP ?_;refine gO rfl rfl (fa52_0 rfl) rfl ?_;refine gO rfl rfl (fa23_1 rfl) rfl ?_;refine gO rfl rfl (ld3 rfl f0 rfl) rfl ?_;refine gO rfl rfl (kMT rfl rfl) rfl ?_;apply gE;refine gC (b := true) rfl ?_;refine gD ?_;apply gS;refine Go.block noJ_ok ?_;apply gS;refine gR rfl ?_;refine gO rfl rfl (fa52_1 rfl) rfl ?_;refine gO rfl rfl (fa23_0 rfl) rfl ?_;refine gO rfl rfl (ld3 rfl f0 rfl) rfl ?_;refine gP ?_;apply gE;refine Go.block noJ_ok ?_;refine Go.loopKeep (fun b : Nat × (Nat → Prop) => [(0, y), (1, .ptr bb 0), (3, .int .i64 (p.ll + (a : Nat))), (4, .int .i64 (p.wl + (b.1 : Nat)))]) (fun m b h' => m + b.1 = B ∧ ExtF F h h' ∧ (∀ c, b.2 c → F c ∨ h.next ≤ c) ∧ J ((szA p a).length + (szB p a b.1).length) h' b.2) (n := B) (0, G) ⟨rfl, rfl, rfl, (by simp; rfl), trivial⟩ ⟨rfl, x1, hG, j1⟩ ?_;clear e0 f0 j1 x1 hG;rintro m2 ⟨b, G⟩ h2 ⟨hm2, x1, hG, j1⟩ again2
  dsimp only at hm2 hG j1 ⊢
  have e0 : Ext h2 h2 := Ext.refl _
  have f0 := hF x1
  by_cases hb' : b < B
  ·iterate 2 apply gS
   refine gR rfl ?_;refine gP ?_;refine gO rfl rfl (fa52_1 rfl) rfl ?_;refine gO rfl rfl (fa23_1 rfl) rfl ?_;refine gO rfl rfl (ld3 rfl f0 rfl) rfl ?_;refine gO rfl rfl (kMT rfl rfl) rfl ?_;apply gE;refine gC (b := true) rfl ?_;refine gD ?_;apply gS;refine Go.block noJ_ok ?_;apply gS;refine gR rfl ?_;refine gO rfl rfl (fa52_2 rfl) rfl ?_;refine gO rfl rfl (fa23_0 rfl) rfl ?_;refine gO rfl rfl (ld3 rfl f0 rfl) rfl ?_;refine gP ?_;apply gE;refine Go.block noJ_ok ?_;refine Go.loopKeep (fun c : Nat × (Nat → Prop) => [(0, y), (1, .ptr bb 0), (3, .int .i64 (p.ll + (a : Nat))), (4, .int .i64 (p.wl + (b : Nat))), (5, .int .i64 (p.hl + (c.1 : Nat)))]) (fun m c h' => m + c.1 = C ∧ ExtF F h h' ∧ (∀ b, c.2 b → F b ∨ h.next ≤ b) ∧ J ((szA p a).length + ((szB p a b).length + c.1)) h' c.2) (n := C) (0, G) ⟨rfl, rfl, rfl, rfl, (by simp; rfl), trivial⟩ ⟨rfl, x1, hG, j1⟩ ?_;clear e0 f0 j1 x1 hG;rintro m3 ⟨c, G⟩ h3 ⟨hm3, x1, hG, j1⟩ again3
   dsimp only at hm3 hG j1 ⊢
   have e0 : Ext h3 h3 := Ext.refl _
   have hx1 := x1.1
   have f0 := hF x1
   by_cases hc : c < C
   ·have hit := hat ha hb' hc
    have hlt := (List.getElem?_eq_some_iff.1 hit).1
    obtain ⟨l, hl⟩ : ∃ l : Int, p.ll + (a : Nat) = l := ⟨_, rfl⟩
    obtain ⟨w, hw⟩ : ∃ l : Int, p.wl + (b : Nat) = l := ⟨_, rfl⟩
    obtain ⟨z, hz⟩ : ∃ l : Int, p.hl + (c : Nat) = l := ⟨_, rfl⟩
    rw [hl, hw, hz] at hit ⊢
    have hpr := fun h bq (f : Has h bq (.cells .plain [.int .i64 l, .int .i64 w, .int .i64 z] 3)) => product3_ok (a := l) (c := w) (d := z) (by omega) (by omega) (by omega) f
    iterate 2 apply gS
    refine gR rfl ?_;refine gP ?_;refine gO rfl rfl (fa52_2 rfl) rfl ?_;refine gO rfl rfl (fa23_1 rfl) rfl ?_;refine gO rfl rfl (ld3 rfl f0 rfl) rfl ?_;refine gO rfl rfl (kMT rfl rfl) rfl ?_;apply gE;refine gC (b := true) rfl ?_;refine gD ?_;apply gS;refine Go.block noJ_ok ?_;apply gS;refine gR rfl ?_;iterate 4 refine gP ?_
    refine GoR.buildSl rfl rfl (ps := [(0, .int .i64 l), (1, .int .i64 w), (2, .int .i64 z)]) (cs := [.int .i64 l, .int .i64 w, .int .i64 z]) Try.underlying125 rfl sz3 zt3 rfl rfl rfl rfl fun h4 x4 f4 => ?_;have := e0.1;have := f0.1;replace f0 := f0.ext x4;replace e0 := e0.trans x4;have := f4.1;refine GoR.call rfl rfl (aCF aFunc78 rfl) (hpr _ _ (by assumption)) ?_ np;rintro v5 h5 ⟨q, x5⟩;cases q;refine ⟨_, rfl, ?_⟩;replace e0 := e0.trans x5
    obtain ⟨ax, a1, a2, a3⟩ := T.take (intI_at hit) (T.ext j1 e0)
    have hx5 := e0.1
    refine GoR.does rfl rfl (aOp_callY rfl rfl a1) a2 a3 ?_ (by rintro _ _ ⟨_, _, _, ⟨q, _⟩ | ⟨q, _⟩⟩ <;> cases q);rintro v h6 ⟨x6, G', hG', ⟨q, j6⟩ | ⟨q, e6⟩⟩
    ·cases q;refine ⟨_, rfl, ?_⟩
     have x9 := (x1.ext e0).trans hG x6
     clear f0 e0;refine gP ?_;apply gE;refine gC (b := false) rfl ?_;refine gD ?_;refine Go.inBlock noJ_ok ?_;refine gR rfl ?_;refine gP ?_;refine gO rfl rfl (aA rfl rfl) rfl ?_;refine gP ?_;apply gE;exact again3 (m3 - 1) (c + 1, G') _ _ (by omega) ⟨rfl, rfl, (by rw [hl]; rfl), (by rw [hw]; rfl), (by show _ = some (AVal.int .i64 (p.hl + ((c + 1 : Nat) : Int))); rw [show p.hl + ((c + 1 : Nat) : Int) = z + 1 by omega]; rfl), trivial⟩ ⟨by dsimp only; omega, x9, own_next hG' hG (by omega), j6⟩
    ·cases q;refine ⟨_, rfl, ?_⟩
     have x9 := (x1.ext e0).trans hG x6
     clear f0 e0;refine gP ?_;apply gE;refine gC (b := true) rfl ?_;exact gV (ret_end (aResult_of Try.func93 rfl rfl) ⟨rfl, x9, G', own_next hG' hG (by omega), .inr ⟨_, hlt, e6⟩⟩)
   ·iterate 2 apply gS
    refine gR rfl ?_;refine gP ?_;refine gO rfl rfl (fa52_2 rfl) rfl ?_;refine gO rfl rfl (fa23_1 rfl) rfl ?_;refine gO rfl rfl (ld3 rfl f0 rfl) rfl ?_;refine gO rfl rfl (kMF rfl rfl) rfl ?_;apply gE;refine gC (b := false) rfl ?_;refine gD ?_;refine Go.inBlock noJ_ok ?_;refine gR rfl ?_;refine gP ?_;refine gO rfl rfl (aA rfl rfl) rfl ?_;refine gP ?_;apply gE
    have hcn : c = C := by omega
    exact again2 (m2 - 1) (b + 1, G) _ _ (by omega) ⟨rfl, rfl, rfl, (by simp [Int.add_assoc]; rfl), trivial⟩ ⟨by dsimp only; omega, x1, hG, by rw [hsB, ← hcn]; exact j1⟩
  ·iterate 2 apply gS
   refine gR rfl ?_;refine gP ?_;refine gO rfl rfl (fa52_1 rfl) rfl ?_;refine gO rfl rfl (fa23_1 rfl) rfl ?_;refine gO rfl rfl (ld3 rfl f0 rfl) rfl ?_;refine gO rfl rfl (kMF rfl rfl) rfl ?_;apply gE;refine gC (b := false) rfl ?_;refine gD ?_;refine Go.inBlock noJ_ok ?_;refine gR rfl ?_;refine gP ?_;refine gO rfl rfl (aA rfl rfl) rfl ?_;refine gP ?_;apply gE
   have hbn : b = B := by omega
   exact again (m - 1) (a + 1, G) _ _ (by omega) ⟨rfl, rfl, (by simp [Int.add_assoc]; rfl), trivial⟩ ⟨by dsimp only; omega, x1, hG, by rw [hsA, ← hbn]; exact j1⟩
 ·have ha' : a = A := by omega
  rw [ha'] at j1;iterate 2 apply gS
  refine gR rfl ?_;refine gP ?_;refine gO rfl rfl (fa52_0 rfl) rfl ?_;refine gO rfl rfl (fa23_1 rfl) rfl ?_;refine gO rfl rfl (ld3 rfl f0 rfl) rfl ?_;refine gO rfl rfl (kMF rfl rfl) rfl ?_;apply gE;refine gC (b := false) rfl ?_;refine gD ?_;exact Go.endL (FLeft.ret (v := .tuple []) (aResult_of Try.func93 rfl rfl) ⟨rfl, x1, G, hG, .inl j1⟩)
end Go.Proofs.Ytobhkdgcciolmaa
