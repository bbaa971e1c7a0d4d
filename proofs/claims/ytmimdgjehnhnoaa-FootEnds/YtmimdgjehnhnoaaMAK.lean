import Derived.Test.YtmimdgjehnhnoaaMAJ
namespace Go.Proofs.Ytmimdgjehnhnoaa
open Go Go.AbsE
set_option linter.unusedSimpArgs false
set_option maxRecDepth 100000
set_option maxHeartbeats 0
set_option linter.unusedVariables false
theorem valid_yes {F : FootV} (O : F.Ok) {rsl hsl : AVal} {h : AH} (A : FootAt h F rsl hsl) : Runs Try.prog 82 [.agg (F.cells rsl hsl)] h (fun en h' => en = .ret (.bool true) ∧ Ext h h') := by
 have := O.nr
 have := O.nh
 have k := valid_ok A (by omega) (by omega)
 rw [(okB_iff F).2 O] at k
 exact k
theorem valid_no {F : FootV} (hno : ¬ F.Ok) {rsl hsl : AVal} {h : AH} (A : FootAt h F rsl hsl) (hb1 : F.rs.length ≤ 40) (hb2 : F.hs.length ≤ 40) : Runs Try.prog 82 [.agg (F.cells rsl hsl)] h (fun en h' => en = .ret (.bool false) ∧ Ext h h') := by
 have k := valid_ok A hb1 hb2
 have : F.okB = false := by
  cases q : F.okB with
  | false => rfl
  | true => exact absurd ((okB_iff F).1 q) hno
 rw [this] at k;exact k
def refusal (code : Int) : List AEntry := [⟨.iface 115 (.int .i64 code), false⟩]
theorem refuse_ok (b : Bool) (code : Int) (h : AH) : Runs Try.prog 59 [.bool b, .int .i64 code] h (fun en h' => h' = h ∧ ((b = false ∧ en = .ret (.tuple [])) ∨ (b = true ∧ en = .pan (refusal code)))) := by
 refine Runs.intro aFunc59 rfl rfl rfl rfl fun rest => ?_;refine Go.seq noJ_ok (gR rfl ?_);refine gP ?_
 cases b with
 | false =>
  refine GoR.end (gC (b := false) rfl (gD (Go.endL (FLeft.ret (v := .tuple []) ?_ ⟨rfl, .inl ⟨rfl, rfl⟩⟩))));exact aResult_of Try.func59 rfl rfl
 | true =>
  refine GoR.end (gC (b := true) rfl (gR rfl ?_));refine gP ?_;refine gP ?_;refine GoR.panic rfl rfl rfl (FLeft.pan ⟨rfl, .inr ⟨rfl, rfl⟩⟩)
theorem attempt_pan {rest : List AFr} {t : Tr AVal} {h : AH} {b : Nat} {c0 code : Int} {R : AEnd → AH → Prop} (ht : t.get (pth 4) = some (.ptr b 0)) (hb : Has h b (.cells .plain [.int .i64 c0] 32))
  (hR : ∀ h', h.next ≤ h'.next → (∀ x, x < h.next → x ≠ b → h'.get x = h.get x) → R (.ret (.int .i64 code)) h') :
  FLeft Try.prog ⟨42, 13, [.call (.func 81) [.ptr b 0] []], false, none, rest⟩ (.panicking (refusal code)) t h (Post Try.prog 42 rest R) := by
 refine FLeft.defer (fun q => by cases q) aFunc81 rfl rfl rfl rfl fun todo => ?_;refine Go.seq noJ_ok (gR rfl ?_);refine GoR.recover1 rfl rfl rfl rfl rfl ?_
 have y0 : ExtF (fun x => x = b) h h := ExtF.of (Ext.refl _)
 apply gE;refine Go.block noJ_ok ?_;apply gS;refine gR rfl ?_;refine gP ?_;apply gE;refine gC (b := false) rfl ?_;apply gS;refine gR rfl ?_;iterate 3 refine gP ?_
 apply gE;refine gC (b := true) rfl ?_;apply gS;refine gR rfl ?_;refine gP ?_;apply gE;refine gR rfl ?_;refine gP ?_;refine GoR.store rfl rfl rfl rfl rfl rfl hb rfl sz32 rfl rfl rfl fun h0 u0 => ?_;replace hb := u0.has hb;replace y0 := y0.upd u0 (.inl rfl);apply gE;refine Go.inBlock noJ_ok ?_;refine Go.endL ?_;refine FLeft.settle (v := .tuple []) (aResult_of Try.func81 rfl rfl) ?_;exact FLeft.ret (v := .int .i64 code) (aResult_of Try.func42 rfl (aResults_cell ht hb (inCells_one ag32 rfl))) (hR _ y0.1 fun x hx hn => y0.2 x hx hn) todo
theorem attempt_ret {rest : List AFr} {t : Tr AVal} {h : AH} {b : Nat} {code : Int} {R : AEnd → AH → Prop} (ht : t.get (pth 4) = some (.ptr b 0)) (hb : Has h b (.cells .plain [.int .i64 code] 32)) (hR : R (.ret (.int .i64 code)) h) :
  FLeft Try.prog ⟨42, 13, [.call (.func 81) [.ptr b 0] []], false, none, rest⟩ .returning t h (Post Try.prog 42 rest R) := by
 refine FLeft.defer (fun q => by cases q) aFunc81 rfl rfl rfl rfl fun todo => ?_;refine Go.seq noJ_ok (gR rfl ?_);refine GoR.recover0 rfl rfl rfl rfl rfl ?_;apply gE;refine Go.block noJ_ok ?_;apply gS;refine gR rfl ?_;refine gP ?_;apply gE;refine gC (b := true) rfl ?_;refine gR rfl ?_;refine gP ?_;apply gE;refine Go.inBlock noJ_ok ?_;refine Go.endL ?_;refine FLeft.settle (v := .tuple []) (aResult_of Try.func81 rfl rfl) ?_;exact FLeft.ret (v := .int .i64 code) (aResult_of Try.func42 rfl (aResults_cell ht hb (inCells_one ag32 rfl))) hR todo
theorem refuse_no (code : Int) (h : AH) : Runs Try.prog 59 [.bool false, .int .i64 code] h (fun en h' => en = .ret (.tuple []) ∧ Ext h h') :=
 (refuse_ok false code h).mono fun en h' k => by
  rcases k with ⟨rfl, ⟨_, q⟩ | ⟨q, _⟩⟩
  ·exact ⟨q, Ext.refl _⟩
  ·cases q
theorem refuse_yes (code : Int) (h : AH) : Runs Try.prog 59 [.bool true, .int .i64 code] h (fun en h' => en = .pan (refusal code) ∧ Ext h h') :=
 (refuse_ok true code h).mono fun en h' k => by
  rcases k with ⟨rfl, ⟨q, _⟩ | ⟨_, q⟩⟩
  ·cases q
  ·exact ⟨q, Ext.refl _⟩
theorem attempt_ok2 {F : FootV} (O : F.Ok) (rsl hsl : AVal) (h : AH) (A : FootAt h F rsl hsl) (W : FuncId) (fW : Func) (hfid : aFunc Try.prog W = some fW) (caps : List AVal) (S : Nat → Prop) (hS : ∀ b, S b → b < h.next) (T : Nat → Int → AH → Prop)
  (hbody : ∀ h', Ext h h' → Runs Try.prog W ([.agg (F.cells rsl hsl)] ++ caps) h' (fun en h'' => ExtF S h' h'' ∧ ((en = .ret (.tuple []) ∧ T h'.next 0 h'') ∨ ∃ code, en = .pan (refusal code) ∧ T h'.next code h''))) :
  Runs Try.prog 42 [.agg (F.cells rsl hsl), .func (.func W) [] caps] h (fun en h' => ∃ code n h2, en = .ret (.int .i64 code) ∧ T n code h2 ∧ ExtF S h h' ∧ h2.next ≤ h'.next ∧ h.next ≤ n ∧ n ≤ h2.next ∧ ∀ b, b < h2.next → b < h.next ∨ n ≤ b → h'.get b = h2.get b) := by
 unfold FootV.cells
 have hv := fun h A => valid_yes O (rsl := rsl) (hsl := hsl) (h := h) A
 unfold FootV.cells at hv
 have e0 : Ext h h := Ext.refl _
 refine Runs.intro aFunc42 rfl rfl rfl rfl fun rest => ?_;apply gS;refine gR rfl ?_;refine GoR.box rfl rfl rfl rfl rfl rfl fun h0 x0 f0 => ?_;have := e0.1;replace e0 := e0.trans x0;have := f0.1;refine GoR.alloc rfl rfl rfl zt32 rfl rfl fun h1 x1 f1 => ?_;have := e0.1;have := f0.1;replace f0 := f0.ext x1;replace e0 := e0.trans x1;have := f1.1;apply gE;apply gS;refine gR rfl ?_;refine gP ?_
 have hx0 := x0.1
 have hx1 := x1.1
 refine GoR.defer rfl rfl rfl rfl ?_;apply gE;apply gS;refine gR rfl ?_;refine gO rfl rfl (ld26 rfl f0 rfl) rfl ?_;refine GoR.call rfl rfl (aCF aFunc82 rfl) (hv _ (A.ext e0)) ?_ np;rintro v2 h2 ⟨q, x2⟩;cases q;refine ⟨_, rfl, ?_⟩;replace f1 := f1.ext x2;replace f0 := f0.ext x2;replace e0 := e0.trans x2;refine gP ?_;refine GoR.call rfl rfl (aCF aFunc59 rfl) (refuse_no 1 _) ?_ np;rintro v3 h3 ⟨q, x3⟩;cases q;refine ⟨_, rfl, ?_⟩;replace f1 := f1.ext x3;replace f0 := f0.ext x3;replace e0 := e0.trans x3;apply gE;apply gS;refine gR rfl ?_;refine gP ?_;refine gO rfl rfl (ld26 rfl f0 rfl) rfl ?_
 have he3 := e0.1
 have nf1 := f1.1
 have hnS : ¬ S h0.next := fun q => by have := hS _ q; omega
 refine GoR.callP rfl rfl (aOp_callVal rfl hfid rfl) (hbody h3 e0) ?_ ?_
 ·rintro v h4 ⟨x4, ⟨q, t4⟩ | ⟨code, q, _⟩⟩
  ·cases q;refine ⟨_, rfl, ?_⟩
   have hx4 := x4.1
   replace f1 := f1.extF x4 hnS
   have y9 : ExtF S h h4 := (ExtF.of e0).trans (fun _ q => .inl q) x4
   clear e0 f0;apply gE;apply gS;refine gR rfl ?_;refine GoR.store rfl rfl rfl rfl rfl rfl f1 rfl sz32 rfl rfl rfl fun h5 u5 => ?_;replace f1 := u5.has f1;replace y9 := y9.upd u5 (.inr (by omega));apply gE;exact Go.retL (attempt_ret rfl f1 ⟨0, h3.next, h4, rfl, t4, y9, by rw [u5.1]; exact Nat.le_refl _, he3, hx4, fun b _ hb => u5.2.2 b (by omega)⟩)
  ·cases q
 ·rintro chain h4 ⟨x4, ⟨q, _⟩ | ⟨code, q, t4⟩⟩
  ·cases q
  have q := AEnd.pan.inj q
  subst q
  have hx4 := x4.1
  refine attempt_pan rfl (f1.extF x4 hnS) fun h' n1 n2 => ⟨code, h3.next, h4, rfl, t4, ⟨by omega, fun b hb hbS => by rw [n2 b (by omega) (by omega), x4.2 b (by omega) hbS, e0.2 b hb]⟩, n1, he3, hx4, fun b hlt hb => n2 b hlt (by omega)⟩
theorem attempt_ok {F : FootV} (O : F.Ok) (rsl hsl : AVal) (h : AH) (A : FootAt h F rsl hsl) (W : FuncId) (fW : Func) (hfid : aFunc Try.prog W = some fW) (caps : List AVal) (S : Nat → Prop) (hS : ∀ b, S b → b < h.next) (T : Int → AH → Prop)
  (hbody : ∀ h', Ext h h' → Runs Try.prog W ([.agg (F.cells rsl hsl)] ++ caps) h' (fun en h'' => ExtF S h' h'' ∧ ((en = .ret (.tuple []) ∧ T 0 h'') ∨ ∃ code, en = .pan (refusal code) ∧ T code h''))) :
  Runs Try.prog 42 [.agg (F.cells rsl hsl), .func (.func W) [] caps] h (fun en h' => ∃ code h2, en = .ret (.int .i64 code) ∧ T code h2 ∧ ExtF S h h' ∧ h2.next ≤ h'.next ∧ ∀ b, b < h.next → h'.get b = h2.get b) :=
 (attempt_ok2 O rsl hsl h A W fW hfid caps S hS (fun _ => T) hbody).mono fun en h' ⟨code, n, h2, q, t, x, le, l1, l2, same⟩ => ⟨code, h2, q, t, x, le, fun b hb => same b (by omega) (.inl hb)⟩
theorem attempt_makes {F : FootV} (O : F.Ok) (rsl hsl : AVal) (h : AH) (A : FootAt h F rsl hsl) (W : FuncId) (fW : Func) (hfid : aFunc Try.prog W = some fW) (caps : List AVal) (S : Nat → Prop) (hS : ∀ b, S b → b < h.next) (T : Nat → AH → Prop)
  (hbody : ∀ h', Ext h h' → Runs Try.prog W ([.agg (F.cells rsl hsl)] ++ caps) h' (fun en h'' => en = .ret (.tuple []) ∧ ExtF S h' h'' ∧ T h'.next h'')) :
  Runs Try.prog 42 [.agg (F.cells rsl hsl), .func (.func W) [] caps] h (fun en h' => ∃ n h2, en = .ret (.int .i64 0) ∧ ExtF S h h' ∧ T n h2 ∧ h2.next ≤ h'.next ∧ h.next ≤ n ∧ n ≤ h2.next ∧ ∀ b, b < h2.next → b < h.next ∨ n ≤ b → h'.get b = h2.get b) :=
 (attempt_ok2 O rsl hsl h A W fW hfid caps S hS (fun n c h' => c = 0 ∧ T n h') fun h' e => (hbody h' e).mono fun en h'' ⟨q, x, t⟩ => ⟨x, .inl ⟨q, rfl, t⟩⟩).mono
  fun en h' ⟨c, n, h2, q, ⟨hc, t⟩, x, le, l1, l2, same⟩ => ⟨n, h2, by rw [q, hc], x, t, le, l1, l2, same⟩
theorem attempt_gives {F : FootV} (O : F.Ok) (rsl hsl : AVal) (h : AH) (A : FootAt h F rsl hsl) (W : FuncId) (fW : Func) (hfid : aFunc Try.prog W = some fW) (caps : List AVal) (code : Int)
  (hbody : ∀ h', Ext h h' → Runs Try.prog W ([.agg (F.cells rsl hsl)] ++ caps) h' (fun en h'' => en = .pan (refusal code) ∧ Ext h' h'')) :
  Runs Try.prog 42 [.agg (F.cells rsl hsl), .func (.func W) [] caps] h (fun en h' => en = .ret (.int .i64 code) ∧ Ext h h') :=
 (attempt_ok O rsl hsl h A W fW hfid caps (fun _ => False) (fun _ q => q.elim) (fun c _ => c = code) fun h' e => (hbody h' e).mono fun en h'' ⟨q, x⟩ => ⟨ExtF.of x, .inr ⟨code, q, rfl⟩⟩).mono
  fun en h' ⟨c, h2, q, hc, x, _, _⟩ => ⟨by rw [q, hc], x.1, fun b hb => x.2 b hb id⟩
theorem attempt_does {F : FootV} (O : F.Ok) (rsl hsl : AVal) (h : AH) (A : FootAt h F rsl hsl) (W : FuncId) (fW : Func) (hfid : aFunc Try.prog W = some fW) (caps : List AVal) (S : Nat → Prop) (hS : ∀ b, S b → b < h.next) (T : AH → Prop)
  (hT : ∀ h2 h', h2.next ≤ h'.next → (∀ b, b < h.next → h'.get b = h2.get b) → T h2 → T h')
  (hbody : ∀ h', Ext h h' → Runs Try.prog W ([.agg (F.cells rsl hsl)] ++ caps) h' (fun en h'' => en = .ret (.tuple []) ∧ ExtF S h' h'' ∧ T h'')) :
  Runs Try.prog 42 [.agg (F.cells rsl hsl), .func (.func W) [] caps] h (fun en h' => en = .ret (.int .i64 0) ∧ ExtF S h h' ∧ T h') :=
 (attempt_ok O rsl hsl h A W fW hfid caps S hS (fun c h' => c = 0 ∧ T h') fun h' e => (hbody h' e).mono fun en h'' ⟨q, x, t⟩ => ⟨x, .inl ⟨q, rfl, t⟩⟩).mono
  fun en h' ⟨c, h2, q, ⟨hc, t⟩, x, le, same⟩ => ⟨by rw [q, hc], x, hT h2 h' le same t⟩
theorem attempt_bad {F : FootV} (hno : ¬ F.Ok) (hb1 : F.rs.length ≤ 40) (hb2 : F.hs.length ≤ 40) (rsl hsl : AVal) (h : AH) (A : FootAt h F rsl hsl) (W : FuncId) (caps : List AVal) :
  Runs Try.prog 42 [.agg (F.cells rsl hsl), .func (.func W) [] caps] h (fun en h' => en = .ret (.int .i64 1) ∧ Ext h h') := by
 have hv := fun h A => valid_no hno (rsl := rsl) (hsl := hsl) (h := h) A hb1 hb2
 unfold FootV.cells at hv ⊢
 have e0 : Ext h h := Ext.refl _
 refine Runs.intro aFunc42 rfl rfl rfl rfl fun rest => ?_;apply gS;refine gR rfl ?_;refine GoR.box rfl rfl rfl rfl rfl rfl fun h0 x0 f0 => ?_;replace e0 := e0.trans x0;refine GoR.alloc rfl rfl rfl zt32 rfl rfl fun h1 x1 f1 => ?_;replace f0 := f0.ext x1;replace e0 := e0.trans x1;apply gE;apply gS;refine gR rfl ?_;refine gP ?_
 have hx0 := x0.1
 have hx1 := x1.1
 refine GoR.defer rfl rfl rfl rfl ?_;apply gE;apply gS;refine gR rfl ?_;refine gO rfl rfl (ld26 rfl f0 rfl) rfl ?_;refine GoR.call rfl rfl (aCF aFunc82 rfl) (hv _ (A.ext e0)) ?_ np;rintro v2 h2 ⟨q, x2⟩;cases q;refine ⟨_, rfl, ?_⟩;replace f1 := f1.ext x2;replace e0 := e0.trans x2;refine gP ?_;refine GoR.callP rfl rfl (aCF aFunc59 rfl) (refuse_ok true 1 _) (by rintro _ _ ⟨_, ⟨q, _⟩ | ⟨_, q⟩⟩ <;> cases q) ?_;rintro chain h9 ⟨rfl, ⟨q, _⟩ | ⟨_, q⟩⟩
 ·cases q
 have q := AEnd.pan.inj q
 subst q
 have hx9 := e0.1
 refine attempt_pan rfl f1 fun h' n1 n2 => ⟨rfl, ?_, fun b hb => by rw [n2 b (by omega) (by omega), e0.2 b hb]⟩
 omega
end Go.Proofs.Ytmimdgjehnhnoaa

namespace Go.Proofs.Ytmimdgjehnhnoaa
open Go Go.AbsE
set_option linter.unusedSimpArgs false
set_option maxRecDepth 100000
set_option maxHeartbeats 0
set_option linter.unusedVariables false
def Pl.Ord (n : Int) (p : Pl) : Prop := (p.a = -1 ∨ (0 ≤ p.a ∧ p.a ≤ n - 1)) ∧ (p.b = -1 ∨ (0 ≤ p.b ∧ p.b ≤ n - 1 ∧ 0 ≤ p.a ∧ p.a ≤ p.b - 1)) ∧ (p.c = -1 ∨ (0 ≤ p.c ∧ p.c ≤ n - 1 ∧ 0 ≤ p.b ∧ p.b ≤ p.c - 1))
instance (n : Int) (p : Pl) : Decidable (p.Ord n) := by unfold Pl.Ord; infer_instance
theorem inOrder_ok {a b c n : Int} (hn : 0 ≤ n ∧ n ≤ 1000) {h : AH} : Runs Try.prog 84 [.agg [.int .i64 a, .int .i64 b, .int .i64 c], .int .i64 n] h (fun en h' => en = .ret (.bool (decide (Pl.Ord n ⟨a, b, c⟩))) ∧ Ext h h') := by
 have e0 : Ext h h := Ext.refl _
 refine Runs.intro aFunc84 rfl rfl rfl rfl fun rest => ?_;apply gS;refine gR rfl ?_;refine GoR.box rfl rfl rfl rfl rfl rfl fun h0 x0 f0 => ?_;replace e0 := e0.trans x0;refine gP ?_;apply gE;iterate 2 apply gS
 refine gR rfl ?_;refine gO rfl rfl (ld83 rfl f0 rfl) rfl ?_;refine gP ?_;apply gE;refine Go.block noJ_ok ?_;refine Go.loop noJ_ok ?_;apply gS;refine gR rfl ?_;refine gO rfl rfl (kLT rfl rfl) rfl ?_;apply gE;apply gS;refine gC (b := true) rfl ?_;refine gD ?_;apply gS;refine Go.block noJ_ok ?_;apply gS;refine gR rfl ?_;refine gP ?_;refine gO rfl rfl (aOp_indexArr (i := 0) Try.underlying83 sz3 rfl rfl rfl (partT_one ag3 rfl)) rfl ?_;iterate 2 refine gP ?_
 apply gE;iterate 2 apply gS
 refine gR rfl ?_;refine gP ?_
 by_cases hs0 : (a : Int) = (-1 : Int)
 ·refine gO rfl rfl (kET rfl rfl) rfl ?_;apply gE;refine gC (b := true) rfl ?_;refine gD ?_;refine gR rfl ?_;refine gO rfl rfl (aA rfl rfl) rfl ?_;refine gP ?_;apply gE;refine Go.inLoop noJ_ok ?_;apply gS;refine gR rfl ?_;refine gO rfl rfl (kLT rfl rfl) rfl ?_;apply gE;apply gS;refine gC (b := true) rfl ?_;refine gD ?_;apply gS;refine Go.block noJ_ok ?_;apply gS;refine gR rfl ?_;refine gP ?_;refine gO rfl rfl (aOp_indexArr (i := 1) Try.underlying83 sz3 rfl rfl rfl (partT_one ag3 rfl)) rfl ?_;iterate 2 refine gP ?_
  apply gE;iterate 2 apply gS
  refine gR rfl ?_;refine gP ?_
  by_cases hs1 : (b : Int) = (-1 : Int)
  ·refine gO rfl rfl (kET rfl rfl) rfl ?_;apply gE;refine gC (b := true) rfl ?_;refine gD ?_;refine gR rfl ?_;refine gO rfl rfl (aA rfl rfl) rfl ?_;refine gP ?_;apply gE;refine Go.inLoop noJ_ok ?_;apply gS;refine gR rfl ?_;refine gO rfl rfl (kLT rfl rfl) rfl ?_;apply gE;apply gS;refine gC (b := true) rfl ?_;refine gD ?_;apply gS;refine Go.block noJ_ok ?_;apply gS;refine gR rfl ?_;refine gP ?_;refine gO rfl rfl (aOp_indexArr (i := 2) Try.underlying83 sz3 rfl rfl rfl (partT_one ag3 rfl)) rfl ?_;iterate 2 refine gP ?_
   apply gE;iterate 2 apply gS
   refine gR rfl ?_;refine gP ?_
   by_cases hs2 : (c : Int) = (-1 : Int)
   ·refine gO rfl rfl (kET rfl rfl) rfl ?_;apply gE;refine gC (b := true) rfl ?_;refine gD ?_;refine gR rfl ?_;refine gO rfl rfl (aA rfl rfl) rfl ?_;refine gP ?_;apply gE;refine Go.inLoop noJ_ok ?_;apply gS;refine gR rfl ?_;refine gO rfl rfl (kLF rfl rfl) rfl ?_;apply gE;apply gS;refine gC (b := false) rfl ?_;refine gD ?_;apply gS;refine gR rfl ?_;refine gP ?_;apply gE;exact gV (ret_end (aResult_of Try.func84 rfl rfl) ⟨ret_true (by unfold Pl.Ord; dsimp only; omega), e0⟩)
   ·refine gO rfl rfl (kEF rfl rfl) rfl ?_;apply gE;refine gC (b := false) rfl ?_;refine gD ?_;apply gS;refine gR rfl ?_;iterate 2 refine gP ?_
    refine GoR.call rfl rfl (aCF aFunc94 rfl) (isDay_ok (by omega)) ?_ np;rintro v1 h1 ⟨q, x1⟩;cases q;refine ⟨_, rfl, ?_⟩;replace f0 := f0.ext x1;replace e0 := e0.trans x1;iterate 2 refine gP ?_
    by_cases hs3 : (0 : Int) ≤ c ∧ c ≤ n - (1 : Int)
    ·rw [decide_eq_true hs3];refine gP ?_;refine gO rfl rfl (kGT rfl rfl) rfl ?_;iterate 2 refine gP ?_
     refine gO rfl rfl (aS rfl rfl) rfl ?_;refine gO rfl rfl (aOp_indexAddrArr (i := 1) Try.underlying83 sz3 rfl rfl rfl) rfl ?_;refine gO rfl rfl (ld3 rfl f0 rfl) rfl ?_;refine gP ?_;refine gO rfl rfl (aS rfl rfl) rfl ?_;refine GoR.call rfl rfl (aCF aFunc83 rfl) (inside_is (r := false) (df (by omega))) ?_ np;rintro v2 h2 ⟨q, x2⟩;cases q;refine ⟨_, rfl, ?_⟩;replace e0 := e0.trans x2;iterate 3 refine gP ?_
     apply gE;refine gC (b := true) rfl ?_;apply gS;refine gR rfl ?_;refine gP ?_;apply gE;exact gV (ret_end (aResult_of Try.func84 rfl rfl) ⟨ret_false (by unfold Pl.Ord; dsimp only; omega), e0⟩)
    ·rw [decide_eq_false hs3];iterate 12 refine GoR.skip rfl rfl rfl ?_
     refine gP ?_;apply gE;refine gC (b := true) rfl ?_;apply gS;refine gR rfl ?_;refine gP ?_;apply gE;exact gV (ret_end (aResult_of Try.func84 rfl rfl) ⟨ret_false (by unfold Pl.Ord; dsimp only; omega), e0⟩)
  ·refine gO rfl rfl (kEF rfl rfl) rfl ?_;apply gE;refine gC (b := false) rfl ?_;refine gD ?_;apply gS;refine gR rfl ?_;iterate 2 refine gP ?_
   refine GoR.call rfl rfl (aCF aFunc94 rfl) (isDay_ok (by omega)) ?_ np;rintro v1 h1 ⟨q, x1⟩;cases q;refine ⟨_, rfl, ?_⟩;replace f0 := f0.ext x1;replace e0 := e0.trans x1;iterate 2 refine gP ?_
   by_cases hs2 : (0 : Int) ≤ b ∧ b ≤ n - (1 : Int)
   ·rw [decide_eq_true hs2];refine gP ?_;refine gO rfl rfl (kGT rfl rfl) rfl ?_;iterate 2 refine gP ?_
    refine gO rfl rfl (aS rfl rfl) rfl ?_;refine gO rfl rfl (aOp_indexAddrArr (i := 0) Try.underlying83 sz3 rfl rfl rfl) rfl ?_;refine gO rfl rfl (ld3 rfl f0 rfl) rfl ?_;refine gP ?_;refine gO rfl rfl (aS rfl rfl) rfl ?_;refine GoR.call rfl rfl (aCF aFunc83 rfl) (inside_is (r := false) (df (by omega))) ?_ np;rintro v2 h2 ⟨q, x2⟩;cases q;refine ⟨_, rfl, ?_⟩;replace e0 := e0.trans x2;iterate 3 refine gP ?_
    apply gE;refine gC (b := true) rfl ?_;apply gS;refine gR rfl ?_;refine gP ?_;apply gE;exact gV (ret_end (aResult_of Try.func84 rfl rfl) ⟨ret_false (by unfold Pl.Ord; dsimp only; omega), e0⟩)
   ·rw [decide_eq_false hs2];iterate 12 refine GoR.skip rfl rfl rfl ?_
    refine gP ?_;apply gE;refine gC (b := true) rfl ?_;apply gS;refine gR rfl ?_;refine gP ?_;apply gE;exact gV (ret_end (aResult_of Try.func84 rfl rfl) ⟨ret_false (by unfold Pl.Ord; dsimp only; omega), e0⟩)
 ·refine gO rfl rfl (kEF rfl rfl) rfl ?_;apply gE;refine gC (b := false) rfl ?_;refine gD ?_;apply gS;refine gR rfl ?_;iterate 2 refine gP ?_
  refine GoR.call rfl rfl (aCF aFunc94 rfl) (isDay_ok (by omega)) ?_ np;rintro v1 h1 ⟨q, x1⟩;cases q;refine ⟨_, rfl, ?_⟩;replace f0 := f0.ext x1;replace e0 := e0.trans x1;iterate 2 refine gP ?_
  by_cases hs1 : (0 : Int) ≤ a ∧ a ≤ n - (1 : Int)
  ·rw [decide_eq_true hs1];refine gP ?_;refine gO rfl rfl (kGF rfl rfl) rfl ?_;refine gP ?_;iterate 8 refine GoR.skip rfl rfl rfl ?_
   iterate 2 refine gP ?_
   apply gE;refine gC (b := false) rfl ?_;refine gD ?_;refine Go.inBlock noJ_ok ?_;refine gR rfl ?_;refine gO rfl rfl (aA rfl rfl) rfl ?_;refine gP ?_;apply gE;refine Go.inLoop noJ_ok ?_;apply gS;refine gR rfl ?_;refine gO rfl rfl (kLT rfl rfl) rfl ?_;apply gE;apply gS;refine gC (b := true) rfl ?_;refine gD ?_;apply gS;refine Go.block noJ_ok ?_;apply gS;refine gR rfl ?_;refine gP ?_;refine gO rfl rfl (aOp_indexArr (i := 1) Try.underlying83 sz3 rfl rfl rfl (partT_one ag3 rfl)) rfl ?_;iterate 2 refine gP ?_
   apply gE;iterate 2 apply gS
   refine gR rfl ?_;refine gP ?_
   by_cases hs2 : (b : Int) = (-1 : Int)
   ·refine gO rfl rfl (kET rfl rfl) rfl ?_;apply gE;refine gC (b := true) rfl ?_;refine gD ?_;refine gR rfl ?_;refine gO rfl rfl (aA rfl rfl) rfl ?_;refine gP ?_;apply gE;refine Go.inLoop noJ_ok ?_;apply gS;refine gR rfl ?_;refine gO rfl rfl (kLT rfl rfl) rfl ?_;apply gE;apply gS;refine gC (b := true) rfl ?_;refine gD ?_;apply gS;refine Go.block noJ_ok ?_;apply gS;refine gR rfl ?_;refine gP ?_;refine gO rfl rfl (aOp_indexArr (i := 2) Try.underlying83 sz3 rfl rfl rfl (partT_one ag3 rfl)) rfl ?_;iterate 2 refine gP ?_
    apply gE;iterate 2 apply gS
    refine gR rfl ?_;refine gP ?_
    by_cases hs3 : (c : Int) = (-1 : Int)
    ·refine gO rfl rfl (kET rfl rfl) rfl ?_;apply gE;refine gC (b := true) rfl ?_;refine gD ?_;refine gR rfl ?_;refine gO rfl rfl (aA rfl rfl) rfl ?_;refine gP ?_;apply gE;refine Go.inLoop noJ_ok ?_;apply gS;refine gR rfl ?_;refine gO rfl rfl (kLF rfl rfl) rfl ?_;apply gE;apply gS;refine gC (b := false) rfl ?_;refine gD ?_;apply gS;refine gR rfl ?_;refine gP ?_;apply gE;exact gV (ret_end (aResult_of Try.func84 rfl rfl) ⟨ret_true (by unfold Pl.Ord; dsimp only; omega), e0⟩)
    ·refine gO rfl rfl (kEF rfl rfl) rfl ?_;apply gE;refine gC (b := false) rfl ?_;refine gD ?_;apply gS;refine gR rfl ?_;iterate 2 refine gP ?_
     refine GoR.call rfl rfl (aCF aFunc94 rfl) (isDay_ok (by omega)) ?_ np;rintro v2 h2 ⟨q, x2⟩;cases q;refine ⟨_, rfl, ?_⟩;replace f0 := f0.ext x2;replace e0 := e0.trans x2;iterate 2 refine gP ?_
     by_cases hs4 : (0 : Int) ≤ c ∧ c ≤ n - (1 : Int)
     ·rw [decide_eq_true hs4];refine gP ?_;refine gO rfl rfl (kGT rfl rfl) rfl ?_;iterate 2 refine gP ?_
      refine gO rfl rfl (aS rfl rfl) rfl ?_;refine gO rfl rfl (aOp_indexAddrArr (i := 1) Try.underlying83 sz3 rfl rfl rfl) rfl ?_;refine gO rfl rfl (ld3 rfl f0 rfl) rfl ?_;refine gP ?_;refine gO rfl rfl (aS rfl rfl) rfl ?_;refine GoR.call rfl rfl (aCF aFunc83 rfl) (inside_is (r := false) (df (by omega))) ?_ np;rintro v3 h3 ⟨q, x3⟩;cases q;refine ⟨_, rfl, ?_⟩;replace e0 := e0.trans x3;iterate 3 refine gP ?_
      apply gE;refine gC (b := true) rfl ?_;apply gS;refine gR rfl ?_;refine gP ?_;apply gE;exact gV (ret_end (aResult_of Try.func84 rfl rfl) ⟨ret_false (by unfold Pl.Ord; dsimp only; omega), e0⟩)
     ·rw [decide_eq_false hs4];iterate 12 refine GoR.skip rfl rfl rfl ?_
      refine gP ?_;apply gE;refine gC (b := true) rfl ?_;apply gS;refine gR rfl ?_;refine gP ?_;apply gE;exact gV (ret_end (aResult_of Try.func84 rfl rfl) ⟨ret_false (by unfold Pl.Ord; dsimp only; omega), e0⟩)
   ·refine gO rfl rfl (kEF rfl rfl) rfl ?_;apply gE;refine gC (b := false) rfl ?_;refine gD ?_;apply gS;refine gR rfl ?_;iterate 2 refine gP ?_
    refine GoR.call rfl rfl (aCF aFunc94 rfl) (isDay_ok (by omega)) ?_ np;rintro v2 h2 ⟨q, x2⟩;cases q;refine ⟨_, rfl, ?_⟩;replace f0 := f0.ext x2;replace e0 := e0.trans x2;iterate 2 refine gP ?_
    by_cases hs3 : (0 : Int) ≤ b ∧ b ≤ n - (1 : Int)
    ·rw [decide_eq_true hs3];refine gP ?_;refine gO rfl rfl (kGT rfl rfl) rfl ?_;iterate 2 refine gP ?_
     refine gO rfl rfl (aS rfl rfl) rfl ?_;refine gO rfl rfl (aOp_indexAddrArr (i := 0) Try.underlying83 sz3 rfl rfl rfl) rfl ?_;refine gO rfl rfl (ld3 rfl f0 rfl) rfl ?_;refine gP ?_;refine gO rfl rfl (aS rfl rfl) rfl ?_;refine GoR.call rfl rfl (aCF aFunc83 rfl) (inside_ok) ?_ np;rintro v3 h3 ⟨q, x3⟩;cases q;refine ⟨_, rfl, ?_⟩;replace f0 := f0.ext x3;replace e0 := e0.trans x3;iterate 3 refine gP ?_
     apply gE
     by_cases hs4 : (0 : Int) ≤ a ∧ a ≤ b - (1 : Int)
     ·rw [decide_eq_true hs4];refine gC (b := false) rfl ?_;refine gD ?_;refine Go.inBlock noJ_ok ?_;refine gR rfl ?_;refine gO rfl rfl (aA rfl rfl) rfl ?_;refine gP ?_;apply gE;refine Go.inLoop noJ_ok ?_;apply gS;refine gR rfl ?_;refine gO rfl rfl (kLT rfl rfl) rfl ?_;apply gE;apply gS;refine gC (b := true) rfl ?_;refine gD ?_;apply gS;refine Go.block noJ_ok ?_;apply gS;refine gR rfl ?_;refine gP ?_;refine gO rfl rfl (aOp_indexArr (i := 2) Try.underlying83 sz3 rfl rfl rfl (partT_one ag3 rfl)) rfl ?_;iterate 2 refine gP ?_
      apply gE;iterate 2 apply gS
      refine gR rfl ?_;refine gP ?_
      by_cases hs5 : (c : Int) = (-1 : Int)
      ·refine gO rfl rfl (kET rfl rfl) rfl ?_;apply gE;refine gC (b := true) rfl ?_;refine gD ?_;refine gR rfl ?_;refine gO rfl rfl (aA rfl rfl) rfl ?_;refine gP ?_;apply gE;refine Go.inLoop noJ_ok ?_;apply gS;refine gR rfl ?_;refine gO rfl rfl (kLF rfl rfl) rfl ?_;apply gE;apply gS;refine gC (b := false) rfl ?_;refine gD ?_;apply gS;refine gR rfl ?_;refine gP ?_;apply gE;exact gV (ret_end (aResult_of Try.func84 rfl rfl) ⟨ret_true (by unfold Pl.Ord; dsimp only; omega), e0⟩)
      ·refine gO rfl rfl (kEF rfl rfl) rfl ?_;apply gE;refine gC (b := false) rfl ?_;refine gD ?_;apply gS;refine gR rfl ?_;iterate 2 refine gP ?_
       refine GoR.call rfl rfl (aCF aFunc94 rfl) (isDay_ok (by omega)) ?_ np;rintro v4 h4 ⟨q, x4⟩;cases q;refine ⟨_, rfl, ?_⟩;replace f0 := f0.ext x4;replace e0 := e0.trans x4;iterate 2 refine gP ?_
       by_cases hs6 : (0 : Int) ≤ c ∧ c ≤ n - (1 : Int)
       ·rw [decide_eq_true hs6];refine gP ?_;refine gO rfl rfl (kGT rfl rfl) rfl ?_;iterate 2 refine gP ?_
        refine gO rfl rfl (aS rfl rfl) rfl ?_;refine gO rfl rfl (aOp_indexAddrArr (i := 1) Try.underlying83 sz3 rfl rfl rfl) rfl ?_;refine gO rfl rfl (ld3 rfl f0 rfl) rfl ?_;refine gP ?_;refine gO rfl rfl (aS rfl rfl) rfl ?_;refine GoR.call rfl rfl (aCF aFunc83 rfl) (inside_ok) ?_ np;rintro v5 h5 ⟨q, x5⟩;cases q;refine ⟨_, rfl, ?_⟩;replace e0 := e0.trans x5;iterate 3 refine gP ?_
        apply gE
        by_cases hs7 : (0 : Int) ≤ b ∧ b ≤ c - (1 : Int)
        ·rw [decide_eq_true hs7];refine gC (b := false) rfl ?_;refine gD ?_;refine Go.inBlock noJ_ok ?_;refine gR rfl ?_;refine gO rfl rfl (aA rfl rfl) rfl ?_;refine gP ?_;apply gE;refine Go.inLoop noJ_ok ?_;apply gS;refine gR rfl ?_;refine gO rfl rfl (kLF rfl rfl) rfl ?_;apply gE;apply gS;refine gC (b := false) rfl ?_;refine gD ?_;apply gS;refine gR rfl ?_;refine gP ?_;apply gE;exact gV (ret_end (aResult_of Try.func84 rfl rfl) ⟨ret_true (by unfold Pl.Ord; dsimp only; omega), e0⟩)
        ·rw [decide_eq_false hs7];refine gC (b := true) rfl ?_;apply gS;refine gR rfl ?_;refine gP ?_;apply gE;exact gV (ret_end (aResult_of Try.func84 rfl rfl) ⟨ret_false (by unfold Pl.Ord; dsimp only; omega), e0⟩)
       ·rw [decide_eq_false hs6];iterate 12 refine GoR.skip rfl rfl rfl ?_
        refine gP ?_;apply gE;refine gC (b := true) rfl ?_;apply gS;refine gR rfl ?_;refine gP ?_;apply gE;exact gV (ret_end (aResult_of Try.func84 rfl rfl) ⟨ret_false (by unfold Pl.Ord; dsimp only; omega), e0⟩)
     ·rw [decide_eq_false hs4];refine gC (b := true) rfl ?_;apply gS;refine gR rfl ?_;refine gP ?_;apply gE;exact gV (ret_end (aResult_of Try.func84 rfl rfl) ⟨ret_false (by unfold Pl.Ord; dsimp only; omega), e0⟩)
    ·rw [decide_eq_false hs3];iterate 12 refine GoR.skip rfl rfl rfl ?_
     refine gP ?_;apply gE;refine gC (b := true) rfl ?_;apply gS;refine gR rfl ?_;refine gP ?_;apply gE;exact gV (ret_end (aResult_of Try.func84 rfl rfl) ⟨ret_false (by unfold Pl.Ord; dsimp only; omega), e0⟩)
  ·rw [decide_eq_false hs1];iterate 12 refine GoR.skip rfl rfl rfl ?_
   refine gP ?_;apply gE;refine gC (b := true) rfl ?_;apply gS;refine gR rfl ?_;refine gP ?_;apply gE;exact gV (ret_end (aResult_of Try.func84 rfl rfl) ⟨ret_false (by unfold Pl.Ord; dsimp only; omega), e0⟩)
theorem upTo_ok {a b c : Int} {h : AH} (k : Nat) (hk : k < 3) : Runs Try.prog 120 [.agg [.int .i64 a, .int .i64 b, .int .i64 c], .int .i64 k] h (fun en h' => en = .ret (.agg [.int .i64 a, .int .i64 (if k < 1 then -1 else b), .int .i64 (if k < 2 then -1 else c)]) ∧ Ext h h') := by
 match k, hk with
 | 0, _ =>
  have e0 : Ext h h := Ext.refl _
  refine Runs.intro aFunc120 rfl rfl rfl rfl fun rest => ?_;apply gS;refine gR rfl ?_;refine GoR.box rfl rfl rfl rfl rfl rfl fun h0 x0 f0 => ?_;have := e0.1;replace e0 := e0.trans x0;have := f0.1;refine GoR.alloc rfl rfl rfl zt83 rfl rfl fun h1 x1 f1 => ?_;have := e0.1;have := f0.1;replace f0 := f0.ext x1;replace e0 := e0.trans x1;have := f1.1;apply gE;iterate 2 apply gS
  refine gR rfl ?_;refine gP ?_;refine gO rfl rfl (aA rfl rfl) rfl ?_;refine gP ?_;apply gE;refine Go.block noJ_ok ?_;refine Go.loop noJ_ok ?_;iterate 2 apply gS
  refine gR rfl ?_;refine gP ?_;refine gO rfl rfl (kLT rfl rfl) rfl ?_;apply gE;refine gC (b := true) rfl ?_;refine gD ?_;apply gS;refine Go.block noJ_ok ?_;refine gR rfl ?_;refine gP ?_;refine gO rfl rfl (aOp_indexAddrArr (i := 1) Try.underlying83 sz3 rfl rfl rfl) rfl ?_;refine GoR.store rfl rfl rfl rfl rfl rfl f0 rfl sz3 rfl rfl rfl fun h2 u2 => ?_;replace f1 := f1.upd u2 (by omega);replace f0 := u2.has f0
  first | replace e0 := e0.upd u2 (by omega) | clear e0
  apply gE;refine Go.inBlock noJ_ok ?_;refine gR rfl ?_;refine gP ?_;refine gO rfl rfl (aA rfl rfl) rfl ?_;refine gP ?_;apply gE;refine Go.inLoop noJ_ok ?_;iterate 2 apply gS
  refine gR rfl ?_;refine gP ?_;refine gO rfl rfl (kLT rfl rfl) rfl ?_;apply gE;refine gC (b := true) rfl ?_;refine gD ?_;apply gS;refine Go.block noJ_ok ?_;refine gR rfl ?_;refine gP ?_;refine gO rfl rfl (aOp_indexAddrArr (i := 2) Try.underlying83 sz3 rfl rfl rfl) rfl ?_;refine GoR.store rfl rfl rfl rfl rfl rfl f0 rfl sz3 rfl rfl rfl fun h3 u3 => ?_;replace f1 := f1.upd u3 (by omega);replace f0 := u3.has f0
  first | replace e0 := e0.upd u3 (by omega) | clear e0
  apply gE;refine Go.inBlock noJ_ok ?_;refine gR rfl ?_;refine gP ?_;refine gO rfl rfl (aA rfl rfl) rfl ?_;refine gP ?_;apply gE;refine Go.inLoop noJ_ok ?_;iterate 2 apply gS
  refine gR rfl ?_;refine gP ?_;refine gO rfl rfl (kLF rfl rfl) rfl ?_;apply gE;refine gC (b := false) rfl ?_;refine gD ?_;apply gS;refine gR rfl ?_;refine gO rfl rfl (ld83 rfl f0 rfl) rfl ?_;refine GoR.store rfl rfl rfl rfl rfl rfl f1 rfl sz83 rfl rfl rfl fun h4 u4 => ?_;replace f1 := u4.has f1;replace f0 := f0.upd u4 (by omega)
  first | replace e0 := e0.upd u4 (by omega) | clear e0
  apply gE;exact gV (ret_end (aResult_of Try.func120 rfl (aResults_cell rfl f1 (inCells_agg ag83 sz83 rfl))) ⟨rfl, e0⟩)
 | 1, _ =>
  have e0 : Ext h h := Ext.refl _
  refine Runs.intro aFunc120 rfl rfl rfl rfl fun rest => ?_;apply gS;refine gR rfl ?_;refine GoR.box rfl rfl rfl rfl rfl rfl fun h0 x0 f0 => ?_;have := e0.1;replace e0 := e0.trans x0;have := f0.1;refine GoR.alloc rfl rfl rfl zt83 rfl rfl fun h1 x1 f1 => ?_;have := e0.1;have := f0.1;replace f0 := f0.ext x1;replace e0 := e0.trans x1;have := f1.1;apply gE;iterate 2 apply gS
  refine gR rfl ?_;refine gP ?_;refine gO rfl rfl (aA rfl rfl) rfl ?_;refine gP ?_;apply gE;refine Go.block noJ_ok ?_;refine Go.loop noJ_ok ?_;iterate 2 apply gS
  refine gR rfl ?_;refine gP ?_;refine gO rfl rfl (kLT rfl rfl) rfl ?_;apply gE;refine gC (b := true) rfl ?_;refine gD ?_;apply gS;refine Go.block noJ_ok ?_;refine gR rfl ?_;refine gP ?_;refine gO rfl rfl (aOp_indexAddrArr (i := 2) Try.underlying83 sz3 rfl rfl rfl) rfl ?_;refine GoR.store rfl rfl rfl rfl rfl rfl f0 rfl sz3 rfl rfl rfl fun h2 u2 => ?_;replace f1 := f1.upd u2 (by omega);replace f0 := u2.has f0
  first | replace e0 := e0.upd u2 (by omega) | clear e0
  apply gE;refine Go.inBlock noJ_ok ?_;refine gR rfl ?_;refine gP ?_;refine gO rfl rfl (aA rfl rfl) rfl ?_;refine gP ?_;apply gE;refine Go.inLoop noJ_ok ?_;iterate 2 apply gS
  refine gR rfl ?_;refine gP ?_;refine gO rfl rfl (kLF rfl rfl) rfl ?_;apply gE;refine gC (b := false) rfl ?_;refine gD ?_;apply gS;refine gR rfl ?_;refine gO rfl rfl (ld83 rfl f0 rfl) rfl ?_;refine GoR.store rfl rfl rfl rfl rfl rfl f1 rfl sz83 rfl rfl rfl fun h3 u3 => ?_;replace f1 := u3.has f1;replace f0 := f0.upd u3 (by omega)
  first | replace e0 := e0.upd u3 (by omega) | clear e0
  apply gE;exact gV (ret_end (aResult_of Try.func120 rfl (aResults_cell rfl f1 (inCells_agg ag83 sz83 rfl))) ⟨rfl, e0⟩)
 | 2, _ =>
  have e0 : Ext h h := Ext.refl _
  refine Runs.intro aFunc120 rfl rfl rfl rfl fun rest => ?_;apply gS;refine gR rfl ?_;refine GoR.box rfl rfl rfl rfl rfl rfl fun h0 x0 f0 => ?_;have := e0.1;replace e0 := e0.trans x0;have := f0.1;refine GoR.alloc rfl rfl rfl zt83 rfl rfl fun h1 x1 f1 => ?_;have := e0.1;have := f0.1;replace f0 := f0.ext x1;replace e0 := e0.trans x1;have := f1.1;apply gE;iterate 2 apply gS
  refine gR rfl ?_;refine gP ?_;refine gO rfl rfl (aA rfl rfl) rfl ?_;refine gP ?_;apply gE;refine Go.block noJ_ok ?_;refine Go.loop noJ_ok ?_;iterate 2 apply gS
  refine gR rfl ?_;refine gP ?_;refine gO rfl rfl (kLF rfl rfl) rfl ?_;apply gE;refine gC (b := false) rfl ?_;refine gD ?_;apply gS;refine gR rfl ?_;refine gO rfl rfl (ld83 rfl f0 rfl) rfl ?_;refine GoR.store rfl rfl rfl rfl rfl rfl f1 rfl sz83 rfl rfl rfl fun h2 u2 => ?_;replace f1 := u2.has f1
  first | replace e0 := e0.upd u2 (by omega) | clear e0
  apply gE;exact gV (ret_end (aResult_of Try.func120 rfl (aResults_cell rfl f1 (inCells_agg ag83 sz83 rfl))) ⟨rfl, e0⟩)
theorem needHeap_ok {F : FootV} {rsl hsl : AVal} {n : Int} {h : AH} (A : FootAt h F rsl hsl) (hl : F.hs.length ≤ 40) :
  Runs Try.prog 44 [.agg (F.cells rsl hsl), .int .i64 n] h (fun en h' => en = (if 0 ≤ n ∧ n ≤ (F.hs.length : Int) - 1 then .ret (.tuple []) else .pan (refusal 2)) ∧ Ext h h') := by
 have hl1 := A.hs.len
 rw [List.length_map] at hl1
 unfold FootV.cells
 by_cases hq : 0 ≤ n ∧ n ≤ (F.hs.length : Int) - 1
 ·rw [if_pos hq]
  have e0 : Ext h h := Ext.refl _
  refine Runs.intro aFunc44 rfl rfl rfl rfl fun rest => ?_;apply gS;refine gR rfl ?_;refine GoR.box rfl rfl rfl rfl rfl rfl fun h0 x0 f0 => ?_;replace e0 := e0.trans x0;apply gE;refine gR rfl ?_;refine gP ?_;refine gO rfl rfl (fa80_4 rfl) rfl ?_;refine gO rfl rfl (ld24 rfl f0 rfl) rfl ?_;refine gO rfl rfl (aOp_lenSlice Try.underlying24 rfl (by assumption)) rfl ?_;refine gO rfl rfl (aS rfl rfl) rfl ?_;refine GoR.call rfl rfl (aCF aFunc83 rfl) (inside_is (r := true) (dt (by omega))) ?_ np;rintro v1 h1 ⟨q, x1⟩;cases q;refine ⟨_, rfl, ?_⟩;replace e0 := e0.trans x1;refine gP ?_;refine GoR.call rfl rfl (aCF aFunc59 rfl) (refuse_no _ _) ?_ np;rintro v2 h2 ⟨q, x2⟩;cases q;refine ⟨_, rfl, ?_⟩;replace e0 := e0.trans x2;apply gE;exact Go.endL (FLeft.ret (v := .tuple []) (aResult_of Try.func44 rfl rfl) ⟨rfl, e0⟩)
 ·rw [if_neg hq]
  have e0 : Ext h h := Ext.refl _
  refine Runs.intro aFunc44 rfl rfl rfl rfl fun rest => ?_;apply gS;refine gR rfl ?_;refine GoR.box rfl rfl rfl rfl rfl rfl fun h0 x0 f0 => ?_;replace e0 := e0.trans x0;apply gE;refine gR rfl ?_;refine gP ?_;refine gO rfl rfl (fa80_4 rfl) rfl ?_;refine gO rfl rfl (ld24 rfl f0 rfl) rfl ?_;refine gO rfl rfl (aOp_lenSlice Try.underlying24 rfl (by assumption)) rfl ?_;refine gO rfl rfl (aS rfl rfl) rfl ?_;refine GoR.call rfl rfl (aCF aFunc83 rfl) (inside_is (r := false) (df (by omega))) ?_ np;rintro v1 h1 ⟨q, x1⟩;cases q;refine ⟨_, rfl, ?_⟩;replace e0 := e0.trans x1;refine gP ?_;refine GoR.callP rfl rfl (aCF aFunc59 rfl) (refuse_yes _ _) (by rintro _ _ ⟨q, _⟩; cases q) ?_;rintro chain h2 ⟨q, x2⟩
  have q := AEnd.pan.inj q
  subst q;replace e0 := e0.trans x2;exact FLeft.pan (⟨rfl, e0⟩)
theorem needOrder_ok {F : FootV} {rsl hsl : AVal} {a b c : Int} {h : AH} (A : FootAt h F rsl hsl) (hl : F.rs.length ≤ 40) :
  Runs Try.prog 45 [.agg (F.cells rsl hsl), .agg [.int .i64 a, .int .i64 b, .int .i64 c]] h (fun en h' => en = (if Pl.Ord F.rs.length ⟨a, b, c⟩ then .ret (.tuple []) else .pan (refusal 2)) ∧ Ext h h') := by
 have hl1 := A.rs.len
 rw [List.length_map] at hl1
 unfold FootV.cells
 by_cases hq : Pl.Ord F.rs.length ⟨a, b, c⟩
 ·rw [if_pos hq]
  have hq2 := decide_eq_true hq
  have hk := fun h => inOrder_ok (a := a) (b := b) (c := c) (n := F.rs.length) (h := h) (by omega)
  rw [hq2] at hk
  have e0 : Ext h h := Ext.refl _
  refine Runs.intro aFunc45 rfl rfl rfl rfl fun rest => ?_;apply gS;refine gR rfl ?_;refine GoR.box rfl rfl rfl rfl rfl rfl fun h0 x0 f0 => ?_;replace e0 := e0.trans x0;refine GoR.box rfl rfl rfl rfl rfl rfl fun h1 x1 f1 => ?_;replace f0 := f0.ext x1;replace e0 := e0.trans x1;apply gE;refine gR rfl ?_;refine gO rfl rfl (ld83 rfl f1 rfl) rfl ?_;refine gO rfl rfl (fa80_0 rfl) rfl ?_;refine gO rfl rfl (ld22 rfl f0 rfl) rfl ?_;refine gO rfl rfl (aOp_lenSlice Try.underlying22 rfl (by assumption)) rfl ?_;refine GoR.call rfl rfl (aCF aFunc84 rfl) (hk _) ?_ np;rintro v2 h2 ⟨q, x2⟩;cases q;refine ⟨_, rfl, ?_⟩;replace e0 := e0.trans x2;refine gP ?_;refine GoR.call rfl rfl (aCF aFunc59 rfl) (refuse_no _ _) ?_ np;rintro v3 h3 ⟨q, x3⟩;cases q;refine ⟨_, rfl, ?_⟩;replace e0 := e0.trans x3;apply gE;exact Go.endL (FLeft.ret (v := .tuple []) (aResult_of Try.func45 rfl rfl) ⟨rfl, e0⟩)
 ·rw [if_neg hq]
  have hq2 := decide_eq_false hq
  have hk := fun h => inOrder_ok (a := a) (b := b) (c := c) (n := F.rs.length) (h := h) (by omega)
  rw [hq2] at hk
  have e0 : Ext h h := Ext.refl _
  refine Runs.intro aFunc45 rfl rfl rfl rfl fun rest => ?_;apply gS;refine gR rfl ?_;refine GoR.box rfl rfl rfl rfl rfl rfl fun h0 x0 f0 => ?_;replace e0 := e0.trans x0;refine GoR.box rfl rfl rfl rfl rfl rfl fun h1 x1 f1 => ?_;replace f0 := f0.ext x1;replace e0 := e0.trans x1;apply gE;refine gR rfl ?_;refine gO rfl rfl (ld83 rfl f1 rfl) rfl ?_;refine gO rfl rfl (fa80_0 rfl) rfl ?_;refine gO rfl rfl (ld22 rfl f0 rfl) rfl ?_;refine gO rfl rfl (aOp_lenSlice Try.underlying22 rfl (by assumption)) rfl ?_;refine GoR.call rfl rfl (aCF aFunc84 rfl) (hk _) ?_ np;rintro v2 h2 ⟨q, x2⟩;cases q;refine ⟨_, rfl, ?_⟩;replace e0 := e0.trans x2;refine gP ?_;refine GoR.callP rfl rfl (aCF aFunc59 rfl) (refuse_yes _ _) (by rintro _ _ ⟨q, _⟩; cases q) ?_;rintro chain h3 ⟨q, x3⟩
  have q := AEnd.pan.inj q
  subst q;replace e0 := e0.trans x3;exact FLeft.pan (⟨rfl, e0⟩)
theorem needDay_ok {F : FootV} {rsl hsl : AVal} {n : Int} {h : AH} (A : FootAt h F rsl hsl) (hl : F.rs.length ≤ 40) :
  Runs Try.prog 46 [.agg (F.cells rsl hsl), .int .i64 n] h (fun en h' => en = (if 0 ≤ n ∧ n ≤ (F.rs.length : Int) then .ret (.tuple []) else .pan (refusal 2)) ∧ Ext h h') := by
 have hl1 := A.rs.len
 rw [List.length_map] at hl1
 unfold FootV.cells
 by_cases hq : 0 ≤ n ∧ n ≤ (F.rs.length : Int)
 ·rw [if_pos hq]
  have e0 : Ext h h := Ext.refl _
  refine Runs.intro aFunc46 rfl rfl rfl rfl fun rest => ?_;apply gS;refine gR rfl ?_;refine GoR.box rfl rfl rfl rfl rfl rfl fun h0 x0 f0 => ?_;replace e0 := e0.trans x0;apply gE;refine gR rfl ?_;refine gP ?_;refine gO rfl rfl (fa80_0 rfl) rfl ?_;refine gO rfl rfl (ld22 rfl f0 rfl) rfl ?_;refine gO rfl rfl (aOp_lenSlice Try.underlying22 rfl (by assumption)) rfl ?_;refine GoR.call rfl rfl (aCF aFunc83 rfl) (inside_is (r := true) (dt (by omega))) ?_ np;rintro v1 h1 ⟨q, x1⟩;cases q;refine ⟨_, rfl, ?_⟩;replace e0 := e0.trans x1;refine gP ?_;refine GoR.call rfl rfl (aCF aFunc59 rfl) (refuse_no _ _) ?_ np;rintro v2 h2 ⟨q, x2⟩;cases q;refine ⟨_, rfl, ?_⟩;replace e0 := e0.trans x2;apply gE;exact Go.endL (FLeft.ret (v := .tuple []) (aResult_of Try.func46 rfl rfl) ⟨rfl, e0⟩)
 ·rw [if_neg hq]
  have e0 : Ext h h := Ext.refl _
  refine Runs.intro aFunc46 rfl rfl rfl rfl fun rest => ?_;apply gS;refine gR rfl ?_;refine GoR.box rfl rfl rfl rfl rfl rfl fun h0 x0 f0 => ?_;replace e0 := e0.trans x0;apply gE;refine gR rfl ?_;refine gP ?_;refine gO rfl rfl (fa80_0 rfl) rfl ?_;refine gO rfl rfl (ld22 rfl f0 rfl) rfl ?_;refine gO rfl rfl (aOp_lenSlice Try.underlying22 rfl (by assumption)) rfl ?_;refine GoR.call rfl rfl (aCF aFunc83 rfl) (inside_is (r := false) (df (by omega))) ?_ np;rintro v1 h1 ⟨q, x1⟩;cases q;refine ⟨_, rfl, ?_⟩;replace e0 := e0.trans x1;refine gP ?_;refine GoR.callP rfl rfl (aCF aFunc59 rfl) (refuse_yes _ _) (by rintro _ _ ⟨q, _⟩; cases q) ?_;rintro chain h2 ⟨q, x2⟩
  have q := AEnd.pan.inj q
  subst q;replace e0 := e0.trans x2;exact FLeft.pan (⟨rfl, e0⟩)
end Go.Proofs.Ytmimdgjehnhnoaa

namespace Go.Proofs.Ytmimdgjehnhnoaa
open Go Go.AbsE
set_option linter.unusedSimpArgs false
set_option maxRecDepth 100000
set_option maxHeartbeats 0
set_option linter.unusedVariables false
def FootV.st (F : FootV) (T : Bool) (i : Nat) : Int := match F.hs[i]? with | some x => if T then x.hi else x.lo | none => 0
def FootV.rn (F : FootV) (T : Bool) (d : Nat) : Int := match F.rs[d]? with | some r => if T then r.2 else r.1 | none => 0
def FootV.dr (F : FootV) (k : Int) : Int := if k = 0 then F.d0 else if k = 1 then F.d1 else F.d2
def FootV.lm (F : FootV) (k : Nat) : Int := match k with | 0 => F.l0 | 1 => F.l1 | _ => F.l2
def truthV (T : Bool) (F : FootV) (rsl hsl : AVal) : AVal := if T then .iface 132 (.agg (F.cells rsl hsl)) else .iface 134 (.agg (F.cells rsl hsl))
def FootV.w (F : FootV) (T : Bool) (i : Nat) (p : Pl) : Nat → Int
 | 0 => F.st T i
 | d + 1 => if doneV p d ≤ 2 then max 0 (F.w T i p d + (F.rn T d - F.dr (doneV p d))) else F.w T i p d
theorem doneV_in (p : Pl) (d : Int) : 0 ≤ doneV p d ∧ doneV p d ≤ 3 := by
 unfold doneV
 split <;> split <;> split <;> omega
theorem st_in {F : FootV} (O : F.Ok) (T : Bool) (i : Nat) : 0 ≤ F.st T i ∧ F.st T i ≤ 60 := by
 unfold FootV.st
 cases q : F.hs[i]? with
 | none => dsimp only; omega
 | some x =>
  have := O.h x (List.mem_of_getElem? q)
  dsimp only
  split <;> omega
theorem rn_in {F : FootV} (O : F.Ok) (T : Bool) (i : Nat) : 0 ≤ F.rn T i ∧ F.rn T i ≤ 10 := by
 unfold FootV.rn
 cases q : F.rs[i]? with
 | none => dsimp only; omega
 | some x =>
  have := O.r x (List.mem_of_getElem? q)
  dsimp only
  split <;> omega
theorem dr_in {F : FootV} (O : F.Ok) (k : Int) : 0 ≤ F.dr k ∧ F.dr k ≤ 10 := by
 have := O.d0
 have := O.d1
 have := O.d2
 unfold FootV.dr
 split
 ·omega
 ·split <;> omega
theorem w_in {F : FootV} (O : F.Ok) (T : Bool) (i : Nat) (p : Pl) : ∀ d : Nat, 0 ≤ F.w T i p d ∧ F.w T i p d ≤ 60 + 10 * d
 | 0 => by
  have := st_in O T i
  show 0 ≤ F.st T i ∧ F.st T i ≤ _
  omega
 | d + 1 => by
  have := w_in O T i p d
  have := rn_in O T d
  have := dr_in O (doneV p d)
  unfold FootV.w
  split <;> omega
theorem wstart_ok {F : FootV} {rsl hsl : AVal} {h : AH} (A : FootAt h F rsl hsl) {i : Nat} (hi : i < F.hs.length) : Runs Try.prog 142 [.agg (F.cells rsl hsl), .int .i64 i] h (fun en h' => en = .ret (.int .i64 (F.st true i)) ∧ Ext h h') := by
 obtain ⟨x, hx⟩ : ∃ x, F.hs[i]? = some x := ⟨F.hs[i], by simp [hi]⟩
 obtain ⟨b, off, q1, q2⟩ := A.hs.at (i := i) (l := HF.cells x) (by rw [List.getElem?_map, hx]; rfl)
 rw [List.length_map] at q1
 unfold FootV.cells FootV.st
 rw [hx]
 unfold HF.cells at q2
 have e0 : Ext h h := Ext.refl _
 refine Runs.intro aFunc142 rfl rfl rfl rfl fun rest => ?_;apply gS;refine gR rfl ?_;refine GoR.box rfl rfl rfl rfl rfl rfl fun h0 x0 f0 => ?_;replace e0 := e0.trans x0;refine gP ?_;apply gE;apply gS;refine gR rfl ?_;refine gO rfl rfl (fa132_0 rfl) rfl ?_;refine gO rfl rfl (fa80_4 rfl) rfl ?_;refine gO rfl rfl (ld24 rfl f0 rfl) rfl ?_;refine gP ?_;refine gO rfl rfl (aOp_indexAddr (i := i) Try.underlying24 sz72 rfl (by assumption) rfl (Nat.ble_eq_true_of_le (by omega))) rfl ?_;refine gO rfl rfl (fa72_0 rfl) rfl ?_;refine gO rfl rfl (fa31_1 rfl) rfl ?_;refine gO rfl rfl (aOp_loadE1 (k := 1) ag3 rfl (q2.ext e0) rfl) rfl ?_;refine gP ?_;apply gE;exact gW Try.func142 rfl rfl ⟨rfl, e0⟩
theorem bstart_ok {F : FootV} {rsl hsl : AVal} {h : AH} (A : FootAt h F rsl hsl) {i : Nat} (hi : i < F.hs.length) : Runs Try.prog 144 [.agg (F.cells rsl hsl), .int .i64 i] h (fun en h' => en = .ret (.int .i64 (F.st false i)) ∧ Ext h h') := by
 obtain ⟨x, hx⟩ : ∃ x, F.hs[i]? = some x := ⟨F.hs[i], by simp [hi]⟩
 obtain ⟨b, off, q1, q2⟩ := A.hs.at (i := i) (l := HF.cells x) (by rw [List.getElem?_map, hx]; rfl)
 rw [List.length_map] at q1
 unfold FootV.cells FootV.st
 rw [hx]
 unfold HF.cells at q2
 have e0 : Ext h h := Ext.refl _
 refine Runs.intro aFunc144 rfl rfl rfl rfl fun rest => ?_;apply gS;refine gR rfl ?_;refine GoR.box rfl rfl rfl rfl rfl rfl fun h0 x0 f0 => ?_;replace e0 := e0.trans x0;refine gP ?_;apply gE;apply gS;refine gR rfl ?_;refine gO rfl rfl (fa134_0 rfl) rfl ?_;refine gO rfl rfl (fa132_0 rfl) rfl ?_;refine gO rfl rfl (fa80_4 rfl) rfl ?_;refine gO rfl rfl (ld24 rfl f0 rfl) rfl ?_;refine gP ?_;refine gO rfl rfl (aOp_indexAddr (i := i) Try.underlying24 sz72 rfl (by assumption) rfl (Nat.ble_eq_true_of_le (by omega))) rfl ?_;refine gO rfl rfl (fa72_0 rfl) rfl ?_;refine gO rfl rfl (fa31_0 rfl) rfl ?_;refine gO rfl rfl (aOp_loadE1 (k := 0) ag3 rfl (q2.ext e0) rfl) rfl ?_;refine gP ?_;apply gE;exact gW Try.func144 rfl rfl ⟨rfl, e0⟩
theorem wrain_ok {F : FootV} {rsl hsl : AVal} {h : AH} (A : FootAt h F rsl hsl) {i : Nat} (hi : i < F.rs.length) : Runs Try.prog 141 [.agg (F.cells rsl hsl), .int .i64 i] h (fun en h' => en = .ret (.int .i64 (F.rn true i)) ∧ Ext h h') := by
 obtain ⟨x, hx⟩ : ∃ x, F.rs[i]? = some x := ⟨F.rs[i], by simp [hi]⟩
 obtain ⟨b, off, q1, q2⟩ := A.rs.at (i := i) (l := spC x) (by rw [List.getElem?_map, hx]; rfl)
 rw [List.length_map] at q1
 unfold FootV.cells FootV.rn
 rw [hx]
 unfold spC at q2
 have e0 : Ext h h := Ext.refl _
 refine Runs.intro aFunc141 rfl rfl rfl rfl fun rest => ?_;apply gS;refine gR rfl ?_;refine GoR.box rfl rfl rfl rfl rfl rfl fun h0 x0 f0 => ?_;replace e0 := e0.trans x0;refine gP ?_;apply gE;apply gS;refine gR rfl ?_;refine gO rfl rfl (fa132_0 rfl) rfl ?_;refine gO rfl rfl (fa80_0 rfl) rfl ?_;refine gO rfl rfl (ld22 rfl f0 rfl) rfl ?_;refine gP ?_;refine gO rfl rfl (aOp_indexAddr (i := i) Try.underlying22 sz31 rfl (by assumption) rfl (Nat.ble_eq_true_of_le (by omega))) rfl ?_;refine gO rfl rfl (fa31_1 rfl) rfl ?_;refine gO rfl rfl (aOp_loadE1 (k := 1) ag3 rfl (q2.ext e0) rfl) rfl ?_;refine gP ?_;apply gE;exact gW Try.func141 rfl rfl ⟨rfl, e0⟩
theorem brain_ok {F : FootV} {rsl hsl : AVal} {h : AH} (A : FootAt h F rsl hsl) {i : Nat} (hi : i < F.rs.length) : Runs Try.prog 143 [.agg (F.cells rsl hsl), .int .i64 i] h (fun en h' => en = .ret (.int .i64 (F.rn false i)) ∧ Ext h h') := by
 obtain ⟨x, hx⟩ : ∃ x, F.rs[i]? = some x := ⟨F.rs[i], by simp [hi]⟩
 obtain ⟨b, off, q1, q2⟩ := A.rs.at (i := i) (l := spC x) (by rw [List.getElem?_map, hx]; rfl)
 rw [List.length_map] at q1
 unfold FootV.cells FootV.rn
 rw [hx]
 unfold spC at q2
 have e0 : Ext h h := Ext.refl _
 refine Runs.intro aFunc143 rfl rfl rfl rfl fun rest => ?_;apply gS;refine gR rfl ?_;refine GoR.box rfl rfl rfl rfl rfl rfl fun h0 x0 f0 => ?_;replace e0 := e0.trans x0;refine gP ?_;apply gE;apply gS;refine gR rfl ?_;refine gO rfl rfl (fa134_0 rfl) rfl ?_;refine gO rfl rfl (fa132_0 rfl) rfl ?_;refine gO rfl rfl (fa80_0 rfl) rfl ?_;refine gO rfl rfl (ld22 rfl f0 rfl) rfl ?_;refine gP ?_;refine gO rfl rfl (aOp_indexAddr (i := i) Try.underlying22 sz31 rfl (by assumption) rfl (Nat.ble_eq_true_of_le (by omega))) rfl ?_;refine gO rfl rfl (fa31_0 rfl) rfl ?_;refine gO rfl rfl (aOp_loadE1 (k := 0) ag3 rfl (q2.ext e0) rfl) rfl ?_;refine gP ?_;apply gE;exact gW Try.func143 rfl rfl ⟨rfl, e0⟩
theorem meth_ws (v : AVal) : aMethod Try.prog 8 132 v "bogworks/foot.start" = some (142, v) := by kernel_rfl
theorem meth_bs (v : AVal) : aMethod Try.prog 8 134 v "bogworks/foot.start" = some (144, v) := by kernel_rfl
theorem meth_wr (v : AVal) : aMethod Try.prog 8 132 v "bogworks/foot.rain" = some (141, v) := by kernel_rfl
theorem meth_br (v : AVal) : aMethod Try.prog 8 134 v "bogworks/foot.rain" = some (143, v) := by kernel_rfl
theorem start_in (F : FootV) (rsl hsl : AVal) (T : Bool) {i : Nat} (hi : i < F.hs.length) : ∃ ff fargs, ∀ h, FootAt h F rsl hsl → aInvokeIface Try.prog (truthV T F rsl hsl) "bogworks/foot.start" [.int .i64 i] h = some (.enter ff fargs h) ∧ Runs Try.prog ff fargs h (fun en h' => en = .ret (.int .i64 (F.st T i)) ∧ Ext h h') := by
 cases T with
 | true =>
  exact ⟨142, [.agg (F.cells rsl hsl), .int .i64 i], fun h A => ⟨aInvoke_of (meth_ws _) aFunc142, wstart_ok A hi⟩⟩
 | false =>
  exact ⟨144, [.agg (F.cells rsl hsl), .int .i64 i], fun h A => ⟨aInvoke_of (meth_bs _) aFunc144, bstart_ok A hi⟩⟩
theorem rain_in (F : FootV) (rsl hsl : AVal) (T : Bool) {i : Nat} (hi : i < F.rs.length) : ∃ ff fargs, ∀ h, FootAt h F rsl hsl → aInvokeIface Try.prog (truthV T F rsl hsl) "bogworks/foot.rain" [.int .i64 i] h = some (.enter ff fargs h) ∧ Runs Try.prog ff fargs h (fun en h' => en = .ret (.int .i64 (F.rn T i)) ∧ Ext h h') := by
 cases T with
 | true =>
  exact ⟨141, [.agg (F.cells rsl hsl), .int .i64 i], fun h A => ⟨aInvoke_of (meth_wr _) aFunc141, wrain_ok A hi⟩⟩
 | false =>
  exact ⟨143, [.agg (F.cells rsl hsl), .int .i64 i], fun h A => ⟨aInvoke_of (meth_br _) aFunc143, brain_ok A hi⟩⟩
theorem worst_ok {F : FootV} {rsl hsl : AVal} {h : AH} : Runs Try.prog 58 [.agg (F.cells rsl hsl)] h (fun en h' => en = .ret (truthV true F rsl hsl) ∧ Ext h h') := by
 unfold FootV.cells
 have e0 : Ext h h := Ext.refl _
 refine Runs.intro aFunc58 rfl rfl rfl rfl fun rest => ?_;apply gS;refine gR rfl ?_;refine GoR.box rfl rfl rfl rfl rfl rfl fun h0 x0 f0 => ?_;replace e0 := e0.trans x0;refine gP ?_;apply gE;apply gS;refine gR rfl ?_;refine gO rfl rfl (ld80 rfl f0 rfl) rfl ?_;refine gO rfl rfl (aOp_build zt132 hu132 pl132 rfl rfl) rfl ?_;iterate 2 refine gP ?_
 apply gE;exact gW Try.func58 rfl rfl ⟨rfl, e0⟩
theorem best_ok {F : FootV} {rsl hsl : AVal} {h : AH} : Runs Try.prog 63 [.agg (F.cells rsl hsl)] h (fun en h' => en = .ret (truthV false F rsl hsl) ∧ Ext h h') := by
 unfold FootV.cells
 have e0 : Ext h h := Ext.refl _
 refine Runs.intro aFunc63 rfl rfl rfl rfl fun rest => ?_;apply gS;refine gR rfl ?_;refine GoR.box rfl rfl rfl rfl rfl rfl fun h0 x0 f0 => ?_;replace e0 := e0.trans x0;refine gP ?_;apply gE;apply gS;refine gR rfl ?_;refine gO rfl rfl (ld80 rfl f0 rfl) rfl ?_;refine gO rfl rfl (aOp_build zt132 hu132 pl132 rfl rfl) rfl ?_;refine gO rfl rfl (aOp_build zt134 hu134 pl134 rfl rfl) rfl ?_;iterate 2 refine gP ?_
 apply gE;exact gW Try.func63 rfl rfl ⟨rfl, e0⟩
end Go.Proofs.Ytmimdgjehnhnoaa

namespace Go.Proofs.Ytmimdgjehnhnoaa
open Go Go.AbsE
set_option linter.unusedSimpArgs false
set_option maxRecDepth 100000
set_option maxHeartbeats 0
set_option linter.unusedVariables false
def FootV.crs (F : FootV) (T : Bool) (i : Nat) (p : Pl) (n : Nat) : List Int := (List.range 9).map fun d => if d ≤ n then F.w T i p d else 0
theorem crs_at {F : FootV} {T : Bool} {i : Nat} {p : Pl} {n d : Nat} (hd : d < 9) : (F.crs T i p n)[d]? = some (if d ≤ n then F.w T i p d else 0) := by
 unfold FootV.crs
 rw [List.getElem?_map, List.getElem?_range hd]
 rfl
theorem crs_set {F : FootV} {T : Bool} {i : Nat} {p : Pl} {n : Nat} (hn : n + 1 < 9) : (i64s (F.crs T i p n)).set (n + 1) (.int .i64 (F.w T i p (n + 1))) = i64s (F.crs T i p (n + 1)) := by
 refine List.ext_getElem? fun k => ?_
 unfold i64s
 rw [List.getElem?_set, List.getElem?_map, List.getElem?_map]
 by_cases hk : n + 1 = k
 ·subst hk;rw [if_pos rfl, if_pos (by rw [List.length_map]; unfold FootV.crs; simpa using hn), crs_at hn, if_pos (Nat.le_refl _)]
  rfl
 ·rw [if_neg hk]
  by_cases h9 : k < 9
  ·rw [crs_at h9, crs_at h9]
   by_cases h1 : k ≤ n
   ·rw [if_pos h1, if_pos (by omega)]
   ·rw [if_neg h1, if_neg (by omega)]
  ·have h1 : ∀ m, (F.crs T i p m)[k]? = none := fun m => by
    unfold FootV.crs
    rw [List.getElem?_eq_none]
    simpa using h9
   rw [h1, h1]
theorem need_ok {F : FootV} {rsl hsl : AVal} {h : AH} (k : Nat) (hk : k < 3) : Runs Try.prog 118 [.agg (F.cells rsl hsl), .int .i64 k] h (fun en h' => en = .ret (.func (.func 125) [.int .i64 (F.lm k)] []) ∧ Ext h h') := by
 unfold FootV.cells FootV.lm
 match k, hk with
 | 0, _ =>
  have e0 : Ext h h := Ext.refl _
  refine Runs.intro aFunc118 rfl rfl rfl rfl fun rest => ?_;apply gS;refine gR rfl ?_;refine GoR.box rfl rfl rfl rfl rfl rfl fun h0 x0 f0 => ?_;replace e0 := e0.trans x0;refine gP ?_;apply gE;apply gS;refine gR rfl ?_;refine gP ?_;refine gO rfl rfl (fa80_2 rfl) rfl ?_;refine gO rfl rfl (aOp_indexAddrArr (i := 0) Try.underlying23 sz3 rfl rfl rfl) rfl ?_;refine gO rfl rfl (ld3 rfl f0 rfl) rfl ?_;iterate 2 refine gP ?_
  apply gE;exact gW Try.func118 rfl rfl ⟨rfl, e0⟩
 | 1, _ =>
  have e0 : Ext h h := Ext.refl _
  refine Runs.intro aFunc118 rfl rfl rfl rfl fun rest => ?_;apply gS;refine gR rfl ?_;refine GoR.box rfl rfl rfl rfl rfl rfl fun h0 x0 f0 => ?_;replace e0 := e0.trans x0;refine gP ?_;apply gE;apply gS;refine gR rfl ?_;refine gP ?_;refine gO rfl rfl (fa80_2 rfl) rfl ?_;refine gO rfl rfl (aOp_indexAddrArr (i := 1) Try.underlying23 sz3 rfl rfl rfl) rfl ?_;refine gO rfl rfl (ld3 rfl f0 rfl) rfl ?_;iterate 2 refine gP ?_
  apply gE;exact gW Try.func118 rfl rfl ⟨rfl, e0⟩
 | 2, _ =>
  have e0 : Ext h h := Ext.refl _
  refine Runs.intro aFunc118 rfl rfl rfl rfl fun rest => ?_;apply gS;refine gR rfl ?_;refine GoR.box rfl rfl rfl rfl rfl rfl fun h0 x0 f0 => ?_;replace e0 := e0.trans x0;refine gP ?_;apply gE;apply gS;refine gR rfl ?_;refine gP ?_;refine gO rfl rfl (fa80_2 rfl) rfl ?_;refine gO rfl rfl (aOp_indexAddrArr (i := 2) Try.underlying23 sz3 rfl rfl rfl) rfl ?_;refine gO rfl rfl (ld3 rfl f0 rfl) rfl ?_;iterate 2 refine gP ?_
  apply gE;exact gW Try.func118 rfl rfl ⟨rfl, e0⟩
theorem suits_ok {L : List Int} {d l x : Int} {h : AH} (hl : L.length = 9) (hd : d = -1 ∨ (0 ≤ d ∧ d < 9)) (hx : d ≠ -1 → L[d.toNat]? = some x) :
  Runs Try.prog 117 [.agg (i64s L), .int .i64 d, .func (.func 125) [.int .i64 l] []] h (fun en h' => en = .ret (.bool (decide (d = -1 ∨ x ≤ l))) ∧ Ext h h') := by
 have hld : d ≠ -1 → (i64s L)[0 + d.toNat * 1]? = some (.int .i64 x) := fun q => by
  unfold i64s
  rw [Nat.zero_add, Nat.mul_one, List.getElem?_map, hx q]
  rfl
 have e0 : Ext h h := Ext.refl _
 refine Runs.intro aFunc117 rfl rfl rfl rfl fun rest => ?_;apply gS;refine gR rfl ?_;refine GoR.box rfl rfl rfl rfl rfl rfl fun h0 x0 f0 => ?_;replace e0 := e0.trans x0;refine gP ?_;apply gE;apply gS;refine gR rfl ?_;refine gP ?_
 by_cases hs0 : (d : Int) = (-1 : Int)
 ·refine gO rfl rfl (kET rfl rfl) rfl ?_;refine gP ?_;iterate 5 refine GoR.skip rfl rfl rfl ?_
  iterate 2 refine gP ?_
  apply gE;exact gV (ret_end (aResult_of Try.func117 rfl rfl) ⟨ret_true (by omega), e0⟩)
 ·refine gO rfl rfl (kEF rfl rfl) rfl ?_;iterate 3 refine gP ?_
  refine gO rfl rfl (aOp_indexAddrArrI Try.underlying119 sz117 rfl rfl (by omega)) rfl ?_;refine gO rfl rfl (ld117 rfl f0 (hld (by omega))) rfl ?_;refine GoR.call rfl rfl (aOp_callVal rfl aFunc125 rfl) (bears_ok) ?_ np;rintro v1 h1 ⟨q, x1⟩;cases q;refine ⟨_, rfl, ?_⟩;replace e0 := e0.trans x1;iterate 2 refine gP ?_
  apply gE;exact gV (ret_end (aResult_of Try.func117 rfl rfl) ⟨ret_dec (by omega), e0⟩)
theorem course_ok {F : FootV} (O : F.Ok) {rsl hsl : AVal} {h : AH} (A : FootAt h F rsl hsl) (T : Bool) {i : Nat} (hi : i < F.hs.length) (p : Pl) :
  Runs Try.prog 85 [.agg (F.cells rsl hsl), truthV T F rsl hsl, .int .i64 i, .agg p.cells] h (fun en h' => en = .ret (.agg (i64s (F.crs T i p F.rs.length))) ∧ Ext h h') := by
 have hl1 := A.rs.len
 rw [List.length_map] at hl1
 have hnr := O.nr
 obtain ⟨ff, fargs, hst⟩ := start_in F rsl hsl T hi
 have hrn := fun d hd => rain_in F rsl hsl T (i := d) hd
 obtain ⟨tv, htv⟩ : ∃ tv, truthV T F rsl hsl = tv := ⟨_, rfl⟩
 rw [htv] at hst hrn ⊢
 have hdone : ∀ (d : Int) h, Runs Try.prog 115 [.agg [.int .i64 p.a, .int .i64 p.b, .int .i64 p.c], .int .i64 d] h (fun en h' => en = .ret (.int .i64 (doneV p d)) ∧ Ext h h') := fun d h => done_ok
 unfold Pl.cells FootV.cells
 have e0 : Ext h h := Ext.refl _
 refine Runs.intro aFunc85 rfl rfl rfl rfl fun rest => ?_;apply gS;refine gR rfl ?_;refine GoR.box rfl rfl rfl rfl rfl rfl fun h0 x0 f0 => ?_;have := e0.1;replace e0 := e0.trans x0;have := f0.1;refine GoR.box rfl rfl rfl rfl rfl rfl fun h1 x1 f1 => ?_;have := e0.1;have := f0.1;replace f0 := f0.ext x1;replace e0 := e0.trans x1;have := f1.1;refine GoR.alloc rfl rfl rfl zt119 rfl rfl fun h2 x2 f2 => ?_;have := e0.1;have := f1.1;have := f0.1;replace f1 := f1.ext x2;replace f0 := f0.ext x2;replace e0 := e0.trans x2;have := f2.1;apply gE;apply gS;refine gR rfl ?_;iterate 2 refine gP ?_
 refine GoR.call rfl rfl (aOp_invoke rfl rfl ((hst _ (A.ext e0)).1)) ((hst _ (A.ext e0)).2) ?_ np;rintro _ h3 ⟨q, x3⟩;cases q;refine ⟨_, rfl, ?_⟩;replace f2 := f2.ext x3;replace f1 := f1.ext x3;replace f0 := f0.ext x3;replace e0 := e0.trans x3;refine gO rfl rfl (aOp_indexAddrArr (i := 0) Try.underlying119 sz117 rfl rfl rfl) rfl ?_;refine GoR.store rfl rfl rfl rfl rfl rfl f2 rfl sz117 rfl rfl rfl fun h4 u4 => ?_;replace f2 := u4.has f2;replace f1 := f1.upd u4 (by omega);replace f0 := f0.upd u4 (by omega)
 first | replace e0 := e0.upd u4 (by omega) | clear e0
 apply gE;iterate 2 apply gS
 refine gR rfl ?_;refine gO rfl rfl (fa80_0 rfl) rfl ?_;refine gO rfl rfl (ld22 rfl f0 rfl) rfl ?_;refine gO rfl rfl (aOp_lenSlice Try.underlying22 rfl (by assumption)) rfl ?_;refine gP ?_;apply gE;refine Go.block noJ_ok ?_
 refine Go.loopKeep (fun d : Nat => [(1, tv), (4, .ptr h.next 0), (7, .ptr h0.next 0), (8, .ptr h1.next 0), (19, .int .i64 F.rs.length), (20, .int .i64 (d : Nat))])
  (fun m d h' => m + d = F.rs.length ∧ Ext h h' ∧ Has h' h.next (.cells .plain [rsl, .int .i64 F.men, .int .i64 F.l0, .int .i64 F.l1, .int .i64 F.l2, .int .i64 F.d0, .int .i64 F.d1, .int .i64 F.d2, hsl] 80) ∧ Has h' h0.next (.cells .plain [.int .i64 p.a, .int .i64 p.b, .int .i64 p.c] 83) ∧ Has h' h1.next (.cells .plain (i64s (F.crs T i p d)) 119))
  (n := F.rs.length) 0 ⟨rfl, rfl, rfl, rfl, rfl, rfl, trivial⟩ ⟨rfl, e0, f0, f1, f2⟩ ?_
 clear e0 f0 f1 f2;rintro m d h20 ⟨hm, e0, f0, f1, f2⟩ again
 have hcl : (i64s (F.crs T i p d)).length = 9 := by unfold i64s FootV.crs; simp
 by_cases hd : d < F.rs.length
 ·obtain ⟨fr, frargs, hrd⟩ := hrn d hd
  have hdv := doneV_in p d
  have hw := w_in O T i p d
  have hr := rn_in O T d
  have hdd := dr_in O (doneV p d)
  have hld : (i64s (F.crs T i p d))[0 + d * 1]? = some (.int .i64 (F.w T i p d)) := by
   unfold i64s
   rw [Nat.zero_add, Nat.mul_one, List.getElem?_map, crs_at (by omega), if_pos (Nat.le_refl _)]
   rfl
  have hset : splice (i64s (F.crs T i p d)) (0 + (d + 1) * 1) (AVal.int .i64 (F.w T i p (d + 1))).cells = some (i64s (F.crs T i p (d + 1))) := by
   rw [Nat.zero_add, Nat.mul_one]
   show splice _ _ [_] = _
   rw [splice_at (by omega), crs_set (by omega)]
  have hstep : F.w T i p (d + 1) = if doneV p d ≤ 2 then max 0 (F.w T i p d + (F.rn T d - F.dr (doneV p d))) else F.w T i p d := rfl
  by_cases hk : doneV p d ≤ 2
  ·rw [if_pos hk] at hstep;rw [hstep] at hset
   have hdr : [rsl, .int .i64 F.men, .int .i64 F.l0, .int .i64 F.l1, .int .i64 F.l2, .int .i64 F.d0, .int .i64 F.d1, .int .i64 F.d2, hsl][0 + 5 + (doneV p d).toNat * 1]? = some (.int .i64 (F.dr (doneV p d))) := by
    have : doneV p d = 0 ∨ doneV p d = 1 ∨ doneV p d = 2 := by omega
    rcases this with q | q | q <;> rw [q] <;> rfl
   apply gS;refine gR rfl ?_;refine gO rfl rfl (kLT rfl rfl) rfl ?_;apply gE;apply gS;refine gC (b := true) rfl ?_;refine gD ?_;apply gS;refine Go.block noJ_ok ?_;apply gS;refine gR rfl ?_;iterate 2 refine gP ?_
   apply gE;apply gS;refine gR rfl ?_;iterate 2 refine gP ?_
   apply gE;iterate 2 apply gS
   refine gR rfl ?_;refine gO rfl rfl (ld83 rfl f1 rfl) rfl ?_;refine gP ?_;refine GoR.call rfl rfl (aCF aFunc115 rfl) (hdone _ _) ?_ np;rintro v21 h21 ⟨q, x21⟩;cases q;refine ⟨_, rfl, ?_⟩;replace f0 := f0.ext x21;replace f1 := f1.ext x21;replace f2 := f2.ext x21;replace e0 := e0.trans x21;refine gP ?_;apply gE;apply gS;refine gR rfl ?_;refine gP ?_;refine gO rfl rfl (kMT rfl rfl) rfl ?_;apply gE;refine gC (b := true) rfl ?_;refine Go.drawnE plan85_0 ?_;refine gQ rfl rfl rfl rfl ?_;refine gQ rfl rfl (fa80_3 rfl) rfl ?_;refine gQ rfl rfl (aOp_indexAddrArrI Try.underlying23 sz3 rfl rfl (by omega)) rfl ?_;refine gQ rfl rfl (ld3 rfl f0 hdr) rfl ?_;iterate 2 refine gQ rfl rfl rfl rfl ?_
   refine GoE.end rfl ?_;refine Go.drawnE plan85_1 ?_;refine gQ rfl rfl rfl rfl ?_;refine gQ rfl rfl (aA rfl rfl) rfl ?_;iterate 2 refine gQ rfl rfl rfl rfl ?_
   refine gQ rfl rfl (aOp_indexAddrArrI Try.underlying119 sz117 rfl rfl (by omega)) rfl ?_;refine gQ rfl rfl (ld117 rfl f2 hld) rfl ?_;iterate 3 refine gQ rfl rfl rfl rfl ?_
   refine GoE.call rfl rfl (aOp_invoke rfl rfl ((hrd _ (A.ext e0)).1)) ((hrd _ (A.ext e0)).2) (dK 192 9 (dD 192 7 (dD 192 6 (dK 192 5 (dK 192 4 (dK 192 3 (dK 192 2 (dK 192 1 (dK 192 0 rfl))))))))) ?_ np;rintro v22 h22 ⟨q, x22⟩;cases q;replace f0 := f0.ext x22;replace f1 := f1.ext x22;replace f2 := f2.ext x22;replace e0 := e0.trans x22;refine ⟨(rck (h2 := h22) rfl (rfl) (rck (h2 := h22) rfl (ld117 rfl f2 hld) (rck (h2 := h22) rfl (aOp_indexAddrArrI Try.underlying119 sz117 rfl rfl (by omega)) (rck (h2 := h22) rfl (rfl) (rck (h2 := h22) rfl (rfl) (rck (h2 := h22) rfl (aA rfl rfl) (rck (h2 := h22) rfl (rfl) recheck_nil))))))), _, rfl, ?_⟩;refine GoE.call rfl rfl (aOp_callVal rfl aFunc116 rfl) (spread_ok (by omega) (by omega) (by omega)) (dD 1020 9 (dD 1020 5 (dD 1020 4 (dD 1020 3 (dD 1020 2 (dK 1020 1 (dK 1020 0 rfl))))))) ?_ np;rintro v23 h23 ⟨q, x23⟩;cases q;replace f0 := f0.ext x23;replace f1 := f1.ext x23;replace f2 := f2.ext x23;replace e0 := e0.trans x23;refine ⟨(rck (h2 := h23) rfl (aA rfl rfl) (rck (h2 := h23) rfl (rfl) recheck_nil)), _, rfl, ?_⟩;refine gQ rfl rfl (aOp_indexAddrArrI Try.underlying119 sz117 rfl rfl (by omega)) rfl ?_;refine GoE.store rfl rfl rfl rfl (dD 4095 11 (dD 4095 1 (dD 4095 0 rfl))) rfl rfl f2 rfl sz117 rfl rfl hset fun h24 u24 => ?_;replace f0 := f0.upd u24 (by omega);replace f1 := f1.upd u24 (by omega);replace f2 := u24.has f2
   first | replace e0 := e0.upd u24 (by omega) | clear e0
   refine ⟨recheck_nil, ?_⟩;refine GoE.end rfl ?_;refine Go.inBlock noJ_ok ?_;refine gR rfl ?_;refine gO rfl rfl (aA rfl rfl) rfl ?_;refine gP ?_;apply gE;exact again (m - 1) (d + 1) _ _ (by omega) ⟨rfl, rfl, rfl, rfl, rfl, rfl, trivial⟩ ⟨by omega, e0, f0, f1, f2⟩
  ·rw [if_neg hk] at hstep;rw [hstep] at hset;apply gS;refine gR rfl ?_;refine gO rfl rfl (kLT rfl rfl) rfl ?_;apply gE;apply gS;refine gC (b := true) rfl ?_;refine gD ?_;apply gS;refine Go.block noJ_ok ?_;apply gS;refine gR rfl ?_;iterate 2 refine gP ?_
   apply gE;apply gS;refine gR rfl ?_;iterate 2 refine gP ?_
   apply gE;iterate 2 apply gS
   refine gR rfl ?_;refine gO rfl rfl (ld83 rfl f1 rfl) rfl ?_;refine gP ?_;refine GoR.call rfl rfl (aCF aFunc115 rfl) (hdone _ _) ?_ np;rintro v21 h21 ⟨q, x21⟩;cases q;refine ⟨_, rfl, ?_⟩;replace f0 := f0.ext x21;replace f1 := f1.ext x21;replace f2 := f2.ext x21;replace e0 := e0.trans x21;refine gP ?_;apply gE;apply gS;refine gR rfl ?_;refine gP ?_;refine gO rfl rfl (kMF rfl rfl) rfl ?_;apply gE;refine gC (b := false) rfl ?_;refine gD ?_;refine Go.drawnE plan85_1 ?_;refine gQ rfl rfl rfl rfl ?_;refine gQ rfl rfl (aA rfl rfl) rfl ?_;iterate 2 refine gQ rfl rfl rfl rfl ?_
   refine gQ rfl rfl (aOp_indexAddrArrI Try.underlying119 sz117 rfl rfl (by omega)) rfl ?_;refine gQ rfl rfl (ld117 rfl f2 hld) rfl ?_;iterate 3 refine gQ rfl rfl rfl rfl ?_
   refine GoE.call rfl rfl (aOp_invoke rfl rfl ((hrd _ (A.ext e0)).1)) ((hrd _ (A.ext e0)).2) (dK 192 9 (dD 192 7 (dD 192 6 (dK 192 5 (dK 192 4 (dK 192 3 (dK 192 2 (dK 192 1 (dK 192 0 rfl))))))))) ?_ np;rintro v22 h22 ⟨q, x22⟩;cases q;replace f0 := f0.ext x22;replace f1 := f1.ext x22;replace f2 := f2.ext x22;replace e0 := e0.trans x22;refine ⟨(rck (h2 := h22) rfl (rfl) (rck (h2 := h22) rfl (ld117 rfl f2 hld) (rck (h2 := h22) rfl (aOp_indexAddrArrI Try.underlying119 sz117 rfl rfl (by omega)) (rck (h2 := h22) rfl (rfl) (rck (h2 := h22) rfl (rfl) (rck (h2 := h22) rfl (aA rfl rfl) (rck (h2 := h22) rfl (rfl) recheck_nil))))))), _, rfl, ?_⟩;refine GoE.call rfl rfl (aOp_callVal rfl aFunc114 rfl) (covered_ok) (dD 1020 9 (dD 1020 5 (dD 1020 4 (dD 1020 3 (dD 1020 2 (dK 1020 1 (dK 1020 0 rfl))))))) ?_ np;rintro v23 h23 ⟨q, x23⟩;cases q;replace f0 := f0.ext x23;replace f1 := f1.ext x23;replace f2 := f2.ext x23;replace e0 := e0.trans x23;refine ⟨(rck (h2 := h23) rfl (aA rfl rfl) (rck (h2 := h23) rfl (rfl) recheck_nil)), _, rfl, ?_⟩;refine gQ rfl rfl (aOp_indexAddrArrI Try.underlying119 sz117 rfl rfl (by omega)) rfl ?_;refine GoE.store rfl rfl rfl rfl (dD 4095 11 (dD 4095 1 (dD 4095 0 rfl))) rfl rfl f2 rfl sz117 rfl rfl hset fun h24 u24 => ?_;replace f0 := f0.upd u24 (by omega);replace f1 := f1.upd u24 (by omega);replace f2 := u24.has f2
   first | replace e0 := e0.upd u24 (by omega) | clear e0
   refine ⟨recheck_nil, ?_⟩;refine GoE.end rfl ?_;refine Go.inBlock noJ_ok ?_;refine gR rfl ?_;refine gO rfl rfl (aA rfl rfl) rfl ?_;refine gP ?_;apply gE;exact again (m - 1) (d + 1) _ _ (by omega) ⟨rfl, rfl, rfl, rfl, rfl, rfl, trivial⟩ ⟨by omega, e0, f0, f1, f2⟩
 ·have hdn : d = F.rs.length := by omega
  subst hdn;apply gS;refine gR rfl ?_;refine gO rfl rfl (kLF rfl rfl) rfl ?_;apply gE;apply gS;refine gC (b := false) rfl ?_;refine gD ?_;apply gS;refine gR rfl ?_;refine gO rfl rfl (ld119 rfl f2 (slice_all hcl)) rfl ?_;refine GoR.store rfl rfl rfl rfl rfl rfl f2 rfl sz119 rfl rfl rfl fun h21 u21 => ?_;replace f2 := u21.has f2
  first | replace e0 := e0.upd u21 (by omega) | clear e0
  apply gE;exact gV (ret_end (aResult_of Try.func85 rfl (aResults_cell rfl f2 (inCells_agg ag119 sz119 rfl))) ⟨rfl, e0⟩)
def FootV.Kept (F : FootV) (T : Bool) (i : Nat) (p : Pl) : Prop := (p.a = -1 ∨ F.w T i p p.a.toNat ≤ F.l0) ∧ (p.b = -1 ∨ F.w T i p p.b.toNat ≤ F.l1) ∧ (p.c = -1 ∨ F.w T i p p.c.toNat ≤ F.l2)
instance (F : FootV) (T : Bool) (i : Nat) (p : Pl) : Decidable (F.Kept T i p) := by unfold FootV.Kept; infer_instance
theorem crs_day {F : FootV} {T : Bool} {i : Nat} {p : Pl} {n : Nat} {d : Int} (hd : 0 ≤ d ∧ d ≤ n) (h9 : n < 9) : (F.crs T i p n)[d.toNat]? = some (F.w T i p d.toNat) := by
 rw [crs_at (by omega), if_pos (by omega)]
theorem kept_ok {F : FootV} (O : F.Ok) {rsl hsl : AVal} {h : AH} (A : FootAt h F rsl hsl) (T : Bool) {i : Nat} (hi : i < F.hs.length) (p : Pl) (hp : p.Ord F.rs.length) :
  Runs Try.prog 87 [.agg (F.cells rsl hsl), truthV T F rsl hsl, .int .i64 i, .agg p.cells] h (fun en h' => en = .ret (.bool (decide (F.Kept T i p))) ∧ Ext h h') := by
 have hnr := O.nr
 obtain ⟨ha, hb, hc⟩ := hp
 have hco := fun h A => course_ok O (h := h) (rsl := rsl) (hsl := hsl) A T hi p
 have hne := fun h k hk => need_ok (F := F) (rsl := rsl) (hsl := hsl) (h := h) k hk
 have hl9 : (F.crs T i p F.rs.length).length = 9 := by unfold FootV.crs; simp
 have hci : (i64s (F.crs T i p F.rs.length)).length = 9 := by unfold i64s; rw [List.length_map, hl9]
 obtain ⟨tv, htv⟩ : ∃ tv, truthV T F rsl hsl = tv := ⟨_, rfl⟩
 rw [htv] at hco ⊢
 unfold FootV.Kept
 have sa := fun h => suits_ok (L := F.crs T i p F.rs.length) (d := p.a) (l := F.l0) (x := F.w T i p p.a.toNat) (h := h) hl9 (by omega) (fun q => crs_day (by omega) (by omega))
 have sb := fun h => suits_ok (L := F.crs T i p F.rs.length) (d := p.b) (l := F.l1) (x := F.w T i p p.b.toNat) (h := h) hl9 (by omega) (fun q => crs_day (by omega) (by omega))
 have sc := fun h => suits_ok (L := F.crs T i p F.rs.length) (d := p.c) (l := F.l2) (x := F.w T i p p.c.toNat) (h := h) hl9 (by omega) (fun q => crs_day (by omega) (by omega))
 unfold Pl.cells FootV.cells at hco ⊢
 unfold FootV.cells at hne
 have n0 := fun h => hne h 0 (by omega)
 have n1 := fun h => hne h 1 (by omega)
 have n2 := fun h => hne h 2 (by omega)
 have e0 : Ext h h := Ext.refl _
 refine Runs.intro aFunc87 rfl rfl rfl rfl fun rest => ?_;apply gS;refine gR rfl ?_;refine GoR.box rfl rfl rfl rfl rfl rfl fun h0 x0 f0 => ?_;have := e0.1;replace e0 := e0.trans x0;have := f0.1;refine GoR.box rfl rfl rfl rfl rfl rfl fun h1 x1 f1 => ?_;have := e0.1;have := f0.1;replace f0 := f0.ext x1;replace e0 := e0.trans x1;have := f1.1;refine gP ?_;apply gE;apply gS;refine gR rfl ?_;refine gO rfl rfl (ld80 rfl f0 rfl) rfl ?_;iterate 2 refine gP ?_
 refine gO rfl rfl (ld83 rfl f1 rfl) rfl ?_;refine GoR.call rfl rfl (aCF aFunc85 rfl) (hco _ (A.ext e0)) ?_ np;rintro v2 h2 ⟨q, x2⟩;cases q;refine ⟨_, rfl, ?_⟩;replace f1 := f1.ext x2;replace f0 := f0.ext x2;replace e0 := e0.trans x2;refine GoR.alloc rfl rfl rfl zt119 rfl rfl fun h3 x3 f3 => ?_;have := e0.1;have := f1.1;have := f0.1;replace f1 := f1.ext x3;replace f0 := f0.ext x3;replace e0 := e0.trans x3;have := f3.1;refine GoR.store rfl rfl rfl rfl rfl rfl f3 rfl sz119 rfl rfl rfl fun h4 u4 => ?_;replace f3 := u4.has f3;replace f1 := f1.upd u4 (by omega);replace f0 := f0.upd u4 (by omega)
 first | replace e0 := e0.upd u4 (by omega) | clear e0
 apply gE;iterate 2 apply gS
 refine gR rfl ?_;refine gO rfl rfl (ld83 rfl f1 rfl) rfl ?_;refine gP ?_;apply gE;refine Go.block noJ_ok ?_;refine Go.loop noJ_ok ?_;apply gS;refine gR rfl ?_;refine gO rfl rfl (kLT rfl rfl) rfl ?_;apply gE;apply gS;refine gC (b := true) rfl ?_;refine gD ?_;apply gS;refine Go.block noJ_ok ?_;apply gS;refine gR rfl ?_;refine gP ?_;refine gO rfl rfl (aOp_indexArr (i := 0) Try.underlying83 sz3 rfl rfl rfl (partT_one ag3 rfl)) rfl ?_;iterate 2 refine gP ?_
 apply gE;apply gS;refine Go.drawnE plan87_0 ?_;refine gQ rfl rfl (ld119 rfl (by assumption) (slice_all hci)) rfl ?_;refine gQ rfl rfl rfl rfl ?_;refine gQ rfl rfl (ld80 rfl f0 rfl) rfl ?_;refine gQ rfl rfl rfl rfl ?_;refine GoE.call rfl rfl (aCF aFunc118 rfl) (n0 _) (dD 12 3 (dD 12 2 (dK 12 1 (dK 12 0 rfl)))) ?_ np;rintro v5 h5 ⟨q, x5⟩;cases q;replace f3 := f3.ext x5;replace f1 := f1.ext x5;replace f0 := f0.ext x5;replace e0 := e0.trans x5;refine ⟨(rck (h2 := h5) rfl (rfl) (rck (h2 := h5) rfl (ld119 rfl (by assumption) (slice_all hci)) recheck_nil)), _, rfl, ?_⟩;refine GoE.call rfl rfl (aCF aFunc117 rfl) (sa _) (dD 31 1 (dD 31 0 rfl)) ?_ np;rintro v6 h6 ⟨q, x6⟩;cases q;replace f3 := f3.ext x6;replace f1 := f1.ext x6;replace f0 := f0.ext x6;replace e0 := e0.trans x6;refine ⟨recheck_nil, _, rfl, ?_⟩;refine gQ rfl rfl rfl rfl ?_;refine GoE.end rfl ?_
 by_cases hs0 : p.a = (-1 : Int) ∨ F.w T i p p.a.toNat ≤ F.l0
 ·rw [decide_eq_true hs0];refine gC (b := false) rfl ?_;refine gD ?_;refine Go.inBlock noJ_ok ?_;refine gR rfl ?_;refine gO rfl rfl (aA rfl rfl) rfl ?_;refine gP ?_;apply gE;refine Go.inLoop noJ_ok ?_;apply gS;refine gR rfl ?_;refine gO rfl rfl (kLT rfl rfl) rfl ?_;apply gE;apply gS;refine gC (b := true) rfl ?_;refine gD ?_;apply gS;refine Go.block noJ_ok ?_;apply gS;refine gR rfl ?_;refine gP ?_;refine gO rfl rfl (aOp_indexArr (i := 1) Try.underlying83 sz3 rfl rfl rfl (partT_one ag3 rfl)) rfl ?_;iterate 2 refine gP ?_
  apply gE;apply gS;refine Go.drawnE plan87_0 ?_;refine gQ rfl rfl (ld119 rfl (by assumption) (slice_all hci)) rfl ?_;refine gQ rfl rfl rfl rfl ?_;refine gQ rfl rfl (ld80 rfl f0 rfl) rfl ?_;refine gQ rfl rfl rfl rfl ?_;refine GoE.call rfl rfl (aCF aFunc118 rfl) (n1 _) (dD 12 3 (dD 12 2 (dK 12 1 (dK 12 0 rfl)))) ?_ np;rintro v7 h7 ⟨q, x7⟩;cases q;replace f3 := f3.ext x7;replace f1 := f1.ext x7;replace f0 := f0.ext x7;replace e0 := e0.trans x7;refine ⟨(rck (h2 := h7) rfl (rfl) (rck (h2 := h7) rfl (ld119 rfl (by assumption) (slice_all hci)) recheck_nil)), _, rfl, ?_⟩;refine GoE.call rfl rfl (aCF aFunc117 rfl) (sb _) (dD 31 1 (dD 31 0 rfl)) ?_ np;rintro v8 h8 ⟨q, x8⟩;cases q;replace f3 := f3.ext x8;replace f1 := f1.ext x8;replace f0 := f0.ext x8;replace e0 := e0.trans x8;refine ⟨recheck_nil, _, rfl, ?_⟩;refine gQ rfl rfl rfl rfl ?_;refine GoE.end rfl ?_
  by_cases hs1 : p.b = (-1 : Int) ∨ F.w T i p p.b.toNat ≤ F.l1
  ·rw [decide_eq_true hs1];refine gC (b := false) rfl ?_;refine gD ?_;refine Go.inBlock noJ_ok ?_;refine gR rfl ?_;refine gO rfl rfl (aA rfl rfl) rfl ?_;refine gP ?_;apply gE;refine Go.inLoop noJ_ok ?_;apply gS;refine gR rfl ?_;refine gO rfl rfl (kLT rfl rfl) rfl ?_;apply gE;apply gS;refine gC (b := true) rfl ?_;refine gD ?_;apply gS;refine Go.block noJ_ok ?_;apply gS;refine gR rfl ?_;refine gP ?_;refine gO rfl rfl (aOp_indexArr (i := 2) Try.underlying83 sz3 rfl rfl rfl (partT_one ag3 rfl)) rfl ?_;iterate 2 refine gP ?_
   apply gE;apply gS;refine Go.drawnE plan87_0 ?_;refine gQ rfl rfl (ld119 rfl (by assumption) (slice_all hci)) rfl ?_;refine gQ rfl rfl rfl rfl ?_;refine gQ rfl rfl (ld80 rfl f0 rfl) rfl ?_;refine gQ rfl rfl rfl rfl ?_;refine GoE.call rfl rfl (aCF aFunc118 rfl) (n2 _) (dD 12 3 (dD 12 2 (dK 12 1 (dK 12 0 rfl)))) ?_ np;rintro v9 h9 ⟨q, x9⟩;cases q;replace f3 := f3.ext x9;replace f1 := f1.ext x9;replace f0 := f0.ext x9;replace e0 := e0.trans x9;refine ⟨(rck (h2 := h9) rfl (rfl) (rck (h2 := h9) rfl (ld119 rfl (by assumption) (slice_all hci)) recheck_nil)), _, rfl, ?_⟩;refine GoE.call rfl rfl (aCF aFunc117 rfl) (sc _) (dD 31 1 (dD 31 0 rfl)) ?_ np;rintro v10 h10 ⟨q, x10⟩;cases q;replace e0 := e0.trans x10;refine ⟨recheck_nil, _, rfl, ?_⟩;refine gQ rfl rfl rfl rfl ?_;refine GoE.end rfl ?_
   by_cases hs2 : p.c = (-1 : Int) ∨ F.w T i p p.c.toNat ≤ F.l2
   ·rw [decide_eq_true hs2];refine gC (b := false) rfl ?_;refine gD ?_;refine Go.inBlock noJ_ok ?_;refine gR rfl ?_;refine gO rfl rfl (aA rfl rfl) rfl ?_;refine gP ?_;apply gE;refine Go.inLoop noJ_ok ?_;apply gS;refine gR rfl ?_;refine gO rfl rfl (kLF rfl rfl) rfl ?_;apply gE;apply gS;refine gC (b := false) rfl ?_;refine gD ?_;apply gS;refine gR rfl ?_;refine gP ?_;apply gE;exact gV (ret_end (aResult_of Try.func87 rfl rfl) ⟨ret_true (by omega), e0⟩)
   ·rw [decide_eq_false hs2];refine gC (b := true) rfl ?_;apply gS;refine gR rfl ?_;refine gP ?_;apply gE;exact gV (ret_end (aResult_of Try.func87 rfl rfl) ⟨ret_false (by omega), e0⟩)
  ·rw [decide_eq_false hs1];refine gC (b := true) rfl ?_;apply gS;refine gR rfl ?_;refine gP ?_;apply gE;exact gV (ret_end (aResult_of Try.func87 rfl rfl) ⟨ret_false (by omega), e0⟩)
 ·rw [decide_eq_false hs0];refine gC (b := true) rfl ?_;apply gS;refine gR rfl ?_;refine gP ?_;apply gE;exact gV (ret_end (aResult_of Try.func87 rfl rfl) ⟨ret_false (by omega), e0⟩)
end Go.Proofs.Ytmimdgjehnhnoaa

namespace Go.Proofs.Ytmimdgjehnhnoaa
open Go Go.AbsE
set_option linter.unusedSimpArgs false
set_option maxRecDepth 100000
set_option maxHeartbeats 0
set_option linter.unusedVariables false
theorem same_cells (F : FootV) {rsl hsl : AVal} {h : AH} (A : FootAt h F rsl hsl) : sameA (.agg [rsl, .int .i64 F.men, .int .i64 F.l0, .int .i64 F.l1, .int .i64 F.l2, .int .i64 F.d0, .int .i64 F.d1, .int .i64 F.d2, hsl]) (.agg [rsl, .int .i64 F.men, .int .i64 F.l0, .int .i64 F.l1, .int .i64 F.l2, .int .i64 F.d0, .int .i64 F.d1, .int .i64 F.d2, hsl]) = true := by
 simp [sameA, sameAs, eqI_eq, A.hs.same, A.rs.same]
theorem same_truth (F : FootV) {rsl hsl : AVal} {h : AH} (A : FootAt h F rsl hsl) (T : Bool) : sameA (truthV T F rsl hsl) (truthV T F rsl hsl) = true := by
 have := same_cells F A
 unfold truthV FootV.cells
 split <;> (simp only [sameA, Nat.beq_refl, cond_true] at this ⊢; exact this)
theorem same_plan (p : Pl) : sameA (.agg [.int .i64 p.a, .int .i64 p.b, .int .i64 p.c]) (.agg [.int .i64 p.a, .int .i64 p.b, .int .i64 p.c]) = true := by
 simp [sameA, sameAs, eqI_eq]
theorem course_day {F : FootV} {T : Bool} {i : Nat} {p : Pl} {d : Nat} {el : TypeId} (ha : isAggT Try.prog el = some false) (hd : d ≤ F.rs.length) (h9 : F.rs.length < 9) : partT Try.prog el (i64s (F.crs T i p F.rs.length)) (d * 1) = some (.int .i64 (F.w T i p d)) := by
 refine partT_one ha ?_
 have := i64s_at (crs_at (F := F) (T := T) (i := i) (p := p) (n := F.rs.length) (d := d) (by omega))
 rw [Nat.zero_add, if_pos hd] at this;exact this
theorem wet_ok {F : FootV} (O : F.Ok) {rsl hsl : AVal} {h : AH} (A : FootAt h F rsl hsl) {i : Nat} (hi : i < F.hs.length) (p : Pl) (d : Nat) (hd : d ≤ F.rs.length) :
  Runs Try.prog 47 [.agg (F.cells rsl hsl), .int .i64 i, .agg p.cells, .int .i64 d] h (fun en h' => en = .ret (.agg (spC (F.w false i p d, F.w true i p d))) ∧ Ext h h') := by
 have hnr := O.nr
 have hcb := fun h A => course_ok O (h := h) (rsl := rsl) (hsl := hsl) A false hi p
 have hcw := fun h A => course_ok O (h := h) (rsl := rsl) (hsl := hsl) A true hi p
 have hb := fun h => best_ok (F := F) (rsl := rsl) (hsl := hsl) (h := h)
 have hw := fun h => worst_ok (F := F) (rsl := rsl) (hsl := hsl) (h := h)
 have s1 := same_cells F A
 have s2 := same_truth F A true
 have s3 := same_truth F A false
 have s4 := same_plan p
 obtain ⟨tb, htb⟩ : ∃ tv, truthV false F rsl hsl = tv := ⟨_, rfl⟩
 obtain ⟨tw, htw⟩ : ∃ tv, truthV true F rsl hsl = tv := ⟨_, rfl⟩
 rw [htb] at hcb hb s3;rw [htw] at hcw hw s2
 unfold FootV.cells at hcb hcw hb hw ⊢
 unfold Pl.cells at hcb hcw ⊢
 unfold spC
 have e0 : Ext h h := Ext.refl _
 refine Runs.intro aFunc47 rfl rfl rfl rfl fun rest => ?_;apply gS;refine gR rfl ?_;refine GoR.box rfl rfl rfl rfl rfl rfl fun h0 x0 f0 => ?_;have := e0.1;replace e0 := e0.trans x0;have := f0.1;refine GoR.box rfl rfl rfl rfl rfl rfl fun h1 x1 f1 => ?_;have := e0.1;have := f0.1;replace f0 := f0.ext x1;replace e0 := e0.trans x1;have := f1.1;refine GoR.alloc rfl rfl rfl zt31 rfl rfl fun h2 x2 f2 => ?_;have := e0.1;have := f1.1;have := f0.1;replace f1 := f1.ext x2;replace f0 := f0.ext x2;replace e0 := e0.trans x2;have := f2.1;apply gE;apply gS;refine Go.drawnE plan47_0 ?_;iterate 2 refine gQ rfl rfl (ld80 rfl f0 rfl) rfl ?_
 refine gQ rfl rfl rfl rfl ?_;refine gQ rfl rfl (ld83 rfl f1 rfl) rfl ?_;refine gQ rfl rfl rfl rfl ?_;iterate 2 refine gQ rfl rfl (ld80 rfl f0 rfl) rfl ?_
 refine gQ rfl rfl rfl rfl ?_;refine gQ rfl rfl (ld83 rfl f1 rfl) rfl ?_;refine gQ rfl rfl rfl rfl ?_;refine GoE.call rfl rfl (aCF aFunc63 rfl) (hb _) (dK 2 14 (dK 2 12 (dK 2 11 (dK 2 9 (dK 2 8 (dK 2 6 (dK 2 4 (dK 2 3 (dD 2 1 (dK 2 0 rfl)))))))))) ?_ np;rintro v3 h3 ⟨q, x3⟩;cases q;replace f2 := f2.ext x3;replace f1 := f1.ext x3;replace f0 := f0.ext x3;replace e0 := e0.trans x3;refine ⟨(rck (h2 := h3) rfl (rfl) (rck (h2 := h3) rfl (ld83 rfl f1 rfl) (rck (h2 := h3) rfl (rfl) (rck (h2 := h3) rfl (ld80 rfl f0 rfl) (rck (h2 := h3) rfl (ld80 rfl f0 rfl) (rck (h2 := h3) rfl (rfl) (rck (h2 := h3) rfl (ld83 rfl f1 rfl) (rck (h2 := h3) rfl (rfl) (rck (h2 := h3) rfl (ld80 rfl f0 rfl) recheck_nil))))))))), _, rfl, ?_⟩;refine GoE.call rfl rfl (aCF aFunc85 rfl) (hcb _ (A.ext e0)) (dK 31 14 (dK 31 12 (dK 31 11 (dK 31 9 (dK 31 8 (dK 31 6 (dD 31 4 (dD 31 3 (dD 31 0 rfl))))))))) ?_ np;rintro v4 h4 ⟨q, x4⟩;cases q;replace f2 := f2.ext x4;replace f1 := f1.ext x4;replace f0 := f0.ext x4;replace e0 := e0.trans x4;refine ⟨(rck (h2 := h4) rfl (rfl) (rck (h2 := h4) rfl (ld83 rfl f1 rfl) (rck (h2 := h4) rfl (rfl) (rck (h2 := h4) rfl (ld80 rfl f0 rfl) (rck (h2 := h4) rfl (ld80 rfl f0 rfl) (rck (h2 := h4) rfl (rfl) recheck_nil)))))), _, rfl, ?_⟩;refine gQ rfl rfl (aOp_indexArr (i := d) Try.underlying119 sz117 rfl rfl (Nat.ble_eq_true_of_le (by omega)) (course_day ag117 hd (by omega))) rfl ?_;refine GoE.call rfl rfl (aCF aFunc58 rfl) (hw _) (dK 575 7 (dK 575 14 (dK 575 12 (dK 575 11 (dD 575 9 (dK 575 8 (dK 575 6 rfl))))))) ?_ np;rintro v5 h5 ⟨q, x5⟩;cases q;replace f2 := f2.ext x5;replace f1 := f1.ext x5;replace f0 := f0.ext x5;replace e0 := e0.trans x5;refine ⟨(rck (h2 := h5) rfl (aOp_indexArr (i := d) Try.underlying119 sz117 rfl rfl (Nat.ble_eq_true_of_le (by omega)) (course_day ag117 hd (by omega))) (rck (h2 := h5) rfl (rfl) (rck (h2 := h5) rfl (ld83 rfl f1 rfl) (rck (h2 := h5) rfl (rfl) (rck (h2 := h5) rfl (ld80 rfl f0 rfl) (rck (h2 := h5) rfl (rfl) recheck_nil)))))), _, rfl, ?_⟩;refine GoE.call rfl rfl (aCF aFunc85 rfl) (hcw _ (A.ext e0)) (dK 7999 7 (dK 7999 14 (dD 7999 12 (dD 7999 11 (dD 7999 8 (dK 7999 6 rfl)))))) ?_ np;rintro v6 h6 ⟨q, x6⟩;cases q;replace f2 := f2.ext x6;replace e0 := e0.trans x6;refine ⟨(rck (h2 := h6) rfl (aOp_indexArr (i := d) Try.underlying119 sz117 rfl rfl (Nat.ble_eq_true_of_le (by omega)) (course_day ag117 hd (by omega))) (rck (h2 := h6) rfl (rfl) (rck (h2 := h6) rfl (rfl) recheck_nil))), _, rfl, ?_⟩;refine gQ rfl rfl (aOp_indexArr (i := d) Try.underlying119 sz117 rfl rfl (Nat.ble_eq_true_of_le (by omega)) (course_day ag117 hd (by omega))) rfl ?_;refine gQ rfl rfl (aOp_build zt31 hu31 pl31 rfl rfl) rfl ?_;refine GoE.store rfl rfl rfl rfl (dD 131071 16 (dD 131071 15 (dD 131071 7 (dD 131071 14 (dD 131071 6 rfl))))) rfl rfl f2 rfl sz31 rfl rfl rfl fun h7 u7 => ?_;replace f2 := u7.has f2
 first | replace e0 := e0.upd u7 (by omega) | clear e0
 refine ⟨recheck_nil, ?_⟩;refine GoE.end rfl ?_;exact gV (ret_end (aResult_of Try.func47 rfl (aResults_cell rfl f2 (inCells_agg ag31 sz31 rfl))) ⟨rfl, e0⟩)
def FootV.can (F : FootV) (i : Nat) (p : Pl) : Int := if F.Kept true i p then 2 else if F.Kept false i p then 1 else 0
theorem can_ok {F : FootV} (O : F.Ok) {rsl hsl : AVal} {h : AH} (A : FootAt h F rsl hsl) {i : Nat} (hi : i < F.hs.length) (p : Pl) (hp : p.Ord F.rs.length) :
  Runs Try.prog 54 [.agg (F.cells rsl hsl), .int .i64 i, .agg p.cells] h (fun en h' => en = .ret (.int .i64 (F.can i p)) ∧ Ext h h') := by
 have hcb := fun h A => kept_ok O (h := h) (rsl := rsl) (hsl := hsl) A false hi p hp
 have hcw := fun h A => kept_ok O (h := h) (rsl := rsl) (hsl := hsl) A true hi p hp
 have hb := fun h => best_ok (F := F) (rsl := rsl) (hsl := hsl) (h := h)
 have hw := fun h => worst_ok (F := F) (rsl := rsl) (hsl := hsl) (h := h)
 have s1 := same_cells F A
 have s2 := same_truth F A true
 have s3 := same_truth F A false
 have s4 := same_plan p
 obtain ⟨tb, htb⟩ : ∃ tv, truthV false F rsl hsl = tv := ⟨_, rfl⟩
 obtain ⟨tw, htw⟩ : ∃ tv, truthV true F rsl hsl = tv := ⟨_, rfl⟩
 rw [htb] at hcb hb s3;rw [htw] at hcw hw s2
 unfold FootV.cells at hcb hcw hb hw ⊢
 unfold Pl.cells at hcb hcw ⊢
 unfold FootV.can
 have e0 : Ext h h := Ext.refl _
 refine Runs.intro aFunc54 rfl rfl rfl rfl fun rest => ?_;apply gS;refine gR rfl ?_;refine GoR.box rfl rfl rfl rfl rfl rfl fun h0 x0 f0 => ?_;have := e0.1;replace e0 := e0.trans x0;have := f0.1;refine GoR.box rfl rfl rfl rfl rfl rfl fun h1 x1 f1 => ?_;have := e0.1;have := f0.1;replace f0 := f0.ext x1;replace e0 := e0.trans x1;have := f1.1;refine gP ?_;apply gE;apply gS;refine Go.block noJ_ok ?_;apply gS;refine Go.drawnE plan54_0 ?_;iterate 2 refine gQ rfl rfl (ld80 rfl f0 rfl) rfl ?_
 refine gQ rfl rfl rfl rfl ?_;refine gQ rfl rfl (ld83 rfl f1 rfl) rfl ?_;refine GoE.call rfl rfl (aCF aFunc58 rfl) (hw _) (dK 2 4 (dK 2 3 (dD 2 1 (dK 2 0 rfl)))) ?_ np;rintro v2 h2 ⟨q, x2⟩;cases q;replace f1 := f1.ext x2;replace f0 := f0.ext x2;replace e0 := e0.trans x2;refine ⟨(rck (h2 := h2) rfl (ld83 rfl f1 rfl) (rck (h2 := h2) rfl (rfl) (rck (h2 := h2) rfl (ld80 rfl f0 rfl) recheck_nil))), _, rfl, ?_⟩;refine GoE.call rfl rfl (aCF aFunc87 rfl) (hcw _ (A.ext e0)) (dD 31 4 (dD 31 3 (dD 31 0 rfl))) ?_ np;rintro v3 h3 ⟨q, x3⟩;cases q;replace f1 := f1.ext x3;replace f0 := f0.ext x3;replace e0 := e0.trans x3;refine ⟨recheck_nil, _, rfl, ?_⟩;refine gQ rfl rfl rfl rfl ?_;refine GoE.end rfl ?_
 by_cases hs0 : F.Kept true i p
 ·rw [decide_eq_true hs0];refine gC (b := true) rfl ?_;apply gS;refine gR rfl ?_;refine gP ?_;apply gE;exact gV (ret_end (aResult_of Try.func54 rfl rfl) ⟨ret_int (by simp only [*, if_true, if_false, not_false_eq_true]), e0⟩)
 ·rw [decide_eq_false hs0];refine gC (b := false) rfl ?_;apply gS;refine Go.drawnE plan54_1 ?_;iterate 2 refine gQ rfl rfl (ld80 rfl f0 rfl) rfl ?_
  refine gQ rfl rfl rfl rfl ?_;refine gQ rfl rfl (ld83 rfl f1 rfl) rfl ?_;refine GoE.call rfl rfl (aCF aFunc63 rfl) (hb _) (dK 2 4 (dK 2 3 (dD 2 1 (dK 2 0 rfl)))) ?_ np;rintro v4 h4 ⟨q, x4⟩;cases q;replace f1 := f1.ext x4;replace f0 := f0.ext x4;replace e0 := e0.trans x4;refine ⟨(rck (h2 := h4) rfl (ld83 rfl f1 rfl) (rck (h2 := h4) rfl (rfl) (rck (h2 := h4) rfl (ld80 rfl f0 rfl) recheck_nil))), _, rfl, ?_⟩;refine GoE.call rfl rfl (aCF aFunc87 rfl) (hcb _ (A.ext e0)) (dD 31 4 (dD 31 3 (dD 31 0 rfl))) ?_ np;rintro v5 h5 ⟨q, x5⟩;cases q;replace f1 := f1.ext x5;replace f0 := f0.ext x5;replace e0 := e0.trans x5;refine ⟨recheck_nil, _, rfl, ?_⟩;refine gQ rfl rfl rfl rfl ?_;refine GoE.end rfl ?_
  by_cases hs1 : F.Kept false i p
  ·rw [decide_eq_true hs1];refine gC (b := true) rfl ?_;apply gS;refine gR rfl ?_;refine gP ?_;apply gE;exact gV (ret_end (aResult_of Try.func54 rfl rfl) ⟨ret_int (by simp only [*, if_true, if_false, not_false_eq_true]), e0⟩)
  ·rw [decide_eq_false hs1];refine gC (b := false) rfl ?_;refine gD ?_;refine Go.inBlock noJ_ok ?_;apply gS;refine gR rfl ?_;refine gP ?_;apply gE;exact gV (ret_end (aResult_of Try.func54 rfl rfl) ⟨ret_int (by simp only [*, if_true, if_false, not_false_eq_true]), e0⟩)
end Go.Proofs.Ytmimdgjehnhnoaa
