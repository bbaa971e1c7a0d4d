import Derived.Test.YteibheeleeengaaMAK
import Derived.Test.YteibheeleeengaaMAL
import Derived.KernelRfl
import Derived.Test.YteibheeleeengaaMAG
set_option linter.unusedSimpArgs false
namespace Go.AbsE
open Go
section
variable {P : Program}
structure TakesN (P : Program) (base : Nat) (y : AVal) (items : List (List AVal)) (J E : Nat → AH → (Nat → Prop) → Prop) : Prop where
 ltJ : ∀ {k h F b}, J k h F → F b → b < h.next
 keepJ : ∀ {k h F h'}, J k h F → h.next ≤ h'.next → (∀ b, b < h.next → (b < base ∨ F b) → h'.get b = h.get b) → J k h' F
 ltE : ∀ {k h F b}, E k h F → F b → b < h.next
 keepE : ∀ {k h F h'}, E k h F → h.next ≤ h'.next → (∀ b, b < h.next → (b < base ∨ F b) → h'.get b = h.get b) → E k h' F
 take : ∀ {k item h F}, items[k]? = some item → J k h F → ∃ x, callY P y item h = some x ∧ (∀ v h', x ≠ .val v h') ∧
  Does P x (fun en h' => ExtF F h h' ∧ ∃ F', (∀ b, F' b → F b ∨ h.next ≤ b) ∧ ((en = .ret (.bool true) ∧ J (k + 1) h' F') ∨ (en = .ret (.bool false) ∧ E k h' F')))
theorem TakesN.ext {base : Nat} {y : AVal} {items : List (List AVal)} {J E : Nat → AH → (Nat → Prop) → Prop} (T : TakesN P base y items J E) {k : Nat} {h h' : AH} {F : Nat → Prop} (j : J k h F) (e : Ext h h') : J k h' F := T.keepJ j e.1 fun b hb _ => e.2 b hb
theorem TakesN.keep {base : Nat} {y : AVal} {items : List (List AVal)} {J E : Nat → AH → (Nat → Prop) → Prop} (T : TakesN P base y items J E) {k : Nat} {h h' : AH} {F : Nat → Prop} (j : J k h F) (hn : h.next ≤ h'.next) (he : ∀ b, b < h.next → (b < base ∨ F b) → h'.get b = h.get b) : J k h' F := T.keepJ j hn he
theorem TakesN.shift {base : Nat} {y : AVal} {items sub : List (List AVal)} {J E : Nat → AH → (Nat → Prop) → Prop} (T : TakesN P base y items J E) (o : Nat) (hs : ∀ (n : Nat) v, sub[n]? = some v → items[o + n]? = some v) :
  TakesN P base y sub (fun n => J (o + n)) (fun n => E (o + n)) where
 ltJ := fun j => T.ltJ j
 keepJ := fun j => T.keepJ j
 ltE := fun j => T.ltE j
 keepE := fun j => T.keepE j
 take := fun h j => T.take (hs _ _ h) j
def IterN (P : Program) (g : FuncId) (first cap : List AVal) (items : List (List AVal)) (A : AH → Prop) : Prop :=
 ∀ (y : AVal) (base : Nat) (J E : Nat → AH → (Nat → Prop) → Prop) (h : AH) (F : Nat → Prop), y.cells = [y] → scalars [y] = true → (∀ h', ExtF F h h' → A h') → base ≤ h.next → TakesN P base y items J E → J 0 h F → Runs P g (first ++ [y] ++ cap) h (IterFR F J E items.length h)
theorem IterN.mono {g : FuncId} {first cap : List AVal} {items : List (List AVal)} {A A' : AH → Prop} (k : IterN P g first cap items A) (hA : ∀ h, A' h → A h) : IterN P g first cap items A' :=
 fun y base J E h F hyc hys hA' => k y base J E h F hyc hys fun h' x => hA h' (hA' h' x)
theorem Go.rangeN {fn n : Nat} {ds : List ADef} {dk : Bool} {rst : List AFr} {k : List AItem} {Q : AM → Prop} {t : Tr AVal} {h : AH} {x : Operand} {params : Array Tmp} {assign body : Code} {g : FuncId} {gf fnr : Func} {first cap : List AVal}
  {items : List (List AVal)} {A : AH → Prop} (F0 : Nat → Prop) (Inv : Nat → AH → (Nat → Prop) → Prop) (Fin : Code → AH → (Nat → Prop) → Prop)
  (hx : ev t x = some (.func (.func g) first cap)) (hg : aFunc P g = some gf) (hfn : P.funcs[fn]? = some fnr) (it : IterN P g first cap items A)
  (hA : ∀ h', ExtF F0 h h' → A h') (hI : Inv 0 h F0)
  (lI : ∀ k hh F b, Inv k hh F → F b → b < hh.next) (lF : ∀ c hh F b, Fin c hh F → F b → b < hh.next)
  (kI : ∀ k h1 h2 F, Inv k h1 F → h1.next ≤ h2.next → (∀ b, b < h1.next → (b < h.next ∨ F b) → h2.get b = h1.get b) → Inv k h2 F)
  (kF : ∀ c h1 h2 F, Fin c h1 F → h1.next ≤ h2.next → (∀ b, b < h1.next → (b < h.next ∨ F b) → h2.get b = h1.get b) → Fin c h2 F)
  (bd : ∀ (j : Nat) item, items[j]? = some item → ∃ t1, putArgs t n params.toList item = some t1 ∧ ∀ (hh : AH) (F : Nat → Prop) (lb : Nat) (r0 : ALoop) (fr : AFr) (rest : List AFr) (Q' : AM → Prop), Inv j hh F → ExtF F0 h hh → (∀ b, F b → F0 b ∨ h.next ≤ b) → ¬ F lb → h.next ≤ lb → Has hh lb (.loop r0) → r0.state = .ready →
   (∀ tt h' F', Inv (j + 1) h' F' → (∀ b, F' b → F b ∨ hh.next ≤ b) → ExtF (fun b => F b ∨ b = lb) hh h' → Has h' lb (.loop { r0 with state := .busy }) → Go P ⟨fn, n, [], false, some lb, fr :: rest⟩ [] tt h' Q') →
   (∀ c tt h' kk F', (c = .ret ∨ ∃ id, c = .exit id ∧ exitA id kk = none) → Fin c h' F' → (∀ b, F' b → F b ∨ hh.next ≤ b) → ExtF (fun b => F b ∨ b = lb) hh h' → Has h' lb (.loop { r0 with state := .busy }) → Go P ⟨fn, n, [], false, some lb, fr :: rest⟩ (.code c :: kk) tt h' Q') →
   Go P ⟨fn, n, [], false, some lb, fr :: rest⟩ [.code assign, .beginRound, .code body] t1 hh Q')
  (nx : ∀ d h3 F, ExtF F0 h h3 → (∀ b, F b → F0 b ∨ h.next ≤ b) → ¬ F d → h.next ≤ d → Has h3 d (.deferred (some [])) → Inv items.length h3 F → Go P ⟨fn, n, .collected d :: ds, dk, none, rst⟩ k t h3 Q)
  (fx : ∀ c d h3 F, ExtF F0 h h3 → (∀ b, F b → F0 b ∨ h.next ≤ b) → ¬ F d → h.next ≤ d → Has h3 d (.deferred (some [])) → Fin c h3 F → Go P ⟨fn, n, .collected d :: ds, dk, none, rst⟩ (.code c :: k) t h3 Q) :
  Go P ⟨fn, n, ds, dk, none, rst⟩ (.code (.rangeFunc x params assign body) :: k) t h Q := by
 refine Go.rangeFunc hx hg fun d lb h2 hd hlb e2 fd fl => ?_
 obtain ⟨r0, hr0, fl⟩ : ∃ r0 : ALoop, r0 = _ ∧ Has h2 lb (.loop r0) := ⟨_, rfl, fl⟩
 have n2 := e2.1
 have nl := fl.1
 have nd := fd.1
 have hF0 : ∀ b, F0 b → b < h.next := fun b q => lI _ _ _ _ hI q
 let Agree : AH → Prop := fun hh => h2.next ≤ hh.next ∧ ∀ b, b < h2.next → ¬ F0 b → b ≠ lb → hh.get b = h2.get b
 let Sub : (Nat → Prop) → Prop := fun F => ∀ b, F b → F0 b ∨ h2.next ≤ b
 let J : Nat → AH → (Nat → Prop) → Prop := fun j hh G => ∃ F, (∀ b, G b ↔ (F b ∨ b = lb)) ∧ Sub F ∧ Inv j hh F ∧ Agree hh ∧ Has hh lb (.loop r0)
 let E : Nat → AH → (Nat → Prop) → Prop := fun j hh G => ∃ F, (∀ b, G b ↔ (F b ∨ b = lb)) ∧ Sub F ∧ ∃ c, Fin c hh F ∧ Agree hh ∧ Has hh lb (.loop { r0 with state := .done, pending := some c })
 have hsub : ∀ {hh}, Agree hh → ExtF F0 h hh := fun {hh} a => ⟨by have := a.1; omega, fun b hb hn => by rw [a.2 b (by omega) hn (by omega), e2.2 b hb]⟩
 have hd' : ∀ {hh}, Agree hh → Has hh d (.deferred (some [])) := fun {hh} a => ⟨by have := a.1; omega, by rw [a.2 d nd (fun q => by have := hF0 d q; omega) (by omega)]; exact fd.2⟩
 have agU : ∀ {h1 h3 : AH} {o : ABlk}, Agree h1 → Upd h1 lb o h3 → Agree h3 := fun a u => ⟨by rw [u.1]; exact a.1, fun b hb h1 h2 => by rw [u.2.2 b h2]; exact a.2 b hb h1 h2⟩
 have low : ∀ {F}, Sub F → ∀ b, F b → F0 b ∨ h.next ≤ b := fun s b q => (s b q).elim .inl fun q => .inr (by omega)
 have nlb : ∀ {F}, Sub F → ¬ F lb := fun s q => (s lb q).elim (fun q => by have := hF0 _ q; omega) fun q => by omega
 have nd' : ∀ {F}, Sub F → ¬ F d := fun s q => (s d q).elim (fun q => by have := hF0 _ q; omega) fun q => by omega
 have tk : TakesN P h2.next (.yield lb) items J E := by
  refine ⟨?_, ?_, ?_, ?_, ?_⟩
  ·rintro j hh G b ⟨F, hG, s, i, a, f⟩ q
   rcases (hG b).1 q with q | rfl
   ·exact lI _ _ _ _ i q
   ·exact f.1
  ·rintro j hh G h' ⟨F, hG, s, i, a, f⟩ hn he
   have := a.1
   refine ⟨F, hG, s, kI _ _ _ _ i hn fun b hb q => he b hb (q.elim (fun q => .inl (by omega)) fun q => .inr ((hG b).2 (.inl q))), ⟨by omega, fun b hb h1 h2' => by rw [he b (by omega) (.inl hb)]; exact a.2 b hb h1 h2'⟩, ⟨by have := f.1; omega, by rw [he lb f.1 (.inr ((hG lb).2 (.inr rfl)))]; exact f.2⟩⟩
  ·rintro j hh G b ⟨F, hG, s, c, i, a, f⟩ q
   rcases (hG b).1 q with q | rfl
   ·exact lF _ _ _ _ i q
   ·exact f.1
  ·rintro j hh G h' ⟨F, hG, s, c, i, a, f⟩ hn he
   have := a.1
   refine ⟨F, hG, s, c, kF _ _ _ _ i hn fun b hb q => he b hb (q.elim (fun q => .inl (by omega)) fun q => .inr ((hG b).2 (.inl q))), ⟨by omega, fun b hb h1 h2' => by rw [he b (by omega) (.inl hb)]; exact a.2 b hb h1 h2'⟩, ⟨by have := f.1; omega, by rw [he lb f.1 (.inr ((hG lb).2 (.inr rfl)))]; exact f.2⟩⟩
  ·rintro j item hh G hit ⟨F, hG, s, i, a, f⟩
   obtain ⟨t1, p1, p2⟩ := bd j item hit
   refine ⟨_, rfl, (fun _ _ q => by cases q), ?_⟩
   subst hr0
   refine Does.round f p1 hfn fun fr rest Q' hr hpn => ?_
   have hGx : ∀ {h'}, ExtF (fun b => F b ∨ b = lb) hh h' → ExtF G hh h' := fun x' => ⟨x'.1, fun b hb hn => x'.2 b hb fun q => hn ((hG b).2 q)⟩
   have hlt2 : h2.next ≤ hh.next := a.1
   have ag : ∀ {h'}, ExtF (fun b => F b ∨ b = lb) hh h' → Agree h' := fun x' => ⟨by have := a.1; have := x'.1; omega, fun b hb h1 h2' => by
    rw [x'.2 b (by have := a.1; omega) (fun q => q.elim (fun q => (s b q).elim h1 fun q => by omega) h2')]
    exact a.2 b hb h1 h2'⟩
   have sub' : ∀ {F' : Nat → Prop}, (∀ b, F' b → F b ∨ hh.next ≤ b) → Sub F' := fun q b hb => (q b hb).elim (s b) fun q => .inr (by omega)
   have upx : ∀ {h' h''} {o : ABlk}, ExtF (fun b => F b ∨ b = lb) hh h' → Upd h' lb o h'' → ExtF (fun b => F b ∨ b = lb) hh h'' := fun x' u => ⟨by rw [u.1]; exact x'.1, fun b hb hn => by rw [u.2.2 b (fun q => hn (.inr q))]; exact x'.2 b hb hn⟩
   have own : ∀ {F' : Nat → Prop}, (∀ b, F' b → F b ∨ hh.next ≤ b) → ∀ b, (F' b ∨ b = lb) → G b ∨ hh.next ≤ b := fun q b z => z.elim (fun z => (q b z).elim (fun z => .inl ((hG b).2 (.inl z))) .inr) fun z => .inl ((hG b).2 (.inr z))
   refine p2 hh F lb _ fr rest Q' i (hsub a) (low s) (nlb s) (by omega) f rfl ?_ ?_
   ·intro tt h' F' i' so x' f'
    refine Go.roundEnd f' fun h'' u => ?_
    refine hr (.bool true) h'' ⟨hGx (upx x' u), fun b => F' b ∨ b = lb, own so, .inl ⟨rfl, F', fun b => Iff.rfl, sub' so, kI _ _ _ _ i' (by rw [u.1]; exact Nat.le_refl _) (fun b hb q => u.2.2 b (fun z => by subst z; exact q.elim (fun q => by omega) (nlb (sub' so)))), agU (ag x') u, u.has f'⟩⟩
   ·intro c tt h' kk F' hc i' so x' f'
    have fin : ∀ h'', Upd h' lb (.loop { state := .done, pending := some c, fn := fn, n := n, tmps := t, params := params.toList, assign := assign, body := body, defers := d }) h'' → ∃ fr', fr.finish (.bool false) = some fr' ∧ Reach P ⟨fr' :: rest, h''⟩ Q' := by
     intro h'' u
     exact hr (.bool false) h'' ⟨hGx (upx x' u), fun b => F' b ∨ b = lb, own so, .inr ⟨rfl, F', fun b => Iff.rfl, sub' so, c, kF _ _ _ _ i' (by rw [u.1]; exact Nat.le_refl _) (fun b hb q => u.2.2 b (fun z => by subst z; exact q.elim (fun q => by omega) (nlb (sub' so)))), agU (ag x') u, u.has f'⟩⟩
    rcases hc with rfl | ⟨id, rfl, hk⟩
    ·exact Go.roundRet f' fin
    ·exact Go.roundExit f' hk fin
 have ag2 : Agree h2 := ⟨Nat.le_refl _, fun _ _ _ _ => rfl⟩
 have s0 : Sub F0 := fun b q => .inl q
 have i2 : Inv 0 h2 F0 := kI _ _ _ _ hI n2 (fun b hb _ => e2.2 b hb)
 refine ⟨IterFR (fun b => F0 b ∨ b = lb) J E items.length h2, it (.yield lb) h2.next J E h2 (fun b => F0 b ∨ b = lb) rfl rfl (fun h' x => hA h' ⟨by have := x.1; omega, fun b hb hn => by rw [x.2 b (by omega) (fun q => q.elim hn (fun q => by omega)), e2.2 b hb]⟩) (Nat.le_refl _) tk ⟨F0, fun b => Iff.rfl, s0, i2, ag2, fl⟩, (fun chain h' q => by cases q.1), ?_⟩
 rintro v h' ⟨q, x', G, hGG, j | ⟨kk, hk, j⟩⟩
 ·obtain ⟨F, hG, s, i, a, f⟩ := j
  refine ⟨r0, f, by rw [hr0]; exact (fun q => by cases q), fun h3 u => ?_⟩
  have hp : r0.pending = none := by rw [hr0]
  rw [hp]
  exact nx d h3 F (hsub (agU a u)) (low s) (nd' s) (by omega) (hd' (agU a u)) (kI _ _ _ _ i (by rw [u.1]; exact Nat.le_refl _) (fun b hb q => u.2.2 b (fun z => by subst z; exact q.elim (fun q => by omega) (nlb s))))
 ·obtain ⟨F, hG, s, c, i, a, f⟩ := j
  refine ⟨_, f, (fun q => by cases q), fun h3 u => ?_⟩
  exact fx c d h3 F (hsub (agU a u)) (low s) (nd' s) (by omega) (hd' (agU a u)) (kF _ _ _ _ i (by rw [u.1]; exact Nat.le_refl _) (fun b hb q => u.2.2 b (fun z => by subst z; exact q.elim (fun q => by omega) (nlb s))))
theorem Go.rangeFuncR {fn n l0 : Nat} {rl0 : ALoop} {ds : List ADef} {dk : Bool} {rst : List AFr} {k : List AItem} {Q : AM → Prop} {t : Tr AVal} {h : AH} {x : Operand} {params : Array Tmp} {assign body : Code} {g : FuncId} {gf : Func} {first cap : List AVal}
  (hl0 : Has h l0 (.loop rl0)) (hx : ev t x = some (.func (.func g) first cap)) (hg : aFunc P g = some gf)
  (run : ∀ l h2, h.next = l → Ext h h2 → Has h2 l (.loop ⟨.ready, none, fn, n, t, params.toList, assign, body, rl0.defers⟩) →
   ∃ R : AEnd → AH → Prop, Runs P g (first ++ [.yield l] ++ cap) h2 R ∧ (∀ chain h', ¬ R (.pan chain) h') ∧
   ∀ v h', R (.ret v) h' → ∃ r, Has h' l (.loop r) ∧ r.state ≠ .busy ∧ ∀ h3, Upd h' l (.loop { r with state := .exhausted }) h3 →
    Go P ⟨fn, n, ds, dk, some l0, rst⟩ (match r.pending with | some c => .code c :: k | none => k) t h3 Q) :
  Go P ⟨fn, n, ds, dk, some l0, rst⟩ (.code (.rangeFunc x params assign body) :: k) t h Q := by
 obtain ⟨h2, n2⟩ := new_some h (.loop ⟨.ready, none, fn, n, t, params.toList, assign, body, rl0.defers⟩)
 obtain ⟨_, e2, d2⟩ := new_ext n2
 obtain ⟨R, ⟨fr, hfr, hrun⟩, hpan, hret⟩ := run h.next h2 rfl e2 d2
 refine Go.slow noJ_ok rfl (m := ⟨fr :: ⟨fn, n, t, .inRangeFunc h.next :: k, ds, .run, dk, some l0⟩ :: rst, h2⟩) ?_ ?_
 ·show doRangeFunc P ⟨fn, n, t, .code (.rangeFunc x params assign body) :: k, ds, .run, dk, some l0⟩ rst h x params assign body k = _
  unfold doRangeFunc
  simp only [getLoop hl0, n2, hx, aInvoke, aEnter, hg, hfr, one]
  rfl
 ·refine Reach.call noJ_ok ⟨fr, hfr, hrun⟩ hfr (fun v h' q => ?_) (fun chain h' q => absurd q (hpan chain h'))
  obtain ⟨r, k1, k2, k3⟩ := hret v h' q
  refine ⟨⟨fn, n, t, .endRangeFunc h.next :: k, ds, .run, dk, some l0⟩, rfl, ?_⟩
  obtain ⟨h3, s1, s2⟩ := set_upd h' h.next (.loop { r with state := .exhausted })
  refine Go.slow (c := ⟨fn, n, ds, dk, some l0, rst⟩) noJ_ok rfl (m := ⟨⟨fn, n, t, (match r.pending with | some c => .code c :: k | none => k), ds, .run, dk, some l0⟩ :: rst, h3⟩) ?_ (k3 h3 s2)
  show doEndLoop ⟨fn, n, t, .endRangeFunc h.next :: k, ds, .run, dk, some l0⟩ rst h' h.next k = _
  unfold doEndLoop
  simp only [getLoop k1]
  cases hs : r.state with
  | busy => exact absurd hs k2
  | _ => simp only [s1]; cases r.pending <;> rfl
theorem Go.rangeNR {fn n l0 : Nat} {rl0 : ALoop} {ds : List ADef} {dk : Bool} {rst : List AFr} {k : List AItem} {Q : AM → Prop} {t : Tr AVal} {h : AH} {x : Operand} {params : Array Tmp} {assign body : Code} {g : FuncId} {gf fnr : Func} {first cap : List AVal}
  {items : List (List AVal)} {A : AH → Prop} (F0 : Nat → Prop) (Inv : Nat → AH → (Nat → Prop) → Prop) (Fin : Code → AH → (Nat → Prop) → Prop)
  (hl0 : Has h l0 (.loop rl0)) (hx : ev t x = some (.func (.func g) first cap)) (hg : aFunc P g = some gf) (hfn : P.funcs[fn]? = some fnr) (it : IterN P g first cap items A)
  (hA : ∀ h', ExtF F0 h h' → A h') (hI : Inv 0 h F0)
  (lI : ∀ k hh F b, Inv k hh F → F b → b < hh.next) (lF : ∀ c hh F b, Fin c hh F → F b → b < hh.next)
  (kI : ∀ k h1 h2 F, Inv k h1 F → h1.next ≤ h2.next → (∀ b, b < h1.next → (b < h.next ∨ F b) → h2.get b = h1.get b) → Inv k h2 F)
  (kF : ∀ c h1 h2 F, Fin c h1 F → h1.next ≤ h2.next → (∀ b, b < h1.next → (b < h.next ∨ F b) → h2.get b = h1.get b) → Fin c h2 F)
  (bd : ∀ (j : Nat) item, items[j]? = some item → ∃ t1, putArgs t n params.toList item = some t1 ∧ ∀ (hh : AH) (F : Nat → Prop) (lb : Nat) (r0 : ALoop) (fr : AFr) (rest : List AFr) (Q' : AM → Prop), Inv j hh F → ExtF F0 h hh → (∀ b, F b → F0 b ∨ h.next ≤ b) → ¬ F lb → h.next ≤ lb → Has hh lb (.loop r0) → r0.state = .ready →
   (∀ tt h' F', Inv (j + 1) h' F' → (∀ b, F' b → F b ∨ hh.next ≤ b) → ExtF (fun b => F b ∨ b = lb) hh h' → Has h' lb (.loop { r0 with state := .busy }) → Go P ⟨fn, n, [], false, some lb, fr :: rest⟩ [] tt h' Q') →
   (∀ c tt h' kk F', (c = .ret ∨ ∃ id, c = .exit id ∧ exitA id kk = none) → Fin c h' F' → (∀ b, F' b → F b ∨ hh.next ≤ b) → ExtF (fun b => F b ∨ b = lb) hh h' → Has h' lb (.loop { r0 with state := .busy }) → Go P ⟨fn, n, [], false, some lb, fr :: rest⟩ (.code c :: kk) tt h' Q') →
   Go P ⟨fn, n, [], false, some lb, fr :: rest⟩ [.code assign, .beginRound, .code body] t1 hh Q')
  (nx : ∀ h3 F, ExtF F0 h h3 → (∀ b, F b → F0 b ∨ h.next ≤ b) → Inv items.length h3 F → Go P ⟨fn, n, ds, dk, some l0, rst⟩ k t h3 Q)
  (fx : ∀ c h3 F, ExtF F0 h h3 → (∀ b, F b → F0 b ∨ h.next ≤ b) → Fin c h3 F → Go P ⟨fn, n, ds, dk, some l0, rst⟩ (.code c :: k) t h3 Q) :
  Go P ⟨fn, n, ds, dk, some l0, rst⟩ (.code (.rangeFunc x params assign body) :: k) t h Q := by
 refine Go.rangeFuncR hl0 hx hg fun lb h2 hlb e2 fl => ?_
 obtain ⟨r0, hr0, fl⟩ : ∃ r0 : ALoop, r0 = _ ∧ Has h2 lb (.loop r0) := ⟨_, rfl, fl⟩
 have n2 := e2.1
 have nl := fl.1
 have hF0 : ∀ b, F0 b → b < h.next := fun b q => lI _ _ _ _ hI q
 let Agree : AH → Prop := fun hh => h2.next ≤ hh.next ∧ ∀ b, b < h2.next → ¬ F0 b → b ≠ lb → hh.get b = h2.get b
 let Sub : (Nat → Prop) → Prop := fun F => ∀ b, F b → F0 b ∨ h2.next ≤ b
 let J : Nat → AH → (Nat → Prop) → Prop := fun j hh G => ∃ F, (∀ b, G b ↔ (F b ∨ b = lb)) ∧ Sub F ∧ Inv j hh F ∧ Agree hh ∧ Has hh lb (.loop r0)
 let E : Nat → AH → (Nat → Prop) → Prop := fun j hh G => ∃ F, (∀ b, G b ↔ (F b ∨ b = lb)) ∧ Sub F ∧ ∃ c, Fin c hh F ∧ Agree hh ∧ Has hh lb (.loop { r0 with state := .done, pending := some c })
 have hsub : ∀ {hh}, Agree hh → ExtF F0 h hh := fun {hh} a => ⟨by have := a.1; omega, fun b hb hn => by rw [a.2 b (by omega) hn (by omega), e2.2 b hb]⟩
 have agU : ∀ {h1 h3 : AH} {o : ABlk}, Agree h1 → Upd h1 lb o h3 → Agree h3 := fun a u => ⟨by rw [u.1]; exact a.1, fun b hb h1 h2 => by rw [u.2.2 b h2]; exact a.2 b hb h1 h2⟩
 have low : ∀ {F}, Sub F → ∀ b, F b → F0 b ∨ h.next ≤ b := fun s b q => (s b q).elim .inl fun q => .inr (by omega)
 have nlb : ∀ {F}, Sub F → ¬ F lb := fun s q => (s lb q).elim (fun q => by have := hF0 _ q; omega) fun q => by omega
 have tk : TakesN P h2.next (.yield lb) items J E := by
  refine ⟨?_, ?_, ?_, ?_, ?_⟩
  ·rintro j hh G b ⟨F, hG, s, i, a, f⟩ q
   rcases (hG b).1 q with q | rfl
   ·exact lI _ _ _ _ i q
   ·exact f.1
  ·rintro j hh G h' ⟨F, hG, s, i, a, f⟩ hn he
   have := a.1
   refine ⟨F, hG, s, kI _ _ _ _ i hn fun b hb q => he b hb (q.elim (fun q => .inl (by omega)) fun q => .inr ((hG b).2 (.inl q))), ⟨by omega, fun b hb h1 h2' => by rw [he b (by omega) (.inl hb)]; exact a.2 b hb h1 h2'⟩, ⟨by have := f.1; omega, by rw [he lb f.1 (.inr ((hG lb).2 (.inr rfl)))]; exact f.2⟩⟩
  ·rintro j hh G b ⟨F, hG, s, c, i, a, f⟩ q
   rcases (hG b).1 q with q | rfl
   ·exact lF _ _ _ _ i q
   ·exact f.1
  ·rintro j hh G h' ⟨F, hG, s, c, i, a, f⟩ hn he
   have := a.1
   refine ⟨F, hG, s, c, kF _ _ _ _ i hn fun b hb q => he b hb (q.elim (fun q => .inl (by omega)) fun q => .inr ((hG b).2 (.inl q))), ⟨by omega, fun b hb h1 h2' => by rw [he b (by omega) (.inl hb)]; exact a.2 b hb h1 h2'⟩, ⟨by have := f.1; omega, by rw [he lb f.1 (.inr ((hG lb).2 (.inr rfl)))]; exact f.2⟩⟩
  ·rintro j item hh G hit ⟨F, hG, s, i, a, f⟩
   obtain ⟨t1, p1, p2⟩ := bd j item hit
   refine ⟨_, rfl, (fun _ _ q => by cases q), ?_⟩
   subst hr0
   refine Does.round f p1 hfn fun fr rest Q' hr hpn => ?_
   have hGx : ∀ {h'}, ExtF (fun b => F b ∨ b = lb) hh h' → ExtF G hh h' := fun x' => ⟨x'.1, fun b hb hn => x'.2 b hb fun q => hn ((hG b).2 q)⟩
   have hlt2 : h2.next ≤ hh.next := a.1
   have ag : ∀ {h'}, ExtF (fun b => F b ∨ b = lb) hh h' → Agree h' := fun x' => ⟨by have := a.1; have := x'.1; omega, fun b hb h1 h2' => by
    rw [x'.2 b (by have := a.1; omega) (fun q => q.elim (fun q => (s b q).elim h1 fun q => by omega) h2')]
    exact a.2 b hb h1 h2'⟩
   have sub' : ∀ {F' : Nat → Prop}, (∀ b, F' b → F b ∨ hh.next ≤ b) → Sub F' := fun q b hb => (q b hb).elim (s b) fun q => .inr (by omega)
   have upx : ∀ {h' h''} {o : ABlk}, ExtF (fun b => F b ∨ b = lb) hh h' → Upd h' lb o h'' → ExtF (fun b => F b ∨ b = lb) hh h'' := fun x' u => ⟨by rw [u.1]; exact x'.1, fun b hb hn => by rw [u.2.2 b (fun q => hn (.inr q))]; exact x'.2 b hb hn⟩
   have own : ∀ {F' : Nat → Prop}, (∀ b, F' b → F b ∨ hh.next ≤ b) → ∀ b, (F' b ∨ b = lb) → G b ∨ hh.next ≤ b := fun q b z => z.elim (fun z => (q b z).elim (fun z => .inl ((hG b).2 (.inl z))) .inr) fun z => .inl ((hG b).2 (.inr z))
   refine p2 hh F lb _ fr rest Q' i (hsub a) (low s) (nlb s) (by omega) f rfl ?_ ?_
   ·intro tt h' F' i' so x' f'
    refine Go.roundEnd f' fun h'' u => ?_
    refine hr (.bool true) h'' ⟨hGx (upx x' u), fun b => F' b ∨ b = lb, own so, .inl ⟨rfl, F', fun b => Iff.rfl, sub' so, kI _ _ _ _ i' (by rw [u.1]; exact Nat.le_refl _) (fun b hb q => u.2.2 b (fun z => by subst z; exact q.elim (fun q => by omega) (nlb (sub' so)))), agU (ag x') u, u.has f'⟩⟩
   ·intro c tt h' kk F' hc i' so x' f'
    have fin : ∀ h'', Upd h' lb (.loop { state := .done, pending := some c, fn := fn, n := n, tmps := t, params := params.toList, assign := assign, body := body, defers := rl0.defers }) h'' → ∃ fr', fr.finish (.bool false) = some fr' ∧ Reach P ⟨fr' :: rest, h''⟩ Q' := by
     intro h'' u
     exact hr (.bool false) h'' ⟨hGx (upx x' u), fun b => F' b ∨ b = lb, own so, .inr ⟨rfl, F', fun b => Iff.rfl, sub' so, c, kF _ _ _ _ i' (by rw [u.1]; exact Nat.le_refl _) (fun b hb q => u.2.2 b (fun z => by subst z; exact q.elim (fun q => by omega) (nlb (sub' so)))), agU (ag x') u, u.has f'⟩⟩
    rcases hc with rfl | ⟨id, rfl, hk⟩
    ·exact Go.roundRet f' fin
    ·exact Go.roundExit f' hk fin
 have ag2 : Agree h2 := ⟨Nat.le_refl _, fun _ _ _ _ => rfl⟩
 have s0 : Sub F0 := fun b q => .inl q
 have i2 : Inv 0 h2 F0 := kI _ _ _ _ hI n2 (fun b hb _ => e2.2 b hb)
 refine ⟨IterFR (fun b => F0 b ∨ b = lb) J E items.length h2, it (.yield lb) h2.next J E h2 (fun b => F0 b ∨ b = lb) rfl rfl (fun h' x => hA h' ⟨by have := x.1; omega, fun b hb hn => by rw [x.2 b (by omega) (fun q => q.elim hn (fun q => by omega)), e2.2 b hb]⟩) (Nat.le_refl _) tk ⟨F0, fun b => Iff.rfl, s0, i2, ag2, fl⟩, (fun chain h' q => by cases q.1), ?_⟩
 rintro v h' ⟨q, x', G, hGG, j | ⟨kk, hk, j⟩⟩
 ·obtain ⟨F, hG, s, i, a, f⟩ := j
  refine ⟨r0, f, by rw [hr0]; exact (fun q => by cases q), fun h3 u => ?_⟩
  have hp : r0.pending = none := by rw [hr0]
  rw [hp]
  exact nx h3 F (hsub (agU a u)) (low s) (kI _ _ _ _ i (by rw [u.1]; exact Nat.le_refl _) (fun b hb q => u.2.2 b (fun z => by subst z; exact q.elim (fun q => by omega) (nlb s))))
 ·obtain ⟨F, hG, s, c, i, a, f⟩ := j
  refine ⟨_, f, (fun q => by cases q), fun h3 u => ?_⟩
  exact fx c h3 F (hsub (agU a u)) (low s) (kF _ _ _ _ i (by rw [u.1]; exact Nat.le_refl _) (fun b hb q => u.2.2 b (fun z => by subst z; exact q.elim (fun q => by omega) (nlb s))))
end
end Go.AbsE

namespace Go.Proofs.Yteibheeleeengaa
open Go Go.AbsE
set_option linter.unusedSimpArgs false
set_option maxRecDepth 100000
set_option maxHeartbeats 0
set_option linter.unusedVariables false
theorem own_next {F G G' : Nat → Prop} {h h1 : AH} (a : ∀ b, G' b → G b ∨ h1.next ≤ b) (c : ∀ b, G b → F b ∨ h.next ≤ b) (hn : h.next ≤ h1.next) : ∀ b, G' b → F b ∨ h.next ≤ b := fun b q => (a b q).elim (c b) fun q => .inr (by omega)
structure NumsA (a b : Int) (bf bt : Nat) (h : AH) : Prop where
 f : Has h bf (.cells .plain [.int .i64 a] 3)
 t : Has h bt (.cells .plain [.int .i64 b] 3)
theorem nums80_it {a b : Int} (ha : -1000 ≤ a ∧ a ≤ 1000) (hb : -1000 ≤ b ∧ b ≤ 1000) (bf bt : Nat) : IterN Try.prog 80 [] [.ptr bf 0, .ptr bt 0] ((upto a b).map fun n => [.int .i64 n]) (NumsA a b bf bt) := by
 intro y base J E h F hyc hys hA hbase T j0
 show Runs Try.prog 80 [y, .ptr bf 0, .ptr bt 0] h _
 obtain ⟨n, hn⟩ : ∃ n, (b - a + 1).toNat = n := ⟨_, rfl⟩
 have hlen : ((upto a b).map fun n => [AVal.int .i64 n]).length = n := by simp [upto, hn]
 rw [hlen]
 have hat : ∀ {k : Nat}, k < n → ((upto a b).map fun n => [AVal.int .i64 n])[k]? = some [.int .i64 (a + k)] := fun hk => by
  unfold upto
  rw [hn, List.map_map, List.getElem?_map, List.getElem?_range hk]
  rfl
 have e0 : Ext h h := Ext.refl _
 obtain ⟨f0, f1⟩ := hA h (ExtF.of e0)
 refine Runs.intro aFunc80 rfl rfl rfl rfl fun rest => ?_;apply gS;refine gR rfl ?_;refine gO rfl rfl (ld3 rfl f0 rfl) rfl ?_;refine gP ?_;apply gE;refine Go.block noJ_ok ?_;refine Go.loopKeep (fun a' : Nat × (Nat → Prop) => [(0, y), (1, .ptr bf 0), (2, .ptr bt 0), (4, .int .i64 (a + (a'.1 : Nat)))]) (fun m a' h' => m + a'.1 = n ∧ ExtF F h h' ∧ (∀ b, a'.2 b → F b ∨ h.next ≤ b) ∧ J a'.1 h' a'.2) (n := n) (0, F) ⟨rfl, rfl, rfl, (by simp; rfl), trivial⟩ ⟨rfl, ExtF.of e0, fun b q => .inl q, j0⟩ ?_;clear e0 f0 f1;rintro m ⟨k, G⟩ h1 ⟨hm, x1, hG, j1⟩ again
 dsimp only at hm hG j1 ⊢
 have e0 : Ext h1 h1 := Ext.refl _
 obtain ⟨f0, f1⟩ := hA h1 x1
 have hx1 := x1.1
 by_cases hk : k < n
 ·obtain ⟨ax, a1, a2, a3⟩ := T.take (hat hk) j1
  iterate 2 apply gS
  refine gR rfl ?_;refine gP ?_;refine gO rfl rfl (ld3 rfl f1 rfl) rfl ?_;refine gO rfl rfl (kMT rfl rfl) rfl ?_;apply gE;refine gC (b := true) rfl ?_;refine gD ?_;apply gS;refine Go.block noJ_ok ?_;apply gS;refine gR rfl ?_;iterate 2 refine gP ?_
  refine GoR.does rfl rfl (aOp_callY rfl rfl a1) a2 a3 ?_ (by rintro _ _ ⟨_, _, _, ⟨q, _⟩ | ⟨q, _⟩⟩ <;> cases q);rintro v h6 ⟨x6, G', hG', ⟨q, j6⟩ | ⟨q, e6⟩⟩
  ·cases q;refine ⟨_, rfl, ?_⟩
   have y6 := x1.trans hG x6
   clear f0 f1 e0
   obtain ⟨f0, f1⟩ := hA h6 y6
   refine gP ?_;apply gE;refine gC (b := false) rfl ?_;refine gD ?_;refine Go.inBlock noJ_ok ?_;refine gR rfl ?_;refine gP ?_;refine gO rfl rfl (aA rfl rfl) rfl ?_;refine gP ?_;apply gE;exact again (m - 1) (k + 1, G') _ _ (by omega) ⟨rfl, rfl, rfl, (by show _ = some (AVal.int .i64 (a + ((k + 1 : Nat) : Int))); rw [show a + ((k + 1 : Nat) : Int) = a + (k : Nat) + 1 by omega]; rfl), trivial⟩ ⟨by dsimp only; omega, y6, own_next hG' hG hx1, j6⟩
  ·cases q;refine ⟨_, rfl, ?_⟩;clear f0 f1 e0;refine gP ?_;apply gE;refine gC (b := true) rfl ?_;exact gV (ret_end (aResult_of Try.func80 rfl rfl) ⟨rfl, x1.trans hG x6, G', own_next hG' hG hx1, .inr ⟨k, hk, e6⟩⟩)
 ·have hkn : k = n := by omega
  subst hkn;iterate 2 apply gS
  refine gR rfl ?_;refine gP ?_;refine gO rfl rfl (ld3 rfl f1 rfl) rfl ?_;refine gO rfl rfl (kMF rfl rfl) rfl ?_;apply gE;refine gC (b := false) rfl ?_;refine gD ?_;exact Go.endL (FLeft.ret (v := .tuple []) (aResult_of Try.func80 rfl rfl) ⟨rfl, x1, G, hG, .inl j1⟩)
theorem numbers_ok {a b : Int} {h : AH} : Runs Try.prog 68 [.int .i64 a, .int .i64 b] h (fun en h' => ∃ bf bt, en = .ret (.func (.func 80) [] [.ptr bf 0, .ptr bt 0]) ∧ Ext h h' ∧ h.next ≤ bf ∧ h.next ≤ bt ∧ NumsA a b bf bt h') := by
 have e0 : Ext h h := Ext.refl _
 refine Runs.intro aFunc68 rfl rfl rfl rfl fun rest => ?_;apply gS;refine gR rfl ?_;refine GoR.box rfl rfl rfl rfl rfl rfl fun h0 x0 f0 => ?_;have := e0.1;replace e0 := e0.trans x0;have := f0.1;refine GoR.box rfl rfl rfl rfl rfl rfl fun h1 x1 f1 => ?_;have := e0.1;have := f0.1;replace f0 := f0.ext x1;replace e0 := e0.trans x1;have := f1.1;refine gP ?_;apply gE;apply gS;refine gR rfl ?_;iterate 2 refine gP ?_
 apply gE;exact gV (ret_end (aResult_of Try.func68 rfl rfl) ⟨_, _, rfl, e0, Nat.le_refl _, by omega, f0, f1⟩)
theorem leaks_ok {C : CutV} {r b l : AVal} {h : AH} : Runs Try.prog 64 [.agg (C.cells r b l)] h (fun en h' => ∃ bf bt, en = .ret (.func (.func 80) [] [.ptr bf 0, .ptr bt 0]) ∧ Ext h h' ∧ h.next ≤ bf ∧ h.next ≤ bt ∧ NumsA C.kl C.kh bf bt h') := by
 have hn := fun h => numbers_ok (a := C.kl) (b := C.kh) (h := h)
 unfold CutV.cells
 have e0 : Ext h h := Ext.refl _
 refine Runs.intro aFunc64 rfl rfl rfl rfl fun rest => ?_;apply gS;refine gR rfl ?_;refine GoR.box rfl rfl rfl rfl rfl rfl fun h0 x0 f0 => ?_;have := e0.1;replace e0 := e0.trans x0;have := f0.1;refine gP ?_;apply gE;apply gS;refine gR rfl ?_;refine gO rfl rfl (fa68_1 rfl) rfl ?_;refine gO rfl rfl (fa23_0 rfl) rfl ?_;refine gO rfl rfl (ld3 rfl f0 rfl) rfl ?_;refine gO rfl rfl (fa68_1 rfl) rfl ?_;refine gO rfl rfl (fa23_1 rfl) rfl ?_;refine gO rfl rfl (ld3 rfl f0 rfl) rfl ?_;refine GoR.call rfl rfl (aCF aFunc68 rfl) (hn _) ?_ (by rintro _ _ ⟨bf, bt, q, _, hbf, hbt, _⟩; cases q);rintro v1 h1 ⟨bf, bt, q, x1, hbf, hbt, f1⟩;cases q;refine ⟨_, rfl, ?_⟩;have := e0.1;replace f0 := f0.ext x1;replace e0 := e0.trans x1;refine gP ?_;apply gE;exact gV (ret_end (aResult_of Try.func64 rfl rfl) ⟨bf, bt, rfl, e0, by omega, by omega, by assumption⟩)
theorem days_ok {C : CutV} {r b l : AVal} {d : Int} {h : AH} (A : CutAt h C r b l) : Runs Try.prog 45 [.agg (C.cells r b l), .int .i64 d] h (fun en h' => ∃ bf bt, en = .ret (.func (.func 80) [] [.ptr bf 0, .ptr bt 0]) ∧ Ext h h' ∧ h.next ≤ bf ∧ h.next ≤ bt ∧ NumsA d C.rs.length bf bt h') := by
 have hn := fun h => numbers_ok (a := d) (b := C.rs.length) (h := h)
 have hl1 := A.rs.len
 rw [List.length_map] at hl1
 unfold CutV.cells
 have e0 : Ext h h := Ext.refl _
 refine Runs.intro aFunc45 rfl rfl rfl rfl fun rest => ?_;apply gS;refine gR rfl ?_;refine GoR.box rfl rfl rfl rfl rfl rfl fun h0 x0 f0 => ?_;have := e0.1;replace e0 := e0.trans x0;have := f0.1;refine gP ?_;apply gE;apply gS;refine gR rfl ?_;refine gP ?_;refine gO rfl rfl (fa68_2 rfl) rfl ?_;refine gO rfl rfl (ld24 rfl f0 rfl) rfl ?_;refine gO rfl rfl (aOp_lenSlice Try.underlying24 rfl hl1) rfl ?_;refine GoR.call rfl rfl (aCF aFunc68 rfl) (hn _) ?_ (by rintro _ _ ⟨bf, bt, q, _, hbf, hbt, _⟩; cases q);rintro v1 h1 ⟨bf, bt, q, x1, hbf, hbt, f1⟩;cases q;refine ⟨_, rfl, ?_⟩;have := e0.1;replace f0 := f0.ext x1;replace e0 := e0.trans x1;refine gP ?_;apply gE;exact gV (ret_end (aResult_of Try.func45 rfl rfl) ⟨bf, bt, rfl, e0, by omega, by omega, by assumption⟩)
theorem back88_ok {s : AVal} (hs : scalars [s] = true ∧ s.cells = [s]) {h : AH} : Runs Try.prog 88 [s] h (fun en h' => ∃ bb, en = .ret (.func (.func 92) [] [.ptr bb 0]) ∧ Ext h h' ∧ h.next ≤ bb ∧ Has h' bb (.cells .plain [s] 124)) := by
 obtain ⟨hs1, hs2⟩ := hs
 have e0 : Ext h h := Ext.refl _
 refine Runs.intro aFunc88 rfl rfl rfl rfl fun rest => ?_;apply gS;refine gR rfl ?_;refine GoR.box rfl rfl rfl rfl rfl rfl fun h0 x0 f0 => ?_;replace e0 := e0.trans x0;refine gP ?_;apply gE;apply gS;refine gR rfl ?_;iterate 2 refine gP ?_
 apply gE;exact gV (ret_end (aResult_of Try.func88 rfl rfl) ⟨_, rfl, e0, Nat.le_refl _, by rw [hs2] at f0; exact f0⟩)
theorem back89_ok {s : AVal} (hs : scalars [s] = true ∧ s.cells = [s]) {h : AH} : Runs Try.prog 89 [s] h (fun en h' => ∃ bb, en = .ret (.func (.func 93) [] [.ptr bb 0]) ∧ Ext h h' ∧ h.next ≤ bb ∧ Has h' bb (.cells .plain [s] 126)) := by
 obtain ⟨hs1, hs2⟩ := hs
 have e0 : Ext h h := Ext.refl _
 refine Runs.intro aFunc89 rfl rfl rfl rfl fun rest => ?_;apply gS;refine gR rfl ?_;refine GoR.box rfl rfl rfl rfl rfl rfl fun h0 x0 f0 => ?_;replace e0 := e0.trans x0;refine gP ?_;apply gE;apply gS;refine gR rfl ?_;iterate 2 refine gP ?_
 apply gE;exact gV (ret_end (aResult_of Try.func89 rfl rfl) ⟨_, rfl, e0, Nat.le_refl _, by rw [hs2] at f0; exact f0⟩)
def backI (vs : List AVal) : List (List AVal) := (List.range vs.length).map fun k : Nat => [.int .i64 ((vs.length - 1 - k : Nat) : Int), (vs[vs.length - 1 - k]?).getD .nilslice]
theorem backI_len (vs : List AVal) : (backI vs).length = vs.length := by unfold backI; simp
theorem backI_at {vs : List AVal} {k i : Nat} (hk : k + i + 1 = vs.length) {v : AVal} (hv : vs[i]? = some v) : (backI vs)[k]? = some [.int .i64 (i : Int), v] := by
 unfold backI
 rw [List.getElem?_map, List.getElem?_range (by omega), Option.map_some, show vs.length - 1 - k = i by omega, hv]
 rfl
theorem back92_it {s : AVal} {vs : List AVal} (hn : vs.length ≤ 100) (bb : Nat) : IterN Try.prog 92 [] [.ptr bb 0] (backI vs) (fun h => Has h bb (.cells .plain [s] 124) ∧ SliceOf h 1 s (vs.map fun v => [v])) := by
 intro y base J E h F hyc hys hA hbase T j0
 show Runs Try.prog 92 [y, .ptr bb 0] h _
 rw [backI_len]
 have e0 : Ext h h := Ext.refl _
 obtain ⟨f0, S0⟩ := hA h (ExtF.of e0)
 have hl0 := S0.len
 rw [List.length_map] at hl0;refine Runs.intro aFunc92 rfl rfl rfl rfl fun rest => ?_;apply gS;refine gR rfl ?_;refine gO rfl rfl (ld124 rfl f0 rfl) rfl ?_;refine gO rfl rfl (aOp_lenSlice Try.underlying124 rfl hl0) rfl ?_;refine gO rfl rfl (aS rfl rfl) rfl ?_;refine gP ?_;apply gE;refine Go.block noJ_ok ?_;refine Go.loopKeep (fun a' : Nat × (Nat → Prop) => [(0, y), (1, .ptr bb 0), (3, .int .i64 ((vs.length : Int) - 1 - (a'.1 : Nat)))]) (fun m a' h' => m + a'.1 = vs.length ∧ ExtF F h h' ∧ (∀ b, a'.2 b → F b ∨ h.next ≤ b) ∧ J a'.1 h' a'.2) (n := vs.length) (0, F) ⟨rfl, rfl, (by show _ = some (AVal.int .i64 ((vs.length : Int) - 1 - ((0 : Nat) : Int))); rw [show (vs.length : Int) - 1 - ((0 : Nat) : Int) = (vs.length : Int) - 1 by omega]; rfl), trivial⟩ ⟨rfl, ExtF.of e0, fun b q => .inl q, j0⟩ ?_;clear e0 f0 S0;rintro m ⟨k, G⟩ h1 ⟨hm, x1, hG, j1⟩ again
 dsimp only at hm hG j1 ⊢
 have e0 : Ext h1 h1 := Ext.refl _
 obtain ⟨f0, S0⟩ := hA h1 x1
 have hx1 := x1.1
 by_cases hk : k < vs.length
 ·obtain ⟨i, hi⟩ : ∃ i : Nat, k + i + 1 = vs.length := ⟨vs.length - 1 - k, by omega⟩
  have hii : (vs.length : Int) - 1 - (k : Nat) = (i : Nat) := by omega
  obtain ⟨v, hv⟩ : ∃ v, vs[i]? = some v := ⟨vs[i]'(by omega), by simp⟩
  obtain ⟨ax, a1, a2, a3⟩ := T.take (backI_at hi hv) j1
  obtain ⟨bq, off, q1, q2⟩ := S0.at (i := i) (l := [v]) (by rw [List.getElem?_map, hv]; rfl)
  rw [List.length_map] at q1;rw [hii];iterate 2 apply gS
  refine gR rfl ?_;refine gP ?_;refine gO rfl rfl (kNT rfl rfl) rfl ?_;apply gE;refine gC (b := true) rfl ?_;refine gD ?_;apply gS;refine Go.block noJ_ok ?_;apply gS;refine gR rfl ?_;iterate 2 refine gP ?_
  refine gO rfl rfl (ld124 rfl f0 rfl) rfl ?_;refine gP ?_;refine gO rfl rfl (aOp_indexAddr (i := i) Try.underlying124 sz126 rfl q1 rfl (Nat.ble_eq_true_of_le (by omega))) rfl ?_;refine gO rfl rfl ((aOp_loadE1 (k := 0) ag126 rfl q2 rfl)) rfl ?_;refine GoR.does rfl rfl (aOp_callY rfl rfl a1) a2 a3 ?_ (by rintro _ _ ⟨_, _, _, ⟨q, _⟩ | ⟨q, _⟩⟩ <;> cases q);rintro v h6 ⟨x6, G', hG', ⟨q, j6⟩ | ⟨q, e6⟩⟩
  ·cases q;refine ⟨_, rfl, ?_⟩
   have y6 := x1.trans hG x6
   clear f0 S0 e0 q2;refine gP ?_;apply gE;refine gC (b := false) rfl ?_;refine gD ?_;refine Go.inBlock noJ_ok ?_;refine gR rfl ?_;refine gP ?_;refine gO rfl rfl (aS rfl rfl) rfl ?_;refine gP ?_;apply gE;exact again (m - 1) (k + 1, G') _ _ (by omega) ⟨rfl, rfl, (by show _ = some (AVal.int .i64 ((vs.length : Int) - 1 - ((k + 1 : Nat) : Int))); rw [show (vs.length : Int) - 1 - ((k + 1 : Nat) : Int) = (i : Nat) - 1 by omega]; rfl), trivial⟩ ⟨by dsimp only; omega, y6, own_next hG' hG hx1, j6⟩
  ·cases q;refine ⟨_, rfl, ?_⟩;clear f0 S0 e0 q2;refine gP ?_;apply gE;refine gC (b := true) rfl ?_;exact gV (ret_end (aResult_of Try.func92 rfl rfl) ⟨rfl, x1.trans hG x6, G', own_next hG' hG hx1, .inr ⟨k, hk, e6⟩⟩)
 ·have hkn : k = vs.length := by omega
  subst hkn;rw [show (vs.length : Int) - 1 - (vs.length : Nat) = -1 by omega];iterate 2 apply gS
  refine gR rfl ?_;refine gP ?_;refine gO rfl rfl (aOp_geq rfl rfl (r := false) rfl) rfl ?_;apply gE;refine gC (b := false) rfl ?_;refine gD ?_;exact Go.endL (FLeft.ret (v := .tuple []) (aResult_of Try.func92 rfl rfl) ⟨rfl, x1, G, hG, .inl j1⟩)
theorem back93_it {s : AVal} {vs : List AVal} (hn : vs.length ≤ 100) (bb : Nat) : IterN Try.prog 93 [] [.ptr bb 0] (backI vs) (fun h => Has h bb (.cells .plain [s] 126) ∧ SliceOf h 1 s (vs.map fun v => [v])) := by
 intro y base J E h F hyc hys hA hbase T j0
 show Runs Try.prog 93 [y, .ptr bb 0] h _
 rw [backI_len]
 have e0 : Ext h h := Ext.refl _
 obtain ⟨f0, S0⟩ := hA h (ExtF.of e0)
 have hl0 := S0.len
 rw [List.length_map] at hl0;refine Runs.intro aFunc93 rfl rfl rfl rfl fun rest => ?_;apply gS;refine gR rfl ?_;refine gO rfl rfl (ld126 rfl f0 rfl) rfl ?_;refine gO rfl rfl (aOp_lenSlice Try.underlying126 rfl hl0) rfl ?_;refine gO rfl rfl (aS rfl rfl) rfl ?_;refine gP ?_;apply gE;refine Go.block noJ_ok ?_;refine Go.loopKeep (fun a' : Nat × (Nat → Prop) => [(0, y), (1, .ptr bb 0), (3, .int .i64 ((vs.length : Int) - 1 - (a'.1 : Nat)))]) (fun m a' h' => m + a'.1 = vs.length ∧ ExtF F h h' ∧ (∀ b, a'.2 b → F b ∨ h.next ≤ b) ∧ J a'.1 h' a'.2) (n := vs.length) (0, F) ⟨rfl, rfl, (by show _ = some (AVal.int .i64 ((vs.length : Int) - 1 - ((0 : Nat) : Int))); rw [show (vs.length : Int) - 1 - ((0 : Nat) : Int) = (vs.length : Int) - 1 by omega]; rfl), trivial⟩ ⟨rfl, ExtF.of e0, fun b q => .inl q, j0⟩ ?_;clear e0 f0 S0;rintro m ⟨k, G⟩ h1 ⟨hm, x1, hG, j1⟩ again
 dsimp only at hm hG j1 ⊢
 have e0 : Ext h1 h1 := Ext.refl _
 obtain ⟨f0, S0⟩ := hA h1 x1
 have hx1 := x1.1
 by_cases hk : k < vs.length
 ·obtain ⟨i, hi⟩ : ∃ i : Nat, k + i + 1 = vs.length := ⟨vs.length - 1 - k, by omega⟩
  have hii : (vs.length : Int) - 1 - (k : Nat) = (i : Nat) := by omega
  obtain ⟨v, hv⟩ : ∃ v, vs[i]? = some v := ⟨vs[i]'(by omega), by simp⟩
  obtain ⟨ax, a1, a2, a3⟩ := T.take (backI_at hi hv) j1
  obtain ⟨bq, off, q1, q2⟩ := S0.at (i := i) (l := [v]) (by rw [List.getElem?_map, hv]; rfl)
  rw [List.length_map] at q1;rw [hii];iterate 2 apply gS
  refine gR rfl ?_;refine gP ?_;refine gO rfl rfl (kNT rfl rfl) rfl ?_;apply gE;refine gC (b := true) rfl ?_;refine gD ?_;apply gS;refine Go.block noJ_ok ?_;apply gS;refine gR rfl ?_;iterate 2 refine gP ?_
  refine gO rfl rfl (ld126 rfl f0 rfl) rfl ?_;refine gP ?_;refine gO rfl rfl (aOp_indexAddr (i := i) Try.underlying126 sz128 rfl q1 rfl (Nat.ble_eq_true_of_le (by omega))) rfl ?_;refine gO rfl rfl ((aOp_loadE1 (k := 0) ag128 rfl q2 rfl)) rfl ?_;refine GoR.does rfl rfl (aOp_callY rfl rfl a1) a2 a3 ?_ (by rintro _ _ ⟨_, _, _, ⟨q, _⟩ | ⟨q, _⟩⟩ <;> cases q);rintro v h6 ⟨x6, G', hG', ⟨q, j6⟩ | ⟨q, e6⟩⟩
  ·cases q;refine ⟨_, rfl, ?_⟩
   have y6 := x1.trans hG x6
   clear f0 S0 e0 q2;refine gP ?_;apply gE;refine gC (b := false) rfl ?_;refine gD ?_;refine Go.inBlock noJ_ok ?_;refine gR rfl ?_;refine gP ?_;refine gO rfl rfl (aS rfl rfl) rfl ?_;refine gP ?_;apply gE;exact again (m - 1) (k + 1, G') _ _ (by omega) ⟨rfl, rfl, (by show _ = some (AVal.int .i64 ((vs.length : Int) - 1 - ((k + 1 : Nat) : Int))); rw [show (vs.length : Int) - 1 - ((k + 1 : Nat) : Int) = (i : Nat) - 1 by omega]; rfl), trivial⟩ ⟨by dsimp only; omega, y6, own_next hG' hG hx1, j6⟩
  ·cases q;refine ⟨_, rfl, ?_⟩;clear f0 S0 e0 q2;refine gP ?_;apply gE;refine gC (b := true) rfl ?_;exact gV (ret_end (aResult_of Try.func93 rfl rfl) ⟨rfl, x1.trans hG x6, G', own_next hG' hG hx1, .inr ⟨k, hk, e6⟩⟩)
 ·have hkn : k = vs.length := by omega
  subst hkn;rw [show (vs.length : Int) - 1 - (vs.length : Nat) = -1 by omega];iterate 2 apply gS
  refine gR rfl ?_;refine gP ?_;refine gO rfl rfl (aOp_geq rfl rfl (r := false) rfl) rfl ?_;apply gE;refine gC (b := false) rfl ?_;refine gD ?_;exact Go.endL (FLeft.ret (v := .tuple []) (aResult_of Try.func93 rfl rfl) ⟨rfl, x1, G, hG, .inl j1⟩)
end Go.Proofs.Yteibheeleeengaa

namespace Go.Proofs.Yteibheeleeengaa
open Go Go.AbsE
set_option linter.unusedSimpArgs false
set_option maxRecDepth 100000
set_option linter.unusedVariables false
theorem fwd1_cons (e : EvV) (a : List EvV) (now : Int × Int) : fwd1 (e :: a) now = if (e.after now).1 > (e.after now).2 then none else fwd1 a (e.after now) := rfl
theorem fwd1_app : ∀ {a b : List EvV} {now : Int × Int}, fwd1 (a ++ b) now = (match fwd1 a now with | none => none | some x => fwd1 b x)
 | [], b, now => rfl
 | e :: a, b, now => by
  rw [List.cons_append, fwd1_cons, fwd1_cons]
  by_cases q : (e.after now).1 > (e.after now).2
  ·rw [if_pos q, if_pos q]
  ·rw [if_neg q, if_neg q];exact fwd1_app
theorem fwdA_cons (es : List EvV) (L : List (List EvV)) (now : Int × Int) : fwdA (es :: L) now = (match fwd1 es now with
  | none => none
  | some x => match fwdA L x with
   | none => none
   | some (l, z) => some (now :: l, z)) := rfl
theorem fwdA_app : ∀ {L M : List (List EvV)} {now : Int × Int}, fwdA (L ++ M) now = (match fwdA L now with
  | none => none
  | some (l, z) => match fwdA M z with
   | none => none
   | some (l2, z2) => some (l ++ l2, z2))
 | [], M, now => by
  show fwdA M now = (match fwdA M now with | none => none | some (l2, z2) => some ([] ++ l2, z2))
  cases fwdA M now with
  | none => rfl
  | some p => rfl
 | es :: L, M, now => by
  rw [List.cons_append, fwdA_cons, fwdA_cons]
  cases h1 : fwd1 es now with
  | none => rfl
  | some x =>
   dsimp only
   rw [fwdA_app (L := L) (M := M) (now := x)]
   cases h2 : fwdA L x with
   | none => rfl
   | some p =>
    obtain ⟨l, z⟩ := p
    dsimp only
    cases h3 : fwdA M z with
    | none => rfl
    | some p => rfl
theorem fwdA_len : ∀ {L : List (List EvV)} {now : Int × Int} {l : List (Int × Int)} {z : Int × Int}, fwdA L now = some (l, z) → l.length = L.length
 | [], now, l, z, h => by cases h; rfl
 | es :: L, now, l, z, h => by
  unfold fwdA at h
  cases h1 : fwd1 es now with
  | none => rw [h1] at h; cases h
  | some x =>
   rw [h1] at h
   dsimp only at h
   cases h2 : fwdA L x with
   | none => rw [h2] at h; cases h
   | some p =>
    rw [h2] at h;cases h;rw [List.length_cons, List.length_cons, fwdA_len h2]
theorem bwdA_len : ∀ {L : List (List EvV)} {A : List (Int × Int)} {z : Int × Int}, L.length = A.length → (bwdA L A z).1.length = L.length
 | [], [], z, h => rfl
 | es :: L, a :: A, z, h => by
  unfold bwdA
  dsimp only
  rw [List.length_cons, List.length_cons, bwdA_len (by simpa using h)]
def Bd (n : Nat) (d : Int × Int) : Prop := (-(100 + 100 * (n : Int)) ≤ d.1 ∧ d.1 ≤ 100 + 100 * n) ∧ (-(100 + 100 * (n : Int)) ≤ d.2 ∧ d.2 ≤ 100 + 100 * n)
def EvV.fit1 : EvV → Prop
 | .look s => (0 ≤ s.1 ∧ s.1 ≤ 100) ∧ (0 ≤ s.2 ∧ s.2 ≤ 100)
 | .flow r k m => (0 ≤ r.1 ∧ r.1 ≤ 30) ∧ (0 ≤ r.2 ∧ r.2 ≤ 30) ∧ (0 ≤ k ∧ k ≤ 10) ∧ (0 ≤ m ∧ m ≤ 100)
theorem EvV.fit1.fit {e : EvV} (h : e.fit1) : e.fit := by
 cases e with
 | look s => obtain ⟨h1, h2⟩ := h; exact ⟨by omega, by omega⟩
 | flow r k m => obtain ⟨h1, h2, h3, h4⟩ := h; exact ⟨by omega, by omega, by omega, by omega⟩
theorem Bd.more {n m : Nat} {d : Int × Int} (h : Bd n d) (k : n ≤ m) : Bd m d := by
 obtain ⟨h1, h2⟩ := h
 exact ⟨by omega, by omega⟩
theorem Bd.fit {n : Nat} {d : Int × Int} (h : Bd n d) (k : n ≤ 500) : fitS d := by
 obtain ⟨h1, h2⟩ := h
 exact ⟨by omega, by omega⟩
theorem bd_meet {n : Nat} {a b : Int × Int} (ha : Bd n a) (hb : Bd n b) : Bd n (meetV a b) := by
 obtain ⟨h1, h2⟩ := ha
 obtain ⟨h3, h4⟩ := hb
 unfold meetV
 exact ⟨by dsimp only; omega, by dsimp only; omega⟩
theorem bd_after {n : Nat} {e : EvV} (he : e.fit1) {d : Int × Int} (h : Bd n d) : Bd (n + 1) (e.after d) := by
 cases e with
 | look s =>
  obtain ⟨h1, h2⟩ := he
  exact (bd_meet (n := n) ⟨by omega, by omega⟩ h).more (by omega)
 | flow r k m =>
  obtain ⟨h1, h2, h3, h4⟩ := he
  obtain ⟨h5, h6⟩ := h
  unfold EvV.after heldV
  exact ⟨by dsimp only; omega, by dsimp only; omega⟩
theorem bd_before {n : Nat} {e : EvV} (he : e.fit1) {d : Int × Int} (h : Bd n d) : Bd (n + 1) (e.before d) := by
 cases e with
 | look s =>
  obtain ⟨h1, h2⟩ := he
  exact (bd_meet (n := n) ⟨by omega, by omega⟩ h).more (by omega)
 | flow r k m =>
  obtain ⟨h1, h2, h3, h4⟩ := he
  obtain ⟨h5, h6⟩ := h
  unfold EvV.before
  dsimp only
  exact ⟨by dsimp only; split <;> omega, by dsimp only; split <;> omega⟩
theorem days_fit {C : CutV} (O : C.Ok) {k : Int} (hk : 0 ≤ k ∧ k ≤ 10) {s : Nat} {es : List EvV} (h : es ∈ C.days k s) : es.length ≤ 6 ∧ ∀ e, e ∈ es → e.fit1 := by
 unfold CutV.days at h
 obtain ⟨d, hd, rfl⟩ := List.mem_map.1 h
 unfold CutV.evs
 constructor
 ·rw [List.length_append, List.length_map]
  have h1 : (((onlyV s 0 C.ls).filter fun l => decide (l.day = (d : Int)))).length ≤ 5 := Nat.le_trans (List.length_filter_le _ _) (Nat.le_trans only_len O.nl)
  cases C.rs[d]? with
  | none => dsimp only; rw [List.length_nil]; omega
  | some r => dsimp only; rw [List.length_singleton]; omega
 ·intro e he
  rcases List.mem_append.1 he with he | he
  ·obtain ⟨x, hx, rfl⟩ := List.mem_map.1 he
   have hl := O.l x (only_mem (List.mem_filter.1 hx).1)
   obtain ⟨_, h2⟩ := hl
   exact ⟨by dsimp only; omega, by dsimp only; omega⟩
  ·cases q : C.rs[d]? with
   | none => rw [q] at he; cases he
   | some r =>
    rw [q] at he
    cases List.mem_singleton.1 he
    have hr := O.r r (List.mem_of_getElem? q)
    have hm := O.m
    unfold RainOk at hr
    exact ⟨by omega, by omega, hk, by omega⟩
theorem splice_two {v : Int × Int} : ∀ {l : List (Int × Int)} {d : Nat}, d < l.length → splice (l.flatMap spC) (0 + d * 2) (spC v) = some ((l.set d v).flatMap spC)
 | [], _, h => by simp at h
 | x :: l, 0, _ => by
  show splice (AVal.int .i64 x.1 :: .int .i64 x.2 :: l.flatMap spC) 0 [.int .i64 v.1, .int .i64 v.2] = _
  cases hq : l.flatMap spC with
  | nil => simp [splice, List.flatMap_cons, spC, hq]
  | cons y ys => simp [splice, List.flatMap_cons, spC, hq]
 | x :: l, d + 1, h => by
  have ih := splice_two (v := v) (l := l) (d := d) (by simpa using h)
  rw [show 0 + (d + 1) * 2 = (0 + d * 2) + 1 + 1 by omega]
  show splice (AVal.int .i64 x.1 :: .int .i64 x.2 :: l.flatMap spC) (0 + d * 2 + 1 + 1) (spC v) = _
  simp only [splice, ih]
  rfl
theorem crs_push {l : List (Int × Int)} {i : Nat} (hl : l.length = i) (hi : i < 9) (v : Int × Int) : splice (crsC l) (0 + i * 2) (spC v) = some (crsC (l ++ [v])) := by
 unfold crsC
 rw [splice_two (by rw [List.length_append, List.length_replicate]; omega)]
 congr 2
 subst hl;rw [List.set_append_right _ _ (Nat.le_refl _), Nat.sub_self, List.length_append, List.append_assoc]
 congr 1
 rw [show 9 - l.length = (9 - (l.length + 1)) + 1 by omega, List.replicate_succ]
 rfl
theorem crs_set {l : List (Int × Int)} {i : Nat} (hi : i < l.length) (v : Int × Int) : splice (crsC l) (0 + i * 2) (spC v) = some (crsC (l.set i v)) := by
 unfold crsC
 rw [splice_two (by rw [List.length_append]; omega), List.set_append_left _ _ hi, List.length_set]
theorem after_at {e : EvV} (hf : e.fit) {d : Int × Int} (hd : fitS d) (h : AH) : ∃ ff fargs, aInvokeIface Try.prog (evC e) "bogworks/cut.after" [.agg (spC d)] h = some (.enter ff fargs h) ∧ Runs Try.prog ff fargs h (fun en h' => en = .ret (.agg (spC (e.after d))) ∧ Ext h h') := by
 cases e with
 | look s => exact ⟨110, [.agg (spC s), .agg (spC d)], rfl, lookAfter_ok⟩
 | flow r k m => exact ⟨112, [.agg [.int .i64 r.1, .int .i64 r.2, .int .i64 k, .int .i64 m], .agg (spC d)], rfl, flowAfter_ok hf hd⟩
theorem before_at {e : EvV} (hf : e.fit) {d : Int × Int} (hd : fitS d) (h : AH) : ∃ ff fargs, aInvokeIface Try.prog (evC e) "bogworks/cut.before" [.agg (spC d)] h = some (.enter ff fargs h) ∧ Runs Try.prog ff fargs h (fun en h' => en = .ret (.agg (spC (e.before d))) ∧ Ext h h') := by
 cases e with
 | look s => exact ⟨111, [.agg (spC s), .agg (spC d)], rfl, lookBefore_ok⟩
 | flow r k m => exact ⟨113, [.agg [.int .i64 r.1, .int .i64 r.2, .int .i64 k, .int .i64 m], .agg (spC d)], rfl, flowBefore_ok hf hd⟩
theorem ev_same (e : EvV) : sameA (evC e) (evC e) = true := by cases e <;> simp [evC, spC, sameA, sameAs, eqI_eq]
theorem ev_cells (e : EvV) : (evC e).cells = [evC e] := by cases e <;> rfl
end Go.Proofs.Yteibheeleeengaa

namespace Go.Proofs.Yteibheeleeengaa
open Go Go.AbsE
set_option linter.unusedSimpArgs false
set_option maxRecDepth 100000
set_option maxHeartbeats 0
set_option linter.unusedVariables false
theorem evs_slice {h : AH} {lo : Nat} {s : AVal} {es : List EvV} (g : Grow h 128 1 lo s es.length (es.map evC)) : SliceOf h 1 s (es.map fun e => [evC e]) := by
 refine Grow.sliceOf (L := es.map fun e => [evC e]) (by rw [List.length_map]; exact g) fun i v q => ?_
 have := slice_flatten (sz := 1) (L := es.map fun e => [evC e]) (fun x hx => by obtain ⟨_, _, rfl⟩ := List.mem_map.1 hx; rfl) i v q
 have hf : (es.map fun e => [evC e]).flatten = es.map evC := by
  clear g q this
  induction es with
  | nil => rfl
  | cons e es ih => rw [List.map_cons, List.flatten_cons, ih]; rfl
 rwa [hf] at this
theorem DaysAt.read {hE h' : AH} {lo bD b4 : Nat} {ss : List AVal} {E : List (List EvV)} (D : DaysAt hE lo bD ss E) (y : ExtF (fun b => b = b4) hE h') (h4 : b4 < bD) :
  Has h' bD (.cells .plain ss 126) ∧ ∀ (i : Nat) s es, ss[i]? = some s → E[i]? = some es → SliceOf h' 1 s (es.map fun e => [evC e]) :=
 ⟨D.m.extF y (fun q => by omega), fun i s es p q => evs_slice ((D.gr i s es p q).keep y.1 fun b b1 b2 b3 => y.2 b b2 (fun z => by have := D.lt; omega))⟩
theorem course_ok {C : CutV} (O : C.Ok) {r b l : AVal} {k : Int} (hk : 0 ≤ k ∧ k ≤ 10) {s : Nat} (h : AH) (A : CutAt h C r b l) :
  Runs Try.prog 79 [.agg (C.cells r b l), .agg [.int .i64 k, .int .i64 s]] h (fun en h' => en = .ret (.tuple [.agg (crsC ((C.course k s).getD [])), .bool (C.course k s).isSome]) ∧ Ext h h') := by
 have hnr := O.nr
 have hev := fun h A => events_ok O (r := r) (b := b) (l := l) (k := k) (s := s) h A
 have hsm := A.same
 have hdf := fun es h => days_fit O hk (s := s) (es := es) h
 have hdl : (C.days k s).length = C.rs.length + 1 := by unfold CutV.days; simp
 obtain ⟨E, hE⟩ : ∃ E, C.days k s = E := ⟨_, rfl⟩
 have hco : C.course k s = (match fwdA E (C.dl, C.dh) with | none => none | some (l, z) => some (bwdA E l z).1) := by unfold CutV.course; rw [hE]; rfl
 rw [hE] at hev hdf hdl
 have hd0 := O.d
 have hm0 := O.m
 have hbd0 : Bd 0 (C.dl, C.dh) := ⟨by dsimp only; omega, by dsimp only; omega⟩
 unfold CutV.cells at hev hsm ⊢
 have e0 : Ext h h := Ext.refl _
 refine Runs.intro aFunc79 rfl rfl rfl rfl fun rest => ?_;apply gS;refine gR rfl ?_;refine GoR.box rfl rfl rfl rfl rfl rfl fun h0 x0 f0 => ?_;have := e0.1;replace e0 := e0.trans x0;have := f0.1;refine GoR.box rfl rfl rfl rfl rfl rfl fun h1 x1 f1 => ?_;have := e0.1;have := f0.1;replace f0 := f0.ext x1;replace e0 := e0.trans x1;have := f1.1;refine GoR.alloc rfl rfl rfl zt99 rfl rfl fun h2 x2 f2 => ?_;have := e0.1;have := f1.1;have := f0.1;replace f1 := f1.ext x2;replace f0 := f0.ext x2;replace e0 := e0.trans x2;have := f2.1;refine gP ?_;apply gE;apply gS;refine gR rfl ?_;refine gO rfl rfl (ld68 rfl f0 rfl) rfl ?_;refine gO rfl rfl (ld102 rfl f1 rfl) rfl ?_;refine GoR.call rfl rfl (aCF aFunc86 rfl) (hev _ (A.ext e0)) ?_ (by rintro _ _ ⟨bD, ss, lo, q, _, hbD, DD⟩; cases q);rintro v3 h3 ⟨bD, ss, lo, q, x3, hbD, DD⟩;cases q;refine ⟨_, rfl, ?_⟩;have := e0.1;replace f2 := f2.ext x3;replace f1 := f1.ext x3;replace f0 := f0.ext x3;replace e0 := e0.trans x3;refine gP ?_;apply gE;apply gS;refine gR rfl ?_;refine gO rfl rfl (fa68_0 rfl) rfl ?_;refine gO rfl rfl (ld23 rfl f0 rfl) rfl ?_;refine gO rfl rfl (aOp_build zt77 hu77 pl77 rfl rfl) rfl ?_;refine GoR.alloc rfl rfl rfl zt77 rfl rfl fun h4 x4 f4 => ?_;have := e0.1;have := f2.1;have := f1.1;have := f0.1;replace f2 := f2.ext x4;replace f1 := f1.ext x4;replace f0 := f0.ext x4;replace e0 := e0.trans x4;have := f4.1;refine GoR.store rfl rfl rfl rfl rfl rfl f4 rfl sz77 rfl rfl rfl fun h5 u5 => ?_;replace f4 := u5.has f4;replace f2 := f2.upd u5 (by omega);replace f1 := f1.upd u5 (by omega);replace f0 := f0.upd u5 (by omega);replace e0 := e0.upd u5 (by omega);apply gE;iterate 2 apply gS
 refine gR rfl ?_;refine gP ?_;refine gO rfl rfl (aOp_lenSlice Try.underlying124 rfl (n := C.rs.length + 1) rfl) rfl ?_;refine gP ?_;apply gE;refine Go.block noJ_ok ?_
 have hb1 := f2.1
 have hb3 := f4.1
 have DR := fun h' y => DD.read (h' := h') (b4 := h1.next) y (by omega)
 have hssl : ss.length = C.rs.length + 1 := by rw [DD.len, hdl]
 have z3 : ExtF (fun b => b = h1.next) h3 h5 := by
  rename_i u5
  exact ((ExtF.of (Ext.refl h3)).ext x4).upd u5 (.inr (Nat.le_refl _))
 have hc0 : (AVal.agg (crsC [])).cells = crsC [] := rfl
 refine Go.loopKeep (fun a : Nat × (Int × Int) × List (Int × Int) => [(4, .ptr h1.next 0), (6, .slice bD 0 (C.rs.length + 1) (C.rs.length + 1)), (7, .ptr h3.next 0), (22, .slice bD 0 (C.rs.length + 1) (C.rs.length + 1)), (23, .int .i64 ((C.rs.length + 1 : Nat) : Int)), (24, .int .i64 (a.1 : Nat))])
  (fun m a h' => m + a.1 = C.rs.length + 1 ∧ Ext h h' ∧ ExtF (fun b => b = h1.next) h3 h' ∧ Has h' h1.next (.cells .plain (crsC a.2.2) 99) ∧ Has h' h3.next (.cells .plain (spC a.2.1) 77) ∧ fwdA (E.take a.1) (C.dl, C.dh) = some (a.2.2, a.2.1) ∧ a.2.2.length = a.1 ∧ Bd (6 * a.1) a.2.1 ∧ ∀ p, p ∈ a.2.2 → Bd 60 p) (n := C.rs.length + 1) (0, (C.dl, C.dh), []) ⟨rfl, rfl, rfl, rfl, rfl, rfl, trivial⟩ ⟨rfl, e0, z3, f2, f4, rfl, rfl, hbd0, fun p q => by cases q⟩ ?_
 clear e0 f0 f1 f2 f4 z3;rintro m ⟨i, now, L⟩ h20 ⟨hm, e0, y3, f2, f4, hfw, hLl, hbn, hbL⟩ again
 dsimp only at hm f2 f4 hfw hLl hbn hbL ⊢
 have hy3 := y3.1
 have hn2 := f2.1
 have hn4 := f4.1
 by_cases hi : i < C.rs.length + 1
 ·obtain ⟨es, hes⟩ : ∃ es, E[i]? = some es := ⟨E[i]'(by omega), by simp⟩
  obtain ⟨sd, hsd⟩ : ∃ sd, ss[i]? = some sd := ⟨ss[i]'(by omega), by simp⟩
  obtain ⟨he6, hef⟩ := hdf es (List.mem_of_getElem? hes)
  obtain ⟨fD, SD⟩ := DR h20 y3
  have Si := SD i sd es hsd hes
  have hls := Si.len
  rw [List.length_map] at hls
  have hld : ss[0 + i * 1]? = some sd := by rw [Nat.zero_add, Nat.mul_one]; exact hsd
  have hInd : Nat.blt i 9 = true := Nat.ble_eq_true_of_le (by omega)
  have hpush := crs_push hLl (by omega) now
  unfold spC at f4 hpush
  apply gS;refine gR rfl ?_;refine gO rfl rfl (kLT rfl rfl) rfl ?_;apply gE;apply gS;refine gC (b := true) rfl ?_;refine gD ?_;apply gS;refine Go.block noJ_ok ?_;apply gS;refine gR rfl ?_;refine gP ?_;refine gO rfl rfl (aOp_indexAddr (i := i) Try.underlying124 sz126 rfl (b := bD) (off := 0) rfl rfl (Nat.ble_eq_true_of_le hi)) rfl ?_;refine gO rfl rfl (ld126 rfl fD hld) rfl ?_;iterate 2 refine gP ?_
  apply gE;apply gS;refine gR rfl ?_;refine gP ?_;refine gO rfl rfl (ld77 rfl f4 rfl) rfl ?_;refine gO rfl rfl (aOp_indexAddrArr (i := i) Try.underlying99 sz77 rfl rfl hInd) rfl ?_;refine GoR.store rfl rfl rfl rfl rfl rfl f2 rfl sz77 rfl rfl hpush fun h21 u21 => ?_;replace f2 := u21.has f2;replace f4 := f4.upd u21 (by omega);replace fD := fD.upd u21 (by omega);replace e0 := e0.upd u21 (by omega);replace y3 := y3.upd u21 (.inl rfl);apply gE;apply gS;refine gR rfl ?_;refine gP ?_;refine gO rfl rfl (aOp_lenSlice Try.underlying126 rfl hls) rfl ?_;refine gP ?_;apply gE;refine Go.block noJ_ok ?_
  have hstep : fwdA (E.take (i + 1)) (C.dl, C.dh) = (match fwd1 es now with | none => none | some x => some (L ++ [now], x)) := by
   rw [List.take_add_one, hes, Option.toList_some, fwdA_app, hfw]
   dsimp only
   rw [fwdA_cons]
   cases fwd1 es now <;> rfl
  refine Go.loopKeep (fun a : Nat × (Int × Int) => [(4, .ptr h1.next 0), (6, .slice bD 0 (C.rs.length + 1) (C.rs.length + 1)), (7, .ptr h3.next 0), (22, .slice bD 0 (C.rs.length + 1) (C.rs.length + 1)), (23, .int .i64 ((C.rs.length + 1 : Nat) : Int)), (24, .int .i64 (i : Nat)), (32, sd), (33, .int .i64 es.length), (34, .int .i64 (a.1 : Nat))])
   (fun m a h' => m + a.1 = es.length ∧ Ext h h' ∧ ExtF (fun b => b = h1.next) h3 h' ∧ Has h' h1.next (.cells .plain (crsC (L ++ [now])) 99) ∧ Has h' h3.next (.cells .plain (spC a.2) 77) ∧ fwd1 (es.take a.1) now = some a.2 ∧ Bd (6 * i + a.1) a.2) (n := es.length) (0, now) ⟨rfl, rfl, rfl, rfl, rfl, rfl, rfl, rfl, rfl, trivial⟩ ⟨rfl, e0, y3, f2, f4, rfl, hbn⟩ ?_
  clear e0 y3 f2 f4 fD hy3 hn2 hn4 Si SD;rintro q ⟨j, cur⟩ h30 ⟨hq, e0, y3, f2, f4, hf1, hbc⟩ again2
  dsimp only at hq f4 hf1 hbc ⊢
  have hy3 := y3.1
  have hn2 := f2.1
  have hn4 := f4.1
  obtain ⟨fD, SD⟩ := DR h30 y3
  have Si := SD i sd es hsd hes
  by_cases hj : j < es.length
  ·obtain ⟨e, he⟩ : ∃ e, es[j]? = some e := ⟨es[j], by simp [hj]⟩
   have hefit := hef e (List.mem_of_getElem? he)
   obtain ⟨bq, off, q1, q2⟩ := Si.at (i := j) (l := [evC e]) (by rw [List.getElem?_map, he]; rfl)
   rw [List.length_map] at q1
   have hevs := ev_same e
   have hevc := ev_cells e
   have k1 := fun h => after_at hefit.fit (hbc.fit (by omega)) h
   have hb2 := bd_after hefit hbc
   have hnx : fwd1 (es.take (j + 1)) now = if (e.after cur).1 > (e.after cur).2 then none else some (e.after cur) := by
    rw [List.take_add_one, he, Option.toList_some, fwd1_app, hf1]
    rfl
   obtain ⟨nx, hnxe⟩ : ∃ nx, e.after cur = nx := ⟨_, rfl⟩
   rw [hnxe] at k1 hb2 hnx
   have hno := fun h => none_ok (a := nx) (h := h)
   have hnil : nilCheckOk Try.prog (.func (.method "bogworks/cut.after") [evC e] []) = true := by cases e <;> kernel_rfl
   obtain ⟨ev, hevv⟩ : ∃ ev, evC e = ev := ⟨_, rfl⟩
   rw [hevv] at k1 q2 hevs hevc hnil
   unfold spC at f4 k1 hno
   obtain ⟨ff, fargs, k1a, k1b⟩ := k1 h30
   by_cases hbad : nx.1 > nx.2
   ·rw [decide_eq_true hbad] at hno;rw [if_pos hbad] at hnx
    have hnone : C.course k s = none := by
     have h1 : fwd1 es now = none := by
      have := fwd1_app (a := es.take (j + 1)) (b := es.drop (j + 1)) (now := now)
      rw [List.take_append_drop, hnx] at this;exact this
     have h2 : fwdA (E.take (i + 1)) (C.dl, C.dh) = none := by rw [hstep, h1]
     have h3 : fwdA E (C.dl, C.dh) = none := by
      have := fwdA_app (L := E.take (i + 1)) (M := E.drop (i + 1)) (now := (C.dl, C.dh))
      rw [List.take_append_drop, h2] at this;exact this
     rw [hco, h3]
    rw [hnone]
    have hz : crsC ((none : Option (List (Int × Int))).getD []) = [.int .i64 0, .int .i64 0, .int .i64 0, .int .i64 0, .int .i64 0, .int .i64 0, .int .i64 0, .int .i64 0, .int .i64 0, .int .i64 0, .int .i64 0, .int .i64 0, .int .i64 0, .int .i64 0, .int .i64 0, .int .i64 0, .int .i64 0, .int .i64 0] := rfl
    rw [hz]
    have hwh : ∀ v : List AVal, v.length = 18 → splice (crsC (L ++ [now])) 0 v = some v := fun v hv => splice_all (by rw [hv, crsC_len (by rw [List.length_append]; simp; omega)])
    apply gS;refine gR rfl ?_;refine gO rfl rfl (kLT rfl rfl) rfl ?_;apply gE;apply gS;refine gC (b := true) rfl ?_;refine gD ?_;apply gS;refine Go.block noJ_ok ?_;apply gS;refine gR rfl ?_;refine gO rfl rfl (aOp_indexAddr (i := j) Try.underlying126 sz128 rfl q1 rfl (Nat.ble_eq_true_of_le hj)) rfl ?_;refine gO rfl rfl ((aOp_loadE1 (k := 0) ag128 rfl q2 rfl)) rfl ?_;refine gP ?_;apply gE;apply gS;refine gR rfl ?_;refine gP ?_;refine gO rfl rfl (ld77 rfl f4 rfl) rfl ?_;refine GoR.call rfl rfl (aOp_invoke rfl rfl (k1a)) (k1b) ?_ np;rintro _ h31 ⟨q, x31⟩;cases q;refine ⟨_, rfl, ?_⟩;replace f2 := f2.ext x31;replace f4 := f4.ext x31;replace fD := fD.ext x31;replace e0 := e0.trans x31;refine GoR.store rfl rfl rfl rfl rfl rfl f4 rfl sz77 rfl rfl rfl fun h32 u32 => ?_;replace f2 := f2.upd u32 (by omega);replace f4 := u32.has f4;clear fD;replace e0 := e0.upd u32 (by omega);apply gE;apply gS;refine gR rfl ?_;refine gO rfl rfl (ld77 rfl f4 rfl) rfl ?_;refine GoR.call rfl rfl (aCF aFunc87 rfl) (hno _) ?_ np;rintro v33 h33 ⟨q, x33⟩;cases q;refine ⟨_, rfl, ?_⟩;replace f2 := f2.ext x33;replace e0 := e0.trans x33;apply gE;refine gC (b := true) rfl ?_;apply gS;refine gR rfl ?_;refine gO rfl rfl (aOp_buildArr zt99 Try.underlying99 sz77 rfl rfl) rfl ?_;refine GoR.store rfl rfl rfl rfl rfl rfl f2 rfl sz99 rfl rfl (hwh _ rfl) fun h34 u34 => ?_;replace f2 := u34.has f2;replace e0 := e0.upd u34 (by omega);refine gP ?_;apply gE;exact gV (ret_end (aResult_of Try.func79 rfl (aResults_c rfl f2 (inCells_agg ag99 sz99 rfl) rfl)) ⟨rfl, e0⟩)
   ·rw [decide_eq_false hbad] at hno;rw [if_neg hbad] at hnx;apply gS;refine gR rfl ?_;refine gO rfl rfl (kLT rfl rfl) rfl ?_;apply gE;apply gS;refine gC (b := true) rfl ?_;refine gD ?_;apply gS;refine Go.block noJ_ok ?_;apply gS;refine gR rfl ?_;refine gO rfl rfl (aOp_indexAddr (i := j) Try.underlying126 sz128 rfl q1 rfl (Nat.ble_eq_true_of_le hj)) rfl ?_;refine gO rfl rfl ((aOp_loadE1 (k := 0) ag128 rfl q2 rfl)) rfl ?_;refine gP ?_;apply gE;apply gS;refine gR rfl ?_;refine gP ?_;refine gO rfl rfl (ld77 rfl f4 rfl) rfl ?_;refine GoR.call rfl rfl (aOp_invoke rfl rfl (k1a)) (k1b) ?_ np;rintro _ h31 ⟨q, x31⟩;cases q;refine ⟨_, rfl, ?_⟩;replace f2 := f2.ext x31;replace f4 := f4.ext x31;replace fD := fD.ext x31;replace e0 := e0.trans x31;replace y3 := y3.ext x31;refine GoR.store rfl rfl rfl rfl rfl rfl f4 rfl sz77 rfl rfl rfl fun h32 u32 => ?_;replace f2 := f2.upd u32 (by omega);replace f4 := u32.has f4;clear fD;replace e0 := e0.upd u32 (by omega);replace y3 := y3.upd u32 (.inr (by omega));apply gE;apply gS;refine gR rfl ?_;refine gO rfl rfl (ld77 rfl f4 rfl) rfl ?_;refine GoR.call rfl rfl (aCF aFunc87 rfl) (hno _) ?_ np;rintro v33 h33 ⟨q, x33⟩;cases q;refine ⟨_, rfl, ?_⟩;replace f2 := f2.ext x33;replace f4 := f4.ext x33;replace e0 := e0.trans x33;replace y3 := y3.ext x33;apply gE;refine gC (b := false) rfl ?_;refine gD ?_;refine Go.inBlock noJ_ok ?_;refine gR rfl ?_;refine gO rfl rfl (aA rfl rfl) rfl ?_;refine gP ?_;apply gE;exact again2 (q - 1) (j + 1, nx) _ _ (by omega) ⟨rfl, rfl, rfl, rfl, rfl, rfl, rfl, rfl, rfl, trivial⟩ ⟨by dsimp only; omega, e0, y3, f2, f4, hnx, hb2⟩
  ·have hjn : j = es.length := by omega
   subst hjn;rw [List.take_length] at hf1;rw [hf1] at hstep;clear again2;apply gS;refine gR rfl ?_;refine gO rfl rfl (kLF rfl rfl) rfl ?_;apply gE;apply gS;refine gC (b := false) rfl ?_;refine gD ?_;refine Go.inBlock noJ_ok ?_;refine gR rfl ?_;refine gO rfl rfl (aA rfl rfl) rfl ?_;refine gP ?_;apply gE;refine again (m - 1) (i + 1, cur, L ++ [now]) _ _ (by omega) ⟨rfl, rfl, rfl, rfl, rfl, rfl, trivial⟩ ⟨by dsimp only; omega, e0, y3, f2, f4, hstep, by dsimp only; rw [List.length_append, hLl]; rfl, hbc.more (by dsimp only; omega), fun p hp => ?_⟩
   rcases List.mem_append.1 hp with hp | hp
   ·exact hbL p hp
   ·cases List.mem_singleton.1 hp
    exact hbn.more (by omega)
 ·clear again
  have hii : i = C.rs.length + 1 := by omega
  subst hii;rw [List.take_of_length_le (by omega)] at hfw;rw [hfw] at hco
  dsimp only at hco
  apply gS;refine gR rfl ?_;refine gO rfl rfl (kLF rfl rfl) rfl ?_;apply gE;apply gS;refine gC (b := false) rfl ?_;refine gD ?_;iterate 2 apply gS
  refine gR rfl ?_;refine gP ?_;refine GoR.call rfl rfl (aCF aFunc88 rfl) (back88_ok ⟨rfl, rfl⟩) ?_ (by rintro _ _ ⟨bb, q, _, hbb, _⟩; cases q);rintro v21 h21 ⟨bb, q, x21, hbb, f21⟩;cases q;refine ⟨_, rfl, ?_⟩;have := e0.1;replace f2 := f2.ext x21;replace f4 := f4.ext x21;replace e0 := e0.trans x21;replace y3 := y3.ext x21;apply gE;refine Go.block noJ_ok ?_
  have GGf : Has h21 bb (.cells .plain [.slice bD 0 (C.rs.length + 1) (C.rs.length + 1)] 124) := by assumption
  have hn21 := f2.1
  have hn23 := f4.1
  have hz3 := y3.1
  have hbb2 := GGf.1
  have hEl : E.length = C.rs.length + 1 := hdl
  have eF : ∀ {hh}, ExtF (fun b => b = h1.next ∨ b = h3.next) h21 hh → Ext h hh := fun x => x.low e0 fun b q => by omega
  have yF : ∀ {hh}, ExtF (fun b => b = h1.next ∨ b = h3.next) h21 hh → ExtF (fun b => b = h1.next) h3 hh := fun x => y3.trans (fun b q => q.elim .inl fun q => .inr (by omega)) x
  have hsl : ∀ {hh}, ExtF (fun b => b = h1.next) h3 hh → SliceOf hh 1 (.slice bD 0 (C.rs.length + 1) (C.rs.length + 1)) (ss.map fun v => [v]) := fun {hh} y => by
   refine SliceOf.mk' (by rfl) (by rfl) (DR hh y).1 (by rw [List.length_map, hssl]) fun i v q => ?_;rw [List.getElem?_map] at q
   cases z : ss[i]? with
   | none => rw [z] at q; cases q
   | some w =>
    rw [z] at q;cases q
    unfold slice?
    rw [Nat.zero_add, Nat.mul_one, List.drop_eq_getElem_cons (List.getElem?_eq_some_iff.1 z).1, (List.getElem?_eq_some_iff.1 z).2]
    rfl
  refine Go.rangeN (items := backI ss) (A := fun h => Has h bb (.cells .plain [.slice bD 0 (C.rs.length + 1) (C.rs.length + 1)] 124) ∧ SliceOf h 1 (.slice bD 0 (C.rs.length + 1) (C.rs.length + 1)) (ss.map fun v => [v])) (fun b => b = h1.next ∨ b = h3.next)
   (fun j hh G => (∃ i, i + j = C.rs.length + 1 ∧ Has hh h1.next (.cells .plain (crsC (L.take i ++ (bwdA (E.drop i) (L.drop i) now).1)) 99) ∧ Has hh h3.next (.cells .plain (spC (bwdA (E.drop i) (L.drop i) now).2) 77) ∧ Bd (60 + 6 * j) (bwdA (E.drop i) (L.drop i) now).2) ∧ ∀ b, G b ↔ (b = h1.next ∨ b = h3.next))
   (fun _ _ _ => False) rfl aFunc92 Try.func79 (back92_it (by omega) bb) (fun h' x => ⟨GGf.extF x (by omega), hsl (yF x)⟩) ⟨⟨C.rs.length + 1, rfl, ?_, ?_, ?_⟩, fun b => Iff.rfl⟩ ?_ ?_ ?_ ?_ ?_ ?_ ?_
  ·rw [List.take_of_length_le (by omega), List.drop_of_length_le (by omega), List.drop_of_length_le (by omega)]
   show Has h21 h1.next (.cells .plain (crsC (L ++ [])) 99)
   rw [List.append_nil];exact f2
  ·rw [List.drop_of_length_le (by omega), List.drop_of_length_le (by omega)];exact f4
  ·rw [List.drop_of_length_le (by omega), List.drop_of_length_le (by omega)];exact hbn.more (by omega)
  ·rintro k hh G b ⟨⟨i, _, g1, g2, _⟩, hG⟩ q
   rcases (hG b).1 q with rfl | rfl
   ·exact g1.1
   ·exact g2.1
  ·rintro c hh G b q;exact q.elim
  ·rintro k h4' h5' G ⟨⟨i, q1, g1, g2, q2⟩, hG⟩ hn hk;exact ⟨⟨i, q1, g1.keep hn (hk _ g1.1 (.inr ((hG _).2 (.inl rfl)))), g2.keep hn (hk _ g2.1 (.inr ((hG _).2 (.inr rfl)))), q2⟩, hG⟩
  ·rintro c h4' h5' G q;exact q.elim
  ·rintro j item hj
   have hjl := (List.getElem?_eq_some_iff.1 hj).1
   rw [backI_len, hssl] at hjl
   obtain ⟨d, hd⟩ : ∃ d, j + d + 1 = ss.length := ⟨C.rs.length - j, by omega⟩
   have hdn : d < C.rs.length + 1 := by omega
   obtain ⟨sd, hsd⟩ : ∃ sd, ss[d]? = some sd := ⟨ss[d]'(by omega), by simp⟩
   have hit := backI_at hd hsd
   rw [hj] at hit
   have hit := Option.some.inj hit
   subst hit;refine ⟨_, rfl, ?_⟩;rintro hh G lb r0 fr rest' Q' ⟨⟨i, hij, g1, g2, hbq⟩, hG⟩ x1 hsub hnl hlb fl hready contT contF
   have hi1 : i = d + 1 := by omega
   subst hi1
   obtain ⟨es, hes⟩ : ∃ es, E[d]? = some es := ⟨E[d]'(by omega), by simp⟩
   obtain ⟨a, ha⟩ : ∃ a, L[d]? = some a := ⟨L[d]'(by omega), by simp⟩
   obtain ⟨he6, hef⟩ := hdf es (List.mem_of_getElem? hes)
   have hba := hbL a (List.mem_of_getElem? ha)
   have hEd : E.drop d = es :: E.drop (d + 1) := by rw [List.drop_eq_getElem_cons (List.getElem?_eq_some_iff.1 hes).1, (List.getElem?_eq_some_iff.1 hes).2]
   have hLd : L.drop d = a :: L.drop (d + 1) := by rw [List.drop_eq_getElem_cons (List.getElem?_eq_some_iff.1 ha).1, (List.getElem?_eq_some_iff.1 ha).2]
   have hbw : bwdA (E.drop d) (L.drop d) now = (meetV (bwd1 es (bwdA (E.drop (d + 1)) (L.drop (d + 1)) now).2) a :: (bwdA (E.drop (d + 1)) (L.drop (d + 1)) now).1, meetV (bwd1 es (bwdA (E.drop (d + 1)) (L.drop (d + 1)) now).2) a) := by
    rw [hEd, hLd]
    rfl
   obtain ⟨R, x, hRx⟩ : ∃ R x, bwdA (E.drop (d + 1)) (L.drop (d + 1)) now = (R, x) := ⟨_, _, rfl⟩
   rw [hRx] at g1 g2 hbq hbw
   dsimp only at g1 g2 hbq hbw
   have hx1 := x1.1
   have hfl := fl.1
   have yD := yF x1
   have hl1 : h1.next ≠ lb := by omega
   have hl3 : h3.next ≠ lb := by omega
   have y9 : ExtF (fun b => G b ∨ b = lb) hh hh := ExtF.of (Ext.refl _)
   have SD0 := fun h' y => (DR h' y).2 d sd es hsd hes
   obtain ⟨hsc1, hsc2⟩ := (SD0 hh yD).scal
   have hls : ∀ h' y, lenA sd = some es.length := fun h' y => by have := (SD0 h' y).len; rwa [List.length_map] at this
   clear e0 f2 f4 y3 GGf contF;apply gS;refine gR rfl ?_;refine gP ?_;apply gE;refine gR rfl ?_;refine gP ?_;apply gE;refine Go.beginRound fl hready fun h41 u41 => ?_;replace g1 := g1.upd u41 hl1;replace g2 := g2.upd u41 hl3;replace fl := u41.has fl;replace y9 := y9.upd u41 (.inl (.inr rfl))
   have yD2 : ExtF (fun b => b = h1.next) h3 h41 := yD.upd u41 (.inr (by omega))
   have e0 : Ext h41 h41 := Ext.refl _
   have hu41 := u41.1
   obtain ⟨f2, hf2⟩ : ∃ f2, f2 = g1 := ⟨_, rfl⟩
   obtain ⟨f4, hf4⟩ : ∃ f4, f4 = g2 := ⟨_, rfl⟩
   obtain ⟨f6, hf6⟩ : ∃ f6, f6 = fl := ⟨_, rfl⟩
   clear hf2 hf4 hf6 g1 g2 fl
   have hk2 := f2.1
   have hk4 := f4.1
   have hk6 := f6.1
   refine Go.block noJ_ok ?_;iterate 2 apply gS
   refine gR rfl ?_;refine gP ?_;refine GoR.call rfl rfl (aCF aFunc89 rfl) (back89_ok ⟨hsc1, hsc2⟩) ?_ (by rintro _ _ ⟨bb2, q, _, hbb2, _2⟩; cases q);rintro v42 h42 ⟨bb2, q, x42, hbb2, f422⟩;cases q;refine ⟨_, rfl, ?_⟩;have := e0.1;replace f2 := f2.ext x42;replace f4 := f4.ext x42;replace f6 := f6.ext x42;replace e0 := e0.trans x42;replace y9 := y9.ext x42;replace yD2 := yD2.ext x42;apply gE;refine Go.block noJ_ok ?_
   have hk2 := f2.1
   have hk4 := f4.1
   have hk6 := f6.1
   have hu42 := x42.1
   have hy2 := yD2.1
   have hmm : (es.map evC).map (fun v => [v]) = es.map fun e => [evC e] := by rw [List.map_map]; rfl
   have yT : ∀ {h2}, ExtF (fun b => b = h3.next) h42 h2 → ExtF (fun b => b = h1.next) h3 h2 := fun x => yD2.trans (fun b q => .inr (by omega)) x
   have evl : (es.map evC).length = es.length := List.length_map _
   refine Go.rangeNR (items := backI (es.map evC)) (A := fun h => Has h bb2 (.cells .plain [sd] 126) ∧ SliceOf h 1 sd ((es.map evC).map fun v => [v])) (fun b => b = h3.next)
    (fun j2 hh2 G2 => (∃ i2, i2 + j2 = es.length ∧ Has hh2 h3.next (.cells .plain (spC (bwd1 (es.drop i2) x)) 77) ∧ Bd (60 + 6 * j + j2) (bwd1 (es.drop i2) x)) ∧ ∀ b, G2 b ↔ b = h3.next)
    (fun _ _ _ => False) f6 rfl aFunc93 Try.func79 (back93_it (by omega) bb2) (fun h' x' => ⟨f422.extF x' (by omega), by rw [hmm]; exact SD0 h' (yT x')⟩) ⟨⟨es.length, rfl, ?_, ?_⟩, fun b => Iff.rfl⟩ ?_ ?_ ?_ ?_ ?_ ?_ ?_
   ·rw [List.drop_length];exact f4
   ·rw [List.drop_length];exact hbq
   ·rintro k hh2 G2 b ⟨⟨i2, _, g2, _⟩, hG2⟩ q
    rw [(hG2 b).1 q]
    exact g2.1
   ·rintro c hh2 G2 b q;exact q.elim
   ·rintro k h4' h5' G2 ⟨⟨i2, q1, g2, q2⟩, hG2⟩ hn hk;exact ⟨⟨i2, q1, g2.keep hn (hk _ g2.1 (.inr ((hG2 _).2 rfl))), q2⟩, hG2⟩
   ·rintro c h4' h5' G2 q;exact q.elim
   ·rintro j2 item2 hj2
    have hjl2 := (List.getElem?_eq_some_iff.1 hj2).1
    rw [backI_len, evl] at hjl2
    obtain ⟨d2, hd2⟩ : ∃ d2, j2 + d2 + 1 = (es.map evC).length := ⟨es.length - 1 - j2, by omega⟩
    obtain ⟨e, he⟩ : ∃ e, es[d2]? = some e := ⟨es[d2]'(by omega), by simp⟩
    have hit2 := backI_at hd2 (v := evC e) (by rw [List.getElem?_map, he]; rfl)
    rw [hj2] at hit2
    have hit2 := Option.some.inj hit2
    subst hit2;refine ⟨_, rfl, ?_⟩;rintro hh2 G2 lb2 r2 fr2 rest2 Q2 ⟨⟨i2, hij2, g2, hb2⟩, hG2⟩ x2 hsub2 hnl2 hlb2 fl2 hready2 contT2 contF2
    have hi2 : i2 = d2 + 1 := by omega
    subst hi2
    have hefit := hef e (List.mem_of_getElem? he)
    have hed : es.drop d2 = e :: es.drop (d2 + 1) := by rw [List.drop_eq_getElem_cons (List.getElem?_eq_some_iff.1 he).1, (List.getElem?_eq_some_iff.1 he).2]
    have hbs : bwd1 (es.drop d2) x = e.before (bwd1 (es.drop (d2 + 1)) x) := by rw [hed]; rfl
    obtain ⟨cur, hcur⟩ : ∃ cur, bwd1 (es.drop (d2 + 1)) x = cur := ⟨_, rfl⟩
    rw [hcur] at g2 hb2 hbs
    have hx2 := x2.1
    have hfl2 := fl2.1
    have hl32 : h3.next ≠ lb2 := by omega
    have y8 : ExtF (fun b => G2 b ∨ b = lb2) hh2 hh2 := ExtF.of (Ext.refl _)
    clear contF2 f2 f4 f6 e0 y9 yD2 contT;refine gR rfl ?_;refine gP ?_;apply gE;refine Go.beginRound fl2 hready2 fun h51 u51 => ?_;replace g2 := g2.upd u51 hl32;replace fl2 := u51.has fl2;replace y8 := y8.upd u51 (.inl (.inr rfl))
    have hu51 := u51.1
    have e0 : Ext h51 h51 := Ext.refl _
    have k1 := before_at hefit.fit (hb2.fit (by omega)) h51
    have hb3 := bd_before hefit hb2
    rw [← hbs] at hb3 k1
    obtain ⟨nx, hnx⟩ : ∃ nx, bwd1 (es.drop d2) x = nx := ⟨_, rfl⟩
    rw [hnx] at hb3 k1
    have hevs := ev_same e
    have hevc := ev_cells e
    obtain ⟨ev, hevv⟩ : ∃ ev, evC e = ev := ⟨_, rfl⟩
    rw [hevv] at k1 hevs hevc ⊢
    unfold spC at g2 k1
    obtain ⟨ff, fargs, k1a, k1b⟩ := k1
    obtain ⟨f4, hf4⟩ : ∃ f4, f4 = g2 := ⟨_, rfl⟩
    obtain ⟨f6, hf6⟩ : ∃ f6, f6 = fl2 := ⟨_, rfl⟩
    clear hf4 hf6 g2 fl2
    have hk4' := f4.1
    have hk6' := f6.1
    have hG3 : G2 h3.next := (hG2 _).2 rfl
    have y7 : ExtF (fun b => b = h3.next) h51 h51 := ExtF.of (Ext.refl _)
    refine Go.block noJ_ok ?_;refine gR rfl ?_;refine gP ?_;refine gO rfl rfl (ld77 rfl f4 rfl) rfl ?_;refine GoR.call rfl rfl (aOp_invoke rfl rfl (k1a)) (k1b) ?_ np;rintro _ h423 ⟨q, x423⟩;cases q;refine ⟨_, rfl, ?_⟩;replace f4 := f4.ext x423;replace f6 := f6.ext x423;replace y8 := y8.ext x423;refine GoR.store rfl rfl rfl rfl rfl rfl f4 rfl sz77 rfl rfl rfl fun h424 u424 => ?_;replace f4 := u424.has f4;replace f6 := f6.upd u424 (by omega);clear e0;apply gE;refine Go.inBlock noJ_ok ?_;exact contT2 _ _ G2 ⟨⟨d2, by omega, by rw [hnx]; exact f4, by rw [hnx]; exact hb3.more (by omega)⟩, hG2⟩ (fun b q => .inl q) (y8.upd u424 (.inl (.inl hG3))) f6
   ·rintro h50 G2 x50 hG2s ⟨⟨i2, hi2, g2, hb2⟩, hG2⟩
    have hi0 : i2 = 0 := by rw [backI_len, evl] at hi2; omega
    subst hi0;rw [List.drop_zero] at g2 hb2;rw [backI_len, evl] at hb2
    have hx50 := x50.1
    replace f2 := f2.extF x50 (by omega);replace f6 := f6.extF x50 (by omega)
    have hG3 : G h3.next := (hG _).2 (.inr rfl)
    have hG1 : G h1.next := (hG _).2 (.inl rfl)
    have z9 : ExtF (fun b => G b ∨ b = lb) hh h50 := y9.trans (fun b q => .inl (.inl (by rw [q]; exact hG3))) x50
    clear f4 e0 y9 yD2
    obtain ⟨f4, hf4⟩ : ∃ f4, f4 = g2 := ⟨_, rfl⟩
    clear hf4 g2
    have e0 : Ext h50 h50 := Ext.refl _
    obtain ⟨B, hB⟩ : ∃ B, bwd1 es x = B := ⟨_, rfl⟩
    rw [hB] at f4 hb2 hbw
    have hlt : (L.take (d + 1)).length = d + 1 := by rw [List.length_take]; omega
    have hget : (L.take (d + 1) ++ R)[d]? = some a := by
     rw [List.getElem?_append_left (by omega), List.getElem?_take_of_lt (by omega), ha]
    have hla := crsC_at hget
    have hla2 : slice? (crsC (L.take (d + 1) ++ R)) (0 + d * 2) 2 = some [.int .i64 a.1, .int .i64 a.2] := by rw [Nat.zero_add]; exact hla
    have hset := crs_set (l := L.take (d + 1) ++ R) (i := d) (by rw [List.length_append]; omega) (meetV B a)
    have hse : (L.take (d + 1) ++ R).set d (meetV B a) = L.take d ++ (meetV B a :: R) := by
     rw [List.set_append_left _ _ (by omega), List.take_add_one, ha, Option.toList_some, List.set_append_right _ _ (by rw [List.length_take]; omega)];rw [show d - (L.take d).length = 0 by rw [List.length_take]; omega, List.append_assoc]
     rfl
    rw [hse] at hset
    have hme := fun h => meet_ok (a := B) (b := a) (h := h)
    have hbm := bd_meet hb2 (hba.more (show 60 ≤ 60 + 6 * j + es.length by omega))
    obtain ⟨M, hM⟩ : ∃ M, meetV B a = M := ⟨_, rfl⟩
    rw [hM] at hset hme hbm hbw
    have hInd : Nat.blt d 9 = true := Nat.ble_eq_true_of_le (by omega)
    unfold spC at f4 hset hme
    have y7 : ExtF (fun b => b = h1.next ∨ b = h3.next) h50 h50 := ExtF.of (Ext.refl _)
    have hq2 := f2.1
    have hq4 := f4.1
    have hq6 := f6.1
    refine Go.inBlock noJ_ok ?_;apply gS;refine Go.drawnE plan79_0 ?_;refine gQ rfl rfl (ld77 rfl f4 rfl) rfl ?_;refine gQ rfl rfl rfl rfl ?_;refine gQ rfl rfl (aOp_indexAddrArr (i := d) Try.underlying99 sz77 rfl rfl hInd) rfl ?_;refine gQ rfl rfl (ld77 rfl f2 hla2) rfl ?_;refine GoE.call rfl rfl (aCF aFunc90 rfl) (hme _) (dD 15 3 (dD 15 2 (dD 15 1 (dD 15 0 rfl)))) ?_ np;rintro v423 h423 ⟨q, x423⟩;cases q;replace f2 := f2.ext x423;replace f6 := f6.ext x423;replace f4 := f4.ext x423;replace y7 := y7.ext x423;refine ⟨recheck_nil, _, rfl, ?_⟩;refine GoE.store rfl rfl rfl rfl rfl rfl rfl f4 rfl sz77 rfl rfl rfl fun h424 u424 => ?_;replace f2 := f2.upd u424 (by omega);replace f6 := f6.upd u424 (by omega);replace f4 := u424.has f4;clear e0;replace y7 := y7.upd u424 (by omega);refine ⟨recheck_nil, ?_⟩;refine GoE.end rfl ?_;refine gR rfl ?_;refine gP ?_;refine gO rfl rfl (ld77 rfl f4 rfl) rfl ?_;refine gO rfl rfl (aOp_indexAddrArr (i := d) Try.underlying99 sz77 rfl rfl hInd) rfl ?_;refine GoR.store rfl rfl rfl rfl rfl rfl f2 rfl sz77 rfl rfl hset fun h425 u425 => ?_;replace f2 := u425.has f2;replace f6 := f6.upd u425 (by omega);replace f4 := f4.upd u425 (by omega);replace y7 := y7.upd u425 (by omega);apply gE;refine Go.inBlock noJ_ok ?_;refine contT _ _ G ⟨⟨d, by omega, by rw [hbw]; exact f2, by rw [hbw]; exact f4, by rw [hbw]; exact hbm.more (by omega)⟩, hG⟩ (fun b q => .inl q) (z9.trans (fun b q => .inl (.inl (q.elim (fun q => by rw [q]; exact hG1) (fun q => by rw [q]; exact hG3)))) y7) f6
   ·rintro c h50 G2 x50 hG2s q;exact q.elim
  ·rintro d h30 G x30 hGs hnd hd hdd ⟨⟨i, hi, g1, g2, _⟩, hG⟩
   have hi0 : i = 0 := by rw [backI_len, hssl] at hi; omega
   subst hi0;rw [List.take_zero, List.drop_zero, List.drop_zero, List.nil_append] at g1;rw [hco]
   have hx30 := x30.1
   have d1 : h1.next ≠ d := fun z => hnd ((hG _).2 (.inl z.symm))
   have e9 := eF x30
   clear e0 f2 f4 y3 GGf
   obtain ⟨f2, hf2⟩ : ∃ f2, f2 = g1 := ⟨_, rfl⟩
   clear hf2 g1
   obtain ⟨rr, hrr⟩ : ∃ rr, (bwdA E L now).1 = rr := ⟨_, rfl⟩
   have hrl : rr.length ≤ 9 := by rw [← hrr, bwdA_len (by omega)]; omega
   rw [hrr] at f2 ⊢
   show Go Try.prog _ _ _ _ (Post Try.prog 79 _ fun en h' => en = .ret (.tuple [.agg (crsC rr), .bool true]) ∧ Ext h h')
   have hcl := crsC_len hrl
   have hcs := crsC_scal rr
   obtain ⟨cc, hcc⟩ : ∃ cc, crsC rr = cc := ⟨_, rfl⟩
   rw [hcc] at f2 hcl hcs ⊢
   have hs1 : Nat.beq (AVal.agg cc).cells.length 18 = true := by show Nat.beq cc.length 18 = true; rw [hcl]; rfl
   have hs3 : splice cc 0 (AVal.agg cc).cells = some cc := splice_all rfl
   have hsa : slice? cc 0 18 = some cc := slice_all hcl
   have e0 : Ext h30 h30 := Ext.refl _
   have hk2 := f2.1
   refine Go.inBlock noJ_ok ?_;apply gS;refine gR rfl ?_;refine gO rfl rfl (ld99 rfl f2 hsa) rfl ?_;refine GoR.store rfl rfl rfl rfl rfl rfl f2 rfl sz99 hs1 hcs hs3 fun h31 u31 => ?_;replace hdd := hdd.upd u31 (by omega);replace g2 := g2.upd u31 (by omega);replace f2 := u31.has f2;replace e9 := e9.upd u31 (by omega);clear e0;refine gP ?_;apply gE;exact Go.retC hdd fun h9 u9 => ⟨aResult_of Try.func79 rfl (aResults_c rfl (f2.upd u9 d1) (inCells_agg ag99 sz99 hsa) rfl), rfl, e9.upd u9 (by omega)⟩
  ·rintro c d h30 G x30 hGs hnd hd hdd q;exact q.elim
end Go.Proofs.Yteibheeleeengaa

set_option linter.unusedSimpArgs false
namespace Go.AbsE
open Go
section
variable {P : Program}
theorem Go.loopKeepD {fn nn : Nat} {dk : Bool} {rd : Option Nat} {rst : List AFr} {k : List AItem} {Q : AM → Prop} {α : Type} (L : α → List (Nat × AVal)) (I : Nat → α → List ADef → AH → Prop) {x : Code} {t : Tr AVal} {h : AH} {n : Nat} {ds : List ADef} (a : α) (k0 : keepOk t (L a)) (h0 : I n a ds h)
  (step : ∀ n a ds h, I n a ds h → (∀ m a' ds' t' h', m < n → keepOk t' (L a') → I m a' ds' h' → Go P ⟨fn, nn, ds', dk, rd, rst⟩ (.inLoop x :: k) t' h' Q) → Go P ⟨fn, nn, ds, dk, rd, rst⟩ (.code x :: .inLoop x :: k) (keepT (L a)) h Q) : Go P ⟨fn, nn, ds, dk, rd, rst⟩ (.code (.loop x) :: k) t h Q := by
 refine Go.keep (L a) k0 ?_
 refine Go.loop noJ_ok ?_
 have key : ∀ n a ds h, I n a ds h → Go P ⟨fn, nn, ds, dk, rd, rst⟩ (.code x :: .inLoop x :: k) (keepT (L a)) h Q := by
  intro n
  induction n using Nat.strongRecOn with
  | ind n ih =>
   intro a ds h hI
   refine step n a ds h hI fun m a' ds' t' h' hm hk hI' => ?_
   exact Go.inLoop noJ_ok (Go.keep (L a') hk (ih m hm a' ds' h' hI'))
 exact key n a ds h h0
theorem FLeft.collects {f n : Nat} {ds : List ADef} {dk : Bool} {rd : Option Nat} {rest : List AFr} {t : Tr AVal} {Q : AM → Prop} {mode : AMode} (hm : mode ≠ .run) : ∀ {bs : List Nat} {h : AH}, bs.Nodup → (∀ b, b ∈ bs → Has h b (.deferred (some []))) →
  (∀ h', h'.next = h.next → (∀ b, b ∉ bs → h'.get b = h.get b) → FLeft P ⟨f, n, ds, dk, rd, rest⟩ mode t h' Q) → FLeft P ⟨f, n, bs.map .collected ++ ds, dk, rd, rest⟩ mode t h Q
 | [], h, _, _, g => g h rfl fun _ _ => rfl
 | b :: bs, h, nd, hb, g => by
  have nd' := List.nodup_cons.1 nd
  refine FLeft.collected hm (hb b List.mem_cons_self) fun h1 u => ?_
  refine FLeft.collects hm nd'.2 (fun b' hb' => (hb b' (List.mem_cons_of_mem _ hb')).upd u (fun z => nd'.1 (z ▸ hb'))) fun h' e1 e2 => ?_
  exact g h' (e1.trans u.1) fun b' hb' => by
   rw [e2 b' (fun z => hb' (List.mem_cons_of_mem _ z)), u.2.2 b' (fun z => hb' (z ▸ List.mem_cons_self))]
theorem Go.retCs {fn n : Nat} {bs : List Nat} {rst : List AFr} {k : List AItem} {t : Tr AVal} {h : AH} {R : AEnd → AH → Prop} {v : AVal} (nd : bs.Nodup) (hd : ∀ b, b ∈ bs → Has h b (.deferred (some [])))
  (hv : ∀ h', h'.next = h.next → (∀ b, b ∉ bs → h'.get b = h.get b) → aResult P h' fn t = some v ∧ R (.ret v) h') : Go P ⟨fn, n, bs.map .collected, false, none, rst⟩ (.code .ret :: k) t h (Post P fn rst R) := by
 rw [← List.append_nil (bs.map ADef.collected)]
 exact Go.retL (FLeft.collects (fun q => by cases q) nd hd fun h' a b => FLeft.ret (hv h' a b).1 (hv h' a b).2)
theorem FLeft.panCs {fn n : Nat} {bs : List Nat} {rst : List AFr} {t : Tr AVal} {h : AH} {R : AEnd → AH → Prop} {chain : List AEntry} (nd : bs.Nodup) (hd : ∀ b, b ∈ bs → Has h b (.deferred (some [])))
  (hv : ∀ h', h'.next = h.next → (∀ b, b ∉ bs → h'.get b = h.get b) → R (.pan chain) h') : FLeft P ⟨fn, n, bs.map .collected, false, none, rst⟩ (.panicking chain) t h (Post P fn rst R) := by
 rw [← List.append_nil (bs.map ADef.collected)]
 exact FLeft.collects (fun q => by cases q) nd hd fun h' a b => FLeft.pan (hv h' a b)
structure Coll (h : AH) (lo : Nat) (bs : List Nat) : Prop where
 nd : bs.Nodup
 hs : ∀ b, b ∈ bs → lo ≤ b ∧ Has h b (.deferred (some []))
theorem Coll.nil {h : AH} {lo : Nat} : Coll h lo [] := ⟨List.nodup_nil, fun b q => by cases q⟩
theorem Coll.keep {h h' : AH} {lo : Nat} {bs : List Nat} (k : Coll h lo bs) (n : h.next ≤ h'.next) (e : ∀ b, lo ≤ b → b < h.next → b ∈ bs → h'.get b = h.get b) : Coll h' lo bs :=
 ⟨k.nd, fun b q => ⟨(k.hs b q).1, (k.hs b q).2.keep n (e b (k.hs b q).1 (k.hs b q).2.1 q)⟩⟩
theorem Coll.ext {h h' : AH} {lo : Nat} {bs : List Nat} (k : Coll h lo bs) (e : Ext h h') : Coll h' lo bs := k.keep e.1 fun b _ hb _ => e.2 b hb
theorem Coll.cons {h : AH} {lo d : Nat} {bs : List Nat} (k : Coll h lo bs) (hl : lo ≤ d) (hd : Has h d (.deferred (some []))) (hn : d ∉ bs) : Coll h lo (d :: bs) :=
 ⟨List.nodup_cons.2 ⟨hn, k.nd⟩, fun b q => by
  rcases List.mem_cons.1 q with rfl | q
  ·exact ⟨hl, hd⟩
  ·exact k.hs b q⟩
end
end Go.AbsE
