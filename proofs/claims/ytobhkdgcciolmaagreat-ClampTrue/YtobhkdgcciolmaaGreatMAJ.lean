import Derived.Test.YtobhkdgcciolmaaGreatMAI
import Derived.Test.YtobhkdgcciolmaaGreatMAG
import Derived.Test.YtobhkdgcciolmaaGreatMAH
import Derived.KernelRfl
set_option linter.unusedSimpArgs false
namespace Go.AbsE
open Go
section
variable {P : Program}
def IterP (P : Program) (g : FuncId) (first cap : List AVal) (items : List (List AVal)) (A : AH → Prop) : Prop :=
 ∀ (y : AVal) (J E : Nat → AH → Prop) (h : AH), y.cells = [y] → scalars [y] = true → (∀ k h, J k h → A h) →
  (∀ (k : Nat) item h, items[k]? = some item → J k h → ∃ x, callY P y [.agg item] h = some x ∧ (∀ v h', x ≠ .val v h') ∧ Does P x (fun en h' => (en = .ret (.bool true) ∧ J (k + 1) h') ∨ (en = .ret (.bool false) ∧ E k h'))) →
  J 0 h → Runs P g (first ++ [y] ++ cap) h (fun en h' => en = .ret (.tuple []) ∧ (J items.length h' ∨ ∃ k, k < items.length ∧ E k h'))
theorem IterP.iter {g : FuncId} {first cap : List AVal} {items : List (List AVal)} {A : AH → Prop} (k : IterP P g first cap items A) : Iter P g first cap items A := by
 intro y base S J E h hyc hys hA hb T j0
 obtain ⟨fr, hfr, hr⟩ := k y (fun n h' => ExtF S h h' ∧ J n h') (fun n h' => ExtF S h h' ∧ E n h') h hyc hys (fun _ h' q => hA h' q.1) (fun n item h' hit q => by
  obtain ⟨x, c1, c2, c3⟩ := T.take hit q.2
  refine ⟨x, c1, c2, c3.mono fun en h'' r => ?_⟩
  have x2 : ExtF S h h'' := q.1.trans (fun _ w => .inl w) r.1
  exact r.2.elim (fun r => .inl ⟨r.1, x2, r.2⟩) (fun r => .inr ⟨r.1, x2, r.2⟩)) ⟨ExtF.of (Ext.refl _), j0⟩
 exact Runs.mono ⟨fr, hfr, hr⟩ fun en h' q => ⟨q.1, q.2.elim (fun r => r.1) (fun ⟨_, _, r⟩ => r.1), q.2.elim (fun r => .inl r.2) (fun ⟨m, hm, r⟩ => .inr ⟨m, hm, r.2⟩)⟩
end
end Go.AbsE

set_option linter.unusedSimpArgs false
namespace Go.AbsE
open Go
section
variable {P : Program}
theorem Takes.keep {base : Nat} {y : AVal} {items : List (List AVal)} {J E : Nat → AH → (Nat → Prop) → Prop} (T : Takes P base y items J E) {k : Nat} {h h' : AH} {F : Nat → Prop} (j : J k h F) (hn : h.next ≤ h'.next) (he : ∀ b, b < h.next → (b < base ∨ F b) → h'.get b = h.get b) : J k h' F := T.keepJ j hn he
theorem Takes.shift {base : Nat} {y : AVal} {items sub : List (List AVal)} {J E : Nat → AH → (Nat → Prop) → Prop} (T : Takes P base y items J E) (o : Nat) (hs : ∀ (n : Nat) v, sub[n]? = some v → items[o + n]? = some v) :
  Takes P base y sub (fun n => J (o + n)) (fun n => E (o + n)) where
 ltJ := fun j => T.ltJ j
 keepJ := fun j => T.keepJ j
 ltE := fun j => T.ltE j
 keepE := fun j => T.keepE j
 take := fun h j => T.take (hs _ _ h) j
def IterFR (F : Nat → Prop) (J E : Nat → AH → (Nat → Prop) → Prop) (n : Nat) (h : AH) (en : AEnd) (h' : AH) : Prop := en = .ret (.tuple []) ∧ ExtF F h h' ∧ ∃ F', (∀ b, F' b → F b ∨ h.next ≤ b) ∧ (J n h' F' ∨ ∃ k, k < n ∧ E k h' F')
def IterF (P : Program) (g : FuncId) (first cap : List AVal) (items : List (List AVal)) (A : AH → Prop) : Prop :=
 ∀ (y : AVal) (base : Nat) (J E : Nat → AH → (Nat → Prop) → Prop) (h : AH) (F : Nat → Prop), y.cells = [y] → scalars [y] = true → (∀ h', ExtF F h h' → A h') → base ≤ h.next → Takes P base y items J E → J 0 h F → Runs P g (first ++ [y] ++ cap) h (IterFR F J E items.length h)
theorem IterF.mono {g : FuncId} {first cap : List AVal} {items : List (List AVal)} {A A' : AH → Prop} (k : IterF P g first cap items A) (hA : ∀ h, A' h → A h) : IterF P g first cap items A' :=
 fun y base J E h F hyc hys hA' => k y base J E h F hyc hys fun h' x => hA h' (hA' h' x)
end
end Go.AbsE

set_option linter.unusedSimpArgs false
namespace Go.AbsE
open Go
section
variable {P : Program}
structure TakesN (P : Program) (base : Nat) (y : AVal) (items : List (List AVal)) (J E : Nat → AH → (Nat → Prop) → Prop) : Prop where
 ltJ : ∀ {k h F b}, J k h F → F b → b < h.next
 keepJ : ∀ {k h F h'}, J k h F → h.next ≤ h'.next → (∀ b, b < h.next → (b < base ∨ F b) → h'.get b = h.get b) → J k h' F
 ltE : ∀ {k h F b}, E k h F → F b → b < h.next
 keepE : ∀ {k h F h'}, E k h F → h.next ≤ h'.next → (∀ b, b < h.next → (b < base ∨ F b) → h'.get b = h.get b) → E k h' F
 take : ∀ {k item h F}, items[k]? = some item → J k h F → ∃ x, callY P y item h = some x ∧ (∀ v h', x ≠ .val v h') ∧
  Does P x (fun en h' => ExtF F h h' ∧ ∃ F', (∀ b, F' b → F b ∨ h.next ≤ b) ∧ ((en = .ret (.bool true) ∧ J (k + 1) h' F') ∨ (en = .ret (.bool false) ∧ E k h' F')))
theorem TakesN.ext {base : Nat} {y : AVal} {items : List (List AVal)} {J E : Nat → AH → (Nat → Prop) → Prop} (T : TakesN P base y items J E) {k : Nat} {h h' : AH} {F : Nat → Prop} (j : J k h F) (e : Ext h h') : J k h' F := T.keepJ j e.1 fun b hb _ => e.2 b hb
theorem TakesN.keep {base : Nat} {y : AVal} {items : List (List AVal)} {J E : Nat → AH → (Nat → Prop) → Prop} (T : TakesN P base y items J E) {k : Nat} {h h' : AH} {F : Nat → Prop} (j : J k h F) (hn : h.next ≤ h'.next) (he : ∀ b, b < h.next → (b < base ∨ F b) → h'.get b = h.get b) : J k h' F := T.keepJ j hn he
theorem TakesN.shift {base : Nat} {y : AVal} {items sub : List (List AVal)} {J E : Nat → AH → (Nat → Prop) → Prop} (T : TakesN P base y items J E) (o : Nat) (hs : ∀ (n : Nat) v, sub[n]? = some v → items[o + n]? = some v) :
  TakesN P base y sub (fun n => J (o + n)) (fun n => E (o + n)) where
 ltJ := fun j => T.ltJ j
 keepJ := fun j => T.keepJ j
 ltE := fun j => T.ltE j
 keepE := fun j => T.keepE j
 take := fun h j => T.take (hs _ _ h) j
def IterN (P : Program) (g : FuncId) (first cap : List AVal) (items : List (List AVal)) (A : AH → Prop) : Prop :=
 ∀ (y : AVal) (base : Nat) (J E : Nat → AH → (Nat → Prop) → Prop) (h : AH) (F : Nat → Prop), y.cells = [y] → scalars [y] = true → (∀ h', ExtF F h h' → A h') → base ≤ h.next → TakesN P base y items J E → J 0 h F → Runs P g (first ++ [y] ++ cap) h (IterFR F J E items.length h)
theorem IterN.mono {g : FuncId} {first cap : List AVal} {items : List (List AVal)} {A A' : AH → Prop} (k : IterN P g first cap items A) (hA : ∀ h, A' h → A h) : IterN P g first cap items A' :=
 fun y base J E h F hyc hys hA' => k y base J E h F hyc hys fun h' x => hA h' (hA' h' x)
theorem Go.rangeN {fn n : Nat} {ds : List ADef} {dk : Bool} {rst : List AFr} {k : List AItem} {Q : AM → Prop} {t : Tr AVal} {h : AH} {x : Operand} {params : Array Tmp} {assign body : Code} {g : FuncId} {gf fnr : Func} {first cap : List AVal}
  {items : List (List AVal)} {A : AH → Prop} (F0 : Nat → Prop) (Inv : Nat → AH → (Nat → Prop) → Prop) (Fin : Code → AH → (Nat → Prop) → Prop)
  (hx : ev t x = some (.func (.func g) first cap)) (hg : aFunc P g = some gf) (hfn : P.funcs[fn]? = some fnr) (it : IterN P g first cap items A)
  (hA : ∀ h', ExtF F0 h h' → A h') (hI : Inv 0 h F0)
  (lI : ∀ k hh F b, Inv k hh F → F b → b < hh.next) (lF : ∀ c hh F b, Fin c hh F → F b → b < hh.next)
  (kI : ∀ k h1 h2 F, Inv k h1 F → h1.next ≤ h2.next → (∀ b, b < h1.next → (b < h.next ∨ F b) → h2.get b = h1.get b) → Inv k h2 F)
  (kF : ∀ c h1 h2 F, Fin c h1 F → h1.next ≤ h2.next → (∀ b, b < h1.next → (b < h.next ∨ F b) → h2.get b = h1.get b) → Fin c h2 F)
  (bd : ∀ (j : Nat) item, items[j]? = some item → ∃ t1, putArgs t n params.toList item = some t1 ∧ ∀ (hh : AH) (F : Nat → Prop) (lb : Nat) (r0 : ALoop) (fr : AFr) (rest : List AFr) (Q' : AM → Prop), Inv j hh F → ExtF F0 h hh → (∀ b, F b → F0 b ∨ h.next ≤ b) → ¬ F lb → h.next ≤ lb → Has hh lb (.loop r0) → r0.state = .ready →
   (∀ tt h' F', Inv (j + 1) h' F' → (∀ b, F' b → F b ∨ hh.next ≤ b) → ExtF (fun b => F b ∨ b = lb) hh h' → Has h' lb (.loop { r0 with state := .busy }) → Go P ⟨fn, n, [], false, some lb, fr :: rest⟩ [] tt h' Q') →
   (∀ c tt h' kk F', (c = .ret ∨ ∃ id, c = .exit id ∧ exitA id kk = none) → Fin c h' F' → (∀ b, F' b → F b ∨ hh.next ≤ b) → ExtF (fun b => F b ∨ b = lb) hh h' → Has h' lb (.loop { r0 with state := .busy }) → Go P ⟨fn, n, [], false, some lb, fr :: rest⟩ (.code c :: kk) tt h' Q') →
   Go P ⟨fn, n, [], false, some lb, fr :: rest⟩ [.code assign, .beginRound, .code body] t1 hh Q')
  (nx : ∀ d h3 F, ExtF F0 h h3 → (∀ b, F b → F0 b ∨ h.next ≤ b) → ¬ F d → h.next ≤ d → Has h3 d (.deferred (some [])) → Inv items.length h3 F → Go P ⟨fn, n, .collected d :: ds, dk, none, rst⟩ k t h3 Q)
  (fx : ∀ c d h3 F, ExtF F0 h h3 → (∀ b, F b → F0 b ∨ h.next ≤ b) → ¬ F d → h.next ≤ d → Has h3 d (.deferred (some [])) → Fin c h3 F → Go P ⟨fn, n, .collected d :: ds, dk, none, rst⟩ (.code c :: k) t h3 Q) :
  Go P ⟨fn, n, ds, dk, none, rst⟩ (.code (.rangeFunc x params assign body) :: k) t h Q := by
 refine Go.rangeFunc hx hg fun d lb h2 hd hlb e2 fd fl => ?_
 obtain ⟨r0, hr0, fl⟩ : ∃ r0 : ALoop, r0 = _ ∧ Has h2 lb (.loop r0) := ⟨_, rfl, fl⟩
 have n2 := e2.1
 have nl := fl.1
 have nd := fd.1
 have hF0 : ∀ b, F0 b → b < h.next := fun b q => lI _ _ _ _ hI q
 let Agree : AH → Prop := fun hh => h2.next ≤ hh.next ∧ ∀ b, b < h2.next → ¬ F0 b → b ≠ lb → hh.get b = h2.get b
 let Sub : (Nat → Prop) → Prop := fun F => ∀ b, F b → F0 b ∨ h2.next ≤ b
 let J : Nat → AH → (Nat → Prop) → Prop := fun j hh G => ∃ F, (∀ b, G b ↔ (F b ∨ b = lb)) ∧ Sub F ∧ Inv j hh F ∧ Agree hh ∧ Has hh lb (.loop r0)
 let E : Nat → AH → (Nat → Prop) → Prop := fun j hh G => ∃ F, (∀ b, G b ↔ (F b ∨ b = lb)) ∧ Sub F ∧ ∃ c, Fin c hh F ∧ Agree hh ∧ Has hh lb (.loop { r0 with state := .done, pending := some c })
 have hsub : ∀ {hh}, Agree hh → ExtF F0 h hh := fun {hh} a => ⟨by have := a.1; omega, fun b hb hn => by rw [a.2 b (by omega) hn (by omega), e2.2 b hb]⟩
 have hd' : ∀ {hh}, Agree hh → Has hh d (.deferred (some [])) := fun {hh} a => ⟨by have := a.1; omega, by rw [a.2 d nd (fun q => by have := hF0 d q; omega) (by omega)]; exact fd.2⟩
 have agU : ∀ {h1 h3 : AH} {o : ABlk}, Agree h1 → Upd h1 lb o h3 → Agree h3 := fun a u => ⟨by rw [u.1]; exact a.1, fun b hb h1 h2 => by rw [u.2.2 b h2]; exact a.2 b hb h1 h2⟩
 have low : ∀ {F}, Sub F → ∀ b, F b → F0 b ∨ h.next ≤ b := fun s b q => (s b q).elim .inl fun q => .inr (by omega)
 have nlb : ∀ {F}, Sub F → ¬ F lb := fun s q => (s lb q).elim (fun q => by have := hF0 _ q; omega) fun q => by omega
 have nd' : ∀ {F}, Sub F → ¬ F d := fun s q => (s d q).elim (fun q => by have := hF0 _ q; omega) fun q => by omega
 have tk : TakesN P h2.next (.yield lb) items J E := by
  refine ⟨?_, ?_, ?_, ?_, ?_⟩
  ·rintro j hh G b ⟨F, hG, s, i, a, f⟩ q
   rcases (hG b).1 q with q | rfl
   ·exact lI _ _ _ _ i q
   ·exact f.1
  ·rintro j hh G h' ⟨F, hG, s, i, a, f⟩ hn he
   have := a.1
   refine ⟨F, hG, s, kI _ _ _ _ i hn fun b hb q => he b hb (q.elim (fun q => .inl (by omega)) fun q => .inr ((hG b).2 (.inl q))), ⟨by omega, fun b hb h1 h2' => by rw [he b (by omega) (.inl hb)]; exact a.2 b hb h1 h2'⟩, ⟨by have := f.1; omega, by rw [he lb f.1 (.inr ((hG lb).2 (.inr rfl)))]; exact f.2⟩⟩
  ·rintro j hh G b ⟨F, hG, s, c, i, a, f⟩ q
   rcases (hG b).1 q with q | rfl
   ·exact lF _ _ _ _ i q
   ·exact f.1
  ·rintro j hh G h' ⟨F, hG, s, c, i, a, f⟩ hn he
   have := a.1
   refine ⟨F, hG, s, c, kF _ _ _ _ i hn fun b hb q => he b hb (q.elim (fun q => .inl (by omega)) fun q => .inr ((hG b).2 (.inl q))), ⟨by omega, fun b hb h1 h2' => by rw [he b (by omega) (.inl hb)]; exact a.2 b hb h1 h2'⟩, ⟨by have := f.1; omega, by rw [he lb f.1 (.inr ((hG lb).2 (.inr rfl)))]; exact f.2⟩⟩
  ·rintro j item hh G hit ⟨F, hG, s, i, a, f⟩
   obtain ⟨t1, p1, p2⟩ := bd j item hit
   refine ⟨_, rfl, (fun _ _ q => by cases q), ?_⟩
   subst hr0
   refine Does.round f p1 hfn fun fr rest Q' hr hpn => ?_
   have hGx : ∀ {h'}, ExtF (fun b => F b ∨ b = lb) hh h' → ExtF G hh h' := fun x' => ⟨x'.1, fun b hb hn => x'.2 b hb fun q => hn ((hG b).2 q)⟩
   have hlt2 : h2.next ≤ hh.next := a.1
   have ag : ∀ {h'}, ExtF (fun b => F b ∨ b = lb) hh h' → Agree h' := fun x' => ⟨by have := a.1; have := x'.1; omega, fun b hb h1 h2' => by
    rw [x'.2 b (by have := a.1; omega) (fun q => q.elim (fun q => (s b q).elim h1 fun q => by omega) h2')]
    exact a.2 b hb h1 h2'⟩
   have sub' : ∀ {F' : Nat → Prop}, (∀ b, F' b → F b ∨ hh.next ≤ b) → Sub F' := fun q b hb => (q b hb).elim (s b) fun q => .inr (by omega)
   have upx : ∀ {h' h''} {o : ABlk}, ExtF (fun b => F b ∨ b = lb) hh h' → Upd h' lb o h'' → ExtF (fun b => F b ∨ b = lb) hh h'' := fun x' u => ⟨by rw [u.1]; exact x'.1, fun b hb hn => by rw [u.2.2 b (fun q => hn (.inr q))]; exact x'.2 b hb hn⟩
   have own : ∀ {F' : Nat → Prop}, (∀ b, F' b → F b ∨ hh.next ≤ b) → ∀ b, (F' b ∨ b = lb) → G b ∨ hh.next ≤ b := fun q b z => z.elim (fun z => (q b z).elim (fun z => .inl ((hG b).2 (.inl z))) .inr) fun z => .inl ((hG b).2 (.inr z))
   refine p2 hh F lb _ fr rest Q' i (hsub a) (low s) (nlb s) (by omega) f rfl ?_ ?_
   ·intro tt h' F' i' so x' f'
    refine Go.roundEnd f' fun h'' u => ?_
    refine hr (.bool true) h'' ⟨hGx (upx x' u), fun b => F' b ∨ b = lb, own so, .inl ⟨rfl, F', fun b => Iff.rfl, sub' so, kI _ _ _ _ i' (by rw [u.1]; exact Nat.le_refl _) (fun b hb q => u.2.2 b (fun z => by subst z; exact q.elim (fun q => by omega) (nlb (sub' so)))), agU (ag x') u, u.has f'⟩⟩
   ·intro c tt h' kk F' hc i' so x' f'
    have fin : ∀ h'', Upd h' lb (.loop { state := .done, pending := some c, fn := fn, n := n, tmps := t, params := params.toList, assign := assign, body := body, defers := d }) h'' → ∃ fr', fr.finish (.bool false) = some fr' ∧ Reach P ⟨fr' :: rest, h''⟩ Q' := by
     intro h'' u
     exact hr (.bool false) h'' ⟨hGx (upx x' u), fun b => F' b ∨ b = lb, own so, .inr ⟨rfl, F', fun b => Iff.rfl, sub' so, c, kF _ _ _ _ i' (by rw [u.1]; exact Nat.le_refl _) (fun b hb q => u.2.2 b (fun z => by subst z; exact q.elim (fun q => by omega) (nlb (sub' so)))), agU (ag x') u, u.has f'⟩⟩
    rcases hc with rfl | ⟨id, rfl, hk⟩
    ·exact Go.roundRet f' fin
    ·exact Go.roundExit f' hk fin
 have ag2 : Agree h2 := ⟨Nat.le_refl _, fun _ _ _ _ => rfl⟩
 have s0 : Sub F0 := fun b q => .inl q
 have i2 : Inv 0 h2 F0 := kI _ _ _ _ hI n2 (fun b hb _ => e2.2 b hb)
 refine ⟨IterFR (fun b => F0 b ∨ b = lb) J E items.length h2, it (.yield lb) h2.next J E h2 (fun b => F0 b ∨ b = lb) rfl rfl (fun h' x => hA h' ⟨by have := x.1; omega, fun b hb hn => by rw [x.2 b (by omega) (fun q => q.elim hn (fun q => by omega)), e2.2 b hb]⟩) (Nat.le_refl _) tk ⟨F0, fun b => Iff.rfl, s0, i2, ag2, fl⟩, (fun chain h' q => by cases q.1), ?_⟩
 rintro v h' ⟨q, x', G, hGG, j | ⟨kk, hk, j⟩⟩
 ·obtain ⟨F, hG, s, i, a, f⟩ := j
  refine ⟨r0, f, by rw [hr0]; exact (fun q => by cases q), fun h3 u => ?_⟩
  have hp : r0.pending = none := by rw [hr0]
  rw [hp]
  exact nx d h3 F (hsub (agU a u)) (low s) (nd' s) (by omega) (hd' (agU a u)) (kI _ _ _ _ i (by rw [u.1]; exact Nat.le_refl _) (fun b hb q => u.2.2 b (fun z => by subst z; exact q.elim (fun q => by omega) (nlb s))))
 ·obtain ⟨F, hG, s, c, i, a, f⟩ := j
  refine ⟨_, f, (fun q => by cases q), fun h3 u => ?_⟩
  exact fx c d h3 F (hsub (agU a u)) (low s) (nd' s) (by omega) (hd' (agU a u)) (kF _ _ _ _ i (by rw [u.1]; exact Nat.le_refl _) (fun b hb q => u.2.2 b (fun z => by subst z; exact q.elim (fun q => by omega) (nlb s))))
theorem Go.rangeFuncR {fn n l0 : Nat} {rl0 : ALoop} {ds : List ADef} {dk : Bool} {rst : List AFr} {k : List AItem} {Q : AM → Prop} {t : Tr AVal} {h : AH} {x : Operand} {params : Array Tmp} {assign body : Code} {g : FuncId} {gf : Func} {first cap : List AVal}
  (hl0 : Has h l0 (.loop rl0)) (hx : ev t x = some (.func (.func g) first cap)) (hg : aFunc P g = some gf)
  (run : ∀ l h2, h.next = l → Ext h h2 → Has h2 l (.loop ⟨.ready, none, fn, n, t, params.toList, assign, body, rl0.defers⟩) →
   ∃ R : AEnd → AH → Prop, Runs P g (first ++ [.yield l] ++ cap) h2 R ∧ (∀ chain h', ¬ R (.pan chain) h') ∧
   ∀ v h', R (.ret v) h' → ∃ r, Has h' l (.loop r) ∧ r.state ≠ .busy ∧ ∀ h3, Upd h' l (.loop { r with state := .exhausted }) h3 →
    Go P ⟨fn, n, ds, dk, some l0, rst⟩ (match r.pending with | some c => .code c :: k | none => k) t h3 Q) :
  Go P ⟨fn, n, ds, dk, some l0, rst⟩ (.code (.rangeFunc x params assign body) :: k) t h Q := by
 obtain ⟨h2, n2⟩ := new_some h (.loop ⟨.ready, none, fn, n, t, params.toList, assign, body, rl0.defers⟩)
 obtain ⟨_, e2, d2⟩ := new_ext n2
 obtain ⟨R, ⟨fr, hfr, hrun⟩, hpan, hret⟩ := run h.next h2 rfl e2 d2
 refine Go.slow noJ_ok rfl (m := ⟨fr :: ⟨fn, n, t, .inRangeFunc h.next :: k, ds, .run, dk, some l0⟩ :: rst, h2⟩) ?_ ?_
 ·show doRangeFunc P ⟨fn, n, t, .code (.rangeFunc x params assign body) :: k, ds, .run, dk, some l0⟩ rst h x params assign body k = _
  unfold doRangeFunc
  simp only [getLoop hl0, n2, hx, aInvoke, aEnter, hg, hfr, one]
  rfl
 ·refine Reach.call noJ_ok ⟨fr, hfr, hrun⟩ hfr (fun v h' q => ?_) (fun chain h' q => absurd q (hpan chain h'))
  obtain ⟨r, k1, k2, k3⟩ := hret v h' q
  refine ⟨⟨fn, n, t, .endRangeFunc h.next :: k, ds, .run, dk, some l0⟩, rfl, ?_⟩
  obtain ⟨h3, s1, s2⟩ := set_upd h' h.next (.loop { r with state := .exhausted })
  refine Go.slow (c := ⟨fn, n, ds, dk, some l0, rst⟩) noJ_ok rfl (m := ⟨⟨fn, n, t, (match r.pending with | some c => .code c :: k | none => k), ds, .run, dk, some l0⟩ :: rst, h3⟩) ?_ (k3 h3 s2)
  show doEndLoop ⟨fn, n, t, .endRangeFunc h.next :: k, ds, .run, dk, some l0⟩ rst h' h.next k = _
  unfold doEndLoop
  simp only [getLoop k1]
  cases hs : r.state with
  | busy => exact absurd hs k2
  | _ => simp only [s1]; cases r.pending <;> rfl
theorem Go.rangeNR {fn n l0 : Nat} {rl0 : ALoop} {ds : List ADef} {dk : Bool} {rst : List AFr} {k : List AItem} {Q : AM → Prop} {t : Tr AVal} {h : AH} {x : Operand} {params : Array Tmp} {assign body : Code} {g : FuncId} {gf fnr : Func} {first cap : List AVal}
  {items : List (List AVal)} {A : AH → Prop} (F0 : Nat → Prop) (Inv : Nat → AH → (Nat → Prop) → Prop) (Fin : Code → AH → (Nat → Prop) → Prop)
  (hl0 : Has h l0 (.loop rl0)) (hx : ev t x = some (.func (.func g) first cap)) (hg : aFunc P g = some gf) (hfn : P.funcs[fn]? = some fnr) (it : IterN P g first cap items A)
  (hA : ∀ h', ExtF F0 h h' → A h') (hI : Inv 0 h F0)
  (lI : ∀ k hh F b, Inv k hh F → F b → b < hh.next) (lF : ∀ c hh F b, Fin c hh F → F b → b < hh.next)
  (kI : ∀ k h1 h2 F, Inv k h1 F → h1.next ≤ h2.next → (∀ b, b < h1.next → (b < h.next ∨ F b) → h2.get b = h1.get b) → Inv k h2 F)
  (kF : ∀ c h1 h2 F, Fin c h1 F → h1.next ≤ h2.next → (∀ b, b < h1.next → (b < h.next ∨ F b) → h2.get b = h1.get b) → Fin c h2 F)
  (bd : ∀ (j : Nat) item, items[j]? = some item → ∃ t1, putArgs t n params.toList item = some t1 ∧ ∀ (hh : AH) (F : Nat → Prop) (lb : Nat) (r0 : ALoop) (fr : AFr) (rest : List AFr) (Q' : AM → Prop), Inv j hh F → ExtF F0 h hh → (∀ b, F b → F0 b ∨ h.next ≤ b) → ¬ F lb → h.next ≤ lb → Has hh lb (.loop r0) → r0.state = .ready →
   (∀ tt h' F', Inv (j + 1) h' F' → (∀ b, F' b → F b ∨ hh.next ≤ b) → ExtF (fun b => F b ∨ b = lb) hh h' → Has h' lb (.loop { r0 with state := .busy }) → Go P ⟨fn, n, [], false, some lb, fr :: rest⟩ [] tt h' Q') →
   (∀ c tt h' kk F', (c = .ret ∨ ∃ id, c = .exit id ∧ exitA id kk = none) → Fin c h' F' → (∀ b, F' b → F b ∨ hh.next ≤ b) → ExtF (fun b => F b ∨ b = lb) hh h' → Has h' lb (.loop { r0 with state := .busy }) → Go P ⟨fn, n, [], false, some lb, fr :: rest⟩ (.code c :: kk) tt h' Q') →
   Go P ⟨fn, n, [], false, some lb, fr :: rest⟩ [.code assign, .beginRound, .code body] t1 hh Q')
  (nx : ∀ h3 F, ExtF F0 h h3 → (∀ b, F b → F0 b ∨ h.next ≤ b) → Inv items.length h3 F → Go P ⟨fn, n, ds, dk, some l0, rst⟩ k t h3 Q)
  (fx : ∀ c h3 F, ExtF F0 h h3 → (∀ b, F b → F0 b ∨ h.next ≤ b) → Fin c h3 F → Go P ⟨fn, n, ds, dk, some l0, rst⟩ (.code c :: k) t h3 Q) :
  Go P ⟨fn, n, ds, dk, some l0, rst⟩ (.code (.rangeFunc x params assign body) :: k) t h Q := by
 refine Go.rangeFuncR hl0 hx hg fun lb h2 hlb e2 fl => ?_
 obtain ⟨r0, hr0, fl⟩ : ∃ r0 : ALoop, r0 = _ ∧ Has h2 lb (.loop r0) := ⟨_, rfl, fl⟩
 have n2 := e2.1
 have nl := fl.1
 have hF0 : ∀ b, F0 b → b < h.next := fun b q => lI _ _ _ _ hI q
 let Agree : AH → Prop := fun hh => h2.next ≤ hh.next ∧ ∀ b, b < h2.next → ¬ F0 b → b ≠ lb → hh.get b = h2.get b
 let Sub : (Nat → Prop) → Prop := fun F => ∀ b, F b → F0 b ∨ h2.next ≤ b
 let J : Nat → AH → (Nat → Prop) → Prop := fun j hh G => ∃ F, (∀ b, G b ↔ (F b ∨ b = lb)) ∧ Sub F ∧ Inv j hh F ∧ Agree hh ∧ Has hh lb (.loop r0)
 let E : Nat → AH → (Nat → Prop) → Prop := fun j hh G => ∃ F, (∀ b, G b ↔ (F b ∨ b = lb)) ∧ Sub F ∧ ∃ c, Fin c hh F ∧ Agree hh ∧ Has hh lb (.loop { r0 with state := .done, pending := some c })
 have hsub : ∀ {hh}, Agree hh → ExtF F0 h hh := fun {hh} a => ⟨by have := a.1; omega, fun b hb hn => by rw [a.2 b (by omega) hn (by omega), e2.2 b hb]⟩
 have agU : ∀ {h1 h3 : AH} {o : ABlk}, Agree h1 → Upd h1 lb o h3 → Agree h3 := fun a u => ⟨by rw [u.1]; exact a.1, fun b hb h1 h2 => by rw [u.2.2 b h2]; exact a.2 b hb h1 h2⟩
 have low : ∀ {F}, Sub F → ∀ b, F b → F0 b ∨ h.next ≤ b := fun s b q => (s b q).elim .inl fun q => .inr (by omega)
 have nlb : ∀ {F}, Sub F → ¬ F lb := fun s q => (s lb q).elim (fun q => by have := hF0 _ q; omega) fun q => by omega
 have tk : TakesN P h2.next (.yield lb) items J E := by
  refine ⟨?_, ?_, ?_, ?_, ?_⟩
  ·rintro j hh G b ⟨F, hG, s, i, a, f⟩ q
   rcases (hG b).1 q with q | rfl
   ·exact lI _ _ _ _ i q
   ·exact f.1
  ·rintro j hh G h' ⟨F, hG, s, i, a, f⟩ hn he
   have := a.1
   refine ⟨F, hG, s, kI _ _ _ _ i hn fun b hb q => he b hb (q.elim (fun q => .inl (by omega)) fun q => .inr ((hG b).2 (.inl q))), ⟨by omega, fun b hb h1 h2' => by rw [he b (by omega) (.inl hb)]; exact a.2 b hb h1 h2'⟩, ⟨by have := f.1; omega, by rw [he lb f.1 (.inr ((hG lb).2 (.inr rfl)))]; exact f.2⟩⟩
  ·rintro j hh G b ⟨F, hG, s, c, i, a, f⟩ q
   rcases (hG b).1 q with q | rfl
   ·exact lF _ _ _ _ i q
   ·exact f.1
  ·rintro j hh G h' ⟨F, hG, s, c, i, a, f⟩ hn he
   have := a.1
   refine ⟨F, hG, s, c, kF _ _ _ _ i hn fun b hb q => he b hb (q.elim (fun q => .inl (by omega)) fun q => .inr ((hG b).2 (.inl q))), ⟨by omega, fun b hb h1 h2' => by rw [he b (by omega) (.inl hb)]; exact a.2 b hb h1 h2'⟩, ⟨by have := f.1; omega, by rw [he lb f.1 (.inr ((hG lb).2 (.inr rfl)))]; exact f.2⟩⟩
  ·rintro j item hh G hit ⟨F, hG, s, i, a, f⟩
   obtain ⟨t1, p1, p2⟩ := bd j item hit
   refine ⟨_, rfl, (fun _ _ q => by cases q), ?_⟩
   subst hr0
   refine Does.round f p1 hfn fun fr rest Q' hr hpn => ?_
   have hGx : ∀ {h'}, ExtF (fun b => F b ∨ b = lb) hh h' → ExtF G hh h' := fun x' => ⟨x'.1, fun b hb hn => x'.2 b hb fun q => hn ((hG b).2 q)⟩
   have hlt2 : h2.next ≤ hh.next := a.1
   have ag : ∀ {h'}, ExtF (fun b => F b ∨ b = lb) hh h' → Agree h' := fun x' => ⟨by have := a.1; have := x'.1; omega, fun b hb h1 h2' => by
    rw [x'.2 b (by have := a.1; omega) (fun q => q.elim (fun q => (s b q).elim h1 fun q => by omega) h2')]
    exact a.2 b hb h1 h2'⟩
   have sub' : ∀ {F' : Nat → Prop}, (∀ b, F' b → F b ∨ hh.next ≤ b) → Sub F' := fun q b hb => (q b hb).elim (s b) fun q => .inr (by omega)
   have upx : ∀ {h' h''} {o : ABlk}, ExtF (fun b => F b ∨ b = lb) hh h' → Upd h' lb o h'' → ExtF (fun b => F b ∨ b = lb) hh h'' := fun x' u => ⟨by rw [u.1]; exact x'.1, fun b hb hn => by rw [u.2.2 b (fun q => hn (.inr q))]; exact x'.2 b hb hn⟩
   have own : ∀ {F' : Nat → Prop}, (∀ b, F' b → F b ∨ hh.next ≤ b) → ∀ b, (F' b ∨ b = lb) → G b ∨ hh.next ≤ b := fun q b z => z.elim (fun z => (q b z).elim (fun z => .inl ((hG b).2 (.inl z))) .inr) fun z => .inl ((hG b).2 (.inr z))
   refine p2 hh F lb _ fr rest Q' i (hsub a) (low s) (nlb s) (by omega) f rfl ?_ ?_
   ·intro tt h' F' i' so x' f'
    refine Go.roundEnd f' fun h'' u => ?_
    refine hr (.bool true) h'' ⟨hGx (upx x' u), fun b => F' b ∨ b = lb, own so, .inl ⟨rfl, F', fun b => Iff.rfl, sub' so, kI _ _ _ _ i' (by rw [u.1]; exact Nat.le_refl _) (fun b hb q => u.2.2 b (fun z => by subst z; exact q.elim (fun q => by omega) (nlb (sub' so)))), agU (ag x') u, u.has f'⟩⟩
   ·intro c tt h' kk F' hc i' so x' f'
    have fin : ∀ h'', Upd h' lb (.loop { state := .done, pending := some c, fn := fn, n := n, tmps := t, params := params.toList, assign := assign, body := body, defers := rl0.defers }) h'' → ∃ fr', fr.finish (.bool false) = some fr' ∧ Reach P ⟨fr' :: rest, h''⟩ Q' := by
     intro h'' u
     exact hr (.bool false) h'' ⟨hGx (upx x' u), fun b => F' b ∨ b = lb, own so, .inr ⟨rfl, F', fun b => Iff.rfl, sub' so, c, kF _ _ _ _ i' (by rw [u.1]; exact Nat.le_refl _) (fun b hb q => u.2.2 b (fun z => by subst z; exact q.elim (fun q => by omega) (nlb (sub' so)))), agU (ag x') u, u.has f'⟩⟩
    rcases hc with rfl | ⟨id, rfl, hk⟩
    ·exact Go.roundRet f' fin
    ·exact Go.roundExit f' hk fin
 have ag2 : Agree h2 := ⟨Nat.le_refl _, fun _ _ _ _ => rfl⟩
 have s0 : Sub F0 := fun b q => .inl q
 have i2 : Inv 0 h2 F0 := kI _ _ _ _ hI n2 (fun b hb _ => e2.2 b hb)
 refine ⟨IterFR (fun b => F0 b ∨ b = lb) J E items.length h2, it (.yield lb) h2.next J E h2 (fun b => F0 b ∨ b = lb) rfl rfl (fun h' x => hA h' ⟨by have := x.1; omega, fun b hb hn => by rw [x.2 b (by omega) (fun q => q.elim hn (fun q => by omega)), e2.2 b hb]⟩) (Nat.le_refl _) tk ⟨F0, fun b => Iff.rfl, s0, i2, ag2, fl⟩, (fun chain h' q => by cases q.1), ?_⟩
 rintro v h' ⟨q, x', G, hGG, j | ⟨kk, hk, j⟩⟩
 ·obtain ⟨F, hG, s, i, a, f⟩ := j
  refine ⟨r0, f, by rw [hr0]; exact (fun q => by cases q), fun h3 u => ?_⟩
  have hp : r0.pending = none := by rw [hr0]
  rw [hp]
  exact nx h3 F (hsub (agU a u)) (low s) (kI _ _ _ _ i (by rw [u.1]; exact Nat.le_refl _) (fun b hb q => u.2.2 b (fun z => by subst z; exact q.elim (fun q => by omega) (nlb s))))
 ·obtain ⟨F, hG, s, c, i, a, f⟩ := j
  refine ⟨_, f, (fun q => by cases q), fun h3 u => ?_⟩
  exact fx c h3 F (hsub (agU a u)) (low s) (kF _ _ _ _ i (by rw [u.1]; exact Nat.le_refl _) (fun b hb q => u.2.2 b (fun z => by subst z; exact q.elim (fun q => by omega) (nlb s))))
end
end Go.AbsE

set_option linter.unusedSimpArgs false
namespace Go.AbsE
open Go
section
variable {P : Program}
structure Coll (h : AH) (lo : Nat) (bs : List Nat) : Prop where
 nd : bs.Nodup
 hs : ∀ b, b ∈ bs → lo ≤ b ∧ Has h b (.deferred (some []))
theorem Coll.nil {h : AH} {lo : Nat} : Coll h lo [] := ⟨List.nodup_nil, fun b q => by cases q⟩
theorem Coll.keep {h h' : AH} {lo : Nat} {bs : List Nat} (k : Coll h lo bs) (n : h.next ≤ h'.next) (e : ∀ b, lo ≤ b → b < h.next → b ∈ bs → h'.get b = h.get b) : Coll h' lo bs :=
 ⟨k.nd, fun b q => ⟨(k.hs b q).1, (k.hs b q).2.keep n (e b (k.hs b q).1 (k.hs b q).2.1 q)⟩⟩
theorem Coll.ext {h h' : AH} {lo : Nat} {bs : List Nat} (k : Coll h lo bs) (e : Ext h h') : Coll h' lo bs := k.keep e.1 fun b _ hb _ => e.2 b hb
theorem Coll.cons {h : AH} {lo d : Nat} {bs : List Nat} (k : Coll h lo bs) (hl : lo ≤ d) (hd : Has h d (.deferred (some []))) (hn : d ∉ bs) : Coll h lo (d :: bs) :=
 ⟨List.nodup_cons.2 ⟨hn, k.nd⟩, fun b q => by
  rcases List.mem_cons.1 q with rfl | q
  ·exact ⟨hl, hd⟩
  ·exact k.hs b q⟩
end
end Go.AbsE

namespace Go.Proofs.YtobhkdgcciolmaaGreat
open Go Go.AbsE
set_option linter.unusedSimpArgs false
set_option maxRecDepth 100000
set_option maxHeartbeats 0
set_option linter.unusedVariables false
theorem inside_ok {n a b : Int} {h : AH} : Runs Tryz.prog 88 [.int .i64 n, .int .i64 a, .int .i64 b] h (fun en h' => en = .ret (.bool (decide (a ≤ n ∧ n ≤ b))) ∧ Ext h h') := by
 have e0 : Ext h h := Ext.refl _
 refine Runs.intro aFunc88 rfl rfl rfl rfl fun rest => ?_;apply gS;refine gR rfl ?_;refine gP ?_;apply gE;apply gS;refine gR rfl ?_;iterate 2 refine gP ?_
 by_cases hs0 : (a : Int) ≤ n
 ·refine gO rfl rfl (kMT rfl rfl) rfl ?_;iterate 3 refine gP ?_
  by_cases hs1 : (n : Int) ≤ b
  ·refine gO rfl rfl (kMT rfl rfl) rfl ?_;iterate 2 refine gP ?_
   apply gE;exact gV (ret_end (aResult_of Tryz.func88 rfl rfl) ⟨ret_true (by omega), e0⟩)
  ·refine gO rfl rfl (kMF rfl rfl) rfl ?_;iterate 2 refine gP ?_
   apply gE;exact gV (ret_end (aResult_of Tryz.func88 rfl rfl) ⟨ret_false (by omega), e0⟩)
 ·refine gO rfl rfl (kMF rfl rfl) rfl ?_;refine gP ?_;iterate 3 refine GoR.skip rfl rfl rfl ?_
  iterate 2 refine gP ?_
  apply gE;exact gV (ret_end (aResult_of Tryz.func88 rfl rfl) ⟨ret_false (by omega), e0⟩)
theorem inside_is {n a b : Int} {r : Bool} (hr : decide (a ≤ n ∧ n ≤ b) = r) {h : AH} : Runs Tryz.prog 88 [.int .i64 n, .int .i64 a, .int .i64 b] h (fun en h' => en = .ret (.bool r) ∧ Ext h h') := by
 rw [← hr]
 exact inside_ok
theorem within_ok {lo hi a b : Int} {h : AH} : Runs Tryz.prog 133 [.agg [.int .i64 lo, .int .i64 hi], .int .i64 a, .int .i64 b] h (fun en h' => en = .ret (.bool (decide (lo ≤ hi ∧ a ≤ lo ∧ hi ≤ b))) ∧ Ext h h') := by
 have e0 : Ext h h := Ext.refl _
 refine Runs.intro aFunc133 rfl rfl rfl rfl fun rest => ?_;apply gS;refine gR rfl ?_;refine GoR.box rfl rfl rfl rfl rfl rfl fun h0 x0 f0 => ?_;have := e0.1;replace e0 := e0.trans x0;have := f0.1;refine gP ?_;apply gE;apply gS;refine gR rfl ?_;refine gO rfl rfl (fa24_0 rfl) rfl ?_;refine gO rfl rfl (ld3 rfl f0 rfl) rfl ?_;refine gO rfl rfl (fa24_1 rfl) rfl ?_;refine gO rfl rfl (ld3 rfl f0 rfl) rfl ?_
 by_cases hs0 : (lo : Int) ≤ hi
 ·refine gO rfl rfl (kMT rfl rfl) rfl ?_;iterate 2 refine gP ?_
  refine gO rfl rfl (fa24_0 rfl) rfl ?_;refine gO rfl rfl (ld3 rfl f0 rfl) rfl ?_
  by_cases hs1 : (a : Int) ≤ lo
  ·refine gO rfl rfl (kMT rfl rfl) rfl ?_;iterate 2 refine gP ?_
   refine gO rfl rfl (fa24_1 rfl) rfl ?_;refine gO rfl rfl (ld3 rfl f0 rfl) rfl ?_;refine gP ?_
   by_cases hs2 : (hi : Int) ≤ b
   ·refine gO rfl rfl (kMT rfl rfl) rfl ?_;iterate 2 refine gP ?_
    apply gE;exact gV (ret_end (aResult_of Tryz.func133 rfl rfl) ⟨ret_true (by omega), e0⟩)
   ·refine gO rfl rfl (kMF rfl rfl) rfl ?_;iterate 2 refine gP ?_
    apply gE;exact gV (ret_end (aResult_of Tryz.func133 rfl rfl) ⟨ret_false (by omega), e0⟩)
  ·refine gO rfl rfl (kMF rfl rfl) rfl ?_;iterate 2 refine gP ?_
   iterate 4 refine GoR.skip rfl rfl rfl ?_
   iterate 2 refine gP ?_
   apply gE;exact gV (ret_end (aResult_of Tryz.func133 rfl rfl) ⟨ret_false (by omega), e0⟩)
 ·refine gO rfl rfl (kMF rfl rfl) rfl ?_;refine gP ?_;iterate 4 refine GoR.skip rfl rfl rfl ?_
  iterate 2 refine gP ?_
  iterate 4 refine GoR.skip rfl rfl rfl ?_
  iterate 2 refine gP ?_
  apply gE;exact gV (ret_end (aResult_of Tryz.func133 rfl rfl) ⟨ret_false (by omega), e0⟩)
theorem within_is {lo hi a b : Int} {r : Bool} (hr : decide (lo ≤ hi ∧ a ≤ lo ∧ hi ≤ b) = r) {h : AH} : Runs Tryz.prog 133 [.agg [.int .i64 lo, .int .i64 hi], .int .i64 a, .int .i64 b] h (fun en h' => en = .ret (.bool r) ∧ Ext h h') := by
 rw [← hr]
 exact within_ok
theorem narrow_ok {lo hi a b w : Int} (ha : 0 ≤ a) (hb : b ≤ 100000) {h : AH} : Runs Tryz.prog 116 [.agg [.int .i64 lo, .int .i64 hi], .int .i64 a, .int .i64 b, .int .i64 w] h (fun en h' => en = .ret (.bool (decide ((lo ≤ hi ∧ a ≤ lo ∧ hi ≤ b) ∧ hi - lo ≤ w))) ∧ Ext h h') := by
 by_cases hw : lo ≤ hi ∧ a ≤ lo ∧ hi ≤ b
 ·have e0 : Ext h h := Ext.refl _
  refine Runs.intro aFunc116 rfl rfl rfl rfl fun rest => ?_;apply gS;refine gR rfl ?_;refine GoR.box rfl rfl rfl rfl rfl rfl fun h0 x0 f0 => ?_;have := e0.1;replace e0 := e0.trans x0;have := f0.1;refine gP ?_;apply gE;apply gS;refine gR rfl ?_;refine gO rfl rfl (ld24 rfl f0 rfl) rfl ?_;iterate 2 refine gP ?_
  refine GoR.call rfl rfl (aCF aFunc133 rfl) (within_is (r := true) (decide_eq_true hw)) ?_ np;rintro v1 h1 ⟨q, x1⟩;cases q;refine ⟨_, rfl, ?_⟩;replace f0 := f0.ext x1;replace e0 := e0.trans x1;refine gP ?_;refine gO rfl rfl (fa24_1 rfl) rfl ?_;refine gO rfl rfl (ld3 rfl f0 rfl) rfl ?_;refine gO rfl rfl (fa24_0 rfl) rfl ?_;refine gO rfl rfl (ld3 rfl f0 rfl) rfl ?_;refine gO rfl rfl (aS rfl rfl) rfl ?_;refine gP ?_
  by_cases hs0 : (hi - lo : Int) ≤ w
  ·refine gO rfl rfl (kMT rfl rfl) rfl ?_;iterate 2 refine gP ?_
   apply gE;exact gV (ret_end (aResult_of Tryz.func116 rfl rfl) ⟨ret_true (by omega), e0⟩)
  ·refine gO rfl rfl (kMF rfl rfl) rfl ?_;iterate 2 refine gP ?_
   apply gE;exact gV (ret_end (aResult_of Tryz.func116 rfl rfl) ⟨ret_false (by omega), e0⟩)
 ·have e0 : Ext h h := Ext.refl _
  refine Runs.intro aFunc116 rfl rfl rfl rfl fun rest => ?_;apply gS;refine gR rfl ?_;refine GoR.box rfl rfl rfl rfl rfl rfl fun h0 x0 f0 => ?_;have := e0.1;replace e0 := e0.trans x0;have := f0.1;refine gP ?_;apply gE;apply gS;refine gR rfl ?_;refine gO rfl rfl (ld24 rfl f0 rfl) rfl ?_;iterate 2 refine gP ?_
  refine GoR.call rfl rfl (aCF aFunc133 rfl) (within_is (r := false) (decide_eq_false hw)) ?_ np;rintro v1 h1 ⟨q, x1⟩;cases q;refine ⟨_, rfl, ?_⟩;replace e0 := e0.trans x1;refine gP ?_;iterate 7 refine GoR.skip rfl rfl rfl ?_
  iterate 2 refine gP ?_
  apply gE;exact gV (ret_end (aResult_of Tryz.func116 rfl rfl) ⟨ret_false (by omega), e0⟩)
theorem narrow_is {lo hi a b w : Int} (ha : 0 ≤ a) (hb : b ≤ 100000) {r : Bool} (hr : decide ((lo ≤ hi ∧ a ≤ lo ∧ hi ≤ b) ∧ hi - lo ≤ w) = r) {h : AH} : Runs Tryz.prog 116 [.agg [.int .i64 lo, .int .i64 hi], .int .i64 a, .int .i64 b, .int .i64 w] h (fun en h' => en = .ret (.bool r) ∧ Ext h h') := by
 rw [← hr]
 exact narrow_ok ha hb
theorem between_ok {a b : Int} {h : AH} : Runs Tryz.prog 127 [.int .i64 a, .int .i64 b] h (fun en h' => en = .ret (.agg [.int .i64 a, .int .i64 b]) ∧ Ext h h') := by
 have e0 : Ext h h := Ext.refl _
 refine Runs.intro aFunc127 rfl rfl rfl rfl fun rest => ?_;apply gS;refine gR rfl ?_;refine GoR.alloc rfl rfl rfl zt71 rfl rfl fun h0 x0 f0 => ?_;have := e0.1;replace e0 := e0.trans x0;have := f0.1;apply gE;apply gS;refine gR rfl ?_;iterate 2 refine gP ?_
 refine gO rfl rfl (aOp_build zt24 hu24 pl24 rfl rfl) rfl ?_;refine gO rfl rfl (aOp_build zt71 hu71 pl71 rfl rfl) rfl ?_;refine GoR.store rfl rfl rfl rfl rfl rfl f0 rfl sz71 rfl rfl rfl fun h1 u1 => ?_;replace f0 := u1.has f0;replace e0 := e0.upd u1 (by omega);apply gE;exact gV (ret_end (aResult_of Tryz.func127 rfl (aResults_cell rfl f0 (inCells_agg ag71 sz71 rfl))) ⟨rfl, e0⟩)
theorem one_ok {n : Int} {h : AH} : Runs Tryz.prog 93 [.int .i64 n] h (fun en h' => en = .ret (.agg (spC (n, n))) ∧ Ext h h') := by
 unfold spC
 have e0 : Ext h h := Ext.refl _
 refine Runs.intro aFunc93 rfl rfl rfl rfl fun rest => ?_;apply gS;refine gR rfl ?_;refine GoR.alloc rfl rfl rfl zt71 rfl rfl fun h0 x0 f0 => ?_;have := e0.1;replace e0 := e0.trans x0;have := f0.1;apply gE;apply gS;refine gR rfl ?_;iterate 2 refine gP ?_
 refine GoR.call rfl rfl (aCF aFunc127 rfl) (between_ok) ?_ np;rintro v1 h1 ⟨q, x1⟩;cases q;refine ⟨_, rfl, ?_⟩;replace f0 := f0.ext x1;replace e0 := e0.trans x1;refine GoR.store rfl rfl rfl rfl rfl rfl f0 rfl sz71 rfl rfl rfl fun h2 u2 => ?_;replace f0 := u2.has f0;replace e0 := e0.upd u2 (by omega);apply gE;exact gV (ret_end (aResult_of Tryz.func93 rfl (aResults_cell rfl f0 (inCells_agg ag71 sz71 rfl))) ⟨rfl, e0⟩)
theorem excluded_ok {h : AH} : Runs Tryz.prog 125 [] h (fun en h' => en = .ret (.agg (spC topS)) ∧ Ext h h') := by
 unfold spC topS
 have e0 : Ext h h := Ext.refl _
 refine Runs.intro aFunc125 rfl rfl rfl rfl fun rest => ?_;apply gS;refine gR rfl ?_;refine GoR.alloc rfl rfl rfl zt71 rfl rfl fun h0 x0 f0 => ?_;have := e0.1;replace e0 := e0.trans x0;have := f0.1;apply gE;apply gS;refine gR rfl ?_;refine GoR.call rfl rfl (aCF aFunc127 rfl) (between_ok) ?_ np;rintro v1 h1 ⟨q, x1⟩;cases q;refine ⟨_, rfl, ?_⟩;replace f0 := f0.ext x1;replace e0 := e0.trans x1;refine GoR.store rfl rfl rfl rfl rfl rfl f0 rfl sz71 rfl rfl rfl fun h2 u2 => ?_;replace f0 := u2.has f0;replace e0 := e0.upd u2 (by omega);apply gE;exact gV (ret_end (aResult_of Tryz.func125 rfl (aResults_cell rfl f0 (inCells_agg ag71 sz71 rfl))) ⟨rfl, e0⟩)
theorem has_ok {s : Int × Int} {n : Int} {h : AH} : Runs Tryz.prog 123 [.agg (spC s), .int .i64 n] h (fun en h' => en = .ret (.bool (hasB s n)) ∧ Ext h h') := by
 unfold spC hasB
 have e0 : Ext h h := Ext.refl _
 refine Runs.intro aFunc123 rfl rfl rfl rfl fun rest => ?_;apply gS;refine gR rfl ?_;refine GoR.box rfl rfl rfl rfl rfl rfl fun h0 x0 f0 => ?_;replace e0 := e0.trans x0;refine gP ?_;apply gE;apply gS;refine gR rfl ?_;refine gP ?_;refine gO rfl rfl (fa71_0 rfl) rfl ?_;refine gO rfl rfl (fa24_0 rfl) rfl ?_;refine gO rfl rfl (ld3 rfl f0 rfl) rfl ?_;refine gO rfl rfl (fa71_0 rfl) rfl ?_;refine gO rfl rfl (fa24_1 rfl) rfl ?_;refine gO rfl rfl (ld3 rfl f0 rfl) rfl ?_;refine GoR.call rfl rfl (aCF aFunc88 rfl) (inside_ok) ?_ np;rintro v1 h1 ⟨q, x1⟩;cases q;refine ⟨_, rfl, ?_⟩;replace e0 := e0.trans x1;refine gP ?_;apply gE;exact gW Tryz.func123 rfl rfl ⟨rfl, e0⟩
theorem joinP_min (a b : Int) : (if b < a then b else a) = min a b := by split <;> omega
theorem joinP_max (a b : Int) : (if a < b then b else a) = max a b := by split <;> omega
theorem join_ok {s t : Int × Int} {h : AH} : Runs Tryz.prog 126 [.agg (spC s), .agg (spC t)] h (fun en h' => en = .ret (.agg (spC (joinP s t))) ∧ Ext h h') := by
 unfold spC joinP
 have e0 : Ext h h := Ext.refl _
 refine Runs.intro aFunc126 rfl rfl rfl rfl fun rest => ?_;apply gS;refine gR rfl ?_;refine GoR.box rfl rfl rfl rfl rfl rfl fun h0 x0 f0 => ?_;have := e0.1;replace e0 := e0.trans x0;have := f0.1;refine GoR.box rfl rfl rfl rfl rfl rfl fun h1 x1 f1 => ?_;have := e0.1;have := f0.1;replace f0 := f0.ext x1;replace e0 := e0.trans x1;have := f1.1;refine GoR.alloc rfl rfl rfl zt71 rfl rfl fun h2 x2 f2 => ?_;have := e0.1;have := f1.1;have := f0.1;replace f1 := f1.ext x2;replace f0 := f0.ext x2;replace e0 := e0.trans x2;have := f2.1;apply gE;apply gS;refine gR rfl ?_;refine gO rfl rfl (fa71_0 rfl) rfl ?_;refine gO rfl rfl (fa24_0 rfl) rfl ?_;refine gO rfl rfl (ld3 rfl f0 rfl) rfl ?_;refine gO rfl rfl (fa71_0 rfl) rfl ?_;refine gO rfl rfl (fa24_0 rfl) rfl ?_;refine gO rfl rfl (ld3 rfl f1 rfl) rfl ?_;refine gO rfl rfl (aOp_min2 rfl rfl (joinP_min s.1 t.1)) rfl ?_;refine gO rfl rfl (fa71_0 rfl) rfl ?_;refine gO rfl rfl (fa24_1 rfl) rfl ?_;refine gO rfl rfl (ld3 rfl f0 rfl) rfl ?_;refine gO rfl rfl (fa71_0 rfl) rfl ?_;refine gO rfl rfl (fa24_1 rfl) rfl ?_;refine gO rfl rfl (ld3 rfl f1 rfl) rfl ?_;refine gO rfl rfl (aOp_max2 rfl rfl (joinP_max s.2 t.2)) rfl ?_;refine GoR.call rfl rfl (aCF aFunc127 rfl) (between_ok) ?_ np;rintro v3 h3 ⟨q, x3⟩;cases q;refine ⟨_, rfl, ?_⟩;replace f2 := f2.ext x3;replace e0 := e0.trans x3;refine GoR.store rfl rfl rfl rfl rfl rfl f2 rfl sz71 rfl rfl rfl fun h4 u4 => ?_;replace f2 := u4.has f2;replace e0 := e0.upd u4 (by omega);apply gE;exact gV (ret_end (aResult_of Tryz.func126 rfl (aResults_cell rfl f2 (inCells_agg ag71 sz71 rfl))) ⟨rfl, e0⟩)
theorem meet_ok {s t : Int × Int} {h : AH} : Runs Tryz.prog 160 [.agg (spC s), .agg (spC t)] h (fun en h' => en = .ret (.agg (spC (meetV s t))) ∧ Ext h h') := by
 unfold spC meetV
 have e0 : Ext h h := Ext.refl _
 refine Runs.intro aFunc160 rfl rfl rfl rfl fun rest => ?_;apply gS;refine gR rfl ?_;refine GoR.box rfl rfl rfl rfl rfl rfl fun h0 x0 f0 => ?_;have := e0.1;replace e0 := e0.trans x0;have := f0.1;refine GoR.box rfl rfl rfl rfl rfl rfl fun h1 x1 f1 => ?_;have := e0.1;have := f0.1;replace f0 := f0.ext x1;replace e0 := e0.trans x1;have := f1.1;refine GoR.alloc rfl rfl rfl zt71 rfl rfl fun h2 x2 f2 => ?_;have := e0.1;have := f1.1;have := f0.1;replace f1 := f1.ext x2;replace f0 := f0.ext x2;replace e0 := e0.trans x2;have := f2.1;apply gE;apply gS;refine gR rfl ?_;refine gO rfl rfl (fa71_0 rfl) rfl ?_;refine gO rfl rfl (fa24_0 rfl) rfl ?_;refine gO rfl rfl (ld3 rfl f0 rfl) rfl ?_;refine gO rfl rfl (fa71_0 rfl) rfl ?_;refine gO rfl rfl (fa24_0 rfl) rfl ?_;refine gO rfl rfl (ld3 rfl f1 rfl) rfl ?_;refine gO rfl rfl (aOp_max2 rfl rfl (joinP_max s.1 t.1)) rfl ?_;refine gO rfl rfl (fa71_0 rfl) rfl ?_;refine gO rfl rfl (fa24_1 rfl) rfl ?_;refine gO rfl rfl (ld3 rfl f0 rfl) rfl ?_;refine gO rfl rfl (fa71_0 rfl) rfl ?_;refine gO rfl rfl (fa24_1 rfl) rfl ?_;refine gO rfl rfl (ld3 rfl f1 rfl) rfl ?_;refine gO rfl rfl (aOp_min2 rfl rfl (joinP_min s.2 t.2)) rfl ?_;refine GoR.call rfl rfl (aCF aFunc127 rfl) (between_ok) ?_ np;rintro v3 h3 ⟨q, x3⟩;cases q;refine ⟨_, rfl, ?_⟩;replace f2 := f2.ext x3;replace e0 := e0.trans x3;refine GoR.store rfl rfl rfl rfl rfl rfl f2 rfl sz71 rfl rfl rfl fun h4 u4 => ?_;replace f2 := u4.has f2;replace e0 := e0.upd u4 (by omega);apply gE;exact gV (ret_end (aResult_of Tryz.func160 rfl (aResults_cell rfl f2 (inCells_agg ag71 sz71 rfl))) ⟨rfl, e0⟩)
def Small (s : Int × Int) : Prop := (-1000000000 ≤ s.1 ∧ s.1 ≤ 1000000000) ∧ (-1000000000 ≤ s.2 ∧ s.2 ≤ 1000000000)
theorem plus_ok {s t : Int × Int} (hs : Small s) (ht : Small t) {h : AH} : Runs Tryz.prog 100 [.agg (spC s), .agg (spC t)] h (fun en h' => en = .ret (.agg (spC (plusV s t))) ∧ Ext h h') := by
 unfold Small at hs ht
 unfold spC plusV
 have e0 : Ext h h := Ext.refl _
 refine Runs.intro aFunc100 rfl rfl rfl rfl fun rest => ?_;apply gS;refine gR rfl ?_;refine GoR.box rfl rfl rfl rfl rfl rfl fun h0 x0 f0 => ?_;have := e0.1;replace e0 := e0.trans x0;have := f0.1;refine GoR.box rfl rfl rfl rfl rfl rfl fun h1 x1 f1 => ?_;have := e0.1;have := f0.1;replace f0 := f0.ext x1;replace e0 := e0.trans x1;have := f1.1;refine GoR.alloc rfl rfl rfl zt71 rfl rfl fun h2 x2 f2 => ?_;have := e0.1;have := f1.1;have := f0.1;replace f1 := f1.ext x2;replace f0 := f0.ext x2;replace e0 := e0.trans x2;have := f2.1;apply gE;apply gS;refine gR rfl ?_;refine gO rfl rfl (fa71_0 rfl) rfl ?_;refine gO rfl rfl (fa24_0 rfl) rfl ?_;refine gO rfl rfl (ld3 rfl f0 rfl) rfl ?_;refine gO rfl rfl (fa71_0 rfl) rfl ?_;refine gO rfl rfl (fa24_0 rfl) rfl ?_;refine gO rfl rfl (ld3 rfl f1 rfl) rfl ?_;refine gO rfl rfl (aA rfl rfl) rfl ?_;refine gO rfl rfl (fa71_0 rfl) rfl ?_;refine gO rfl rfl (fa24_1 rfl) rfl ?_;refine gO rfl rfl (ld3 rfl f0 rfl) rfl ?_;refine gO rfl rfl (fa71_0 rfl) rfl ?_;refine gO rfl rfl (fa24_1 rfl) rfl ?_;refine gO rfl rfl (ld3 rfl f1 rfl) rfl ?_;refine gO rfl rfl (aA rfl rfl) rfl ?_;refine GoR.call rfl rfl (aCF aFunc127 rfl) (between_ok) ?_ np;rintro v3 h3 ⟨q, x3⟩;cases q;refine ⟨_, rfl, ?_⟩;replace f2 := f2.ext x3;replace e0 := e0.trans x3;refine GoR.store rfl rfl rfl rfl rfl rfl f2 rfl sz71 rfl rfl rfl fun h4 u4 => ?_;replace f2 := u4.has f2;replace e0 := e0.upd u4 (by omega);apply gE;exact gV (ret_end (aResult_of Tryz.func100 rfl (aResults_cell rfl f2 (inCells_agg ag71 sz71 rfl))) ⟨rfl, e0⟩)
theorem minus_ok {s t : Int × Int} (hs : Small s) (ht : Small t) {h : AH} : Runs Tryz.prog 97 [.agg (spC s), .agg (spC t)] h (fun en h' => en = .ret (.agg (spC (minusV s t))) ∧ Ext h h') := by
 unfold Small at hs ht
 unfold spC minusV
 have e0 : Ext h h := Ext.refl _
 refine Runs.intro aFunc97 rfl rfl rfl rfl fun rest => ?_;apply gS;refine gR rfl ?_;refine GoR.box rfl rfl rfl rfl rfl rfl fun h0 x0 f0 => ?_;have := e0.1;replace e0 := e0.trans x0;have := f0.1;refine GoR.box rfl rfl rfl rfl rfl rfl fun h1 x1 f1 => ?_;have := e0.1;have := f0.1;replace f0 := f0.ext x1;replace e0 := e0.trans x1;have := f1.1;refine GoR.alloc rfl rfl rfl zt71 rfl rfl fun h2 x2 f2 => ?_;have := e0.1;have := f1.1;have := f0.1;replace f1 := f1.ext x2;replace f0 := f0.ext x2;replace e0 := e0.trans x2;have := f2.1;apply gE;apply gS;refine gR rfl ?_;refine gO rfl rfl (fa71_0 rfl) rfl ?_;refine gO rfl rfl (fa24_0 rfl) rfl ?_;refine gO rfl rfl (ld3 rfl f0 rfl) rfl ?_;refine gO rfl rfl (fa71_0 rfl) rfl ?_;refine gO rfl rfl (fa24_1 rfl) rfl ?_;refine gO rfl rfl (ld3 rfl f1 rfl) rfl ?_;refine gO rfl rfl (aS rfl rfl) rfl ?_;refine gO rfl rfl (aOp_max2 rfl rfl (joinP_max (s.1 - t.2) 0)) rfl ?_;refine gO rfl rfl (fa71_0 rfl) rfl ?_;refine gO rfl rfl (fa24_1 rfl) rfl ?_;refine gO rfl rfl (ld3 rfl f0 rfl) rfl ?_;refine gO rfl rfl (fa71_0 rfl) rfl ?_;refine gO rfl rfl (fa24_0 rfl) rfl ?_;refine gO rfl rfl (ld3 rfl f1 rfl) rfl ?_;refine gO rfl rfl (aS rfl rfl) rfl ?_;refine GoR.call rfl rfl (aCF aFunc127 rfl) (between_ok) ?_ np;rintro v3 h3 ⟨q, x3⟩;cases q;refine ⟨_, rfl, ?_⟩;replace f2 := f2.ext x3;replace e0 := e0.trans x3;refine GoR.store rfl rfl rfl rfl rfl rfl f2 rfl sz71 rfl rfl rfl fun h4 u4 => ?_;replace f2 := u4.has f2;replace e0 := e0.upd u4 (by omega);apply gE;exact gV (ret_end (aResult_of Tryz.func97 rfl (aResults_cell rfl f2 (inCells_agg ag71 sz71 rfl))) ⟨rfl, e0⟩)
theorem gone_ok {s : Int × Int} {h : AH} : Runs Tryz.prog 102 [.agg (spC s)] h (fun en h' => en = .ret (.bool (decide (s.2 = 0))) ∧ Ext h h') := by
 unfold spC
 have e0 : Ext h h := Ext.refl _
 refine Runs.intro aFunc102 rfl rfl rfl rfl fun rest => ?_;apply gS;refine gR rfl ?_;refine GoR.box rfl rfl rfl rfl rfl rfl fun h0 x0 f0 => ?_;replace e0 := e0.trans x0;refine gP ?_;apply gE;apply gS;refine gR rfl ?_;refine gO rfl rfl (fa71_0 rfl) rfl ?_;refine gO rfl rfl (fa24_1 rfl) rfl ?_;refine gO rfl rfl (ld3 rfl f0 rfl) rfl ?_;refine gO rfl rfl (aOp_eql rfl rfl rfl) rfl ?_;refine gP ?_;apply gE;exact gW Tryz.func102 rfl rfl ⟨rfl, e0⟩
theorem low_ok {s : Int × Int} {h : AH} : Runs Tryz.prog 103 [.agg (spC s)] h (fun en h' => en = .ret (.bool (decide (s.1 = 0))) ∧ Ext h h') := by
 unfold spC
 have e0 : Ext h h := Ext.refl _
 refine Runs.intro aFunc103 rfl rfl rfl rfl fun rest => ?_;apply gS;refine gR rfl ?_;refine GoR.box rfl rfl rfl rfl rfl rfl fun h0 x0 f0 => ?_;replace e0 := e0.trans x0;refine gP ?_;apply gE;apply gS;refine gR rfl ?_;refine gO rfl rfl (fa71_0 rfl) rfl ?_;refine gO rfl rfl (fa24_0 rfl) rfl ?_;refine gO rfl rfl (ld3 rfl f0 rfl) rfl ?_;refine gO rfl rfl (aOp_eql rfl rfl rfl) rfl ?_;refine gP ?_;apply gE;exact gW Tryz.func103 rfl rfl ⟨rfl, e0⟩
theorem none_ok {s : Int × Int} {h : AH} : Runs Tryz.prog 163 [.agg (spC s)] h (fun en h' => en = .ret (.bool (decide (s.1 > s.2))) ∧ Ext h h') := by
 unfold spC
 have e0 : Ext h h := Ext.refl _
 refine Runs.intro aFunc163 rfl rfl rfl rfl fun rest => ?_;apply gS;refine gR rfl ?_;refine GoR.box rfl rfl rfl rfl rfl rfl fun h0 x0 f0 => ?_;replace e0 := e0.trans x0;refine gP ?_;apply gE;apply gS;refine gR rfl ?_;refine gO rfl rfl (fa71_0 rfl) rfl ?_;refine gO rfl rfl (fa24_0 rfl) rfl ?_;refine gO rfl rfl (ld3 rfl f0 rfl) rfl ?_;refine gO rfl rfl (fa71_0 rfl) rfl ?_;refine gO rfl rfl (fa24_1 rfl) rfl ?_;refine gO rfl rfl (ld3 rfl f0 rfl) rfl ?_;refine gO rfl rfl (aOp_gtr rfl rfl rfl) rfl ?_;refine gP ?_;apply gE;exact gW Tryz.func163 rfl rfl ⟨rfl, e0⟩
def reachV (s : Int × Int) (n : Int) : Int := if n ≤ s.1 then 2 else if n ≤ s.2 then 1 else 0
theorem reaches_ok {s : Int × Int} {n : Int} {h : AH} : Runs Tryz.prog 65 [.agg (spC s), .int .i64 n] h (fun en h' => en = .ret (.int .i64 (reachV s n)) ∧ Ext h h') := by
 unfold spC
 by_cases q1 : n ≤ s.1
 ·have : reachV s n = 2 := by unfold reachV; rw [if_pos q1]
  rw [this]
  have e0 : Ext h h := Ext.refl _
  refine Runs.intro aFunc65 rfl rfl rfl rfl fun rest => ?_;apply gS;refine gR rfl ?_;refine GoR.box rfl rfl rfl rfl rfl rfl fun h0 x0 f0 => ?_;replace e0 := e0.trans x0;refine gP ?_;apply gE;apply gS;refine Go.block noJ_ok ?_;apply gS;refine gR rfl ?_;refine gO rfl rfl (fa71_0 rfl) rfl ?_;refine gO rfl rfl (fa24_0 rfl) rfl ?_;refine gO rfl rfl (ld3 rfl f0 rfl) rfl ?_;refine gP ?_;refine gO rfl rfl (kNT rfl rfl) rfl ?_;refine gP ?_;apply gE;refine gC (b := true) rfl ?_;apply gS;refine gR rfl ?_;refine gP ?_;apply gE;exact gW Tryz.func65 rfl rfl ⟨rfl, e0⟩
 ·by_cases q2 : n ≤ s.2
  ·have : reachV s n = 1 := by unfold reachV; rw [if_neg q1, if_pos q2]
   rw [this]
   have e0 : Ext h h := Ext.refl _
   refine Runs.intro aFunc65 rfl rfl rfl rfl fun rest => ?_;apply gS;refine gR rfl ?_;refine GoR.box rfl rfl rfl rfl rfl rfl fun h0 x0 f0 => ?_;replace e0 := e0.trans x0;refine gP ?_;apply gE;apply gS;refine Go.block noJ_ok ?_;apply gS;refine gR rfl ?_;refine gO rfl rfl (fa71_0 rfl) rfl ?_;refine gO rfl rfl (fa24_0 rfl) rfl ?_;refine gO rfl rfl (ld3 rfl f0 rfl) rfl ?_;refine gP ?_;refine gO rfl rfl (kNF rfl rfl) rfl ?_;refine gP ?_;apply gE;refine gC (b := false) rfl ?_;apply gS;refine gR rfl ?_;refine gO rfl rfl (fa71_0 rfl) rfl ?_;refine gO rfl rfl (fa24_1 rfl) rfl ?_;refine gO rfl rfl (ld3 rfl f0 rfl) rfl ?_;refine gP ?_;refine gO rfl rfl (kNT rfl rfl) rfl ?_;refine gP ?_;apply gE;refine gC (b := true) rfl ?_;apply gS;refine gR rfl ?_;refine gP ?_;apply gE;exact gW Tryz.func65 rfl rfl ⟨rfl, e0⟩
  ·have : reachV s n = 0 := by unfold reachV; rw [if_neg q1, if_neg q2]
   rw [this]
   have e0 : Ext h h := Ext.refl _
   refine Runs.intro aFunc65 rfl rfl rfl rfl fun rest => ?_;apply gS;refine gR rfl ?_;refine GoR.box rfl rfl rfl rfl rfl rfl fun h0 x0 f0 => ?_;replace e0 := e0.trans x0;refine gP ?_;apply gE;apply gS;refine Go.block noJ_ok ?_;apply gS;refine gR rfl ?_;refine gO rfl rfl (fa71_0 rfl) rfl ?_;refine gO rfl rfl (fa24_0 rfl) rfl ?_;refine gO rfl rfl (ld3 rfl f0 rfl) rfl ?_;refine gP ?_;refine gO rfl rfl (kNF rfl rfl) rfl ?_;refine gP ?_;apply gE;refine gC (b := false) rfl ?_;apply gS;refine gR rfl ?_;refine gO rfl rfl (fa71_0 rfl) rfl ?_;refine gO rfl rfl (fa24_1 rfl) rfl ?_;refine gO rfl rfl (ld3 rfl f0 rfl) rfl ?_;refine gP ?_;refine gO rfl rfl (kNF rfl rfl) rfl ?_;refine gP ?_;apply gE;refine gC (b := false) rfl ?_;refine gD ?_;refine Go.inBlock noJ_ok ?_;apply gS;refine gR rfl ?_;refine gP ?_;apply gE;exact gW Tryz.func65 rfl rfl ⟨rfl, e0⟩
theorem bit_int (s i : Nat) : decide (((s : Nat) : Int).fdiv (2 ^ i) % 2 = 1) = s.testBit i := by
 rw [Nat.testBit_eq_decide_div_mod_eq, Int.fdiv_eq_ediv_of_nonneg _ (Int.pow_nonneg (by omega))];rw [show ((2 : Int) ^ i) = ((2 ^ i : Nat) : Int) by simp, ← Int.natCast_ediv, show (2 : Int) = ((2 : Nat) : Int) from rfl, ← Int.natCast_emod, decide_eq_decide]
 omega
theorem in_ok {s i : Nat} (hi : i ≤ 60) {h : AH} : Runs Tryz.prog 99 [.int .i64 s, .int .i64 i] h (fun en h' => en = .ret (.bool (s.testBit i)) ∧ Ext h h') := by
 have hb := bit_int s i
 have e0 : Ext h h := Ext.refl _
 refine Runs.intro aFunc99 rfl rfl rfl rfl fun rest => ?_;apply gS;refine gR rfl ?_;refine gP ?_;apply gE;apply gS;refine gR rfl ?_;iterate 2 refine gP ?_
 refine gO rfl rfl (aOp_shr rfl rfl (by omega) rfl) rfl ?_;refine gO rfl rfl (aOp_and1 rfl rfl rfl) rfl ?_;refine gO rfl rfl (aOp_eql rfl rfl hb) rfl ?_;refine gP ?_;apply gE;exact gW Tryz.func99 rfl rfl ⟨rfl, e0⟩
def prodV (l : List Int) : Int := l.foldl (fun a n => a * n) 1
theorem product_ok {l : List Int} {s : AVal} {h : AH} (A : SliceOf h 1 s (l.map fun n => [.int .i64 n])) (hl : l.length ≤ 10) (hb : ∀ i, 0 ≤ prodV (l.take i) ∧ prodV (l.take i) ≤ 1000000000) : Runs Tryz.prog 128 [s] h (fun en h' => en = .ret (.int .i64 (prodV l)) ∧ Ext h h') := by
 have hlen := A.len
 rw [List.length_map] at hlen
 have e0 : Ext h h := Ext.refl _
 refine Runs.intro aFunc128 rfl rfl rfl rfl fun rest => ?_;apply gS;refine gR rfl ?_;refine gP ?_;apply gE;apply gS;refine gR rfl ?_;refine gP ?_;apply gE;iterate 2 apply gS
 refine gR rfl ?_;refine gP ?_;refine gO rfl rfl (aOp_lenSlice Tryz.underlying44 rfl hlen) rfl ?_;refine gP ?_;apply gE;refine Go.block noJ_ok ?_;refine Go.loopKeep (fun i : Nat => [(3, .int .i64 (prodV (l.take i))), (6, s), (7, .int .i64 l.length), (8, .int .i64 (i : Nat))]) (fun n i h' => n + i = l.length ∧ Ext h h') (n := l.length) 0 ⟨rfl, rfl, rfl, rfl, trivial⟩ ⟨rfl, e0⟩ ?_;clear e0;rintro n i hc ⟨hn, e0⟩ again
 by_cases hi : i < l.length
 ·obtain ⟨x, hx⟩ : ∃ x, l[i]? = some x := ⟨l[i], by simp [hi]⟩
  obtain ⟨b, off, q1, q2⟩ := (A.ext e0).at (i := i) (l := [.int .i64 x]) (by rw [List.getElem?_map, hx]; rfl)
  rw [List.length_map] at q1
  have hj : prodV (l.take (i + 1)) = prodV (l.take i) * x := by unfold prodV; rw [List.take_add_one, hx]; simp
  have hb1 := hb (i + 1)
  rw [hj] at hb1
  have e9 : Ext hc hc := Ext.refl _
  obtain ⟨w, hw⟩ : ∃ w, prodV (l.take i) = w := ⟨_, rfl⟩
  rw [hw] at hj hb1 ⊢;apply gS;refine gR rfl ?_;refine gO rfl rfl (kLT rfl rfl) rfl ?_;apply gE;apply gS;refine gC (b := true) rfl ?_;refine gD ?_;apply gS;refine Go.block noJ_ok ?_;apply gS;refine gR rfl ?_;refine gO rfl rfl (aOp_indexAddr (i := i) Tryz.underlying44 sz3 rfl q1 rfl (Nat.ble_eq_true_of_le hi)) rfl ?_;refine gO rfl rfl ((aOp_loadE1 (k := 0) ag3 rfl (q2.ext e9) rfl)) rfl ?_;refine gP ?_;apply gE;refine gR rfl ?_;iterate 2 refine gP ?_
  refine gO rfl rfl (aOp_mul rfl rfl rfl (by omega)) rfl ?_;refine gP ?_;apply gE;refine Go.inBlock noJ_ok ?_;refine gR rfl ?_;refine gO rfl rfl (aA rfl rfl) rfl ?_;refine gP ?_;apply gE;exact again (n - 1) (i + 1) _ _ (by omega) ⟨(by rw [hj]; rfl), rfl, rfl, rfl, trivial⟩ ⟨by omega, e0⟩
 ·have ht : l.take i = l := List.take_of_length_le (by omega)
  rw [ht];apply gS;refine gR rfl ?_;refine gO rfl rfl (kLF rfl rfl) rfl ?_;apply gE;apply gS;refine gC (b := false) rfl ?_;refine gD ?_;apply gS;refine gR rfl ?_;iterate 2 refine gP ?_
  apply gE;exact gW Tryz.func128 rfl rfl ⟨rfl, e0⟩
theorem two_sl {h : AH} {b : Nat} {a c : Int} {el : TypeId} (f : Has h b (.cells .plain [.int .i64 a, .int .i64 c] el)) : SliceOf h 1 (.slice b 0 2 2) ([a, c].map fun n => [AVal.int .i64 n]) :=
 SliceOf.mk' rfl rfl f rfl (fun i l hl => by
  match i, hl with
  | 0, hl => cases hl; rfl
  | 1, hl => cases hl; rfl)
theorem three_sl {h : AH} {b : Nat} {a c d : Int} {el : TypeId} (f : Has h b (.cells .plain [.int .i64 a, .int .i64 c, .int .i64 d] el)) : SliceOf h 1 (.slice b 0 3 3) ([a, c, d].map fun n => [AVal.int .i64 n]) :=
 SliceOf.mk' rfl rfl f rfl (fun i l hl => by
  match i, hl with
  | 0, hl => cases hl; rfl
  | 1, hl => cases hl; rfl
  | 2, hl => cases hl; rfl)
theorem mul_upto {a b A B : Int} (h1 : 0 ≤ a ∧ a ≤ A) (h2 : 0 ≤ b ∧ b ≤ B) : 0 ≤ a * b ∧ a * b ≤ A * B :=
 ⟨Int.mul_nonneg h1.1 h2.1, Int.mul_le_mul h1.2 h2.2 h2.1 (by omega)⟩
theorem product2_ok {a c : Int} (ha : 0 ≤ a ∧ a ≤ 1000) (hc : 0 ≤ c ∧ c ≤ 1000) {h : AH} {b : Nat} {el : TypeId} (f : Has h b (.cells .plain [.int .i64 a, .int .i64 c] el)) : Runs Tryz.prog 128 [.slice b 0 2 2] h (fun en h' => en = .ret (.int .i64 (a * c)) ∧ Ext h h') := by
 have h1 := mul_upto ha hc
 have := product_ok (l := [a, c]) (two_sl f) (by simp) (fun i => by
  match i with
  | 0 => simp [prodV]
  | 1 => simp [prodV]; omega
  | i + 2 => simp [prodV]; omega)
 rw [show prodV [a, c] = a * c by simp [prodV]] at this;exact this
theorem product3_ok {a c d : Int} (ha : 0 ≤ a ∧ a ≤ 1000) (hc : 0 ≤ c ∧ c ≤ 1000) (hd : 0 ≤ d ∧ d ≤ 1000) {h : AH} {b : Nat} {el : TypeId} (f : Has h b (.cells .plain [.int .i64 a, .int .i64 c, .int .i64 d] el)) : Runs Tryz.prog 128 [.slice b 0 3 3] h (fun en h' => en = .ret (.int .i64 (a * c * d)) ∧ Ext h h') := by
 have h1 := mul_upto ha hc
 have h2 := mul_upto h1 hd
 have := product_ok (l := [a, c, d]) (three_sl f) (by simp) (fun i => by
  match i with
  | 0 => simp [prodV]
  | 1 => simp [prodV]; omega
  | 2 => simp [prodV]; omega
  | i + 3 => simp [prodV]; omega)
 rw [show prodV [a, c, d] = a * c * d by simp [prodV]] at this;exact this
end Go.Proofs.YtobhkdgcciolmaaGreat
