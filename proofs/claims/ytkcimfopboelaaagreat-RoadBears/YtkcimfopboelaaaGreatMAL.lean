import Derived.Test.YtkcimfopboelaaaGreatMAK
import Derived.Test.YtkcimfopboelaaaGreatMAH
set_option linter.unusedSimpArgs false
namespace Go.AbsE
open Go
section
variable {P : Program}
theorem Takes.keep {base : Nat} {y : AVal} {items : List (List AVal)} {J E : Nat → AH → (Nat → Prop) → Prop} (T : Takes P base y items J E) {k : Nat} {h h' : AH} {F : Nat → Prop} (j : J k h F) (hn : h.next ≤ h'.next) (he : ∀ b, b < h.next → (b < base ∨ F b) → h'.get b = h.get b) : J k h' F := T.keepJ j hn he
theorem Takes.shift {base : Nat} {y : AVal} {items sub : List (List AVal)} {J E : Nat → AH → (Nat → Prop) → Prop} (T : Takes P base y items J E) (o : Nat) (hs : ∀ (n : Nat) v, sub[n]? = some v → items[o + n]? = some v) :
  Takes P base y sub (fun n => J (o + n)) (fun n => E (o + n)) where
 ltJ := fun j => T.ltJ j
 keepJ := fun j => T.keepJ j
 ltE := fun j => T.ltE j
 keepE := fun j => T.keepE j
 take := fun h j => T.take (hs _ _ h) j
def IterFR (F : Nat → Prop) (J E : Nat → AH → (Nat → Prop) → Prop) (n : Nat) (h : AH) (en : AEnd) (h' : AH) : Prop := en = .ret (.tuple []) ∧ ExtF F h h' ∧ ∃ F', (∀ b, F' b → F b ∨ h.next ≤ b) ∧ (J n h' F' ∨ ∃ k, k < n ∧ E k h' F')
def IterF (P : Program) (g : FuncId) (first cap : List AVal) (items : List (List AVal)) (A : AH → Prop) : Prop :=
 ∀ (y : AVal) (base : Nat) (J E : Nat → AH → (Nat → Prop) → Prop) (h : AH) (F : Nat → Prop), y.cells = [y] → scalars [y] = true → (∀ h', ExtF F h h' → A h') → base ≤ h.next → Takes P base y items J E → J 0 h F → Runs P g (first ++ [y] ++ cap) h (IterFR F J E items.length h)
theorem IterF.mono {g : FuncId} {first cap : List AVal} {items : List (List AVal)} {A A' : AH → Prop} (k : IterF P g first cap items A) (hA : ∀ h, A' h → A h) : IterF P g first cap items A' :=
 fun y base J E h F hyc hys hA' => k y base J E h F hyc hys fun h' x => hA h' (hA' h' x)
theorem Go.rangeF {fn n : Nat} {ds : List ADef} {dk : Bool} {rst : List AFr} {k : List AItem} {Q : AM → Prop} {t : Tr AVal} {h : AH} {x : Operand} {params : Array Tmp} {assign body : Code} {g : FuncId} {gf fnr : Func} {first cap : List AVal}
  {items : List (List AVal)} {A : AH → Prop} (F0 : Nat → Prop) (Inv : Nat → AH → (Nat → Prop) → Prop) (Fin : Code → AH → (Nat → Prop) → Prop)
  (hx : ev t x = some (.func (.func g) first cap)) (hg : aFunc P g = some gf) (hfn : P.funcs[fn]? = some fnr) (it : IterF P g first cap items A)
  (hA : ∀ h', ExtF F0 h h' → A h') (hI : Inv 0 h F0)
  (lI : ∀ k hh F b, Inv k hh F → F b → b < hh.next) (lF : ∀ c hh F b, Fin c hh F → F b → b < hh.next)
  (kI : ∀ k h1 h2 F, Inv k h1 F → h1.next ≤ h2.next → (∀ b, b < h1.next → (b < h.next ∨ F b) → h2.get b = h1.get b) → Inv k h2 F)
  (kF : ∀ c h1 h2 F, Fin c h1 F → h1.next ≤ h2.next → (∀ b, b < h1.next → (b < h.next ∨ F b) → h2.get b = h1.get b) → Fin c h2 F)
  (bd : ∀ (j : Nat) item, items[j]? = some item → ∃ t1, putArgs t n params.toList [.agg item] = some t1 ∧ ∀ (hh : AH) (F : Nat → Prop) (lb : Nat) (r0 : ALoop) (fr : AFr) (rest : List AFr) (Q' : AM → Prop), Inv j hh F → ExtF F0 h hh → (∀ b, F b → F0 b ∨ h.next ≤ b) → ¬ F lb → h.next ≤ lb → Has hh lb (.loop r0) → r0.state = .ready →
   (∀ tt h' F', Inv (j + 1) h' F' → (∀ b, F' b → F b ∨ hh.next ≤ b) → ExtF (fun b => F b ∨ b = lb) hh h' → Has h' lb (.loop { r0 with state := .busy }) → Go P ⟨fn, n, [], false, some lb, fr :: rest⟩ [] tt h' Q') →
   (∀ c tt h' kk F', (c = .ret ∨ ∃ id, c = .exit id ∧ exitA id kk = none) → Fin c h' F' → (∀ b, F' b → F b ∨ hh.next ≤ b) → ExtF (fun b => F b ∨ b = lb) hh h' → Has h' lb (.loop { r0 with state := .busy }) → Go P ⟨fn, n, [], false, some lb, fr :: rest⟩ (.code c :: kk) tt h' Q') →
   Go P ⟨fn, n, [], false, some lb, fr :: rest⟩ [.code assign, .beginRound, .code body] t1 hh Q')
  (nx : ∀ d h3 F, ExtF F0 h h3 → (∀ b, F b → F0 b ∨ h.next ≤ b) → ¬ F d → h.next ≤ d → Has h3 d (.deferred (some [])) → Inv items.length h3 F → Go P ⟨fn, n, .collected d :: ds, dk, none, rst⟩ k t h3 Q)
  (fx : ∀ c d h3 F, ExtF F0 h h3 → (∀ b, F b → F0 b ∨ h.next ≤ b) → ¬ F d → h.next ≤ d → Has h3 d (.deferred (some [])) → Fin c h3 F → Go P ⟨fn, n, .collected d :: ds, dk, none, rst⟩ (.code c :: k) t h3 Q) :
  Go P ⟨fn, n, ds, dk, none, rst⟩ (.code (.rangeFunc x params assign body) :: k) t h Q := by
 refine Go.rangeFunc hx hg fun d lb h2 hd hlb e2 fd fl => ?_
 obtain ⟨r0, hr0, fl⟩ : ∃ r0 : ALoop, r0 = _ ∧ Has h2 lb (.loop r0) := ⟨_, rfl, fl⟩
 have n2 := e2.1
 have nl := fl.1
 have nd := fd.1
 have hF0 : ∀ b, F0 b → b < h.next := fun b q => lI _ _ _ _ hI q
 let Agree : AH → Prop := fun hh => h2.next ≤ hh.next ∧ ∀ b, b < h2.next → ¬ F0 b → b ≠ lb → hh.get b = h2.get b
 let Sub : (Nat → Prop) → Prop := fun F => ∀ b, F b → F0 b ∨ h2.next ≤ b
 let J : Nat → AH → (Nat → Prop) → Prop := fun j hh G => ∃ F, (∀ b, G b ↔ (F b ∨ b = lb)) ∧ Sub F ∧ Inv j hh F ∧ Agree hh ∧ Has hh lb (.loop r0)
 let E : Nat → AH → (Nat → Prop) → Prop := fun j hh G => ∃ F, (∀ b, G b ↔ (F b ∨ b = lb)) ∧ Sub F ∧ ∃ c, Fin c hh F ∧ Agree hh ∧ Has hh lb (.loop { r0 with state := .done, pending := some c })
 have hsub : ∀ {hh}, Agree hh → ExtF F0 h hh := fun {hh} a => ⟨by have := a.1; omega, fun b hb hn => by rw [a.2 b (by omega) hn (by omega), e2.2 b hb]⟩
 have hd' : ∀ {hh}, Agree hh → Has hh d (.deferred (some [])) := fun {hh} a => ⟨by have := a.1; omega, by rw [a.2 d nd (fun q => by have := hF0 d q; omega) (by omega)]; exact fd.2⟩
 have agU : ∀ {h1 h3 : AH} {o : ABlk}, Agree h1 → Upd h1 lb o h3 → Agree h3 := fun a u => ⟨by rw [u.1]; exact a.1, fun b hb h1 h2 => by rw [u.2.2 b h2]; exact a.2 b hb h1 h2⟩
 have low : ∀ {F}, Sub F → ∀ b, F b → F0 b ∨ h.next ≤ b := fun s b q => (s b q).elim .inl fun q => .inr (by omega)
 have nlb : ∀ {F}, Sub F → ¬ F lb := fun s q => (s lb q).elim (fun q => by have := hF0 _ q; omega) fun q => by omega
 have nd' : ∀ {F}, Sub F → ¬ F d := fun s q => (s d q).elim (fun q => by have := hF0 _ q; omega) fun q => by omega
 have tk : Takes P h2.next (.yield lb) items J E := by
  refine ⟨?_, ?_, ?_, ?_, ?_⟩
  ·rintro j hh G b ⟨F, hG, s, i, a, f⟩ q
   rcases (hG b).1 q with q | rfl
   ·exact lI _ _ _ _ i q
   ·exact f.1
  ·rintro j hh G h' ⟨F, hG, s, i, a, f⟩ hn he
   have := a.1
   refine ⟨F, hG, s, kI _ _ _ _ i hn fun b hb q => he b hb (q.elim (fun q => .inl (by omega)) fun q => .inr ((hG b).2 (.inl q))), ⟨by omega, fun b hb h1 h2' => by rw [he b (by omega) (.inl hb)]; exact a.2 b hb h1 h2'⟩, ⟨by have := f.1; omega, by rw [he lb f.1 (.inr ((hG lb).2 (.inr rfl)))]; exact f.2⟩⟩
  ·rintro j hh G b ⟨F, hG, s, c, i, a, f⟩ q
   rcases (hG b).1 q with q | rfl
   ·exact lF _ _ _ _ i q
   ·exact f.1
  ·rintro j hh G h' ⟨F, hG, s, c, i, a, f⟩ hn he
   have := a.1
   refine ⟨F, hG, s, c, kF _ _ _ _ i hn fun b hb q => he b hb (q.elim (fun q => .inl (by omega)) fun q => .inr ((hG b).2 (.inl q))), ⟨by omega, fun b hb h1 h2' => by rw [he b (by omega) (.inl hb)]; exact a.2 b hb h1 h2'⟩, ⟨by have := f.1; omega, by rw [he lb f.1 (.inr ((hG lb).2 (.inr rfl)))]; exact f.2⟩⟩
  ·rintro j item hh G hit ⟨F, hG, s, i, a, f⟩
   obtain ⟨t1, p1, p2⟩ := bd j item hit
   refine ⟨_, rfl, (fun _ _ q => by cases q), ?_⟩
   subst hr0
   refine Does.round f p1 hfn fun fr rest Q' hr hpn => ?_
   have hGx : ∀ {h'}, ExtF (fun b => F b ∨ b = lb) hh h' → ExtF G hh h' := fun x' => ⟨x'.1, fun b hb hn => x'.2 b hb fun q => hn ((hG b).2 q)⟩
   have hlt2 : h2.next ≤ hh.next := a.1
   have ag : ∀ {h'}, ExtF (fun b => F b ∨ b = lb) hh h' → Agree h' := fun x' => ⟨by have := a.1; have := x'.1; omega, fun b hb h1 h2' => by
    rw [x'.2 b (by have := a.1; omega) (fun q => q.elim (fun q => (s b q).elim h1 fun q => by omega) h2')]
    exact a.2 b hb h1 h2'⟩
   have sub' : ∀ {F' : Nat → Prop}, (∀ b, F' b → F b ∨ hh.next ≤ b) → Sub F' := fun q b hb => (q b hb).elim (s b) fun q => .inr (by omega)
   have upx : ∀ {h' h''} {o : ABlk}, ExtF (fun b => F b ∨ b = lb) hh h' → Upd h' lb o h'' → ExtF (fun b => F b ∨ b = lb) hh h'' := fun x' u => ⟨by rw [u.1]; exact x'.1, fun b hb hn => by rw [u.2.2 b (fun q => hn (.inr q))]; exact x'.2 b hb hn⟩
   have own : ∀ {F' : Nat → Prop}, (∀ b, F' b → F b ∨ hh.next ≤ b) → ∀ b, (F' b ∨ b = lb) → G b ∨ hh.next ≤ b := fun q b z => z.elim (fun z => (q b z).elim (fun z => .inl ((hG b).2 (.inl z))) .inr) fun z => .inl ((hG b).2 (.inr z))
   refine p2 hh F lb _ fr rest Q' i (hsub a) (low s) (nlb s) (by omega) f rfl ?_ ?_
   ·intro tt h' F' i' so x' f'
    refine Go.roundEnd f' fun h'' u => ?_
    refine hr (.bool true) h'' ⟨hGx (upx x' u), fun b => F' b ∨ b = lb, own so, .inl ⟨rfl, F', fun b => Iff.rfl, sub' so, kI _ _ _ _ i' (by rw [u.1]; exact Nat.le_refl _) (fun b hb q => u.2.2 b (fun z => by subst z; exact q.elim (fun q => by omega) (nlb (sub' so)))), agU (ag x') u, u.has f'⟩⟩
   ·intro c tt h' kk F' hc i' so x' f'
    have fin : ∀ h'', Upd h' lb (.loop { state := .done, pending := some c, fn := fn, n := n, tmps := t, params := params.toList, assign := assign, body := body, defers := d }) h'' → ∃ fr', fr.finish (.bool false) = some fr' ∧ Reach P ⟨fr' :: rest, h''⟩ Q' := by
     intro h'' u
     exact hr (.bool false) h'' ⟨hGx (upx x' u), fun b => F' b ∨ b = lb, own so, .inr ⟨rfl, F', fun b => Iff.rfl, sub' so, c, kF _ _ _ _ i' (by rw [u.1]; exact Nat.le_refl _) (fun b hb q => u.2.2 b (fun z => by subst z; exact q.elim (fun q => by omega) (nlb (sub' so)))), agU (ag x') u, u.has f'⟩⟩
    rcases hc with rfl | ⟨id, rfl, hk⟩
    ·exact Go.roundRet f' fin
    ·exact Go.roundExit f' hk fin
 have ag2 : Agree h2 := ⟨Nat.le_refl _, fun _ _ _ _ => rfl⟩
 have s0 : Sub F0 := fun b q => .inl q
 have i2 : Inv 0 h2 F0 := kI _ _ _ _ hI n2 (fun b hb _ => e2.2 b hb)
 refine ⟨IterFR (fun b => F0 b ∨ b = lb) J E items.length h2, it (.yield lb) h2.next J E h2 (fun b => F0 b ∨ b = lb) rfl rfl (fun h' x => hA h' ⟨by have := x.1; omega, fun b hb hn => by rw [x.2 b (by omega) (fun q => q.elim hn (fun q => by omega)), e2.2 b hb]⟩) (Nat.le_refl _) tk ⟨F0, fun b => Iff.rfl, s0, i2, ag2, fl⟩, (fun chain h' q => by cases q.1), ?_⟩
 rintro v h' ⟨q, x', G, hGG, j | ⟨kk, hk, j⟩⟩
 ·obtain ⟨F, hG, s, i, a, f⟩ := j
  refine ⟨r0, f, by rw [hr0]; exact (fun q => by cases q), fun h3 u => ?_⟩
  have hp : r0.pending = none := by rw [hr0]
  rw [hp]
  exact nx d h3 F (hsub (agU a u)) (low s) (nd' s) (by omega) (hd' (agU a u)) (kI _ _ _ _ i (by rw [u.1]; exact Nat.le_refl _) (fun b hb q => u.2.2 b (fun z => by subst z; exact q.elim (fun q => by omega) (nlb s))))
 ·obtain ⟨F, hG, s, c, i, a, f⟩ := j
  refine ⟨_, f, (fun q => by cases q), fun h3 u => ?_⟩
  exact fx c d h3 F (hsub (agU a u)) (low s) (nd' s) (by omega) (hd' (agU a u)) (kF _ _ _ _ i (by rw [u.1]; exact Nat.le_refl _) (fun b hb q => u.2.2 b (fun z => by subst z; exact q.elim (fun q => by omega) (nlb s))))
end
end Go.AbsE

namespace Go.Proofs.YtkcimfopboelaaaGreat
open Go Go.AbsE
set_option linter.unusedSimpArgs false
set_option maxRecDepth 100000
set_option maxHeartbeats 0
set_option linter.unusedVariables false
theorem fm_at {α : Type} {f : Nat → List α} {N m i : Nat} {x : α} (hm : m < N) (hx : (f m)[i]? = some x) : ((List.range N).flatMap f)[((List.range m).flatMap f).length + i]? = some x := by
 have h1 : List.range N = List.range m ++ (m :: (List.range (N - (m + 1))).map (· + (m + 1))) := by
  have : N = m + (1 + (N - (m + 1))) := by omega
  conv => lhs; rw [this, List.range_add, List.range_add]
  simp only [List.map_append, List.map_map]
  congr 1
  simp only [List.range_one, List.map_cons, List.map_nil, List.cons_append, List.nil_append, Nat.add_zero]
  congr 1
  refine List.map_congr_left fun k _ => ?_
  simp only [Function.comp_apply]
  omega
 have hi := (List.getElem?_eq_some_iff.1 hx).1
 rw [h1, List.flatMap_append, List.flatMap_cons, List.getElem?_append_right (by omega), Nat.add_sub_cancel_left, List.getElem?_append_left hi]
 exact hx
theorem fm_succ {α : Type} (f : Nat → List α) (m : Nat) : ((List.range (m + 1)).flatMap f).length = ((List.range m).flatMap f).length + (f m).length := by
 rw [List.range_succ, List.flatMap_append, List.length_append]
 simp
def pcC (p : PV) (a b n : Nat) : List Pc := (List.range n).map fun c : Nat => ⟨p.hl + a, p.sl + b, p.rl + c, p.full⟩
def pcB (p : PV) (a n : Nat) : List Pc := (List.range n).flatMap fun b => pcC p a b (p.rh - p.rl + 1).toNat
def pcA (p : PV) (n : Nat) : List Pc := (List.range n).flatMap fun a => pcB p a (p.sh - p.sl + 1).toNat
theorem pcs_is (p : PV) : p.pcs = pcA p (p.hh - p.hl + 1).toNat := by
 unfold PV.pcs upto pcA pcB pcC
 simp only [List.flatMap_map, List.map_map]
 rfl
theorem pcA_succ (p : PV) (n : Nat) : (pcA p (n + 1)).length = (pcA p n).length + (pcB p n (p.sh - p.sl + 1).toNat).length := fm_succ _ _
theorem pcB_succ (p : PV) (a n : Nat) : (pcB p a (n + 1)).length = (pcB p a n).length + (p.rh - p.rl + 1).toNat := by
 unfold pcB
 rw [fm_succ]
 congr 1
 simp [pcC]
theorem pcs_at {p : PV} {a b c A : Nat} (ha : a < A) (hb : b < (p.sh - p.sl + 1).toNat) (hc : c < (p.rh - p.rl + 1).toNat) : (pcA p A)[(pcA p a).length + ((pcB p a b).length + c)]? = some ⟨p.hl + a, p.sl + b, p.rl + c, p.full⟩ := by
 refine fm_at ha ?_
 refine fm_at hb ?_
 unfold pcC
 rw [List.getElem?_map, List.getElem?_range hc]
 rfl
theorem own_next {F F' F0 : Nat → Prop} {a b : Nat} (h1 : ∀ b, F' b → F b ∨ b ≥ a) (h2 : ∀ c, F c → F0 c ∨ b ≤ c) (hab : b ≤ a) : ∀ c, F' c → F0 c ∨ b ≤ c := fun c q => (h1 c q).elim (h2 c) fun q => .inr (by omega)
theorem pieces_it {p : PV} (hp : p.Ok) : IterF Tryz.prog 138 [.agg p.cells] [] (p.pcs.map Pc.cells) (fun _ => True) := by
 intro y base J E h F hyc hys hA hb T j0
 show Runs Tryz.prog 138 [.agg p.cells, y] h _
 rw [List.length_map, pcs_is] at *
 obtain ⟨o1, o2, o3, o4⟩ := hp
 obtain ⟨A, hAn⟩ : ∃ A, (p.hh - p.hl + 1).toNat = A := ⟨_, rfl⟩
 obtain ⟨B, hBn⟩ : ∃ B, (p.sh - p.sl + 1).toNat = B := ⟨_, rfl⟩
 obtain ⟨C, hCn⟩ : ∃ C, (p.rh - p.rl + 1).toNat = C := ⟨_, rfl⟩
 have hat : ∀ {a b c : Nat}, a < A → b < B → c < C → _ := fun ha hb hc => pcs_at (p := p) (A := A) ha (hBn ▸ hb) (hCn ▸ hc)
 have hsA : ∀ a, (pcA p (a + 1)).length = (pcA p a).length + (pcB p a B).length := fun a => hBn ▸ pcA_succ p a
 have hsB : ∀ a b, (pcB p a (b + 1)).length = (pcB p a b).length + C := fun a b => hCn ▸ pcB_succ p a b
 rw [hAn] at T ⊢
 have hSl : ∀ b, F b → b < h.next := fun b q => T.ltJ j0 q
 have hnS : ¬ F h.next := fun q => Nat.lt_irrefl _ (hSl _ q)
 unfold PV.cells
 have e0 : Ext h h := Ext.refl _
 refine Runs.intro aFunc138 rfl rfl rfl rfl fun rest => ?_
 refine Go.seq noJ_ok ?_
 refine Go.region noJ_ok rfl ?_
 refine GoR.box rfl rfl rfl rfl rfl rfl fun h0 x0 f0 => ?_
 have := e0.1
 replace e0 := e0.trans x0
 have := f0.1
 refine GoR.end ?_
 refine Go.seq noJ_ok ?_
 refine Go.region noJ_ok rfl ?_
 refine GoR.op rfl rfl (fa157_0 rfl) rfl ?_
 refine GoR.op rfl rfl (fa29_0 rfl) rfl ?_
 refine GoR.op rfl rfl (ld3 rfl f0 rfl) rfl ?_
 refine GoR.op rfl rfl rfl rfl ?_
 refine GoR.end ?_
 refine Go.block noJ_ok ?_
 have hlt := f0.1
 refine Go.loopKeep (fun a : Nat × (Nat → Prop) => [(1, y), (2, .ptr h.next 0), (4, .int .i64 (p.hl + (a.1 : Nat)))]) (fun m a h' => m + a.1 = A ∧ ExtF F h h' ∧ (∀ b, a.2 b → F b ∨ h.next ≤ b) ∧ ¬ a.2 h.next ∧ Has h' h.next (.cells .plain p.cells 157) ∧ J (pcA p a.1).length h' a.2) (n := A) (0, F) ⟨rfl, rfl, (by simp; rfl), trivial⟩ ⟨rfl, ExtF.of e0, fun b q => .inl q, hnS, f0, T.ext j0 e0⟩ ?_
 clear e0 f0
 rintro m ⟨a, G⟩ h1 ⟨hm, x1, hG, hnG, f0, j1⟩ again
 dsimp only at hm hG hnG j1 ⊢
 have e0 : Ext h1 h1 := Ext.refl _
 unfold PV.cells at f0
 by_cases ha : a < A
 ·iterate 2 refine Go.seq noJ_ok ?_
  refine Go.region noJ_ok rfl ?_
  refine GoR.op rfl rfl rfl rfl ?_
  refine GoR.op rfl rfl (fa157_0 rfl) rfl ?_
  refine GoR.op rfl rfl (fa29_1 rfl) rfl ?_
  refine GoR.op rfl rfl (ld3 rfl f0 rfl) rfl ?_
  refine GoR.op rfl rfl (aOp_leq rfl rfl (r := true) (decide_eq_true (by omega))) rfl ?_
  refine GoR.end ?_
  refine Go.cond noJ_ok (b := true) rfl ?_
  refine Go.code noJ_ok ?_
  refine Go.seq noJ_ok ?_
  refine Go.block noJ_ok ?_
  refine Go.seq noJ_ok ?_
  refine Go.region noJ_ok rfl ?_
  refine GoR.op rfl rfl (fa157_1 rfl) rfl ?_
  refine GoR.op rfl rfl (fa29_0 rfl) rfl ?_
  refine GoR.op rfl rfl (ld3 rfl f0 rfl) rfl ?_
  refine GoR.op rfl rfl rfl rfl ?_
  refine GoR.end ?_
  refine Go.block noJ_ok ?_
  refine Go.loopKeep (fun b : Nat × (Nat → Prop) => [(1, y), (2, .ptr h.next 0), (4, .int .i64 (p.hl + (a : Nat))), (5, .int .i64 (p.sl + (b.1 : Nat)))]) (fun m b h' => m + b.1 = B ∧ ExtF F h h' ∧ (∀ c, b.2 c → F c ∨ h.next ≤ c) ∧ ¬ b.2 h.next ∧ Has h' h.next (.cells .plain p.cells 157) ∧ J ((pcA p a).length + (pcB p a b.1).length) h' b.2) (n := B) (0, G) ⟨rfl, rfl, rfl, (by simp; rfl), trivial⟩ ⟨rfl, x1, hG, hnG, f0, j1⟩ ?_
  clear e0 f0 j1 x1 hG hnG
  rintro m2 ⟨b, G⟩ h2 ⟨hm2, x1, hG, hnG, f0, j1⟩ again2
  dsimp only at hm2 hG hnG j1 ⊢
  have e0 : Ext h2 h2 := Ext.refl _
  unfold PV.cells at f0
  by_cases hb' : b < B
  ·iterate 2 refine Go.seq noJ_ok ?_
   refine Go.region noJ_ok rfl ?_
   refine GoR.op rfl rfl rfl rfl ?_
   refine GoR.op rfl rfl (fa157_1 rfl) rfl ?_
   refine GoR.op rfl rfl (fa29_1 rfl) rfl ?_
   refine GoR.op rfl rfl (ld3 rfl f0 rfl) rfl ?_
   refine GoR.op rfl rfl (aOp_leq rfl rfl (r := true) (decide_eq_true (by omega))) rfl ?_
   refine GoR.end ?_
   refine Go.cond noJ_ok (b := true) rfl ?_
   refine Go.code noJ_ok ?_
   refine Go.seq noJ_ok ?_
   refine Go.block noJ_ok ?_
   refine Go.seq noJ_ok ?_
   refine Go.region noJ_ok rfl ?_
   refine GoR.op rfl rfl (fa157_2 rfl) rfl ?_
   refine GoR.op rfl rfl (fa29_0 rfl) rfl ?_
   refine GoR.op rfl rfl (ld3 rfl f0 rfl) rfl ?_
   refine GoR.op rfl rfl rfl rfl ?_
   refine GoR.end ?_
   refine Go.block noJ_ok ?_
   refine Go.loopKeep (fun c : Nat × (Nat → Prop) => [(1, y), (2, .ptr h.next 0), (4, .int .i64 (p.hl + (a : Nat))), (5, .int .i64 (p.sl + (b : Nat))), (6, .int .i64 (p.rl + (c.1 : Nat)))]) (fun m c h' => m + c.1 = C ∧ ExtF F h h' ∧ (∀ b, c.2 b → F b ∨ h.next ≤ b) ∧ ¬ c.2 h.next ∧ Has h' h.next (.cells .plain p.cells 157) ∧ J ((pcA p a).length + ((pcB p a b).length + c.1)) h' c.2) (n := C) (0, G) ⟨rfl, rfl, rfl, rfl, (by simp; rfl), trivial⟩ ⟨rfl, x1, hG, hnG, f0, j1⟩ ?_
   clear e0 f0 j1 x1 hG hnG
   rintro m3 ⟨c, G⟩ h3 ⟨hm3, x1, hG, hnG, f0, j1⟩ again3
   dsimp only at hm3 hG hnG j1 ⊢
   have e0 : Ext h3 h3 := Ext.refl _
   have hx1 := x1.1
   unfold PV.cells at f0
   by_cases hc : c < C
   ·have hit := hat ha hb' hc
    have hlt := (List.getElem?_eq_some_iff.1 hit).1
    obtain ⟨ax, a1, a2, a3⟩ := T.take (by rw [List.getElem?_map, hit]; rfl) j1
    unfold Pc.cells at a1
    have hb0 := f0.1
    iterate 2 refine Go.seq noJ_ok ?_
    refine Go.region noJ_ok rfl ?_
    refine GoR.op rfl rfl rfl rfl ?_
    refine GoR.op rfl rfl (fa157_2 rfl) rfl ?_
    refine GoR.op rfl rfl (fa29_1 rfl) rfl ?_
    refine GoR.op rfl rfl (ld3 rfl f0 rfl) rfl ?_
    refine GoR.op rfl rfl (aOp_leq rfl rfl (r := true) (decide_eq_true (by omega))) rfl ?_
    refine GoR.end ?_
    refine Go.cond noJ_ok (b := true) rfl ?_
    refine Go.code noJ_ok ?_
    refine Go.seq noJ_ok ?_
    refine Go.block noJ_ok ?_
    refine Go.seq noJ_ok ?_
    refine Go.region noJ_ok rfl ?_
    iterate 4 refine GoR.op rfl rfl rfl rfl ?_
    refine GoR.op rfl rfl (fa157_3 rfl) rfl ?_
    refine GoR.op rfl rfl (ld3 rfl f0 rfl) rfl ?_
    refine GoR.op rfl rfl (aOp_build zt84 hu84 pl84 rfl rfl) rfl ?_
    refine GoR.does rfl rfl (aOp_callY rfl rfl a1) a2 a3 ?_ (by rintro _ _ ⟨_, _, _, ⟨q, _⟩ | ⟨q, _⟩⟩ <;> cases q)
    rintro v h6 ⟨x6, G', hG', ⟨q, j6⟩ | ⟨q, e6⟩⟩
    ·cases q
     refine ⟨_, rfl, ?_⟩
     replace f0 := f0.extF x6 hnG
     refine GoR.op rfl rfl rfl rfl ?_
     refine GoR.end ?_
     refine Go.cond noJ_ok (b := false) rfl ?_
     refine Go.code noJ_ok ?_
     refine Go.inBlock noJ_ok ?_
     refine Go.region noJ_ok rfl ?_
     refine GoR.op rfl rfl rfl rfl ?_
     refine GoR.op rfl rfl (aOp_add rfl rfl (by constructor <;> omega) rfl) rfl ?_
     refine GoR.op rfl rfl rfl rfl ?_
     refine GoR.end ?_
     exact again3 (m3 - 1) (c + 1, G') _ _ (by omega) ⟨rfl, rfl, rfl, rfl, (by simp [Int.add_assoc]; rfl), trivial⟩ ⟨by dsimp only; omega, x1.trans hG x6, own_next hG' hG hx1, fun q => (hG' _ q).elim hnG fun q => by omega, f0, j6⟩
    ·cases q
     refine ⟨_, rfl, ?_⟩
     refine GoR.op rfl rfl rfl rfl ?_
     refine GoR.end ?_
     refine Go.cond noJ_ok (b := true) rfl ?_
     exact Go.ret noJ_ok (ret_end (aResult_of Tryz.func138 rfl rfl) ⟨rfl, x1.trans hG x6, G', own_next hG' hG hx1, .inr ⟨_, hlt, e6⟩⟩)
   ·iterate 2 refine Go.seq noJ_ok ?_
    refine Go.region noJ_ok rfl ?_
    refine GoR.op rfl rfl rfl rfl ?_
    refine GoR.op rfl rfl (fa157_2 rfl) rfl ?_
    refine GoR.op rfl rfl (fa29_1 rfl) rfl ?_
    refine GoR.op rfl rfl (ld3 rfl f0 rfl) rfl ?_
    refine GoR.op rfl rfl (aOp_leq rfl rfl (r := false) (decide_eq_false (by omega))) rfl ?_
    refine GoR.end ?_
    refine Go.cond noJ_ok (b := false) rfl ?_
    refine Go.code noJ_ok ?_
    refine Go.inBlock noJ_ok ?_
    refine Go.region noJ_ok rfl ?_
    refine GoR.op rfl rfl rfl rfl ?_
    refine GoR.op rfl rfl (aOp_add rfl rfl (by constructor <;> omega) rfl) rfl ?_
    refine GoR.op rfl rfl rfl rfl ?_
    refine GoR.end ?_
    have hcn : c = C := by omega
    exact again2 (m2 - 1) (b + 1, G) _ _ (by omega) ⟨rfl, rfl, rfl, (by simp [Int.add_assoc]; rfl), trivial⟩ ⟨by dsimp only; omega, x1, hG, hnG, f0, by rw [hsB, ← hcn]; exact j1⟩
  ·iterate 2 refine Go.seq noJ_ok ?_
   refine Go.region noJ_ok rfl ?_
   refine GoR.op rfl rfl rfl rfl ?_
   refine GoR.op rfl rfl (fa157_1 rfl) rfl ?_
   refine GoR.op rfl rfl (fa29_1 rfl) rfl ?_
   refine GoR.op rfl rfl (ld3 rfl f0 rfl) rfl ?_
   refine GoR.op rfl rfl (aOp_leq rfl rfl (r := false) (decide_eq_false (by omega))) rfl ?_
   refine GoR.end ?_
   refine Go.cond noJ_ok (b := false) rfl ?_
   refine Go.code noJ_ok ?_
   refine Go.inBlock noJ_ok ?_
   refine Go.region noJ_ok rfl ?_
   refine GoR.op rfl rfl rfl rfl ?_
   refine GoR.op rfl rfl (aOp_add rfl rfl (by constructor <;> omega) rfl) rfl ?_
   refine GoR.op rfl rfl rfl rfl ?_
   refine GoR.end ?_
   have hbn : b = B := by omega
   exact again (m - 1) (a + 1, G) _ _ (by omega) ⟨rfl, rfl, (by simp [Int.add_assoc]; rfl), trivial⟩ ⟨by dsimp only; omega, x1, hG, hnG, f0, by rw [hsA, ← hbn]; exact j1⟩
 ·have ha' : a = A := by omega
  rw [ha'] at j1
  iterate 2 refine Go.seq noJ_ok ?_
  refine Go.region noJ_ok rfl ?_
  refine GoR.op rfl rfl rfl rfl ?_
  refine GoR.op rfl rfl (fa157_0 rfl) rfl ?_
  refine GoR.op rfl rfl (fa29_1 rfl) rfl ?_
  refine GoR.op rfl rfl (ld3 rfl f0 rfl) rfl ?_
  refine GoR.op rfl rfl (aOp_leq rfl rfl (r := false) (decide_eq_false (by omega))) rfl ?_
  refine GoR.end ?_
  refine Go.cond noJ_ok (b := false) rfl ?_
  refine Go.code noJ_ok ?_
  exact Go.endL (FLeft.ret (v := .tuple []) (aResult_of Tryz.func138 rfl rfl) ⟨rfl, x1, G, hG, .inl j1⟩)
end Go.Proofs.YtkcimfopboelaaaGreat

namespace Go.Proofs.YtkcimfopboelaaaGreat
open Go Go.AbsE
set_option linter.unusedSimpArgs false
set_option maxRecDepth 100000
set_option maxHeartbeats 0
set_option linter.unusedVariables false
theorem passAfter_ok {a b : Int} {x : Pc} {l : Int} (h1 : 0 ≤ l ∧ l ≤ 1000) (h2 : 1 ≤ x.stiff ∧ x.stiff ≤ 10) (h3 : -10000 ≤ x.height ∧ x.height ≤ 1000) {h : AH} : Runs Tryz.prog 173 [.agg [.int .i64 a, .int .i64 b], .agg x.cells, .int .i64 l] h (fun en h' => en = .ret (.agg (x.pressed l).cells) ∧ Ext h h') := by
 have hp := fun h => pressed_ok (x := x) h1 h2 h3 (h := h)
 unfold Pc.cells at *
 have e0 : Ext h h := Ext.refl _
 refine Runs.intro aFunc173 rfl rfl rfl rfl fun rest => ?_
 refine Go.seq noJ_ok ?_
 refine Go.region noJ_ok rfl ?_
 refine GoR.box rfl rfl rfl rfl rfl rfl fun h4 x4 f4 => ?_
 have := e0.1
 replace e0 := e0.trans x4
 have := f4.1
 refine GoR.box rfl rfl rfl rfl rfl rfl fun h5 x5 f5 => ?_
 have := e0.1
 have := f4.1
 replace f4 := f4.ext x5
 replace e0 := e0.trans x5
 have := f5.1
 refine GoR.alloc rfl rfl rfl zt84 rfl rfl fun h6 x6 f6 => ?_
 have := e0.1
 have := f5.1
 have := f4.1
 replace f5 := f5.ext x6
 replace e0 := e0.trans x6
 have := f6.1
 refine GoR.end ?_
 refine Go.seq noJ_ok ?_
 refine Go.region noJ_ok rfl ?_
 refine GoR.op rfl rfl (ld84 rfl f5 rfl) rfl ?_
 refine GoR.op rfl rfl rfl rfl ?_
 refine GoR.call rfl rfl (aOp_callFunc aFunc141 rfl) (hp _) ?_ (by rintro _ _ ⟨q, _⟩; cases q)
 rintro v7 h7 ⟨q, x7⟩
 cases q
 refine ⟨_, rfl, ?_⟩
 replace f6 := f6.ext x7
 replace e0 := e0.trans x7
 refine GoR.store rfl rfl rfl rfl rfl rfl f6 rfl sz84 rfl rfl rfl fun h8 u8 => ?_
 replace f6 := u8.has f6
 replace e0 := e0.upd u8 (by omega)
 refine GoR.end ?_
 exact Go.ret noJ_ok (ret_end (aResult_of Tryz.func173 rfl (aResults_cell rfl f6 (inCells_agg ag84 sz84 rfl))) ⟨rfl, e0⟩)
theorem restAfter_ok {d : Int} {x : Pc} {l : Int} (h1 : 0 ≤ d ∧ d ≤ 1000) (h2 : 0 ≤ x.rise ∧ x.rise ≤ 5) (h3 : -10000 ≤ x.height ∧ x.height ≤ 1000) {h : AH} : Runs Tryz.prog 176 [.agg [.int .i64 d], .agg x.cells, .int .i64 l] h (fun en h' => en = .ret (.agg (x.rested d).cells) ∧ Ext h h') := by
 have hp := fun h => rested_ok (x := x) h1 h2 h3 (h := h)
 unfold Pc.cells at *
 have e0 : Ext h h := Ext.refl _
 refine Runs.intro aFunc176 rfl rfl rfl rfl fun rest => ?_
 refine Go.seq noJ_ok ?_
 refine Go.region noJ_ok rfl ?_
 refine GoR.box rfl rfl rfl rfl rfl rfl fun h4 x4 f4 => ?_
 have := e0.1
 replace e0 := e0.trans x4
 have := f4.1
 refine GoR.box rfl rfl rfl rfl rfl rfl fun h5 x5 f5 => ?_
 have := e0.1
 have := f4.1
 replace f4 := f4.ext x5
 replace e0 := e0.trans x5
 have := f5.1
 refine GoR.alloc rfl rfl rfl zt84 rfl rfl fun h6 x6 f6 => ?_
 have := e0.1
 have := f5.1
 have := f4.1
 replace f5 := f5.ext x6
 replace f4 := f4.ext x6
 replace e0 := e0.trans x6
 have := f6.1
 refine GoR.end ?_
 refine Go.seq noJ_ok ?_
 refine Go.region noJ_ok rfl ?_
 refine GoR.op rfl rfl (ld84 rfl f5 rfl) rfl ?_
 refine GoR.op rfl rfl (fa164_0 rfl) rfl ?_
 refine GoR.op rfl rfl (ld3 rfl f4 rfl) rfl ?_
 refine GoR.call rfl rfl (aOp_callFunc aFunc116 rfl) (hp _) ?_ (by rintro _ _ ⟨q, _⟩; cases q)
 rintro v7 h7 ⟨q, x7⟩
 cases q
 refine ⟨_, rfl, ?_⟩
 replace f6 := f6.ext x7
 replace e0 := e0.trans x7
 refine GoR.store rfl rfl rfl rfl rfl rfl f6 rfl sz84 rfl rfl rfl fun h8 u8 => ?_
 replace f6 := u8.has f6
 replace e0 := e0.upd u8 (by omega)
 refine GoR.end ?_
 exact Go.ret noJ_ok (ret_end (aResult_of Tryz.func176 rfl (aResults_cell rfl f6 (inCells_agg ag84 sz84 rfl))) ⟨rfl, e0⟩)
theorem passLoads_ok {a b : Int} {h : AH} : Runs Tryz.prog 174 [.agg [.int .i64 a, .int .i64 b]] h (fun en h' => en = .ret (.agg [.int .i64 a, .int .i64 b]) ∧ Ext h h') := by
 have e0 : Ext h h := Ext.refl _
 refine Runs.intro aFunc174 rfl rfl rfl rfl fun rest => ?_
 refine Go.seq noJ_ok ?_
 refine Go.region noJ_ok rfl ?_
 refine GoR.box rfl rfl rfl rfl rfl rfl fun h0 x0 f0 => ?_
 have := e0.1
 replace e0 := e0.trans x0
 have := f0.1
 refine GoR.alloc rfl rfl rfl zt29 rfl rfl fun h1 x1 f1 => ?_
 have := e0.1
 have := f0.1
 replace f0 := f0.ext x1
 replace e0 := e0.trans x1
 have := f1.1
 refine GoR.end ?_
 refine Go.seq noJ_ok ?_
 refine Go.region noJ_ok rfl ?_
 refine GoR.op rfl rfl (fa162_0 rfl) rfl ?_
 refine GoR.op rfl rfl (ld29 rfl f0 rfl) rfl ?_
 refine GoR.store rfl rfl rfl rfl rfl rfl f1 rfl sz29 rfl rfl rfl fun h2 u2 => ?_
 replace f1 := u2.has f1
 replace e0 := e0.upd u2 (by omega)
 refine GoR.end ?_
 exact Go.ret noJ_ok (ret_end (aResult_of Tryz.func174 rfl (aResults_cell rfl f1 (inCells_agg ag29 sz29 rfl))) ⟨rfl, e0⟩)
theorem restLoads_ok {d : Int} {h : AH} : Runs Tryz.prog 177 [.agg [.int .i64 d]] h (fun en h' => en = .ret (.agg [.int .i64 0, .int .i64 0]) ∧ Ext h h') := by
 have e0 : Ext h h := Ext.refl _
 refine Runs.intro aFunc177 rfl rfl rfl rfl fun rest => ?_
 refine Go.seq noJ_ok ?_
 refine Go.region noJ_ok rfl ?_
 refine GoR.box rfl rfl rfl rfl rfl rfl fun h0 x0 f0 => ?_
 have := e0.1
 replace e0 := e0.trans x0
 have := f0.1
 refine GoR.alloc rfl rfl rfl zt29 rfl rfl fun h1 x1 f1 => ?_
 have := e0.1
 have := f0.1
 replace e0 := e0.trans x1
 have := f1.1
 refine GoR.end ?_
 refine Go.seq noJ_ok ?_
 refine Go.region noJ_ok rfl ?_
 refine GoR.call rfl rfl (aOp_callFunc aFunc102 rfl) (one_ok) ?_ (by rintro _ _ ⟨q, _⟩; cases q)
 rintro v2 h2 ⟨q, x2⟩
 cases q
 refine ⟨_, rfl, ?_⟩
 replace f1 := f1.ext x2
 replace e0 := e0.trans x2
 refine GoR.store rfl rfl rfl rfl rfl rfl f1 rfl sz29 rfl rfl rfl fun h3 u3 => ?_
 replace f1 := u3.has f1
 replace e0 := e0.upd u3 (by omega)
 refine GoR.end ?_
 exact Go.ret noJ_ok (ret_end (aResult_of Tryz.func177 rfl (aResults_cell rfl f1 (inCells_agg ag29 sz29 rfl))) ⟨rfl, e0⟩)
theorem passRight_ok {a b n : Int} {x : Pc} {h : AH} : Runs Tryz.prog 175 [.agg [.int .i64 a, .int .i64 b], .int .i64 n, .agg x.cells] h (fun en h' => en = .ret (.bool true) ∧ Ext h h') := by
 unfold Pc.cells
 have e0 : Ext h h := Ext.refl _
 refine Runs.intro aFunc175 rfl rfl rfl rfl fun rest => ?_
 refine Go.seq noJ_ok ?_
 refine Go.region noJ_ok rfl ?_
 refine GoR.box rfl rfl rfl rfl rfl rfl fun h0 x0 f0 => ?_
 replace e0 := e0.trans x0
 refine GoR.box rfl rfl rfl rfl rfl rfl fun h1 x1 f1 => ?_
 replace e0 := e0.trans x1
 refine GoR.op rfl rfl rfl rfl ?_
 refine GoR.end ?_
 refine Go.seq noJ_ok ?_
 refine Go.region noJ_ok rfl ?_
 refine GoR.op rfl rfl rfl rfl ?_
 refine GoR.end ?_
 exact Go.ret noJ_ok (ret_end (aResult_of Tryz.func175 rfl rfl) ⟨rfl, e0⟩)
theorem restRight_ok {a n : Int} {x : Pc} {h : AH} : Runs Tryz.prog 178 [.agg [.int .i64 a], .int .i64 n, .agg x.cells] h (fun en h' => en = .ret (.bool true) ∧ Ext h h') := by
 unfold Pc.cells
 have e0 : Ext h h := Ext.refl _
 refine Runs.intro aFunc178 rfl rfl rfl rfl fun rest => ?_
 refine Go.seq noJ_ok ?_
 refine Go.region noJ_ok rfl ?_
 refine GoR.box rfl rfl rfl rfl rfl rfl fun h0 x0 f0 => ?_
 replace e0 := e0.trans x0
 refine GoR.box rfl rfl rfl rfl rfl rfl fun h1 x1 f1 => ?_
 replace e0 := e0.trans x1
 refine GoR.op rfl rfl rfl rfl ?_
 refine GoR.end ?_
 refine Go.seq noJ_ok ?_
 refine Go.region noJ_ok rfl ?_
 refine GoR.op rfl rfl rfl rfl ?_
 refine GoR.end ?_
 exact Go.ret noJ_ok (ret_end (aResult_of Tryz.func178 rfl rfl) ⟨rfl, e0⟩)
theorem lookRight_ok {d p a b n : Int} {x : Pc} {h : AH} : Runs Tryz.prog 179 [.agg [.int .i64 d, .int .i64 p, .int .i64 a, .int .i64 b], .int .i64 n, .agg x.cells] h (fun en h' => en = .ret (.bool (decide (n = p → a ≤ x.height ∧ x.height ≤ b))) ∧ Ext h h') := by
 unfold Pc.cells
 by_cases q : n = p
 ·have hq : decide (n = p → a ≤ x.height ∧ x.height ≤ b) = decide (a ≤ x.height ∧ x.height ≤ b) := decide_eq_decide.2 (by simp [q])
  rw [hq]
  have e0 : Ext h h := Ext.refl _
  refine Runs.intro aFunc179 rfl rfl rfl rfl fun rest => ?_
  refine Go.seq noJ_ok ?_
  refine Go.region noJ_ok rfl ?_
  refine GoR.box rfl rfl rfl rfl rfl rfl fun h0 x0 f0 => ?_
  replace e0 := e0.trans x0
  refine GoR.box rfl rfl rfl rfl rfl rfl fun h1 x1 f1 => ?_
  replace f0 := f0.ext x1
  replace e0 := e0.trans x1
  refine GoR.op rfl rfl rfl rfl ?_
  refine GoR.end ?_
  refine Go.seq noJ_ok ?_
  refine Go.region noJ_ok rfl ?_
  refine GoR.op rfl rfl rfl rfl ?_
  refine GoR.op rfl rfl (fa166_1 rfl) rfl ?_
  refine GoR.op rfl rfl (ld3 rfl f0 rfl) rfl ?_
  refine GoR.op rfl rfl (aOp_neq rfl rfl (r := false) (decide_eq_true (by omega))) rfl ?_
  refine GoR.op rfl rfl rfl rfl ?_
  refine GoR.op rfl rfl (fa84_0 rfl) rfl ?_
  refine GoR.op rfl rfl (ld3 rfl f1 rfl) rfl ?_
  refine GoR.op rfl rfl (fa166_2 rfl) rfl ?_
  refine GoR.op rfl rfl (fa29_0 rfl) rfl ?_
  refine GoR.op rfl rfl (ld3 rfl f0 rfl) rfl ?_
  refine GoR.op rfl rfl (fa166_2 rfl) rfl ?_
  refine GoR.op rfl rfl (fa29_1 rfl) rfl ?_
  refine GoR.op rfl rfl (ld3 rfl f0 rfl) rfl ?_
  refine GoR.call rfl rfl (aOp_callFunc aFunc95 rfl) (inside_ok) ?_ (by rintro _ _ ⟨q, _⟩; cases q)
  rintro v2 h2 ⟨q, x2⟩
  cases q
  refine ⟨_, rfl, ?_⟩
  replace e0 := e0.trans x2
  iterate 2 refine GoR.op rfl rfl rfl rfl ?_
  refine GoR.end ?_
  exact Go.ret noJ_ok (ret_end (aResult_of Tryz.func179 rfl rfl) ⟨rfl, e0⟩)
 ·have hq : decide (n = p → a ≤ x.height ∧ x.height ≤ b) = true := decide_eq_true fun z => absurd z q
  rw [hq]
  have e0 : Ext h h := Ext.refl _
  refine Runs.intro aFunc179 rfl rfl rfl rfl fun rest => ?_
  refine Go.seq noJ_ok ?_
  refine Go.region noJ_ok rfl ?_
  refine GoR.box rfl rfl rfl rfl rfl rfl fun h0 x0 f0 => ?_
  replace e0 := e0.trans x0
  refine GoR.box rfl rfl rfl rfl rfl rfl fun h1 x1 f1 => ?_
  replace f0 := f0.ext x1
  replace e0 := e0.trans x1
  refine GoR.op rfl rfl rfl rfl ?_
  refine GoR.end ?_
  refine Go.seq noJ_ok ?_
  refine Go.region noJ_ok rfl ?_
  refine GoR.op rfl rfl rfl rfl ?_
  refine GoR.op rfl rfl (fa166_1 rfl) rfl ?_
  refine GoR.op rfl rfl (ld3 rfl f0 rfl) rfl ?_
  refine GoR.op rfl rfl (aOp_neq rfl rfl (r := true) (decide_eq_false (by omega))) rfl ?_
  refine GoR.op rfl rfl rfl rfl ?_
  iterate 9 refine GoR.skip rfl rfl rfl ?_
  iterate 2 refine GoR.op rfl rfl rfl rfl ?_
  refine GoR.end ?_
  exact Go.ret noJ_ok (ret_end (aResult_of Tryz.func179 rfl rfl) ⟨rfl, e0⟩)
theorem after_at {n : Int} {e : EV} (he : e.Ok n) {x : Pc} {l : Int} (h1 : e.lo ≤ l ∧ l ≤ e.hi) (h2 : 1 ≤ x.stiff ∧ x.stiff ≤ 10) (h3 : -10000 ≤ x.height ∧ x.height ≤ 1000) (h4 : 0 ≤ x.rise ∧ x.rise ≤ 5) (h : AH) :
  ∃ f args, aInvokeIface Tryz.prog (evC e) "bogworks/road.after" [.agg x.cells, .int .i64 l] h = some (.enter f args h) ∧ Runs Tryz.prog f args h (fun en h' => en = .ret (.agg (e.after x l).cells) ∧ Ext h h') := by
 unfold evC EV.after EV.rest
 unfold EV.lo EV.hi at h1
 by_cases k0 : e.kind = 0
 ·rw [if_pos k0, if_pos k0]
  rw [if_pos k0, if_pos k0] at h1
  have hl : 0 ≤ l ∧ l ≤ 60 := by rcases he with he | he | he <;> omega
  exact ⟨173, [.agg [.int .i64 e.ll, .int .i64 e.lh], .agg x.cells, .int .i64 l], by kernel_rfl, passAfter_ok (by omega) h2 h3⟩
 ·rw [if_neg k0, if_neg k0]
  by_cases k1 : e.kind = 1
  ·rw [if_pos k1, if_pos k1]
   have hl : 1 ≤ e.days ∧ e.days ≤ 10 := by rcases he with he | he | he <;> omega
   exact ⟨176, [.agg [.int .i64 e.days], .agg x.cells, .int .i64 l], by kernel_rfl, restAfter_ok (by omega) h4 h3⟩
  ·rw [if_neg k1, if_neg k1]
   exact ⟨176, [.agg [.int .i64 0], .agg x.cells, .int .i64 l], by kernel_rfl, restAfter_ok (by omega) h4 h3⟩
theorem loads_at {n : Int} {e : EV} (he : e.Ok n) (h : AH) :
  ∃ f args, aInvokeIface Tryz.prog (evC e) "bogworks/road.loads" [] h = some (.enter f args h) ∧ Runs Tryz.prog f args h (fun en h' => en = .ret (.agg [.int .i64 e.lo, .int .i64 e.hi]) ∧ Ext h h') := by
 unfold evC EV.lo EV.hi
 by_cases k0 : e.kind = 0
 ·rw [if_pos k0, if_pos k0, if_pos k0]
  exact ⟨174, [.agg [.int .i64 e.ll, .int .i64 e.lh]], by kernel_rfl, passLoads_ok⟩
 ·rw [if_neg k0, if_neg k0, if_neg k0]
  by_cases k1 : e.kind = 1
  ·rw [if_pos k1]
   exact ⟨177, [.agg [.int .i64 e.days]], by kernel_rfl, restLoads_ok⟩
  ·rw [if_neg k1]
   exact ⟨177, [.agg [.int .i64 0]], by kernel_rfl, restLoads_ok⟩
theorem right_at {n : Int} {e : EV} (he : e.Ok n) {x : Pc} {p : Int} (h : AH) :
  ∃ f args, aInvokeIface Tryz.prog (evC e) "bogworks/road.right" [.int .i64 p, .agg x.cells] h = some (.enter f args h) ∧ Runs Tryz.prog f args h (fun en h' => en = .ret (.bool (e.right p x)) ∧ Ext h h') := by
 unfold evC EV.right
 by_cases k0 : e.kind = 0
 ·rw [if_pos k0, show decide (e.kind = 2 → p = e.part → e.wl ≤ x.height ∧ x.height ≤ e.wh) = true from decide_eq_true fun q => by omega]
  exact ⟨175, [.agg [.int .i64 e.ll, .int .i64 e.lh], .int .i64 p, .agg x.cells], by kernel_rfl, passRight_ok⟩
 ·rw [if_neg k0]
  by_cases k1 : e.kind = 1
  ·rw [if_pos k1, show decide (e.kind = 2 → p = e.part → e.wl ≤ x.height ∧ x.height ≤ e.wh) = true from decide_eq_true fun q => by omega]
   exact ⟨178, [.agg [.int .i64 e.days], .int .i64 p, .agg x.cells], by kernel_rfl, restRight_ok⟩
  ·have k2 : e.kind = 2 := by rcases he with he | he | he <;> omega
   rw [if_neg k1, show decide (e.kind = 2 → p = e.part → e.wl ≤ x.height ∧ x.height ≤ e.wh) = decide (p = e.part → e.wl ≤ x.height ∧ x.height ≤ e.wh) from decide_eq_decide.2 (by simp [k2])]
   exact ⟨179, [.agg [.int .i64 0, .int .i64 e.part, .int .i64 e.wl, .int .i64 e.wh], .int .i64 p, .agg x.cells], by kernel_rfl, lookRight_ok⟩
end Go.Proofs.YtkcimfopboelaaaGreat

namespace Go.Proofs.YtkcimfopboelaaaGreat
open Go Go.AbsE
set_option linter.unusedSimpArgs false
set_option maxRecDepth 100000
set_option maxHeartbeats 0
set_option linter.unusedVariables false
def zeroFt : Ft := ⟨⟨0, 0, 0, 0⟩, []⟩
def haulC (w : List Int) (n : Int) : List AVal := i64s w ++ [.int .i64 n]
def LoadsOk (es : List EV) (w : List Int) : Prop := ∀ (i : Nat) e k, es[i]? = some e → w[i]? = some k → e.lo ≤ k ∧ k ≤ e.hi
def padZ (hs : List Int) : List Int := hs ++ List.replicate (10 - hs.length) 0
theorem padZ_set {hs : List Int} (h : hs.length < 10) (v : Int) : splice (AVal.int .i64 0 :: .int .i64 0 :: .int .i64 0 :: .int .i64 0 :: i64s (padZ hs)) (4 + hs.length * 1) (AVal.int .i64 v).cells = some (AVal.int .i64 0 :: .int .i64 0 :: .int .i64 0 :: .int .i64 0 :: i64s (padZ (hs ++ [v]))) := by
 show splice _ _ [_] = _
 have hl : (i64s (padZ hs)).length = 10 := by unfold i64s padZ; simp; omega
 rw [splice_at (by simp only [List.length_cons, hl]; omega)]
 congr 1
 rw [show 4 + hs.length * 1 = hs.length + 1 + 1 + 1 + 1 by omega]
 simp only [List.set_cons_succ]
 congr 4
 unfold i64s padZ
 rw [← List.map_set, List.set_append_right _ _ (Nat.le_refl _), Nat.sub_self, List.append_assoc]
 rw [show 10 - hs.length = (10 - (hs ++ [v]).length) + 1 by simp; omega, List.replicate_succ]
 simp
theorem zip_at {es : List EV} {w : List Int} {i : Nat} {e : EV} {k : Int} (he : es[i]? = some e) (hk : w[i]? = some k) : (es.zip w)[i]? = some (e, k) := List.getElem?_zip_eq_some.2 ⟨he, hk⟩
theorem drop_at {α : Type} {l : List α} {i : Nat} {x : α} (h : l[i]? = some x) : l.drop i = x :: l.drop (i + 1) := by
 have hlt := (List.getElem?_eq_some_iff.1 h).1
 rw [List.drop_eq_getElem_cons hlt, (List.getElem?_eq_some_iff.1 h).2]
theorem ft_len {f : Ft} (h : f.hs.length ≤ 10) : f.cells.length = 14 := by
 unfold Ft.cells Pc.cells i64s
 simp
 omega
theorem ft_scal (f : Ft) : scalars f.cells = true := by
 show scalars ([AVal.int .i64 f.x.height, .int .i64 f.x.stiff, .int .i64 f.x.rise, .int .i64 f.x.full] ++ i64s _) = true
 show cond true (cond true (cond true (cond true (scalars (i64s _)) false) false) false) false = true
 rw [scal_ints]
 rfl
theorem fate_ok {R : RoadV} (O : R.Ok) {lo : Nat} {gp ge : AVal} {h : AH} (A : GroundAt h R lo gp ge) {part : Int} {x : Pc} (hx : x.In 0) {w : List Int} (hw : w.length = 10) (hl : LoadsOk R.es w) {n : Int} :
  Runs Tryz.prog 139 [.agg [gp, ge], .int .i64 part, .agg x.cells, .agg (haulC w n)] h (fun en h' => en = .ret (.tuple [.agg ((fateV R.es part x w).getD zeroFt).cells, .bool (fateV R.es part x w).isSome]) ∧ Ext h h') := by
 have hne := O.ne
 have hE := A.esl
 have hlen := hE.len
 rw [List.length_map] at hlen
 obtain ⟨x0', hx0'⟩ : ∃ x', x' = x := ⟨_, rfl⟩
 have hxc : x.cells = [.int .i64 x.height, .int .i64 x.stiff, .int .i64 x.rise, .int .i64 x.full] := rfl
 have hhl : (haulC w n).length = 11 := by simp [haulC, i64s, hw]
 rw [hxc]
 have e0 : Ext h h := Ext.refl _
 refine Runs.intro aFunc139 rfl rfl rfl rfl fun rest => ?_
 refine Go.seq noJ_ok ?_
 refine Go.region noJ_ok rfl ?_
 refine GoR.box rfl rfl rfl rfl rfl rfl fun h0 x0 f0 => ?_
 have := e0.1
 replace e0 := e0.trans x0
 have := f0.1
 refine GoR.box rfl rfl rfl rfl rfl rfl fun h1 x1 f1 => ?_
 have := e0.1
 have := f0.1
 replace f0 := f0.ext x1
 replace e0 := e0.trans x1
 have := f1.1
 refine GoR.box rfl rfl rfl rfl rfl rfl fun h2 x2 f2 => ?_
 have := e0.1
 have := f1.1
 have := f0.1
 replace f1 := f1.ext x2
 replace f0 := f0.ext x2
 replace e0 := e0.trans x2
 have := f2.1
 refine GoR.alloc rfl rfl rfl zt87 rfl rfl fun h3 x3 f3 => ?_
 have := e0.1
 have := f2.1
 have := f1.1
 have := f0.1
 replace f2 := f2.ext x3
 replace f1 := f1.ext x3
 replace f0 := f0.ext x3
 replace e0 := e0.trans x3
 have := f3.1
 refine GoR.op rfl rfl rfl rfl ?_
 refine GoR.end ?_
 iterate 2 refine Go.seq noJ_ok ?_
 refine Go.region noJ_ok rfl ?_
 refine GoR.op rfl rfl (fa77_1 rfl) rfl ?_
 refine GoR.op rfl rfl (ld75 rfl f0 rfl) rfl ?_
 refine GoR.op rfl rfl (aOp_lenSlice Tryz.underlying75 rfl (by assumption)) rfl ?_
 refine GoR.op rfl rfl rfl rfl ?_
 refine GoR.end ?_
 refine Go.block noJ_ok ?_
 rw [cells_agg] at f2
 obtain ⟨rr, hrr⟩ : ∃ rr, fateV R.es part x w = rr := ⟨_, rfl⟩
 have hb0 := f0.1
 have hb1 := f1.1
 have hb2 := f2.1
 have hb3 := f3.1
 have hn0 := x0.1
 have hn1 := x1.1
 have hn2 := x2.1
 have he0 := e0.1
 rw [hrr]
 refine Go.loopKeep (fun a : Nat × Pc × List Int => [(1, .int .i64 part), (4, .ptr h.next 0), (6, .ptr h0.next 0), (7, .ptr h1.next 0), (8, .ptr h2.next 0), (13, ge), (14, .int .i64 R.es.length), (15, .int .i64 (a.1 : Nat))])
  (fun m a h' => m + a.1 = R.es.length ∧ a.2.1.In (60 * a.1) ∧ a.2.2.length = a.1 ∧ fateGo part ((R.es.zip w).drop a.1) a.2.1 a.2.2 = rr ∧ Ext h h' ∧ Has h' h.next (.cells .plain [gp, ge] 77) ∧ Has h' h0.next (.cells .plain a.2.1.cells 84) ∧ Has h' h1.next (.cells .plain (haulC w n) 126) ∧ Has h' h2.next (.cells .plain (AVal.int .i64 0 :: .int .i64 0 :: .int .i64 0 :: .int .i64 0 :: i64s (padZ a.2.2)) 87))
  (n := R.es.length) (0, x, []) ⟨rfl, rfl, rfl, rfl, rfl, rfl, rfl, rfl, trivial⟩ ⟨rfl, (by simpa using hx), rfl, hrr, e0, f0, f1, f2, f3⟩ ?_
 clear e0 f0 f1 f2 f3
 rintro m ⟨i, y, hs⟩ hc ⟨hm, hy, hhs, hgo, e0, f0, f1, f2, f3⟩ again
 dsimp only at hm hy hhs hgo f1 f3 ⊢
 have e9 : Ext hc hc := Ext.refl _
 by_cases hi : i < R.es.length
 ·obtain ⟨e, he⟩ : ∃ e, R.es[i]? = some e := ⟨R.es[i], by simp [hi]⟩
  obtain ⟨l, hl'⟩ : ∃ l, w[i]? = some l := ⟨w[i]'(by omega), by simp⟩
  have heO := O.e e (List.mem_of_getElem? he)
  have hlO := hl i e l he hl'
  obtain ⟨bq, off, q1, q2⟩ := (hE.ext e0).at (i := i) (l := [evC e]) (by rw [List.getElem?_map, he]; rfl)
  rw [List.length_map] at q1
  have hld : (haulC w n)[0 + i * 1]? = some (.int .i64 l) := by
   unfold haulC
   rw [Nat.zero_add, Nat.mul_one, List.getElem?_append_left (by simp [i64s]; omega)]
   unfold i64s
   rw [List.getElem?_map, hl']
   rfl
  have hi10 : i < 10 := by omega
  rw [drop_at (zip_at he hl')] at hgo
  unfold fateGo at hgo
  dsimp only at hgo
  have hyh := hy.h
  have hys := hy.s
  have hyf := hy.f
  have k1 := fun h => after_at heO hlO hy.s (by omega) hy.r (x := y) h
  have k3 := fun h => right_at heO (x := e.after y l) (p := part) h
  have hz := after_in heO hy hlO.1 hlO.2
  have hsm : sameA (evC e) (evC e) = true := by
   unfold evC
   split
   ·simp [sameA, sameAs, eqI_eq]
   ·split <;> simp [sameA, sameAs, eqI_eq]
  have hce : (evC e).cells = [evC e] := by
   unfold evC
   split
   ·rfl
   ·split <;> rfl
  have hnil : nilCheckOk Tryz.prog (.func (.method "bogworks/road.after") [evC e] []) = true := by
   unfold evC
   split
   ·kernel_rfl
   ·split <;> kernel_rfl
  obtain ⟨z, hzz⟩ : ∃ z, e.after y l = z := ⟨_, rfl⟩
  rw [hzz] at hz hgo k1 k3
  have hzc : z.cells = [.int .i64 z.height, .int .i64 z.stiff, .int .i64 z.rise, .int .i64 z.full] := rfl
  have hyc : y.cells = [.int .i64 y.height, .int .i64 y.stiff, .int .i64 y.rise, .int .i64 y.full] := rfl
  obtain ⟨ev, hev⟩ : ∃ ev, evC e = ev := ⟨_, rfl⟩
  rw [hev] at k1 k3 q2 hsm hce hnil
  rw [hyc] at f1 k1
  rw [hzc] at k1 k3
  obtain ⟨ff, fargs, k1, k2⟩ := k1 hc
  refine Go.seq noJ_ok ?_
  refine Go.region noJ_ok rfl ?_
  refine GoR.op rfl rfl (aOp_lss rfl rfl (r := true) (decide_eq_true (by omega))) rfl ?_
  refine GoR.end ?_
  refine Go.seq noJ_ok ?_
  refine Go.cond noJ_ok (b := true) rfl ?_
  refine Go.code noJ_ok ?_
  refine Go.seq noJ_ok ?_
  refine Go.block noJ_ok ?_
  refine Go.seq noJ_ok ?_
  refine Go.region noJ_ok rfl ?_
  refine GoR.op rfl rfl rfl rfl ?_
  refine GoR.op rfl rfl (aOp_indexAddr (i := i) Tryz.underlying75 sz169 rfl (by assumption) rfl (Nat.ble_eq_true_of_le (by omega))) rfl ?_
  refine GoR.op rfl rfl ((aOp_loadE1 (k := 0) ag169 rfl q2 rfl)) rfl ?_
  iterate 2 refine GoR.op rfl rfl rfl rfl ?_
  refine GoR.end ?_
  refine Go.seq noJ_ok ?_
  refine Go.drawnE plan139_0 ?_
  refine GoE.quiet rfl rfl rfl rfl ?_
  refine GoE.quiet rfl rfl (ld84 rfl f1 rfl) rfl ?_
  refine GoE.quiet rfl rfl rfl rfl ?_
  refine GoE.quiet rfl rfl (fa126_0 rfl) rfl ?_
  refine GoE.quiet rfl rfl (aOp_indexAddrArr (i := i) Tryz.underlying85 sz3 rfl rfl (Nat.ble_eq_true_of_le (by omega))) rfl ?_
  refine GoE.quiet rfl rfl (ld3 rfl f2 hld) rfl ?_
  refine GoE.quiet rfl rfl rfl rfl ?_
  refine GoE.quiet rfl rfl (aOp_nilCheck rfl hnil) rfl ?_
  refine GoE.quiet rfl rfl rfl rfl ?_
  refine GoE.call rfl rfl (aOp_invoke rfl rfl (k1)) (k2) (dropF_drop (show bit? 511 8 = true from rfl) (dropF_drop (show bit? 511 7 = true from rfl) (dropF_drop (show bit? 511 6 = true from rfl) (dropF_drop (show bit? 511 5 = true from rfl) (dropF_drop (show bit? 511 4 = true from rfl) (dropF_drop (show bit? 511 3 = true from rfl) (dropF_drop (show bit? 511 2 = true from rfl) (dropF_drop (show bit? 511 1 = true from rfl) (dropF_drop (show bit? 511 0 = true from rfl) rfl))))))))) ?_ (by rintro _ _ ⟨q, _⟩; cases q)
  rintro v4 h4 ⟨q, x4⟩
  cases q
  replace f0 := f0.ext x4
  replace f1 := f1.ext x4
  replace f2 := f2.ext x4
  replace f3 := f3.ext x4
  replace e0 := e0.trans x4
  refine ⟨recheck_nil, _, rfl, ?_⟩
  refine GoE.store rfl rfl rfl rfl rfl rfl rfl f1 rfl sz84 rfl rfl rfl fun h5 u5 => ?_
  replace f0 := f0.upd u5 (by omega)
  replace f1 := u5.has f1
  replace f2 := f2.upd u5 (by omega)
  replace f3 := f3.upd u5 (by omega)
  replace e0 := e0.upd u5 (by omega)
  clear e9
  refine ⟨recheck_nil, ?_⟩
  refine GoE.end rfl ?_
  iterate 2 refine Go.seq noJ_ok ?_
  refine Go.region noJ_ok rfl ?_
  iterate 2 refine GoR.op rfl rfl rfl rfl ?_
  refine GoR.op rfl rfl (ld84 rfl f1 rfl) rfl ?_
  obtain ⟨fg, gargs, k5, k6⟩ := k3 h5
  cases hr : e.right part z with
  | false =>
   rw [hr] at hgo k6
   have hrn : rr = none := hgo.symm
   subst hrn
   have hll : (AVal.int .i64 0 :: .int .i64 0 :: .int .i64 0 :: .int .i64 0 :: i64s (padZ hs)).length = 14 := by unfold i64s padZ; simp; omega
   refine GoR.call rfl rfl (aOp_invoke rfl rfl (k5)) (k6) ?_ (by rintro _ _ ⟨q, _⟩; cases q)
   rintro _ h6 ⟨q, x6⟩
   cases q
   refine ⟨_, rfl, ?_⟩
   replace f0 := f0.ext x6
   replace f1 := f1.ext x6
   replace f2 := f2.ext x6
   replace f3 := f3.ext x6
   replace e0 := e0.trans x6
   refine GoR.op rfl rfl rfl rfl ?_
   refine GoR.end ?_
   refine Go.cond noJ_ok (b := true) rfl ?_
   refine Go.seq noJ_ok ?_
   refine Go.region noJ_ok rfl ?_
   refine GoR.op rfl rfl (aOp_build zt87 hu87 pl87 rfl rfl) rfl ?_
   refine GoR.store rfl rfl rfl rfl rfl rfl f3 rfl sz87 rfl rfl (splice_whole hll) fun h7 u7 => ?_
   replace f0 := f0.upd u7 (by omega)
   replace f1 := f1.upd u7 (by omega)
   replace f2 := f2.upd u7 (by omega)
   replace f3 := u7.has f3
   replace e0 := e0.upd u7 (by omega)
   refine GoR.op rfl rfl rfl rfl ?_
   refine GoR.end ?_
   exact Go.ret noJ_ok (ret_end (aResult_of Tryz.func139 rfl (aResults_c rfl f3 (inCells_agg ag87 sz87 rfl) rfl)) ⟨rfl, e0⟩)
  | true =>
   rw [hr] at hgo k6
   have hset := padZ_set (hs := hs) (by omega) z.height
   rw [hhs] at hset
   refine GoR.call rfl rfl (aOp_invoke rfl rfl (k5)) (k6) ?_ (by rintro _ _ ⟨q, _⟩; cases q)
   rintro _ h6 ⟨q, x6⟩
   cases q
   refine ⟨_, rfl, ?_⟩
   replace f0 := f0.ext x6
   replace f1 := f1.ext x6
   replace f2 := f2.ext x6
   replace f3 := f3.ext x6
   replace e0 := e0.trans x6
   refine GoR.op rfl rfl rfl rfl ?_
   refine GoR.end ?_
   refine Go.cond noJ_ok (b := false) rfl ?_
   refine Go.code noJ_ok ?_
   refine Go.region noJ_ok rfl ?_
   refine GoR.op rfl rfl rfl rfl ?_
   refine GoR.op rfl rfl (fa84_0 rfl) rfl ?_
   refine GoR.op rfl rfl (ld3 rfl f1 rfl) rfl ?_
   refine GoR.op rfl rfl (fa87_1 rfl) rfl ?_
   refine GoR.op rfl rfl (aOp_indexAddrArr (i := i) Tryz.underlying85 sz3 rfl rfl (Nat.ble_eq_true_of_le (by omega))) rfl ?_
   refine GoR.store rfl rfl rfl rfl rfl rfl f3 rfl sz3 rfl rfl ((show splice _ (0 + 4 + i * 1) _ = _ by rw [Nat.zero_add]; exact hset)) fun h7 u7 => ?_
   replace f0 := f0.upd u7 (by omega)
   replace f1 := f1.upd u7 (by omega)
   replace f2 := f2.upd u7 (by omega)
   replace f3 := u7.has f3
   replace e0 := e0.upd u7 (by omega)
   refine GoR.end ?_
   refine Go.inBlock noJ_ok ?_
   refine Go.region noJ_ok rfl ?_
   refine GoR.op rfl rfl (aOp_add rfl rfl (by constructor <;> omega) rfl) rfl ?_
   refine GoR.op rfl rfl rfl rfl ?_
   refine GoR.end ?_
   exact again (m - 1) (i + 1, z, hs ++ [z.height]) _ _ (by omega) ⟨rfl, rfl, rfl, rfl, rfl, rfl, rfl, rfl, trivial⟩ ⟨by dsimp only; omega, (by rw [show 60 * (((i + 1, z, hs ++ [z.height]) : Nat × Pc × List Int).1 : Int) = 60 * (i : Nat) + 60 by dsimp only; omega]; exact hz), by dsimp only; rw [List.length_append, hhs]; rfl, hgo, e0, f0, f1, f2, f3⟩
 ·have hin : i = R.es.length := by omega
  rw [hin, List.drop_eq_nil_of_le (by rw [List.length_zip]; omega)] at hgo
  unfold fateGo at hgo
  subst hgo
  have hyc : y.cells = [.int .i64 y.height, .int .i64 y.stiff, .int .i64 y.rise, .int .i64 y.full] := rfl
  rw [hyc] at f1
  have hsp : splice (AVal.int .i64 0 :: .int .i64 0 :: .int .i64 0 :: .int .i64 0 :: i64s (padZ hs)) (0 + 0) [AVal.int .i64 y.height, .int .i64 y.stiff, .int .i64 y.rise, .int .i64 y.full] = some (Ft.cells ⟨y, hs⟩) := by
   show _ = some (AVal.int .i64 y.height :: .int .i64 y.stiff :: .int .i64 y.rise :: .int .i64 y.full :: i64s (padZ hs))
   cases i64s (padZ hs) <;> rfl
  have hfl := ft_len (f := ⟨y, hs⟩) (by dsimp only; omega)
  have hfs := ft_scal ⟨y, hs⟩
  refine Go.seq noJ_ok ?_
  refine Go.region noJ_ok rfl ?_
  refine GoR.op rfl rfl (aOp_lss rfl rfl (r := false) (decide_eq_false (by omega))) rfl ?_
  refine GoR.end ?_
  refine Go.seq noJ_ok ?_
  refine Go.cond noJ_ok (b := false) rfl ?_
  refine Go.code noJ_ok ?_
  refine Go.seq noJ_ok ?_
  refine Go.region noJ_ok rfl ?_
  refine GoR.op rfl rfl (ld84 rfl f1 rfl) rfl ?_
  refine GoR.op rfl rfl (fa87_0 rfl) rfl ?_
  refine GoR.store rfl rfl rfl rfl rfl rfl f3 rfl sz84 rfl rfl hsp fun h4 u4 => ?_
  replace f3 := u4.has f3
  replace e0 := e0.upd u4 (by omega)
  clear e9
  refine GoR.end ?_
  refine Go.seq noJ_ok ?_
  refine Go.region noJ_ok rfl ?_
  refine GoR.op rfl rfl (ld87 rfl f3 (slice_all hfl)) rfl ?_
  refine GoR.store rfl rfl rfl rfl rfl rfl f3 rfl sz87 (by rw [cells_agg, hfl]; rfl) (by rw [cells_agg]; exact hfs) (by rw [cells_agg]; exact splice_whole rfl) fun h5 u5 => ?_
  replace f3 := u5.has f3
  replace e0 := e0.upd u5 (by omega)
  refine GoR.op rfl rfl rfl rfl ?_
  refine GoR.end ?_
  exact Go.ret noJ_ok (ret_end (aResult_of Tryz.func139 rfl (aResults_c rfl f3 (inCells_agg ag87 sz87 (slice_all hfl)) rfl)) ⟨rfl, e0⟩)
end Go.Proofs.YtkcimfopboelaaaGreat

namespace Go.Proofs.YtkcimfopboelaaaGreat
open Go Go.AbsE
set_option linter.unusedSimpArgs false
set_option maxRecDepth 100000
set_option maxHeartbeats 0
set_option linter.unusedVariables false
def cntM {α β : Type} (g : α → Option β) (L : List α) (j : Nat) : Nat := ((L.take j).filterMap g).length
theorem cntM_succ {α β : Type} {g : α → Option β} {L : List α} {j : Nat} {x : α} (h : L[j]? = some x) : cntM g L (j + 1) = cntM g L j + (g x).toList.length := by
 unfold cntM
 rw [List.take_add_one, h, Option.toList_some, List.filterMap_append, List.length_append]
 cases q : g x <;> simp [List.filterMap_cons, q]
theorem cntM_at {α β : Type} {g : α → Option β} {L : List α} {j : Nat} {x : α} {f : β} (h : L[j]? = some x) (hg : g x = some f) : (L.filterMap g)[cntM g L j]? = some f := by
 have e : L.filterMap g = (L.take j).filterMap g ++ f :: (L.drop (j + 1)).filterMap g := by
  have : L = L.take j ++ x :: L.drop (j + 1) := by rw [← drop_at h, List.take_append_drop]
  conv => lhs; rw [this, List.filterMap_append, List.filterMap_cons, hg]
 unfold cntM
 rw [e, List.getElem?_append_right (Nat.le_refl _), Nat.sub_self]
 rfl
theorem cntM_lt {α β : Type} {g : α → Option β} {L : List α} {j : Nat} {x : α} {f : β} (h : L[j]? = some x) (hg : g x = some f) : cntM g L j < (L.filterMap g).length := (List.getElem?_eq_some_iff.1 (cntM_at h hg)).1
theorem cntM_all {α β : Type} (g : α → Option β) (L : List α) : cntM g L L.length = (L.filterMap g).length := by unfold cntM; rw [List.take_length]
theorem go_len {part : Int} : ∀ {zs : List (EV × Int)} {x : Pc} {hs : List Int} {f : Ft}, fateGo part zs x hs = some f → f.hs.length = hs.length + zs.length
 | [], x, hs, f, h => by
  unfold fateGo at h
  cases h
  rfl
 | z :: r, x, hs, f, h => by
  unfold fateGo at h
  split at h
  ·have := go_len h
   rw [this, List.length_append, List.length_cons]
   simp
   omega
  ·cases h
theorem fate_len {es : List EV} {part : Int} {x : Pc} {w : List Int} {f : Ft} (h : fateV es part x w = some f) : f.hs.length ≤ es.length := by
 have := go_len h
 rw [List.length_zip] at this
 simp at this
 omega
structure FatesA (R : RoadV) (lo : Nat) (gp ge : AVal) (part : Int) (w : List Int) (n : Int) (bg bp bh : Nat) (h : AH) : Prop where
 g : Has h bg (.cells .plain [gp, ge] 77)
 p : Has h bp (.cells .plain [.int .i64 part] 3)
 w : Has h bh (.cells .plain (haulC w n) 126)
 A : GroundAt h R lo gp ge
theorem fates1_it {R : RoadV} (O : R.Ok) {lo : Nat} {gp ge : AVal} {part : Nat} {p : PV} (hp : R.ps[part]? = some p) {w : List Int} (hw : w.length = 10) (hl : LoadsOk R.es w) (n : Int) (bg bp bh : Nat) :
  IterF Tryz.prog 137 [] [.ptr bg 0, .ptr bp 0, .ptr bh 0] ((fatesV R.es part p w).map Ft.cells) (FatesA R lo gp ge part w n bg bp bh) := by
 intro y base J E h F hyc hys hA hb T j0
 show Runs Tryz.prog 137 [y, .ptr bg 0, .ptr bp 0, .ptr bh 0] h _
 rw [List.length_map]
 have hpO := O.p p (List.mem_of_getElem? hp)
 have hplt := (List.getElem?_eq_some_iff.1 hp).1
 have hnp := O.np
 have hne := O.ne
 have e0 : Ext h h := Ext.refl _
 obtain ⟨f0, f1, f2, ga⟩ := hA h (ExtF.of e0)
 obtain ⟨bq, off, q1, q2⟩ := ga.psl.at (i := part) (l := PV.cells p) (by rw [List.getElem?_map, hp]; rfl)
 rw [List.length_map] at q1
 refine Runs.intro aFunc137 rfl rfl rfl rfl fun rest => ?_
 refine Go.seq noJ_ok ?_
 refine Go.region noJ_ok rfl ?_
 refine GoR.box rfl rfl rfl rfl rfl rfl fun h3 x3 f3 => ?_
 have := e0.1
 have := f0.1
 have := f1.1
 have := f2.1
 replace f0 := f0.ext x3
 replace f1 := f1.ext x3
 replace f2 := f2.ext x3
 replace e0 := e0.trans x3
 have := f3.1
 refine GoR.end ?_
 refine Go.seq noJ_ok ?_
 refine Go.region noJ_ok rfl ?_
 refine GoR.op rfl rfl (fa77_0 rfl) rfl ?_
 refine GoR.op rfl rfl (ld74 rfl f0 rfl) rfl ?_
 refine GoR.op rfl rfl (ld3 rfl f1 rfl) rfl ?_
 refine GoR.op rfl rfl (aOp_indexAddr (i := part) Tryz.underlying74 sz157 rfl (by assumption) rfl (Nat.ble_eq_true_of_le (by omega))) rfl ?_
 refine GoR.op rfl rfl (aOp_loadE ag157 sz157 rfl (q2.ext e0)) rfl ?_
 refine GoR.op rfl rfl rfl rfl ?_
 refine GoR.end ?_
 refine Go.block noJ_ok ?_
 rw [hyc] at f3
 have hSl : ∀ b, F b → b < h.next := fun b q => T.ltJ j0 q
 have hA2 : ∀ h', ExtF F h3 h' → FatesA R lo gp ge part w n bg bp bh h' := fun h' x => hA h' (ExtF.trans (.of e0) (fun _ q => .inl q) x)
 have hlen0 : (fatesV R.es part p w).length = (p.pcs.filterMap fun x => fateV R.es part x w).length := rfl
 obtain ⟨g, hg⟩ : ∃ g, g = fun x => fateV R.es part x w := ⟨_, rfl⟩
 have hF : fatesV R.es part p w = p.pcs.filterMap g := by rw [hg]; rfl
 rw [hF] at T ⊢
 refine Go.rangeF (items := p.pcs.map Pc.cells) (A := fun _ => True) F (fun j hh G => J (cntM g p.pcs j) hh G) (fun c hh G => c = .ret ∧ ∃ k, k < (p.pcs.filterMap g).length ∧ E k hh G) rfl aFunc138 Tryz.func137 (pieces_it hpO) (fun h' x => trivial) (T.ext j0 e0) (fun _ _ _ _ j q => T.ltJ j q) (fun _ _ _ _ j q => by obtain ⟨_, k, _, e⟩ := j; exact T.ltE e q) ?_ ?_ ?_ ?_ ?_
 ·rintro k h1 h3 G j hn hk
  exact T.keepJ j hn fun b hb hq => hk b hb (hq.elim (fun q => .inl (by omega)) .inr)
 ·rintro c h1 h3 G ⟨q, k, hk, e⟩ hn hk'
  exact ⟨q, k, hk, T.keepE e hn fun b hb hq => hk' b hb (hq.elim (fun q => .inl (by omega)) .inr)⟩
 ·rintro j item hj
  refine ⟨_, rfl, ?_⟩
  rintro hh G lb r0 fr rest' Q' ij x1 hG hnl hlb fl hready contT contF
  have hht : h.next < h3.next := by assumption
  have hnS : ¬ F h.next := fun q => Nat.lt_irrefl _ (hSl _ q)
  have hnG : ¬ G h.next := fun q => (hG _ q).elim hnS fun q => by omega
  obtain ⟨x, hx, rfl⟩ : ∃ x, p.pcs[j]? = some x ∧ Pc.cells x = item := by
   rw [List.getElem?_map] at hj
   cases q : p.pcs[j]? with
   | none => rw [q] at hj; cases hj
   | some x => rw [q] at hj; exact ⟨x, rfl, Option.some.inj hj⟩
  have hbN := f3.1
  obtain ⟨f0', f1', f2', ga'⟩ := hA2 hh x1
  replace f3 := f3.extF x1 hnS
  have hxi := pcs_in hpO (List.mem_of_getElem? hx)
  have hx1 := x1.1
  have hb0 := f0'.1
  have hb1 := f1'.1
  have hb2 := f2'.1
  have hb3 := f3.1
  have hbl := fl.1
  have hh2 := e0.1
  clear f0 f1 f2 e0 ga q2
  have e0 : Ext hh hh := Ext.refl _
  unfold Pc.cells
  refine Go.region noJ_ok rfl ?_
  refine GoR.alloc rfl rfl rfl zt84 rfl rfl fun h4 x4 f4 => ?_
  have := e0.1
  have := fl.1
  have := f0'.1
  have := f1'.1
  have := f2'.1
  have := f3.1
  replace fl := fl.ext x4
  replace f0' := f0'.ext x4
  replace f1' := f1'.ext x4
  replace f2' := f2'.ext x4
  replace f3 := f3.ext x4
  replace e0 := e0.trans x4
  have := f4.1
  refine GoR.store rfl rfl rfl rfl rfl rfl f4 rfl sz84 rfl rfl rfl fun h5 u5 => ?_
  replace f4 := u5.has f4
  replace fl := fl.upd u5 (by omega)
  replace f0' := f0'.upd u5 (by omega)
  replace f1' := f1'.upd u5 (by omega)
  replace f2' := f2'.upd u5 (by omega)
  replace f3 := f3.upd u5 (by omega)
  replace e0 := e0.upd u5 (by omega)
  refine GoR.end ?_
  refine Go.beginRound fl hready fun h15 u15 => ?_
  have g0 := f0'.upd u15 (by omega)
  have g1 := f1'.upd u15 (by omega)
  have g2 := f2'.upd u15 (by omega)
  have g3 := f3.upd u15 (by omega)
  have g4 := f4.upd u15 (by omega)
  have g5 := u15.has fl
  have hn5 : hh.next ≤ h15.next := by rw [u15.1]; exact e0.1
  have hs5 : ∀ b, b < hh.next → b ≠ lb → h15.get b = hh.get b := fun b hb hne => by rw [u15.2.2 b hne, e0.2 b hb]
  have HA : GroundAt h15 R lo gp ge := (hA2 h15 ⟨by omega, fun b hb hnS' => by rw [hs5 b (by omega) (by omega), x1.2 b hb hnS']⟩).A
  clear e0 f0' f1' f2' f3 f4 fl ga'
  have e0 : Ext h15 h15 := Ext.refl _
  have hJ' : ∀ h9, Ext h15 h9 → J (cntM g p.pcs j) h9 G := fun h9 x9 => T.keepJ ij (by have := x9.1; omega) fun b hb hq => by
   rw [x9.2 b (by omega), hs5 b (by omega) (fun z => by subst z; exact hq.elim (fun q => by omega) hnl)]
  have hX' : ∀ h9, Ext h15 h9 → ExtF (fun b => G b ∨ b = lb) hh h9 := fun h9 x9 => ⟨by have := x9.1; omega, fun b hb hnn => by rw [x9.2 b (by omega), hs5 b hb fun q => hnn (.inr q)]⟩
  obtain ⟨f0, hf0⟩ : ∃ f0, f0 = g0 := ⟨_, rfl⟩
  obtain ⟨f1, hf1⟩ : ∃ f1, f1 = g1 := ⟨_, rfl⟩
  obtain ⟨f2, hf2⟩ : ∃ f2, f2 = g2 := ⟨_, rfl⟩
  obtain ⟨f3, hf3⟩ : ∃ f3, f3 = g3 := ⟨_, rfl⟩
  obtain ⟨f4, hf4⟩ : ∃ f4, f4 = g4 := ⟨_, rfl⟩
  obtain ⟨f5, hf5⟩ : ∃ f5, f5 = g5 := ⟨_, rfl⟩
  clear hf0 hf1 hf2 hf3 hf4 hf5 g0 g1 g2 g3 g4 g5
  have hfate := fun h A => fate_ok O (h := h) (lo := lo) (gp := gp) (ge := ge) A (part := part) hxi hw hl (n := n)
  have hhl : (haulC w n).length = 11 := by simp [haulC, i64s, hw]
  have hxc : x.cells = [.int .i64 x.height, .int .i64 x.stiff, .int .i64 x.rise, .int .i64 x.full] := rfl
  obtain ⟨r, hr⟩ : ∃ r, fateV R.es part x w = r := ⟨_, rfl⟩
  have hgx : g x = r := by rw [hg]; exact hr
  rw [hxc, hr] at hfate
  have hft : ((r.getD zeroFt).cells).length = 14 := by
   cases r with
   | none => rfl
   | some f =>
    refine ft_len ?_
    show f.hs.length ≤ 10
    have := fate_len hr
    omega
  have hfs := ft_scal (r.getD zeroFt)
  cases r with
  | none =>
   have hfc : (Option.getD none zeroFt : Ft).cells = zeroFt.cells := rfl
   refine Go.block noJ_ok ?_
   refine Go.seq noJ_ok ?_
   refine Go.region noJ_ok rfl ?_
   refine GoR.op rfl rfl (ld77 rfl f0 rfl) rfl ?_
   refine GoR.op rfl rfl (ld3 rfl f1 rfl) rfl ?_
   refine GoR.op rfl rfl (ld84 rfl f4 rfl) rfl ?_
   refine GoR.op rfl rfl (ld126 rfl f2 (slice_all hhl)) rfl ?_
   refine GoR.call rfl rfl (aOp_callFunc aFunc139 rfl) (hfate _ (HA.ext e0)) ?_ (by rintro _ _ ⟨q, _⟩; cases q)
   rintro v16 h16 ⟨q, x16⟩
   cases q
   refine ⟨_, rfl, ?_⟩
   replace f0 := f0.ext x16
   replace f1 := f1.ext x16
   replace f2 := f2.ext x16
   replace f3 := f3.ext x16
   replace f4 := f4.ext x16
   replace f5 := f5.ext x16
   replace e0 := e0.trans x16
   iterate 3 refine GoR.op rfl rfl rfl rfl ?_
   refine GoR.alloc rfl rfl rfl zt87 rfl rfl fun h17 x17 f17 => ?_
   have := e0.1
   have := f0.1
   have := f1.1
   have := f2.1
   have := f3.1
   have := f4.1
   have := f5.1
   replace f0 := f0.ext x17
   replace f1 := f1.ext x17
   replace f2 := f2.ext x17
   replace f3 := f3.ext x17
   replace f4 := f4.ext x17
   replace f5 := f5.ext x17
   replace e0 := e0.trans x17
   have := f17.1
   refine GoR.store rfl rfl rfl rfl rfl rfl f17 rfl sz87 rfl rfl rfl fun h18 u18 => ?_
   replace f17 := u18.has f17
   replace f0 := f0.upd u18 (by omega)
   replace f1 := f1.upd u18 (by omega)
   replace f2 := f2.upd u18 (by omega)
   replace f3 := f3.upd u18 (by omega)
   replace f4 := f4.upd u18 (by omega)
   replace f5 := f5.upd u18 (by omega)
   replace e0 := e0.upd u18 (by omega)
   refine GoR.op rfl rfl rfl rfl ?_
   refine GoR.end ?_
   refine Go.seq noJ_ok ?_
   refine Go.region noJ_ok rfl ?_
   iterate 2 refine GoR.op rfl rfl rfl rfl ?_
   iterate 4 refine GoR.skip rfl rfl rfl ?_
   refine GoR.op rfl rfl rfl rfl ?_
   refine GoR.end ?_
   refine Go.cond noJ_ok (b := false) rfl ?_
   refine Go.code noJ_ok ?_
   refine Go.inBlock noJ_ok ?_
   exact contT _ _ G (by rw [cntM_succ hx, hgx]; exact hJ' _ e0) (fun b q => .inl q) (hX' _ e0) f5
  | some f =>
   refine Go.block noJ_ok ?_
   refine Go.seq noJ_ok ?_
   refine Go.region noJ_ok rfl ?_
   refine GoR.op rfl rfl (ld77 rfl f0 rfl) rfl ?_
   refine GoR.op rfl rfl (ld3 rfl f1 rfl) rfl ?_
   refine GoR.op rfl rfl (ld84 rfl f4 rfl) rfl ?_
   refine GoR.op rfl rfl (ld126 rfl f2 (slice_all hhl)) rfl ?_
   refine GoR.call rfl rfl (aOp_callFunc aFunc139 rfl) (hfate _ (HA.ext e0)) ?_ (by rintro _ _ ⟨q, _⟩; cases q)
   rintro v16 h16 ⟨q, x16⟩
   cases q
   refine ⟨_, rfl, ?_⟩
   replace f0 := f0.ext x16
   replace f1 := f1.ext x16
   replace f2 := f2.ext x16
   replace f3 := f3.ext x16
   replace f4 := f4.ext x16
   replace f5 := f5.ext x16
   replace e0 := e0.trans x16
   iterate 3 refine GoR.op rfl rfl rfl rfl ?_
   refine GoR.alloc rfl rfl rfl zt87 rfl rfl fun h17 x17 f17 => ?_
   have := e0.1
   have := f0.1
   have := f1.1
   have := f2.1
   have := f3.1
   have := f4.1
   have := f5.1
   replace f3 := f3.ext x17
   replace f5 := f5.ext x17
   replace e0 := e0.trans x17
   have := f17.1
   refine GoR.store rfl rfl rfl rfl rfl rfl f17 rfl sz87 (beq_len hft) hfs (splice_whole hft.symm) fun h18 u18 => ?_
   replace f17 := u18.has f17
   replace f3 := f3.upd u18 (by omega)
   replace f5 := f5.upd u18 (by omega)
   replace e0 := e0.upd u18 (by omega)
   refine GoR.op rfl rfl rfl rfl ?_
   refine GoR.end ?_
   refine Go.seq noJ_ok ?_
   refine Go.region noJ_ok rfl ?_
   iterate 2 refine GoR.op rfl rfl rfl rfl ?_
   refine GoR.op rfl rfl (ld135 rfl f3 rfl) rfl ?_
   refine GoR.op rfl rfl (ld87 rfl f17 (slice_all hft)) rfl ?_
   obtain ⟨ax, a1, a2, a3⟩ := T.take (by rw [List.getElem?_map, cntM_at hx hgx]; rfl) (hJ' _ e0)
   have hn18 := e0.1
   refine GoR.does rfl rfl (aOp_callY rfl rfl a1) a2 a3 ?_ (by rintro _ _ ⟨_, _, _, ⟨q, _⟩ | ⟨q, _⟩⟩ <;> cases q)
   rintro v h8 ⟨x8, G', hG', ⟨q, j8⟩ | ⟨q, e8⟩⟩
   ·cases q
    refine ⟨_, rfl, ?_⟩
    iterate 2 refine GoR.op rfl rfl rfl rfl ?_
    refine GoR.end ?_
    refine Go.cond noJ_ok (b := false) rfl ?_
    refine Go.code noJ_ok ?_
    refine Go.inBlock noJ_ok ?_
    exact contT _ _ G' (by rw [cntM_succ hx, hgx]; exact j8) (fun b q => (hG' b q).elim .inl fun q => .inr (by omega)) ((hX' _ e0).trans (fun _ q => .inl (.inl q)) x8) (f5.extF x8 hnl)
   ·cases q
    refine ⟨_, rfl, ?_⟩
    iterate 2 refine GoR.op rfl rfl rfl rfl ?_
    refine GoR.end ?_
    refine Go.cond noJ_ok (b := true) rfl ?_
    exact contF _ _ _ _ G' (.inl rfl) ⟨rfl, _, cntM_lt hx hgx, e8⟩ (fun b q => (hG' b q).elim .inl fun q => .inr (by omega)) ((hX' _ e0).trans (fun _ q => .inl (.inl q)) x8) (f5.extF x8 hnl)
 ·intro d h30 G x30 hG hnd hd hdd ij
  have hx30 := x30.1
  have hh2 := e0.1
  refine Go.inBlock noJ_ok ?_
  refine Go.endC hdd fun h9 u9 => ⟨aResult_of Tryz.func137 rfl rfl, rfl, ⟨by rw [u9.1]; omega, fun b hb hnn => by rw [u9.2.2 b (by omega), x30.2 b (by omega) hnn, e0.2 b hb]⟩, G, fun b q => (hG b q).elim .inl fun q => .inr (by omega), .inl ?_⟩
  rw [List.length_map, cntM_all] at ij
  exact T.keepJ ij (by rw [u9.1]; exact Nat.le_refl _) fun b hb hq => u9.2.2 b (fun z => by subst z; exact hq.elim (fun q => by omega) hnd)
 ·rintro c d h30 G x30 hG hnd hd hdd ⟨rfl, k, hk, e⟩
  have hx30 := x30.1
  have hh2 := e0.1
  refine Go.retC hdd fun h9 u9 => ⟨aResult_of Tryz.func137 rfl rfl, rfl, ⟨by rw [u9.1]; omega, fun b hb hnn => by rw [u9.2.2 b (by omega), x30.2 b (by omega) hnn, e0.2 b hb]⟩, G, fun b q => (hG b q).elim .inl fun q => .inr (by omega), .inr ⟨k, hk, ?_⟩⟩
  exact T.keepE e (by rw [u9.1]; exact Nat.le_refl _) fun b hb hq => u9.2.2 b (fun z => by subst z; exact hq.elim (fun q => by omega) hnd)
end Go.Proofs.YtkcimfopboelaaaGreat

namespace Go.Proofs.YtkcimfopboelaaaGreat
open Go Go.AbsE
set_option linter.unusedSimpArgs false
set_option maxRecDepth 100000
set_option maxHeartbeats 0
set_option linter.unusedVariables false
theorem fill1 {n : Nat} {z cs : List AVal} (hz : z.length = n) (hc : cs.length = n) : aFillA (fun i => some (i * n, n)) (repl z 1) [(0, .agg cs)] = some cs := by
 subst hc
 have hr : repl z 1 = z := by show z ++ [] = z; rw [List.append_nil]
 rw [hr]
 show (match some (0 * cs.length, cs.length) with | some (off, size) => cond (Nat.beq (AVal.agg cs).cells.length size) (match splice z off (AVal.agg cs).cells with | some cs => some cs | none => none) none | none => none) = some cs
 rw [cells_agg]
 simp only [Nat.zero_mul, splice_whole hz, Nat.beq_refl, cond_true]
theorem append136_ok {g : FuncId} {gf : Func} {first cap : List AVal} {L : List Ft} {A : AH → Prop} (hg : aFunc Tryz.prog g = some gf) (it : IterF Tryz.prog g first cap (L.map Ft.cells) A) (hft : ∀ f, f ∈ L → f.cells.length = 14) (hL : L.length ≤ 1000) {h : AH} (hA : ∀ h', Ext h h' → A h') :
  Runs Tryz.prog 136 [.nilslice, .func (.func g) first cap] h (fun en h' => ∃ s, en = .ret s ∧ Ext h h' ∧ Grow h' 87 14 h.next s L.length (L.flatMap Ft.cells)) := by
 have e0 : Ext h h := Ext.refl _
 refine Runs.intro aFunc136 rfl rfl rfl rfl fun rest => ?_
 refine Go.seq noJ_ok ?_
 refine Go.region noJ_ok rfl ?_
 refine GoR.box rfl rfl rfl rfl rfl rfl fun h0 x0 f0 => ?_
 have := e0.1
 replace e0 := e0.trans x0
 have := f0.1
 refine GoR.op rfl rfl rfl rfl ?_
 refine GoR.end ?_
 iterate 2 refine Go.seq noJ_ok ?_
 refine Go.region noJ_ok rfl ?_
 refine GoR.op rfl rfl rfl rfl ?_
 refine GoR.end ?_
 refine Go.block noJ_ok ?_
 have hb0 := f0.1
 have hx0 := e0.1
 obtain ⟨F0, hF0⟩ : ∃ F0 : Nat → Prop, F0 = fun b => b = h.next := ⟨_, rfl⟩
 have eF : ∀ {hh}, ExtF F0 h0 hh → Ext h hh := fun x => x.low e0 fun b q => by rw [hF0] at q; omega
 refine Go.rangeF (items := L.map Ft.cells) (A := A) F0 (fun j hh G => ∃ s, Has hh h.next (.cells .plain [s] 120) ∧ Grow hh 87 14 h0.next s j ((L.take j).flatMap Ft.cells) ∧ ∀ b, G b ↔ (b = h.next ∨ s = .gsl b 0 0 j)) (fun c hh G => False)
  rfl hg Tryz.func136 it (fun h' x => hA _ (eF x)) ⟨.nilslice, f0, Grow.nil _ _ _ _, fun b => by rw [hF0]; simp⟩ ?_ (fun _ _ _ _ q => q.elim) ?_ (fun _ _ _ _ q => q.elim) ?_ ?_ (fun _ _ _ _ _ _ _ _ _ q => q.elim)
 ·rintro k hh G b ⟨s, f, gr, hG⟩ q
  rcases (hG b).1 q with rfl | q
  ·exact f.1
  ·exact (grow_own gr q).2
 ·rintro k h1 h2 G ⟨s, f, gr, hG⟩ hn hk
  refine ⟨s, f.keep hn (hk _ f.1 (.inr ((hG _).2 (.inl rfl)))), gr.keep hn (fun b b1 b2 q => hk b b2 (.inr ((hG b).2 (.inr q)))), hG⟩
 ·rintro j item hj
  refine ⟨_, rfl, ?_⟩
  rintro hh G lb r0 fr rest' Q' ⟨s, fs, gr, hG⟩ x1 hsub hnl hlb fl hready contT contF
  obtain ⟨x, hx, rfl⟩ : ∃ x, L[j]? = some x ∧ Ft.cells x = item := by
   rw [List.getElem?_map] at hj
   cases q : L[j]? with
   | none => rw [q] at hj; cases hj
   | some x => rw [q] at hj; exact ⟨x, rfl, Option.some.inj hj⟩
  have hxc := hft x (List.mem_of_getElem? hx)
  have hxs := ft_scal x
  have hjl := (List.getElem?_eq_some_iff.1 hj).1
  rw [List.length_map] at hjl
  have hnx := take_flat Ft.cells hx
  have hx1 := x1.1
  have hfb := fs.1
  have hfl := fl.1
  have hne : h.next ≠ lb := by omega
  have hgs := grow_scal gr
  have y9 : ExtF (fun b => G b ∨ b = lb) hh hh := ExtF.of (Ext.refl _)
  have e9 : Ext hh hh := Ext.refl _
  clear e0 f0
  refine Go.region noJ_ok rfl ?_
  refine GoR.alloc rfl rfl rfl zt87 rfl rfl fun h2 x2 f2 => ?_
  have := e9.1
  have := fs.1
  have := fl.1
  replace fs := fs.ext x2
  replace fl := fl.ext x2
  replace e9 := e9.trans x2
  replace y9 := y9.ext x2
  have := f2.1
  refine GoR.store rfl rfl rfl rfl rfl rfl f2 rfl sz87 (beq_len hxc) hxs (splice_whole hxc.symm) fun h3 u3 => ?_
  replace f2 := u3.has f2
  replace fs := fs.upd u3 (by omega)
  replace fl := fl.upd u3 (by omega)
  replace e9 := e9.upd u3 (by omega)
  replace y9 := y9.upd u3 (.inr (by omega))
  refine GoR.end ?_
  refine Go.beginRound fl hready fun h15 u15 => ?_
  replace fs := fs.upd u15 hne
  replace f2 := f2.upd u15 (by omega)
  replace fl := u15.has fl
  have z9 : ExtF (fun b => G b ∨ b = lb) hh h15 := y9.upd u15 (.inl (.inr rfl))
  have hz9 := z9.1
  have hn15 : h15.next = h3.next := u15.1
  have gr' : Grow h15 87 14 h0.next s j ((L.take j).flatMap Ft.cells) := gr.keep hz9 fun b b1 b2 q => by
   rw [u15.2.2 b (fun z => hnl (by subst z; exact (hG b).2 (.inr q))), e9.2 b b2]
  clear e9 y9
  have e9 : Ext h15 h15 := Ext.refl _
  refine Go.block noJ_ok ?_
  refine Go.region noJ_ok rfl ?_
  refine GoR.op rfl rfl (ld120 rfl fs rfl) rfl ?_
  refine GoR.op rfl rfl (ld87 rfl f2 (slice_all hxc)) rfl ?_
  refine GoR.buildSl rfl rfl (ps := [(0, .agg x.cells)]) (cs := x.cells) Tryz.underlying120 rfl sz87 zt87 rfl rfl (fill1 rfl hxc) rfl fun h16 x16 f16 => ?_
  have := e9.1
  have := fs.1
  have := f2.1
  have := fl.1
  replace fs := fs.ext x16
  replace fl := fl.ext x16
  replace e9 := e9.trans x16
  have := f16.1
  have G16 := gr'.ext e9
  have he9 := e9.1
  refine GoR.append1F rfl rfl rfl Tryz.underlying120 Tryz.underlying120 sz87 by87 zt87 rfl rfl rfl rfl f16 (beq_len hxc) hxs G16 (by omega) rfl rfl fun s17 h17 y17 g17 => ?_
  have hy17 := y17.1
  have z17 : ExtF (fun b => G b ∨ b = lb) hh h17 := (z9.ext e9).trans (fun b q => .inl (.inl ((hG b).2 (.inr q)))) y17
  replace fs := fs.extF y17 (fun q => by have := (grow_own G16 q).1; omega)
  replace fl := fl.extF y17 (fun q => hnl ((hG _).2 (.inr q)))
  have hs17 := grow_scal g17
  clear f16 f2 e9
  refine GoR.store rfl rfl rfl rfl rfl rfl fs rfl sz120 (by rw [hs17.2]; rfl) (by rw [hs17.2]; exact hs17.1) (by rw [hs17.2]; rfl) fun h18 u18 => ?_
  replace fs := u18.has fs
  replace fl := fl.upd u18 (by omega)
  refine GoR.end ?_
  refine Go.inBlock noJ_ok ?_
  refine contT _ _ (fun b => b = h.next ∨ s17 = .gsl b 0 0 (j + 1)) ⟨s17, fs, ?_, fun b => Iff.rfl⟩ ?_ ?_ fl
  ·rw [hnx]
   refine (g17.low (by omega)).keep (by rw [u18.1]; exact Nat.le_refl _) fun b b1 b2 q => u18.2.2 b (fun z => ?_)
   have := (grow_own g17 q).1
   omega
  ·rintro b (q | q)
   ·exact .inl ((hG b).2 (.inl q))
   ·have := (grow_own g17 q).1
    exact .inr (by omega)
  ·exact z17.upd u18 (.inl (.inl ((hG _).2 (.inl rfl))))
 ·rintro d h3 G x3 hG hnd hd hdd ⟨s, fs, gr, hG'⟩
  rw [List.length_map, List.take_length] at gr
  have e9 := eF x3
  have hx3 := x3.1
  clear e0 f0
  refine Go.inBlock noJ_ok ?_
  refine Go.seq noJ_ok ?_
  refine Go.region noJ_ok rfl ?_
  refine GoR.op rfl rfl (ld120 rfl fs rfl) rfl ?_
  refine GoR.op rfl rfl rfl rfl ?_
  refine GoR.end ?_
  exact Go.retC hdd fun h9 u9 => ⟨aResult_of Tryz.func136 rfl rfl, _, rfl, e9.upd u9 (by omega), (gr.low (by omega)).keep (by rw [u9.1]; exact Nat.le_refl _) fun b b1 b2 q => u9.2.2 b (fun z => hnd (by subst z; exact (hG' _).2 (.inr (by rw [← List.length_map (f := Ft.cells)] at q; exact q))))⟩
theorem collect_ok {g : FuncId} {gf : Func} {first cap : List AVal} {L : List Ft} {A : AH → Prop} (hg : aFunc Tryz.prog g = some gf) (it : IterF Tryz.prog g first cap (L.map Ft.cells) A) (hft : ∀ f, f ∈ L → f.cells.length = 14) (hL : L.length ≤ 1000) {h : AH} (hA : ∀ h', Ext h h' → A h') :
  Runs Tryz.prog 98 [.func (.func g) first cap] h (fun en h' => ∃ s, en = .ret s ∧ Ext h h' ∧ Grow h' 87 14 h.next s L.length (L.flatMap Ft.cells)) := by
 have e0 : Ext h h := Ext.refl _
 refine Runs.intro aFunc98 rfl rfl rfl rfl fun rest => ?_
 refine Go.seq noJ_ok ?_
 refine Go.region noJ_ok rfl ?_
 refine GoR.op rfl rfl rfl rfl ?_
 refine GoR.end ?_
 refine Go.seq noJ_ok ?_
 refine Go.region noJ_ok rfl ?_
 refine GoR.op rfl rfl rfl rfl ?_
 refine GoR.call rfl rfl (aOp_callFunc aFunc136 rfl) (append136_ok hg it hft hL hA) ?_ (by rintro _ _ ⟨s, q, _, _⟩; cases q)
 rintro v0 h0 ⟨s, q, x0, f0⟩
 cases q
 refine ⟨_, rfl, ?_⟩
 replace e0 := e0.trans x0
 refine GoR.op rfl rfl rfl rfl ?_
 refine GoR.end ?_
 exact Go.ret noJ_ok (ret_end (aResult_of Tryz.func98 rfl rfl) ⟨_, rfl, e0, (by assumption)⟩)
end Go.Proofs.YtkcimfopboelaaaGreat

namespace Go.Proofs.YtkcimfopboelaaaGreat
open Go Go.AbsE
set_option linter.unusedSimpArgs false
set_option maxRecDepth 100000
set_option maxHeartbeats 0
set_option linter.unusedVariables false
theorem haulC_len {w : List Int} (hw : w.length = 10) (n : Int) : (haulC w n).length = 11 := by simp [haulC, i64s, hw]
theorem haulC_scal (w : List Int) (n : Int) : scalars (haulC w n) = true := by
 have : haulC w n = i64s (w ++ [n]) := by simp [haulC, i64s]
 rw [this]
 exact scal_ints _
theorem haulC_ints (w : List Int) (n : Int) : haulC w n = i64s (w ++ [n]) := by simp [haulC, i64s]
theorem fates_ok {R : RoadV} {lo : Nat} {gp ge : AVal} {part : Int} {w : List Int} {n : Int} {h : AH} (A : GroundAt h R lo gp ge) :
  Runs Tryz.prog 99 [.agg [gp, ge], .int .i64 part, .agg (haulC w n)] h (fun en h' => ∃ bg bp bh, en = .ret (.func (.func 137) [] [.ptr bg 0, .ptr bp 0, .ptr bh 0]) ∧ Ext h h' ∧ FatesA R lo gp ge part w n bg bp bh h' ∧ h.next ≤ bg ∧ h.next ≤ bp ∧ h.next ≤ bh) := by
 have e0 : Ext h h := Ext.refl _
 refine Runs.intro aFunc99 rfl rfl rfl rfl fun rest => ?_
 refine Go.seq noJ_ok ?_
 refine Go.region noJ_ok rfl ?_
 refine GoR.box rfl rfl rfl rfl rfl rfl fun h0 x0 f0 => ?_
 have := e0.1
 replace e0 := e0.trans x0
 have := f0.1
 refine GoR.box rfl rfl rfl rfl rfl rfl fun h1 x1 f1 => ?_
 have := e0.1
 have := f0.1
 replace f0 := f0.ext x1
 replace e0 := e0.trans x1
 have := f1.1
 refine GoR.box rfl rfl rfl rfl rfl rfl fun h2 x2 f2 => ?_
 have := e0.1
 have := f1.1
 have := f0.1
 replace f1 := f1.ext x2
 replace f0 := f0.ext x2
 replace e0 := e0.trans x2
 have := f2.1
 refine GoR.op rfl rfl rfl rfl ?_
 refine GoR.end ?_
 refine Go.seq noJ_ok ?_
 refine Go.region noJ_ok rfl ?_
 iterate 2 refine GoR.op rfl rfl rfl rfl ?_
 refine GoR.end ?_
 exact Go.ret noJ_ok (ret_end (aResult_of Tryz.func99 rfl rfl) ⟨_, _, _, rfl, e0, ⟨f0, f1, f2, A.ext e0⟩, by omega, by omega, by omega⟩)
theorem fates_fit {R : RoadV} (O : R.Ok) {part : Int} {p : PV} {w : List Int} : ∀ f, f ∈ fatesV R.es part p w → f.cells.length = 14 := by
 intro f hf
 obtain ⟨x, _, hx⟩ := mem_fates.1 hf
 have := fate_len hx
 have := O.ne
 exact ft_len (by omega)
theorem pcs_len (p : PV) (hp : p.Ok) : p.pcs.length ≤ 27 := by
 rw [pcs_is]
 obtain ⟨o1, o2, o3, o4⟩ := hp
 have h1 : ∀ a n, (pcB p a n).length = n * (p.rh - p.rl + 1).toNat := by
  intro a n
  induction n with
  | zero => simp [pcB]
  | succ n ih => rw [pcB_succ, ih, Nat.succ_mul]
 have h2 : ∀ n, (pcA p n).length = n * ((p.sh - p.sl + 1).toNat * (p.rh - p.rl + 1).toNat) := by
  intro n
  induction n with
  | zero => simp [pcA]
  | succ n ih => rw [pcA_succ, ih, h1, Nat.succ_mul]
 rw [h2]
 have a1 : (p.hh - p.hl + 1).toNat ≤ 3 := by omega
 have a2 : (p.sh - p.sl + 1).toNat ≤ 3 := by omega
 have a3 : (p.rh - p.rl + 1).toNat ≤ 3 := by omega
 calc (p.hh - p.hl + 1).toNat * ((p.sh - p.sl + 1).toNat * (p.rh - p.rl + 1).toNat) ≤ 3 * (3 * 3) := Nat.mul_le_mul a1 (Nat.mul_le_mul a2 a3)
  _ = 27 := rfl
theorem fates_few {R : RoadV} {part : Int} {p : PV} (hp : p.Ok) {w : List Int} : (fatesV R.es part p w).length ≤ 27 := by
 have h1 := List.length_filterMap_le (fun x => fateV R.es part x w) p.pcs
 have h2 := pcs_len p hp
 unfold fatesV
 omega
theorem can_ok {R : RoadV} (O : R.Ok) {lo : Nat} {gp ge : AVal} {part : Nat} {p : PV} (hp : R.ps[part]? = some p) {w : List Int} (hw : w.length = 10) (hl : LoadsOk R.es w) {n : Int} {h : AH} (A : GroundAt h R lo gp ge) :
  Runs Tryz.prog 146 [.agg [gp, ge], .int .i64 part, .agg (haulC w n)] h (fun en h' => en = .ret (.bool (!(fatesV R.es part p w).isEmpty)) ∧ Ext h h') := by
 have hhl := haulC_len hw n
 have e0 : Ext h h := Ext.refl _
 refine Runs.intro aFunc146 rfl rfl rfl rfl fun rest => ?_
 refine Go.seq noJ_ok ?_
 refine Go.region noJ_ok rfl ?_
 refine GoR.box rfl rfl rfl rfl rfl rfl fun h0 x0 f0 => ?_
 have := e0.1
 replace e0 := e0.trans x0
 have := f0.1
 refine GoR.box rfl rfl rfl rfl rfl rfl fun h1 x1 f1 => ?_
 have := e0.1
 have := f0.1
 replace f0 := f0.ext x1
 replace e0 := e0.trans x1
 have := f1.1
 refine GoR.alloc rfl rfl rfl zt4 rfl rfl fun h2 x2 f2 => ?_
 have := e0.1
 have := f1.1
 have := f0.1
 replace f1 := f1.ext x2
 replace f0 := f0.ext x2
 replace e0 := e0.trans x2
 have := f2.1
 refine GoR.end ?_
 iterate 2 refine Go.seq noJ_ok ?_
 refine Go.region noJ_ok rfl ?_
 refine GoR.op rfl rfl (ld77 rfl f0 rfl) rfl ?_
 refine GoR.op rfl rfl rfl rfl ?_
 refine GoR.op rfl rfl (ld126 rfl f1 (slice_all hhl)) rfl ?_
 refine GoR.call rfl rfl (aOp_callFunc aFunc99 rfl) (fates_ok (A.ext e0)) ?_ (by rintro _ _ ⟨bg, bp, bh, q, _, FA, l1, l2, l3⟩; cases q)
 rintro v3 h3 ⟨bg, bp, bh, q, x3, FA, l1, l2, l3⟩
 cases q
 refine ⟨_, rfl, ?_⟩
 have := e0.1
 replace f2 := f2.ext x3
 replace f1 := f1.ext x3
 replace f0 := f0.ext x3
 replace e0 := e0.trans x3
 refine GoR.end ?_
 refine Go.block noJ_ok ?_
 have hb2 := f2.1
 have hx0 := e0.1
 have hf0 := f0.1
 have hf1 := f1.1
 refine Go.rangeF (items := (fatesV R.es part p w).map Ft.cells) (A := FatesA R lo gp ge part w n bg bp bh) (fun b => b = h1.next) (fun j hh G => j = 0 ∧ Has hh h1.next (.cells .plain [.bool false] 4) ∧ ∀ b, G b ↔ b = h1.next) (fun c hh G => c = .ret ∧ (fatesV R.es part p w).isEmpty = false ∧ Has hh h1.next (.cells .plain [.bool true] 4) ∧ ∀ b, G b ↔ b = h1.next)
  rfl aFunc137 Tryz.func146 (fates1_it O hp hw hl n bg bp bh) ?_ ⟨rfl, f2, fun b => Iff.rfl⟩ ?_ ?_ ?_ ?_ ?_ ?_ ?_
 ·intro h' x
  refine ⟨FA.g.extF x (by omega), FA.p.extF x (by omega), FA.w.extF x (by omega), ?_⟩
  exact A.ext (x.low e0 fun b q => by omega)
 ·rintro k hh G b ⟨_, f, hG⟩ q
  rw [(hG b).1 q]
  exact f.1
 ·rintro c hh G b ⟨_, _, f, hG⟩ q
  rw [(hG b).1 q]
  exact f.1
 ·rintro k h4 h5 G ⟨q, f, hG⟩ hn hk
  exact ⟨q, f.keep hn (hk _ f.1 (.inr ((hG _).2 rfl))), hG⟩
 ·rintro c h4 h5 G ⟨q, z, f, hG⟩ hn hk
  exact ⟨q, z, f.keep hn (hk _ f.1 (.inr ((hG _).2 rfl))), hG⟩
 ·rintro j item hj
  refine ⟨_, rfl, ?_⟩
  rintro hh G lb r0 fr rest' Q' ⟨rfl, f2', hG⟩ x1 hsub hnl hlb fl hready contT contF
  have hjl := (List.getElem?_eq_some_iff.1 hj).1
  rw [List.length_map] at hjl
  have hne : (fatesV R.es part p w).isEmpty = false := by
   cases q : fatesV R.es part p w with
   | nil => rw [q] at hjl; simp at hjl
   | cons a b => rfl
  have hx1 := x1.1
  have hfl := fl.1
  have hlne : h1.next ≠ lb := by omega
  have y9 : ExtF (fun b => G b ∨ b = lb) hh hh := ExtF.of (Ext.refl _)
  clear e0 f0 f1 f2
  refine Go.code noJ_ok ?_
  refine Go.beginRound fl hready fun h15 u15 => ?_
  replace f2' := f2'.upd u15 hlne
  replace fl := u15.has fl
  replace y9 := y9.upd u15 (.inl (.inr rfl))
  refine Go.block noJ_ok ?_
  refine Go.seq noJ_ok ?_
  refine Go.region noJ_ok rfl ?_
  refine GoR.store rfl rfl rfl rfl rfl rfl f2' rfl sz4 rfl rfl rfl fun h16 u16 => ?_
  replace f2' := u16.has f2'
  replace fl := fl.upd u16 (by omega)
  refine GoR.end ?_
  exact contF _ _ _ _ G (.inl rfl) ⟨rfl, hne, f2', hG⟩ (fun b q => .inl q) (y9.upd u16 (.inl (.inl ((hG _).2 rfl)))) fl
 ·rintro d h30 G x30 hG hnd hd hdd ⟨hz, f, _⟩
  rw [List.length_map] at hz
  have hnil : fatesV R.es part p w = [] := List.length_eq_zero_iff.1 hz
  rw [hnil]
  have e9 := x30.low e0 fun b q => by omega
  have hx30 := x30.1
  clear e0 f0 f1 f2
  refine Go.inBlock noJ_ok ?_
  refine Go.seq noJ_ok ?_
  refine Go.region noJ_ok rfl ?_
  refine GoR.store rfl rfl rfl rfl rfl rfl f rfl sz4 rfl rfl rfl fun h31 u31 => ?_
  replace hdd := hdd.upd u31 (by omega)
  replace f := u31.has f
  replace e9 := e9.upd u31 (by omega)
  refine GoR.end ?_
  refine Go.retC hdd fun h9 u9 => ⟨aResult_of Tryz.func146 rfl (aResults_cell rfl (f.upd u9 (by omega)) (inCells_one ag4 rfl)), rfl, e9.upd u9 (by omega)⟩
 ·rintro c d h30 G x30 hG hnd hd hdd ⟨rfl, hz, f, hG'⟩
  have e9 := x30.low e0 fun b q => by omega
  have hx30 := x30.1
  have : d ≠ h1.next := fun z => hnd (by rw [z]; exact (hG' _).2 rfl)
  rw [hz]
  refine Go.retC hdd fun h9 u9 => ⟨aResult_of Tryz.func146 rfl (aResults_cell rfl (f.upd u9 (fun z => this z.symm)) (inCells_one ag4 rfl)), rfl, e9.upd u9 (by omega)⟩
end Go.Proofs.YtkcimfopboelaaaGreat
