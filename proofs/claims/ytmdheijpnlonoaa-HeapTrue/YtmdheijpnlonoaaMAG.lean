import Derived.Test.YtmdheijpnlonoaaMAF
set_option linter.unusedSimpArgs false
namespace Go.AbsE
open Go
section
variable {P : Program}
def Does (P : Program) (x : ANext) (R : AEnd → AH → Prop) : Prop :=
  ∀ (fr : AFr) (rest : List AFr) (Q : AM → Prop), (∀ v h', R (.ret v) h' → ∃ fr', fr.finish v = some fr' ∧ Reach P ⟨fr' :: rest, h'⟩ Q) → (∀ chain h', R (.pan chain) h' → Reach P ⟨fr.raise chain :: rest, h'⟩ Q) →
    ∃ m, aNext P noJ fr rest x = some m ∧ Reach P m Q
theorem Does.enter {f : FuncId} {args : List AVal} {h : AH} {R : AEnd → AH → Prop} (k : Runs P f args h R) : Does P (.enter f args h) R := by
  intro fr rest Q hr hp
  obtain ⟨f1, e1, e2⟩ := k
  refine ⟨⟨f1 :: fr :: rest, h⟩, ?_, Reach.call noJ_ok ⟨f1, e1, e2⟩ e1 hr hp⟩
  show one h (fr :: rest) (aFrame P f args false) = _
  rw [e1]
  rfl
theorem Does.mono {x : ANext} {R R' : AEnd → AH → Prop} (k : Does P x R) (i : ∀ en h', R en h' → R' en h') : Does P x R' :=
  fun fr rest Q hr hp => k fr rest Q (fun v h' q => hr v h' (i _ _ q)) (fun c h' q => hp c h' (i _ _ q))
theorem GoR.does {c : FC} {k : List AItem} {Q : AM → Prop} {all : Array Oper} {l : List Oper} {o : Oper} {rest : List Oper} {i : Nat} {t : Tr AVal} {h : AH} {x : ANext} {R : AEnd → AH → Prop} (hl : l = o :: rest)
    (hw : wantedA all t o = some true) (hx : aOp P t h o = some x) (hn : ∀ v h', x ≠ .val v h') (hd : Does P x R)
    (hret : ∀ v h', R (.ret v) h' → ∃ t', (prepD c.n o).run t v = some t' ∧ GoR P noJ c k Q (runOps P c.n all rest (i + 1) t' h')) (hpan : ∀ chain h', R (.pan chain) h' → FLeft P c (.panicking chain) t h' Q) :
    GoR P noJ c k Q (runOps P c.n all l i t h) := by
  obtain ⟨m, h1, h2⟩ := hd (c.fr (.inRegion all i (o :: rest) :: k) t) c.rest Q (fun v h' q => by
    obtain ⟨t', q1, q2⟩ := hret v h' q
    exact ⟨c.fr (.inRegion all (i + 1) rest :: k) t', finishRun_region q1, Go.inRegion noJ_ok q2⟩) (fun chain h' q => hpan chain h' q _)
  exact GoR.susp hl hw hx hn h1 h2
theorem set_upd (h : AH) (b : Nat) (o : ABlk) : ∃ h', h.set b (some o) = some h' ∧ Upd h b o h' := by
  have : ∃ h', h.set b (some o) = some h' := by obtain ⟨t, nx⟩ := h; exact ⟨_, rfl⟩
  obtain ⟨h', q⟩ := this
  obtain ⟨q1, q2⟩ := AH.get_set q
  exact ⟨h', q, q1, by rw [q2, if_pos rfl], fun b' hb' => by rw [q2, if_neg hb']⟩
theorem getLoop {h : AH} {l : Nat} {r : ALoop} (hl : Has h l (.loop r)) : aGetLoop h l = some r := by
  unfold aGetLoop
  rw [hl.2]
theorem Does.round {l : Nat} {items : List AVal} {h : AH} {r : ALoop} {t : Tr AVal} {fn : Func} {R : AEnd → AH → Prop} (hl : Has h l (.loop r)) (hp : putArgs r.tmps r.n r.params items = some t) (hf : P.funcs[r.fn]? = some fn)
    (walk : ∀ (fr : AFr) (rest : List AFr) (Q : AM → Prop), (∀ v h', R (.ret v) h' → ∃ fr', fr.finish v = some fr' ∧ Reach P ⟨fr' :: rest, h'⟩ Q) → (∀ chain h', R (.pan chain) h' → Reach P ⟨fr.raise chain :: rest, h'⟩ Q) →
      Go P ⟨r.fn, r.n, [], false, some l, fr :: rest⟩ [.code r.assign, .beginRound, .code r.body] t h Q) : Does P (.round l items h) R := by
  intro fr rest Q hr hpn
  refine ⟨_, ?_, walk fr rest Q hr hpn⟩
  show nextRound P fr rest h l items = _
  unfold nextRound
  simp only [getLoop hl, hp, hf]
  rfl
theorem Go.beginRound {fn n : Nat} {ds : List ADef} {dk : Bool} {l : Nat} {rst : List AFr} {k : List AItem} {Q : AM → Prop} {t : Tr AVal} {h : AH} {r : ALoop} (hl : Has h l (.loop r)) (hs : r.state = .ready)
    (g : ∀ h', Upd h l (.loop { r with state := .busy }) h' → Go P ⟨fn, n, ds, dk, some l, rst⟩ k t h' Q) : Go P ⟨fn, n, ds, dk, some l, rst⟩ (.beginRound :: k) t h Q := by
  obtain ⟨h', q1, q2⟩ := set_upd h l (.loop { r with state := .busy })
  refine Go.slow noJ_ok rfl (m := ⟨⟨fn, n, t, k, ds, .run, dk, some l⟩ :: rst, h'⟩) ?_ (g h' q2)
  show doBegin ⟨fn, n, t, .beginRound :: k, ds, .run, dk, some l⟩ rst h k = _
  unfold doBegin
  simp only [getLoop hl, hs, q1]
theorem Go.roundEnd {fn n : Nat} {l : Nat} {fr : AFr} {rst : List AFr} {Q : AM → Prop} {t : Tr AVal} {h : AH} {r : ALoop} (hl : Has h l (.loop r))
    (g : ∀ h', Upd h l (.loop { r with state := .ready, pending := none }) h' → ∃ fr', fr.finish (.bool true) = some fr' ∧ Reach P ⟨fr' :: rst, h'⟩ Q) : Go P ⟨fn, n, [], false, some l, fr :: rst⟩ [] t h Q := by
  obtain ⟨h', q1, q2⟩ := set_upd h l (.loop { r with state := .ready, pending := none })
  obtain ⟨fr', g1, g2⟩ := g h' q2
  refine Go.leave noJ_ok (m := ⟨fr' :: rst, h'⟩) ?_ g2
  show endRoundA false (fr :: rst) h l .ready none true = _
  unfold endRoundA
  simp only [getLoop hl, q1, cond_false, aReturn, g1, one]
theorem Go.roundRet {fn n : Nat} {l : Nat} {fr : AFr} {rst : List AFr} {k : List AItem} {Q : AM → Prop} {t : Tr AVal} {h : AH} {r : ALoop} (hl : Has h l (.loop r))
    (g : ∀ h', Upd h l (.loop { r with state := .done, pending := some .ret }) h' → ∃ fr', fr.finish (.bool false) = some fr' ∧ Reach P ⟨fr' :: rst, h'⟩ Q) : Go P ⟨fn, n, [], false, some l, fr :: rst⟩ (.code .ret :: k) t h Q := by
  obtain ⟨h', q1, q2⟩ := set_upd h l (.loop { r with state := .done, pending := some .ret })
  obtain ⟨fr', g1, g2⟩ := g h' q2
  refine Go.ret noJ_ok ⟨⟨fr' :: rst, h'⟩, ?_, g2⟩
  show endRoundA false (fr :: rst) h l .done (some .ret) false = _
  unfold endRoundA
  simp only [getLoop hl, q1, cond_false, aReturn, g1, one]
theorem GoR.exitOut {c : FC} {k : List AItem} {Q : AM → Prop} {id : Nat} {t : Tr AVal} {h : AH} (hk : exitA id k = none) (g : ∃ m', aLeave (c.fr [] t) c.rest h (some (.exit id)) = some m' ∧ Reach P m' Q) : GoR P noJ c k Q (.exit id t h) := by
  show (match exitA id k with | some k' => Go P c k' t h Q | none => ∃ m', aLeave (c.fr [] t) c.rest h (some (.exit id)) = some m' ∧ Reach P m' Q)
  rw [hk]
  exact g
theorem Go.roundExit {fn n : Nat} {l id : Nat} {fr : AFr} {rst : List AFr} {k : List AItem} {Q : AM → Prop} {t : Tr AVal} {h : AH} {r : ALoop} (hl : Has h l (.loop r)) (hk : exitA id k = none)
    (g : ∀ h', Upd h l (.loop { r with state := .done, pending := some (.exit id) }) h' → ∃ fr', fr.finish (.bool false) = some fr' ∧ Reach P ⟨fr' :: rst, h'⟩ Q) : Go P ⟨fn, n, [], false, some l, fr :: rst⟩ (.code (.exit id) :: k) t h Q := by
  obtain ⟨h', q1, q2⟩ := set_upd h l (.loop { r with state := .done, pending := some (.exit id) })
  obtain ⟨fr', g1, g2⟩ := g h' q2
  refine Go.code noJ_ok (GoR.exitOut hk ⟨⟨fr' :: rst, h'⟩, ?_, g2⟩)
  show endRoundA false (fr :: rst) h l .done (some (.exit id)) false = _
  unfold endRoundA
  simp only [getLoop hl, q1, cond_false, aReturn, g1, one]
theorem Go.rangeFunc {fn n : Nat} {ds : List ADef} {dk : Bool} {rst : List AFr} {k : List AItem} {Q : AM → Prop} {t : Tr AVal} {h : AH} {x : Operand} {params : Array Tmp} {assign body : Code} {g : FuncId} {gf : Func} {first cap : List AVal}
    (hx : ev t x = some (.func (.func g) first cap)) (hg : aFunc P g = some gf)
    (run : ∀ d l h2, h.next = d → d + 1 = l → Ext h h2 → Has h2 d (.deferred (some [])) → Has h2 l (.loop ⟨.ready, none, fn, n, t, params.toList, assign, body, d⟩) →
      ∃ R : AEnd → AH → Prop, Runs P g (first ++ [.yield l] ++ cap) h2 R ∧ (∀ chain h', ¬ R (.pan chain) h') ∧
      ∀ v h', R (.ret v) h' → ∃ r, Has h' l (.loop r) ∧ r.state ≠ .busy ∧ ∀ h3, Upd h' l (.loop { r with state := .exhausted }) h3 →
        Go P ⟨fn, n, .collected d :: ds, dk, none, rst⟩ (match r.pending with | some c => .code c :: k | none => k) t h3 Q) :
    Go P ⟨fn, n, ds, dk, none, rst⟩ (.code (.rangeFunc x params assign body) :: k) t h Q := by
  obtain ⟨h1, n1⟩ := new_some h (.deferred (some []))
  obtain ⟨_, e1, d1⟩ := new_ext n1
  obtain ⟨h2, n2⟩ := new_some h1 (.loop ⟨.ready, none, fn, n, t, params.toList, assign, body, h.next⟩)
  obtain ⟨_, e2, d2⟩ := new_ext n2
  have hnx : h.next + 1 = h1.next := by
    obtain ⟨tt, nx⟩ := h
    simp only [AH.new] at n1
    cases n1
    rfl
  obtain ⟨R, ⟨fr, hfr, hrun⟩, hpan, hret⟩ := run h.next h1.next h2 rfl hnx (e1.trans e2) (d1.ext e2) d2
  refine Go.slow noJ_ok rfl (m := ⟨fr :: ⟨fn, n, t, .inRangeFunc h1.next :: k, .collected h.next :: ds, .run, dk, none⟩ :: rst, h2⟩) ?_ ?_
  · show doRangeFunc P ⟨fn, n, t, .code (.rangeFunc x params assign body) :: k, ds, .run, dk, none⟩ rst h x params assign body k = _
    unfold doRangeFunc
    simp only [n1, n2, hx, aInvoke, aEnter, hg, hfr, one]
    rfl
  · refine Reach.call noJ_ok ⟨fr, hfr, hrun⟩ hfr (fun v h' q => ?_) (fun chain h' q => absurd q (hpan chain h'))
    obtain ⟨r, k1, k2, k3⟩ := hret v h' q
    refine ⟨⟨fn, n, t, .endRangeFunc h1.next :: k, .collected h.next :: ds, .run, dk, none⟩, rfl, ?_⟩
    obtain ⟨h3, s1, s2⟩ := set_upd h' h1.next (.loop { r with state := .exhausted })
    refine Go.slow (c := ⟨fn, n, .collected h.next :: ds, dk, none, rst⟩) noJ_ok rfl (m := ⟨⟨fn, n, t, (match r.pending with | some c => .code c :: k | none => k), .collected h.next :: ds, .run, dk, none⟩ :: rst, h3⟩) ?_ (k3 h3 s2)
    show doEndLoop ⟨fn, n, t, .endRangeFunc h1.next :: k, .collected h.next :: ds, .run, dk, none⟩ rst h' h1.next k = _
    unfold doEndLoop
    simp only [getLoop k1]
    cases hs : r.state with
    | busy => exact absurd hs k2
    | _ => simp only [s1]; cases r.pending <;> rfl
theorem FLeft.collected {f n : Nat} {ds : List ADef} {dk : Bool} {rd : Option Nat} {rest : List AFr} {t : Tr AVal} {h : AH} {Q : AM → Prop} {mode : AMode} {b : Nat} {calls : List ADef} (hm : mode ≠ .run) (hb : Has h b (.deferred (some calls)))
    (g : ∀ h', Upd h b (.deferred none) h' → FLeft P ⟨f, n, calls ++ ds, dk, rd, rest⟩ mode t h' Q) : FLeft P ⟨f, n, .collected b :: ds, dk, rd, rest⟩ mode t h Q := by
  intro todo
  obtain ⟨h', q1, q2⟩ := set_upd h b (.deferred none)
  have he : aUnwind P ⟨f, n, t, todo, .collected b :: ds, mode, dk, rd⟩ rest h = some ⟨⟨f, n, t, todo, calls ++ ds, mode, dk, rd⟩ :: rest, h'⟩ := by
    unfold aUnwind
    simp only [hb.2, q1]
  refine Reach.step noJ_ok (m' := ⟨⟨f, n, t, todo, calls ++ ds, mode, dk, rd⟩ :: rest, h'⟩) ?_ (g h' q2 todo)
  cases mode with
  | run => exact absurd rfl hm
  | _ => exact he
noncomputable def callY (P : Program) (y : AVal) (args : List AVal) (h : AH) : Option ANext :=
  match y with
  | .func fn first cap => aInvoke P fn cap (first ++ args) h
  | .yield l => some (.round l args h)
  | _ => none
theorem aOp_callY {t : Tr AVal} {h : AH} {dst : Option Tmp} {tt : TypeId} {pos : String} {after : Array Edge} {guard : Option (Nat × Bool)} {f : Operand} {xs : Array Operand} {tys : Array TypeId} {y : AVal} {args : List AVal} {x : ANext} (hf : ev t f = some y) (ha : evs t xs.toList = some args) (hc : callY P y args h = some x) :
    aOp P t h ⟨dst, .call ⟨.value f, xs, tys⟩, tt, pos, after, guard⟩ = some x := by
  show opCall P t h ⟨.value f, xs, tys⟩ tt = _
  unfold opCall
  rw [ha]
  simp only [callWith, hf]
  cases y <;> first | exact hc | cases hc
def ExtS (S : List Nat) (h h' : AH) : Prop := h.next ≤ h'.next ∧ ∀ b, b < h.next → b ∉ S → h'.get b = h.get b
theorem ExtS.of {S : List Nat} {h h' : AH} (e : Ext h h') : ExtS S h h' := ⟨e.1, fun b hb _ => e.2 b hb⟩
theorem ExtS.trans {S : List Nat} {a b c : AH} (h : ExtS S a b) (k : ExtS S b c) : ExtS S a c := ⟨Nat.le_trans h.1 k.1, fun x hx hS => by rw [k.2 x (Nat.lt_of_lt_of_le hx h.1) hS, h.2 x hx hS]⟩
def ExtF (F : Nat → Prop) (h h' : AH) : Prop := h.next ≤ h'.next ∧ ∀ b, b < h.next → ¬ F b → h'.get b = h.get b
theorem ExtF.of {F : Nat → Prop} {h h' : AH} (e : Ext h h') : ExtF F h h' := ⟨e.1, fun b hb _ => e.2 b hb⟩
theorem Has.extF {F : Nat → Prop} {h h' : AH} {b : Nat} {o : ABlk} (k : Has h b o) (e : ExtF F h h') (hb : ¬ F b) : Has h' b o := ⟨Nat.lt_of_lt_of_le k.1 e.1, by rw [e.2 b k.1 hb]; exact k.2⟩
theorem ExtF.trans {F F' : Nat → Prop} {a b c : AH} (h : ExtF F a b) (hF : ∀ x, F' x → F x ∨ a.next ≤ x) (k : ExtF F' b c) : ExtF F a c :=
  ⟨Nat.le_trans h.1 k.1, fun x hx hn => by rw [k.2 x (Nat.lt_of_lt_of_le hx h.1) (fun q => (hF x q).elim hn (fun q => by omega)), h.2 x hx hn]⟩
structure Takes (P : Program) (base : Nat) (y : AVal) (items : List (List AVal)) (J E : Nat → AH → (Nat → Prop) → Prop) : Prop where
  ltJ : ∀ {k h F b}, J k h F → F b → b < h.next
  keepJ : ∀ {k h F h'}, J k h F → h.next ≤ h'.next → (∀ b, b < h.next → (b < base ∨ F b) → h'.get b = h.get b) → J k h' F
  ltE : ∀ {k h F b}, E k h F → F b → b < h.next
  keepE : ∀ {k h F h'}, E k h F → h.next ≤ h'.next → (∀ b, b < h.next → (b < base ∨ F b) → h'.get b = h.get b) → E k h' F
  take : ∀ {k item h F}, items[k]? = some item → J k h F → ∃ x, callY P y [.agg item] h = some x ∧ (∀ v h', x ≠ .val v h') ∧
    Does P x (fun en h' => ExtF F h h' ∧ ∃ F', (∀ b, F' b → F b ∨ h.next ≤ b) ∧ ((en = .ret (.bool true) ∧ J (k + 1) h' F') ∨ (en = .ret (.bool false) ∧ E k h' F')))
theorem Takes.ext {base : Nat} {y : AVal} {items : List (List AVal)} {J E : Nat → AH → (Nat → Prop) → Prop} (T : Takes P base y items J E) {k : Nat} {h h' : AH} {F : Nat → Prop} (j : J k h F) (e : Ext h h') : J k h' F := T.keepJ j e.1 fun b hb _ => e.2 b hb
def FreshS (lo : Nat) (h : AH) (sz : Nat) (v : AVal) (L : List (List AVal)) : Prop := ∀ h', h.next ≤ h'.next → (∀ b, lo ≤ b → b < h.next → h'.get b = h.get b) → SliceOf h' sz v L
theorem FreshS.on {lo : Nat} {h h' : AH} {sz : Nat} {v : AVal} {L : List (List AVal)} (k : FreshS lo h sz v L) (n : h.next ≤ h'.next) (e : ∀ b, lo ≤ b → b < h.next → h'.get b = h.get b) : FreshS lo h' sz v L :=
  fun h2 n2 e2 => k h2 (Nat.le_trans n n2) fun b hb hb2 => by rw [e2 b hb (Nat.lt_of_lt_of_le hb2 n), e b hb hb2]
theorem Has.fresh {lo : Nat} {h h' : AH} {b : Nat} {o : ABlk} (k : Has h b o) (hb : lo ≤ b) (n : h.next ≤ h'.next) (e : ∀ b, lo ≤ b → b < h.next → h'.get b = h.get b) : Has h' b o := ⟨Nat.lt_of_lt_of_le k.1 n, by rw [e b hb k.1]; exact k.2⟩
theorem Grow.fresh {lo lo' : Nat} {h h' : AH} {el : TypeId} {sz : Nat} {s : AVal} {n : Nat} {cs : List AVal} (k : Grow h el sz lo' s n cs) (hl : lo ≤ lo') (hn : h.next ≤ h'.next) (e : ∀ b, lo ≤ b → b < h.next → h'.get b = h.get b) : Grow h' el sz lo' s n cs := by
  obtain ⟨k1, k2⟩ := k
  refine ⟨k1, ?_⟩
  rcases k2 with k2 | ⟨h0, b, h1, h2, h3⟩
  · exact .inl k2
  · exact .inr ⟨h0, b, h1, h2, h3.fresh (Nat.le_trans hl h1) hn e⟩
end
end Go.AbsE

set_option linter.unusedSimpArgs false
namespace Go.AbsE
open Go
section
variable {P : Program}
theorem pureRun_bind {α β : Type} (s : Sem α) (f : α → Sem β) : pureRun P (s >>= f) = (pureRun P s).bind fun a => pureRun P (f a) := by
  show pureRun P (s.bind f) = _
  induction s with
  | pure a => rfl
  | program k ih => exact ih P
  | _ => rfl
theorem pureRun_pure {α : Type} (a : α) : pureRun P (pure a : Sem α) = some a := rfl
theorem pr_underlying {t : TypeId} {d : TypeDesc} (h : P.underlying t = some d) : pureRun P (underlying t) = some d := by
  show pureRun P (program >>= fun p => match p.underlying t with | some d => pure d | none => stuck "no such type") = _
  rw [pureRun_bind]
  show pureRun P (match P.underlying t with | some d => pure d | none => stuck "no such type") = _
  rw [h]
  rfl
theorem pr_info {t : TypeId} {i : TypeInfo} (h : P.info? t = some i) : pureRun P (typeInfo t) = some i := by
  show pureRun P (program >>= fun p => match p.info? t with | some d => pure d | none => stuck "no such type") = _
  rw [pureRun_bind]
  show pureRun P (match P.info? t with | some d => pure d | none => stuck "no such type") = _
  rw [h]
  rfl
theorem pr_program : pureRun P program = some P := rfl
theorem pr_sizeOf {t : TypeId} {n : Nat} (h : sizeT P t = some n) : pureRun P (sizeOf t) = some n := by
  unfold sizeT at h
  cases hi : P.info? t with
  | none => rw [hi] at h; cases h
  | some i =>
    rw [hi] at h
    cases h
    show pureRun P (typeInfo t >>= fun i => pure i.size) = _
    rw [pureRun_bind, pr_info hi]
    rfl
theorem pr_isAgg_int {t : TypeId} {k : IntKind} (h : P.underlying t = some (.int k)) : pureRun P (isAgg t) = some false := by
  unfold isAgg
  rw [pureRun_bind, pr_underlying h]
  rfl
theorem pr_isAgg_array {t e : TypeId} {n : Nat} (h : P.underlying t = some (.array n e)) : pureRun P (isAgg t) = some true := by
  unfold isAgg
  rw [pureRun_bind, pr_underlying h]
  rfl
theorem pr_part_one {t : TypeId} {k : IntKind} (h : P.underlying t = some (.int k)) {cs : Array Value} {off : Nat} {v : Value} (hv : cs[off]? = some v) : pureRun P (part t cs off) = some v := by
  unfold part
  rw [pureRun_bind, pr_isAgg_int h]
  simp [hv, pureRun_pure]
theorem pr_part_array {t e : TypeId} {n m : Nat} (h : P.underlying t = some (.array n e)) (hs : sizeT P t = some m) {cs : Array Value} {off : Nat} : pureRun P (part t cs off) = some (.agg (cs.extract off (off + m))) := by
  unfold part
  rw [pureRun_bind, pr_isAgg_array h]
  show pureRun P (sizeOf t >>= fun a => pure (Value.agg (cs.extract off (off + a)))) = _
  rw [pureRun_bind, pr_sizeOf hs]
  rfl
theorem pr_eq_int {t : TypeId} {k q : IntKind} (h : P.underlying t = some (.int k)) {d : Nat} {a b : Int} : pureRun P (Op.equalIn (d + 1) t (.int q a) (.int q b)) = some (a == b) := by
  unfold Op.equalIn
  rw [pureRun_bind, pr_underlying h]
  simp [pureRun_pure]
theorem pr_eq_array4 {t e : TypeId} {k q : IntKind} (h : P.underlying t = some (.array 4 e)) (he : P.underlying e = some (.int k)) (hs : sizeT P e = some 1) {d : Nat} {a0 a1 a2 a3 b0 b1 b2 b3 : Int} :
    pureRun P (Op.equalIn (d + 2) t (.agg #[.int q a0, .int q a1, .int q a2, .int q a3]) (.agg #[.int q b0, .int q b1, .int q b2, .int q b3])) = some (a0 == b0 && a1 == b1 && a2 == b2 && a3 == b3) := by
  unfold Op.equalIn
  rw [pureRun_bind, pr_underlying h]
  simp only [Option.bind_some, pureRun_bind, pr_sizeOf hs, Std.Legacy.Range.forIn_eq_forIn_range', Std.Legacy.Range.size, Nat.sub_zero, Nat.add_one_sub_one, Nat.div_one]
  simp only [show List.range' 0 4 = [0, 1, 2, 3] from rfl, List.forIn_cons, List.forIn_nil, pureRun_bind, pureRun_pure, Option.bind_some, Nat.zero_mul, Nat.one_mul, Nat.mul_one,
    pr_part_one he (v := .int q a0) (cs := #[.int q a0, .int q a1, .int q a2, .int q a3]) (off := 0) rfl, pr_part_one he (v := .int q a1) (cs := #[.int q a0, .int q a1, .int q a2, .int q a3]) (off := 1) rfl,
    pr_part_one he (v := .int q a2) (cs := #[.int q a0, .int q a1, .int q a2, .int q a3]) (off := 2) rfl, pr_part_one he (v := .int q a3) (cs := #[.int q a0, .int q a1, .int q a2, .int q a3]) (off := 3) rfl,
    pr_part_one he (v := .int q b0) (cs := #[.int q b0, .int q b1, .int q b2, .int q b3]) (off := 0) rfl, pr_part_one he (v := .int q b1) (cs := #[.int q b0, .int q b1, .int q b2, .int q b3]) (off := 1) rfl,
    pr_part_one he (v := .int q b2) (cs := #[.int q b0, .int q b1, .int q b2, .int q b3]) (off := 2) rfl, pr_part_one he (v := .int q b3) (cs := #[.int q b0, .int q b1, .int q b2, .int q b3]) (off := 3) rfl, pr_eq_int he]
  cases a0 == b0
  · rfl
  simp only [Bool.not_true, Bool.false_eq_true, if_false, pureRun_bind, pureRun_pure, Option.bind_some, pr_part_one he (v := .int q a0) (cs := #[.int q a0, .int q a1, .int q a2, .int q a3]) (off := 0) rfl, pr_part_one he (v := .int q a1) (cs := #[.int q a0, .int q a1, .int q a2, .int q a3]) (off := 1) rfl,
    pr_part_one he (v := .int q a2) (cs := #[.int q a0, .int q a1, .int q a2, .int q a3]) (off := 2) rfl, pr_part_one he (v := .int q a3) (cs := #[.int q a0, .int q a1, .int q a2, .int q a3]) (off := 3) rfl,
    pr_part_one he (v := .int q b0) (cs := #[.int q b0, .int q b1, .int q b2, .int q b3]) (off := 0) rfl, pr_part_one he (v := .int q b1) (cs := #[.int q b0, .int q b1, .int q b2, .int q b3]) (off := 1) rfl,
    pr_part_one he (v := .int q b2) (cs := #[.int q b0, .int q b1, .int q b2, .int q b3]) (off := 2) rfl, pr_part_one he (v := .int q b3) (cs := #[.int q b0, .int q b1, .int q b2, .int q b3]) (off := 3) rfl, pr_eq_int he]
  cases a1 == b1
  · rfl
  simp only [Bool.not_true, Bool.false_eq_true, if_false, pureRun_bind, pureRun_pure, Option.bind_some, pr_part_one he (v := .int q a0) (cs := #[.int q a0, .int q a1, .int q a2, .int q a3]) (off := 0) rfl, pr_part_one he (v := .int q a1) (cs := #[.int q a0, .int q a1, .int q a2, .int q a3]) (off := 1) rfl,
    pr_part_one he (v := .int q a2) (cs := #[.int q a0, .int q a1, .int q a2, .int q a3]) (off := 2) rfl, pr_part_one he (v := .int q a3) (cs := #[.int q a0, .int q a1, .int q a2, .int q a3]) (off := 3) rfl,
    pr_part_one he (v := .int q b0) (cs := #[.int q b0, .int q b1, .int q b2, .int q b3]) (off := 0) rfl, pr_part_one he (v := .int q b1) (cs := #[.int q b0, .int q b1, .int q b2, .int q b3]) (off := 1) rfl,
    pr_part_one he (v := .int q b2) (cs := #[.int q b0, .int q b1, .int q b2, .int q b3]) (off := 2) rfl, pr_part_one he (v := .int q b3) (cs := #[.int q b0, .int q b1, .int q b2, .int q b3]) (off := 3) rfl, pr_eq_int he]
  cases a2 == b2
  · rfl
  simp only [Bool.not_true, Bool.false_eq_true, if_false, pureRun_bind, pureRun_pure, Option.bind_some, pr_part_one he (v := .int q a0) (cs := #[.int q a0, .int q a1, .int q a2, .int q a3]) (off := 0) rfl, pr_part_one he (v := .int q a1) (cs := #[.int q a0, .int q a1, .int q a2, .int q a3]) (off := 1) rfl,
    pr_part_one he (v := .int q a2) (cs := #[.int q a0, .int q a1, .int q a2, .int q a3]) (off := 2) rfl, pr_part_one he (v := .int q a3) (cs := #[.int q a0, .int q a1, .int q a2, .int q a3]) (off := 3) rfl,
    pr_part_one he (v := .int q b0) (cs := #[.int q b0, .int q b1, .int q b2, .int q b3]) (off := 0) rfl, pr_part_one he (v := .int q b1) (cs := #[.int q b0, .int q b1, .int q b2, .int q b3]) (off := 1) rfl,
    pr_part_one he (v := .int q b2) (cs := #[.int q b0, .int q b1, .int q b2, .int q b3]) (off := 2) rfl, pr_part_one he (v := .int q b3) (cs := #[.int q b0, .int q b1, .int q b2, .int q b3]) (off := 3) rfl, pr_eq_int he]
  cases a3 == b3 <;> rfl
structure KeyT (P : Program) (kt ft at_ et : TypeId) : Prop where
  fs : ∃ f0 f1 : Field, P.underlying kt = some (.struct #[f0, f1]) ∧ f0.name ≠ "_" ∧ f1.name ≠ "_" ∧ f0.type = ft ∧ f1.type = at_ ∧ f0.offset = 0 ∧ f1.offset = 1
  std : P.stoodInHeld kt = false
  f0 : ∃ k, P.underlying ft = some (.int k)
  f1 : P.underlying at_ = some (.array 4 et)
  s1 : sizeT P at_ = some 4
  e : ∃ k, P.underlying et = some (.int k)
  se : sizeT P et = some 1
def keyV (a : Int) (l : List Int) : Value := .agg ((.int .i64 a :: l.map fun x => Value.int .i64 x).toArray)
theorem pr_eq_key {kt ft at_ et : TypeId} (K : KeyT P kt ft at_ et) {a a0 a1 a2 a3 b b0 b1 b2 b3 : Int} :
    pureRun P (Op.equal kt (keyV a [a0, a1, a2, a3]) (keyV b [b0, b1, b2, b3])) = some (decide ((a, [a0, a1, a2, a3]) = (b, [b0, b1, b2, b3]))) := by
  obtain ⟨⟨f0, f1, hu, n0, n1, t0, t1, o0, o1⟩, hst, ⟨k0, hf0⟩, hf1, hs1, ⟨k1, he⟩, hse⟩ := K
  subst t0 t1
  show pureRun P (Op.equalIn (9999 + 1) kt (.agg #[.int .i64 a, .int .i64 a0, .int .i64 a1, .int .i64 a2, .int .i64 a3]) (.agg #[.int .i64 b, .int .i64 b0, .int .i64 b1, .int .i64 b2, .int .i64 b3])) = _
  unfold Op.equalIn
  rw [pureRun_bind, pr_underlying hu]
  simp only [Option.bind_some, pureRun_bind, pr_program, hst, Bool.false_eq_true, if_false, ← Array.forIn_toList, List.forIn_cons, List.forIn_nil, n0, n1, ne_eq, not_false_eq_true, if_true, pureRun_pure, o0, o1,
    pr_part_one hf0 (v := .int .i64 a) (cs := #[.int .i64 a, .int .i64 a0, .int .i64 a1, .int .i64 a2, .int .i64 a3]) (off := 0) rfl, pr_part_one hf0 (v := .int .i64 b) (cs := #[.int .i64 b, .int .i64 b0, .int .i64 b1, .int .i64 b2, .int .i64 b3]) (off := 0) rfl, pr_eq_int hf0]
  cases h0 : a == b
  · have : a ≠ b := by simpa using h0
    simp [this]
    rfl
  · have : a = b := by simpa using h0
    subst this
    simp only [Bool.not_true, Bool.false_eq_true, if_false, pureRun_bind, pureRun_pure, Option.bind_some, n1, ne_eq, not_false_eq_true, if_true, o1, pr_part_array hf1 hs1]
    have e1 : (#[Value.int .i64 a, .int .i64 a0, .int .i64 a1, .int .i64 a2, .int .i64 a3] : Array Value).extract 1 (1 + 4) = #[.int .i64 a0, .int .i64 a1, .int .i64 a2, .int .i64 a3] := rfl
    have e2 : (#[Value.int .i64 a, .int .i64 b0, .int .i64 b1, .int .i64 b2, .int .i64 b3] : Array Value).extract 1 (1 + 4) = #[.int .i64 b0, .int .i64 b1, .int .i64 b2, .int .i64 b3] := rfl
    rw [e1, e2, pr_eq_array4 (d := 9997) hf1 he hse]
    have : decide ((a, [a0, a1, a2, a3]) = (a, [b0, b1, b2, b3])) = (a0 == b0 && a1 == b1 && a2 == b2 && a3 == b3) := by
      simp [Bool.and_assoc]
      rfl
    rw [this]
    cases (a0 == b0 && a1 == b1 && a2 == b2 && a3 == b3) <;> rfl
theorem pr_check_int {t : TypeId} {k q : IntKind} {b : Bool} {n : Nat} {a : Int} (h : P.underlying t = some (.int k)) : pureRun P (Instr.checkKey b (n + 1) t (.int q a)) = some () := by
  unfold Instr.checkKey
  rw [pureRun_bind, pr_underlying h]
  rfl
theorem pr_check_array4 {t e : TypeId} {k q : IntKind} (h : P.underlying t = some (.array 4 e)) (he : P.underlying e = some (.int k)) (hs : sizeT P e = some 1) {d : Nat} {b : Bool} {a0 a1 a2 a3 : Int} :
    pureRun P (Instr.checkKey b (d + 2) t (.agg #[.int q a0, .int q a1, .int q a2, .int q a3])) = some () := by
  unfold Instr.checkKey
  rw [pureRun_bind, pr_underlying h]
  simp only [Option.bind_some, pureRun_bind, pr_sizeOf hs, Std.Legacy.Range.forIn_eq_forIn_range', Std.Legacy.Range.size, Nat.sub_zero, Nat.add_one_sub_one, Nat.div_one]
  simp only [show List.range' 0 4 = [0, 1, 2, 3] from rfl, List.forIn_cons, List.forIn_nil, pureRun_bind, pureRun_pure, Option.bind_some, Nat.zero_mul, Nat.one_mul, Nat.mul_one, pr_sizeOf hs,
    pr_part_one he (v := .int q a0) (cs := #[.int q a0, .int q a1, .int q a2, .int q a3]) (off := 0) rfl, pr_part_one he (v := .int q a1) (cs := #[.int q a0, .int q a1, .int q a2, .int q a3]) (off := 1) rfl,
    pr_part_one he (v := .int q a2) (cs := #[.int q a0, .int q a1, .int q a2, .int q a3]) (off := 2) rfl, pr_part_one he (v := .int q a3) (cs := #[.int q a0, .int q a1, .int q a2, .int q a3]) (off := 3) rfl, pr_check_int he]
theorem pr_check_key {kt ft at_ et : TypeId} (K : KeyT P kt ft at_ et) {c : Bool} {a a0 a1 a2 a3 : Int} : pureRun P (Instr.checkKey c 10000 kt (keyV a [a0, a1, a2, a3])) = some () := by
  obtain ⟨⟨f0, f1, hu, n0, n1, t0, t1, o0, o1⟩, hst, ⟨k0, hf0⟩, hf1, hs1, ⟨k1, he⟩, hse⟩ := K
  subst t0 t1
  show pureRun P (Instr.checkKey c (9999 + 1) kt (.agg #[.int .i64 a, .int .i64 a0, .int .i64 a1, .int .i64 a2, .int .i64 a3])) = _
  unfold Instr.checkKey
  rw [pureRun_bind, pr_underlying hu]
  have e1 : (#[Value.int .i64 a, .int .i64 a0, .int .i64 a1, .int .i64 a2, .int .i64 a3] : Array Value).extract 1 (1 + 4) = #[.int .i64 a0, .int .i64 a1, .int .i64 a2, .int .i64 a3] := rfl
  simp only [Option.bind_some, pureRun_bind, ← Array.forIn_toList, List.forIn_cons, List.forIn_nil, n0, n1, ne_eq, not_false_eq_true, if_true, pureRun_pure, o0, o1, pr_part_array hf1 hs1, e1, pr_check_array4 (d := 9997) hf1 he hse,
    pr_part_one hf0 (v := .int .i64 a) (cs := #[.int .i64 a, .int .i64 a0, .int .i64 a1, .int .i64 a2, .int .i64 a3]) (off := 0) rfl, pr_check_int hf0]
theorem sameBits_key (a : Int) (l : List Int) : Instr.sameBits 10000 (keyV a l) (keyV a l) = true := by
  show Instr.sameBits (9999 + 1) (.agg _) (.agg _) = true
  unfold Instr.sameBits
  have : ∀ l : List Int, ((l.map fun x => Value.int .i64 x).zip (l.map fun x => Value.int .i64 x)).all (fun (x, y) => Instr.sameBits 9999 x y) = true := by
    intro l
    induction l with
    | nil => rfl
    | cons x l ih => simp only [List.map_cons, List.zip_cons_cons, List.all_cons, ih, Bool.and_true]; simp [Instr.sameBits]
  exact Bool.and_eq_true_iff.2 ⟨by simp, this (a :: l)⟩
def MapOf (es : List AMapE) (f : List ((Int × List Int) × AVal)) : Prop := es.map (fun e => (e.key, e.val)) = f.map fun x => (keyV x.1.1 x.1.2, x.2)
def Four (f : List ((Int × List Int) × AVal)) : Prop := ∀ x, x ∈ f → x.1.2.length = 4
noncomputable def setK (k : Int × List Int) (v : AVal) : List ((Int × List Int) × AVal) → List ((Int × List Int) × AVal)
  | [] => [(k, v)]
  | x :: f => if k = x.1 then (k, v) :: f else x :: setK k v f
theorem four4 {l : List Int} (h : l.length = 4) : ∃ a b c d, l = [a, b, c, d] := by
  match l, h with
  | [a, b, c, d], _ => exact ⟨a, b, c, d, rfl⟩
theorem setK_ok {kt ft at_ et : TypeId} (K : KeyT P kt ft at_ et) {k : Int × List Int} (hk : k.2.length = 4) (v : AVal) (clock : Nat) : ∀ {es : List AMapE} {f : List ((Int × List Int) × AVal)}, MapOf es f → Four f → ∃ es' c', aMapSet P kt (keyV k.1 k.2) v clock es = some (es', c') ∧ MapOf es' (setK k v f) := by
  intro es
  induction es with
  | nil =>
    intro f h _
    cases f with
    | nil => exact ⟨_, _, rfl, rfl⟩
    | cons x f => cases h
  | cons e es ih =>
    intro f h h4
    cases f with
    | nil => cases h
    | cons x f =>
      have h0 := h
      simp only [MapOf, List.map_cons, List.cons.injEq, Prod.mk.injEq] at h
      obtain ⟨⟨hk1, hv1⟩, h⟩ := h
      obtain ⟨es', c', hih1, hih2⟩ := ih (f := f) h fun y hy => h4 y (by simp [hy])
      obtain ⟨k1, k2⟩ := k
      obtain ⟨⟨x1, x2⟩, w⟩ := x
      obtain ⟨a0, a1, a2, a3, rfl⟩ := four4 hk
      obtain ⟨b0, b1, b2, b3, rfl⟩ : ∃ a b c d, x2 = [a, b, c, d] := four4 (h4 ((x1, x2), w) (by simp))
      unfold aMapSet setK
      dsimp only at hk1 hv1 hih1 hih2 ⊢
      rw [hk1, pr_eq_key K]
      by_cases q : (k1, [a0, a1, a2, a3]) = (x1, [b0, b1, b2, b3])
      · rw [if_pos q, decide_eq_true q]
        cases q
        simp only [sameBits_key, cond_true]
        exact ⟨_, _, rfl, by simp only [MapOf, List.map_cons, List.cons.injEq]; exact ⟨trivial, h⟩⟩
      · rw [if_neg q, decide_eq_false q]
        simp only [hih1]
        exact ⟨_, _, rfl, by simp only [MapOf, List.map_cons, List.cons.injEq, Prod.mk.injEq]; exact ⟨⟨hk1, hv1⟩, hih2⟩⟩
theorem setK_mem {k : Int × List Int} {v : AVal} : ∀ {f : List ((Int × List Int) × AVal)} {x}, x ∈ setK k v f → x = (k, v) ∨ x ∈ f := by
  intro f
  induction f with
  | nil => intro x h; simp [setK] at h; exact .inl h
  | cons y f ih =>
    intro x h
    unfold setK at h
    split at h
    · cases h with
      | head => exact .inl rfl
      | tail _ h => exact .inr (List.mem_cons_of_mem _ h)
    · cases h with
      | head => exact .inr (by simp)
      | tail _ h => exact (ih h).imp id fun q => by simp [q]
theorem grounds_ints : ∀ l : List Int, grounds (l.map fun x => AVal.int .i64 x) = some (l.map fun x => Value.int .i64 x) := by
  intro l
  induction l with
  | nil => rfl
  | cons a l ih => simp only [List.map_cons, grounds, AVal.ground, ih]
theorem ground_key (a : Int) (l : List Int) : (AVal.agg (.int .i64 a :: l.map fun x => AVal.int .i64 x)).ground = some (keyV a l) := by
  have := grounds_ints (a :: l)
  simp only [List.map_cons] at this
  simp only [AVal.ground, this]
  rfl
theorem aOp_mapUpdate {t : Tr AVal} {h : AH} {dst : Option Tmp} {tt : TypeId} {pos : String} {after : Array Edge} {guard : Option (Nat × Bool)} {ty kt vt ft at_ et : TypeId} {x k y : Operand} {b clock : Nat} {es : List AMapE} {f : List ((Int × List Int) × AVal)} {key : Int × List Int} {v : AVal}
    (K : KeyT P kt ft at_ et) (hu : P.underlying ty = some (.map kt vt)) (hx : ev t x = some (.map b)) (hk : ev t k = some (.agg (.int .i64 key.1 :: key.2.map fun x => AVal.int .i64 x))) (hy : ev t y = some v) (h4 : key.2.length = 4)
    (hb : Has h b (.map es clock)) (hm : MapOf es f) (hf : Four f) :
    ∃ es' c' h', aOp P t h ⟨dst, .mapUpdate ty x k y, tt, pos, after, guard⟩ = some (.val undefA h') ∧ Upd h b (.map es' c') h' ∧ MapOf es' (setK key v f) ∧ Four (setK key v f) := by
  obtain ⟨es', c', q1, q2⟩ := setK_ok K h4 v clock hm hf
  obtain ⟨h', s1, s2⟩ := set_upd h b (.map es' c')
  refine ⟨es', c', h', ?_, s2, q2, fun x hx => (setK_mem hx).elim (fun e => by rw [e]; exact h4) (hf x)⟩
  show opMapUpdate P t h ty x k y = _
  unfold opMapUpdate
  rw [hu, hx, hk, hy]
  dsimp only
  rw [hb.2, ground_key]
  dsimp only
  have hc : pureRun P (Instr.checkKey false 10000 kt (keyV key.1 key.2)) = some () := by
    obtain ⟨k1, k2⟩ := key
    obtain ⟨a0, a1, a2, a3, rfl⟩ := four4 h4
    exact pr_check_key K
  rw [hc]
  dsimp only
  rw [q1]
  dsimp only
  rw [s1]
theorem GoR.mapUpdate {J : Jump} {c : FC} {k : List AItem} {Q : AM → Prop} {all : Array Oper} {l : List Oper} {dst : Option Tmp} {tt : TypeId} {pos : String} {after : Array Edge} {guard : Option (Nat × Bool)} {rest : List Oper} {i : Nat} {t : Tr AVal} {h : AH} {ty kt vt ft at_ et : TypeId} {x kx y : Operand} {b clock : Nat} {es : List AMapE} {f : List ((Int × List Int) × AVal)} {key : Int × List Int} {v : AVal}
    (hl : l = ⟨dst, .mapUpdate ty x kx y, tt, pos, after, guard⟩ :: rest) (hw : wantedA all t ⟨dst, .mapUpdate ty x kx y, tt, pos, after, guard⟩ = some true) (K : KeyT P kt ft at_ et) (hu : P.underlying ty = some (.map kt vt)) (hd : dst = none)
    (hx : ev t x = some (.map b)) (hk : ev t kx = some (.agg (.int .i64 key.1 :: key.2.map fun x => AVal.int .i64 x))) (hy : ev t y = some v) (h4 : key.2.length = 4) (hb : Has h b (.map es clock)) (hm : MapOf es f) (hf : Four f)
    (g : ∀ es' c' h1, Upd h b (.map es' c') h1 → MapOf es' (setK key v f) → Four (setK key v f) → GoR P J c k Q (runOps P c.n all rest (i + 1) t h1)) : GoR P J c k Q (runOps P c.n all l i t h) := by
  obtain ⟨es', c', h1, q1, q2, q3, q4⟩ := aOp_mapUpdate (dst := dst) (tt := tt) (pos := pos) (after := after) (guard := guard) K hu hx hk hy h4 hb hm hf
  refine GoR.op hl hw q1 ?_ (g es' c' h1 q2 q3 q4)
  unfold prepD
  rw [show (⟨dst, .mapUpdate ty x kx y, tt, pos, after, guard⟩ : Oper).dst = none from hd]
theorem GoR.makeMap {J : Jump} {c : FC} {k : List AItem} {Q : AM → Prop} {all : Array Oper} {l : List Oper} {o : Oper} {rest : List Oper} {i d : Nat} {t : Tr AVal} {h : AH} {ty : TypeId} (hl0 : l = o :: rest) (hw : wantedA all t o = some true)
    (ho : o.op = .makeMap ty none) (hd : o.dst = some d) (hn : Nat.blt d c.n = true)
    (g : ∀ h1, Ext h h1 → Has h1 h.next (.map [] 0) → GoR P J c k Q (runOps P c.n all rest (i + 1) (t.put (pth d) (some (.map h.next))) h1)) :
    GoR P J c k Q (runOps P c.n all l i t h) := by
  subst hl0
  obtain ⟨h1, q⟩ := new_some h (.map [] 0)
  obtain ⟨_, q2, q3⟩ := new_ext q
  refine GoR.op rfl hw (v := .map h.next) (h' := h1) ?_ ?_ (g h1 q2 q3)
  · obtain ⟨dst, op, type, pos, after, guard⟩ := o
    dsimp only at ho
    subst ho
    show opMakeMap h = _
    unfold opMakeMap
    rw [q]
  · unfold prepD
    rw [hd]
    simp only [hn, cond_true]
    rw [Tr.mkPut_eq]
end
end Go.AbsE

set_option linter.unusedSimpArgs false
namespace Go.AbsE
open Go
section
variable {P : Program} {t : Tr AVal} {h : AH} {dst : Option Tmp} {ty tt : TypeId} {pos : String} {after : Array Edge} {guard : Option (Nat × Bool)} {x y : Operand}
theorem splice_mid {α : Type} : ∀ {a x y c : List α}, x.length = y.length → splice (a ++ (x ++ c)) a.length y = some (a ++ (y ++ c)) := by
  intro a
  induction a with
  | nil =>
    intro x y c
    induction x generalizing y with
    | nil => intro h; cases y with | nil => cases c <;> rfl | cons b y => cases h
    | cons a x ih =>
      intro h
      cases y with
      | nil => cases h
      | cons b y =>
        have := ih (y := y) (by simpa using h)
        simp only [List.nil_append, List.length_nil] at this
        simp only [List.nil_append, List.cons_append, List.length_nil, splice, this]
  | cons b a ih =>
    intro x y c h
    simp only [List.cons_append, List.length_cons]
    unfold splice
    simp only [ih h]
theorem slice_flatten_app {sz : Nat} {ex : List AVal} : ∀ {L : List (List AVal)}, (∀ l, l ∈ L → l.length = sz) → ∀ i l, L[i]? = some l → slice? (L.flatten ++ ex) (i * sz) sz = some l := by
  intro L h i l hl
  have hlt := (List.getElem?_eq_some_iff.1 hl).1
  have := slice_flatten h i l hl
  simp only [slice?] at this ⊢
  have hfl := flatten_len h
  have hle : (i + 1) * sz ≤ L.flatten.length := by rw [hfl]; exact Nat.mul_le_mul_right _ hlt
  rw [Nat.add_mul, Nat.one_mul] at hle
  have e : List.take sz (List.drop (i * sz) (L.flatten ++ ex)) = List.take sz (List.drop (i * sz) L.flatten) := by
    rw [List.drop_append_of_le_length (by omega), List.take_append_of_le_length (by rw [List.length_drop]; omega)]
  rw [e]
  exact this
inductive OpenS (h : AH) (el : TypeId) (sz : Nat) : AVal → List (List AVal) → Nat → Prop
  | plain {b cap : Nat} {L : List (List AVal)} {ex : List AVal} (hb : Has h b (.cells .plain (L.flatten ++ ex) el)) (hc : (L.flatten ++ ex).length = cap * sz) (hsz : ∀ l, l ∈ L → l.length = sz) (hle : L.length ≤ cap) : OpenS h el sz (.slice b 0 L.length cap) L b
  | grow {b : Nat} {L : List (List AVal)} {ex : List AVal} (hb : Has h b (.cells .grow (L.flatten ++ ex) el)) (hsz : ∀ l, l ∈ L → l.length = sz) : OpenS h el sz (.gsl b 0 0 L.length) L b
variable {el : TypeId} {sz : Nat} {v : AVal} {L : List (List AVal)} {b : Nat} {h' : AH}
theorem OpenS.sliceOf (k : OpenS h el sz v L b) : SliceOf h sz v L := by
  cases k with
  | plain hb hc hsz hle => exact SliceOf.mk' rfl rfl hb rfl fun i l q => by rw [Nat.zero_add]; exact slice_flatten_app hsz i l q
  | grow hb hsz => exact SliceOf.mk' rfl rfl hb rfl fun i l q => by rw [Nat.zero_add]; exact slice_flatten_app hsz i l q
theorem OpenS.lt (k : OpenS h el sz v L b) : b < h.next := by
  cases k with
  | plain hb _ _ _ => exact hb.1
  | grow hb _ => exact hb.1
theorem OpenS.same (k : OpenS h el sz v L b) (hn : h.next ≤ h'.next) (e : h'.get b = h.get b) : OpenS h' el sz v L b := by
  have hh : ∀ {o}, Has h b o → Has h' b o := fun q => ⟨Nat.lt_of_lt_of_le q.1 hn, by rw [e]; exact q.2⟩
  cases k with
  | plain hb hc hsz hle => exact .plain (hh hb) hc hsz hle
  | grow hb hsz => exact .grow (hh hb) hsz
theorem OpenS.cells (k : OpenS h el sz v L b) : v.cells = [v] ∧ scalars [v] = true ∧ sameA v v = true := by
  cases k with
  | plain => exact ⟨rfl, rfl, by simp [sameA]⟩
  | grow => exact ⟨rfl, rfl, by simp [sameA]⟩
theorem OpenS.cut (k : OpenS h el sz v L b) (hu : P.underlying ty = some (.slice el)) (hs : sizeT P el = some sz) (hsz0 : 0 < sz) {i : Nat} (hx : ev t x = some v) (hy : ev t y = some (.int .i64 (Int.ofNat i))) (hi : i ≤ L.length) :
    ∃ v', aOp P t h ⟨dst, .slice ty x none (some y) none, tt, pos, after, guard⟩ = some (.val v' h) ∧ OpenS h el sz v' (L.take i) b := by
  have hsp : L.flatten = (L.take i).flatten ++ (L.drop i).flatten := by rw [← List.flatten_append, List.take_append_drop]
  have hop : aOp P t h ⟨dst, .slice ty x none (some y) none, tt, pos, after, guard⟩ = Go.AbsE.sliceOf P h sz v none (some (.int .i64 (Int.ofNat i))) := by
    show opSlice P t h ty x none (some y) = _
    unfold opSlice
    rw [hx]
    simp only [evO, hy, hu, hs]
  have hb1 : Nat.ble i L.length = true := Nat.ble_eq_true_of_le hi
  have hlen : (L.take i).length = i := by rw [List.length_take]; omega
  have hts : ∀ l, l ∈ L.take i → l ∈ L := fun l q => List.mem_of_mem_take q
  cases k with
  | @plain _ cap _ ex hb hc hsz hle =>
    refine ⟨.slice b 0 i cap, ?_, ?_⟩
    · rw [hop]
      have hb2 : Nat.ble i cap = true := Nat.ble_eq_true_of_le (by omega)
      have hb3 : Nat.ble L.length cap = true := Nat.ble_eq_true_of_le hle
      simp only [Go.AbsE.sliceOf, Go.AbsE.cut, bound, aInt, hb2, hb3, cond_true, Nat.sub_zero, Nat.zero_mul, Nat.add_zero]
      cases Nat.beq 0 cap <;> rfl
    · have := OpenS.plain (h := h) (el := el) (sz := sz) (b := b) (cap := cap) (L := L.take i) (ex := (L.drop i).flatten ++ ex) (by rw [← List.append_assoc, ← hsp]; exact hb) (by rw [← List.append_assoc, ← hsp]; exact hc) (fun l q => hsz l (hts l q)) (by omega)
      rw [hlen] at this
      exact this
  | @grow _ _ ex hb hsz =>
    refine ⟨.gsl b 0 0 i, ?_, ?_⟩
    · rw [hop]
      have hfl : L.length * sz ≤ (L.flatten ++ ex).length := by rw [List.length_append, flatten_len hsz]; omega
      have b1 : Nat.beq 0 (0 * sz) = true := by simp
      have b2 : Nat.ble (0 + L.length * sz) (L.flatten ++ ex).length = true := Nat.ble_eq_true_of_le (by omega)
      have b3 : Nat.blt 0 sz = true := Nat.ble_eq_true_of_le hsz0
      have b4 : eqSize P el sz = true := by unfold eqSize; rw [hs]; simp
      have b5 : Nat.beq 0 0 = true := rfl
      simp only [Go.AbsE.sliceOf, Go.AbsE.cut, bound, aInt, hb1, cond_true, hb.2, b1, b2, b3, b4, b5]
    · have := OpenS.grow (h := h) (el := el) (sz := sz) (b := b) (L := L.take i) (ex := (L.drop i).flatten ++ ex) (by rw [← List.append_assoc, ← hsp]; exact hb) (fun l q => hsz l (hts l q))
      rw [hlen] at this
      exact this
theorem OpenS.append (k : OpenS h el sz v L b) {t1 t2 el2 : TypeId} {bytes b2 : Nat} {z : AVal} {new : List AVal} {g0 : Kd} (hu1 : P.underlying t1 = some (.slice el)) (hu2 : P.underlying t2 = some (.slice el2)) (hs : sizeT P el = some sz) (hby : bytesT P el = some bytes) (hz : zeroT P el = some z) (hzl : Nat.beq z.cells.length sz = true) (hsz0 : Nat.blt 0 sz = true)
    (hx : ev t x = some v) (hy : ev t y = some (.slice b2 0 1 1)) (hb2 : Has h b2 (.cells g0 new el2)) (hnl : new.length = sz) (hns : scalars new = true) (hroom : (L.length + 301) * 2 * (bytes + 1) < 281474976710656) :
    ∃ v' h1 b', aOp P t h ⟨dst, .call ⟨.builtin .append, #[x, y], #[t1, t2]⟩, tt, pos, after, guard⟩ = some (.val v' h1) ∧ ExtF (fun q => q = b) h h1 ∧ OpenS h1 el sz v' (L ++ [new]) b' ∧ (b' = b ∨ h.next ≤ b') := by
  have hsrc : srcCells h sz 1 (.slice b2 0 1 1) = some new := by
    simp only [srcCells, loadCells, hb2.2, Nat.one_mul]
    exact slice_all hnl
  have hlt : Nat.blt ((L.length + 1 + 300) * 2 * (bytes + 1)) 281474976710656 = true := Nat.ble_eq_true_of_le hroom
  have hop : ∀ {y'}, aAppend P h t1 t2 v (.slice b2 0 1 1) = some y' → aOp P t h ⟨dst, .call ⟨.builtin .append, #[x, y], #[t1, t2]⟩, tt, pos, after, guard⟩ = some y' := by
    intro y' q
    show opCall P t h ⟨.builtin .append, #[x, y], #[t1, t2]⟩ tt = _
    have he : evs t [x, y] = some [v, .slice b2 0 1 1] := by simp only [evs, mapO, hx, hy]
    simp only [opCall, he, callWith, aBuiltin, q]
  have hsz1 : ∀ {L : List (List AVal)}, (∀ l, l ∈ L → l.length = sz) → ∀ l, l ∈ L ++ [new] → l.length = sz := fun hsz l q => by
    rw [List.mem_append] at q
    rcases q with q | q
    · exact hsz l q
    · simp at q; subst q; exact hnl
  have hfa : ∀ {ex : List AVal}, L.flatten ++ (new ++ ex) = (L ++ [new]).flatten ++ ex := by simp
  have grown : ∀ {h2 : AH}, (∀ q, q ≠ b → h2.get q = h.get q) → h2.next = h.next → ∃ h1, growNew h2 el (L.flatten ++ new) (L.length + 1) = some (.val (.gsl h2.next 0 0 (L.length + 1)) h1) ∧ ExtF (fun q => q = b) h h1 ∧ (∀ (_ : ∀ l, l ∈ L → l.length = sz), OpenS h1 el sz (.gsl h2.next 0 0 (L.length + 1)) (L ++ [new]) h2.next) := by
    intro h2 k1 k2
    obtain ⟨h1, q⟩ := new_some h2 (.cells .grow (L.flatten ++ new) el)
    obtain ⟨_, q2, q3⟩ := new_ext q
    refine ⟨h1, by simp only [growNew, q], ⟨by have := q2.1; omega, fun c hc hn => by rw [q2.2 c (by omega), k1 c hn]⟩, fun hsz => ?_⟩
    have := OpenS.grow (h := h1) (el := el) (sz := sz) (b := h2.next) (L := L ++ [new]) (ex := []) (by simpa using q3) (hsz1 hsz)
    rw [List.length_append, List.length_singleton] at this
    exact this
  cases k with
  | @plain _ cap _ ex hb hc hsz hle =>
    have hfl := flatten_len hsz
    by_cases hcap : L.length + 1 ≤ cap
    · have hexl : sz ≤ ex.length := by
        have : (L.length + 1) * sz ≤ cap * sz := Nat.mul_le_mul_right _ hcap
        rw [List.length_append, hfl] at hc
        rw [Nat.add_mul] at this
        omega
      have hcs : L.flatten ++ ex = L.flatten ++ (ex.take sz ++ ex.drop sz) := by rw [List.take_append_drop]
      have hsp := splice_mid (a := L.flatten) (x := ex.take sz) (y := new) (c := ex.drop sz) (by rw [List.length_take, hnl]; omega)
      rw [← hcs, hfl] at hsp
      obtain ⟨h1, q1, q2⟩ := storeCells_has (vs := new) hb rfl hns (show splice (L.flatten ++ ex) (0 + L.length * sz) new = _ by rw [Nat.zero_add]; exact hsp)
      refine ⟨.slice b 0 (L.length + 1) cap, h1, b, hop ?_, ⟨by rw [q2.1]; exact Nat.le_refl _, fun c _ hn => q2.2.2 c hn⟩, ?_, .inl rfl⟩
      · unfold aAppend
        rw [hu1, hu2]
        simp only [hs, hby, hz, lenA, hsrc, hlt, hsz0, hzl, cond_true, appSlice, show Nat.ble (L.length + 1) cap = true from Nat.ble_eq_true_of_le hcap, q1]
      · have := OpenS.plain (h := h1) (el := el) (sz := sz) (b := b) (cap := cap) (L := L ++ [new]) (ex := ex.drop sz) (by rw [← hfa]; exact q2.has hb) (by rw [← hfa, ← hc, hcs]; simp only [List.length_append, List.length_take, List.length_drop, hnl]; omega) (hsz1 hsz) (by simpa using hcap)
        rw [List.length_append, List.length_singleton] at this
        exact this
    · obtain ⟨h1, q1, q2, q3⟩ := grown (h2 := h) (fun _ _ => rfl) rfl
      refine ⟨_, h1, h.next, hop ?_, q2, q3 hsz, .inr (Nat.le_refl _)⟩
      have hold : srcCells h sz L.length (.slice b 0 L.length cap) = some L.flatten := by
        simp only [srcCells, loadCells, hb.2]
        unfold slice?
        simp only [List.drop_zero]
        rw [List.take_append_of_le_length (by omega), List.take_of_length_le (by omega)]
        simp [hfl]
      have : Nat.ble (L.length + 1) cap = false := by
        cases hq : Nat.ble (L.length + 1) cap with
        | false => rfl
        | true => exact absurd (Nat.le_of_ble_eq_true hq) hcap
      unfold aAppend
      rw [hu1, hu2]
      simp only [hs, hby, hz, lenA, hsrc, hlt, hsz0, hzl, cond_true, appSlice, this, cond_false, hold, q1]
  | @grow _ _ ex hb hsz =>
    have hfl := flatten_len hsz
    have b1 : Nat.beq 0 (0 * sz) = true := by simp
    have b2' : eqSize P el sz = true := by unfold eqSize; rw [hs]; simp
    have b3 : Nat.beq el el = true := by simp
    have b0 : Nat.beq 0 0 = true := rfl
    by_cases hcap : (L.length + 1) * sz ≤ (L.flatten ++ ex).length
    · have hexl : sz ≤ ex.length := by
        rw [List.length_append, hfl, Nat.add_mul] at hcap
        omega
      have hcs : L.flatten ++ ex = L.flatten ++ (ex.take sz ++ ex.drop sz) := by rw [List.take_append_drop]
      have hsp := splice_mid (a := L.flatten) (x := ex.take sz) (y := new) (c := ex.drop sz) (by rw [List.length_take, hnl]; omega)
      rw [← hcs, hfl] at hsp
      obtain ⟨h1, q1, q2⟩ := storeCells_has (vs := new) hb rfl hns (show splice (L.flatten ++ ex) (0 + L.length * sz) new = _ by rw [Nat.zero_add]; exact hsp)
      refine ⟨.gsl b 0 0 (L.length + 1), h1, b, hop ?_, ⟨by rw [q2.1]; exact Nat.le_refl _, fun c _ hn => q2.2.2 c hn⟩, ?_, .inl rfl⟩
      · unfold aAppend
        rw [hu1, hu2]
        simp only [hs, hby, hz, lenA, hsrc, hlt, hsz0, hzl, cond_true]
        unfold appGsl
        rw [hb.2]
        simp only [b1, b2', b3, cond_true, show Nat.ble (0 + (L.length + 1) * sz) (L.flatten ++ ex).length = true from Nat.ble_eq_true_of_le (by omega), q1]
      · have := OpenS.grow (h := h1) (el := el) (sz := sz) (b := b) (L := L ++ [new]) (ex := ex.drop sz) (by rw [← hfa]; exact q2.has hb) (hsz1 hsz)
        rw [List.length_append, List.length_singleton] at this
        exact this
    · obtain ⟨h2, hset⟩ : ∃ h2, h.set b none = some h2 := by obtain ⟨tt, nx⟩ := h; exact ⟨_, rfl⟩
      obtain ⟨s1, s2⟩ := AH.get_set hset
      obtain ⟨h1, q1, q2, q3⟩ := grown (h2 := h2) (fun q hn => by rw [s2, if_neg hn]) s1
      refine ⟨_, h1, h2.next, hop ?_, q2, q3 hsz, .inr (by omega)⟩
      have hold : srcCells h sz L.length (.gsl b 0 0 L.length) = some L.flatten := by
        simp only [srcCells, loadCells, hb.2]
        unfold slice?
        simp only [List.drop_zero]
        rw [List.take_append_of_le_length (by omega), List.take_of_length_le (by omega)]
        simp [hfl]
      have : Nat.ble (0 + (L.length + 1) * sz) (L.flatten ++ ex).length = false := by
        cases hq : Nat.ble (0 + (L.length + 1) * sz) (L.flatten ++ ex).length with
        | false => rfl
        | true => exact absurd (Nat.le_of_ble_eq_true hq) (by omega)
      unfold aAppend
      rw [hu1, hu2]
      simp only [hs, hby, hz, lenA, hsrc, hlt, hsz0, hzl, cond_true]
      unfold appGsl
      rw [hb.2]
      simp only [b1, b2', b3, b0, cond_true, this, cond_false, hns, hold, hset, q1]
end
end Go.AbsE

set_option linter.unusedSimpArgs false
namespace Go.AbsE
open Go
section
variable {P : Program} {c : FC} {k : List AItem} {Q : AM → Prop} {all : Array Oper} {pl rest : List DOp} {tf ta ta' : Tr AVal} {facts : List DFact} {h h1 : AH} {i bef : Nat} {o : Oper} {lit : Bool} {v : AVal}
def GoE (P : Program) (c : FC) (k : List AItem) (Q : AM → Prop) (all : Array Oper) (pl : List DOp) (tf : Tr AVal) (facts : List DFact) (ta : Tr AVal) (h : AH) : Prop := GoR P noJ c k Q ((runC P c.n all pl).run tf facts ta h)
theorem Go.drawnE {id : Nat} {t : Tr AVal} (hp : plan all = some pl) (g : GoE P c k Q all pl (eraseT all.toList t) [] t h) : Go P c (.code (.region id all true) :: k) t h Q := by
  refine Go.code noJ_ok ?_
  show GoR P noJ c k Q ((runDrawn P c.n all).run t h)
  unfold runDrawn
  rw [hp]
  exact g
theorem GoE.end (hl : pl = []) (g : Go P c k ta h Q) : GoE P c k Q all pl tf facts ta h := by
  subst hl
  exact g
theorem GoE.quietX {dst : Option Tmp} {op : Op} {tt : TypeId} {pos : String} {after : Array Edge} {guard : Option (Nat × Bool)} (hl : pl = ⟨i, bef, true, ⟨dst, op, tt, pos, after, guard⟩, lit⟩ :: rest) (hw : wantedA all ta ⟨dst, op, tt, pos, after, guard⟩ = some true) (hx : aOpX P lit ta h ⟨dst, op, tt, pos, after, guard⟩ = some (.val v h1)) (hd : (prepD c.n ⟨dst, op, tt, pos, after, guard⟩).run ta v = some ta')
    (g : GoE P c k Q all rest tf (⟨i, ⟨dst, op, tt, pos, after, guard⟩, v, ta, lit⟩ :: facts) ta' h1) : GoE P c k Q all pl tf facts ta h := by
  subst hl
  unfold GoE
  rw [runC_cons, hw]
  show GoR P noJ c k Q ((goQuiet c.n ⟨i, bef, true, ⟨dst, op, tt, pos, after, guard⟩, lit⟩ (runC P c.n all rest)).run tf facts ta h (aOpX P lit ta h ⟨dst, op, tt, pos, after, guard⟩))
  rw [hx]
  show GoR P noJ c k Q ((goOn (runC P c.n all rest)).run tf (⟨i, ⟨dst, op, tt, pos, after, guard⟩, v, ta, lit⟩ :: facts) h1 ((prepD c.n ⟨dst, op, tt, pos, after, guard⟩).run ta v))
  rw [hd]
  exact g
theorem GoE.quiet {dst : Option Tmp} {op : Op} {tt : TypeId} {pos : String} {after : Array Edge} {guard : Option (Nat × Bool)} (hl : pl = ⟨i, bef, true, ⟨dst, op, tt, pos, after, guard⟩, false⟩ :: rest) (hw : wantedA all ta ⟨dst, op, tt, pos, after, guard⟩ = some true) (hx : aOp P ta h ⟨dst, op, tt, pos, after, guard⟩ = some (.val v h1)) (hd : (prepD c.n ⟨dst, op, tt, pos, after, guard⟩).run ta v = some ta')
    (g : GoE P c k Q all rest tf (⟨i, ⟨dst, op, tt, pos, after, guard⟩, v, ta, false⟩ :: facts) ta' h1) : GoE P c k Q all pl tf facts ta h := GoE.quietX hl hw hx hd g
theorem GoE.skip {q : Bool} (hl : pl = ⟨i, bef, q, o, lit⟩ :: rest) (hw : wantedA all ta o = some false) (hd : (prepD c.n o).run ta undefA = some ta')
    (g : GoE P c k Q all rest tf facts ta' h) : GoE P c k Q all pl tf facts ta h := by
  subst hl
  unfold GoE
  rw [runC_cons, hw]
  show GoR P noJ c k Q ((goOn (runC P c.n all rest)).run tf facts h ((prepD c.n o).run ta undefA))
  rw [hd]
  exact g
theorem GoE.noisy {dst : Option Tmp} {op : Op} {tt : TypeId} {pos : String} {after : Array Edge} {guard : Option (Nat × Bool)} {left : List DFact} (hl : pl = ⟨i, bef, false, ⟨dst, op, tt, pos, after, guard⟩, lit⟩ :: rest) (hw : wantedA all ta ⟨dst, op, tt, pos, after, guard⟩ = some true) (hx : aOpX P lit ta h ⟨dst, op, tt, pos, after, guard⟩ = some (.val v h1)) (hleft : dropF bef facts = left) (hr : recheck P h1 left = true) (hd : (prepD c.n ⟨dst, op, tt, pos, after, guard⟩).run ta v = some ta')
    (g : GoE P c k Q all rest tf left ta' h1) : GoE P c k Q all pl tf facts ta h := by
  subst hl hleft
  unfold GoE
  rw [runC_cons, hw]
  show GoR P noJ c k Q ((goNoisy P c.n all ⟨i, bef, false, ⟨dst, op, tt, pos, after, guard⟩, lit⟩ rest (runC P c.n all rest)).run tf facts ta h (aOpX P lit ta h ⟨dst, op, tt, pos, after, guard⟩))
  rw [hx]
  show GoR P noJ c k Q ((checked P (goOn (runC P c.n all rest))).run tf (dropF bef facts) h1 ((prepD c.n ⟨dst, op, tt, pos, after, guard⟩).run ta v))
  rw [hd]
  show GoR P noJ c k Q (cond (recheck P h1 (dropF bef facts)) ((goOn (runC P c.n all rest)).run tf (dropF bef facts) h1 (some ta')) (.stuck 23))
  rw [hr]
  exact g
theorem dropF_keep {bef : Nat} {f : DFact} {l l' : List DFact} (h : bit? bef f.i = false) (k : dropF bef l = l') : dropF bef (f :: l) = f :: l' := by
  unfold dropF
  rw [h, k]
  rfl
theorem dropF_drop {bef : Nat} {f : DFact} {l l' : List DFact} (h : bit? bef f.i = true) (k : dropF bef l = l') : dropF bef (f :: l) = l' := by
  unfold dropF
  rw [h, k]
  rfl
theorem recheck_nil : recheck P h [] = true := rfl
theorem recheck_consX {dst : Option Tmp} {op : Op} {tt : TypeId} {pos : String} {after : Array Edge} {guard : Option (Nat × Bool)} {t : Tr AVal} {h2 : AH} {l l0 : List DFact} (hl : l0 = ⟨i, ⟨dst, op, tt, pos, after, guard⟩, v, t, lit⟩ :: l) (hx : aOpX P lit t h ⟨dst, op, tt, pos, after, guard⟩ = some (.val v h2)) (hs : sameA v v = true) (hr : recheck P h l = true) : recheck P h l0 = true := by
  subst hl
  unfold recheck
  simp only [hx, hs, hr, cond_true]
theorem recheck_cons {dst : Option Tmp} {op : Op} {tt : TypeId} {pos : String} {after : Array Edge} {guard : Option (Nat × Bool)} {t : Tr AVal} {h2 : AH} {l l0 : List DFact} (hl : l0 = ⟨i, ⟨dst, op, tt, pos, after, guard⟩, v, t, false⟩ :: l) (hx : aOp P t h ⟨dst, op, tt, pos, after, guard⟩ = some (.val v h2)) (hs : sameA v v = true) (hr : recheck P h l = true) : recheck P h l0 = true := recheck_consX hl hx hs hr
theorem GoE.call {left : List DFact} {f : FuncId} {args : List AVal} {R : AEnd → AH → Prop} (hl : pl = ⟨i, bef, false, o, lit⟩ :: rest) (hw : wantedA all ta o = some true) (hx : aOpX P lit ta h o = some (.enter f args h)) (hr : Runs P f args h R) (hleft : dropF bef facts = left)
    (hret : ∀ v h', R (.ret v) h' → recheck P h' left = true ∧ ∃ ta', (prepD c.n o).run ta v = some ta' ∧ GoE P c k Q all rest tf left ta' h') (hpan : ∀ chain h', ¬ R (.pan chain) h') :
    GoE P c k Q all pl tf facts ta h := by
  subst hl hleft
  unfold GoE
  rw [runC_cons, hw]
  show GoR P noJ c k Q ((goNoisy P c.n all ⟨i, bef, false, o, lit⟩ rest (runC P c.n all rest)).run tf facts ta h (aOpX P lit ta h o))
  rw [hx]
  show GoR P noJ c k Q (.susp [.waitDrawn all (⟨i, bef, false, o, lit⟩ :: rest) facts ta] tf (.enter f args h))
  obtain ⟨fr, hfr, hrun⟩ := hr
  refine ⟨⟨fr :: c.fr ([.waitDrawn all (⟨i, bef, false, o, lit⟩ :: rest) facts ta] ++ k) tf :: c.rest, h⟩, ?_, ?_⟩
  · show enterJ P _ c.rest f args h none = _
    show one h (_ :: c.rest) (aFrame P f args false) = _
    rw [hfr]
    rfl
  · refine Reach.call noJ_ok ⟨fr, hfr, hrun⟩ hfr (fun v h' hv => ?_) (fun chain h' hq => absurd hq (hpan chain h'))
    obtain ⟨e, ta', q1, q2⟩ := hret v h' hv
    refine ⟨c.fr (.inDrawn all rest (dropF bef facts) ta' :: k) tf, ?_, Go.inDrawn noJ_ok ?_⟩
    · show AFr.finishRun c.fn c.n tf (.waitDrawn all (⟨i, bef, false, o, lit⟩ :: rest) facts ta :: k) c.ds c.dk c.rd v = _
      unfold AFr.finishRun
      simp only [q1]
      rfl
    · unfold againD
      rw [e]
      exact q2
theorem GoE.store {left : List DFact} {ty : TypeId} {a x : Operand} {b off n : Nat} {g0 : Kd} {cs cs' : List AVal} {el : TypeId} (hl : pl = ⟨i, bef, false, o, false⟩ :: rest) (hw : wantedA all ta o = some true)
    (ho : o.op = .store ty a x) (hd : o.dst = none) (hleft : dropF bef facts = left) (ha : ev ta a = some (.ptr b off)) (hx : ev ta x = some v) (hb : Has h b (.cells g0 cs el)) (hg : g0.isRo = false)
    (hsz : sizeT P ty = some n) (hvl : Nat.beq v.cells.length n = true) (hs : scalars v.cells = true) (hsp : splice cs off v.cells = some cs')
    (g : ∀ h1, Upd h b (.cells g0 cs' el) h1 → recheck P h1 left = true ∧ GoE P c k Q all rest tf left ta h1) : GoE P c k Q all pl tf facts ta h := by
  obtain ⟨h1, q1, q2⟩ := storeCells_has hb hg hs hsp
  obtain ⟨g1, g2⟩ := g h1 q2
  obtain ⟨dst, op, type, pos, after, guard⟩ := o
  refine GoE.noisy (v := undefA) (h1 := h1) hl hw ?_ hleft g1 ?_ g2
  · dsimp only at ho
    subst ho
    show opStore P ta h ty a x = _
    unfold opStore
    rw [ha, hx]
    unfold storeVar
    simp only [hsz, hvl, cond_true, q1]
  · unfold prepD
    rw [hd]
end
end Go.AbsE

set_option linter.unusedSimpArgs false
namespace Go.AbsE
open Go
section
variable {P : Program} {J : Jump}
theorem GoR.jump {c : FC} {k : List AItem} {Q : AM → Prop} {all : Array Oper} {l : List Oper} {o : Oper} {rest : List Oper} {i : Nat} {t t' : Tr AVal} {h : AH} {f : FuncId} {args : List AVal} {v : AVal} (hJ : JOk P J) (hl : l = o :: rest)
    (hw : wantedA all t o = some true) (hx : aOp P t h o = some (.enter f args h)) (hj : J.run f args h = some v) (hd : (prepD c.n o).run t v = some t') (g : GoR P J c k Q (runOps P c.n all rest (i + 1) t' h)) :
    GoR P J c k Q (runOps P c.n all l i t h) := by
  subst hl
  have hs : runOps P c.n all (o :: rest) i t h = .susp [.inRegion all i (o :: rest)] t (.enter f args h) := by
    rw [runOps_cons, hw]
    show (afterP c.n i all o rest (runOpsP P c.n all rest (i + 1))).run t (aOp P t h o) = _
    rw [hx]
    rfl
  rw [hs]
  refine ⟨⟨c.fr (.inRegion all (i + 1) rest :: k) t' :: c.rest, h⟩, ?_, Go.inRegion hJ g⟩
  show enterJ P _ c.rest f args h (J.run f args h) = _
  rw [hj]
  show one h c.rest (AFr.finish _ v) = _
  have : AFr.finish (c.fr ([.inRegion all i (o :: rest)] ++ k) t) v = some (c.fr (.inRegion all (i + 1) rest :: k) t') := by
    show AFr.finishRun c.fn c.n t (.inRegion all i (o :: rest) :: k) c.ds c.dk c.rd v = _
    unfold AFr.finishRun
    simp only [hd]
    rfl
  rw [this]
  rfl
end
end Go.AbsE

set_option linter.unusedSimpArgs false
namespace Go.AbsE
open Go
section
variable {P : Program} {t : Tr AVal} {h h' : AH} {dst : Option Tmp} {ty tt : TypeId} {pos : String} {after : Array Edge} {guard : Option (Nat × Bool)} {x y : Operand}
theorem aOpX_lit {el : TypeId} {len size : Nat} {parts : Array (Nat × Operand)} {ps : List (Nat × AVal)} {z : AVal} {cs : List AVal} (hu : P.underlying ty = some (.slice el)) (hp : evParts t parts.toList = some ps) (hs : sizeT P el = some size) (hz : zeroT P el = some z)
    (hb : Nat.ble (len * size) 100000 = true) (hzl : Nat.beq z.cells.length size = true) (hc : aFillA (fun i => some (i * size, size)) (repl z.cells len) ps = some cs) : aOpX P true t h ⟨dst, .buildSlice ty len parts, tt, pos, after, guard⟩ = some (.val (.lit len cs) h) := by
  show opLit P t h ⟨dst, .buildSlice ty len parts, tt, pos, after, guard⟩ = _
  unfold opLit
  dsimp only
  rw [hu, hp]
  dsimp only
  rw [hs, hz]
  dsimp only
  rw [hb, hzl]
  simp only [cond_true, hc]
theorem SliceOf.src {sz : Nat} {s : AVal} {L : List (List AVal)} (k : SliceOf h sz s L) : srcCells h sz L.length s = some L.flatten := by
  cases k with
  | nil => rfl
  | mk hs hn hb hL hz hc =>
    cases s <;> simp only [aSlElems, Option.some.injEq, Prod.mk.injEq, reduceCtorEq] at hs
    all_goals
      obtain ⟨rfl, rfl, rfl⟩ := hs
      simp only [srcCells]
      exact hc
def Copied (lo : Nat) (h : AH) (el : TypeId) (v : AVal) (L : List (List AVal)) : Prop := (L = [] ∧ v = .lit 0 []) ∨ (L ≠ [] ∧ ∃ b, lo ≤ b ∧ v = .gsl b 0 0 L.length ∧ Has h b (.cells .grow L.flatten el))
theorem Copied.same {lo : Nat} {el : TypeId} {v : AVal} {L : List (List AVal)} (k : Copied lo h el v L) (e : Ext h h') : Copied lo h' el v L := by
  rcases k with k | ⟨k, b, k1, k2, k3⟩
  · exact .inl k
  · exact .inr ⟨k, b, k1, k2, k3.ext e⟩
theorem aOp_copy {el el2 t1 t2 : TypeId} {sz bytes : Nat} {z s : AVal} {L : List (List AVal)} (hu1 : P.underlying t1 = some (.slice el)) (hu2 : P.underlying t2 = some (.slice el2)) (hs : sizeT P el = some sz) (hby : bytesT P el = some bytes) (hz : zeroT P el = some z) (hzl : Nat.beq z.cells.length sz = true) (hsz0 : Nat.blt 0 sz = true)
    (hx : ev t x = some (.lit 0 [])) (hy : ev t y = some s) (k : SliceOf h sz s L) (hl : ∀ l, l ∈ L → l.length = sz) (hroom : (L.length + 301) * 2 * (bytes + 1) < 281474976710656) :
    ∃ v h1, aOp P t h ⟨dst, .call ⟨.builtin .append, #[x, y], #[t1, t2]⟩, tt, pos, after, guard⟩ = some (.val v h1) ∧ Ext h h1 ∧ Copied h.next h1 el v L := by
  have hsrc := k.src
  have hlen := k.len
  have hlt : Nat.blt ((0 + L.length + 300) * 2 * (bytes + 1)) 281474976710656 = true := by
    refine Nat.ble_eq_true_of_le (Nat.lt_of_le_of_lt (Nat.mul_le_mul_right _ (Nat.mul_le_mul_right _ (by omega))) hroom)
  have hop : ∀ {y'}, aAppend P h t1 t2 (.lit 0 []) s = some y' → aOp P t h ⟨dst, .call ⟨.builtin .append, #[x, y], #[t1, t2]⟩, tt, pos, after, guard⟩ = some y' := by
    intro y' q
    show opCall P t h ⟨.builtin .append, #[x, y], #[t1, t2]⟩ tt = _
    have he : evs t [x, y] = some [.lit 0 [], s] := by simp only [evs, mapO, hx, hy]
    simp only [opCall, he, callWith, aBuiltin, q]
  have h0 : srcCells h sz 0 (.lit 0 []) = some [] := by simp [srcCells, slice?]
  by_cases hL : L = []
  · subst hL
    refine ⟨.lit 0 [], h, hop ?_, Ext.refl _, .inl ⟨rfl, rfl⟩⟩
    unfold aAppend
    rw [hu1, hu2]
    simp only [hs, hby, hz, show lenA (.lit 0 []) = some 0 from rfl, hlen, hsrc, hlt, hsz0, hzl, cond_true]
    rfl
  · obtain ⟨h1, q⟩ := new_some h (.cells .grow L.flatten el)
    obtain ⟨_, q2, q3⟩ := new_ext q
    have hb : Nat.beq L.length 0 = false := by
      cases hq : Nat.beq L.length 0 with
      | false => rfl
      | true => exact absurd (List.eq_nil_of_length_eq_zero (Nat.eq_of_beq_eq_true hq)) hL
    refine ⟨.gsl h.next 0 0 L.length, h1, hop ?_, q2, .inr ⟨hL, h.next, Nat.le_refl _, rfl, q3⟩⟩
    unfold aAppend
    rw [hu1, hu2]
    rw [Nat.zero_add] at hlt
    simp only [hs, hby, hz, show lenA (.lit 0 []) = some 0 from rfl, hlen, hsrc, hsz0, hzl, cond_true, hb, cond_false, h0, List.nil_append, Nat.zero_add, growNew, q, hlt]
theorem SliceOf.scal {sz : Nat} {s : AVal} {L : List (List AVal)} (k : SliceOf h sz s L) : scalars [s] = true ∧ s.cells = [s] := by
  cases k with
  | nil => exact ⟨rfl, rfl⟩
  | mk hs hn hb hL hz hc => cases s <;> simp only [aSlElems, reduceCtorEq] at hs <;> exact ⟨rfl, rfl⟩
variable {c : FC} {k : List AItem} {Q : AM → Prop} {all : Array Oper} {pl rest : List DOp} {tf ta : Tr AVal} {facts left : List DFact} {i bef d : Nat}
theorem GoE.noisy0 {ta' : Tr AVal} {h1 : AH} {v : AVal} {op : Op} (hl : pl = ⟨i, bef, false, ⟨dst, op, tt, pos, after, guard⟩, false⟩ :: rest) (hw : wantedA all ta ⟨dst, op, tt, pos, after, guard⟩ = some true) (hx : aOp P ta h ⟨dst, op, tt, pos, after, guard⟩ = some (.val v h1)) (hleft : dropF bef facts = left) (hr : recheck P h1 left = true) (hd : (prepD c.n ⟨dst, op, tt, pos, after, guard⟩).run ta v = some ta')
    (g : GoE P c k Q all rest tf left ta' h1) : GoE P c k Q all pl tf facts ta h := GoE.noisy hl hw hx hleft hr hd g
theorem prepD_some {n : Nat} {op : Op} {v : AVal} (hd : dst = some d) (hdn : Nat.blt d n = true) : (prepD n ⟨dst, op, tt, pos, after, guard⟩).run ta v = some (ta.put (pth d) (some v)) := by
  unfold prepD
  rw [show (⟨dst, op, tt, pos, after, guard⟩ : Oper).dst = some d from hd]
  simp only [hdn, cond_true]
  rw [Tr.mkPut_eq]
theorem GoE.copy {el el2 t1 t2 : TypeId} {sz bytes : Nat} {z s : AVal} {L : List (List AVal)} (hl : pl = ⟨i, bef, false, ⟨dst, .call ⟨.builtin .append, #[x, y], #[t1, t2]⟩, tt, pos, after, guard⟩, false⟩ :: rest) (hw : wantedA all ta ⟨dst, .call ⟨.builtin .append, #[x, y], #[t1, t2]⟩, tt, pos, after, guard⟩ = some true)
    (hu1 : P.underlying t1 = some (.slice el)) (hu2 : P.underlying t2 = some (.slice el2)) (hs : sizeT P el = some sz) (hby : bytesT P el = some bytes) (hz : zeroT P el = some z) (hzl : Nat.beq z.cells.length sz = true) (hsz0 : Nat.blt 0 sz = true)
    (hx : ev ta x = some (.lit 0 [])) (hy : ev ta y = some s) (hsl : SliceOf h sz s L) (hll : ∀ l, l ∈ L → l.length = sz) (hroom : (L.length + 301) * 2 * (bytes + 1) < 281474976710656) (hleft : dropF bef facts = left) (hd : dst = some d) (hdn : Nat.blt d c.n = true)
    (g : ∀ v h1, Ext h h1 → Copied h.next h1 el v L → recheck P h1 left = true ∧ GoE P c k Q all rest tf left (ta.put (pth d) (some v)) h1) : GoE P c k Q all pl tf facts ta h := by
  obtain ⟨v, h1, q1, q2, q3⟩ := aOp_copy (P := P) (dst := dst) (tt := tt) (pos := pos) (after := after) (guard := guard) hu1 hu2 hs hby hz hzl hsz0 hx hy hsl hll hroom
  obtain ⟨g1, g2⟩ := g v h1 q2 q3
  exact GoE.noisy0 hl hw q1 hleft g1 (prepD_some hd hdn) g2
end
end Go.AbsE

namespace Go.AbsE
open Go
section
variable {P : Program} {c : FC} {k : List AItem} {Q : AM → Prop} {J : Jump} (hJ : JOk P J)
include hJ
theorem Go.loopKeep' {α : Type} (L : α → List (Nat × AVal)) (I : Nat → α → AH → Prop) {x : Code} {t : Tr AVal} {h : AH} {n : Nat} (a : α) (k0 : keepOk t (L a)) (h0 : I n a h)
    (step : ∀ n a h, I n a h → (∀ m a' t' h', m < n → keepOk t' (L a') → I m a' h' → Go P c (.inLoop x :: k) t' h' Q) → Go P c (.code x :: .inLoop x :: k) (keepT (L a)) h Q) : Go P c (.code (.loop x) :: k) t h Q := by
  refine Go.keep (L a) k0 ?_
  refine Go.loop hJ ?_
  have key : ∀ n a h, I n a h → Go P c (.code x :: .inLoop x :: k) (keepT (L a)) h Q := by
    intro n
    induction n using Nat.strongRecOn with
    | ind n ih =>
      intro a h hI
      refine step n a h hI fun m a' t' h' hm hk hI' => ?_
      exact Go.inLoop hJ (Go.keep (L a') hk (ih m hm a' h' hI'))
  exact key n a h h0
end
theorem Go.loopKeep {P : Program} {c : FC} {k : List AItem} {Q : AM → Prop} {α : Type} (L : α → List (Nat × AVal)) (I : Nat → α → AH → Prop) {x : Code} {t : Tr AVal} {h : AH} {n : Nat} (a : α) (k0 : keepOk t (L a)) (h0 : I n a h)
    (step : ∀ n a h, I n a h → (∀ m a' t' h', m < n → keepOk t' (L a') → I m a' h' → Go P c (.inLoop x :: k) t' h' Q) → Go P c (.code x :: .inLoop x :: k) (keepT (L a)) h Q) : Go P c (.code (.loop x) :: k) t h Q := Go.loopKeep' noJ_ok L I a k0 h0 step
end Go.AbsE

set_option linter.unusedSimpArgs false
namespace Go.AbsE
open Go
theorem sameA_agg2 (a b : Int) : sameA (.agg [.int .i64 a, .int .i64 b]) (.agg [.int .i64 a, .int .i64 b]) = true := by simp [sameA, sameAs, eqI_eq]
section
variable {P : Program}
theorem Go.opAny {c : FC} {k : List AItem} {Q : AM → Prop} {all : Array Oper} {o : Oper} {rest : List Oper} {i : Nat} {t : Tr AVal} {h : AH} (Alt : AVal → AH → Prop)
    (hw : wantedA all t o = some true)
    (H : ∀ (w0 : Base) (e : Env) (W : World) (n : Nat) (T : Array Value), TRel e n t T → HR P w0 e h W → ∃ v h', Alt v h' ∧ OpSim P w0 e h W ((execOp (opd T) o).run P W) (.val v h'))
    (hk : ∀ v h', Alt v h' → ∃ t', (prepD c.n o).run t v = some t' ∧ Go P c (.inRegion all (i + 1) rest :: k) t' h' Q) :
    Go P c (.inRegion all i (o :: rest) :: k) t h Q := by
  intro w0 e W F Fr cs hF r
  have hF' : FRs P e (c.fr (.inRegion all i (o :: rest) :: k) t :: c.rest) (F :: Fr) := hF
  cases hF' with
  | cons h1 hFr =>
    have hm := run_mode h1
    have htd := h1.todo rfl
    obtain ⟨IT, K, q1, q2, q3⟩ := plain_head htd (fun _ _ _ _ q => by cases q) (fun _ _ _ _ q => by cases q)
    cases q2 with
    | inRegion ho =>
      have hlen : i < all.size := by
        have := congrArg List.length ho
        simp at this
        omega
      have hdrop : all.toList.drop i = all.toList[i]'(by simpa using hlen) :: all.toList.drop (i + 1) := List.drop_eq_getElem_cons _
      rw [hdrop] at ho
      injection ho with ho1 ho2
      have hoi : all[i]? = some o := by rw [ho1]; simp [hlen]
      have hrange : List.range' i (all.size - i) = i :: List.range' (i + 1) (all.size - (i + 1)) := by
        rw [show all.size - i = (all.size - (i + 1)) + 1 from by omega, List.range'_succ]
      have hwr := wanted_rel h1.tm hw
      obtain ⟨v, h', ha, e', V, W', s1, s2, s3, s4⟩ := H w0 e W c.n F.tmps h1.tm r
      obtain ⟨t', hd, g⟩ := hk v h' ha
      have hst := st_value (P := P) (b := F) (cs := Fr ++ cs) (W := W) hm (T := F.tmps) (k := K) hoi (rest := List.range' (i + 1) (all.size - (i + 1))) hwr s1
      obtain ⟨m2, h2, hs⟩ := g w0 e' W' (Frame.w F (match o.dst with | some d => F.tmps.setIfInBounds d V | none => F.tmps) (.inRegion all (List.range' (i + 1) (all.size - (i + 1))) :: K)) Fr cs
        (.cons (FR.todo_set (h1.mono s2) (prepD_rel (h1.tm.mono s2) s3 hd) (.plain (.cons (.inRegion ho2) (q3.mono s2)))) (hFr.mono s2)) s4
      rw [← hrange, ← Frame.w_self q1] at hst
      exact ⟨m2, h2, SS.head (.one hst) hs⟩
theorem Go.beginR {c : FC} {k : List AItem} {Q : AM → Prop} {id : Nat} {ops : Array Oper} {l : List Oper} {t : Tr AVal} {h : AH} (hl : ops.toList = l) (g : Go P c (.inRegion ops 0 l :: k) t h Q) : Go P c (.code (.region id ops false) :: k) t h Q := by
  subst hl
  refine Go.plain noJ_ok (fun _ _ _ _ q => by cases q) (fun _ _ _ _ q => by cases q) (fun e IT K a b => ?_) g
  cases a
  refine ⟨_, .cons (.inRegion (by simp)) b, fun F T cs W hm => ?_⟩
  rw [Nat.sub_zero, ← List.range_eq_range']
  exact .one (st_region hm)
theorem MRs.mem {e : Env} : ∀ {l : List AMapE} {m : List MapEntry}, MRs e l m → ∀ en, en ∈ m → ∃ a, a ∈ l ∧ a.key = en.key ∧ a.born = en.born ∧ VR e a.val en.val
  | _, _, .nil, en, h => by cases h
  | _, _, .cons hv hs, en, h => by
    rcases List.mem_cons.1 h with rfl | h
    · exact ⟨_, List.mem_cons_self, rfl, rfl, hv⟩
    · obtain ⟨a, q1, q2⟩ := MRs.mem hs en h
      exact ⟨a, List.mem_cons_of_mem _ q1, q2⟩
theorem MRs.mem' {e : Env} : ∀ {l : List AMapE} {m : List MapEntry}, MRs e l m → ∀ a, a ∈ l → ∃ en, en ∈ m ∧ a.born = en.born
  | _, _, .nil, en, h => by cases h
  | _, _, .cons hv hs, en, h => by
    rcases List.mem_cons.1 h with rfl | h
    · exact ⟨_, List.mem_cons_self, rfl⟩
    · obtain ⟨a, q1, q2⟩ := MRs.mem' hs en h
      exact ⟨a, List.mem_cons_of_mem _ q1, q2⟩
def left (ES : Array MapEntry) (seen : List Nat) : Array MapEntry := ES.filter fun e => !seen.toArray.contains e.born
theorem left_mem {ES : Array MapEntry} {seen : List Nat} {en : MapEntry} : en ∈ left ES seen ↔ en ∈ ES ∧ en.born ∉ seen := by
  simp [left]
theorem run_choose {α : Type} (q : Question) (k : Nat → Sem α) (W : World) : ∃ j W', (W' = W ∨ ∃ n, W' = { W with drawn := n }) ∧ (q.forced = true → j = 0) ∧ (q.forced = false → ∃ x, j = q.cut x) ∧ (Sem.choose q k).run P W = (k j).run P W' := by
  cases hq : q.forced with
  | true => exact ⟨0, W, .inl rfl, fun _ => rfl, fun h => (by cases h), by simp [Sem.run, hq]⟩
  | false => exact ⟨_, _, .inr ⟨_, rfl⟩, fun h => (by cases h), fun _ => ⟨_, rfl⟩, by simp [Sem.run, hq]; rfl⟩
theorem next_over {W : World} {B M since last clock : Nat} {seen : List Nat} {ES : Array MapEntry} {ty : TypeId} (h1 : W.heap[B]? = some (.mapIter (some M) since seen.toArray last)) (h2 : W.heap[M]? = some (.map ES clock))
    (hl : left ES seen = #[]) (hb : ∀ en, en ∈ ES → en.born < last) : (Instr.next (.pointer (some ⟨B, 0, none⟩)) false ty).run P W = .ok (.tuple #[.bool false]) W := by
  have hg : (!seen.toArray.isEmpty && !ES.isEmpty && ES.all (·.born ≥ last)) = false := by
    cases hE : ES.isEmpty with
    | true => simp
    | false =>
      have : ES.all (·.born ≥ last) = false := by
        rw [Array.all_eq_false]
        have hne : 0 < ES.size := by
          rcases Nat.eq_zero_or_pos ES.size with q | q
          · simp [Array.isEmpty, q] at hE
          · exact q
        exact ⟨0, hne, by have := hb _ (Array.getElem_mem hne); simp; omega⟩
      rw [this]; simp
  unfold left at hl
  simp only [Instr.next, Sem.run_bind', getObj, Sem.run, h1, h2, hg, hl]
  simp [Sem.run_bind', choose, Sem.run, Question.forced, run_pure']
theorem next_more {W : World} {B M since last clock : Nat} {seen : List Nat} {ES : Array MapEntry} {ty : TypeId} (h1 : W.heap[B]? = some (.mapIter (some M) since seen.toArray last)) (h2 : W.heap[M]? = some (.map ES clock))
    (hl : left ES seen ≠ #[]) (hb : ∀ en, en ∈ ES → en.born < last) (hs : ∀ en, en ∈ ES → en.born < since) :
    ∃ en W', en ∈ left ES seen ∧ (W' = W ∨ ∃ n, W' = { W with drawn := n }) ∧ (Instr.next (.pointer (some ⟨B, 0, none⟩)) false ty).run P W = .ok (.tuple #[.bool true, en.key, en.val]) (World.upd W' B (.mapIter (some M) since (seen ++ [en.born]).toArray clock)) := by
  have hg : (!seen.toArray.isEmpty && !ES.isEmpty && ES.all (·.born ≥ last)) = false := by
    cases hE : ES.isEmpty with
    | true => simp
    | false =>
      have : ES.all (·.born ≥ last) = false := by
        rw [Array.all_eq_false]
        have hne : 0 < ES.size := by
          rcases Nat.eq_zero_or_pos ES.size with q | q
          · simp [Array.isEmpty, q] at hE
          · exact q
        exact ⟨0, hne, by have := hb _ (Array.getElem_mem hne); simp; omega⟩
      rw [this]; simp
  have ho : (left ES seen).filter (·.born < since) = left ES seen := by
    rw [Array.filter_eq_self]
    intro a ha
    have := hs a (left_mem.1 ha).1
    simpa using this
  have hn : (left ES seen).filter (·.born ≥ since) = #[] := by
    rw [Array.filter_eq_empty_iff]
    intro a ha
    have := hs a (left_mem.1 ha).1
    simp; omega
  have hne : (left ES seen).isEmpty = false := by
    cases q : (left ES seen).isEmpty with
    | true => exact absurd (Array.isEmpty_iff.1 q) hl
    | false => rfl
  have hsz : 0 < (left ES seen).size := by
    rcases Nat.eq_zero_or_pos (left ES seen).size with q | q
    · exact absurd (Array.eq_empty_of_size_eq_zero q) hl
    · exact q
  have e1 : (Instr.next (.pointer (some ⟨B, 0, none⟩)) false ty).run P W = (Sem.choose (.mapNext (left ES seen).size) fun j => (match ((left ES seen).map some)[j]? with
      | some (some e) => do setObj B (.mapIter (some M) since (seen.toArray.push e.born) clock); pure (.tuple #[.bool true, e.key, e.val])
      | some none => pure (.tuple #[.bool false])
      | none => stuck "Next: no such candidate" : Sem Value)).run P W := by
    unfold left at ho hn hne ⊢
    simp only [Instr.next, Sem.run_bind', getObj, Sem.run, h1, h2, hg, ho, hn, hne]
    simp [Sem.run_bind', choose, Sem.run]
    split <;> rfl
  rw [e1]
  obtain ⟨j, W', q1, q2, q3, q4⟩ := run_choose (P := P) (.mapNext (left ES seen).size) (fun j => (match ((left ES seen).map some)[j]? with
      | some (some e) => do setObj B (.mapIter (some M) since (seen.toArray.push e.born) clock); pure (.tuple #[.bool true, e.key, e.val])
      | some none => pure (.tuple #[.bool false])
      | none => stuck "Next: no such candidate" : Sem Value)) W
  have hj : j < (left ES seen).size := by
    cases hf : (Question.mapNext (left ES seen).size).forced with
    | true => rw [q2 hf]; exact hsz
    | false =>
      obtain ⟨x, rfl⟩ := q3 hf
      exact Nat.mod_lt _ hsz
  refine ⟨(left ES seen)[j], W', Array.getElem_mem hj, q1, ?_⟩
  rw [q4]
  have hget : ((left ES seen).map some)[j]? = some (some ((left ES seen)[j])) := by simp [hj]
  rw [hget]
  have hW : W'.heap[B]? = some (.mapIter (some M) since seen.toArray last) := by
    rcases q1 with rfl | ⟨n, rfl⟩
    · exact h1
    · exact h1
  simp [Sem.run_bind', setObj, Sem.run, hW, run_pure', World.upd]
theorem Go.nextM {c : FC} {k : List AItem} {Q : AM → Prop} {all : Array Oper} {rest : List Oper} {i : Nat} {t : Tr AVal} {h : AH} {x : Operand} {d bi bm since last clock : Nat} {seen : List Nat} {es : List AMapE} {ty : TypeId} {pos : String} {after : Array Edge}
    (hdn : Nat.blt d c.n = true) (hx : ev t x = some (.ptr bi 0)) (hi : Has h bi (.iter bm since seen last)) (hm : mapB h bm = some (es, clock)) (hb : ∀ en, en ∈ es → en.born < last) (hs : ∀ en, en ∈ es → en.born < since)
    (hkv : ∀ en, en ∈ es → ∃ kv, absV en.key = some kv)
    (over : (∀ en, en ∈ es → en.born ∈ seen) → Go P c (.inRegion all (i + 1) rest :: k) (t.put (pth d) (some (.tuple [.bool false]))) h Q)
    (more : ∀ en kv, en ∈ es → en.born ∉ seen → absV en.key = some kv → ∀ h1, Upd h bi (.iter bm since (seen ++ [en.born]) clock) h1 → Go P c (.inRegion all (i + 1) rest :: k) (t.put (pth d) (some (.tuple [.bool true, kv, en.val]))) h1 Q) :
    Go P c (.inRegion all i (⟨some d, .next x false, ty, pos, after, none⟩ :: rest) :: k) t h Q := by
  refine Go.opAny (fun v h' => ((∀ en, en ∈ es → en.born ∈ seen) ∧ v = .tuple [.bool false] ∧ h' = h) ∨ ∃ en kv, en ∈ es ∧ en.born ∉ seen ∧ absV en.key = some kv ∧ v = .tuple [.bool true, kv, en.val] ∧ Upd h bi (.iter bm since (seen ++ [en.born]) clock) h') rfl ?_ ?_
  · intro w0 e W n T hT r
    have hxv := ev_rel hT hx
    show ∃ v h', _ ∧ OpSim P w0 e h W ((do let a ← Instr.next (opd T x) false ty; pure (Next.value a)).run P W) (.val v h')
    generalize opd T x = C at hxv
    cases hxv with
    | ptr hbi =>
      obtain ⟨B, cB, O, k1, k2, k3, k4⟩ := r.blk _ _ hi.2
      have hBB := k1.symm.trans hbi
      cases hBB
      cases k4 with
      | iter hem =>
        obtain ⟨M, cM, ES, j1, j3, hmr⟩ := mapB_sim r hm
        have hMM := j1.symm.trans hem
        cases hMM
        have hb' : ∀ en, en ∈ ES → en.born < last := fun en q => by obtain ⟨a, a1, a2, a3, a4⟩ := hmr.mem en (by simpa using q); rw [← a3]; exact hb a a1
        have hs' : ∀ en, en ∈ ES → en.born < since := fun en q => by obtain ⟨a, a1, a2, a3, a4⟩ := hmr.mem en (by simpa using q); rw [← a3]; exact hs a a1
        by_cases hL : left ES seen = #[]
        · refine ⟨.tuple [.bool false], h, .inl ⟨fun en hen => ?_, rfl, rfl⟩, sim_pure r (next_over k3 j3 hL hb') (.tuple (.cons (.bool false) .nil))⟩
          obtain ⟨en', q1, q2⟩ := hmr.mem' en hen
          by_cases hq : en.born ∈ seen
          · exact hq
          · have : en' ∈ left ES seen := left_mem.2 ⟨by simpa using q1, q2 ▸ hq⟩
            rw [hL] at this
            simp at this
        · obtain ⟨en, W', q1, q2, q3⟩ := next_more (P := P) (ty := ty) k3 j3 hL hb' hs'
          obtain ⟨m1, m2⟩ := left_mem.1 q1
          obtain ⟨a, a1, a2, a3, a4⟩ := hmr.mem en (by simpa using m1)
          obtain ⟨kv, hkv⟩ := hkv a a1
          obtain ⟨h1, s1, s2⟩ := set_upd h bi (.iter bm since (seen ++ [en.born]) clock)
          have r' : HR P w0 e h W' := by
            rcases q2 with rfl | ⟨n, rfl⟩
            · exact r
            · exact r.drew n
          refine ⟨.tuple [.bool true, kv, a.val], h1, .inr ⟨a, kv, a1, by rw [a3]; exact m2, hkv, rfl, by rw [a3]; exact s2⟩, sim_val q3 (Env.le_refl e) ?_ (r'.set hi.2 rfl k1 s1 (.iter j1))⟩
          exact .tuple (.cons (.bool true) (.cons (by rw [← a2]; exact absV_rel hkv) (.cons a4 .nil)))
  · intro v h' ha
    have hp : ∀ v, (prepD c.n ⟨some d, .next x false, ty, pos, after, none⟩).run t v = some (t.put (pth d) (some v)) := by
      intro v
      unfold prepD
      simp only [hdn, cond_true]
      rw [Tr.mkPut_eq]
    rcases ha with ⟨q1, rfl, rfl⟩ | ⟨en, kv, q1, q2, q3, rfl, q4⟩
    · exact ⟨_, hp _, over q1⟩
    · exact ⟨_, hp _, more en kv q1 q2 q3 h' q4⟩
theorem GoR.rangeM {J : Jump} {c : FC} {k : List AItem} {Q : AM → Prop} {all : Array Oper} {l : List Oper} {rest : List Oper} {o : Oper} {i d : Nat} {t : Tr AVal} {h : AH} {ty kt et : TypeId} {x : Operand} {bm clock : Nat} {es : List AMapE} (hl0 : l = o :: rest) (hw : wantedA all t o = some true)
    (ho : o.op = .range ty x) (hu : P.underlying ty = some (.map kt et)) (hx : ev t x = some (.map bm)) (hm : mapB h bm = some (es, clock)) (hd : o.dst = some d) (hn : Nat.blt d c.n = true)
    (g : ∀ h1, Ext h h1 → Has h1 h.next (.iter bm clock [] clock) → GoR P J c k Q (runOps P c.n all rest (i + 1) (t.put (pth d) (some (.ptr h.next 0))) h1)) : GoR P J c k Q (runOps P c.n all l i t h) := by
  obtain ⟨h1, q⟩ := new_some h (.iter bm clock [] clock)
  obtain ⟨_, q2, q3⟩ := new_ext q
  refine GoR.op hl0 hw (v := .ptr h.next 0) (h' := h1) ?_ ?_ (g h1 q2 q3)
  · obtain ⟨dst, op, type, pos, after, guard⟩ := o
    dsimp only at ho
    subst ho
    show opRange P t h ty x = _
    unfold opRange
    rw [hu, hx]
    simp only [hm, q, ptrTo]
  · unfold prepD
    rw [hd]
    simp only [hn, cond_true]
    rw [Tr.mkPut_eq]
theorem lastOf_append (l : List Nat) (x : Nat) : lastOf (l ++ [x]) = some x := by
  induction l with
  | nil => rfl
  | cons y l ih => simp [lastOf, ih]
theorem findBorn_of {es : List AMapE} {en : AMapE} (h : en ∈ es) (hd : es.Pairwise fun a b => a.born ≠ b.born) : findBorn en.born es = some en := by
  induction es with
  | nil => cases h
  | cons a l ih =>
    rw [List.pairwise_cons] at hd
    unfold findBorn
    rcases List.mem_cons.1 h with rfl | h
    · rw [show Nat.beq en.born en.born = true from Nat.beq_refl _]; rfl
    · rw [show Nat.beq a.born en.born = false from by cases q : Nat.beq a.born en.born with | false => rfl | true => exact absurd (Nat.eq_of_beq_eq_true q) (hd.1 en h)]
      exact ih h hd.2
theorem aOp_entry {t : Tr AVal} {h : AH} {x : Operand} {bi bm since clock : Nat} {seen : List Nat} {es : List AMapE} {en : AMapE} {kv : AVal} {dst : Option Tmp} {tt : TypeId} {pos : String} {after : Array Edge} {guard : Option (Nat × Bool)}
    (hx : ev t x = some (.ptr bi 0)) (hi : Has h bi (.iter bm since (seen ++ [en.born]) clock)) (hm : mapB h bm = some (es, clock)) (he : en ∈ es) (hd : es.Pairwise fun a b => a.born ≠ b.born) (hk : absV en.key = some kv) :
    aOp P t h ⟨dst, .entry x, tt, pos, after, guard⟩ = some (.val (.tuple [kv, en.val]) h) := by
  show opEntry t h x = _
  unfold opEntry
  rw [hx]
  have hi2 := hi.2
  simp only [hi2, hm, Nat.beq_refl, cond_true, entryIn, lastOf_append, findBorn_of he hd, entryV, hk, valO, show Nat.beq clock clock = true from Nat.beq_refl _]
theorem aOp_buildSl {t : Tr AVal} {h : AH} {dst : Option Tmp} {tt ty el : TypeId} {pos : String} {after : Array Edge} {guard : Option (Nat × Bool)} {len n : Nat} {parts : Array (Nat × Operand)} {ps : List (Nat × AVal)} {z : AVal} {cs : List AVal}
    (hu : P.underlying ty = some (.slice el)) (hp : evParts t parts.toList = some ps) (hs : sizeT P el = some n) (hz : zeroT P el = some z) (hb : Nat.ble (len * n) 100000 = true) (hzl : Nat.beq z.cells.length n = true)
    (hc : aFillA (fun i => some (i * n, n)) (repl z.cells len) ps = some cs) : ∃ h1, aOp P t h ⟨dst, .buildSlice ty len parts, tt, pos, after, guard⟩ = some (.val (.slice h.next 0 len len) h1) ∧ Ext h h1 ∧ Has h1 h.next (.cells .plain cs el) := by
  obtain ⟨h1, q⟩ := new_some h (.cells .plain cs el)
  obtain ⟨_, q2, q3⟩ := new_ext q
  refine ⟨h1, ?_, q2, q3⟩
  show opBuildSlice P t h ty len parts = _
  unfold opBuildSlice
  rw [hu, hp]
  simp only [hs, hz, hb, hzl, cond_true, hc, q]
theorem GoR.buildSl {J : Jump} {c : FC} {k : List AItem} {Q : AM → Prop} {all : Array Oper} {l : List Oper} {rest : List Oper} {i d : Nat} {t : Tr AVal} {h : AH} {tt ty el : TypeId} {pos : String} {after : Array Edge} {guard : Option (Nat × Bool)} {len n : Nat} {parts : Array (Nat × Operand)} {ps : List (Nat × AVal)} {z : AVal} {cs : List AVal}
    (hl0 : l = ⟨some d, .buildSlice ty len parts, tt, pos, after, guard⟩ :: rest) (hw : wantedA all t ⟨some d, .buildSlice ty len parts, tt, pos, after, guard⟩ = some true)
    (hu : P.underlying ty = some (.slice el)) (hp : evParts t parts.toList = some ps) (hs : sizeT P el = some n) (hz : zeroT P el = some z) (hb : Nat.ble (len * n) 100000 = true) (hzl : Nat.beq z.cells.length n = true)
    (hc : aFillA (fun i => some (i * n, n)) (repl z.cells len) ps = some cs) (hdn : Nat.blt d c.n = true)
    (g : ∀ h1, Ext h h1 → Has h1 h.next (.cells .plain cs el) → GoR P J c k Q (runOps P c.n all rest (i + 1) (t.put (pth d) (some (.slice h.next 0 len len))) h1)) : GoR P J c k Q (runOps P c.n all l i t h) := by
  obtain ⟨h1, q1, q2, q3⟩ := aOp_buildSl (P := P) (t := t) (h := h) (dst := some d) (tt := tt) (pos := pos) (after := after) (guard := guard) hu hp hs hz hb hzl hc
  refine GoR.op hl0 hw q1 ?_ (g h1 q2 q3)
  unfold prepD
  simp only [hdn, cond_true]
  rw [Tr.mkPut_eq]
theorem GoE.buildSl {c : FC} {k : List AItem} {Q : AM → Prop} {all : Array Oper} {pl rest : List DOp} {tf ta : Tr AVal} {facts left : List DFact} {h : AH} {i bef d : Nat} {tt ty el : TypeId} {pos : String} {after : Array Edge} {guard : Option (Nat × Bool)} {len n : Nat} {parts : Array (Nat × Operand)} {ps : List (Nat × AVal)} {z : AVal} {cs : List AVal}
    (hl : pl = ⟨i, bef, false, ⟨some d, .buildSlice ty len parts, tt, pos, after, guard⟩, false⟩ :: rest) (hw : wantedA all ta ⟨some d, .buildSlice ty len parts, tt, pos, after, guard⟩ = some true)
    (hu : P.underlying ty = some (.slice el)) (hp : evParts ta parts.toList = some ps) (hs : sizeT P el = some n) (hz : zeroT P el = some z) (hb : Nat.ble (len * n) 100000 = true) (hzl : Nat.beq z.cells.length n = true)
    (hc : aFillA (fun i => some (i * n, n)) (repl z.cells len) ps = some cs) (hleft : dropF bef facts = left) (hdn : Nat.blt d c.n = true)
    (g : ∀ h1, Ext h h1 → Has h1 h.next (.cells .plain cs el) → recheck P h1 left = true ∧ GoE P c k Q all rest tf left (ta.put (pth d) (some (.slice h.next 0 len len))) h1) : GoE P c k Q all pl tf facts ta h := by
  obtain ⟨h1, q1, q2, q3⟩ := aOp_buildSl (P := P) (t := ta) (h := h) (dst := some d) (tt := tt) (pos := pos) (after := after) (guard := guard) hu hp hs hz hb hzl hc
  obtain ⟨g1, g2⟩ := g h1 q2 q3
  refine GoE.noisy hl hw q1 hleft g1 ?_ g2
  unfold prepD
  simp only [hdn, cond_true]
  rw [Tr.mkPut_eq]
end
section
variable {P : Program}
noncomputable def orJ (J1 J2 : Jump) : Jump := ⟨fun f args h => match J1.run f args h with | some v => some v | none => J2.run f args h⟩
theorem orJ_ok {J1 J2 : Jump} (h1 : JOk P J1) (h2 : JOk P J2) : JOk P (orJ J1 J2) := by
  intro f args h v k
  unfold orJ at k
  dsimp only at k
  split at k
  · rename_i v' hv
    cases k
    exact h1 f args h _ hv
  · exact h2 f args h v k
theorem JOk.ofRuns {J : Jump} (H : ∀ f args h v, J.run f args h = some v → flatA v = true ∧ ∃ h2 : AH, h2.next = h.next ∧ (∀ b o, h2.get b = some o → ∃ es c, o = .romap es c ∧ mapB h b = some (es, c)) ∧ Runs P f args h2 (fun en _ => en = .ret v)) : JOk P J := by
  intro f args h v hv w0 e W ARGS r ha
  obtain ⟨hf, h2, q1, q2, q3⟩ := H f args h v hv
  have r2 : HR P (Base.all W) e h2 W := by
    refine ⟨fun b x q => by rw [q1]; exact r.dom b x q, fun b o q => ?_, fun b b' B c c' o o' k1 k2 hro => ?_, fun B CS hi => ⟨(r.imm B CS hi).1, fun b o c kb hro => ?_⟩, rfl, rfl, rfl, Nat.le_refl _, fun _ _ => rfl, fun i O hi hO => ?_⟩
    · obtain ⟨es, c, rfl, hm⟩ := q2 b o q
      obtain ⟨B, cB, ES, k1, k2, k3⟩ := mapB_sim r hm
      exact ⟨B, cB, _, k1, (fun q => by cases q), k2, by have := BR.romap (P := P) (c := cB) (clock := c) k3; simpa using this⟩
    · obtain ⟨es, c, rfl, hm⟩ := q2 b o k1
      cases hro
    · obtain ⟨es, c', rfl, hm⟩ := q2 b o kb
      cases hro
    · exact absurd (Array.getElem?_eq_some_iff.1 hO).1 (Nat.not_lt.2 hi)
  refine (q3.calls (fun chain h' q => by cases q) r2 ha).mono ?_
  rintro en W' ⟨v', h', e', V, g1, g2, g3, g4⟩
  cases g1
  exact ⟨V, g2, VR.flat hf g3, g4.isStill⟩
end
end Go.AbsE
