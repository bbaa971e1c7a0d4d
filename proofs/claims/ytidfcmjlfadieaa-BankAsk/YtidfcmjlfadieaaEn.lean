import Derived.Test.YtidfcmjlfadieaaZ
set_option linter.unusedSimpArgs false
namespace Go.AbsE
open Go Go.RowKit

/-! Calls that are known by a run of their own: their arguments may point to blocks that are only read. -/

structure Ent where
  f : FuncId
  args : List AVal
  blks : List (List AVal × TypeId)
  v : AVal

mutual
noncomputable def flatA : AVal → Bool
  | .int _ _ => true
  | .bool _ => true
  | .str _ => true
  | .nilptr => true
  | .nilslice => true
  | .nilmap => true
  | .nilfunc => true
  | .nilIface => true
  | .iface _ v => flatA v
  | .agg l => flatAs l
  | .tuple l => flatAs l
  | _ => false
noncomputable def flatAs : List AVal → Bool
  | [] => true
  | a :: l => cond (flatA a) (flatAs l) false
end

mutual
noncomputable def ren (rn : Nat → Nat) : AVal → AVal
  | .ptr b o => .ptr (rn b) o
  | .slice b o l c => .slice (rn b) o l c
  | .gsl b o i l => .gsl (rn b) o i l
  | .map b => .map (rn b)
  | .func fn f c => .func fn (rens rn f) (rens rn c)
  | .yield l => .yield (rn l)
  | .iface t v => .iface t (ren rn v)
  | .agg l => .agg (rens rn l)
  | .tuple l => .tuple (rens rn l)
  | .lit n l => .lit n (rens rn l)
  | .int k n => .int k n
  | .bool b => .bool b
  | .str s => .str s
  | .nilptr => .nilptr
  | .nilslice => .nilslice
  | .nilmap => .nilmap
  | .nilfunc => .nilfunc
  | .nilIface => .nilIface
noncomputable def rens (rn : Nat → Nat) : List AVal → List AVal
  | [] => []
  | a :: l => ren rn a :: rens rn l
end

mutual
noncomputable def ptrsA : AVal → List Nat
  | .ptr b _ => [b]
  | .slice b _ _ _ => [b]
  | .gsl b _ _ _ => [b]
  | .map b => [b]
  | .func _ f c => ptrsAs f ++ ptrsAs c
  | .yield l => [l]
  | .iface _ v => ptrsA v
  | .agg l => ptrsAs l
  | .tuple l => ptrsAs l
  | .lit _ l => ptrsAs l
  | _ => []
noncomputable def ptrsAs : List AVal → List Nat
  | [] => []
  | a :: l => ptrsA a ++ ptrsAs l
end

noncomputable def pairUp : List Nat → List Nat → List (Nat × Nat)
  | a :: l, b :: m => (a, b) :: pairUp l m
  | _, _ => []

noncomputable def lookN (df n : Nat) : List (Nat × Nat) → Nat
  | [] => df
  | p :: l => cond (Nat.beq p.1 n) p.2 (lookN df n l)

/-- (df: the number of no block) -/
noncomputable def rnOf (df len : Nat) (as : List (Nat × Nat)) (b : Nat) : Nat := cond (Nat.blt b len) (lookN df b as) df

noncomputable def blksOk (h : AH) (rn : Nat → Nat) : List (List AVal × TypeId) → Nat → Bool
  | [], _ => true
  | (cs, el) :: l, k => match h.get (rn k) with
    | some (.cells _ cs' el') => cond (sameAs cs cs') (cond (flatAs cs) (cond (Nat.beq el el') (blksOk h rn l (k + 1)) false) false) false
    | _ => false

noncomputable def entMatch (ent : Ent) (args : List AVal) (h : AH) : Bool :=
  match ent with
  | ⟨_, as, blks, _⟩ => match pairUp (ptrsAs as) (ptrsAs args) with
    | ps => cond (sameAs (rens (rnOf h.next blks.length ps) as) args) (blksOk h (rnOf h.next blks.length ps) blks 0) false

noncomputable def entFind (f : FuncId) (args : List AVal) (h : AH) : List Ent → Option AVal
  | [] => none
  | ent :: l => cond (Nat.beq ent.f f) (cond (entMatch ent args h) (some ent.v) (entFind f args h l)) (entFind f args h l)

noncomputable def tblJ (l : List Ent) : Jump := ⟨fun f args h => entFind f args h l⟩

noncomputable def mkT : List (List AVal × TypeId) → Nat → Tr ABlk → Tr ABlk
  | [], _, t => t
  | (cs, el) :: l, k, t => mkT l (k + 1) (t.put (pth k) (some (.cells .ro cs el)))

noncomputable def mkH (l : List (List AVal × TypeId)) : AH := ⟨mkT l 0 .leaf, l.length⟩

noncomputable def entRun (P : Program) (J : Jump) (fuel : Nat) (ent : Ent) : Bool :=
  match ent with
  | ⟨f, args, blks, v⟩ => cond (flatA v) (cond (Nat.ble blks.length 1000) (match aCall P J fuel f args (mkH blks) with
    | some m => (match aDone P f m with | some (v', _) => sameA v' v | none => false)
    | none => false) false) false

/-! ### soundness -/
mutual
theorem VR.flat {e e' : Env} : ∀ {a V}, flatA a = true → VR e a V → VR e' a V
  | _, _, _, .int k n => .int k n
  | _, _, _, .bool b => .bool b
  | _, _, _, .str s => .str s
  | _, _, _, .nilptr => .nilptr
  | _, _, h, .ptr _ => by simp [flatA] at h
  | _, _, _, .nilslice => .nilslice
  | _, _, h, .slice _ => by simp [flatA] at h
  | _, _, h, .gsl _ => by simp [flatA] at h
  | _, _, _, .nilmap => .nilmap
  | _, _, h, .map _ => by simp [flatA] at h
  | _, _, _, .nilfunc => .nilfunc
  | _, _, h, .func _ _ _ => by simp [flatA] at h
  | _, _, h, .yield _ => by simp [flatA] at h
  | _, _, _, .nilIface => .nilIface
  | _, _, h, .iface k => .iface (VR.flat (by simpa [flatA] using h) k)
  | _, _, h, .agg k => .agg (VRs.flat (by simpa [flatA] using h) k)
  | _, _, h, .tuple k => .tuple (VRs.flat (by simpa [flatA] using h) k)
  | _, _, h, .lit _ _ => by simp [flatA] at h
theorem VRs.flat {e e' : Env} : ∀ {l m}, flatAs l = true → VRs e l m → VRs e' l m
  | _, _, _, .nil => .nil
  | _, _, h, .cons k ks => by
    simp only [flatAs] at h
    cases hq : flatA _ with
    | false => rw [hq] at h; cases h
    | true => rw [hq] at h; exact .cons (VR.flat hq k) (VRs.flat h ks)
end

mutual
theorem VR.unren {e : Env} {rn : Nat → Nat} : ∀ {a V}, VR e (ren rn a) V → VR ⟨fun b => e (rn b), e.imm⟩ a V
  | .int k n, _, h => by simp only [ren] at h; cases h; exact .int k n
  | .bool b, _, h => by simp only [ren] at h; cases h; exact .bool b
  | .str s, _, h => by simp only [ren] at h; cases h; exact .str s
  | .nilptr, _, h => by simp only [ren] at h; cases h; exact .nilptr
  | .ptr b o, _, h => by simp only [ren] at h; cases h with | ptr k => exact .ptr k
  | .nilslice, _, h => by simp only [ren] at h; cases h; exact .nilslice
  | .slice b o l c, _, h => by simp only [ren] at h; cases h with | slice k => exact .slice k
  | .gsl b o l c, _, h => by simp only [ren] at h; cases h with | gsl k => exact .gsl k
  | .nilmap, _, h => by simp only [ren] at h; cases h; exact .nilmap
  | .map b, _, h => by simp only [ren] at h; cases h with | map k => exact .map k
  | .nilfunc, _, h => by simp only [ren] at h; cases h; exact .nilfunc
  | .func fn f c, _, h => by simp only [ren] at h; cases h with | func hf k1 k2 => exact .func hf (VRs.unren k1) (VRs.unren k2)
  | .yield l, _, h => by simp only [ren] at h; cases h with | yield k => exact .yield k
  | .nilIface, _, h => by simp only [ren] at h; cases h; exact .nilIface
  | .iface t v, _, h => by simp only [ren] at h; cases h with | iface k => exact .iface (VR.unren k)
  | .agg l, _, h => by simp only [ren] at h; cases h with | agg k => exact .agg (VRs.unren k)
  | .tuple l, _, h => by simp only [ren] at h; cases h with | tuple k => exact .tuple (VRs.unren k)
  | .lit n l, _, h => by simp only [ren] at h; cases h with | lit hi k => exact .lit hi (VRs.unren k)
theorem VRs.unren {e : Env} {rn : Nat → Nat} : ∀ {l m}, VRs e (rens rn l) m → VRs ⟨fun b => e (rn b), e.imm⟩ l m
  | [], _, h => by simp only [rens] at h; cases h; exact .nil
  | a :: l, _, h => by simp only [rens] at h; cases h with | cons k ks => exact .cons (VR.unren k) (VRs.unren ks)
end

theorem sameAs_eq {l m : List AVal} (h : sameAs l m = true) : l = m := by
  have := sameA_eq (.agg l) (.agg m) (by simpa [sameA] using h)
  injection this

theorem mkT_get : ∀ (l : List (List AVal × TypeId)) (k : Nat) (t : Tr ABlk), k + l.length ≤ 100000 → ∀ b, (mkT l k t).get (pth b) = if k ≤ b ∧ b < k + l.length then (l[b - k]?).map (fun x => .cells .ro x.1 x.2) else t.get (pth b) := by
  intro l
  induction l with
  | nil => intro k t _ b; simp [mkT]; omega
  | cons x l ih =>
    intro k t hk b
    obtain ⟨cs, el⟩ := x
    simp only [List.length_cons] at hk
    unfold mkT
    rw [ih (k + 1) _ (by omega) b, Tr.get_put _ _ (pth_ok (by omega))]
    by_cases hb : b = k
    · subst hb
      rw [if_neg (by omega), if_pos rfl, if_pos (by simp)]
      simp
    · have hp : ¬ pth k = pth b := fun q => hb (pth_inj (by omega) q).symm
      rw [if_neg hp]
      by_cases h1 : k + 1 ≤ b ∧ b < k + 1 + l.length
      · rw [if_pos h1, if_pos (by simp; omega)]
        have : b - k = (b - (k + 1)) + 1 := by omega
        rw [this]
        simp
      · rw [if_neg h1, if_neg (by simp; omega)]

theorem mkH_get {l : List (List AVal × TypeId)} (hl : l.length ≤ 1000) (b : Nat) : (mkH l).get b = (l[b]?).map (fun x => .cells .ro x.1 x.2) := by
  show (mkT l 0 .leaf).get (pth b) = _
  rw [mkT_get l 0 .leaf (by omega) b]
  by_cases h : 0 ≤ b ∧ b < 0 + l.length
  · rw [if_pos h]; simp
  · rw [if_neg h, Tr.get_leaf]
    have : l[b]? = none := by simp; omega
    rw [this]; rfl

def EntOk (P : Program) (ent : Ent) : Prop := flatA ent.v = true ∧ ent.blks.length ≤ 1000 ∧ ∀ (W : World) (e : Env) (ARGS : List Value), HR P (Base.all W) e (mkH ent.blks) W → VRs e ent.args ARGS →
  Calls P ent.f ARGS.toArray W fun en W' => ∃ V, en = .returned V ∧ VR e ent.v V ∧ Still W W'

theorem entRun_ok {P : Program} {J : Jump} (hJ : JOk P J) {fuel : Nat} {ent : Ent} (k : entRun P J fuel ent = true) : EntOk P ent := by
  obtain ⟨f, args, blks, v⟩ := ent
  unfold entRun at k
  simp only [] at k
  cases hf : flatA v with
  | false => rw [hf] at k; cases k
  | true =>
    cases hb : Nat.ble blks.length 1000 with
    | false => rw [hf, hb] at k; cases k
    | true =>
      rw [hf, hb] at k
      simp only [cond_true] at k
      refine ⟨hf, Nat.le_of_ble_eq_true hb, fun W e ARGS r ha => ?_⟩
      split at k
      · rename_i m hm
        split at k
        · rename_i v' h' hd
          have := sameA_eq _ _ k
          subst this
          refine (calls_of_aCall hJ r ha hm hd).mono ?_
          rintro en W' ⟨e', V, h1, h2, h3⟩
          exact ⟨V, h1, VR.flat hf h2, h3.isStill⟩
        · cases k
      · cases k

theorem blksOk_mem {h : AH} {rn : Nat → Nat} : ∀ {l : List (List AVal × TypeId)} {k : Nat}, blksOk h rn l k = true → ∀ i cs el, l[i]? = some (cs, el) → flatAs cs = true ∧ ∃ g, h.get (rn (k + i)) = some (.cells g cs el) := by
  intro l
  induction l with
  | nil => intro k _ i cs el q; simp at q
  | cons x l ih =>
    intro k hk i cs el q
    obtain ⟨cs0, el0⟩ := x
    simp only [blksOk] at hk
    split at hk
    · rename_i g cs' el' hg
      cases h1 : sameAs cs0 cs' with
      | false => rw [h1] at hk; cases hk
      | true =>
        cases h2 : flatAs cs0 with
        | false => rw [h1, h2] at hk; cases hk
        | true =>
          cases h3 : Nat.beq el0 el' with
          | false => rw [h1, h2, h3] at hk; cases hk
          | true =>
            rw [h1, h2, h3] at hk
            simp only [cond_true] at hk
            cases i with
            | zero =>
              simp at q
              obtain ⟨rfl, rfl⟩ := q
              have e1 := sameAs_eq h1
              have e2 := Nat.eq_of_beq_eq_true h3
              subst e1; subst e2
              exact ⟨h2, g, hg⟩
            | succ i =>
              have := ih hk i cs el (by simpa using q)
              rw [show k + 1 + i = k + (i + 1) from by omega] at this
              exact this
    · cases hk

theorem entMatch_ok {P : Program} {ent : Ent} (ho : EntOk P ent) {args : List AVal} {h : AH} (k : entMatch ent args h = true) {w0 : Base} {e : Env} {W : World} {ARGS : List Value} (r : HR P w0 e h W) (ha : VRs e args ARGS) :
    Calls P ent.f ARGS.toArray W fun en W' => ∃ V, en = .returned V ∧ VR e ent.v V ∧ Still W W' := by
  obtain ⟨hf, hlen, hc⟩ := ho
  obtain ⟨f, as, blks, v⟩ := ent
  dsimp only at hf hlen hc ⊢
  unfold entMatch at k
  simp only [] at k
  generalize hps : pairUp (ptrsAs as) (ptrsAs args) = ps at k
  cases hs : sameAs (rens (rnOf h.next blks.length ps) as) args with
  | false => rw [hs] at k; cases k
  | true =>
    rw [hs] at k
    simp only [cond_true] at k
    have hargs := sameAs_eq hs
    subst hargs
    have hbm := blksOk_mem k
    have ha' := VRs.unren ha
    refine (hc W ⟨fun b => e (rnOf h.next blks.length ps b), e.imm⟩ ARGS ?_ ha').mono ?_
    · refine ⟨fun b x q => ?_, fun b o q => ?_, fun b b' B c c' o o' q1 q2 hro => ?_, fun B CS hi => ⟨(r.imm B CS hi).1, fun b o c kb hro => ?_⟩, rfl, rfl, rfl, Nat.le_refl _, fun _ _ => rfl, fun i O hi hO => ?_⟩
      · have hd := r.dom _ _ q
        unfold rnOf at hd
        cases hb : Nat.blt b blks.length with
        | false => rw [hb] at hd; simp only [cond_false] at hd; omega
        | true => exact blt_true hb
      · rw [mkH_get hlen] at q
        cases hq : blks[b]? with
        | none => rw [hq] at q; cases q
        | some x =>
          obtain ⟨cs, el⟩ := x
          rw [hq] at q
          cases q
          obtain ⟨g1, g, g2⟩ := hbm b cs el hq
          rw [Nat.zero_add] at g2
          obtain ⟨B, c, O, k1, k2, k3, k4⟩ := r.blk _ _ g2
          refine ⟨B, c, O, k1, (fun q => by cases q), k3, ?_⟩
          cases k4 with
          | cells hv _ _ => exact .cells (VRs.flat g1 hv) (fun q => by cases q) (fun q => by cases q)
      · rw [mkH_get hlen] at q1
        cases hq : blks[b]? with
        | none => rw [hq] at q1; cases q1
        | some x => rw [hq] at q1; cases q1; cases hro
      · rw [mkH_get hlen] at kb
        cases hq : blks[b]? with
        | none => rw [hq] at kb; cases kb
        | some x => rw [hq] at kb; cases kb; cases hro
      · exact absurd (Array.getElem?_eq_some_iff.1 hO).1 (Nat.not_lt.2 hi)
    · rintro en W' ⟨V, h1, h2, h3⟩
      exact ⟨V, h1, VR.flat hf h2, h3⟩

theorem entFind_ok {P : Program} {f : FuncId} {args : List AVal} {h : AH} {v : AVal} {w0 : Base} {e : Env} {W : World} {ARGS : List Value} (r : HR P w0 e h W) (ha : VRs e args ARGS) : ∀ {l : List Ent}, (∀ ent ∈ l, EntOk P ent) → entFind f args h l = some v →
    Calls P f ARGS.toArray W fun en W' => ∃ V, en = .returned V ∧ VR e v V ∧ Still W W' := by
  intro l
  induction l with
  | nil => intro _ q; cases q
  | cons ent l ih =>
    intro ho q
    unfold entFind at q
    cases hf : Nat.beq ent.f f with
    | false => rw [hf] at q; exact ih (fun x hx => ho x (by simp [hx])) q
    | true =>
      cases hm : entMatch ent args h with
      | false => rw [hf, hm] at q; exact ih (fun x hx => ho x (by simp [hx])) q
      | true =>
        rw [hf, hm] at q
        cases q
        have := Nat.eq_of_beq_eq_true hf
        subst this
        exact entMatch_ok (ho ent (by simp)) hm r ha

theorem EntOk.nil {P : Program} : ∀ ent ∈ ([] : List Ent), EntOk P ent := fun _ h => by cases h

theorem EntOk.cons {P : Program} {ent : Ent} {l : List Ent} (h : EntOk P ent) (hs : ∀ x ∈ l, EntOk P x) : ∀ x ∈ ent :: l, EntOk P x := by
  intro x hx
  rcases List.mem_cons.1 hx with rfl | hx
  · exact h
  · exact hs x hx

/-- A call without arguments: is it known to answer true? -/
noncomputable def closedRun (P : Program) (J : Jump) (fuel : Nat) (f : FuncId) : Bool :=
  match aCall P J fuel f [] h0 with
  | some m => (match aDone P f m with | some (v, _) => (match v with | .bool b => b | _ => false) | none => false)
  | none => false

theorem closedRun_ok {P : Program} {J : Jump} (hJ : JOk P J) {fuel : Nat} {f : FuncId} (k : closedRun P J fuel f = true) (W : World) :
    Calls P f #[] W fun en W' => en = .returned (.bool true) ∧ Grown W W' := by
  unfold closedRun at k
  split at k
  · rename_i m hm
    split at k
    · rename_i v h' hd
      split at k
      · subst k
        exact calls_closed hJ hm hd W
      · cases k
    · cases k
  · cases k

theorem tbl_ok {P : Program} {l : List Ent} (ho : ∀ ent ∈ l, EntOk P ent) : JOk P (tblJ l) :=
  fun _ _ _ _ q _ _ _ _ r ha => entFind_ok r ha ho q
end Go.AbsE
