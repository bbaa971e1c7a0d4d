import Derived.Test.YtidfcmjlfadieaaP2
set_option linter.unusedSimpArgs false
namespace Go.AbsE
open Go

/-! The true machine within a region whose order is open: D: done by it; A: done by the abstract one. -/

theorem sameA_eq : ∀ (x y : AVal), sameA x y = true → x = y := by
  have key : ∀ x : AVal, ∀ y, sameA x y = true → x = y := by
    intro x
    induction x using AVal.rec (motive_2 := fun l => ∀ m, sameAs l m = true → l = m) with
    | int k a => intro y h; cases y <;> simp only [sameA] at h <;> first | cases h | skip
                 rename_i k' b
                 by_cases hk : k = k'
                 · subst hk
                   simp at h
                   rw [eqI_eq] at h
                   rw [eq_of_beq h]
                 · simp [hk] at h
    | bool a => intro y h; cases y <;> simp only [sameA] at h <;> first | cases h | skip
                rename_i b
                cases a <;> cases b <;> first | rfl | cases h
    | str s => intro y h; cases y <;> simp only [sameA] at h <;> cases h
    | nilptr => intro y h; cases y <;> simp only [sameA] at h <;> first | rfl | cases h
    | nilslice => intro y h; cases y <;> simp only [sameA] at h <;> first | rfl | cases h
    | nilmap => intro y h; cases y <;> simp only [sameA] at h <;> first | rfl | cases h
    | nilfunc => intro y h; cases y <;> simp only [sameA] at h <;> first | rfl | cases h
    | nilIface => intro y h; cases y <;> simp only [sameA] at h <;> first | rfl | cases h
    | ptr b o =>
      intro y h; cases y <;> simp only [sameA] at h <;> first | cases h | skip
      rename_i b' o'
      cases h1 : Nat.beq b b' <;> rw [h1] at h <;> first | cases h | skip
      rw [Nat.eq_of_beq_eq_true h1, Nat.eq_of_beq_eq_true h]
    | slice b o l c =>
      intro y h; cases y <;> simp only [sameA] at h <;> first | cases h | skip
      rename_i b' o' l' c'
      cases h1 : Nat.beq b b' <;> rw [h1] at h <;> first | cases h | skip
      cases h2 : Nat.beq o o' <;> rw [h2] at h <;> first | cases h | skip
      cases h3 : Nat.beq l l' <;> rw [h3] at h <;> first | cases h | skip
      rw [Nat.eq_of_beq_eq_true h1, Nat.eq_of_beq_eq_true h2, Nat.eq_of_beq_eq_true h3, Nat.eq_of_beq_eq_true h]
    | gsl b o l c =>
      intro y h; cases y <;> simp only [sameA] at h <;> first | cases h | skip
      rename_i b' o' l' c'
      cases h1 : Nat.beq b b' <;> rw [h1] at h <;> first | cases h | skip
      cases h2 : Nat.beq o o' <;> rw [h2] at h <;> first | cases h | skip
      cases h3 : Nat.beq l l' <;> rw [h3] at h <;> first | cases h | skip
      rw [Nat.eq_of_beq_eq_true h1, Nat.eq_of_beq_eq_true h2, Nat.eq_of_beq_eq_true h3, Nat.eq_of_beq_eq_true h]
    | map b => intro y h; cases y <;> simp only [sameA] at h <;> first | cases h | skip
               rw [Nat.eq_of_beq_eq_true h]
    | yield b => intro y h; cases y <;> simp only [sameA] at h <;> first | cases h | skip
                 rw [Nat.eq_of_beq_eq_true h]
    | func f a b iha ihb =>
      intro y h; cases y <;> simp only [sameA] at h <;> first | cases h | skip
      rename_i f' a' b'
      by_cases hf : f = f'
      · subst hf
        simp only [decide_true, cond_true] at h
        cases h1 : sameAs a a' <;> rw [h1] at h <;> first | cases h | skip
        rw [iha _ h1, ihb _ h]
      · simp [hf] at h
    | iface t v ih =>
      intro y h; cases y <;> simp only [sameA] at h <;> first | cases h | skip
      rename_i t' v'
      cases h1 : Nat.beq t t' <;> rw [h1] at h <;> first | cases h | skip
      rw [Nat.eq_of_beq_eq_true h1, ih _ h]
    | agg a ih => intro y h; cases y <;> simp only [sameA] at h <;> first | cases h | skip
                  rw [ih _ h]
    | tuple a ih => intro y h; cases y <;> simp only [sameA] at h <;> first | cases h | skip
                    rw [ih _ h]
    | lit n a ih =>
      intro y h; cases y <;> simp only [sameA] at h <;> first | cases h | skip
      rename_i n' a'
      cases h1 : Nat.beq n n' <;> rw [h1] at h <;> first | cases h | skip
      rw [Nat.eq_of_beq_eq_true h1, ih _ h]
    | nil => rename_i m h; cases m <;> simp only [sameAs] at h <;> first | rfl | cases h
    | cons a l iha ihl =>
      rename_i m h; cases m <;> simp only [sameAs] at h <;> first | cases h | skip
      rename_i a' l'
      cases h1 : sameA a a' <;> rw [h1] at h <;> first | cases h | skip
      rw [iha _ h1, ihl _ h]
  exact fun x y => key x y

theorem recheck_ok {P : Program} {h : AH} : ∀ {facts : List DFact}, recheck P h facts = true → ∀ f ∈ facts, ∃ h', aOpX P f.lit f.t h f.o = some (.val f.v h') := by
  intro facts
  induction facts with
  | nil => intro _ f hf; cases hf
  | cons a l ih =>
    intro k f hf
    obtain ⟨i, o, v, t, lit⟩ := a
    unfold recheck at k
    simp only [] at k
    split at k
    · rename_i v' h' ho
      cases hs : sameA v v' with
      | false => rw [hs] at k; cases k
      | true =>
        rw [hs] at k
        rcases List.mem_cons.1 hf with rfl | hf
        · rw [sameA_eq _ _ hs]; exact ⟨h', ho⟩
        · exact ih k f hf
    · cases k

theorem dropF_mem {bef : Nat} : ∀ {l : List DFact} {f : DFact}, f ∈ l → bef.testBit f.i = false → f ∈ dropF bef l := by
  intro l
  induction l with
  | nil => intro f h; cases h
  | cons a l ih =>
    intro f h hb
    unfold dropF
    rcases List.mem_cons.1 h with rfl | h
    · cases hq : bit? bef f.i with
      | true => rw [bit_iff.1 hq] at hb; cases hb
      | false => simp
    · cases bit? bef a.i with
      | true => exact ih h hb
      | false => exact List.mem_cons_of_mem _ (ih h hb)

theorem quiet_val {P : Program} {t : Tr AVal} {h : AH} {o : Oper} {x : ANext} (hq : quietOp o.op = true) (k : aOp P t h o = some x) : ∃ v, x = .val v h := by
  obtain ⟨dst, op, type, pos, after, guard⟩ := o
  have vo : ∀ {y : Option AVal}, valO h y = some x → ∃ v, x = .val v h := by
    intro y hy; obtain ⟨v, _, rfl⟩ := valO_some hy; exact ⟨v, rfl⟩
  have so : ∀ {v : AVal}, some (ANext.val v h) = some x → ∃ v, x = .val v h := by
    intro v hy; cases hy; exact ⟨v, rfl⟩
  have fp : ∀ {as : TypeId} {ok : Bool}, failPair P h as ok = some x → ∃ v, x = .val v h := by
    intro as ok hy
    unfold failPair okPair at hy
    cases ok with
    | false => cases hy
    | true => simp only [cond_true] at hy; split at hy <;> first | exact so hy | cases hy
  unfold aOp prep at k
  cases op <;> first | cases hq | skip
  case move y => exact vo k
  case assign y => exact vo k
  case pick c a b =>
    simp only [opPick] at k
    split at k
    · rename_i q _; cases q <;> exact vo k
    · cases k
  case build ty parts =>
    simp only [opBuild] at k
    split at k <;> (try split at k) <;> (try split at k) <;> first | exact so k | cases k
  case load ty a => simp only [opLoad] at k; split at k <;> first | exact vo k | cases k
  case nilCheck y =>
    simp only [opNilCheck] at k
    split at k
    · rename_i v _
      cases hn : nilCheckOk P v <;> rw [hn] at k <;> first | exact so k | cases k
    · cases k
  case binOp op ty y z yt => simp only [opBin] at k; split at k <;> first | exact vo k | cases k
  case unOp op xt y =>
    simp only [opUn] at k
    split at k
    · split at k <;> first | exact so k | cases k
    · split at k <;> first | exact vo k | cases k
    · cases k
  case convert src dst y =>
    simp only [opConvert] at k
    split at k
    · split at k <;> first | exact vo k | cases k
    · cases k
  case makeInterface ty y => simp only [opMakeInterface] at k; split at k <;> first | exact so k | cases k
  case makeFunc fn first cap =>
    simp only [opMakeFunc] at k
    split at k
    · cases k
    · split at k <;> first | exact so k | cases k
  case slice ty y lo hi mx =>
    cases mx with
    | some _ => cases hq
    | none =>
      simp only [opSlice, sliceOf, sliceOfArr] at k
      repeat' split at k
      all_goals try (cases k; done)
      all_goals
        revert k
        (repeat' (first | (cases Nat.ble _ _ <;> simp only [cond_true, cond_false]) | (cases Nat.beq _ _ <;> simp only [cond_true, cond_false]) | (cases Nat.blt _ _ <;> simp only [cond_true, cond_false]) | (cases eqSize _ _ _ <;> simp only [cond_true, cond_false])))
        all_goals intro k
        all_goals first | exact so k | cases k
  case fieldAddr s y f =>
    simp only [opFieldAddr] at k
    repeat' split at k
    all_goals try (cases k; done)
    rename_i m _
    cases hm : Nat.beq m 0 <;> rw [hm] at k <;> first | exact so k | cases k
  case field s y f =>
    simp only [opField] at k
    repeat' split at k
    all_goals first | exact vo k | cases k
  case indexAddr ty y i =>
    simp only [opIndexAddr] at k
    repeat' split at k
    all_goals try (cases k; done)
    all_goals
      revert k
      cases Nat.blt _ _ <;> intro k <;> first | exact so k | cases k
  case index ty y i =>
    simp only [opIndex] at k
    repeat' split at k
    all_goals try (first | exact vo k | (cases k; done))
    all_goals
      revert k
      cases Nat.blt _ _ <;> intro k <;> first | exact vo k | cases k
  case lookup ty y q ok =>
    simp only [opLookup, okPair] at k
    repeat' split at k
    all_goals first | exact so k | cases k
  case typeAssert y xt as ok =>
    simp only [opTypeAssert, okPair] at k
    repeat' split at k
    all_goals try (first | exact fp k | (cases k; done))
    revert k
    cases Nat.beq _ _ <;> intro k <;> first | exact fp k | exact so k
  case extract y i => simp only [opExtract] at k; split at k <;> first | exact vo k | cases k
  case call c =>
    obtain ⟨callee, args, argTypes⟩ := c
    cases callee with
    | value f => cases hq
    | invoke r m => cases hq
    | builtin b =>
      cases b <;> first | cases hq | skip
      all_goals
        simp only [opCall, callWith] at k
        split at k
        · cases k
        · simp only [aBuiltin] at k
          repeat' split at k
          all_goals first | exact so k | exact vo k | cases k

theorem quietX_val {P : Program} {lit : Bool} {t : Tr AVal} {h : AH} {o : Oper} {x : ANext} (hq : lit = true ∨ quietOp o.op = true) (k : aOpX P lit t h o = some x) : ∃ v, x = .val v h := by
  cases lit with
  | false => exact quiet_val (hq.resolve_left (by simp)) k
  | true =>
    replace k : opLit P t h o = some x := k
    obtain ⟨dst, op, type, pos, after, guard⟩ := o
    unfold opLit at k
    cases op <;> first | cases k | skip
    simp only [] at k
    repeat' split at k
    all_goals try (cases k; done)
    all_goals
      revert k
      cases Nat.ble _ _ <;> cases Nat.beq _ _ <;> simp only [cond_true, cond_false] <;> intro k <;> first | (cases k; done) | (cases k; exact ⟨_, rfl⟩)

theorem aOpX_sim {P : Program} {w0 : Base} {e : Env} {h : AH} {W : World} (r : HR P w0 e h W) {n : Nat} {t : Tr AVal} {T : Array Value} (hT : TRel e n t T) {lit : Bool} {o : Oper} {x : ANext} (k : aOpX P lit t h o = some x) :
    OpSim P w0 e h W ((execOp (opd T) o).run P W) x := by
  cases lit with
  | false => exact aOp_sim r hT k
  | true => exact (opLit_sim r hT k).2
end Go.AbsE
