import Derived.Test.YtkhiagdmbajimaaMAR
import Derived.Test.YtkhiagdmbajimaaMAJ
import Derived.Test.YtkhiagdmbajimaaMAH
import Derived.KernelRfl
namespace Go.Proofs.Ytkhiagdmbajimaa
open Go Go.AbsE
set_option linter.unusedSimpArgs false
set_option maxRecDepth 100000
set_option maxHeartbeats 0
set_option linter.unusedVariables false
theorem bits_low {p : RtV → Bool} : ∀ {L : List RtV} {k i : Nat}, i < k → (bitsFrom p k L).testBit i = false
 | [], k, i, _ => by simp [bitsFrom]
 | x :: L, k, i, h => by
  show ((if p x = true then 2 ^ k else 0) ||| bitsFrom p (k + 1) L).testBit i = _
  rw [Nat.testBit_or, bits_low (by omega), Bool.or_false]
  split
  ·rw [Nat.testBit_two_pow_of_ne (by omega)]
  ·exact Nat.zero_testBit _
theorem bits_get {p : RtV → Bool} : ∀ {L : List RtV} {k i : Nat}, (bitsFrom p k L).testBit (k + i) = match L[i]? with | some r => p r | none => false
 | [], k, i => by simp [bitsFrom]
 | x :: L, k, i => by
  show ((if p x = true then 2 ^ k else 0) ||| bitsFrom p (k + 1) L).testBit (k + i) = _
  rw [Nat.testBit_or]
  match i with
  | 0 =>
   rw [Nat.add_zero, bits_low (by omega), Bool.or_false]
   show _ = p x
   cases p x with
   | false => simp
   | true => simp
  | i + 1 =>
   rw [show k + (i + 1) = k + 1 + i by omega, bits_get]
   have : (if p x = true then 2 ^ k else 0).testBit (k + 1 + i) = false := by
    split
    ·rw [Nat.testBit_two_pow_of_ne (by omega)]
    ·exact Nat.zero_testBit _
   rw [this, Bool.false_or]
   rfl
theorem bits_at {p : RtV → Bool} {L : List RtV} {i : Nat} {r : RtV} (h : L[i]? = some r) : (bitsFrom p 0 L).testBit i = p r := by
 have := bits_get (p := p) (L := L) (k := 0) (i := i)
 rw [Nat.zero_add, h] at this;exact this
theorem wat_le {D : DrainV} (O : D.Ok) (c : List Nat) (a : Nat) : wat c (lows D) a ≤ wat c (highs D) a := by
 unfold wat
 generalize treeV c 21 a = L
 induction L with
 | nil => exact Int.le_refl _
 | cons x L ih =>
  rw [List.map_cons, List.map_cons]
  show lv (lows D) x + sumI _ ≤ lv (highs D) x + sumI _
  have : lv (lows D) x ≤ lv (highs D) x := by
   unfold lv lows highs
   rw [List.getElem?_map, List.getElem?_map]
   cases q : D.bs[x]? with
   | none => exact Int.le_refl _
   | some y =>
    have := (O.b y (List.mem_of_getElem? q)).2
    show y.yl ≤ y.yh
    omega
  omega
end Go.Proofs.Ytkhiagdmbajimaa

namespace Go.Proofs.Ytkhiagdmbajimaa
open Go Go.AbsE
set_option linter.unusedSimpArgs false
set_option maxRecDepth 100000
set_option linter.unusedVariables false
def DrainV.saw (D : DrainV) (S : List (Int × Int)) : DrainV := { D with ss := S }
structure TrueT (D : DrainV) (l ys : List Int) : Prop where
 l : l ∈ levsV D.bs
 yl : ys.length = D.bs.length
 y : ∀ (k : Nat) (b : BkV) (x : Int), D.bs[k]? = some b → ys[k]? = some x → b.yl ≤ x ∧ x ≤ b.yh
def SeenR (D : DrainV) (l : List Int) (S : List (Int × Int)) : Prop := ∀ w, w ∈ S → ∃ a : Nat, a < D.bs.length ∧ w = ((a : Int), ((nx (D.course 0 l) a : Nat) : Int)) ∧ nx (D.course 0 l) a < D.bs.length
theorem saw_ok {D : DrainV} (O : D.Ok) {l : List Int} (hl : l ∈ levsV D.bs) {S : List (Int × Int)} (hS : SeenR D l S) (h4 : S.length ≤ 4) : (D.saw S).Ok :=
 ⟨O.nb, O.b, O.nd, O.d, O.nr, O.r, h4, fun w hw => by
  obtain ⟨a, ha, rfl, hn⟩ := hS w hw
  have d := course_down O hl 0
  have hc := course_len D 0 l
  have := d.lt a (by omega) (by omega)
  refine ⟨⟨by omega, ?_⟩, ⟨by omega, ?_⟩, ?_⟩
  ·show (a : Int) ≤ (D.bs.length : Int) - 1; omega
  ·show ((nx (D.course 0 l) a : Nat) : Int) ≤ (D.bs.length : Int) - 1; omega
  ·intro q
   have q2 : a = nx (D.course 0 l) a := by
    have q3 : (a : Int) = ((nx (D.course 0 l) a : Nat) : Int) := q
    omega
   rw [← q2] at this
   omega⟩
theorem only_mem {s : Nat} : ∀ {L : List (Int × Int)} {k : Nat} {w : Int × Int}, w ∈ onlyV s k L → w ∈ L
 | [], k, w, h => by cases h
 | x :: L, k, w, h => by
  unfold onlyV at h
  split at h
  ·rcases List.mem_cons.1 h with rfl | h
   ·simp
   ·exact List.mem_cons_of_mem _ (only_mem h)
  ·exact List.mem_cons_of_mem _ (only_mem h)
theorem saw_learn {D : DrainV} {l : List Int} (hl : l ∈ levsV D.bs) {S : List (Int × Int)} (hS : SeenR D l S) (st : Nat) : l ∈ (D.saw S).learn st := by
 unfold DrainV.learn
 refine List.mem_filter.2 ⟨hl, ?_⟩
 unfold DrainV.okSeen
 rw [List.all_eq_true]
 intro w hw
 obtain ⟨a, ha, rfl, hn⟩ := hS w (only_mem hw)
 exact decide_eq_true rfl
theorem saw_truth {D : DrainV} {l : List Int} (hl : l ∈ levsV D.bs) {S : List (Int × Int)} (hS : SeenR D l S) : l ∈ (D.saw S).truths := saw_learn hl hS _
theorem saw_clash {D : DrainV} {l : List Int} (hl : l ∈ levsV D.bs) {S : List (Int × Int)} (hS : SeenR D l S) : clashV (D.saw S) = none := by
 unfold clashV
 refine List.find?_eq_none.2 fun st _ q => ?_
 have := saw_learn hl hS st
 rw [List.isEmpty_iff.1 q] at this;cases this
theorem join_mem {L : List (Int × Int)} {p : Int × Int} (hp : p ∈ L) : (joinL L).1 ≤ p.1 ∧ p.2 ≤ (joinL L).2 :=
 ⟨((foldJ_lo L _).1 (Int.le_refl _)).2 p hp, ((foldJ_hi L _).1 (Int.le_refl _)).2 p hp⟩
theorem lv_in {D : DrainV} {l ys : List Int} (T : TrueT D l ys) (x : Nat) : lv (lows D) x ≤ lv ys x ∧ lv ys x ≤ lv (highs D) x := by
 unfold lv lows highs
 rw [List.getElem?_map, List.getElem?_map]
 cases q : D.bs[x]? with
 | none =>
  have hx : D.bs.length ≤ x := by simpa using q
  rw [List.getElem?_eq_none (by have := T.yl; omega)];exact ⟨Int.le_refl _, Int.le_refl _⟩
 | some b =>
  have hx := (List.getElem?_eq_some_iff.1 q).1
  have h2 : x < ys.length := by have := T.yl; omega
  obtain ⟨v, hv⟩ : ∃ v, ys[x]? = some v := ⟨ys[x], by simp [h2]⟩
  rw [hv];exact T.y x b v q hv
theorem lv_20 {D : DrainV} (O : D.Ok) {l ys : List Int} (T : TrueT D l ys) (x : Nat) : 0 ≤ lv ys x ∧ lv ys x ≤ 20 := by
 have h1 := lv_in T x
 have h2 := lows_in O x
 have h3 := highs_in O x
 omega
theorem wat_in {D : DrainV} {l ys : List Int} (T : TrueT D l ys) (c : List Nat) (a : Nat) : wat c (lows D) a ≤ wat c ys a ∧ wat c ys a ≤ wat c (highs D) a := by
 unfold wat
 generalize treeV c 21 a = L
 induction L with
 | nil => exact ⟨Int.le_refl _, Int.le_refl _⟩
 | cons x L ih =>
  rw [List.map_cons, List.map_cons, List.map_cons]
  have := lv_in T x
  show lv (lows D) x + sumI _ ≤ lv ys x + sumI _ ∧ lv ys x + sumI _ ≤ lv (highs D) x + sumI _
  omega
theorem wat_100 {D : DrainV} (O : D.Ok) {l ys : List Int} (T : TrueT D l ys) {a : Nat} (ha : a < D.bs.length) (st : Nat) : 0 ≤ wat (D.course st l) ys a ∧ wat (D.course st l) ys a ≤ 100 := by
 have h1 := wat_in T (D.course st l) a
 have hc := course_len D st l
 have h2 := water_in O (course_down O T.l st) (by rw [hc]; exact O.nb.2) (a := a) (by omega)
 rw [water_pair] at h2
 dsimp only at h2
 omega
theorem waters_in {D : DrainV} {l ys : List Int} (T : TrueT D l ys) {S : List (Int × Int)} (hS : SeenR D l S) (a : Nat) : ((D.saw S).waters a).1 ≤ wat (D.course 0 l) ys a ∧ wat (D.course 0 l) ys a ≤ ((D.saw S).waters a).2 := by
 have h1 := join_mem (L := (D.saw S).truths.map fun l => (D.saw S).water ((D.saw S).course 0 l) a) (List.mem_map.2 ⟨l, saw_truth T.l hS, rfl⟩)
 rw [water_pair] at h1
 have h2 := wat_in T (D.course 0 l) a
 have h3 : wat ((D.saw S).course 0 l) (lows (D.saw S)) a = wat (D.course 0 l) (lows D) a := rfl
 have h4 : wat ((D.saw S).course 0 l) (highs (D.saw S)) a = wat (D.course 0 l) (highs D) a := rfl
 dsimp only at h1
 rw [h3, h4] at h1
 unfold DrainV.waters
 omega
theorem flow_in {D : DrainV} {l ys : List Int} (T : TrueT D l ys) {S : List (Int × Int)} (hS : SeenR D l S) (a b : Nat) : ((D.saw S).flow a b).1 ≤ (if nx (D.course 0 l) a = b then wat (D.course 0 l) ys a else 0) ∧ (if nx (D.course 0 l) a = b then wat (D.course 0 l) ys a else 0) ≤ ((D.saw S).flow a b).2 := by
 have h1 := join_mem (L := (D.saw S).truths.map fun l => (D.saw S).straight ((D.saw S).course 0 l) a b) (List.mem_map.2 ⟨l, saw_truth T.l hS, rfl⟩)
 unfold DrainV.flow
 have h0 : (D.saw S).straight ((D.saw S).course 0 l) a b = if nx (D.course 0 l) a = b then (wat (D.course 0 l) (lows D) a, wat (D.course 0 l) (highs D) a) else (0, 0) := by
  unfold DrainV.straight
  rw [water_pair]
  rfl
 rw [h0] at h1
 have h2 := wat_in T (D.course 0 l) a
 by_cases q : nx (D.course 0 l) a = b
 ·rw [if_pos q] at h1 ⊢
  dsimp only at h1
  omega
 ·rw [if_neg q] at h1 ⊢
  dsimp only at h1
  omega
theorem nexts_in {D : DrainV} {l : List Int} (hl : l ∈ levsV D.bs) {S : List (Int × Int)} (hS : SeenR D l S) (a : Nat) : ((D.saw S).nexts a).testBit (nx (D.course 0 l) a) = true := by
 unfold DrainV.nexts
 rw [set_bit];exact decide_eq_true (List.mem_map.2 ⟨l, saw_truth hl hS, rfl⟩)
theorem nx_le (D : DrainV) (st : Nat) (l : List Int) {a : Nat} (ha : a < D.bs.length) : nx (D.course st l) a ≤ D.bs.length := by
 rw [nx_course ha];exact low_le _ _ _ _
theorem nexts_lt (D : DrainV) {a : Nat} (ha : a < D.bs.length) : D.nexts a < 2 ^ (D.bs.length + 1) := by
 unfold DrainV.nexts
 refine set_lt fun x hx => ?_
 obtain ⟨l, _, rfl⟩ := List.mem_map.1 hx
 have := nx_le D 0 l ha
 omega
theorem ends_in {D : DrainV} {l : List Int} (hl : l ∈ levsV D.bs) {S : List (Int × Int)} (hS : SeenR D l S) (a : Nat) : ((D.saw S).endsS a).testBit (endV (D.course 0 l) 21 a) = true := by
 unfold DrainV.endsS
 rw [set_bit];exact decide_eq_true (List.mem_map.2 ⟨l, saw_truth hl hS, rfl⟩)
theorem learn_levs {D : DrainV} {st : Nat} {l : List Int} (h : l ∈ D.learn st) : l ∈ levsV D.bs := (List.mem_filter.1 h).1
theorem ends_lt {D : DrainV} (O : D.Ok) {a : Nat} (ha : a < D.bs.length) : D.endsS a < 2 ^ D.bs.length := by
 unfold DrainV.endsS
 refine set_lt fun x hx => ?_
 obtain ⟨l, hl, rfl⟩ := List.mem_map.1 hx
 have := end_lt (course_down O (learn_levs hl) 0) (f := 21) (a := a) (by rw [course_len]; exact ha)
 rw [course_len] at this;exact this
theorem flow_le {D : DrainV} (O : D.Ok) {l : List Int} (hl : l ∈ D.truths) (a b : Nat) : (D.flow a b).1 ≤ (D.flow a b).2 := by
 have h1 := join_mem (L := D.truths.map fun l => D.straight (D.course 0 l) a b) (List.mem_map.2 ⟨l, hl, rfl⟩)
 have h2 : (D.straight (D.course 0 l) a b).1 ≤ (D.straight (D.course 0 l) a b).2 := by
  unfold DrainV.straight
  rw [water_pair]
  have := wat_le O (D.course 0 l) a
  split
  ·exact this
  ·exact Int.le_refl _
 unfold DrainV.flow
 omega
theorem bits_none {p : RtV → Bool} {L : List RtV} {i : Nat} (h : L[i]? = none) : (bitsFrom p 0 L).testBit i = false := by
 have := bits_get (p := p) (L := L) (k := 0) (i := i)
 rw [Nat.zero_add, h] at this;exact this
theorem sure_perhaps {D : DrainV} (O : D.Ok) {l : List Int} (hl : l ∈ D.truths) (i : Nat) (h : D.surely.testBit i = true) : D.perhaps.testBit i = true := by
 unfold DrainV.surely at h
 unfold DrainV.perhaps
 cases q : D.rs[i]? with
 | none => rw [bits_none q] at h; cases h
 | some r =>
  rw [bits_at q] at h ⊢
  have h1 := of_decide_eq_true h
  have := flow_le O hl r.o.toNat r.t.toNat
  exact decide_eq_true (by omega)
def brk (c : List Nat) (ys : List Int) (o t : Nat) (m : Int) : Prop := nx c o = t ∧ m < wat c ys o
theorem brk_perhaps {D : DrainV} {l ys : List Int} (T : TrueT D l ys) {S : List (Int × Int)} (hS : SeenR D l S) {i o t : Nat} {m : Int} (hr : D.rs[i]? = some ⟨(o : Int), (t : Int), m⟩) (h : brk (D.course 0 l) ys o t m) : (D.saw S).perhaps.testBit i = true := by
 unfold DrainV.perhaps
 rw [bits_at (show (D.saw S).rs[i]? = _ from hr)]
 have h1 := flow_in T hS o t
 rw [if_pos h.1] at h1
 have h2 := h.2
 refine decide_eq_true ?_
 dsimp only
 rw [Int.toNat_natCast, Int.toNat_natCast]
 omega
theorem brk_surely {D : DrainV} {l ys : List Int} (T : TrueT D l ys) {S : List (Int × Int)} (hS : SeenR D l S) {i o t : Nat} {m : Int} (hm : 0 ≤ m) (hr : D.rs[i]? = some ⟨(o : Int), (t : Int), m⟩) (h : ¬ brk (D.course 0 l) ys o t m) : (D.saw S).surely.testBit i = false := by
 unfold DrainV.surely
 rw [bits_at (show (D.saw S).rs[i]? = _ from hr)]
 have h1 := flow_in T hS o t
 refine decide_eq_false ?_
 dsimp only
 rw [Int.toNat_natCast, Int.toNat_natCast]
 by_cases q : nx (D.course 0 l) o = t
 ·rw [if_pos q] at h1
  have h2 : ¬ m < wat (D.course 0 l) ys o := fun w => h ⟨q, w⟩
  omega
 ·rw [if_neg q] at h1
  omega
theorem brk_stopped {D : DrainV} (O : D.Ok) {l ys : List Int} (T : TrueT D l ys) {S : List (Int × Int)} (hS : SeenR D l S) (h4 : S.length ≤ 4) {i o t : Nat} {m : Int} (hm : 0 ≤ m) (hr : D.rs[i]? = some ⟨(o : Int), (t : Int), m⟩) : ¬ brk (D.course (stopV (D.saw S)) l) ys o t m := by
 rintro ⟨h1, h2⟩
 obtain ⟨_, h5, _⟩ := stop_ex (saw_ok O T.l hS h4)
 unfold okS at h5
 rw [List.all_eq_true] at h5
 have h6 := h5 l (saw_truth T.l hS)
 unfold okR at h6
 rw [Bool.not_eq_true', List.any_eq_false] at h6
 have h7 := h6 _ (List.mem_of_getElem? (show (D.saw S).rs[i]? = _ from hr))
 rw [can_is hm] at h7;refine h7 (decide_eq_true ⟨h1, ?_⟩)
 have h8 := wat_in T (D.course (stopV (D.saw S)) l) o
 have h9 : wat ((D.saw S).course (stopV (D.saw S)) l) (highs (D.saw S)) o = wat (D.course (stopV (D.saw S)) l) (highs D) o := rfl
 rw [h9]
 omega
theorem sumI_app : ∀ (A B : List Int), sumI (A ++ B) = sumI A + sumI B
 | [], B => by show sumI B = 0 + sumI B; omega
 | x :: A, B => by
  show x + sumI (A ++ B) = x + sumI A + sumI B
  rw [sumI_app A B]
  omega
theorem sumI_one (x : Int) : sumI [x] = x := by show x + 0 = x; omega
theorem sum_add2 (f g : Nat → Int) : ∀ R : List Nat, sumI (R.map fun a => f a + g a) = sumI (R.map f) + sumI (R.map g)
 | [] => rfl
 | x :: R => by
  show f x + g x + sumI (R.map fun a => f a + g a) = f x + sumI (R.map f) + (g x + sumI (R.map g))
  rw [sum_add2 f g R]
  omega
theorem sum_zero {f : Nat → Int} : ∀ {R : List Nat}, (∀ a, a ∈ R → f a = 0) → sumI (R.map f) = 0
 | [], _ => rfl
 | x :: R, h => by
  show f x + sumI (R.map f) = 0
  rw [sum_zero fun a ha => h a (by simp [ha]), h x (by simp)]
  rfl
theorem sum_only {f : Nat → Int} {e : Nat} {v : Int} (hv : f e = v) : ∀ {R : List Nat}, R.Nodup → e ∈ R → (∀ a, a ∈ R → a ≠ e → f a = 0) → sumI (R.map f) = v
 | [], _, he, _ => by cases he
 | x :: R, hn, he, h => by
  obtain ⟨h1, h2⟩ := List.nodup_cons.1 hn
  show f x + sumI (R.map f) = v
  rcases List.mem_cons.1 he with rfl | he
  ·rw [sum_zero fun a ha => h a (by simp [ha]) (fun q => h1 (q ▸ ha)), hv]
   omega
  ·rw [h x (by simp) (fun q => h1 (q ▸ he)), sum_only hv h2 he fun a ha => h a (by simp [ha])]
   omega
theorem end_comes {c : List Nat} : ∀ (f : Nat) {b : Nat}, b < c.length → Comes c (endV c f b) b
 | 0, b, hb => .here hb
 | f + 1, b, hb => by
  unfold endV
  split
  ·rename_i q
   exact .next hb (end_comes f q)
  ·exact .here hb
theorem end_root {l : List Int} {c : List Nat} (d : Down l c) : ∀ {f b : Nat}, b < c.length → lv l b < f → ¬ nx c (endV c f b) < c.length
 | 0, b, hb, h => by have := d.lo b hb; omega
 | f + 1, b, hb, h => by
  unfold endV
  split
  ·rename_i q
   have := d.lt b hb q
   exact end_root d q (by omega)
  ·rename_i q
   exact q
theorem comes_root {c : List Nat} {x y : Nat} (h : ¬ nx c y < c.length) (k : Comes c x y) : x = y := by
 cases k with
 | here _ => rfl
 | next _ k => exact absurd k.lt.2 h
def roots (c : List Nat) (i : Nat) : List Nat := (List.range i).filter fun a => decide (nx c a = c.length)
theorem roots_succ (c : List Nat) (i : Nat) : roots c (i + 1) = roots c i ++ (if nx c i = c.length then [i] else []) := by
 unfold roots
 rw [List.range_succ, List.filter_append]
 congr 1
 by_cases q : nx c i = c.length
 ·rw [if_pos q, List.filter_cons_of_pos (by simpa using q), List.filter_nil]
 ·rw [if_neg q, List.filter_cons_of_neg (by simpa using q), List.filter_nil]
theorem sum_acc {l : List Int} {c : List Nat} (d : Down l c) (ys : List Int) : ∀ b, b ≤ c.length → sumI ((roots c c.length).map (acc c ys b)) = sumI ((List.range b).map (lv ys))
 | 0, _ => by
  rw [sum_zero fun a _ => acc_zero c ys a]
  rfl
 | b + 1, hb => by
  have ih := sum_acc d ys b (by omega)
  have hr : ∀ a, a ∈ roots c c.length → a < c.length ∧ nx c a = c.length := fun a ha => by
   obtain ⟨h1, h2⟩ := List.mem_filter.1 ha
   exact ⟨List.mem_range.1 h1, of_decide_eq_true h2⟩
  rw [List.map_congr_left (g := fun a => acc c ys b a + (if b ∈ treeV c 21 a then lv ys b else 0)) fun a ha => acc_succ d ys (hr a ha).1, sum_add2, ih, List.range_succ, List.map_append, sumI_app, List.map_cons, List.map_nil, sumI_one]
  congr 1
  have hb2 : b < c.length := by omega
  have he := end_lt d (f := 21) (a := b) hb2
  have hroot := end_root d (f := 21) hb2 (by have := d.lo b hb2; omega)
  have hn := d.le _ he
  refine sum_only (e := endV c 21 b) ?_ (List.nodup_range.filter _) (List.mem_filter.2 ⟨List.mem_range.2 he, decide_eq_true (by omega)⟩) fun a ha hne => ?_
  ·rw [if_pos ((mem_tree d he).2 (end_comes 21 hb2))]
  ·rw [if_neg fun q => ?_]
   obtain ⟨h1, h2⟩ := hr a ha
   have k := (mem_tree d h1).1 q
   rcases k.total (end_comes 21 hb2) with w | w
   ·exact hne (comes_root hroot w)
   ·exact hne (comes_root (by omega) w).symm
theorem sum_out {l : List Int} {c : List Nat} (d : Down l c) {ys : List Int} (hy : ys.length = c.length) : sumI ((roots c c.length).map (wat c ys)) = sumI ys := by
 rw [List.map_congr_left (l := roots c c.length) (g := acc c ys c.length) fun a ha => (acc_all ys (List.mem_range.1 (List.mem_filter.1 ha).1)).symm, sum_acc d ys _ (Nat.le_refl _)]
 congr 1
 refine List.ext_getElem? fun i => ?_;rw [List.getElem?_map]
 by_cases q : i < c.length
 ·rw [List.getElem?_range q]
  show some (lv ys i) = _
  unfold lv
  have : i < ys.length := by omega
  simp [this]
 ·rw [List.getElem?_eq_none (by simpa using q), List.getElem?_eq_none (by omega)]
  rfl
end Go.Proofs.Ytkhiagdmbajimaa

namespace Go.Proofs.Ytkhiagdmbajimaa
open Go Go.AbsE
set_option linter.unusedSimpArgs false
set_option maxRecDepth 100000
set_option maxHeartbeats 0
set_option linter.unusedVariables false
def u16s (l : List Int) : List (List AVal) := l.map fun x => [AVal.int .u16 x]
theorem draws25_ok (s : AVal) (h : AH) (hs : scalars [s] = true) (hc : s.cells = [s]) : Runs Try.prog 25 [s] h (fun en h' => ∃ ba bb, en = .ret (.func (.func 64) [] [.ptr ba 0, .ptr bb 0]) ∧ Ext h h' ∧ h.next ≤ ba ∧ h.next ≤ bb ∧ ba ≠ bb ∧ Has h' ba (.cells .plain [.int .i64 0] 3) ∧ Has h' bb (.cells .plain [s] 45)) := by
 have e0 : Ext h h := Ext.refl _
 refine Runs.intro aFunc25 rfl rfl rfl rfl fun rest => ?_;apply gS;refine gR rfl ?_;refine GoR.box rfl rfl rfl rfl rfl rfl fun h0 x0 f0 => ?_;have := e0.1;replace e0 := e0.trans x0;have := f0.1;refine gP ?_;apply gE;apply gS;refine gR rfl ?_;refine GoR.alloc rfl rfl rfl zt3 rfl rfl fun h1 x1 f1 => ?_;have := e0.1;have := f0.1;replace f0 := f0.ext x1;replace e0 := e0.trans x1;have := f1.1;refine GoR.store rfl rfl rfl rfl rfl rfl f1 rfl sz3 rfl rfl rfl fun h2 u2 => ?_;replace f1 := u2.has f1;replace f0 := f0.upd u2 (by omega);replace e0 := e0.upd u2 (by omega);apply gE;apply gS;refine gR rfl ?_;iterate 2 refine gP ?_
 apply gE;rw [hc] at f0
 have l0 := x0.1
 have l1 := f0.1
 exact gV (ret_end (aResult_of Try.func25 rfl rfl) ⟨h0.next, h.next, rfl, e0, l0, Nat.le_refl _, by omega, f1, f0⟩)
theorem draw64_ok {bs : List Int} (hbs : ∀ x, x ∈ bs → 0 ≤ x ∧ x < 65536) {s : AVal} {ba bb : Nat} {n lo hi : Int} {h g : AH} (fa : Has h ba (.cells .plain [.int .i64 n] 3)) (fb : Has h bb (.cells .plain [s] 45)) (eg : Ext g h) (hab : ba ≠ bb) (hs : SliceOf g 1 s (u16s bs)) (hga : g.next ≤ ba) (hlen : bs.length < 9223372036854775808) (hn : 0 ≤ n ∧ n ≤ 1000) (hl : 0 ≤ lo ∧ lo ≤ hi ∧ hi ≤ 1000) :
  Runs Try.prog 64 [.agg [.int .i64 lo, .int .i64 hi], .ptr ba 0, .ptr bb 0] h (fun en h' => ∃ v, en = .ret (.int .i64 v) ∧ lo ≤ v ∧ v ≤ hi ∧ ExtF (fun b => b = ba) h h' ∧ Has h' ba (.cells .plain [.int .i64 (n + 1)] 3)) := by
 have hsl := hs.len
 unfold u16s at hsl
 rw [List.length_map] at hsl
 have y0 : ExtF (fun b => b = ba) h h := ExtF.of (Ext.refl _)
 have la := fa.1
 have lb := fb.1
 obtain ⟨nl, hnl⟩ : ∃ nl, bs.length = nl := ⟨_, rfl⟩
 rw [hnl] at hsl hlen
 by_cases h0' : nl = 0
 ·have hz : decide (((nl : Nat) : Int) = 0) = true := decide_eq_true (by omega)
  refine Runs.intro aFunc64 rfl rfl rfl rfl fun rest => ?_;apply gS;refine gR rfl ?_;refine GoR.box rfl rfl rfl rfl rfl rfl fun h0 x0 f0 => ?_;have := eg.1;have := fa.1;have := fb.1;replace fa := fa.ext x0;replace fb := fb.ext x0;replace eg := eg.trans x0;replace y0 := y0.ext x0;have := f0.1;refine gP ?_;apply gE;apply gS;refine gR rfl ?_;refine gO rfl rfl (ld3 rfl fa rfl) rfl ?_;refine gO rfl rfl (aA rfl rfl) rfl ?_;refine GoR.store rfl rfl rfl rfl rfl rfl fa rfl sz3 rfl rfl rfl fun h1 u1 => ?_;replace f0 := f0.upd u1 (by omega);replace fa := u1.has fa;replace fb := fb.upd u1 (by omega);replace eg := eg.upd u1 (by omega);replace y0 := y0.upd u1 (.inl rfl);apply gE;iterate 2 apply gS
  refine gR rfl ?_;refine gO rfl rfl (ld45 rfl fb rfl) rfl ?_;refine gO rfl rfl (aOp_lenSlice Try.underlying45 rfl hsl) rfl ?_;refine gO rfl rfl (aOp_eql rfl rfl hz) rfl ?_;apply gE;refine gC (b := true) rfl ?_;apply gS;refine gR rfl ?_;refine gO rfl rfl (fa35_0 rfl) rfl ?_;refine gO rfl rfl (ld3 rfl f0 rfl) rfl ?_;refine gP ?_;apply gE;exact gV (ret_end (aResult_of Try.func64 rfl rfl) ⟨_, rfl, Int.le_refl _, hl.2.1, y0, fa⟩)
 ·have hz : decide (((nl : Nat) : Int) = 0) = false := decide_eq_false (by omega)
  obtain ⟨n', hn'⟩ : ∃ n' : Nat, n + 1 = (n' : Nat) := ⟨(n + 1).toNat, by omega⟩
  obtain ⟨k, hk⟩ : ∃ k, n' % nl = k := ⟨_, rfl⟩
  have hk2 : k < nl := by rw [← hk]; exact Nat.mod_lt _ (by omega)
  have hrem : (n + 1).tmod ((nl : Nat) : Int) = (k : Nat) := by rw [hn', ← hk]; rfl
  obtain ⟨x, hx⟩ : ∃ x, bs[k]? = some x := ⟨bs[k]'(by omega), by simp⟩
  have hxb := hbs x (List.mem_of_getElem? hx)
  obtain ⟨bq, off, p1, p2⟩ := hs.at (i := k) (l := [AVal.int .u16 x]) (by unfold u16s; rw [List.getElem?_map, hx]; rfl)
  unfold u16s at p1
  rw [List.length_map, hnl] at p1
  have he : ∀ h', ExtF (fun b => b = ba) h h' → Ext g h' := fun h' y => y.low eg (fun b q => by have : b = ba := q; omega)
  obtain ⟨m, hm⟩ : ∃ m, (47 : Int) * (n + 1) = m := ⟨_, rfl⟩
  obtain ⟨q, hq2⟩ : ∃ q, (x + m).tmod (hi - lo + 1) = q := ⟨_, rfl⟩
  have hq3 : 0 ≤ q ∧ q ≤ hi - lo := by
   have h1 : 0 ≤ x + m := by omega
   rw [Int.tmod_eq_emod_of_nonneg h1] at hq2
   have h2 := Int.emod_nonneg (x + m) (b := hi - lo + 1) (by omega)
   have h3 := Int.emod_lt_of_pos (x + m) (b := hi - lo + 1) (by omega)
   omega
  refine Runs.intro aFunc64 rfl rfl rfl rfl fun rest => ?_;apply gS;refine gR rfl ?_;refine GoR.box rfl rfl rfl rfl rfl rfl fun h0 x0 f0 => ?_;have := eg.1;have := fa.1;have := fb.1;replace fa := fa.ext x0;replace fb := fb.ext x0;replace eg := eg.trans x0;replace y0 := y0.ext x0;have := f0.1;refine gP ?_;apply gE;apply gS;refine gR rfl ?_;refine gO rfl rfl (ld3 rfl fa rfl) rfl ?_;refine gO rfl rfl (aA rfl rfl) rfl ?_;refine GoR.store rfl rfl rfl rfl rfl rfl fa rfl sz3 rfl rfl rfl fun h1 u1 => ?_;replace f0 := f0.upd u1 (by omega);replace fa := u1.has fa;replace fb := fb.upd u1 (by omega);replace eg := eg.upd u1 (by omega);replace y0 := y0.upd u1 (.inl rfl);apply gE;iterate 2 apply gS
  refine gR rfl ?_;refine gO rfl rfl (ld45 rfl fb rfl) rfl ?_;refine gO rfl rfl (aOp_lenSlice Try.underlying45 rfl hsl) rfl ?_;refine gO rfl rfl (aOp_eql rfl rfl hz) rfl ?_;apply gE;refine gC (b := false) rfl ?_;refine gD ?_;apply gS;refine Go.drawnE plan64_0 ?_;refine gQ rfl rfl (fa35_0 rfl) rfl ?_;refine gQ rfl rfl (ld3 rfl f0 rfl) rfl ?_;refine gQ rfl rfl (ld45 rfl fb rfl) rfl ?_;refine gQ rfl rfl (ld3 rfl fa rfl) rfl ?_;refine gQ rfl rfl (ld45 rfl fb rfl) rfl ?_;refine gQ rfl rfl (aOp_lenSlice Try.underlying45 rfl hsl) rfl ?_;refine gQ rfl rfl (aOp_rem rfl rfl (by omega) hrem) rfl ?_;refine gQ rfl rfl (aOp_indexAddr Try.underlying45 sz93 rfl p1 rfl (Nat.ble_eq_true_of_le hk2)) rfl ?_;refine gQ rfl rfl (aOp_loadE1 (k := 0) ag93 rfl (p2.ext (he _ y0)) rfl) rfl ?_;refine gQ rfl rfl (aOp_convU16 rfl Try.underlying93 Try.underlying3 hxb) rfl ?_;refine gQ rfl rfl (ld3 rfl fa rfl) rfl ?_;refine gQ rfl rfl (aOp_mul rfl rfl hm (by omega)) rfl ?_;refine gQ rfl rfl (aA rfl rfl) rfl ?_;refine gQ rfl rfl (fa35_1 rfl) rfl ?_;refine gQ rfl rfl (ld3 rfl f0 rfl) rfl ?_;refine gQ rfl rfl (fa35_0 rfl) rfl ?_;refine gQ rfl rfl (ld3 rfl f0 rfl) rfl ?_;refine gQ rfl rfl (aS rfl rfl) rfl ?_;refine gQ rfl rfl (aA rfl rfl) rfl ?_;refine gQ rfl rfl (aOp_rem rfl rfl (by omega) hq2) rfl ?_;refine gQ rfl rfl (aA rfl rfl) rfl ?_;refine gQ rfl rfl rfl rfl ?_;refine GoE.end rfl ?_;exact gV (ret_end (aResult_of Try.func64 rfl rfl) ⟨_, rfl, by omega, by omega, y0, fa⟩)
end Go.Proofs.Ytkhiagdmbajimaa

namespace Go.Proofs.Ytkhiagdmbajimaa
open Go Go.AbsE
set_option linter.unusedSimpArgs false
set_option maxRecDepth 100000
set_option maxHeartbeats 0
set_option linter.unusedVariables false
structure PreY (D : DrainV) (p : List Int) : Prop where
 va : ∀ (i : Nat) (b : BkV) (x : Int), D.bs[i]? = some b → p[i]? = some x → b.yl ≤ x ∧ x ≤ b.yh
theorem PreY.nil (D : DrainV) : PreY D [] := ⟨fun i b x _ h => by cases h⟩
theorem PreY.snoc {D : DrainV} {p : List Int} (k : PreY D p) {b : BkV} (hb : D.bs[p.length]? = some b) {x : Int} (hx : b.yl ≤ x ∧ x ≤ b.yh) : PreY D (p ++ [x]) := by
 refine ⟨fun i b' y h1 h2 => ?_⟩
 by_cases hi : i < p.length
 ·rw [List.getElem?_append_left hi] at h2;exact k.va i b' y h1 h2
 ·rw [List.getElem?_append_right (by omega)] at h2
  have h3 := (List.getElem?_eq_some_iff.1 h2).1
  have hip : i = p.length := by simp at h3; omega
  subst hip;rw [Nat.sub_self] at h2;cases h2;rw [hb] at h1;cases h1;exact hx
theorem truly24_ok {D : DrainV} (O : D.Ok) {bs : List Int} (hbs : ∀ x, x ∈ bs → 0 ≤ x ∧ x < 65536) (hlen : bs.length < 9223372036854775808) {b d r s qv : AVal} {ba bb : Nat} {g h : AH} (A : DrainAt g D b d r s) (eg : Ext g h) (hga : g.next ≤ ba) (hgb : g.next ≤ bb) (hab : ba ≠ bb) (Q : SliceOf g 1 qv (u16s bs)) (fa : Has h ba (.cells .plain [.int .i64 0] 3)) (fb : Has h bb (.cells .plain [qv] 45)) :
  Runs Try.prog 24 [.agg (dC b d r s), .func (.func 64) [] [.ptr ba 0, .ptr bb 0]] h (fun en h' => ∃ (sw sl sy : AVal) (l ys : List Int) (S : List (Int × Int)), en = .ret (.tuple [.agg (dC b d r sw), sl, sy]) ∧ ExtF (fun b => b = ba) h h' ∧ TrueT D l ys ∧ SeenR D l S ∧ S.length ≤ 4 ∧ ∀ h2, ExtF (fun b => b < h.next) h' h2 → SliceOf h2 2 sw (S.map spC) ∧ SliceOf h2 1 sl (l.map fun x => [.int .i64 x]) ∧ SliceOf h2 1 sy (ys.map fun x => [.int .i64 x])) := by
 have hnb := O.nb
 have hl1 := A.bs.len
 rw [List.length_map] at hl1
 have hsm := A.same
 have hsb := A.bs.scal
 have hsd := A.ds.scal
 have hsr := A.rs.scal
 have hss := A.ss.scal
 unfold dC at *
 have hba := fa.1
 have hbb := fb.1
 have y0 : ExtF (fun b => b = ba) h h := ExtF.of (Ext.refl _)
 refine Runs.intro aFunc24 rfl rfl rfl rfl fun rest => ?_;apply gS;refine gR rfl ?_;refine GoR.box rfl rfl rfl rfl rfl rfl fun h0 x0 f0 => ?_;have := eg.1;have := fa.1;have := fb.1;replace fa := fa.ext x0;replace fb := fb.ext x0;replace eg := eg.trans x0;replace y0 := y0.ext x0;have := f0.1;refine GoR.alloc rfl rfl rfl zt29 rfl rfl fun h1 x1 f1 => ?_;have := eg.1;have := f0.1;have := fa.1;have := fb.1;replace f0 := f0.ext x1;replace fa := fa.ext x1;replace fb := fb.ext x1;replace eg := eg.trans x1;replace y0 := y0.ext x1;have := f1.1;iterate 2 refine gP ?_
 apply gE;iterate 2 apply gS
 refine gR rfl ?_;refine gO rfl rfl (fa29_0 rfl) rfl ?_;refine gO rfl rfl (ld25 rfl f0 rfl) rfl ?_;refine gO rfl rfl (aOp_lenSlice Try.underlying25 rfl hl1) rfl ?_;refine gP ?_;apply gE;refine Go.block noJ_ok ?_
 have m0 := f0.1
 have m1 := f1.1
 refine Go.loopKeep (fun a : Nat × (AVal × AVal) × List Int × List Int => [(1, .func (.func 64) [] [.ptr ba 0, .ptr bb 0]), (2, .ptr h.next 0), (4, .ptr h0.next 0), (5, a.2.1.1), (6, a.2.1.2), (12, b), (13, .int .i64 D.bs.length), (14, .int .i64 (a.1 : Nat))])
  (fun m a h' => m + a.1 = D.bs.length ∧ Ext g h' ∧ ExtF (fun b => b = ba) h h' ∧ h1.next ≤ h'.next ∧ Has h' h.next (.cells .plain [b, d, r, s] 29) ∧ Has h' h0.next (.cells .plain [.nilslice, .nilslice, .nilslice, .nilslice] 29) ∧ Has h' ba (.cells .plain [.int .i64 (2 * a.1 : Nat)] 3) ∧ Has h' bb (.cells .plain [qv] 45) ∧ (Pre D a.2.2.1 ∧ a.2.2.1.length = a.1) ∧ (PreY D a.2.2.2 ∧ a.2.2.2.length = a.1) ∧ Grow h' 3 1 h1.next a.2.1.1 a.1 (i64s a.2.2.1) ∧ Grow h' 3 1 h1.next a.2.1.2 a.1 (i64s a.2.2.2) ∧ (∀ c1 c2, a.2.1.1 = .gsl c1 0 0 a.1 → a.2.1.2 = .gsl c2 0 0 a.1 → c1 ≠ c2))
  (n := D.bs.length) (0, (.nilslice, .nilslice), [], []) ⟨rfl, rfl, rfl, rfl, rfl, rfl, rfl, rfl, trivial⟩ ⟨rfl, eg, y0, Nat.le_refl _, f0, f1, fa, fb, ⟨Pre.nil D, rfl⟩, ⟨PreY.nil D, rfl⟩, Grow.nil _ _ _ _, Grow.nil _ _ _ _, fun c1 c2 q => by cases q⟩ ?_
 clear eg y0 f0 f1 fa fb;rintro m ⟨i, ⟨sl, sy⟩, L, Y⟩ h20 ⟨hm, eg, y0, hle, f0, f1, fa, fb, ⟨hL, hLl⟩, ⟨hY, hYl⟩, G1, G2, hne⟩ again
 dsimp only at hm fa hL hLl hY hYl G1 G2 hne ⊢
 have hn9 := f0.1
 have hn8 := f1.1
 have hn7 := fa.1
 have hn6 := fb.1
 by_cases hi : i < D.bs.length
 ·obtain ⟨x, hx⟩ : ∃ x, D.bs[i]? = some x := ⟨D.bs[i], by simp [hi]⟩
  have hxO := O.b x (List.mem_of_getElem? hx)
  unfold BkV.Ok at hxO
  obtain ⟨bq, off, q1, q2⟩ := A.bs.at (i := i) (l := BkV.cells x) (by rw [List.getElem?_map, hx]; rfl)
  rw [List.length_map] at q1
  unfold BkV.cells at q2
  have y6 : ExtF (fun b => b = ba ∨ sl = .gsl b 0 0 i) h20 h20 := .of (Ext.refl _)
  have y5 : ExtF (fun b => b = ba) h20 h20 := .of (Ext.refl _)
  have hsG := grow_same G1
  have hsG2 := grow_same G2
  apply gS;refine gR rfl ?_;refine gO rfl rfl (kLT rfl rfl) rfl ?_;apply gE;apply gS;refine gC (b := true) rfl ?_;refine gD ?_;apply gS;refine Go.block noJ_ok ?_;apply gS;refine gR rfl ?_;refine gO rfl rfl (aOp_indexAddr (i := i) Try.underlying25 sz60 rfl q1 rfl (Nat.ble_eq_true_of_le hi)) rfl ?_;refine gO rfl rfl (aOp_loadE ag60 sz60 rfl (q2.ext eg)) rfl ?_;refine GoR.alloc rfl rfl rfl zt60 rfl rfl fun h21 x21 f21 => ?_;have := eg.1;have := f0.1;have := f1.1;have := fa.1;have := fb.1;replace f0 := f0.ext x21;replace f1 := f1.ext x21;replace fa := fa.ext x21;replace fb := fb.ext x21;replace eg := eg.trans x21;replace y0 := y0.ext x21;replace y6 := y6.ext x21;replace y5 := y5.ext x21;have := f21.1;refine GoR.store rfl rfl rfl rfl rfl rfl f21 rfl sz60 rfl rfl rfl fun h22 u22 => ?_;replace f21 := u22.has f21;replace f0 := f0.upd u22 (by omega);replace f1 := f1.upd u22 (by omega);replace fa := fa.upd u22 (by omega);replace fb := fb.upd u22 (by omega);replace eg := eg.upd u22 (by omega);replace y0 := y0.upd u22 (.inr (by omega));replace y6 := y6.upd u22 (.inr (by omega));replace y5 := y5.upd u22 (.inr (by omega));apply gE;refine Go.drawnE plan24_0 ?_;iterate 2 refine gQ rfl rfl rfl rfl ?_
  refine gQ rfl rfl (fa60_0 rfl) rfl ?_;refine gQ rfl rfl (ld35 rfl f21 rfl) rfl ?_;iterate 2 refine gQ rfl rfl rfl rfl ?_
  refine gQ rfl rfl (fa60_1 rfl) rfl ?_;refine gQ rfl rfl (ld35 rfl f21 rfl) rfl ?_;refine GoE.call rfl rfl (aOp_callVal rfl aFunc64 rfl) (draw64_ok hbs (by assumption) (by assumption) eg hab Q (by omega) hlen (by constructor <;> omega) (by omega)) (dK 14 10 (dK 14 9 (dK 14 8 (dK 14 7 (dD 14 3 (dD 14 2 (dD 14 1 (dK 14 0 rfl)))))))) ?_ (by rintro _ _ ⟨w, q, wl, wh, _, _⟩; cases q);rintro v23 h23 ⟨w, q, wl, wh, y23, f23⟩;cases q;have := eg.1;have := f21.1;have := f0.1;have := f1.1;have := fa.1;have := fb.1;have := eg.1;have := f21.1;have := f0.1;have := f1.1;have := fa.1;have := fb.1;replace f21 := f21.extF y23 (fun q => by omega);replace f0 := f0.extF y23 (fun q => by omega);replace f1 := f1.extF y23 (fun q => by omega);clear fa;replace fb := fb.extF y23 (fun q => by omega);replace eg := y23.low eg (fun b q => by omega);replace y0 := y0.trans (fun b q => .inl q) y23;replace y6 := y6.trans (fun b q => .inl (.inl q)) y23;replace y5 := y5.trans (fun b q => .inl q) y23;have := y23.1;refine ⟨(rck (h2 := h23) rfl (ld35 rfl f21 rfl) (rck (h2 := h23) rfl (fa60_1 rfl) (rck (h2 := h23) rfl (rfl) (rck (h2 := h23) rfl (rfl) (rck (h2 := h23) rfl (rfl) recheck_nil))))), _, rfl, ?_⟩;refine GoE.quietX rfl rfl (aOpX_lit (ps := [(0, .int .i64 w)]) (cs := [.int .i64 w]) Try.underlying47 rfl sz3 zt3 rfl rfl rfl) rfl ?_;refine GoE.append1L rfl rfl Try.underlying47 Try.underlying47 sz3 by3 zt3 rfl rfl rfl rfl rfl rfl (grow_extF G1 y5 (fun b q => by have : b = ba := q; omega)) (by omega) (dD 63 5 (dK 63 10 (dK 63 9 (dK 63 8 (dK 63 7 (dD 63 0 rfl)))))) rfl rfl fun s24 h24 y24 g24 => ?_;replace f23 := f23.extF y24 (fun q => by have := grow_own G1 q; omega);replace f21 := f21.extF y24 (fun q => by have := grow_own G1 q; omega);replace f0 := f0.extF y24 (fun q => by have := grow_own G1 q; omega);replace f1 := f1.extF y24 (fun q => by have := grow_own G1 q; omega);replace fb := fb.extF y24 (fun q => by have := grow_own G1 q; omega);replace eg := y24.low eg (fun b q => by have := grow_own G1 q; omega);clear y23;replace y0 := y0.trans (fun b q => .inr (by have := grow_own G1 q; omega)) y24;replace y6 := y6.trans (fun b q => .inl (.inr q)) y24;clear y5;have := y24.1;refine ⟨(rck (h2 := h24) rfl (ld35 rfl f21 rfl) (rck (h2 := h24) rfl (fa60_1 rfl) (rck (h2 := h24) rfl (rfl) (rck (h2 := h24) rfl (rfl) recheck_nil)))), ?_⟩
  obtain ⟨w1, hw1⟩ : ∃ w1, w1 = w := ⟨_, rfl⟩
  subst hw1
  have wl1 := wl
  have wh1 := wh
  have y8 : ExtF (fun b => b = ba ∨ sy = .gsl b 0 0 i) h24 h24 := .of (Ext.refl _)
  refine GoE.call rfl rfl (aOp_callVal rfl aFunc64 rfl) (draw64_ok hbs (by assumption) (by assumption) eg hab Q (by omega) hlen (by constructor <;> omega) (by omega)) (dD 1919 10 (dD 1919 9 (dD 1919 8 (dK 1919 7 rfl)))) ?_ (by rintro _ _ ⟨w, q, wl, wh, _, _⟩; cases q);rintro v25 h25 ⟨w, q, wl, wh, y25, f25⟩;cases q;have := eg.1;have := f23.1;have := f21.1;have := f0.1;have := f1.1;have := fb.1;have := eg.1;have := f23.1;have := f21.1;have := f0.1;have := f1.1;have := fb.1;clear f23;replace f21 := f21.extF y25 (fun q => by omega);replace f0 := f0.extF y25 (fun q => by omega);replace f1 := f1.extF y25 (fun q => by omega);replace fb := fb.extF y25 (fun q => by omega);replace eg := y25.low eg (fun b q => by omega);clear y24;replace y0 := y0.trans (fun b q => .inl q) y25;replace y6 := y6.trans (fun b q => .inl (.inl q)) y25;replace y8 := y8.trans (fun b q => .inl (.inl q)) y25;have := y25.1;refine ⟨(rck (h2 := h25) rfl (rfl) recheck_nil), _, rfl, ?_⟩;refine GoE.quietX rfl rfl (aOpX_lit (ps := [(0, .int .i64 w)]) (cs := [.int .i64 w]) Try.underlying47 rfl sz3 zt3 rfl rfl rfl) rfl ?_;refine GoE.append1L rfl rfl Try.underlying47 Try.underlying47 sz3 by3 zt3 rfl rfl rfl rfl rfl rfl (G2.keep y6.1 fun b h1 h2 h3 => y6.2 b h2 fun q => q.elim (fun q => by omega) fun q => hne _ _ q h3 rfl) (by omega) (dD 8191 12 (dD 8191 7 rfl)) rfl rfl fun s26 h26 y26 g26 => ?_;replace f25 := f25.extF y26 (fun q => by have := grow_own G2 q; omega);replace f21 := f21.extF y26 (fun q => by have := grow_own G2 q; omega);replace f0 := f0.extF y26 (fun q => by have := grow_own G2 q; omega);replace f1 := f1.extF y26 (fun q => by have := grow_own G2 q; omega);replace fb := fb.extF y26 (fun q => by have := grow_own G2 q; omega);replace eg := y26.low eg (fun b q => by have := grow_own G2 q; omega);clear y25;replace y0 := y0.trans (fun b q => .inr (by have := grow_own G2 q; omega)) y26;clear y6;replace y8 := y8.trans (fun b q => .inl (.inr q)) y26;have := y26.1;refine ⟨recheck_nil, ?_⟩;iterate 2 refine gQ rfl rfl rfl rfl ?_
  refine GoE.end rfl ?_;refine Go.inBlock noJ_ok ?_;refine gR rfl ?_;refine gO rfl rfl (aA rfl rfl) rfl ?_;refine gP ?_;apply gE
  have m1 := y8.1
  have m2 := y26.1
  refine again (m - 1) (i + 1, (s24, s26), L ++ [w1], Y ++ [w]) _ _ (by omega) ⟨rfl, rfl, rfl, rfl, rfl, rfl, rfl, rfl, trivial⟩ ⟨by dsimp only; omega, eg, y0, by omega, f0, f1, (by rw [show ((2 * (i + 1) : Nat) : Int) = ((2 * i : Nat) : Int) + 1 + 1 from by omega]; assumption), fb, ⟨hL.snoc (by rw [hLl]; exact hx) ⟨wl1, wh1⟩, by rw [List.length_append, hLl]; rfl⟩, ⟨hY.snoc (by rw [hYl]; exact hx) ⟨wl, wh⟩, by rw [List.length_append, hYl]; rfl⟩, ?_, ?_, fun c1 c2 z1 z2 => by have := (grow_own g24 z1).2; have := (grow_own g26 z2).1; omega⟩
  ·dsimp only
   unfold i64s at g24 ⊢
   rw [List.map_append];exact (g24.keep y8.1 fun b h1 h2 h3 => y8.2 b h2 fun q => q.elim (fun q => by omega) fun q => by have := (grow_own G2 q).2; omega).low (by omega)
  ·dsimp only
   unfold i64s at g26 ⊢
   rw [List.map_append];exact g26.low (by omega)
 ·have hii : i = D.bs.length := by omega
  subst hii;clear again
  have y9 : ExtF (fun b => b = ba ∨ b = h0.next) h20 h20 := .of (Ext.refl _)
  have hsG := grow_same G1
  have hsG2 := grow_same G2
  have hlv : L ∈ levsV D.bs := hL.full hLl
  have hcl := course_len D 0 L
  have hlc : (sgnC (D.course 0 L)).length = D.bs.length := by unfold sgnC; rw [List.length_map, hcl]
  have hsx : scalars [b, d, r, s] = true := scal_app (a := [b]) hsb.1 (scal_app (a := [d]) hsd.1 (scal_app (a := [r]) hsr.1 hss.1))
  have hsx2 : scalars [b, d, r, .nilslice] = true := scal_app (a := [b]) hsb.1 (scal_app (a := [d]) hsd.1 (scal_app (a := [r]) hsr.1 rfl))
  apply gS;refine gR rfl ?_;refine gO rfl rfl (kLF rfl rfl) rfl ?_;apply gE;apply gS;refine gC (b := false) rfl ?_;refine gD ?_;apply gS;refine gR rfl ?_;refine gO rfl rfl (ld29 rfl f0 rfl) rfl ?_;refine GoR.store rfl rfl rfl rfl rfl rfl f1 rfl sz29 rfl hsx rfl fun h21 u21 => ?_;replace f0 := f0.upd u21 (by omega);replace f1 := u21.has f1;replace fb := fb.upd u21 (by omega);replace fa := fa.upd u21 (by omega);replace eg := eg.upd u21 (by omega);replace y0 := y0.upd u21 (.inr (by omega));replace y9 := y9.upd u21 (by omega);apply gE;apply gS;refine gR rfl ?_;refine gO rfl rfl (fa29_3 rfl) rfl ?_;refine GoR.store rfl rfl rfl rfl rfl rfl f1 rfl sz26 rfl rfl rfl fun h22 u22 => ?_;replace f0 := f0.upd u22 (by omega);replace f1 := u22.has f1;replace fb := fb.upd u22 (by omega);replace fa := fa.upd u22 (by omega);replace eg := eg.upd u22 (by omega);replace y0 := y0.upd u22 (.inr (by omega));replace y9 := y9.upd u22 (by omega);apply gE;apply gS;refine gR rfl ?_;refine gO rfl rfl (ld29 rfl f0 rfl) rfl ?_;refine gP ?_;refine GoR.call rfl rfl (aCF aFunc26 rfl) (courses26_e O (l := L) (st := 0) hLl (A.ext eg) (ints_slice hLl (grow_extF G1 y9 (fun b q => by rcases q with q | q <;> omega)))) ?_ (by rintro _ _ ⟨sn, q, _, Gn, e2⟩; cases q);rintro v23 h23 ⟨sn, q, x23, Gn, e2⟩;cases q;refine ⟨_, rfl, ?_⟩;have := eg.1;replace f0 := f0.ext x23;replace f1 := f1.ext x23;replace fb := fb.ext x23;replace fa := fa.ext x23;replace eg := eg.trans x23;replace y0 := y0.ext x23;replace y9 := y9.ext x23;refine gP ?_;apply gE;iterate 2 apply gS
  refine gR rfl ?_;refine gP ?_
  have y10 : ExtF (fun b => b = ba ∨ b = h0.next) h23 h23 := .of (Ext.refl _)
  have SN := ints_slice hlc Gn
  have hln := SN.len
  rw [List.length_map, hlc] at hln
  have hsn := SN.same
  have hm23 := y9.1
  have m3 := u21.1
  have m4 := u22.1
  have m5 : ba < h22.next ∧ h0.next < h22.next := by omega
  clear e2;refine GoR.call rfl rfl (aCF aFunc21 rfl) (span21_ok) ?_ np;rintro v24 h24 ⟨q, x24⟩;cases q;refine ⟨_, rfl, ?_⟩;replace f0 := f0.ext x24;replace f1 := f1.ext x24;replace fb := fb.ext x24;replace fa := fa.ext x24;replace eg := eg.trans x24;replace y0 := y0.ext x24;replace y9 := y9.ext x24;replace y10 := y10.ext x24;refine GoR.call rfl rfl (aOp_callVal rfl aFunc64 rfl) (draw64_ok hbs (by assumption) (by assumption) eg hab Q (by omega) hlen (by constructor <;> omega) (by omega)) ?_ (by rintro _ _ ⟨w, q, wl, wh, _, _⟩; cases q);rintro v25 h25 ⟨w, q, wl, wh, y25, f25⟩;cases q;refine ⟨_, rfl, ?_⟩;iterate 2 have := eg.1
  have := f0.1;have := f1.1;have := fb.1;have := fa.1;replace f0 := f0.extF y25 (fun q => by omega);replace f1 := f1.extF y25 (fun q => by omega);replace fb := fb.extF y25 (fun q => by omega);clear fa;replace eg := y25.low eg (fun b q => by omega);replace y0 := y0.trans (fun b q => .inl q) y25;replace y9 := y9.trans (fun b q => .inl (.inl q)) y25;replace y10 := y10.trans (fun b q => .inl (.inl q)) y25;have := y25.1;refine gP ?_;apply gE;refine Go.block noJ_ok ?_
  obtain ⟨wn, rfl⟩ := Int.eq_ofNat_of_zero_le wl
  have hfa := f25
  have hb25 := y10.1
  have m6 : ba < h25.next ∧ h0.next < h25.next := by omega
  refine Go.loopKeep (fun a : Nat × AVal × List (Int × Int) => [(1, .func (.func 64) [] [.ptr ba 0, .ptr bb 0]), (4, .ptr h0.next 0), (5, sl), (6, sy), (9, v23), (40, .int .i64 (wn : Nat)), (41, .int .i64 (a.1 : Nat))])
   (fun m a h' => m + a.1 = wn ∧ Ext g h' ∧ ExtF (fun b => b = ba) h h' ∧ ExtF (fun b => b = ba ∨ b = h0.next) h20 h' ∧ ExtF (fun b => b = ba ∨ b = h0.next) h23 h' ∧ h25.next ≤ h'.next ∧ Has h' h0.next (.cells .plain [b, d, r, a.2.1] 29) ∧ Has h' ba (.cells .plain [.int .i64 (2 * D.bs.length + 1 + a.1 : Nat)] 3) ∧ Has h' bb (.cells .plain [qv] 45) ∧ SeenR D L a.2.2 ∧ a.2.2.length ≤ a.1 ∧ Grow h' 32 2 h25.next a.2.1 a.2.2.length (a.2.2.flatMap spC))
   (n := wn) (0, .nilslice, []) ⟨rfl, rfl, rfl, rfl, rfl, rfl, rfl, trivial⟩ ⟨rfl, eg, y0, y9, y10, Nat.le_refl _, f1, f25, fb, (fun w q => by cases q), Nat.le_refl _, Grow.nil _ _ _ _⟩ ?_
  clear eg y0 y9 y10 f0 f1 fb hfa f25;rintro m ⟨i, sw, S⟩ h30 ⟨hm, eg, y0, y9, y10, hle2, f1, fa, fb, hS, hSl, G3⟩ again
  dsimp only at hm f1 fa hS hSl G3 ⊢
  have hn9 := f1.1
  have hn7 := fa.1
  have hn6 := fb.1
  have hsw := grow_same G3
  have hsc := grow_scal G3
  by_cases hi : i < wn
  ·have y11 : ExtF (fun b => b = ba) h30 h30 := .of (Ext.refl _)
   apply gS;refine gR rfl ?_;refine gO rfl rfl (kLT rfl rfl) rfl ?_;apply gE;apply gS;refine gC (b := true) rfl ?_;refine gD ?_;apply gS;refine Go.block noJ_ok ?_;apply gS;refine gR rfl ?_;iterate 2 refine gP ?_
   refine gO rfl rfl (aOp_lenSlice Try.underlying47 rfl hln) rfl ?_;refine gO rfl rfl (aS rfl rfl) rfl ?_;refine GoR.call rfl rfl (aCF aFunc21 rfl) (span21_ok) ?_ np;rintro v31 h31 ⟨q, x31⟩;cases q;refine ⟨_, rfl, ?_⟩;replace f1 := f1.ext x31;replace fa := fa.ext x31;replace fb := fb.ext x31;replace eg := eg.trans x31;replace y0 := y0.ext x31;replace y9 := y9.ext x31;replace y10 := y10.ext x31;replace y11 := y11.ext x31;refine GoR.call rfl rfl (aOp_callVal rfl aFunc64 rfl) (draw64_ok hbs (by assumption) (by assumption) eg hab Q (by omega) hlen (by constructor <;> omega) (by omega)) ?_ (by rintro _ _ ⟨w, q, al, ah, _, _⟩; cases q);rintro v32 h32 ⟨w, q, al, ah, y32, f32⟩;cases q;refine ⟨_, rfl, ?_⟩;iterate 2 have := eg.1
   have := f1.1;have := fa.1;have := fb.1;replace f1 := f1.extF y32 (fun q => by omega);clear fa;replace fb := fb.extF y32 (fun q => by omega);replace eg := y32.low eg (fun b q => by omega);replace y0 := y0.trans (fun b q => .inl q) y32;replace y9 := y9.trans (fun b q => .inl (.inl q)) y32;replace y10 := y10.trans (fun b q => .inl (.inl q)) y32;replace y11 := y11.trans (fun b q => .inl q) y32;have := y32.1;refine gP ?_;apply gE;apply gS;refine gR rfl ?_;iterate 2 refine gP ?_
   obtain ⟨a, rfl⟩ := Int.eq_ofNat_of_zero_le al
   have ha : a < D.bs.length := by omega
   obtain ⟨bn, on, p1, p2⟩ := (ints_slice hlc (grow_extF Gn y10 (fun b q => by rcases q with q | q <;> omega))).at (i := a) (l := [.int .i64 (sgn D.bs.length (nx (D.course 0 L) a))]) (by rw [List.getElem?_map, sgnC_at ha]; rfl)
   rw [List.length_map, hlc] at p1
   have hle3 := nx_le D 0 L ha
   have hst1 : ∀ {h : AH} {lo m : Nat} {z : AVal} {cs : List AVal}, Grow h 32 2 lo z m cs → Nat.beq z.cells.length 1 = true := fun k => by rw [(grow_scal k).2]; rfl
   have hst2 : ∀ {h : AH} {lo m : Nat} {z : AVal} {cs : List AVal}, Grow h 32 2 lo z m cs → scalars z.cells = true := fun k => by rw [(grow_scal k).2]; exact (grow_scal k).1
   have hst3 : ∀ {h : AH} {lo m : Nat} {z : AVal} {cs : List AVal}, Grow h 32 2 lo z m cs → splice [b, d, r, sw] (0 + 3) z.cells = some [b, d, r, z] := fun k => by rw [(grow_scal k).2]; rfl
   by_cases hq : nx (D.course 0 L) a = D.bs.length
   ·have hv : sgn D.bs.length (nx (D.course 0 L) a) = -1 := if_pos hq
    rw [hv] at p2;refine gO rfl rfl (aOp_indexAddr (i := a) Try.underlying47 sz3 rfl p1 rfl (Nat.ble_eq_true_of_le ha)) rfl ?_;refine gO rfl rfl (aOp_loadE1 (k := 0) ag3 rfl p2 rfl) rfl ?_;refine gO rfl rfl (kNF rfl rfl) rfl ?_;apply gE;refine gC (b := false) rfl ?_;refine gD ?_;refine Go.inBlock noJ_ok ?_;refine gR rfl ?_;refine gO rfl rfl (aA rfl rfl) rfl ?_;refine gP ?_;apply gE
    have m7 := y11.1
    exact again (m - 1) (i + 1, sw, S) _ _ (by omega) ⟨rfl, rfl, rfl, rfl, rfl, rfl, rfl, trivial⟩ ⟨by dsimp only; omega, eg, y0, y9, y10, by omega, f1, (by rw [show ((2 * D.bs.length + 1 + (i + 1) : Nat) : Int) = ((2 * D.bs.length + 1 + i : Nat) : Int) + 1 from by omega]; exact f32), fb, hS, (by dsimp only; omega), grow_extF G3 y11 (fun b q => by have : b = ba := q; omega)⟩
   ·have hv : sgn D.bs.length (nx (D.course 0 L) a) = ((nx (D.course 0 L) a : Nat) : Int) := if_neg hq
    rw [hv] at p2
    have m7 := y11.1
    refine gO rfl rfl (aOp_indexAddr (i := a) Try.underlying47 sz3 rfl p1 rfl (Nat.ble_eq_true_of_le ha)) rfl ?_;refine gO rfl rfl (aOp_loadE1 (k := 0) ag3 rfl p2 rfl) rfl ?_;refine gO rfl rfl (kNT rfl rfl) rfl ?_;apply gE;refine gC (b := true) rfl ?_;refine Go.drawnE plan24_1 ?_;refine gQ rfl rfl (fa29_3 rfl) rfl ?_;refine gQ rfl rfl (ld26 rfl f1 rfl) rfl ?_;iterate 3 refine gQ rfl rfl rfl rfl ?_
    refine gQ rfl rfl (aOp_indexAddr (i := a) Try.underlying47 sz3 rfl p1 rfl (Nat.ble_eq_true_of_le ha)) rfl ?_;refine gQ rfl rfl (aOp_loadE1 (k := 0) ag3 rfl p2 rfl) rfl ?_;refine GoE.call rfl rfl (aCF aFunc12 rfl) (way12_ok) (dD 124 6 (dD 124 5 (dD 124 4 (dD 124 3 (dD 124 2 (dK 124 1 (dK 124 0 rfl))))))) ?_ np;rintro v33 h33 ⟨q, x33⟩;cases q;replace f32 := f32.ext x33;replace f1 := f1.ext x33;replace fb := fb.ext x33;replace eg := eg.trans x33;replace y32 := y32.ext x33;replace y0 := y0.ext x33;replace y9 := y9.ext x33;replace y10 := y10.ext x33;replace y11 := y11.ext x33;refine ⟨(rck (h2 := h33) rfl (ld26 rfl f1 rfl) (rck (h2 := h33) rfl (fa29_3 rfl) recheck_nil)), _, rfl, ?_⟩;refine GoE.quietX rfl rfl (aOpX_lit (ps := [(0, .agg [.int .i64 (a : Nat), .int .i64 (nx (D.course 0 L) a : Nat)])]) (cs := [.int .i64 (a : Nat), .int .i64 (nx (D.course 0 L) a : Nat)]) Try.underlying26 rfl sz32 zt32 rfl rfl rfl) rfl ?_;refine GoE.append1L rfl rfl Try.underlying26 Try.underlying26 sz32 by32 zt32 rfl rfl rfl rfl rfl rfl (grow_extF G3 y11 (fun b q => by have : b = ba := q; omega)) (by omega) (dD 511 8 (dD 511 1 (dD 511 0 rfl))) rfl rfl fun s34 h34 y34 g34 => ?_;replace f32 := f32.extF y34 (fun q => by have := grow_own G3 q; omega);replace f1 := f1.extF y34 (fun q => by have := grow_own G3 q; omega);replace fb := fb.extF y34 (fun q => by have := grow_own G3 q; omega);replace eg := y34.low eg (fun b q => by have := grow_own G3 q; omega);clear y32;replace y0 := y0.trans (fun b q => .inr (by have := grow_own G3 q; omega)) y34;replace y9 := y9.trans (fun b q => .inr (by have := grow_own G3 q; omega)) y34;replace y10 := y10.trans (fun b q => .inr (by have := grow_own G3 q; omega)) y34;clear y11;have := y34.1;refine ⟨recheck_nil, ?_⟩;refine gQ rfl rfl (fa29_3 rfl) rfl ?_;refine GoE.store rfl rfl rfl rfl (dD 2047 10 rfl) rfl rfl f1 rfl sz26 (hst1 (by assumption)) (hst2 (by assumption)) (hst3 (by assumption)) fun h35 u35 => ?_;replace f32 := f32.upd u35 (by omega);replace f1 := u35.has f1;replace fb := fb.upd u35 (by omega);replace eg := eg.upd u35 (by omega);replace y0 := y0.upd u35 (.inr (by omega));replace y9 := y9.upd u35 (by omega);replace y10 := y10.upd u35 (by omega);refine ⟨recheck_nil, ?_⟩;refine GoE.end rfl ?_;refine Go.inBlock noJ_ok ?_;refine gR rfl ?_;refine gO rfl rfl (aA rfl rfl) rfl ?_;refine gP ?_;apply gE
    have m9 := x33.1
    have m10 := y34.1
    have m11 := u35.1
    refine again (m - 1) (i + 1, s34, S ++ [((a : Int), ((nx (D.course 0 L) a : Nat) : Int))]) _ _ (by omega) ⟨rfl, rfl, rfl, rfl, rfl, rfl, rfl, trivial⟩ ⟨by dsimp only; omega, eg, y0, y9, y10, by omega, f1, (by rw [show ((2 * D.bs.length + 1 + (i + 1) : Nat) : Int) = ((2 * D.bs.length + 1 + i : Nat) : Int) + 1 from by omega]; exact f32), fb, fun w hw => ?_, by rw [List.length_append]; show S.length + 1 ≤ i + 1; omega, ?_⟩
    ·rcases List.mem_append.1 hw with hw | hw
     ·exact hS w hw
     ·cases List.mem_singleton.1 hw
      exact ⟨a, ha, rfl, by omega⟩
    ·dsimp only
     rw [List.length_append, List.flatMap_append];exact (g34.upd u35 (by omega)).low (by omega)
  ·have hii : i = wn := by omega
   subst hii;clear again
   have hsx3 : scalars [b, d, r, sw] = true := scal_app (a := [b]) hsb.1 (scal_app (a := [d]) hsd.1 (scal_app (a := [r]) hsr.1 hsc.1))
   have y12 : ExtF (fun b => b = h0.next) h30 h30 := .of (Ext.refl _)
   have T1 : ∀ h' h2, ExtF (fun b => b = ba ∨ b = h0.next) h20 h' → ExtF (fun b => b < h.next) h' h2 → SliceOf h2 1 sl (L.map fun x => [AVal.int .i64 x]) := fun h' h2 y z => ints_slice hLl (grow_extF (grow_extF G1 y (fun b q => by rcases q with q | q <;> omega)) z (fun b q => by have : b < h.next := q; omega))
   have T2 : ∀ h' h2, ExtF (fun b => b = ba ∨ b = h0.next) h20 h' → ExtF (fun b => b < h.next) h' h2 → SliceOf h2 1 sy (Y.map fun x => [AVal.int .i64 x]) := fun h' h2 y z => ints_slice hYl (grow_extF (grow_extF G2 y (fun b q => by rcases q with q | q <;> omega)) z (fun b q => by have : b < h.next := q; omega))
   have T3 : ∀ h' h2, ExtF (fun b => b = h0.next) h30 h' → ExtF (fun b => b < h.next) h' h2 → SliceOf h2 2 sw (S.map spC) := fun h' h2 y z => Grow.sliceOf (L := S.map spC) (by rw [List.length_map]; exact grow_extF (grow_extF G3 y (fun b q => by have : b = h0.next := q; omega)) z (fun b q => by have : b < h.next := q; omega)) (fun i l q => by
    rw [List.getElem?_map] at q
    cases q2 : S[i]? with
    | none => rw [q2] at q; cases q
    | some w =>
     rw [q2] at q;cases q
     exact flatten_at (f := spC) (fun _ => rfl) i _ (by rw [List.getElem?_map, q2]; rfl))
   apply gS;refine gR rfl ?_;refine gO rfl rfl (kLF rfl rfl) rfl ?_;apply gE;apply gS;refine gC (b := false) rfl ?_;refine gD ?_;apply gS;refine gR rfl ?_;refine gO rfl rfl (ld29 rfl f1 rfl) rfl ?_;iterate 2 refine gP ?_
   refine GoR.store rfl rfl rfl rfl rfl rfl f1 rfl sz29 rfl hsx3 rfl fun h31 u31 => ?_;replace f1 := u31.has f1;replace fa := fa.upd u31 (by omega);replace fb := fb.upd u31 (by omega);replace eg := eg.upd u31 (by omega);replace y0 := y0.upd u31 (.inr (by omega));replace y9 := y9.upd u31 (by omega);replace y12 := y12.upd u31 (.inl rfl);iterate 2 refine gP ?_
   apply gE;exact gV (ret_end (aResult_of Try.func24 rfl (aResults_c rfl f1 (inCells_agg ag29 sz29 rfl) rfl)) (⟨sw, sl, sy, L, Y, S, rfl, y0, ⟨hlv, hYl, hY.va⟩, hS, by omega, fun h2 z => ⟨T3 _ _ y12 z, T1 _ _ y9 z, T2 _ _ y9 z⟩⟩))
end Go.Proofs.Ytkhiagdmbajimaa

namespace Go.Proofs.Ytkhiagdmbajimaa
open Go Go.AbsE
set_option linter.unusedSimpArgs false
set_option maxRecDepth 100000
set_option maxHeartbeats 0
set_option linter.unusedVariables false
noncomputable def ops4a : Array Oper := ((drawnOps Try.f4)[0]?).getD #[]
theorem befs4a : befs0 ops4a = [0, 0, 2, 7, 15, 31, 31, 31, 0, 319, 895, 2047] := by kernel_rfl
theorem size4a : ops4a.size = 12 := by kernel_rfl
theorem pl4a_2_3_8 : planX ops4a [0, 0, 2, 7, 15, 31, 31, 31, 15, 319, 895, 2047] [0, 1, 2, 3, 4, 5, 6, 7, 8, 9, 10, 11] = some (mkPlan ops4a.toList [(0, 0, true, false), (1, 0, true, false), (2, 2, false, false), (3, 7, false, false), (4, 15, true, false), (5, 31, true, false), (6, 31, true, false), (7, 31, true, false), (8, 15, false, false), (9, 319, false, false), (10, 895, true, false), (11, 2047, true, false)]) := by kernel_rfl
theorem pl4a_2_8_3 : planX ops4a [0, 0, 2, 263, 271, 287, 287, 287, 6, 319, 895, 2047] [0, 1, 2, 8, 3, 4, 5, 6, 7, 9, 10, 11] = some (mkPlan ops4a.toList [(0, 0, true, false), (1, 0, true, false), (2, 2, false, false), (8, 6, false, false), (3, 263, false, false), (4, 271, true, false), (5, 287, true, false), (6, 287, true, false), (7, 287, true, false), (9, 319, false, false), (10, 895, true, false), (11, 2047, true, false)]) := by kernel_rfl
theorem pl4a_8_2_3 : planX ops4a [0, 0, 258, 263, 271, 287, 287, 287, 0, 319, 895, 2047] [0, 1, 8, 2, 3, 4, 5, 6, 7, 9, 10, 11] = some (mkPlan ops4a.toList [(0, 0, true, false), (1, 0, true, false), (8, 0, false, false), (2, 258, false, false), (3, 263, false, false), (4, 271, true, false), (5, 287, true, false), (6, 287, true, false), (7, 287, true, false), (9, 319, false, false), (10, 895, true, false), (11, 2047, true, false)]) := by kernel_rfl
theorem alts4a {P : Program} {c : FC} {k : List AItem} {id : Nat} {t : Tr AVal} {h : AH} {Q : AM → Prop}
  (g2_3_8 : ∀ pl, planX ops4a [0, 0, 2, 7, 15, 31, 31, 31, 15, 319, 895, 2047] [0, 1, 2, 3, 4, 5, 6, 7, 8, 9, 10, 11] = some pl → GoE P c k Q ops4a pl (eraseT ops4a.toList t) [] t h)
  (g2_8_3 : ∀ pl, planX ops4a [0, 0, 2, 263, 271, 287, 287, 287, 6, 319, 895, 2047] [0, 1, 2, 8, 3, 4, 5, 6, 7, 9, 10, 11] = some pl → GoE P c k Q ops4a pl (eraseT ops4a.toList t) [] t h)
  (g8_2_3 : ∀ pl, planX ops4a [0, 0, 258, 263, 271, 287, 287, 287, 0, 319, 895, 2047] [0, 1, 8, 2, 3, 4, 5, 6, 7, 9, 10, 11] = some pl → GoE P c k Q ops4a pl (eraseT ops4a.toList t) [] t h) :
  Go P c (.code (.region id ops4a true) :: k) t h Q := by
 refine Go.drawnX pl4a_8_2_3 fun s hv => ?_
 have hb := fun i k hi hk => VB.before hv befs4a i k (by rw [size4a]; exact hi) hk
 have h2_1 := hb 2 1 (by decide) (by decide)
 have h3_0 := hb 3 0 (by decide) (by decide)
 have h3_1 := hb 3 1 (by decide) (by decide)
 have h3_2 := hb 3 2 (by decide) (by decide)
 have h4_0 := hb 4 0 (by decide) (by decide)
 have h4_1 := hb 4 1 (by decide) (by decide)
 have h4_2 := hb 4 2 (by decide) (by decide)
 have h4_3 := hb 4 3 (by decide) (by decide)
 have h5_0 := hb 5 0 (by decide) (by decide)
 have h5_1 := hb 5 1 (by decide) (by decide)
 have h5_2 := hb 5 2 (by decide) (by decide)
 have h5_3 := hb 5 3 (by decide) (by decide)
 have h5_4 := hb 5 4 (by decide) (by decide)
 have h6_0 := hb 6 0 (by decide) (by decide)
 have h6_1 := hb 6 1 (by decide) (by decide)
 have h6_2 := hb 6 2 (by decide) (by decide)
 have h6_3 := hb 6 3 (by decide) (by decide)
 have h6_4 := hb 6 4 (by decide) (by decide)
 have h7_0 := hb 7 0 (by decide) (by decide)
 have h7_1 := hb 7 1 (by decide) (by decide)
 have h7_2 := hb 7 2 (by decide) (by decide)
 have h7_3 := hb 7 3 (by decide) (by decide)
 have h7_4 := hb 7 4 (by decide) (by decide)
 have d8_2 := VB.apart hv befs4a 8 2 (by rw [size4a]; decide) (by decide)
 have d8_3 := VB.apart hv befs4a 8 3 (by rw [size4a]; decide) (by decide)
 by_cases q8_2 : s.idxOf 8 < s.idxOf 2
 ·refine ⟨_, _, _, pl4a_8_2_3, VB.alt hv befs4a size4a [(8, 2), (8, 3), (8, 4), (8, 5), (8, 6), (8, 7)] (by kernel_rfl) ?_, g8_2_3 _ pl4a_8_2_3⟩
  intro e he
  simp only [List.mem_cons, List.not_mem_nil, or_false] at he
  rcases he with rfl | rfl | rfl | rfl | rfl | rfl <;> dsimp only <;> omega
 ·by_cases q8_3 : s.idxOf 8 < s.idxOf 3
  ·refine ⟨_, _, _, pl4a_2_8_3, VB.alt hv befs4a size4a [(8, 3), (8, 4), (8, 5), (8, 6), (8, 7), (1, 8), (2, 8)] (by kernel_rfl) ?_, g2_8_3 _ pl4a_2_8_3⟩
   intro e he
   simp only [List.mem_cons, List.not_mem_nil, or_false] at he
   rcases he with rfl | rfl | rfl | rfl | rfl | rfl | rfl <;> dsimp only <;> omega
  ·refine ⟨_, _, _, pl4a_2_3_8, VB.alt hv befs4a size4a [(0, 8), (1, 8), (2, 8), (3, 8)] (by kernel_rfl) ?_, g2_3_8 _ pl4a_2_3_8⟩
   intro e he
   simp only [List.mem_cons, List.not_mem_nil, or_false] at he
   rcases he with rfl | rfl | rfl | rfl <;> dsimp only <;> omega
end Go.Proofs.Ytkhiagdmbajimaa
