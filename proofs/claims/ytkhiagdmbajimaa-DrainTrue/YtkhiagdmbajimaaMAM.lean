import Derived.Test.YtkhiagdmbajimaaMAL
import Derived.Test.YtkhiagdmbajimaaMAK
namespace Go.Proofs.Ytkhiagdmbajimaa
open Go Go.AbsE
set_option linter.unusedSimpArgs false
set_option maxRecDepth 100000
set_option maxHeartbeats 0
set_option linter.unusedVariables false
theorem ints_at {c : List Nat} {a : Nat} (h : a < c.length) : (ints c)[a]? = some ((nx c a : Nat) : Int) := by
 unfold ints nx
 rw [List.getElem?_map]
 simp [h]
theorem next_ok {c : List Nat} {t b : AVal} (hb : scalars [b] = true ∧ b.cells = [b]) {a : Nat} (ha : a < c.length) (hc : c.length ≤ 100) {h : AH} (S : SliceOf h 1 t ((ints c).map fun x => [AVal.int .i64 x])) :
  Runs Try.prog 42 [.agg [t, b], .int .i64 a] h (fun en h' => en = .ret (.int .i64 ((nx c a : Nat) : Int)) ∧ Ext h h') := by
 have hl : ((ints c).map fun x => [AVal.int .i64 x]).length = c.length := by unfold ints; simp
 obtain ⟨bq, off, q1, q2⟩ := S.at (i := a) (l := [.int .i64 ((nx c a : Nat) : Int)]) (by rw [List.getElem?_map, ints_at ha]; rfl)
 rw [hl] at q1
 have e9 : Ext h h := Ext.refl _
 refine Runs.intro aFunc42 rfl rfl rfl rfl fun rest => ?_;apply gS;refine gR rfl ?_;refine GoR.box rfl rfl rfl rfl rfl rfl fun h0 x0 f0 => ?_;replace e9 := e9.trans x0;refine gP ?_;apply gE;apply gS;refine gR rfl ?_;refine gO rfl rfl (fa79_0 rfl) rfl ?_;refine gO rfl rfl (ld47 rfl f0 rfl) rfl ?_;refine gP ?_;refine gO rfl rfl (aOp_indexAddr (i := a) Try.underlying47 sz3 rfl q1 rfl (Nat.ble_eq_true_of_le ha)) rfl ?_;refine gO rfl rfl (aOp_loadE1 (k := 0) ag3 rfl (q2.ext e9) rfl) rfl ?_;refine gP ?_;apply gE;exact gW Try.func42 rfl rfl ⟨rfl, e9⟩
theorem only_app (s : Nat) : ∀ (A B : List (Int × Int)) (k : Nat), onlyV s k (A ++ B) = onlyV s k A ++ onlyV s (k + A.length) B
 | [], B, k => rfl
 | x :: A, B, k => by
  have ih := only_app s A B (k + 1)
  rw [show k + 1 + A.length = k + (x :: A).length by rw [List.length_cons]; omega] at ih
  show (if s.testBit k = true then x :: onlyV s (k + 1) (A ++ B) else onlyV s (k + 1) (A ++ B)) = (if s.testBit k = true then x :: onlyV s (k + 1) A else onlyV s (k + 1) A) ++ _
  rw [ih]
  by_cases q : s.testBit k = true
  ·rw [if_pos q, if_pos q, List.cons_append]
  ·rw [if_neg q, if_neg q]
theorem only_take {s : Nat} {L : List (Int × Int)} {i : Nat} {x : Int × Int} (hx : L[i]? = some x) : onlyV s 0 (L.take (i + 1)) = onlyV s 0 (L.take i) ++ (if s.testBit i = true then [x] else []) := by
 have hl := (List.getElem?_eq_some_iff.1 hx).1
 rw [List.take_add_one, hx, Option.toList_some, only_app, Nat.zero_add, List.length_take, Nat.min_eq_left (by omega)]
 congr 1
theorem only_not {s : Nat} {L : List (Int × Int)} {i : Nat} {x : Int × Int} {p : Int × Int → Bool} (hx : L[i]? = some x) (hs : s.testBit i = true) (hp : p x = false) : (onlyV s 0 L).all p = false := by
 have h1 := only_app s (L.take (i + 1)) (L.drop (i + 1)) 0
 rw [List.take_append_drop, only_take hx, hs, if_pos rfl] at h1;rw [h1, List.all_append, List.all_append, List.all_cons, hp]
 simp
theorem lv5_inj {l m : List Int} (h : l.length = m.length) (k : lv5 l = lv5 m) : l = m := by
 unfold lv5 at k
 exact (List.append_inj k h).1
def entK (n : Nat) (b : AVal) (x : List Int × Nat) : List Int × AVal := (lv5 x.1, .agg [.slice x.2 0 n n, b])
structure KnownAt (D : DrainV) (h : AH) (bm : Nat) (b : AVal) (KT : List (List Int × Nat)) : Prop where
 m : Has h bm (.map (esN (KT.map (entK D.bs.length b))) KT.length)
 sl : ∀ x, x ∈ KT → Has h x.2 (.cells .plain (i64s (ints (D.course 0 x.1))) 3)
theorem KnownAt.ext {D : DrainV} {h h' : AH} {bm : Nat} {b : AVal} {KT : List (List Int × Nat)} (k : KnownAt D h bm b KT) (e : Ext h h') : KnownAt D h' bm b KT := ⟨k.m.ext e, fun x hx => (k.sl x hx).ext e⟩
theorem key99 : KeyN Try.prog 99 5 where
 fs := ⟨_, Try.underlying99, .cons (n := 5) ⟨by decide, .inr ⟨sz97, _, _, Try.underlying97, Try.underlying3, sz3⟩⟩ rfl (.nil _)⟩
 std := by kernel_rfl
theorem course0_ok {D : DrainV} (O : D.Ok) {b d r s : AVal} {l : List Int} (hl : l.length = D.bs.length) {h : AH} (A : DrainAt h D b d r s) :
  Runs Try.prog 91 [.agg (dC b d r s), dugI d, .agg (i64s (lv5 l))] h (fun en h' => ∃ bt, en = .ret (.agg [.slice bt 0 D.bs.length D.bs.length, b]) ∧ Ext h h' ∧ h.next ≤ bt ∧ Has h' bt (.cells .plain (i64s (ints (D.course 0 l))) 3)) :=
 (course_ok O hl A (dug_join A.ds (by have := O.nd; omega))).mono fun en h' ⟨t, q, e, C⟩ => by
  obtain ⟨bt, k1, k2, k3⟩ := C.blk
  rw [List.length_map, List.length_range] at k1;subst k1;exact ⟨bt, q, e, k2, k3⟩
theorem levs_new {D : DrainV} {st j : Nat} {l : List Int} (hl : (levsV D.bs)[j]? = some l) {x : List Int} (hx : x ∈ ((levsV D.bs).take j).filter (D.okSeen st)) : x.length = D.bs.length ∧ l ≠ x := by
 have h1 := (List.mem_filter.1 hx).1
 refine ⟨levs_len (List.mem_of_mem_take h1), fun q => ?_⟩;subst q
 obtain ⟨i, hi, h2⟩ := List.mem_take_iff_getElem.1 h1
 have hj := List.getElem?_eq_some_iff.1 hl
 exact List.pairwise_iff_getElem.1 (levs_nodup D.bs) i j (by omega) hj.1 (by omega) (h2.trans hj.2.symm)
theorem learn_ok {D : DrainV} (O : D.Ok) {b d r s : AVal} {st : Nat} {h : AH} (A : DrainAt h D b d r s) :
  Runs Try.prog 70 [.agg (dC b d r s), .int .i64 st] h (fun en h' => ∃ bm KT, en = .ret (.map bm) ∧ KT.map (fun x => x.1) = D.learn st ∧ Ext h h' ∧ h.next ≤ bm ∧ KnownAt D h' bm b KT) := by
 have hnb := O.nb
 have hns := O.ns
 have hl4 := A.ss.len
 rw [List.length_map] at hl4
 have hlv := fun h A => levels_ok (D := D) (b := b) (d := d) (r := r) (s := s) (h := h) A
 have hdg := fun h A => dugOf_ok (D := D) (b := b) (d := d) (r := r) (s := s) (h := h) A
 have hco := fun {l : List Int} (hl : l.length = D.bs.length) h A => course0_ok O (b := b) (d := d) (r := r) (s := s) hl (h := h) A
 have hsm := A.same
 have hsm3 := A.bs.same
 have hsmd := A.ds.same
 have hbs := A.bs.scal
 unfold dC dugI at *
 have e0 : Ext h h := Ext.refl _
 refine Runs.intro aFunc70 rfl rfl rfl rfl fun rest => ?_;apply gS;refine gR rfl ?_;refine GoR.box rfl rfl rfl rfl rfl rfl fun h0 x0 f0 => ?_;have := e0.1;replace e0 := e0.trans x0;have := f0.1;refine GoR.box rfl rfl rfl rfl rfl rfl fun h1 x1 f1 => ?_;have := e0.1;have := f0.1;replace f0 := f0.ext x1;replace e0 := e0.trans x1;have := f1.1;refine gP ?_;apply gE;refine Go.scope noJ_ok ?_;apply gS;refine gR rfl ?_;refine GoR.makeMap rfl rfl rfl rfl rfl fun h2 x2 f2 => ?_;have := e0.1;have := f1.1;have := f0.1;replace f1 := f1.ext x2;replace f0 := f0.ext x2;replace e0 := e0.trans x2;have := f2.1;refine GoR.alloc rfl rfl rfl zt74 rfl rfl fun h3 x3 f3 => ?_;have := e0.1;have := f2.1;have := f1.1;have := f0.1;replace f2 := f2.ext x3;replace f1 := f1.ext x3;replace f0 := f0.ext x3;replace e0 := e0.trans x3;have := f3.1;refine GoR.store rfl rfl rfl rfl rfl rfl f3 rfl sz74 rfl rfl rfl fun h4 u4 => ?_;replace f3 := u4.has f3;replace f2 := f2.upd u4 (by omega);replace f1 := f1.upd u4 (by omega);replace f0 := f0.upd u4 (by omega);replace e0 := e0.upd u4 (by omega);apply gE;apply gS;refine Go.label noJ_ok ?_;iterate 2 apply gS
 refine gR rfl ?_;refine gO rfl rfl (ld71 rfl f0 rfl) rfl ?_;refine GoR.call rfl rfl (aCF aFunc90 rfl) (hlv _ (A.ext e0)) ?_ (by rintro _ _ ⟨bb, q, _, hbb, _⟩; cases q);rintro v5 h5 ⟨bb, q, x5, hbb, f5⟩;cases q;refine ⟨_, rfl, ?_⟩;have := e0.1;replace f3 := f3.ext x5;replace f2 := f2.ext x5;replace f1 := f1.ext x5;replace f0 := f0.ext x5;replace e0 := e0.trans x5;apply gE;refine Go.block noJ_ok ?_
 have hq0 := f0.1
 have hq1 := f1.1
 have hq2 := f2.1
 have hq3 := f3.1
 have eF : ∀ {hh}, ExtF (fun b => b = h1.next) h5 hh → Ext h hh := fun x => x.low e0 fun b q => by omega
 refine Go.rangeN (items := levI D) (A := fun h' => Has h' bb (.cells .plain [b, d, r, s] 71) ∧ Ext h h') (fun x => x = h1.next)
  (fun j hh G => ∃ KT, KT.map (fun x => x.1) = ((levsV D.bs).take j).filter (D.okSeen st) ∧ KnownAt D hh h1.next b KT ∧ (∀ x, G x ↔ (x = h1.next ∨ ∃ y, y ∈ KT ∧ x = y.2)) ∧ ∀ y, y ∈ KT → h5.next ≤ y.2)
  (fun _ _ _ => False) rfl aFunc101 Try.func70 (levels_it O A bb) (fun h' x => ⟨f5.extF x (by have := u4.1; omega), eF x⟩) ⟨[], rfl, ⟨f2, fun x hx => by cases hx⟩, fun x => ⟨.inl, fun q => q.elim id fun ⟨y, hy, _⟩ => by cases hy⟩, fun y hy => by cases hy⟩ ?_ ?_ ?_ ?_ ?_ ?_ ?_
 ·rintro k hh G x ⟨KT, _, KA, hG, _⟩ q
  rcases (hG x).1 q with rfl | ⟨y, hy, rfl⟩
  ·exact KA.m.1
  ·exact (KA.sl y hy).1
 ·rintro c hh G b q;exact q.elim
 ·rintro k h4' h5' G ⟨KT, hK, KA, hG, hKT⟩ hn hk;exact ⟨KT, hK, ⟨KA.m.keep hn (hk _ KA.m.1 (.inr ((hG _).2 (.inl rfl)))), fun x hx => (KA.sl x hx).keep hn (hk _ (KA.sl x hx).1 (.inr ((hG _).2 (.inr ⟨x, hx, rfl⟩))))⟩, hG, hKT⟩
 ·rintro c h4' h5' G q;exact q.elim
 ·rintro j item hj
  obtain ⟨l, hl, rfl⟩ : ∃ l, (levsV D.bs)[j]? = some l ∧ [AVal.agg (i64s (lv5 l))] = item := by
   unfold levI at hj
   rw [List.getElem?_map] at hj
   cases q : (levsV D.bs)[j]? with
   | none => rw [q] at hj; cases hj
   | some x => rw [q] at hj; exact ⟨x, rfl, Option.some.inj hj⟩
  refine ⟨_, rfl, ?_⟩;rintro hh G lb r0 fr rest' Q' ⟨KT, hK, KA, hG, hKT⟩ x1 hsub hnl hlb fl hready contT contF
  have hmem := List.mem_of_getElem? hl
  have hll := levs_len hmem
  have hl5 := lv5_len (l := l) (by omega)
  have htk : ((levsV D.bs).take (j + 1)).filter (D.okSeen st) = ((levsV D.bs).take j).filter (D.okSeen st) ++ (if D.okSeen st l = true then [l] else []) := by
   rw [List.take_add_one, hl, Option.toList_some, List.filter_append, List.filter_cons, List.filter_nil]
  have hx1 := x1.1
  have hfl := fl.1
  have f2' := KA.m
  have hbl : h1.next ≠ lb := fun q => hnl ((hG _).2 (.inl q.symm))
  have hkl : ∀ y, y ∈ KT → y.2 ≠ lb := fun y hy q => hnl ((hG _).2 (.inr ⟨y, hy, q.symm⟩))
  replace f0 := f0.extF x1 (by omega);replace f1 := f1.extF x1 (by omega);replace f3 := f3.extF x1 (by omega)
  have e8 := eF x1
  have y8 : ExtF (fun b => b = lb) hh hh := ExtF.of (Ext.refl _)
  have y9 : ExtF (fun b => G b ∨ b = lb) hh hh := ExtF.of (Ext.refl _)
  clear e0 f2 f5 contF
  obtain ⟨f2, hf2⟩ : ∃ f2, f2 = f2' := ⟨_, rfl⟩
  clear hf2
  have hb5 : Nat.beq (AVal.agg (i64s (lv5 l))).cells.length 5 = true := beq_len (show (i64s (lv5 l)).length = 5 by rw [i64s_len, hl5])
  have hs5 : ∀ z : List AVal, z.length = 5 → splice z 0 (AVal.agg (i64s (lv5 l))).cells = some (i64s (lv5 l)) := fun z hz => splice_whole (show z.length = (i64s (lv5 l)).length by rw [i64s_len, hl5, hz])
  have hsl : slice? (i64s (lv5 l)) 0 5 = some (i64s (lv5 l)) := slice_all (by rw [i64s_len, hl5])
  have hsm6 := same_ints (lv5 l)
  have hsm7 : sameA (.iface 104 (.agg [d])) (.iface 104 (.agg [d])) = true := (dug_join A.ds (by have := O.nd; omega)).same
  have hsc : ∀ bt, scalars [.slice bt 0 D.bs.length D.bs.length, b] = true := fun bt => scal2 rfl hbs.1
  clear f2';refine gR rfl ?_;refine GoR.alloc rfl rfl rfl zt99 rfl rfl fun h6 x6 f6 => ?_;have := e8.1;have := fl.1;have := f0.1;have := f1.1;have := f3.1;have := f2.1;replace fl := fl.ext x6;replace f0 := f0.ext x6;replace f1 := f1.ext x6;replace f3 := f3.ext x6;replace f2 := f2.ext x6;replace e8 := e8.trans x6;replace y8 := y8.ext x6;replace y9 := y9.ext x6;have := f6.1;refine GoR.store rfl rfl rfl rfl rfl rfl f6 rfl sz99 hb5 (scal_ints _) (hs5 _ rfl) fun h7 u7 => ?_;replace f6 := u7.has f6;replace fl := fl.upd u7 (by omega);replace f0 := f0.upd u7 (by omega);replace f1 := f1.upd u7 (by omega);replace f3 := f3.upd u7 (by omega);replace f2 := f2.upd u7 (by omega);replace e8 := e8.upd u7 (by omega);replace y8 := y8.upd u7 (.inr (by omega));replace y9 := y9.upd u7 (.inr (by omega));apply gE;refine Go.beginRound fl hready fun h41 u41 => ?_
  have hu41 := u41.1
  replace f0 := f0.upd u41 (by omega);replace f1 := f1.upd u41 (by omega);replace f2 := f2.upd u41 hbl;replace f3 := f3.upd u41 (by omega);replace f6 := f6.upd u41 (by omega);replace fl := u41.has fl;replace y8 := y8.upd u41 (.inl rfl);replace y9 := y9.upd u41 (.inl (.inr rfl));replace e8 := e8.upd u41 (by omega);refine Go.block noJ_ok ?_;refine Go.seq noJ_ok (Go.join (fun bb : Nat × Nat => [(2, .ptr h.next 0), (3, .ptr h0.next 0), (5, .ptr h2.next 0), (6, .ptr hh.next 0), (7, .ptr bb.2 0)]) (fun bb h' => Ext h h' ∧ ExtF (fun b => b = lb) hh h' ∧ ExtF (fun b => G b ∨ b = lb) hh h' ∧ hh.next < bb.1 ∧ hh.next < bb.2 ∧ bb.1 ≠ bb.2 ∧ Has h' h.next (.cells .plain [b, d, r, s] 71) ∧ Has h' h0.next (.cells .plain [.int .i64 st] 3) ∧ Has h' h2.next (.cells .plain [.map h1.next] 74) ∧ Has h' hh.next (.cells .plain (i64s (lv5 l)) 99) ∧ Has h' h1.next (.map (esN (KT.map (entK D.bs.length b))) KT.length) ∧ Has h' lb (.loop { r0 with state := .busy }) ∧ Has h' bb.2 (.cells .plain [.slice bb.1 0 D.bs.length D.bs.length, b] 79) ∧ Has h' bb.1 (.cells .plain (i64s (ints (D.course 0 l))) 3)) ?_ ?_)
  ·intro k' done
   refine alts70a ?_ ?_ ?_
   ·intro pl hpl
    rw [pl70a_2_5_6] at hpl;cases hpl;iterate 2 refine gQ rfl rfl (ld71 rfl f0 rfl) rfl ?_
    refine gQ rfl rfl (ld99 rfl f6 hsl) rfl ?_;refine GoE.call rfl rfl (aCF aFunc80 rfl) (hdg _ (A.ext e8)) (dK 2 4 (dD 2 1 (dK 2 0 rfl))) ?_ np;rintro v42 h42 ⟨q, x42⟩;cases q;replace f0 := f0.ext x42;replace f1 := f1.ext x42;replace f2 := f2.ext x42;replace f3 := f3.ext x42;replace f6 := f6.ext x42;replace fl := fl.ext x42;replace e8 := e8.trans x42;replace y8 := y8.ext x42;replace y9 := y9.ext x42;refine ⟨(rck (h2 := h42) rfl (ld99 rfl f6 hsl) (rck (h2 := h42) rfl (ld71 rfl f0 rfl) recheck_nil)), _, rfl, ?_⟩;refine gQ rfl rfl rfl rfl ?_;refine GoE.call rfl rfl (aCF aFunc91 rfl) (hco hll _ (A.ext e8)) (dD 31 3 (dD 31 4 (dD 31 0 rfl))) ?_ (by rintro _ _ ⟨bt, q, _, hbt, _⟩; cases q);rintro v43 h43 ⟨bt, q, x43, hbt, f43⟩;cases q;have := e8.1;have := f0.1;have := f1.1;have := f2.1;have := f3.1;have := f6.1;have := fl.1;replace f0 := f0.ext x43;replace f1 := f1.ext x43;replace f2 := f2.ext x43;replace f3 := f3.ext x43;replace f6 := f6.ext x43;replace fl := fl.ext x43;replace e8 := e8.trans x43;replace y8 := y8.ext x43;replace y9 := y9.ext x43;refine ⟨recheck_nil, _, rfl, ?_⟩;refine GoE.alloc rfl rfl zt79 rfl rfl rfl fun h44 x44 f44 => ?_;have := e8.1;have := f43.1;have := f0.1;have := f1.1;have := f2.1;have := f3.1;have := f6.1;have := fl.1;replace f43 := f43.ext x44;replace f0 := f0.ext x44;replace f1 := f1.ext x44;replace f2 := f2.ext x44;replace f3 := f3.ext x44;replace f6 := f6.ext x44;replace fl := fl.ext x44;replace e8 := e8.trans x44;replace y8 := y8.ext x44;replace y9 := y9.ext x44;have := f44.1;refine ⟨recheck_nil, ?_⟩;refine GoE.store rfl rfl rfl rfl rfl rfl rfl f44 rfl sz79 rfl (hsc _) rfl fun h45 u45 => ?_;replace f44 := u45.has f44;replace f43 := f43.upd u45 (by omega);replace f0 := f0.upd u45 (by omega);replace f1 := f1.upd u45 (by omega);replace f2 := f2.upd u45 (by omega);replace f3 := f3.upd u45 (by omega);replace f6 := f6.upd u45 (by omega);replace fl := fl.upd u45 (by omega);replace e8 := e8.upd u45 (by omega);replace y8 := y8.upd u45 (.inr (by omega));replace y9 := y9.upd u45 (.inr (by omega));refine ⟨recheck_nil, ?_⟩;refine GoE.end rfl ?_;exact done (bt, h43.next) _ _ ⟨rfl, rfl, rfl, rfl, rfl, trivial⟩ ⟨e8, y8, y9, by dsimp only; omega, by dsimp only; omega, by dsimp only; omega, f0, f1, f3, f6, f2, fl, f44, f43⟩
   ·intro pl hpl
    rw [pl70a_2_6_5] at hpl;cases hpl;iterate 2 refine gQ rfl rfl (ld71 rfl f0 rfl) rfl ?_
    refine gQ rfl rfl (ld99 rfl f6 hsl) rfl ?_;refine GoE.call rfl rfl (aCF aFunc80 rfl) (hdg _ (A.ext e8)) (dK 2 4 (dD 2 1 (dK 2 0 rfl))) ?_ np;rintro v42 h42 ⟨q, x42⟩;cases q;replace f0 := f0.ext x42;replace f1 := f1.ext x42;replace f2 := f2.ext x42;replace f3 := f3.ext x42;replace f6 := f6.ext x42;replace fl := fl.ext x42;replace e8 := e8.trans x42;replace y8 := y8.ext x42;replace y9 := y9.ext x42;refine ⟨(rck (h2 := h42) rfl (ld99 rfl f6 hsl) (rck (h2 := h42) rfl (ld71 rfl f0 rfl) recheck_nil)), _, rfl, ?_⟩;refine gQ rfl rfl rfl rfl ?_;refine GoE.alloc rfl rfl zt79 (dK 6 3 (dK 6 4 (dK 6 0 rfl))) rfl rfl fun h43 x43 f43 => ?_;have := e8.1;have := f0.1;have := f1.1;have := f2.1;have := f3.1;have := f6.1;have := fl.1;replace f0 := f0.ext x43;replace f1 := f1.ext x43;replace f2 := f2.ext x43;replace f3 := f3.ext x43;replace f6 := f6.ext x43;replace fl := fl.ext x43;replace e8 := e8.trans x43;replace y8 := y8.ext x43;replace y9 := y9.ext x43;have := f43.1;refine ⟨(rck (h2 := h43) rfl (rfl) (rck (h2 := h43) rfl (ld99 rfl f6 hsl) (rck (h2 := h43) rfl (ld71 rfl f0 rfl) recheck_nil))), ?_⟩;refine GoE.call rfl rfl (aCF aFunc91 rfl) (hco hll _ (A.ext e8)) (dD 95 3 (dD 95 4 (dD 95 0 rfl))) ?_ (by rintro _ _ ⟨bt, q, _, hbt, _⟩; cases q);rintro v44 h44 ⟨bt, q, x44, hbt, f44⟩;cases q;have := e8.1;have := f43.1;have := f0.1;have := f1.1;have := f2.1;have := f3.1;have := f6.1;have := fl.1;replace f43 := f43.ext x44;replace f0 := f0.ext x44;replace f1 := f1.ext x44;replace f2 := f2.ext x44;replace f3 := f3.ext x44;replace f6 := f6.ext x44;replace fl := fl.ext x44;replace e8 := e8.trans x44;replace y8 := y8.ext x44;replace y9 := y9.ext x44;refine ⟨recheck_nil, _, rfl, ?_⟩;refine GoE.store rfl rfl rfl rfl rfl rfl rfl f43 rfl sz79 rfl (hsc _) rfl fun h45 u45 => ?_;replace f44 := f44.upd u45 (by omega);replace f43 := u45.has f43;replace f0 := f0.upd u45 (by omega);replace f1 := f1.upd u45 (by omega);replace f2 := f2.upd u45 (by omega);replace f3 := f3.upd u45 (by omega);replace f6 := f6.upd u45 (by omega);replace fl := fl.upd u45 (by omega);replace e8 := e8.upd u45 (by omega);replace y8 := y8.upd u45 (.inr (by omega));replace y9 := y9.upd u45 (.inr (by omega));refine ⟨recheck_nil, ?_⟩;refine GoE.end rfl ?_;exact done (bt, h42.next) _ _ ⟨rfl, rfl, rfl, rfl, rfl, trivial⟩ ⟨e8, y8, y9, by dsimp only; omega, by dsimp only; omega, by dsimp only; omega, f0, f1, f3, f6, f2, fl, f43, f44⟩
   ·intro pl hpl
    rw [pl70a_6_2_5] at hpl;cases hpl;iterate 2 refine gQ rfl rfl (ld71 rfl f0 rfl) rfl ?_
    refine gQ rfl rfl (ld99 rfl f6 hsl) rfl ?_;refine GoE.alloc rfl rfl zt79 (dK 0 4 (dK 0 1 (dK 0 0 rfl))) rfl rfl fun h42 x42 f42 => ?_;have := e8.1;have := f0.1;have := f1.1;have := f2.1;have := f3.1;have := f6.1;have := fl.1;replace f0 := f0.ext x42;replace f1 := f1.ext x42;replace f2 := f2.ext x42;replace f3 := f3.ext x42;replace f6 := f6.ext x42;replace fl := fl.ext x42;replace e8 := e8.trans x42;replace y8 := y8.ext x42;replace y9 := y9.ext x42;have := f42.1;refine ⟨(rck (h2 := h42) rfl (ld99 rfl f6 hsl) (rck (h2 := h42) rfl (ld71 rfl f0 rfl) (rck (h2 := h42) rfl (ld71 rfl f0 rfl) recheck_nil))), ?_⟩;refine GoE.call rfl rfl (aCF aFunc80 rfl) (hdg _ (A.ext e8)) (dK 66 4 (dD 66 1 (dK 66 0 rfl))) ?_ np;rintro v43 h43 ⟨q, x43⟩;cases q;replace f42 := f42.ext x43;replace f0 := f0.ext x43;replace f1 := f1.ext x43;replace f2 := f2.ext x43;replace f3 := f3.ext x43;replace f6 := f6.ext x43;replace fl := fl.ext x43;replace e8 := e8.trans x43;replace y8 := y8.ext x43;replace y9 := y9.ext x43;refine ⟨(rck (h2 := h43) rfl (ld99 rfl f6 hsl) (rck (h2 := h43) rfl (ld71 rfl f0 rfl) recheck_nil)), _, rfl, ?_⟩;refine gQ rfl rfl rfl rfl ?_;refine GoE.call rfl rfl (aCF aFunc91 rfl) (hco hll _ (A.ext e8)) (dD 95 3 (dD 95 4 (dD 95 0 rfl))) ?_ (by rintro _ _ ⟨bt, q, _, hbt, _⟩; cases q);rintro v44 h44 ⟨bt, q, x44, hbt, f44⟩;cases q;have := e8.1;have := f42.1;have := f0.1;have := f1.1;have := f2.1;have := f3.1;have := f6.1;have := fl.1;replace f42 := f42.ext x44;replace f0 := f0.ext x44;replace f1 := f1.ext x44;replace f2 := f2.ext x44;replace f3 := f3.ext x44;replace f6 := f6.ext x44;replace fl := fl.ext x44;replace e8 := e8.trans x44;replace y8 := y8.ext x44;replace y9 := y9.ext x44;refine ⟨recheck_nil, _, rfl, ?_⟩;refine GoE.store rfl rfl rfl rfl rfl rfl rfl f42 rfl sz79 rfl (hsc _) rfl fun h45 u45 => ?_;replace f44 := f44.upd u45 (by omega);replace f42 := u45.has f42;replace f0 := f0.upd u45 (by omega);replace f1 := f1.upd u45 (by omega);replace f2 := f2.upd u45 (by omega);replace f3 := f3.upd u45 (by omega);replace f6 := f6.upd u45 (by omega);replace fl := fl.upd u45 (by omega);replace e8 := e8.upd u45 (by omega);replace y8 := y8.upd u45 (.inr (by omega));replace y9 := y9.upd u45 (.inr (by omega));refine ⟨recheck_nil, ?_⟩;refine GoE.end rfl ?_;exact done (bt, h41.next) _ _ ⟨rfl, rfl, rfl, rfl, rfl, trivial⟩ ⟨e8, y8, y9, by dsimp only; omega, by dsimp only; omega, by dsimp only; omega, f0, f1, f3, f6, f2, fl, f42, f44⟩
  ·clear e8 y8 y9 f0 f1 f2 f3 f6 fl;rintro ⟨bt, b7⟩ h46 ⟨e8, y8, y9, hbt, hb7, hne, f0, f1, f3, f6, f2, fl, f7, f9⟩
   dsimp only at hbt hb7 hne f7 f9
   iterate 2 apply gS
   refine gR rfl ?_;refine gO rfl rfl (fa71_3 rfl) rfl ?_;refine gO rfl rfl (ld26 rfl f0 rfl) rfl ?_;refine gO rfl rfl (aOp_lenSlice Try.underlying26 rfl hl4) rfl ?_;refine gP ?_;apply gE;refine Go.block noJ_ok ?_
   refine Go.loopKeep (fun i : Nat => [(3, .ptr h0.next 0), (5, .ptr h2.next 0), (6, .ptr hh.next 0), (7, .ptr b7 0), (21, s), (22, .int .i64 D.ss.length), (23, .int .i64 (i : Nat))])
    (fun m i h' => m + i = D.ss.length ∧ (onlyV st 0 (D.ss.take i)).all (fun w => decide ((nx (D.course 0 l) w.1.toNat : Int) = w.2)) = true ∧ Ext h h' ∧ ExtF (fun b => b = lb) hh h' ∧ ExtF (fun b => G b ∨ b = lb) hh h' ∧ Has h' h0.next (.cells .plain [.int .i64 st] 3) ∧ Has h' h2.next (.cells .plain [.map h1.next] 74) ∧ Has h' hh.next (.cells .plain (i64s (lv5 l)) 99) ∧ Has h' h1.next (.map (esN (KT.map (entK D.bs.length b))) KT.length) ∧ Has h' lb (.loop { r0 with state := .busy }) ∧ Has h' b7 (.cells .plain [.slice bt 0 D.bs.length D.bs.length, b] 79) ∧ Has h' bt (.cells .plain (i64s (ints (D.course 0 l))) 3)) (n := D.ss.length) 0 ⟨rfl, rfl, rfl, rfl, rfl, rfl, rfl, trivial⟩ ⟨rfl, rfl, e8, y8, y9, f1, f3, f6, f2, fl, f7, f9⟩ ?_
   clear e8 y8 y9 f0 f1 f2 f3 f6 fl f7 f9;rintro m i h50 ⟨hm, hall, e8, y8, y9, f1, f3, f6, f2, fl, f7, f9⟩ again
   have hcl : (D.course 0 l).length = D.bs.length := course_len D 0 l
   by_cases hi : i < D.ss.length
   ·obtain ⟨⟨xa, xb⟩, hx⟩ : ∃ x, D.ss[i]? = some x := ⟨D.ss[i], by simp [hi]⟩
    have hxo := O.s _ (List.mem_of_getElem? hx)
    unfold PairOk at hxo
    dsimp only at hxo
    obtain ⟨a, rfl⟩ := Int.eq_ofNat_of_zero_le hxo.1.1
    obtain ⟨bq, off, q1, q2⟩ := A.ss.at (i := i) (l := spC ((a : Int), xb)) (by rw [List.getElem?_map, hx]; rfl)
    rw [List.length_map] at q1
    unfold spC at q2
    dsimp only at q2
    have hot := only_take (s := st) hx
    have hhas := fun h => has_is (s := st) (i := i) (by omega) (h := h)
    have hnxt := fun h' (f : Has h' bt (.cells .plain (i64s (ints (D.course 0 l))) 3)) => next_ok (c := D.course 0 l) (t := .slice bt 0 D.bs.length D.bs.length) (b := b) hbs (a := a) (by omega) (by omega) (h := h') (lit_slice (by unfold ints; rw [List.length_map, hcl]) f)
    cases hb : st.testBit i with
    | false =>
     rw [hb] at hhas;rw [hb, if_neg (by decide), List.append_nil] at hot;apply gS;refine gR rfl ?_;refine gO rfl rfl (kLT rfl rfl) rfl ?_;apply gE;apply gS;refine gC (b := true) rfl ?_;refine gD ?_;apply gS;refine Go.block noJ_ok ?_;apply gS;refine gR rfl ?_;refine gP ?_;refine gO rfl rfl (aOp_indexAddr (i := i) Try.underlying26 sz32 rfl q1 rfl (Nat.ble_eq_true_of_le hi)) rfl ?_;refine gO rfl rfl (aOp_loadE ag32 sz32 rfl (q2.ext e8)) rfl ?_;refine GoR.alloc rfl rfl rfl zt32 rfl rfl fun h51 x51 f51 => ?_;have := e8.1;have := f1.1;have := f3.1;have := f6.1;have := f2.1;have := fl.1;have := f7.1;have := f9.1;replace f1 := f1.ext x51;replace f3 := f3.ext x51;replace f6 := f6.ext x51;replace f2 := f2.ext x51;replace fl := fl.ext x51;replace f7 := f7.ext x51;replace f9 := f9.ext x51;replace e8 := e8.trans x51;replace y8 := y8.ext x51;replace y9 := y9.ext x51;have := f51.1;refine gP ?_;refine GoR.store rfl rfl rfl rfl rfl rfl f51 rfl sz32 rfl rfl rfl fun h52 u52 => ?_;replace f51 := u52.has f51;replace f1 := f1.upd u52 (by omega);replace f3 := f3.upd u52 (by omega);replace f6 := f6.upd u52 (by omega);replace f2 := f2.upd u52 (by omega);replace fl := fl.upd u52 (by omega);replace f7 := f7.upd u52 (by omega);replace f9 := f9.upd u52 (by omega);replace e8 := e8.upd u52 (by omega);replace y8 := y8.upd u52 (.inr (by omega));replace y9 := y9.upd u52 (.inr (by omega));apply gE;apply gS;refine Go.drawnE plan70_1 ?_;refine gQ rfl rfl (ld3 rfl f1 rfl) rfl ?_;refine gQ rfl rfl rfl rfl ?_;refine GoE.call rfl rfl (aCF aFunc92 rfl) (hhas _) (dD 3 1 (dD 3 0 rfl)) ?_ np;rintro v53 h53 ⟨q, x53⟩;cases q;replace f51 := f51.ext x53;replace f1 := f1.ext x53;replace f3 := f3.ext x53;replace f6 := f6.ext x53;replace f2 := f2.ext x53;replace fl := fl.ext x53;replace f7 := f7.ext x53;replace f9 := f9.ext x53;replace e8 := e8.trans x53;replace y8 := y8.ext x53;replace y9 := y9.ext x53;refine ⟨recheck_nil, _, rfl, ?_⟩;refine gQ rfl rfl rfl rfl ?_;iterate 7 refine GoE.skip rfl rfl rfl ?_
     refine gQ rfl rfl rfl rfl ?_;refine GoE.end rfl ?_;refine gC (b := false) rfl ?_;refine gD ?_;refine Go.inBlock noJ_ok ?_;refine gR rfl ?_;refine gO rfl rfl (aA rfl rfl) rfl ?_;refine gP ?_;apply gE;exact again (m - 1) (i + 1) _ _ (by omega) ⟨rfl, rfl, rfl, rfl, rfl, rfl, rfl, trivial⟩ ⟨by omega, by rw [hot]; exact hall, e8, y8, y9, f1, f3, f6, f2, fl, f7, f9⟩
    | true =>
     rw [hb] at hhas;rw [hb, if_pos rfl] at hot
     by_cases c1 : ((nx (D.course 0 l) a : Nat) : Int) = xb
     ·apply gS;refine gR rfl ?_;refine gO rfl rfl (kLT rfl rfl) rfl ?_;apply gE;apply gS;refine gC (b := true) rfl ?_;refine gD ?_;apply gS;refine Go.block noJ_ok ?_;apply gS;refine gR rfl ?_;refine gP ?_;refine gO rfl rfl (aOp_indexAddr (i := i) Try.underlying26 sz32 rfl q1 rfl (Nat.ble_eq_true_of_le hi)) rfl ?_;refine gO rfl rfl (aOp_loadE ag32 sz32 rfl (q2.ext e8)) rfl ?_;refine GoR.alloc rfl rfl rfl zt32 rfl rfl fun h51 x51 f51 => ?_;have := e8.1;have := f1.1;have := f3.1;have := f6.1;have := f2.1;have := fl.1;have := f7.1;have := f9.1;replace f1 := f1.ext x51;replace f3 := f3.ext x51;replace f6 := f6.ext x51;replace f2 := f2.ext x51;replace fl := fl.ext x51;replace f7 := f7.ext x51;replace f9 := f9.ext x51;replace e8 := e8.trans x51;replace y8 := y8.ext x51;replace y9 := y9.ext x51;have := f51.1;refine gP ?_;refine GoR.store rfl rfl rfl rfl rfl rfl f51 rfl sz32 rfl rfl rfl fun h52 u52 => ?_;replace f51 := u52.has f51;replace f1 := f1.upd u52 (by omega);replace f3 := f3.upd u52 (by omega);replace f6 := f6.upd u52 (by omega);replace f2 := f2.upd u52 (by omega);replace fl := fl.upd u52 (by omega);replace f7 := f7.upd u52 (by omega);replace f9 := f9.upd u52 (by omega);replace e8 := e8.upd u52 (by omega);replace y8 := y8.upd u52 (.inr (by omega));replace y9 := y9.upd u52 (.inr (by omega));apply gE;apply gS;refine Go.drawnE plan70_1 ?_;refine gQ rfl rfl (ld3 rfl f1 rfl) rfl ?_;refine gQ rfl rfl rfl rfl ?_;refine GoE.call rfl rfl (aCF aFunc92 rfl) (hhas _) (dD 3 1 (dD 3 0 rfl)) ?_ np;rintro v53 h53 ⟨q, x53⟩;cases q;replace f51 := f51.ext x53;replace f1 := f1.ext x53;replace f3 := f3.ext x53;replace f6 := f6.ext x53;replace f2 := f2.ext x53;replace fl := fl.ext x53;replace f7 := f7.ext x53;replace f9 := f9.ext x53;replace e8 := e8.trans x53;replace y8 := y8.ext x53;replace y9 := y9.ext x53;refine ⟨recheck_nil, _, rfl, ?_⟩;refine gQ rfl rfl rfl rfl ?_;refine gQ rfl rfl (ld79 rfl f7 rfl) rfl ?_;refine gQ rfl rfl (fa32_0 rfl) rfl ?_;refine gQ rfl rfl (ld3 rfl f51 rfl) rfl ?_;refine gQ rfl rfl (fa32_1 rfl) rfl ?_;refine gQ rfl rfl (ld3 rfl f51 rfl) rfl ?_;refine GoE.call rfl rfl (aCF aFunc42 rfl) (hnxt _ f9) (dK 127 9 (dK 127 8 (dD 127 6 (dD 127 5 (dD 127 4 (dD 127 3 rfl)))))) ?_ np;rintro v54 h54 ⟨q, x54⟩;cases q;replace f51 := f51.ext x54;replace f1 := f1.ext x54;replace f3 := f3.ext x54;replace f6 := f6.ext x54;replace f2 := f2.ext x54;replace fl := fl.ext x54;replace f7 := f7.ext x54;replace f9 := f9.ext x54;replace e8 := e8.trans x54;replace y8 := y8.ext x54;replace y9 := y9.ext x54;refine ⟨(rck (h2 := h54) rfl (ld3 rfl f51 rfl) (rck (h2 := h54) rfl (fa32_1 rfl) recheck_nil)), _, rfl, ?_⟩;refine gQ rfl rfl (kXF rfl rfl) rfl ?_;refine gQ rfl rfl rfl rfl ?_;refine GoE.end rfl ?_;refine gC (b := false) rfl ?_;refine gD ?_;refine Go.inBlock noJ_ok ?_;refine gR rfl ?_;refine gO rfl rfl (aA rfl rfl) rfl ?_;refine gP ?_;apply gE;exact again (m - 1) (i + 1) _ _ (by omega) ⟨rfl, rfl, rfl, rfl, rfl, rfl, rfl, trivial⟩ ⟨by omega, by rw [hot, List.all_append, hall, List.all_cons, List.all_nil]; simp [c1], e8, y8, y9, f1, f3, f6, f2, fl, f7, f9⟩
     ·apply gS;refine gR rfl ?_;refine gO rfl rfl (kLT rfl rfl) rfl ?_;apply gE;apply gS;refine gC (b := true) rfl ?_;refine gD ?_;apply gS;refine Go.block noJ_ok ?_;apply gS;refine gR rfl ?_;refine gP ?_;refine gO rfl rfl (aOp_indexAddr (i := i) Try.underlying26 sz32 rfl q1 rfl (Nat.ble_eq_true_of_le hi)) rfl ?_;refine gO rfl rfl (aOp_loadE ag32 sz32 rfl (q2.ext e8)) rfl ?_;refine GoR.alloc rfl rfl rfl zt32 rfl rfl fun h51 x51 f51 => ?_;have := e8.1;have := f1.1;have := f3.1;have := f6.1;have := f2.1;have := fl.1;have := f7.1;have := f9.1;replace f1 := f1.ext x51;replace f2 := f2.ext x51;replace fl := fl.ext x51;replace f7 := f7.ext x51;replace f9 := f9.ext x51;replace y8 := y8.ext x51;replace y9 := y9.ext x51;have := f51.1;refine gP ?_;refine GoR.store rfl rfl rfl rfl rfl rfl f51 rfl sz32 rfl rfl rfl fun h52 u52 => ?_;replace f51 := u52.has f51;replace f1 := f1.upd u52 (by omega);replace f2 := f2.upd u52 (by omega);replace fl := fl.upd u52 (by omega);replace f7 := f7.upd u52 (by omega);replace f9 := f9.upd u52 (by omega);replace y8 := y8.upd u52 (.inr (by omega));replace y9 := y9.upd u52 (.inr (by omega));apply gE;apply gS;refine Go.drawnE plan70_1 ?_;refine gQ rfl rfl (ld3 rfl f1 rfl) rfl ?_;refine gQ rfl rfl rfl rfl ?_;refine GoE.call rfl rfl (aCF aFunc92 rfl) (hhas _) (dD 3 1 (dD 3 0 rfl)) ?_ np;rintro v53 h53 ⟨q, x53⟩;cases q;replace f51 := f51.ext x53;replace f2 := f2.ext x53;replace fl := fl.ext x53;replace f7 := f7.ext x53;replace f9 := f9.ext x53;replace y8 := y8.ext x53;replace y9 := y9.ext x53;refine ⟨recheck_nil, _, rfl, ?_⟩;refine gQ rfl rfl rfl rfl ?_;refine gQ rfl rfl (ld79 rfl f7 rfl) rfl ?_;refine gQ rfl rfl (fa32_0 rfl) rfl ?_;refine gQ rfl rfl (ld3 rfl f51 rfl) rfl ?_;refine gQ rfl rfl (fa32_1 rfl) rfl ?_;refine gQ rfl rfl (ld3 rfl f51 rfl) rfl ?_;refine GoE.call rfl rfl (aCF aFunc42 rfl) (hnxt _ f9) (dK 127 9 (dK 127 8 (dD 127 6 (dD 127 5 (dD 127 4 (dD 127 3 rfl)))))) ?_ np;rintro v54 h54 ⟨q, x54⟩;cases q;replace f51 := f51.ext x54;replace f2 := f2.ext x54;replace fl := fl.ext x54;replace y8 := y8.ext x54;replace y9 := y9.ext x54;refine ⟨(rck (h2 := h54) rfl (ld3 rfl f51 rfl) (rck (h2 := h54) rfl (fa32_1 rfl) recheck_nil)), _, rfl, ?_⟩;refine gQ rfl rfl (kXT rfl rfl) rfl ?_;refine gQ rfl rfl rfl rfl ?_;refine GoE.end rfl ?_;refine gC (b := true) rfl ?_;refine gD ?_
      have hok : D.okSeen st l = false := only_not hx hb (p := fun w => decide ((nx (D.course 0 l) w.1.toNat : Int) = w.2)) (by simp [c1])
      rw [hok, if_neg (by decide), List.append_nil] at htk;exact contT _ _ G ⟨KT, by rw [htk]; exact hK, ⟨f2, fun x hx => (KA.sl x hx).extF y8 (hkl x hx)⟩, hG, hKT⟩ (fun b q => .inl q) y9 fl
   ·rw [List.take_of_length_le (by omega)] at hall
    have hok : D.okSeen st l = true := hall
    rw [if_pos hok] at htk;clear again;apply gS;refine gR rfl ?_;refine gO rfl rfl (kLF rfl rfl) rfl ?_;apply gE;apply gS;refine gC (b := false) rfl ?_;refine gD ?_;refine gR rfl ?_;refine gO rfl rfl (ld74 rfl f3 rfl) rfl ?_;refine gO rfl rfl (ld99 rfl f6 hsl) rfl ?_;refine gO rfl rfl (ld79 rfl f7 rfl) rfl ?_;refine GoR.mapNewN rfl rfl key99 Try.underlying74 rfl rfl (key := lv5 l) rfl rfl hl5 (by rw [List.length_map]; exact f2) ?_ fun h60 u60 => ?_
    ·intro x hx
     obtain ⟨y, hy, rfl⟩ := List.mem_map.1 hx
     have hyf : y.1 ∈ ((levsV D.bs).take j).filter (D.okSeen st) := hK ▸ List.mem_map.2 ⟨y, hy, rfl⟩
     obtain ⟨n1, n2⟩ := levs_new hl hyf
     exact ⟨lv5_len (by omega), fun q => n2 (lv5_inj (by omega) q)⟩
    have hK2 : KT.map (entK D.bs.length b) ++ [(lv5 l, AVal.agg [.slice bt 0 D.bs.length D.bs.length, b])] = (KT ++ [(l, bt)]).map (entK D.bs.length b) := by rw [List.map_append]; rfl
    replace u60 : Upd h50 h1.next (.map (esN (KT.map (entK D.bs.length b) ++ [(lv5 l, AVal.agg [.slice bt 0 D.bs.length D.bs.length, b])])) (KT.map (entK D.bs.length b) ++ [(lv5 l, AVal.agg [.slice bt 0 D.bs.length D.bs.length, b])]).length) h60 := u60;rw [hK2, List.length_map] at u60
    have g2 := u60.has f2
    have g9 := f9.upd u60 (by omega)
    have gK : ∀ x, x ∈ KT → Has h60 x.2 (.cells .plain (i64s (ints (D.course 0 x.1))) 3) := fun x hx => ((KA.sl x hx).extF y8 (hkl x hx)).upd u60 (by have := hKT x hx; omega)
    replace y9 := y9.upd u60 (.inl (.inl ((hG _).2 (.inl rfl))));replace fl := fl.upd u60 (by omega);clear f1 f2 f3 f6 f7 f9 e8 y8;apply gE;refine Go.inBlock noJ_ok ?_;refine contT _ _ (fun x => x = h1.next ∨ ∃ y, y ∈ KT ++ [(l, bt)] ∧ x = y.2) ⟨KT ++ [(l, bt)], by rw [htk, List.map_append, hK]; rfl, ⟨g2, fun x hx => ?_⟩, fun x => Iff.rfl, fun y hy => ?_⟩ (fun x q => ?_) y9 fl
    ·rcases List.mem_append.1 hx with hx | hx
     ·exact gK x hx
     ·cases List.mem_singleton.1 hx
      exact g9
    ·rcases List.mem_append.1 hy with hy | hy
     ·exact hKT y hy
     ·cases List.mem_singleton.1 hy
      dsimp only
      omega
    ·rcases q with q | ⟨y, hy, q⟩
     ·exact .inl ((hG _).2 (.inl q))
     ·rcases List.mem_append.1 hy with hy | hy
      ·exact .inl ((hG _).2 (.inr ⟨y, hy, q⟩))
      ·cases List.mem_singleton.1 hy
       exact .inr (by rw [q]; dsimp only; omega)
 ·rintro d' h30 G x30 hGs hnd2 hd hdd ⟨KT, hK, KA, hG, hKT⟩
  have hlen : (levI D).length = (levsV D.bs).length := by unfold levI; simp
  rw [hlen, List.take_length] at hK
  have hx30 := x30.1
  have e30 := eF x30
  replace f3 := f3.extF x30 (by omega)
  have hbm := KA.m.1
  clear e0 f0 f1 f2 f5;refine Go.inBlock noJ_ok ?_;apply gS;refine gR rfl ?_;refine gO rfl rfl (ld74 rfl f3 rfl) rfl ?_;refine gP ?_;apply gE;refine Go.retCs (bs := [d']) (by simp) (fun x q => by cases List.mem_singleton.1 q; exact hdd) fun h' n1 n2 => ⟨aResult_of Try.func70 rfl rfl, h1.next, KT, rfl, hK, ⟨by have := e30.1; omega, fun x hx => by rw [n2 x (fun q => by have := List.mem_singleton.1 q; omega), e30.2 x hx]⟩, by omega, ⟨KA.m.keep (by omega) (n2 _ (fun q => by have := List.mem_singleton.1 q; omega)), fun x hx => (KA.sl x hx).keep (by omega) (n2 _ (fun q => ?_))⟩⟩
  have q := List.mem_singleton.1 q
  exact hnd2 (q ▸ (hG _).2 (.inr ⟨x, hx, rfl⟩))
 ·rintro c d h30 G x30 hGs hnd2 hd hdd q;exact q.elim
end Go.Proofs.Ytkhiagdmbajimaa

namespace Go.Proofs.Ytkhiagdmbajimaa
open Go Go.AbsE
set_option linter.unusedSimpArgs false
set_option maxRecDepth 100000
set_option maxHeartbeats 0
set_option linter.unusedVariables false
theorem slice_sub {α : Type} {l r : List α} {o n k m : Nat} (h : slice? l o n = some r) (hk : k + m ≤ n) : slice? l (o + k) m = some ((r.drop k).take m) := by
 unfold slice? at *
 dsimp only at *
 by_cases q : ((l.drop o).take n).length = n
 ·rw [q, Nat.beq_refl] at h
  have h : (l.drop o).take n = r := Option.some.inj h
  have e : (l.drop (o + k)).take m = (r.drop k).take m := by
   rw [← h, List.drop_take, List.drop_drop, List.take_take, Nat.min_eq_left (by omega)]
  rw [e]
  have : ((r.drop k).take m).length = m := by
   rw [List.length_take, List.length_drop, ← h, q]
   omega
  rw [this, Nat.beq_refl]
  rfl
 ·have : Nat.beq ((l.drop o).take n).length n = false := by
   cases z : Nat.beq ((l.drop o).take n).length n with
   | false => rfl
   | true => exact absurd (Nat.eq_of_beq_eq_true z) q
  rw [this] at h;cases h
theorem cells_sub {h : AH} {b o n k m : Nat} {l : List AVal} (c : CellsAt h b o n l) (hk : k + m ≤ n) : CellsAt h b (o + k) m ((l.drop k).take m) := by
 obtain ⟨c1, c2⟩ := c
 refine ⟨c1, ?_⟩
 unfold AbsE.loadCells at *
 cases q : h.get b with
 | none => rw [q] at c2; cases c2
 | some x =>
  rw [q] at c2
  cases x with
  | cells g cs el => exact slice_sub c2 hk
  | win lo cs =>
   dsimp only at c2 ⊢
   cases z : Nat.ble lo o with
   | false => rw [z] at c2; cases c2
   | true =>
    rw [z] at c2
    have hle := Nat.le_of_ble_eq_true z
    rw [Nat.ble_eq_true_of_le (show lo ≤ o + k by omega)]
    show slice? cs (o + k - lo) m = _
    rw [show o + k - lo = (o - lo) + k by omega];exact slice_sub c2 hk
  | _ => cases c2
theorem end_ok {D : DrainV} {l : List Int} {c : List Nat} (dn : Down l c) (hcn : c.length = D.bs.length) (hc5 : c.length ≤ 5) {t b : AVal} {a : Nat} (ha : a < c.length) {h : AH} (S : SliceOf h 1 t ((ints c).map fun x => [AVal.int .i64 x])) (B : SliceOf h 4 b (D.bs.map BkV.cells)) :
  Runs Try.prog 45 [.agg [t, b], .int .i64 a] h (fun en h' => en = .ret (.int .i64 ((endV c 21 a : Nat) : Int)) ∧ Ext h h') := by
 have hl1 := B.len
 rw [List.length_map] at hl1
 have hbs := B.scal
 have hsm1 := S.same
 have hsm2 := B.same
 have hsm : sameA (.agg [t, b]) (.agg [t, b]) = true := by simp [sameA, sameAs, hsm1, hsm2]
 have hnxt := fun h' e (a : Nat) (ha : a < c.length) => next_ok (c := c) (t := t) (b := b) hbs (a := a) ha (by omega) (h := h') (S.ext e)
 have hlo := dn.lo a ha
 have e0 : Ext h h := Ext.refl _
 refine Runs.intro aFunc45 rfl rfl rfl rfl fun rest => ?_;apply gS;refine gR rfl ?_;refine GoR.box rfl rfl rfl rfl rfl rfl fun h0 x0 f0 => ?_;have := e0.1;replace e0 := e0.trans x0;have := f0.1;refine gP ?_;apply gE;apply gS;refine Go.block noJ_ok ?_
 refine Go.loopKeep (fun a' : Nat => [(1, .int .i64 a'), (2, .ptr h.next 0)])
  (fun m a' h' => a' < c.length ∧ (m : Int) = lv l a' ∧ endV c 21 a' = endV c 21 a ∧ Ext h h' ∧ Has h' h.next (.cells .plain [t, b] 79)) (n := (lv l a).toNat) a ⟨rfl, rfl, trivial⟩ ⟨ha, by omega, rfl, e0, f0⟩ ?_
 clear e0 f0;rintro m a' h9 ⟨ha', hm, hend, e0, f0⟩ again
 have hna := fun h' e => hnxt h' e a' ha'
 by_cases hi : nx c a' < c.length
 ·have hn := end_next dn ha'
  rw [if_pos hi] at hn
  have hlt := dn.lt a' ha' hi
  have hlo2 := dn.lo _ hi
  iterate 2 apply gS
  refine Go.drawnE plan45_0 ?_;refine gQ rfl rfl (ld79 rfl f0 rfl) rfl ?_;refine gQ rfl rfl rfl rfl ?_;refine gQ rfl rfl (fa79_1 rfl) rfl ?_;refine gQ rfl rfl (ld25 rfl f0 rfl) rfl ?_;refine gQ rfl rfl (aOp_lenSlice Try.underlying25 rfl hl1) rfl ?_;refine GoE.call rfl rfl (aCF aFunc42 rfl) (hna _ e0) (dK 3 5 (dK 3 4 (dK 3 3 (dD 3 1 (dD 3 0 rfl))))) ?_ np;rintro v10 h10 ⟨q, x10⟩;cases q;replace f0 := f0.ext x10;replace e0 := e0.trans x10;refine ⟨(rck (h2 := h10) rfl (aOp_lenSlice Try.underlying25 rfl hl1) (rck (h2 := h10) rfl (ld25 rfl f0 rfl) (rck (h2 := h10) rfl (fa79_1 rfl) recheck_nil))), _, rfl, ?_⟩;refine gQ rfl rfl (kLT rfl rfl) rfl ?_;refine GoE.end rfl ?_;refine gC (b := true) rfl ?_;refine gD ?_;refine Go.block noJ_ok ?_;refine gR rfl ?_;refine gO rfl rfl (ld79 rfl f0 rfl) rfl ?_;refine gP ?_;refine GoR.call rfl rfl (aCF aFunc42 rfl) (hna _ e0) ?_ np;rintro v11 h11 ⟨q, x11⟩;cases q;refine ⟨_, rfl, ?_⟩;replace f0 := f0.ext x11;replace e0 := e0.trans x11;refine gP ?_;apply gE;refine Go.inBlock noJ_ok ?_;exact again (lv l (nx c a')).toNat (nx c a') _ _ (by omega) ⟨rfl, rfl, trivial⟩ ⟨hi, by omega, by rw [← hn, hend], e0, f0⟩
 ·have hn := end_next dn ha'
  rw [if_neg hi] at hn
  rw [← hend, hn]
  iterate 2 apply gS
  refine Go.drawnE plan45_0 ?_;refine gQ rfl rfl (ld79 rfl f0 rfl) rfl ?_;refine gQ rfl rfl rfl rfl ?_;refine gQ rfl rfl (fa79_1 rfl) rfl ?_;refine gQ rfl rfl (ld25 rfl f0 rfl) rfl ?_;refine gQ rfl rfl (aOp_lenSlice Try.underlying25 rfl hl1) rfl ?_;refine GoE.call rfl rfl (aCF aFunc42 rfl) (hna _ e0) (dK 3 5 (dK 3 4 (dK 3 3 (dD 3 1 (dD 3 0 rfl))))) ?_ np;rintro v10 h10 ⟨q, x10⟩;cases q;replace f0 := f0.ext x10;replace e0 := e0.trans x10;refine ⟨(rck (h2 := h10) rfl (aOp_lenSlice Try.underlying25 rfl hl1) (rck (h2 := h10) rfl (ld25 rfl f0 rfl) (rck (h2 := h10) rfl (fa79_1 rfl) recheck_nil))), _, rfl, ?_⟩;refine gQ rfl rfl (kLF rfl rfl) rfl ?_;refine GoE.end rfl ?_;refine gC (b := false) rfl ?_;refine gD ?_;apply gS;refine gR rfl ?_;iterate 2 refine gP ?_
  apply gE;exact gW Try.func45 rfl rfl ⟨rfl, e0⟩
theorem add_ok {L : List (Int × Int)} {s : AVal} {h : AH} (S : SliceOf h 2 s (L.map spC)) (hL : L.length ≤ 100) (hin : ∀ p, p ∈ L → (0 ≤ p.1 ∧ p.1 ≤ (20 : Nat)) ∧ (0 ≤ p.2 ∧ p.2 ≤ (20 : Nat))) :
  Runs Try.prog 72 [s] h (fun en h' => en = .ret (.agg (spC (sumP L))) ∧ Ext h h') := by
 have hl := S.len
 rw [List.length_map] at hl
 have hsm := S.same
 have e0 : Ext h h := Ext.refl _
 refine Runs.intro aFunc72 rfl rfl rfl rfl fun rest => ?_;apply gS;refine gR rfl ?_;refine GoR.alloc rfl rfl rfl zt35 rfl rfl fun h0 x0 f0 => ?_;have := e0.1;replace e0 := e0.trans x0;have := f0.1;apply gE;iterate 2 apply gS
 refine gR rfl ?_;refine gP ?_;refine gO rfl rfl (aOp_lenSlice Try.underlying100 rfl hl) rfl ?_;refine gP ?_;apply gE;refine Go.block noJ_ok ?_
 refine Go.loopKeep (fun i : Nat => [(2, .ptr h.next 0), (5, s), (6, .int .i64 L.length), (7, .int .i64 (i : Nat))])
  (fun m i h' => m + i = L.length ∧ Ext h h' ∧ Has h' h.next (.cells .plain (spC (sumP (L.take i))) 35)) (n := L.length) 0 ⟨rfl, rfl, rfl, rfl, trivial⟩ ⟨rfl, e0, f0⟩ ?_
 clear e0 f0;rintro m i h9 ⟨hm, e0, f0⟩ again
 by_cases hi : i < L.length
 ·obtain ⟨⟨x, y⟩, hx⟩ : ∃ x, L[i]? = some x := ⟨L[i], by simp [hi]⟩
  obtain ⟨bq, off, q1, q2⟩ := S.at (i := i) (l := spC (x, y)) (by rw [List.getElem?_map, hx]; rfl)
  rw [List.length_map] at q1
  have hst : sumP (L.take (i + 1)) = ((sumP (L.take i)).1 + x, (sumP (L.take i)).2 + y) := by rw [List.take_add_one, hx, Option.toList_some, sum_app]
  have hb := sum_in (l := L.take i) (M := 20) fun p hp => hin p (List.mem_of_mem_take hp)
  have hxy := hin _ (List.mem_of_getElem? hx)
  rw [List.length_take, Nat.min_eq_left (by omega)] at hb
  dsimp only at hxy
  obtain ⟨⟨u, v⟩, hu⟩ : ∃ z, sumP (L.take i) = z := ⟨_, rfl⟩
  rw [hu] at hst hb f0
  unfold spC at f0 q2
  dsimp only at f0 q2 hst hb
  apply gS;refine gR rfl ?_;refine gO rfl rfl (kLT rfl rfl) rfl ?_;apply gE;apply gS;refine gC (b := true) rfl ?_;refine gD ?_;apply gS;refine Go.block noJ_ok ?_;apply gS;refine gR rfl ?_;refine gO rfl rfl (aOp_indexAddr (i := i) Try.underlying100 sz35 rfl q1 rfl (Nat.ble_eq_true_of_le hi)) rfl ?_;refine gO rfl rfl (aOp_loadE ag35 sz35 rfl (q2.ext e0)) rfl ?_;refine GoR.alloc rfl rfl rfl zt35 rfl rfl fun h10 x10 f10 => ?_;have := e0.1;have := f0.1;replace f0 := f0.ext x10;replace e0 := e0.trans x10;have := f10.1;refine GoR.store rfl rfl rfl rfl rfl rfl f10 rfl sz35 rfl rfl rfl fun h11 u11 => ?_;replace f10 := u11.has f10;replace f0 := f0.upd u11 (by omega);replace e0 := e0.upd u11 (by omega);apply gE;apply gS;refine gR rfl ?_;refine gO rfl rfl (fa35_0 rfl) rfl ?_;refine gO rfl rfl (ld3 rfl f0 rfl) rfl ?_;refine gO rfl rfl (fa35_0 rfl) rfl ?_;refine gO rfl rfl (ld3 rfl f10 rfl) rfl ?_;refine gO rfl rfl (aA rfl rfl) rfl ?_;refine gO rfl rfl (fa35_0 rfl) rfl ?_;refine GoR.store rfl rfl rfl rfl rfl rfl f0 rfl sz3 rfl rfl rfl fun h12 u12 => ?_;replace f10 := f10.upd u12 (by omega);replace f0 := u12.has f0;replace e0 := e0.upd u12 (by omega);apply gE;refine gR rfl ?_;refine gO rfl rfl (fa35_1 rfl) rfl ?_;refine gO rfl rfl (ld3 rfl f0 rfl) rfl ?_;refine gO rfl rfl (fa35_1 rfl) rfl ?_;refine gO rfl rfl (ld3 rfl f10 rfl) rfl ?_;refine gO rfl rfl (aA rfl rfl) rfl ?_;refine gO rfl rfl (fa35_1 rfl) rfl ?_;refine GoR.store rfl rfl rfl rfl rfl rfl f0 rfl sz3 rfl rfl rfl fun h13 u13 => ?_;replace f0 := u13.has f0;replace e0 := e0.upd u13 (by omega);apply gE;refine Go.inBlock noJ_ok ?_;refine gR rfl ?_;refine gO rfl rfl (aA rfl rfl) rfl ?_;refine gP ?_;apply gE;exact again (m - 1) (i + 1) _ _ (by omega) ⟨rfl, rfl, rfl, rfl, trivial⟩ ⟨by omega, e0, by rw [hst]; exact f0⟩
 ·rw [List.take_of_length_le (by omega)] at f0
  unfold spC at f0 ⊢
  apply gS;refine gR rfl ?_;refine gO rfl rfl (kLF rfl rfl) rfl ?_;apply gE;apply gS;refine gC (b := false) rfl ?_;refine gD ?_;apply gS;refine gR rfl ?_;refine gO rfl rfl (ld35 rfl f0 rfl) rfl ?_;refine GoR.store rfl rfl rfl rfl rfl rfl f0 rfl sz35 rfl rfl rfl fun h10 u10 => ?_;replace f0 := u10.has f0;replace e0 := e0.upd u10 (by omega);apply gE;exact gV (ret_end (aResult_of Try.func72 rfl (aResults_cell rfl f0 (inCells_agg ag35 sz35 rfl))) ⟨rfl, e0⟩)
end Go.Proofs.Ytkhiagdmbajimaa

namespace Go.Proofs.Ytkhiagdmbajimaa
open Go Go.AbsE
set_option linter.unusedSimpArgs false
set_option maxRecDepth 100000
set_option maxHeartbeats 0
set_option linter.unusedVariables false
def ptV (c : List Nat) (a i : Nat) : List Nat := ((List.range i).filter (fun b => decide (nx c b = a))).flatMap (treeV c 21)
theorem pt_succ (c : List Nat) (a i : Nat) : ptV c a (i + 1) = ptV c a i ++ (if nx c i = a then treeV c 21 i else []) := by
 unfold ptV
 rw [List.range_succ, List.filter_append, List.flatMap_append, List.filter_cons, List.filter_nil]
 by_cases q : nx c i = a
 ·rw [if_pos q, if_pos (decide_eq_true q), List.flatMap_cons, List.flatMap_nil, List.append_nil]
 ·rw [if_neg q, if_neg (by simp [q]), List.flatMap_nil]
theorem pt_mono (c : List Nat) (a i : Nat) : ∀ m, (ptV c a i).length ≤ (ptV c a (i + m)).length
 | 0 => Nat.le_refl _
 | m + 1 => by
  have := pt_mono c a i m
  rw [← Nat.add_assoc, pt_succ, List.length_append]
  omega
theorem pt_all {l : List Int} {c : List Nat} (d : Down l c) {a : Nat} (ha : a < c.length) : treeV c 21 a = a :: ptV c a c.length := tree_next d ha
def folC (D : DrainV) (L : List Nat) : List AVal := (L.map D.yield).flatMap spC
theorem folC_app (D : DrainV) (L M : List Nat) : folC D (L ++ M) = folC D L ++ folC D M := by unfold folC; rw [List.map_append, List.flatMap_append]
theorem grow_scal {h : AH} {el : TypeId} {sz lo : Nat} {s : AVal} {n : Nat} {cs : List AVal} (k : Grow h el sz lo s n cs) : scalars [s] = true ∧ s.cells = [s] := by
 rcases k.2 with ⟨rfl, _⟩ | ⟨_, b, _, rfl, _⟩
 ·exact ⟨rfl, rfl⟩
 ·exact ⟨rfl, rfl⟩
theorem grow_same {h : AH} {el : TypeId} {sz lo : Nat} {s : AVal} {n : Nat} {cs : List AVal} (k : Grow h el sz lo s n cs) : sameA s s = true := by
 rcases k.2 with ⟨rfl, _⟩ | ⟨_, b, _, rfl, _⟩
 ·rfl
 ·simp [sameA]
theorem follow_ok {D : DrainV} (O : D.Ok) {l : List Int} {c : List Nat} (dn : Down l c) (hcn : c.length = D.bs.length) {t b : AVal} {g : AH} (S : SliceOf g 1 t ((ints c).map fun x => [AVal.int .i64 x])) (B : SliceOf g 4 b (D.bs.map BkV.cells)) {lo bY bC bF : Nat} (hlo : g.next ≤ lo) (hY : g.next ≤ bY ∧ bY < lo) (hC : g.next ≤ bC ∧ bC < lo) (hF : g.next ≤ bF ∧ bF < lo) (hne : bY ≠ bC ∧ bY ≠ bF) :
  ∀ (N : Nat) {a : Nat} (ha : a < c.length) (hN : 20 - lv l a < N) {h : AH} {ysl : AVal} {k : Nat} {cs : List AVal} (e9 : Ext g h) (hlh : lo ≤ h.next) (G : Grow h 35 2 lo ysl k cs) (hk : k + (treeV c 21 a).length ≤ 100)
   (f1 : Has h bY (.cells .plain [ysl] 100)) (f2 : Has h bC (.cells .plain [t, b] 79)) (f3 : Has h bF (.cells .plain [.func (.func 71) [] [.ptr bY 0, .ptr bC 0, .ptr bF 0]] 72)),
   Runs Try.prog 71 [.int .i64 a, .ptr bY 0, .ptr bC 0, .ptr bF 0] h (fun en h' => en = .ret (.tuple []) ∧ ExtF (fun x => x = bY ∨ lo ≤ x) h h' ∧ ∃ ysl', Grow h' 35 2 lo ysl' (k + (treeV c 21 a).length) (cs ++ folC D (treeV c 21 a)) ∧ Has h' bY (.cells .plain [ysl'] 100)) := by
 intro N
 induction N with
 | zero => intro a ha hN; have := dn.lo a ha; omega
 | succ N IH =>
  intro a ha hN h ysl k cs e9 hlh G hk f1 f2 f3
  have hnb := O.nb
  have htr := pt_all dn ha
  obtain ⟨x, hx⟩ : ∃ x, D.bs[a]? = some x := ⟨D.bs[a]'(by omega), by simp⟩
  have hya : D.yield a = (x.yl, x.yh) := by unfold DrainV.yield; rw [hx]
  obtain ⟨bq, off, q1, q2⟩ := B.at (i := a) (l := BkV.cells x) (by rw [List.getElem?_map, hx]; rfl)
  rw [List.length_map] at q1
  have q3 := cells_sub (k := 2) (m := 2) q2 (by omega)
  unfold BkV.cells at q3
  replace q3 : CellsAt g bq (off + a * 4 + 2) 2 [.int .i64 x.yl, .int .i64 x.yh] := q3
  have hl1 := S.len
  have hic : ((ints c).map fun x => [AVal.int .i64 x]).length = c.length := by unfold ints; simp
  rw [hic] at hl1
  have hsame := grow_same G
  have hsmt := S.same
  have hsmb := B.same
  have hst1 : ∀ {h : AH} {lo m : Nat} {z : AVal} {cs : List AVal}, Grow h 35 2 lo z m cs → Nat.beq z.cells.length 1 = true := fun k => by rw [(grow_scal k).2]; rfl
  have hst2 : ∀ {h : AH} {lo m : Nat} {z : AVal} {cs : List AVal}, Grow h 35 2 lo z m cs → scalars z.cells = true := fun k => by rw [(grow_scal k).2]; exact (grow_scal k).1
  have hst3 : ∀ {h : AH} {lo m : Nat} {z : AVal} {cs : List AVal}, Grow h 35 2 lo z m cs → splice [ysl] 0 z.cells = some [z] := fun k => by rw [(grow_scal k).2]; rfl
  have hf1 := f1.1
  have hf2 := f2.1
  have hf3 := f3.1
  refine Runs.intro aFunc71 rfl rfl rfl rfl fun rest => ?_;apply gS;refine Go.drawnE plan71_0 ?_;refine gQ rfl rfl (ld100 rfl f1 rfl) rfl ?_;refine gQ rfl rfl (fa79_1 rfl) rfl ?_;refine gQ rfl rfl (ld25 rfl f2 rfl) rfl ?_;refine gQ rfl rfl rfl rfl ?_;refine gQ rfl rfl (aOp_indexAddr (i := a) Try.underlying25 sz60 rfl q1 rfl (Nat.ble_eq_true_of_le (by omega))) rfl ?_;refine gQ rfl rfl (fa60_1 rfl) rfl ?_;refine gQ rfl rfl (aOp_loadE ag35 sz35 rfl (q3.ext e9)) rfl ?_;refine GoE.quietX rfl rfl (aOpX_lit (ps := [(0, .agg [.int .i64 x.yl, .int .i64 x.yh])]) (cs := [.int .i64 x.yl, .int .i64 x.yh]) Try.underlying100 rfl sz35 zt35 rfl rfl rfl) rfl ?_;refine GoE.append1L rfl rfl Try.underlying100 Try.underlying100 sz35 by35 zt35 rfl rfl rfl rfl rfl rfl G (by omega) (dD 255 7 (dD 255 6 (dD 255 5 (dD 255 4 (dD 255 3 (dD 255 2 (dD 255 1 (dD 255 0 rfl)))))))) rfl rfl fun s4 h4 y4 g4 => ?_;replace f1 := f1.extF y4 (fun q => by have := grow_own G q; omega);replace f2 := f2.extF y4 (fun q => by have := grow_own G q; omega);replace f3 := f3.extF y4 (fun q => by have := grow_own G q; omega);replace e9 := y4.low e9 (fun b q => by have := grow_own G q; omega);have := y4.1;refine ⟨recheck_nil, ?_⟩;refine GoE.store rfl rfl rfl rfl rfl rfl rfl f1 rfl sz100 (hst1 (by assumption)) (hst2 (by assumption)) (hst3 (by assumption)) fun h5 u5 => ?_;replace f1 := u5.has f1;replace f2 := f2.upd u5 (by omega);replace f3 := f3.upd u5 (by omega);replace e9 := e9.upd u5 (by omega);refine ⟨recheck_nil, ?_⟩;refine GoE.end rfl ?_;apply gS;refine gR rfl ?_;refine gO rfl rfl (fa79_0 rfl) rfl ?_;refine gO rfl rfl (ld47 rfl f2 rfl) rfl ?_;refine gO rfl rfl (aOp_lenSlice Try.underlying47 rfl (by assumption)) rfl ?_;refine gP ?_;apply gE;refine Go.block noJ_ok ?_
  have hy4 := y4.1
  have hu5 := u5.1
  have z5 : ExtF (fun x => x = bY ∨ lo ≤ x) h h5 := ExtF.upd ⟨y4.1, fun b hb hn => y4.2 b hb fun q => hn (.inr (grow_own G q).1)⟩ u5 (.inl (.inl rfl))
  have G5 : Grow h5 35 2 lo s4 (k + (1 + (ptV c a 0).length)) (cs ++ folC D (a :: ptV c a 0)) := by
   have := grow_extF (g4.low (lo' := lo) hlh) (S := fun b => b = bY) ((ExtF.of (Ext.refl _)).upd u5 (.inl rfl)) (fun b q => by have : b = bY := q; omega)
   have e : folC D (a :: ptV c a 0) = [.int .i64 x.yl, .int .i64 x.yh] := by
    show spC (D.yield a) ++ _ = _
    rw [hya]
    rfl
   rw [e];exact this
  have hq1 := f1.1
  refine Go.loopKeep (fun a' : Nat × AVal => [(0, .int .i64 a), (1, .ptr bY 0), (2, .ptr bC 0), (3, .ptr bF 0), (17, t), (18, .int .i64 c.length), (19, .int .i64 (a'.1 : Nat))])
   (fun m a' h' => m + a'.1 = c.length ∧ Ext g h' ∧ ExtF (fun x => x = bY ∨ lo ≤ x) h h' ∧ Grow h' 35 2 lo a'.2 (k + (1 + (ptV c a a'.1).length)) (cs ++ folC D (a :: ptV c a a'.1)) ∧ Has h' bY (.cells .plain [a'.2] 100) ∧ Has h' bC (.cells .plain [t, b] 79) ∧ Has h' bF (.cells .plain [.func (.func 71) [] [.ptr bY 0, .ptr bC 0, .ptr bF 0]] 72)) (n := c.length) (0, s4) ⟨rfl, rfl, rfl, rfl, rfl, rfl, rfl, trivial⟩ ⟨rfl, e9, z5, G5, (by have : s4.cells = [s4] := (grow_scal g4).2; exact f1), f2, f3⟩ ?_
  clear e9 f1 f2 f3 z5 G5 y4 g4 u5;rintro m ⟨i, sl⟩ h9 ⟨hm, e9, z9, G9, f1, f2, f3⟩ again
  dsimp only at hm z9 G9 f1 ⊢
  have hz9 := z9.1
  by_cases hi : i < c.length
  ·have hps := pt_succ c a i
   have hpm := pt_mono c a (i + 1) (c.length - (i + 1))
   rw [show i + 1 + (c.length - (i + 1)) = c.length by omega] at hpm
   have hlen : (treeV c 21 a).length = 1 + (ptV c a c.length).length := by rw [htr, List.length_cons]; omega
   obtain ⟨bt, to, t1, t2⟩ := S.at (i := i) (l := [.int .i64 ((nx c i : Nat) : Int)]) (by rw [List.getElem?_map, ints_at hi]; rfl)
   rw [hic] at t1
   by_cases c1 : nx c i = a
   ·rw [if_pos c1] at hps
    have hlt := dn.lt i hi (by omega)
    rw [c1] at hlt;apply gS;refine gR rfl ?_;refine gO rfl rfl (kLT rfl rfl) rfl ?_;apply gE;apply gS;refine gC (b := true) rfl ?_;refine gD ?_;apply gS;refine Go.block noJ_ok ?_;apply gS;refine gR rfl ?_;refine gP ?_;refine gO rfl rfl (aOp_indexAddr (i := i) Try.underlying47 sz3 rfl t1 rfl (Nat.ble_eq_true_of_le (by omega))) rfl ?_;refine gO rfl rfl ((aOp_loadE1 (k := 0) ag3 rfl (t2.ext e9) rfl)) rfl ?_;iterate 2 refine gP ?_
    apply gE;apply gS;refine gR rfl ?_;iterate 2 refine gP ?_
    refine gO rfl rfl (kET rfl rfl) rfl ?_;apply gE;refine gC (b := true) rfl ?_;refine gR rfl ?_;refine gO rfl rfl (ld72 rfl f3 rfl) rfl ?_;refine gP ?_
    have hlh9 : lo ≤ h9.next := by omega
    refine GoR.call rfl rfl (aOp_callVal rfl aFunc71 rfl) (IH hi (by omega) e9 hlh9 G9 (by rw [hlen] at hk; rw [hps, List.length_append] at hpm; omega) f1 f2 f3) ?_ np;rintro v30 h30 ⟨q, x30, sl', G30, f1'⟩;cases q;refine ⟨_, rfl, ?_⟩;replace f2 := f2.extF x30 (by rintro (q | q) <;> omega);replace f3 := f3.extF x30 (by rintro (q | q) <;> omega);replace e9 := x30.low e9 (by rintro b (q | q) <;> omega);replace z9 := z9.trans (fun b q => .inl q) x30;replace f1 := f1'
    have hG : folC D (a :: ptV c a i) ++ folC D (treeV c 21 i) = folC D (a :: ptV c a (i + 1)) := by rw [hps, ← folC_app]; rfl
    rw [List.append_assoc, hG, show k + (1 + (ptV c a i).length) + (treeV c 21 i).length = k + (1 + (ptV c a (i + 1)).length) by rw [hps, List.length_append]; omega] at G30;clear x30 f1' G9;apply gE;refine Go.inBlock noJ_ok ?_;refine gR rfl ?_;refine gO rfl rfl (aA rfl rfl) rfl ?_;refine gP ?_;apply gE;exact again (m - 1) (i + 1, sl') _ _ (by omega) ⟨rfl, rfl, rfl, rfl, rfl, rfl, rfl, trivial⟩ ⟨by dsimp only; omega, e9, z9, G30, f1, f2, f3⟩
   ·rw [if_neg c1, List.append_nil] at hps;apply gS;refine gR rfl ?_;refine gO rfl rfl (kLT rfl rfl) rfl ?_;apply gE;apply gS;refine gC (b := true) rfl ?_;refine gD ?_;apply gS;refine Go.block noJ_ok ?_;apply gS;refine gR rfl ?_;refine gP ?_;refine gO rfl rfl (aOp_indexAddr (i := i) Try.underlying47 sz3 rfl t1 rfl (Nat.ble_eq_true_of_le (by omega))) rfl ?_;refine gO rfl rfl ((aOp_loadE1 (k := 0) ag3 rfl (t2.ext e9) rfl)) rfl ?_;iterate 2 refine gP ?_
    apply gE;apply gS;refine gR rfl ?_;iterate 2 refine gP ?_
    refine gO rfl rfl (kEF rfl rfl) rfl ?_;apply gE;refine gC (b := false) rfl ?_;refine gD ?_;refine Go.inBlock noJ_ok ?_;refine gR rfl ?_;refine gO rfl rfl (aA rfl rfl) rfl ?_;refine gP ?_;apply gE;exact again (m - 1) (i + 1, sl) _ _ (by omega) ⟨rfl, rfl, rfl, rfl, rfl, rfl, rfl, trivial⟩ ⟨by dsimp only; omega, e9, z9, by dsimp only; rw [hps]; exact G9, f1, f2, f3⟩
  ·have hii : i = c.length := by omega
   subst hii
   have hlen : (treeV c 21 a).length = 1 + (ptV c a c.length).length := by rw [htr, List.length_cons]; omega
   rw [← hlen, ← htr] at G9
   apply gS;refine gR rfl ?_;refine gO rfl rfl (kLF rfl rfl) rfl ?_;apply gE;apply gS;refine gC (b := false) rfl ?_;refine gD ?_;exact Go.endL (FLeft.ret (v := .tuple []) (aResult_of Try.func71 rfl rfl) ⟨rfl, z9, sl, G9, f1⟩)
structure CourseIn (D : DrainV) (h : AH) (l : List Int) (c : List Nat) (t b : AVal) : Prop where
 dn : Down l c
 len : c.length = D.bs.length
 t : SliceOf h 1 t ((ints c).map fun x => [AVal.int .i64 x])
 b : SliceOf h 4 b (D.bs.map BkV.cells)
theorem CourseIn.ext {D : DrainV} {h h' : AH} {l : List Int} {c : List Nat} {t b : AVal} (k : CourseIn D h l c t b) (e : Ext h h') : CourseIn D h' l c t b := ⟨k.dn, k.len, k.t.ext e, k.b.ext e⟩
theorem CourseIn.same {D : DrainV} {h : AH} {l : List Int} {c : List Nat} {t b : AVal} (k : CourseIn D h l c t b) : sameA (.agg [t, b]) (.agg [t, b]) = true := by simp [sameA, sameAs, k.t.same, k.b.same]
theorem CourseIn.scal {D : DrainV} {h : AH} {l : List Int} {c : List Nat} {t b : AVal} (k : CourseIn D h l c t b) : scalars [t, b] = true := scal2 k.t.scal.1 k.b.scal.1
theorem water_ok {D : DrainV} (O : D.Ok) {l : List Int} {c : List Nat} {t b : AVal} {a : Nat} {h : AH} (C : CourseIn D h l c t b) (ha : a < c.length) :
  Runs Try.prog 49 [.agg [t, b], .int .i64 a] h (fun en h' => en = .ret (.agg (spC (D.water c a))) ∧ Ext h h') := by
 have hnb := O.nb
 have hcl := C.len
 have hlo := C.dn.lo a ha
 have hpl := path_len C.dn ha
 have hsm := C.same
 have e0 : Ext h h := Ext.refl _
 refine Runs.intro aFunc49 rfl rfl rfl rfl fun rest => ?_;apply gS;refine gR rfl ?_;refine GoR.box rfl rfl rfl rfl rfl rfl fun h0 x0 f0 => ?_;have := e0.1;replace e0 := e0.trans x0;have := f0.1;refine GoR.alloc rfl rfl rfl zt35 rfl rfl fun h1 x1 f1 => ?_;have := e0.1;have := f0.1;replace f0 := f0.ext x1;replace e0 := e0.trans x1;have := f1.1;apply gE;apply gS;refine gR rfl ?_;refine GoR.alloc rfl rfl rfl zt100 rfl rfl fun h2 x2 f2 => ?_;have := e0.1;have := f1.1;have := f0.1;replace f1 := f1.ext x2;replace f0 := f0.ext x2;replace e0 := e0.trans x2;have := f2.1;apply gE;apply gS;refine gR rfl ?_;refine GoR.alloc rfl rfl rfl zt72 rfl rfl fun h3 x3 f3 => ?_;have := e0.1;have := f2.1;have := f1.1;have := f0.1;replace f2 := f2.ext x3;replace f1 := f1.ext x3;replace f0 := f0.ext x3;replace e0 := e0.trans x3;have := f3.1;apply gE;apply gS;refine gR rfl ?_;refine gP ?_;refine GoR.store rfl rfl rfl rfl rfl rfl f3 rfl sz72 rfl rfl rfl fun h4 u4 => ?_;replace f3 := u4.has f3;replace f2 := f2.upd u4 (by omega);replace f1 := f1.upd u4 (by omega);replace f0 := f0.upd u4 (by omega);replace e0 := e0.upd u4 (by omega);apply gE;apply gS;refine gR rfl ?_;refine gO rfl rfl (ld72 rfl f3 rfl) rfl ?_;refine gP ?_
 have hu4 := u4.1
 have hr0 := f0.1
 have hr1 := f1.1
 have hr2 := f2.1
 have hr3 := f3.1
 refine GoR.call rfl rfl (aOp_callVal rfl aFunc71 rfl) (follow_ok O C.dn hcl C.t C.b (lo := h4.next) (bY := h1.next) (bC := h.next) (bF := h2.next) (by omega) (by omega) (by omega) (by omega) (by omega) 100 ha (by omega) e0 (Nat.le_refl _) (Grow.nil _ _ _ _) (by omega) f2 f0 f3) ?_ np;rintro v30 h30 ⟨q, x30, ysl, G30, f2'⟩;cases q;refine ⟨_, rfl, ?_⟩;replace f1 := f1.extF x30 (by rintro (q | q) <;> omega);replace e0 := x30.low e0 (by rintro b (q | q) <;> omega);replace f2 := f2'
 have hx30 := x30.1
 rw [Nat.zero_add, List.nil_append] at G30
 have hml : (((treeV c 21 a).map D.yield).map spC).length = (treeV c 21 a).length := by rw [List.length_map, List.length_map]
 rw [← hml] at G30
 have SL : SliceOf h30 2 ysl (((treeV c 21 a).map D.yield).map spC) := G30.sliceOf fun i l hl => by
  unfold folC
  rw [List.flatMap_def];exact slice_flatten (fun l hl => by obtain ⟨_, _, rfl⟩ := List.mem_map.1 hl; rfl) i l hl
 have hadd := fun h' e => add_ok (L := (treeV c 21 a).map D.yield) (s := ysl) (h := h') (SL.ext e) (by rw [List.length_map]; omega) (fun p hp => by
  obtain ⟨x, _, rfl⟩ := List.mem_map.1 hp
  exact yield_in O x)
 have hw : sumP ((treeV c 21 a).map D.yield) = D.water c a := rfl
 rw [hw] at hadd
 obtain ⟨w, hW⟩ : ∃ w, D.water c a = w := ⟨_, rfl⟩
 rw [hW] at hadd ⊢
 have e9 : Ext h30 h30 := Ext.refl _
 unfold spC at hadd ⊢
 clear f0 f3 f2' x30 hw;apply gE;apply gS;refine gR rfl ?_;refine gO rfl rfl (ld100 rfl f2 rfl) rfl ?_;refine GoR.call rfl rfl (aCF aFunc72 rfl) (hadd _ e9) ?_ np;rintro v31 h31 ⟨q, x31⟩;cases q;refine ⟨_, rfl, ?_⟩;replace f1 := f1.ext x31;replace e0 := e0.trans x31;refine GoR.store rfl rfl rfl rfl rfl rfl f1 rfl sz35 rfl rfl rfl fun h32 u32 => ?_;replace f1 := u32.has f1;replace e0 := e0.upd u32 (by omega);clear e9;apply gE;exact gV (ret_end (aResult_of Try.func49 rfl (aResults_cell rfl f1 (inCells_agg ag35 sz35 rfl))) ⟨rfl, e0⟩)
theorem straight_ok {D : DrainV} (O : D.Ok) {l : List Int} {c : List Nat} {t b : AVal} {a to : Nat} {h : AH} (C : CourseIn D h l c t b) (ha : a < c.length) (hto : to < c.length) :
  Runs Try.prog 75 [.agg [t, b], .int .i64 a, .int .i64 to] h (fun en h' => en = .ret (.agg (spC (D.straight c a to))) ∧ Ext h h') := by
 have hnb := O.nb
 have hcl := C.len
 have hsm := C.same
 have hna := fun h' e => next_ok (c := c) (t := t) (b := b) C.b.scal (a := a) ha (by omega) (h := h') (C.t.ext e)
 have hwa := fun h' e => water_ok O (a := a) (h := h') (C.ext e) ha
 by_cases c1 : nx c a = to
 ·have hs : D.straight c a to = D.water c a := if_pos c1
  rw [hs]
  obtain ⟨w, hW⟩ : ∃ w, D.water c a = w := ⟨_, rfl⟩
  rw [hW] at hwa ⊢
  unfold spC at hwa ⊢
  have e0 : Ext h h := Ext.refl _
  refine Runs.intro aFunc75 rfl rfl rfl rfl fun rest => ?_;apply gS;refine gR rfl ?_;refine GoR.box rfl rfl rfl rfl rfl rfl fun h0 x0 f0 => ?_;have := e0.1;replace e0 := e0.trans x0;have := f0.1;refine GoR.alloc rfl rfl rfl zt35 rfl rfl fun h1 x1 f1 => ?_;have := e0.1;have := f0.1;replace f0 := f0.ext x1;replace e0 := e0.trans x1;have := f1.1;apply gE;iterate 2 apply gS
  refine gR rfl ?_;refine gO rfl rfl (ld79 rfl f0 rfl) rfl ?_;refine gP ?_;refine GoR.call rfl rfl (aCF aFunc42 rfl) (hna _ e0) ?_ np;rintro v2 h2 ⟨q, x2⟩;cases q;refine ⟨_, rfl, ?_⟩;replace f1 := f1.ext x2;replace f0 := f0.ext x2;replace e0 := e0.trans x2;refine gP ?_;refine gO rfl rfl (kXF rfl rfl) rfl ?_;apply gE;refine gC (b := false) rfl ?_;refine gD ?_;apply gS;refine gR rfl ?_;refine gO rfl rfl (ld79 rfl f0 rfl) rfl ?_;refine gP ?_;refine GoR.call rfl rfl (aCF aFunc49 rfl) (hwa _ e0) ?_ np;rintro v3 h3 ⟨q, x3⟩;cases q;refine ⟨_, rfl, ?_⟩;replace f1 := f1.ext x3;replace e0 := e0.trans x3;refine GoR.store rfl rfl rfl rfl rfl rfl f1 rfl sz35 rfl rfl rfl fun h4 u4 => ?_;replace f1 := u4.has f1;replace e0 := e0.upd u4 (by omega);apply gE;exact gV (ret_end (aResult_of Try.func75 rfl (aResults_cell rfl f1 (inCells_agg ag35 sz35 rfl))) ⟨rfl, e0⟩)
 ·have hs : D.straight c a to = (0, 0) := if_neg c1
  rw [hs]
  unfold spC
  have e0 : Ext h h := Ext.refl _
  refine Runs.intro aFunc75 rfl rfl rfl rfl fun rest => ?_;apply gS;refine gR rfl ?_;refine GoR.box rfl rfl rfl rfl rfl rfl fun h0 x0 f0 => ?_;have := e0.1;replace e0 := e0.trans x0;have := f0.1;refine GoR.alloc rfl rfl rfl zt35 rfl rfl fun h1 x1 f1 => ?_;have := e0.1;have := f0.1;replace f0 := f0.ext x1;replace e0 := e0.trans x1;have := f1.1;apply gE;iterate 2 apply gS
  refine gR rfl ?_;refine gO rfl rfl (ld79 rfl f0 rfl) rfl ?_;refine gP ?_;refine GoR.call rfl rfl (aCF aFunc42 rfl) (hna _ e0) ?_ np;rintro v2 h2 ⟨q, x2⟩;cases q;refine ⟨_, rfl, ?_⟩;replace f1 := f1.ext x2;replace e0 := e0.trans x2;refine gP ?_;refine gO rfl rfl (kXT rfl rfl) rfl ?_;apply gE;refine gC (b := true) rfl ?_;apply gS;refine gR rfl ?_;refine gO rfl rfl (aOp_build zt35 hu35 pl35 rfl rfl) rfl ?_;refine GoR.store rfl rfl rfl rfl rfl rfl f1 rfl sz35 rfl rfl rfl fun h3 u3 => ?_;replace f1 := u3.has f1;replace e0 := e0.upd u3 (by omega);apply gE;exact gV (ret_end (aResult_of Try.func75 rfl (aResults_cell rfl f1 (inCells_agg ag35 sz35 rfl))) ⟨rfl, e0⟩)
theorem canBreak_ok {D : DrainV} (O : D.Ok) {l : List Int} {c : List Nat} {t b : AVal} {r : RtV} (hr : r.Ok D.bs.length) {h : AH} (C : CourseIn D h l c t b) :
  Runs Try.prog 93 [.agg [t, b], .agg r.cells] h (fun en h' => en = .ret (.bool (D.can c r)) ∧ Ext h h') := by
 have hcl := C.len
 have hsm := C.same
 obtain ⟨ro, rt, rm⟩ := r
 unfold RtV.Ok PairOk at hr
 dsimp only at hr
 obtain ⟨o, rfl⟩ := Int.eq_ofNat_of_zero_le hr.1.1.1
 obtain ⟨p, rfl⟩ := Int.eq_ofNat_of_zero_le hr.1.2.1.1
 have hst := fun h' e => straight_ok O (a := o) (to := p) (h := h') (C.ext e) (by omega) (by omega)
 unfold DrainV.can RtV.cells
 dsimp only
 rw [Int.toNat_natCast, Int.toNat_natCast]
 obtain ⟨w, hW⟩ : ∃ w, D.straight c o p = w := ⟨_, rfl⟩
 rw [hW] at hst ⊢
 unfold spC at hst
 have e0 : Ext h h := Ext.refl _
 refine Runs.intro aFunc93 rfl rfl rfl rfl fun rest => ?_;apply gS;refine gR rfl ?_;refine GoR.box rfl rfl rfl rfl rfl rfl fun h0 x0 f0 => ?_;have := e0.1;replace e0 := e0.trans x0;have := f0.1;refine GoR.box rfl rfl rfl rfl rfl rfl fun h1 x1 f1 => ?_;have := e0.1;have := f0.1;replace f0 := f0.ext x1;replace e0 := e0.trans x1;have := f1.1;refine gP ?_;apply gE;apply gS;refine Go.drawnE plan93_0 ?_;refine gQ rfl rfl (ld79 rfl f0 rfl) rfl ?_;refine gQ rfl rfl (fa57_0 rfl) rfl ?_;refine gQ rfl rfl (ld3 rfl f1 rfl) rfl ?_;refine gQ rfl rfl (fa57_1 rfl) rfl ?_;refine gQ rfl rfl (ld3 rfl f1 rfl) rfl ?_;refine gQ rfl rfl (fa57_2 rfl) rfl ?_;refine gQ rfl rfl (ld3 rfl f1 rfl) rfl ?_;refine GoE.call rfl rfl (aCF aFunc75 rfl) (hst _ e0) (dK 31 8 (dK 31 7 (dD 31 4 (dD 31 3 (dD 31 2 (dD 31 1 (dD 31 0 rfl))))))) ?_ np;rintro v2 h2 ⟨q, x2⟩;cases q;replace f1 := f1.ext x2;replace e0 := e0.trans x2;refine ⟨(rck (h2 := h2) rfl (ld3 rfl f1 rfl) (rck (h2 := h2) rfl (fa57_2 rfl) recheck_nil)), _, rfl, ?_⟩;refine gQ rfl rfl (fd35_1 rfl rfl) rfl ?_;refine gQ rfl rfl (aOp_gtr rfl rfl rfl) rfl ?_;refine gQ rfl rfl rfl rfl ?_;refine GoE.end rfl ?_;exact gW Try.func93 rfl rfl ⟨rfl, e0⟩
theorem mustBreak_ok {D : DrainV} (O : D.Ok) {l : List Int} {c : List Nat} {t b : AVal} {r : RtV} (hr : r.Ok D.bs.length) {h : AH} (C : CourseIn D h l c t b) :
  Runs Try.prog 94 [.agg [t, b], .agg r.cells] h (fun en h' => en = .ret (.bool (D.must c r)) ∧ Ext h h') := by
 have hcl := C.len
 have hsm := C.same
 obtain ⟨ro, rt, rm⟩ := r
 unfold RtV.Ok PairOk at hr
 dsimp only at hr
 obtain ⟨o, rfl⟩ := Int.eq_ofNat_of_zero_le hr.1.1.1
 obtain ⟨p, rfl⟩ := Int.eq_ofNat_of_zero_le hr.1.2.1.1
 have hst := fun h' e => straight_ok O (a := o) (to := p) (h := h') (C.ext e) (by omega) (by omega)
 unfold DrainV.must RtV.cells
 dsimp only
 rw [Int.toNat_natCast, Int.toNat_natCast]
 obtain ⟨w, hW⟩ : ∃ w, D.straight c o p = w := ⟨_, rfl⟩
 rw [hW] at hst ⊢
 unfold spC at hst
 have e0 : Ext h h := Ext.refl _
 refine Runs.intro aFunc94 rfl rfl rfl rfl fun rest => ?_;apply gS;refine gR rfl ?_;refine GoR.box rfl rfl rfl rfl rfl rfl fun h0 x0 f0 => ?_;have := e0.1;replace e0 := e0.trans x0;have := f0.1;refine GoR.box rfl rfl rfl rfl rfl rfl fun h1 x1 f1 => ?_;have := e0.1;have := f0.1;replace f0 := f0.ext x1;replace e0 := e0.trans x1;have := f1.1;refine gP ?_;apply gE;apply gS;refine Go.drawnE plan94_0 ?_;refine gQ rfl rfl (ld79 rfl f0 rfl) rfl ?_;refine gQ rfl rfl (fa57_0 rfl) rfl ?_;refine gQ rfl rfl (ld3 rfl f1 rfl) rfl ?_;refine gQ rfl rfl (fa57_1 rfl) rfl ?_;refine gQ rfl rfl (ld3 rfl f1 rfl) rfl ?_;refine gQ rfl rfl (fa57_2 rfl) rfl ?_;refine gQ rfl rfl (ld3 rfl f1 rfl) rfl ?_;refine GoE.call rfl rfl (aCF aFunc75 rfl) (hst _ e0) (dK 31 8 (dK 31 7 (dD 31 4 (dD 31 3 (dD 31 2 (dD 31 1 (dD 31 0 rfl))))))) ?_ np;rintro v2 h2 ⟨q, x2⟩;cases q;replace f1 := f1.ext x2;replace e0 := e0.trans x2;refine ⟨(rck (h2 := h2) rfl (ld3 rfl f1 rfl) (rck (h2 := h2) rfl (fa57_2 rfl) recheck_nil)), _, rfl, ?_⟩;refine gQ rfl rfl (fd35_0 rfl rfl) rfl ?_;refine gQ rfl rfl (aOp_gtr rfl rfl rfl) rfl ?_;refine gQ rfl rfl rfl rfl ?_;refine GoE.end rfl ?_;exact gW Try.func94 rfl rfl ⟨rfl, e0⟩
end Go.Proofs.Ytkhiagdmbajimaa
