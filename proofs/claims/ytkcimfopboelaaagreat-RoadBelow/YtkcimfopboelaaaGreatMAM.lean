import Derived.Test.YtkcimfopboelaaaGreatMAL
import Derived.Test.YtkcimfopboelaaaGreatMAK
namespace Go.Proofs.YtkcimfopboelaaaGreat
open Go Go.AbsE
set_option linter.unusedSimpArgs false
set_option maxRecDepth 100000
set_option maxHeartbeats 0
set_option linter.unusedVariables false
def keyL (l : List Int) : List Int := padZ l ++ [(l.length : Int)]
theorem keyL_len {l : List Int} (h : l.length ≤ 10) : (keyL l).length = 11 := by unfold keyL; rw [List.length_append, padZ_len h]; rfl
theorem keyL_inj {l m : List Int} (h : l.length = m.length) (q : keyL l = keyL m) : l = m := by
 unfold keyL padZ at q
 rw [List.append_assoc, List.append_assoc] at q;exact (List.append_inj q h).1
theorem haulC_key (l : List Int) : haulC (padZ l) (l.length : Nat) = i64s (keyL l) := haulC_ints _ _
theorem hauls_nodup : ∀ (es : List EV), (haulsV es).Pairwise (· ≠ ·)
 | [] => by simp [haulsV]
 | e :: es => by
  have ih := hauls_nodup es
  unfold haulsV upto
  rw [List.flatMap_map, List.pairwise_flatMap];refine ⟨fun k _ => ?_, ?_⟩
  ·rw [List.pairwise_map];exact ih.imp fun hne q => hne (by injection q)
  ·refine List.Pairwise.imp ?_ List.nodup_range
   intro k k' hne x hx y hy q
   obtain ⟨_, _, rfl⟩ := List.mem_map.1 hx
   obtain ⟨_, _, rfl⟩ := List.mem_map.1 hy
   injection q with q1 q2
   omega
theorem key126 : KeyN Tryz.prog 126 11 where
 fs := ⟨_, Tryz.underlying126, .cons (n := 10) ⟨by decide, .inr ⟨sz85, _, _, Tryz.underlying85, Tryz.underlying3, sz3⟩⟩ rfl (.cons (n := 1) ⟨by decide, .inl ⟨rfl, _, Tryz.underlying3⟩⟩ rfl (.nil _))⟩
 std := by kernel_rfl
def Parts (h : AH) (G : Nat → Prop) (lo : Nat) (v : AVal) (fs : List (List Ft)) : Prop :=
 ∃ sls : List AVal, sls.length = fs.length ∧ Grow h 120 1 lo v fs.length sls ∧ (∀ b, v = .gsl b 0 0 fs.length → G b) ∧
  ∀ (k : Nat) sl f, sls[k]? = some sl → fs[k]? = some f → Grow h 87 14 lo sl f.length (f.flatMap Ft.cells) ∧ ∀ b, sl = .gsl b 0 0 f.length → G b
theorem Parts.keep {h h' : AH} {G : Nat → Prop} {lo : Nat} {v : AVal} {fs : List (List Ft)} (k : Parts h G lo v fs) (hn : h.next ≤ h'.next) (he : ∀ b, b < h.next → G b → h'.get b = h.get b) : Parts h' G lo v fs := by
 obtain ⟨sls, h1, h2, h3, h4⟩ := k
 exact ⟨sls, h1, h2.keep hn (fun b b1 b2 q => he b b2 (h3 b q)), h3, fun k sl f q1 q2 => ⟨(h4 k sl f q1 q2).1.keep hn (fun b b1 b2 q => he b b2 ((h4 k sl f q1 q2).2 b q)), (h4 k sl f q1 q2).2⟩⟩
theorem grow_blk {h : AH} {el : TypeId} {sz lo : Nat} {s : AVal} {n : Nat} {cs : List AVal} (k : Grow h el sz lo s n cs) {b : Nat} (hs : s = .gsl b 0 0 n) : Has h b (.cells .grow cs el) := by
 rcases k.2 with ⟨z, _⟩ | ⟨_, b', _, z, f⟩
 ·rw [z] at hs; cases hs
 ·rw [z] at hs; cases hs; exact f
theorem Parts.keepM {h h' : AH} {G : Nat → Prop} {lo : Nat} {v : AVal} {fs : List (List Ft)} (k : Parts h G lo v fs) (hn : h.next ≤ h'.next) {bm : Nat} {es : List AMapE} {cl : Nat} (fm : Has h bm (.map es cl)) (he : ∀ b, b < h.next → G b → b ≠ bm → h'.get b = h.get b) : Parts h' G lo v fs := by
 obtain ⟨sls, h1, h2, h3, h4⟩ := k
 have ne : ∀ {el : TypeId} {sz n : Nat} {s : AVal} {cs : List AVal}, Grow h el sz lo s n cs → ∀ b, s = .gsl b 0 0 n → b ≠ bm := fun g b q z => by
  subst z
  have := (grow_blk g q).2.symm.trans fm.2
  cases this
 exact ⟨sls, h1, h2.keep hn (fun b b1 b2 q => he b b2 (h3 b q) (ne h2 b q)), h3, fun k sl f q1 q2 => ⟨(h4 k sl f q1 q2).1.keep hn (fun b b1 b2 q => he b b2 ((h4 k sl f q1 q2).2 b q) (ne (h4 k sl f q1 q2).1 b q)), (h4 k sl f q1 q2).2⟩⟩
theorem Parts.mono {h : AH} {G G' : Nat → Prop} {lo : Nat} {v : AVal} {fs : List (List Ft)} (k : Parts h G lo v fs) (hG : ∀ b, G b → G' b) : Parts h G' lo v fs := by
 obtain ⟨sls, h1, h2, h3, h4⟩ := k
 exact ⟨sls, h1, h2, fun b q => hG b (h3 b q), fun k sl f q1 q2 => ⟨(h4 k sl f q1 q2).1, fun b q => hG b ((h4 k sl f q1 q2).2 b q)⟩⟩
def KnownIn (R : RoadV) (h : AH) (G : Nat → Prop) (lo bm : Nat) (hs : List (List Int)) : Prop :=
 ∃ L : List (List Int × AVal), L.map (fun x => x.1) = hs.map keyL ∧ Has h bm (.map (esN L) L.length) ∧ G bm ∧ ∀ (i : Nat) l x, hs[i]? = some l → L[i]? = some x → Parts h G lo x.2 (R.fates l)
theorem KnownIn.keep {R : RoadV} {h h' : AH} {G : Nat → Prop} {lo bm : Nat} {hs : List (List Int)} (k : KnownIn R h G lo bm hs) (hn : h.next ≤ h'.next) (he : ∀ b, b < h.next → G b → h'.get b = h.get b) : KnownIn R h' G lo bm hs := by
 obtain ⟨L, h1, h2, h3, h4⟩ := k
 exact ⟨L, h1, h2.keep hn (he _ h2.1 h3), h3, fun i l x q1 q2 => (h4 i l x q1 q2).keep hn he⟩
theorem KnownIn.mono {R : RoadV} {h : AH} {G G' : Nat → Prop} {lo bm : Nat} {hs : List (List Int)} (k : KnownIn R h G lo bm hs) (hG : ∀ b, G b → G' b) : KnownIn R h G' lo bm hs := by
 obtain ⟨L, h1, h2, h3, h4⟩ := k
 exact ⟨L, h1, h2, hG _ h3, fun i l x q1 q2 => (h4 i l x q1 q2).mono hG⟩
theorem empty96_ok {sl : AVal} {n : Nat} (hl : lenA sl = some n) {h : AH} : Runs Tryz.prog 96 [sl] h (fun en h' => en = .ret (.bool (decide (n = 0))) ∧ Ext h h') := by
 by_cases q : n = 0
 ·rw [decide_eq_true q]
  have e0 : Ext h h := Ext.refl _
  refine Runs.intro aFunc96 rfl rfl rfl rfl fun rest => ?_;apply gS;refine gR rfl ?_;refine gP ?_;apply gE;apply gS;refine gR rfl ?_;refine gP ?_;refine gO rfl rfl (aOp_lenSlice Tryz.underlying120 rfl (by assumption)) rfl ?_;refine gO rfl rfl (kET rfl rfl) rfl ?_;refine gP ?_;apply gE;exact gW Tryz.func96 rfl rfl ⟨rfl, e0⟩
 ·rw [decide_eq_false q]
  have e0 : Ext h h := Ext.refl _
  refine Runs.intro aFunc96 rfl rfl rfl rfl fun rest => ?_;apply gS;refine gR rfl ?_;refine gP ?_;apply gE;apply gS;refine gR rfl ?_;refine gP ?_;refine gO rfl rfl (aOp_lenSlice Tryz.underlying120 rfl (by assumption)) rfl ?_;refine gO rfl rfl (kEF rfl rfl) rfl ?_;refine gP ?_;apply gE;exact gW Tryz.func96 rfl rfl ⟨rfl, e0⟩
theorem fillV {v z : AVal} (hv : v.cells = [v]) : aFillA (fun i => some (i * 1, 1)) (repl [z] 1) [(0, v)] = some [v] := by
 show (match some (0 * 1, 1) with | some (off, size) => cond (Nat.beq v.cells.length size) (match splice [z] off v.cells with | some cs => some cs | none => none) none | none => none) = some [v]
 rw [hv]
 rfl
theorem len_empty {α : Type} (l : List α) : decide (l.length = 0) = l.isEmpty := by cases l <;> simp
theorem flat_one {α β : Type} (f : α → β) : ∀ l : List α, (l.flatMap fun x => [f x]) = l.map f
 | [] => rfl
 | x :: l => by rw [List.flatMap_cons, flat_one f l]; rfl
theorem zip_fst {α β : Type} : ∀ {l : List α} {m : List β}, l.length = m.length → (l.zip m).map (fun x => x.1) = l
 | [], [], _ => rfl
 | [], _ :: _, h => by simp at h
 | _ :: _, [], h => by simp at h
 | a :: l, b :: m, h => by rw [List.zip_cons_cons, List.map_cons, zip_fst (by simpa using h)]
theorem zip_any {α β : Type} {p : β → Bool} : ∀ {l : List α} {m : List β}, l.length = m.length → (l.zip m).any (fun x => p x.2) = m.any p
 | [], [], _ => rfl
 | [], _ :: _, h => by simp at h
 | _ :: _, [], h => by simp at h
 | a :: l, b :: m, h => by rw [List.zip_cons_cons, List.any_cons, List.any_cons, zip_any (by simpa using h)]
theorem can_any {R : RoadV} {l : List Int} : (R.fates l).any (fun f => f.isEmpty) = !R.can l := by
 unfold RoadV.can
 rw [← any_not]
 simp
theorem truths_ok {R : RoadV} (O : R.Ok) {lo : Nat} {gp ge : AVal} {h : AH} (A : GroundAt h R lo gp ge) : Runs Tryz.prog 52 [.agg [gp, ge]] h (fun en h' => Ext h h' ∧ ((R.possible = true ∧ ∃ bm, en = .ret (.map bm) ∧ h.next ≤ bm ∧ KnownIn R h' (fun b => h.next ≤ b) h.next bm R.hs) ∨ (R.possible = false ∧ en = .pan (refusal 10)))) := by
 have hnp := O.np
 have hne := O.ne
 have hlenP := A.psl.len
 rw [List.length_map] at hlenP
 have e0 : Ext h h := Ext.refl _
 refine Runs.intro aFunc52 rfl rfl rfl rfl fun rest => ?_;apply gS;refine gR rfl ?_;refine GoR.box rfl rfl rfl rfl rfl rfl fun h0 x0 f0 => ?_;have := e0.1;replace e0 := e0.trans x0;have := f0.1;refine gP ?_;apply gE;apply gS;refine gR rfl ?_;refine GoR.makeMap rfl rfl rfl rfl rfl fun h1 x1 f1 => ?_;have := e0.1;have := f0.1;replace f0 := f0.ext x1;replace e0 := e0.trans x1;have := f1.1;refine GoR.alloc rfl rfl rfl zt80 rfl rfl fun h2 x2 f2 => ?_;have := e0.1;have := f1.1;have := f0.1;replace f1 := f1.ext x2;replace f0 := f0.ext x2;replace e0 := e0.trans x2;have := f2.1;refine GoR.store rfl rfl rfl rfl rfl rfl f2 rfl sz80 rfl rfl rfl fun h3 u3 => ?_;replace f2 := u3.has f2;replace f1 := f1.upd u3 (by omega);replace f0 := f0.upd u3 (by omega);replace e0 := e0.upd u3 (by omega);apply gE;apply gS;refine gR rfl ?_;refine GoR.alloc rfl rfl rfl zt121 rfl rfl fun h4 x4 f4 => ?_;have := e0.1;have := f2.1;have := f1.1;have := f0.1;replace f2 := f2.ext x4;replace f1 := f1.ext x4;replace f0 := f0.ext x4;replace e0 := e0.trans x4;have := f4.1;refine GoR.store rfl rfl rfl rfl rfl rfl f4 rfl sz121 rfl rfl rfl fun h5 u5 => ?_;replace f4 := u5.has f4;replace f2 := f2.upd u5 (by omega);replace f1 := f1.upd u5 (by omega);replace f0 := f0.upd u5 (by omega);replace e0 := e0.upd u5 (by omega);apply gE;iterate 2 apply gS
 refine gR rfl ?_;refine gO rfl rfl (ld77 rfl f0 rfl) rfl ?_;refine GoR.call rfl rfl (aCF aFunc97 rfl) (hauls_ok (A.ext e0)) ?_ (by rintro _ _ ⟨bf, q, _, HA, l1⟩; cases q);rintro v6 h6 ⟨bf, q, x6, HA, l1⟩;cases q;refine ⟨_, rfl, ?_⟩;have := e0.1;replace f4 := f4.ext x6;replace f2 := f2.ext x6;replace f1 := f1.ext x6;replace f0 := f0.ext x6;replace e0 := e0.trans x6;apply gE;refine Go.block noJ_ok ?_
 have hb0 := f0.1
 have hb1 := f1.1
 have hb2 := f2.1
 have hb4 := f4.1
 have hx0 := e0.1
 have hn1 : h.next < h0.next := by omega
 have hn2 : h0.next < h1.next := by omega
 have hu3 := u3.1
 have hn3 : h1.next < h3.next := by omega
 have hu5 := u5.1
 have hn5 : h3.next < h5.next := by omega
 have eF : ∀ {hh}, ExtF (fun b => b = h0.next) h6 hh → Ext h hh := fun x => x.low e0 fun b q => by omega
 refine Go.rangeF (items := haulI [] R.es) (A := HaulsA R lo gp ge bf) (fun b => b = h0.next) (fun j hh G => KnownIn R hh G h.next h0.next (((haulsV R.es).take j).filter R.can) ∧ ∀ b, G b → h.next ≤ b ∧ b < hh.next ∧ (b < h6.next → b = h0.next)) (fun c hh G => False)
  rfl aFunc133 Tryz.func52 (hauls1_it O lo gp ge bf) ?_ ⟨⟨[], rfl, f1, rfl, fun i l x q => by simp at q⟩, fun b q => by subst q; exact ⟨by omega, hb1, fun _ => rfl⟩⟩ ?_ (fun _ _ _ _ q => q.elim) ?_ (fun _ _ _ _ q => q.elim) ?_ ?_ (fun _ _ _ _ _ _ _ _ _ q => q.elim)
 ·intro h' x
  exact ⟨HA.f.extF x (by omega), A.ext (eF x)⟩
 ·rintro k hh G b ⟨_, hG⟩ q;exact (hG b q).2.1
 ·rintro k h8 h9 G ⟨K, hG⟩ hn hk;exact ⟨K.keep hn fun b b1 b2 => hk b b1 (.inr b2), fun b q => ⟨(hG b q).1, by have := (hG b q).2.1; omega, (hG b q).2.2⟩⟩
 ·rintro j item hj;refine ⟨_, rfl, ?_⟩;rintro hh G lb r0 fr rest' Q' ⟨K, hG⟩ x1 hsub hnl hlb fl hready contT contF
  obtain ⟨l, hl, rfl⟩ := haul_at hj
  have hlm := List.mem_of_getElem? hl
  have hll := hauls_len hlm
  have hw := padZ_len (l := l) (by omega)
  have ka := haulC_len hw (l.length : Int)
  have kb := haulC_scal (padZ l) (l.length : Int)
  have hnx : ((haulsV R.es).take (j + 1)).filter R.can = ((haulsV R.es).take j).filter R.can ++ (if R.can l = true then [l] else []) := by
   rw [List.take_add_one, hl, Option.toList_some, List.filter_append]
   congr 1
   cases q : R.can l <;> simp [List.filter_cons, q]
  have hx1 := x1.1
  have hfl := fl.1
  replace f0 := f0.extF x1 (by omega);replace f2 := f2.extF x1 (by omega);replace f4 := f4.extF x1 (by omega)
  have GA := A.ext (eF x1)
  have y9 : ExtF (fun b => G b ∨ b = lb) hh hh := ExtF.of (Ext.refl _)
  have e9 : Ext hh hh := Ext.refl _
  clear e0 f1;refine gR rfl ?_;refine GoR.alloc rfl rfl rfl zt126 rfl rfl fun h7 x7 f7 => ?_;have := e9.1;have := fl.1;have := f0.1;have := f2.1;have := f4.1;replace fl := fl.ext x7;replace f0 := f0.ext x7;replace f2 := f2.ext x7;replace f4 := f4.ext x7;replace e9 := e9.trans x7;replace y9 := y9.ext x7;have := f7.1;refine GoR.store rfl rfl rfl rfl rfl rfl f7 rfl sz126 (beq_len ka) kb (splice_whole ka.symm) fun h8 u8 => ?_;replace f7 := u8.has f7;replace fl := fl.upd u8 (by omega);replace f0 := f0.upd u8 (by omega);replace f2 := f2.upd u8 (by omega);replace f4 := f4.upd u8 (by omega);replace e9 := e9.upd u8 (by omega);replace y9 := y9.upd u8 (.inr (by omega));apply gE;refine Go.beginRound fl hready fun h15 u15 => ?_;replace f0 := f0.upd u15 (by omega);replace f2 := f2.upd u15 (by omega);replace f4 := f4.upd u15 (by omega);replace f7 := f7.upd u15 (by omega);replace fl := u15.has fl;replace y9 := y9.upd u15 (.inl (.inr rfl))
  have hy9 := y9.1
  have hn15 : h15.next = h8.next := u15.1
  have hlb6 : h6.next ≤ lb := hlb
  have GB : GroundAt h15 R lo gp ge := A.ext (eF (x1.trans (fun b q => by
   rcases q with q | q
   ·by_cases z : b < h6.next
    ·exact .inl ((hG b q).2.2 z)
    ·exact .inr (by omega)
   ·exact .inr (by omega)) y9))
  have K15 := K.keep (h' := h15) (by omega) (fun b b1 b2 => by rw [u15.2.2 b (fun z => hnl (by rw [← z]; exact b2)), e9.2 b b1])
  clear e9
  have e0 : Ext h15 h15 := Ext.refl _
  refine Go.block noJ_ok ?_;apply gS;refine gR rfl ?_;refine gP ?_;apply gE;iterate 2 apply gS
  refine gR rfl ?_;refine gO rfl rfl (fa77_0 rfl) rfl ?_;refine gO rfl rfl (ld74 rfl f0 rfl) rfl ?_;refine gO rfl rfl (aOp_lenSlice Tryz.underlying74 rfl (by assumption)) rfl ?_;refine gP ?_;apply gE;refine Go.block noJ_ok ?_
  have hb0' := f0.1
  have hb2' := f2.1
  have hb4' := f4.1
  have hb7' := f7.1
  have hbl' := fl.1
  have hfl2 := fates_len R l
  refine Go.loopKeep (fun a : Nat × AVal × List AVal => [(1, .ptr h.next 0), (3, .ptr h1.next 0), (4, .ptr h3.next 0), (5, .ptr hh.next 0), (6, a.2.1), (14, .int .i64 R.ps.length), (15, .int .i64 (a.1 : Nat))])
   (fun m a h' => m + a.1 = R.ps.length ∧ a.2.2.length = a.1 ∧ Ext h15 h' ∧ Grow h' 120 1 h15.next a.2.1 a.1 a.2.2 ∧ (∀ (k : Nat) sl f, a.2.2[k]? = some sl → (R.fates l)[k]? = some f → Grow h' 87 14 h15.next sl f.length (f.flatMap Ft.cells)) ∧ Has h' h.next (.cells .plain [gp, ge] 77) ∧ Has h' h1.next (.cells .plain [.map h0.next] 80) ∧ Has h' h3.next (.cells .plain [.func (.func 96) [] []] 121) ∧ Has h' hh.next (.cells .plain (haulC (padZ l) l.length) 126) ∧ Has h' lb (.loop { r0 with state := .busy }))
   (n := R.ps.length) (0, .nilslice, []) ⟨rfl, rfl, rfl, rfl, rfl, rfl, rfl, trivial⟩ ⟨rfl, rfl, e0, Grow.nil _ _ _ _, fun k sl f q => by simp at q, f0, f2, f4, f7, fl⟩ ?_
  clear e0 f0 f2 f4 f7 fl;rintro m ⟨i, s, sls⟩ hc ⟨hm, hsl, e0, gr, grs, f0, f2, f4, f7, fl⟩ again
  dsimp only at hm hsl gr grs ⊢
  have hce := e0.1
  have GC := GB.ext e0
  have e9 : Ext hc hc := Ext.refl _
  by_cases hi : i < R.ps.length
  ·obtain ⟨p, hp⟩ : ∃ p, R.ps[i]? = some p := ⟨R.ps[i], by simp [hi]⟩
   have hpO := O.p p (List.mem_of_getElem? hp)
   have hfi := fates_at (R := R) (ls := l) hp
   apply gS;refine gR rfl ?_;refine gO rfl rfl (kLT rfl rfl) rfl ?_;apply gE;apply gS;refine gC (b := true) rfl ?_;refine gD ?_;apply gS;refine Go.block noJ_ok ?_;apply gS;refine gR rfl ?_;iterate 2 refine gP ?_
   apply gE;refine gR rfl ?_;refine gP ?_;refine gO rfl rfl (ld77 rfl f0 rfl) rfl ?_;refine gP ?_;refine gO rfl rfl (ld126 rfl f7 (slice_all ka)) rfl ?_;refine GoR.call rfl rfl (aCF aFunc99 rfl) (fates_ok (part := (i : Int)) (w := padZ l) (n := (l.length : Int)) (GC.ext e9)) ?_ (by rintro _ _ ⟨bg, bp, bh, q, _, FA, l1, l2, l3⟩; cases q);rintro v16 h16 ⟨bg, bp, bh, q, x16, FA, l1, l2, l3⟩;cases q;refine ⟨_, rfl, ?_⟩;have := e0.1;have := e9.1;replace f0 := f0.ext x16;replace f2 := f2.ext x16;replace f4 := f4.ext x16;replace f7 := f7.ext x16;replace fl := fl.ext x16;replace e0 := e0.trans x16;replace e9 := e9.trans x16;refine GoR.call rfl rfl (aCF aFunc98 rfl) (collect_ok aFunc137 (fates1_it O hp hw (loads_pad O hlm) (l.length : Int) bg bp bh) (fates_fit O) (Nat.le_trans (fates_few hpO) (by decide)) (fun h' x => ⟨FA.g.ext x, FA.p.ext x, FA.w.ext x, FA.A.ext x⟩)) ?_ (by rintro _ _ ⟨s9, q, _, _⟩; cases q);rintro v17 h17 ⟨s9, q, x17, f17⟩;cases q;refine ⟨_, rfl, ?_⟩;have := e0.1;have := e9.1;replace f0 := f0.ext x17;replace f2 := f2.ext x17;replace f4 := f4.ext x17;replace f7 := f7.ext x17;replace fl := fl.ext x17;replace e0 := e0.trans x17;replace e9 := e9.trans x17;rw [fates_pad hll] at f17
   have hs17 := grow_scal f17
   refine GoR.buildSl rfl rfl (ps := [(0, v17)]) (cs := [v17]) Tryz.underlying127 rfl sz120 zt120 rfl rfl (fillV hs17.2) rfl fun h18 x18 f18 => ?_
   have hx18 := x18.1
   have hx16 := x16.1
   have hx17 := x17.1
   have G18 : Grow h18 120 1 h15.next s i sls := gr.ext (e9.trans x18)
   refine GoR.append1F rfl rfl rfl Tryz.underlying127 Tryz.underlying127 sz120 by120 zt120 rfl rfl rfl rfl f18 rfl hs17.1 G18 (by omega) rfl rfl fun s19 h19 y19 g19 => ?_
   have hy19 := y19.1
   have x0' : Ext h15 h18 := e0.trans x18
   have hx15 := x0'.1
   replace f0 := (f0.ext x18).extF y19 (fun q => by have := (grow_own G18 q).1; omega);replace f2 := (f2.ext x18).extF y19 (fun q => by have := (grow_own G18 q).1; omega);replace f4 := (f4.ext x18).extF y19 (fun q => by have := (grow_own G18 q).1; omega);replace f7 := (f7.ext x18).extF y19 (fun q => by have := (grow_own G18 q).1; omega);replace fl := (fl.ext x18).extF y19 (fun q => by have := (grow_own G18 q).1; omega)
   have z19 : Ext h15 h19 := y19.low x0' (fun b q => (grow_own G18 q).1)
   have sep : ∀ {n : Nat} {sl : AVal} {cs : List AVal} {lo' : Nat}, Grow h18 87 14 lo' sl n cs → ∀ b, sl = .gsl b 0 0 n → s ≠ .gsl b 0 0 i := fun gs b q1 q2 => by
    rcases gs.2 with ⟨z, _⟩ | ⟨_, b', _, z, fz⟩
    ·rw [z] at q1; cases q1
    ·rw [z] at q1;cases q1
     rcases G18.2 with ⟨z2, _⟩ | ⟨_, b2, _, z2, fz2⟩
     ·rw [z2] at q2; cases q2
     ·rw [z2] at q2;cases q2
      have := fz.2.symm.trans fz2.2
      cases this
   clear e0 e9 f18;refine gP ?_;apply gE;refine Go.inBlock noJ_ok ?_;refine gR rfl ?_;refine gO rfl rfl (aA rfl rfl) rfl ?_;refine gP ?_;apply gE;refine again (m - 1) (i + 1, s19, sls ++ [v17]) _ _ (by omega) ⟨rfl, rfl, rfl, rfl, rfl, rfl, rfl, trivial⟩ ⟨by dsimp only; omega, by dsimp only; rw [List.length_append, hsl]; rfl, z19, g19.low (by omega), ?_, f0, f2, f4, f7, fl⟩
   intro k sl f q1 q2
   dsimp only at q1
   have keep : ∀ {n : Nat} {sl : AVal} {cs : List AVal}, Grow h18 87 14 h15.next sl n cs → Grow h19 87 14 h15.next sl n cs := fun gs => gs.keep hy19 fun b b1 b2 q => y19.2 b b2 (sep gs b q)
   by_cases z : k < i
   ·rw [List.getElem?_append_left (by omega)] at q1;exact keep ((grs k sl f q1 q2).ext (x16.trans (x17.trans x18)))
   ·have zk : k = i := by
     have := (List.getElem?_eq_some_iff.1 q1).1
     rw [List.length_append, hsl] at this
     simp at this
     omega
    subst zk;rw [List.getElem?_append_right (by omega), hsl, Nat.sub_self] at q1;cases q1;rw [hfi] at q2;cases q2;exact keep ((f17.ext x18).low (by omega))
  ·have hin : i = R.ps.length := by omega
   subst hin
   have hzl : sls.length = (R.fates l).length := by rw [hsl, hfl2]
   have hsz : SliceOf hc 1 s ((sls.zip (R.fates l)).map fun x => [x.1]) := grow_slice (f := fun x : AVal × List Ft => [x.1]) (sz := 1) (fun _ => rfl) (by rw [List.length_zip, ← hzl, Nat.min_self, hsl]) (by rw [flat_one, zip_fst hzl]; exact gr)
   have hco : ∀ (h9 : AH), SliceOf h9 1 s ((sls.zip (R.fates l)).map fun x => [x.1]) → Runs Tryz.prog 100 [s, .func (.func 96) [] []] h9 (fun en h' => en = .ret (.bool ((sls.zip (R.fates l)).any fun x => x.2.isEmpty)) ∧ Ext h9 h') := fun h9 A9 => cont100_ok (fun x : AVal × List Ft => x.1) (caps := []) aFunc96 (fun x => x.2.isEmpty) A9 (by rw [List.length_zip, ← hzl, Nat.min_self, hsl]; omega) (fun x h' hx e => by
    obtain ⟨k, hk⟩ := List.mem_iff_getElem?.1 hx
    obtain ⟨k1, k2⟩ := List.getElem?_zip_eq_some.1 hk
    have := empty96_ok (h := h') (grow_len (grs k _ _ k1 k2))
    rw [len_empty] at this
    exact this)
   rw [zip_any (p := fun f : List Ft => f.isEmpty) hzl, can_any] at hco
   cases hcan : R.can l with
   | false =>
    rw [hcan] at hco hnx;rw [if_neg (by simp), List.append_nil] at hnx;apply gS;refine gR rfl ?_;refine gO rfl rfl (kLF rfl rfl) rfl ?_;apply gE;apply gS;refine gC (b := false) rfl ?_;refine gD ?_;apply gS;refine gR rfl ?_;refine gP ?_;refine gO rfl rfl (ld121 rfl f4 rfl) rfl ?_;refine GoR.call rfl rfl (aCF aFunc100 rfl) (hco _ hsz) ?_ np;rintro v16 h16 ⟨q, x16⟩;cases q;refine ⟨_, rfl, ?_⟩;replace f2 := f2.ext x16;replace f4 := f4.ext x16;replace f7 := f7.ext x16;replace fl := fl.ext x16;replace e0 := e0.trans x16;replace e9 := e9.trans x16;refine gP ?_;apply gE;refine gC (b := false) rfl ?_;refine gD ?_;refine Go.inBlock noJ_ok ?_;exact contT _ _ G ⟨by rw [hnx]; exact K15.keep (e0.1) (fun b b1 b2 => e0.2 b b1), fun b q => ⟨(hG b q).1, by have := (hG b q).2.1; have := e0.1; omega, (hG b q).2.2⟩⟩ (fun b q => .inl q) (y9.ext e0) fl
   | true =>
    rw [hcan] at hco hnx;rw [if_pos rfl] at hnx;apply gS;refine gR rfl ?_;refine gO rfl rfl (kLF rfl rfl) rfl ?_;apply gE;apply gS;refine gC (b := false) rfl ?_;refine gD ?_;apply gS;refine gR rfl ?_;refine gP ?_;refine gO rfl rfl (ld121 rfl f4 rfl) rfl ?_;refine GoR.call rfl rfl (aCF aFunc100 rfl) (hco _ hsz) ?_ np;rintro v16 h16 ⟨q, x16⟩;cases q;refine ⟨_, rfl, ?_⟩;replace f2 := f2.ext x16;replace f7 := f7.ext x16;replace fl := fl.ext x16;replace e0 := e0.trans x16;replace e9 := e9.trans x16;refine gP ?_;apply gE;refine gC (b := true) rfl ?_;refine gR rfl ?_;refine gO rfl rfl (ld80 rfl f2 rfl) rfl ?_;refine gO rfl rfl (ld126 rfl f7 (slice_all ka)) rfl ?_;refine gP ?_
    have z9 := y9.ext e0
    have hx16 := e0.1
    have n16 := e9.1
    obtain ⟨L, k1, k2, k3, k4⟩ := K15.keep hx16 (fun b b1 b2 => e0.2 b b1)
    have hLk : ∀ x, x ∈ L → x.1.length = 11 ∧ keyL l ≠ x.1 := by
     intro x hx
     have hxm : x.1 ∈ (((haulsV R.es).take j).filter R.can).map keyL := by
      rw [← k1]
      exact List.mem_map.2 ⟨x, hx, rfl⟩
     obtain ⟨l', hl', hxl⟩ := List.mem_map.1 hxm
     have hl't := (List.mem_filter.1 hl').1
     have hl'm := List.mem_of_mem_take hl't
     have hl'l := hauls_len hl'm
     rw [← hxl]
     refine ⟨keyL_len (by omega), fun q => ?_⟩
     have := keyL_inj (by omega) q
     subst this
     obtain ⟨j', hj', hjl⟩ := List.mem_take_iff_getElem.1 hl't
     have hjlt := (List.getElem?_eq_some_iff.1 hl).1
     have hjj := (List.getElem?_eq_some_iff.1 hl).2
     have := (List.pairwise_iff_getElem.1 (hauls_nodup R.es)) j' j (by omega) hjlt (by omega)
     exact this (by rw [hjl, hjj])
    refine GoR.mapNewN rfl rfl key126 Tryz.underlying80 rfl rfl (key := keyL l) (by rw [← haulC_key]; rfl) rfl (keyL_len (by omega)) k2 hLk fun h17 u17 => ?_
    have hn17 : h17.next = h16.next := u17.1
    have hkm := k2.1
    have bk : ∀ b, h15.next ≤ b → h17.get b = h16.get b := fun b q => u17.2.2 b (fun z => by have := (hG _ k3).2.1; omega)
    have keep17 : ∀ {el : TypeId} {sz n : Nat} {v : AVal} {cs : List AVal}, Grow hc el sz h15.next v n cs → Grow h17 el sz h15.next v n cs := fun gs => (gs.ext e9).keep (by rw [hn17]; exact Nat.le_refl _) fun b b1 b2 q => bk b b1
    have up : ∀ {el : TypeId} {sz n : Nat} {v : AVal} {cs : List AVal}, Grow h17 el sz h15.next v n cs → ∀ b, v = .gsl b 0 0 n → G b ∨ (hh.next ≤ b ∧ b < h17.next) := fun gs b q => by
     have := grow_own gs q
     exact .inr (by omega)
    replace fl := fl.upd u17 (fun z => hnl (by rw [z]; exact k3));apply gE;refine Go.inBlock noJ_ok ?_;refine contT _ _ (fun b => G b ∨ (hh.next ≤ b ∧ b < h17.next)) ⟨⟨L ++ [(keyL l, s)], ?_, u17.has k2, .inl k3, ?_⟩, ?_⟩ ?_ (z9.upd u17 (.inl (.inl k3))) fl
    ·rw [hnx, List.map_append, List.map_append, k1]
     rfl
    ·intro i l' x q1 q2
     rw [hnx] at q1
     have hLl : L.length = (((haulsV R.es).take j).filter R.can).length := by
      have := congrArg List.length k1
      simpa using this
     by_cases z : i < L.length
     ·rw [List.getElem?_append_left (by omega)] at q1 q2;exact ((k4 i l' x q1 q2).keepM (by rw [hn17]; exact Nat.le_refl _) k2 (fun b b1 b2 b3 => u17.2.2 b b3)).mono fun b q => .inl q
     ·have zi : i = L.length := by
       have := (List.getElem?_eq_some_iff.1 q2).1
       rw [List.length_append] at this
       simp at this
       omega
      subst zi;rw [List.getElem?_append_right (by omega), Nat.sub_self] at q2;rw [List.getElem?_append_right (by omega), hLl, Nat.sub_self] at q1;cases q1;cases q2
      have g17 := keep17 gr
      exact ⟨sls, hzl, by rw [hfl2]; exact g17.low (by omega), fun b q => up g17 b (by rw [← hfl2]; exact q), fun k sl f q1 q2 => ⟨(keep17 (grs k sl f q1 q2)).low (by omega), up (keep17 (grs k sl f q1 q2))⟩⟩
    ·rintro b (q | q)
     ·have := hG b q
      exact ⟨this.1, by omega, this.2.2⟩
     ·exact ⟨by omega, q.2, fun z => by omega⟩
    ·rintro b (q | q)
     ·exact .inl q
     ·exact .inr q.1
 ·rintro d h30 G x30 hGs hnd hd hdd ⟨K, hG⟩
  have e9 := eF x30
  have hx30 := x30.1
  have hlq : (haulI [] R.es).length = (haulsV R.es).length := by simp [haulI]
  rw [hlq, List.take_length] at K;replace f2 := f2.extF x30 (by omega)
  have KK : KnownIn R h30 G h.next h0.next R.hs := K
  obtain ⟨L, k1, k2, k3, k4⟩ := K
  have hLl : L.length = R.hs.length := by
   have := congrArg List.length k1
   rw [List.length_map, List.length_map] at this;exact this
  clear e0 f0 f1 f4
  cases hp : R.possible with
  | true =>
   have hne : R.hs ≠ [] := by
    intro q
    unfold RoadV.possible at hp
    rw [q] at hp;cases hp
   have hlen0 : decide (((esN L).length : Int) = 0) = false := decide_eq_false (by
    rw [esN_len, hLl]
    intro z
    have : R.hs.length = 0 := by omega
    exact hne (List.length_eq_zero_iff.1 this))
   refine Go.inBlock noJ_ok ?_;apply gS;refine gR rfl ?_;refine gO rfl rfl (ld80 rfl f2 rfl) rfl ?_;refine gO rfl rfl (aOp_lenMap Tryz.underlying80 rfl k2 rfl) rfl ?_;refine gO rfl rfl (aOp_eql rfl rfl hlen0) rfl ?_;refine GoR.call rfl rfl (aCF aFunc91 rfl) (refuse_no _ _) ?_ np;rintro v31 h31 ⟨q, x31⟩;cases q;refine ⟨_, rfl, ?_⟩;replace hdd := hdd.ext x31;replace f2 := f2.ext x31;replace k2 := k2.ext x31;replace e9 := e9.trans x31;apply gE;apply gS;refine gR rfl ?_;refine gO rfl rfl (ld80 rfl f2 rfl) rfl ?_;refine gP ?_;apply gE
   have hx31 := x31.1
   exact Go.retC hdd fun h9 u9 => ⟨aResult_of Tryz.func52 rfl rfl, e9.upd u9 (by omega), .inl ⟨rfl, h0.next, rfl, by omega, (KK.keep (h' := h9) (by rw [u9.1]; exact hx31) (fun b b1 b2 => by rw [u9.2.2 b (fun z => hnd (by rw [← z]; exact b2)), x31.2 b b1])).mono fun b q => (hG b q).1⟩⟩
  | false =>
   have hnil : R.hs = [] := by
    unfold RoadV.possible at hp
    cases q : R.hs with
    | nil => rfl
    | cons a b => rw [q] at hp; cases hp
   have hlen0 : decide (((esN L).length : Int) = 0) = true := decide_eq_true (by
    rw [esN_len, hLl, hnil]
    rfl)
   refine Go.inBlock noJ_ok ?_;apply gS;refine gR rfl ?_;refine gO rfl rfl (ld80 rfl f2 rfl) rfl ?_;refine gO rfl rfl (aOp_lenMap Tryz.underlying80 rfl k2 rfl) rfl ?_;refine gO rfl rfl (aOp_eql rfl rfl hlen0) rfl ?_;refine GoR.callP rfl rfl (aCF aFunc91 rfl) (refuse_ok true 10 _) (by rintro _ _ ⟨_, ⟨q, _⟩ | ⟨_, q⟩⟩ <;> cases q) ?_;rintro chain h9 ⟨rfl, ⟨q, _⟩ | ⟨_, q⟩⟩
   ·cases q
   have q := AEnd.pan.inj q
   subst q;exact FLeft.collected (fun q => by cases q) hdd fun h' u => FLeft.pan ⟨e9.upd u (by omega), .inr ⟨rfl, rfl⟩⟩
end Go.Proofs.YtkcimfopboelaaaGreat

set_option linter.unusedSimpArgs false
namespace Go.AbsE
open Go
section
variable {P : Program}
structure TakesV (P : Program) (base : Nat) (y : AVal) (items : List AVal) (J E : Nat → AH → (Nat → Prop) → Prop) : Prop where
 ltJ : ∀ {k h F b}, J k h F → F b → b < h.next
 keepJ : ∀ {k h F h'}, J k h F → h.next ≤ h'.next → (∀ b, b < h.next → (b < base ∨ F b) → h'.get b = h.get b) → J k h' F
 ltE : ∀ {k h F b}, E k h F → F b → b < h.next
 keepE : ∀ {k h F h'}, E k h F → h.next ≤ h'.next → (∀ b, b < h.next → (b < base ∨ F b) → h'.get b = h.get b) → E k h' F
 take : ∀ {k item h F}, items[k]? = some item → J k h F → ∃ x, callY P y [item] h = some x ∧ (∀ v h', x ≠ .val v h') ∧
  Does P x (fun en h' => ExtF F h h' ∧ ∃ F', (∀ b, F' b → F b ∨ h.next ≤ b) ∧ ((en = .ret (.bool true) ∧ J (k + 1) h' F') ∨ (en = .ret (.bool false) ∧ E k h' F')))
theorem TakesV.ext {base : Nat} {y : AVal} {items : List AVal} {J E : Nat → AH → (Nat → Prop) → Prop} (T : TakesV P base y items J E) {k : Nat} {h h' : AH} {F : Nat → Prop} (j : J k h F) (e : Ext h h') : J k h' F := T.keepJ j e.1 fun b hb _ => e.2 b hb
theorem TakesV.keep {base : Nat} {y : AVal} {items : List AVal} {J E : Nat → AH → (Nat → Prop) → Prop} (T : TakesV P base y items J E) {k : Nat} {h h' : AH} {F : Nat → Prop} (j : J k h F) (hn : h.next ≤ h'.next) (he : ∀ b, b < h.next → (b < base ∨ F b) → h'.get b = h.get b) : J k h' F := T.keepJ j hn he
theorem TakesV.shift {base : Nat} {y : AVal} {items sub : List AVal} {J E : Nat → AH → (Nat → Prop) → Prop} (T : TakesV P base y items J E) (o : Nat) (hs : ∀ (n : Nat) v, sub[n]? = some v → items[o + n]? = some v) :
  TakesV P base y sub (fun n => J (o + n)) (fun n => E (o + n)) where
 ltJ := fun j => T.ltJ j
 keepJ := fun j => T.keepJ j
 ltE := fun j => T.ltE j
 keepE := fun j => T.keepE j
 take := fun h j => T.take (hs _ _ h) j
def IterV (P : Program) (g : FuncId) (first cap : List AVal) (items : List AVal) (A : AH → Prop) : Prop :=
 ∀ (y : AVal) (base : Nat) (J E : Nat → AH → (Nat → Prop) → Prop) (h : AH) (F : Nat → Prop), y.cells = [y] → scalars [y] = true → (∀ h', ExtF F h h' → A h') → base ≤ h.next → TakesV P base y items J E → J 0 h F → Runs P g (first ++ [y] ++ cap) h (IterFR F J E items.length h)
theorem IterV.mono {g : FuncId} {first cap : List AVal} {items : List AVal} {A A' : AH → Prop} (k : IterV P g first cap items A) (hA : ∀ h, A' h → A h) : IterV P g first cap items A' :=
 fun y base J E h F hyc hys hA' => k y base J E h F hyc hys fun h' x => hA h' (hA' h' x)
theorem Go.rangeV {fn n : Nat} {ds : List ADef} {dk : Bool} {rst : List AFr} {k : List AItem} {Q : AM → Prop} {t : Tr AVal} {h : AH} {x : Operand} {params : Array Tmp} {assign body : Code} {g : FuncId} {gf fnr : Func} {first cap : List AVal}
  {items : List AVal} {A : AH → Prop} (F0 : Nat → Prop) (Inv : Nat → AH → (Nat → Prop) → Prop) (Fin : Code → AH → (Nat → Prop) → Prop)
  (hx : ev t x = some (.func (.func g) first cap)) (hg : aFunc P g = some gf) (hfn : P.funcs[fn]? = some fnr) (it : IterV P g first cap items A)
  (hA : ∀ h', ExtF F0 h h' → A h') (hI : Inv 0 h F0)
  (lI : ∀ k hh F b, Inv k hh F → F b → b < hh.next) (lF : ∀ c hh F b, Fin c hh F → F b → b < hh.next)
  (kI : ∀ k h1 h2 F, Inv k h1 F → h1.next ≤ h2.next → (∀ b, b < h1.next → (b < h.next ∨ F b) → h2.get b = h1.get b) → Inv k h2 F)
  (kF : ∀ c h1 h2 F, Fin c h1 F → h1.next ≤ h2.next → (∀ b, b < h1.next → (b < h.next ∨ F b) → h2.get b = h1.get b) → Fin c h2 F)
  (bd : ∀ (j : Nat) item, items[j]? = some item → ∃ t1, putArgs t n params.toList [item] = some t1 ∧ ∀ (hh : AH) (F : Nat → Prop) (lb : Nat) (r0 : ALoop) (fr : AFr) (rest : List AFr) (Q' : AM → Prop), Inv j hh F → ExtF F0 h hh → (∀ b, F b → F0 b ∨ h.next ≤ b) → ¬ F lb → h.next ≤ lb → Has hh lb (.loop r0) → r0.state = .ready →
   (∀ tt h' F', Inv (j + 1) h' F' → (∀ b, F' b → F b ∨ hh.next ≤ b) → ExtF (fun b => F b ∨ b = lb) hh h' → Has h' lb (.loop { r0 with state := .busy }) → Go P ⟨fn, n, [], false, some lb, fr :: rest⟩ [] tt h' Q') →
   (∀ c tt h' kk F', (c = .ret ∨ ∃ id, c = .exit id ∧ exitA id kk = none) → Fin c h' F' → (∀ b, F' b → F b ∨ hh.next ≤ b) → ExtF (fun b => F b ∨ b = lb) hh h' → Has h' lb (.loop { r0 with state := .busy }) → Go P ⟨fn, n, [], false, some lb, fr :: rest⟩ (.code c :: kk) tt h' Q') →
   Go P ⟨fn, n, [], false, some lb, fr :: rest⟩ [.code assign, .beginRound, .code body] t1 hh Q')
  (nx : ∀ d h3 F, ExtF F0 h h3 → (∀ b, F b → F0 b ∨ h.next ≤ b) → ¬ F d → h.next ≤ d → Has h3 d (.deferred (some [])) → Inv items.length h3 F → Go P ⟨fn, n, .collected d :: ds, dk, none, rst⟩ k t h3 Q)
  (fx : ∀ c d h3 F, ExtF F0 h h3 → (∀ b, F b → F0 b ∨ h.next ≤ b) → ¬ F d → h.next ≤ d → Has h3 d (.deferred (some [])) → Fin c h3 F → Go P ⟨fn, n, .collected d :: ds, dk, none, rst⟩ (.code c :: k) t h3 Q) :
  Go P ⟨fn, n, ds, dk, none, rst⟩ (.code (.rangeFunc x params assign body) :: k) t h Q := by
 refine Go.rangeFunc hx hg fun d lb h2 hd hlb e2 fd fl => ?_
 obtain ⟨r0, hr0, fl⟩ : ∃ r0 : ALoop, r0 = _ ∧ Has h2 lb (.loop r0) := ⟨_, rfl, fl⟩
 have n2 := e2.1
 have nl := fl.1
 have nd := fd.1
 have hF0 : ∀ b, F0 b → b < h.next := fun b q => lI _ _ _ _ hI q
 let Agree : AH → Prop := fun hh => h2.next ≤ hh.next ∧ ∀ b, b < h2.next → ¬ F0 b → b ≠ lb → hh.get b = h2.get b
 let Sub : (Nat → Prop) → Prop := fun F => ∀ b, F b → F0 b ∨ h2.next ≤ b
 let J : Nat → AH → (Nat → Prop) → Prop := fun j hh G => ∃ F, (∀ b, G b ↔ (F b ∨ b = lb)) ∧ Sub F ∧ Inv j hh F ∧ Agree hh ∧ Has hh lb (.loop r0)
 let E : Nat → AH → (Nat → Prop) → Prop := fun j hh G => ∃ F, (∀ b, G b ↔ (F b ∨ b = lb)) ∧ Sub F ∧ ∃ c, Fin c hh F ∧ Agree hh ∧ Has hh lb (.loop { r0 with state := .done, pending := some c })
 have hsub : ∀ {hh}, Agree hh → ExtF F0 h hh := fun {hh} a => ⟨by have := a.1; omega, fun b hb hn => by rw [a.2 b (by omega) hn (by omega), e2.2 b hb]⟩
 have hd' : ∀ {hh}, Agree hh → Has hh d (.deferred (some [])) := fun {hh} a => ⟨by have := a.1; omega, by rw [a.2 d nd (fun q => by have := hF0 d q; omega) (by omega)]; exact fd.2⟩
 have agU : ∀ {h1 h3 : AH} {o : ABlk}, Agree h1 → Upd h1 lb o h3 → Agree h3 := fun a u => ⟨by rw [u.1]; exact a.1, fun b hb h1 h2 => by rw [u.2.2 b h2]; exact a.2 b hb h1 h2⟩
 have low : ∀ {F}, Sub F → ∀ b, F b → F0 b ∨ h.next ≤ b := fun s b q => (s b q).elim .inl fun q => .inr (by omega)
 have nlb : ∀ {F}, Sub F → ¬ F lb := fun s q => (s lb q).elim (fun q => by have := hF0 _ q; omega) fun q => by omega
 have nd' : ∀ {F}, Sub F → ¬ F d := fun s q => (s d q).elim (fun q => by have := hF0 _ q; omega) fun q => by omega
 have tk : TakesV P h2.next (.yield lb) items J E := by
  refine ⟨?_, ?_, ?_, ?_, ?_⟩
  ·rintro j hh G b ⟨F, hG, s, i, a, f⟩ q
   rcases (hG b).1 q with q | rfl
   ·exact lI _ _ _ _ i q
   ·exact f.1
  ·rintro j hh G h' ⟨F, hG, s, i, a, f⟩ hn he
   have := a.1
   refine ⟨F, hG, s, kI _ _ _ _ i hn fun b hb q => he b hb (q.elim (fun q => .inl (by omega)) fun q => .inr ((hG b).2 (.inl q))), ⟨by omega, fun b hb h1 h2' => by rw [he b (by omega) (.inl hb)]; exact a.2 b hb h1 h2'⟩, ⟨by have := f.1; omega, by rw [he lb f.1 (.inr ((hG lb).2 (.inr rfl)))]; exact f.2⟩⟩
  ·rintro j hh G b ⟨F, hG, s, c, i, a, f⟩ q
   rcases (hG b).1 q with q | rfl
   ·exact lF _ _ _ _ i q
   ·exact f.1
  ·rintro j hh G h' ⟨F, hG, s, c, i, a, f⟩ hn he
   have := a.1
   refine ⟨F, hG, s, c, kF _ _ _ _ i hn fun b hb q => he b hb (q.elim (fun q => .inl (by omega)) fun q => .inr ((hG b).2 (.inl q))), ⟨by omega, fun b hb h1 h2' => by rw [he b (by omega) (.inl hb)]; exact a.2 b hb h1 h2'⟩, ⟨by have := f.1; omega, by rw [he lb f.1 (.inr ((hG lb).2 (.inr rfl)))]; exact f.2⟩⟩
  ·rintro j item hh G hit ⟨F, hG, s, i, a, f⟩
   obtain ⟨t1, p1, p2⟩ := bd j item hit
   refine ⟨_, rfl, (fun _ _ q => by cases q), ?_⟩
   subst hr0
   refine Does.round f p1 hfn fun fr rest Q' hr hpn => ?_
   have hGx : ∀ {h'}, ExtF (fun b => F b ∨ b = lb) hh h' → ExtF G hh h' := fun x' => ⟨x'.1, fun b hb hn => x'.2 b hb fun q => hn ((hG b).2 q)⟩
   have hlt2 : h2.next ≤ hh.next := a.1
   have ag : ∀ {h'}, ExtF (fun b => F b ∨ b = lb) hh h' → Agree h' := fun x' => ⟨by have := a.1; have := x'.1; omega, fun b hb h1 h2' => by
    rw [x'.2 b (by have := a.1; omega) (fun q => q.elim (fun q => (s b q).elim h1 fun q => by omega) h2')]
    exact a.2 b hb h1 h2'⟩
   have sub' : ∀ {F' : Nat → Prop}, (∀ b, F' b → F b ∨ hh.next ≤ b) → Sub F' := fun q b hb => (q b hb).elim (s b) fun q => .inr (by omega)
   have upx : ∀ {h' h''} {o : ABlk}, ExtF (fun b => F b ∨ b = lb) hh h' → Upd h' lb o h'' → ExtF (fun b => F b ∨ b = lb) hh h'' := fun x' u => ⟨by rw [u.1]; exact x'.1, fun b hb hn => by rw [u.2.2 b (fun q => hn (.inr q))]; exact x'.2 b hb hn⟩
   have own : ∀ {F' : Nat → Prop}, (∀ b, F' b → F b ∨ hh.next ≤ b) → ∀ b, (F' b ∨ b = lb) → G b ∨ hh.next ≤ b := fun q b z => z.elim (fun z => (q b z).elim (fun z => .inl ((hG b).2 (.inl z))) .inr) fun z => .inl ((hG b).2 (.inr z))
   refine p2 hh F lb _ fr rest Q' i (hsub a) (low s) (nlb s) (by omega) f rfl ?_ ?_
   ·intro tt h' F' i' so x' f'
    refine Go.roundEnd f' fun h'' u => ?_
    refine hr (.bool true) h'' ⟨hGx (upx x' u), fun b => F' b ∨ b = lb, own so, .inl ⟨rfl, F', fun b => Iff.rfl, sub' so, kI _ _ _ _ i' (by rw [u.1]; exact Nat.le_refl _) (fun b hb q => u.2.2 b (fun z => by subst z; exact q.elim (fun q => by omega) (nlb (sub' so)))), agU (ag x') u, u.has f'⟩⟩
   ·intro c tt h' kk F' hc i' so x' f'
    have fin : ∀ h'', Upd h' lb (.loop { state := .done, pending := some c, fn := fn, n := n, tmps := t, params := params.toList, assign := assign, body := body, defers := d }) h'' → ∃ fr', fr.finish (.bool false) = some fr' ∧ Reach P ⟨fr' :: rest, h''⟩ Q' := by
     intro h'' u
     exact hr (.bool false) h'' ⟨hGx (upx x' u), fun b => F' b ∨ b = lb, own so, .inr ⟨rfl, F', fun b => Iff.rfl, sub' so, c, kF _ _ _ _ i' (by rw [u.1]; exact Nat.le_refl _) (fun b hb q => u.2.2 b (fun z => by subst z; exact q.elim (fun q => by omega) (nlb (sub' so)))), agU (ag x') u, u.has f'⟩⟩
    rcases hc with rfl | ⟨id, rfl, hk⟩
    ·exact Go.roundRet f' fin
    ·exact Go.roundExit f' hk fin
 have ag2 : Agree h2 := ⟨Nat.le_refl _, fun _ _ _ _ => rfl⟩
 have s0 : Sub F0 := fun b q => .inl q
 have i2 : Inv 0 h2 F0 := kI _ _ _ _ hI n2 (fun b hb _ => e2.2 b hb)
 refine ⟨IterFR (fun b => F0 b ∨ b = lb) J E items.length h2, it (.yield lb) h2.next J E h2 (fun b => F0 b ∨ b = lb) rfl rfl (fun h' x => hA h' ⟨by have := x.1; omega, fun b hb hn => by rw [x.2 b (by omega) (fun q => q.elim hn (fun q => by omega)), e2.2 b hb]⟩) (Nat.le_refl _) tk ⟨F0, fun b => Iff.rfl, s0, i2, ag2, fl⟩, (fun chain h' q => by cases q.1), ?_⟩
 rintro v h' ⟨q, x', G, hGG, j | ⟨kk, hk, j⟩⟩
 ·obtain ⟨F, hG, s, i, a, f⟩ := j
  refine ⟨r0, f, by rw [hr0]; exact (fun q => by cases q), fun h3 u => ?_⟩
  have hp : r0.pending = none := by rw [hr0]
  rw [hp]
  exact nx d h3 F (hsub (agU a u)) (low s) (nd' s) (by omega) (hd' (agU a u)) (kI _ _ _ _ i (by rw [u.1]; exact Nat.le_refl _) (fun b hb q => u.2.2 b (fun z => by subst z; exact q.elim (fun q => by omega) (nlb s))))
 ·obtain ⟨F, hG, s, c, i, a, f⟩ := j
  refine ⟨_, f, (fun q => by cases q), fun h3 u => ?_⟩
  exact fx c d h3 F (hsub (agU a u)) (low s) (nd' s) (by omega) (hd' (agU a u)) (kF _ _ _ _ i (by rw [u.1]; exact Nat.le_refl _) (fun b hb q => u.2.2 b (fun z => by subst z; exact q.elim (fun q => by omega) (nlb s))))
end
end Go.AbsE

namespace Go.Proofs.YtkcimfopboelaaaGreat
open Go Go.AbsE
set_option linter.unusedSimpArgs false
set_option maxRecDepth 100000
set_option maxHeartbeats 0
set_option linter.unusedVariables false
theorem joinP_min (a b : Int) : (if b < a then b else a) = min a b := by split <;> omega
theorem joinP_max (a b : Int) : (if a < b then b else a) = max a b := by split <;> omega
theorem join_ok {L : List (Int × Int)} {s : AVal} {h : AH} (hs : SliceOf h 2 s (L.map spC)) (hL : L.length ≤ 100) : Runs Tryz.prog 101 [s] h (fun en h' => en = .ret (.agg (spC (joinL L))) ∧ Ext h h') := by
 have hl := hs.len
 rw [List.length_map] at hl
 have e0 : Ext h h := Ext.refl _
 refine Runs.intro aFunc101 rfl rfl rfl rfl fun rest => ?_;apply gS;refine gR rfl ?_;refine GoR.alloc rfl rfl rfl zt29 rfl rfl fun h0 x0 f0 => ?_;have := e0.1;replace e0 := e0.trans x0;have := f0.1;apply gE;apply gS;refine gR rfl ?_;refine gO rfl rfl (aOp_build zt29 hu29 pl29 rfl rfl) rfl ?_;refine GoR.alloc rfl rfl rfl zt29 rfl rfl fun h1 x1 f1 => ?_;have := e0.1;have := f0.1;replace f0 := f0.ext x1;replace e0 := e0.trans x1;have := f1.1;refine GoR.store rfl rfl rfl rfl rfl rfl f1 rfl sz29 rfl rfl rfl fun h2 u2 => ?_;replace f1 := u2.has f1;replace f0 := f0.upd u2 (by omega);replace e0 := e0.upd u2 (by omega);apply gE;iterate 2 apply gS
 refine gR rfl ?_;refine gP ?_;refine gO rfl rfl (aOp_lenSlice Tryz.underlying147 rfl (by assumption)) rfl ?_;refine gP ?_;apply gE;refine Go.block noJ_ok ?_;refine Go.loopKeep (fun i : Nat => [(2, .ptr h.next 0), (3, .ptr h0.next 0), (7, s), (8, .int .i64 L.length), (9, .int .i64 (i : Nat))]) (fun n i h' => n + i = L.length ∧ Ext h h' ∧ Has h' h.next (.cells .plain [.int .i64 0, .int .i64 0] 29) ∧ Has h' h0.next (.cells .plain (spC (joinL (L.take i))) 29)) (n := L.length) 0 ⟨rfl, rfl, rfl, rfl, rfl, trivial⟩ ⟨rfl, e0, f0, f1⟩ ?_
 have hlt := f0.1
 clear e0 f0 f1;rintro n i hc ⟨hn, e0, f0, f1⟩ again
 by_cases hi : i < L.length
 ·obtain ⟨p, hp⟩ : ∃ p, L[i]? = some p := ⟨L[i], by simp [hi]⟩
  obtain ⟨b, off, q1, q2⟩ := (hs.ext e0).at (i := i) (l := spC p) (by rw [List.getElem?_map, hp]; rfl)
  have hj : joinL (L.take (i + 1)) = joinP (joinL (L.take i)) p := by rw [List.take_add_one, hp]; simp [joinL]
  rw [List.length_map] at q1
  generalize hw : joinL (L.take i) = w at f1 hj
  unfold spC at f1 q2
  apply gS;refine gR rfl ?_;refine gO rfl rfl (kLT rfl rfl) rfl ?_;apply gE;apply gS;refine gC (b := true) rfl ?_;refine gD ?_;apply gS;refine Go.block noJ_ok ?_;apply gS;refine gR rfl ?_;refine gO rfl rfl (aOp_indexAddr (i := i) Tryz.underlying147 sz29 rfl (by assumption) rfl (Nat.ble_eq_true_of_le (by omega))) rfl ?_;refine gO rfl rfl (aOp_loadE ag29 sz29 rfl q2) rfl ?_;refine GoR.alloc rfl rfl rfl zt29 rfl rfl fun h3 x3 f3 => ?_;have := e0.1;have := f0.1;have := f1.1;replace f0 := f0.ext x3;replace f1 := f1.ext x3;replace e0 := e0.trans x3;have := f3.1;refine GoR.store rfl rfl rfl rfl rfl rfl f3 rfl sz29 rfl rfl rfl fun h4 u4 => ?_;replace f3 := u4.has f3;replace f0 := f0.upd u4 (by omega);replace f1 := f1.upd u4 (by omega);replace e0 := e0.upd u4 (by omega);apply gE;refine gR rfl ?_;refine gO rfl rfl (fa29_0 rfl) rfl ?_;refine gO rfl rfl (ld3 rfl f1 rfl) rfl ?_;refine gO rfl rfl (fa29_0 rfl) rfl ?_;refine gO rfl rfl (ld3 rfl f3 rfl) rfl ?_;refine gO rfl rfl (aOp_min2 rfl rfl (joinP_min w.1 p.1)) rfl ?_;refine gO rfl rfl (fa29_1 rfl) rfl ?_;refine gO rfl rfl (ld3 rfl f1 rfl) rfl ?_;refine gO rfl rfl (fa29_1 rfl) rfl ?_;refine gO rfl rfl (ld3 rfl f3 rfl) rfl ?_;refine gO rfl rfl (aOp_max2 rfl rfl (joinP_max w.2 p.2)) rfl ?_;refine gO rfl rfl (aOp_build zt29 hu29 pl29 rfl rfl) rfl ?_;refine GoR.store rfl rfl rfl rfl rfl rfl f1 rfl sz29 rfl rfl rfl fun h5 u5 => ?_;replace f0 := f0.upd u5 (by omega);replace f1 := u5.has f1;replace e0 := e0.upd u5 (by omega);apply gE;refine Go.inBlock noJ_ok ?_;refine gR rfl ?_;refine gO rfl rfl (aA rfl rfl) rfl ?_;refine gP ?_;apply gE;exact again (n - 1) (i + 1) _ _ (by omega) ⟨rfl, rfl, rfl, rfl, rfl, trivial⟩ ⟨by omega, e0, f0, by rw [hj]; exact f1⟩
 ·have ht : L.take i = L := List.take_of_length_le (by omega)
  rw [ht] at f1
  unfold spC at f1 ⊢
  apply gS;refine gR rfl ?_;refine gO rfl rfl (kLF rfl rfl) rfl ?_;apply gE;apply gS;refine gC (b := false) rfl ?_;refine gD ?_;apply gS;refine gR rfl ?_;refine gO rfl rfl (ld29 rfl f1 rfl) rfl ?_;refine GoR.store rfl rfl rfl rfl rfl rfl f0 rfl sz29 rfl rfl rfl fun h3 u3 => ?_;replace f0 := u3.has f0;replace e0 := e0.upd u3 (by omega);apply gE;exact gV (ret_end (aResult_of Tryz.func101 rfl (aResults_cell rfl f0 (inCells_agg ag29 sz29 rfl))) ⟨rfl, e0⟩)
theorem join_nil {h : AH} : Runs Tryz.prog 101 [.nilslice] h (fun en h' => en = .ret (.agg [.int .i64 9223372036854775807, .int .i64 (-9223372036854775808)]) ∧ Ext h h') := join_ok (L := []) .nil (by decide)
theorem joinP_right (a b c : Int × Int) : joinP (joinP a b) c = joinP (joinP a c) b := by
 unfold joinP; ext <;> dsimp only <;> omega
theorem foldl_perm {l m : List (Int × Int)} (h : l.Perm m) : ∀ a, l.foldl joinP a = m.foldl joinP a := by
 induction h with
 | nil => intro a; rfl
 | cons x _ ih => intro a; exact ih _
 | swap x y l => intro a; simp only [List.foldl_cons, joinP_right a y x]
 | trans _ _ i1 i2 => intro a; rw [i1, i2]
theorem joinL_perm {l m : List (Int × Int)} (h : l.Perm m) : joinL l = joinL m := foldl_perm h _
def InSp (p : Int × Int) : Prop := p.1 ≤ 9223372036854775807 ∧ -9223372036854775808 ≤ p.2
theorem joinP_in {a b : Int × Int} (ha : InSp a) (hb : InSp b) : InSp (joinP a b) := by
 unfold InSp joinP at *
 constructor <;> dsimp only <;> omega
theorem foldl_in {l : List (Int × Int)} : ∀ {a}, InSp a → (∀ p, p ∈ l → InSp p) → InSp (l.foldl joinP a) := by
 induction l with
 | nil => intro a h _; exact h
 | cons x l ih => intro a h k; exact ih (joinP_in h (k x (by simp))) fun p hp => k p (by simp [hp])
theorem noSp_in : InSp noSp := by unfold InSp noSp; omega
theorem joinL_in {l : List (Int × Int)} (k : ∀ p, p ∈ l → InSp p) : InSp (joinL l) := foldl_in noSp_in k
theorem joinL_two {a b : Int × Int} (ha : InSp a) : joinL [a, b] = joinP a b := by
 show joinP (joinP noSp a) b = _
 have : joinP noSp a = a := by
  unfold InSp at ha
  unfold joinP noSp
  ext <;> dsimp only <;> omega
 rw [this]
theorem joinL_app (l : List (Int × Int)) (x : Int × Int) : joinL (l ++ [x]) = joinP (joinL l) x := by simp [joinL]
theorem sl2 {h : AH} {b : Nat} {a c : Int × Int} {el : TypeId} (f : Has h b (.cells .plain (spC a ++ spC c) el)) : SliceOf h 2 (.slice b 0 2 2) ([a, c].map spC) :=
 SliceOf.mk' rfl rfl f rfl (fun i l hl => by
  match i, hl with
  | 0, hl => cases hl; rfl
  | 1, hl => cases hl; rfl)
theorem range_flat {α β : Type} (g : List α → List β) (K : List (List α)) : (List.range K.length).flatMap (fun i => g ((K[i]?).getD [])) = K.flatMap g := by
 have : K = (List.range K.length).map fun i => (K[i]?).getD [] := by
  apply List.ext_getElem
  ·simp
  ·intro i h1 h2
   simp [h1]
 conv => rhs; rw [this, List.flatMap_map]
theorem esN_flat {β : Type} {L : List (List Int × AVal)} {K : List (List (List Ft))} (hl : L.length = K.length) (g : List (List Ft) → List β) : (esN L).flatMap (fun en => g ((K[en.born]?).getD [])) = K.flatMap g := by
 have h1 : (esN L).map AMapE.born = List.range L.length := by
  unfold esN
  apply List.ext_getElem
  ·simp
  ·intro i h1 h2
   simp
 rw [← range_flat g K, ← hl, ← h1, List.flatMap_map]
structure KnownAt (R : RoadV) (h : AH) (lo bm : Nat) (L : List (List Int × AVal)) : Prop where
 keys : L.map (fun x => x.1) = R.hs.map keyL
 len : L.length = R.known.length
 m : Has h bm (.map (esN L) L.length)
 parts : ∀ (i : Nat) x fs, L[i]? = some x → R.known[i]? = some fs → ∃ sls : List AVal, sls.length = fs.length ∧ SliceOf h 1 x.2 (sls.map fun s => [s]) ∧ ∀ (k : Nat) sl f, sls[k]? = some sl → fs[k]? = some f → SliceOf h 14 sl (f.map Ft.cells)
theorem KnownAt.ext {R : RoadV} {h h' : AH} {lo bm : Nat} {L : List (List Int × AVal)} (k : KnownAt R h lo bm L) (e : Ext h h') : KnownAt R h' lo bm L :=
 ⟨k.keys, k.len, k.m.ext e, fun i x fs q1 q2 => by
  obtain ⟨sls, p1, p2, p3⟩ := k.parts i x fs q1 q2
  exact ⟨sls, p1, p2.ext e, fun k sl f q3 q4 => (p3 k sl f q3 q4).ext e⟩⟩
theorem grow_slice' {α : Type} {f : α → List AVal} {sz : Nat} {h : AH} {el : TypeId} {lo n : Nat} {s : AVal} {l : List α} (hf : ∀ p, p ∈ l → (f p).length = sz) (hn : l.length = n) (G : Grow h el sz lo s n (l.flatMap f)) : SliceOf h sz s (l.map f) := by
 subst hn;refine Grow.sliceOf (L := l.map f) (by rw [List.length_map]; exact G) fun i v q => ?_
 have := slice_flatten (sz := sz) (L := l.map f) (fun x hx => by obtain ⟨q, hq, rfl⟩ := List.mem_map.1 hx; exact hf q hq) i v q
 rwa [← List.flatMap_def] at this
theorem KnownIn.at {R : RoadV} (O : R.Ok) {h : AH} {G : Nat → Prop} {lo bm : Nat} (k : KnownIn R h G lo bm R.hs) : ∃ L, KnownAt R h lo bm L := by
 obtain ⟨L, h1, h2, h3, h4⟩ := k
 have hlen : L.length = R.known.length := by
  have := congrArg List.length h1
  rw [List.length_map, List.length_map] at this
  unfold RoadV.known
  rw [List.length_map];exact this
 refine ⟨L, h1, hlen, h2, fun i x fs q1 q2 => ?_⟩
 unfold RoadV.known at q2
 rw [List.getElem?_map] at q2
 cases q : R.hs[i]? with
 | none => rw [q] at q2; cases q2
 | some l =>
  rw [q] at q2;cases q2
  obtain ⟨sls, p1, p2, p3, p4⟩ := h4 i l x q q1
  refine ⟨sls, p1, grow_slice (f := fun s : AVal => [s]) (sz := 1) (fun _ => rfl) p1 (by rw [flat_one]; simpa using p2), fun k sl f q3 q4 => ?_⟩;refine grow_slice' (fun f' hf' => ?_) rfl (p4 k sl f q3 q4).1
  unfold RoadV.fates at q4
  rw [List.getElem?_mapIdx] at q4
  cases q5 : R.ps[k]? with
  | none => rw [q5] at q4; cases q4
  | some p => rw [q5] at q4; cases q4; exact fates_fit O f' hf'
end Go.Proofs.YtkcimfopboelaaaGreat

namespace Go.Proofs.YtkcimfopboelaaaGreat
open Go Go.AbsE
set_option linter.unusedSimpArgs false
set_option maxRecDepth 100000
set_option maxHeartbeats 0
set_option linter.unusedVariables false
theorem mapB_has {h : AH} {b : Nat} {es : List AMapE} {c : Nat} (f : Has h b (.map es c)) : mapB h b = some (es, c) := by unfold mapB; rw [f.2]
theorem KnownAt.entry {R : RoadV} {h : AH} {lo bm : Nat} {L : List (List Int × AVal)} (K : KnownAt R h lo bm L) {en : AMapE} (hen : en ∈ esN L) : ∃ x fs, L[en.born]? = some x ∧ R.known[en.born]? = some fs ∧ en.key = .agg (vints x.1) ∧ en.val = x.2 ∧ fs ∈ R.known := by
 obtain ⟨i, x, hx, rfl⟩ := esN_at hen
 have hlt := (List.getElem?_eq_some_iff.1 hx).1
 obtain ⟨fs, hfs⟩ : ∃ fs, R.known[i]? = some fs := ⟨R.known[i]'(by have := K.len; omega), by simp⟩
 exact ⟨x, fs, hx, hfs, rfl, rfl, List.mem_of_getElem? hfs⟩
theorem KnownAt.kv {R : RoadV} {h : AH} {lo bm : Nat} {L : List (List Int × AVal)} (K : KnownAt R h lo bm L) : ∀ en, en ∈ esN L → ∃ kv, absV en.key = some kv := fun en hen => by
 obtain ⟨x, fs, _, _, hk, _⟩ := K.entry hen
 exact ⟨_, by rw [hk]; exact absV_vints _⟩
theorem known_fates {R : RoadV} {fs : List (List Ft)} (h : fs ∈ R.known) {k : Nat} {l : List Ft} (hl : fs[k]? = some l) : ∃ ls p, ls ∈ haulsV R.es ∧ R.can ls = true ∧ R.ps[k]? = some p ∧ l = fatesV R.es k p ls := by
 obtain ⟨ls, h1, h2, rfl⟩ := mem_known.1 h
 unfold RoadV.fates at hl
 rw [List.getElem?_mapIdx] at hl
 cases q : R.ps[k]? with
 | none => rw [q] at hl; cases hl
 | some p => rw [q] at hl; cases hl; exact ⟨ls, p, h1, h2, rfl, rfl⟩
theorem known_few {R : RoadV} (O : R.Ok) {fs : List (List Ft)} (h : fs ∈ R.known) {k : Nat} {l : List Ft} (hl : fs[k]? = some l) : l.length ≤ 27 := by
 obtain ⟨ls, p, _, _, hp, rfl⟩ := known_fates h hl
 exact fates_few (O.p p (List.mem_of_getElem? hp))
def spanE (R : RoadV) (part : Nat) (m : Ft → Int) (en : AMapE) : List (Int × Int) := (((R.known[en.born]?).getD [])[part]?.getD []).map fun f => (m f, m f)
theorem spread_ok {R : RoadV} (O : R.Ok) {h : AH} {lo bm : Nat} {L : List (List Int × AVal)} (K : KnownAt R h lo bm L) {part : Nat} (hpart : part < R.ps.length) {fid : FuncId} {caps : List AVal} {fn : Func} (hfid : aFunc Tryz.prog fid = some fn) (hsm : sameA (.func (.func fid) [] caps) (.func (.func fid) [] caps) = true) (m : Ft → Int)
  (hm : ∀ f, f ∈ atPart R.known part → I64 (m f))
  (hc : ∀ f h', f ∈ atPart R.known part → Ext h h' → Runs Tryz.prog fid ([.agg f.cells] ++ caps) h' (fun en h'' => en = .ret (.int .i64 (m f)) ∧ Ext h' h'')) :
  Runs Tryz.prog 53 [.map bm, .int .i64 part, .func (.func fid) [] caps] h (fun en h' => en = .ret (.agg (spC (spreadV R.known part m))) ∧ Ext h h') := by
 have hfl := esN_flat (K := R.known) K.len (fun parts => ((parts[part]?).getD []).map fun f => (m f, m f))
 have hsp : spreadV R.known part m = joinL ((esN L).flatMap (spanE R part m)) := by
  unfold spreadV atPart
  rw [List.map_flatMap]
  unfold spanE
  rw [hfl]
 have hin : ∀ en, en ∈ esN L → ∀ p, p ∈ spanE R part m en → InSp p := by
  intro en hen p hp
  obtain ⟨x, fs, q1, q2, q3, q4, q5⟩ := K.entry hen
  unfold spanE at hp
  rw [q2] at hp
  obtain ⟨f, hf, rfl⟩ := List.mem_map.1 hp
  have := hm f (mem_atPart.2 (by
   cases z : fs[part]? with
   | none => simp [z] at hf
   | some l => simp [z] at hf; exact ⟨fs, l, q5, z, hf⟩))
  exact ⟨this.2, this.1⟩
 have hborn := esN_born (L := L)
 have hdist := esN_dist L
 have hKm := K.m
 have hblt := hKm.1
 rw [hsp]
 have e0 : Ext h h := Ext.refl _
 refine Runs.intro aFunc53 rfl rfl rfl rfl fun rest => ?_;apply gS;refine gR rfl ?_;refine GoR.alloc rfl rfl rfl zt29 rfl rfl fun h0 x0 f0 => ?_;have := e0.1
 have := hKm.1
 replace hKm := hKm.ext x0;replace e0 := e0.trans x0;have := f0.1;apply gE;apply gS;refine gR rfl ?_;refine GoR.call rfl rfl (aCF aFunc101 rfl) (join_nil) ?_ np;rintro v1 h1 ⟨q, x1⟩;cases q;refine ⟨_, rfl, ?_⟩;replace f0 := f0.ext x1;replace hKm := hKm.ext x1;replace e0 := e0.trans x1;refine GoR.alloc rfl rfl rfl zt29 rfl rfl fun h2 x2 f2 => ?_;have := e0.1;have := f0.1
 have := hKm.1
 replace f0 := f0.ext x2;replace hKm := hKm.ext x2;replace e0 := e0.trans x2;have := f2.1;refine GoR.store rfl rfl rfl rfl rfl rfl f2 rfl sz29 rfl rfl rfl fun h3 u3 => ?_;replace f2 := u3.has f2;replace f0 := f0.upd u3 (by omega);replace hKm := hKm.upd u3 (by omega);replace e0 := e0.upd u3 (by omega);apply gE;iterate 2 apply gS
 refine gR rfl ?_;refine gP ?_;refine GoR.rangeM rfl rfl rfl Tryz.underlying80 rfl (mapB_has hKm) rfl rfl fun h5 x5 f5 => ?_
 have hn4 := e0.1
 have hl0 := f0.1
 have hl2 := f2.1
 have hn0 : h.next < h1.next := by omega
 replace f0 := f0.ext x5;replace f2 := f2.ext x5;replace e0 := e0.trans x5;clear hKm
 have hKm := K.m
 have hl5 := f5.1
 apply gE;refine Go.block noJ_ok ?_
 refine Go.loopKeep (fun _ : List AMapE × List AMapE => [(1, .int .i64 part), (2, .func (.func fid) [] caps), (6, .ptr h.next 0), (7, .ptr h1.next 0), (14, .ptr h3.next 0)])
  (fun n vr h' => vr.2.length = n ∧ (vr.1 ++ vr.2).Perm (esN L) ∧ Ext h h' ∧ Has h' h.next (.cells .plain [.int .i64 0, .int .i64 0] 29) ∧ Has h' h1.next (.cells .plain (spC (joinL (vr.1.flatMap (spanE R part m)))) 29) ∧ Has h' h3.next (.iter bm L.length (vr.1.map AMapE.born) L.length)) (n := (esN L).length) ([], esN L) ⟨rfl, rfl, rfl, rfl, rfl, trivial⟩ ⟨rfl, .refl _, e0, f0, f2, f5⟩ ?_
 clear e0 f0 f2 f5;rintro n ⟨vs, rs⟩ hh ⟨hn, hperm, e0, f0, f2, f5⟩ again
 dsimp only at hn hperm f2 f5
 apply gS;refine Go.beginR rfl (Go.nextM rfl rfl f5 (mapB_has (hKm.ext e0)) hborn hborn K.kv (fun hall => Go.inRegion noJ_ok ?_) (fun en kv hen hnew hk h6 u6 => Go.inRegion noJ_ok ?_))
 ·have hrs := perm_over hperm hdist hall
  subst hrs;rw [List.append_nil] at hperm
  have hj : joinL (vs.flatMap (spanE R part m)) = joinL ((esN L).flatMap (spanE R part m)) := joinL_perm (hperm.flatMap_right _)
  rw [hj] at f2
  unfold spC at f2 ⊢
  clear hKm;refine gP ?_;apply gE;apply gS;refine gC (b := false) rfl ?_;refine gD ?_;apply gS;refine gR rfl ?_;refine gO rfl rfl (ld29 rfl f2 rfl) rfl ?_;refine GoR.store rfl rfl rfl rfl rfl rfl f0 rfl sz29 rfl rfl rfl fun h6 u6 => ?_;replace f0 := u6.has f0;replace e0 := e0.upd u6 (by omega);apply gE;exact gV (ret_end (aResult_of Tryz.func53 rfl (aResults_cell rfl f0 (inCells_agg ag29 sz29 rfl))) ⟨rfl, e0⟩)
 ·obtain ⟨ra, rb, rfl, hperm2⟩ := perm_pick hperm hen hnew
  obtain ⟨x, fs, q1, q2, q3, q4, q5⟩ := K.entry hen
  replace f5 := u6.has f5;replace f0 := f0.upd u6 (by omega);replace f2 := f2.upd u6 (by omega);replace e0 := e0.upd u6 (by omega)
  obtain ⟨sls, p1, p2, p3⟩ := K.parts en.born x fs q1 q2
  have hfsl : fs.length = R.ps.length := (known_parts q5).1
  obtain ⟨l, hl⟩ : ∃ l, fs[part]? = some l := ⟨fs[part]'(by omega), by simp⟩
  obtain ⟨sl, hsl⟩ : ∃ sl, sls[part]? = some sl := ⟨sls[part]'(by omega), by simp⟩
  have p4 := p3 part sl l hsl hl
  rw [← q4] at p2
  obtain ⟨b1, o1, r1, r2⟩ := (p2.ext e0).at (i := part) (l := [sl]) (by rw [List.getElem?_map, hsl]; rfl)
  rw [List.length_map, p1, hfsl] at r1
  have hfew := known_few O q5 hl
  have hll := p4.len
  rw [List.length_map] at hll
  have hspE : spanE R part m en = l.map fun f => (m f, m f) := by unfold spanE; rw [q2]; simp [hl]
  have hMe := mapB_has (hKm.ext e0)
  have hent : ∀ {t : Tr AVal} {dst : Option Tmp} {tt : TypeId} {pos : String} {after : Array Edge} {guard : Option (Nat × Bool)} {x : Operand}, ev t x = some (.ptr h3.next 0) → aOp Tryz.prog t h6 ⟨dst, .entry x, tt, pos, after, guard⟩ = some (.val (.tuple [kv, en.val]) h6) := fun hx => aOp_entry hx f5 hMe hen hdist hk
  have hl0 := f0.1
  have hl2 := f2.1
  have hl5 := f5.1
  have hKb := (hKm.ext e0).1
  clear hKm;refine gP ?_;apply gE;apply gS;refine gC (b := true) rfl ?_;refine gD ?_;refine Go.block noJ_ok ?_;apply gS;refine gR rfl ?_;refine gO rfl rfl (hent rfl) rfl ?_;iterate 2 refine gP ?_
  apply gE;apply gS;refine gR rfl ?_;iterate 2 refine gP ?_
  refine gO rfl rfl (aOp_indexAddr (i := part) Tryz.underlying127 sz120 rfl (by assumption) rfl (Nat.ble_eq_true_of_le (by omega))) rfl ?_;refine gO rfl rfl (aOp_loadE1 (k := 0) ag120 rfl r2 rfl) rfl ?_;refine gO rfl rfl (aOp_lenSlice Tryz.underlying120 rfl (by assumption)) rfl ?_;refine gP ?_;apply gE;refine Go.block noJ_ok ?_
  refine Go.loopKeep (fun i : Nat => [(1, .int .i64 part), (2, .func (.func fid) [] caps), (6, .ptr h.next 0), (7, .ptr h1.next 0), (14, .ptr h3.next 0), (22, sl), (23, .int .i64 l.length), (24, .int .i64 (i : Nat))])
   (fun q i h' => q + i = l.length ∧ Ext h h' ∧ Has h' h.next (.cells .plain [.int .i64 0, .int .i64 0] 29) ∧ Has h' h1.next (.cells .plain (spC (joinL (vs.flatMap (spanE R part m) ++ (l.take i).map fun f => (m f, m f)))) 29) ∧ Has h' h3.next (.iter bm L.length (vs.map AMapE.born ++ [en.born]) L.length)) (n := l.length) 0 ⟨rfl, rfl, rfl, rfl, rfl, rfl, rfl, rfl, trivial⟩ ⟨rfl, e0, f0, by simpa using f2, f5⟩ ?_
  clear e0 f0 f2 f5;rintro q i hc' ⟨hq, e0, f0, f2, f5⟩ again2
  obtain ⟨acc, hacc⟩ : ∃ acc, joinL (vs.flatMap (spanE R part m) ++ (l.take i).map fun f => (m f, m f)) = acc := ⟨_, rfl⟩
  rw [hacc] at f2
  have hce := e0.1
  by_cases hi : i < l.length
  ·obtain ⟨f, hf⟩ : ∃ f, l[i]? = some f := ⟨l[i], by simp [hi]⟩
   have hfm := List.mem_of_getElem? hf
   have hfa : f ∈ atPart R.known part := mem_atPart.2 ⟨fs, l, q5, hl, hfm⟩
   have p5 := p4.ext e0
   obtain ⟨b2, o2, r3, r4⟩ := p5.at (i := i) (l := f.cells) (by rw [List.getElem?_map, hf]; rfl)
   rw [List.length_map] at r3
   have hf14 : f.cells.length = 14 := by
    have := r4.2;exact loadCells_len this
   have hfs := ft_scal f
   have hfsm : sameA (.agg f.cells) (.agg f.cells) = true := by
    have : f.cells = i64s ([f.x.height, f.x.stiff, f.x.rise, f.x.full] ++ (f.hs ++ List.replicate (10 - f.hs.length) 0)) := by
     unfold Ft.cells Pc.cells i64s
     simp
    rw [this];exact same_ints _
   have hmf := hm f hfa
   have hcf := fun h' e => hc f h' hfa e
   have hin1 : InSp acc := by
    rw [← hacc]
    refine joinL_in fun p hp => ?_
    rcases List.mem_append.1 hp with hp | hp
    ·obtain ⟨en', he', hp⟩ := List.mem_flatMap.1 hp
     exact hin en' (hperm.mem_iff.1 (by simp [he'])) p hp
    ·obtain ⟨f', hf', rfl⟩ := List.mem_map.1 hp
     have := hm f' (mem_atPart.2 ⟨fs, l, q5, hl, List.mem_of_mem_take hf'⟩)
     exact ⟨this.2, this.1⟩
   have hnx : joinL (vs.flatMap (spanE R part m) ++ (l.take (i + 1)).map fun f => (m f, m f)) = joinP acc (m f, m f) := by
    rw [List.take_add_one, hf, Option.toList_some, List.map_append, ← List.append_assoc];exact (joinL_app _ _).trans (by rw [hacc])
   have hsm2 : sameA (.agg (spC acc)) (.agg (spC acc)) = true := sameA_agg2 _ _
   unfold spC at f2 hsm2
   clear p5 hent;apply gS;refine gR rfl ?_;refine gO rfl rfl (kLT rfl rfl) rfl ?_;apply gE;apply gS;refine gC (b := true) rfl ?_;refine gD ?_;apply gS;refine Go.block noJ_ok ?_;apply gS;refine gR rfl ?_;refine gO rfl rfl (aOp_indexAddr (i := i) Tryz.underlying120 sz87 rfl (by assumption) rfl (Nat.ble_eq_true_of_le (by omega))) rfl ?_;refine gO rfl rfl (aOp_loadE ag87 sz87 rfl (r4.ext (Ext.refl _))) rfl ?_;refine GoR.alloc rfl rfl rfl zt87 rfl rfl fun h7 x7 f7 => ?_;have := e0.1;have := f0.1;have := f5.1;have := f2.1;replace f0 := f0.ext x7;replace f5 := f5.ext x7;replace f2 := f2.ext x7;replace e0 := e0.trans x7;have := f7.1;refine GoR.store rfl rfl rfl rfl rfl rfl f7 rfl sz87 (beq_len hf14) hfs (splice_whole hf14.symm) fun h8 u8 => ?_;replace f7 := u8.has f7;replace f0 := f0.upd u8 (by omega);replace f5 := f5.upd u8 (by omega);replace f2 := f2.upd u8 (by omega);replace e0 := e0.upd u8 (by omega);apply gE;refine Go.drawnE plan53_0 ?_;refine gQ rfl rfl (ld29 rfl f2 rfl) rfl ?_;refine gQ rfl rfl rfl rfl ?_;refine gQ rfl rfl (ld87 rfl f7 (slice_all hf14)) rfl ?_;refine GoE.call rfl rfl (aOp_callVal rfl hfid rfl) (hcf _ e0) (dD 6 2 (dD 6 1 (dK 6 0 rfl))) ?_ np;rintro v9 h9 ⟨q, x9⟩;cases q;replace f7 := f7.ext x9;replace f0 := f0.ext x9;replace f5 := f5.ext x9;replace f2 := f2.ext x9;replace e0 := e0.trans x9;refine ⟨(rck (h2 := h9) rfl (ld29 rfl f2 rfl) recheck_nil), _, rfl, ?_⟩;refine GoE.call rfl rfl (aCF aFunc102 rfl) (one_ok) (dK 14 0 rfl) ?_ np;rintro v10 h10 ⟨q, x10⟩;cases q;replace f7 := f7.ext x10;replace f0 := f0.ext x10;replace f5 := f5.ext x10;replace f2 := f2.ext x10;replace e0 := e0.trans x10;refine ⟨(rck (h2 := h10) rfl (ld29 rfl f2 rfl) recheck_nil), _, rfl, ?_⟩;refine GoE.buildSl rfl rfl (ps := [(0, .agg [.int .i64 acc.1, .int .i64 acc.2]), (1, .agg (spC (m f, m f)))]) (cs := spC acc ++ spC (m f, m f)) Tryz.underlying147 rfl sz29 zt29 rfl rfl rfl (dD 31 0 rfl) rfl fun h11 x11 f11 => ?_;have := e0.1;have := f7.1;have := f0.1;have := f5.1;have := f2.1;replace f7 := f7.ext x11;replace f0 := f0.ext x11;replace f5 := f5.ext x11;replace f2 := f2.ext x11;replace e0 := e0.trans x11;have := f11.1;refine ⟨recheck_nil, ?_⟩;refine GoE.call rfl rfl (aCF aFunc101 rfl) (join_ok (L := [acc, (m f, m f)]) (sl2 (by assumption)) (by simp)) rfl ?_ np;rintro v12 h12 ⟨q, x12⟩;cases q;replace f0 := f0.ext x12;replace f5 := f5.ext x12;replace f2 := f2.ext x12;replace e0 := e0.trans x12;refine ⟨recheck_nil, _, rfl, ?_⟩;refine GoE.store rfl rfl rfl rfl rfl rfl rfl f2 rfl sz29 rfl rfl rfl fun h13 u13 => ?_;replace f0 := f0.upd u13 (by omega);replace f5 := f5.upd u13 (by omega);replace f2 := u13.has f2;replace e0 := e0.upd u13 (by omega);refine ⟨recheck_nil, ?_⟩;refine GoE.end rfl ?_;refine Go.inBlock noJ_ok ?_;refine gR rfl ?_;refine gO rfl rfl (aA rfl rfl) rfl ?_;refine gP ?_;apply gE;rw [joinL_two hin1] at f2;exact again2 (q - 1) (i + 1) _ _ (by omega) ⟨rfl, rfl, rfl, rfl, rfl, rfl, rfl, rfl, trivial⟩ ⟨by omega, e0, f0, by rw [hnx]; exact f2, f5⟩
  ·have hin1 : i = l.length := by omega
   subst hin1;rw [List.take_length, ← hspE] at hacc
   have hnx : joinL ((vs ++ [en]).flatMap (spanE R part m)) = acc := by rw [List.flatMap_append, ← hacc]; simp
   clear hent;apply gS;refine gR rfl ?_;refine gO rfl rfl (kLF rfl rfl) rfl ?_;apply gE;apply gS;refine gC (b := false) rfl ?_;refine gD ?_;refine Go.inBlock noJ_ok ?_;exact again (n - 1) (vs ++ [en], ra ++ rb) _ _ (by simp at hn; omega) ⟨rfl, rfl, rfl, rfl, rfl, trivial⟩ ⟨by simp at hn ⊢; omega, hperm2, e0, f0, by dsimp only; rw [hnx]; exact f2, by simpa using f5⟩
end Go.Proofs.YtkcimfopboelaaaGreat

namespace Go.Proofs.YtkcimfopboelaaaGreat
open Go Go.AbsE
set_option linter.unusedSimpArgs false
set_option maxRecDepth 100000
set_option maxHeartbeats 0
set_option linter.unusedVariables false
theorem esN_map {β : Type} {L : List (List Int × AVal)} {K : List (List (List Ft))} (hl : L.length = K.length) (g : List (List Ft) → β) : (esN L).map (fun en => g ((K[en.born]?).getD [])) = K.map g := by
 have := esN_flat hl (fun parts => [g parts])
 rw [flat_one, flat_one] at this;exact this
theorem all_map {α β : Type} {p : β → Bool} {f : α → β} (l : List α) : (l.map f).all p = l.all fun x => p (f x) := by rw [List.all_map]; rfl
theorem any_map {α β : Type} {p : β → Bool} {f : α → β} (l : List α) : (l.map f).any p = l.any fun x => p (f x) := by rw [List.any_map]; rfl
theorem fits_in {R : RoadV} {h : AH} {sl : AVal} {l : List Ft} (p : SliceOf h 14 sl (l.map Ft.cells)) {f : Ft} (hf : f ∈ l) : f.cells.length = 14 := by
 obtain ⟨i, hi⟩ := List.mem_iff_getElem?.1 hf
 obtain ⟨b2, o2, r3, r4⟩ := p.at (i := i) (l := f.cells) (by rw [List.getElem?_map, hi]; rfl)
 exact loadCells_len r4.2
theorem not142_ok {fid : FuncId} {caps : List AVal} {fn : Func} (hfid : aFunc Tryz.prog fid = some fn) {f : Ft} (hf14 : f.cells.length = 14) {b : Bool} {bs : Nat} {h : AH} (f0 : Has h bs (.cells .plain [.func (.func fid) [] caps] 135))
  (hc : ∀ h', Ext h h' → Runs Tryz.prog fid ([.agg f.cells] ++ caps) h' (fun en h'' => en = .ret (.bool b) ∧ Ext h' h'')) :
  Runs Tryz.prog 142 [.agg f.cells, .ptr bs 0] h (fun en h' => en = .ret (.bool (!b)) ∧ Ext h h') := by
 have hb := f0.1
 have e0 : Ext h h := Ext.refl _
 refine Runs.intro aFunc142 rfl rfl rfl rfl fun rest => ?_;apply gS;refine gR rfl ?_;refine GoR.box rfl rfl rfl rfl rfl rfl fun h1 x1 f1 => ?_;replace f0 := f0.ext x1;replace e0 := e0.trans x1;refine gP ?_;apply gE;apply gS;refine gR rfl ?_;refine gO rfl rfl (ld135 rfl f0 rfl) rfl ?_;refine gO rfl rfl (ld87 rfl f1 (slice_all hf14)) rfl ?_;refine GoR.call rfl rfl (aOp_callVal rfl hfid rfl) (hc _ e0) ?_ np;rintro v2 h2 ⟨q, x2⟩;cases q;refine ⟨_, rfl, ?_⟩;replace e0 := e0.trans x2;iterate 2 refine gP ?_
 apply gE;exact gW Tryz.func142 rfl rfl ⟨rfl, e0⟩
def allE (R : RoadV) (s : Ft → Bool) (en : AMapE) : Bool := ((R.known[en.born]?).getD []).all fun fs => fs.all s
theorem allE_is {R : RoadV} {L : List (List Int × AVal)} (hl : L.length = R.known.length) (s : Ft → Bool) : alwaysV R.known s = (esN L).all (allE R s) := by
 have := esN_map hl (fun parts : List (List Ft) => parts.all fun fs => fs.all s)
 have h2 := congrArg (fun l => l.all id) this
 simp only [all_map, id] at h2
 exact h2.symm
theorem always_ok {R : RoadV} (O : R.Ok) {h : AH} {lo bm : Nat} {L : List (List Int × AVal)} (K : KnownAt R h lo bm L) {fid : FuncId} {caps : List AVal} {fn : Func} (hfid : aFunc Tryz.prog fid = some fn) (s : Ft → Bool)
  (hc : ∀ f i h', f ∈ atPart R.known i → Ext h h' → Runs Tryz.prog fid ([.agg f.cells] ++ caps) h' (fun en h'' => en = .ret (.bool (s f)) ∧ Ext h' h'')) :
  Runs Tryz.prog 105 [.map bm, .func (.func fid) [] caps] h (fun en h' => en = .ret (.bool (alwaysV R.known s)) ∧ Ext h h') := by
 have hal := allE_is (R := R) K.len s
 have hborn := esN_born (L := L)
 have hdist := esN_dist L
 have hKm := K.m
 have hblt := hKm.1
 have hnp := O.np
 rw [hal]
 have e0 : Ext h h := Ext.refl _
 refine Runs.intro aFunc105 rfl rfl rfl rfl fun rest => ?_;apply gS;refine gR rfl ?_;refine GoR.box rfl rfl rfl rfl rfl rfl fun h0 x0 f0 => ?_;have := e0.1
 have := hKm.1
 replace hKm := hKm.ext x0;replace e0 := e0.trans x0;have := f0.1;refine gP ?_;apply gE;apply gS;refine gR rfl ?_;iterate 2 refine gP ?_
 apply gE;iterate 2 apply gS
 refine gR rfl ?_;refine gP ?_;refine GoR.rangeM rfl rfl rfl Tryz.underlying80 rfl (mapB_has hKm) rfl rfl fun h5 x5 f5 => ?_
 have hl0 := f0.1
 replace f0 := f0.ext x5;replace e0 := e0.trans x5;clear hKm
 have hKm := K.m
 have hl5 := f5.1
 apply gE;refine Go.block noJ_ok ?_
 refine Go.loopKeep (fun _ : List AMapE × List AMapE => [(3, .ptr h.next 0), (5, .func (.func 142) [] [.ptr h.next 0]), (12, .ptr h0.next 0)])
  (fun n vr h' => vr.2.length = n ∧ (vr.1 ++ vr.2).Perm (esN L) ∧ Ext h h' ∧ Has h' h.next (.cells .plain [.func (.func fid) [] caps] 135) ∧ Has h' h0.next (.iter bm L.length (vr.1.map AMapE.born) L.length) ∧ vr.1.all (allE R s) = true) (n := (esN L).length) ([], esN L) ⟨rfl, rfl, rfl, trivial⟩ ⟨rfl, .refl _, e0, f0, f5, rfl⟩ ?_
 clear e0 f0 f5;rintro n ⟨vs, rs⟩ hh ⟨hn, hperm, e0, f0, f5, hvs⟩ again
 dsimp only at hn hperm f5 hvs
 apply gS;refine Go.beginR rfl (Go.nextM rfl rfl f5 (mapB_has (hKm.ext e0)) hborn hborn K.kv (fun hall => Go.inRegion noJ_ok ?_) (fun en kv hen hnew hk h6 u6 => Go.inRegion noJ_ok ?_))
 ·have hrs := perm_over hperm hdist hall
  subst hrs;rw [List.append_nil] at hperm
  have hfin : (esN L).all (allE R s) = true := by
   rw [List.all_eq_true] at hvs ⊢;exact fun x hx => hvs x (hperm.mem_iff.2 hx)
  rw [hfin];clear hKm;refine gP ?_;apply gE;apply gS;refine gC (b := false) rfl ?_;refine gD ?_;apply gS;refine gR rfl ?_;refine gP ?_;apply gE;exact gW Tryz.func105 rfl rfl ⟨rfl, e0⟩
 ·obtain ⟨ra, rb, rfl, hperm2⟩ := perm_pick hperm hen hnew
  obtain ⟨x, fs, q1, q2, q3, q4, q5⟩ := K.entry hen
  replace f5 := u6.has f5;replace f0 := f0.upd u6 (by omega);replace e0 := e0.upd u6 (by omega)
  obtain ⟨sls, p1, p2, p3⟩ := K.parts en.born x fs q1 q2
  rw [← q4] at p2
  have hfsl : fs.length = R.ps.length := (known_parts q5).1
  have hlv := (p2.ext e0).len
  rw [List.length_map] at hlv
  have hEn : allE R s en = fs.all fun fs => fs.all s := by unfold allE; rw [q2]; rfl
  have hMe := mapB_has (hKm.ext e0)
  have hent : ∀ {t : Tr AVal} {dst : Option Tmp} {tt : TypeId} {pos : String} {after : Array Edge} {guard : Option (Nat × Bool)} {x : Operand}, ev t x = some (.ptr h0.next 0) → aOp Tryz.prog t h6 ⟨dst, .entry x, tt, pos, after, guard⟩ = some (.val (.tuple [kv, en.val]) h6) := fun hx => aOp_entry hx f5 hMe hen hdist hk
  have hl0 := f0.1
  have hl5 := f5.1
  clear hKm;refine gP ?_;apply gE;apply gS;refine gC (b := true) rfl ?_;refine gD ?_;refine Go.block noJ_ok ?_;apply gS;refine gR rfl ?_;refine gO rfl rfl (hent rfl) rfl ?_;iterate 2 refine gP ?_
  apply gE;apply gS;refine gR rfl ?_;refine gP ?_;refine gO rfl rfl (aOp_lenSlice Tryz.underlying127 rfl (by assumption)) rfl ?_;refine gP ?_;apply gE;refine Go.block noJ_ok ?_
  refine Go.loopKeep (fun i : Nat => [(3, .ptr h.next 0), (5, .func (.func 142) [] [.ptr h.next 0]), (12, .ptr h0.next 0), (17, en.val), (18, .int .i64 sls.length), (19, .int .i64 (i : Nat))])
   (fun q i h' => q + i = sls.length ∧ Ext h h' ∧ Has h' h.next (.cells .plain [.func (.func fid) [] caps] 135) ∧ Has h' h0.next (.iter bm L.length (vs.map AMapE.born ++ [en.born]) L.length) ∧ ∀ l, l ∈ fs.take i → l.all s = true) (n := sls.length) 0 ⟨rfl, rfl, rfl, rfl, rfl, rfl, trivial⟩ ⟨rfl, e0, f0, f5, fun l q => by simp at q⟩ ?_
  clear e0 f0 f5 hent;rintro q i hc' ⟨hq, e0, f0, f5, hok⟩ again2
  have hce := e0.1
  have hb0 := f0.1
  by_cases hi : i < sls.length
  ·obtain ⟨sl, hsl⟩ : ∃ sl, sls[i]? = some sl := ⟨sls[i], by simp [hi]⟩
   obtain ⟨l, hl⟩ : ∃ l, fs[i]? = some l := ⟨fs[i]'(by omega), by simp⟩
   have p4 := p3 i sl l hsl hl
   have hfew := known_few O q5 hl
   obtain ⟨b1, o1, r1, r2⟩ := (p2.ext e0).at (i := i) (l := [sl]) (by rw [List.getElem?_map, hsl]; rfl)
   rw [List.length_map] at r1
   have hco : ∀ (h9 : AH), Ext h h9 → Has h9 h.next (.cells .plain [.func (.func fid) [] caps] 135) → Runs Tryz.prog 143 [sl, .func (.func 142) [] [.ptr h.next 0]] h9 (fun en h' => en = .ret (.bool (l.any fun f => !s f)) ∧ Ext h9 h') := fun h9 e f => cont143_ok (caps := [.ptr h.next 0]) aFunc142 _ (p4.ext e) (by omega) fun x h' hx e' => not142_ok hfid (fits_in (R := R) p4 hx) (f.ext e') fun h'' e'' => hc x i h'' (mem_atPart.2 ⟨fs, l, q5, hl, hx⟩) ((e.trans e').trans e'')
   cases hb : l.all s with
   | false =>
    have hany : (l.any fun f => !s f) = true := by rw [← any_not] at hb; simpa using hb
    rw [hany] at hco
    have hfalse : (esN L).all (allE R s) = false := by
     rw [List.all_eq_false];refine ⟨en, hen, ?_⟩;rw [hEn]
     intro z
     rw [List.all_eq_true] at z
     have := z l (List.mem_of_getElem? hl)
     rw [hb] at this;cases this
    rw [hfalse];apply gS;refine gR rfl ?_;refine gO rfl rfl (kLT rfl rfl) rfl ?_;apply gE;apply gS;refine gC (b := true) rfl ?_;refine gD ?_;apply gS;refine Go.block noJ_ok ?_;apply gS;refine gR rfl ?_;refine gO rfl rfl (aOp_indexAddr (i := i) Tryz.underlying127 sz120 rfl (by assumption) rfl (Nat.ble_eq_true_of_le (by omega))) rfl ?_;refine gO rfl rfl (aOp_loadE1 (k := 0) ag120 rfl r2 rfl) rfl ?_;refine gP ?_;apply gE;apply gS;refine gR rfl ?_;iterate 2 refine gP ?_
    refine GoR.call rfl rfl (aCF aFunc143 rfl) (hco _ e0 f0) ?_ np;rintro v7 h7 ⟨q, x7⟩;cases q;refine ⟨_, rfl, ?_⟩;replace f0 := f0.ext x7;replace f5 := f5.ext x7;replace e0 := e0.trans x7;apply gE;refine gC (b := true) rfl ?_;apply gS;refine gR rfl ?_;refine gP ?_;apply gE;exact gW Tryz.func105 rfl rfl ⟨rfl, e0⟩
   | true =>
    have hany : (l.any fun f => !s f) = false := by rw [← any_not] at hb; simpa using hb
    rw [hany] at hco;apply gS;refine gR rfl ?_;refine gO rfl rfl (kLT rfl rfl) rfl ?_;apply gE;apply gS;refine gC (b := true) rfl ?_;refine gD ?_;apply gS;refine Go.block noJ_ok ?_;apply gS;refine gR rfl ?_;refine gO rfl rfl (aOp_indexAddr (i := i) Tryz.underlying127 sz120 rfl (by assumption) rfl (Nat.ble_eq_true_of_le (by omega))) rfl ?_;refine gO rfl rfl (aOp_loadE1 (k := 0) ag120 rfl r2 rfl) rfl ?_;refine gP ?_;apply gE;apply gS;refine gR rfl ?_;iterate 2 refine gP ?_
    refine GoR.call rfl rfl (aCF aFunc143 rfl) (hco _ e0 f0) ?_ np;rintro v7 h7 ⟨q, x7⟩;cases q;refine ⟨_, rfl, ?_⟩;replace f0 := f0.ext x7;replace f5 := f5.ext x7;replace e0 := e0.trans x7;apply gE;refine gC (b := false) rfl ?_;refine gD ?_;refine Go.inBlock noJ_ok ?_;refine gR rfl ?_;refine gO rfl rfl (aA rfl rfl) rfl ?_;refine gP ?_;apply gE;refine again2 (q - 1) (i + 1) _ _ (by omega) ⟨rfl, rfl, rfl, rfl, rfl, rfl, trivial⟩ ⟨by omega, e0, f0, f5, fun l' hl' => ?_⟩;rw [List.take_add_one, hl, Option.toList_some, List.mem_append, List.mem_singleton] at hl'
    rcases hl' with hl' | rfl
    ·exact hok l' hl'
    ·exact hb
  ·have hin1 : i = fs.length := by omega
   rw [hin1, List.take_length] at hok
   have hyes : allE R s en = true := by rw [hEn, List.all_eq_true]; exact hok
   apply gS;refine gR rfl ?_;refine gO rfl rfl (kLF rfl rfl) rfl ?_;apply gE;apply gS;refine gC (b := false) rfl ?_;refine gD ?_;refine Go.inBlock noJ_ok ?_;exact again (n - 1) (vs ++ [en], ra ++ rb) _ _ (by simp at hn; omega) ⟨rfl, rfl, rfl, trivial⟩ ⟨by simp at hn ⊢; omega, hperm2, e0, f0, by simpa using f5, by dsimp only; rw [List.all_append, hvs]; simp [hyes]⟩
end Go.Proofs.YtkcimfopboelaaaGreat
