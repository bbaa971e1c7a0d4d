import Derived.Test.YtobhkdgcciolmaaGreatMAI
import Derived.Test.YtobhkdgcciolmaaGreatMAR
set_option linter.unusedSimpArgs false
set_option linter.unusedVariables false
namespace Go.AbsE
open Go
section
variable {all : Array Oper}
end
section
variable {P : Program} {c : FC} {k : List AItem} {Q : AM → Prop} {all : Array Oper} {pl rest : List DOp} {tf ta : Tr AVal} {facts left : List DFact} {i bef d : Nat} {h : AH}
theorem GoE.copyR {dst : Option Tmp} {tt : TypeId} {pos : String} {after : Array Edge} {guard : Option (Nat × Bool)} {x y : Operand} {el el2 eb t1 t2 : TypeId} {sz bytes b : Nat} {z s : AVal} {L : List (List AVal)} (hl : pl = ⟨i, bef, false, ⟨dst, .call ⟨.builtin .append, #[x, y], #[t1, t2]⟩, tt, pos, after, guard⟩, false⟩ :: rest) (hw : wantedA all ta ⟨dst, .call ⟨.builtin .append, #[x, y], #[t1, t2]⟩, tt, pos, after, guard⟩ = some true)
  (hu1 : P.underlying t1 = some (.slice el)) (hu2 : P.underlying t2 = some (.slice el2)) (hs : sizeT P el = some sz) (hby : bytesT P el = some bytes) (hz : zeroT P el = some z) (hzl : Nat.beq z.cells.length sz = true) (hsz : Nat.blt 0 sz = true)
  (hx : ev ta x = some (.slice b 0 0 0)) (hb : Has h b (.cells .plain [] eb)) (hy : ev ta y = some s) (hsl : SliceOf h sz s L) (hroom : (0 + L.length + 300) * 2 * (bytes + 1) < 281474976710656) (hleft : dropF bef facts = left) (hd : dst = some d) (hdn : Nat.blt d c.n = true)
  (g : ∀ v h1, Ext h h1 → CopR h1 el eb b h.next v L → recheck P h1 left = true ∧ GoE P c k Q all rest tf left (ta.put (pth d) (some v)) h1) : GoE P c k Q all pl tf facts ta h := by
 rcases Nat.eq_zero_or_pos L.length with hL | hL
 ·have hL := List.eq_nil_of_length_eq_zero hL
  subst hL
  obtain ⟨h1, hst⟩ : ∃ h1, h.set b (some (.cells .plain [] eb)) = some h1 := by obtain ⟨tt, nx⟩ := h; exact ⟨_, rfl⟩
  obtain ⟨s1, s2⟩ := AH.get_set hst
  have e1 : Ext h h1 := ⟨by omega, fun c hc => by
   rw [s2]
   split
   ·rename_i q; rw [q]; exact hb.2.symm
   ·rfl⟩
  have hop : aOp P ta h ⟨dst, .call ⟨.builtin .append, #[x, y], #[t1, t2]⟩, tt, pos, after, guard⟩ = some (.val (.slice b 0 0 0) h1) := by
   show opCall P ta h ⟨.builtin .append, #[x, y], #[t1, t2]⟩ tt = _
   have he : evs ta [x, y] = some [.slice b 0 0 0, s] := by simp only [evs, mapO, hx, hy]
   have hlt : Nat.blt ((0 + 0 + 300) * 2 * (bytes + 1)) 281474976710656 = true := Nat.ble_eq_true_of_le hroom
   have hlen : lenA s = some 0 := hsl.len
   have hsrc : srcCells h sz 0 s = some [] := hsl.src
   have ha : aAppend P h t1 t2 (.slice b 0 0 0) s = some (.val (.slice b 0 0 0) h1) := by
    unfold aAppend
    rw [hu1, hu2]
    simp only [hs, hby, hz, show lenA (.slice b 0 0 0) = some 0 from rfl, hlen, hsrc, hlt, hsz, hzl, cond_true]
    unfold appSlice
    have hle : Nat.ble (0 + 0) 0 = true := rfl
    rw [hle, cond_true]
    have : AbsE.storeCells h b (0 + 0 * sz) [] = some h1 := by
     unfold AbsE.storeCells
     rw [hb.2]
     have hs0 : splice ([] : List AVal) (0 + 0 * sz) [] = some [] := by rw [Nat.zero_mul]; rfl
     have hr0 : Kd.isRo .plain = false := rfl
     have hc0 : scalars [] = true := rfl
     simp only [hr0, hc0, cond_false, cond_true, hs0]
     exact hst
    rw [this]
   simp only [opCall, he, callWith, aBuiltin, ha]
  obtain ⟨g1, g2⟩ := g _ h1 e1 (.inl ⟨rfl, rfl, hb.ext e1⟩)
  exact GoE.noisy0 hl hw hop hleft g1 (prepD_some hd hdn) g2
 ·obtain ⟨h1, q1, q2, q3⟩ := aOp_appendNew (P := P) (dst := dst) (tt := tt) (pos := pos) (after := after) (guard := guard) hu1 hu2 hs hby hz hzl hsz hx hb hy hsl hL hroom
  obtain ⟨g1, g2⟩ := g _ h1 q2 (.inr ⟨hL, _, Nat.le_refl _, rfl, q3⟩)
  exact GoE.noisy0 hl hw q1 hleft g1 (prepD_some hd hdn) g2
end
theorem CopR.scal {h : AH} {el eb : TypeId} {b lo : Nat} {v : AVal} {L : List (List AVal)} (k : CopR h el eb b lo v L) : v.cells = [v] ∧ scalars [v] = true ∧ sameA v v = true := by
 rcases k with ⟨_, rfl, _⟩ | ⟨_, B, _, rfl, _⟩
 ·exact ⟨rfl, rfl, by simp [sameA]⟩
 ·exact ⟨rfl, rfl, by simp [sameA]⟩
theorem CopR.upd {h h' : AH} {el eb : TypeId} {b lo x : Nat} {o : ABlk} {v : AVal} {L : List (List AVal)} (k : CopR h el eb b lo v L) (u : Upd h x o h') (h1 : b ≠ x) (h2 : x < lo) : CopR h' el eb b lo v L := by
 rcases k with ⟨k1, k2, k3⟩ | ⟨k1, B, k2, k3, k4⟩
 ·exact .inl ⟨k1, k2, k3.upd u h1⟩
 ·exact .inr ⟨k1, B, k2, k3, k4.upd u (by omega)⟩
theorem SliceOf.gsl {h : AH} {sz b n : Nat} {el : TypeId} {g : Kd} {L : List (List AVal)} (f : Has h b (.cells g L.flatten el)) (hl : L.length = n) (hz : ∀ l, l ∈ L → l.length = sz) : SliceOf h sz (.gsl b 0 0 n) L := by
 refine .mk (b := b) (off := 0) (len := n) rfl rfl f.1 hl hz ?_
 unfold AbsE.loadCells
 rw [f.2]
 exact slice_all (flatten_len hz)
theorem CopR.slice {h : AH} {el eb : TypeId} {sz b lo : Nat} {v : AVal} {L : List (List AVal)} (k : CopR h el eb b lo v L) (hz : ∀ l, l ∈ L → l.length = sz) : SliceOf h sz v L := by
 rcases k with ⟨rfl, rfl, f⟩ | ⟨_, B, _, rfl, f⟩
 ·refine .mk (b := b) (off := 0) (len := 0) rfl rfl f.1 rfl (fun _ q => by cases q) ?_
  unfold AbsE.loadCells
  rw [f.2]
  simp [slice?]
 ·exact SliceOf.gsl f rfl hz
theorem CopR.extF {h h' : AH} {el eb : TypeId} {b lo : Nat} {v : AVal} {L : List (List AVal)} {F : Nat → Prop} (k : CopR h el eb b lo v L) (y : ExtF F h h') (h1 : ¬ F b) (h2 : ∀ c, lo ≤ c → ¬ F c) : CopR h' el eb b lo v L := by
 rcases k with ⟨k1, k2, k3⟩ | ⟨k1, B, k2, k3, k4⟩
 ·exact .inl ⟨k1, k2, k3.extF y h1⟩
 ·exact .inr ⟨k1, B, k2, k3, k4.extF y (h2 B k2)⟩
end Go.AbsE

namespace Go.Proofs.YtobhkdgcciolmaaGreat
open Go Go.AbsE
set_option linter.unusedSimpArgs false
set_option maxRecDepth 100000
set_option maxHeartbeats 0
set_option linter.unusedVariables false
theorem mulB1 {a b : Int} (h1 : 1 ≤ a ∧ a ≤ 10) (h2 : 1 ≤ b ∧ b ≤ 10) : -9223372036854775808 ≤ a * b ∧ a * b ≤ 9223372036854775807 := by
 have := mul_in (A := 10) (B := 10) h1 h2
 omega
theorem mulB2 {a b c : Int} (h1 : 1 ≤ a ∧ a ≤ 10) (h2 : 1 ≤ b ∧ b ≤ 10) (h3 : 1 ≤ c ∧ c ≤ 10) : -9223372036854775808 ≤ a * b * c ∧ a * b * c ≤ 9223372036854775807 := by
 have := mul_in (A := 10 * 10) (B := 10) (mul_in (A := 10) (B := 10) h1 h2) h3
 omega
theorem mulB3 {a b c d : Int} (h1 : 1 ≤ a ∧ a ≤ 10) (h2 : 1 ≤ b ∧ b ≤ 10) (h3 : 1 ≤ c ∧ c ≤ 10) (h4 : 1 ≤ d ∧ d ≤ 5) : -9223372036854775808 ≤ a * b * c * d ∧ a * b * c * d ≤ 9223372036854775807 := by
 have := mul_in (A := 10 * 10 * 10) (B := 5) (mul_in (A := 10 * 10) (B := 10) (mul_in (A := 10) (B := 10) h1 h2) h3) h4
 omega
theorem set_range {n c : Nat} {f : Nat → AVal} {x : AVal} (hc : c < n) : ((List.range n).map f).set c x = (List.range n).map fun j => if j = c then x else f j := by
 apply List.ext_getElem?
 intro j
 rw [List.getElem?_set, List.getElem?_map, List.getElem?_map, List.length_map, List.length_range]
 by_cases q : c = j
 ·subst q;rw [if_pos rfl, if_pos hc, List.getElem?_range hc]
  simp
 ·rw [if_neg q]
  cases w : (List.range n)[j]? with
  | none => rfl
  | some v =>
   obtain ⟨a, b⟩ := List.getElem?_eq_some_iff.1 w
   rw [List.getElem_range] at b;subst b
   show some (f j) = some (if j = c then x else f j)
   rw [if_neg (fun z => q z.symm)]
theorem flat4 (E : List EV) : (E.flatMap EV.cells).length = E.length * 4 := by
 induction E with
 | nil => rfl
 | cons e E ih =>
  rw [List.flatMap_cons, List.length_append, ih]
  show 4 + _ = (E.length + 1) * 4
  omega
def Apart (n : Nat) (a b : AVal) : Prop := ∀ x, a = .gsl x 0 0 n → b = .gsl x 0 0 n → False
theorem truly31_ok {C : ClampV} (O : C.Ok) {bs : List Int} (hbs : ∀ x, x ∈ bs → 0 ≤ x ∧ x < 65536) (hlen : bs.length < 9223372036854775808) {p e qv : AVal} {ba bb : Nat} {g h : AH} (A : ClampAt g C p e) (eg : Ext g h) (hga : g.next ≤ ba) (hgb : g.next ≤ bb) (hab : ba ≠ bb) (Q : SliceOf g 1 qv (u16s bs)) (fa : Has h ba (.cells .plain [.int .i64 0] 3)) (fb : Has h bb (.cells .plain [qv] 41)) :
  Runs Tryz.prog 31 [.agg (C.cells p e), .func (.func 82) [] [.ptr ba 0, .ptr bb 0]] h (fun en h' => ExtF (fun b => b = ba) h h' ∧ ((∃ ew, en = .ret (.tuple [.agg (C.cells p ew), .nilslice, .nilslice, .bool false]) ∧ scalars (C.cells p ew) = true ∧ sameA ew ew = true) ∨
   ∃ (ew sb sl : AVal) (E : List EV) (b : BT) (lv : Nat → Int), en = .ret (.tuple [.agg (C.cells p ew), sb, sl, .bool true]) ∧ Truth C { C with es := E } b lv ∧ ∀ h2, ExtF (fun b => b < h.next) h' h2 → SliceOf h2 4 ew (E.map EV.cells) ∧ SliceOf h2 1 sb ((List.range C.ps.length).map fun j => [.int .i64 (firstV b j)]) ∧ SliceOf h2 1 sl ((List.range C.ps.length).map fun j => [.int .i64 (lv j)]))) := by
 have hnp := O.np
 have hne := O.ne
 have hk := O.k
 have hl1 := A.ps.len
 have hl2 := A.es.len
 rw [List.length_map] at hl1 hl2
 have hsc : scalars [p, .int .i64 C.pl, .int .i64 C.ph, e] = true := A.scal
 unfold ClampV.cells at *
 have hba := fa.1
 have hbb := fb.1
 have y0 : ExtF (fun b => b = ba) h h := ExtF.of (Ext.refl _)
 refine Runs.intro aFunc31 rfl rfl rfl rfl fun rest => ?_;apply gS;refine gR rfl ?_;refine GoR.box rfl rfl rfl rfl rfl rfl fun h0 x0 f0 => ?_;have := eg.1;have := fa.1;have := fb.1;replace fa := fa.ext x0;replace fb := fb.ext x0;replace eg := eg.trans x0;replace y0 := y0.ext x0;have := f0.1;refine GoR.alloc rfl rfl rfl zt27 rfl rfl fun h1 x1 f1 => ?_;have := eg.1;have := f0.1;have := fa.1;have := fb.1;replace f0 := f0.ext x1;replace fa := fa.ext x1;replace fb := fb.ext x1;replace eg := eg.trans x1;replace y0 := y0.ext x1;have := f1.1;iterate 3 refine gP ?_
 apply gE;apply gS;refine gR rfl ?_;refine gP ?_;refine gO rfl rfl (fa27_1 rfl) rfl ?_;refine gO rfl rfl (ld24 rfl f0 rfl) rfl ?_;refine GoR.call rfl rfl (aOp_callVal rfl aFunc82 rfl) (draw82_ok hbs (by assumption) (by assumption) eg hab Q (by omega) hlen (by constructor <;> omega) (by omega)) ?_ (by rintro _ _ ⟨w, q, wl, wh, _, _⟩; cases q);rintro v2 h2 ⟨w, q, wl, wh, y2, f2⟩;cases q;refine ⟨_, rfl, ?_⟩;iterate 2 have := eg.1
 have := f1.1;have := f0.1;have := fa.1;have := fb.1;replace f1 := f1.extF y2 (fun q => by omega);replace f0 := f0.extF y2 (fun q => by omega);clear fa;replace fb := fb.extF y2 (fun q => by omega);replace eg := y2.low eg (fun b q => by omega);replace y0 := y0.trans (fun b q => .inl q) y2;have := y2.1;refine gP ?_;apply gE;iterate 2 apply gS
 refine gR rfl ?_;refine gO rfl rfl (fa27_0 rfl) rfl ?_;refine gO rfl rfl (ld22 rfl f0 rfl) rfl ?_;refine gO rfl rfl (aOp_lenSlice Tryz.underlying22 rfl hl1) rfl ?_;refine gP ?_;apply gE;refine Go.block noJ_ok ?_
 obtain ⟨k, hk'⟩ : ∃ k, k = w := ⟨_, rfl⟩
 subst hk'
 have kl := wl
 have kh := wh
 have m1 := f1.1
 have m2 := f0.1
 have m3 := f2.1
 refine Go.loopKeep (fun a : Nat × AVal × AVal × List Int => [(1, .func (.func 82) [] [.ptr ba 0, .ptr bb 0]), (2, .ptr h.next 0), (4, .ptr h0.next 0), (5, a.2.1), (6, a.2.2.1), (8, .int .i64 k), (20, p), (21, .int .i64 C.ps.length), (22, .int .i64 (a.1 : Nat))])
  (fun m a h' => m + a.1 = C.ps.length ∧ Ext g h' ∧ ExtF (fun b => b = ba) h h' ∧ h2.next ≤ h'.next ∧ Has h' h.next (.cells .plain [p, .int .i64 C.pl, .int .i64 C.ph, e] 27) ∧ Has h' h0.next (.cells .plain [.nilslice, .int .i64 0, .int .i64 0, .nilslice] 27) ∧ Has h' ba (.cells .plain [.int .i64 (1 + 3 * a.1 : Nat)] 3) ∧ Has h' bb (.cells .plain [qv] 41) ∧ a.2.2.2.length = a.1 ∧ (∀ (j : Nat) x, C.ps[j]? = some x → j < a.1 → a.2.2.2.getD j 0 ∈ x.sizes) ∧ Grow h' 3 1 h2.next a.2.1 a.1 (i64s (a.2.2.2.map (· * k))) ∧ Grow h' 3 1 h2.next a.2.2.1 a.1 (i64s (a.2.2.2.map (· * k))) ∧ Apart a.1 a.2.1 a.2.2.1)
  (n := C.ps.length) (0, .nilslice, .nilslice, []) ⟨rfl, rfl, rfl, rfl, rfl, rfl, rfl, rfl, rfl, trivial⟩ ⟨rfl, eg, y0, Nat.le_refl _, f0, f1, f2, fb, rfl, fun j x _ q => absurd q (by omega), Grow.nil _ _ _ _, Grow.nil _ _ _ _, fun x q => by cases q⟩ ?_
 clear eg y0 f0 f1 f2 fb;rintro m ⟨i, sb, sl, F⟩ h20 ⟨hmi, eg, y0, hle, f0, f1, fa, fb, hFl, hF, G1, G2, AP⟩ again
 dsimp only at hmi fa hFl hF G1 G2 AP ⊢
 have hn9 := f0.1
 have hn8 := f1.1
 have hn7 := fa.1
 have hn6 := fb.1
 by_cases hi : i < C.ps.length
 ·obtain ⟨x, hx⟩ : ∃ x, C.ps[i]? = some x := ⟨C.ps[i], by simp [hi]⟩
  have hxO := O.p x (List.mem_of_getElem? hx)
  obtain ⟨bq, off, q1, q2⟩ := A.ps.at (i := i) (l := PV.cells x) (by rw [List.getElem?_map, hx]; rfl)
  rw [List.length_map] at q1
  obtain ⟨ll, lh, wl', wh', hl, hh⟩ := x
  obtain ⟨⟨⟨o1, o2, o3⟩, _⟩, ⟨⟨o4, o5, o6⟩, _⟩, ⟨o7, o8, o9⟩, _⟩ := hxO
  unfold PV.cells at q2
  dsimp only at q2 o1 o2 o3 o4 o5 o6 o7 o8 o9
  have y11 : ExtF (fun b => b = ba) h20 h20 := .of (Ext.refl _)
  have y12 : ExtF (fun b => b = ba ∨ sb = .gsl b 0 0 i) h20 h20 := .of (Ext.refl _)
  apply gS;refine gR rfl ?_;refine gO rfl rfl (kLT rfl rfl) rfl ?_;apply gE;apply gS;refine gC (b := true) rfl ?_;refine gD ?_;apply gS;refine Go.block noJ_ok ?_;apply gS;refine gR rfl ?_;refine gO rfl rfl (aOp_indexAddr (i := i) Tryz.underlying22 sz58 rfl q1 rfl (Nat.ble_eq_true_of_le hi)) rfl ?_;refine gO rfl rfl (aOp_loadE ag58 sz58 rfl (q2.ext eg)) rfl ?_;refine GoR.alloc rfl rfl rfl zt58 rfl rfl fun h21 x21 f21 => ?_;have := eg.1;have := f0.1;have := f1.1;have := fa.1;have := fb.1;replace f0 := f0.ext x21;replace f1 := f1.ext x21;replace fa := fa.ext x21;replace fb := fb.ext x21;replace eg := eg.trans x21;replace y0 := y0.ext x21;replace y11 := y11.ext x21;replace y12 := y12.ext x21;have := f21.1;refine GoR.store rfl rfl rfl rfl rfl rfl f21 rfl sz58 rfl rfl rfl fun h22 u22 => ?_;replace f21 := u22.has f21;replace f0 := f0.upd u22 (by omega);replace f1 := f1.upd u22 (by omega);replace fa := fa.upd u22 (by omega);replace fb := fb.upd u22 (by omega);replace eg := eg.upd u22 (by omega);replace y0 := y0.upd u22 (.inr (by omega));replace y11 := y11.upd u22 (.inr (by omega));replace y12 := y12.upd u22 (.inr (by omega));apply gE;apply gS;refine Go.drawnE plan31_0 ?_;refine gQ rfl rfl rfl rfl ?_;refine gQ rfl rfl (fa58_0 rfl) rfl ?_;refine gQ rfl rfl (ld24 rfl f21 rfl) rfl ?_;refine gQ rfl rfl rfl rfl ?_;refine gQ rfl rfl (fa58_1 rfl) rfl ?_;refine gQ rfl rfl (ld24 rfl f21 rfl) rfl ?_;refine gQ rfl rfl rfl rfl ?_;refine gQ rfl rfl (fa58_2 rfl) rfl ?_;refine gQ rfl rfl (ld24 rfl f21 rfl) rfl ?_;refine gQ rfl rfl rfl rfl ?_;refine GoE.call rfl rfl (aOp_callVal rfl aFunc82 rfl) (draw82_ok (lo := ll) (hi := lh) hbs (by assumption) (by assumption) eg hab Q (by omega) hlen (by constructor <;> omega) (by omega)) (dK 7 14 (dK 7 11 (dK 7 10 (dK 7 9 (dK 7 6 (dK 7 5 (dK 7 4 (dD 7 2 (dD 7 1 (dD 7 0 rfl)))))))))) ?_ (by rintro _ _ ⟨va, q, val, vah, _, _⟩; cases q);rintro v23 h23 ⟨va, q, val, vah, y23, f23⟩;cases q;have := eg.1;have := f21.1;have := f0.1;have := f1.1;have := fa.1;have := fb.1;have := eg.1;have := f21.1;have := f0.1;have := f1.1;have := fa.1;have := fb.1;replace f21 := f21.extF y23 (fun q => by omega);replace f0 := f0.extF y23 (fun q => by omega);replace f1 := f1.extF y23 (fun q => by omega);clear fa;replace fb := fb.extF y23 (fun q => by omega);replace eg := y23.low eg (fun b q => by omega);replace y0 := y0.trans (fun b q => .inl q) y23;replace y11 := y11.trans (fun b q => .inl q) y23;replace y12 := y12.trans (fun b q => .inl (.inl q)) y23;have := y23.1;refine ⟨(rck (h2 := h23) rfl (rfl) (rck (h2 := h23) rfl (ld24 rfl f21 rfl) (rck (h2 := h23) rfl (fa58_2 rfl) (rck (h2 := h23) rfl (rfl) (rck (h2 := h23) rfl (ld24 rfl f21 rfl) (rck (h2 := h23) rfl (fa58_1 rfl) (rck (h2 := h23) rfl (rfl) recheck_nil))))))), _, rfl, ?_⟩;refine GoE.call rfl rfl (aOp_callVal rfl aFunc82 rfl) (draw82_ok (lo := wl') (hi := wh') hbs (by assumption) (by assumption) eg hab Q (by omega) hlen (by constructor <;> omega) (by omega)) (dK 127 14 (dK 127 11 (dK 127 10 (dK 127 9 (dD 127 6 (dD 127 5 (dD 127 4 rfl))))))) ?_ (by rintro _ _ ⟨vb, q, vbl, vbh, _, _⟩; cases q);rintro v24 h24 ⟨vb, q, vbl, vbh, y24, f24⟩;cases q;have := eg.1;have := f23.1;have := f21.1;have := f0.1;have := f1.1;have := fb.1;have := eg.1;have := f23.1;have := f21.1;have := f0.1;have := f1.1;have := fb.1;clear f23;replace f21 := f21.extF y24 (fun q => by omega);replace f0 := f0.extF y24 (fun q => by omega);replace f1 := f1.extF y24 (fun q => by omega);replace fb := fb.extF y24 (fun q => by omega);replace eg := y24.low eg (fun b q => by omega);replace y23 := y23.trans (fun b q => .inl q) y24;replace y0 := y0.trans (fun b q => .inl q) y24;replace y11 := y11.trans (fun b q => .inl q) y24;replace y12 := y12.trans (fun b q => .inl (.inl q)) y24;have := y24.1;refine ⟨(rck (h2 := h24) rfl (rfl) (rck (h2 := h24) rfl (ld24 rfl f21 rfl) (rck (h2 := h24) rfl (fa58_2 rfl) (rck (h2 := h24) rfl (rfl) recheck_nil)))), _, rfl, ?_⟩;refine gQ rfl rfl (aOp_mul rfl rfl rfl (mulB1 (by omega) (by omega))) rfl ?_;refine GoE.call rfl rfl (aOp_callVal rfl aFunc82 rfl) (draw82_ok (lo := hl) (hi := hh) hbs (by assumption) (by assumption) eg hab Q (by omega) hlen (by constructor <;> omega) (by omega)) (dK 3839 8 (dK 3839 14 (dD 3839 11 (dD 3839 10 (dD 3839 9 rfl))))) ?_ (by rintro _ _ ⟨vc, q, vcl, vch, _, _⟩; cases q);rintro v25 h25 ⟨vc, q, vcl, vch, y25, f25⟩;cases q;have := eg.1;have := f24.1;have := f21.1;have := f0.1;have := f1.1;have := fb.1;have := eg.1;have := f24.1;have := f21.1;have := f0.1;have := f1.1;have := fb.1;clear f24;replace f21 := f21.extF y25 (fun q => by omega);replace f0 := f0.extF y25 (fun q => by omega);replace f1 := f1.extF y25 (fun q => by omega);replace fb := fb.extF y25 (fun q => by omega);replace eg := y25.low eg (fun b q => by omega);replace y0 := y0.trans (fun b q => .inl q) y25;replace y11 := y11.trans (fun b q => .inl q) y25;replace y12 := y12.trans (fun b q => .inl (.inl q)) y25;have := y25.1;refine ⟨(rck (h2 := h25) rfl (aOp_mul rfl rfl rfl (mulB1 (by omega) (by omega))) (rck (h2 := h25) rfl (rfl) recheck_nil)), _, rfl, ?_⟩;refine gQ rfl rfl (aOp_mul rfl rfl rfl (mulB2 (by omega) (by omega) (by omega))) rfl ?_;refine gQ rfl rfl (aOp_mul rfl rfl rfl (mulB3 (by omega) (by omega) (by omega) (by omega))) rfl ?_;refine gQ rfl rfl rfl rfl ?_;refine GoE.end rfl ?_;refine gR rfl ?_;iterate 2 refine gP ?_
  obtain ⟨f, hf⟩ : ∃ f, va * vb * vc = f := ⟨_, rfl⟩
  have hfin : f ∈ PV.sizes ⟨ll, lh, wl', wh', hl, hh⟩ := mem_sizes.2 ⟨va, vb, vc, ⟨val, vah⟩, ⟨vbl, vbh⟩, ⟨vcl, vch⟩, hf.symm⟩
  have hF2 : ∀ (j : Nat) x, C.ps[j]? = some x → j < i + 1 → (F ++ [f]).getD j 0 ∈ x.sizes := fun j x hj hji => by
   rw [List.getD_eq_getElem?_getD]
   by_cases q : j < i
   ·rw [List.getElem?_append_left (by omega), ← List.getD_eq_getElem?_getD];exact hF j x hj q
   ·have : j = i := by omega
    subst this;rw [hx] at hj;cases hj;rw [List.getElem?_append_right (by omega), hFl, Nat.sub_self];exact hfin
  rw [hf]
  have hi4 : i < 4 := by omega
  refine GoR.buildSl rfl rfl (ps := [(0, .int .i64 (f * k))]) (cs := [.int .i64 (f * k)]) Tryz.underlying44 rfl sz3 zt3 rfl rfl rfl rfl fun h26 x26 f26 => ?_;have := eg.1;have := f25.1;have := f21.1;have := f0.1;have := f1.1;have := fb.1;replace f25 := f25.ext x26;replace f21 := f21.ext x26;replace f0 := f0.ext x26;replace f1 := f1.ext x26;replace fb := fb.ext x26;replace eg := eg.trans x26;replace y0 := y0.ext x26;replace y11 := y11.ext x26;replace y12 := y12.ext x26;have := f26.1;refine GoR.append1F rfl rfl rfl Tryz.underlying44 Tryz.underlying44 sz3 by3 zt3 rfl rfl rfl rfl f26 rfl rfl (grow_extF G1 y11 (fun b q => by have : b = ba := q; omega)) (by omega) rfl rfl fun s27 h27 y27 g27 => ?_;have := f26.1;have := f25.1;have := f21.1;have := f0.1;have := f1.1;have := fb.1;have := eg.1;clear f26;replace f25 := f25.extF y27 (fun q => by have := (grow_own (grow_extF G1 y11 (fun b q => by have : b = ba := q; omega)) q).1; omega);clear f21;replace f0 := f0.extF y27 (fun q => by have := (grow_own (grow_extF G1 y11 (fun b q => by have : b = ba := q; omega)) q).1; omega);replace f1 := f1.extF y27 (fun q => by have := (grow_own (grow_extF G1 y11 (fun b q => by have : b = ba := q; omega)) q).1; omega);replace fb := fb.extF y27 (fun q => by have := (grow_own (grow_extF G1 y11 (fun b q => by have : b = ba := q; omega)) q).1; omega);replace eg := y27.low eg (fun b q => by have := (grow_own (grow_extF G1 y11 (fun b q => by have : b = ba := q; omega)) q).1; omega);clear y25;clear y24;clear y23;replace y0 := y0.trans (fun b q => .inr (by have := (grow_own (grow_extF G1 y11 (fun b q => by have : b = ba := q; omega)) q).1; omega)) y27;clear y11;replace y12 := y12.trans (fun b q => .inl (.inr q)) y27;have := y27.1;iterate 2 refine gP ?_
  refine GoR.buildSl rfl rfl (ps := [(0, .int .i64 (f * k))]) (cs := [.int .i64 (f * k)]) Tryz.underlying44 rfl sz3 zt3 rfl rfl rfl rfl fun h28 x28 f28 => ?_;have := eg.1;have := f25.1;have := f0.1;have := f1.1;have := fb.1;replace f25 := f25.ext x28;replace f0 := f0.ext x28;replace f1 := f1.ext x28;replace fb := fb.ext x28;replace eg := eg.trans x28;replace y0 := y0.ext x28;replace y12 := y12.ext x28;have := f28.1;refine GoR.append1F rfl rfl rfl Tryz.underlying44 Tryz.underlying44 sz3 by3 zt3 rfl rfl rfl rfl f28 rfl rfl (G2.keep y12.1 (fun b hb hlt hs => y12.2 b hlt (fun w => w.elim (fun w => by have := (grow_own G2 hs).1; omega) (fun w => AP b w hs)))) (by omega) rfl rfl fun s29 h29 y29 g29 => ?_;have := f28.1;have := f25.1;have := f0.1;have := f1.1;have := fb.1;have := eg.1;clear f28;replace f25 := f25.extF y29 (fun q => by have := (grow_own (G2.keep y12.1 (fun b hb hlt hs => y12.2 b hlt (fun w => w.elim (fun w => by have := (grow_own G2 hs).1; omega) (fun w => AP b w hs)))) q).1; omega);replace f0 := f0.extF y29 (fun q => by have := (grow_own (G2.keep y12.1 (fun b hb hlt hs => y12.2 b hlt (fun w => w.elim (fun w => by have := (grow_own G2 hs).1; omega) (fun w => AP b w hs)))) q).1; omega);replace f1 := f1.extF y29 (fun q => by have := (grow_own (G2.keep y12.1 (fun b hb hlt hs => y12.2 b hlt (fun w => w.elim (fun w => by have := (grow_own G2 hs).1; omega) (fun w => AP b w hs)))) q).1; omega);replace fb := fb.extF y29 (fun q => by have := (grow_own (G2.keep y12.1 (fun b hb hlt hs => y12.2 b hlt (fun w => w.elim (fun w => by have := (grow_own G2 hs).1; omega) (fun w => AP b w hs)))) q).1; omega);replace eg := y29.low eg (fun b q => by have := (grow_own (G2.keep y12.1 (fun b hb hlt hs => y12.2 b hlt (fun w => w.elim (fun w => by have := (grow_own G2 hs).1; omega) (fun w => AP b w hs)))) q).1; omega);clear y27;replace y0 := y0.trans (fun b q => .inr (by have := (grow_own (G2.keep y12.1 (fun b hb hlt hs => y12.2 b hlt (fun w => w.elim (fun w => by have := (grow_own G2 hs).1; omega) (fun w => AP b w hs)))) q).1; omega)) y29;clear y12;have := y29.1;iterate 2 refine gP ?_
  apply gE;refine Go.inBlock noJ_ok ?_;refine gR rfl ?_;refine gO rfl rfl (aA rfl rfl) rfl ?_;refine gP ?_;apply gE
  have G1' := (g27.ext x28).keep y29.1 (fun b hb hlt hs => y29.2 b hlt (fun w => by have := (grow_own G2 w).2; omega))
  refine again (m - 1) (i + 1, s27, s29, F ++ [f]) _ _ (by omega) ⟨rfl, rfl, rfl, rfl, rfl, rfl, rfl, rfl, rfl, trivial⟩ ⟨by dsimp only; omega, eg, y0, by omega, f0, f1, by rw [show ((1 + 3 * (i + 1) : Nat) : Int) = ((1 + 3 * i : Nat) : Int) + 1 + 1 + 1 by omega]; exact f25, fb, by dsimp only; rw [List.length_append, hFl]; rfl, hF2, ?_, ?_, fun b w1 w2 => ?_⟩
  ·dsimp only
   unfold i64s at G1' ⊢
   rw [List.map_append, List.map_append];exact G1'.low (by omega)
  ·dsimp only
   unfold i64s at g29 ⊢
   rw [List.map_append, List.map_append];exact g29.low (by omega)
  ·have a1 := (grow_own g27 w1).2
   have a2 := (grow_own g29 w2).1
   omega
 ·have hin : i = C.ps.length := by omega
  subst hin;clear again
  obtain ⟨b1, hb1, rfl, B1⟩ := (G1.2.resolve_left (fun w => by omega)).2
  obtain ⟨b2, hb2, rfl, B2⟩ := (G2.2.resolve_left (fun w => by omega)).2
  have hb12 : b1 ≠ b2 := fun w => AP b1 rfl (by rw [w])
  have hb1n := B1.1
  have hb2n := B2.1
  clear G1 G2 AP;apply gS;refine gR rfl ?_;refine gO rfl rfl (kLF rfl rfl) rfl ?_;apply gE;apply gS;refine gC (b := false) rfl ?_;refine gD ?_;apply gS;refine gR rfl ?_;refine gO rfl rfl (ld27 rfl f0 rfl) rfl ?_;refine GoR.store rfl rfl rfl rfl rfl rfl f1 rfl sz27 rfl hsc rfl fun h21 u21 => ?_;replace f0 := f0.upd u21 (by omega);replace f1 := u21.has f1;replace fb := fb.upd u21 (by omega);replace fa := fa.upd u21 (by omega);replace B1 := B1.upd u21 (by omega);replace B2 := B2.upd u21 (by omega);replace eg := eg.upd u21 (by omega);replace y0 := y0.upd u21 (.inr (by omega));apply gE;apply gS;refine gR rfl ?_;refine GoR.buildSl rfl rfl (ps := []) (cs := []) Tryz.underlying25 rfl sz53 zt53 rfl rfl rfl rfl fun h22 x22 f22 => ?_;have := eg.1;have := f0.1;have := f1.1;have := fb.1;have := fa.1
  have := B1.1
  have := B2.1
  replace f0 := f0.ext x22;replace f1 := f1.ext x22;replace fb := fb.ext x22;replace fa := fa.ext x22;replace B1 := B1.ext x22;replace B2 := B2.ext x22;replace eg := eg.trans x22;replace y0 := y0.ext x22;have := f22.1;refine gO rfl rfl (fa27_2 rfl) rfl ?_;refine gO rfl rfl (ld25 rfl f0 rfl) rfl ?_;refine GoR.copyR (L := C.es.map EV.cells) rfl rfl Tryz.underlying25 Tryz.underlying25 sz53 by53 zt53 rfl rfl rfl f22 rfl (A.es.ext eg) (by rw [List.length_map]; omega) rfl rfl fun v23 h23 x23 CP => ?_
  have m22 := x23.1
  replace f0 := f0.ext x23;replace f1 := f1.ext x23;replace fb := fb.ext x23;replace fa := fa.ext x23;replace B1 := B1.ext x23;replace B2 := B2.ext x23;replace eg := eg.trans x23;replace y0 := y0.ext x23;clear f22
  have hsz : ∀ (j : Nat) x, C.ps[j]? = some x → F.getD j 0 ∈ x.sizes := fun j x hj => hF j x hj (List.getElem?_eq_some_iff.1 hj).1
  have hfv : ∀ j, firstV (F, k) j = F.getD j 0 * k := fun j => rfl
  have hfin : ∀ j, j < C.ps.length → 1 ≤ firstV (F, k) j ∧ firstV (F, k) j ≤ 5000 := fun j hj => by
   have h6 := sizes_in (O.p _ (List.getElem_mem hj)) (hsz j _ (List.getElem?_eq_getElem hj))
   have := mul_in (a := F.getD j 0) (b := k) (A := 1000) (B := 5) h6 (by omega)
   rw [hfv]
   omega
  have hvals : i64s (F.map (· * k)) = (List.range C.ps.length).map fun j => AVal.int .i64 (firstV (F, k) j) := by
   unfold i64s
   apply List.ext_getElem?
   intro j
   rw [List.getElem?_map, List.getElem?_map, List.getElem?_map]
   by_cases hj : j < C.ps.length
   ·rw [List.getElem?_range hj, List.getElem?_eq_getElem (by omega)]
    show some (AVal.int .i64 (F[j]'(by omega) * k)) = some (AVal.int .i64 (F.getD j 0 * k))
    rw [List.getD_eq_getElem?_getD, List.getElem?_eq_getElem (by omega)]
    rfl
   ·rw [List.getElem?_eq_none (by omega), List.getElem?_eq_none (by rw [List.length_range]; omega)]
    rfl
  rw [hvals] at B1 B2
  have hTI : TI C (F, k) [] (firstV (F, k)) := TI.nil fun j hj => by have := hfin j hj; omega
  have hone : ∀ {h' h2 : AH} {bx : Nat} {G : Nat → Int}, h.next ≤ bx → Has h' bx (.cells .grow ((List.range C.ps.length).map fun j => AVal.int .i64 (G j)) 3) → ExtF (fun b => b < h.next) h' h2 → SliceOf h2 1 (.gsl bx 0 0 C.ps.length) ((List.range C.ps.length).map fun j => [AVal.int .i64 (G j)]) := fun {h' h2 bx G} hb hB y => by
   refine SliceOf.gsl (el := 3) (g := .grow) ?_ (by rw [List.length_map, List.length_range]) (fun l hl => by obtain ⟨_, _, rfl⟩ := List.mem_map.1 hl; rfl)
   have : ((List.range C.ps.length).map fun j => [AVal.int .i64 (G j)]).flatten = (List.range C.ps.length).map fun j => AVal.int .i64 (G j) := by rw [← List.flatMap_def, flat_one]
   rw [this];exact hB.extF y (fun q => by omega)
  rcases CP with ⟨hL, rfl, fe⟩ | ⟨hL, Be, hBe, rfl, fe⟩
  ·have hes : C.es = [] := List.map_eq_nil_iff.1 hL
   rw [hes] at hl2
   have hsp0 : scalars [p, .int .i64 C.pl, .int .i64 C.ph, .slice h21.next 0 0 0] = true := scal_app (a := [p, .int .i64 C.pl, .int .i64 C.ph]) (scal_app (a := [p]) A.ps.scal.1 rfl) rfl
   refine gO rfl rfl (fa27_2 rfl) rfl ?_;refine GoR.store rfl rfl rfl rfl rfl rfl f1 rfl sz25 rfl rfl rfl fun h24 u24 => ?_;replace f0 := f0.upd u24 (by omega);replace f1 := u24.has f1;replace fb := fb.upd u24 (by omega);replace fa := fa.upd u24 (by omega);replace B1 := B1.upd u24 (by omega);replace B2 := B2.upd u24 (by omega);replace fe := fe.upd u24 (by omega);replace eg := eg.upd u24 (by omega);replace y0 := y0.upd u24 (.inr (by omega));apply gE;iterate 2 apply gS
   refine gR rfl ?_;refine gO rfl rfl (fa27_2 rfl) rfl ?_;refine gO rfl rfl (ld25 rfl f0 rfl) rfl ?_;refine gO rfl rfl (aOp_lenSlice Tryz.underlying25 rfl hl2) rfl ?_;refine gP ?_;apply gE;refine Go.block noJ_ok ?_;refine Go.loopKeep (fun _ : Unit => [(4, .ptr h0.next 0), (5, .gsl b1 0 0 C.ps.length), (6, .gsl b2 0 0 C.ps.length), (58, e), (59, .int .i64 (0 : Nat)), (60, .int .i64 0)]) (fun m _ h' => h' = h24) (n := 0) () ⟨rfl, rfl, rfl, rfl, rfl, rfl, trivial⟩ rfl ?_;rintro m ⟨⟩ _ rfl again;clear again
   have hT := hTI.truth O (by rw [hes]) (show C.pl ≤ k ∧ k ≤ C.ph from ⟨kl, kh⟩) hFl hsz
   apply gS;refine gR rfl ?_;refine gO rfl rfl (kLF rfl rfl) rfl ?_;apply gE;apply gS;refine gC (b := false) rfl ?_;refine gD ?_;apply gS;refine gR rfl ?_;refine gO rfl rfl (ld27 rfl f1 rfl) rfl ?_;iterate 2 refine gP ?_
   refine GoR.store rfl rfl rfl rfl rfl rfl f1 rfl sz27 rfl hsp0 rfl fun h24 u24 => ?_;replace f1 := u24.has f1;replace fb := fb.upd u24 (by omega);replace fa := fa.upd u24 (by omega);replace B1 := B1.upd u24 (by omega);replace B2 := B2.upd u24 (by omega);replace fe := fe.upd u24 (by omega);replace eg := eg.upd u24 (by omega);replace y0 := y0.upd u24 (.inr (by omega));iterate 3 refine gP ?_
   apply gE;exact gV (ret_end (aResult_of Tryz.func31 rfl (aResults_c rfl f1 (inCells_agg ag27 sz27 rfl) rfl)) (⟨y0, .inr ⟨_, _, _, [], (F, k), firstV (F, k), rfl, hT, fun h2 y => ⟨evs_slice (L := []) (g := .plain) (el := 53) rfl (fe.extF y (fun q => by omega)), hone (by omega) B1 y, hone (by omega) B2 y⟩⟩⟩))
  ·rw [List.length_map] at *;refine gO rfl rfl (fa27_2 rfl) rfl ?_;refine GoR.store rfl rfl rfl rfl rfl rfl f1 rfl sz25 rfl rfl rfl fun h24 u24 => ?_;replace f0 := f0.upd u24 (by omega);replace f1 := u24.has f1;replace fb := fb.upd u24 (by omega);replace fa := fa.upd u24 (by omega);replace B1 := B1.upd u24 (by omega);replace B2 := B2.upd u24 (by omega);replace fe := fe.upd u24 (by omega);replace eg := eg.upd u24 (by omega);replace y0 := y0.upd u24 (.inr (by omega));apply gE;iterate 2 apply gS
   refine gR rfl ?_;refine gO rfl rfl (fa27_2 rfl) rfl ?_;refine gO rfl rfl (ld25 rfl f0 rfl) rfl ?_;refine gO rfl rfl (aOp_lenSlice Tryz.underlying25 rfl hl2) rfl ?_;refine gP ?_;apply gE;refine Go.block noJ_ok ?_
   refine Go.loopKeep (fun a : Nat × List EV × (Nat → Int) × Int => [(1, .func (.func 82) [] [.ptr ba 0, .ptr bb 0]), (4, .ptr h0.next 0), (5, .gsl b1 0 0 C.ps.length), (6, .gsl b2 0 0 C.ps.length), (58, e), (59, .int .i64 C.es.length), (60, .int .i64 (a.1 : Nat))])
    (fun m a h' => m + a.1 = C.es.length ∧ Ext g h' ∧ ExtF (fun b => b = ba) h h' ∧ h24.next ≤ h'.next ∧ Has h' h0.next (.cells .plain [p, .int .i64 C.pl, .int .i64 C.ph, .gsl Be 0 0 C.es.length] 27) ∧ (Has h' ba (.cells .plain [.int .i64 a.2.2.2] 3) ∧ 0 ≤ a.2.2.2 ∧ a.2.2.2 ≤ 20 + (a.1 : Nat)) ∧ Has h' bb (.cells .plain [qv] 41) ∧ Has h' b1 (.cells .grow ((List.range C.ps.length).map fun j => AVal.int .i64 (firstV (F, k) j)) 3) ∧ Has h' b2 (.cells .grow ((List.range C.ps.length).map fun j => AVal.int .i64 (a.2.2.1 j)) 3) ∧ Has h' Be (.cells .grow ((a.2.1 ++ C.es.drop a.1).flatMap EV.cells) 53) ∧ a.2.1.length = a.1 ∧ TI C (F, k) a.2.1 a.2.2.1)
    (n := C.es.length) (0, [], firstV (F, k), ((1 + 3 * C.ps.length : Nat) : Int)) ⟨rfl, rfl, rfl, rfl, rfl, rfl, rfl, trivial⟩ ⟨rfl, eg, y0, Nat.le_refl _, f1, ⟨fa, by dsimp only; omega, by dsimp only; omega⟩, fb, B1, B2, by rw [List.flatMap_def]; exact fe, rfl, hTI⟩ ?_
   have hn24 : h23.next = h24.next := u24.1.symm
   have hn0 : h0.next < h24.next := f1.1
   have hnBe : Be < h24.next := fe.1
   clear eg y0 f0 f1 fb fa B1 B2 fe hTI;rintro m ⟨j, E, lv, ct⟩ h30 ⟨hm, eg, y0, hle3, f1, ⟨fa, ct0, ct1⟩, fb, B1, B2, fe, hEl, hTI⟩ again
   dsimp only at hm f1 fa ct0 ct1 B2 fe hEl hTI ⊢
   have w1 := f1.1
   have w2 := fa.1
   have w3 := fb.1
   have w4 := B1.1
   have w5 := B2.1
   have w6 := fe.1
   by_cases hj : j < C.es.length
   ·obtain ⟨x, hx⟩ : ∃ x, C.es[j]? = some x := ⟨C.es[j], by simp [hj]⟩
    have hxO := O.e x (List.mem_of_getElem? hx)
    obtain ⟨bq, off, q1, q2⟩ := A.es.at (i := j) (l := EV.cells x) (by rw [List.getElem?_map, hx]; rfl)
    rw [List.length_map] at q1
    have hdr : C.es.drop j = x :: C.es.drop (j + 1) := by
     obtain ⟨hj', hx'⟩ := List.getElem?_eq_some_iff.1 hx
     rw [List.drop_eq_getElem_cons hj', hx']
    have hE2 : ∀ y : EV, E ++ y :: C.es.drop (j + 1) = (E ++ [y]) ++ C.es.drop (j + 1) := fun y => by simp
    obtain ⟨xk, xc, xl, xh⟩ := x
    have hxO2 := hxO
    obtain ⟨⟨r1, r2⟩, ⟨r3, r4, r5⟩, r6⟩ := hxO
    dsimp only at r1 r2 r3 r4 r5 r6
    obtain ⟨c, rfl⟩ := Int.eq_ofNat_of_zero_le r1
    have hc : c < C.ps.length := by omega
    unfold EV.cells at q2
    dsimp only at q2
    obtain ⟨t1, t2, t3⟩ := hTI.path c hc
    have t4 := hfin c hc
    obtain ⟨n, hn⟩ : ∃ n, lv c = n := ⟨_, rfl⟩
    have hval : ((List.range C.ps.length).map fun j => AVal.int .i64 (lv j))[0 + c * 1]? = some (.int .i64 n) := by
     rw [List.getElem?_map, show 0 + c * 1 = c by omega, List.getElem?_range hc, ← hn]
     rfl
    rw [hn] at t2 t3
    have y11 : ExtF (fun b => b = ba) h30 h30 := .of (Ext.refl _)
    rcases r6 with ⟨k0, r6⟩ | k1
    ·subst k0
     by_cases hlow : n < xl
     ·have hsf : scalars [p, .int .i64 C.pl, .int .i64 C.ph, .gsl Be 0 0 C.es.length] = true := scal_app (a := [p, .int .i64 C.pl, .int .i64 C.ph]) (scal_app (a := [p]) A.ps.scal.1 rfl) rfl
      apply gS;refine gR rfl ?_;refine gO rfl rfl (kLT rfl rfl) rfl ?_;apply gE;apply gS;refine gC (b := true) rfl ?_;refine gD ?_;apply gS;refine Go.block noJ_ok ?_;apply gS;refine gR rfl ?_;refine gP ?_;refine gO rfl rfl (aOp_indexAddr (i := j) Tryz.underlying25 sz53 rfl q1 rfl (Nat.ble_eq_true_of_le hj)) rfl ?_;refine gO rfl rfl (aOp_loadE ag53 sz53 rfl (q2.ext eg)) rfl ?_;refine GoR.alloc rfl rfl rfl zt53 rfl rfl fun h31 x31 f31 => ?_;have := eg.1;have := f1.1;have := fa.1;have := fb.1
      have := B1.1
      have := B2.1
      have := fe.1;replace f1 := f1.ext x31;replace fa := fa.ext x31;replace fb := fb.ext x31;replace B1 := B1.ext x31;replace B2 := B2.ext x31;replace fe := fe.ext x31;replace eg := eg.trans x31;replace y0 := y0.ext x31;have := f31.1;refine gP ?_;refine GoR.store rfl rfl rfl rfl rfl rfl f31 rfl sz53 rfl rfl rfl fun h32 u32 => ?_;replace f31 := u32.has f31;replace f1 := f1.upd u32 (by omega);replace fa := fa.upd u32 (by omega);replace fb := fb.upd u32 (by omega);replace B1 := B1.upd u32 (by omega);replace B2 := B2.upd u32 (by omega);replace fe := fe.upd u32 (by omega);replace eg := eg.upd u32 (by omega);replace y0 := y0.upd u32 (.inr (by omega));apply gE;apply gS;refine gR rfl ?_;refine gP ?_;refine gO rfl rfl (fa53_1 rfl) rfl ?_;refine gO rfl rfl (ld3 rfl f31 rfl) rfl ?_;refine gO rfl rfl (aOp_indexAddr (i := c) Tryz.underlying44 sz3 rfl rfl rfl (Nat.ble_eq_true_of_le hc)) rfl ?_;refine gP ?_;apply gE;iterate 2 apply gS
      refine gR rfl ?_;refine gO rfl rfl (fa53_0 rfl) rfl ?_;refine gO rfl rfl (ld3 rfl f31 rfl) rfl ?_;refine gO rfl rfl (kEF rfl rfl) rfl ?_;apply gE;refine gC (b := false) rfl ?_;refine gD ?_;iterate 2 apply gS
      refine Go.drawnE plan31_2 ?_;refine gQ rfl rfl rfl rfl ?_;refine gQ rfl rfl (aOp_nilCheck rfl rfl) rfl ?_;refine gQ rfl rfl (ld3 rfl B2 hval) rfl ?_;refine gQ rfl rfl (fa53_2 rfl) rfl ?_;refine gQ rfl rfl (fa24_0 rfl) rfl ?_;refine gQ rfl rfl (ld3 rfl f31 rfl) rfl ?_;refine gQ rfl rfl (kLT rfl rfl) rfl ?_;refine GoE.end rfl ?_;refine gC (b := true) rfl ?_;apply gS;refine gR rfl ?_;refine gO rfl rfl (ld27 rfl f1 rfl) rfl ?_;refine GoR.store rfl rfl rfl rfl rfl rfl f1 rfl sz27 rfl hsf rfl fun h33 u33 => ?_;replace f1 := u33.has f1;replace fa := fa.upd u33 (by omega);replace fb := fb.upd u33 (by omega);replace B1 := B1.upd u33 (by omega);replace B2 := B2.upd u33 (by omega);replace fe := fe.upd u33 (by omega);replace eg := eg.upd u33 (by omega);replace y0 := y0.upd u33 (.inr (by omega));iterate 3 refine gP ?_
      apply gE;exact gV (ret_end (aResult_of Tryz.func31 rfl (aResults_c rfl f1 (inCells_agg ag27 sz27 rfl) rfl)) (⟨y0, .inl ⟨_, rfl, hsf, by simp [sameA]⟩⟩))
     ·have hspl : ∀ v : Int, splice ((List.range C.ps.length).map fun j => AVal.int .i64 (lv j)) (0 + c * 1) [AVal.int .i64 (n - v)] = some ((List.range C.ps.length).map fun j => AVal.int .i64 (if j = c then lv c - v else lv j)) := fun v => by
       rw [splice_at (by rw [List.length_map, List.length_range]; omega), show 0 + c * 1 = c by omega, set_range hc, hn]
       congr 1
       refine List.map_congr_left fun i _ => ?_
       split <;> rfl
      obtain ⟨mn, hmn⟩ : ∃ v, min xh n = v := ⟨_, rfl⟩
      have hmn2 : (if n < xh then n else xh) = mn := by rw [← hmn]; split <;> omega
      apply gS;refine gR rfl ?_;refine gO rfl rfl (kLT rfl rfl) rfl ?_;apply gE;apply gS;refine gC (b := true) rfl ?_;refine gD ?_;apply gS;refine Go.block noJ_ok ?_;apply gS;refine gR rfl ?_;refine gP ?_;refine gO rfl rfl (aOp_indexAddr (i := j) Tryz.underlying25 sz53 rfl q1 rfl (Nat.ble_eq_true_of_le hj)) rfl ?_;refine gO rfl rfl (aOp_loadE ag53 sz53 rfl (q2.ext eg)) rfl ?_;refine GoR.alloc rfl rfl rfl zt53 rfl rfl fun h31 x31 f31 => ?_;have := eg.1;have := f1.1;have := fa.1;have := fb.1
      have := B1.1
      have := B2.1
      have := fe.1;replace f1 := f1.ext x31;replace fa := fa.ext x31;replace fb := fb.ext x31;replace B1 := B1.ext x31;replace B2 := B2.ext x31;replace fe := fe.ext x31;replace eg := eg.trans x31;replace y0 := y0.ext x31;replace y11 := y11.ext x31;have := f31.1;refine gP ?_;refine GoR.store rfl rfl rfl rfl rfl rfl f31 rfl sz53 rfl rfl rfl fun h32 u32 => ?_;replace f31 := u32.has f31;replace f1 := f1.upd u32 (by omega);replace fa := fa.upd u32 (by omega);replace fb := fb.upd u32 (by omega);replace B1 := B1.upd u32 (by omega);replace B2 := B2.upd u32 (by omega);replace fe := fe.upd u32 (by omega);replace eg := eg.upd u32 (by omega);replace y0 := y0.upd u32 (.inr (by omega));replace y11 := y11.upd u32 (.inr (by omega));apply gE;apply gS;refine gR rfl ?_;refine gP ?_;refine gO rfl rfl (fa53_1 rfl) rfl ?_;refine gO rfl rfl (ld3 rfl f31 rfl) rfl ?_;refine gO rfl rfl (aOp_indexAddr (i := c) Tryz.underlying44 sz3 rfl rfl rfl (Nat.ble_eq_true_of_le hc)) rfl ?_;refine gP ?_;apply gE;iterate 2 apply gS
      refine gR rfl ?_;refine gO rfl rfl (fa53_0 rfl) rfl ?_;refine gO rfl rfl (ld3 rfl f31 rfl) rfl ?_;refine gO rfl rfl (kEF rfl rfl) rfl ?_;apply gE;refine gC (b := false) rfl ?_;refine gD ?_;iterate 2 apply gS
      refine Go.drawnE plan31_2 ?_;refine gQ rfl rfl rfl rfl ?_;refine gQ rfl rfl (aOp_nilCheck rfl rfl) rfl ?_;refine gQ rfl rfl (ld3 rfl B2 hval) rfl ?_;refine gQ rfl rfl (fa53_2 rfl) rfl ?_;refine gQ rfl rfl (fa24_0 rfl) rfl ?_;refine gQ rfl rfl (ld3 rfl f31 rfl) rfl ?_;refine gQ rfl rfl (kLF rfl rfl) rfl ?_;refine GoE.end rfl ?_;refine gC (b := false) rfl ?_;refine gD ?_;refine Go.drawnE plan31_3 ?_;refine gQ rfl rfl rfl rfl ?_;refine gQ rfl rfl (aOp_nilCheck rfl rfl) rfl ?_;refine gQ rfl rfl (ld3 rfl B2 hval) rfl ?_;refine gQ rfl rfl rfl rfl ?_;refine gQ rfl rfl (fa53_2 rfl) rfl ?_;refine gQ rfl rfl (fa24_0 rfl) rfl ?_;refine gQ rfl rfl (ld3 rfl f31 rfl) rfl ?_;refine gQ rfl rfl (fa53_2 rfl) rfl ?_;refine gQ rfl rfl (fa24_1 rfl) rfl ?_;refine gQ rfl rfl (ld3 rfl f31 rfl) rfl ?_;refine gQ rfl rfl rfl rfl ?_;refine gQ rfl rfl (aOp_nilCheck rfl rfl) rfl ?_;refine gQ rfl rfl (ld3 rfl B2 hval) rfl ?_;refine gQ rfl rfl (aOp_min2 rfl rfl hmn2) rfl ?_;refine GoE.call rfl rfl (aCF aFunc36 rfl) (span36_ok) (dD 16368 13 (dD 16368 12 (dD 16368 11 (dD 16368 10 (dD 16368 9 (dD 16368 8 (dD 16368 7 (dD 16368 6 (dD 16368 5 (dD 16368 4 (dK 16368 3 (dK 16368 2 (dK 16368 1 (dK 16368 0 rfl)))))))))))))) ?_ np;rintro v33 h33 ⟨q, x33⟩;cases q;replace f31 := f31.ext x33;replace f1 := f1.ext x33;replace fa := fa.ext x33;replace fb := fb.ext x33;replace B1 := B1.ext x33;replace B2 := B2.ext x33;replace fe := fe.ext x33;replace eg := eg.trans x33;replace y0 := y0.ext x33;replace y11 := y11.ext x33;refine ⟨(rck (h2 := h33) rfl (rfl) (rck (h2 := h33) rfl (ld3 rfl B2 hval) (rck (h2 := h33) rfl (aOp_nilCheck rfl rfl) (rck (h2 := h33) rfl (rfl) recheck_nil)))), _, rfl, ?_⟩;refine GoE.call rfl rfl (aOp_callVal rfl aFunc82 rfl) (draw82_ok (lo := xl) (hi := mn) hbs (by assumption) (by assumption) eg hab Q (by omega) hlen (by constructor <;> omega) (by omega)) (dD 32760 3 (dK 32760 2 (dK 32760 1 (dK 32760 0 rfl)))) ?_ (by rintro _ _ ⟨v, q, vl, vh, _, _⟩; cases q);rintro v34 h34 ⟨v, q, vl, vh, y34, f34⟩;cases q;have := eg.1;have := f31.1;have := f1.1;have := fa.1;have := fb.1
      have := B1.1
      have := B2.1
      have := fe.1;have := eg.1;have := f31.1;have := f1.1;have := fa.1;have := fb.1
      have := B1.1
      have := B2.1
      have := fe.1;replace f31 := f31.extF y34 (fun q => by omega);replace f1 := f1.extF y34 (fun q => by omega);clear fa;replace fb := fb.extF y34 (fun q => by omega);replace B1 := B1.extF y34 (fun q => by omega);replace B2 := B2.extF y34 (fun q => by omega);replace fe := fe.extF y34 (fun q => by omega);replace eg := y34.low eg (fun b q => by omega);replace y0 := y0.trans (fun b q => .inl q) y34;replace y11 := y11.trans (fun b q => .inl q) y34;have := y34.1;refine ⟨(rck (h2 := h34) rfl (ld3 rfl B2 hval) (rck (h2 := h34) rfl (aOp_nilCheck rfl rfl) (rck (h2 := h34) rfl (rfl) recheck_nil))), _, rfl, ?_⟩;refine gQ rfl rfl (aS rfl rfl) rfl ?_;refine gQ rfl rfl (aOp_nilCheck rfl rfl) rfl ?_;refine GoE.store rfl rfl rfl rfl (dD 262143 17 (dD 262143 16 (dD 262143 2 (dD 262143 1 (dD 262143 0 rfl))))) rfl rfl B2 rfl sz3 rfl rfl (hspl v) fun h35 u35 => ?_;replace f34 := f34.upd u35 (by omega);replace f31 := f31.upd u35 (by omega);replace f1 := f1.upd u35 (by omega);replace fb := fb.upd u35 (by omega);replace B1 := B1.upd u35 (by omega);replace B2 := u35.has B2;replace fe := fe.upd u35 (by omega);replace eg := eg.upd u35 (by omega);replace y0 := y0.upd u35 (.inr (by omega));refine ⟨recheck_nil, ?_⟩;refine GoE.end rfl ?_;refine Go.inBlock noJ_ok ?_;refine gR rfl ?_;refine gO rfl rfl (aA rfl rfl) rfl ?_;refine gP ?_;apply gE;exact again (m - 1) (j + 1, E ++ [⟨0, (c : Int), xl, xh⟩], (fun j => if j = c then lv c - v else lv j), ct + 1) _ _ (by omega) ⟨rfl, rfl, rfl, rfl, rfl, rfl, rfl, trivial⟩ ⟨by dsimp only; omega, eg, y0, by have := u35.1; have := y11.1; omega, f1, ⟨by assumption, by dsimp only; omega, by dsimp only; omega⟩, fb, B1, B2, by rw [← hE2, ← hdr]; exact fe, by dsimp only; rw [List.length_append, hEl]; rfl, hTI.sale hxO2 rfl rfl (by dsimp only; omega)⟩
    ·subst k1;rw [hdr] at fe
     have hspE : ∀ a b : Int, splice ((E ++ (⟨1, (c : Int), xl, xh⟩ : EV) :: C.es.drop (j + 1)).flatMap EV.cells) (0 + j * 4 + 2) [AVal.int .i64 a, .int .i64 b] = some (((E ++ [(⟨1, (c : Int), a, b⟩ : EV)]) ++ C.es.drop (j + 1)).flatMap EV.cells) := fun a b => by
      have := splice_mid (a := E.flatMap EV.cells ++ [AVal.int .i64 1, .int .i64 (c : Nat)]) (x := [AVal.int .i64 xl, .int .i64 xh]) (y := [AVal.int .i64 a, .int .i64 b]) (c := (C.es.drop (j + 1)).flatMap EV.cells) rfl
      rw [List.length_append, flat4, hEl] at this;rw [List.flatMap_append, List.flatMap_cons, List.flatMap_append, List.flatMap_append, show 0 + j * 4 + 2 = j * 4 + 2 by omega]
      simpa [EV.cells] using this
     apply gS;refine gR rfl ?_;refine gO rfl rfl (kLT rfl rfl) rfl ?_;apply gE;apply gS;refine gC (b := true) rfl ?_;refine gD ?_;apply gS;refine Go.block noJ_ok ?_;apply gS;refine gR rfl ?_;refine gP ?_;refine gO rfl rfl (aOp_indexAddr (i := j) Tryz.underlying25 sz53 rfl q1 rfl (Nat.ble_eq_true_of_le hj)) rfl ?_;refine gO rfl rfl (aOp_loadE ag53 sz53 rfl (q2.ext eg)) rfl ?_;refine GoR.alloc rfl rfl rfl zt53 rfl rfl fun h31 x31 f31 => ?_;have := eg.1;have := f1.1;have := fa.1;have := fb.1
     have := B1.1
     have := B2.1
     have := fe.1;replace f1 := f1.ext x31;replace fa := fa.ext x31;replace fb := fb.ext x31;replace B1 := B1.ext x31;replace B2 := B2.ext x31;replace fe := fe.ext x31;replace eg := eg.trans x31;replace y0 := y0.ext x31;replace y11 := y11.ext x31;have := f31.1;refine gP ?_;refine GoR.store rfl rfl rfl rfl rfl rfl f31 rfl sz53 rfl rfl rfl fun h32 u32 => ?_;replace f31 := u32.has f31;replace f1 := f1.upd u32 (by omega);replace fa := fa.upd u32 (by omega);replace fb := fb.upd u32 (by omega);replace B1 := B1.upd u32 (by omega);replace B2 := B2.upd u32 (by omega);replace fe := fe.upd u32 (by omega);replace eg := eg.upd u32 (by omega);replace y0 := y0.upd u32 (.inr (by omega));replace y11 := y11.upd u32 (.inr (by omega));apply gE;apply gS;refine gR rfl ?_;refine gP ?_;refine gO rfl rfl (fa53_1 rfl) rfl ?_;refine gO rfl rfl (ld3 rfl f31 rfl) rfl ?_;refine gO rfl rfl (aOp_indexAddr (i := c) Tryz.underlying44 sz3 rfl rfl rfl (Nat.ble_eq_true_of_le hc)) rfl ?_;refine gP ?_;apply gE;iterate 2 apply gS
     refine gR rfl ?_;refine gO rfl rfl (fa53_0 rfl) rfl ?_;refine gO rfl rfl (ld3 rfl f31 rfl) rfl ?_;refine gO rfl rfl (kET rfl rfl) rfl ?_;apply gE;refine gC (b := true) rfl ?_;apply gS;refine Go.drawnE plan31_1 ?_;refine gQ rfl rfl (fa27_2 rfl) rfl ?_;refine gQ rfl rfl (ld25 rfl f1 rfl) rfl ?_;iterate 2 refine gQ rfl rfl rfl rfl ?_
     refine gQ rfl rfl (aOp_nilCheck rfl rfl) rfl ?_;refine gQ rfl rfl (ld3 rfl B2 hval) rfl ?_;iterate 2 refine gQ rfl rfl rfl rfl ?_
     refine gQ rfl rfl (aOp_nilCheck rfl rfl) rfl ?_;refine gQ rfl rfl (ld3 rfl B2 hval) rfl ?_;refine gQ rfl rfl (fa53_2 rfl) rfl ?_;refine gQ rfl rfl (fa24_1 rfl) rfl ?_;refine gQ rfl rfl (ld3 rfl f31 rfl) rfl ?_;refine gQ rfl rfl (fa53_2 rfl) rfl ?_;refine gQ rfl rfl (fa24_0 rfl) rfl ?_;refine gQ rfl rfl (ld3 rfl f31 rfl) rfl ?_;refine gQ rfl rfl (aS rfl rfl) rfl ?_;refine gQ rfl rfl (aOp_min2 rfl rfl (joinP_min 20 (xh - xl))) rfl ?_;refine gQ rfl rfl (aA rfl rfl) rfl ?_;refine gQ rfl rfl (aOp_min2 rfl rfl (joinP_min 5000 (n + min 20 (xh - xl)))) rfl ?_;refine GoE.call rfl rfl (aCF aFunc36 rfl) (span36_ok) (dK 0 23 (dK 0 22 (dK 0 21 (dK 0 20 (dK 0 19 (dK 0 18 (dK 0 17 (dK 0 16 (dK 0 15 (dK 0 14 (dK 0 13 (dK 0 12 (dK 0 11 (dK 0 6 (dK 0 5 (dK 0 4 (dK 0 3 (dK 0 2 (dK 0 1 (dK 0 0 rfl)))))))))))))))))))) ?_ np;rintro v33 h33 ⟨q, x33⟩;cases q;replace f31 := f31.ext x33;replace f1 := f1.ext x33;replace fa := fa.ext x33;replace fb := fb.ext x33;replace B1 := B1.ext x33;replace B2 := B2.ext x33;replace fe := fe.ext x33;replace eg := eg.trans x33;replace y0 := y0.ext x33;replace y11 := y11.ext x33;refine ⟨(rck (h2 := h33) rfl (aOp_min2 rfl rfl (joinP_min 5000 (n + min 20 (xh - xl)))) (rck (h2 := h33) rfl (aA rfl rfl) (rck (h2 := h33) rfl (aOp_min2 rfl rfl (joinP_min 20 (xh - xl))) (rck (h2 := h33) rfl (aS rfl rfl) (rck (h2 := h33) rfl (ld3 rfl f31 rfl) (rck (h2 := h33) rfl (fa24_0 rfl) (rck (h2 := h33) rfl (fa53_2 rfl) (rck (h2 := h33) rfl (ld3 rfl f31 rfl) (rck (h2 := h33) rfl (fa24_1 rfl) (rck (h2 := h33) rfl (fa53_2 rfl) (rck (h2 := h33) rfl (ld3 rfl B2 hval) (rck (h2 := h33) rfl (aOp_nilCheck rfl rfl) (rck (h2 := h33) rfl (rfl) (rck (h2 := h33) rfl (rfl) (rck (h2 := h33) rfl (ld3 rfl B2 hval) (rck (h2 := h33) rfl (aOp_nilCheck rfl rfl) (rck (h2 := h33) rfl (rfl) (rck (h2 := h33) rfl (rfl) (rck (h2 := h33) rfl (ld25 rfl f1 rfl) (rck (h2 := h33) rfl (fa27_2 rfl) recheck_nil)))))))))))))))))))), _, rfl, ?_⟩;refine GoE.call rfl rfl (aOp_callVal rfl aFunc82 rfl) (draw82_ok (lo := 0) (hi := 5) hbs (by assumption) (by assumption) eg hab Q (by omega) hlen (by constructor <;> omega) (by omega)) (dK 192 23 (dK 192 22 (dK 192 21 (dK 192 20 (dK 192 19 (dK 192 18 (dK 192 17 (dK 192 16 (dK 192 15 (dK 192 14 (dK 192 13 (dK 192 12 (dK 192 11 (dD 192 6 (dK 192 5 (dK 192 4 (dK 192 3 (dK 192 2 (dK 192 1 (dK 192 0 rfl)))))))))))))))))))) ?_ (by rintro _ _ ⟨d, q, dl, dh, _, _⟩; cases q);rintro v34 h34 ⟨d, q, dl, dh, y34, f34⟩;cases q;have := eg.1;have := f31.1;have := f1.1;have := fa.1;have := fb.1
     have := B1.1
     have := B2.1
     have := fe.1;have := eg.1;have := f31.1;have := f1.1;have := fa.1;have := fb.1
     have := B1.1
     have := B2.1
     have := fe.1;replace f31 := f31.extF y34 (fun q => by omega);replace f1 := f1.extF y34 (fun q => by omega);clear fa;replace fb := fb.extF y34 (fun q => by omega);replace B1 := B1.extF y34 (fun q => by omega);replace B2 := B2.extF y34 (fun q => by omega);replace fe := fe.extF y34 (fun q => by omega);replace eg := y34.low eg (fun b q => by omega);replace y0 := y0.trans (fun b q => .inl q) y34;replace y11 := y11.trans (fun b q => .inl q) y34;have := y34.1;refine ⟨(rck (h2 := h34) rfl (aOp_min2 rfl rfl (joinP_min 5000 (n + min 20 (xh - xl)))) (rck (h2 := h34) rfl (aA rfl rfl) (rck (h2 := h34) rfl (aOp_min2 rfl rfl (joinP_min 20 (xh - xl))) (rck (h2 := h34) rfl (aS rfl rfl) (rck (h2 := h34) rfl (ld3 rfl f31 rfl) (rck (h2 := h34) rfl (fa24_0 rfl) (rck (h2 := h34) rfl (fa53_2 rfl) (rck (h2 := h34) rfl (ld3 rfl f31 rfl) (rck (h2 := h34) rfl (fa24_1 rfl) (rck (h2 := h34) rfl (fa53_2 rfl) (rck (h2 := h34) rfl (ld3 rfl B2 hval) (rck (h2 := h34) rfl (aOp_nilCheck rfl rfl) (rck (h2 := h34) rfl (rfl) (rck (h2 := h34) rfl (ld3 rfl B2 hval) (rck (h2 := h34) rfl (aOp_nilCheck rfl rfl) (rck (h2 := h34) rfl (rfl) (rck (h2 := h34) rfl (rfl) (rck (h2 := h34) rfl (ld25 rfl f1 rfl) (rck (h2 := h34) rfl (fa27_2 rfl) recheck_nil))))))))))))))))))), _, rfl, ?_⟩;refine gQ rfl rfl (aS rfl rfl) rfl ?_;refine gQ rfl rfl (aOp_max2 rfl rfl (joinP_max 0 (n - d))) rfl ?_;refine GoE.call rfl rfl (aCF aFunc36 rfl) (span36_ok) (dD 16777208 10 (dD 16777208 9 (dD 16777208 23 (dD 16777208 22 (dD 16777208 21 (dD 16777208 20 (dD 16777208 19 (dD 16777208 18 (dD 16777208 17 (dD 16777208 16 (dD 16777208 15 (dD 16777208 14 (dD 16777208 13 (dD 16777208 12 (dD 16777208 11 (dD 16777208 5 (dD 16777208 4 (dD 16777208 3 (dK 16777208 2 (dK 16777208 1 (dK 16777208 0 rfl))))))))))))))))))))) ?_ np;rintro v35 h35 ⟨q, x35⟩;cases q;replace f34 := f34.ext x35;replace f31 := f31.ext x35;replace f1 := f1.ext x35;replace fb := fb.ext x35;replace B1 := B1.ext x35;replace B2 := B2.ext x35;replace fe := fe.ext x35;replace eg := eg.trans x35;replace y34 := y34.ext x35;replace y0 := y0.ext x35;replace y11 := y11.ext x35;refine ⟨(rck (h2 := h35) rfl (rfl) (rck (h2 := h35) rfl (ld25 rfl f1 rfl) (rck (h2 := h35) rfl (fa27_2 rfl) recheck_nil))), _, rfl, ?_⟩;refine gQ rfl rfl (aOp_indexAddr (i := j) Tryz.underlying25 sz53 rfl rfl rfl (Nat.ble_eq_true_of_le hj)) rfl ?_;refine gQ rfl rfl (fa53_2 rfl) rfl ?_;refine GoE.store rfl rfl rfl rfl (dD 134217727 26 (dD 134217727 25 (dD 134217727 2 (dD 134217727 1 (dD 134217727 0 rfl))))) rfl rfl fe rfl sz24 rfl rfl (hspE (max 0 (n - d)) (min 5000 (n + min 20 (xh - xl)))) fun h36 u36 => ?_;replace f34 := f34.upd u36 (by omega);replace f31 := f31.upd u36 (by omega);replace f1 := f1.upd u36 (by omega);replace fb := fb.upd u36 (by omega);replace B1 := B1.upd u36 (by omega);replace B2 := B2.upd u36 (by omega);replace fe := u36.has fe;replace eg := eg.upd u36 (by omega);replace y0 := y0.upd u36 (.inr (by omega));refine ⟨recheck_nil, ?_⟩;refine GoE.end rfl ?_;refine gD ?_;refine gR rfl ?_;refine gO rfl rfl (aA rfl rfl) rfl ?_;refine gP ?_;apply gE;exact again (m - 1) (j + 1, E ++ [⟨1, (c : Int), max 0 (n - d), min 5000 (n + min 20 (xh - xl))⟩], lv, ct + 1) _ _ (by omega) ⟨rfl, rfl, rfl, rfl, rfl, rfl, rfl, trivial⟩ ⟨by dsimp only; omega, eg, y0, by have := u36.1; have := y11.1; omega, f1, ⟨by assumption, by dsimp only; omega, by dsimp only; omega⟩, fb, B1, B2, fe, by dsimp only; rw [List.length_append, hEl]; rfl, hTI.count hc (by omega) (by omega)⟩
   ·have hjn : j = C.es.length := by omega
    subst hjn;clear again
    have hsf : scalars [p, .int .i64 C.pl, .int .i64 C.ph, .gsl Be 0 0 C.es.length] = true := scal_app (a := [p, .int .i64 C.pl, .int .i64 C.ph]) (scal_app (a := [p]) A.ps.scal.1 rfl) rfl
    have hT := hTI.truth O hEl (show C.pl ≤ k ∧ k ≤ C.ph from ⟨kl, kh⟩) hFl hsz
    rw [List.drop_length, List.append_nil, List.flatMap_def] at fe;apply gS;refine gR rfl ?_;refine gO rfl rfl (kLF rfl rfl) rfl ?_;apply gE;apply gS;refine gC (b := false) rfl ?_;refine gD ?_;apply gS;refine gR rfl ?_;refine gO rfl rfl (ld27 rfl f1 rfl) rfl ?_;iterate 2 refine gP ?_
    refine GoR.store rfl rfl rfl rfl rfl rfl f1 rfl sz27 rfl hsf rfl fun h31 u31 => ?_;replace f1 := u31.has f1;replace fa := fa.upd u31 (by omega);replace fb := fb.upd u31 (by omega);replace B1 := B1.upd u31 (by omega);replace B2 := B2.upd u31 (by omega);replace fe := fe.upd u31 (by omega);replace eg := eg.upd u31 (by omega);replace y0 := y0.upd u31 (.inr (by omega));iterate 3 refine gP ?_
    apply gE;exact gV (ret_end (aResult_of Tryz.func31 rfl (aResults_c rfl f1 (inCells_agg ag27 sz27 rfl) rfl)) (⟨y0, .inr ⟨_, _, _, E, (F, k), lv, rfl, hT, fun h2 y => ⟨SliceOf.gsl (fe.extF y (fun q => by omega)) (by rw [List.length_map]; exact hEl) evs_four, hone (by omega) B1 y, hone (by omega) B2 y⟩⟩⟩))
end Go.Proofs.YtobhkdgcciolmaaGreat
