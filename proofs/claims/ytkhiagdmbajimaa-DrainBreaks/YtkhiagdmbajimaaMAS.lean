import Derived.Test.YtkhiagdmbajimaaMAR
namespace Go.Proofs.Ytkhiagdmbajimaa
open Go Go.AbsE
set_option linter.unusedSimpArgs false
set_option maxRecDepth 100000
set_option maxHeartbeats 0
set_option linter.unusedVariables false
theorem ext_le {h h1 : AH} (e : Ext h h1) : h.next ≤ h1.next := e.1
theorem copy_ext {h h1 : AH} {lo : Nat} (n : h.next ≤ h1.next) (s : ∀ c, c < lo → h1.get c = h.get c) : ExtF (fun c => lo ≤ c) h h1 := ⟨n, fun b _ hn => s b (by omega)⟩
theorem ints_slice {h : AH} {el : TypeId} {lo : Nat} {s : AVal} {l : List Int} {n : Nat} (hn : l.length = n) (G : Grow h el 1 lo s n (i64s l)) : SliceOf h 1 s (l.map fun x => [AVal.int .i64 x]) := nums_sl hn G
structure Pre (D : DrainV) (p : List Int) : Prop where
 le : p.length ≤ D.bs.length
 va : ∀ (i : Nat) (b : BkV) (x : Int), D.bs[i]? = some b → p[i]? = some x → b.ll ≤ x ∧ x ≤ b.lh
theorem Pre.nil (D : DrainV) : Pre D [] := ⟨by simp, fun i b x _ h => by cases h⟩
theorem Pre.snoc {D : DrainV} {p : List Int} (k : Pre D p) {b : BkV} (hb : D.bs[p.length]? = some b) {x : Int} (hx : b.ll ≤ x ∧ x ≤ b.lh) : Pre D (p ++ [x]) := by
 have hl := (List.getElem?_eq_some_iff.1 hb).1
 refine ⟨by rw [List.length_append]; simp; omega, fun i b' y h1 h2 => ?_⟩
 by_cases hi : i < p.length
 ·rw [List.getElem?_append_left hi] at h2;exact k.va i b' y h1 h2
 ·rw [List.getElem?_append_right (by omega)] at h2
  have h3 := (List.getElem?_eq_some_iff.1 h2).1
  have hip : i = p.length := by simp at h3; omega
  subst hip;rw [Nat.sub_self] at h2;cases h2;rw [hb] at h1;cases h1;exact hx
theorem Pre.full {D : DrainV} {p : List Int} (k : Pre D p) (h : p.length = D.bs.length) : p ∈ levsV D.bs := mem_levs h k.va
theorem take_one {l p : List Int} {n : Nat} (hn : p.length < n) (hl : l.length = n) {x : Int} : l.take (p.length + 1) = p ++ [x] ↔ l.take p.length = p ∧ lv l p.length = x := by
 have hg : l[p.length]? = some (lv l p.length) := by unfold lv; simp [hl, hn]
 rw [List.take_add_one, hg, Option.toList_some]
 constructor
 ·intro q
  have := List.append_inj q (by rw [List.length_take]; omega)
  exact ⟨this.1, by injection this.2⟩
 ·rintro ⟨h1, h2⟩;rw [h1, h2]
theorem courses26_e {D : DrainV} (O : D.Ok) {b d r s ls : AVal} {l : List Int} (hl : l.length = D.bs.length) {st : Nat} {h : AH} (A : DrainAt h D b d r s) (S : SliceOf h 1 ls (l.map fun x => [AVal.int .i64 x])) :
  Runs Try.prog 26 [.agg (dC b d r s), ls, .int .i64 (st : Nat)] h (fun en h' => ∃ sl, en = .ret sl ∧ Ext h h' ∧ Grow h' 3 1 h.next sl D.bs.length (i64s (sgnC (D.course st l))) ∧ Ext h' h') :=
 (courses26_ok O hl A S).mono fun en h' ⟨sl, q, e, G⟩ => ⟨sl, q, e, G, Ext.refl h'⟩
theorem take_full {D : DrainV} {p l : List Int} (hp : p.length + 0 = D.bs.length) (hl : l ∈ D.truths) (h : l.take p.length = p) : l = p := by
 have := levs_len (List.mem_filter.1 hl).1
 rw [List.take_of_length_le (by omega)] at h;exact h
section
variable {D : DrainV} {b d r s : AVal} {g : AH} {F : FuncId} {fF : Func} {caps : List AVal} {S : Nat → Prop} {Inv : List (List Int) → AH → Prop} {B2 B3 B4 : Nat}
theorem on65_ok (O : D.Ok) (A : DrainAt g D b d r s) (hF : aFunc Try.prog F = some fF) (hS : ∀ x, S x → g.next ≤ x) (hB : (g.next ≤ B2 ∧ ¬ S B2) ∧ (g.next ≤ B3 ∧ ¬ S B3) ∧ (g.next ≤ B4 ∧ ¬ S B4))
  (keep : ∀ V h h', Inv V h → Ext h h' → Inv V h')
  (step : ∀ V l sl h', Ext g h' → l ∈ D.truths → Inv V h' → SliceOf h' 1 sl (l.map fun x => [AVal.int .i64 x]) → Runs Try.prog F ([sl] ++ caps) h' (fun en h'' => en = .ret (.tuple []) ∧ ExtF S h' h'' ∧ Inv (V ++ [l]) h'')) :
  ∀ (N : Nat) {p : List Int} (hp : p.length + N = D.bs.length) (P : Pre D p) {V : List (List Int)} {sl : AVal} {h : AH} (e9 : Ext g h) (f2 : Has h B2 (.cells .plain [b, d, r, s] 29)) (f3 : Has h B3 (.cells .plain [.func (.func F) [] caps] 62)) (f4 : Has h B4 (.cells .plain [.func (.func 65) [] [.ptr B2 0, .ptr B4 0, .ptr B3 0]] 62)) (hSl : ∀ x, S x → x < h.next) (I : Inv V h) (SpK : ∀ h', ExtF S h h' → SliceOf h' 1 sl (p.map fun x => [AVal.int .i64 x])),
   Runs Try.prog 65 [sl, .ptr B2 0, .ptr B4 0, .ptr B3 0] h (fun en h' => en = .ret (.tuple []) ∧ ExtF S h h' ∧ ∃ V', Inv (V ++ V') h' ∧ ∀ l, l ∈ V' ↔ (l ∈ D.truths ∧ l.take p.length = p)) := by
 have hnb := O.nb
 have hns := O.ns
 have hl1 := A.bs.len
 have hl4 := A.ss.len
 rw [List.length_map] at hl1 hl4
 have hsm := A.same
 intro N
 induction N with
 | zero =>
  intro p hp P V sl h e9 f2 f3 f4 hSl I SpK
  have Sp := SpK h (ExtF.of (Ext.refl _))
  have hsl := Sp.len
  rw [List.length_map] at hsl
  have hsms := Sp.same
  have hco := fun h' e e' => courses26_e O (b := b) (d := d) (r := r) (s := s) (ls := sl) (l := p) (by omega) (st := 0) (h := h') (A.ext e) (Sp.ext e')
  have e8 : Ext h h := Ext.refl _
  have hmem := P.full (by omega)
  unfold dC at *
  refine Runs.intro aFunc65 rfl rfl rfl rfl fun rest => ?_;iterate 2 apply gS
  refine gR rfl ?_;refine gP ?_;refine gO rfl rfl (aOp_lenSlice Try.underlying47 rfl hsl) rfl ?_;refine gP ?_;apply gE;apply gS;refine gR rfl ?_;refine gP ?_;refine gO rfl rfl (fa29_0 rfl) rfl ?_;refine gO rfl rfl (ld25 rfl f2 rfl) rfl ?_;refine gO rfl rfl (aOp_lenSlice Try.underlying25 rfl hl1) rfl ?_;refine gO rfl rfl (kLF rfl rfl) rfl ?_;apply gE;refine gC (b := false) rfl ?_;refine gD ?_;apply gS;refine gR rfl ?_;refine gO rfl rfl (ld29 rfl f2 rfl) rfl ?_;refine gP ?_;refine GoR.call rfl rfl (aCF aFunc26 rfl) (hco _ e9 e8) ?_ (by rintro _ _ ⟨sn, q, _, GN, e7⟩; cases q);rintro v5 h5 ⟨sn, q, x5, GN, e7⟩;cases q;refine ⟨_, rfl, ?_⟩;have := e9.1;have := e8.1;replace f2 := f2.ext x5;replace f3 := f3.ext x5;replace f4 := f4.ext x5;replace e9 := e9.trans x5;replace e8 := e8.trans x5;refine gP ?_;apply gE;iterate 2 apply gS
  refine gR rfl ?_;refine gO rfl rfl (fa29_3 rfl) rfl ?_;refine gO rfl rfl (ld26 rfl f2 rfl) rfl ?_;refine gO rfl rfl (aOp_lenSlice Try.underlying26 rfl hl4) rfl ?_;refine gP ?_;apply gE;refine Go.block noJ_ok ?_
  have hcl := course_len D 0 p
  have hsgl : (sgnC (D.course 0 p)).length = D.bs.length := by unfold sgnC; rw [List.length_map, hcl]
  refine Go.loopKeep (fun i : Nat => [(0, sl), (1, .ptr B2 0), (2, .ptr B4 0), (3, .ptr B3 0), (7, v5), (47, s), (48, .int .i64 D.ss.length), (49, .int .i64 (i : Nat))])
   (fun m i h' => m + i = D.ss.length ∧ Ext g h' ∧ Ext h h' ∧ Ext h5 h' ∧ Has h' B3 (.cells .plain [.func (.func F) [] caps] 62) ∧ ∀ w, w ∈ D.ss.take i → (nx (D.course 0 p) w.1.toNat : Int) = w.2) (n := D.ss.length) 0 ⟨rfl, rfl, rfl, rfl, rfl, rfl, rfl, rfl, trivial⟩ ⟨rfl, e9, e8, e7, f3, fun w hw => by simp at hw⟩ ?_
  have hgn := ints_slice hsgl GN
  clear e9 e8 e7 f2 f3 f4;rintro m i h30 ⟨hm, e9, e8, e7, f3, hall⟩ again
  have he8 := e8.1
  by_cases hi : i < D.ss.length
  ·obtain ⟨⟨xa, xb⟩, hx⟩ : ∃ x, D.ss[i]? = some x := ⟨D.ss[i], by simp [hi]⟩
   have hxo := O.s _ (List.mem_of_getElem? hx)
   unfold PairOk at hxo
   dsimp only at hxo
   obtain ⟨a, rfl⟩ := Int.eq_ofNat_of_zero_le hxo.1.1
   obtain ⟨bq, off, q1, q2⟩ := A.ss.at (i := i) (l := spC ((a : Int), xb)) (by rw [List.getElem?_map, hx]; rfl)
   rw [List.length_map] at q1
   unfold spC at q2
   dsimp only at q2
   have hsa : (sgnC (D.course 0 p))[a]? = some (sgn D.bs.length (nx (D.course 0 p) a)) := by
    unfold sgnC
    rw [List.getElem?_map, hcl]
    have : (D.course 0 p)[a]? = some (nx (D.course 0 p) a) := by unfold nx; simp [hcl, show a < D.bs.length by omega]
    rw [this]
    rfl
   obtain ⟨bt, ot, t1, t2⟩ := hgn.at (i := a) (l := [.int .i64 (sgn D.bs.length (nx (D.course 0 p) a))]) (by rw [List.getElem?_map, hsa]; rfl)
   rw [List.length_map, hsgl] at t1
   have hdn := course_down O hmem 0
   have hle := hdn.le a (by omega)
   rw [hcl] at hle
   by_cases c1 : ((nx (D.course 0 p) a : Nat) : Int) = xb
   ·have hsx : sgn D.bs.length (nx (D.course 0 p) a) = xb := by rw [sgn_lt (by omega)]; exact c1
    rw [hsx] at t2;apply gS;refine gR rfl ?_;refine gO rfl rfl (kLT rfl rfl) rfl ?_;apply gE;apply gS;refine gC (b := true) rfl ?_;refine gD ?_;apply gS;refine Go.block noJ_ok ?_;apply gS;refine gR rfl ?_;refine gO rfl rfl (aOp_indexAddr (i := i) Try.underlying26 sz32 rfl q1 rfl (Nat.ble_eq_true_of_le hi)) rfl ?_;refine gO rfl rfl (aOp_loadE ag32 sz32 rfl (q2.ext e9)) rfl ?_;refine GoR.alloc rfl rfl rfl zt32 rfl rfl fun h31 x31 f31 => ?_;have := e9.1;have := e8.1;have := e7.1;have := f3.1;replace f3 := f3.ext x31;replace e9 := e9.trans x31;replace e8 := e8.trans x31;replace e7 := e7.trans x31;have := f31.1;refine GoR.store rfl rfl rfl rfl rfl rfl f31 rfl sz32 rfl rfl rfl fun h32 u32 => ?_;replace f31 := u32.has f31;replace f3 := f3.upd u32 (by omega);replace e9 := e9.upd u32 (by omega);replace e8 := e8.upd u32 (by omega);replace e7 := e7.upd u32 (by omega);apply gE;apply gS;refine Go.drawnE plan65_1 ?_;refine gQ rfl rfl rfl rfl ?_;refine gQ rfl rfl (fa32_0 rfl) rfl ?_;refine gQ rfl rfl (ld3 rfl f31 rfl) rfl ?_;refine gQ rfl rfl (aOp_indexAddr (i := a) Try.underlying47 sz3 rfl t1 rfl (Nat.ble_eq_true_of_le (by omega))) rfl ?_;refine gQ rfl rfl ((aOp_loadE1 (k := 0) ag3 rfl (t2.ext e7) rfl)) rfl ?_;refine gQ rfl rfl (fa32_1 rfl) rfl ?_;refine gQ rfl rfl (ld3 rfl f31 rfl) rfl ?_;refine gQ rfl rfl (kXF rfl rfl) rfl ?_;refine GoE.end rfl ?_;refine gC (b := false) rfl ?_;refine gD ?_;refine Go.inBlock noJ_ok ?_;refine gR rfl ?_;refine gO rfl rfl (aA rfl rfl) rfl ?_;refine gP ?_;apply gE;refine again (m - 1) (i + 1) _ _ (by omega) ⟨rfl, rfl, rfl, rfl, rfl, rfl, rfl, rfl, trivial⟩ ⟨by omega, e9, e8, e7, f3, fun w hw => ?_⟩;rw [List.take_add_one, hx, Option.toList_some, List.mem_append, List.mem_singleton] at hw
    rcases hw with hw | rfl
    ·exact hall w hw
    ·dsimp only
     rw [Int.toNat_natCast];exact c1
   ·have hsx : sgn D.bs.length (nx (D.course 0 p) a) ≠ xb := by
     unfold sgn
     split <;> omega
    obtain ⟨sx, hsx2⟩ : ∃ z, sgn D.bs.length (nx (D.course 0 p) a) = z := ⟨_, rfl⟩
    rw [hsx2] at t2 hsx
    have hbad : ¬ p ∈ D.truths := fun q => by
     have h1 := (List.mem_filter.1 q).2
     unfold DrainV.okSeen at h1
     rw [only_all, List.all_eq_true] at h1
     have h2 := of_decide_eq_true (h1 _ (List.mem_of_getElem? hx))
     dsimp only at h2
     rw [Int.toNat_natCast] at h2;exact c1 h2
    apply gS;refine gR rfl ?_;refine gO rfl rfl (kLT rfl rfl) rfl ?_;apply gE;apply gS;refine gC (b := true) rfl ?_;refine gD ?_;apply gS;refine Go.block noJ_ok ?_;apply gS;refine gR rfl ?_;refine gO rfl rfl (aOp_indexAddr (i := i) Try.underlying26 sz32 rfl q1 rfl (Nat.ble_eq_true_of_le hi)) rfl ?_;refine gO rfl rfl (aOp_loadE ag32 sz32 rfl (q2.ext e9)) rfl ?_;refine GoR.alloc rfl rfl rfl zt32 rfl rfl fun h31 x31 f31 => ?_;have := e9.1;have := e8.1;have := e7.1;have := f3.1;replace e8 := e8.trans x31;replace e7 := e7.trans x31;have := f31.1;refine GoR.store rfl rfl rfl rfl rfl rfl f31 rfl sz32 rfl rfl rfl fun h32 u32 => ?_;replace f31 := u32.has f31;replace e8 := e8.upd u32 (by omega);replace e7 := e7.upd u32 (by omega);apply gE;apply gS;refine Go.drawnE plan65_1 ?_;refine gQ rfl rfl rfl rfl ?_;refine gQ rfl rfl (fa32_0 rfl) rfl ?_;refine gQ rfl rfl (ld3 rfl f31 rfl) rfl ?_;refine gQ rfl rfl (aOp_indexAddr (i := a) Try.underlying47 sz3 rfl t1 rfl (Nat.ble_eq_true_of_le (by omega))) rfl ?_;refine gQ rfl rfl ((aOp_loadE1 (k := 0) ag3 rfl (t2.ext e7) rfl)) rfl ?_;refine gQ rfl rfl (fa32_1 rfl) rfl ?_;refine gQ rfl rfl (ld3 rfl f31 rfl) rfl ?_;refine gQ rfl rfl (kXT rfl rfl) rfl ?_;refine GoE.end rfl ?_;refine gC (b := true) rfl ?_;exact gV (ret_end (aResult_of Try.func65 rfl rfl) ⟨rfl, ExtF.of e8, [], by rw [List.append_nil]; exact keep _ _ _ I e8, fun l => ⟨fun q => (by cases q), fun q => absurd (take_full hp q.1 q.2 ▸ q.1) hbad⟩⟩)
  ·rw [List.take_of_length_le (by omega)] at hall
   have hok : p ∈ D.truths := by
    refine List.mem_filter.2 ⟨hmem, ?_⟩
    unfold DrainV.okSeen
    rw [only_all, List.all_eq_true];exact fun w hw => decide_eq_true (hall w hw)
   have hst := fun h' e e' => step V p sl h' e hok (keep _ _ _ I e') (Sp.ext e')
   clear again;apply gS;refine gR rfl ?_;refine gO rfl rfl (kLF rfl rfl) rfl ?_;apply gE;apply gS;refine gC (b := false) rfl ?_;refine gD ?_;refine gR rfl ?_;refine gO rfl rfl (ld62 rfl f3 rfl) rfl ?_;refine gP ?_;refine GoR.call rfl rfl (aOp_callVal rfl hF rfl) (hst _ e9 e8) ?_ np;rintro v40 h40 ⟨q, x40, I'⟩;cases q;refine ⟨_, rfl, ?_⟩
   have z40 : ExtF S h h40 := (ExtF.of e8).trans (fun b q => .inl q) x40
   clear e9 e8 e7 f3 x40;apply gE;exact Go.endL (FLeft.ret (v := .tuple []) (aResult_of Try.func65 rfl rfl) ⟨rfl, z40, [p], I', fun l => ⟨fun q => by rw [List.mem_singleton.1 q]; exact ⟨hok, List.take_length⟩, fun q => List.mem_singleton.2 (take_full hp q.1 q.2)⟩⟩)
 | succ N IH =>
  intro p hp P V sl h e9 f2 f3 f4 hSl I SpK
  have Sp := SpK h (ExtF.of (Ext.refl _))
  have hsl := Sp.len
  rw [List.length_map] at hsl
  have hsms := Sp.same
  obtain ⟨x, hx⟩ : ∃ x, D.bs[p.length]? = some x := ⟨D.bs[p.length]'(by omega), by simp⟩
  have hxo := (O.b x (List.mem_of_getElem? hx)).1
  obtain ⟨bq, off, q1, q2⟩ := A.bs.at (i := p.length) (l := BkV.cells x) (by rw [List.getElem?_map, hx]; rfl)
  rw [List.length_map] at q1
  unfold BkV.cells at q2
  have e8 : Ext h h := Ext.refl _
  refine Runs.intro aFunc65 rfl rfl rfl rfl fun rest => ?_;iterate 2 apply gS
  refine gR rfl ?_;refine gP ?_;refine gO rfl rfl (aOp_lenSlice Try.underlying47 rfl hsl) rfl ?_;refine gP ?_;apply gE;apply gS;refine gR rfl ?_;refine gP ?_;refine gO rfl rfl (fa29_0 rfl) rfl ?_;refine gO rfl rfl (ld25 rfl f2 rfl) rfl ?_;refine gO rfl rfl (aOp_lenSlice Try.underlying25 rfl hl1) rfl ?_;refine gO rfl rfl (kLT rfl rfl) rfl ?_;apply gE;refine gC (b := true) rfl ?_;iterate 2 apply gS
  refine gR rfl ?_;refine gO rfl rfl (fa29_0 rfl) rfl ?_;refine gO rfl rfl (ld25 rfl f2 rfl) rfl ?_;refine gP ?_;refine gO rfl rfl (aOp_indexAddr (i := p.length) Try.underlying25 sz60 rfl q1 rfl (Nat.ble_eq_true_of_le (by omega))) rfl ?_;refine gO rfl rfl (fa60_0 rfl) rfl ?_;refine gO rfl rfl (fa35_0 rfl) rfl ?_;refine gO rfl rfl ((aOp_loadE1 (k := 0) ag3 rfl (q2.ext e9) rfl)) rfl ?_;refine gP ?_;apply gE;refine Go.block noJ_ok ?_
  have hle0 : ∀ l, l ∈ D.truths → x.ll ≤ lv l p.length ∧ lv l p.length ≤ x.lh := fun l hl => by
   obtain ⟨y, h1, h2⟩ := levs_at (List.mem_filter.1 hl).1 hx
   unfold lv
   rw [h1, Option.getD_some];exact h2
  refine Go.loopKeep (fun a : Nat × List (List Int) => [(0, sl), (1, .ptr B2 0), (2, .ptr B4 0), (3, .ptr B3 0), (5, .int .i64 p.length), (6, .int .i64 (x.ll + (a.1 : Nat)))])
   (fun m a h' => (m : Int) + (x.ll + (a.1 : Nat)) = x.lh + 1 ∧ Ext g h' ∧ ExtF S h h' ∧ Has h' B2 (.cells .plain [b, d, r, s] 29) ∧ Has h' B3 (.cells .plain [.func (.func F) [] caps] 62) ∧ Has h' B4 (.cells .plain [.func (.func 65) [] [.ptr B2 0, .ptr B4 0, .ptr B3 0]] 62) ∧ Inv (V ++ a.2) h' ∧ ∀ l, l ∈ a.2 ↔ (l ∈ D.truths ∧ l.take p.length = p ∧ lv l p.length < x.ll + (a.1 : Nat)))
   (n := (x.lh - x.ll + 1).toNat) (0, []) ⟨rfl, rfl, rfl, rfl, rfl, by show _ = some (AVal.int .i64 (x.ll + ((0 : Nat) : Int))); rw [show x.ll + ((0 : Nat) : Int) = x.ll by omega]; rfl, trivial⟩ ⟨by dsimp only; omega, e9, ExtF.of e8, f2, f3, f4, by dsimp only; rw [List.append_nil]; exact keep _ _ _ I e8, fun l => ⟨fun q => (by cases q), fun q => by have := hle0 l q.1; have := q.2.2; dsimp only at this; omega⟩⟩ ?_
  clear e9 e8 f2 f3 f4;rintro m ⟨i, W⟩ h10 ⟨hm, e9, z10, f2, f3, f4, I10, hW⟩ again
  dsimp only at hm I10 hW ⊢
  have Sp10 := SpK h10 z10
  have hz10 := z10.1
  obtain ⟨kk, hkk⟩ : ∃ z, x.ll + ((i : Nat) : Int) = z := ⟨_, rfl⟩
  rw [hkk] at hm hW ⊢
  by_cases hk : kk ≤ x.lh
  ·have hone : ∀ l, l ∈ p.map (fun x => [AVal.int .i64 x]) → l.length = 1 := fun l hl => by obtain ⟨_, _, rfl⟩ := List.mem_map.1 hl; rfl
   have hpl : (p.map fun x => [AVal.int .i64 x]).length ≤ 5 := by rw [List.length_map]; omega
   have hb2 := f2.1
   have hb3 := f3.1
   have hb4 := f4.1
   have he9 := e9.1
   iterate 2 apply gS
   refine gR rfl ?_;refine gP ?_;refine gO rfl rfl (fa29_0 rfl) rfl ?_;refine gO rfl rfl (ld25 rfl f2 rfl) rfl ?_;refine gP ?_;refine gO rfl rfl (aOp_indexAddr (i := p.length) Try.underlying25 sz60 rfl q1 rfl (Nat.ble_eq_true_of_le (by omega))) rfl ?_;refine gO rfl rfl (fa60_0 rfl) rfl ?_;refine gO rfl rfl (fa35_1 rfl) rfl ?_;refine gO rfl rfl ((aOp_loadE1 (k := 1) ag3 rfl (q2.ext e9) rfl)) rfl ?_;refine gO rfl rfl (kMT rfl rfl) rfl ?_;apply gE;refine gC (b := true) rfl ?_;refine gD ?_;apply gS;refine Go.block noJ_ok ?_;refine Go.drawnE plan65_0 ?_;refine gQ rfl rfl (ld62 rfl f4 rfl) rfl ?_;refine GoE.quietX rfl rfl (aOpX_lit (ps := []) (cs := []) Try.underlying47 rfl sz3 zt3 rfl rfl rfl) rfl ?_;iterate 2 refine gQ rfl rfl rfl rfl ?_
   refine GoE.quietX rfl rfl (aOpX_lit (ps := [(0, .int .i64 kk)]) (cs := [.int .i64 kk]) Try.underlying47 rfl sz3 zt3 rfl rfl rfl) rfl ?_;refine GoE.copy rfl rfl Try.underlying47 Try.underlying47 sz3 by3 zt3 rfl rfl rfl rfl Sp10 hone (by omega) (dK 6 5 (dK 6 4 (dD 6 2 (dD 6 1 (dK 6 0 rfl))))) rfl rfl fun v11 h11 x11 CP => ?_;replace f2 := f2.ext x11;replace f3 := f3.ext x11;replace f4 := f4.ext x11;replace e9 := e9.trans x11;refine ⟨(recheck_consX (h2 := h11) rfl (aOpX_lit (ps := [(0, .int .i64 kk)]) (cs := [.int .i64 kk]) Try.underlying47 rfl sz3 zt3 rfl rfl rfl) (by simp [sameA, sameAs, eqI_eq]) (rck (h2 := h11) rfl (rfl) (rck (h2 := h11) rfl (ld62 rfl f4 rfl) recheck_nil))), ?_⟩;refine GoE.copy1 rfl rfl Try.underlying47 Try.underlying47 sz3 by3 zt3 rfl rfl rfl rfl CP hone rfl rfl (by omega) (ext_le (by assumption)) (dD 62 5 (dD 62 4 (dK 62 0 rfl))) rfl rfl fun BG h12 lB nB sB f12 => ?_
   have y12 := copy_ext nB sB
   have := e9.1;have := f2.1;have := f3.1;have := f4.1;replace f2 := f2.extF y12 (fun q => by omega);replace f3 := f3.extF y12 (fun q => by omega);replace f4 := f4.extF y12 (fun q => by omega);replace e9 := y12.low e9 (fun b q => by omega);have := y12.1;refine ⟨(rck (h2 := h12) rfl (ld62 rfl f4 rfl) recheck_nil), ?_⟩
   have e12 : Ext h10 h12 := y12.low x11 (fun b q => q)
   have he12 := e12.1
   have hnS : ¬ S BG := fun q => by have := hSl _ q; have := hz10; omega
   have hL : (p ++ [kk]).map (fun x => [AVal.int .i64 x]) = p.map (fun x => [AVal.int .i64 x]) ++ [[AVal.int .i64 kk]] := by simp
   have SpN : ∀ h', ExtF S h12 h' → SliceOf h' 1 (.gsl BG 0 0 ((p.map fun x => [AVal.int .i64 x]).length + 1)) ((p ++ [kk]).map fun x => [AVal.int .i64 x]) := fun h' z => by
    have f' := f12.extF z hnS
    rw [← hL] at f'
    refine SliceOf.mk' rfl rfl f' (by simp) fun i l hl => ?_;rw [Nat.zero_add];exact slice_flatten (fun l hl => by obtain ⟨_, _, rfl⟩ := List.mem_map.1 hl; rfl) i l hl
   refine GoE.call rfl rfl (aOp_callVal rfl aFunc65 rfl) (IH (p := p ++ [kk]) (by simp; omega) (P.snoc hx ⟨by omega, hk⟩) (V := V ++ W) e9 f2 f3 f4 (fun x q => by have := hSl x q; omega) (keep _ _ _ I10 e12) SpN) (dD 127 0 rfl) ?_ np;rintro v40 h40 ⟨q, x40, V', I', hV'⟩;cases q;refine ⟨recheck_nil, _, rfl, ?_⟩;replace f2 := f2.extF x40 hB.1.2;replace f3 := f3.extF x40 hB.2.1.2;replace f4 := f4.extF x40 hB.2.2.2;replace e9 := x40.low e9 (fun b q => hS b q)
   have z40 : ExtF S h h40 := (z10.ext e12).trans (fun b q => .inl q) x40
   clear z10 x40 y12 x11 f12 e12;refine GoE.end rfl ?_;refine Go.inBlock noJ_ok ?_;refine gR rfl ?_;refine gP ?_;refine gO rfl rfl (aA rfl rfl) rfl ?_;refine gP ?_;apply gE;refine again (m - 1) (i + 1, W ++ V') _ _ (by omega) ⟨rfl, rfl, rfl, rfl, rfl, by show _ = some (AVal.int .i64 (x.ll + ((i + 1 : Nat) : Int))); rw [show x.ll + ((i + 1 : Nat) : Int) = kk + 1 by omega]; rfl, trivial⟩ ⟨by dsimp only; omega, e9, z40, f2, f3, f4, by dsimp only; rw [← List.append_assoc]; exact I', fun l => ?_⟩
   dsimp only
   rw [List.mem_append, hW, hV', List.length_append]
   constructor
   ·rintro (⟨q1, q2, q3⟩ | ⟨q1, q2⟩)
    ·exact ⟨q1, q2, by omega⟩
    ·have h1 := (take_one (by omega) (levs_len (List.mem_filter.1 q1).1)).1 q2
     exact ⟨q1, h1.1, by omega⟩
   ·rintro ⟨q1, q2, q3⟩
    by_cases z : lv l p.length < kk
    ·exact .inl ⟨q1, q2, z⟩
    ·exact .inr ⟨q1, (take_one (by omega) (levs_len (List.mem_filter.1 q1).1)).2 ⟨q2, by omega⟩⟩
  ·iterate 2 apply gS
   refine gR rfl ?_;refine gP ?_;refine gO rfl rfl (fa29_0 rfl) rfl ?_;refine gO rfl rfl (ld25 rfl f2 rfl) rfl ?_;refine gP ?_;refine gO rfl rfl (aOp_indexAddr (i := p.length) Try.underlying25 sz60 rfl q1 rfl (Nat.ble_eq_true_of_le (by omega))) rfl ?_;refine gO rfl rfl (fa60_0 rfl) rfl ?_;refine gO rfl rfl (fa35_1 rfl) rfl ?_;refine gO rfl rfl ((aOp_loadE1 (k := 1) ag3 rfl (q2.ext e9) rfl)) rfl ?_;refine gO rfl rfl (kMF rfl rfl) rfl ?_;apply gE;refine gC (b := false) rfl ?_;refine gD ?_;exact gV (ret_end (aResult_of Try.func65 rfl rfl) ⟨rfl, z10, W, I10, fun l => ⟨fun q => ⟨((hW l).1 q).1, ((hW l).1 q).2.1⟩, fun q => (hW l).2 ⟨q.1, q.2, by have := hle0 l q.1; omega⟩⟩⟩)
theorem each30_ok (O : D.Ok) (A : DrainAt g D b d r s) (hF : aFunc Try.prog F = some fF) (hS : ∀ x, S x → g.next ≤ x) (hcs : scalars [.func (.func F) [] caps] = true)
  (keep : ∀ V h h', Inv V h → Ext h h' → Inv V h')
  (step : ∀ V l sl h', Ext g h' → l ∈ D.truths → Inv V h' → SliceOf h' 1 sl (l.map fun x => [AVal.int .i64 x]) → Runs Try.prog F ([sl] ++ caps) h' (fun en h'' => en = .ret (.tuple []) ∧ ExtF S h' h'' ∧ Inv (V ++ [l]) h''))
  {h : AH} (e9 : Ext g h) (hSl : ∀ x, S x → x < h.next) (I : Inv [] h) :
  Runs Try.prog 30 [.agg (dC b d r s), .func (.func F) [] caps] h (fun en h' => en = .ret (.tuple []) ∧ ExtF S h h' ∧ ∃ V, Inv V h' ∧ ∀ l, l ∈ V ↔ l ∈ D.truths) := by
 have hnb := O.nb
 have hsm := A.same
 have e8 : Ext h h := Ext.refl _
 have hge := e9.1
 have hon := fun (B2 B3 B4 : Nat) (hB : (g.next ≤ B2 ∧ ¬ S B2) ∧ (g.next ≤ B3 ∧ ¬ S B3) ∧ (g.next ≤ B4 ∧ ¬ S B4)) {h' : AH} (e : Ext g h') f2 f3 f4 hSl I => on65_ok (F := F) (caps := caps) (S := S) (Inv := Inv) O A hF hS hB keep step D.bs.length (p := []) (by simp) (Pre.nil D) (V := []) (sl := .nilslice) (h := h') e f2 f3 f4 hSl I fun _ _ => .nil
 unfold dC at *
 refine Runs.intro aFunc30 rfl rfl rfl rfl fun rest => ?_;apply gS;refine gR rfl ?_;refine GoR.box rfl rfl rfl rfl rfl rfl fun h0 x0 f0 => ?_;have := e9.1;have := e8.1;replace e9 := e9.trans x0;replace e8 := e8.trans x0;have := f0.1;refine GoR.box rfl rfl rfl rfl rfl rfl fun h1 x1 f1 => ?_;have := e9.1;have := e8.1;have := f0.1;replace f0 := f0.ext x1;replace e9 := e9.trans x1;replace e8 := e8.trans x1;have := f1.1;apply gE;apply gS;refine gR rfl ?_;refine GoR.alloc rfl rfl rfl zt62 rfl rfl fun h2 x2 f2 => ?_;have := e9.1;have := e8.1;have := f1.1;have := f0.1;replace f1 := f1.ext x2;replace f0 := f0.ext x2;replace e9 := e9.trans x2;replace e8 := e8.trans x2;have := f2.1;apply gE;apply gS;refine gR rfl ?_;refine gP ?_;refine GoR.store rfl rfl rfl rfl rfl rfl f2 rfl sz62 rfl rfl rfl fun h3 u3 => ?_;replace f2 := u3.has f2;replace f1 := f1.upd u3 (by omega);replace f0 := f0.upd u3 (by omega);replace e9 := e9.upd u3 (by omega);replace e8 := e8.upd u3 (by omega);apply gE;refine gR rfl ?_;refine gO rfl rfl (ld62 rfl f2 rfl) rfl ?_
 have hu := u3.1
 have hq2 := f0.1
 have hq3 := f1.1
 have hq4 := f2.1
 refine GoR.call rfl rfl (aOp_callVal rfl aFunc65 rfl) (hon _ _ _ ⟨⟨by omega, fun q => by have := hSl _ q; omega⟩, ⟨by omega, fun q => by have := hSl _ q; omega⟩, ⟨by omega, fun q => by have := hSl _ q; omega⟩⟩ e9 f0 f1 f2 (fun x q => by have := hSl x q; omega) (keep _ _ _ I e8)) ?_ np;rintro v40 h40 ⟨q, x40, V', I', hV'⟩;cases q;refine ⟨_, rfl, ?_⟩
 have z40 : ExtF S h h40 := (ExtF.of e8).trans (fun b q => .inl q) x40
 clear e8 e9 f0 f1 f2 x40;apply gE;exact Go.endL (FLeft.ret (v := .tuple []) (aResult_of Try.func30 rfl rfl) ⟨rfl, z40, V', by rw [List.nil_append] at I'; exact I', fun l => by rw [hV']; simp⟩)
end
end Go.Proofs.Ytkhiagdmbajimaa

namespace Go.Proofs.Ytkhiagdmbajimaa
open Go Go.AbsE
set_option linter.unusedSimpArgs false
set_option maxRecDepth 100000
set_option maxHeartbeats 0
set_option linter.unusedVariables false
def highs (D : DrainV) : List Int := D.bs.map fun b => b.yh
def lows (D : DrainV) : List Int := D.bs.map fun b => b.yl
theorem highs_in {D : DrainV} (O : D.Ok) (b : Nat) : 0 ≤ lv (highs D) b ∧ lv (highs D) b ≤ 20 := by
 unfold highs lv
 rw [List.getElem?_map]
 cases q : D.bs[b]? with
 | none => simp
 | some x =>
  have := (O.b x (List.mem_of_getElem? q)).2
  show 0 ≤ x.yh ∧ x.yh ≤ 20
  omega
theorem lows_in {D : DrainV} (O : D.Ok) (b : Nat) : 0 ≤ lv (lows D) b ∧ lv (lows D) b ≤ 20 := by
 unfold lows lv
 rw [List.getElem?_map]
 cases q : D.bs[b]? with
 | none => simp
 | some x =>
  have := (O.b x (List.mem_of_getElem? q)).2
  show 0 ≤ x.yl ∧ x.yl ≤ 20
  omega
def okR (D : DrainV) (st : Nat) (l : List Int) : Bool := !(D.rs.any (D.can (D.course st l)))
theorem sgnC_at {D : DrainV} {st : Nat} {l : List Int} {a : Nat} (ha : a < D.bs.length) : (sgnC (D.course st l))[a]? = some (sgn D.bs.length (nx (D.course st l) a)) := by
 have hcl := course_len D st l
 unfold sgnC
 rw [List.getElem?_map, hcl]
 have : (D.course st l)[a]? = some (nx (D.course st l) a) := by unfold nx; simp [hcl, ha]
 rw [this]
 rfl
theorem watL_at {c : List Nat} {ys : List Int} {a : Nat} (ha : a < c.length) : (watL c ys)[a]? = some (wat c ys a) := by
 unfold watL
 rw [List.getElem?_map, List.getElem?_range ha]
 rfl
theorem can_is {D : DrainV} {c : List Nat} {o t : Nat} {m : Int} (hm : 0 ≤ m) : D.can c ⟨(o : Int), (t : Int), m⟩ = decide (nx c o = t ∧ m < wat c (highs D) o) := by
 unfold DrainV.can DrainV.straight
 dsimp only
 rw [Int.toNat_natCast, Int.toNat_natCast, water_wat]
 by_cases q : nx c o = t
 ·rw [if_pos q]
  show decide (m < wat c (highs D) o) = _
  simp [q]
 ·rw [if_neg q, decide_eq_false (by dsimp only; omega), decide_eq_false (fun w => q w.1)]
theorem waters27_e {l : List Int} {c : List Nat} (dn : Down l c) (hc : 1 ≤ c.length ∧ c.length ≤ 5) {ys : List Int} (hyl : ys.length = c.length) (hy : ∀ b, 0 ≤ lv ys b ∧ lv ys b ≤ 20) {sn sy : AVal} {h : AH} (S : SliceOf h 1 sn ((sgnC c).map fun x => [AVal.int .i64 x])) (Y : SliceOf h 1 sy (ys.map fun x => [AVal.int .i64 x])) :
  Runs Try.prog 27 [sn, sy] h (fun en h' => ∃ bt, en = .ret (.slice bt 0 c.length c.length) ∧ Ext h h' ∧ h.next ≤ bt ∧ Has h' bt (.cells .plain (i64s (watL c ys)) 3)) := waters27_ok dn hc hyl hy S Y
theorem all_mem {V T : List (List Int)} {p : List Int → Bool} (h : ∀ l, l ∈ V ↔ l ∈ T) : V.all p = T.all p := by
 rw [Bool.eq_iff_iff, List.all_eq_true, List.all_eq_true];exact ⟨fun k x hx => k x ((h x).2 hx), fun k x hx => k x ((h x).1 hx)⟩
end Go.Proofs.Ytkhiagdmbajimaa

namespace Go.Proofs.Ytkhiagdmbajimaa
open Go Go.AbsE
set_option linter.unusedSimpArgs false
set_option maxRecDepth 100000
set_option maxHeartbeats 0
set_option linter.unusedVariables false
theorem breaksR_is {D : DrainV} (O : D.Ok) : D.breaksR = D.tr (((D.surely : Nat) : Int), ((D.perhaps : Nat) : Int)) zSp := DrainV.ok_yes O
end Go.Proofs.Ytkhiagdmbajimaa

set_option linter.unusedSimpArgs false
set_option linter.unusedVariables false
namespace Go.AbsE
open Go
section
variable {P : Program} {t : Tr AVal} {h : AH} {dst : Option Tmp} {tt : TypeId} {pos : String} {after : Array Edge} {guard : Option (Nat × Bool)} {x y : Operand}
variable {c : FC} {k : List AItem} {Q : AM → Prop} {J : Jump} {all : Array Oper} {l lrest : List Oper} {i d : Nat}
def CopR (h : AH) (el eb : TypeId) (b lo : Nat) (v : AVal) (L : List (List AVal)) : Prop := (L = [] ∧ v = .slice b 0 0 0 ∧ Has h b (.cells .plain [] eb)) ∨ (0 < L.length ∧ ∃ B, lo ≤ B ∧ v = .gsl B 0 0 L.length ∧ Has h B (.cells .grow L.flatten el))
theorem CopR.ext {h h' : AH} {el eb : TypeId} {b lo : Nat} {v : AVal} {L : List (List AVal)} (k : CopR h el eb b lo v L) (e : Ext h h') : CopR h' el eb b lo v L := by
 rcases k with ⟨k1, k2, k3⟩ | ⟨k, b, k1, k2, k3⟩
 ·exact .inl ⟨k1, k2, k3.ext e⟩
 ·exact .inr ⟨k, b, k1, k2, k3.ext e⟩
theorem GoR.copyR {el el2 eb t1 t2 : TypeId} {sz bytes b : Nat} {z s : AVal} {L : List (List AVal)} (hl : l = ⟨dst, .call ⟨.builtin .append, #[x, y], #[t1, t2]⟩, tt, pos, after, guard⟩ :: lrest) (hw : wantedA all t ⟨dst, .call ⟨.builtin .append, #[x, y], #[t1, t2]⟩, tt, pos, after, guard⟩ = some true)
  (hu1 : P.underlying t1 = some (.slice el)) (hu2 : P.underlying t2 = some (.slice el2)) (hs : sizeT P el = some sz) (hby : bytesT P el = some bytes) (hz : zeroT P el = some z) (hzl : Nat.beq z.cells.length sz = true) (hsz : Nat.blt 0 sz = true)
  (hx : ev t x = some (.slice b 0 0 0)) (hb : Has h b (.cells .plain [] eb)) (hy : ev t y = some s) (hsl : SliceOf h sz s L) (hroom : (0 + L.length + 300) * 2 * (bytes + 1) < 281474976710656) (hd : dst = some d) (hdn : Nat.blt d c.n = true)
  (g : ∀ v h1, Ext h h1 → CopR h1 el eb b h.next v L → GoR P J c k Q (runOps P c.n all lrest (i + 1) (t.put (pth d) (some v)) h1)) : GoR P J c k Q (runOps P c.n all l i t h) := by
 rcases Nat.eq_zero_or_pos L.length with hL | hL
 ·have hL := List.eq_nil_of_length_eq_zero hL
  subst hL
  obtain ⟨h1, hst⟩ : ∃ h1, h.set b (some (.cells .plain [] eb)) = some h1 := by obtain ⟨tt, nx⟩ := h; exact ⟨_, rfl⟩
  obtain ⟨s1, s2⟩ := AH.get_set hst
  have e1 : Ext h h1 := ⟨by omega, fun c hc => by
   rw [s2]
   split
   ·rename_i q; rw [q]; exact hb.2.symm
   ·rfl⟩
  have hop : aOp P t h ⟨dst, .call ⟨.builtin .append, #[x, y], #[t1, t2]⟩, tt, pos, after, guard⟩ = some (.val (.slice b 0 0 0) h1) := by
   show opCall P t h ⟨.builtin .append, #[x, y], #[t1, t2]⟩ tt = _
   have he : evs t [x, y] = some [.slice b 0 0 0, s] := by simp only [evs, mapO, hx, hy]
   have hlt : Nat.blt ((0 + 0 + 300) * 2 * (bytes + 1)) 281474976710656 = true := Nat.ble_eq_true_of_le hroom
   have hlen : lenA s = some 0 := hsl.len
   have hsrc : srcCells h sz 0 s = some [] := hsl.src
   have ha : aAppend P h t1 t2 (.slice b 0 0 0) s = some (.val (.slice b 0 0 0) h1) := by
    unfold aAppend
    rw [hu1, hu2]
    simp only [hs, hby, hz, show lenA (.slice b 0 0 0) = some 0 from rfl, hlen, hsrc, hlt, hsz, hzl, cond_true]
    unfold appSlice
    have hle : Nat.ble (0 + 0) 0 = true := rfl
    rw [hle, cond_true]
    have : AbsE.storeCells h b (0 + 0 * sz) [] = some h1 := by
     unfold AbsE.storeCells
     rw [hb.2]
     have hs0 : splice ([] : List AVal) (0 + 0 * sz) [] = some [] := by rw [Nat.zero_mul]; rfl
     have hr0 : Kd.isRo .plain = false := rfl
     have hc0 : scalars [] = true := rfl
     simp only [hr0, hc0, cond_false, cond_true, hs0]
     exact hst
    rw [this]
   simp only [opCall, he, callWith, aBuiltin, ha]
  exact gO hl hw hop (prepD_some hd hdn) (g _ h1 e1 (.inl ⟨rfl, rfl, hb.ext e1⟩))
 ·exact GoR.appendNew hl hw hu1 hu2 hs hby hz hzl hsz hx hb hy hsl hL hroom hd hdn fun h1 e1 f1 => g _ h1 e1 (.inr ⟨hL, _, Nat.le_refl _, rfl, f1⟩)
theorem GoR.copy1R {el el2 eb t1 t2 : TypeId} {sz bytes b b2 lo : Nat} {z v : AVal} {new : List AVal} {g2 : Kd} {L : List (List AVal)} (hl : l = ⟨dst, .call ⟨.builtin .append, #[x, y], #[t1, t2]⟩, tt, pos, after, guard⟩ :: lrest) (hw : wantedA all t ⟨dst, .call ⟨.builtin .append, #[x, y], #[t1, t2]⟩, tt, pos, after, guard⟩ = some true)
  (hu1 : P.underlying t1 = some (.slice el)) (hu2 : P.underlying t2 = some (.slice el2)) (hs : sizeT P el = some sz) (hby : bytesT P el = some bytes) (hz : zeroT P el = some z) (hzl : Nat.beq z.cells.length sz = true) (hsz : Nat.blt 0 sz = true)
  (hx : ev t x = some v) (hy : ev t y = some (.slice b2 0 1 1)) (hb2 : Has h b2 (.cells g2 new el2)) (hv : CopR h el eb b lo v L) (hll : ∀ l, l ∈ L → l.length = sz) (hnl : new.length = sz) (hns : scalars new = true) (hroom : (L.length + 301) * 2 * (bytes + 1) < 281474976710656) (hlo : lo ≤ h.next) (hd : dst = some d) (hdn : Nat.blt d c.n = true)
  (g : ∀ b' h1, lo ≤ b' → ExtF (fun c => lo ≤ c) h h1 → Has h1 b' (.cells .grow (L ++ [new]).flatten el) → GoR P J c k Q (runOps P c.n all lrest (i + 1) (t.put (pth d) (some (.gsl b' 0 0 (L.length + 1)))) h1)) : GoR P J c k Q (runOps P c.n all l i t h) := by
 have hnb : Nat.beq new.length sz = true := by rw [hnl]; simp
 rcases hv with ⟨rfl, rfl, hb⟩ | ⟨hL, B, hB, rfl, hBh⟩
 ·have S1 : SliceOf h sz (.slice b2 0 1 1) [new] := by
   refine .mk (b := b2) (off := 0) (len := 1) rfl rfl hb2.1 rfl (fun l hl => by rw [List.mem_singleton.1 hl]; exact hnl) ?_
   unfold AbsE.loadCells
   rw [hb2.2]
   show slice? new 0 (1 * sz) = some ([new].flatten)
   rw [Nat.one_mul]
   simpa using slice_all hnl
  exact GoR.appendNew hl hw hu1 hu2 hs hby hz hzl hsz hx hb hy S1 (by simp) (by simpa using hroom) hd hdn fun h1 e1 f1 => g _ h1 hlo (.of e1) f1
 ·refine GoR.append1F hl hw rfl hu1 hu2 hs hby hz hzl hsz hx hy hb2 hnb hns (lo := lo) (cs := L.flatten) ⟨flatten_len hll, .inr ⟨hL, B, hB, rfl, hBh⟩⟩ hroom hd hdn fun s' h1 y G => ?_
  obtain ⟨G1, G2⟩ := G
  rcases G2 with ⟨_, q⟩ | ⟨_, b', q1, q2, q3⟩
  ·omega
  subst q2;refine g b' h1 (by omega) ⟨y.1, fun c hc hn => y.2 c hc fun q => hn ?_⟩ (by simpa using q3)
  injection q with q
  omega
end
end Go.AbsE

namespace Go.Proofs.Ytkhiagdmbajimaa
open Go Go.AbsE
set_option linter.unusedSimpArgs false
set_option maxRecDepth 100000
set_option maxHeartbeats 0
set_option linter.unusedVariables false
theorem lows_yl (D : DrainV) (b : Nat) : lv (lows D) b = (D.yield b).1 := by
 unfold lows lv DrainV.yield
 rw [List.getElem?_map]
 cases D.bs[b]? <;> rfl
theorem sumP_fst (l : List (Int × Int)) : (sumP l).1 = sumI (l.map (·.1)) := by
 have k : ∀ (l : List (Int × Int)) (a : Int × Int), (l.foldl (fun a b => (a.1 + b.1, a.2 + b.2)) a).1 = a.1 + sumI (l.map (·.1)) := by
  intro l
  induction l with
  | nil => intro a; show a.1 = a.1 + 0; omega
  | cons x l ih =>
   intro a
   rw [List.foldl_cons, ih]
   show a.1 + x.1 + _ = a.1 + (x.1 + _)
   exact Int.add_assoc _ _ _
 unfold sumP
 rw [k];exact Int.zero_add _
theorem water_low (D : DrainV) (c : List Nat) (a : Nat) : (D.water c a).1 = wat c (lows D) a := by
 unfold DrainV.water wat
 rw [sumP_fst, List.map_map]
 congr 1
 refine List.map_congr_left fun b _ => ?_;rw [lows_yl]
 rfl
theorem must_is {D : DrainV} {c : List Nat} {o t : Nat} {m : Int} (hm : 0 ≤ m) : D.must c ⟨(o : Int), (t : Int), m⟩ = decide (nx c o = t ∧ m < wat c (lows D) o) := by
 unfold DrainV.must DrainV.straight
 dsimp only
 rw [Int.toNat_natCast, Int.toNat_natCast]
 by_cases q : nx c o = t
 ·rw [if_pos q, water_low]
  simp [q]
 ·rw [if_neg q];rw [decide_eq_decide]
  constructor
  ·intro h
   have : m < 0 := h
   omega
  ·intro h
   exact absurd h.1 q
theorem right32_ok {D : DrainV} (O : D.Ok) {b d r s d2 hsl lsl ls : AVal} {g h : AH} (A : DrainAt g D b d r s) (Y : SliceOf g 1 hsl ((highs D).map fun x => [AVal.int .i64 x])) (Z : SliceOf g 1 lsl ((lows D).map fun x => [AVal.int .i64 x])) {l : List Int} (hl : l ∈ levsV D.bs) {Bx Bh Bl Bd Ba Bn : Nat} {v w : Bool} (e9 : Ext g h) (S : SliceOf h 1 ls (l.map fun x => [AVal.int .i64 x])) (f1 : Has h Bx (.cells .plain [b, d, r, s] 29)) (f2 : Has h Bh (.cells .plain [hsl] 47)) (f3 : Has h Bl (.cells .plain [lsl] 47)) (f4 : Has h Bd (.cells .plain [b, d2, r, s] 29)) (f5 : Has h Ba (.cells .plain [.bool v] 4)) (f6 : Has h Bn (.cells .plain [.bool w] 4)) (hBa : g.next ≤ Ba ∧ g.next ≤ Bn) (hne : (Ba ≠ Bx ∧ Ba ≠ Bh ∧ Ba ≠ Bl ∧ Ba ≠ Bd) ∧ (Bn ≠ Bx ∧ Bn ≠ Bh ∧ Bn ≠ Bl ∧ Bn ≠ Bd) ∧ Ba ≠ Bn) :
  Runs Try.prog 32 [ls, .ptr Bx 0, .ptr Bh 0, .ptr Bl 0, .ptr Bd 0, .ptr Ba 0, .ptr Bn 0] h (fun en h' => en = .ret (.tuple []) ∧ ExtF (fun x => x = Ba ∨ x = Bn) h h' ∧ Has h' Ba (.cells .plain [.bool (v && okR D 0 l)] 4) ∧ Has h' Bn (.cells .plain [.bool (w && D.rs.any (D.must (D.course 0 l)))] 4)) := by
 have hnb := O.nb
 have hnr := O.nr
 have hl3 := A.rs.len
 rw [List.length_map] at hl3
 have hsm := A.same
 have hll := levs_len hl
 have hcl := course_len D 0 l
 have hdn := course_down O hl 0
 have hyl : (highs D).length = D.bs.length := by unfold highs; rw [List.length_map]
 have hzl : (lows D).length = D.bs.length := by unfold lows; rw [List.length_map]
 have hsY := Y.same
 have hsZ := Z.same
 have e8 : Ext h h := Ext.refl _
 have y0 : ExtF (fun x => x = Ba ∨ x = Bn) h h := ExtF.of (Ext.refl _)
 have hco := fun h' e e' => courses26_e O (b := b) (d := d) (r := r) (s := s) (ls := ls) (l := l) hll (st := 0) (h := h') (A.ext e) (S.ext e')
 have hc2 : ∀ h', Ext g h' → Ext h h' → Runs Try.prog 26 [.agg (dC b d r s), ls, .int .i64 0] h' (fun en h'' => ∃ bg, en = .ret (.gsl bg 0 0 D.bs.length) ∧ Ext h' h'' ∧ h'.next ≤ bg ∧ Has h'' bg (.cells .grow (i64s (sgnC (D.course 0 l))) 3)) := fun h' e e' => (hco h' e e').mono fun en h'' ⟨sl, q, x, G, _⟩ => by
  rcases G.2 with ⟨_, hz⟩ | ⟨_, bg, q1, q2, q3⟩
  ·omega
  ·exact ⟨bg, by rw [q, q2], x, q1, q3⟩
 have hsgl : (sgnC (D.course 0 l)).length = D.bs.length := by unfold sgnC; rw [List.length_map, hcl]
 have hwa := fun h' {sn : AVal} {lo : Nat} (e : Ext g h') (G : Grow h' 3 1 lo sn D.bs.length (i64s (sgnC (D.course 0 l)))) => waters27_e hdn (by omega) (ys := highs D) (by omega) (highs_in O) (sn := sn) (sy := hsl) (h := h') (ints_slice hsgl G) (Y.ext e)
 have hwb := fun h' {sn : AVal} {lo : Nat} (e : Ext g h') (G : Grow h' 3 1 lo sn D.bs.length (i64s (sgnC (D.course 0 l)))) => waters27_e hdn (by omega) (ys := lows D) (by omega) (lows_in O) (sn := sn) (sy := lsl) (h := h') (ints_slice hsgl G) (Z.ext e)
 rw [hcl] at hwa hwb
 have GN : ∀ {h' : AH} (bg : Nat), Has h' bg (.cells .grow (i64s (sgnC (D.course 0 l))) 3) → Grow h' 3 1 0 (.gsl bg 0 0 D.bs.length) D.bs.length (i64s (sgnC (D.course 0 l))) := fun bg f => ⟨by rw [i64s_len, hsgl]; omega, .inr ⟨by omega, bg, Nat.zero_le _, rfl, f⟩⟩
 unfold dC at *
 have hbi0 := f5.1
 have hbi1 := f6.1
 refine Runs.intro aFunc32 rfl rfl rfl rfl fun rest => ?_;apply gS;refine gR rfl ?_;refine gO rfl rfl (ld29 rfl f1 rfl) rfl ?_;refine gP ?_;refine GoR.call rfl rfl (aCF aFunc26 rfl) (hc2 _ e9 e8) ?_ (by rintro _ _ ⟨bg, q, _, hbg, GF⟩; cases q);rintro v7 h7 ⟨bg, q, x7, hbg, GF⟩;cases q;refine ⟨_, rfl, ?_⟩;have := e9.1;have := e8.1;replace f1 := f1.ext x7;replace f2 := f2.ext x7;replace f3 := f3.ext x7;replace f4 := f4.ext x7;replace f5 := f5.ext x7;replace f6 := f6.ext x7;replace e9 := e9.trans x7;replace e8 := e8.trans x7;replace y0 := y0.ext x7;refine gP ?_;apply gE;apply gS;refine Go.drawnE plan32_0 ?_;refine gQ rfl rfl rfl rfl ?_;refine gQ rfl rfl (ld47 rfl f2 rfl) rfl ?_;refine gQ rfl rfl rfl rfl ?_;refine gQ rfl rfl (ld47 rfl f3 rfl) rfl ?_;refine GoE.call rfl rfl (aCF aFunc27 rfl) (hwa _ e9 (GN bg GF)) (dK 3 4 (dK 3 3 (dD 3 1 (dD 3 0 rfl)))) ?_ (by rintro _ _ ⟨bt, q, _, hbt, _⟩; cases q);rintro v8 h8 ⟨bt, q, x8, hbt, f8⟩;cases q;have := e9.1;have := e8.1
 have := GF.1
 have := f1.1;have := f2.1;have := f3.1;have := f4.1;have := f5.1;have := f6.1;replace GF := GF.ext x8;replace f1 := f1.ext x8;replace f2 := f2.ext x8;replace f3 := f3.ext x8;replace f4 := f4.ext x8;replace f5 := f5.ext x8;replace f6 := f6.ext x8;replace e9 := e9.trans x8;replace e8 := e8.trans x8;replace y0 := y0.ext x8;refine ⟨(rck (h2 := h8) rfl (ld47 rfl f3 rfl) (rck (h2 := h8) rfl (rfl) recheck_nil)), _, rfl, ?_⟩;refine GoE.call rfl rfl (aCF aFunc27 rfl) (hwb _ e9 (GN bg GF)) (dD 31 4 (dD 31 3 rfl)) ?_ (by rintro _ _ ⟨bt2, q, _, hbt2, _2⟩; cases q);rintro v9 h9 ⟨bt2, q, x9, hbt2, f92⟩;cases q;have := e9.1;have := e8.1;have := f8.1
 have := GF.1
 have := f1.1;have := f2.1;have := f3.1;have := f4.1;have := f5.1;have := f6.1;replace f8 := f8.ext x9;replace GF := GF.ext x9;replace f4 := f4.ext x9;replace f5 := f5.ext x9;replace f6 := f6.ext x9;replace e9 := e9.trans x9;replace y0 := y0.ext x9;refine ⟨recheck_nil, _, rfl, ?_⟩;iterate 2 refine gQ rfl rfl rfl rfl ?_
 refine GoE.end rfl ?_;apply gS;refine gR rfl ?_;refine gP ?_;apply gE;iterate 2 apply gS
 refine gR rfl ?_;refine gO rfl rfl (fa29_2 rfl) rfl ?_;refine gO rfl rfl (ld27 rfl f4 rfl) rfl ?_;refine gO rfl rfl (aOp_lenSlice Try.underlying27 rfl hl3) rfl ?_;refine gP ?_;apply gE;refine Go.block noJ_ok ?_
 have hbi := f5.1
 have hbj := f6.1
 have hx9 := x9.1
 have hx8 := x8.1
 have hx7 := x7.1
 refine Go.loopKeep (fun i : Nat => [(5, .ptr Ba 0), (6, .ptr Bn 0), (8, .gsl bg 0 0 D.bs.length), (9, .slice bt 0 D.bs.length D.bs.length), (10, .slice bt2 0 D.bs.length D.bs.length), (11, .bool ((D.rs.take i).all fun r => !(D.must (D.course 0 l) r))), (24, r), (25, .int .i64 D.rs.length), (26, .int .i64 (i : Nat))])
  (fun m i h' => m + i = D.rs.length ∧ Ext g h' ∧ ExtF (fun x => x = Ba ∨ x = Bn) h h' ∧ Has h' bt (.cells .plain (i64s (watL (D.course 0 l) (highs D))) 3) ∧ Has h' bt2 (.cells .plain (i64s (watL (D.course 0 l) (lows D))) 3) ∧ Has h' bg (.cells .grow (i64s (sgnC (D.course 0 l))) 3) ∧ Has h' Ba (.cells .plain [.bool (v && (D.rs.take i).all fun r => !(D.can (D.course 0 l) r))] 4) ∧ Has h' Bn (.cells .plain [.bool w] 4)) (n := D.rs.length) 0 ⟨rfl, rfl, rfl, rfl, rfl, rfl, rfl, rfl, rfl, trivial⟩ ⟨rfl, e9, y0, f8, f92, GF, by rw [List.take_zero, List.all_nil, Bool.and_true]; exact f5, f6⟩ ?_
 clear e9 e8 y0 f1 f2 f3 f4 f5 f6 f8 f92 GF;rintro m i h20 ⟨hm, e9, y0, f8, f92, GF, f5, f6⟩ again
 have hbd := f5.1
 by_cases hi : i < D.rs.length
 ·obtain ⟨⟨ro, rt, rm⟩, hx⟩ : ∃ x, D.rs[i]? = some x := ⟨D.rs[i], by simp [hi]⟩
  obtain ⟨bq, off, u1, u2⟩ := A.rs.at (i := i) (l := RtV.cells ⟨ro, rt, rm⟩) (by rw [List.getElem?_map, hx]; rfl)
  rw [List.length_map] at u1
  have hro := O.r _ (List.mem_of_getElem? hx)
  unfold RtV.Ok PairOk at hro
  dsimp only at hro
  obtain ⟨o, rfl⟩ := Int.eq_ofNat_of_zero_le hro.1.1.1
  obtain ⟨t, rfl⟩ := Int.eq_ofNat_of_zero_le hro.1.2.1.1
  unfold RtV.cells at u2
  dsimp only at u2
  have hcan := can_is (D := D) (c := D.course 0 l) (o := o) (t := t) hro.2.1
  have hmus := must_is (D := D) (c := D.course 0 l) (o := o) (t := t) hro.2.1
  have hnx : (v && (D.rs.take (i + 1)).all fun r => !(D.can (D.course 0 l) r)) = ((v && (D.rs.take i).all fun r => !(D.can (D.course 0 l) r)) && !decide (nx (D.course 0 l) o = t ∧ rm < wat (D.course 0 l) (highs D) o)) := by
   rw [List.take_add_one, hx, Option.toList_some, List.all_append, List.all_cons, List.all_nil, hcan, Bool.and_true, Bool.and_assoc]
  have hny : ((D.rs.take (i + 1)).all fun r => !(D.must (D.course 0 l) r)) = (((D.rs.take i).all fun r => !(D.must (D.course 0 l) r)) && !decide (nx (D.course 0 l) o = t ∧ rm < wat (D.course 0 l) (lows D) o)) := by
   rw [List.take_add_one, hx, Option.toList_some, List.all_append, List.all_cons, List.all_nil, hmus, Bool.and_true]
  have SN : SliceOf h20 1 (.gsl bg 0 0 D.bs.length) ((sgnC (D.course 0 l)).map fun x => [AVal.int .i64 x]) := ints_slice (el := 3) (lo := 0) hsgl ⟨by rw [i64s_len, hsgl]; omega, .inr ⟨by omega, bg, Nat.zero_le _, rfl, GF⟩⟩
  obtain ⟨b6, o6, t1, t2⟩ := SN.at (i := o) (l := [.int .i64 (sgn D.bs.length (nx (D.course 0 l) o))]) (by rw [List.getElem?_map, sgnC_at (by omega)]; rfl)
  rw [List.length_map, hsgl] at t1
  have e6 : Ext h20 h20 := Ext.refl _
  have hga := i64s_at (watL_at (c := D.course 0 l) (ys := highs D) (a := o) (by omega))
  have hgb := i64s_at (watL_at (c := D.course 0 l) (ys := lows D) (a := o) (by omega))
  have hq7 : aSlElems (.slice bt 0 D.bs.length D.bs.length) = some (bt, 0, D.bs.length) := rfl
  have hq9 : aSlElems (.slice bt2 0 D.bs.length D.bs.length) = some (bt2, 0, D.bs.length) := rfl
  have hle := hdn.le o (by omega)
  rw [hcl] at hle
  obtain ⟨wv, hwv⟩ : ∃ z, wat (D.course 0 l) (highs D) o = z := ⟨_, rfl⟩
  rw [hwv] at hga hnx
  obtain ⟨lw, hlw⟩ : ∃ z, wat (D.course 0 l) (lows D) o = z := ⟨_, rfl⟩
  rw [hlw] at hgb hny
  obtain ⟨cv, hcv⟩ : ∃ z, (v && (D.rs.take i).all fun r => !(D.can (D.course 0 l) r)) = z := ⟨_, rfl⟩
  rw [hcv] at f5 hnx
  obtain ⟨kv, hkv⟩ : ∃ z, ((D.rs.take i).all fun r => !(D.must (D.course 0 l) r)) = z := ⟨_, rfl⟩
  rw [hkv] at hny ⊢
  have hne1 := hne.1
  have hne2 := hne.2.1
  have hbt1 : bt ≠ Ba := by omega
  have hbt3 : bt2 ≠ Ba := by omega
  have hbg1 : bg ≠ Ba := by omega
  have hAN := hne.2.2
  by_cases c1 : nx (D.course 0 l) o = t
  ·have hsx : sgn D.bs.length (nx (D.course 0 l) o) = (t : Int) := by rw [sgn_lt (by omega), c1]
   rw [hsx] at t2;apply gS;refine gR rfl ?_;refine gO rfl rfl (kLT rfl rfl) rfl ?_;apply gE;apply gS;refine gC (b := true) rfl ?_;refine gD ?_;apply gS;refine Go.block noJ_ok ?_;apply gS;refine gR rfl ?_;refine gO rfl rfl (aOp_indexAddr (i := i) Try.underlying27 sz57 rfl u1 rfl (Nat.ble_eq_true_of_le hi)) rfl ?_;refine gO rfl rfl (aOp_loadE ag57 sz57 rfl (u2.ext e9)) rfl ?_;refine GoR.alloc rfl rfl rfl zt57 rfl rfl fun h93 x93 f93 => ?_;have := e9.1;have := e6.1;have := f8.1;have := f92.1
   have := GF.1
   have := f6.1;have := f5.1;replace f8 := f8.ext x93;replace f92 := f92.ext x93;replace GF := GF.ext x93;replace f6 := f6.ext x93;replace f5 := f5.ext x93;replace e9 := e9.trans x93;replace e6 := e6.trans x93;replace y0 := y0.ext x93;have := f93.1;refine GoR.store rfl rfl rfl rfl rfl rfl f93 rfl sz57 rfl rfl rfl fun h94 u94 => ?_;replace f93 := u94.has f93;replace f8 := f8.upd u94 (by omega);replace f92 := f92.upd u94 (by omega);replace GF := GF.upd u94 (by omega);replace f6 := f6.upd u94 (by omega);replace f5 := f5.upd u94 (by omega);replace e9 := e9.upd u94 (by omega);replace e6 := e6.upd u94 (by omega);replace y0 := y0.upd u94 (.inr (by omega));apply gE;apply gS;refine Go.drawnE plan32_1 ?_;refine gQ rfl rfl rfl rfl ?_;refine gQ rfl rfl (fa57_0 rfl) rfl ?_;refine gQ rfl rfl (ld3 rfl f93 rfl) rfl ?_;refine gQ rfl rfl (aOp_indexAddr (i := o) Try.underlying47 sz3 rfl t1 rfl (Nat.ble_eq_true_of_le (by omega))) rfl ?_;refine gQ rfl rfl ((aOp_loadE1 (k := 0) ag3 rfl (t2.ext e6) rfl)) rfl ?_;refine gQ rfl rfl (fa57_1 rfl) rfl ?_;refine gQ rfl rfl (ld3 rfl f93 rfl) rfl ?_;refine gQ rfl rfl (kET rfl rfl) rfl ?_;refine GoE.end rfl ?_;refine gC (b := true) rfl ?_;refine Go.drawnE plan32_2 ?_;refine gQ rfl rfl (ld4 rfl f5 rfl) rfl ?_;refine gQ rfl rfl rfl rfl ?_
   cases cv with
   | false =>
    rw [Bool.false_and] at hnx
    cases kv with
    | false =>
     rw [Bool.false_and] at hny;iterate 8 refine GoE.skip rfl rfl rfl ?_
     iterate 3 refine gQ rfl rfl rfl rfl ?_
     iterate 8 refine GoE.skip rfl rfl rfl ?_
     refine gQ rfl rfl rfl rfl ?_;refine GoE.store rfl rfl rfl rfl (dK 8191 21 (dD 8191 12 (dD 8191 11 (dD 8191 10 (dD 8191 1 (dD 8191 0 rfl)))))) rfl rfl f5 rfl sz4 rfl rfl rfl fun h95 u95 => ?_;replace f93 := f93.upd u95 (by omega);replace f8 := f8.upd u95 (by omega);replace f92 := f92.upd u95 (by omega);replace GF := GF.upd u95 (by omega);replace f6 := f6.upd u95 (by omega);replace f5 := u95.has f5;replace e9 := e9.upd u95 (by omega);clear e6;replace y0 := y0.upd u95 (by omega);refine ⟨(rck (h2 := h95) rfl (rfl) recheck_nil), ?_⟩;refine gQ rfl rfl rfl rfl ?_;refine GoE.end rfl ?_;refine Go.inBlock noJ_ok ?_;refine gR rfl ?_;refine gO rfl rfl (aA rfl rfl) rfl ?_;refine gP ?_;apply gE;exact again (m - 1) (i + 1) _ _ (by omega) ⟨rfl, rfl, rfl, rfl, rfl, by rw [hny]; rfl, rfl, rfl, rfl, trivial⟩ ⟨by omega, e9, y0, f8, f92, GF, by rw [hnx]; exact f5, f6⟩
    | true =>
     by_cases c3 : rm < lw
     ·rw [decide_eq_true ⟨c1, c3⟩, Bool.not_true] at hny;iterate 8 refine GoE.skip rfl rfl rfl ?_
      iterate 4 refine gQ rfl rfl rfl rfl ?_
      refine gQ rfl rfl (fa57_0 rfl) rfl ?_;refine gQ rfl rfl (ld3 rfl f93 rfl) rfl ?_;refine gQ rfl rfl (aOp_indexAddr (i := o) Try.underlying47 sz3 rfl hq9 rfl (Nat.ble_eq_true_of_le (by omega))) rfl ?_;refine gQ rfl rfl (ld3 rfl f92 hgb) rfl ?_;refine gQ rfl rfl (fa57_2 rfl) rfl ?_;refine gQ rfl rfl (ld3 rfl f93 rfl) rfl ?_;refine gQ rfl rfl (kMF rfl rfl) rfl ?_;refine gQ rfl rfl rfl rfl ?_;refine GoE.store rfl rfl rfl rfl (dK 8191 21 (dK 8191 20 (dK 8191 19 (dK 8191 18 (dK 8191 17 (dK 8191 16 (dK 8191 15 (dK 8191 14 (dK 8191 13 (dD 8191 12 (dD 8191 11 (dD 8191 10 (dD 8191 1 (dD 8191 0 rfl)))))))))))))) rfl rfl f5 rfl sz4 rfl rfl rfl fun h95 u95 => ?_;replace f93 := f93.upd u95 (by omega);replace f8 := f8.upd u95 (by omega);replace f92 := f92.upd u95 (by omega);replace GF := GF.upd u95 (by omega);replace f6 := f6.upd u95 (by omega);replace f5 := u95.has f5;replace e9 := e9.upd u95 (by omega);clear e6;replace y0 := y0.upd u95 (by omega);refine ⟨(rck (h2 := h95) rfl (rfl) (rck (h2 := h95) rfl (kMF rfl rfl) (rck (h2 := h95) rfl (ld3 rfl f93 rfl) (rck (h2 := h95) rfl (fa57_2 rfl) (rck (h2 := h95) rfl (ld3 rfl f92 hgb) (rck (h2 := h95) rfl (aOp_indexAddr (i := o) Try.underlying47 sz3 rfl hq9 rfl (Nat.ble_eq_true_of_le (by omega))) (rck (h2 := h95) rfl (ld3 rfl f93 rfl) (rck (h2 := h95) rfl (fa57_0 rfl) (rck (h2 := h95) rfl (rfl) recheck_nil))))))))), ?_⟩;refine gQ rfl rfl rfl rfl ?_;refine GoE.end rfl ?_;refine Go.inBlock noJ_ok ?_;refine gR rfl ?_;refine gO rfl rfl (aA rfl rfl) rfl ?_;refine gP ?_;apply gE;exact again (m - 1) (i + 1) _ _ (by omega) ⟨rfl, rfl, rfl, rfl, rfl, by rw [hny]; rfl, rfl, rfl, rfl, trivial⟩ ⟨by omega, e9, y0, f8, f92, GF, by rw [hnx]; exact f5, f6⟩
     ·rw [decide_eq_false (fun w => c3 w.2), Bool.not_false] at hny;iterate 8 refine GoE.skip rfl rfl rfl ?_
      iterate 4 refine gQ rfl rfl rfl rfl ?_
      refine gQ rfl rfl (fa57_0 rfl) rfl ?_;refine gQ rfl rfl (ld3 rfl f93 rfl) rfl ?_;refine gQ rfl rfl (aOp_indexAddr (i := o) Try.underlying47 sz3 rfl hq9 rfl (Nat.ble_eq_true_of_le (by omega))) rfl ?_;refine gQ rfl rfl (ld3 rfl f92 hgb) rfl ?_;refine gQ rfl rfl (fa57_2 rfl) rfl ?_;refine gQ rfl rfl (ld3 rfl f93 rfl) rfl ?_;refine gQ rfl rfl (kMT rfl rfl) rfl ?_;refine gQ rfl rfl rfl rfl ?_;refine GoE.store rfl rfl rfl rfl (dK 8191 21 (dK 8191 20 (dK 8191 19 (dK 8191 18 (dK 8191 17 (dK 8191 16 (dK 8191 15 (dK 8191 14 (dK 8191 13 (dD 8191 12 (dD 8191 11 (dD 8191 10 (dD 8191 1 (dD 8191 0 rfl)))))))))))))) rfl rfl f5 rfl sz4 rfl rfl rfl fun h95 u95 => ?_;replace f93 := f93.upd u95 (by omega);replace f8 := f8.upd u95 (by omega);replace f92 := f92.upd u95 (by omega);replace GF := GF.upd u95 (by omega);replace f6 := f6.upd u95 (by omega);replace f5 := u95.has f5;replace e9 := e9.upd u95 (by omega);clear e6;replace y0 := y0.upd u95 (by omega);refine ⟨(rck (h2 := h95) rfl (rfl) (rck (h2 := h95) rfl (kMT rfl rfl) (rck (h2 := h95) rfl (ld3 rfl f93 rfl) (rck (h2 := h95) rfl (fa57_2 rfl) (rck (h2 := h95) rfl (ld3 rfl f92 hgb) (rck (h2 := h95) rfl (aOp_indexAddr (i := o) Try.underlying47 sz3 rfl hq9 rfl (Nat.ble_eq_true_of_le (by omega))) (rck (h2 := h95) rfl (ld3 rfl f93 rfl) (rck (h2 := h95) rfl (fa57_0 rfl) (rck (h2 := h95) rfl (rfl) recheck_nil))))))))), ?_⟩;refine gQ rfl rfl rfl rfl ?_;refine GoE.end rfl ?_;refine Go.inBlock noJ_ok ?_;refine gR rfl ?_;refine gO rfl rfl (aA rfl rfl) rfl ?_;refine gP ?_;apply gE;exact again (m - 1) (i + 1) _ _ (by omega) ⟨rfl, rfl, rfl, rfl, rfl, by rw [hny]; rfl, rfl, rfl, rfl, trivial⟩ ⟨by omega, e9, y0, f8, f92, GF, by rw [hnx]; exact f5, f6⟩
   | true =>
    by_cases c2 : rm < wv
    ·rw [decide_eq_true ⟨c1, c2⟩, Bool.not_true] at hnx
     cases kv with
     | false =>
      rw [Bool.false_and] at hny;refine gQ rfl rfl rfl rfl ?_;refine gQ rfl rfl (fa57_0 rfl) rfl ?_;refine gQ rfl rfl (ld3 rfl f93 rfl) rfl ?_;refine gQ rfl rfl (aOp_indexAddr (i := o) Try.underlying47 sz3 rfl hq7 rfl (Nat.ble_eq_true_of_le (by omega))) rfl ?_;refine gQ rfl rfl (ld3 rfl f8 hga) rfl ?_;refine gQ rfl rfl (fa57_2 rfl) rfl ?_;refine gQ rfl rfl (ld3 rfl f93 rfl) rfl ?_;refine gQ rfl rfl (kMF rfl rfl) rfl ?_;iterate 3 refine gQ rfl rfl rfl rfl ?_
      iterate 8 refine GoE.skip rfl rfl rfl ?_
      refine gQ rfl rfl rfl rfl ?_;refine GoE.store rfl rfl rfl rfl (dK 8191 21 (dD 8191 12 (dD 8191 11 (dD 8191 10 (dD 8191 9 (dD 8191 8 (dD 8191 7 (dD 8191 6 (dD 8191 5 (dD 8191 4 (dD 8191 3 (dD 8191 2 (dD 8191 1 (dD 8191 0 rfl)))))))))))))) rfl rfl f5 rfl sz4 rfl rfl rfl fun h95 u95 => ?_;replace f93 := f93.upd u95 (by omega);replace f8 := f8.upd u95 (by omega);replace f92 := f92.upd u95 (by omega);replace GF := GF.upd u95 (by omega);replace f6 := f6.upd u95 (by omega);replace f5 := u95.has f5;replace e9 := e9.upd u95 (by omega);clear e6;replace y0 := y0.upd u95 (by omega);refine ⟨(rck (h2 := h95) rfl (rfl) recheck_nil), ?_⟩;refine gQ rfl rfl rfl rfl ?_;refine GoE.end rfl ?_;refine Go.inBlock noJ_ok ?_;refine gR rfl ?_;refine gO rfl rfl (aA rfl rfl) rfl ?_;refine gP ?_;apply gE;exact again (m - 1) (i + 1) _ _ (by omega) ⟨rfl, rfl, rfl, rfl, rfl, by rw [hny]; rfl, rfl, rfl, rfl, trivial⟩ ⟨by omega, e9, y0, f8, f92, GF, by rw [hnx]; exact f5, f6⟩
     | true =>
      by_cases c3 : rm < lw
      ·rw [decide_eq_true ⟨c1, c3⟩, Bool.not_true] at hny;refine gQ rfl rfl rfl rfl ?_;refine gQ rfl rfl (fa57_0 rfl) rfl ?_;refine gQ rfl rfl (ld3 rfl f93 rfl) rfl ?_;refine gQ rfl rfl (aOp_indexAddr (i := o) Try.underlying47 sz3 rfl hq7 rfl (Nat.ble_eq_true_of_le (by omega))) rfl ?_;refine gQ rfl rfl (ld3 rfl f8 hga) rfl ?_;refine gQ rfl rfl (fa57_2 rfl) rfl ?_;refine gQ rfl rfl (ld3 rfl f93 rfl) rfl ?_;refine gQ rfl rfl (kMF rfl rfl) rfl ?_;iterate 4 refine gQ rfl rfl rfl rfl ?_
       refine gQ rfl rfl (fa57_0 rfl) rfl ?_;refine gQ rfl rfl (ld3 rfl f93 rfl) rfl ?_;refine gQ rfl rfl (aOp_indexAddr (i := o) Try.underlying47 sz3 rfl hq9 rfl (Nat.ble_eq_true_of_le (by omega))) rfl ?_;refine gQ rfl rfl (ld3 rfl f92 hgb) rfl ?_;refine gQ rfl rfl (fa57_2 rfl) rfl ?_;refine gQ rfl rfl (ld3 rfl f93 rfl) rfl ?_;refine gQ rfl rfl (kMF rfl rfl) rfl ?_;refine gQ rfl rfl rfl rfl ?_;refine GoE.store rfl rfl rfl rfl (dK 8191 21 (dK 8191 20 (dK 8191 19 (dK 8191 18 (dK 8191 17 (dK 8191 16 (dK 8191 15 (dK 8191 14 (dK 8191 13 (dD 8191 12 (dD 8191 11 (dD 8191 10 (dD 8191 9 (dD 8191 8 (dD 8191 7 (dD 8191 6 (dD 8191 5 (dD 8191 4 (dD 8191 3 (dD 8191 2 (dD 8191 1 (dD 8191 0 rfl)))))))))))))))))))))) rfl rfl f5 rfl sz4 rfl rfl rfl fun h95 u95 => ?_;replace f93 := f93.upd u95 (by omega);replace f8 := f8.upd u95 (by omega);replace f92 := f92.upd u95 (by omega);replace GF := GF.upd u95 (by omega);replace f6 := f6.upd u95 (by omega);replace f5 := u95.has f5;replace e9 := e9.upd u95 (by omega);clear e6;replace y0 := y0.upd u95 (by omega);refine ⟨(rck (h2 := h95) rfl (rfl) (rck (h2 := h95) rfl (kMF rfl rfl) (rck (h2 := h95) rfl (ld3 rfl f93 rfl) (rck (h2 := h95) rfl (fa57_2 rfl) (rck (h2 := h95) rfl (ld3 rfl f92 hgb) (rck (h2 := h95) rfl (aOp_indexAddr (i := o) Try.underlying47 sz3 rfl hq9 rfl (Nat.ble_eq_true_of_le (by omega))) (rck (h2 := h95) rfl (ld3 rfl f93 rfl) (rck (h2 := h95) rfl (fa57_0 rfl) (rck (h2 := h95) rfl (rfl) recheck_nil))))))))), ?_⟩;refine gQ rfl rfl rfl rfl ?_;refine GoE.end rfl ?_;refine Go.inBlock noJ_ok ?_;refine gR rfl ?_;refine gO rfl rfl (aA rfl rfl) rfl ?_;refine gP ?_;apply gE;exact again (m - 1) (i + 1) _ _ (by omega) ⟨rfl, rfl, rfl, rfl, rfl, by rw [hny]; rfl, rfl, rfl, rfl, trivial⟩ ⟨by omega, e9, y0, f8, f92, GF, by rw [hnx]; exact f5, f6⟩
      ·rw [decide_eq_false (fun w => c3 w.2), Bool.not_false] at hny;refine gQ rfl rfl rfl rfl ?_;refine gQ rfl rfl (fa57_0 rfl) rfl ?_;refine gQ rfl rfl (ld3 rfl f93 rfl) rfl ?_;refine gQ rfl rfl (aOp_indexAddr (i := o) Try.underlying47 sz3 rfl hq7 rfl (Nat.ble_eq_true_of_le (by omega))) rfl ?_;refine gQ rfl rfl (ld3 rfl f8 hga) rfl ?_;refine gQ rfl rfl (fa57_2 rfl) rfl ?_;refine gQ rfl rfl (ld3 rfl f93 rfl) rfl ?_;refine gQ rfl rfl (kMF rfl rfl) rfl ?_;iterate 4 refine gQ rfl rfl rfl rfl ?_
       refine gQ rfl rfl (fa57_0 rfl) rfl ?_;refine gQ rfl rfl (ld3 rfl f93 rfl) rfl ?_;refine gQ rfl rfl (aOp_indexAddr (i := o) Try.underlying47 sz3 rfl hq9 rfl (Nat.ble_eq_true_of_le (by omega))) rfl ?_;refine gQ rfl rfl (ld3 rfl f92 hgb) rfl ?_;refine gQ rfl rfl (fa57_2 rfl) rfl ?_;refine gQ rfl rfl (ld3 rfl f93 rfl) rfl ?_;refine gQ rfl rfl (kMT rfl rfl) rfl ?_;refine gQ rfl rfl rfl rfl ?_;refine GoE.store rfl rfl rfl rfl (dK 8191 21 (dK 8191 20 (dK 8191 19 (dK 8191 18 (dK 8191 17 (dK 8191 16 (dK 8191 15 (dK 8191 14 (dK 8191 13 (dD 8191 12 (dD 8191 11 (dD 8191 10 (dD 8191 9 (dD 8191 8 (dD 8191 7 (dD 8191 6 (dD 8191 5 (dD 8191 4 (dD 8191 3 (dD 8191 2 (dD 8191 1 (dD 8191 0 rfl)))))))))))))))))))))) rfl rfl f5 rfl sz4 rfl rfl rfl fun h95 u95 => ?_;replace f93 := f93.upd u95 (by omega);replace f8 := f8.upd u95 (by omega);replace f92 := f92.upd u95 (by omega);replace GF := GF.upd u95 (by omega);replace f6 := f6.upd u95 (by omega);replace f5 := u95.has f5;replace e9 := e9.upd u95 (by omega);clear e6;replace y0 := y0.upd u95 (by omega);refine ⟨(rck (h2 := h95) rfl (rfl) (rck (h2 := h95) rfl (kMT rfl rfl) (rck (h2 := h95) rfl (ld3 rfl f93 rfl) (rck (h2 := h95) rfl (fa57_2 rfl) (rck (h2 := h95) rfl (ld3 rfl f92 hgb) (rck (h2 := h95) rfl (aOp_indexAddr (i := o) Try.underlying47 sz3 rfl hq9 rfl (Nat.ble_eq_true_of_le (by omega))) (rck (h2 := h95) rfl (ld3 rfl f93 rfl) (rck (h2 := h95) rfl (fa57_0 rfl) (rck (h2 := h95) rfl (rfl) recheck_nil))))))))), ?_⟩;refine gQ rfl rfl rfl rfl ?_;refine GoE.end rfl ?_;refine Go.inBlock noJ_ok ?_;refine gR rfl ?_;refine gO rfl rfl (aA rfl rfl) rfl ?_;refine gP ?_;apply gE;exact again (m - 1) (i + 1) _ _ (by omega) ⟨rfl, rfl, rfl, rfl, rfl, by rw [hny]; rfl, rfl, rfl, rfl, trivial⟩ ⟨by omega, e9, y0, f8, f92, GF, by rw [hnx]; exact f5, f6⟩
    ·rw [decide_eq_false (fun w => c2 w.2), Bool.not_false] at hnx
     cases kv with
     | false =>
      rw [Bool.false_and] at hny;refine gQ rfl rfl rfl rfl ?_;refine gQ rfl rfl (fa57_0 rfl) rfl ?_;refine gQ rfl rfl (ld3 rfl f93 rfl) rfl ?_;refine gQ rfl rfl (aOp_indexAddr (i := o) Try.underlying47 sz3 rfl hq7 rfl (Nat.ble_eq_true_of_le (by omega))) rfl ?_;refine gQ rfl rfl (ld3 rfl f8 hga) rfl ?_;refine gQ rfl rfl (fa57_2 rfl) rfl ?_;refine gQ rfl rfl (ld3 rfl f93 rfl) rfl ?_;refine gQ rfl rfl (kMT rfl rfl) rfl ?_;iterate 3 refine gQ rfl rfl rfl rfl ?_
      iterate 8 refine GoE.skip rfl rfl rfl ?_
      refine gQ rfl rfl rfl rfl ?_;refine GoE.store rfl rfl rfl rfl (dK 8191 21 (dD 8191 12 (dD 8191 11 (dD 8191 10 (dD 8191 9 (dD 8191 8 (dD 8191 7 (dD 8191 6 (dD 8191 5 (dD 8191 4 (dD 8191 3 (dD 8191 2 (dD 8191 1 (dD 8191 0 rfl)))))))))))))) rfl rfl f5 rfl sz4 rfl rfl rfl fun h95 u95 => ?_;replace f93 := f93.upd u95 (by omega);replace f8 := f8.upd u95 (by omega);replace f92 := f92.upd u95 (by omega);replace GF := GF.upd u95 (by omega);replace f6 := f6.upd u95 (by omega);replace f5 := u95.has f5;replace e9 := e9.upd u95 (by omega);clear e6;replace y0 := y0.upd u95 (by omega);refine ⟨(rck (h2 := h95) rfl (rfl) recheck_nil), ?_⟩;refine gQ rfl rfl rfl rfl ?_;refine GoE.end rfl ?_;refine Go.inBlock noJ_ok ?_;refine gR rfl ?_;refine gO rfl rfl (aA rfl rfl) rfl ?_;refine gP ?_;apply gE;exact again (m - 1) (i + 1) _ _ (by omega) ⟨rfl, rfl, rfl, rfl, rfl, by rw [hny]; rfl, rfl, rfl, rfl, trivial⟩ ⟨by omega, e9, y0, f8, f92, GF, by rw [hnx]; exact f5, f6⟩
     | true =>
      by_cases c3 : rm < lw
      ·rw [decide_eq_true ⟨c1, c3⟩, Bool.not_true] at hny;refine gQ rfl rfl rfl rfl ?_;refine gQ rfl rfl (fa57_0 rfl) rfl ?_;refine gQ rfl rfl (ld3 rfl f93 rfl) rfl ?_;refine gQ rfl rfl (aOp_indexAddr (i := o) Try.underlying47 sz3 rfl hq7 rfl (Nat.ble_eq_true_of_le (by omega))) rfl ?_;refine gQ rfl rfl (ld3 rfl f8 hga) rfl ?_;refine gQ rfl rfl (fa57_2 rfl) rfl ?_;refine gQ rfl rfl (ld3 rfl f93 rfl) rfl ?_;refine gQ rfl rfl (kMT rfl rfl) rfl ?_;iterate 4 refine gQ rfl rfl rfl rfl ?_
       refine gQ rfl rfl (fa57_0 rfl) rfl ?_;refine gQ rfl rfl (ld3 rfl f93 rfl) rfl ?_;refine gQ rfl rfl (aOp_indexAddr (i := o) Try.underlying47 sz3 rfl hq9 rfl (Nat.ble_eq_true_of_le (by omega))) rfl ?_;refine gQ rfl rfl (ld3 rfl f92 hgb) rfl ?_;refine gQ rfl rfl (fa57_2 rfl) rfl ?_;refine gQ rfl rfl (ld3 rfl f93 rfl) rfl ?_;refine gQ rfl rfl (kMF rfl rfl) rfl ?_;refine gQ rfl rfl rfl rfl ?_;refine GoE.store rfl rfl rfl rfl (dK 8191 21 (dK 8191 20 (dK 8191 19 (dK 8191 18 (dK 8191 17 (dK 8191 16 (dK 8191 15 (dK 8191 14 (dK 8191 13 (dD 8191 12 (dD 8191 11 (dD 8191 10 (dD 8191 9 (dD 8191 8 (dD 8191 7 (dD 8191 6 (dD 8191 5 (dD 8191 4 (dD 8191 3 (dD 8191 2 (dD 8191 1 (dD 8191 0 rfl)))))))))))))))))))))) rfl rfl f5 rfl sz4 rfl rfl rfl fun h95 u95 => ?_;replace f93 := f93.upd u95 (by omega);replace f8 := f8.upd u95 (by omega);replace f92 := f92.upd u95 (by omega);replace GF := GF.upd u95 (by omega);replace f6 := f6.upd u95 (by omega);replace f5 := u95.has f5;replace e9 := e9.upd u95 (by omega);clear e6;replace y0 := y0.upd u95 (by omega);refine ⟨(rck (h2 := h95) rfl (rfl) (rck (h2 := h95) rfl (kMF rfl rfl) (rck (h2 := h95) rfl (ld3 rfl f93 rfl) (rck (h2 := h95) rfl (fa57_2 rfl) (rck (h2 := h95) rfl (ld3 rfl f92 hgb) (rck (h2 := h95) rfl (aOp_indexAddr (i := o) Try.underlying47 sz3 rfl hq9 rfl (Nat.ble_eq_true_of_le (by omega))) (rck (h2 := h95) rfl (ld3 rfl f93 rfl) (rck (h2 := h95) rfl (fa57_0 rfl) (rck (h2 := h95) rfl (rfl) recheck_nil))))))))), ?_⟩;refine gQ rfl rfl rfl rfl ?_;refine GoE.end rfl ?_;refine Go.inBlock noJ_ok ?_;refine gR rfl ?_;refine gO rfl rfl (aA rfl rfl) rfl ?_;refine gP ?_;apply gE;exact again (m - 1) (i + 1) _ _ (by omega) ⟨rfl, rfl, rfl, rfl, rfl, by rw [hny]; rfl, rfl, rfl, rfl, trivial⟩ ⟨by omega, e9, y0, f8, f92, GF, by rw [hnx]; exact f5, f6⟩
      ·rw [decide_eq_false (fun w => c3 w.2), Bool.not_false] at hny;refine gQ rfl rfl rfl rfl ?_;refine gQ rfl rfl (fa57_0 rfl) rfl ?_;refine gQ rfl rfl (ld3 rfl f93 rfl) rfl ?_;refine gQ rfl rfl (aOp_indexAddr (i := o) Try.underlying47 sz3 rfl hq7 rfl (Nat.ble_eq_true_of_le (by omega))) rfl ?_;refine gQ rfl rfl (ld3 rfl f8 hga) rfl ?_;refine gQ rfl rfl (fa57_2 rfl) rfl ?_;refine gQ rfl rfl (ld3 rfl f93 rfl) rfl ?_;refine gQ rfl rfl (kMT rfl rfl) rfl ?_;iterate 4 refine gQ rfl rfl rfl rfl ?_
       refine gQ rfl rfl (fa57_0 rfl) rfl ?_;refine gQ rfl rfl (ld3 rfl f93 rfl) rfl ?_;refine gQ rfl rfl (aOp_indexAddr (i := o) Try.underlying47 sz3 rfl hq9 rfl (Nat.ble_eq_true_of_le (by omega))) rfl ?_;refine gQ rfl rfl (ld3 rfl f92 hgb) rfl ?_;refine gQ rfl rfl (fa57_2 rfl) rfl ?_;refine gQ rfl rfl (ld3 rfl f93 rfl) rfl ?_;refine gQ rfl rfl (kMT rfl rfl) rfl ?_;refine gQ rfl rfl rfl rfl ?_;refine GoE.store rfl rfl rfl rfl (dK 8191 21 (dK 8191 20 (dK 8191 19 (dK 8191 18 (dK 8191 17 (dK 8191 16 (dK 8191 15 (dK 8191 14 (dK 8191 13 (dD 8191 12 (dD 8191 11 (dD 8191 10 (dD 8191 9 (dD 8191 8 (dD 8191 7 (dD 8191 6 (dD 8191 5 (dD 8191 4 (dD 8191 3 (dD 8191 2 (dD 8191 1 (dD 8191 0 rfl)))))))))))))))))))))) rfl rfl f5 rfl sz4 rfl rfl rfl fun h95 u95 => ?_;replace f93 := f93.upd u95 (by omega);replace f8 := f8.upd u95 (by omega);replace f92 := f92.upd u95 (by omega);replace GF := GF.upd u95 (by omega);replace f6 := f6.upd u95 (by omega);replace f5 := u95.has f5;replace e9 := e9.upd u95 (by omega);clear e6;replace y0 := y0.upd u95 (by omega);refine ⟨(rck (h2 := h95) rfl (rfl) (rck (h2 := h95) rfl (kMT rfl rfl) (rck (h2 := h95) rfl (ld3 rfl f93 rfl) (rck (h2 := h95) rfl (fa57_2 rfl) (rck (h2 := h95) rfl (ld3 rfl f92 hgb) (rck (h2 := h95) rfl (aOp_indexAddr (i := o) Try.underlying47 sz3 rfl hq9 rfl (Nat.ble_eq_true_of_le (by omega))) (rck (h2 := h95) rfl (ld3 rfl f93 rfl) (rck (h2 := h95) rfl (fa57_0 rfl) (rck (h2 := h95) rfl (rfl) recheck_nil))))))))), ?_⟩;refine gQ rfl rfl rfl rfl ?_;refine GoE.end rfl ?_;refine Go.inBlock noJ_ok ?_;refine gR rfl ?_;refine gO rfl rfl (aA rfl rfl) rfl ?_;refine gP ?_;apply gE;exact again (m - 1) (i + 1) _ _ (by omega) ⟨rfl, rfl, rfl, rfl, rfl, by rw [hny]; rfl, rfl, rfl, rfl, trivial⟩ ⟨by omega, e9, y0, f8, f92, GF, by rw [hnx]; exact f5, f6⟩
  ·have hsx : sgn D.bs.length (nx (D.course 0 l) o) ≠ (t : Int) := by
    unfold sgn
    split <;> omega
   obtain ⟨sx, hsx2⟩ : ∃ z, sgn D.bs.length (nx (D.course 0 l) o) = z := ⟨_, rfl⟩
   rw [hsx2] at t2 hsx;rw [decide_eq_false (fun w => c1 w.1), Bool.not_false, Bool.and_true] at hnx hny;apply gS;refine gR rfl ?_;refine gO rfl rfl (kLT rfl rfl) rfl ?_;apply gE;apply gS;refine gC (b := true) rfl ?_;refine gD ?_;apply gS;refine Go.block noJ_ok ?_;apply gS;refine gR rfl ?_;refine gO rfl rfl (aOp_indexAddr (i := i) Try.underlying27 sz57 rfl u1 rfl (Nat.ble_eq_true_of_le hi)) rfl ?_;refine gO rfl rfl (aOp_loadE ag57 sz57 rfl (u2.ext e9)) rfl ?_;refine GoR.alloc rfl rfl rfl zt57 rfl rfl fun h93 x93 f93 => ?_;have := e9.1;have := e6.1;have := f8.1;have := f92.1
   have := GF.1
   have := f6.1;have := f5.1;replace f8 := f8.ext x93;replace f92 := f92.ext x93;replace GF := GF.ext x93;replace f6 := f6.ext x93;replace f5 := f5.ext x93;replace e9 := e9.trans x93;replace e6 := e6.trans x93;replace y0 := y0.ext x93;have := f93.1;refine GoR.store rfl rfl rfl rfl rfl rfl f93 rfl sz57 rfl rfl rfl fun h94 u94 => ?_;replace f93 := u94.has f93;replace f8 := f8.upd u94 (by omega);replace f92 := f92.upd u94 (by omega);replace GF := GF.upd u94 (by omega);replace f6 := f6.upd u94 (by omega);replace f5 := f5.upd u94 (by omega);replace e9 := e9.upd u94 (by omega);replace e6 := e6.upd u94 (by omega);replace y0 := y0.upd u94 (.inr (by omega));apply gE;apply gS;refine Go.drawnE plan32_1 ?_;refine gQ rfl rfl rfl rfl ?_;refine gQ rfl rfl (fa57_0 rfl) rfl ?_;refine gQ rfl rfl (ld3 rfl f93 rfl) rfl ?_;refine gQ rfl rfl (aOp_indexAddr (i := o) Try.underlying47 sz3 rfl t1 rfl (Nat.ble_eq_true_of_le (by omega))) rfl ?_;refine gQ rfl rfl ((aOp_loadE1 (k := 0) ag3 rfl (t2.ext e6) rfl)) rfl ?_;refine gQ rfl rfl (fa57_1 rfl) rfl ?_;refine gQ rfl rfl (ld3 rfl f93 rfl) rfl ?_;refine gQ rfl rfl (kEF rfl rfl) rfl ?_;refine GoE.end rfl ?_;refine gC (b := false) rfl ?_;refine gD ?_;refine Go.inBlock noJ_ok ?_;refine gR rfl ?_;refine gO rfl rfl (aA rfl rfl) rfl ?_;refine gP ?_;apply gE;exact again (m - 1) (i + 1) _ _ (by omega) ⟨rfl, rfl, rfl, rfl, rfl, by rw [hny]; rfl, rfl, rfl, rfl, trivial⟩ ⟨by omega, e9, y0, f8, f92, GF, by rw [hnx]; exact f5, f6⟩
 ·clear again
  have hfin1 : (v && (D.rs.take i).all fun r => !(D.can (D.course 0 l) r)) = (v && okR D 0 l) := by
   rw [List.take_of_length_le (by omega)]
   unfold okR
   rw [← any_not]
   simp
  rw [hfin1] at f5
  have hfin2 : ((D.rs.take i).all fun r => !(D.must (D.course 0 l) r)) = !(D.rs.any (D.must (D.course 0 l))) := by
   rw [List.take_of_length_le (by omega), List.not_any_eq_all_not]
  rw [hfin2]
  obtain ⟨mu, hmu⟩ : ∃ z, D.rs.any (D.must (D.course 0 l)) = z := ⟨_, rfl⟩
  rw [hmu]
  cases w with
  | false =>
   apply gS;refine gR rfl ?_;refine gO rfl rfl (kLF rfl rfl) rfl ?_;apply gE;apply gS;refine gC (b := false) rfl ?_;refine gD ?_;refine gR rfl ?_;refine gO rfl rfl (ld4 rfl f6 rfl) rfl ?_;refine gP ?_;iterate 2 refine GoR.skip rfl rfl rfl ?_
   refine gP ?_;refine GoR.store rfl rfl rfl rfl rfl rfl f6 rfl sz4 rfl rfl rfl fun h93 u93 => ?_;replace GF := GF.upd u93 (by omega);replace f5 := f5.upd u93 (by omega);replace f6 := u93.has f6;replace y0 := y0.upd u93 (by omega);apply gE;exact Go.endL (FLeft.ret (v := .tuple []) (aResult_of Try.func32 rfl rfl) ⟨rfl, y0, f5, f6⟩)
  | true =>
   cases mu with
   | false =>
    apply gS;refine gR rfl ?_;refine gO rfl rfl (kLF rfl rfl) rfl ?_;apply gE;apply gS;refine gC (b := false) rfl ?_;refine gD ?_;refine gR rfl ?_;refine gO rfl rfl (ld4 rfl f6 rfl) rfl ?_;iterate 4 refine gP ?_
    refine GoR.store rfl rfl rfl rfl rfl rfl f6 rfl sz4 rfl rfl rfl fun h93 u93 => ?_;replace GF := GF.upd u93 (by omega);replace f5 := f5.upd u93 (by omega);replace f6 := u93.has f6;replace y0 := y0.upd u93 (by omega);apply gE;exact Go.endL (FLeft.ret (v := .tuple []) (aResult_of Try.func32 rfl rfl) ⟨rfl, y0, f5, f6⟩)
   | true =>
    apply gS;refine gR rfl ?_;refine gO rfl rfl (kLF rfl rfl) rfl ?_;apply gE;apply gS;refine gC (b := false) rfl ?_;refine gD ?_;refine gR rfl ?_;refine gO rfl rfl (ld4 rfl f6 rfl) rfl ?_;iterate 4 refine gP ?_
    refine GoR.store rfl rfl rfl rfl rfl rfl f6 rfl sz4 rfl rfl rfl fun h93 u93 => ?_;replace GF := GF.upd u93 (by omega);replace f5 := f5.upd u93 (by omega);replace f6 := u93.has f6;replace y0 := y0.upd u93 (by omega);apply gE;exact Go.endL (FLeft.ret (v := .tuple []) (aResult_of Try.func32 rfl rfl) ⟨rfl, y0, f5, f6⟩)
end Go.Proofs.Ytkhiagdmbajimaa
