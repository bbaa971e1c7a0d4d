import Derived.Test.YtkhiagdmbajimaaMAQ
import Derived.Test.YtkhiagdmbajimaaMAH
import Derived.KernelRfl
namespace Go.Proofs.Ytkhiagdmbajimaa
open Go Go.AbsE
set_option linter.unusedSimpArgs false
set_option maxRecDepth 100000
set_option maxHeartbeats 0
set_option linter.unusedVariables false
theorem ext_le {h h1 : AH} (e : Ext h h1) : h.next ≤ h1.next := e.1
theorem copy_ext {h h1 : AH} {lo : Nat} (n : h.next ≤ h1.next) (s : ∀ c, c < lo → h1.get c = h.get c) : ExtF (fun c => lo ≤ c) h h1 := ⟨n, fun b _ hn => s b (by omega)⟩
theorem ints_slice {h : AH} {el : TypeId} {lo : Nat} {s : AVal} {l : List Int} {n : Nat} (hn : l.length = n) (G : Grow h el 1 lo s n (i64s l)) : SliceOf h 1 s (l.map fun x => [AVal.int .i64 x]) := nums_sl hn G
structure Pre (D : DrainV) (p : List Int) : Prop where
 le : p.length ≤ D.bs.length
 va : ∀ (i : Nat) (b : BkV) (x : Int), D.bs[i]? = some b → p[i]? = some x → b.ll ≤ x ∧ x ≤ b.lh
theorem Pre.nil (D : DrainV) : Pre D [] := ⟨by simp, fun i b x _ h => by cases h⟩
theorem Pre.snoc {D : DrainV} {p : List Int} (k : Pre D p) {b : BkV} (hb : D.bs[p.length]? = some b) {x : Int} (hx : b.ll ≤ x ∧ x ≤ b.lh) : Pre D (p ++ [x]) := by
 have hl := (List.getElem?_eq_some_iff.1 hb).1
 refine ⟨by rw [List.length_append]; simp; omega, fun i b' y h1 h2 => ?_⟩
 by_cases hi : i < p.length
 ·rw [List.getElem?_append_left hi] at h2;exact k.va i b' y h1 h2
 ·rw [List.getElem?_append_right (by omega)] at h2
  have h3 := (List.getElem?_eq_some_iff.1 h2).1
  have hip : i = p.length := by simp at h3; omega
  subst hip;rw [Nat.sub_self] at h2;cases h2;rw [hb] at h1;cases h1;exact hx
theorem Pre.full {D : DrainV} {p : List Int} (k : Pre D p) (h : p.length = D.bs.length) : p ∈ levsV D.bs := mem_levs h k.va
theorem take_one {l p : List Int} {n : Nat} (hn : p.length < n) (hl : l.length = n) {x : Int} : l.take (p.length + 1) = p ++ [x] ↔ l.take p.length = p ∧ lv l p.length = x := by
 have hg : l[p.length]? = some (lv l p.length) := by unfold lv; simp [hl, hn]
 rw [List.take_add_one, hg, Option.toList_some]
 constructor
 ·intro q
  have := List.append_inj q (by rw [List.length_take]; omega)
  exact ⟨this.1, by injection this.2⟩
 ·rintro ⟨h1, h2⟩;rw [h1, h2]
theorem courses26_e {D : DrainV} (O : D.Ok) {b d r s ls : AVal} {l : List Int} (hl : l.length = D.bs.length) {st : Nat} {h : AH} (A : DrainAt h D b d r s) (S : SliceOf h 1 ls (l.map fun x => [AVal.int .i64 x])) :
  Runs Try.prog 26 [.agg (dC b d r s), ls, .int .i64 (st : Nat)] h (fun en h' => ∃ sl, en = .ret sl ∧ Ext h h' ∧ Grow h' 3 1 h.next sl D.bs.length (i64s (sgnC (D.course st l))) ∧ Ext h' h') :=
 (courses26_ok O hl A S).mono fun en h' ⟨sl, q, e, G⟩ => ⟨sl, q, e, G, Ext.refl h'⟩
theorem take_full {D : DrainV} {p l : List Int} (hp : p.length + 0 = D.bs.length) (hl : l ∈ D.truths) (h : l.take p.length = p) : l = p := by
 have := levs_len (List.mem_filter.1 hl).1
 rw [List.take_of_length_le (by omega)] at h;exact h
section
variable {D : DrainV} {b d r s : AVal} {g : AH} {F : FuncId} {fF : Func} {caps : List AVal} {S : Nat → Prop} {Inv : List (List Int) → AH → Prop} {B2 B3 B4 : Nat}
theorem on65_ok (O : D.Ok) (A : DrainAt g D b d r s) (hF : aFunc Try.prog F = some fF) (hS : ∀ x, S x → g.next ≤ x) (hB : (g.next ≤ B2 ∧ ¬ S B2) ∧ (g.next ≤ B3 ∧ ¬ S B3) ∧ (g.next ≤ B4 ∧ ¬ S B4))
  (keep : ∀ V h h', Inv V h → Ext h h' → Inv V h')
  (step : ∀ V l sl h', Ext g h' → l ∈ D.truths → Inv V h' → SliceOf h' 1 sl (l.map fun x => [AVal.int .i64 x]) → Runs Try.prog F ([sl] ++ caps) h' (fun en h'' => en = .ret (.tuple []) ∧ ExtF S h' h'' ∧ Inv (V ++ [l]) h'')) :
  ∀ (N : Nat) {p : List Int} (hp : p.length + N = D.bs.length) (P : Pre D p) {V : List (List Int)} {sl : AVal} {h : AH} (e9 : Ext g h) (f2 : Has h B2 (.cells .plain [b, d, r, s] 29)) (f3 : Has h B3 (.cells .plain [.func (.func F) [] caps] 62)) (f4 : Has h B4 (.cells .plain [.func (.func 65) [] [.ptr B2 0, .ptr B4 0, .ptr B3 0]] 62)) (hSl : ∀ x, S x → x < h.next) (I : Inv V h) (SpK : ∀ h', ExtF S h h' → SliceOf h' 1 sl (p.map fun x => [AVal.int .i64 x])),
   Runs Try.prog 65 [sl, .ptr B2 0, .ptr B4 0, .ptr B3 0] h (fun en h' => en = .ret (.tuple []) ∧ ExtF S h h' ∧ ∃ V', Inv (V ++ V') h' ∧ ∀ l, l ∈ V' ↔ (l ∈ D.truths ∧ l.take p.length = p)) := by
 have hnb := O.nb
 have hns := O.ns
 have hl1 := A.bs.len
 have hl4 := A.ss.len
 rw [List.length_map] at hl1 hl4
 have hsm := A.same
 intro N
 induction N with
 | zero =>
  intro p hp P V sl h e9 f2 f3 f4 hSl I SpK
  have Sp := SpK h (ExtF.of (Ext.refl _))
  have hsl := Sp.len
  rw [List.length_map] at hsl
  have hsms := Sp.same
  have hco := fun h' e e' => courses26_e O (b := b) (d := d) (r := r) (s := s) (ls := sl) (l := p) (by omega) (st := 0) (h := h') (A.ext e) (Sp.ext e')
  have e8 : Ext h h := Ext.refl _
  have hmem := P.full (by omega)
  unfold dC at *
  refine Runs.intro aFunc65 rfl rfl rfl rfl fun rest => ?_;iterate 2 apply gS
  refine gR rfl ?_;refine gP ?_;refine gO rfl rfl (aOp_lenSlice Try.underlying47 rfl hsl) rfl ?_;refine gP ?_;apply gE;apply gS;refine gR rfl ?_;refine gP ?_;refine gO rfl rfl (fa29_0 rfl) rfl ?_;refine gO rfl rfl (ld25 rfl f2 rfl) rfl ?_;refine gO rfl rfl (aOp_lenSlice Try.underlying25 rfl hl1) rfl ?_;refine gO rfl rfl (kLF rfl rfl) rfl ?_;apply gE;refine gC (b := false) rfl ?_;refine gD ?_;apply gS;refine gR rfl ?_;refine gO rfl rfl (ld29 rfl f2 rfl) rfl ?_;refine gP ?_;refine GoR.call rfl rfl (aCF aFunc26 rfl) (hco _ e9 e8) ?_ (by rintro _ _ ⟨sn, q, _, GN, e7⟩; cases q);rintro v5 h5 ⟨sn, q, x5, GN, e7⟩;cases q;refine ⟨_, rfl, ?_⟩;have := e9.1;have := e8.1;replace f2 := f2.ext x5;replace f3 := f3.ext x5;replace f4 := f4.ext x5;replace e9 := e9.trans x5;replace e8 := e8.trans x5;refine gP ?_;apply gE;iterate 2 apply gS
  refine gR rfl ?_;refine gO rfl rfl (fa29_3 rfl) rfl ?_;refine gO rfl rfl (ld26 rfl f2 rfl) rfl ?_;refine gO rfl rfl (aOp_lenSlice Try.underlying26 rfl hl4) rfl ?_;refine gP ?_;apply gE;refine Go.block noJ_ok ?_
  have hcl := course_len D 0 p
  have hsgl : (sgnC (D.course 0 p)).length = D.bs.length := by unfold sgnC; rw [List.length_map, hcl]
  refine Go.loopKeep (fun i : Nat => [(0, sl), (1, .ptr B2 0), (2, .ptr B4 0), (3, .ptr B3 0), (7, v5), (47, s), (48, .int .i64 D.ss.length), (49, .int .i64 (i : Nat))])
   (fun m i h' => m + i = D.ss.length ∧ Ext g h' ∧ Ext h h' ∧ Ext h5 h' ∧ Has h' B3 (.cells .plain [.func (.func F) [] caps] 62) ∧ ∀ w, w ∈ D.ss.take i → (nx (D.course 0 p) w.1.toNat : Int) = w.2) (n := D.ss.length) 0 ⟨rfl, rfl, rfl, rfl, rfl, rfl, rfl, rfl, trivial⟩ ⟨rfl, e9, e8, e7, f3, fun w hw => by simp at hw⟩ ?_
  have hgn := ints_slice hsgl GN
  clear e9 e8 e7 f2 f3 f4;rintro m i h30 ⟨hm, e9, e8, e7, f3, hall⟩ again
  have he8 := e8.1
  by_cases hi : i < D.ss.length
  ·obtain ⟨⟨xa, xb⟩, hx⟩ : ∃ x, D.ss[i]? = some x := ⟨D.ss[i], by simp [hi]⟩
   have hxo := O.s _ (List.mem_of_getElem? hx)
   unfold PairOk at hxo
   dsimp only at hxo
   obtain ⟨a, rfl⟩ := Int.eq_ofNat_of_zero_le hxo.1.1
   obtain ⟨bq, off, q1, q2⟩ := A.ss.at (i := i) (l := spC ((a : Int), xb)) (by rw [List.getElem?_map, hx]; rfl)
   rw [List.length_map] at q1
   unfold spC at q2
   dsimp only at q2
   have hsa : (sgnC (D.course 0 p))[a]? = some (sgn D.bs.length (nx (D.course 0 p) a)) := by
    unfold sgnC
    rw [List.getElem?_map, hcl]
    have : (D.course 0 p)[a]? = some (nx (D.course 0 p) a) := by unfold nx; simp [hcl, show a < D.bs.length by omega]
    rw [this]
    rfl
   obtain ⟨bt, ot, t1, t2⟩ := hgn.at (i := a) (l := [.int .i64 (sgn D.bs.length (nx (D.course 0 p) a))]) (by rw [List.getElem?_map, hsa]; rfl)
   rw [List.length_map, hsgl] at t1
   have hdn := course_down O hmem 0
   have hle := hdn.le a (by omega)
   rw [hcl] at hle
   by_cases c1 : ((nx (D.course 0 p) a : Nat) : Int) = xb
   ·have hsx : sgn D.bs.length (nx (D.course 0 p) a) = xb := by rw [sgn_lt (by omega)]; exact c1
    rw [hsx] at t2;apply gS;refine gR rfl ?_;refine gO rfl rfl (kLT rfl rfl) rfl ?_;apply gE;apply gS;refine gC (b := true) rfl ?_;refine gD ?_;apply gS;refine Go.block noJ_ok ?_;apply gS;refine gR rfl ?_;refine gO rfl rfl (aOp_indexAddr (i := i) Try.underlying26 sz32 rfl q1 rfl (Nat.ble_eq_true_of_le hi)) rfl ?_;refine gO rfl rfl (aOp_loadE ag32 sz32 rfl (q2.ext e9)) rfl ?_;refine GoR.alloc rfl rfl rfl zt32 rfl rfl fun h31 x31 f31 => ?_;have := e9.1;have := e8.1;have := e7.1;have := f3.1;replace f3 := f3.ext x31;replace e9 := e9.trans x31;replace e8 := e8.trans x31;replace e7 := e7.trans x31;have := f31.1;refine GoR.store rfl rfl rfl rfl rfl rfl f31 rfl sz32 rfl rfl rfl fun h32 u32 => ?_;replace f31 := u32.has f31;replace f3 := f3.upd u32 (by omega);replace e9 := e9.upd u32 (by omega);replace e8 := e8.upd u32 (by omega);replace e7 := e7.upd u32 (by omega);apply gE;apply gS;refine Go.drawnE plan65_1 ?_;refine gQ rfl rfl rfl rfl ?_;refine gQ rfl rfl (fa32_0 rfl) rfl ?_;refine gQ rfl rfl (ld3 rfl f31 rfl) rfl ?_;refine gQ rfl rfl (aOp_indexAddr (i := a) Try.underlying47 sz3 rfl t1 rfl (Nat.ble_eq_true_of_le (by omega))) rfl ?_;refine gQ rfl rfl ((aOp_loadE1 (k := 0) ag3 rfl (t2.ext e7) rfl)) rfl ?_;refine gQ rfl rfl (fa32_1 rfl) rfl ?_;refine gQ rfl rfl (ld3 rfl f31 rfl) rfl ?_;refine gQ rfl rfl (kXF rfl rfl) rfl ?_;refine GoE.end rfl ?_;refine gC (b := false) rfl ?_;refine gD ?_;refine Go.inBlock noJ_ok ?_;refine gR rfl ?_;refine gO rfl rfl (aA rfl rfl) rfl ?_;refine gP ?_;apply gE;refine again (m - 1) (i + 1) _ _ (by omega) ⟨rfl, rfl, rfl, rfl, rfl, rfl, rfl, rfl, trivial⟩ ⟨by omega, e9, e8, e7, f3, fun w hw => ?_⟩;rw [List.take_add_one, hx, Option.toList_some, List.mem_append, List.mem_singleton] at hw
    rcases hw with hw | rfl
    ·exact hall w hw
    ·dsimp only
     rw [Int.toNat_natCast];exact c1
   ·have hsx : sgn D.bs.length (nx (D.course 0 p) a) ≠ xb := by
     unfold sgn
     split <;> omega
    obtain ⟨sx, hsx2⟩ : ∃ z, sgn D.bs.length (nx (D.course 0 p) a) = z := ⟨_, rfl⟩
    rw [hsx2] at t2 hsx
    have hbad : ¬ p ∈ D.truths := fun q => by
     have h1 := (List.mem_filter.1 q).2
     unfold DrainV.okSeen at h1
     rw [only_all, List.all_eq_true] at h1
     have h2 := of_decide_eq_true (h1 _ (List.mem_of_getElem? hx))
     dsimp only at h2
     rw [Int.toNat_natCast] at h2;exact c1 h2
    apply gS;refine gR rfl ?_;refine gO rfl rfl (kLT rfl rfl) rfl ?_;apply gE;apply gS;refine gC (b := true) rfl ?_;refine gD ?_;apply gS;refine Go.block noJ_ok ?_;apply gS;refine gR rfl ?_;refine gO rfl rfl (aOp_indexAddr (i := i) Try.underlying26 sz32 rfl q1 rfl (Nat.ble_eq_true_of_le hi)) rfl ?_;refine gO rfl rfl (aOp_loadE ag32 sz32 rfl (q2.ext e9)) rfl ?_;refine GoR.alloc rfl rfl rfl zt32 rfl rfl fun h31 x31 f31 => ?_;have := e9.1;have := e8.1;have := e7.1;have := f3.1;replace e8 := e8.trans x31;replace e7 := e7.trans x31;have := f31.1;refine GoR.store rfl rfl rfl rfl rfl rfl f31 rfl sz32 rfl rfl rfl fun h32 u32 => ?_;replace f31 := u32.has f31;replace e8 := e8.upd u32 (by omega);replace e7 := e7.upd u32 (by omega);apply gE;apply gS;refine Go.drawnE plan65_1 ?_;refine gQ rfl rfl rfl rfl ?_;refine gQ rfl rfl (fa32_0 rfl) rfl ?_;refine gQ rfl rfl (ld3 rfl f31 rfl) rfl ?_;refine gQ rfl rfl (aOp_indexAddr (i := a) Try.underlying47 sz3 rfl t1 rfl (Nat.ble_eq_true_of_le (by omega))) rfl ?_;refine gQ rfl rfl ((aOp_loadE1 (k := 0) ag3 rfl (t2.ext e7) rfl)) rfl ?_;refine gQ rfl rfl (fa32_1 rfl) rfl ?_;refine gQ rfl rfl (ld3 rfl f31 rfl) rfl ?_;refine gQ rfl rfl (kXT rfl rfl) rfl ?_;refine GoE.end rfl ?_;refine gC (b := true) rfl ?_;exact gV (ret_end (aResult_of Try.func65 rfl rfl) ⟨rfl, ExtF.of e8, [], by rw [List.append_nil]; exact keep _ _ _ I e8, fun l => ⟨fun q => (by cases q), fun q => absurd (take_full hp q.1 q.2 ▸ q.1) hbad⟩⟩)
  ·rw [List.take_of_length_le (by omega)] at hall
   have hok : p ∈ D.truths := by
    refine List.mem_filter.2 ⟨hmem, ?_⟩
    unfold DrainV.okSeen
    rw [only_all, List.all_eq_true];exact fun w hw => decide_eq_true (hall w hw)
   have hst := fun h' e e' => step V p sl h' e hok (keep _ _ _ I e') (Sp.ext e')
   clear again;apply gS;refine gR rfl ?_;refine gO rfl rfl (kLF rfl rfl) rfl ?_;apply gE;apply gS;refine gC (b := false) rfl ?_;refine gD ?_;refine gR rfl ?_;refine gO rfl rfl (ld62 rfl f3 rfl) rfl ?_;refine gP ?_;refine GoR.call rfl rfl (aOp_callVal rfl hF rfl) (hst _ e9 e8) ?_ np;rintro v40 h40 ⟨q, x40, I'⟩;cases q;refine ⟨_, rfl, ?_⟩
   have z40 : ExtF S h h40 := (ExtF.of e8).trans (fun b q => .inl q) x40
   clear e9 e8 e7 f3 x40;apply gE;exact Go.endL (FLeft.ret (v := .tuple []) (aResult_of Try.func65 rfl rfl) ⟨rfl, z40, [p], I', fun l => ⟨fun q => by rw [List.mem_singleton.1 q]; exact ⟨hok, List.take_length⟩, fun q => List.mem_singleton.2 (take_full hp q.1 q.2)⟩⟩)
 | succ N IH =>
  intro p hp P V sl h e9 f2 f3 f4 hSl I SpK
  have Sp := SpK h (ExtF.of (Ext.refl _))
  have hsl := Sp.len
  rw [List.length_map] at hsl
  have hsms := Sp.same
  obtain ⟨x, hx⟩ : ∃ x, D.bs[p.length]? = some x := ⟨D.bs[p.length]'(by omega), by simp⟩
  have hxo := (O.b x (List.mem_of_getElem? hx)).1
  obtain ⟨bq, off, q1, q2⟩ := A.bs.at (i := p.length) (l := BkV.cells x) (by rw [List.getElem?_map, hx]; rfl)
  rw [List.length_map] at q1
  unfold BkV.cells at q2
  have e8 : Ext h h := Ext.refl _
  refine Runs.intro aFunc65 rfl rfl rfl rfl fun rest => ?_;iterate 2 apply gS
  refine gR rfl ?_;refine gP ?_;refine gO rfl rfl (aOp_lenSlice Try.underlying47 rfl hsl) rfl ?_;refine gP ?_;apply gE;apply gS;refine gR rfl ?_;refine gP ?_;refine gO rfl rfl (fa29_0 rfl) rfl ?_;refine gO rfl rfl (ld25 rfl f2 rfl) rfl ?_;refine gO rfl rfl (aOp_lenSlice Try.underlying25 rfl hl1) rfl ?_;refine gO rfl rfl (kLT rfl rfl) rfl ?_;apply gE;refine gC (b := true) rfl ?_;iterate 2 apply gS
  refine gR rfl ?_;refine gO rfl rfl (fa29_0 rfl) rfl ?_;refine gO rfl rfl (ld25 rfl f2 rfl) rfl ?_;refine gP ?_;refine gO rfl rfl (aOp_indexAddr (i := p.length) Try.underlying25 sz60 rfl q1 rfl (Nat.ble_eq_true_of_le (by omega))) rfl ?_;refine gO rfl rfl (fa60_0 rfl) rfl ?_;refine gO rfl rfl (fa35_0 rfl) rfl ?_;refine gO rfl rfl ((aOp_loadE1 (k := 0) ag3 rfl (q2.ext e9) rfl)) rfl ?_;refine gP ?_;apply gE;refine Go.block noJ_ok ?_
  have hle0 : ∀ l, l ∈ D.truths → x.ll ≤ lv l p.length ∧ lv l p.length ≤ x.lh := fun l hl => by
   obtain ⟨y, h1, h2⟩ := levs_at (List.mem_filter.1 hl).1 hx
   unfold lv
   rw [h1, Option.getD_some];exact h2
  refine Go.loopKeep (fun a : Nat × List (List Int) => [(0, sl), (1, .ptr B2 0), (2, .ptr B4 0), (3, .ptr B3 0), (5, .int .i64 p.length), (6, .int .i64 (x.ll + (a.1 : Nat)))])
   (fun m a h' => (m : Int) + (x.ll + (a.1 : Nat)) = x.lh + 1 ∧ Ext g h' ∧ ExtF S h h' ∧ Has h' B2 (.cells .plain [b, d, r, s] 29) ∧ Has h' B3 (.cells .plain [.func (.func F) [] caps] 62) ∧ Has h' B4 (.cells .plain [.func (.func 65) [] [.ptr B2 0, .ptr B4 0, .ptr B3 0]] 62) ∧ Inv (V ++ a.2) h' ∧ ∀ l, l ∈ a.2 ↔ (l ∈ D.truths ∧ l.take p.length = p ∧ lv l p.length < x.ll + (a.1 : Nat)))
   (n := (x.lh - x.ll + 1).toNat) (0, []) ⟨rfl, rfl, rfl, rfl, rfl, by show _ = some (AVal.int .i64 (x.ll + ((0 : Nat) : Int))); rw [show x.ll + ((0 : Nat) : Int) = x.ll by omega]; rfl, trivial⟩ ⟨by dsimp only; omega, e9, ExtF.of e8, f2, f3, f4, by dsimp only; rw [List.append_nil]; exact keep _ _ _ I e8, fun l => ⟨fun q => (by cases q), fun q => by have := hle0 l q.1; have := q.2.2; dsimp only at this; omega⟩⟩ ?_
  clear e9 e8 f2 f3 f4;rintro m ⟨i, W⟩ h10 ⟨hm, e9, z10, f2, f3, f4, I10, hW⟩ again
  dsimp only at hm I10 hW ⊢
  have Sp10 := SpK h10 z10
  have hz10 := z10.1
  obtain ⟨kk, hkk⟩ : ∃ z, x.ll + ((i : Nat) : Int) = z := ⟨_, rfl⟩
  rw [hkk] at hm hW ⊢
  by_cases hk : kk ≤ x.lh
  ·have hone : ∀ l, l ∈ p.map (fun x => [AVal.int .i64 x]) → l.length = 1 := fun l hl => by obtain ⟨_, _, rfl⟩ := List.mem_map.1 hl; rfl
   have hpl : (p.map fun x => [AVal.int .i64 x]).length ≤ 5 := by rw [List.length_map]; omega
   have hb2 := f2.1
   have hb3 := f3.1
   have hb4 := f4.1
   have he9 := e9.1
   iterate 2 apply gS
   refine gR rfl ?_;refine gP ?_;refine gO rfl rfl (fa29_0 rfl) rfl ?_;refine gO rfl rfl (ld25 rfl f2 rfl) rfl ?_;refine gP ?_;refine gO rfl rfl (aOp_indexAddr (i := p.length) Try.underlying25 sz60 rfl q1 rfl (Nat.ble_eq_true_of_le (by omega))) rfl ?_;refine gO rfl rfl (fa60_0 rfl) rfl ?_;refine gO rfl rfl (fa35_1 rfl) rfl ?_;refine gO rfl rfl ((aOp_loadE1 (k := 1) ag3 rfl (q2.ext e9) rfl)) rfl ?_;refine gO rfl rfl (kMT rfl rfl) rfl ?_;apply gE;refine gC (b := true) rfl ?_;refine gD ?_;apply gS;refine Go.block noJ_ok ?_;refine Go.drawnE plan65_0 ?_;refine gQ rfl rfl (ld62 rfl f4 rfl) rfl ?_;refine GoE.quietX rfl rfl (aOpX_lit (ps := []) (cs := []) Try.underlying47 rfl sz3 zt3 rfl rfl rfl) rfl ?_;iterate 2 refine gQ rfl rfl rfl rfl ?_
   refine GoE.quietX rfl rfl (aOpX_lit (ps := [(0, .int .i64 kk)]) (cs := [.int .i64 kk]) Try.underlying47 rfl sz3 zt3 rfl rfl rfl) rfl ?_;refine GoE.copy rfl rfl Try.underlying47 Try.underlying47 sz3 by3 zt3 rfl rfl rfl rfl Sp10 hone (by omega) (dK 6 5 (dK 6 4 (dD 6 2 (dD 6 1 (dK 6 0 rfl))))) rfl rfl fun v11 h11 x11 CP => ?_;replace f2 := f2.ext x11;replace f3 := f3.ext x11;replace f4 := f4.ext x11;replace e9 := e9.trans x11;refine ⟨(recheck_consX (h2 := h11) rfl (aOpX_lit (ps := [(0, .int .i64 kk)]) (cs := [.int .i64 kk]) Try.underlying47 rfl sz3 zt3 rfl rfl rfl) (by simp [sameA, sameAs, eqI_eq]) (rck (h2 := h11) rfl (rfl) (rck (h2 := h11) rfl (ld62 rfl f4 rfl) recheck_nil))), ?_⟩;refine GoE.copy1 rfl rfl Try.underlying47 Try.underlying47 sz3 by3 zt3 rfl rfl rfl rfl CP hone rfl rfl (by omega) (ext_le (by assumption)) (dD 62 5 (dD 62 4 (dK 62 0 rfl))) rfl rfl fun BG h12 lB nB sB f12 => ?_
   have y12 := copy_ext nB sB
   have := e9.1;have := f2.1;have := f3.1;have := f4.1;replace f2 := f2.extF y12 (fun q => by omega);replace f3 := f3.extF y12 (fun q => by omega);replace f4 := f4.extF y12 (fun q => by omega);replace e9 := y12.low e9 (fun b q => by omega);have := y12.1;refine ⟨(rck (h2 := h12) rfl (ld62 rfl f4 rfl) recheck_nil), ?_⟩
   have e12 : Ext h10 h12 := y12.low x11 (fun b q => q)
   have he12 := e12.1
   have hnS : ¬ S BG := fun q => by have := hSl _ q; have := hz10; omega
   have hL : (p ++ [kk]).map (fun x => [AVal.int .i64 x]) = p.map (fun x => [AVal.int .i64 x]) ++ [[AVal.int .i64 kk]] := by simp
   have SpN : ∀ h', ExtF S h12 h' → SliceOf h' 1 (.gsl BG 0 0 ((p.map fun x => [AVal.int .i64 x]).length + 1)) ((p ++ [kk]).map fun x => [AVal.int .i64 x]) := fun h' z => by
    have f' := f12.extF z hnS
    rw [← hL] at f'
    refine SliceOf.mk' rfl rfl f' (by simp) fun i l hl => ?_;rw [Nat.zero_add];exact slice_flatten (fun l hl => by obtain ⟨_, _, rfl⟩ := List.mem_map.1 hl; rfl) i l hl
   refine GoE.call rfl rfl (aOp_callVal rfl aFunc65 rfl) (IH (p := p ++ [kk]) (by simp; omega) (P.snoc hx ⟨by omega, hk⟩) (V := V ++ W) e9 f2 f3 f4 (fun x q => by have := hSl x q; omega) (keep _ _ _ I10 e12) SpN) (dD 127 0 rfl) ?_ np;rintro v40 h40 ⟨q, x40, V', I', hV'⟩;cases q;refine ⟨recheck_nil, _, rfl, ?_⟩;replace f2 := f2.extF x40 hB.1.2;replace f3 := f3.extF x40 hB.2.1.2;replace f4 := f4.extF x40 hB.2.2.2;replace e9 := x40.low e9 (fun b q => hS b q)
   have z40 : ExtF S h h40 := (z10.ext e12).trans (fun b q => .inl q) x40
   clear z10 x40 y12 x11 f12 e12;refine GoE.end rfl ?_;refine Go.inBlock noJ_ok ?_;refine gR rfl ?_;refine gP ?_;refine gO rfl rfl (aA rfl rfl) rfl ?_;refine gP ?_;apply gE;refine again (m - 1) (i + 1, W ++ V') _ _ (by omega) ⟨rfl, rfl, rfl, rfl, rfl, by show _ = some (AVal.int .i64 (x.ll + ((i + 1 : Nat) : Int))); rw [show x.ll + ((i + 1 : Nat) : Int) = kk + 1 by omega]; rfl, trivial⟩ ⟨by dsimp only; omega, e9, z40, f2, f3, f4, by dsimp only; rw [← List.append_assoc]; exact I', fun l => ?_⟩
   dsimp only
   rw [List.mem_append, hW, hV', List.length_append]
   constructor
   ·rintro (⟨q1, q2, q3⟩ | ⟨q1, q2⟩)
    ·exact ⟨q1, q2, by omega⟩
    ·have h1 := (take_one (by omega) (levs_len (List.mem_filter.1 q1).1)).1 q2
     exact ⟨q1, h1.1, by omega⟩
   ·rintro ⟨q1, q2, q3⟩
    by_cases z : lv l p.length < kk
    ·exact .inl ⟨q1, q2, z⟩
    ·exact .inr ⟨q1, (take_one (by omega) (levs_len (List.mem_filter.1 q1).1)).2 ⟨q2, by omega⟩⟩
  ·iterate 2 apply gS
   refine gR rfl ?_;refine gP ?_;refine gO rfl rfl (fa29_0 rfl) rfl ?_;refine gO rfl rfl (ld25 rfl f2 rfl) rfl ?_;refine gP ?_;refine gO rfl rfl (aOp_indexAddr (i := p.length) Try.underlying25 sz60 rfl q1 rfl (Nat.ble_eq_true_of_le (by omega))) rfl ?_;refine gO rfl rfl (fa60_0 rfl) rfl ?_;refine gO rfl rfl (fa35_1 rfl) rfl ?_;refine gO rfl rfl ((aOp_loadE1 (k := 1) ag3 rfl (q2.ext e9) rfl)) rfl ?_;refine gO rfl rfl (kMF rfl rfl) rfl ?_;apply gE;refine gC (b := false) rfl ?_;refine gD ?_;exact gV (ret_end (aResult_of Try.func65 rfl rfl) ⟨rfl, z10, W, I10, fun l => ⟨fun q => ⟨((hW l).1 q).1, ((hW l).1 q).2.1⟩, fun q => (hW l).2 ⟨q.1, q.2, by have := hle0 l q.1; omega⟩⟩⟩)
theorem each30_ok (O : D.Ok) (A : DrainAt g D b d r s) (hF : aFunc Try.prog F = some fF) (hS : ∀ x, S x → g.next ≤ x) (hcs : scalars [.func (.func F) [] caps] = true)
  (keep : ∀ V h h', Inv V h → Ext h h' → Inv V h')
  (step : ∀ V l sl h', Ext g h' → l ∈ D.truths → Inv V h' → SliceOf h' 1 sl (l.map fun x => [AVal.int .i64 x]) → Runs Try.prog F ([sl] ++ caps) h' (fun en h'' => en = .ret (.tuple []) ∧ ExtF S h' h'' ∧ Inv (V ++ [l]) h''))
  {h : AH} (e9 : Ext g h) (hSl : ∀ x, S x → x < h.next) (I : Inv [] h) :
  Runs Try.prog 30 [.agg (dC b d r s), .func (.func F) [] caps] h (fun en h' => en = .ret (.tuple []) ∧ ExtF S h h' ∧ ∃ V, Inv V h' ∧ ∀ l, l ∈ V ↔ l ∈ D.truths) := by
 have hnb := O.nb
 have hsm := A.same
 have e8 : Ext h h := Ext.refl _
 have hge := e9.1
 have hon := fun (B2 B3 B4 : Nat) (hB : (g.next ≤ B2 ∧ ¬ S B2) ∧ (g.next ≤ B3 ∧ ¬ S B3) ∧ (g.next ≤ B4 ∧ ¬ S B4)) {h' : AH} (e : Ext g h') f2 f3 f4 hSl I => on65_ok (F := F) (caps := caps) (S := S) (Inv := Inv) O A hF hS hB keep step D.bs.length (p := []) (by simp) (Pre.nil D) (V := []) (sl := .nilslice) (h := h') e f2 f3 f4 hSl I fun _ _ => .nil
 unfold dC at *
 refine Runs.intro aFunc30 rfl rfl rfl rfl fun rest => ?_;apply gS;refine gR rfl ?_;refine GoR.box rfl rfl rfl rfl rfl rfl fun h0 x0 f0 => ?_;have := e9.1;have := e8.1;replace e9 := e9.trans x0;replace e8 := e8.trans x0;have := f0.1;refine GoR.box rfl rfl rfl rfl rfl rfl fun h1 x1 f1 => ?_;have := e9.1;have := e8.1;have := f0.1;replace f0 := f0.ext x1;replace e9 := e9.trans x1;replace e8 := e8.trans x1;have := f1.1;apply gE;apply gS;refine gR rfl ?_;refine GoR.alloc rfl rfl rfl zt62 rfl rfl fun h2 x2 f2 => ?_;have := e9.1;have := e8.1;have := f1.1;have := f0.1;replace f1 := f1.ext x2;replace f0 := f0.ext x2;replace e9 := e9.trans x2;replace e8 := e8.trans x2;have := f2.1;apply gE;apply gS;refine gR rfl ?_;refine gP ?_;refine GoR.store rfl rfl rfl rfl rfl rfl f2 rfl sz62 rfl rfl rfl fun h3 u3 => ?_;replace f2 := u3.has f2;replace f1 := f1.upd u3 (by omega);replace f0 := f0.upd u3 (by omega);replace e9 := e9.upd u3 (by omega);replace e8 := e8.upd u3 (by omega);apply gE;refine gR rfl ?_;refine gO rfl rfl (ld62 rfl f2 rfl) rfl ?_
 have hu := u3.1
 have hq2 := f0.1
 have hq3 := f1.1
 have hq4 := f2.1
 refine GoR.call rfl rfl (aOp_callVal rfl aFunc65 rfl) (hon _ _ _ ⟨⟨by omega, fun q => by have := hSl _ q; omega⟩, ⟨by omega, fun q => by have := hSl _ q; omega⟩, ⟨by omega, fun q => by have := hSl _ q; omega⟩⟩ e9 f0 f1 f2 (fun x q => by have := hSl x q; omega) (keep _ _ _ I e8)) ?_ np;rintro v40 h40 ⟨q, x40, V', I', hV'⟩;cases q;refine ⟨_, rfl, ?_⟩
 have z40 : ExtF S h h40 := (ExtF.of e8).trans (fun b q => .inl q) x40
 clear e8 e9 f0 f1 f2 x40;apply gE;exact Go.endL (FLeft.ret (v := .tuple []) (aResult_of Try.func30 rfl rfl) ⟨rfl, z40, V', by rw [List.nil_append] at I'; exact I', fun l => by rw [hV']; simp⟩)
end
end Go.Proofs.Ytkhiagdmbajimaa

namespace Go.Proofs.Ytkhiagdmbajimaa
open Go Go.AbsE
set_option linter.unusedSimpArgs false
set_option maxRecDepth 100000
set_option maxHeartbeats 0
set_option linter.unusedVariables false
def highs (D : DrainV) : List Int := D.bs.map fun b => b.yh
def lows (D : DrainV) : List Int := D.bs.map fun b => b.yl
theorem highs_in {D : DrainV} (O : D.Ok) (b : Nat) : 0 ≤ lv (highs D) b ∧ lv (highs D) b ≤ 20 := by
 unfold highs lv
 rw [List.getElem?_map]
 cases q : D.bs[b]? with
 | none => simp
 | some x =>
  have := (O.b x (List.mem_of_getElem? q)).2
  show 0 ≤ x.yh ∧ x.yh ≤ 20
  omega
theorem lows_in {D : DrainV} (O : D.Ok) (b : Nat) : 0 ≤ lv (lows D) b ∧ lv (lows D) b ≤ 20 := by
 unfold lows lv
 rw [List.getElem?_map]
 cases q : D.bs[b]? with
 | none => simp
 | some x =>
  have := (O.b x (List.mem_of_getElem? q)).2
  show 0 ≤ x.yl ∧ x.yl ≤ 20
  omega
theorem sgnC_at {D : DrainV} {st : Nat} {l : List Int} {a : Nat} (ha : a < D.bs.length) : (sgnC (D.course st l))[a]? = some (sgn D.bs.length (nx (D.course st l) a)) := by
 have hcl := course_len D st l
 unfold sgnC
 rw [List.getElem?_map, hcl]
 have : (D.course st l)[a]? = some (nx (D.course st l) a) := by unfold nx; simp [hcl, ha]
 rw [this]
 rfl
theorem watL_at {c : List Nat} {ys : List Int} {a : Nat} (ha : a < c.length) : (watL c ys)[a]? = some (wat c ys a) := by
 unfold watL
 rw [List.getElem?_map, List.getElem?_range ha]
 rfl
theorem waters27_e {l : List Int} {c : List Nat} (dn : Down l c) (hc : 1 ≤ c.length ∧ c.length ≤ 5) {ys : List Int} (hyl : ys.length = c.length) (hy : ∀ b, 0 ≤ lv ys b ∧ lv ys b ≤ 20) {sn sy : AVal} {h : AH} (S : SliceOf h 1 sn ((sgnC c).map fun x => [AVal.int .i64 x])) (Y : SliceOf h 1 sy (ys.map fun x => [AVal.int .i64 x])) :
  Runs Try.prog 27 [sn, sy] h (fun en h' => ∃ bt, en = .ret (.slice bt 0 c.length c.length) ∧ Ext h h' ∧ h.next ≤ bt ∧ Has h' bt (.cells .plain (i64s (watL c ys)) 3)) := waters27_ok dn hc hyl hy S Y
end Go.Proofs.Ytkhiagdmbajimaa

namespace Go.Proofs.Ytkhiagdmbajimaa
open Go Go.AbsE
set_option linter.unusedSimpArgs false
set_option maxRecDepth 100000
set_option maxHeartbeats 0
set_option linter.unusedVariables false
end Go.Proofs.Ytkhiagdmbajimaa

namespace Go.Proofs.Ytkhiagdmbajimaa
open Go Go.AbsE
set_option linter.unusedSimpArgs false
set_option maxRecDepth 100000
set_option maxHeartbeats 0
set_option linter.unusedVariables false
end Go.Proofs.Ytkhiagdmbajimaa

namespace Go.Proofs.Ytkhiagdmbajimaa
open Go Go.AbsE
set_option linter.unusedSimpArgs false
set_option maxRecDepth 100000
set_option maxHeartbeats 0
set_option linter.unusedVariables false
theorem min_if (x y : Int) : (if y < x then y else x) = min x y := by
 split <;> omega
theorem max_if (x y : Int) : (if x < y then y else x) = max x y := by
 split <;> omega
def way31 (D : DrainV) (l : List Int) (a b : Nat) : Int × Int := if nx (D.course 0 l) a = b then (wat (D.course 0 l) (lows D) a, wat (D.course 0 l) (highs D) a) else (0, 0)
theorem each31_ok {D : DrainV} (O : D.Ok) {b d r s hsl lsl ls : AVal} {g h : AH} (A : DrainAt g D b d r s) (Y : SliceOf g 1 hsl ((highs D).map fun x => [AVal.int .i64 x])) (Z : SliceOf g 1 lsl ((lows D).map fun x => [AVal.int .i64 x])) {l : List Int} (hl : l ∈ levsV D.bs) {a bb : Nat} (ha : a < D.bs.length) (hbb : bb < D.bs.length) {Bd Ba Bn Bl Bh Bc Be Bs Bw Bb Bg C E : Nat} {v : Bool} {w1 w2 g1 g2 : Int} (hC : C < 2 ^ 6) (hE : E < 2 ^ 5) (e9 : Ext g h) (S : SliceOf h 1 ls (l.map fun x => [AVal.int .i64 x]))
  (k1 : Has h Bd (.cells .plain [b, d, r, s] 29)) (k2 : Has h Ba (.cells .plain [.int .i64 (a : Nat)] 3)) (k3 : Has h Bn (.cells .plain [.int .i64 D.bs.length] 3)) (k4 : Has h Bl (.cells .plain [lsl] 47)) (k5 : Has h Bh (.cells .plain [hsl] 47)) (k6 : Has h Bc (.cells .plain [.int .i64 (C : Nat)] 3)) (k7 : Has h Be (.cells .plain [.int .i64 (E : Nat)] 3)) (k8 : Has h Bs (.cells .plain [.bool v] 4)) (k9 : Has h Bw (.cells .plain [.int .i64 w1, .int .i64 w2] 35)) (k10 : Has h Bb (.cells .plain [.int .i64 (bb : Nat)] 3)) (k11 : Has h Bg (.cells .plain [.int .i64 g1, .int .i64 g2] 35))
  (hne : (Bd < g.next ∧ Ba < g.next ∧ Bn < g.next ∧ Bl < g.next ∧ Bh < g.next ∧ Bb < g.next) ∧ g.next ≤ Bc ∧ Bc < Be ∧ Be < Bs ∧ Bs < Bw ∧ Bw < Bg) :
  Runs Try.prog 31 [ls, .ptr Bd 0, .ptr Ba 0, .ptr Bn 0, .ptr Bl 0, .ptr Bh 0, .ptr Bc 0, .ptr Be 0, .ptr Bs 0, .ptr Bw 0, .ptr Bb 0, .ptr Bg 0] h (fun en h' => en = .ret (.tuple []) ∧ ExtF (fun x => x = Bc ∨ x = Be ∨ x = Bs ∨ x = Bw ∨ x = Bg) h h' ∧
   Has h' Bc (.cells .plain [.int .i64 ((C ||| 2 ^ nx (D.course 0 l) a : Nat) : Int)] 3) ∧ Has h' Be (.cells .plain [.int .i64 ((E ||| 2 ^ endV (D.course 0 l) 21 a : Nat) : Int)] 3) ∧ Has h' Bs (.cells .plain [.bool true] 4) ∧
   Has h' Bw (.cells .plain [.int .i64 (min w1 (wat (D.course 0 l) (lows D) a)), .int .i64 (max w2 (wat (D.course 0 l) (highs D) a))] 35) ∧ Has h' Bg (.cells .plain [.int .i64 (min g1 (way31 D l a bb).1), .int .i64 (max g2 (way31 D l a bb).2)] 35)) := by
 have hnb := O.nb
 have hsm := A.same
 have hll := levs_len hl
 have hcl := course_len D 0 l
 have hdn := course_down O hl 0
 have hyl : (highs D).length = D.bs.length := by unfold highs; rw [List.length_map]
 have hzl : (lows D).length = D.bs.length := by unfold lows; rw [List.length_map]
 have hsY := Y.same
 have hsZ := Z.same
 have e8 : Ext h h := Ext.refl _
 have y0 : ExtF (fun x => x = Bc ∨ x = Be ∨ x = Bs ∨ x = Bw ∨ x = Bg) h h := ExtF.of (Ext.refl _)
 have hco := fun h' e e' => courses26_e O (b := b) (d := d) (r := r) (s := s) (ls := ls) (l := l) hll (st := 0) (h := h') (A.ext e) (S.ext e')
 have hc2 : ∀ h', Ext g h' → Ext h h' → Runs Try.prog 26 [.agg (dC b d r s), ls, .int .i64 0] h' (fun en h'' => ∃ bg, en = .ret (.gsl bg 0 0 D.bs.length) ∧ Ext h' h'' ∧ h'.next ≤ bg ∧ Has h'' bg (.cells .grow (i64s (sgnC (D.course 0 l))) 3)) := fun h' e e' => (hco h' e e').mono fun en h'' ⟨sl, q, x, G, _⟩ => by
  rcases G.2 with ⟨_, hz⟩ | ⟨_, bg, q1, q2, q3⟩
  ·omega
  ·exact ⟨bg, by rw [q, q2], x, q1, q3⟩
 have hsgl : (sgnC (D.course 0 l)).length = D.bs.length := by unfold sgnC; rw [List.length_map, hcl]
 have hwa := fun h' {sn : AVal} {lo : Nat} (e : Ext g h') (G : Grow h' 3 1 lo sn D.bs.length (i64s (sgnC (D.course 0 l)))) => waters27_e hdn (by omega) (ys := highs D) (by omega) (highs_in O) (sn := sn) (sy := hsl) (h := h') (ints_slice hsgl G) (Y.ext e)
 have hwb := fun h' {sn : AVal} {lo : Nat} (e : Ext g h') (G : Grow h' 3 1 lo sn D.bs.length (i64s (sgnC (D.course 0 l)))) => waters27_e hdn (by omega) (ys := lows D) (by omega) (lows_in O) (sn := sn) (sy := lsl) (h := h') (ints_slice hsgl G) (Z.ext e)
 rw [hcl] at hwa hwb
 have GN : ∀ {h' : AH} (bg : Nat), Has h' bg (.cells .grow (i64s (sgnC (D.course 0 l))) 3) → Grow h' 3 1 0 (.gsl bg 0 0 D.bs.length) D.bs.length (i64s (sgnC (D.course 0 l))) := fun bg f => ⟨by rw [i64s_len, hsgl]; omega, .inr ⟨by omega, bg, Nat.zero_le _, rfl, f⟩⟩
 have hgs : ∀ {x : Nat}, x < D.bs.length → (i64s (sgnC (D.course 0 l)))[0 + x * 1]? = some (AVal.int .i64 (sgn D.bs.length (nx (D.course 0 l) x))) := fun hx => i64s_at (sgnC_at hx)
 have hga := hgs ha
 unfold dC at *
 refine Runs.intro aFunc31 rfl rfl rfl rfl fun rest => ?_;apply gS;refine gR rfl ?_;refine gO rfl rfl (ld29 rfl k1 rfl) rfl ?_;refine gP ?_;refine GoR.call rfl rfl (aCF aFunc26 rfl) (hc2 _ e9 e8) ?_ (by rintro _ _ ⟨bg, q, _, hbg, GF⟩; cases q);rintro v0 h0 ⟨bg, q, x0, hbg, GF⟩;cases q;refine ⟨_, rfl, ?_⟩;have := e9.1;have := e8.1;replace k1 := k1.ext x0;replace k2 := k2.ext x0;replace k3 := k3.ext x0;replace k4 := k4.ext x0;replace k5 := k5.ext x0;replace k6 := k6.ext x0;replace k7 := k7.ext x0;replace k8 := k8.ext x0;replace k9 := k9.ext x0;replace k10 := k10.ext x0;replace k11 := k11.ext x0;replace e9 := e9.trans x0;replace e8 := e8.trans x0;replace y0 := y0.ext x0;refine gP ?_;apply gE;apply gS;refine Go.drawnE plan31_0 ?_;refine gQ rfl rfl rfl rfl ?_;refine gQ rfl rfl (ld3 rfl k2 rfl) rfl ?_;refine gQ rfl rfl (aOp_indexAddr (i := a) Try.underlying47 sz3 rfl rfl rfl (Nat.ble_eq_true_of_le ha)) rfl ?_;refine gQ rfl rfl (ld3 rfl GF hga) rfl ?_;refine gQ rfl rfl (ld3 rfl k2 rfl) rfl ?_;iterate 2 refine gQ rfl rfl rfl rfl ?_
 refine GoE.end rfl ?_;apply gS;refine Go.block noJ_ok ?_
 have hn9 := e9.1
 have hlvl : ∀ x, x < D.bs.length → 0 ≤ lv l x := fun x hx => (hdn.lo x (by omega)).1
 refine Go.loopKeep (fun x : Nat => [(1, .ptr Bd 0), (2, .ptr Ba 0), (3, .ptr Bn 0), (4, .ptr Bl 0), (5, .ptr Bh 0), (6, .ptr Bc 0), (7, .ptr Be 0), (8, .ptr Bs 0), (9, .ptr Bw 0), (10, .ptr Bb 0), (11, .ptr Bg 0), (13, .gsl bg 0 0 D.bs.length), (14, .int .i64 (sgn D.bs.length (nx (D.course 0 l) a))), (15, .int .i64 (x : Nat))])
  (fun m x h' => x < D.bs.length ∧ (m : Int) = lv l x ∧ endV (D.course 0 l) 21 x = endV (D.course 0 l) 21 a ∧ Ext g h' ∧ Ext h h' ∧ ExtF (fun x => x = Bc ∨ x = Be ∨ x = Bs ∨ x = Bw ∨ x = Bg) h h' ∧ Has h' bg (.cells .grow (i64s (sgnC (D.course 0 l))) 3) ∧ Has h' Ba (.cells .plain [.int .i64 (a : Nat)] 3) ∧ Has h' Bn (.cells .plain [.int .i64 D.bs.length] 3) ∧ Has h' Bl (.cells .plain [lsl] 47) ∧ Has h' Bh (.cells .plain [hsl] 47) ∧ Has h' Bc (.cells .plain [.int .i64 (C : Nat)] 3) ∧ Has h' Be (.cells .plain [.int .i64 (E : Nat)] 3) ∧ Has h' Bs (.cells .plain [.bool v] 4) ∧ Has h' Bw (.cells .plain [.int .i64 w1, .int .i64 w2] 35) ∧ Has h' Bb (.cells .plain [.int .i64 (bb : Nat)] 3) ∧ Has h' Bg (.cells .plain [.int .i64 g1, .int .i64 g2] 35))
  (n := (lv l a).toNat) a ⟨rfl, rfl, rfl, rfl, rfl, rfl, rfl, rfl, rfl, rfl, rfl, rfl, rfl, rfl, trivial⟩ ⟨ha, by have := hlvl a ha; omega, rfl, e9, e8, y0, GF, k2, k3, k4, k5, k6, k7, k8, k9, k10, k11⟩ ?_
 clear e9 e8 y0 GF k1 k2 k3 k4 k5 k6 k7 k8 k9 k10 k11;rintro m x h20 ⟨hx, hm, hend, e9, e8, y0, GF, k2, k3, k4, k5, k6, k7, k8, k9, k10, k11⟩ again
 have hgx := hgs hx
 have hbc := k6.1
 have hge := e9.1
 have hnxt := end_next hdn (a := x) (by omega)
 rw [hcl] at hnxt
 by_cases hq : nx (D.course 0 l) x < D.bs.length
 ·rw [if_pos hq] at hnxt
  have hlt := hdn.lt x (by omega) (by omega)
  have hsx : sgn D.bs.length (nx (D.course 0 l) x) = ((nx (D.course 0 l) x : Nat) : Int) := sgn_lt hq
  rw [hsx] at hgx
  obtain ⟨y, hy⟩ : ∃ y, nx (D.course 0 l) x = y := ⟨_, rfl⟩
  rw [hy] at hgx hq hnxt hlt
  have hly := hlvl y hq
  iterate 2 apply gS
  refine gR rfl ?_;iterate 2 refine gP ?_
  refine gO rfl rfl (aOp_indexAddr (i := x) Try.underlying47 sz3 rfl rfl rfl (Nat.ble_eq_true_of_le hx)) rfl ?_;refine gO rfl rfl (ld3 rfl GF hgx) rfl ?_;refine gO rfl rfl (kNT rfl rfl) rfl ?_;apply gE;refine gC (b := true) rfl ?_;refine gD ?_;refine Go.block noJ_ok ?_;refine gR rfl ?_;iterate 2 refine gP ?_
  refine gO rfl rfl (aOp_indexAddr (i := x) Try.underlying47 sz3 rfl rfl rfl (Nat.ble_eq_true_of_le hx)) rfl ?_;refine gO rfl rfl (ld3 rfl GF hgx) rfl ?_;refine gP ?_;apply gE;refine Go.inBlock noJ_ok ?_;exact again (lv l y).toNat y _ _ (by omega) ⟨rfl, rfl, rfl, rfl, rfl, rfl, rfl, rfl, rfl, rfl, rfl, rfl, rfl, rfl, trivial⟩ ⟨hq, by omega, by rw [← hnxt]; exact hend, e9, e8, y0, GF, k2, k3, k4, k5, k6, k7, k8, k9, k10, k11⟩
 ·rw [if_neg hq] at hnxt
  have hle := hdn.le x (by omega)
  rw [hcl] at hle
  have hsx : sgn D.bs.length (nx (D.course 0 l) x) = -1 := by
   unfold sgn
   split <;> omega
  rw [hsx] at hgx;rw [hnxt] at hend;clear again
  obtain ⟨en, hen⟩ : ∃ en, endV (D.course 0 l) 21 a = en := ⟨_, rfl⟩
  rw [hen] at hend ⊢;subst hend
  have hga2 := hga
  have hA := i64s_at (watL_at (c := D.course 0 l) (ys := highs D) (a := a) (by omega))
  have hB := i64s_at (watL_at (c := D.course 0 l) (ys := lows D) (a := a) (by omega))
  obtain ⟨wA, hwA⟩ : ∃ z, wat (D.course 0 l) (highs D) a = z := ⟨_, rfl⟩
  obtain ⟨wB, hwB⟩ : ∃ z, wat (D.course 0 l) (lows D) a = z := ⟨_, rfl⟩
  have hx2 : (2 : Nat) ^ x ≤ 2 ^ 4 := Nat.pow_le_pow_right (by decide) (by omega)
  have hshx : (1 : Int) * 2 ^ x = ((2 ^ x : Nat) : Int) := by rw [Int.one_mul]; push_cast; rfl
  obtain ⟨px, hpx⟩ : ∃ z, 2 ^ x = z := ⟨_, rfl⟩
  rw [hwA] at hA;rw [hwB] at hB
  obtain ⟨to, hto⟩ : ∃ to, nx (D.course 0 l) a = to := ⟨_, rfl⟩
  have hle2 := hdn.le a (by omega)
  rw [hcl, hto] at hle2
  have hway : way31 D l a bb = if to = bb then (wat (D.course 0 l) (lows D) a, wat (D.course 0 l) (highs D) a) else (0, 0) := by unfold way31; rw [hto]
  rw [hto] at hga ⊢;rw [hwA, hwB] at hway;rw [hwA, hwB]
  have ht2 : (2 : Nat) ^ to ≤ 2 ^ 5 := Nat.pow_le_pow_right (by decide) (by omega)
  have hsht : (1 : Int) * 2 ^ to = ((2 ^ to : Nat) : Int) := by rw [Int.one_mul]; push_cast; rfl
  obtain ⟨pt, hpt⟩ : ∃ z, 2 ^ to = z := ⟨_, rfl⟩
  rw [hpt] at ht2 hsht ⊢;rw [hpx] at hx2 hshx ⊢
  obtain ⟨r1, hr1⟩ : ∃ z, C ||| pt = z := ⟨_, rfl⟩
  obtain ⟨r2, hr2⟩ : ∃ z, E ||| px = z := ⟨_, rfl⟩
  rw [hr1, hr2]
  by_cases hz : to < D.bs.length
  ·have hst : sgn D.bs.length to = (to : Int) := sgn_lt hz
   rw [hst] at hga ⊢;iterate 2 apply gS
   refine gR rfl ?_;iterate 2 refine gP ?_
   refine gO rfl rfl (aOp_indexAddr (i := x) Try.underlying47 sz3 rfl rfl rfl (Nat.ble_eq_true_of_le hx)) rfl ?_;refine gO rfl rfl (ld3 rfl GF hgx) rfl ?_;refine gO rfl rfl (kNF rfl rfl) rfl ?_;apply gE;refine gC (b := false) rfl ?_;refine gD ?_;iterate 2 apply gS
   refine gR rfl ?_;refine gP ?_;refine gO rfl rfl (kLF rfl rfl) rfl ?_;apply gE;refine gC (b := false) rfl ?_;refine gD ?_;apply gS;refine Go.drawnE plan31_1 ?_;refine gQ rfl rfl rfl rfl ?_;refine gQ rfl rfl (ld47 rfl k4 rfl) rfl ?_;refine gQ rfl rfl (ld3 rfl k2 rfl) rfl ?_;refine gQ rfl rfl rfl rfl ?_;refine gQ rfl rfl (ld47 rfl k5 rfl) rfl ?_;refine gQ rfl rfl (ld3 rfl k2 rfl) rfl ?_;refine GoE.call rfl rfl (aCF aFunc27 rfl) (hwb _ e9 (GN bg GF)) (dK 3 9 (dK 3 7 (dK 3 6 (dK 3 3 (dD 3 1 (dD 3 0 rfl)))))) ?_ (by rintro _ _ ⟨bt2, q, _, hbt2, _2⟩; cases q);rintro v21 h21 ⟨bt2, q, x21, hbt2, f212⟩;cases q;have := e9.1;have := e8.1
   have := GF.1
   have := k2.1;have := k3.1;have := k4.1;have := k5.1;have := k6.1;have := k7.1;have := k8.1;have := k9.1;have := k10.1;have := k11.1;replace GF := GF.ext x21;replace k2 := k2.ext x21;replace k3 := k3.ext x21;replace k4 := k4.ext x21;replace k5 := k5.ext x21;replace k6 := k6.ext x21;replace k7 := k7.ext x21;replace k8 := k8.ext x21;replace k9 := k9.ext x21;replace k10 := k10.ext x21;replace k11 := k11.ext x21;replace e9 := e9.trans x21;replace e8 := e8.trans x21;replace y0 := y0.ext x21;refine ⟨(rck (h2 := h21) rfl (ld3 rfl k2 rfl) (rck (h2 := h21) rfl (ld47 rfl k5 rfl) (rck (h2 := h21) rfl (rfl) (rck (h2 := h21) rfl (ld3 rfl k2 rfl) recheck_nil)))), _, rfl, ?_⟩;refine gQ rfl rfl (aOp_indexAddr (i := a) Try.underlying47 sz3 rfl rfl rfl (Nat.ble_eq_true_of_le ha)) rfl ?_;refine gQ rfl rfl (ld3 rfl (by assumption) hB) rfl ?_;refine GoE.call rfl rfl (aCF aFunc27 rfl) (hwa _ e9 (GN bg GF)) (dK 199 5 (dK 199 4 (dK 199 9 (dD 199 7 (dD 199 6 (dK 199 3 rfl)))))) ?_ (by rintro _ _ ⟨bt, q, _, hbt, _⟩; cases q);rintro v213 h213 ⟨bt, q, x213, hbt, f213⟩;cases q;have := e9.1;have := e8.1;have := f212.1
   have := GF.1
   have := k2.1;have := k3.1;have := k4.1;have := k5.1;have := k6.1;have := k7.1;have := k8.1;have := k9.1;have := k10.1;have := k11.1;replace f212 := f212.ext x213;replace GF := GF.ext x213;replace k2 := k2.ext x213;replace k3 := k3.ext x213;replace k4 := k4.ext x213;replace k5 := k5.ext x213;replace k6 := k6.ext x213;replace k7 := k7.ext x213;replace k8 := k8.ext x213;replace k9 := k9.ext x213;replace k10 := k10.ext x213;replace k11 := k11.ext x213;replace e9 := e9.trans x213;replace e8 := e8.trans x213;replace y0 := y0.ext x213;refine ⟨(rck (h2 := h213) rfl (ld3 rfl (by assumption) hB) (rck (h2 := h213) rfl (aOp_indexAddr (i := a) Try.underlying47 sz3 rfl rfl rfl (Nat.ble_eq_true_of_le ha)) (rck (h2 := h213) rfl (ld3 rfl k2 rfl) (rck (h2 := h213) rfl (ld3 rfl k2 rfl) recheck_nil)))), _, rfl, ?_⟩;refine gQ rfl rfl (aOp_indexAddr (i := a) Try.underlying47 sz3 rfl rfl rfl (Nat.ble_eq_true_of_le ha)) rfl ?_;refine gQ rfl rfl (ld3 rfl (by assumption) hA) rfl ?_;iterate 2 refine gQ rfl rfl rfl rfl ?_
   refine GoE.end rfl ?_;apply gS;refine Go.drawnE plan31_2 ?_;refine gQ rfl rfl (ld3 rfl k6 rfl) rfl ?_;refine gQ rfl rfl rfl rfl ?_;refine gQ rfl rfl (aOp_shl rfl rfl (by omega) hsht (by omega)) rfl ?_;refine gQ rfl rfl (aOp_orNat (a := C) (b := pt) rfl rfl (by omega) (by omega) hr1) rfl ?_;refine gQ rfl rfl (ld3 rfl k7 rfl) rfl ?_;refine gQ rfl rfl rfl rfl ?_;refine gQ rfl rfl (aOp_shl rfl rfl (by omega) hshx (by omega)) rfl ?_;refine gQ rfl rfl (aOp_orNat (a := E) (b := px) rfl rfl (by omega) (by omega) hr2) rfl ?_;refine GoE.store rfl rfl rfl rfl (dK 15 7 (dK 15 6 (dK 15 5 (dK 15 4 (dD 15 3 (dD 15 2 (dD 15 1 (dD 15 0 rfl)))))))) rfl rfl k6 rfl sz3 rfl rfl rfl fun h214 u214 => ?_;clear GF;replace k2 := k2.upd u214 (by omega);replace k3 := k3.upd u214 (by omega);replace k4 := k4.upd u214 (by omega);replace k5 := k5.upd u214 (by omega);replace k6 := u214.has k6;replace k7 := k7.upd u214 (by omega);replace k8 := k8.upd u214 (by omega);replace k9 := k9.upd u214 (by omega);replace k10 := k10.upd u214 (by omega);replace k11 := k11.upd u214 (by omega);clear e8;replace y0 := y0.upd u214 (by omega);refine ⟨(rck (h2 := h214) rfl (aOp_orNat (a := E) (b := px) rfl rfl (by omega) (by omega) hr2) (rck (h2 := h214) rfl (aOp_shl rfl rfl (by omega) hshx (by omega)) (rck (h2 := h214) rfl (rfl) (rck (h2 := h214) rfl (ld3 rfl k7 rfl) recheck_nil)))), ?_⟩;refine GoE.store rfl rfl rfl rfl (dD 511 7 (dD 511 6 (dD 511 5 (dD 511 4 rfl)))) rfl rfl k7 rfl sz3 rfl rfl rfl fun h215 u215 => ?_;replace k2 := k2.upd u215 (by omega);replace k3 := k3.upd u215 (by omega);replace k4 := k4.upd u215 (by omega);replace k5 := k5.upd u215 (by omega);replace k6 := k6.upd u215 (by omega);replace k7 := u215.has k7;replace k8 := k8.upd u215 (by omega);replace k9 := k9.upd u215 (by omega);replace k10 := k10.upd u215 (by omega);replace k11 := k11.upd u215 (by omega);replace y0 := y0.upd u215 (by omega);refine ⟨recheck_nil, ?_⟩;refine GoE.store rfl rfl rfl rfl rfl rfl rfl k8 rfl sz4 rfl rfl rfl fun h216 u216 => ?_;replace k2 := k2.upd u216 (by omega);replace k3 := k3.upd u216 (by omega);replace k4 := k4.upd u216 (by omega);replace k5 := k5.upd u216 (by omega);replace k6 := k6.upd u216 (by omega);replace k7 := k7.upd u216 (by omega);replace k8 := u216.has k8;replace k9 := k9.upd u216 (by omega);replace k10 := k10.upd u216 (by omega);replace k11 := k11.upd u216 (by omega);replace y0 := y0.upd u216 (by omega);refine ⟨recheck_nil, ?_⟩;refine GoE.end rfl ?_;apply gS;refine gR rfl ?_;refine gO rfl rfl (fa35_0 rfl) rfl ?_;refine gO rfl rfl (ld3 rfl k9 rfl) rfl ?_;refine gP ?_;refine gO rfl rfl (aOp_min2 rfl rfl rfl) rfl ?_;refine gO rfl rfl (fa35_1 rfl) rfl ?_;refine gO rfl rfl (ld3 rfl k9 rfl) rfl ?_;refine gP ?_;refine gO rfl rfl (aOp_max2 rfl rfl rfl) rfl ?_;refine GoR.call rfl rfl (aCF aFunc21 rfl) (span21_ok) ?_ np;rintro v217 h217 ⟨q, x217⟩;cases q;refine ⟨_, rfl, ?_⟩;replace k2 := k2.ext x217;replace k3 := k3.ext x217;replace k4 := k4.ext x217;replace k5 := k5.ext x217;replace k6 := k6.ext x217;replace k7 := k7.ext x217;replace k8 := k8.ext x217;replace k9 := k9.ext x217;replace k10 := k10.ext x217;replace k11 := k11.ext x217;replace y0 := y0.ext x217;refine GoR.store rfl rfl rfl rfl rfl rfl k9 rfl sz35 rfl rfl rfl fun h218 u218 => ?_;replace k2 := k2.upd u218 (by omega);replace k3 := k3.upd u218 (by omega);replace k4 := k4.upd u218 (by omega);replace k5 := k5.upd u218 (by omega);replace k6 := k6.upd u218 (by omega);replace k7 := k7.upd u218 (by omega);replace k8 := k8.upd u218 (by omega);replace k9 := u218.has k9;replace k10 := k10.upd u218 (by omega);replace k11 := k11.upd u218 (by omega);replace y0 := y0.upd u218 (by omega);apply gE;iterate 2 apply gS
   refine gR rfl ?_;refine gP ?_;refine gO rfl rfl (ld3 rfl k10 rfl) rfl ?_
   by_cases hb : to = bb
   ·rw [if_pos hb] at hway;rw [hway];refine gO rfl rfl (kXF rfl rfl) rfl ?_;apply gE;refine gC (b := false) rfl ?_;refine gD ?_;refine gR rfl ?_;refine gO rfl rfl (fa35_0 rfl) rfl ?_;refine gO rfl rfl (ld3 rfl k11 rfl) rfl ?_;refine gP ?_;refine gO rfl rfl (aOp_min2 rfl rfl rfl) rfl ?_;refine gO rfl rfl (fa35_1 rfl) rfl ?_;refine gO rfl rfl (ld3 rfl k11 rfl) rfl ?_;refine gP ?_;refine gO rfl rfl (aOp_max2 rfl rfl rfl) rfl ?_;refine GoR.call rfl rfl (aCF aFunc21 rfl) (span21_ok) ?_ np;rintro v219 h219 ⟨q, x219⟩;cases q;refine ⟨_, rfl, ?_⟩;replace k2 := k2.ext x219;replace k3 := k3.ext x219;replace k4 := k4.ext x219;replace k5 := k5.ext x219;replace k6 := k6.ext x219;replace k7 := k7.ext x219;replace k8 := k8.ext x219;replace k9 := k9.ext x219;replace k10 := k10.ext x219;replace k11 := k11.ext x219;replace y0 := y0.ext x219;refine GoR.store rfl rfl rfl rfl rfl rfl k11 rfl sz35 rfl rfl rfl fun h220 u220 => ?_;replace k2 := k2.upd u220 (by omega);replace k3 := k3.upd u220 (by omega);replace k4 := k4.upd u220 (by omega);replace k5 := k5.upd u220 (by omega);replace k6 := k6.upd u220 (by omega);replace k7 := k7.upd u220 (by omega);replace k8 := k8.upd u220 (by omega);replace k9 := k9.upd u220 (by omega);replace k10 := k10.upd u220 (by omega);replace k11 := u220.has k11;replace y0 := y0.upd u220 (by omega);apply gE
    simp only [min_if, max_if] at k9 k11
    exact Go.endL (FLeft.ret (v := .tuple []) (aResult_of Try.func31 rfl rfl) ⟨rfl, y0, k6, k7, k8, k9, k11⟩)
   ·rw [if_neg hb] at hway;rw [hway];refine gO rfl rfl (kXT rfl rfl) rfl ?_;apply gE;refine gC (b := true) rfl ?_;refine gR rfl ?_;iterate 2 refine gP ?_
    apply gE;refine gR rfl ?_;refine gO rfl rfl (fa35_0 rfl) rfl ?_;refine gO rfl rfl (ld3 rfl k11 rfl) rfl ?_;refine gP ?_;refine gO rfl rfl (aOp_min2 rfl rfl rfl) rfl ?_;refine gO rfl rfl (fa35_1 rfl) rfl ?_;refine gO rfl rfl (ld3 rfl k11 rfl) rfl ?_;refine gP ?_;refine gO rfl rfl (aOp_max2 rfl rfl rfl) rfl ?_;refine GoR.call rfl rfl (aCF aFunc21 rfl) (span21_ok) ?_ np;rintro v219 h219 ⟨q, x219⟩;cases q;refine ⟨_, rfl, ?_⟩;replace k2 := k2.ext x219;replace k3 := k3.ext x219;replace k4 := k4.ext x219;replace k5 := k5.ext x219;replace k6 := k6.ext x219;replace k7 := k7.ext x219;replace k8 := k8.ext x219;replace k9 := k9.ext x219;replace k10 := k10.ext x219;replace k11 := k11.ext x219;replace y0 := y0.ext x219;refine GoR.store rfl rfl rfl rfl rfl rfl k11 rfl sz35 rfl rfl rfl fun h220 u220 => ?_;replace k2 := k2.upd u220 (by omega);replace k3 := k3.upd u220 (by omega);replace k4 := k4.upd u220 (by omega);replace k5 := k5.upd u220 (by omega);replace k6 := k6.upd u220 (by omega);replace k7 := k7.upd u220 (by omega);replace k8 := k8.upd u220 (by omega);replace k9 := k9.upd u220 (by omega);replace k10 := k10.upd u220 (by omega);replace k11 := u220.has k11;replace y0 := y0.upd u220 (by omega);apply gE
    simp only [min_if, max_if] at k9 k11
    exact Go.endL (FLeft.ret (v := .tuple []) (aResult_of Try.func31 rfl rfl) ⟨rfl, y0, k6, k7, k8, k9, k11⟩)
  ·have hst : sgn D.bs.length to = -1 := by
    unfold sgn
    split <;> omega
   have hto2 : to = D.bs.length := by omega
   subst hto2;rw [hst] at hga ⊢;rw [if_neg (by omega)] at hway;rw [hway];iterate 2 apply gS
   refine gR rfl ?_;iterate 2 refine gP ?_
   refine gO rfl rfl (aOp_indexAddr (i := x) Try.underlying47 sz3 rfl rfl rfl (Nat.ble_eq_true_of_le hx)) rfl ?_;refine gO rfl rfl (ld3 rfl GF hgx) rfl ?_;refine gO rfl rfl (kNF rfl rfl) rfl ?_;apply gE;refine gC (b := false) rfl ?_;refine gD ?_;iterate 2 apply gS
   refine gR rfl ?_;refine gP ?_;refine gO rfl rfl (kLT rfl rfl) rfl ?_;apply gE;refine gC (b := true) rfl ?_;refine gR rfl ?_;refine gO rfl rfl (ld3 rfl k3 rfl) rfl ?_;refine gP ?_;apply gE;apply gS;refine Go.drawnE plan31_1 ?_;refine gQ rfl rfl rfl rfl ?_;refine gQ rfl rfl (ld47 rfl k4 rfl) rfl ?_;refine gQ rfl rfl (ld3 rfl k2 rfl) rfl ?_;refine gQ rfl rfl rfl rfl ?_;refine gQ rfl rfl (ld47 rfl k5 rfl) rfl ?_;refine gQ rfl rfl (ld3 rfl k2 rfl) rfl ?_;refine GoE.call rfl rfl (aCF aFunc27 rfl) (hwb _ e9 (GN bg GF)) (dK 3 9 (dK 3 7 (dK 3 6 (dK 3 3 (dD 3 1 (dD 3 0 rfl)))))) ?_ (by rintro _ _ ⟨bt2, q, _, hbt2, _2⟩; cases q);rintro v21 h21 ⟨bt2, q, x21, hbt2, f212⟩;cases q;have := e9.1;have := e8.1
   have := GF.1
   have := k2.1;have := k3.1;have := k4.1;have := k5.1;have := k6.1;have := k7.1;have := k8.1;have := k9.1;have := k10.1;have := k11.1;replace GF := GF.ext x21;replace k2 := k2.ext x21;replace k3 := k3.ext x21;replace k4 := k4.ext x21;replace k5 := k5.ext x21;replace k6 := k6.ext x21;replace k7 := k7.ext x21;replace k8 := k8.ext x21;replace k9 := k9.ext x21;replace k10 := k10.ext x21;replace k11 := k11.ext x21;replace e9 := e9.trans x21;replace e8 := e8.trans x21;replace y0 := y0.ext x21;refine ⟨(rck (h2 := h21) rfl (ld3 rfl k2 rfl) (rck (h2 := h21) rfl (ld47 rfl k5 rfl) (rck (h2 := h21) rfl (rfl) (rck (h2 := h21) rfl (ld3 rfl k2 rfl) recheck_nil)))), _, rfl, ?_⟩;refine gQ rfl rfl (aOp_indexAddr (i := a) Try.underlying47 sz3 rfl rfl rfl (Nat.ble_eq_true_of_le ha)) rfl ?_;refine gQ rfl rfl (ld3 rfl (by assumption) hB) rfl ?_;refine GoE.call rfl rfl (aCF aFunc27 rfl) (hwa _ e9 (GN bg GF)) (dK 199 5 (dK 199 4 (dK 199 9 (dD 199 7 (dD 199 6 (dK 199 3 rfl)))))) ?_ (by rintro _ _ ⟨bt, q, _, hbt, _⟩; cases q);rintro v213 h213 ⟨bt, q, x213, hbt, f213⟩;cases q;have := e9.1;have := e8.1;have := f212.1
   have := GF.1
   have := k2.1;have := k3.1;have := k4.1;have := k5.1;have := k6.1;have := k7.1;have := k8.1;have := k9.1;have := k10.1;have := k11.1;replace f212 := f212.ext x213;replace GF := GF.ext x213;replace k2 := k2.ext x213;replace k3 := k3.ext x213;replace k4 := k4.ext x213;replace k5 := k5.ext x213;replace k6 := k6.ext x213;replace k7 := k7.ext x213;replace k8 := k8.ext x213;replace k9 := k9.ext x213;replace k10 := k10.ext x213;replace k11 := k11.ext x213;replace e9 := e9.trans x213;replace e8 := e8.trans x213;replace y0 := y0.ext x213;refine ⟨(rck (h2 := h213) rfl (ld3 rfl (by assumption) hB) (rck (h2 := h213) rfl (aOp_indexAddr (i := a) Try.underlying47 sz3 rfl rfl rfl (Nat.ble_eq_true_of_le ha)) (rck (h2 := h213) rfl (ld3 rfl k2 rfl) (rck (h2 := h213) rfl (ld3 rfl k2 rfl) recheck_nil)))), _, rfl, ?_⟩;refine gQ rfl rfl (aOp_indexAddr (i := a) Try.underlying47 sz3 rfl rfl rfl (Nat.ble_eq_true_of_le ha)) rfl ?_;refine gQ rfl rfl (ld3 rfl (by assumption) hA) rfl ?_;iterate 2 refine gQ rfl rfl rfl rfl ?_
   refine GoE.end rfl ?_;apply gS;refine Go.drawnE plan31_2 ?_;refine gQ rfl rfl (ld3 rfl k6 rfl) rfl ?_;refine gQ rfl rfl rfl rfl ?_;refine gQ rfl rfl (aOp_shl rfl rfl (by omega) hsht (by omega)) rfl ?_;refine gQ rfl rfl (aOp_orNat (a := C) (b := pt) rfl rfl (by omega) (by omega) hr1) rfl ?_;refine gQ rfl rfl (ld3 rfl k7 rfl) rfl ?_;refine gQ rfl rfl rfl rfl ?_;refine gQ rfl rfl (aOp_shl rfl rfl (by omega) hshx (by omega)) rfl ?_;refine gQ rfl rfl (aOp_orNat (a := E) (b := px) rfl rfl (by omega) (by omega) hr2) rfl ?_;refine GoE.store rfl rfl rfl rfl (dK 15 7 (dK 15 6 (dK 15 5 (dK 15 4 (dD 15 3 (dD 15 2 (dD 15 1 (dD 15 0 rfl)))))))) rfl rfl k6 rfl sz3 rfl rfl rfl fun h214 u214 => ?_;clear GF;replace k2 := k2.upd u214 (by omega);replace k3 := k3.upd u214 (by omega);replace k4 := k4.upd u214 (by omega);replace k5 := k5.upd u214 (by omega);replace k6 := u214.has k6;replace k7 := k7.upd u214 (by omega);replace k8 := k8.upd u214 (by omega);replace k9 := k9.upd u214 (by omega);replace k10 := k10.upd u214 (by omega);replace k11 := k11.upd u214 (by omega);clear e8;replace y0 := y0.upd u214 (by omega);refine ⟨(rck (h2 := h214) rfl (aOp_orNat (a := E) (b := px) rfl rfl (by omega) (by omega) hr2) (rck (h2 := h214) rfl (aOp_shl rfl rfl (by omega) hshx (by omega)) (rck (h2 := h214) rfl (rfl) (rck (h2 := h214) rfl (ld3 rfl k7 rfl) recheck_nil)))), ?_⟩;refine GoE.store rfl rfl rfl rfl (dD 511 7 (dD 511 6 (dD 511 5 (dD 511 4 rfl)))) rfl rfl k7 rfl sz3 rfl rfl rfl fun h215 u215 => ?_;replace k2 := k2.upd u215 (by omega);replace k3 := k3.upd u215 (by omega);replace k4 := k4.upd u215 (by omega);replace k5 := k5.upd u215 (by omega);replace k6 := k6.upd u215 (by omega);replace k7 := u215.has k7;replace k8 := k8.upd u215 (by omega);replace k9 := k9.upd u215 (by omega);replace k10 := k10.upd u215 (by omega);replace k11 := k11.upd u215 (by omega);replace y0 := y0.upd u215 (by omega);refine ⟨recheck_nil, ?_⟩;refine GoE.store rfl rfl rfl rfl rfl rfl rfl k8 rfl sz4 rfl rfl rfl fun h216 u216 => ?_;replace k2 := k2.upd u216 (by omega);replace k3 := k3.upd u216 (by omega);replace k4 := k4.upd u216 (by omega);replace k5 := k5.upd u216 (by omega);replace k6 := k6.upd u216 (by omega);replace k7 := k7.upd u216 (by omega);replace k8 := u216.has k8;replace k9 := k9.upd u216 (by omega);replace k10 := k10.upd u216 (by omega);replace k11 := k11.upd u216 (by omega);replace y0 := y0.upd u216 (by omega);refine ⟨recheck_nil, ?_⟩;refine GoE.end rfl ?_;apply gS;refine gR rfl ?_;refine gO rfl rfl (fa35_0 rfl) rfl ?_;refine gO rfl rfl (ld3 rfl k9 rfl) rfl ?_;refine gP ?_;refine gO rfl rfl (aOp_min2 rfl rfl rfl) rfl ?_;refine gO rfl rfl (fa35_1 rfl) rfl ?_;refine gO rfl rfl (ld3 rfl k9 rfl) rfl ?_;refine gP ?_;refine gO rfl rfl (aOp_max2 rfl rfl rfl) rfl ?_;refine GoR.call rfl rfl (aCF aFunc21 rfl) (span21_ok) ?_ np;rintro v217 h217 ⟨q, x217⟩;cases q;refine ⟨_, rfl, ?_⟩;replace k2 := k2.ext x217;replace k3 := k3.ext x217;replace k4 := k4.ext x217;replace k5 := k5.ext x217;replace k6 := k6.ext x217;replace k7 := k7.ext x217;replace k8 := k8.ext x217;replace k9 := k9.ext x217;replace k10 := k10.ext x217;replace k11 := k11.ext x217;replace y0 := y0.ext x217;refine GoR.store rfl rfl rfl rfl rfl rfl k9 rfl sz35 rfl rfl rfl fun h218 u218 => ?_;replace k2 := k2.upd u218 (by omega);replace k3 := k3.upd u218 (by omega);replace k4 := k4.upd u218 (by omega);replace k5 := k5.upd u218 (by omega);replace k6 := k6.upd u218 (by omega);replace k7 := k7.upd u218 (by omega);replace k8 := k8.upd u218 (by omega);replace k9 := u218.has k9;replace k10 := k10.upd u218 (by omega);replace k11 := k11.upd u218 (by omega);replace y0 := y0.upd u218 (by omega);apply gE;iterate 2 apply gS
   refine gR rfl ?_;refine gP ?_;refine gO rfl rfl (ld3 rfl k10 rfl) rfl ?_;refine gO rfl rfl (kXT rfl rfl) rfl ?_;apply gE;refine gC (b := true) rfl ?_;refine gR rfl ?_;iterate 2 refine gP ?_
   apply gE;refine gR rfl ?_;refine gO rfl rfl (fa35_0 rfl) rfl ?_;refine gO rfl rfl (ld3 rfl k11 rfl) rfl ?_;refine gP ?_;refine gO rfl rfl (aOp_min2 rfl rfl rfl) rfl ?_;refine gO rfl rfl (fa35_1 rfl) rfl ?_;refine gO rfl rfl (ld3 rfl k11 rfl) rfl ?_;refine gP ?_;refine gO rfl rfl (aOp_max2 rfl rfl rfl) rfl ?_;refine GoR.call rfl rfl (aCF aFunc21 rfl) (span21_ok) ?_ np;rintro v219 h219 ⟨q, x219⟩;cases q;refine ⟨_, rfl, ?_⟩;replace k2 := k2.ext x219;replace k3 := k3.ext x219;replace k4 := k4.ext x219;replace k5 := k5.ext x219;replace k6 := k6.ext x219;replace k7 := k7.ext x219;replace k8 := k8.ext x219;replace k9 := k9.ext x219;replace k10 := k10.ext x219;replace k11 := k11.ext x219;replace y0 := y0.ext x219;refine GoR.store rfl rfl rfl rfl rfl rfl k11 rfl sz35 rfl rfl rfl fun h220 u220 => ?_;replace k2 := k2.upd u220 (by omega);replace k3 := k3.upd u220 (by omega);replace k4 := k4.upd u220 (by omega);replace k5 := k5.upd u220 (by omega);replace k6 := k6.upd u220 (by omega);replace k7 := k7.upd u220 (by omega);replace k8 := k8.upd u220 (by omega);replace k9 := k9.upd u220 (by omega);replace k10 := k10.upd u220 (by omega);replace k11 := u220.has k11;replace y0 := y0.upd u220 (by omega);apply gE
   simp only [min_if, max_if] at k9 k11
   exact Go.endL (FLeft.ret (v := .tuple []) (aResult_of Try.func31 rfl rfl) ⟨rfl, y0, k6, k7, k8, k9, k11⟩)
end Go.Proofs.Ytkhiagdmbajimaa

namespace Go.Proofs.Ytkhiagdmbajimaa
open Go Go.AbsE
set_option linter.unusedSimpArgs false
set_option maxRecDepth 100000
set_option maxHeartbeats 0
set_option linter.unusedVariables false
noncomputable def ops5a : Array Oper := ((drawnOps Try.f5)[0]?).getD #[]
theorem befs5a : befs0 ops5a = [0, 1, 0, 7, 0, 16, 0, 112, 0, 0, 783, 2047] := by kernel_rfl
theorem size5a : ops5a.size = 12 := by kernel_rfl
theorem pl5a_8_9 : planX ops5a [0, 1, 0, 7, 0, 16, 0, 112, 0, 256, 783, 2047] [0, 1, 2, 3, 4, 5, 6, 7, 8, 9, 10, 11] = some (mkPlan ops5a.toList [(0, 0, true, false), (1, 1, true, false), (2, 0, true, false), (3, 7, true, false), (4, 0, true, false), (5, 16, true, false), (6, 0, true, false), (7, 112, true, false), (8, 0, false, false), (9, 256, false, false), (10, 783, false, false), (11, 2047, false, false)]) := by kernel_rfl
theorem pl5a_9_8 : planX ops5a [0, 1, 0, 7, 0, 16, 0, 112, 512, 0, 783, 2047] [0, 1, 2, 3, 4, 5, 6, 7, 9, 8, 10, 11] = some (mkPlan ops5a.toList [(0, 0, true, false), (1, 1, true, false), (2, 0, true, false), (3, 7, true, false), (4, 0, true, false), (5, 16, true, false), (6, 0, true, false), (7, 112, true, false), (9, 0, false, false), (8, 512, false, false), (10, 783, false, false), (11, 2047, false, false)]) := by kernel_rfl
theorem alts5a {P : Program} {c : FC} {k : List AItem} {id : Nat} {t : Tr AVal} {h : AH} {Q : AM → Prop}
  (g8_9 : ∀ pl, planX ops5a [0, 1, 0, 7, 0, 16, 0, 112, 0, 256, 783, 2047] [0, 1, 2, 3, 4, 5, 6, 7, 8, 9, 10, 11] = some pl → GoE P c k Q ops5a pl (eraseT ops5a.toList t) [] t h)
  (g9_8 : ∀ pl, planX ops5a [0, 1, 0, 7, 0, 16, 0, 112, 512, 0, 783, 2047] [0, 1, 2, 3, 4, 5, 6, 7, 9, 8, 10, 11] = some pl → GoE P c k Q ops5a pl (eraseT ops5a.toList t) [] t h) :
  Go P c (.code (.region id ops5a true) :: k) t h Q := by
 refine Go.drawnX pl5a_9_8 fun s hv => ?_
 have hb := fun i k hi hk => VB.before hv befs5a i k (by rw [size5a]; exact hi) hk
 have d9_8 := VB.apart hv befs5a 9 8 (by rw [size5a]; decide) (by decide)
 by_cases q9_8 : s.idxOf 9 < s.idxOf 8
 ·refine ⟨_, _, _, pl5a_9_8, VB.alt hv befs5a size5a [(9, 8)] (by kernel_rfl) ?_, g9_8 _ pl5a_9_8⟩
  intro e he
  simp only [List.mem_cons, List.not_mem_nil, or_false] at he
  rcases he with rfl <;> dsimp only <;> omega
 ·refine ⟨_, _, _, pl5a_8_9, VB.alt hv befs5a size5a [(8, 9)] (by kernel_rfl) ?_, g8_9 _ pl5a_8_9⟩
  intro e he
  simp only [List.mem_cons, List.not_mem_nil, or_false] at he
  rcases he with rfl <;> dsimp only <;> omega
theorem foldJ_hi {m : Int} : ∀ (l : List (Int × Int)) (a : Int × Int), (l.foldl joinP a).2 ≤ m ↔ a.2 ≤ m ∧ ∀ p, p ∈ l → p.2 ≤ m := by
 intro l
 induction l with
 | nil => intro a; simp
 | cons x l ih =>
  intro a
  rw [List.foldl_cons, ih]
  show max a.2 x.2 ≤ m ∧ _ ↔ _
  constructor
  ·rintro ⟨h1, h2⟩;refine ⟨by omega, fun p hp => ?_⟩
   rcases List.mem_cons.1 hp with rfl | hp
   ·omega
   ·exact h2 p hp
  ·rintro ⟨h1, h2⟩
   have := h2 x (by simp)
   exact ⟨by omega, fun p hp => h2 p (by simp [hp])⟩
theorem foldJ_lo {m : Int} : ∀ (l : List (Int × Int)) (a : Int × Int), m ≤ (l.foldl joinP a).1 ↔ m ≤ a.1 ∧ ∀ p, p ∈ l → m ≤ p.1 := by
 intro l
 induction l with
 | nil => intro a; simp
 | cons x l ih =>
  intro a
  rw [List.foldl_cons, ih]
  show m ≤ min a.1 x.1 ∧ _ ↔ _
  constructor
  ·rintro ⟨h1, h2⟩;refine ⟨by omega, fun p hp => ?_⟩
   rcases List.mem_cons.1 hp with rfl | hp
   ·omega
   ·exact h2 p hp
  ·rintro ⟨h1, h2⟩
   have := h2 x (by simp)
   exact ⟨by omega, fun p hp => h2 p (by simp [hp])⟩
theorem join_same {L M : List (Int × Int)} (h : ∀ p, p ∈ L ↔ p ∈ M) {a : Int × Int} (hM : M ≠ []) (ha : ∀ p, p ∈ M → p.1 ≤ a.1 ∧ a.2 ≤ p.2 ∧ p.1 ≤ 9223372036854775807 ∧ -9223372036854775808 ≤ p.2) : L.foldl joinP a = joinL M := by
 obtain ⟨x, hx⟩ := List.exists_mem_of_ne_nil M hM
 have h1 : ∀ m, m ≤ (L.foldl joinP a).1 ↔ m ≤ (joinL M).1 := fun m => by
  unfold joinL
  rw [foldJ_lo, foldJ_lo]
  constructor
  ·rintro ⟨q1, q2⟩
   have := q2 x ((h x).2 hx)
   have := ha x hx
   exact ⟨by show m ≤ 9223372036854775807; omega, fun p hp => q2 p ((h p).2 hp)⟩
  ·rintro ⟨q1, q2⟩
   have := q2 x hx
   have := ha x hx
   exact ⟨by omega, fun p hp => q2 p ((h p).1 hp)⟩
 have h2 : ∀ m, (L.foldl joinP a).2 ≤ m ↔ (joinL M).2 ≤ m := fun m => by
  unfold joinL
  rw [foldJ_hi, foldJ_hi]
  constructor
  ·rintro ⟨q1, q2⟩
   have := q2 x ((h x).2 hx)
   have := ha x hx
   exact ⟨by show -9223372036854775808 ≤ m; omega, fun p hp => q2 p ((h p).2 hp)⟩
  ·rintro ⟨q1, q2⟩
   have := q2 x hx
   have := ha x hx
   exact ⟨by omega, fun p hp => q2 p ((h p).1 hp)⟩
 have a1 := (h1 _).1 (Int.le_refl _)
 have a2 := (h1 _).2 (Int.le_refl _)
 have a3 := (h2 _).1 (Int.le_refl _)
 have a4 := (h2 _).2 (Int.le_refl _)
 exact Prod.ext (by omega) (by omega)
theorem set_same {L M : List Nat} (h : ∀ x, x ∈ L ↔ x ∈ M) : setV L = setV M := by
 refine Nat.eq_of_testBit_eq fun i => ?_;rw [set_bit, set_bit];exact decide_eq_decide.2 (h i)
theorem map_same {α : Type} {V T : List (List Int)} (f : List Int → α) (h : ∀ l, l ∈ V ↔ l ∈ T) (x : α) : x ∈ V.map f ↔ x ∈ T.map f := by
 rw [List.mem_map, List.mem_map];exact ⟨fun ⟨l, q, r⟩ => ⟨l, (h l).1 q, r⟩, fun ⟨l, q, r⟩ => ⟨l, (h l).2 q, r⟩⟩
theorem water_pair {D : DrainV} (c : List Nat) (a : Nat) : D.water c a = (wat c (lows D) a, wat c (highs D) a) := water_wat D c a
theorem way_straight {D : DrainV} (l : List Int) (a b : Nat) : way31 D l a b = D.straight (D.course 0 l) a b := by
 unfold way31 DrainV.straight
 rw [water_pair]
end Go.Proofs.Ytkhiagdmbajimaa
