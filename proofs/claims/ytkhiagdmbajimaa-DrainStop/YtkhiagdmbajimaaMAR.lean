import Derived.Test.YtkhiagdmbajimaaMAQ
import Derived.Test.YtkhiagdmbajimaaMAG
import Derived.Deep.Slices
import Derived.Lib.SmallJoins
import Derived.Carry
namespace Go.Proofs.Ytkhiagdmbajimaa
open Go Go.AbsE
set_option linter.unusedSimpArgs false
set_option maxRecDepth 100000
set_option maxHeartbeats 0
set_option linter.unusedVariables false
theorem ext_le {h h1 : AH} (e : Ext h h1) : h.next ≤ h1.next := e.1
theorem copy_ext {h h1 : AH} {lo : Nat} (n : h.next ≤ h1.next) (s : ∀ c, c < lo → h1.get c = h.get c) : ExtF (fun c => lo ≤ c) h h1 := ⟨n, fun b _ hn => s b (by omega)⟩
theorem ints_slice {h : AH} {el : TypeId} {lo : Nat} {s : AVal} {l : List Int} {n : Nat} (hn : l.length = n) (G : Grow h el 1 lo s n (i64s l)) : SliceOf h 1 s (l.map fun x => [AVal.int .i64 x]) := nums_sl hn G
structure Pre (D : DrainV) (p : List Int) : Prop where
 le : p.length ≤ D.bs.length
 va : ∀ (i : Nat) (b : BkV) (x : Int), D.bs[i]? = some b → p[i]? = some x → b.ll ≤ x ∧ x ≤ b.lh
theorem Pre.nil (D : DrainV) : Pre D [] := ⟨by simp, fun i b x _ h => by cases h⟩
theorem Pre.snoc {D : DrainV} {p : List Int} (k : Pre D p) {b : BkV} (hb : D.bs[p.length]? = some b) {x : Int} (hx : b.ll ≤ x ∧ x ≤ b.lh) : Pre D (p ++ [x]) := by
 have hl := (List.getElem?_eq_some_iff.1 hb).1
 refine ⟨by rw [List.length_append]; simp; omega, fun i b' y h1 h2 => ?_⟩
 by_cases hi : i < p.length
 ·rw [List.getElem?_append_left hi] at h2;exact k.va i b' y h1 h2
 ·rw [List.getElem?_append_right (by omega)] at h2
  have h3 := (List.getElem?_eq_some_iff.1 h2).1
  have hip : i = p.length := by simp at h3; omega
  subst hip;rw [Nat.sub_self] at h2;cases h2;rw [hb] at h1;cases h1;exact hx
theorem Pre.full {D : DrainV} {p : List Int} (k : Pre D p) (h : p.length = D.bs.length) : p ∈ levsV D.bs := mem_levs h k.va
theorem take_one {l p : List Int} {n : Nat} (hn : p.length < n) (hl : l.length = n) {x : Int} : l.take (p.length + 1) = p ++ [x] ↔ l.take p.length = p ∧ lv l p.length = x := by
 have hg : l[p.length]? = some (lv l p.length) := by unfold lv; simp [hl, hn]
 rw [List.take_add_one, hg, Option.toList_some]
 constructor
 ·intro q
  have := List.append_inj q (by rw [List.length_take]; omega)
  exact ⟨this.1, by injection this.2⟩
 ·rintro ⟨h1, h2⟩;rw [h1, h2]
theorem courses26_e {D : DrainV} (O : D.Ok) {b d r s ls : AVal} {l : List Int} (hl : l.length = D.bs.length) {st : Nat} {h : AH} (A : DrainAt h D b d r s) (S : SliceOf h 1 ls (l.map fun x => [AVal.int .i64 x])) :
  Runs Try.prog 26 [.agg (dC b d r s), ls, .int .i64 (st : Nat)] h (fun en h' => ∃ sl, en = .ret sl ∧ Ext h h' ∧ Grow h' 3 1 h.next sl D.bs.length (i64s (sgnC (D.course st l))) ∧ Ext h' h') :=
 (courses26_ok O hl A S).mono fun en h' ⟨sl, q, e, G⟩ => ⟨sl, q, e, G, Ext.refl h'⟩
theorem take_full {D : DrainV} {p l : List Int} (hp : p.length + 0 = D.bs.length) (hl : l ∈ D.truths) (h : l.take p.length = p) : l = p := by
 have := levs_len (List.mem_filter.1 hl).1
 rw [List.take_of_length_le (by omega)] at h;exact h
section
variable {D : DrainV} {b d r s : AVal} {g : AH} {F : FuncId} {fF : Func} {caps : List AVal} {S : Nat → Prop} {Inv : List (List Int) → AH → Prop} {B2 B3 B4 : Nat}
theorem on65_ok (O : D.Ok) (A : DrainAt g D b d r s) (hF : aFunc Try.prog F = some fF) (hS : ∀ x, S x → g.next ≤ x) (hB : (g.next ≤ B2 ∧ ¬ S B2) ∧ (g.next ≤ B3 ∧ ¬ S B3) ∧ (g.next ≤ B4 ∧ ¬ S B4))
  (keep : ∀ V h h', Inv V h → Ext h h' → Inv V h')
  (step : ∀ V l sl h', Ext g h' → l ∈ D.truths → Inv V h' → SliceOf h' 1 sl (l.map fun x => [AVal.int .i64 x]) → Runs Try.prog F ([sl] ++ caps) h' (fun en h'' => en = .ret (.tuple []) ∧ ExtF S h' h'' ∧ Inv (V ++ [l]) h'')) :
  ∀ (N : Nat) {p : List Int} (hp : p.length + N = D.bs.length) (P : Pre D p) {V : List (List Int)} {sl : AVal} {h : AH} (e9 : Ext g h) (f2 : Has h B2 (.cells .plain [b, d, r, s] 29)) (f3 : Has h B3 (.cells .plain [.func (.func F) [] caps] 62)) (f4 : Has h B4 (.cells .plain [.func (.func 65) [] [.ptr B2 0, .ptr B4 0, .ptr B3 0]] 62)) (hSl : ∀ x, S x → x < h.next) (I : Inv V h) (SpK : ∀ h', ExtF S h h' → SliceOf h' 1 sl (p.map fun x => [AVal.int .i64 x])),
   Runs Try.prog 65 [sl, .ptr B2 0, .ptr B4 0, .ptr B3 0] h (fun en h' => en = .ret (.tuple []) ∧ ExtF S h h' ∧ ∃ V', Inv (V ++ V') h' ∧ ∀ l, l ∈ V' ↔ (l ∈ D.truths ∧ l.take p.length = p)) := by
 have hnb := O.nb
 have hns := O.ns
 have hl1 := A.bs.len
 have hl4 := A.ss.len
 rw [List.length_map] at hl1 hl4
 have hsm := A.same
 intro N
 induction N with
 | zero =>
  intro p hp P V sl h e9 f2 f3 f4 hSl I SpK
  have Sp := SpK h (ExtF.of (Ext.refl _))
  have hsl := Sp.len
  rw [List.length_map] at hsl
  have hsms := Sp.same
  have hco := fun h' e e' => courses26_e O (b := b) (d := d) (r := r) (s := s) (ls := sl) (l := p) (by omega) (st := 0) (h := h') (A.ext e) (Sp.ext e')
  have e8 : Ext h h := Ext.refl _
  have hmem := P.full (by omega)
  unfold dC at *
  refine Runs.intro aFunc65 rfl rfl rfl rfl fun rest => ?_;iterate 2 apply gS
  refine gR rfl ?_;refine gP ?_;refine gO rfl rfl (aOp_lenSlice Try.underlying47 rfl hsl) rfl ?_;refine gP ?_;apply gE;apply gS;refine gR rfl ?_;refine gP ?_;refine gO rfl rfl (fa29_0 rfl) rfl ?_;refine gO rfl rfl (ld25 rfl f2 rfl) rfl ?_;refine gO rfl rfl (aOp_lenSlice Try.underlying25 rfl hl1) rfl ?_;refine gO rfl rfl (kLF rfl rfl) rfl ?_;apply gE;refine gC (b := false) rfl ?_;refine gD ?_;apply gS;refine gR rfl ?_;refine gO rfl rfl (ld29 rfl f2 rfl) rfl ?_;refine gP ?_;refine GoR.call rfl rfl (aCF aFunc26 rfl) (hco _ e9 e8) ?_ (by rintro _ _ ⟨sn, q, _, GN, e7⟩; cases q);rintro v5 h5 ⟨sn, q, x5, GN, e7⟩;cases q;refine ⟨_, rfl, ?_⟩;have := e9.1;have := e8.1;replace f2 := f2.ext x5;replace f3 := f3.ext x5;replace f4 := f4.ext x5;replace e9 := e9.trans x5;replace e8 := e8.trans x5;refine gP ?_;apply gE;iterate 2 apply gS
  refine gR rfl ?_;refine gO rfl rfl (fa29_3 rfl) rfl ?_;refine gO rfl rfl (ld26 rfl f2 rfl) rfl ?_;refine gO rfl rfl (aOp_lenSlice Try.underlying26 rfl hl4) rfl ?_;refine gP ?_;apply gE;refine Go.block noJ_ok ?_
  have hcl := course_len D 0 p
  have hsgl : (sgnC (D.course 0 p)).length = D.bs.length := by unfold sgnC; rw [List.length_map, hcl]
  refine Go.loopKeep (fun i : Nat => [(0, sl), (1, .ptr B2 0), (2, .ptr B4 0), (3, .ptr B3 0), (7, v5), (47, s), (48, .int .i64 D.ss.length), (49, .int .i64 (i : Nat))])
   (fun m i h' => m + i = D.ss.length ∧ Ext g h' ∧ Ext h h' ∧ Ext h5 h' ∧ Has h' B3 (.cells .plain [.func (.func F) [] caps] 62) ∧ ∀ w, w ∈ D.ss.take i → (nx (D.course 0 p) w.1.toNat : Int) = w.2) (n := D.ss.length) 0 ⟨rfl, rfl, rfl, rfl, rfl, rfl, rfl, rfl, trivial⟩ ⟨rfl, e9, e8, e7, f3, fun w hw => by simp at hw⟩ ?_
  have hgn := ints_slice hsgl GN
  clear e9 e8 e7 f2 f3 f4;rintro m i h30 ⟨hm, e9, e8, e7, f3, hall⟩ again
  have he8 := e8.1
  by_cases hi : i < D.ss.length
  ·obtain ⟨⟨xa, xb⟩, hx⟩ : ∃ x, D.ss[i]? = some x := ⟨D.ss[i], by simp [hi]⟩
   have hxo := O.s _ (List.mem_of_getElem? hx)
   unfold PairOk at hxo
   dsimp only at hxo
   obtain ⟨a, rfl⟩ := Int.eq_ofNat_of_zero_le hxo.1.1
   obtain ⟨bq, off, q1, q2⟩ := A.ss.at (i := i) (l := spC ((a : Int), xb)) (by rw [List.getElem?_map, hx]; rfl)
   rw [List.length_map] at q1
   unfold spC at q2
   dsimp only at q2
   have hsa : (sgnC (D.course 0 p))[a]? = some (sgn D.bs.length (nx (D.course 0 p) a)) := by
    unfold sgnC
    rw [List.getElem?_map, hcl]
    have : (D.course 0 p)[a]? = some (nx (D.course 0 p) a) := by unfold nx; simp [hcl, show a < D.bs.length by omega]
    rw [this]
    rfl
   obtain ⟨bt, ot, t1, t2⟩ := hgn.at (i := a) (l := [.int .i64 (sgn D.bs.length (nx (D.course 0 p) a))]) (by rw [List.getElem?_map, hsa]; rfl)
   rw [List.length_map, hsgl] at t1
   have hdn := course_down O hmem 0
   have hle := hdn.le a (by omega)
   rw [hcl] at hle
   by_cases c1 : ((nx (D.course 0 p) a : Nat) : Int) = xb
   ·have hsx : sgn D.bs.length (nx (D.course 0 p) a) = xb := by rw [sgn_lt (by omega)]; exact c1
    rw [hsx] at t2;apply gS;refine gR rfl ?_;refine gO rfl rfl (kLT rfl rfl) rfl ?_;apply gE;apply gS;refine gC (b := true) rfl ?_;refine gD ?_;apply gS;refine Go.block noJ_ok ?_;apply gS;refine gR rfl ?_;refine gO rfl rfl (aOp_indexAddr (i := i) Try.underlying26 sz32 rfl q1 rfl (Nat.ble_eq_true_of_le hi)) rfl ?_;refine gO rfl rfl (aOp_loadE ag32 sz32 rfl (q2.ext e9)) rfl ?_;refine GoR.alloc rfl rfl rfl zt32 rfl rfl fun h31 x31 f31 => ?_;have := e9.1;have := e8.1;have := e7.1;have := f3.1;replace f3 := f3.ext x31;replace e9 := e9.trans x31;replace e8 := e8.trans x31;replace e7 := e7.trans x31;have := f31.1;refine GoR.store rfl rfl rfl rfl rfl rfl f31 rfl sz32 rfl rfl rfl fun h32 u32 => ?_;replace f31 := u32.has f31;replace f3 := f3.upd u32 (by omega);replace e9 := e9.upd u32 (by omega);replace e8 := e8.upd u32 (by omega);replace e7 := e7.upd u32 (by omega);apply gE;apply gS;refine Go.drawnE plan65_1 ?_;refine gQ rfl rfl rfl rfl ?_;refine gQ rfl rfl (fa32_0 rfl) rfl ?_;refine gQ rfl rfl (ld3 rfl f31 rfl) rfl ?_;refine gQ rfl rfl (aOp_indexAddr (i := a) Try.underlying47 sz3 rfl t1 rfl (Nat.ble_eq_true_of_le (by omega))) rfl ?_;refine gQ rfl rfl ((aOp_loadE1 (k := 0) ag3 rfl (t2.ext e7) rfl)) rfl ?_;refine gQ rfl rfl (fa32_1 rfl) rfl ?_;refine gQ rfl rfl (ld3 rfl f31 rfl) rfl ?_;refine gQ rfl rfl (kXF rfl rfl) rfl ?_;refine GoE.end rfl ?_;refine gC (b := false) rfl ?_;refine gD ?_;refine Go.inBlock noJ_ok ?_;refine gR rfl ?_;refine gO rfl rfl (aA rfl rfl) rfl ?_;refine gP ?_;apply gE;refine again (m - 1) (i + 1) _ _ (by omega) ⟨rfl, rfl, rfl, rfl, rfl, rfl, rfl, rfl, trivial⟩ ⟨by omega, e9, e8, e7, f3, fun w hw => ?_⟩;rw [List.take_add_one, hx, Option.toList_some, List.mem_append, List.mem_singleton] at hw
    rcases hw with hw | rfl
    ·exact hall w hw
    ·dsimp only
     rw [Int.toNat_natCast];exact c1
   ·have hsx : sgn D.bs.length (nx (D.course 0 p) a) ≠ xb := by
     unfold sgn
     split <;> omega
    obtain ⟨sx, hsx2⟩ : ∃ z, sgn D.bs.length (nx (D.course 0 p) a) = z := ⟨_, rfl⟩
    rw [hsx2] at t2 hsx
    have hbad : ¬ p ∈ D.truths := fun q => by
     have h1 := (List.mem_filter.1 q).2
     unfold DrainV.okSeen at h1
     rw [only_all, List.all_eq_true] at h1
     have h2 := of_decide_eq_true (h1 _ (List.mem_of_getElem? hx))
     dsimp only at h2
     rw [Int.toNat_natCast] at h2;exact c1 h2
    apply gS;refine gR rfl ?_;refine gO rfl rfl (kLT rfl rfl) rfl ?_;apply gE;apply gS;refine gC (b := true) rfl ?_;refine gD ?_;apply gS;refine Go.block noJ_ok ?_;apply gS;refine gR rfl ?_;refine gO rfl rfl (aOp_indexAddr (i := i) Try.underlying26 sz32 rfl q1 rfl (Nat.ble_eq_true_of_le hi)) rfl ?_;refine gO rfl rfl (aOp_loadE ag32 sz32 rfl (q2.ext e9)) rfl ?_;refine GoR.alloc rfl rfl rfl zt32 rfl rfl fun h31 x31 f31 => ?_;have := e9.1;have := e8.1;have := e7.1;have := f3.1;replace e8 := e8.trans x31;replace e7 := e7.trans x31;have := f31.1;refine GoR.store rfl rfl rfl rfl rfl rfl f31 rfl sz32 rfl rfl rfl fun h32 u32 => ?_;replace f31 := u32.has f31;replace e8 := e8.upd u32 (by omega);replace e7 := e7.upd u32 (by omega);apply gE;apply gS;refine Go.drawnE plan65_1 ?_;refine gQ rfl rfl rfl rfl ?_;refine gQ rfl rfl (fa32_0 rfl) rfl ?_;refine gQ rfl rfl (ld3 rfl f31 rfl) rfl ?_;refine gQ rfl rfl (aOp_indexAddr (i := a) Try.underlying47 sz3 rfl t1 rfl (Nat.ble_eq_true_of_le (by omega))) rfl ?_;refine gQ rfl rfl ((aOp_loadE1 (k := 0) ag3 rfl (t2.ext e7) rfl)) rfl ?_;refine gQ rfl rfl (fa32_1 rfl) rfl ?_;refine gQ rfl rfl (ld3 rfl f31 rfl) rfl ?_;refine gQ rfl rfl (kXT rfl rfl) rfl ?_;refine GoE.end rfl ?_;refine gC (b := true) rfl ?_;exact gV (ret_end (aResult_of Try.func65 rfl rfl) ⟨rfl, ExtF.of e8, [], by rw [List.append_nil]; exact keep _ _ _ I e8, fun l => ⟨fun q => (by cases q), fun q => absurd (take_full hp q.1 q.2 ▸ q.1) hbad⟩⟩)
  ·rw [List.take_of_length_le (by omega)] at hall
   have hok : p ∈ D.truths := by
    refine List.mem_filter.2 ⟨hmem, ?_⟩
    unfold DrainV.okSeen
    rw [only_all, List.all_eq_true];exact fun w hw => decide_eq_true (hall w hw)
   have hst := fun h' e e' => step V p sl h' e hok (keep _ _ _ I e') (Sp.ext e')
   clear again;apply gS;refine gR rfl ?_;refine gO rfl rfl (kLF rfl rfl) rfl ?_;apply gE;apply gS;refine gC (b := false) rfl ?_;refine gD ?_;refine gR rfl ?_;refine gO rfl rfl (ld62 rfl f3 rfl) rfl ?_;refine gP ?_;refine GoR.call rfl rfl (aOp_callVal rfl hF rfl) (hst _ e9 e8) ?_ np;rintro v40 h40 ⟨q, x40, I'⟩;cases q;refine ⟨_, rfl, ?_⟩
   have z40 : ExtF S h h40 := (ExtF.of e8).trans (fun b q => .inl q) x40
   clear e9 e8 e7 f3 x40;apply gE;exact Go.endL (FLeft.ret (v := .tuple []) (aResult_of Try.func65 rfl rfl) ⟨rfl, z40, [p], I', fun l => ⟨fun q => by rw [List.mem_singleton.1 q]; exact ⟨hok, List.take_length⟩, fun q => List.mem_singleton.2 (take_full hp q.1 q.2)⟩⟩)
 | succ N IH =>
  intro p hp P V sl h e9 f2 f3 f4 hSl I SpK
  have Sp := SpK h (ExtF.of (Ext.refl _))
  have hsl := Sp.len
  rw [List.length_map] at hsl
  have hsms := Sp.same
  obtain ⟨x, hx⟩ : ∃ x, D.bs[p.length]? = some x := ⟨D.bs[p.length]'(by omega), by simp⟩
  have hxo := (O.b x (List.mem_of_getElem? hx)).1
  obtain ⟨bq, off, q1, q2⟩ := A.bs.at (i := p.length) (l := BkV.cells x) (by rw [List.getElem?_map, hx]; rfl)
  rw [List.length_map] at q1
  unfold BkV.cells at q2
  have e8 : Ext h h := Ext.refl _
  refine Runs.intro aFunc65 rfl rfl rfl rfl fun rest => ?_;iterate 2 apply gS
  refine gR rfl ?_;refine gP ?_;refine gO rfl rfl (aOp_lenSlice Try.underlying47 rfl hsl) rfl ?_;refine gP ?_;apply gE;apply gS;refine gR rfl ?_;refine gP ?_;refine gO rfl rfl (fa29_0 rfl) rfl ?_;refine gO rfl rfl (ld25 rfl f2 rfl) rfl ?_;refine gO rfl rfl (aOp_lenSlice Try.underlying25 rfl hl1) rfl ?_;refine gO rfl rfl (kLT rfl rfl) rfl ?_;apply gE;refine gC (b := true) rfl ?_;iterate 2 apply gS
  refine gR rfl ?_;refine gO rfl rfl (fa29_0 rfl) rfl ?_;refine gO rfl rfl (ld25 rfl f2 rfl) rfl ?_;refine gP ?_;refine gO rfl rfl (aOp_indexAddr (i := p.length) Try.underlying25 sz60 rfl q1 rfl (Nat.ble_eq_true_of_le (by omega))) rfl ?_;refine gO rfl rfl (fa60_0 rfl) rfl ?_;refine gO rfl rfl (fa35_0 rfl) rfl ?_;refine gO rfl rfl ((aOp_loadE1 (k := 0) ag3 rfl (q2.ext e9) rfl)) rfl ?_;refine gP ?_;apply gE;refine Go.block noJ_ok ?_
  have hle0 : ∀ l, l ∈ D.truths → x.ll ≤ lv l p.length ∧ lv l p.length ≤ x.lh := fun l hl => by
   obtain ⟨y, h1, h2⟩ := levs_at (List.mem_filter.1 hl).1 hx
   unfold lv
   rw [h1, Option.getD_some];exact h2
  refine Go.loopKeep (fun a : Nat × List (List Int) => [(0, sl), (1, .ptr B2 0), (2, .ptr B4 0), (3, .ptr B3 0), (5, .int .i64 p.length), (6, .int .i64 (x.ll + (a.1 : Nat)))])
   (fun m a h' => (m : Int) + (x.ll + (a.1 : Nat)) = x.lh + 1 ∧ Ext g h' ∧ ExtF S h h' ∧ Has h' B2 (.cells .plain [b, d, r, s] 29) ∧ Has h' B3 (.cells .plain [.func (.func F) [] caps] 62) ∧ Has h' B4 (.cells .plain [.func (.func 65) [] [.ptr B2 0, .ptr B4 0, .ptr B3 0]] 62) ∧ Inv (V ++ a.2) h' ∧ ∀ l, l ∈ a.2 ↔ (l ∈ D.truths ∧ l.take p.length = p ∧ lv l p.length < x.ll + (a.1 : Nat)))
   (n := (x.lh - x.ll + 1).toNat) (0, []) ⟨rfl, rfl, rfl, rfl, rfl, by show _ = some (AVal.int .i64 (x.ll + ((0 : Nat) : Int))); rw [show x.ll + ((0 : Nat) : Int) = x.ll by omega]; rfl, trivial⟩ ⟨by dsimp only; omega, e9, ExtF.of e8, f2, f3, f4, by dsimp only; rw [List.append_nil]; exact keep _ _ _ I e8, fun l => ⟨fun q => (by cases q), fun q => by have := hle0 l q.1; have := q.2.2; dsimp only at this; omega⟩⟩ ?_
  clear e9 e8 f2 f3 f4;rintro m ⟨i, W⟩ h10 ⟨hm, e9, z10, f2, f3, f4, I10, hW⟩ again
  dsimp only at hm I10 hW ⊢
  have Sp10 := SpK h10 z10
  have hz10 := z10.1
  obtain ⟨kk, hkk⟩ : ∃ z, x.ll + ((i : Nat) : Int) = z := ⟨_, rfl⟩
  rw [hkk] at hm hW ⊢
  by_cases hk : kk ≤ x.lh
  ·have hone : ∀ l, l ∈ p.map (fun x => [AVal.int .i64 x]) → l.length = 1 := fun l hl => by obtain ⟨_, _, rfl⟩ := List.mem_map.1 hl; rfl
   have hpl : (p.map fun x => [AVal.int .i64 x]).length ≤ 5 := by rw [List.length_map]; omega
   have hb2 := f2.1
   have hb3 := f3.1
   have hb4 := f4.1
   have he9 := e9.1
   iterate 2 apply gS
   refine gR rfl ?_;refine gP ?_;refine gO rfl rfl (fa29_0 rfl) rfl ?_;refine gO rfl rfl (ld25 rfl f2 rfl) rfl ?_;refine gP ?_;refine gO rfl rfl (aOp_indexAddr (i := p.length) Try.underlying25 sz60 rfl q1 rfl (Nat.ble_eq_true_of_le (by omega))) rfl ?_;refine gO rfl rfl (fa60_0 rfl) rfl ?_;refine gO rfl rfl (fa35_1 rfl) rfl ?_;refine gO rfl rfl ((aOp_loadE1 (k := 1) ag3 rfl (q2.ext e9) rfl)) rfl ?_;refine gO rfl rfl (kMT rfl rfl) rfl ?_;apply gE;refine gC (b := true) rfl ?_;refine gD ?_;apply gS;refine Go.block noJ_ok ?_;refine Go.drawnE plan65_0 ?_;refine gQ rfl rfl (ld62 rfl f4 rfl) rfl ?_;refine GoE.quietX rfl rfl (aOpX_lit (ps := []) (cs := []) Try.underlying47 rfl sz3 zt3 rfl rfl rfl) rfl ?_;iterate 2 refine gQ rfl rfl rfl rfl ?_
   refine GoE.quietX rfl rfl (aOpX_lit (ps := [(0, .int .i64 kk)]) (cs := [.int .i64 kk]) Try.underlying47 rfl sz3 zt3 rfl rfl rfl) rfl ?_;refine GoE.copy rfl rfl Try.underlying47 Try.underlying47 sz3 by3 zt3 rfl rfl rfl rfl Sp10 hone (by omega) (dK 6 5 (dK 6 4 (dD 6 2 (dD 6 1 (dK 6 0 rfl))))) rfl rfl fun v11 h11 x11 CP => ?_;replace f2 := f2.ext x11;replace f3 := f3.ext x11;replace f4 := f4.ext x11;replace e9 := e9.trans x11;refine ⟨(recheck_consX (h2 := h11) rfl (aOpX_lit (ps := [(0, .int .i64 kk)]) (cs := [.int .i64 kk]) Try.underlying47 rfl sz3 zt3 rfl rfl rfl) (by simp [sameA, sameAs, eqI_eq]) (rck (h2 := h11) rfl (rfl) (rck (h2 := h11) rfl (ld62 rfl f4 rfl) recheck_nil))), ?_⟩;refine GoE.copy1 rfl rfl Try.underlying47 Try.underlying47 sz3 by3 zt3 rfl rfl rfl rfl CP hone rfl rfl (by omega) (ext_le (by assumption)) (dD 62 5 (dD 62 4 (dK 62 0 rfl))) rfl rfl fun BG h12 lB nB sB f12 => ?_
   have y12 := copy_ext nB sB
   have := e9.1;have := f2.1;have := f3.1;have := f4.1;replace f2 := f2.extF y12 (fun q => by omega);replace f3 := f3.extF y12 (fun q => by omega);replace f4 := f4.extF y12 (fun q => by omega);replace e9 := y12.low e9 (fun b q => by omega);have := y12.1;refine ⟨(rck (h2 := h12) rfl (ld62 rfl f4 rfl) recheck_nil), ?_⟩
   have e12 : Ext h10 h12 := y12.low x11 (fun b q => q)
   have he12 := e12.1
   have hnS : ¬ S BG := fun q => by have := hSl _ q; have := hz10; omega
   have hL : (p ++ [kk]).map (fun x => [AVal.int .i64 x]) = p.map (fun x => [AVal.int .i64 x]) ++ [[AVal.int .i64 kk]] := by simp
   have SpN : ∀ h', ExtF S h12 h' → SliceOf h' 1 (.gsl BG 0 0 ((p.map fun x => [AVal.int .i64 x]).length + 1)) ((p ++ [kk]).map fun x => [AVal.int .i64 x]) := fun h' z => by
    have f' := f12.extF z hnS
    rw [← hL] at f'
    refine SliceOf.mk' rfl rfl f' (by simp) fun i l hl => ?_;rw [Nat.zero_add];exact slice_flatten (fun l hl => by obtain ⟨_, _, rfl⟩ := List.mem_map.1 hl; rfl) i l hl
   refine GoE.call rfl rfl (aOp_callVal rfl aFunc65 rfl) (IH (p := p ++ [kk]) (by simp; omega) (P.snoc hx ⟨by omega, hk⟩) (V := V ++ W) e9 f2 f3 f4 (fun x q => by have := hSl x q; omega) (keep _ _ _ I10 e12) SpN) (dD 127 0 rfl) ?_ np;rintro v40 h40 ⟨q, x40, V', I', hV'⟩;cases q;refine ⟨recheck_nil, _, rfl, ?_⟩;replace f2 := f2.extF x40 hB.1.2;replace f3 := f3.extF x40 hB.2.1.2;replace f4 := f4.extF x40 hB.2.2.2;replace e9 := x40.low e9 (fun b q => hS b q)
   have z40 : ExtF S h h40 := (z10.ext e12).trans (fun b q => .inl q) x40
   clear z10 x40 y12 x11 f12 e12;refine GoE.end rfl ?_;refine Go.inBlock noJ_ok ?_;refine gR rfl ?_;refine gP ?_;refine gO rfl rfl (aA rfl rfl) rfl ?_;refine gP ?_;apply gE;refine again (m - 1) (i + 1, W ++ V') _ _ (by omega) ⟨rfl, rfl, rfl, rfl, rfl, by show _ = some (AVal.int .i64 (x.ll + ((i + 1 : Nat) : Int))); rw [show x.ll + ((i + 1 : Nat) : Int) = kk + 1 by omega]; rfl, trivial⟩ ⟨by dsimp only; omega, e9, z40, f2, f3, f4, by dsimp only; rw [← List.append_assoc]; exact I', fun l => ?_⟩
   dsimp only
   rw [List.mem_append, hW, hV', List.length_append]
   constructor
   ·rintro (⟨q1, q2, q3⟩ | ⟨q1, q2⟩)
    ·exact ⟨q1, q2, by omega⟩
    ·have h1 := (take_one (by omega) (levs_len (List.mem_filter.1 q1).1)).1 q2
     exact ⟨q1, h1.1, by omega⟩
   ·rintro ⟨q1, q2, q3⟩
    by_cases z : lv l p.length < kk
    ·exact .inl ⟨q1, q2, z⟩
    ·exact .inr ⟨q1, (take_one (by omega) (levs_len (List.mem_filter.1 q1).1)).2 ⟨q2, by omega⟩⟩
  ·iterate 2 apply gS
   refine gR rfl ?_;refine gP ?_;refine gO rfl rfl (fa29_0 rfl) rfl ?_;refine gO rfl rfl (ld25 rfl f2 rfl) rfl ?_;refine gP ?_;refine gO rfl rfl (aOp_indexAddr (i := p.length) Try.underlying25 sz60 rfl q1 rfl (Nat.ble_eq_true_of_le (by omega))) rfl ?_;refine gO rfl rfl (fa60_0 rfl) rfl ?_;refine gO rfl rfl (fa35_1 rfl) rfl ?_;refine gO rfl rfl ((aOp_loadE1 (k := 1) ag3 rfl (q2.ext e9) rfl)) rfl ?_;refine gO rfl rfl (kMF rfl rfl) rfl ?_;apply gE;refine gC (b := false) rfl ?_;refine gD ?_;exact gV (ret_end (aResult_of Try.func65 rfl rfl) ⟨rfl, z10, W, I10, fun l => ⟨fun q => ⟨((hW l).1 q).1, ((hW l).1 q).2.1⟩, fun q => (hW l).2 ⟨q.1, q.2, by have := hle0 l q.1; omega⟩⟩⟩)
theorem each30_ok (O : D.Ok) (A : DrainAt g D b d r s) (hF : aFunc Try.prog F = some fF) (hS : ∀ x, S x → g.next ≤ x) (hcs : scalars [.func (.func F) [] caps] = true)
  (keep : ∀ V h h', Inv V h → Ext h h' → Inv V h')
  (step : ∀ V l sl h', Ext g h' → l ∈ D.truths → Inv V h' → SliceOf h' 1 sl (l.map fun x => [AVal.int .i64 x]) → Runs Try.prog F ([sl] ++ caps) h' (fun en h'' => en = .ret (.tuple []) ∧ ExtF S h' h'' ∧ Inv (V ++ [l]) h''))
  {h : AH} (e9 : Ext g h) (hSl : ∀ x, S x → x < h.next) (I : Inv [] h) :
  Runs Try.prog 30 [.agg (dC b d r s), .func (.func F) [] caps] h (fun en h' => en = .ret (.tuple []) ∧ ExtF S h h' ∧ ∃ V, Inv V h' ∧ ∀ l, l ∈ V ↔ l ∈ D.truths) := by
 have hnb := O.nb
 have hsm := A.same
 have e8 : Ext h h := Ext.refl _
 have hge := e9.1
 have hon := fun (B2 B3 B4 : Nat) (hB : (g.next ≤ B2 ∧ ¬ S B2) ∧ (g.next ≤ B3 ∧ ¬ S B3) ∧ (g.next ≤ B4 ∧ ¬ S B4)) {h' : AH} (e : Ext g h') f2 f3 f4 hSl I => on65_ok (F := F) (caps := caps) (S := S) (Inv := Inv) O A hF hS hB keep step D.bs.length (p := []) (by simp) (Pre.nil D) (V := []) (sl := .nilslice) (h := h') e f2 f3 f4 hSl I fun _ _ => .nil
 unfold dC at *
 refine Runs.intro aFunc30 rfl rfl rfl rfl fun rest => ?_;apply gS;refine gR rfl ?_;refine GoR.box rfl rfl rfl rfl rfl rfl fun h0 x0 f0 => ?_;have := e9.1;have := e8.1;replace e9 := e9.trans x0;replace e8 := e8.trans x0;have := f0.1;refine GoR.box rfl rfl rfl rfl rfl rfl fun h1 x1 f1 => ?_;have := e9.1;have := e8.1;have := f0.1;replace f0 := f0.ext x1;replace e9 := e9.trans x1;replace e8 := e8.trans x1;have := f1.1;apply gE;apply gS;refine gR rfl ?_;refine GoR.alloc rfl rfl rfl zt62 rfl rfl fun h2 x2 f2 => ?_;have := e9.1;have := e8.1;have := f1.1;have := f0.1;replace f1 := f1.ext x2;replace f0 := f0.ext x2;replace e9 := e9.trans x2;replace e8 := e8.trans x2;have := f2.1;apply gE;apply gS;refine gR rfl ?_;refine gP ?_;refine GoR.store rfl rfl rfl rfl rfl rfl f2 rfl sz62 rfl rfl rfl fun h3 u3 => ?_;replace f2 := u3.has f2;replace f1 := f1.upd u3 (by omega);replace f0 := f0.upd u3 (by omega);replace e9 := e9.upd u3 (by omega);replace e8 := e8.upd u3 (by omega);apply gE;refine gR rfl ?_;refine gO rfl rfl (ld62 rfl f2 rfl) rfl ?_
 have hu := u3.1
 have hq2 := f0.1
 have hq3 := f1.1
 have hq4 := f2.1
 refine GoR.call rfl rfl (aOp_callVal rfl aFunc65 rfl) (hon _ _ _ ⟨⟨by omega, fun q => by have := hSl _ q; omega⟩, ⟨by omega, fun q => by have := hSl _ q; omega⟩, ⟨by omega, fun q => by have := hSl _ q; omega⟩⟩ e9 f0 f1 f2 (fun x q => by have := hSl x q; omega) (keep _ _ _ I e8)) ?_ np;rintro v40 h40 ⟨q, x40, V', I', hV'⟩;cases q;refine ⟨_, rfl, ?_⟩
 have z40 : ExtF S h h40 := (ExtF.of e8).trans (fun b q => .inl q) x40
 clear e8 e9 f0 f1 f2 x40;apply gE;exact Go.endL (FLeft.ret (v := .tuple []) (aResult_of Try.func30 rfl rfl) ⟨rfl, z40, V', by rw [List.nil_append] at I'; exact I', fun l => by rw [hV']; simp⟩)
end
end Go.Proofs.Ytkhiagdmbajimaa

namespace Go.Proofs.Ytkhiagdmbajimaa
open Go Go.AbsE
set_option linter.unusedSimpArgs false
set_option maxRecDepth 100000
set_option maxHeartbeats 0
set_option linter.unusedVariables false
def highs (D : DrainV) : List Int := D.bs.map fun b => b.yh
theorem highs_in {D : DrainV} (O : D.Ok) (b : Nat) : 0 ≤ lv (highs D) b ∧ lv (highs D) b ≤ 20 := by
 unfold highs lv
 rw [List.getElem?_map]
 cases q : D.bs[b]? with
 | none => simp
 | some x =>
  have := (O.b x (List.mem_of_getElem? q)).2
  show 0 ≤ x.yh ∧ x.yh ≤ 20
  omega
def okR (D : DrainV) (st : Nat) (l : List Int) : Bool := !(D.rs.any (D.can (D.course st l)))
def okS (D : DrainV) (st : Nat) : Bool := D.truths.all (okR D st)
theorem keeps_two (D : DrainV) (st : Nat) : decide (D.keeps D.truths (D.course st) = 2) = okS D st := by
 unfold DrainV.keeps okS okR
 split
 ·rename_i h
  rw [h]
  rfl
 ·rename_i h
  rw [Bool.not_eq_true] at h;rw [h]
  split <;> rfl
theorem sgnC_at {D : DrainV} {st : Nat} {l : List Int} {a : Nat} (ha : a < D.bs.length) : (sgnC (D.course st l))[a]? = some (sgn D.bs.length (nx (D.course st l) a)) := by
 have hcl := course_len D st l
 unfold sgnC
 rw [List.getElem?_map, hcl]
 have : (D.course st l)[a]? = some (nx (D.course st l) a) := by unfold nx; simp [hcl, ha]
 rw [this]
 rfl
theorem watL_at {c : List Nat} {ys : List Int} {a : Nat} (ha : a < c.length) : (watL c ys)[a]? = some (wat c ys a) := by
 unfold watL
 rw [List.getElem?_map, List.getElem?_range ha]
 rfl
theorem can_is {D : DrainV} {c : List Nat} {o t : Nat} {m : Int} (hm : 0 ≤ m) : D.can c ⟨(o : Int), (t : Int), m⟩ = decide (nx c o = t ∧ m < wat c (highs D) o) := by
 unfold DrainV.can DrainV.straight
 dsimp only
 rw [Int.toNat_natCast, Int.toNat_natCast, water_wat]
 by_cases q : nx c o = t
 ·rw [if_pos q]
  show decide (m < wat c (highs D) o) = _
  simp [q]
 ·rw [if_neg q, decide_eq_false (by dsimp only; omega), decide_eq_false (fun w => q w.1)]
theorem right34_ok {D : DrainV} (O : D.Ok) {b d r s hsl ls : AVal} {g h : AH} (A : DrainAt g D b d r s) (Y : SliceOf g 1 hsl ((highs D).map fun x => [AVal.int .i64 x])) {l : List Int} (hl : l ∈ D.truths) {st Bd Bs Bh Bi : Nat} {v : Bool} (e9 : Ext g h) (S : SliceOf h 1 ls (l.map fun x => [AVal.int .i64 x])) (f2 : Has h Bd (.cells .plain [b, d, r, s] 29)) (f3 : Has h Bs (.cells .plain [.int .i64 (st : Nat)] 3)) (f4 : Has h Bh (.cells .plain [hsl] 47)) (f5 : Has h Bi (.cells .plain [.bool v] 4)) (hBi : g.next ≤ Bi) (hne : Bi ≠ Bd ∧ Bi ≠ Bs ∧ Bi ≠ Bh) :
  Runs Try.prog 34 [ls, .ptr Bd 0, .ptr Bs 0, .ptr Bh 0, .ptr Bi 0] h (fun en h' => en = .ret (.tuple []) ∧ ExtF (fun x => x = Bi) h h' ∧ Has h' Bi (.cells .plain [.bool (v && okR D st l)] 4)) := by
 have hnb := O.nb
 have hnr := O.nr
 have hl3 := A.rs.len
 rw [List.length_map] at hl3
 have hsm := A.same
 have hmem := (List.mem_filter.1 hl).1
 have hll := levs_len hmem
 have hcl := course_len D st l
 have hdn := course_down O hmem st
 have hyl : (highs D).length = D.bs.length := by unfold highs; rw [List.length_map]
 have hsY := Y.same
 have e8 : Ext h h := Ext.refl _
 have y0 : ExtF (fun x => x = Bi) h h := ExtF.of (Ext.refl _)
 have hco := fun h' e e' => courses26_e O (b := b) (d := d) (r := r) (s := s) (ls := ls) (l := l) hll (st := st) (h := h') (A.ext e) (S.ext e')
 have hsgl : (sgnC (D.course st l)).length = D.bs.length := by unfold sgnC; rw [List.length_map, hcl]
 have hwa := fun h' {sn : AVal} {lo : Nat} (e : Ext g h') (G : Grow h' 3 1 lo sn D.bs.length (i64s (sgnC (D.course st l)))) => waters27_ok hdn (by omega) (ys := highs D) (by omega) (highs_in O) (sn := sn) (sy := hsl) (h := h') (ints_slice hsgl G) (Y.ext e)
 rw [hcl] at hwa
 unfold dC at *
 have hbi0 := f5.1
 refine Runs.intro aFunc34 rfl rfl rfl rfl fun rest => ?_;apply gS;refine gR rfl ?_;refine gO rfl rfl (ld29 rfl f2 rfl) rfl ?_;refine gP ?_;refine gO rfl rfl (ld3 rfl f3 rfl) rfl ?_;refine GoR.call rfl rfl (aCF aFunc26 rfl) (hco _ e9 e8) ?_ (by rintro _ _ ⟨sn, q, _, GN, e7⟩; cases q);rintro v6 h6 ⟨sn, q, x6, GN, e7⟩;cases q;refine ⟨_, rfl, ?_⟩;have := e9.1;have := e8.1;replace f2 := f2.ext x6;replace f4 := f4.ext x6;replace f5 := f5.ext x6;replace e9 := e9.trans x6;replace e8 := e8.trans x6;replace y0 := y0.ext x6;refine gP ?_;apply gE;apply gS;refine gR rfl ?_;refine gP ?_;refine gO rfl rfl (ld47 rfl f4 rfl) rfl ?_;refine GoR.call rfl rfl (aCF aFunc27 rfl) (hwa _ e9 (GN.ext e7)) ?_ (by rintro _ _ ⟨bt, q, _, hbt, _⟩; cases q);rintro v7 h7 ⟨bt, q, x7, hbt, f7⟩;cases q;refine ⟨_, rfl, ?_⟩;have := e7.1;have := e9.1;have := e8.1;replace f2 := f2.ext x7;replace f5 := f5.ext x7;replace e7 := e7.trans x7;replace e9 := e9.trans x7;replace y0 := y0.ext x7;refine gP ?_;apply gE;apply gS;refine gR rfl ?_;refine gO rfl rfl (fa29_2 rfl) rfl ?_;refine gO rfl rfl (ld27 rfl f2 rfl) rfl ?_;refine gO rfl rfl (aOp_lenSlice Try.underlying27 rfl hl3) rfl ?_;refine gP ?_;apply gE;refine Go.block noJ_ok ?_
 have hbi := f5.1
 have hx7 := x7.1
 have hx6 := x6.1
 have hbt7 := f7.1
 have GN7 : Grow h7 3 1 h.next v6 D.bs.length (i64s (sgnC (D.course st l))) := (GN.ext e7).low (Nat.le_refl _)
 obtain ⟨bg, hbg, hv6, f8⟩ : ∃ bg, h.next ≤ bg ∧ v6 = .gsl bg 0 0 D.bs.length ∧ Has h7 bg (.cells .grow (i64s (sgnC (D.course st l))) 3) := by
  rcases GN7.2 with ⟨_, hz⟩ | ⟨_, bg, q1, q2, q3⟩
  ·omega
  ·exact ⟨bg, q1, q2, q3⟩
 subst hv6
 refine Go.loopKeep (fun i : Nat => [(4, .ptr Bi 0), (6, .gsl bg 0 0 D.bs.length), (7, .slice bt 0 D.bs.length D.bs.length), (18, r), (19, .int .i64 D.rs.length), (20, .int .i64 (i : Nat))])
  (fun m i h' => m + i = D.rs.length ∧ Ext g h' ∧ ExtF (fun x => x = Bi) h h' ∧ Has h' bt (.cells .plain (i64s (watL (D.course st l) (highs D))) 3) ∧ Has h' bg (.cells .grow (i64s (sgnC (D.course st l))) 3) ∧ Has h' Bi (.cells .plain [.bool (v && (D.rs.take i).all fun r => !(D.can (D.course st l) r))] 4)) (n := D.rs.length) 0 ⟨rfl, rfl, rfl, rfl, rfl, rfl, trivial⟩ ⟨rfl, e9, y0, f7, f8, by rw [List.take_zero, List.all_nil, Bool.and_true]; exact f5⟩ ?_
 clear e9 e8 y0 f2 f3 f4 f5 f7 f8 e7 GN7;rintro m i h20 ⟨hm, e9, y0, f7, f8, f5⟩ again
 have hbd := f5.1
 by_cases hi : i < D.rs.length
 ·obtain ⟨⟨ro, rt, rm⟩, hx⟩ : ∃ x, D.rs[i]? = some x := ⟨D.rs[i], by simp [hi]⟩
  obtain ⟨bq, off, u1, u2⟩ := A.rs.at (i := i) (l := RtV.cells ⟨ro, rt, rm⟩) (by rw [List.getElem?_map, hx]; rfl)
  rw [List.length_map] at u1
  have hro := O.r _ (List.mem_of_getElem? hx)
  unfold RtV.Ok PairOk at hro
  dsimp only at hro
  obtain ⟨o, rfl⟩ := Int.eq_ofNat_of_zero_le hro.1.1.1
  obtain ⟨t, rfl⟩ := Int.eq_ofNat_of_zero_le hro.1.2.1.1
  unfold RtV.cells at u2
  dsimp only at u2
  have hcan := can_is (D := D) (c := D.course st l) (o := o) (t := t) hro.2.1
  have hnx : (v && (D.rs.take (i + 1)).all fun r => !(D.can (D.course st l) r)) = ((v && (D.rs.take i).all fun r => !(D.can (D.course st l) r)) && !decide (nx (D.course st l) o = t ∧ rm < wat (D.course st l) (highs D) o)) := by
   rw [List.take_add_one, hx, Option.toList_some, List.all_append, List.all_cons, List.all_nil, hcan, Bool.and_true, Bool.and_assoc]
  have SN : SliceOf h20 1 (.gsl bg 0 0 D.bs.length) ((sgnC (D.course st l)).map fun x => [AVal.int .i64 x]) := ints_slice (el := 3) (lo := 0) hsgl ⟨by rw [i64s_len, hsgl]; omega, .inr ⟨by omega, bg, Nat.zero_le _, rfl, f8⟩⟩
  obtain ⟨b6, o6, t1, t2⟩ := SN.at (i := o) (l := [.int .i64 (sgn D.bs.length (nx (D.course st l) o))]) (by rw [List.getElem?_map, sgnC_at (by omega)]; rfl)
  rw [List.length_map, hsgl] at t1
  have e6 : Ext h20 h20 := Ext.refl _
  have hga := i64s_at (watL_at (c := D.course st l) (ys := highs D) (a := o) (by omega))
  have hq7 : aSlElems (.slice bt 0 D.bs.length D.bs.length) = some (bt, 0, D.bs.length) := rfl
  have hle := hdn.le o (by omega)
  rw [hcl] at hle
  obtain ⟨wv, hwv⟩ : ∃ z, wat (D.course st l) (highs D) o = z := ⟨_, rfl⟩
  rw [hwv] at hga hnx
  obtain ⟨cv, hcv⟩ : ∃ z, (v && (D.rs.take i).all fun r => !(D.can (D.course st l) r)) = z := ⟨_, rfl⟩
  rw [hcv] at f5 hnx
  have hne1 := hne.1
  have hbt1 : bt ≠ Bi := by omega
  cases cv with
  | false =>
   rw [Bool.false_and] at hnx;apply gS;refine gR rfl ?_;refine gO rfl rfl (kLT rfl rfl) rfl ?_;apply gE;apply gS;refine gC (b := true) rfl ?_;refine gD ?_;apply gS;refine Go.block noJ_ok ?_;apply gS;refine gR rfl ?_;refine gO rfl rfl (aOp_indexAddr (i := i) Try.underlying27 sz57 rfl u1 rfl (Nat.ble_eq_true_of_le hi)) rfl ?_;refine gO rfl rfl (aOp_loadE ag57 sz57 rfl (u2.ext e9)) rfl ?_;refine GoR.alloc rfl rfl rfl zt57 rfl rfl fun h21 x21 f21 => ?_;have := e9.1;have := e6.1;have := f7.1;have := f8.1;have := f5.1;replace f7 := f7.ext x21;replace f8 := f8.ext x21;replace f5 := f5.ext x21;replace e9 := e9.trans x21;replace e6 := e6.trans x21;replace y0 := y0.ext x21;have := f21.1;refine GoR.store rfl rfl rfl rfl rfl rfl f21 rfl sz57 rfl rfl rfl fun h22 u22 => ?_;replace f21 := u22.has f21;replace f7 := f7.upd u22 (by omega);replace f8 := f8.upd u22 (by omega);replace f5 := f5.upd u22 (by omega);replace e9 := e9.upd u22 (by omega);replace e6 := e6.upd u22 (by omega);replace y0 := y0.upd u22 (.inr (by omega));apply gE;refine Go.drawnE plan34_0 ?_;refine gQ rfl rfl (ld4 rfl f5 rfl) rfl ?_;refine gQ rfl rfl rfl rfl ?_;iterate 18 refine GoE.skip rfl rfl rfl ?_
   refine gQ rfl rfl rfl rfl ?_;refine GoE.store rfl rfl rfl rfl (dD 2097151 20 (dD 2097151 1 (dD 2097151 0 rfl))) rfl rfl f5 rfl sz4 rfl rfl rfl fun h23 u23 => ?_;replace f21 := f21.upd u23 (by omega);replace f7 := f7.upd u23 (by omega);replace f8 := f8.upd u23 (by omega);replace f5 := u23.has f5;replace e9 := e9.upd u23 (by omega);clear e6;replace y0 := y0.upd u23 (.inl rfl);refine ⟨recheck_nil, ?_⟩;refine GoE.end rfl ?_;refine Go.inBlock noJ_ok ?_;refine gR rfl ?_;refine gO rfl rfl (aA rfl rfl) rfl ?_;refine gP ?_;apply gE;exact again (m - 1) (i + 1) _ _ (by omega) ⟨rfl, rfl, rfl, rfl, rfl, rfl, trivial⟩ ⟨by omega, e9, y0, f7, f8, by rw [hnx]; exact f5⟩
  | true =>
   rw [Bool.true_and] at hnx
   by_cases c1 : nx (D.course st l) o = t
   ·have hsx : sgn D.bs.length (nx (D.course st l) o) = (t : Int) := by rw [sgn_lt (by omega), c1]
    rw [hsx] at t2
    by_cases c2 : rm < wv
    ·rw [decide_eq_true ⟨c1, c2⟩, Bool.not_true] at hnx;apply gS;refine gR rfl ?_;refine gO rfl rfl (kLT rfl rfl) rfl ?_;apply gE;apply gS;refine gC (b := true) rfl ?_;refine gD ?_;apply gS;refine Go.block noJ_ok ?_;apply gS;refine gR rfl ?_;refine gO rfl rfl (aOp_indexAddr (i := i) Try.underlying27 sz57 rfl u1 rfl (Nat.ble_eq_true_of_le hi)) rfl ?_;refine gO rfl rfl (aOp_loadE ag57 sz57 rfl (u2.ext e9)) rfl ?_;refine GoR.alloc rfl rfl rfl zt57 rfl rfl fun h21 x21 f21 => ?_;have := e9.1;have := e6.1;have := f7.1;have := f8.1;have := f5.1;replace f7 := f7.ext x21;replace f8 := f8.ext x21;replace f5 := f5.ext x21;replace e9 := e9.trans x21;replace e6 := e6.trans x21;replace y0 := y0.ext x21;have := f21.1;refine GoR.store rfl rfl rfl rfl rfl rfl f21 rfl sz57 rfl rfl rfl fun h22 u22 => ?_;replace f21 := u22.has f21;replace f7 := f7.upd u22 (by omega);replace f8 := f8.upd u22 (by omega);replace f5 := f5.upd u22 (by omega);replace e9 := e9.upd u22 (by omega);replace e6 := e6.upd u22 (by omega);replace y0 := y0.upd u22 (.inr (by omega));apply gE;refine Go.drawnE plan34_0 ?_;refine gQ rfl rfl (ld4 rfl f5 rfl) rfl ?_;iterate 2 refine gQ rfl rfl rfl rfl ?_
     refine gQ rfl rfl (fa57_0 rfl) rfl ?_;refine gQ rfl rfl (ld3 rfl f21 rfl) rfl ?_;refine gQ rfl rfl (aOp_indexAddr (i := o) Try.underlying47 sz3 rfl t1 rfl (Nat.ble_eq_true_of_le (by omega))) rfl ?_;refine gQ rfl rfl ((aOp_loadE1 (k := 0) ag3 rfl (t2.ext e6) rfl)) rfl ?_;refine gQ rfl rfl (fa57_1 rfl) rfl ?_;refine gQ rfl rfl (ld3 rfl f21 rfl) rfl ?_;refine gQ rfl rfl (kXF rfl rfl) rfl ?_;iterate 2 refine gQ rfl rfl rfl rfl ?_
     refine gQ rfl rfl (fa57_0 rfl) rfl ?_;refine gQ rfl rfl (ld3 rfl f21 rfl) rfl ?_;refine gQ rfl rfl (aOp_indexAddr (i := o) Try.underlying47 sz3 rfl hq7 rfl (Nat.ble_eq_true_of_le (by omega))) rfl ?_;refine gQ rfl rfl (ld3 rfl f7 hga) rfl ?_;refine gQ rfl rfl (fa57_2 rfl) rfl ?_;refine gQ rfl rfl (ld3 rfl f21 rfl) rfl ?_;refine gQ rfl rfl (kMF rfl rfl) rfl ?_;iterate 2 refine gQ rfl rfl rfl rfl ?_
     refine GoE.store rfl rfl rfl rfl (dD 2097151 20 (dD 2097151 19 (dD 2097151 18 (dD 2097151 17 (dD 2097151 16 (dD 2097151 15 (dD 2097151 14 (dD 2097151 13 (dD 2097151 12 (dD 2097151 11 (dD 2097151 10 (dD 2097151 9 (dD 2097151 8 (dD 2097151 7 (dD 2097151 6 (dD 2097151 5 (dD 2097151 4 (dD 2097151 3 (dD 2097151 2 (dD 2097151 1 (dD 2097151 0 rfl))))))))))))))))))))) rfl rfl f5 rfl sz4 rfl rfl rfl fun h23 u23 => ?_;replace f7 := f7.upd u23 (by omega);replace f8 := f8.upd u23 (by omega);replace f5 := u23.has f5;replace e9 := e9.upd u23 (by omega);clear e6;replace y0 := y0.upd u23 (.inl rfl);refine ⟨recheck_nil, ?_⟩;refine GoE.end rfl ?_;refine Go.inBlock noJ_ok ?_;refine gR rfl ?_;refine gO rfl rfl (aA rfl rfl) rfl ?_;refine gP ?_;apply gE;exact again (m - 1) (i + 1) _ _ (by omega) ⟨rfl, rfl, rfl, rfl, rfl, rfl, trivial⟩ ⟨by omega, e9, y0, f7, f8, by rw [hnx]; exact f5⟩
    ·rw [decide_eq_false (fun w => c2 w.2), Bool.not_false] at hnx;apply gS;refine gR rfl ?_;refine gO rfl rfl (kLT rfl rfl) rfl ?_;apply gE;apply gS;refine gC (b := true) rfl ?_;refine gD ?_;apply gS;refine Go.block noJ_ok ?_;apply gS;refine gR rfl ?_;refine gO rfl rfl (aOp_indexAddr (i := i) Try.underlying27 sz57 rfl u1 rfl (Nat.ble_eq_true_of_le hi)) rfl ?_;refine gO rfl rfl (aOp_loadE ag57 sz57 rfl (u2.ext e9)) rfl ?_;refine GoR.alloc rfl rfl rfl zt57 rfl rfl fun h21 x21 f21 => ?_;have := e9.1;have := e6.1;have := f7.1;have := f8.1;have := f5.1;replace f7 := f7.ext x21;replace f8 := f8.ext x21;replace f5 := f5.ext x21;replace e9 := e9.trans x21;replace e6 := e6.trans x21;replace y0 := y0.ext x21;have := f21.1;refine GoR.store rfl rfl rfl rfl rfl rfl f21 rfl sz57 rfl rfl rfl fun h22 u22 => ?_;replace f21 := u22.has f21;replace f7 := f7.upd u22 (by omega);replace f8 := f8.upd u22 (by omega);replace f5 := f5.upd u22 (by omega);replace e9 := e9.upd u22 (by omega);replace e6 := e6.upd u22 (by omega);replace y0 := y0.upd u22 (.inr (by omega));apply gE;refine Go.drawnE plan34_0 ?_;refine gQ rfl rfl (ld4 rfl f5 rfl) rfl ?_;iterate 2 refine gQ rfl rfl rfl rfl ?_
     refine gQ rfl rfl (fa57_0 rfl) rfl ?_;refine gQ rfl rfl (ld3 rfl f21 rfl) rfl ?_;refine gQ rfl rfl (aOp_indexAddr (i := o) Try.underlying47 sz3 rfl t1 rfl (Nat.ble_eq_true_of_le (by omega))) rfl ?_;refine gQ rfl rfl ((aOp_loadE1 (k := 0) ag3 rfl (t2.ext e6) rfl)) rfl ?_;refine gQ rfl rfl (fa57_1 rfl) rfl ?_;refine gQ rfl rfl (ld3 rfl f21 rfl) rfl ?_;refine gQ rfl rfl (kXF rfl rfl) rfl ?_;iterate 2 refine gQ rfl rfl rfl rfl ?_
     refine gQ rfl rfl (fa57_0 rfl) rfl ?_;refine gQ rfl rfl (ld3 rfl f21 rfl) rfl ?_;refine gQ rfl rfl (aOp_indexAddr (i := o) Try.underlying47 sz3 rfl hq7 rfl (Nat.ble_eq_true_of_le (by omega))) rfl ?_;refine gQ rfl rfl (ld3 rfl f7 hga) rfl ?_;refine gQ rfl rfl (fa57_2 rfl) rfl ?_;refine gQ rfl rfl (ld3 rfl f21 rfl) rfl ?_;refine gQ rfl rfl (kMT rfl rfl) rfl ?_;iterate 2 refine gQ rfl rfl rfl rfl ?_
     refine GoE.store rfl rfl rfl rfl (dD 2097151 20 (dD 2097151 19 (dD 2097151 18 (dD 2097151 17 (dD 2097151 16 (dD 2097151 15 (dD 2097151 14 (dD 2097151 13 (dD 2097151 12 (dD 2097151 11 (dD 2097151 10 (dD 2097151 9 (dD 2097151 8 (dD 2097151 7 (dD 2097151 6 (dD 2097151 5 (dD 2097151 4 (dD 2097151 3 (dD 2097151 2 (dD 2097151 1 (dD 2097151 0 rfl))))))))))))))))))))) rfl rfl f5 rfl sz4 rfl rfl rfl fun h23 u23 => ?_;replace f7 := f7.upd u23 (by omega);replace f8 := f8.upd u23 (by omega);replace f5 := u23.has f5;replace e9 := e9.upd u23 (by omega);clear e6;replace y0 := y0.upd u23 (.inl rfl);refine ⟨recheck_nil, ?_⟩;refine GoE.end rfl ?_;refine Go.inBlock noJ_ok ?_;refine gR rfl ?_;refine gO rfl rfl (aA rfl rfl) rfl ?_;refine gP ?_;apply gE;exact again (m - 1) (i + 1) _ _ (by omega) ⟨rfl, rfl, rfl, rfl, rfl, rfl, trivial⟩ ⟨by omega, e9, y0, f7, f8, by rw [hnx]; exact f5⟩
   ·have hsx : sgn D.bs.length (nx (D.course st l) o) ≠ (t : Int) := by
     unfold sgn
     split <;> omega
    obtain ⟨sx, hsx2⟩ : ∃ z, sgn D.bs.length (nx (D.course st l) o) = z := ⟨_, rfl⟩
    rw [hsx2] at t2 hsx;rw [decide_eq_false (fun w => c1 w.1), Bool.not_false] at hnx;apply gS;refine gR rfl ?_;refine gO rfl rfl (kLT rfl rfl) rfl ?_;apply gE;apply gS;refine gC (b := true) rfl ?_;refine gD ?_;apply gS;refine Go.block noJ_ok ?_;apply gS;refine gR rfl ?_;refine gO rfl rfl (aOp_indexAddr (i := i) Try.underlying27 sz57 rfl u1 rfl (Nat.ble_eq_true_of_le hi)) rfl ?_;refine gO rfl rfl (aOp_loadE ag57 sz57 rfl (u2.ext e9)) rfl ?_;refine GoR.alloc rfl rfl rfl zt57 rfl rfl fun h21 x21 f21 => ?_;have := e9.1;have := e6.1;have := f7.1;have := f8.1;have := f5.1;replace f7 := f7.ext x21;replace f8 := f8.ext x21;replace f5 := f5.ext x21;replace e9 := e9.trans x21;replace e6 := e6.trans x21;replace y0 := y0.ext x21;have := f21.1;refine GoR.store rfl rfl rfl rfl rfl rfl f21 rfl sz57 rfl rfl rfl fun h22 u22 => ?_;replace f21 := u22.has f21;replace f7 := f7.upd u22 (by omega);replace f8 := f8.upd u22 (by omega);replace f5 := f5.upd u22 (by omega);replace e9 := e9.upd u22 (by omega);replace e6 := e6.upd u22 (by omega);replace y0 := y0.upd u22 (.inr (by omega));apply gE;refine Go.drawnE plan34_0 ?_;refine gQ rfl rfl (ld4 rfl f5 rfl) rfl ?_;iterate 2 refine gQ rfl rfl rfl rfl ?_
    refine gQ rfl rfl (fa57_0 rfl) rfl ?_;refine gQ rfl rfl (ld3 rfl f21 rfl) rfl ?_;refine gQ rfl rfl (aOp_indexAddr (i := o) Try.underlying47 sz3 rfl t1 rfl (Nat.ble_eq_true_of_le (by omega))) rfl ?_;refine gQ rfl rfl ((aOp_loadE1 (k := 0) ag3 rfl (t2.ext e6) rfl)) rfl ?_;refine gQ rfl rfl (fa57_1 rfl) rfl ?_;refine gQ rfl rfl (ld3 rfl f21 rfl) rfl ?_;refine gQ rfl rfl (kXT rfl rfl) rfl ?_;refine gQ rfl rfl rfl rfl ?_;iterate 8 refine GoE.skip rfl rfl rfl ?_
    iterate 2 refine gQ rfl rfl rfl rfl ?_
    refine GoE.store rfl rfl rfl rfl (dD 2097151 20 (dD 2097151 19 (dD 2097151 10 (dD 2097151 9 (dD 2097151 8 (dD 2097151 7 (dD 2097151 6 (dD 2097151 5 (dD 2097151 4 (dD 2097151 3 (dD 2097151 2 (dD 2097151 1 (dD 2097151 0 rfl))))))))))))) rfl rfl f5 rfl sz4 rfl rfl rfl fun h23 u23 => ?_;replace f7 := f7.upd u23 (by omega);replace f8 := f8.upd u23 (by omega);replace f5 := u23.has f5;replace e9 := e9.upd u23 (by omega);clear e6;replace y0 := y0.upd u23 (.inl rfl);refine ⟨recheck_nil, ?_⟩;refine GoE.end rfl ?_;refine Go.inBlock noJ_ok ?_;refine gR rfl ?_;refine gO rfl rfl (aA rfl rfl) rfl ?_;refine gP ?_;apply gE;exact again (m - 1) (i + 1) _ _ (by omega) ⟨rfl, rfl, rfl, rfl, rfl, rfl, trivial⟩ ⟨by omega, e9, y0, f7, f8, by rw [hnx]; exact f5⟩
 ·rw [List.take_of_length_le (by omega)] at f5
  have hfin : (v && D.rs.all fun r => !(D.can (D.course st l) r)) = (v && okR D st l) := by
   unfold okR
   rw [← any_not]
   simp
  rw [hfin] at f5;apply gS;refine gR rfl ?_;refine gO rfl rfl (kLF rfl rfl) rfl ?_;apply gE;apply gS;refine gC (b := false) rfl ?_;refine gD ?_;exact Go.endL (FLeft.ret (v := .tuple []) (aResult_of Try.func34 rfl rfl) ⟨rfl, y0, f5⟩)
theorem all_mem {V T : List (List Int)} {p : List Int → Bool} (h : ∀ l, l ∈ V ↔ l ∈ T) : V.all p = T.all p := by
 rw [Bool.eq_iff_iff, List.all_eq_true, List.all_eq_true];exact ⟨fun k x hx => k x ((h x).2 hx), fun k x hx => k x ((h x).1 hx)⟩
theorem enough33_ok {D : DrainV} (O : D.Ok) {b d r s hsl : AVal} {g h : AH} (A : DrainAt g D b d r s) (Y : SliceOf g 1 hsl ((highs D).map fun x => [AVal.int .i64 x])) {st Bd Bh : Nat} (e9 : Ext g h) (f2 : Has h Bd (.cells .plain [b, d, r, s] 29)) (f4 : Has h Bh (.cells .plain [hsl] 47)) :
  Runs Try.prog 33 [.int .i64 (st : Nat), .ptr Bd 0, .ptr Bh 0] h (fun en h' => en = .ret (.bool (okS D st)) ∧ Ext h h') := by
 have hsm := A.same
 have hge := e9.1
 have hb2 := f2.1
 have hb4 := f4.1
 unfold dC at *
 refine Runs.intro aFunc33 rfl rfl rfl rfl fun rest => ?_;apply gS;refine gR rfl ?_;refine GoR.box rfl rfl rfl rfl rfl rfl fun h5 x5 f5 => ?_;have := e9.1;have := f2.1;have := f4.1;replace f2 := f2.ext x5;replace f4 := f4.ext x5;replace e9 := e9.trans x5;have := f5.1;refine gP ?_;apply gE;apply gS;refine gR rfl ?_;refine GoR.alloc rfl rfl rfl zt4 rfl rfl fun h6 x6 f6 => ?_;have := e9.1;have := f5.1;have := f2.1;have := f4.1;replace f5 := f5.ext x6;replace f2 := f2.ext x6;replace f4 := f4.ext x6;replace e9 := e9.trans x6;have := f6.1;refine GoR.store rfl rfl rfl rfl rfl rfl f6 rfl sz4 rfl rfl rfl fun h7 u7 => ?_;replace f6 := u7.has f6;replace f5 := f5.upd u7 (by omega);replace f2 := f2.upd u7 (by omega);replace f4 := f4.upd u7 (by omega);replace e9 := e9.upd u7 (by omega);apply gE;apply gS;refine gR rfl ?_;refine gO rfl rfl (ld29 rfl f2 rfl) rfl ?_;refine gP ?_
 have hq0 := f5.1
 have hq1 := f6.1
 have hu := u7.1
 have e8 : Ext h h7 := (x5.trans x6).upd u7 (by have := x5.1; omega)
 have hx5 := x5.1
 have hx6 := x6.1
 refine GoR.call rfl rfl (aCF aFunc30 rfl) (each30_ok (F := 34) (caps := [.ptr Bd 0, .ptr h.next 0, .ptr Bh 0, .ptr h5.next 0]) (S := fun x => x = h5.next) (Inv := fun V h' => Ext g h' ∧ Has h' Bd (.cells .plain [b, d, r, s] 29) ∧ Has h' h.next (.cells .plain [.int .i64 (st : Nat)] 3) ∧ Has h' Bh (.cells .plain [hsl] 47) ∧ Has h' h5.next (.cells .plain [.bool (V.all (okR D st))] 4)) O A aFunc34 (fun x q => by have : x = h5.next := q; omega) rfl
  (fun V h1 h2 ⟨k0, k1, k2, k3, k4⟩ e => ⟨k0.trans e, k1.ext e, k2.ext e, k3.ext e, k4.ext e⟩) (fun V l sl h' e hl ⟨k0, k1, k2, k3, k4⟩ Sl => (right34_ok O A Y hl e Sl k1 k2 k3 k4 (by omega) (by omega)).mono fun en h'' ⟨q, y, f⟩ => ⟨q, y, y.low k0 (fun b q => by have : b = h5.next := q; omega), k1.extF y (by omega), k2.extF y (by omega), k3.extF y (by omega), by rw [List.all_append, List.all_cons, List.all_nil, Bool.and_true]; exact f⟩)
  e9 (fun x q => by have : x = h5.next := q; omega) ⟨e9, f2, f5, f4, f6⟩) ?_ np
 rintro v30 h30 ⟨q, y30, V, ⟨k0, k1, k2, k3, k4⟩, hV⟩;cases q;refine ⟨_, rfl, ?_⟩;rw [all_mem hV] at k4
 have e30 : Ext h h30 := y30.low e8 (fun b q => by have : b = h5.next := q; omega)
 clear e9 e8 f2 f4 f5 f6
 have f6 := k4
 have e0 := e30
 clear e30 k4;apply gE;apply gS;refine gR rfl ?_;refine gO rfl rfl (ld4 rfl f6 rfl) rfl ?_;refine gP ?_;apply gE;exact gW Try.func33 rfl rfl ⟨rfl, e0⟩
end Go.Proofs.Ytkhiagdmbajimaa

namespace Go.Proofs.Ytkhiagdmbajimaa
open Go Go.AbsE
set_option linter.unusedSimpArgs false
set_option maxRecDepth 100000
set_option maxHeartbeats 0
set_option linter.unusedVariables false
theorem open_none {s : Nat} : ∀ {L : List (Int × Int)} {i : Nat}, (∀ j, j < L.length → s.testBit (i + j) = true) → openV s i L = []
 | [], _, _ => rfl
 | l :: L, i, h => by
  unfold openV
  rw [if_pos (by have := h 0 (by simp); rwa [Nat.add_zero] at this)]
  exact open_none fun j hj => by
   have := h (j + 1) (by simpa using hj)
   rwa [show i + (j + 1) = i + 1 + j by omega] at this
theorem all_stopped {D : DrainV} (O : D.Ok) : okS D (2 ^ D.ds.length - 1) = true := by
 unfold okS
 rw [List.all_eq_true]
 intro l hl
 have hmem := (List.mem_filter.1 hl).1
 have hJ : ∀ a x, D.J (2 ^ D.ds.length - 1) a x = false := fun a x => by
  unfold DrainV.J
  rw [open_none fun j hj => by rw [Nat.zero_add, Nat.testBit_two_pow_sub_one]; exact decide_eq_true hj]
  rfl
 unfold okR
 rw [Bool.not_eq_true', List.any_eq_false]
 intro r hr
 have hro := O.r r hr
 obtain ⟨ro, rt, rm⟩ := r
 unfold RtV.Ok PairOk at hro
 dsimp only at hro
 obtain ⟨o, rfl⟩ := Int.eq_ofNat_of_zero_le hro.1.1.1
 obtain ⟨t, rfl⟩ := Int.eq_ofNat_of_zero_le hro.1.2.1.1
 rw [can_is hro.2.1, decide_eq_false]
 ·decide
 rintro ⟨h1, _⟩;rw [nx_course (by omega)] at h1
 rcases (low_is (D.J (2 ^ D.ds.length - 1) o) l D.bs.length o).h with ⟨q, _⟩ | ⟨_, _, q, _⟩
 ·omega
 ·rw [hJ] at q;cases q
theorem stop_ex {D : DrainV} (O : D.Ok) : stopV D < 2 ^ D.ds.length ∧ okS D (stopV D) = true ∧ ∀ s, s < 2 ^ D.ds.length → okS D s = true → popc (stopV D) < popc s ∨ (popc (stopV D) = popc s ∧ stopV D ≤ s) := by
 have hn := O.nd
 have hal : 2 ^ D.ds.length - 1 < 2 ^ D.ds.length := by have := Nat.two_pow_pos D.ds.length; omega
 cases q : (subs D.ds.length).find? fun st => decide (D.keeps D.truths (D.course st) = 2) with
 | none =>
  rw [List.find?_eq_none] at q
  have := q _ (in_subs hn hal)
  rw [keeps_two, all_stopped O] at this;exact absurd rfl this
 | some c =>
  have hs : stopV D = c := by unfold stopV; rw [q]; rfl
  rw [hs]
  obtain ⟨m1, m2, m3⟩ := subs_first q
  rw [keeps_two] at m2;exact ⟨(mem_subs2.1 m1).1, m2, fun s h1 h2 => m3 s (in_subs hn h1) (by rw [keeps_two]; exact h2)⟩
theorem joinL_hi {l : List (Int × Int)} {m : Int} (hm : -9223372036854775808 ≤ m) : (joinL l).2 ≤ m ↔ ∀ p, p ∈ l → p.2 ≤ m := by
 have : ∀ (l : List (Int × Int)) (a : Int × Int), (l.foldl joinP a).2 ≤ m ↔ a.2 ≤ m ∧ ∀ p, p ∈ l → p.2 ≤ m := by
  intro l
  induction l with
  | nil => intro a; simp
  | cons x l ih =>
   intro a
   rw [List.foldl_cons, ih]
   show max a.2 x.2 ≤ m ∧ _ ↔ _
   constructor
   ·rintro ⟨h1, h2⟩;refine ⟨by omega, fun p hp => ?_⟩
    rcases List.mem_cons.1 hp with rfl | hp
    ·omega
    ·exact h2 p hp
   ·rintro ⟨h1, h2⟩
    have := h2 x (by simp)
    exact ⟨by omega, fun p hp => h2 p (by simp [hp])⟩
 unfold joinL
 rw [this]
 constructor
 ·exact fun h => h.2
 ·exact fun h => ⟨hm, h⟩
theorem bits_zero {p : RtV → Bool} : ∀ {L : List RtV} {k : Nat}, bitsFrom p k L = 0 ↔ ∀ r, r ∈ L → p r = false
 | [], k => by simp [bitsFrom]
 | x :: L, k => by
  show (_ ||| bitsFrom p (k + 1) L) = 0 ↔ _
  rw [Nat.or_eq_zero_iff, bits_zero]
  have h2 := Nat.two_pow_pos k
  constructor
  ·rintro ⟨h1, h3⟩ r hr
   rcases List.mem_cons.1 hr with rfl | hr
   ·cases q : p r with
    | false => rfl
    | true => rw [q, if_pos rfl] at h1; omega
   ·exact h3 r hr
  ·intro h
   refine ⟨?_, fun r hr => h r (by simp [hr])⟩;rw [h x (by simp)]
   rfl
theorem perhaps_zero {D : DrainV} (O : D.Ok) : D.perhaps = 0 ↔ okS D 0 = true := by
 unfold DrainV.perhaps
 rw [bits_zero]
 unfold okS
 rw [List.all_eq_true]
 have key : ∀ r, r ∈ D.rs → (decide (r.m < (D.flow r.o.toNat r.t.toNat).2) = false ↔ ∀ l, l ∈ D.truths → D.can (D.course 0 l) r = false) := fun r hr => by
  have hro := O.r r hr
  unfold RtV.Ok at hro
  rw [decide_eq_false_iff_not, Int.not_lt]
  unfold DrainV.flow
  rw [joinL_hi (by omega)]
  simp only [List.mem_map]
  constructor
  ·intro h l hl
   have := h _ ⟨l, hl, rfl⟩
   unfold DrainV.can
   exact decide_eq_false (by omega)
  ·rintro h p ⟨l, hl, rfl⟩
   have := h l hl
   unfold DrainV.can at this
   rw [decide_eq_false_iff_not] at this
   omega
 constructor
 ·intro h l hl
  unfold okR
  rw [Bool.not_eq_true', List.any_eq_false]
  intro r hr
  rw [(key r hr).1 (h r hr) l hl]
  decide
 ·intro h r hr
  refine (key r hr).2 fun l hl => ?_
  have := h l hl
  unfold okR at this
  rw [Bool.not_eq_true', List.any_eq_false] at this
  cases q : D.can (D.course 0 l) r with
  | false => rfl
  | true => exact absurd q (this r hr)
theorem stop_zero {D : DrainV} (O : D.Ok) : stopV D = 0 ↔ D.perhaps = 0 := by
 obtain ⟨h1, h2, h3⟩ := stop_ex O
 rw [perhaps_zero O]
 constructor
 ·intro q
  rw [q] at h2;exact h2
 ·intro q
  have := h3 0 (Nat.two_pow_pos _) q
  have h0 : popc 0 = 0 := by decide
  omega
theorem law7_far {D : DrainV} {b d r s : AVal} {h : AH} (A : DrainAt h D b d r s) (L : DrainL D) (B : ¬ DrainB D) {w1 : Int} : Runs Try.prog 7 [.agg (dC b d r s), .int .u8 w1] h (fun en h' => en = .ret (.bool true) ∧ Ext h h') := by
 have hF := fun {h'} (e : Ext h h') => far_ok (A.ext e) L
 rw [decide_eq_true B] at hF
 have hsm := A.same
 unfold dC at *
 have e0 : Ext h h := Ext.refl _
 refine Runs.intro aFunc7 rfl rfl rfl rfl fun rest => ?_;apply gS;refine gR rfl ?_;refine GoR.box rfl rfl rfl rfl rfl rfl fun h0 x0 f0 => ?_;replace e0 := e0.trans x0;refine gP ?_;apply gE;iterate 2 apply gS
 refine gR rfl ?_;refine gO rfl rfl (ld29 rfl f0 rfl) rfl ?_;refine GoR.call rfl rfl (aCF aFunc22 rfl) (hF e0) ?_ np;rintro v1 h1 ⟨q, x1⟩;cases q;refine ⟨_, rfl, ?_⟩;replace e0 := e0.trans x1;refine gP ?_;iterate 3 refine GoR.skip rfl rfl rfl ?_
 refine gP ?_;apply gE;refine gC (b := true) rfl ?_;apply gS;refine gR rfl ?_;refine GoR.call rfl rfl (aCF aFunc20 rfl) (awake_ok) ?_ np;rintro v2 h2 ⟨q, x2⟩;cases q;refine ⟨_, rfl, ?_⟩;replace e0 := e0.trans x2;refine gP ?_;apply gE;exact gW Try.func7 rfl rfl ⟨rfl, e0⟩
theorem law7_bad {D : DrainV} {b d r s : AVal} {h : AH} (A : DrainAt h D b d r s) (B : DrainB D) (O : ¬ D.Ok) {w1 : Int} : Runs Try.prog 7 [.agg (dC b d r s), .int .u8 w1] h (fun en h' => en = .ret (.bool true) ∧ Ext h h') := by
 have hF := fun {h'} (e : Ext h h') => far_ok (A.ext e) B.L
 rw [decide_eq_false (fun w => w B)] at hF
 have hR := fun {h'} (e : Ext h h') => Drain23_ok (A.ext e) B
 rw [decide_eq_false O] at hR
 have hsm := A.same
 unfold dC at *
 have e0 : Ext h h := Ext.refl _
 refine Runs.intro aFunc7 rfl rfl rfl rfl fun rest => ?_;apply gS;refine gR rfl ?_;refine GoR.box rfl rfl rfl rfl rfl rfl fun h0 x0 f0 => ?_;replace e0 := e0.trans x0;refine gP ?_;apply gE;iterate 2 apply gS
 refine gR rfl ?_;refine gO rfl rfl (ld29 rfl f0 rfl) rfl ?_;refine GoR.call rfl rfl (aCF aFunc22 rfl) (hF e0) ?_ np;rintro v1 h1 ⟨q, x1⟩;cases q;refine ⟨_, rfl, ?_⟩;replace f0 := f0.ext x1;replace e0 := e0.trans x1;refine gP ?_;refine gO rfl rfl (ld29 rfl f0 rfl) rfl ?_;refine GoR.call rfl rfl (aCF aFunc23 rfl) (hR e0) ?_ np;rintro v2 h2 ⟨q, x2⟩;cases q;refine ⟨_, rfl, ?_⟩;replace e0 := e0.trans x2;iterate 2 refine gP ?_
 apply gE;refine gC (b := true) rfl ?_;apply gS;refine gR rfl ?_;refine GoR.call rfl rfl (aCF aFunc20 rfl) (awake_ok) ?_ np;rintro v3 h3 ⟨q, x3⟩;cases q;refine ⟨_, rfl, ?_⟩;replace e0 := e0.trans x3;refine gP ?_;apply gE;exact gW Try.func7 rfl rfl ⟨rfl, e0⟩
theorem stopR_is {D : DrainV} (O : D.Ok) : D.stopR = D.tr (((popc (stopV D) : Nat) : Int), ((stopV D : Nat) : Int)) zSp := DrainV.ok_yes O
theorem breaksR_is {D : DrainV} (O : D.Ok) : D.breaksR = D.tr (((D.surely : Nat) : Int), ((D.perhaps : Nat) : Int)) zSp := DrainV.ok_yes O
theorem law7_ok {D : DrainV} {b d r s : AVal} {h : AH} (A : DrainAt h D b d r s) (O : D.Ok) {w : Nat} (hw : w < 256) : Runs Try.prog 7 [.agg (dC b d r s), .int .u8 (w : Nat)] h (fun en h' => en = .ret (.bool true) ∧ Ext h h') := by
 have hnb := O.nb
 have hnd := O.nd
 have hF := fun {h'} (e : Ext h h') => far_ok (A.ext e) O.B.L
 rw [decide_eq_false (fun w => w O.B)] at hF
 have hR := fun {h'} (e : Ext h h') => Drain23_ok (A.ext e) O.B
 rw [decide_eq_true O] at hR
 have hl1 := A.bs.len
 have hl2 := A.ds.len
 rw [List.length_map] at hl1 hl2
 have hSt := fun {h'} (e : Ext h h') => Stop_ok (A.ext e) O.B
 have hBr := fun {h'} (e : Ext h h') => Breaks_ok (A.ext e) O.B
 rw [stopR_is O] at hSt;rw [breaksR_is O] at hBr
 have hsm := A.same
 by_cases hT : D.truths = []
 ·rw [DrainV.tr_no hT] at hSt hBr
  unfold zSp at hSt hBr
  dsimp only at hSt hBr
  unfold dC at *
  have e0 : Ext h h := Ext.refl _
  refine Runs.intro aFunc7 rfl rfl rfl rfl fun rest => ?_;apply gS;refine gR rfl ?_;refine GoR.box rfl rfl rfl rfl rfl rfl fun h0 x0 f0 => ?_;replace e0 := e0.trans x0;refine gP ?_;apply gE;iterate 2 apply gS
  refine gR rfl ?_;refine gO rfl rfl (ld29 rfl f0 rfl) rfl ?_;refine GoR.call rfl rfl (aCF aFunc22 rfl) (hF e0) ?_ np;rintro v1 h1 ⟨q, x1⟩;cases q;refine ⟨_, rfl, ?_⟩;replace f0 := f0.ext x1;replace e0 := e0.trans x1;refine gP ?_;refine gO rfl rfl (ld29 rfl f0 rfl) rfl ?_;refine GoR.call rfl rfl (aCF aFunc23 rfl) (hR e0) ?_ np;rintro v2 h2 ⟨q, x2⟩;cases q;refine ⟨_, rfl, ?_⟩;replace f0 := f0.ext x2;replace e0 := e0.trans x2;iterate 2 refine gP ?_
  apply gE;refine gC (b := false) rfl ?_;refine gD ?_;apply gS;refine gR rfl ?_;refine gO rfl rfl (ld29 rfl f0 rfl) rfl ?_;refine GoR.call rfl rfl (aCF aFunc18 rfl) (hSt e0) ?_ np;rintro v3 h3 ⟨q, x3⟩;cases q;refine ⟨_, rfl, ?_⟩;replace f0 := f0.ext x3;replace e0 := e0.trans x3;iterate 7 refine gP ?_
  apply gE;apply gS;refine gR rfl ?_;refine gO rfl rfl (ld29 rfl f0 rfl) rfl ?_;refine GoR.call rfl rfl (aCF aFunc16 rfl) (hBr e0) ?_ np;rintro v4 h4 ⟨q, x4⟩;cases q;refine ⟨_, rfl, ?_⟩;replace e0 := e0.trans x4;iterate 7 refine gP ?_
  apply gE;iterate 2 apply gS
  refine gR rfl ?_;iterate 2 refine gP ?_
  refine gO rfl rfl (kXF rfl rfl) rfl ?_;iterate 2 refine gP ?_
  refine gO rfl rfl (kXT rfl rfl) rfl ?_;iterate 2 refine gP ?_
  refine gO rfl rfl (kXF rfl rfl) rfl ?_;iterate 2 refine gP ?_
  refine gO rfl rfl (kXF rfl rfl) rfl ?_;iterate 3 refine gP ?_
  refine gO rfl rfl (kXF rfl rfl) rfl ?_;iterate 3 refine gP ?_
  apply gE;refine gC (b := false) rfl ?_;refine gD ?_;iterate 2 apply gS
  refine gR rfl ?_;refine gP ?_;refine gO rfl rfl (kXT rfl rfl) rfl ?_;apply gE;refine gC (b := true) rfl ?_;apply gS;refine gR rfl ?_;refine GoR.call rfl rfl (aCF aFunc20 rfl) (awake_ok) ?_ np;rintro v5 h5 ⟨q, x5⟩;cases q;refine ⟨_, rfl, ?_⟩;replace e0 := e0.trans x5;refine gP ?_;apply gE;exact gW Try.func7 rfl rfl ⟨rfl, e0⟩
 ·rw [DrainV.tr_yes hT] at hSt hBr
  dsimp only at hSt hBr
  obtain ⟨z1, z2, z3⟩ := stop_ex O
  have z4 := stop_zero O
  have hq32 : 2 ^ D.ds.length ≤ 2 ^ 7 := Nat.pow_le_pow_right (by decide) hnd
  obtain ⟨q, hq⟩ : ∃ q, stopV D = q := ⟨_, rfl⟩
  obtain ⟨pe, hpe⟩ : ∃ q, D.perhaps = q := ⟨_, rfl⟩
  obtain ⟨su, hsu⟩ : ∃ q, D.surely = q := ⟨_, rfl⟩
  rw [hq] at hSt z1 z2 z3 z4;rw [hpe] at hBr z4;rw [hsu] at hBr
  obtain ⟨pw, hpw⟩ : ∃ pw, 2 ^ D.ds.length = pw := ⟨_, rfl⟩
  have hp0 : 0 < pw := by rw [← hpw]; exact Nat.two_pow_pos _
  have hshl : (1 : Int) * 2 ^ D.ds.length = (pw : Nat) := by rw [Int.one_mul, ← hpw]; push_cast; rfl
  rw [hpw] at z1 z3 hq32
  obtain ⟨al, rfl⟩ : ∃ al, pw = al + 1 := ⟨pw - 1, by omega⟩
  have hal : ((al + 1 : Nat) : Int) - 1 = (al : Nat) := by omega
  obtain ⟨own, hown⟩ : ∃ own, w &&& al = own := ⟨_, rfl⟩
  have hownl : own ≤ al := by rw [← hown]; exact Nat.and_le_right
  have hs2 := fun {h'} => size28_ok own (by omega) (h := h')
  have hs3 := fun {h'} => size28_ok q (by omega) (h := h')
  have hp5 := popc_le own
  have hp6 := popc_le q
  have hpart : ∀ i, i < 10 → q.testBit i = true → okS D (andNot q (2 ^ i)) = false := fun i hi k => by
   have h1 := popc_less q (by omega) i hi k
   have h3 := andNot_le q (2 ^ i) (by omega)
   cases z : okS D (andNot q (2 ^ i)) with
   | false => rfl
   | true =>
    have := z3 _ (by omega) z
    omega
  unfold dC at *
  have e0 : Ext h h := Ext.refl _
  refine Runs.intro aFunc7 rfl rfl rfl rfl fun rest => ?_;apply gS;refine gR rfl ?_;refine GoR.box rfl rfl rfl rfl rfl rfl fun h0 x0 f0 => ?_;have := e0.1;replace e0 := e0.trans x0;have := f0.1;refine gP ?_;apply gE;iterate 2 apply gS
  refine gR rfl ?_;refine gO rfl rfl (ld29 rfl f0 rfl) rfl ?_;refine GoR.call rfl rfl (aCF aFunc22 rfl) (hF e0) ?_ np;rintro v1 h1 ⟨q, x1⟩;cases q;refine ⟨_, rfl, ?_⟩;replace f0 := f0.ext x1;replace e0 := e0.trans x1;refine gP ?_;refine gO rfl rfl (ld29 rfl f0 rfl) rfl ?_;refine GoR.call rfl rfl (aCF aFunc23 rfl) (hR e0) ?_ np;rintro v2 h2 ⟨q, x2⟩;cases q;refine ⟨_, rfl, ?_⟩;replace f0 := f0.ext x2;replace e0 := e0.trans x2;iterate 2 refine gP ?_
  apply gE;refine gC (b := false) rfl ?_;refine gD ?_;apply gS;refine gR rfl ?_;refine gO rfl rfl (ld29 rfl f0 rfl) rfl ?_;refine GoR.call rfl rfl (aCF aFunc18 rfl) (hSt e0) ?_ np;rintro v3 h3 ⟨q, x3⟩;cases q;refine ⟨_, rfl, ?_⟩;replace f0 := f0.ext x3;replace e0 := e0.trans x3;iterate 7 refine gP ?_
  apply gE;apply gS;refine gR rfl ?_;refine gO rfl rfl (ld29 rfl f0 rfl) rfl ?_;refine GoR.call rfl rfl (aCF aFunc16 rfl) (hBr e0) ?_ np;rintro v4 h4 ⟨q, x4⟩;cases q;refine ⟨_, rfl, ?_⟩;replace f0 := f0.ext x4;replace e0 := e0.trans x4;iterate 7 refine gP ?_
  apply gE;iterate 2 apply gS
  refine gR rfl ?_;iterate 2 refine gP ?_
  refine gO rfl rfl (kXF rfl rfl) rfl ?_;iterate 2 refine gP ?_
  refine gO rfl rfl (kXF rfl rfl) rfl ?_;refine gP ?_;iterate 10 refine GoR.skip rfl rfl rfl ?_
  iterate 2 refine gP ?_
  apply gE;refine gC (b := false) rfl ?_;refine gD ?_;iterate 2 apply gS
  refine gR rfl ?_;refine gP ?_;refine gO rfl rfl (kXF rfl rfl) rfl ?_;apply gE;refine gC (b := false) rfl ?_;refine gD ?_;apply gS;refine gR rfl ?_;refine GoR.alloc rfl rfl rfl zt47 rfl rfl fun h5 x5 f5 => ?_;have := e0.1;have := f0.1;replace f0 := f0.ext x5;replace e0 := e0.trans x5;have := f5.1;apply gE;iterate 2 apply gS
  refine gR rfl ?_;refine gO rfl rfl (fa29_0 rfl) rfl ?_;refine gO rfl rfl (ld25 rfl f0 rfl) rfl ?_;refine gO rfl rfl (aOp_lenSlice Try.underlying25 rfl hl1) rfl ?_;refine gP ?_;apply gE;refine Go.block noJ_ok ?_
  have hb0 := f0.1
  have hb5 := f5.1
  have hx5 := x5.1
  refine Go.loopKeep (fun a : Nat × AVal => [(1, .int .u8 (w : Nat)), (2, .ptr h.next 0), (5, .int .i64 ((popc q : Nat) : Int)), (6, .int .i64 (q : Nat)), (9, .int .i64 (pe : Nat)), (11, .ptr h4.next 0), (62, b), (63, .int .i64 D.bs.length), (64, .int .i64 (a.1 : Nat))])
   (fun m a h' => m + a.1 = D.bs.length ∧ Ext h h' ∧ h5.next ≤ h'.next ∧ Has h' h.next (.cells .plain [b, d, r, s] 29) ∧ Has h' h4.next (.cells .plain [a.2] 47) ∧ Grow h' 3 1 h5.next a.2 a.1 (i64s ((highs D).take a.1))) (n := D.bs.length) (0, .nilslice) ⟨rfl, rfl, rfl, rfl, rfl, rfl, rfl, rfl, rfl, trivial⟩ ⟨rfl, e0, Nat.le_refl _, f0, f5, Grow.nil _ _ _ _⟩ ?_
  have hlt4 : h4.next < h5.next := by omega
  have hlt0 : h.next < h4.next := by have := x5.1; have := x4.1; omega
  clear e0 f0 f5;rintro m ⟨i, sl⟩ h10 ⟨hm, e0, hn10, f0, f5, G⟩ again
  dsimp only at hm f5 G ⊢
  by_cases hi : i < D.bs.length
  ·obtain ⟨x, hx⟩ : ∃ x, D.bs[i]? = some x := ⟨D.bs[i], by simp [hi]⟩
   obtain ⟨bq, off, q1, q2⟩ := A.bs.at (i := i) (l := BkV.cells x) (by rw [List.getElem?_map, hx]; rfl)
   rw [List.length_map] at q1
   unfold BkV.cells at q2
   have htk : (highs D).take (i + 1) = (highs D).take i ++ [x.yh] := by
    have : (highs D)[i]? = some x.yh := by unfold highs; rw [List.getElem?_map, hx]; rfl
    rw [List.take_add_one, this]
    rfl
   have e1 : Ext h10 h10 := Ext.refl _
   have hsG := grow_same G
   apply gS;refine gR rfl ?_;refine gO rfl rfl (kLT rfl rfl) rfl ?_;apply gE;apply gS;refine gC (b := true) rfl ?_;refine gD ?_;apply gS;refine Go.block noJ_ok ?_;apply gS;refine gR rfl ?_;refine gO rfl rfl (aOp_indexAddr (i := i) Try.underlying25 sz60 rfl q1 rfl (Nat.ble_eq_true_of_le hi)) rfl ?_;refine gO rfl rfl (aOp_loadE ag60 sz60 rfl (q2.ext e0)) rfl ?_;refine GoR.alloc rfl rfl rfl zt60 rfl rfl fun h11 x11 f11 => ?_;have := e0.1;have := e1.1;have := f0.1;have := f5.1;replace f0 := f0.ext x11;replace f5 := f5.ext x11;replace e0 := e0.trans x11;replace e1 := e1.trans x11;have := f11.1;refine GoR.store rfl rfl rfl rfl rfl rfl f11 rfl sz60 rfl rfl rfl fun h12 u12 => ?_;replace f11 := u12.has f11;replace f0 := f0.upd u12 (by omega);replace f5 := f5.upd u12 (by omega);replace e0 := e0.upd u12 (by omega);replace e1 := e1.upd u12 (by omega);apply gE;refine gR rfl ?_;refine gO rfl rfl (ld47 rfl f5 rfl) rfl ?_;refine gO rfl rfl (fa60_1 rfl) rfl ?_;refine gO rfl rfl (fa35_1 rfl) rfl ?_;refine gO rfl rfl (ld3 rfl f11 rfl) rfl ?_;refine GoR.buildSl rfl rfl (ps := [(0, .int .i64 x.yh)]) (cs := [.int .i64 x.yh]) Try.underlying47 rfl sz3 zt3 rfl rfl rfl rfl fun h13 x13 f13 => ?_;have := e0.1;have := e1.1;have := f11.1;have := f0.1;have := f5.1;replace f0 := f0.ext x13;replace f5 := f5.ext x13;replace e0 := e0.trans x13;replace e1 := e1.trans x13;have := f13.1
   have hi6 : i64s ((highs D).take (i + 1)) = i64s ((highs D).take i) ++ [.int .i64 x.yh] := by rw [htk]; unfold i64s; rw [List.map_append]; rfl
   have G' := G.ext e1
   have hx1 := e1.1
   refine GoR.append1F (lo := h5.next) (s := sl) rfl rfl rfl Try.underlying47 Try.underlying47 sz3 by3 zt3 rfl rfl rfl rfl f13 rfl rfl G' (by omega) rfl rfl fun s6 h59 y59 g59 => ?_
   have e9 : Ext h h59 := y59.low e0 (fun b q => by have := (grow_own G' q).1; omega)
   have f9 := f0.extF y59 (fun q => by have := (grow_own G' q).1; omega)
   have f10 := f5.extF y59 (fun q => by have := (grow_own G' q).1; omega)
   have hy := y59.1
   obtain ⟨hk1, hk2⟩ := grow_scal g59
   have hst1 : Nat.beq s6.cells.length 1 = true := by rw [hk2]; rfl
   have hst2 : scalars s6.cells = true := by rw [hk2]; exact hk1
   have hst3 : splice [sl] 0 s6.cells = some [s6] := by rw [hk2]; rfl
   clear e0 e1 f0 f5 f13 f11 y59
   have e0 := e9
   have f0 := f9
   have f5 := f10
   clear e9 f9 f10;refine GoR.store rfl rfl rfl rfl rfl rfl f5 rfl sz47 hst1 hst2 hst3 fun h60 u60 => ?_;replace f0 := f0.upd u60 (by omega);replace f5 := u60.has f5;replace e0 := e0.upd u60 (by omega);apply gE;refine Go.inBlock noJ_ok ?_;refine gR rfl ?_;refine gO rfl rfl (aA rfl rfl) rfl ?_;refine gP ?_;apply gE
   have hu := u60.1
   refine again (m - 1) (i + 1, s6) _ _ (by omega) ⟨rfl, rfl, rfl, rfl, rfl, rfl, rfl, rfl, rfl, trivial⟩ ⟨by dsimp only; omega, e0, by omega, f0, f5, ?_⟩
   dsimp only
   rw [hi6];exact (g59.low (by omega)).keep (by omega) fun b hb1 hb2 hb3 => u60.2.2 b (by have := (grow_own g59 hb3).1; omega)
  ·have hin : i = D.bs.length := by omega
   subst hin;rw [show (highs D).take D.bs.length = highs D from List.take_of_length_le (by unfold highs; rw [List.length_map]; exact Nat.le_refl _)] at G
   have Y := ints_slice (by unfold highs; rw [List.length_map]) G
   have hen := fun {h' : AH} (e : Ext h10 h') (f0 : Has h' h.next (.cells .plain [b, d, r, s] 29)) (f5 : Has h' h4.next (.cells .plain [sl] 47)) (st : Nat) => enough33_ok O (st := st) (A.ext e0) Y e f0 f5
   clear again
   unfold dC at hen
   have e1 : Ext h10 h10 := Ext.refl _
   have hb3 := f5.1
   have hcq := fun {h' : AH} (e : Ext h10 h') f0 f5 => hen e f0 f5 q
   rw [z2] at hcq
   by_cases hq0 : q = 0
   ·have hpe0 := z4.1 hq0
    apply gS;refine gR rfl ?_;refine gO rfl rfl (kLF rfl rfl) rfl ?_;apply gE;apply gS;refine gC (b := false) rfl ?_;refine gD ?_;apply gS;refine gR rfl ?_;iterate 2 refine gP ?_
    apply gE;apply gS;refine gR rfl ?_;refine gO rfl rfl (fa29_1 rfl) rfl ?_;refine gO rfl rfl (ld26 rfl f0 rfl) rfl ?_;refine gO rfl rfl (aOp_lenSlice Try.underlying26 rfl hl2) rfl ?_;refine gO rfl rfl (aOp_shl rfl rfl (by omega) hshl (by omega)) rfl ?_;refine gO rfl rfl (aOp_sub rfl rfl (by constructor <;> omega) hal) rfl ?_;iterate 2 refine gP ?_
    apply gE;iterate 2 apply gS
    refine gR rfl ?_;refine gP ?_;refine gO rfl rfl (kLF rfl rfl) rfl ?_;iterate 3 refine gP ?_
    refine gO rfl rfl (kGF rfl rfl) rfl ?_;iterate 4 refine gP ?_
    refine GoR.call rfl rfl (aOp_callVal rfl aFunc28 rfl) (hs3) ?_ np;rintro v11 h11 ⟨q, x11⟩;cases q;refine ⟨_, rfl, ?_⟩;replace f0 := f0.ext x11;replace f5 := f5.ext x11;replace e0 := e0.trans x11;replace e1 := e1.trans x11;refine gP ?_;refine gO rfl rfl (kXF rfl rfl) rfl ?_;iterate 4 refine gP ?_
    refine GoR.call rfl rfl (aOp_callVal rfl aFunc33 rfl) (hcq e1 f0 f5) ?_ np;rintro v12 h12 ⟨q, x12⟩;cases q;refine ⟨_, rfl, ?_⟩;replace f0 := f0.ext x12;replace f5 := f5.ext x12;replace e0 := e0.trans x12;replace e1 := e1.trans x12;iterate 4 refine gP ?_
    refine gO rfl rfl (kET rfl rfl) rfl ?_;refine gP ?_;refine gO rfl rfl (kET rfl rfl) rfl ?_;refine gO rfl rfl (aOp_neqBool rfl rfl Try.underlying4 (r := false) rfl) rfl ?_;refine gP ?_;apply gE;refine gC (b := false) rfl ?_;refine gD ?_;iterate 2 apply gS
    refine gR rfl ?_;refine gO rfl rfl (fa29_1 rfl) rfl ?_;refine gO rfl rfl (ld26 rfl f0 rfl) rfl ?_;refine gO rfl rfl (aOp_lenSlice Try.underlying26 rfl hl2) rfl ?_;refine gP ?_;apply gE;refine Go.block noJ_ok ?_;refine Go.loopKeep (fun i : Nat => [(1, .int .u8 (w : Nat)), (2, .ptr h.next 0), (5, .int .i64 ((popc q : Nat) : Int)), (6, .int .i64 (q : Nat)), (14, .func (.func 33) [] [.ptr h.next 0, .ptr h4.next 0]), (15, .int .i64 (al : Nat)), (16, .func (.func 28) [] []), (110, .int .i64 D.ds.length), (111, .int .i64 (i : Nat))]) (fun m i h' => m + i = D.ds.length ∧ Ext h h' ∧ Ext h10 h' ∧ Has h' h.next (.cells .plain [b, d, r, s] 29) ∧ Has h' h4.next (.cells .plain [sl] 47)) (n := D.ds.length) 0 ⟨rfl, rfl, rfl, rfl, rfl, rfl, rfl, rfl, rfl, trivial⟩ ⟨rfl, e0, e1, f0, f5⟩ ?_;clear e0 e1 f0 f5;rintro m i h70 ⟨hm, e0, e1, f0, f5⟩ again
    have hce := e0.1
    have hb0 := f0.1
    have hb5 := f5.1
    by_cases hi : i < D.ds.length
    ·have hbit := bit_int q i
     have h2i : 2 ^ i ≤ 2 ^ 7 := Nat.pow_le_pow_right (by decide) (by omega)
     obtain ⟨p2, hp2⟩ : ∃ p2, 2 ^ i = p2 := ⟨_, rfl⟩
     have hsh2 : (1 : Int) * 2 ^ i = (p2 : Nat) := by rw [Int.one_mul, ← hp2]; push_cast; rfl
     cases hb : q.testBit i with
     | false =>
      rw [hb] at hbit;apply gS;refine gR rfl ?_;refine gO rfl rfl (kLT rfl rfl) rfl ?_;apply gE;apply gS;refine gC (b := true) rfl ?_;refine gD ?_;apply gS;refine Go.block noJ_ok ?_;apply gS;refine gR rfl ?_;iterate 2 refine gP ?_
      apply gE;apply gS;refine gR rfl ?_;iterate 2 refine gP ?_
      refine gO rfl rfl (aOp_shr rfl rfl (by omega) rfl) rfl ?_;refine gO rfl rfl (aOp_and1 rfl rfl rfl) rfl ?_;refine gO rfl rfl (aOp_eql rfl rfl hbit) rfl ?_;refine gP ?_;iterate 6 refine GoR.skip rfl rfl rfl ?_
      refine gP ?_;apply gE;refine gC (b := false) rfl ?_;refine gD ?_;refine Go.inBlock noJ_ok ?_;refine gR rfl ?_;refine gO rfl rfl (aA rfl rfl) rfl ?_;refine gP ?_;apply gE;exact again (m - 1) (i + 1) _ _ (by omega) ⟨rfl, rfl, rfl, rfl, rfl, rfl, rfl, rfl, rfl, trivial⟩ ⟨by omega, e0, e1, f0, f5⟩
     | true =>
      rw [hb] at hbit
      have hp7 := hpart i (by omega) hb
      have hc7 := fun {h' : AH} (e : Ext h10 h') f0 f5 => hen (h' := h') e f0 f5 (andNot q p2)
      rw [hp2] at hp7 h2i;rw [hp7] at hc7;apply gS;refine gR rfl ?_;refine gO rfl rfl (kLT rfl rfl) rfl ?_;apply gE;apply gS;refine gC (b := true) rfl ?_;refine gD ?_;apply gS;refine Go.block noJ_ok ?_;apply gS;refine gR rfl ?_;iterate 2 refine gP ?_
      apply gE;apply gS;refine gR rfl ?_;iterate 2 refine gP ?_
      refine gO rfl rfl (aOp_shr rfl rfl (by omega) rfl) rfl ?_;refine gO rfl rfl (aOp_and1 rfl rfl rfl) rfl ?_;refine gO rfl rfl (aOp_eql rfl rfl hbit) rfl ?_;iterate 4 refine gP ?_
      refine gO rfl rfl (aOp_shl rfl rfl (by omega) hsh2 (by omega)) rfl ?_;refine gO rfl rfl (aOp_andNot (r := andNot q p2) rfl rfl (by omega) rfl) rfl ?_;refine GoR.call rfl rfl (aOp_callVal rfl aFunc33 rfl) (hc7 e1 f0 f5) ?_ np;rintro v71 h71 ⟨q, x71⟩;cases q;refine ⟨_, rfl, ?_⟩;replace f0 := f0.ext x71;replace f5 := f5.ext x71;replace e0 := e0.trans x71;replace e1 := e1.trans x71;refine gP ?_;apply gE;refine gC (b := false) rfl ?_;refine gD ?_;refine Go.inBlock noJ_ok ?_;refine gR rfl ?_;refine gO rfl rfl (aA rfl rfl) rfl ?_;refine gP ?_;apply gE;exact again (m - 1) (i + 1) _ _ (by omega) ⟨rfl, rfl, rfl, rfl, rfl, rfl, rfl, rfl, rfl, trivial⟩ ⟨by omega, e0, e1, f0, f5⟩
    ·clear again
     have hco := fun {h' : AH} (e : Ext h10 h') f0 f5 => hen (h' := h') e f0 f5 own
     cases hk : okS D own with
     | false =>
      rw [hk] at hco;apply gS;refine gR rfl ?_;refine gO rfl rfl (kLF rfl rfl) rfl ?_;apply gE;apply gS;refine gC (b := false) rfl ?_;refine gD ?_;apply gS;refine gR rfl ?_;refine gP ?_;refine gO rfl rfl (aOp_convU8 rfl Try.underlying5 Try.underlying3 (by omega)) rfl ?_;refine gP ?_;refine gO rfl rfl (aOp_andNat rfl rfl (by omega) (by omega) hown) rfl ?_;refine gP ?_;apply gE;apply gS;refine gR rfl ?_;iterate 2 refine gP ?_
      refine GoR.call rfl rfl (aOp_callVal rfl aFunc33 rfl) (hco e1 f0 f5) ?_ np;rintro v71 h71 ⟨q, x71⟩;cases q;refine ⟨_, rfl, ?_⟩;replace f0 := f0.ext x71;replace f5 := f5.ext x71;replace e0 := e0.trans x71;replace e1 := e1.trans x71;iterate 2 refine gP ?_
      iterate 5 refine GoR.skip rfl rfl rfl ?_
      iterate 2 refine gP ?_
      iterate 10 refine GoR.skip rfl rfl rfl ?_
      iterate 2 refine gP ?_
      refine GoR.call rfl rfl (aCF aFunc20 rfl) (awake_ok) ?_ np;rintro v72 h72 ⟨q, x72⟩;cases q;refine ⟨_, rfl, ?_⟩;replace f0 := f0.ext x72;replace f5 := f5.ext x72;replace e0 := e0.trans x72;replace e1 := e1.trans x72;iterate 2 refine gP ?_
      apply gE;exact gW Try.func7 rfl rfl ⟨rfl, e0⟩
     | true =>
      rw [hk] at hco
      have hl := z3 own (by omega) hk
      by_cases hpo : popc q = popc own
      ·apply gS;refine gR rfl ?_;refine gO rfl rfl (kLF rfl rfl) rfl ?_;apply gE;apply gS;refine gC (b := false) rfl ?_;refine gD ?_;apply gS;refine gR rfl ?_;refine gP ?_;refine gO rfl rfl (aOp_convU8 rfl Try.underlying5 Try.underlying3 (by omega)) rfl ?_;refine gP ?_;refine gO rfl rfl (aOp_andNat rfl rfl (by omega) (by omega) hown) rfl ?_;refine gP ?_;apply gE;apply gS;refine gR rfl ?_;iterate 2 refine gP ?_
       refine GoR.call rfl rfl (aOp_callVal rfl aFunc33 rfl) (hco e1 f0 f5) ?_ np;rintro v71 h71 ⟨q, x71⟩;cases q;refine ⟨_, rfl, ?_⟩;replace e0 := e0.trans x71;iterate 4 refine gP ?_
       refine GoR.call rfl rfl (aOp_callVal rfl aFunc28 rfl) (hs2) ?_ np;rintro v72 h72 ⟨q, x72⟩;cases q;refine ⟨_, rfl, ?_⟩;replace e0 := e0.trans x72;refine gP ?_;refine gO rfl rfl (kGF rfl rfl) rfl ?_;iterate 4 refine gP ?_
       refine GoR.call rfl rfl (aOp_callVal rfl aFunc28 rfl) (hs2) ?_ np;rintro v73 h73 ⟨q, x73⟩;cases q;refine ⟨_, rfl, ?_⟩;replace e0 := e0.trans x73;refine gP ?_;refine gO rfl rfl (kET rfl rfl) rfl ?_;iterate 3 refine gP ?_
       refine gO rfl rfl (kNT rfl rfl) rfl ?_;iterate 3 refine gP ?_
       refine GoR.call rfl rfl (aCF aFunc20 rfl) (awake_ok) ?_ np;rintro v74 h74 ⟨q, x74⟩;cases q;refine ⟨_, rfl, ?_⟩;replace e0 := e0.trans x74;iterate 2 refine gP ?_
       apply gE;exact gW Try.func7 rfl rfl ⟨rfl, e0⟩
      ·apply gS;refine gR rfl ?_;refine gO rfl rfl (kLF rfl rfl) rfl ?_;apply gE;apply gS;refine gC (b := false) rfl ?_;refine gD ?_;apply gS;refine gR rfl ?_;refine gP ?_;refine gO rfl rfl (aOp_convU8 rfl Try.underlying5 Try.underlying3 (by omega)) rfl ?_;refine gP ?_;refine gO rfl rfl (aOp_andNat rfl rfl (by omega) (by omega) hown) rfl ?_;refine gP ?_;apply gE;apply gS;refine gR rfl ?_;iterate 2 refine gP ?_
       refine GoR.call rfl rfl (aOp_callVal rfl aFunc33 rfl) (hco e1 f0 f5) ?_ np;rintro v71 h71 ⟨q, x71⟩;cases q;refine ⟨_, rfl, ?_⟩;replace e0 := e0.trans x71;iterate 4 refine gP ?_
       refine GoR.call rfl rfl (aOp_callVal rfl aFunc28 rfl) (hs2) ?_ np;rintro v72 h72 ⟨q, x72⟩;cases q;refine ⟨_, rfl, ?_⟩;replace e0 := e0.trans x72;refine gP ?_;refine gO rfl rfl (kGT rfl rfl) rfl ?_;iterate 2 refine gP ?_
       iterate 10 refine GoR.skip rfl rfl rfl ?_
       iterate 2 refine gP ?_
       refine GoR.call rfl rfl (aCF aFunc20 rfl) (awake_ok) ?_ np;rintro v73 h73 ⟨q, x73⟩;cases q;refine ⟨_, rfl, ?_⟩;replace e0 := e0.trans x73;iterate 2 refine gP ?_
       apply gE;exact gW Try.func7 rfl rfl ⟨rfl, e0⟩
   ·have hpe0 : pe ≠ 0 := fun k => hq0 (z4.2 k)
    apply gS;refine gR rfl ?_;refine gO rfl rfl (kLF rfl rfl) rfl ?_;apply gE;apply gS;refine gC (b := false) rfl ?_;refine gD ?_;apply gS;refine gR rfl ?_;iterate 2 refine gP ?_
    apply gE;apply gS;refine gR rfl ?_;refine gO rfl rfl (fa29_1 rfl) rfl ?_;refine gO rfl rfl (ld26 rfl f0 rfl) rfl ?_;refine gO rfl rfl (aOp_lenSlice Try.underlying26 rfl hl2) rfl ?_;refine gO rfl rfl (aOp_shl rfl rfl (by omega) hshl (by omega)) rfl ?_;refine gO rfl rfl (aOp_sub rfl rfl (by constructor <;> omega) hal) rfl ?_;iterate 2 refine gP ?_
    apply gE;iterate 2 apply gS
    refine gR rfl ?_;refine gP ?_;refine gO rfl rfl (kLF rfl rfl) rfl ?_;iterate 3 refine gP ?_
    refine gO rfl rfl (kGF rfl rfl) rfl ?_;iterate 4 refine gP ?_
    refine GoR.call rfl rfl (aOp_callVal rfl aFunc28 rfl) (hs3) ?_ np;rintro v11 h11 ⟨q, x11⟩;cases q;refine ⟨_, rfl, ?_⟩;replace f0 := f0.ext x11;replace f5 := f5.ext x11;replace e0 := e0.trans x11;replace e1 := e1.trans x11;refine gP ?_;refine gO rfl rfl (kXF rfl rfl) rfl ?_;iterate 4 refine gP ?_
    refine GoR.call rfl rfl (aOp_callVal rfl aFunc33 rfl) (hcq e1 f0 f5) ?_ np;rintro v12 h12 ⟨q, x12⟩;cases q;refine ⟨_, rfl, ?_⟩;replace f0 := f0.ext x12;replace f5 := f5.ext x12;replace e0 := e0.trans x12;replace e1 := e1.trans x12;iterate 4 refine gP ?_
    refine gO rfl rfl (kEF rfl rfl) rfl ?_;refine gP ?_;refine gO rfl rfl (kEF rfl rfl) rfl ?_;refine gO rfl rfl (aOp_neqBool rfl rfl Try.underlying4 (r := false) rfl) rfl ?_;refine gP ?_;apply gE;refine gC (b := false) rfl ?_;refine gD ?_;iterate 2 apply gS
    refine gR rfl ?_;refine gO rfl rfl (fa29_1 rfl) rfl ?_;refine gO rfl rfl (ld26 rfl f0 rfl) rfl ?_;refine gO rfl rfl (aOp_lenSlice Try.underlying26 rfl hl2) rfl ?_;refine gP ?_;apply gE;refine Go.block noJ_ok ?_;refine Go.loopKeep (fun i : Nat => [(1, .int .u8 (w : Nat)), (2, .ptr h.next 0), (5, .int .i64 ((popc q : Nat) : Int)), (6, .int .i64 (q : Nat)), (14, .func (.func 33) [] [.ptr h.next 0, .ptr h4.next 0]), (15, .int .i64 (al : Nat)), (16, .func (.func 28) [] []), (110, .int .i64 D.ds.length), (111, .int .i64 (i : Nat))]) (fun m i h' => m + i = D.ds.length ∧ Ext h h' ∧ Ext h10 h' ∧ Has h' h.next (.cells .plain [b, d, r, s] 29) ∧ Has h' h4.next (.cells .plain [sl] 47)) (n := D.ds.length) 0 ⟨rfl, rfl, rfl, rfl, rfl, rfl, rfl, rfl, rfl, trivial⟩ ⟨rfl, e0, e1, f0, f5⟩ ?_;clear e0 e1 f0 f5;rintro m i h70 ⟨hm, e0, e1, f0, f5⟩ again
    have hce := e0.1
    have hb0 := f0.1
    have hb5 := f5.1
    by_cases hi : i < D.ds.length
    ·have hbit := bit_int q i
     have h2i : 2 ^ i ≤ 2 ^ 7 := Nat.pow_le_pow_right (by decide) (by omega)
     obtain ⟨p2, hp2⟩ : ∃ p2, 2 ^ i = p2 := ⟨_, rfl⟩
     have hsh2 : (1 : Int) * 2 ^ i = (p2 : Nat) := by rw [Int.one_mul, ← hp2]; push_cast; rfl
     cases hb : q.testBit i with
     | false =>
      rw [hb] at hbit;apply gS;refine gR rfl ?_;refine gO rfl rfl (kLT rfl rfl) rfl ?_;apply gE;apply gS;refine gC (b := true) rfl ?_;refine gD ?_;apply gS;refine Go.block noJ_ok ?_;apply gS;refine gR rfl ?_;iterate 2 refine gP ?_
      apply gE;apply gS;refine gR rfl ?_;iterate 2 refine gP ?_
      refine gO rfl rfl (aOp_shr rfl rfl (by omega) rfl) rfl ?_;refine gO rfl rfl (aOp_and1 rfl rfl rfl) rfl ?_;refine gO rfl rfl (aOp_eql rfl rfl hbit) rfl ?_;refine gP ?_;iterate 6 refine GoR.skip rfl rfl rfl ?_
      refine gP ?_;apply gE;refine gC (b := false) rfl ?_;refine gD ?_;refine Go.inBlock noJ_ok ?_;refine gR rfl ?_;refine gO rfl rfl (aA rfl rfl) rfl ?_;refine gP ?_;apply gE;exact again (m - 1) (i + 1) _ _ (by omega) ⟨rfl, rfl, rfl, rfl, rfl, rfl, rfl, rfl, rfl, trivial⟩ ⟨by omega, e0, e1, f0, f5⟩
     | true =>
      rw [hb] at hbit
      have hp7 := hpart i (by omega) hb
      have hc7 := fun {h' : AH} (e : Ext h10 h') f0 f5 => hen (h' := h') e f0 f5 (andNot q p2)
      rw [hp2] at hp7 h2i;rw [hp7] at hc7;apply gS;refine gR rfl ?_;refine gO rfl rfl (kLT rfl rfl) rfl ?_;apply gE;apply gS;refine gC (b := true) rfl ?_;refine gD ?_;apply gS;refine Go.block noJ_ok ?_;apply gS;refine gR rfl ?_;iterate 2 refine gP ?_
      apply gE;apply gS;refine gR rfl ?_;iterate 2 refine gP ?_
      refine gO rfl rfl (aOp_shr rfl rfl (by omega) rfl) rfl ?_;refine gO rfl rfl (aOp_and1 rfl rfl rfl) rfl ?_;refine gO rfl rfl (aOp_eql rfl rfl hbit) rfl ?_;iterate 4 refine gP ?_
      refine gO rfl rfl (aOp_shl rfl rfl (by omega) hsh2 (by omega)) rfl ?_;refine gO rfl rfl (aOp_andNot (r := andNot q p2) rfl rfl (by omega) rfl) rfl ?_;refine GoR.call rfl rfl (aOp_callVal rfl aFunc33 rfl) (hc7 e1 f0 f5) ?_ np;rintro v71 h71 ⟨q, x71⟩;cases q;refine ⟨_, rfl, ?_⟩;replace f0 := f0.ext x71;replace f5 := f5.ext x71;replace e0 := e0.trans x71;replace e1 := e1.trans x71;refine gP ?_;apply gE;refine gC (b := false) rfl ?_;refine gD ?_;refine Go.inBlock noJ_ok ?_;refine gR rfl ?_;refine gO rfl rfl (aA rfl rfl) rfl ?_;refine gP ?_;apply gE;exact again (m - 1) (i + 1) _ _ (by omega) ⟨rfl, rfl, rfl, rfl, rfl, rfl, rfl, rfl, rfl, trivial⟩ ⟨by omega, e0, e1, f0, f5⟩
    ·clear again
     have hco := fun {h' : AH} (e : Ext h10 h') f0 f5 => hen (h' := h') e f0 f5 own
     cases hk : okS D own with
     | false =>
      rw [hk] at hco;apply gS;refine gR rfl ?_;refine gO rfl rfl (kLF rfl rfl) rfl ?_;apply gE;apply gS;refine gC (b := false) rfl ?_;refine gD ?_;apply gS;refine gR rfl ?_;refine gP ?_;refine gO rfl rfl (aOp_convU8 rfl Try.underlying5 Try.underlying3 (by omega)) rfl ?_;refine gP ?_;refine gO rfl rfl (aOp_andNat rfl rfl (by omega) (by omega) hown) rfl ?_;refine gP ?_;apply gE;apply gS;refine gR rfl ?_;iterate 2 refine gP ?_
      refine GoR.call rfl rfl (aOp_callVal rfl aFunc33 rfl) (hco e1 f0 f5) ?_ np;rintro v71 h71 ⟨q, x71⟩;cases q;refine ⟨_, rfl, ?_⟩;replace f0 := f0.ext x71;replace f5 := f5.ext x71;replace e0 := e0.trans x71;replace e1 := e1.trans x71;iterate 2 refine gP ?_
      iterate 5 refine GoR.skip rfl rfl rfl ?_
      iterate 2 refine gP ?_
      iterate 10 refine GoR.skip rfl rfl rfl ?_
      iterate 2 refine gP ?_
      refine GoR.call rfl rfl (aCF aFunc20 rfl) (awake_ok) ?_ np;rintro v72 h72 ⟨q, x72⟩;cases q;refine ⟨_, rfl, ?_⟩;replace f0 := f0.ext x72;replace f5 := f5.ext x72;replace e0 := e0.trans x72;replace e1 := e1.trans x72;iterate 2 refine gP ?_
      apply gE;exact gW Try.func7 rfl rfl ⟨rfl, e0⟩
     | true =>
      rw [hk] at hco
      have hl := z3 own (by omega) hk
      by_cases hpo : popc q = popc own
      ·apply gS;refine gR rfl ?_;refine gO rfl rfl (kLF rfl rfl) rfl ?_;apply gE;apply gS;refine gC (b := false) rfl ?_;refine gD ?_;apply gS;refine gR rfl ?_;refine gP ?_;refine gO rfl rfl (aOp_convU8 rfl Try.underlying5 Try.underlying3 (by omega)) rfl ?_;refine gP ?_;refine gO rfl rfl (aOp_andNat rfl rfl (by omega) (by omega) hown) rfl ?_;refine gP ?_;apply gE;apply gS;refine gR rfl ?_;iterate 2 refine gP ?_
       refine GoR.call rfl rfl (aOp_callVal rfl aFunc33 rfl) (hco e1 f0 f5) ?_ np;rintro v71 h71 ⟨q, x71⟩;cases q;refine ⟨_, rfl, ?_⟩;replace e0 := e0.trans x71;iterate 4 refine gP ?_
       refine GoR.call rfl rfl (aOp_callVal rfl aFunc28 rfl) (hs2) ?_ np;rintro v72 h72 ⟨q, x72⟩;cases q;refine ⟨_, rfl, ?_⟩;replace e0 := e0.trans x72;refine gP ?_;refine gO rfl rfl (kGF rfl rfl) rfl ?_;iterate 4 refine gP ?_
       refine GoR.call rfl rfl (aOp_callVal rfl aFunc28 rfl) (hs2) ?_ np;rintro v73 h73 ⟨q, x73⟩;cases q;refine ⟨_, rfl, ?_⟩;replace e0 := e0.trans x73;refine gP ?_;refine gO rfl rfl (kET rfl rfl) rfl ?_;iterate 3 refine gP ?_
       refine gO rfl rfl (kNT rfl rfl) rfl ?_;iterate 3 refine gP ?_
       refine GoR.call rfl rfl (aCF aFunc20 rfl) (awake_ok) ?_ np;rintro v74 h74 ⟨q, x74⟩;cases q;refine ⟨_, rfl, ?_⟩;replace e0 := e0.trans x74;iterate 2 refine gP ?_
       apply gE;exact gW Try.func7 rfl rfl ⟨rfl, e0⟩
      ·apply gS;refine gR rfl ?_;refine gO rfl rfl (kLF rfl rfl) rfl ?_;apply gE;apply gS;refine gC (b := false) rfl ?_;refine gD ?_;apply gS;refine gR rfl ?_;refine gP ?_;refine gO rfl rfl (aOp_convU8 rfl Try.underlying5 Try.underlying3 (by omega)) rfl ?_;refine gP ?_;refine gO rfl rfl (aOp_andNat rfl rfl (by omega) (by omega) hown) rfl ?_;refine gP ?_;apply gE;apply gS;refine gR rfl ?_;iterate 2 refine gP ?_
       refine GoR.call rfl rfl (aOp_callVal rfl aFunc33 rfl) (hco e1 f0 f5) ?_ np;rintro v71 h71 ⟨q, x71⟩;cases q;refine ⟨_, rfl, ?_⟩;replace e0 := e0.trans x71;iterate 4 refine gP ?_
       refine GoR.call rfl rfl (aOp_callVal rfl aFunc28 rfl) (hs2) ?_ np;rintro v72 h72 ⟨q, x72⟩;cases q;refine ⟨_, rfl, ?_⟩;replace e0 := e0.trans x72;refine gP ?_;refine gO rfl rfl (kGT rfl rfl) rfl ?_;iterate 2 refine gP ?_
       iterate 10 refine GoR.skip rfl rfl rfl ?_
       iterate 2 refine gP ?_
       refine GoR.call rfl rfl (aCF aFunc20 rfl) (awake_ok) ?_ np;rintro v73 h73 ⟨q, x73⟩;cases q;refine ⟨_, rfl, ?_⟩;replace e0 := e0.trans x73;iterate 2 refine gP ?_
       apply gE;exact gW Try.func7 rfl rfl ⟨rfl, e0⟩
theorem law7 {D : DrainV} {b d r s : AVal} {h : AH} (A : DrainAt h D b d r s) (L : DrainL D) {w1 : Int} (h1 : 0 ≤ w1 ∧ w1 < 256) : Runs Try.prog 7 [.agg (dC b d r s), .int .u8 w1] h (fun en h' => en = .ret (.bool true) ∧ Ext h h') := by
 by_cases B : DrainB D
 ·by_cases O : D.Ok
  ·obtain ⟨w, rfl⟩ := Int.eq_ofNat_of_zero_le h1.1
   exact law7_ok A O (by omega)
  ·exact law7_bad A B O
 ·exact law7_far A L B
end Go.Proofs.Ytkhiagdmbajimaa

namespace Go.AbsE
open Go Go.RowKit
section
variable {P : Program}
theorem VRs.ints {e : Env} : ∀ l : List Int, VRs e (l.map fun x => AVal.int .i64 x) (l.map fun x => Value.int .i64 x) := by
 intro l
 induction l with
 | nil => exact .nil
 | cons a l ih => exact .cons (.int _ _) ih
theorem HR.openWin {e : Env} {h : AH} {W : World} (r : HR P (Base.all W) e h W) {B lo : Nat} {PRE CS junk : List Value} {el : TypeId} {fr : Nat × Nat} {cs : List AVal} (hB : W.heap[B]? = some (.cells (PRE ++ (CS ++ junk)).toArray el fr)) (hp : PRE.length = lo) (hv : ∀ e, VRs e cs CS) :
  ∃ e' h', Env.le e e' ∧ HR P (Base.all W) e' h' W ∧ Ext h h' ∧ e' h.next = some (B, 0) ∧ Has h' h.next (.win lo cs) := by
 obtain ⟨h', k⟩ := new_some h (.win lo cs)
 obtain ⟨_, x1, x2⟩ := new_ext k
 obtain ⟨n1, n2, n3⟩ := AH.get_new k
 have hle := Env.le_ext (x := (B, 0)) r.fresh
 have hlt := (Array.getElem?_eq_some_iff.1 hB).1
 refine ⟨e.ext h.next (B, 0), h', hle, ?_, x1, Env.ext_same _ _ _, x2⟩
 refine { dom := ?_, blk := ?_, inj := ?_, imm := ?_, os := r.os, tape := r.tape, output := r.output, size := r.size, old := r.old, young := r.young }
 ·intro b' x kx
  rw [Env.ext_at] at kx
  by_cases hb' : b' = h.next
  ·omega
  ·rw [if_neg hb'] at kx; have := r.dom _ _ kx; omega
 ·intro b' o' kx
  rw [n3] at kx
  by_cases hb' : b' = h.next
  ·rw [if_pos hb'] at kx
   cases kx
   subst hb'
   exact ⟨B, 0, _, Env.ext_same _ _ _, (fun q => by cases q), hB, .win (hv _) hp⟩
  ·rw [if_neg hb'] at kx
   obtain ⟨B', c', O', k1, k2, k3, k4⟩ := r.blk _ _ kx
   exact ⟨B', c', O', hle.1 _ _ k1, k2, k3, k4.mono hle⟩
 ·intro b1 b2 B1 c1 c2 o1 o2 k1 k2 hro e1 e2
  rw [n3] at k1 k2
  rw [Env.ext_at] at e1 e2
  by_cases q1 : b1 = h.next
  ·rw [if_pos q1] at k1; cases k1; cases hro
  ·rw [if_neg q1] at k1 e1
   by_cases q2 : b2 = h.next
   ·rw [if_pos q2] at e2
    cases e2
    obtain ⟨B', c', O', j1, j2, _, _⟩ := r.blk _ _ k1
    rw [e1] at j1
    cases j1
    exact absurd hlt (j2 hro)
   ·rw [if_neg q2] at k2 e2
    exact r.inj _ _ _ _ _ _ _ k1 k2 hro e1 e2
 ·intro B1 CS' hi
  obtain ⟨i1, i2⟩ := r.imm B1 CS' hi
  refine ⟨i1, fun b' o' c' kx hro ke => ?_⟩
  rw [n3] at kx
  rw [Env.ext_at] at ke
  by_cases q : b' = h.next
  ·rw [if_pos q] at kx; cases kx; cases hro
  ·rw [if_neg q] at kx ke; exact i2 b' o' c' kx hro ke
end
end Go.AbsE

namespace Go.AbsE
open Go Go.RowKit
section
variable {P : Program}
theorem VRs.kinds {K : Type} {va : K → AVal} {vv : K → Value} (hvr : ∀ e x, VR e (va x) (vv x)) {e : Env} : ∀ l : List K, VRs e (l.map fun x => va x) (l.map fun x => vv x) := by
 intro l
 induction l with
 | nil => exact .nil
 | cons a l ih => exact .cons (hvr _ _) ih
theorem rowsG_eq {K : Type} {vv : K → Value} {C : List Value} {off sz : Nat} : ∀ (len : Nat) (f : Nat → List K), (∀ i, i < len → (f i).length = sz ∧ ∀ k n, (f i)[k]? = some n → C[off + i * sz + k]? = some (vv n)) →
  (C.drop off).take (len * sz) = (((List.range len).map f).flatten).map fun x => vv x := by
 intro len
 induction len with
 | zero => intro f _; simp
 | succ len ih =>
  intro f hf
  have h1 := ih f fun i hi => hf i (by omega)
  obtain ⟨l1, l2⟩ := hf len (by omega)
  rw [Nat.add_mul, Nat.one_mul, List.take_add, h1, List.range_succ, List.map_append, List.flatten_append, List.map_append]
  congr 1
  simp only [List.map_cons, List.map_nil, List.flatten_cons, List.flatten_nil, List.append_nil]
  rw [List.drop_drop]
  refine List.ext_getElem? fun k => ?_
  rw [List.getElem?_take, List.getElem?_drop, List.getElem?_map]
  by_cases hk : k < sz
  ·rw [if_pos hk]
   obtain ⟨n, hn⟩ : ∃ n, (f len)[k]? = some n := ⟨(f len)[k]'(by omega), by simp⟩
   rw [hn]
   exact l2 k n hn
  ·rw [if_neg hk]
   have : (f len)[k]? = none := by simp; omega
   rw [this]
   rfl
end
end Go.AbsE
