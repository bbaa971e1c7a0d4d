import Derived.Test.YtobhkdgcciolmaaGreatMAJ
import Derived.Test.YtobhkdgcciolmaaGreatMAG
namespace Go.Proofs.YtobhkdgcciolmaaGreat
open Go Go.AbsE
set_option linter.unusedSimpArgs false
set_option maxRecDepth 100000
set_option maxHeartbeats 0
set_option linter.unusedVariables false
theorem idx_some {α : Type} {L : List α} {p : α → Bool} {i : Nat} {x : α} (hx : L[i]? = some x) (hp : p x = true) (hn : ∀ y, y ∈ L.take i → p y = false) : L.findIdx? p = some i := by
 have hlt := (List.getElem?_eq_some_iff.1 hx).1
 have hv := (List.getElem?_eq_some_iff.1 hx).2
 refine List.findIdx?_eq_some_iff_getElem.2 ⟨hlt, by rw [hv]; exact hp, fun j hj => ?_⟩;rw [hn _ (List.mem_take_iff_getElem.2 ⟨j, by omega, rfl⟩)]
 simp
theorem take_no {α : Type} {L : List α} {p : α → Bool} {i : Nat} {x : α} (hx : L[i]? = some x) (hp : p x = false) (hn : ∀ y, y ∈ L.take i → p y = false) : ∀ y, y ∈ L.take (i + 1) → p y = false := by
 intro y hy
 rw [List.take_add_one, hx, Option.toList_some, List.mem_append, List.mem_singleton] at hy
 rcases hy with hy | rfl
 ·exact hn y hy
 ·exact hp
theorem idx_any {α : Type} (L : List α) (p : α → Bool) : decide ((0 : Int) ≤ (match L.findIdx? p with | some i => (i : Int) | none => -1)) = L.any p := by
 cases q : L.findIdx? p with
 | none =>
  rw [List.findIdx?_eq_none_iff] at q;rw [List.any_eq_false.2 (fun x hx => by rw [q x hx]; simp)]
  rfl
 | some i =>
  rw [List.findIdx?_eq_some_iff_getElem] at q
  obtain ⟨hlt, hp, _⟩ := q
  rw [List.any_eq_true.2 ⟨_, List.getElem_mem hlt, hp⟩];exact decide_eq_true (Int.natCast_nonneg i)
theorem idx134_at {fid : FuncId} {caps : List AVal} {fn : Func} (hfid : aFunc Tryz.prog fid = some fn) {s : AVal} {L : List PV} (p : PV → Bool) {h : AH} (hs : SliceOf h 6 s (L.map PV.cells)) (hn : L.length ≤ 200)
  (hc : ∀ x h', x ∈ L → Ext h h' → Runs Tryz.prog fid ([.agg (PV.cells x)] ++ caps) h' (fun en h'' => en = .ret (.bool (p x)) ∧ Ext h' h'')) :
  Runs Tryz.prog 134 [s, .func (.func fid) [] caps] h (fun en h' => en = .ret (.int .i64 (match L.findIdx? p with | some i => (i : Int) | none => -1)) ∧ Ext h h') := by
 have hlen := hs.len
 rw [List.length_map] at hlen
 have e0 : Ext h h := Ext.refl _
 refine Runs.intro aFunc134 rfl rfl rfl rfl fun rest => ?_;apply gS;refine gR rfl ?_;refine gP ?_;apply gE;iterate 2 apply gS
 refine gR rfl ?_;refine gP ?_;refine gO rfl rfl (aOp_lenSlice Tryz.underlying22 rfl (by assumption)) rfl ?_;refine gP ?_;apply gE;refine Go.block noJ_ok ?_
 refine Go.loopKeep (fun i : Nat => [(0, s), (1, .func (.func fid) [] caps), (7, .int .i64 L.length), (8, .int .i64 (i : Nat))])
  (fun m i h' => m + i = L.length ∧ Ext h h' ∧ ∀ x, x ∈ L.take i → p x = false) (n := L.length) 0 ⟨rfl, rfl, rfl, rfl, trivial⟩ ⟨rfl, e0, (by intro x hx; simp at hx)⟩ ?_
 clear e0;rintro m i h4 ⟨hm, e0, hp⟩ again
 by_cases hi' : i < L.length
 ·obtain ⟨x, hx⟩ : ∃ x, L[i]? = some x := ⟨L[i], by simp [hi']⟩
  have hmem := List.mem_of_getElem? hx
  obtain ⟨bq, off, q1, q2⟩ := hs.at (i := i) (l := PV.cells x) (by rw [List.getElem?_map, hx]; rfl)
  rw [List.length_map] at q1
  have hcx := hc x h4 hmem e0
  cases hpx : p x with
  | true =>
   rw [hpx] at hcx
   have hany := idx_some hx hpx hp
   rw [hany];apply gS;refine gR rfl ?_;refine gO rfl rfl (kLT rfl rfl) rfl ?_;apply gE;apply gS;refine gC (b := true) rfl ?_;refine gD ?_;apply gS;refine Go.block noJ_ok ?_;apply gS;refine gR rfl ?_;iterate 2 refine gP ?_
   apply gE;apply gS;refine gR rfl ?_;iterate 3 refine gP ?_
   refine gO rfl rfl (aOp_indexAddr (i := i) Tryz.underlying22 sz58 rfl (by assumption) rfl (Nat.ble_eq_true_of_le (by omega))) rfl ?_;refine gO rfl rfl (aOp_loadE ag58 sz58 rfl (q2.ext e0)) rfl ?_;refine GoR.call rfl rfl (aOp_callVal rfl hfid rfl) (hcx) ?_ np;rintro v5 h5 ⟨q, x5⟩;cases q;refine ⟨_, rfl, ?_⟩;replace e0 := e0.trans x5;apply gE;refine gC (b := true) rfl ?_;apply gS;refine gR rfl ?_;iterate 2 refine gP ?_
   apply gE;exact gW Tryz.func134 rfl rfl ⟨rfl, e0⟩
  | false =>
   rw [hpx] at hcx;apply gS;refine gR rfl ?_;refine gO rfl rfl (kLT rfl rfl) rfl ?_;apply gE;apply gS;refine gC (b := true) rfl ?_;refine gD ?_;apply gS;refine Go.block noJ_ok ?_;apply gS;refine gR rfl ?_;iterate 2 refine gP ?_
   apply gE;apply gS;refine gR rfl ?_;iterate 3 refine gP ?_
   refine gO rfl rfl (aOp_indexAddr (i := i) Tryz.underlying22 sz58 rfl (by assumption) rfl (Nat.ble_eq_true_of_le (by omega))) rfl ?_;refine gO rfl rfl (aOp_loadE ag58 sz58 rfl (q2.ext e0)) rfl ?_;refine GoR.call rfl rfl (aOp_callVal rfl hfid rfl) (hcx) ?_ np;rintro v5 h5 ⟨q, x5⟩;cases q;refine ⟨_, rfl, ?_⟩;replace e0 := e0.trans x5;apply gE;refine gC (b := false) rfl ?_;refine gD ?_;refine Go.inBlock noJ_ok ?_;refine gR rfl ?_;refine gO rfl rfl (aA rfl rfl) rfl ?_;refine gP ?_;apply gE;exact again (m - 1) (i + 1) _ _ (by omega) ⟨rfl, rfl, rfl, rfl, trivial⟩ ⟨by omega, e0, take_no hx hpx hp⟩
 ·rw [List.take_of_length_le (by omega)] at hp;rw [List.findIdx?_eq_none_iff.2 hp];apply gS;refine gR rfl ?_;refine gO rfl rfl (kLF rfl rfl) rfl ?_;apply gE;apply gS;refine gC (b := false) rfl ?_;refine gD ?_;apply gS;refine gR rfl ?_;refine gP ?_;apply gE;exact gW Tryz.func134 rfl rfl ⟨rfl, e0⟩
theorem cont114_ok {fid : FuncId} {caps : List AVal} {fn : Func} (hfid : aFunc Tryz.prog fid = some fn) {s : AVal} {L : List PV} (p : PV → Bool) {h : AH} (hs : SliceOf h 6 s (L.map PV.cells)) (hn : L.length ≤ 200)
  (hc : ∀ x h', x ∈ L → Ext h h' → Runs Tryz.prog fid ([.agg (PV.cells x)] ++ caps) h' (fun en h'' => en = .ret (.bool (p x)) ∧ Ext h' h'')) :
  Runs Tryz.prog 114 [s, .func (.func fid) [] caps] h (fun en h' => en = .ret (.bool (L.any p)) ∧ Ext h h') := by
 have e0 : Ext h h := Ext.refl _
 refine Runs.intro aFunc114 rfl rfl rfl rfl fun rest => ?_;apply gS;refine gR rfl ?_;refine gP ?_;apply gE;apply gS;refine gR rfl ?_;iterate 2 refine gP ?_
 refine GoR.call rfl rfl (aCF aFunc134 rfl) (idx134_at hfid p hs hn hc) ?_ np;rintro v0 h0 ⟨q, x0⟩;cases q;refine ⟨_, rfl, ?_⟩;replace e0 := e0.trans x0;refine gO rfl rfl (aOp_geq rfl rfl (idx_any L p)) rfl ?_;refine gP ?_;apply gE;exact gW Tryz.func114 rfl rfl ⟨rfl, e0⟩
theorem idx136_at {fid : FuncId} {caps : List AVal} {fn : Func} (hfid : aFunc Tryz.prog fid = some fn) {s : AVal} {L : List EV} (p : EV → Bool) {h : AH} (hs : SliceOf h 4 s (L.map EV.cells)) (hn : L.length ≤ 200)
  (hc : ∀ x h', x ∈ L → Ext h h' → Runs Tryz.prog fid ([.agg (EV.cells x)] ++ caps) h' (fun en h'' => en = .ret (.bool (p x)) ∧ Ext h' h'')) :
  Runs Tryz.prog 136 [s, .func (.func fid) [] caps] h (fun en h' => en = .ret (.int .i64 (match L.findIdx? p with | some i => (i : Int) | none => -1)) ∧ Ext h h') := by
 have hlen := hs.len
 rw [List.length_map] at hlen
 have e0 : Ext h h := Ext.refl _
 refine Runs.intro aFunc136 rfl rfl rfl rfl fun rest => ?_;apply gS;refine gR rfl ?_;refine gP ?_;apply gE;iterate 2 apply gS
 refine gR rfl ?_;refine gP ?_;refine gO rfl rfl (aOp_lenSlice Tryz.underlying25 rfl (by assumption)) rfl ?_;refine gP ?_;apply gE;refine Go.block noJ_ok ?_
 refine Go.loopKeep (fun i : Nat => [(0, s), (1, .func (.func fid) [] caps), (7, .int .i64 L.length), (8, .int .i64 (i : Nat))])
  (fun m i h' => m + i = L.length ∧ Ext h h' ∧ ∀ x, x ∈ L.take i → p x = false) (n := L.length) 0 ⟨rfl, rfl, rfl, rfl, trivial⟩ ⟨rfl, e0, (by intro x hx; simp at hx)⟩ ?_
 clear e0;rintro m i h4 ⟨hm, e0, hp⟩ again
 by_cases hi' : i < L.length
 ·obtain ⟨x, hx⟩ : ∃ x, L[i]? = some x := ⟨L[i], by simp [hi']⟩
  have hmem := List.mem_of_getElem? hx
  obtain ⟨bq, off, q1, q2⟩ := hs.at (i := i) (l := EV.cells x) (by rw [List.getElem?_map, hx]; rfl)
  rw [List.length_map] at q1
  have hcx := hc x h4 hmem e0
  cases hpx : p x with
  | true =>
   rw [hpx] at hcx
   have hany := idx_some hx hpx hp
   rw [hany];apply gS;refine gR rfl ?_;refine gO rfl rfl (kLT rfl rfl) rfl ?_;apply gE;apply gS;refine gC (b := true) rfl ?_;refine gD ?_;apply gS;refine Go.block noJ_ok ?_;apply gS;refine gR rfl ?_;iterate 2 refine gP ?_
   apply gE;apply gS;refine gR rfl ?_;iterate 3 refine gP ?_
   refine gO rfl rfl (aOp_indexAddr (i := i) Tryz.underlying25 sz53 rfl (by assumption) rfl (Nat.ble_eq_true_of_le (by omega))) rfl ?_;refine gO rfl rfl (aOp_loadE ag53 sz53 rfl (q2.ext e0)) rfl ?_;refine GoR.call rfl rfl (aOp_callVal rfl hfid rfl) (hcx) ?_ np;rintro v5 h5 ⟨q, x5⟩;cases q;refine ⟨_, rfl, ?_⟩;replace e0 := e0.trans x5;apply gE;refine gC (b := true) rfl ?_;apply gS;refine gR rfl ?_;iterate 2 refine gP ?_
   apply gE;exact gW Tryz.func136 rfl rfl ⟨rfl, e0⟩
  | false =>
   rw [hpx] at hcx;apply gS;refine gR rfl ?_;refine gO rfl rfl (kLT rfl rfl) rfl ?_;apply gE;apply gS;refine gC (b := true) rfl ?_;refine gD ?_;apply gS;refine Go.block noJ_ok ?_;apply gS;refine gR rfl ?_;iterate 2 refine gP ?_
   apply gE;apply gS;refine gR rfl ?_;iterate 3 refine gP ?_
   refine gO rfl rfl (aOp_indexAddr (i := i) Tryz.underlying25 sz53 rfl (by assumption) rfl (Nat.ble_eq_true_of_le (by omega))) rfl ?_;refine gO rfl rfl (aOp_loadE ag53 sz53 rfl (q2.ext e0)) rfl ?_;refine GoR.call rfl rfl (aOp_callVal rfl hfid rfl) (hcx) ?_ np;rintro v5 h5 ⟨q, x5⟩;cases q;refine ⟨_, rfl, ?_⟩;replace e0 := e0.trans x5;apply gE;refine gC (b := false) rfl ?_;refine gD ?_;refine Go.inBlock noJ_ok ?_;refine gR rfl ?_;refine gO rfl rfl (aA rfl rfl) rfl ?_;refine gP ?_;apply gE;exact again (m - 1) (i + 1) _ _ (by omega) ⟨rfl, rfl, rfl, rfl, trivial⟩ ⟨by omega, e0, take_no hx hpx hp⟩
 ·rw [List.take_of_length_le (by omega)] at hp;rw [List.findIdx?_eq_none_iff.2 hp];apply gS;refine gR rfl ?_;refine gO rfl rfl (kLF rfl rfl) rfl ?_;apply gE;apply gS;refine gC (b := false) rfl ?_;refine gD ?_;apply gS;refine gR rfl ?_;refine gP ?_;apply gE;exact gW Tryz.func136 rfl rfl ⟨rfl, e0⟩
theorem cont117_ok {fid : FuncId} {caps : List AVal} {fn : Func} (hfid : aFunc Tryz.prog fid = some fn) {s : AVal} {L : List EV} (p : EV → Bool) {h : AH} (hs : SliceOf h 4 s (L.map EV.cells)) (hn : L.length ≤ 200)
  (hc : ∀ x h', x ∈ L → Ext h h' → Runs Tryz.prog fid ([.agg (EV.cells x)] ++ caps) h' (fun en h'' => en = .ret (.bool (p x)) ∧ Ext h' h'')) :
  Runs Tryz.prog 117 [s, .func (.func fid) [] caps] h (fun en h' => en = .ret (.bool (L.any p)) ∧ Ext h h') := by
 have e0 : Ext h h := Ext.refl _
 refine Runs.intro aFunc117 rfl rfl rfl rfl fun rest => ?_;apply gS;refine gR rfl ?_;refine gP ?_;apply gE;apply gS;refine gR rfl ?_;iterate 2 refine gP ?_
 refine GoR.call rfl rfl (aCF aFunc136 rfl) (idx136_at hfid p hs hn hc) ?_ np;rintro v0 h0 ⟨q, x0⟩;cases q;refine ⟨_, rfl, ?_⟩;replace e0 := e0.trans x0;refine gO rfl rfl (aOp_geq rfl rfl (idx_any L p)) rfl ?_;refine gP ?_;apply gE;exact gW Tryz.func117 rfl rfl ⟨rfl, e0⟩
structure ClampAt (h : AH) (C : ClampV) (p e : AVal) : Prop where
 ps : SliceOf h 6 p (C.ps.map PV.cells)
 es : SliceOf h 4 e (C.es.map EV.cells)
theorem ClampAt.ext {h h' : AH} {C : ClampV} {p e : AVal} (k : ClampAt h C p e) (x : Ext h h') : ClampAt h' C p e := ⟨k.ps.ext x, k.es.ext x⟩
theorem ClampAt.same {h : AH} {C : ClampV} {p e : AVal} (A : ClampAt h C p e) : sameA (.agg (C.cells p e)) (.agg (C.cells p e)) = true := by
 unfold ClampV.cells
 simp [sameA, sameAs, eqI_eq, A.ps.same, A.es.same]
structure ClampB (C : ClampV) : Prop where
 p : C.ps.length ≤ 40
 e : C.es.length ≤ 40
theorem ClampV.Ok.B {C : ClampV} (O : C.Ok) : ClampB C := ⟨by have := O.np; omega, by have := O.ne; omega⟩
theorem any_not {α : Type} (L : List α) (p : α → Bool) : (!(L.any fun x => !p x)) = L.all p := by
 induction L with
 | nil => rfl
 | cons x L ih => rw [List.any_cons, List.all_cons, ← ih]; cases p x <;> rfl
theorem any_true {α : Type} {L : List α} {p : α → Bool} (h : L.all p = false) : (L.any fun x => !p x) = true := by rw [← any_not] at h; simpa using h
theorem any_false {α : Type} {L : List α} {p : α → Bool} (h : L.all p = true) : (L.any fun x => !p x) = false := by rw [← any_not] at h; simpa using h
theorem badFeet_ok {a b : Int} {h : AH} : Runs Tryz.prog 135 [.agg [.int .i64 a, .int .i64 b]] h (fun en h' => en = .ret (.bool (!decide (FeetOk a b))) ∧ Ext h h') := by
 unfold FeetOk
 have e0 : Ext h h := Ext.refl _
 refine Runs.intro aFunc135 rfl rfl rfl rfl fun rest => ?_;apply gS;refine gR rfl ?_;refine GoR.box rfl rfl rfl rfl rfl rfl fun h0 x0 f0 => ?_;replace e0 := e0.trans x0;refine gP ?_;apply gE;apply gS;refine gR rfl ?_;refine gO rfl rfl (ld24 rfl f0 rfl) rfl ?_;refine GoR.call rfl rfl (aCF aFunc116 rfl) (narrow_ok (by omega) (by omega)) ?_ np;rintro v1 h1 ⟨q, x1⟩;cases q;refine ⟨_, rfl, ?_⟩;replace e0 := e0.trans x1;iterate 2 refine gP ?_
 apply gE;exact gW Tryz.func135 rfl rfl ⟨rfl, e0⟩
theorem badFeet_is {a b : Int} {r : Bool} (hr : (!decide (FeetOk a b)) = r) {h : AH} : Runs Tryz.prog 135 [.agg [.int .i64 a, .int .i64 b]] h (fun en h' => en = .ret (.bool r) ∧ Ext h h') := by
 rw [← hr]
 exact badFeet_ok
theorem badPile_ok {x : PV} {h : AH} : Runs Tryz.prog 115 [.agg x.cells] h (fun en h' => en = .ret (.bool (!decide x.Ok)) ∧ Ext h h') := by
 unfold PV.cells
 by_cases q1 : FeetOk x.ll x.lh
 ·by_cases q2 : FeetOk x.wl x.wh
  ·by_cases q3 : FeetOk x.hl x.hh
   ·rw [decide_eq_true (p := x.Ok) ⟨q1, q2, q3⟩]
    have e0 : Ext h h := Ext.refl _
    refine Runs.intro aFunc115 rfl rfl rfl rfl fun rest => ?_;apply gS;refine gR rfl ?_;refine GoR.box rfl rfl rfl rfl rfl rfl fun h0 x0 f0 => ?_;replace e0 := e0.trans x0;refine gP ?_;apply gE;apply gS;refine gR rfl ?_;refine gP ?_;apply gE;apply gS;refine gR rfl ?_;refine gP ?_;refine gO rfl rfl (fa58_0 rfl) rfl ?_;refine gO rfl rfl (ld24 rfl f0 rfl) rfl ?_;refine GoR.call rfl rfl (aOp_callVal rfl aFunc135 rfl) (badFeet_is (r := false) (by simp [*])) ?_ np;rintro v1 h1 ⟨q, x1⟩;cases q;refine ⟨_, rfl, ?_⟩;replace f0 := f0.ext x1;replace e0 := e0.trans x1;iterate 2 refine gP ?_
    refine gO rfl rfl (fa58_1 rfl) rfl ?_;refine gO rfl rfl (ld24 rfl f0 rfl) rfl ?_;refine GoR.call rfl rfl (aOp_callVal rfl aFunc135 rfl) (badFeet_is (r := false) (by simp [*])) ?_ np;rintro v2 h2 ⟨q, x2⟩;cases q;refine ⟨_, rfl, ?_⟩;replace f0 := f0.ext x2;replace e0 := e0.trans x2;iterate 3 refine gP ?_
    refine gO rfl rfl (fa58_2 rfl) rfl ?_;refine gO rfl rfl (ld24 rfl f0 rfl) rfl ?_;refine GoR.call rfl rfl (aOp_callVal rfl aFunc135 rfl) (badFeet_is (r := false) (by simp [*])) ?_ np;rintro v3 h3 ⟨q, x3⟩;cases q;refine ⟨_, rfl, ?_⟩;replace e0 := e0.trans x3;iterate 2 refine gP ?_
    apply gE;exact gW Tryz.func115 rfl rfl ⟨rfl, e0⟩
   ·rw [decide_eq_false (p := x.Ok) (fun w => q3 w.2.2)]
    have e0 : Ext h h := Ext.refl _
    refine Runs.intro aFunc115 rfl rfl rfl rfl fun rest => ?_;apply gS;refine gR rfl ?_;refine GoR.box rfl rfl rfl rfl rfl rfl fun h0 x0 f0 => ?_;replace e0 := e0.trans x0;refine gP ?_;apply gE;apply gS;refine gR rfl ?_;refine gP ?_;apply gE;apply gS;refine gR rfl ?_;refine gP ?_;refine gO rfl rfl (fa58_0 rfl) rfl ?_;refine gO rfl rfl (ld24 rfl f0 rfl) rfl ?_;refine GoR.call rfl rfl (aOp_callVal rfl aFunc135 rfl) (badFeet_is (r := false) (by simp [*])) ?_ np;rintro v1 h1 ⟨q, x1⟩;cases q;refine ⟨_, rfl, ?_⟩;replace f0 := f0.ext x1;replace e0 := e0.trans x1;iterate 2 refine gP ?_
    refine gO rfl rfl (fa58_1 rfl) rfl ?_;refine gO rfl rfl (ld24 rfl f0 rfl) rfl ?_;refine GoR.call rfl rfl (aOp_callVal rfl aFunc135 rfl) (badFeet_is (r := false) (by simp [*])) ?_ np;rintro v2 h2 ⟨q, x2⟩;cases q;refine ⟨_, rfl, ?_⟩;replace f0 := f0.ext x2;replace e0 := e0.trans x2;iterate 3 refine gP ?_
    refine gO rfl rfl (fa58_2 rfl) rfl ?_;refine gO rfl rfl (ld24 rfl f0 rfl) rfl ?_;refine GoR.call rfl rfl (aOp_callVal rfl aFunc135 rfl) (badFeet_is (r := true) (by simp [*])) ?_ np;rintro v3 h3 ⟨q, x3⟩;cases q;refine ⟨_, rfl, ?_⟩;replace e0 := e0.trans x3;iterate 2 refine gP ?_
    apply gE;exact gW Tryz.func115 rfl rfl ⟨rfl, e0⟩
  ·rw [decide_eq_false (p := x.Ok) (fun w => q2 w.2.1)]
   have e0 : Ext h h := Ext.refl _
   refine Runs.intro aFunc115 rfl rfl rfl rfl fun rest => ?_;apply gS;refine gR rfl ?_;refine GoR.box rfl rfl rfl rfl rfl rfl fun h0 x0 f0 => ?_;replace e0 := e0.trans x0;refine gP ?_;apply gE;apply gS;refine gR rfl ?_;refine gP ?_;apply gE;apply gS;refine gR rfl ?_;refine gP ?_;refine gO rfl rfl (fa58_0 rfl) rfl ?_;refine gO rfl rfl (ld24 rfl f0 rfl) rfl ?_;refine GoR.call rfl rfl (aOp_callVal rfl aFunc135 rfl) (badFeet_is (r := false) (by simp [*])) ?_ np;rintro v1 h1 ⟨q, x1⟩;cases q;refine ⟨_, rfl, ?_⟩;replace f0 := f0.ext x1;replace e0 := e0.trans x1;iterate 2 refine gP ?_
   refine gO rfl rfl (fa58_1 rfl) rfl ?_;refine gO rfl rfl (ld24 rfl f0 rfl) rfl ?_;refine GoR.call rfl rfl (aOp_callVal rfl aFunc135 rfl) (badFeet_is (r := true) (by simp [*])) ?_ np;rintro v2 h2 ⟨q, x2⟩;cases q;refine ⟨_, rfl, ?_⟩;replace e0 := e0.trans x2;iterate 2 refine gP ?_
   iterate 4 refine GoR.skip rfl rfl rfl ?_
   iterate 2 refine gP ?_
   apply gE;exact gW Tryz.func115 rfl rfl ⟨rfl, e0⟩
 ·rw [decide_eq_false (p := x.Ok) (fun w => q1 w.1)]
  have e0 : Ext h h := Ext.refl _
  refine Runs.intro aFunc115 rfl rfl rfl rfl fun rest => ?_;apply gS;refine gR rfl ?_;refine GoR.box rfl rfl rfl rfl rfl rfl fun h0 x0 f0 => ?_;replace e0 := e0.trans x0;refine gP ?_;apply gE;apply gS;refine gR rfl ?_;refine gP ?_;apply gE;apply gS;refine gR rfl ?_;refine gP ?_;refine gO rfl rfl (fa58_0 rfl) rfl ?_;refine gO rfl rfl (ld24 rfl f0 rfl) rfl ?_;refine GoR.call rfl rfl (aOp_callVal rfl aFunc135 rfl) (badFeet_is (r := true) (by simp [*])) ?_ np;rintro v1 h1 ⟨q, x1⟩;cases q;refine ⟨_, rfl, ?_⟩;replace e0 := e0.trans x1;refine gP ?_;iterate 4 refine GoR.skip rfl rfl rfl ?_
  iterate 2 refine gP ?_
  iterate 4 refine GoR.skip rfl rfl rfl ?_
  iterate 2 refine gP ?_
  apply gE;exact gW Tryz.func115 rfl rfl ⟨rfl, e0⟩
theorem isEvent_ok {x : EV} {n : Nat} (hn : n ≤ 1000) {h : AH} : Runs Tryz.prog 113 [.agg x.cells, .int .i64 n] h (fun en h' => en = .ret (.bool (decide (x.Ok n))) ∧ Ext h h') := by
 unfold EV.cells
 by_cases q1 : 0 ≤ x.cl ∧ x.cl ≤ (n : Int) - 1
 ·by_cases k0 : x.kind = 0
  ·have : decide (x.Ok n) = decide ((x.lo ≤ x.hi ∧ 0 ≤ x.lo ∧ x.hi ≤ 5000) ∧ x.hi - x.lo ≤ 3) := by
    rw [decide_eq_decide]
    unfold EV.Ok
    omega
   rw [this]
   have e0 : Ext h h := Ext.refl _
   refine Runs.intro aFunc113 rfl rfl rfl rfl fun rest => ?_;apply gS;refine gR rfl ?_;refine GoR.box rfl rfl rfl rfl rfl rfl fun h0 x0 f0 => ?_;replace e0 := e0.trans x0;refine gP ?_;apply gE;iterate 2 apply gS
   refine gR rfl ?_;refine gO rfl rfl (fa53_1 rfl) rfl ?_;refine gO rfl rfl (ld3 rfl f0 rfl) rfl ?_;refine gP ?_;refine gO rfl rfl (aS rfl rfl) rfl ?_;refine GoR.call rfl rfl (aCF aFunc88 rfl) (inside_is (r := true) (dt (by omega))) ?_ np;rintro v1 h1 ⟨q, x1⟩;cases q;refine ⟨_, rfl, ?_⟩;replace f0 := f0.ext x1;replace e0 := e0.trans x1;refine gP ?_;apply gE;refine gC (b := false) rfl ?_;refine gD ?_;iterate 2 apply gS
   refine gR rfl ?_;refine gO rfl rfl (fa53_0 rfl) rfl ?_;refine gO rfl rfl (ld3 rfl f0 rfl) rfl ?_;apply gE;refine Go.block noJ_ok ?_;apply gS;refine gR rfl ?_;refine gO rfl rfl (kET rfl rfl) rfl ?_;refine gP ?_;apply gE;refine gC (b := true) rfl ?_;apply gS;refine gR rfl ?_;refine gO rfl rfl (fa53_2 rfl) rfl ?_;refine gO rfl rfl (ld24 rfl f0 rfl) rfl ?_;refine GoR.call rfl rfl (aCF aFunc116 rfl) (narrow_ok (by omega) (by omega)) ?_ np;rintro v2 h2 ⟨q, x2⟩;cases q;refine ⟨_, rfl, ?_⟩;replace e0 := e0.trans x2;refine gP ?_;apply gE;exact gW Tryz.func113 rfl rfl ⟨rfl, e0⟩
  ·by_cases k1 : x.kind = 1
   ·have : decide (x.Ok n) = decide (x.lo ≤ x.hi ∧ 0 ≤ x.lo ∧ x.hi ≤ 5000) := by
     rw [decide_eq_decide]
     unfold EV.Ok
     omega
    rw [this]
    have e0 : Ext h h := Ext.refl _
    refine Runs.intro aFunc113 rfl rfl rfl rfl fun rest => ?_;apply gS;refine gR rfl ?_;refine GoR.box rfl rfl rfl rfl rfl rfl fun h0 x0 f0 => ?_;replace e0 := e0.trans x0;refine gP ?_;apply gE;iterate 2 apply gS
    refine gR rfl ?_;refine gO rfl rfl (fa53_1 rfl) rfl ?_;refine gO rfl rfl (ld3 rfl f0 rfl) rfl ?_;refine gP ?_;refine gO rfl rfl (aS rfl rfl) rfl ?_;refine GoR.call rfl rfl (aCF aFunc88 rfl) (inside_is (r := true) (dt (by omega))) ?_ np;rintro v1 h1 ⟨q, x1⟩;cases q;refine ⟨_, rfl, ?_⟩;replace f0 := f0.ext x1;replace e0 := e0.trans x1;refine gP ?_;apply gE;refine gC (b := false) rfl ?_;refine gD ?_;iterate 2 apply gS
    refine gR rfl ?_;refine gO rfl rfl (fa53_0 rfl) rfl ?_;refine gO rfl rfl (ld3 rfl f0 rfl) rfl ?_;apply gE;refine Go.block noJ_ok ?_;apply gS;refine gR rfl ?_;refine gO rfl rfl (kEF rfl rfl) rfl ?_;refine gP ?_;apply gE;refine gC (b := false) rfl ?_;apply gS;refine gR rfl ?_;refine gO rfl rfl (kET rfl rfl) rfl ?_;refine gP ?_;apply gE;refine gC (b := true) rfl ?_;apply gS;refine gR rfl ?_;refine gO rfl rfl (fa53_2 rfl) rfl ?_;refine gO rfl rfl (ld24 rfl f0 rfl) rfl ?_;refine GoR.call rfl rfl (aCF aFunc133 rfl) (within_ok) ?_ np;rintro v2 h2 ⟨q, x2⟩;cases q;refine ⟨_, rfl, ?_⟩;replace e0 := e0.trans x2;refine gP ?_;apply gE;exact gW Tryz.func113 rfl rfl ⟨rfl, e0⟩
   ·rw [decide_eq_false (p := x.Ok n) (fun w => by unfold EV.Ok at w; omega)]
    have e0 : Ext h h := Ext.refl _
    refine Runs.intro aFunc113 rfl rfl rfl rfl fun rest => ?_;apply gS;refine gR rfl ?_;refine GoR.box rfl rfl rfl rfl rfl rfl fun h0 x0 f0 => ?_;replace e0 := e0.trans x0;refine gP ?_;apply gE;iterate 2 apply gS
    refine gR rfl ?_;refine gO rfl rfl (fa53_1 rfl) rfl ?_;refine gO rfl rfl (ld3 rfl f0 rfl) rfl ?_;refine gP ?_;refine gO rfl rfl (aS rfl rfl) rfl ?_;refine GoR.call rfl rfl (aCF aFunc88 rfl) (inside_is (r := true) (dt (by omega))) ?_ np;rintro v1 h1 ⟨q, x1⟩;cases q;refine ⟨_, rfl, ?_⟩;replace f0 := f0.ext x1;replace e0 := e0.trans x1;refine gP ?_;apply gE;refine gC (b := false) rfl ?_;refine gD ?_;iterate 2 apply gS
    refine gR rfl ?_;refine gO rfl rfl (fa53_0 rfl) rfl ?_;refine gO rfl rfl (ld3 rfl f0 rfl) rfl ?_;apply gE;refine Go.block noJ_ok ?_;apply gS;refine gR rfl ?_;refine gO rfl rfl (kEF rfl rfl) rfl ?_;refine gP ?_;apply gE;refine gC (b := false) rfl ?_;apply gS;refine gR rfl ?_;refine gO rfl rfl (kEF rfl rfl) rfl ?_;refine gP ?_;apply gE;refine gC (b := false) rfl ?_;refine gD ?_;refine Go.inBlock noJ_ok ?_;apply gS;refine gR rfl ?_;refine gP ?_;apply gE;exact gW Tryz.func113 rfl rfl ⟨rfl, e0⟩
 ·rw [decide_eq_false (p := x.Ok n) (fun w => q1 w.1)]
  have e0 : Ext h h := Ext.refl _
  refine Runs.intro aFunc113 rfl rfl rfl rfl fun rest => ?_;apply gS;refine gR rfl ?_;refine GoR.box rfl rfl rfl rfl rfl rfl fun h0 x0 f0 => ?_;replace e0 := e0.trans x0;refine gP ?_;apply gE;iterate 2 apply gS
  refine gR rfl ?_;refine gO rfl rfl (fa53_1 rfl) rfl ?_;refine gO rfl rfl (ld3 rfl f0 rfl) rfl ?_;refine gP ?_;refine gO rfl rfl (aS rfl rfl) rfl ?_;refine GoR.call rfl rfl (aCF aFunc88 rfl) (inside_is (r := false) (df (by omega))) ?_ np;rintro v1 h1 ⟨q, x1⟩;cases q;refine ⟨_, rfl, ?_⟩;replace e0 := e0.trans x1;refine gP ?_;apply gE;refine gC (b := true) rfl ?_;apply gS;refine gR rfl ?_;refine gP ?_;apply gE;exact gW Tryz.func113 rfl rfl ⟨rfl, e0⟩
theorem badEvent_ok {C : ClampV} (B : ClampB C) {p e : AVal} {bb : Nat} {el : TypeId} {x : EV} {h : AH} (A : ClampAt h C p e) (f : Has h bb (.cells .plain (C.cells p e) el)) : Runs Tryz.prog 112 [.agg x.cells, .ptr bb 0] h (fun en h' => en = .ret (.bool (!decide (x.Ok C.ps.length))) ∧ Ext h h') := by
 have f0 := f
 clear f
 have hl := A.ps.len
 rw [List.length_map] at hl
 have hb := B.p
 unfold ClampV.cells at f0
 have hv := fun h => isEvent_ok (x := x) (n := C.ps.length) (by omega) (h := h)
 unfold EV.cells at hv ⊢
 have e0 : Ext h h := Ext.refl _
 refine Runs.intro aFunc112 rfl rfl rfl rfl fun rest => ?_;apply gS;refine gR rfl ?_;refine GoR.box rfl rfl rfl rfl rfl rfl fun h1 x1 f1 => ?_;replace f0 := f0.ext x1;replace e0 := e0.trans x1;refine gP ?_;apply gE;apply gS;refine gR rfl ?_;refine gO rfl rfl (ld53 rfl f1 rfl) rfl ?_;refine gO rfl rfl (fa27_0 rfl) rfl ?_;refine gO rfl rfl (ld22 rfl f0 rfl) rfl ?_;refine gO rfl rfl (aOp_lenSlice Tryz.underlying22 rfl hl) rfl ?_;refine GoR.call rfl rfl (aCF aFunc113 rfl) (hv _) ?_ np;rintro v2 h2 ⟨q, x2⟩;cases q;refine ⟨_, rfl, ?_⟩;replace e0 := e0.trans x2;iterate 2 refine gP ?_
 apply gE;exact gW Tryz.func112 rfl rfl ⟨rfl, e0⟩
theorem valid_ok {C : ClampV} (B : ClampB C) {p e : AVal} {h : AH} (A : ClampAt h C p e) : Runs Tryz.prog 86 [.agg (C.cells p e)] h (fun en h' => en = .ret (.bool C.okB) ∧ Ext h h') := by
 have hl1 := A.ps.len
 have hl2 := A.es.len
 rw [List.length_map] at hl1 hl2
 have hb1 := B.p
 have hb2 := B.e
 have hcp : ∀ {h' : AH}, Ext h h' → Runs Tryz.prog 114 [p, .func (.func 115) [] []] h' (fun en h'' => en = .ret (.bool (C.ps.any fun p => !decide p.Ok)) ∧ Ext h' h'') := fun s =>
  cont114_ok (caps := []) aFunc115 _ (A.ps.ext s) (by omega) fun x h' hx e => badPile_ok
 have hce : ∀ {h' : AH} {b : Nat} {el : TypeId}, Ext h h' → Has h' b (.cells .plain (C.cells p e) el) → Runs Tryz.prog 117 [e, .func (.func 112) [] [.ptr b 0]] h' (fun en h'' => en = .ret (.bool (C.es.any fun e => !decide (e.Ok C.ps.length))) ∧ Ext h' h'') := fun {h' b el} s f =>
  cont117_ok (caps := [.ptr b 0]) aFunc112 _ (A.es.ext s) (by omega) fun x h'' hx k9 => badEvent_ok B (A.ext (s.trans k9)) (f.ext k9)
 unfold ClampV.okB
 unfold ClampV.cells at hce ⊢
 by_cases h1 : 1 ≤ C.ps.length ∧ C.ps.length ≤ 4
 ·rw [decide_eq_true h1]
  cases h2 : C.ps.all (fun p => decide p.Ok) with
  | false =>
   rw [any_true h2] at hcp
   have e0 : Ext h h := Ext.refl _
   refine Runs.intro aFunc86 rfl rfl rfl rfl fun rest => ?_;apply gS;refine gR rfl ?_;refine GoR.box rfl rfl rfl rfl rfl rfl fun h3 x3 f3 => ?_;replace e0 := e0.trans x3;refine gP ?_;apply gE;apply gS;refine gR rfl ?_;iterate 2 refine gP ?_
   apply gE;apply gS;refine gR rfl ?_;refine gO rfl rfl (fa27_0 rfl) rfl ?_;refine gO rfl rfl (ld22 rfl f3 rfl) rfl ?_;refine gO rfl rfl (aOp_lenSlice Tryz.underlying22 rfl hl1) rfl ?_;refine GoR.call rfl rfl (aCF aFunc88 rfl) (inside_is (r := true) (dt (by omega))) ?_ np;rintro v4 h4 ⟨q, x4⟩;cases q;refine ⟨_, rfl, ?_⟩;replace f3 := f3.ext x4;replace e0 := e0.trans x4;refine gP ?_;refine gO rfl rfl (fa27_0 rfl) rfl ?_;refine gO rfl rfl (ld22 rfl f3 rfl) rfl ?_;refine GoR.call rfl rfl (aCF aFunc114 rfl) (hcp e0) ?_ np;rintro v5 h5 ⟨q, x5⟩;cases q;refine ⟨_, rfl, ?_⟩;replace f3 := f3.ext x5;replace e0 := e0.trans x5;iterate 3 refine gP ?_
   iterate 3 refine GoR.skip rfl rfl rfl ?_
   iterate 2 refine gP ?_
   iterate 4 refine GoR.skip rfl rfl rfl ?_
   iterate 2 refine gP ?_
   iterate 5 refine GoR.skip rfl rfl rfl ?_
   iterate 2 refine gP ?_
   apply gE;exact gW Tryz.func86 rfl rfl ⟨rfl, e0⟩
  | true =>
   rw [any_false h2] at hcp
   by_cases h3 : (C.pl ≤ C.ph ∧ 1 ≤ C.pl ∧ C.ph ≤ 5) ∧ C.ph - C.pl ≤ 2
   ·rw [decide_eq_true h3]
    by_cases h4 : C.es.length ≤ 6
    ·rw [decide_eq_true h4]
     cases h5 : C.es.all (fun e => decide (e.Ok C.ps.length)) with
     | false =>
      rw [any_true h5] at hce
      have e0 : Ext h h := Ext.refl _
      refine Runs.intro aFunc86 rfl rfl rfl rfl fun rest => ?_;apply gS;refine gR rfl ?_;refine GoR.box rfl rfl rfl rfl rfl rfl fun h6 x6 f6 => ?_;replace e0 := e0.trans x6;refine gP ?_;apply gE;apply gS;refine gR rfl ?_;iterate 2 refine gP ?_
      apply gE;apply gS;refine gR rfl ?_;refine gO rfl rfl (fa27_0 rfl) rfl ?_;refine gO rfl rfl (ld22 rfl f6 rfl) rfl ?_;refine gO rfl rfl (aOp_lenSlice Tryz.underlying22 rfl hl1) rfl ?_;refine GoR.call rfl rfl (aCF aFunc88 rfl) (inside_is (r := true) (dt (by omega))) ?_ np;rintro v7 h7 ⟨q, x7⟩;cases q;refine ⟨_, rfl, ?_⟩;replace f6 := f6.ext x7;replace e0 := e0.trans x7;refine gP ?_;refine gO rfl rfl (fa27_0 rfl) rfl ?_;refine gO rfl rfl (ld22 rfl f6 rfl) rfl ?_;refine GoR.call rfl rfl (aCF aFunc114 rfl) (hcp e0) ?_ np;rintro v8 h8 ⟨q, x8⟩;cases q;refine ⟨_, rfl, ?_⟩;replace f6 := f6.ext x8;replace e0 := e0.trans x8;iterate 3 refine gP ?_
      refine gO rfl rfl (fa27_1 rfl) rfl ?_;refine gO rfl rfl (ld24 rfl f6 rfl) rfl ?_;refine GoR.call rfl rfl (aCF aFunc116 rfl) (narrow_is (r := true) (by omega) (by omega) (decide_eq_true h3)) ?_ np;rintro v9 h9 ⟨q, x9⟩;cases q;refine ⟨_, rfl, ?_⟩;replace f6 := f6.ext x9;replace e0 := e0.trans x9;iterate 2 refine gP ?_
      refine gO rfl rfl (fa27_2 rfl) rfl ?_;refine gO rfl rfl (ld25 rfl f6 rfl) rfl ?_;refine gO rfl rfl (aOp_lenSlice Tryz.underlying25 rfl hl2) rfl ?_;refine gO rfl rfl (kMT rfl rfl) rfl ?_;iterate 2 refine gP ?_
      refine gO rfl rfl (fa27_2 rfl) rfl ?_;refine gO rfl rfl (ld25 rfl f6 rfl) rfl ?_;refine gP ?_;refine GoR.call rfl rfl (aCF aFunc117 rfl) (hce e0 (by assumption)) ?_ np;rintro v10 h10 ⟨q, x10⟩;cases q;refine ⟨_, rfl, ?_⟩;replace f6 := f6.ext x10;replace e0 := e0.trans x10;iterate 3 refine gP ?_
      apply gE;exact gW Tryz.func86 rfl rfl ⟨rfl, e0⟩
     | true =>
      rw [any_false h5] at hce
      have e0 : Ext h h := Ext.refl _
      refine Runs.intro aFunc86 rfl rfl rfl rfl fun rest => ?_;apply gS;refine gR rfl ?_;refine GoR.box rfl rfl rfl rfl rfl rfl fun h6 x6 f6 => ?_;replace e0 := e0.trans x6;refine gP ?_;apply gE;apply gS;refine gR rfl ?_;iterate 2 refine gP ?_
      apply gE;apply gS;refine gR rfl ?_;refine gO rfl rfl (fa27_0 rfl) rfl ?_;refine gO rfl rfl (ld22 rfl f6 rfl) rfl ?_;refine gO rfl rfl (aOp_lenSlice Tryz.underlying22 rfl hl1) rfl ?_;refine GoR.call rfl rfl (aCF aFunc88 rfl) (inside_is (r := true) (dt (by omega))) ?_ np;rintro v7 h7 ⟨q, x7⟩;cases q;refine ⟨_, rfl, ?_⟩;replace f6 := f6.ext x7;replace e0 := e0.trans x7;refine gP ?_;refine gO rfl rfl (fa27_0 rfl) rfl ?_;refine gO rfl rfl (ld22 rfl f6 rfl) rfl ?_;refine GoR.call rfl rfl (aCF aFunc114 rfl) (hcp e0) ?_ np;rintro v8 h8 ⟨q, x8⟩;cases q;refine ⟨_, rfl, ?_⟩;replace f6 := f6.ext x8;replace e0 := e0.trans x8;iterate 3 refine gP ?_
      refine gO rfl rfl (fa27_1 rfl) rfl ?_;refine gO rfl rfl (ld24 rfl f6 rfl) rfl ?_;refine GoR.call rfl rfl (aCF aFunc116 rfl) (narrow_is (r := true) (by omega) (by omega) (decide_eq_true h3)) ?_ np;rintro v9 h9 ⟨q, x9⟩;cases q;refine ⟨_, rfl, ?_⟩;replace f6 := f6.ext x9;replace e0 := e0.trans x9;iterate 2 refine gP ?_
      refine gO rfl rfl (fa27_2 rfl) rfl ?_;refine gO rfl rfl (ld25 rfl f6 rfl) rfl ?_;refine gO rfl rfl (aOp_lenSlice Tryz.underlying25 rfl hl2) rfl ?_;refine gO rfl rfl (kMT rfl rfl) rfl ?_;iterate 2 refine gP ?_
      refine gO rfl rfl (fa27_2 rfl) rfl ?_;refine gO rfl rfl (ld25 rfl f6 rfl) rfl ?_;refine gP ?_;refine GoR.call rfl rfl (aCF aFunc117 rfl) (hce e0 (by assumption)) ?_ np;rintro v10 h10 ⟨q, x10⟩;cases q;refine ⟨_, rfl, ?_⟩;replace e0 := e0.trans x10;iterate 3 refine gP ?_
      apply gE;exact gW Tryz.func86 rfl rfl ⟨rfl, e0⟩
    ·rw [decide_eq_false h4]
     have e0 : Ext h h := Ext.refl _
     refine Runs.intro aFunc86 rfl rfl rfl rfl fun rest => ?_;apply gS;refine gR rfl ?_;refine GoR.box rfl rfl rfl rfl rfl rfl fun h5 x5 f5 => ?_;replace e0 := e0.trans x5;refine gP ?_;apply gE;apply gS;refine gR rfl ?_;iterate 2 refine gP ?_
     apply gE;apply gS;refine gR rfl ?_;refine gO rfl rfl (fa27_0 rfl) rfl ?_;refine gO rfl rfl (ld22 rfl f5 rfl) rfl ?_;refine gO rfl rfl (aOp_lenSlice Tryz.underlying22 rfl hl1) rfl ?_;refine GoR.call rfl rfl (aCF aFunc88 rfl) (inside_is (r := true) (dt (by omega))) ?_ np;rintro v6 h6 ⟨q, x6⟩;cases q;refine ⟨_, rfl, ?_⟩;replace f5 := f5.ext x6;replace e0 := e0.trans x6;refine gP ?_;refine gO rfl rfl (fa27_0 rfl) rfl ?_;refine gO rfl rfl (ld22 rfl f5 rfl) rfl ?_;refine GoR.call rfl rfl (aCF aFunc114 rfl) (hcp e0) ?_ np;rintro v7 h7 ⟨q, x7⟩;cases q;refine ⟨_, rfl, ?_⟩;replace f5 := f5.ext x7;replace e0 := e0.trans x7;iterate 3 refine gP ?_
     refine gO rfl rfl (fa27_1 rfl) rfl ?_;refine gO rfl rfl (ld24 rfl f5 rfl) rfl ?_;refine GoR.call rfl rfl (aCF aFunc116 rfl) (narrow_is (r := true) (by omega) (by omega) (decide_eq_true h3)) ?_ np;rintro v8 h8 ⟨q, x8⟩;cases q;refine ⟨_, rfl, ?_⟩;replace f5 := f5.ext x8;replace e0 := e0.trans x8;iterate 2 refine gP ?_
     refine gO rfl rfl (fa27_2 rfl) rfl ?_;refine gO rfl rfl (ld25 rfl f5 rfl) rfl ?_;refine gO rfl rfl (aOp_lenSlice Tryz.underlying25 rfl hl2) rfl ?_;refine gO rfl rfl (kMF rfl rfl) rfl ?_;iterate 2 refine gP ?_
     iterate 5 refine GoR.skip rfl rfl rfl ?_
     iterate 2 refine gP ?_
     apply gE;exact gW Tryz.func86 rfl rfl ⟨rfl, e0⟩
   ·rw [decide_eq_false h3]
    have e0 : Ext h h := Ext.refl _
    refine Runs.intro aFunc86 rfl rfl rfl rfl fun rest => ?_;apply gS;refine gR rfl ?_;refine GoR.box rfl rfl rfl rfl rfl rfl fun h4 x4 f4 => ?_;replace e0 := e0.trans x4;refine gP ?_;apply gE;apply gS;refine gR rfl ?_;iterate 2 refine gP ?_
    apply gE;apply gS;refine gR rfl ?_;refine gO rfl rfl (fa27_0 rfl) rfl ?_;refine gO rfl rfl (ld22 rfl f4 rfl) rfl ?_;refine gO rfl rfl (aOp_lenSlice Tryz.underlying22 rfl hl1) rfl ?_;refine GoR.call rfl rfl (aCF aFunc88 rfl) (inside_is (r := true) (dt (by omega))) ?_ np;rintro v5 h5 ⟨q, x5⟩;cases q;refine ⟨_, rfl, ?_⟩;replace f4 := f4.ext x5;replace e0 := e0.trans x5;refine gP ?_;refine gO rfl rfl (fa27_0 rfl) rfl ?_;refine gO rfl rfl (ld22 rfl f4 rfl) rfl ?_;refine GoR.call rfl rfl (aCF aFunc114 rfl) (hcp e0) ?_ np;rintro v6 h6 ⟨q, x6⟩;cases q;refine ⟨_, rfl, ?_⟩;replace f4 := f4.ext x6;replace e0 := e0.trans x6;iterate 3 refine gP ?_
    refine gO rfl rfl (fa27_1 rfl) rfl ?_;refine gO rfl rfl (ld24 rfl f4 rfl) rfl ?_;refine GoR.call rfl rfl (aCF aFunc116 rfl) (narrow_is (r := false) (by omega) (by omega) (decide_eq_false h3)) ?_ np;rintro v7 h7 ⟨q, x7⟩;cases q;refine ⟨_, rfl, ?_⟩;replace e0 := e0.trans x7;iterate 2 refine gP ?_
    iterate 4 refine GoR.skip rfl rfl rfl ?_
    iterate 2 refine gP ?_
    iterate 5 refine GoR.skip rfl rfl rfl ?_
    iterate 2 refine gP ?_
    apply gE;exact gW Tryz.func86 rfl rfl ⟨rfl, e0⟩
 ·rw [decide_eq_false h1]
  have e0 : Ext h h := Ext.refl _
  refine Runs.intro aFunc86 rfl rfl rfl rfl fun rest => ?_;apply gS;refine gR rfl ?_;refine GoR.box rfl rfl rfl rfl rfl rfl fun h2 x2 f2 => ?_;replace e0 := e0.trans x2;refine gP ?_;apply gE;apply gS;refine gR rfl ?_;iterate 2 refine gP ?_
  apply gE;apply gS;refine gR rfl ?_;refine gO rfl rfl (fa27_0 rfl) rfl ?_;refine gO rfl rfl (ld22 rfl f2 rfl) rfl ?_;refine gO rfl rfl (aOp_lenSlice Tryz.underlying22 rfl hl1) rfl ?_;refine GoR.call rfl rfl (aCF aFunc88 rfl) (inside_is (r := false) (df (by omega))) ?_ np;rintro v3 h3 ⟨q, x3⟩;cases q;refine ⟨_, rfl, ?_⟩;replace e0 := e0.trans x3;refine gP ?_;iterate 4 refine GoR.skip rfl rfl rfl ?_
  iterate 2 refine gP ?_
  iterate 3 refine GoR.skip rfl rfl rfl ?_
  iterate 2 refine gP ?_
  iterate 4 refine GoR.skip rfl rfl rfl ?_
  iterate 2 refine gP ?_
  iterate 5 refine GoR.skip rfl rfl rfl ?_
  iterate 2 refine gP ?_
  apply gE;exact gW Tryz.func86 rfl rfl ⟨rfl, e0⟩
theorem valid_yes {C : ClampV} (O : C.Ok) {p e : AVal} {h : AH} (A : ClampAt h C p e) : Runs Tryz.prog 86 [.agg (C.cells p e)] h (fun en h' => en = .ret (.bool true) ∧ Ext h h') := by
 have k := valid_ok O.B A
 rw [(okB_iff C).2 O] at k
 exact k
theorem valid_no {C : ClampV} (hno : ¬ C.Ok) (B : ClampB C) {p e : AVal} {h : AH} (A : ClampAt h C p e) : Runs Tryz.prog 86 [.agg (C.cells p e)] h (fun en h' => en = .ret (.bool false) ∧ Ext h h') := by
 have k := valid_ok B A
 have : C.okB = false := by
  cases q : C.okB with
  | false => rfl
  | true => exact absurd ((okB_iff C).1 q) hno
 rw [this] at k;exact k
end Go.Proofs.YtobhkdgcciolmaaGreat

namespace Go.Proofs.YtobhkdgcciolmaaGreat
open Go Go.AbsE
set_option linter.unusedSimpArgs false
set_option maxRecDepth 100000
set_option maxHeartbeats 0
set_option linter.unusedVariables false
def evA (e : EV) : List AVal := [.int .i64 e.lo, .int .i64 e.hi, .int .i64 e.cl]
theorem flatten_at {α : Type} {f : α → List AVal} {sz : Nat} (hf : ∀ p, (f p).length = sz) {l : List α} : ∀ i v, (l.map f)[i]? = some v → slice? (l.flatMap f) (i * sz) sz = some v := fun i v q => flat_slice (f := f) (sz := sz) hf q
theorem grow_slice {α : Type} {f : α → List AVal} {sz : Nat} (hf : ∀ p, (f p).length = sz) {h : AH} {el : TypeId} {lo n : Nat} {s : AVal} {l : List α} (hn : l.length = n) (G : Grow h el sz lo s n (l.flatMap f)) : SliceOf h sz s (l.map f) := by
 subst hn;exact Grow.sliceOf (L := l.map f) (by rw [List.length_map]; exact G) (flatten_at hf)
theorem take_flat {α β : Type} {L : List α} {i : Nat} {x : α} (f : α → List β) (hx : L[i]? = some x) : (L.take (i + 1)).flatMap f = (L.take i).flatMap f ++ f x := by
 rw [List.take_add_one, hx, Option.toList_some, List.flatMap_append]
 simp
def evC (e : EV) : AVal := if e.kind = 0 then .iface 160 (.agg (evA e)) else .iface 152 (.agg (evA e))
theorem read_ok {e : EV} {h : AH} : Runs Tryz.prog 118 [.agg e.cells] h (fun en h' => en = .ret (evC e) ∧ Ext h h') := by
 unfold EV.cells
 by_cases k : e.kind = 0
 ·have hv : evC e = .iface 160 (.agg (evA e)) := if_pos k
  rw [hv]
  unfold evA
  have e0 : Ext h h := Ext.refl _
  refine Runs.intro aFunc118 rfl rfl rfl rfl fun rest => ?_;apply gS;refine gR rfl ?_;refine GoR.box rfl rfl rfl rfl rfl rfl fun h0 x0 f0 => ?_;have := e0.1;replace e0 := e0.trans x0;have := f0.1;refine gP ?_;apply gE;apply gS;refine gR rfl ?_;refine gO rfl rfl (fa53_2 rfl) rfl ?_;refine gO rfl rfl (ld24 rfl f0 rfl) rfl ?_;refine gO rfl rfl (aOp_build zt71 hu71 pl71 rfl rfl) rfl ?_;refine gO rfl rfl (fa53_1 rfl) rfl ?_;refine gO rfl rfl (ld3 rfl f0 rfl) rfl ?_;refine gO rfl rfl (aOp_build zt150 hu150 pl150 rfl rfl) rfl ?_;refine GoR.alloc rfl rfl rfl zt150 rfl rfl fun h1 x1 f1 => ?_;have := e0.1;have := f0.1;replace f0 := f0.ext x1;replace e0 := e0.trans x1;have := f1.1;refine GoR.store rfl rfl rfl rfl rfl rfl f1 rfl sz150 rfl rfl rfl fun h2 u2 => ?_;replace f1 := u2.has f1;replace f0 := f0.upd u2 (by omega);replace e0 := e0.upd u2 (by omega);apply gE;iterate 2 apply gS
  refine gR rfl ?_;refine gO rfl rfl (fa53_0 rfl) rfl ?_;refine gO rfl rfl (ld3 rfl f0 rfl) rfl ?_;refine gO rfl rfl (kET rfl rfl) rfl ?_;apply gE;refine gC (b := true) rfl ?_;apply gS;refine gR rfl ?_;refine gO rfl rfl (ld150 rfl f1 rfl) rfl ?_;refine gO rfl rfl (aOp_build zt160 hu160 pl160 rfl rfl) rfl ?_;iterate 2 refine gP ?_
  apply gE;exact gW Tryz.func118 rfl rfl ⟨rfl, e0⟩
 ·have hv : evC e = .iface 152 (.agg (evA e)) := if_neg k
  rw [hv]
  unfold evA
  have e0 : Ext h h := Ext.refl _
  refine Runs.intro aFunc118 rfl rfl rfl rfl fun rest => ?_;apply gS;refine gR rfl ?_;refine GoR.box rfl rfl rfl rfl rfl rfl fun h0 x0 f0 => ?_;have := e0.1;replace e0 := e0.trans x0;have := f0.1;refine gP ?_;apply gE;apply gS;refine gR rfl ?_;refine gO rfl rfl (fa53_2 rfl) rfl ?_;refine gO rfl rfl (ld24 rfl f0 rfl) rfl ?_;refine gO rfl rfl (aOp_build zt71 hu71 pl71 rfl rfl) rfl ?_;refine gO rfl rfl (fa53_1 rfl) rfl ?_;refine gO rfl rfl (ld3 rfl f0 rfl) rfl ?_;refine gO rfl rfl (aOp_build zt150 hu150 pl150 rfl rfl) rfl ?_;refine GoR.alloc rfl rfl rfl zt150 rfl rfl fun h1 x1 f1 => ?_;have := e0.1;have := f0.1;replace f0 := f0.ext x1;replace e0 := e0.trans x1;have := f1.1;refine GoR.store rfl rfl rfl rfl rfl rfl f1 rfl sz150 rfl rfl rfl fun h2 u2 => ?_;replace f1 := u2.has f1;replace f0 := f0.upd u2 (by omega);replace e0 := e0.upd u2 (by omega);apply gE;iterate 2 apply gS
  refine gR rfl ?_;refine gO rfl rfl (fa53_0 rfl) rfl ?_;refine gO rfl rfl (ld3 rfl f0 rfl) rfl ?_;refine gO rfl rfl (kEF rfl rfl) rfl ?_;apply gE;refine gC (b := false) rfl ?_;refine gD ?_;apply gS;refine gR rfl ?_;refine gO rfl rfl (ld150 rfl f1 rfl) rfl ?_;refine gO rfl rfl (aOp_build zt152 hu152 pl152 rfl rfl) rfl ?_;iterate 2 refine gP ?_
  apply gE;exact gW Tryz.func118 rfl rfl ⟨rfl, e0⟩
theorem evC_scal (e : EV) : scalars [evC e] = true ∧ (evC e).cells = [evC e] ∧ sameA (evC e) (evC e) = true := by
 unfold evC evA
 split
 ·exact ⟨rfl, rfl, by simp [sameA, sameAs, eqI_eq]⟩
 ·exact ⟨rfl, rfl, by simp [sameA, sameAs, eqI_eq]⟩
theorem eventsOf_ok {s : AVal} {L : List EV} {h : AH} (hs : SliceOf h 4 s (L.map EV.cells)) (hn : L.length ≤ 100) :
  Runs Tryz.prog 87 [s] h (fun en h' => ∃ r, en = .ret r ∧ Ext h h' ∧ Grow h' 138 1 h.next r L.length (L.flatMap fun e => [evC e])) := by
 have hlen := hs.len
 rw [List.length_map] at hlen
 have e0 : Ext h h := Ext.refl _
 refine Runs.intro aFunc87 rfl rfl rfl rfl fun rest => ?_;apply gS;refine gR rfl ?_;refine gP ?_;apply gE;apply gS;refine gR rfl ?_;refine gP ?_;apply gE;iterate 2 apply gS
 refine gR rfl ?_;refine gP ?_;refine gO rfl rfl (aOp_lenSlice Tryz.underlying25 rfl (by assumption)) rfl ?_;refine gP ?_;apply gE;refine Go.block noJ_ok ?_
 refine Go.loopKeep (fun a : Nat × AVal => [(3, a.2), (6, s), (7, .int .i64 L.length), (8, .int .i64 (a.1 : Nat))])
  (fun m a h' => m + a.1 = L.length ∧ Ext h h' ∧ Grow h' 138 1 h.next a.2 a.1 ((L.take a.1).flatMap fun e => [evC e])) (n := L.length) (0, .nilslice) ⟨rfl, rfl, rfl, rfl, trivial⟩ ⟨rfl, e0, Grow.nil _ _ _ _⟩ ?_
 clear e0;rintro m ⟨i, r⟩ h4 ⟨hm, e0, G⟩ again
 dsimp only at hm G ⊢
 have e9 : Ext h4 h4 := Ext.refl _
 by_cases hi' : i < L.length
 ·obtain ⟨x, hx⟩ : ∃ x, L[i]? = some x := ⟨L[i], by simp [hi']⟩
  obtain ⟨bq, off, q1, q2⟩ := hs.at (i := i) (l := EV.cells x) (by rw [List.getElem?_map, hx]; rfl)
  rw [List.length_map] at q1
  have hnx := take_flat (fun e => [evC e]) hx
  have hrd := fun h => read_ok (e := x) (h := h)
  unfold EV.cells at q2 hrd
  by_cases k0 : x.kind = 0
  ·have hv : evC x = .iface 160 (.agg [.int .i64 x.lo, .int .i64 x.hi, .int .i64 x.cl]) := if_pos k0
   rw [hv] at hnx hrd;apply gS;refine gR rfl ?_;refine gO rfl rfl (kLT rfl rfl) rfl ?_;apply gE;apply gS;refine gC (b := true) rfl ?_;refine gD ?_;apply gS;refine Go.block noJ_ok ?_;apply gS;refine gR rfl ?_;refine gO rfl rfl (aOp_indexAddr (i := i) Tryz.underlying25 sz53 rfl (by assumption) rfl (Nat.ble_eq_true_of_le (by omega))) rfl ?_;refine gO rfl rfl (aOp_loadE ag53 sz53 rfl (q2.ext (by assumption))) rfl ?_;refine GoR.alloc rfl rfl rfl zt53 rfl rfl fun h5 x5 f5 => ?_;have := e0.1;have := e9.1;replace e0 := e0.trans x5;replace e9 := e9.trans x5;have := f5.1;refine GoR.store rfl rfl rfl rfl rfl rfl f5 rfl sz53 rfl rfl rfl fun h6 u6 => ?_;replace f5 := u6.has f5;replace e0 := e0.upd u6 (by omega);replace e9 := e9.upd u6 (by omega);apply gE;refine gR rfl ?_;refine gP ?_;refine gO rfl rfl (ld53 rfl f5 rfl) rfl ?_;refine GoR.call rfl rfl (aCF aFunc118 rfl) (hrd _) ?_ np;rintro v7 h7 ⟨q, x7⟩;cases q;refine ⟨_, rfl, ?_⟩;replace f5 := f5.ext x7;replace e0 := e0.trans x7;replace e9 := e9.trans x7;refine GoR.buildSl rfl rfl (ps := [(0, .iface 160 (.agg [.int .i64 x.lo, .int .i64 x.hi, .int .i64 x.cl]))]) (cs := [.iface 160 (.agg [.int .i64 x.lo, .int .i64 x.hi, .int .i64 x.cl])]) Tryz.underlying72 rfl sz138 zt138 rfl rfl rfl rfl fun h8 x8 f8 => ?_;have := e0.1;have := e9.1;have := f5.1;replace f5 := f5.ext x8;replace e0 := e0.trans x8;replace e9 := e9.trans x8;have := f8.1;refine GoR.append1F rfl rfl rfl Tryz.underlying72 Tryz.underlying72 sz138 by138 zt138 rfl rfl rfl rfl f8 rfl rfl (G.ext e9) (by omega) rfl rfl fun s9 h9 y9 g9 => ?_;have := f8.1;have := f5.1;have := e0.1;have := e9.1;clear f8;clear f5;replace e0 := y9.low e0 (fun b q => by have := (grow_own (G.ext e9) q).1; omega);clear e9;have := y9.1;refine gP ?_;apply gE;refine Go.inBlock noJ_ok ?_;refine gR rfl ?_;refine gO rfl rfl (aA rfl rfl) rfl ?_;refine gP ?_;apply gE;exact again (m - 1) (i + 1, s9) _ _ (by omega) ⟨rfl, rfl, rfl, rfl, trivial⟩ ⟨by dsimp only; omega, e0, by dsimp only; rw [hnx]; exact g9.low (by have := e0.1; omega)⟩
  ·have hv : evC x = .iface 152 (.agg [.int .i64 x.lo, .int .i64 x.hi, .int .i64 x.cl]) := if_neg k0
   rw [hv] at hnx hrd;apply gS;refine gR rfl ?_;refine gO rfl rfl (kLT rfl rfl) rfl ?_;apply gE;apply gS;refine gC (b := true) rfl ?_;refine gD ?_;apply gS;refine Go.block noJ_ok ?_;apply gS;refine gR rfl ?_;refine gO rfl rfl (aOp_indexAddr (i := i) Tryz.underlying25 sz53 rfl (by assumption) rfl (Nat.ble_eq_true_of_le (by omega))) rfl ?_;refine gO rfl rfl (aOp_loadE ag53 sz53 rfl (q2.ext (by assumption))) rfl ?_;refine GoR.alloc rfl rfl rfl zt53 rfl rfl fun h5 x5 f5 => ?_;have := e0.1;have := e9.1;replace e0 := e0.trans x5;replace e9 := e9.trans x5;have := f5.1;refine GoR.store rfl rfl rfl rfl rfl rfl f5 rfl sz53 rfl rfl rfl fun h6 u6 => ?_;replace f5 := u6.has f5;replace e0 := e0.upd u6 (by omega);replace e9 := e9.upd u6 (by omega);apply gE;refine gR rfl ?_;refine gP ?_;refine gO rfl rfl (ld53 rfl f5 rfl) rfl ?_;refine GoR.call rfl rfl (aCF aFunc118 rfl) (hrd _) ?_ np;rintro v7 h7 ⟨q, x7⟩;cases q;refine ⟨_, rfl, ?_⟩;replace f5 := f5.ext x7;replace e0 := e0.trans x7;replace e9 := e9.trans x7;refine GoR.buildSl rfl rfl (ps := [(0, .iface 152 (.agg [.int .i64 x.lo, .int .i64 x.hi, .int .i64 x.cl]))]) (cs := [.iface 152 (.agg [.int .i64 x.lo, .int .i64 x.hi, .int .i64 x.cl])]) Tryz.underlying72 rfl sz138 zt138 rfl rfl rfl rfl fun h8 x8 f8 => ?_;have := e0.1;have := e9.1;have := f5.1;replace f5 := f5.ext x8;replace e0 := e0.trans x8;replace e9 := e9.trans x8;have := f8.1;refine GoR.append1F rfl rfl rfl Tryz.underlying72 Tryz.underlying72 sz138 by138 zt138 rfl rfl rfl rfl f8 rfl rfl (G.ext e9) (by omega) rfl rfl fun s9 h9 y9 g9 => ?_;have := f8.1;have := f5.1;have := e0.1;have := e9.1;clear f8;clear f5;replace e0 := y9.low e0 (fun b q => by have := (grow_own (G.ext e9) q).1; omega);clear e9;have := y9.1;refine gP ?_;apply gE;refine Go.inBlock noJ_ok ?_;refine gR rfl ?_;refine gO rfl rfl (aA rfl rfl) rfl ?_;refine gP ?_;apply gE;exact again (m - 1) (i + 1, s9) _ _ (by omega) ⟨rfl, rfl, rfl, rfl, trivial⟩ ⟨by dsimp only; omega, e0, by dsimp only; rw [hnx]; exact g9.low (by have := e0.1; omega)⟩
 ·have hin : i = L.length := by omega
  rw [hin, List.take_length] at G;apply gS;refine gR rfl ?_;refine gO rfl rfl (kLF rfl rfl) rfl ?_;apply gE;apply gS;refine gC (b := false) rfl ?_;refine gD ?_;apply gS;refine gR rfl ?_;iterate 2 refine gP ?_
  apply gE;exact gV (ret_end (aResult_of Tryz.func87 rfl rfl) ⟨_, rfl, e0, G⟩)
structure YardAt (h : AH) (C : ClampV) (gp ge : AVal) : Prop where
 psl : SliceOf h 6 gp (C.ps.map PV.cells)
 esl : SliceOf h 1 ge (C.es.map fun e => [evC e])
theorem YardAt.ext {h h' : AH} {C : ClampV} {gp ge : AVal} (k : YardAt h C gp ge) (e : Ext h h') : YardAt h' C gp ge := ⟨k.psl.ext e, k.esl.ext e⟩
theorem YardAt.same {h : AH} {C : ClampV} {p e : AVal} (A : YardAt h C p e) : sameA (.agg (C.cells p e)) (.agg (C.cells p e)) = true := by
 unfold ClampV.cells
 simp [sameA, sameAs, eqI_eq, A.psl.same, A.esl.same]
theorem grow_scal {h : AH} {el : TypeId} {sz lo : Nat} {s : AVal} {n : Nat} {cs : List AVal} (k : Grow h el sz lo s n cs) : scalars [s] = true ∧ s.cells = [s] := by
 rcases k.2 with ⟨rfl, _⟩ | ⟨_, b, _, rfl, _⟩
 ·exact ⟨rfl, rfl⟩
 ·exact ⟨rfl, rfl⟩
theorem cells_agg (l : List AVal) : (AVal.agg l).cells = l := rfl
def refusal (code : Int) : List AEntry := [⟨.iface 106 (.int .i64 code), false⟩]
theorem refuse_ok (b : Bool) (code : Int) (h : AH) : Runs Tryz.prog 85 [.bool b, .int .i64 code] h (fun en h' => h' = h ∧ ((b = false ∧ en = .ret (.tuple [])) ∨ (b = true ∧ en = .pan (refusal code)))) := by
 refine Runs.intro aFunc85 rfl rfl rfl rfl fun rest => ?_;refine Go.seq noJ_ok (gR rfl ?_);refine gP ?_
 cases b with
 | false =>
  refine GoR.end (gC (b := false) rfl (gD (Go.endL (FLeft.ret (v := .tuple []) ?_ ⟨rfl, .inl ⟨rfl, rfl⟩⟩))));exact aResult_of Tryz.func85 rfl rfl
 | true =>
  refine GoR.end (gC (b := true) rfl (gR rfl ?_));refine gP ?_;refine gP ?_;refine GoR.panic rfl rfl rfl (FLeft.pan ⟨rfl, .inr ⟨rfl, rfl⟩⟩)
theorem attempt_pan {rest : List AFr} {t : Tr AVal} {h : AH} {b : Nat} {c0 code : Int} {R : AEnd → AH → Prop} (ht : t.get (pth 4) = some (.ptr b 0)) (hb : Has h b (.cells .plain [.int .i64 c0] 30))
  (hR : ∀ h', h.next ≤ h'.next → (∀ x, x < h.next → x ≠ b → h'.get x = h.get x) → R (.ret (.int .i64 code)) h') :
  FLeft Tryz.prog ⟨45, 21, [.call (.func 84) [.ptr b 0] []], false, none, rest⟩ (.panicking (refusal code)) t h (Post Tryz.prog 45 rest R) := by
 refine FLeft.defer (fun q => by cases q) aFunc84 rfl rfl rfl rfl fun todo => ?_;refine Go.seq noJ_ok (gR rfl ?_);refine GoR.recover1 rfl rfl rfl rfl rfl ?_
 have y0 : ExtF (fun x => x = b) h h := ExtF.of (Ext.refl _)
 apply gE;refine Go.block noJ_ok ?_;apply gS;refine gR rfl ?_;refine gP ?_;apply gE;refine gC (b := false) rfl ?_;apply gS;refine gR rfl ?_;iterate 3 refine gP ?_
 apply gE;refine gC (b := true) rfl ?_;apply gS;refine gR rfl ?_;refine gP ?_;apply gE;refine gR rfl ?_;refine gP ?_;refine GoR.store rfl rfl rfl rfl rfl rfl hb rfl sz30 rfl rfl rfl fun h0 u0 => ?_;replace hb := u0.has hb;replace y0 := y0.upd u0 (.inl rfl);apply gE;refine Go.inBlock noJ_ok ?_;refine Go.endL ?_;refine FLeft.settle (v := .tuple []) (aResult_of Tryz.func84 rfl rfl) ?_;exact FLeft.ret (v := .int .i64 code) (aResult_of Tryz.func45 rfl (aResults_cell ht hb (inCells_one ag30 rfl))) (hR _ y0.1 fun x hx hn => y0.2 x hx hn) todo
theorem attempt_ret {rest : List AFr} {t : Tr AVal} {h : AH} {b : Nat} {code : Int} {R : AEnd → AH → Prop} (ht : t.get (pth 4) = some (.ptr b 0)) (hb : Has h b (.cells .plain [.int .i64 code] 30)) (hR : R (.ret (.int .i64 code)) h) :
  FLeft Tryz.prog ⟨45, 21, [.call (.func 84) [.ptr b 0] []], false, none, rest⟩ .returning t h (Post Tryz.prog 45 rest R) := by
 refine FLeft.defer (fun q => by cases q) aFunc84 rfl rfl rfl rfl fun todo => ?_;refine Go.seq noJ_ok (gR rfl ?_);refine GoR.recover0 rfl rfl rfl rfl rfl ?_;apply gE;refine Go.block noJ_ok ?_;apply gS;refine gR rfl ?_;refine gP ?_;apply gE;refine gC (b := true) rfl ?_;refine gR rfl ?_;refine gP ?_;apply gE;refine Go.inBlock noJ_ok ?_;refine Go.endL ?_;refine FLeft.settle (v := .tuple []) (aResult_of Tryz.func84 rfl rfl) ?_;exact FLeft.ret (v := .int .i64 code) (aResult_of Tryz.func45 rfl (aResults_cell ht hb (inCells_one ag30 rfl))) hR todo
theorem refuse_no (code : Int) (h : AH) : Runs Tryz.prog 85 [.bool false, .int .i64 code] h (fun en h' => en = .ret (.tuple []) ∧ Ext h h') :=
 (refuse_ok false code h).mono fun en h' k => by
  rcases k with ⟨rfl, ⟨_, q⟩ | ⟨q, _⟩⟩
  ·exact ⟨q, Ext.refl _⟩
  ·cases q
theorem refuse_yes (code : Int) (h : AH) : Runs Tryz.prog 85 [.bool true, .int .i64 code] h (fun en h' => en = .pan (refusal code) ∧ Ext h h') :=
 (refuse_ok true code h).mono fun en h' k => by
  rcases k with ⟨rfl, ⟨q, _⟩ | ⟨_, q⟩⟩
  ·cases q
  ·exact ⟨q, Ext.refl _⟩
theorem attempt_ok {C : ClampV} (O : C.Ok) (psl esl : AVal) (h : AH) (A : ClampAt h C psl esl) (W : FuncId) (fW : Func) (hfid : aFunc Tryz.prog W = some fW) (caps : List AVal) (hsm : sameA (.func (.func W) [] caps) (.func (.func W) [] caps) = true) (S : Nat → Prop) (hS : ∀ b, S b → b < h.next) (T : Int → AH → Prop)
  (hbody : ∀ h' gp ge, Ext h h' → YardAt h' C gp ge → Runs Tryz.prog W ([.agg (C.cells gp ge)] ++ caps) h' (fun en h'' => ExtF S h' h'' ∧ ((en = .ret (.tuple []) ∧ T 0 h'') ∨ ∃ code, en = .pan (refusal code) ∧ T code h''))) :
  Runs Tryz.prog 45 [.agg (C.cells psl esl), .func (.func W) [] caps] h (fun en h' => ∃ code h2, en = .ret (.int .i64 code) ∧ T code h2 ∧ ExtF S h h' ∧ h2.next ≤ h'.next ∧ ∀ b, b < h.next → h'.get b = h2.get b) := by
 have hv := fun h A => valid_yes O (p := psl) (e := esl) (h := h) A
 have hne := O.ne
 have s1 := A.es.same
 have s2 := A.ps.same
 unfold ClampV.cells at hv hbody ⊢
 have e0 : Ext h h := Ext.refl _
 refine Runs.intro aFunc45 rfl rfl rfl rfl fun rest => ?_;apply gS;refine gR rfl ?_;refine GoR.box rfl rfl rfl rfl rfl rfl fun h0 x0 f0 => ?_;have := e0.1;replace e0 := e0.trans x0;have := f0.1;refine GoR.alloc rfl rfl rfl zt30 rfl rfl fun h1 x1 f1 => ?_;have := e0.1;have := f0.1;replace f0 := f0.ext x1;replace e0 := e0.trans x1;have := f1.1;apply gE;apply gS;refine gR rfl ?_;refine gP ?_
 have hx0 := x0.1
 have hx1 := x1.1
 refine GoR.defer rfl rfl rfl rfl ?_;apply gE;apply gS;refine gR rfl ?_;refine gO rfl rfl (ld27 rfl f0 rfl) rfl ?_;refine GoR.call rfl rfl (aCF aFunc86 rfl) (hv _ (A.ext e0)) ?_ np;rintro v2 h2 ⟨q, x2⟩;cases q;refine ⟨_, rfl, ?_⟩;replace f1 := f1.ext x2;replace f0 := f0.ext x2;replace e0 := e0.trans x2;refine gP ?_;refine GoR.call rfl rfl (aCF aFunc85 rfl) (refuse_no 1 _) ?_ np;rintro v3 h3 ⟨q, x3⟩;cases q;refine ⟨_, rfl, ?_⟩;replace f1 := f1.ext x3;replace f0 := f0.ext x3;replace e0 := e0.trans x3;apply gE;apply gS;refine Go.drawnE plan45_0 ?_;refine gQ rfl rfl rfl rfl ?_;refine gQ rfl rfl (fa27_0 rfl) rfl ?_;refine gQ rfl rfl (ld22 rfl f0 rfl) rfl ?_;refine gQ rfl rfl (fa27_1 rfl) rfl ?_;refine gQ rfl rfl (ld24 rfl f0 rfl) rfl ?_;refine gQ rfl rfl (aOp_build zt71 hu71 pl71 rfl rfl) rfl ?_;refine gQ rfl rfl (fa27_2 rfl) rfl ?_;refine gQ rfl rfl (ld25 rfl f0 rfl) rfl ?_;refine GoE.call rfl rfl (aCF aFunc87 rfl) (eventsOf_ok (A.es.ext e0) (by omega)) (dD 192 7 (dD 192 6 (dK 192 5 (dK 192 4 (dK 192 3 (dK 192 2 (dK 192 1 (dK 192 0 rfl)))))))) ?_ (by rintro _ _ ⟨ge, q, _, g5⟩; cases q);rintro v4 h4 ⟨ge, q, x4, g5⟩;cases q;have := e0.1;have := f1.1;have := f0.1;replace f1 := f1.ext x4;replace f0 := f0.ext x4;replace e0 := e0.trans x4;refine ⟨(rck (h2 := h4) rfl (aOp_build zt71 hu71 pl71 rfl rfl) (rck (h2 := h4) rfl (ld24 rfl f0 rfl) (rck (h2 := h4) rfl (fa27_1 rfl) (rck (h2 := h4) rfl (ld22 rfl f0 rfl) (rck (h2 := h4) rfl (fa27_0 rfl) (rck (h2 := h4) rfl (rfl) recheck_nil)))))), _, rfl, ?_⟩
 have he5 := e0.1
 have l1 := A.ps.scal.2
 have l2 := (grow_scal g5).2
 have K : YardAt h4 C psl v4 := ⟨A.ps.ext e0, grow_slice (f := fun e => [evC e]) (sz := 1) (fun _ => rfl) rfl g5⟩
 refine gQ rfl rfl (aOp_build (ps := [(0, psl), (1, .agg [.int .i64 C.pl, .int .i64 C.ph]), (2, v4)]) (cs := [psl, .int .i64 C.pl, .int .i64 C.ph, v4]) zt74 hu74 pl74 rfl (by simp [aFillA, l1, l2, cells_agg, splice])) rfl ?_
 have nf1 := f1.1
 have hnS : ¬ S h0.next := fun q => by have := hS _ q; omega
 refine GoE.callP rfl rfl (aOp_callVal rfl hfid rfl) (hbody h4 psl v4 e0 K) (dD 1023 9 (dD 1023 5 (dD 1023 4 (dD 1023 3 (dD 1023 2 (dD 1023 1 (dD 1023 0 rfl))))))) ?_ ?_
 ·rintro v h6 ⟨x6, ⟨q, t6⟩ | ⟨code, q, _⟩⟩
  ·cases q;refine ⟨?_, _, rfl, ?_⟩
   ·exact recheck_nil
   have hx6 := x6.1
   replace f1 := f1.extF x6 hnS
   have y9 : ExtF S h h6 := (ExtF.of e0).trans (fun _ q => .inl q) x6
   clear e0 f0;refine GoE.end rfl ?_;apply gS;refine gR rfl ?_;refine GoR.store rfl rfl rfl rfl rfl rfl f1 rfl sz30 rfl rfl rfl fun h7 u7 => ?_;replace f1 := u7.has f1;replace y9 := y9.upd u7 (.inr (by omega));apply gE;exact Go.retL (attempt_ret rfl f1 ⟨0, h6, rfl, t6, y9, by rw [u7.1]; exact Nat.le_refl _, fun b hb => u7.2.2 b (by omega)⟩)
  ·cases q
 ·rintro chain h6 ⟨x6, ⟨q, _⟩ | ⟨code, q, t6⟩⟩
  ·cases q
  have q := AEnd.pan.inj q
  subst q
  have hx6 := x6.1
  refine attempt_pan rfl (f1.extF x6 hnS) fun h' n1 n2 => ⟨code, h6, rfl, t6, ⟨by omega, fun b hb hbS => by rw [n2 b (by omega) (by omega), x6.2 b (by omega) hbS, e0.2 b hb]⟩, n1, fun b hlt => n2 b (by omega) (by omega)⟩
theorem attempt_bad {C : ClampV} (hno : ¬ C.Ok) (B : ClampB C) (psl esl : AVal) (h : AH) (A : ClampAt h C psl esl) (W : FuncId) (caps : List AVal) :
  Runs Tryz.prog 45 [.agg (C.cells psl esl), .func (.func W) [] caps] h (fun en h' => en = .ret (.int .i64 1) ∧ Ext h h') := by
 have hB := B
 have hv := fun h A => valid_no hno B (p := psl) (e := esl) (h := h) A
 unfold ClampV.cells at hv ⊢
 have e0 : Ext h h := Ext.refl _
 refine Runs.intro aFunc45 rfl rfl rfl rfl fun rest => ?_;apply gS;refine gR rfl ?_;refine GoR.box rfl rfl rfl rfl rfl rfl fun h0 x0 f0 => ?_;replace e0 := e0.trans x0;refine GoR.alloc rfl rfl rfl zt30 rfl rfl fun h1 x1 f1 => ?_;replace f0 := f0.ext x1;replace e0 := e0.trans x1;apply gE;apply gS;refine gR rfl ?_;refine gP ?_
 have hx0 := x0.1
 have hx1 := x1.1
 refine GoR.defer rfl rfl rfl rfl ?_;apply gE;apply gS;refine gR rfl ?_;refine gO rfl rfl (ld27 rfl f0 rfl) rfl ?_;refine GoR.call rfl rfl (aCF aFunc86 rfl) (hv _ (A.ext e0)) ?_ np;rintro v2 h2 ⟨q, x2⟩;cases q;refine ⟨_, rfl, ?_⟩;replace f1 := f1.ext x2;replace e0 := e0.trans x2;refine gP ?_;refine GoR.callP rfl rfl (aCF aFunc85 rfl) (refuse_ok true 1 _) (by rintro _ _ ⟨_, ⟨q, _⟩ | ⟨_, q⟩⟩ <;> cases q) ?_;rintro chain h9 ⟨rfl, ⟨q, _⟩ | ⟨_, q⟩⟩
 ·cases q
 have q := AEnd.pan.inj q
 subst q
 have hx9 := e0.1
 refine attempt_pan rfl f1 fun h' n1 n2 => ⟨rfl, ?_, fun b hb => by rw [n2 b (by omega) (by omega), e0.2 b hb]⟩
 omega
theorem needSods_ok {n : Int} {h : AH} : Runs Tryz.prog 64 [.int .i64 n] h (fun en h' => en = (if 0 ≤ n ∧ n ≤ 20000 then .ret (.tuple []) else .pan (refusal 2)) ∧ Ext h h') := by
 by_cases hq : 0 ≤ n ∧ n ≤ 20000
 ·rw [if_pos hq]
  have e0 : Ext h h := Ext.refl _
  refine Runs.intro aFunc64 rfl rfl rfl rfl fun rest => ?_;refine gR rfl ?_;refine gP ?_;refine GoR.call rfl rfl (aCF aFunc88 rfl) (inside_is (r := true) (decide_eq_true hq)) ?_ np;rintro v0 h0 ⟨q, x0⟩;cases q;refine ⟨_, rfl, ?_⟩;replace e0 := e0.trans x0;refine gP ?_;refine GoR.call rfl rfl (aCF aFunc85 rfl) (refuse_no _ _) ?_ np;rintro v1 h1 ⟨q, x1⟩;cases q;refine ⟨_, rfl, ?_⟩;replace e0 := e0.trans x1;apply gE;exact Go.endL (FLeft.ret (v := .tuple []) (aResult_of Tryz.func64 rfl rfl) ⟨rfl, e0⟩)
 ·rw [if_neg hq]
  have e0 : Ext h h := Ext.refl _
  refine Runs.intro aFunc64 rfl rfl rfl rfl fun rest => ?_;refine gR rfl ?_;refine gP ?_;refine GoR.call rfl rfl (aCF aFunc88 rfl) (inside_is (r := false) (decide_eq_false hq)) ?_ np;rintro v0 h0 ⟨q, x0⟩;cases q;refine ⟨_, rfl, ?_⟩;replace e0 := e0.trans x0;refine gP ?_;refine GoR.callP rfl rfl (aCF aFunc85 rfl) (refuse_yes _ _) (by rintro _ _ ⟨q, _⟩; cases q) ?_;rintro chain h1 ⟨q, x1⟩
  have q := AEnd.pan.inj q
  subst q;replace e0 := e0.trans x1;exact FLeft.pan (⟨rfl, e0⟩)
theorem needClamp_ok {C : ClampV} {gp ge : AVal} {n : Int} {h : AH} (A : YardAt h C gp ge) (hl : C.ps.length ≤ 40) : Runs Tryz.prog 47 [.agg (C.cells gp ge), .int .i64 n] h (fun en h' => en = (if 0 ≤ n ∧ n < (C.ps.length : Int) then .ret (.tuple []) else .pan (refusal 2)) ∧ Ext h h') := by
 have hl1 := A.psl.len
 rw [List.length_map] at hl1
 unfold ClampV.cells
 by_cases hq : 0 ≤ n ∧ n < (C.ps.length : Int)
 ·rw [if_pos hq]
  have e0 : Ext h h := Ext.refl _
  refine Runs.intro aFunc47 rfl rfl rfl rfl fun rest => ?_;apply gS;refine gR rfl ?_;refine GoR.box rfl rfl rfl rfl rfl rfl fun h0 x0 f0 => ?_;replace e0 := e0.trans x0;apply gE;refine gR rfl ?_;refine gP ?_;refine gO rfl rfl (fa74_0 rfl) rfl ?_;refine gO rfl rfl (ld22 rfl f0 rfl) rfl ?_;refine gO rfl rfl (aOp_lenSlice Tryz.underlying22 rfl hl1) rfl ?_;refine gO rfl rfl (aS rfl rfl) rfl ?_;refine GoR.call rfl rfl (aCF aFunc88 rfl) (inside_is (r := true) (dt (by omega))) ?_ np;rintro v1 h1 ⟨q, x1⟩;cases q;refine ⟨_, rfl, ?_⟩;replace e0 := e0.trans x1;refine gP ?_;refine GoR.call rfl rfl (aCF aFunc85 rfl) (refuse_no _ _) ?_ np;rintro v2 h2 ⟨q, x2⟩;cases q;refine ⟨_, rfl, ?_⟩;replace e0 := e0.trans x2;apply gE;exact Go.endL (FLeft.ret (v := .tuple []) (aResult_of Tryz.func47 rfl rfl) ⟨rfl, e0⟩)
 ·rw [if_neg hq]
  have e0 : Ext h h := Ext.refl _
  refine Runs.intro aFunc47 rfl rfl rfl rfl fun rest => ?_;apply gS;refine gR rfl ?_;refine GoR.box rfl rfl rfl rfl rfl rfl fun h0 x0 f0 => ?_;replace e0 := e0.trans x0;apply gE;refine gR rfl ?_;refine gP ?_;refine gO rfl rfl (fa74_0 rfl) rfl ?_;refine gO rfl rfl (ld22 rfl f0 rfl) rfl ?_;refine gO rfl rfl (aOp_lenSlice Tryz.underlying22 rfl hl1) rfl ?_;refine gO rfl rfl (aS rfl rfl) rfl ?_;refine GoR.call rfl rfl (aCF aFunc88 rfl) (inside_is (r := false) (df (by omega))) ?_ np;rintro v1 h1 ⟨q, x1⟩;cases q;refine ⟨_, rfl, ?_⟩;replace e0 := e0.trans x1;refine gP ?_;refine GoR.callP rfl rfl (aCF aFunc85 rfl) (refuse_yes _ _) (by rintro _ _ ⟨q, _⟩; cases q) ?_;rintro chain h2 ⟨q, x2⟩
  have q := AEnd.pan.inj q
  subst q;replace e0 := e0.trans x2;exact FLeft.pan (⟨rfl, e0⟩)
end Go.Proofs.YtobhkdgcciolmaaGreat

namespace Go.Proofs.YtobhkdgcciolmaaGreat
open Go Go.AbsE
set_option linter.unusedSimpArgs false
set_option linter.unusedVariables false
def EV.Fine (e : EV) : Prop := 0 ≤ e.lo ∧ e.lo ≤ e.hi
theorem EV.Ok.fine {n : Nat} {e : EV} (h : e.Ok n) : e.Fine := ⟨h.2.1.2.1, h.2.1.1⟩
def EV.step (e : EV) (x y : Int) : Prop := if e.kind = 0 then x - e.hi ≤ y ∧ y ≤ x - e.lo ∧ 0 ≤ y else y = x ∧ e.lo ≤ x ∧ x ≤ e.hi
def Path (i : Nat) : List EV → Int → Int → Prop
 | [], x, y => x = y
 | e :: es, x, y => if e.cl = (i : Int) then ∃ z, e.step x z ∧ Path i es z y else Path i es x y
theorem hasB_iff {s : Int × Int} {n : Int} : hasB s n = true ↔ s.1 ≤ n ∧ n ≤ s.2 := by unfold hasB; rw [decide_eq_true_eq]
def Sp (s : Int × Int) : Prop := s.1 > s.2 ∨ 0 ≤ s.1
theorem back_iff {e : EV} (f : e.Fine) {S : Int × Int} (hS : Sp S) : Sp (e.back S) ∧ ∀ x, hasB (e.back S) x = true ↔ ∃ y, hasB S y = true ∧ e.step x y := by
 obtain ⟨f1, f2⟩ := f
 simp only [hasB_iff]
 unfold EV.back EV.step
 by_cases k : e.kind = 0
 ·simp only [if_pos k]
  by_cases q : S.1 > S.2
  ·rw [if_pos q];refine ⟨.inl q, fun x => ⟨fun h => by omega, ?_⟩⟩;rintro ⟨y, h1, h2⟩
   omega
  ·rw [if_neg q]
   have h0 : 0 ≤ S.1 := hS.elim (fun z => absurd z q) id
   unfold plusV
   refine ⟨.inr (by dsimp only; omega), fun x => ⟨fun h => ⟨max S.1 (x - e.hi), ?_⟩, ?_⟩⟩
   ·dsimp only at h; omega
   ·rintro ⟨y, h1, h2⟩
    dsimp only
    omega
 ·simp only [if_neg k]
  unfold meetV
  refine ⟨.inr (by dsimp only; omega), fun x => ⟨fun h => ⟨x, ?_⟩, ?_⟩⟩
  ·dsimp only at h; omega
  ·rintro ⟨y, h1, h2⟩
   dsimp only
   omega
theorem backE_iff {i : Nat} : ∀ {es : List EV}, (∀ e, e ∈ es → e.Fine) → ∀ {S : Int × Int}, Sp S → Sp (backE i es S) ∧ ∀ x, hasB (backE i es S) x = true ↔ ∃ y, hasB S y = true ∧ Path i es x y
 | [], _, S, hS => ⟨hS, fun x => ⟨fun h => ⟨x, h, rfl⟩, fun ⟨y, h1, h2⟩ => by cases h2; exact h1⟩⟩
 | e :: es, hf, S, hS => by
  obtain ⟨h1, h2⟩ := backE_iff (i := i) (fun e he => hf e (List.mem_cons_of_mem _ he)) hS (es := es)
  have hb : backE i (e :: es) S = (if e.cl = (i : Int) then e.back (backE i es S) else backE i es S) := rfl
  rw [hb]
  unfold Path
  by_cases q : e.cl = (i : Int)
  ·simp only [if_pos q]
   obtain ⟨g1, g2⟩ := back_iff (hf e List.mem_cons_self) h1
   refine ⟨g1, fun x => ?_⟩;rw [g2]
   constructor
   ·rintro ⟨z, hz, st⟩
    obtain ⟨y, hy, p⟩ := (h2 z).1 hz
    exact ⟨y, hy, z, st, p⟩
   ·rintro ⟨y, hy, z, st, p⟩;exact ⟨z, (h2 z).2 ⟨y, hy, p⟩, st⟩
  ·simp only [if_neg q]
   exact ⟨h1, h2⟩
theorem fwd_iff {e : EV} (f : e.Fine) {s : Int × Int} (h0 : s.1 ≤ s.2) (h1 : 0 ≤ s.1) (hex : ∃ x y, hasB s x = true ∧ e.step x y) : (e.fwd s).1 ≤ (e.fwd s).2 ∧ 0 ≤ (e.fwd s).1 ∧ ∀ y, hasB (e.fwd s) y = true ↔ ∃ x, hasB s x = true ∧ e.step x y := by
 obtain ⟨f1, f2⟩ := f
 obtain ⟨a, b, ha, hb⟩ := hex
 simp only [hasB_iff] at *
 unfold EV.fwd
 unfold EV.step at *
 by_cases k : e.kind = 0
 ·simp only [if_pos k] at *
  unfold minusV
  refine ⟨by dsimp only; omega, by dsimp only; omega, fun y => ⟨fun h => ⟨max s.1 (y + e.lo), ?_⟩, ?_⟩⟩
  ·dsimp only at h; omega
  ·rintro ⟨x, h1, h2⟩
   dsimp only
   omega
 ·simp only [if_neg k] at *
  unfold meetV
  refine ⟨by dsimp only; omega, by dsimp only; omega, fun y => ⟨fun h => ⟨y, ?_⟩, ?_⟩⟩
  ·dsimp only at h; omega
  ·rintro ⟨x, h1, h2⟩
   dsimp only
   omega
theorem fwdE_iff {i : Nat} : ∀ {es : List EV}, (∀ e, e ∈ es → e.Fine) → ∀ {s : Int × Int}, s.1 ≤ s.2 → 0 ≤ s.1 → (∃ x y, hasB s x = true ∧ Path i es x y) →
  (fwdE i es s).1 ≤ (fwdE i es s).2 ∧ 0 ≤ (fwdE i es s).1 ∧ ∀ y, hasB (fwdE i es s) y = true ↔ ∃ x, hasB s x = true ∧ Path i es x y
 | [], _, s, h0, h1, _ => ⟨h0, h1, fun y => ⟨fun h => ⟨y, h, rfl⟩, fun ⟨x, q1, q2⟩ => by cases q2; exact q1⟩⟩
 | e :: es, hf, s, h0, h1, ⟨a, b, ha, hp⟩ => by
  have hfs := fun e he => hf e (List.mem_cons_of_mem _ he)
  have hb : fwdE i (e :: es) s = fwdE i es (if e.cl = (i : Int) then e.fwd s else s) := rfl
  rw [hb]
  unfold Path at hp ⊢
  by_cases q : e.cl = (i : Int)
  ·simp only [if_pos q] at *
   obtain ⟨z, st, p⟩ := hp
   obtain ⟨g1, g2, g3⟩ := fwd_iff (hf e List.mem_cons_self) h0 h1 ⟨a, z, ha, st⟩
   obtain ⟨k1, k2, k3⟩ := fwdE_iff hfs g1 g2 ⟨z, b, (g3 z).2 ⟨a, ha, st⟩, p⟩
   refine ⟨k1, k2, fun y => ?_⟩;rw [k3]
   constructor
   ·rintro ⟨w, hw, pw⟩
    obtain ⟨x, hx, sx⟩ := (g3 w).1 hw
    exact ⟨x, hx, w, sx, pw⟩
   ·rintro ⟨x, hx, w, sx, pw⟩;exact ⟨w, (g3 w).2 ⟨x, hx, sx⟩, pw⟩
  ·simp only [if_neg q] at *
   exact fwdE_iff hfs h0 h1 ⟨a, b, ha, hp⟩
theorem path_le {i : Nat} : ∀ {es : List EV}, (∀ e, e ∈ es → e.Fine) → ∀ {x y : Int}, 0 ≤ x → Path i es x y → 0 ≤ y ∧ y ≤ x
 | [], _, x, y, h, p => by cases p; omega
 | e :: es, hf, x, y, h, p => by
  have hfs := fun e he => hf e (List.mem_cons_of_mem _ he)
  obtain ⟨f1, f2⟩ := hf e List.mem_cons_self
  unfold Path at p
  split at p
  ·obtain ⟨z, st, p⟩ := p
   unfold EV.step at st
   split at st
   ·have := path_le hfs (by omega) p; omega
   ·have := path_le hfs (by omega) p; omega
  ·exact path_le hfs h p
theorem path_app {i : Nat} : ∀ {es fs : List EV} {x y : Int}, Path i (es ++ fs) x y ↔ ∃ z, Path i es x z ∧ Path i fs z y
 | [], fs, x, y => ⟨fun h => ⟨x, rfl, h⟩, fun ⟨z, h1, h2⟩ => by cases h1; exact h2⟩
 | e :: es, fs, x, y => by
  show Path i (e :: (es ++ fs)) x y ↔ _
  simp only [Path]
  by_cases q : e.cl = (i : Int)
  ·simp only [if_pos q]
   constructor
   ·rintro ⟨w, st, p⟩
    obtain ⟨z, p1, p2⟩ := path_app.1 p
    exact ⟨z, ⟨w, st, p1⟩, p2⟩
   ·rintro ⟨z, ⟨w, st, p1⟩, p2⟩;exact ⟨w, st, path_app.2 ⟨z, p1, p2⟩⟩
  ·simp only [if_neg q]
   exact path_app
theorem ClampV.Ok.fine {C : ClampV} (O : C.Ok) : ∀ e, e ∈ C.es → e.Fine := fun e he => (O.e e he).fine
theorem mem_sizes {p : PV} {f : Int} : f ∈ p.sizes ↔ ∃ l w h, (p.ll ≤ l ∧ l ≤ p.lh) ∧ (p.wl ≤ w ∧ w ≤ p.wh) ∧ (p.hl ≤ h ∧ h ≤ p.hh) ∧ f = l * w * h := by
 unfold PV.sizes
 simp only [List.mem_flatMap, List.mem_map, mem_upto]
 constructor
 ·rintro ⟨l, hl, w, hw, h, hh, rfl⟩; exact ⟨l, w, h, hl, hw, hh, rfl⟩
 ·rintro ⟨l, w, h, hl, hw, hh, rfl⟩; exact ⟨l, hl, w, hw, h, hh, rfl⟩
theorem mul_in {a b A B : Int} (h1 : 1 ≤ a ∧ a ≤ A) (h2 : 1 ≤ b ∧ b ≤ B) : 1 ≤ a * b ∧ a * b ≤ A * B :=
 ⟨by have := Int.mul_le_mul h1.1 h2.1 (by omega) (by omega); omega, Int.mul_le_mul h1.2 h2.2 (by omega) (by omega)⟩
theorem sizes_in {p : PV} (O : p.Ok) {f : Int} (h : f ∈ p.sizes) : 1 ≤ f ∧ f ≤ 1000 := by
 obtain ⟨l, w, hh, h1, h2, h3, rfl⟩ := mem_sizes.1 h
 obtain ⟨⟨o1, _⟩, ⟨o2, _⟩, ⟨o3, _⟩⟩ := O
 have a := mul_in (a := l) (b := w) (A := 10) (B := 10) (by omega) (by omega)
 have b := mul_in (a := l * w) (b := hh) (A := 10 * 10) (B := 10) a (by omega)
 omega
theorem mem_from {C : ClampV} {k : Int} : ∀ {ps : List PV} {i : Nat} {fs : List Int}, fs ∈ C.from k i ps ↔ fs.length = ps.length ∧ ∀ (j : Nat) p, ps[j]? = some p → fs.getD j 0 ∈ p.sizes ∧ hasB (C.canI (i + j)) (fs.getD j 0 * k) = true
 | [], i, fs => by
  unfold ClampV.from
  rw [List.mem_singleton]
  constructor
  ·rintro rfl; exact ⟨rfl, fun j p h => by simp at h⟩
  ·rintro ⟨h, _⟩; exact List.length_eq_zero_iff.1 h
 | p :: ps, i, fs => by
  unfold ClampV.from
  rw [List.mem_flatMap]
  constructor
  ·rintro ⟨f, hf, h⟩
   split at h
   ·rename_i hb
    obtain ⟨gs, hg, rfl⟩ := List.mem_map.1 h
    obtain ⟨h1, h2⟩ := mem_from.1 hg
    refine ⟨by simp [h1], fun j q hj => ?_⟩
    cases j with
    | zero => cases hj; exact ⟨hf, hb⟩
    | succ j =>
     have := h2 j q hj
     rw [show i + (j + 1) = i + 1 + j by omega];exact this
   ·cases h
  ·rintro ⟨h1, h2⟩
   cases fs with
   | nil => cases h1
   | cons f gs =>
    have h0 := h2 0 p rfl
    have h02 : hasB (C.canI i) (f * k) = true := h0.2
    refine ⟨f, h0.1, ?_⟩;rw [if_pos h02];refine List.mem_map.2 ⟨gs, mem_from.2 ⟨by simpa using h1, fun j q hj => ?_⟩, rfl⟩
    have := h2 (j + 1) q hj
    rw [show i + (j + 1) = i + 1 + j by omega] at this;exact this
theorem mem_builds {C : ClampV} {b : BT} : b ∈ C.builds ↔ (C.pl ≤ b.2 ∧ b.2 ≤ C.ph) ∧ b.1.length = C.ps.length ∧ ∀ (j : Nat) p, C.ps[j]? = some p → b.1.getD j 0 ∈ p.sizes ∧ hasB (C.canI j) (firstV b j) = true := by
 unfold ClampV.builds
 rw [List.mem_flatMap]
 constructor
 ·rintro ⟨k, hk, h⟩
  obtain ⟨fs, hf, rfl⟩ := List.mem_map.1 h
  obtain ⟨h1, h2⟩ := mem_from.1 hf
  refine ⟨mem_upto.1 hk, h1, fun j p hj => ?_⟩
  have := h2 j p hj
  rw [Nat.zero_add] at this;exact this
 ·rintro ⟨h1, h2, h3⟩;refine ⟨b.2, mem_upto.2 h1, List.mem_map.2 ⟨b.1, mem_from.2 ⟨h2, fun j p hj => ?_⟩, rfl⟩⟩;rw [Nat.zero_add];exact h3 j p hj
theorem aft_is {C : ClampV} (O : C.Ok) {b : BT} (hb : b ∈ C.builds) {i : Nat} (hi : i < C.ps.length) : (1 ≤ firstV b i ∧ firstV b i ≤ 5000) ∧ (C.aft b i).1 ≤ (C.aft b i).2 ∧ 0 ≤ (C.aft b i).1 ∧ (C.aft b i).2 ≤ firstV b i ∧ ∀ y, hasB (C.aft b i) y = true ↔ Path i C.es (firstV b i) y := by
 obtain ⟨h1, h2, h3⟩ := mem_builds.1 hb
 obtain ⟨h4, h5⟩ := h3 i _ (List.getElem?_eq_getElem hi)
 have h6 := sizes_in (O.p _ (List.getElem_mem hi)) h4
 have hk := O.k
 have h7 : 1 ≤ firstV b i ∧ firstV b i ≤ 5000 := by
  have := mul_in (a := b.1.getD i 0) (b := b.2) (A := 1000) (B := 5) h6 (by omega)
  unfold firstV
  omega
 obtain ⟨y, hy, p⟩ := ((backE_iff O.fine (i := i) (S := (0, 5000)) (.inr (by decide))).2 _).1 h5
 have hm : C.aft b i = fwdE i C.es (firstV b i, firstV b i) := by unfold ClampV.aft; rw [if_pos hi]
 obtain ⟨g1, g2, g3⟩ := fwdE_iff O.fine (i := i) (s := (firstV b i, firstV b i)) (Int.le_refl _) (by dsimp only; omega) ⟨_, y, hasB_iff.2 ⟨Int.le_refl _, Int.le_refl _⟩, p⟩
 rw [← hm] at g1 g2 g3
 have g4 : ∀ y, hasB (C.aft b i) y = true ↔ Path i C.es (firstV b i) y := fun y => by
  rw [g3]
  constructor
  ·rintro ⟨x, hx, px⟩
   have hx' := hasB_iff.1 hx
   dsimp only at hx'
   have : x = firstV b i := by omega
   rw [← this]; exact px
  ·intro p; exact ⟨_, hasB_iff.2 ⟨Int.le_refl _, Int.le_refl _⟩, p⟩
 refine ⟨h7, g1, g2, ?_, g4⟩
 have := path_le O.fine (by omega) ((g4 _).1 (hasB_iff.2 ⟨g1, Int.le_refl _⟩))
 exact this.2
end Go.Proofs.YtobhkdgcciolmaaGreat
